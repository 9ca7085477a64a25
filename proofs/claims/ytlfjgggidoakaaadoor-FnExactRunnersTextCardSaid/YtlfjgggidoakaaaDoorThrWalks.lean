/- Contracts of chapter 3's functions on numbers and one runner, the program's and the model's, over one translation. -/
import Derived.Test.YtlfjgggidoakaaaDoorProg
import Derived.Test.YtlfjgggidoakaaaDoorThrMath
import Derived.Test.YtlfjgggidoakaaaDoorTwoWalks
import Derived.WalkKit
import Derived.WalkSpells
import Derived.WalkLawsBesides
import Derived.Lib.Hide
import Derived.Deep.RegionWith
import Derived.Deep.RegionHeld3
import Derived.Deep.QuietTactic
import Derived.BigQuiet
namespace Go.Proofs.YtlfjgggidoakaaaDoor
open Go.RowKit
set_option linter.unusedVariables false
set_option linter.unusedSimpArgs false
set_option maxHeartbeats 2000000 in
theorem toRunner_any (p s : Int) (w : World) :
    Calls Tryd.prog 59 #[.agg #[.int .i64 p, .int .i64 s]] w fun e w' => e = .returned (.agg #[.int .i64 p, .int .i64 s]) ∧ Below w.heap.size w w' := by
  go_enter Tryd.func59, Tryd.ntmps59
  go_wp2
  exact bodyPost_ret (v := .agg #[.int .i64 p, .int .i64 s]) (by simp [results, Tryd.results59, go_sem]) rfl ⟨rfl, by (repeat (first | exact Below.refl _ _ | refine Below.drew ?_ | refine below_drewN ?_ _ | refine Below.setCell ?_ (by first | omega | (simp; done) | (simp; omega)) _ | refine Below.alloc ?_ (by first | omega | (simp; done) | (simp; omega)) _ | refine bchain ?_ (by assumption) (by first | omega | (simp; done) | (simp; omega))))⟩
set_option maxHeartbeats 2000000 in
theorem trLap_any (l : Int) (w : World) :
    Calls Tryd.prog 97 #[.int .i64 l] w fun e w' => e = .returned (.bool (lapOk l)) ∧ w = w' := by
  go_enter Tryd.func97, Tryd.ntmps97
  go_wp2_with (first | (go_at_call 68; refine (specIn _ _ _ _).mono ?_; rintro e w1 ⟨rfl, rfl⟩) | go_in)
  all_goals (go_ret; refine ⟨rB ?_, rfl⟩)
  all_goals first | rfl | (repeat (first | exact Below.refl _ _ | refine Below.drew ?_ | refine below_drewN ?_ _ | refine Below.setCell ?_ (by first | omega | (simp; done) | (simp; omega)) _ | refine Below.alloc ?_ (by first | omega | (simp; done) | (simp; omega)) _ | refine bchain ?_ (by assumption) (by first | omega | (simp; done) | (simp; omega))))
set_option maxHeartbeats 2000000 in
theorem trRunner_any (l p s : Int) (w : World) :
    Calls Tryd.prog 85 #[.int .i64 l, .agg #[.int .i64 p, .int .i64 s]] w fun e w' => e = .returned (.bool (rn1 l p s)) ∧ Below w.heap.size w w' := by
  cases h0 : lapOk l
  case true =>
    have hl := lapOk_iff.1 h0
    cases h1 : inB p 0 (l - 1)
    all_goals
      go_enter Tryd.func85, Tryd.ntmps85
      go_wp2_with (first | (go_at_call 97; refine (trLap_any _ _).mono ?_; rintro e w1 ⟨rfl, rfl⟩) | (go_at_call 68; refine (specIn _ _ _ _).mono ?_; rintro e w1 ⟨rfl, rfl⟩) | go_in)
      all_goals (go_ret; refine ⟨rB ?_, ?_⟩)
      all_goals first | (simp [rn1, rnOk, h0, h1]; done) | (repeat (first | exact Below.refl _ _ | refine Below.drew ?_ | refine below_drewN ?_ _ | refine Below.setCell ?_ (by first | omega | (simp; done) | (simp; omega)) _ | refine Below.alloc ?_ (by first | omega | (simp; done) | (simp; omega)) _ | refine bchain ?_ (by assumption) (by first | omega | (simp; done) | (simp; omega))))
  case false =>
    go_enter Tryd.func85, Tryd.ntmps85
    go_wp2_with (first | (go_at_call 97; refine (trLap_any _ _).mono ?_; rintro e w1 ⟨rfl, rfl⟩) | go_in)
    all_goals (go_ret; refine ⟨rB ?_, ?_⟩)
    all_goals first | (simp [rn1, rnOk, h0]; done) | (repeat (first | exact Below.refl _ _ | refine Below.drew ?_ | refine below_drewN ?_ _ | refine Below.setCell ?_ (by first | omega | (simp; done) | (simp; omega)) _ | refine Below.alloc ?_ (by first | omega | (simp; done) | (simp; omega)) _ | refine bchain ?_ (by assumption) (by first | omega | (simp; done) | (simp; omega))))
end Go.Proofs.YtlfjgggidoakaaaDoor
