/- Contracts of chapter 3's functions on numbers and one runner, the program's and the model's, over one translation. -/
import Derived.Test.YtkmidpcglpeikaaProg
import Derived.Test.YtkmidpcglpeikaaThrMath
import Derived.Test.YtkmidpcglpeikaaTwoWalks
import Derived.WalkKit
import Derived.WalkSpells
import Derived.WalkLawsBesides
import Derived.Lib.Hide
import Derived.Deep.RegionWith
import Derived.Deep.RegionHeld3
import Derived.Deep.QuietTactic
import Derived.BigQuiet
namespace Go.Proofs.Ytkmidpcglpeikaa
open Go.RowKit
set_option linter.unusedVariables false
set_option linter.unusedSimpArgs false
set_option maxHeartbeats 2000000 in
theorem toRunner_any (p s : Int) (w : World) :
    Calls Try.prog 46 #[.agg #[.int .i64 p, .int .i64 s]] w fun e w' => e = .returned (.agg #[.int .i64 p, .int .i64 s]) ∧ Below w.heap.size w w' := by
  go_enter Try.func46, Try.ntmps46
  go_wp2
  exact bodyPost_ret (v := .agg #[.int .i64 p, .int .i64 s]) (by simp [results, Try.results46, go_sem]) rfl ⟨rfl, by (repeat (first | exact Below.refl _ _ | refine Below.drew ?_ | refine below_drewN ?_ _ | refine Below.setCell ?_ (by first | omega | (simp; done) | (simp; omega)) _ | refine Below.alloc ?_ (by first | omega | (simp; done) | (simp; omega)) _ | refine bchain ?_ (by assumption) (by first | omega | (simp; done) | (simp; omega))))⟩
set_option maxHeartbeats 2000000 in
theorem trLap_any (l : Int) (w : World) :
    Calls Try.prog 92 #[.int .i64 l] w fun e w' => e = .returned (.bool (lapOk l)) ∧ w = w' := by
  go_enter Try.func92, Try.ntmps92
  go_wp2_with (first | (go_at_call 66; refine (specIn _ _ _ _).mono ?_; rintro e w1 ⟨rfl, rfl⟩) | go_in)
  all_goals (go_ret; refine ⟨rB ?_, rfl⟩)
  all_goals first | rfl | (repeat (first | exact Below.refl _ _ | refine Below.drew ?_ | refine below_drewN ?_ _ | refine Below.setCell ?_ (by first | omega | (simp; done) | (simp; omega)) _ | refine Below.alloc ?_ (by first | omega | (simp; done) | (simp; omega)) _ | refine bchain ?_ (by assumption) (by first | omega | (simp; done) | (simp; omega))))
set_option maxHeartbeats 2000000 in
theorem trTime_any (t : Int) (w : World) :
    Calls Try.prog 43 #[.int .i64 t] w fun e w' => e = .returned (.bool (rtOk t)) ∧ w = w' := by
  go_enter Try.func43, Try.ntmps43
  go_wp2_with (first | (go_at_call 66; refine (specIn _ _ _ _).mono ?_; rintro e w1 ⟨rfl, rfl⟩) | go_in)
  all_goals (go_ret; refine ⟨rB ?_, rfl⟩)
  all_goals first | rfl | (repeat (first | exact Below.refl _ _ | refine Below.drew ?_ | refine below_drewN ?_ _ | refine Below.setCell ?_ (by first | omega | (simp; done) | (simp; omega)) _ | refine Below.alloc ?_ (by first | omega | (simp; done) | (simp; omega)) _ | refine bchain ?_ (by assumption) (by first | omega | (simp; done) | (simp; omega))))
set_option maxHeartbeats 2000000 in
theorem isRunTime_any (t : Int) (w : World) :
    Calls Try.prog 48 #[.int .i64 t] w fun e w' => e = .returned (.bool (rtOk t)) ∧ w = w' := by
  go_enter Try.func48, Try.ntmps48
  go_wp2_with (first | (go_at_call 71; refine (implIn _ _ _ _).mono ?_; rintro e w1 ⟨rfl, rfl⟩) | go_in)
  all_goals (go_ret; refine ⟨rB ?_, rfl⟩)
  all_goals first | rfl | (repeat (first | exact Below.refl _ _ | refine Below.drew ?_ | refine below_drewN ?_ _ | refine Below.setCell ?_ (by first | omega | (simp; done) | (simp; omega)) _ | refine Below.alloc ?_ (by first | omega | (simp; done) | (simp; omega)) _ | refine bchain ?_ (by assumption) (by first | omega | (simp; done) | (simp; omega))))
set_option maxHeartbeats 2000000 in
theorem trRunner_any (l p s : Int) (w : World) :
    Calls Try.prog 77 #[.int .i64 l, .agg #[.int .i64 p, .int .i64 s]] w fun e w' => e = .returned (.bool (rn1 l p s)) ∧ Below w.heap.size w w' := by
  cases h0 : lapOk l
  case true =>
    have hl := lapOk_iff.1 h0
    cases h1 : inB p 0 (l - 1)
    all_goals
      go_enter Try.func77, Try.ntmps77
      go_wp2_with (first | (go_at_call 92; refine (trLap_any _ _).mono ?_; rintro e w1 ⟨rfl, rfl⟩) | (go_at_call 66; refine (specIn _ _ _ _).mono ?_; rintro e w1 ⟨rfl, rfl⟩) | go_in)
      all_goals (go_ret; refine ⟨rB ?_, ?_⟩)
      all_goals first | (simp [rn1, rnOk, h0, h1]; done) | (repeat (first | exact Below.refl _ _ | refine Below.drew ?_ | refine below_drewN ?_ _ | refine Below.setCell ?_ (by first | omega | (simp; done) | (simp; omega)) _ | refine Below.alloc ?_ (by first | omega | (simp; done) | (simp; omega)) _ | refine bchain ?_ (by assumption) (by first | omega | (simp; done) | (simp; omega))))
  case false =>
    go_enter Try.func77, Try.ntmps77
    go_wp2_with (first | (go_at_call 92; refine (trLap_any _ _).mono ?_; rintro e w1 ⟨rfl, rfl⟩) | go_in)
    all_goals (go_ret; refine ⟨rB ?_, ?_⟩)
    all_goals first | (simp [rn1, rnOk, h0]; done) | (repeat (first | exact Below.refl _ _ | refine Below.drew ?_ | refine below_drewN ?_ _ | refine Below.setCell ?_ (by first | omega | (simp; done) | (simp; omega)) _ | refine Below.alloc ?_ (by first | omega | (simp; done) | (simp; omega)) _ | refine bchain ?_ (by assumption) (by first | omega | (simp; done) | (simp; omega))))
set_option maxHeartbeats 2000000 in
theorem trFar_any (p s t : Int) (p1 : 0 ≤ p) (p2 : p ≤ 1000) (s1 : 0 ≤ s) (s2 : s ≤ 100) (t1 : 0 ≤ t) (t2 : t ≤ 1000000) (w : World) :
    Calls Try.prog 44 #[.agg #[.int .i64 p, .int .i64 s], .int .i64 t] w fun e w' => e = .returned (.int .i64 (fr p s t)) ∧ Below w.heap.size w w' := by
  have m1 := mul_bd s t 100 1000000 s1 s2 t1 t2
  have m2 := fr_bd p1 p2 s1 s2 t1 t2
  go_enter Try.func44, Try.ntmps44
  go_wp2
  all_goals (go_ret; refine ⟨rI ?_, ?_⟩)
  all_goals first | (unfold fr; first | rfl | omega) | (repeat (first | exact Below.refl _ _ | refine Below.drew ?_ | refine below_drewN ?_ _ | refine Below.setCell ?_ (by first | omega | (simp; done) | (simp; omega)) _ | refine Below.alloc ?_ (by first | omega | (simp; done) | (simp; omega)) _ | refine bchain ?_ (by assumption) (by first | omega | (simp; done) | (simp; omega))))
set_option maxHeartbeats 2000000 in
theorem farAt_any (p s t : Int) (p1 : 0 ≤ p) (p2 : p ≤ 1000) (s1 : 0 ≤ s) (s2 : s ≤ 100) (t1 : 0 ≤ t) (t2 : t ≤ 1000000) (w : World) :
    Calls Try.prog 52 #[.agg #[.int .i64 p, .int .i64 s], .int .i64 t] w fun e w' => e = .returned (.int .i64 (fr p s t)) ∧ Below w.heap.size w w' := by
  have m1 := mul_bd s t 100 1000000 s1 s2 t1 t2
  have m2 := fr_bd p1 p2 s1 s2 t1 t2
  go_enter Try.func52, Try.ntmps52
  go_wp2
  all_goals (go_ret; refine ⟨rI ?_, ?_⟩)
  all_goals first | (unfold fr; first | rfl | omega) | (repeat (first | exact Below.refl _ _ | refine Below.drew ?_ | refine below_drewN ?_ _ | refine Below.setCell ?_ (by first | omega | (simp; done) | (simp; omega)) _ | refine Below.alloc ?_ (by first | omega | (simp; done) | (simp; omega)) _ | refine bchain ?_ (by assumption) (by first | omega | (simp; done) | (simp; omega))))
end Go.Proofs.Ytkmidpcglpeikaa
