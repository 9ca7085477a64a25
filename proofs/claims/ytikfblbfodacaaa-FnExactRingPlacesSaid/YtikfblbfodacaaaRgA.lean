/- RingPlaces: the program's small parts. -/
import Derived.Test.YtikfblbfodacaaaRgSpec
import Derived.Test.YtikfblbfodacaaaTwoRing
import Derived.WalkKit
import Derived.WalkSpells
import Derived.WalkLawsBesides
import Derived.Lib.Hide
import Derived.Deep.LoopGhost
import Derived.Deep.QuietTactic
import Derived.Deep.RegionWith
import Derived.Deep.RegionLaw
import Derived.Deep.RegionHeld3
import Derived.BigQuiet
import Derived.Shelf.RegionOpenPlain
namespace Go.Proofs.Ytikfblbfodacaaa
open Go.RowKit
set_option linter.unusedVariables false
set_option linter.unusedSimpArgs false
theorem leastRestW_any (n m : Int) (h1 : 1 ≤ m) (h2 : m ≤ 1000000) (h3 : -1000000000000 ≤ n) (h4 : n ≤ 1000000000000) (w : World) :
    Calls Try.prog 54 #[.int .i64 n, .int .i64 m] w fun e w' => e = .returned (.int .i64 (mo n m)) ∧ w' = w := by
  have b := tmod_bd n m h1
  have e := Lib.hid (mo_eq n m h1)
  have x0 : ¬ m = 0 := by omega
  have x1 : (m == 0) = false := by simp; omega
  have x2 : ¬ m = -1 := by omega
  go_enter Try.func54, Try.ntmps54
  go_wp2
  go_ret
  exact ⟨rI (by first | exact e.out | (rw [← e.out]; rfl) | (rw [← e.out, Int.tmod_eq_emod_of_nonneg (by omega)])), rfl⟩
set_option maxHeartbeats 4000000 in
theorem onRing_any (m n d : Int) (m1 : 1 ≤ m) (m2 : m ≤ 1000) (d1 : 1 ≤ d) (d2 : d ≤ 200) (n1 : -1000000000 ≤ n) (n2 : n ≤ 1000000000) (w : World) :
    Calls Try.prog 47 #[.agg #[.int .i64 n, .int .i64 d], .int .i64 m] w fun e w' => e = .returned (.agg #[.int .i64 (mo n (m * d)), .int .i64 d]) ∧ Below w.heap.size w w' := by
  have c := mul_ab m d 1000 200 (by omega) (by omega) (by omega) (by omega)
  have c0 : 0 < m * d := Int.mul_pos (by omega) (by omega)
  have u1 : IntKind.i64.wrap (m * d) = m * d := IntWalk.i64_in _ (by omega)
  have HL := Lib.hid (fun W => leastRestW_any n (m * d) (by omega) (by omega) (by omega) (by omega) W)
  clear c c0
  generalize mo n (m * d) = x at *

  go_enter Try.func47, Try.ntmps47
  go_wp2_with fail
  go_region_law (first | (go_simp; go_at_call 54; refine (HL.out _).mono ?_; rintro e w3 ⟨rfl, rfl⟩))
  all_goals
    go_wp2_with fail
    refine bodyPost_ret (v := .agg #[.int .i64 x, .int .i64 d]) (by simp [results, Try.results47, go_sem]; done) rfl ⟨rfl, ?_⟩
    (repeat (first | exact Below.refl _ _ | refine Below.drew ?_ | refine below_drewN ?_ _ | refine Below.setCell ?_ (by first | omega | (simp; done) | (simp; omega)) _ | refine Below.alloc ?_ (by first | omega | (simp; done) | (simp; omega)) _ | refine bchain ?_ (by assumption) (by first | omega | (simp; done) | (simp; omega))))
end Go.Proofs.Ytikfblbfodacaaa
