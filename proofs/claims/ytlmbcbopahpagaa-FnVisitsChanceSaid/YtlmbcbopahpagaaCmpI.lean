/- The library's comparison of integers, by its contract. -/
import Derived.Test.YtlmbcbopahpagaaProg
import Derived.Test.YtlmbcbopahpagaaMath
import Derived.Test.YtlmbcbopahpagaaTwoMath
import Derived.WalkKit
import Derived.WalkSpells
import Derived.WalkLawsBesides
import Derived.Lib.Hide
import Derived.Deep.LoopGhost
namespace Go.Proofs.Ytlmbcbopahpagaa
open Go.RowKit
set_option linter.unusedVariables false
set_option linter.unusedSimpArgs false
def cmpI (x y : Int) : Int := if x < y then -1 else if y < x then 1 else 0
def orI (a b : Int) : Int := if a = 0 then b else a
set_option maxHeartbeats 1000000 in
theorem compare_any (x y : Int) (w : World) :
    Calls Try.prog 54 #[.int .i64 x, .int .i64 y] w fun e w' => e = .returned (.int .i64 (cmpI x y)) ∧ w = w' := by
  go_enter Try.func54, Try.ntmps54
  go_wp2
  all_goals (go_ret; refine ⟨rI ?_, rfl⟩)
  all_goals (unfold cmpI; (repeat' split) <;> omega)
theorem or_cmp {a b c d : Int} : (0 < orI (cmpI a b) (cmpI c d)) ↔ (b < a ∨ (a = b ∧ d < c)) := by
  unfold orI cmpI; (repeat' split) <;> omega
theorem cmpI_lt {x y : Int} : cmpI x y < 0 ↔ x < y := by unfold cmpI; (repeat' split) <;> omega
theorem cmpI_eq {x y : Int} : cmpI x y = 0 ↔ x = y := by unfold cmpI; (repeat' split) <;> omega
set_option maxHeartbeats 1000000 in
theorem fcompare_any (a b c d : Int) (a1 : -1000000000 ≤ a) (a2 : a ≤ 1000000000) (b1 : 0 ≤ b) (b2 : b ≤ 1000000) (c1 : -1000000000 ≤ c) (c2 : c ≤ 1000000000) (d1 : 0 ≤ d) (d2 : d ≤ 1000000) (w : World) :
    Calls Try.prog 47 #[.agg #[.int .i64 a, .int .i64 b], .agg #[.int .i64 c, .int .i64 d]] w fun e w' => e = .returned (.int .i64 (cmpI (a * d) (c * b))) ∧ Below w.heap.size w w' := by
  have m1 := mul_ab a d 1000000000 1000000 a1 a2 (by omega) d2
  have m2 := mul_ab c b 1000000000 1000000 c1 c2 (by omega) b2
  go_enter Try.func47, Try.ntmps47
  go_wp2_with (first | (go_at_call 54; refine (compare_any _ _ _).mono ?_; rintro e w1 ⟨rfl, rfl⟩))
  go_ret
  exact ⟨rfl, ((Below.refl _ _).alloc (Nat.le_refl _) _).alloc (by simp) _⟩
end Go.Proofs.Ytlmbcbopahpagaa
