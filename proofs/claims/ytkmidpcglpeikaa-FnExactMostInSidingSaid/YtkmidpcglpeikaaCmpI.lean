/- The library's comparison of integers, by its contract. -/
import Derived.Test.YtkmidpcglpeikaaProg
import Derived.Test.YtkmidpcglpeikaaMath
import Derived.Test.YtkmidpcglpeikaaTwoMath
import Derived.WalkKit
import Derived.WalkSpells
import Derived.WalkLawsBesides
import Derived.Lib.Hide
import Derived.Deep.LoopGhost
namespace Go.Proofs.Ytkmidpcglpeikaa
open Go.RowKit
set_option linter.unusedVariables false
set_option linter.unusedSimpArgs false
def cmpI (x y : Int) : Int := if x < y then -1 else if y < x then 1 else 0
def orI (a b : Int) : Int := if a = 0 then b else a
set_option maxHeartbeats 1000000 in
theorem compare_any (x y : Int) (w : World) :
    Calls Try.prog 51 #[.int .i64 x, .int .i64 y] w fun e w' => e = .returned (.int .i64 (cmpI x y)) ∧ w = w' := by
  go_enter Try.func51, Try.ntmps51
  go_wp2
  all_goals (go_ret; refine ⟨rI ?_, rfl⟩)
  all_goals (unfold cmpI; (repeat' split) <;> omega)
set_option maxHeartbeats 1000000 in
theorem or_any (x y : Int) (B cap : Nat) (w : World) (h0 : w.cell? ⟨B, 0, none⟩ = some (.int .i64 x)) (h1 : w.cell? ⟨B, 1, none⟩ = some (.int .i64 y)) :
    Calls Try.prog 76 #[.slice (some ⟨B, 0, none⟩) 2 cap] w fun e w' => e = .returned (.int .i64 (orI x y)) ∧ w = w' := by
  go_enter Try.func76, Try.ntmps76
  go_wp2_with fail
  go_loopg [8] 2 (fun g v8 wr => ∃ j : Nat, v8 = .int .i64 (j : Int) ∧ j + g = 2 ∧ Hid ((1 ≤ j → x = 0) ∧ (2 ≤ j → y = 0)) ∧ w = wr)
  case atStart => exact ⟨0, rfl, by omega, ⟨fun h => by omega, fun h => by omega⟩, rfl⟩
  case round =>
    obtain ⟨j, rfl, hg, HJ, rfl⟩ := hrel
    match j, hg with
    | 0, hg =>
      by_cases hx : x = 0
      · have HR : Hid ((1 ≤ 1 → x = 0) ∧ (2 ≤ 1 → y = 0)) := ⟨fun _ => hx, fun h => by omega⟩
        have x0 : (x == 0) = true := by simp [hx]
        have x1 : (x != 0) = false := by simp [hx]
        clear hx HJ
        go_wp2_with fail
        go_roundg 1
        case rel => exact ⟨1, rfl, by omega, HR, rfl⟩
        case measure => omega
      · have HR := Lib.hid (show orI x y = x by unfold orI; rw [if_neg hx])
        have x0 : (x == 0) = false := by simp [hx]
        have x1 : (x != 0) = true := by simp [hx]
        clear hx HJ
        go_wp2_with fail
        go_ret
        exact ⟨rI HR.out.symm, rfl⟩
    | 1, hg =>
      have hx := HJ.out.1 (by omega)
      by_cases hy : y = 0
      · have HR : Hid ((1 ≤ 2 → x = 0) ∧ (2 ≤ 2 → y = 0)) := ⟨fun _ => hx, fun _ => hy⟩
        have x0 : (y == 0) = true := by simp [hy]
        have x1 : (y != 0) = false := by simp [hy]
        clear hx hy HJ
        go_wp2_with fail
        go_roundg 0
        case rel => exact ⟨2, rfl, by omega, HR, rfl⟩
        case measure => omega
      · have HR := Lib.hid (show orI x y = y by unfold orI; rw [if_pos hx])
        have x0 : (y == 0) = false := by simp [hy]
        have x1 : (y != 0) = true := by simp [hy]
        clear hx hy HJ
        go_wp2_with fail
        go_ret
        exact ⟨rI HR.out.symm, rfl⟩
    | 2, hg =>
      have HR := Lib.hid (show orI x y = 0 by unfold orI; rw [if_pos (HJ.out.1 (by omega)), HJ.out.2 (by omega)])
      clear HJ
      go_wp2_with fail
      go_ret
      exact ⟨rI HR.out.symm, rfl⟩
    | j + 3, hg => omega
theorem or_cmp {a b c d : Int} : (0 < orI (cmpI a b) (cmpI c d)) ↔ (b < a ∨ (a = b ∧ d < c)) := by
  unfold orI cmpI; (repeat' split) <;> omega
theorem cmpI_lt {x y : Int} : cmpI x y < 0 ↔ x < y := by unfold cmpI; (repeat' split) <;> omega
theorem cmpI_eq {x y : Int} : cmpI x y = 0 ↔ x = y := by unfold cmpI; (repeat' split) <;> omega
set_option maxHeartbeats 1000000 in
theorem fcompare_any (a b c d : Int) (a1 : -1000000000 ≤ a) (a2 : a ≤ 1000000000) (b1 : 0 ≤ b) (b2 : b ≤ 1000000) (c1 : -1000000000 ≤ c) (c2 : c ≤ 1000000000) (d1 : 0 ≤ d) (d2 : d ≤ 1000000) (w : World) :
    Calls Try.prog 39 #[.agg #[.int .i64 a, .int .i64 b], .agg #[.int .i64 c, .int .i64 d]] w fun e w' => e = .returned (.int .i64 (cmpI (a * d) (c * b))) ∧ Below w.heap.size w w' := by
  have m1 := mul_ab a d 1000000000 1000000 a1 a2 (by omega) d2
  have m2 := mul_ab c b 1000000000 1000000 c1 c2 (by omega) b2
  go_enter Try.func39, Try.ntmps39
  go_wp2_with (first | (go_at_call 51; refine (compare_any _ _ _).mono ?_; rintro e w1 ⟨rfl, rfl⟩))
  go_ret
  exact ⟨rfl, ((Below.refl _ _).alloc (Nat.le_refl _) _).alloc (by simp) _⟩
end Go.Proofs.Ytkmidpcglpeikaa
