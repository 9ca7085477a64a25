/- Plain mathematics of the named law of trains that pass (chapter 5): lengths and rates come back from times. -/
import Derived.Test.YtokjmhkdcgkcoaaGreatDoorTrnMath
import Derived.Test.YtokjmhkdcgkcoaaGreatDoorHeadMath
namespace Go.Proofs.YtokjmhkdcgkcoaaGreatDoor
open Go.RowKit
set_option linter.unusedVariables false
theorem lw_of_eq {a b c : Int} (hb : 1 ≤ b) (h : a = c * b) : lwN a b = c ∧ lwD a b = 1 := by
  have s := lw_same (a := a) (b := b) (c := c) (d := 1) hb (by omega) (by rw [Int.mul_one]; exact h)
  have g : gc c 1 = 1 := by unfold gc; rw [Int.gcd_one]; rfl
  have e1 : lwN c 1 = c := by unfold lwN; rw [g, Int.tdiv_one]
  have e2 : lwD c 1 = 1 := by unfold lwD; rw [g, Int.tdiv_one]
  rw [e1, e2] at s; exact s
theorem tp_back {l r b : Int} (hl : 1 ≤ l) (hr : 1 ≤ r) (hb : 0 < b) (d1 : lwD l r = 1) (d2 : lwD (l + b) r = 1) :
    1 ≤ lwN l r ∧ lwN l r < lwN (l + b) r ∧ lwN l r ≤ l ∧ lwN (b * lwN l r) (lwN (l + b) r - lwN l r) = l ∧ lwD (b * lwN l r) (lwN (l + b) r - lwN l r) = 1 ∧ lwN b (lwN (l + b) r - lwN l r) = r ∧ lwD b (lwN (l + b) r - lwN l r) = 1 := by
  have c1 := lw_cross (a := l) (b := r) (by omega)
  have c2 := lw_cross (a := l + b) (b := r) (by omega)
  rw [d1, Int.mul_one] at c1
  rw [d2, Int.mul_one] at c2
  generalize lwN l r = p at *
  generalize lwN (l + b) r = n at *
  have hd : (n - p) * r = b := by rw [Int.sub_mul]; omega
  have hp : 1 ≤ p := by
    rcases Int.lt_or_le 0 p with q | q
    · omega
    · have := Int.mul_nonneg (show 0 ≤ -p by omega) (show 0 ≤ r by omega)
      rw [Int.neg_mul] at this; omega
  have hn : 1 ≤ n - p := by
    rcases Int.lt_or_le 0 (n - p) with q | q
    · omega
    · have := Int.mul_nonneg (show 0 ≤ -(n - p) by omega) (show 0 ≤ r by omega)
      rw [Int.neg_mul] at this; omega
  have hpl : p * 1 ≤ p * r := Int.mul_le_mul_of_nonneg_left hr (by omega)
  have a1 := lw_of_eq (a := b * p) (b := n - p) (c := l) hn (by rw [← hd, ← c1]; ac_rfl)
  have a2 := lw_of_eq (a := b) (b := n - p) (c := r) hn (by rw [← hd]; ac_rfl)
  exact ⟨hp, by omega, by omega, a1.1, a1.2, a2.1, a2.2⟩
/-- the rate that one is seen at, as the law reckons it -/
theorem trt_apart (a b : Int) (g : Bool) : trt a b g = if g then a + b else if a - b < 0 then -(a - b) else a - b := by
  unfold trt ab; cases g <;> simp
theorem trt_walk {a b : Int} {g : Bool} (h : (g || decide (b < a)) = true) : trt a b g = if g then a + b else a - b := by
  unfold trt ab
  cases g
  · have h2 : b < a := by simpa using h
    simp only [Bool.false_eq_true, if_false]
    split <;> omega
  · rfl
end Go.Proofs.YtokjmhkdcgkcoaaGreatDoor
