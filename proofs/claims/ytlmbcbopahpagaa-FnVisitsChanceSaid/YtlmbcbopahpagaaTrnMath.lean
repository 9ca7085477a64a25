/- Plain mathematics of chapter 5 (trains): no program is named here. -/
import Derived.Test.YtlmbcbopahpagaaDogMath
import Derived.Test.YtlmbcbopahpagaaTwoMathL
namespace Go.Proofs.Ytlmbcbopahpagaa
open Go.RowKit
set_option linter.unusedVariables false
/-- a train -/
def tnOk (l r : Int) : Bool := inB l 1 1000 && inB r 1 100
theorem tnOk_iff {l r : Int} : tnOk l r = true ↔ 1 ≤ l ∧ l ≤ 1000 ∧ 1 ≤ r ∧ r ≤ 100 := by
  unfold tnOk; rw [Bool.and_eq_true, inB_iff, inB_iff]; omega
def wyOk (n : Int) : Bool := inB n 0 100000
theorem wyOk_iff {n : Int} : wyOk n = true ↔ 0 ≤ n ∧ n ≤ 100000 := inB_iff
def tn2 (l r m q : Int) : Bool := tnOk l r && tnOk m q
theorem tn2_iff {l r m q : Int} : tn2 l r m q = true ↔ (1 ≤ l ∧ l ≤ 1000 ∧ 1 ≤ r ∧ r ≤ 100) ∧ 1 ≤ m ∧ m ≤ 1000 ∧ 1 ≤ q ∧ q ≤ 100 := by
  unfold tn2; rw [Bool.and_eq_true, tnOk_iff, tnOk_iff]
/-- how fast two come nearer -/
def trt (a b : Int) (g : Bool) : Int := if g then a + b else ab (a - b)
/-- a journey -/
def jyOk (j e : Int) : Bool := inB j 1 10000 && inB e 1 10000
theorem jyOk_iff {j e : Int} : jyOk j e = true ↔ 1 ≤ j ∧ j ≤ 10000 ∧ 1 ≤ e ∧ e ≤ 10000 := by
  unfold jyOk; rw [Bool.and_eq_true, inB_iff, inB_iff]; omega
/-- how many trains one meets -/
def cmV (j e : Int) (g : Bool) : Int := if g then 1 + 2 * (j / e) else if j % e = 0 then 1 + 2 * (j / e) - 2 else 1 + 2 * (j / e)
/-- the least headway's numerator and denominator -/
def hwC (l r m q y : Int) : Bool := decide ((y * q - (y - l) * r) * r < l * (r * q))
def hwN (l r m q y : Int) : Int := if hwC l r m q y then l else y * q - (y - l) * r
def hwD (l r m q y : Int) : Int := if hwC l r m q y then r else r * q
theorem trt_bd (a b : Int) (g : Bool) (b1 : 1 ≤ a) (b2 : a ≤ 100) (b3 : 1 ≤ b) (b4 : b ≤ 100) : 0 ≤ trt a b g ∧ trt a b g ≤ 200 := by
  unfold trt ab; split <;> (try split) <;> omega
theorem trt_pos (a b : Int) (g : Bool) (b1 : 1 ≤ a) (b3 : 1 ≤ b) (h : g = true ∨ b < a) : 1 ≤ trt a b g := by
  cases g
  · have hb : b < a := by
      rcases h with h | h
      · cases h
      · exact h
    show 1 ≤ ab (a - b)
    unfold ab; split <;> omega
  · show 1 ≤ a + b
    omega
/-- one overtakes another -/
def ovk (n r q : Int) : Bool := decide (q < r) || decide (n = 0)
def ovT (n r q : Int) : Int := if n = 0 then 0 else lwN n (r - q)
def ovU (n r q : Int) : Int := if n = 0 then 1 else lwD n (r - q)
def ovP (n r q : Int) : Int := if n = 0 then 0 else lwN (n * r) (r - q)
def ovQ (n r q : Int) : Int := if n = 0 then 1 else lwD (n * r) (r - q)
theorem hw_bd {l r m q y : Int} (b1 : 1 ≤ l) (b2 : l ≤ 1000) (b3 : 1 ≤ r) (b4 : r ≤ 100) (d3 : 1 ≤ q) (d4 : q ≤ 100) (w1 : 0 ≤ y) (w2 : y ≤ 100000) (hl : l ≤ y) : 0 ≤ hwN l r m q y ∧ hwN l r m q y ≤ 10000000 ∧ 1 ≤ hwD l r m q y ∧ hwD l r m q y ≤ 10000 := by
  have m1 := mul_bd y q 100000 100 (by omega) (by omega) (by omega) (by omega)
  have m2 := mul_bd (y - l) r 100000 100 (by omega) (by omega) (by omega) (by omega)
  have m3 := mul_bd r q 100 100 (by omega) (by omega) (by omega) (by omega)
  have m4 : 1 * 1 ≤ r * q := Int.mul_le_mul b3 d3 (by omega) (by omega)
  unfold hwN hwD
  cases h : hwC l r m q y
  · have h2 := of_decide_eq_false h
    have m5 : 0 ≤ l * (r * q) := Int.mul_nonneg (by omega) (by omega)
    have h3 : 0 ≤ (y * q - (y - l) * r) * r := by omega
    have h4 : 0 ≤ y * q - (y - l) * r := Int.nonneg_of_mul_nonneg_left h3 (by omega)
    simp only [Bool.false_eq_true, if_false]
    omega
  · simp only [if_true]
    omega
/-- how much nearer one comes, signed -/
def nrB (a b : Int) (g : Bool) : Int := if g then a + b else a - b
theorem nrB_bd (a b : Int) (g : Bool) (b1 : 1 ≤ a) (b2 : a ≤ 100) (b3 : 1 ≤ b) (b4 : b ≤ 100) : -99 ≤ nrB a b g ∧ nrB a b g ≤ 200 := by
  unfold nrB; split <;> omega
theorem nrB_ab (a b : Int) (g : Bool) (b1 : 1 ≤ a) (b3 : 1 ≤ b) : ab (nrB a b g - 0) = trt a b g := by
  rw [Int.sub_zero]
  unfold nrB trt
  cases g
  · rfl
  · show ab (a + b) = a + b
    unfold ab; split <;> omega
/-- is there a time for a way at a rate -/
def tfB (a b : Int) : Bool := decide (0 ≤ a) && decide (1 ≤ b)
theorem tfB_iff {a b : Int} : tfB a b = true ↔ 0 ≤ a ∧ 1 ≤ b := by
  unfold tfB; rw [Bool.and_eq_true, decide_eq_true_eq, decide_eq_true_eq]
theorem tfB_yes {a b : Int} (h : 0 ≤ a) (k : 1 ≤ b) : tfB a b = true := tfB_iff.2 ⟨h, k⟩
theorem tfB_no {a b : Int} (h : tfB a b = false) : a < 0 ∨ b < 1 := by
  by_cases x : 0 ≤ a
  · by_cases y : 1 ≤ b
    · rw [tfB_yes x y] at h; cases h
    · exact .inr (by omega)
  · exact .inl (by omega)
theorem tfB_not {a b : Int} (h : a < 0) : tfB a b = false := by
  unfold tfB; rw [decide_eq_false (by omega)]; rfl
theorem tfB_not2 {a b : Int} (h : b < 1) : tfB a b = false := by
  unfold tfB; rw [decide_eq_false (p := 1 ≤ b) (by omega), Bool.and_false]
/-- the last train of those met is met at the journey's end -/
theorem met_end {j e : Int} (h1 : 1 ≤ j) (h2 : 1 ≤ e) : (lwN (j / e * e + j) 2 = j ∧ lwD (j / e * e + j) 2 = 1) ↔ j % e = 0 := by
  have hm := Int.emod_add_mul_ediv j e
  rw [Int.mul_comm] at hm
  generalize j / e * e = k at *
  have hp := lw_cross (a := k + j) (b := 2) (by omega)
  constructor
  · rintro ⟨p, q⟩
    rw [p, q] at hp
    omega
  · intro h0
    have hk : k = j := by omega
    subst hk
    have g2 : gc (k + k) 2 = 2 := by
      unfold gc
      rw [show k + k = 2 * k from by omega, Int.gcd_comm]
      exact Int.gcd_eq_left (by decide) ⟨k, rfl⟩
    unfold lwN lwD
    rw [g2, show k + k = 2 * k from by omega]
    exact ⟨Int.mul_tdiv_cancel_left _ (by omega), rfl⟩
theorem nrB_trt {a b : Int} {g : Bool} (hp : 1 ≤ trt a b g) (b1 : 1 ≤ a) (b3 : 1 ≤ b) (h : (g || decide (b < a)) = true) : trt a b g = nrB a b g := by
  cases g
  · have h2 : b < a := by simpa using h
    show ab (a - b) = a - b
    unfold ab; split <;> omega
  · rfl
theorem nrB_no {a b : Int} {g : Bool} (h : (g || decide (b < a)) = false) : nrB a b g < 1 := by
  cases g
  · have h2 : ¬ b < a := by simpa using h
    show a - b < 1
    omega
  · simp at h
end Go.Proofs.Ytlmbcbopahpagaa
