/- Plain mathematics of chapter 6 (legs): no program is named here. -/
import Derived.Test.YtikfblbfodacaaaDogMath
import Derived.Test.YtikfblbfodacaaaTwoMathL
import Derived.Test.YtikfblbfodacaaaAreAll0
namespace Go.Proofs.Ytikfblbfodacaaa
open Go.RowKit
set_option linter.unusedVariables false
theorem mulG_pos {x y : Int} (hx : 1 ≤ x) (hy : 1 ≤ y) : 1 ≤ x * y := by
  have := Int.mul_le_mul hx hy (by omega) (by omega); omega
/-- a leg -/
def lgOk (l f : Int) : Bool := inB l 1 1000 && inB f 1 100
theorem lgOk_iff {l f : Int} : lgOk l f = true ↔ 1 ≤ l ∧ l ≤ 1000 ∧ 1 ≤ f ∧ f ≤ 100 := by
  unfold lgOk; rw [Bool.and_eq_true, inB_iff, inB_iff]; omega
/-- legs -/
def lgS (xs : List (Int × Int)) : Bool := inB (xs.length : Int) 1 5 && allP lgOk xs
theorem lgS_at {xs : List (Int × Int)} (h : lgS xs = true) : 1 ≤ xs.length ∧ xs.length ≤ 5 ∧ ∀ i, i < xs.length → lgOk (px xs i) (py xs i) = true := by
  unfold lgS at h
  rw [Bool.and_eq_true, inB_iff] at h
  exact ⟨by omega, by omega, fun i hi => allP_at h.2 hi⟩
/-- a moment -/
def gmOk (n d : Int) : Bool := inB n 0 100000 && inB d 1 1000
theorem gmOk_iff {n d : Int} : gmOk n d = true ↔ 0 ≤ n ∧ n ≤ 100000 ∧ 1 ≤ d ∧ d ≤ 1000 := by
  unfold gmOk; rw [Bool.and_eq_true, inB_iff, inB_iff]; omega
/-- how long the first ones are together -/
def lgL (xs : List (Int × Int)) : Nat → Int
  | 0 => 0
  | j + 1 => lgL xs j + px xs j
/-- the time for the first ones -/
def lgT (xs : List (Int × Int)) : Nat → Int × Int
  | 0 => (0, 1)
  | j + 1 => (lwN ((lgT xs j).1 * py xs j + px xs j * (lgT xs j).2) ((lgT xs j).2 * py xs j), lwD ((lgT xs j).1 * py xs j + px xs j * (lgT xs j).2) ((lgT xs j).2 * py xs j))
theorem lgL_bd {xs : List (Int × Int)} (h : ∀ i, i < xs.length → lgOk (px xs i) (py xs i) = true) : ∀ j, j ≤ xs.length → (j : Int) ≤ lgL xs j ∧ lgL xs j ≤ 1000 * (j : Int)
  | 0, _ => by simp [lgL]
  | j + 1, hj => by
    have ih := lgL_bd h j (by omega)
    have b := lgOk_iff.1 (h j (by omega))
    unfold lgL
    omega
theorem lgT_bd {xs : List (Int × Int)} (h : ∀ i, i < xs.length → lgOk (px xs i) (py xs i) = true) : ∀ j, j ≤ xs.length → 1 ≤ (lgT xs j).2 ∧ (lgT xs j).2 ≤ 100 ^ j ∧ 0 ≤ (lgT xs j).1 ∧ (lgT xs j).1 ≤ 1000 * (j : Int) * (lgT xs j).2 ∧ (1 ≤ j → 1 ≤ (lgT xs j).1)
  | 0, _ => by simp [lgT]
  | j + 1, hj => by
    obtain ⟨d1, d2, n1, n2, _⟩ := lgT_bd h j (by omega)
    have b := lgOk_iff.1 (h j (by omega))
    show 1 ≤ lwD _ _ ∧ lwD _ _ ≤ _ ∧ 0 ≤ lwN _ _ ∧ lwN _ _ ≤ _ * lwD _ _ ∧ (_ → 1 ≤ lwN _ _)
    generalize (lgT xs j).1 = n at *
    generalize (lgT xs j).2 = d at *
    generalize px xs j = l at *
    generalize py xs j = f at *
    have hB : 1 ≤ d * f := mulG_pos d1 b.2.2.1
    have hB2 : d * f ≤ 100 ^ j * 100 := Int.mul_le_mul d2 b.2.2.2 (by omega) (by omega)
    have hnf : 0 ≤ n * f := Int.mul_nonneg n1 (by omega)
    have hld : 1 ≤ l * d := mulG_pos b.1 d1
    have hA2 : n * f + l * d ≤ 1000 * ((j : Int) + 1) * (d * f) := by
      have q1 : n * f ≤ 1000 * (j : Int) * d * f := Int.mul_le_mul_of_nonneg_right n2 (by omega)
      have q2 : l * d ≤ 1000 * d := Int.mul_le_mul_of_nonneg_right b.2.1 (by omega)
      have q3 : d * 1 ≤ d * f := Int.mul_le_mul_of_nonneg_left b.2.2.1 (by omega)
      have e1 : 1000 * ((j : Int) + 1) * (d * f) = 1000 * (j : Int) * d * f + 1000 * (d * f) := by
        rw [Int.mul_add, Int.add_mul, Int.mul_one]; congr 1; ac_rfl
      omega
    have p := lwD_pos (a := n * f + l * d) (b := d * f) (by omega)
    have c := lw_cross (a := n * f + l * d) (b := d * f) (by omega)
    generalize lwN (n * f + l * d) (d * f) = N at *
    generalize lwD (n * f + l * d) (d * f) = D at *
    have cc : N * (d * f) ≤ 1000 * ((j : Int) + 1) * D * (d * f) := by
      rw [c]
      have := Int.mul_le_mul_of_nonneg_right hA2 (show 0 ≤ D by omega)
      have e : 1000 * ((j : Int) + 1) * (d * f) * D = 1000 * ((j : Int) + 1) * D * (d * f) := by ac_rfl
      omega
    have cp : 0 < N * (d * f) := by rw [c]; exact Int.mul_pos (by omega) (by omega)
    have hN : 0 < N := Int.pos_of_mul_pos_left cp (by omega)
    refine ⟨p.1, ?_, by omega, ?_, fun _ => by omega⟩
    · rw [Int.pow_succ]; omega
    · have := Int.le_of_mul_le_mul_right cc (by omega)
      rw [show ((j + 1 : Nat) : Int) = (j : Int) + 1 from by omega]; exact this
/-- in numbers -/
theorem lgT_num {xs : List (Int × Int)} (h : ∀ i, i < xs.length → lgOk (px xs i) (py xs i) = true) (hl : xs.length ≤ 5) {j : Nat} (hj : j ≤ xs.length) : 1 ≤ (lgT xs j).2 ∧ (lgT xs j).2 ≤ 10000000000 ∧ 0 ≤ (lgT xs j).1 ∧ (lgT xs j).1 ≤ 5000 * (lgT xs j).2 ∧ (1 ≤ j → 1 ≤ (lgT xs j).1) := by
  obtain ⟨d1, d2, n1, n2, n3⟩ := lgT_bd h j hj
  have hp : (100 : Int) ^ j ≤ 10000000000 := by
    have hj5 : j ≤ 5 := by omega
    match j, hj5 with
    | 0, _ => decide
    | 1, _ => decide
    | 2, _ => decide
    | 3, _ => decide
    | 4, _ => decide
    | 5, _ => decide
  have q : 1000 * (j : Int) * (lgT xs j).2 ≤ 5000 * (lgT xs j).2 := Int.mul_le_mul_of_nonneg_right (by omega) (by omega)
  exact ⟨d1, by omega, n1, by omega, n3⟩
/-- a ride and a walk -/
def rwK (l a b v : Int) : Bool := inB l 1 1000 && inB v 1 100 && inB a 1 (v - 1) && inB b 1 (v - 1)
def rwO (l a b v : Int) : Int := l * b * (v - a)
def rwU (a b v : Int) : Int := a * (v - b) + b * (v - a)
def rwT (l a b v : Int) : Int := rwO l a b v * a + (l * rwU a b v - rwO l a b v) * v
theorem rw_bd {l a b v : Int} (l1 : 1 ≤ l) (l2 : l ≤ 1000) (v1 : 1 ≤ v) (v2 : v ≤ 100) (a1 : 1 ≤ a) (a2 : a ≤ v - 1) (b1 : 1 ≤ b) (b2 : b ≤ v - 1) : 1 ≤ rwU a b v ∧ rwU a b v ≤ 20000 ∧ 1 ≤ rwU a b v * a * v ∧ 1 ≤ rwO l a b v := by
  have m3 := mul_bd a (v - b) 100 100 (by omega) (by omega) (by omega) (by omega)
  have m4 := mul_bd b (v - a) 100 100 (by omega) (by omega) (by omega) (by omega)
  have p3 := mulG_pos a1 (show 1 ≤ v - b by omega)
  have p4 := mulG_pos b1 (show 1 ≤ v - a by omega)
  have hU : 1 ≤ rwU a b v ∧ rwU a b v ≤ 20000 := by unfold rwU; omega
  exact ⟨hU.1, hU.2, mulG_pos (mulG_pos hU.1 a1) v1, mulG_pos (mulG_pos l1 b1) (by omega)⟩
end Go.Proofs.Ytikfblbfodacaaa
