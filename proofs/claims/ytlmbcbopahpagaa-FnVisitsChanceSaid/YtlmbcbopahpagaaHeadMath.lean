/- Plain mathematics of the least headway: no program is named here. -/
import Derived.Test.YtlmbcbopahpagaaTrnMath
namespace Go.Proofs.Ytlmbcbopahpagaa
open Go.RowKit
set_option linter.unusedVariables false
theorem lw_same {a b c d : Int} (hb : 1 ≤ b) (hd : 1 ≤ d) (h : a * d = c * b) : lwN a b = lwN c d ∧ lwD a b = lwD c d := by
  have s := lw_scale (g := d) (x := a) (y := b) hd
  have t := lw_scale (g := b) (x := c) (y := d) hb
  rw [Int.mul_comm d a, h, Int.mul_comm c b, Int.mul_comm d b] at s
  exact ⟨s.1.symm.trans t.1, s.2.symm.trans t.2⟩
/-- the later one of two times -/
def ltN (a b c d : Int) : Int := if c * b < a * d then a else c
def ltD (a b c d : Int) : Int := if c * b < a * d then b else d
/-- a sum over the common denominator -/
def plN2 (a b c d : Int) : Int := a * (d.tdiv (gc b d)) + c * (b.tdiv (gc b d))
def plD2 (b d : Int) : Int := b.tdiv (gc b d) * d
theorem mul_pos1 {x y : Int} (hx : 1 ≤ x) (hy : 1 ≤ y) : 1 ≤ x * y := by
  have := Int.mul_le_mul hx hy (by omega) (by omega); omega
theorem tdiv_pos {g x : Int} (h : g ∣ x) (hx : 1 ≤ x) (hg : 1 ≤ g) : 1 ≤ x.tdiv g ∧ x.tdiv g ≤ x := by
  obtain ⟨k, rfl⟩ := h
  rw [Int.mul_tdiv_cancel_left _ (by omega)]
  have hk : 0 < k := by
    rcases Int.lt_or_le 0 k with q | q
    · exact q
    · have := Int.mul_nonneg (by omega : 0 ≤ g) (by omega : 0 ≤ -k)
      rw [Int.mul_neg] at this; omega
  have : 1 * k ≤ g * k := Int.mul_le_mul_of_nonneg_right hg (by omega)
  omega
/-- the sum of two fractions, each in lowest terms -/
theorem plus_eq {y r z q : Int} (hr : 1 ≤ r) (hq : 1 ≤ q) :
    lwN (plN2 (lwN y r) (lwD y r) (lwN z q) (lwD z q)) (plD2 (lwD y r) (lwD z q)) = lwN (y * q + z * r) (r * q) ∧
    lwD (plN2 (lwN y r) (lwD y r) (lwN z q) (lwD z q)) (plD2 (lwD y r) (lwD z q)) = lwD (y * q + z * r) (r * q) := by
  have p1 := lwD_pos (a := y) (b := r) (by omega)
  have p2 := lwD_pos (a := z) (b := q) (by omega)
  have c1 := lw_cross (a := y) (b := r) (by omega)
  have c2 := lw_cross (a := z) (b := q) (by omega)
  generalize lwN y r = N1 at *
  generalize lwD y r = D1 at *
  generalize lwN z q = N2 at *
  generalize lwD z q = D2 at *
  have g1 := gc_pos (a := D1) (b := D2) (by omega)
  have t1 := tdiv_pos (gc_dvd_l D1 D2) p1.1 g1
  have e1 := Int.mul_tdiv_cancel' (gc_dvd_l D1 D2)
  have e2 := Int.mul_tdiv_cancel' (gc_dvd_r D1 D2)
  unfold plN2 plD2
  generalize D1.tdiv (gc D1 D2) = e at *
  generalize D2.tdiv (gc D1 D2) = f at *
  generalize gc D1 D2 = g at *
  refine lw_same (mul_pos1 t1.1 p2.1) (mul_pos1 hr hq) ?_
  have x1 : N1 * f * (r * q) = y * q * (e * D2) := by
    calc N1 * f * (r * q) = N1 * r * (f * q) := by ac_rfl
      _ = y * D1 * (f * q) := by rw [c1]
      _ = y * (g * e) * (f * q) := by rw [e1]
      _ = y * q * (e * (g * f)) := by ac_rfl
      _ = y * q * (e * D2) := by rw [e2]
  have x2 : N2 * e * (r * q) = z * r * (e * D2) := by
    calc N2 * e * (r * q) = N2 * q * (e * r) := by ac_rfl
      _ = z * D2 * (e * r) := by rw [c2]
      _ = z * r * (e * D2) := by ac_rfl
  rw [Int.add_mul, Int.add_mul, x1, x2]
/-- which of two fractions is greater, told by others of the same worth -/
theorem lt_cross {a b c d A B C D : Int} (hb : 1 ≤ b) (hd : 1 ≤ d) (hB : 1 ≤ B) (hD : 1 ≤ D) (h1 : a * B = A * b) (h2 : c * D = C * d) : c * b < a * d ↔ C * B < A * D := by
  have hp : 0 < B * D := Int.mul_pos (by omega) (by omega)
  have hq : 0 < b * d := Int.mul_pos (by omega) (by omega)
  have x : c * b * (B * D) = C * B * (b * d) := by
    calc c * b * (B * D) = c * D * (b * B) := by ac_rfl
      _ = C * d * (b * B) := by rw [h2]
      _ = C * B * (b * d) := by ac_rfl
  have y : a * d * (B * D) = A * D * (b * d) := by
    calc a * d * (B * D) = a * B * (d * D) := by ac_rfl
      _ = A * b * (d * D) := by rw [h1]
      _ = A * D * (b * d) := by ac_rfl
  constructor
  · intro h
    have := Int.mul_lt_mul_of_pos_right h hp
    rw [x, y] at this
    exact Int.lt_of_mul_lt_mul_right this (Int.le_of_lt hq)
  · intro h
    have := Int.mul_lt_mul_of_pos_right h hq
    rw [← x, ← y] at this
    exact Int.lt_of_mul_lt_mul_right this (Int.le_of_lt hp)
theorem head_eq {l r m q y : Int} (hr : 1 ≤ r) (hq : 1 ≤ q) :
    ltN (lwN l r) (lwD l r) (lwN (y * q + (l - y) * r) (r * q)) (lwD (y * q + (l - y) * r) (r * q)) = lwN (hwN l r m q y) (hwD l r m q y) ∧
    ltD (lwN l r) (lwD l r) (lwN (y * q + (l - y) * r) (r * q)) (lwD (y * q + (l - y) * r) (r * q)) = lwD (hwN l r m q y) (hwD l r m q y) := by
  have e : y * q + (l - y) * r = y * q - (y - l) * r := by rw [Int.sub_mul, Int.sub_mul]; omega
  rw [e]
  have hrq := mul_pos1 hr hq
  have p1 := lwD_pos (a := l) (b := r) (by omega)
  have p2 := lwD_pos (a := y * q - (y - l) * r) (b := r * q) (by omega)
  have c1 := lw_cross (a := l) (b := r) (by omega)
  have c2 := lw_cross (a := y * q - (y - l) * r) (b := r * q) (by omega)
  have hx := lt_cross p1.1 p2.1 hr hrq c1 c2
  unfold ltN ltD hwN hwD hwC
  simp only [hx, decide_eq_true_eq]
  constructor <;> split <;> rfl
end Go.Proofs.Ytlmbcbopahpagaa
