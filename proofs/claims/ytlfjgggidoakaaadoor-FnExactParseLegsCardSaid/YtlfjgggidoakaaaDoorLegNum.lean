/- Plain mathematics of chapter 6's program (sums of fractions): no program is named here. -/
import Derived.Test.YtlfjgggidoakaaaDoorLegMath
import Derived.Test.YtlfjgggidoakaaaDoorHeadMath
namespace Go.Proofs.YtlfjgggidoakaaaDoor
open Go.RowKit
set_option linter.unusedVariables false
/-- the sum of two fractions, told by others of the same worth -/
theorem plus_val {n d m e A B C D : Int} (hd : 1 ≤ d) (he : 1 ≤ e) (hB : 1 ≤ B) (hD : 1 ≤ D) (h1 : n * B = A * d) (h2 : m * D = C * e) :
    lwN (plN2 n d m e) (plD2 d e) = lwN (A * D + C * B) (B * D) ∧ lwD (plN2 n d m e) (plD2 d e) = lwD (A * D + C * B) (B * D) := by
  have g1 := gc_pos (a := d) (b := e) (by omega)
  have t1 := tdiv_pos (gc_dvd_l d e) hd g1
  have e1 := Int.mul_tdiv_cancel' (gc_dvd_l d e)
  have e2 := Int.mul_tdiv_cancel' (gc_dvd_r d e)
  unfold plN2 plD2
  generalize d.tdiv (gc d e) = x at *
  generalize e.tdiv (gc d e) = y at *
  generalize gc d e = g at *
  refine lw_same (mul_pos1 t1.1 he) (mul_pos1 hB hD) ?_
  have x1 : n * y * (B * D) = A * D * (x * e) := by
    calc n * y * (B * D) = n * B * (y * D) := by ac_rfl
      _ = A * d * (y * D) := by rw [h1]
      _ = A * (g * x) * (y * D) := by rw [e1]
      _ = A * D * (x * (g * y)) := by ac_rfl
      _ = A * D * (x * e) := by rw [e2]
  have x2 : m * x * (B * D) = C * B * (x * e) := by
    calc m * x * (B * D) = m * D * (x * B) := by ac_rfl
      _ = C * e * (x * B) := by rw [h2]
      _ = C * B * (x * e) := by ac_rfl
  rw [Int.add_mul, Int.add_mul, x1, x2]
theorem lw_one (a : Int) : lwN a 1 = a ∧ lwD a 1 = 1 := by
  have g1 := gc_pos (a := a) (b := 1) (by omega)
  have g2 := gc_le (a := a) (b := 1) (by omega)
  unfold lwN lwD
  rw [show gc a 1 = 1 by omega]
  exact ⟨Int.tdiv_one a, Int.tdiv_one 1⟩
/-- the sum that the program makes of the first ones' fractions -/
def smF (g : Int → Int → Int × Int) (xs : List (Int × Int)) : Nat → Int × Int
  | 0 => (0, 1)
  | j + 1 => (lwN (plN2 (smF g xs j).1 (smF g xs j).2 (g (px xs j) (py xs j)).1 (g (px xs j) (py xs j)).2) (plD2 (smF g xs j).2 (g (px xs j) (py xs j)).2), lwD (plN2 (smF g xs j).1 (smF g xs j).2 (g (px xs j) (py xs j)).1 (g (px xs j) (py xs j)).2) (plD2 (smF g xs j).2 (g (px xs j) (py xs j)).2))
def wayF (l f : Int) : Int × Int := (l, 1)
def timF (l f : Int) : Int × Int := (lwN l f, lwD l f)
theorem sm_way (xs : List (Int × Int)) : ∀ j, smF wayF xs j = (lgL xs j, 1)
  | 0 => rfl
  | j + 1 => by
    have ih := sm_way xs j
    show (lwN (plN2 (smF wayF xs j).1 (smF wayF xs j).2 (px xs j) 1) (plD2 (smF wayF xs j).2 1), lwD (plN2 (smF wayF xs j).1 (smF wayF xs j).2 (px xs j) 1) (plD2 (smF wayF xs j).2 1)) = (lgL xs j + px xs j, 1)
    rw [ih]
    have p := plus_val (n := lgL xs j) (d := 1) (m := px xs j) (e := 1) (A := lgL xs j) (B := 1) (C := px xs j) (D := 1) (by omega) (by omega) (by omega) (by omega) rfl rfl
    simp only [Int.mul_one] at p
    rw [p.1, p.2, (lw_one _).1, (lw_one _).2]
theorem sm_time {xs : List (Int × Int)} (h : ∀ i, i < xs.length → lgOk (px xs i) (py xs i) = true) : ∀ j, j ≤ xs.length → smF timF xs j = lgT xs j
  | 0, _ => rfl
  | j + 1, hj => by
    have ih := sm_time h j (by omega)
    have b := lgOk_iff.1 (h j (by omega))
    have d1 := (lgT_bd h j (by omega)).1
    show (lwN (plN2 (smF timF xs j).1 (smF timF xs j).2 (lwN (px xs j) (py xs j)) (lwD (px xs j) (py xs j))) (plD2 (smF timF xs j).2 (lwD (px xs j) (py xs j))), lwD (plN2 (smF timF xs j).1 (smF timF xs j).2 (lwN (px xs j) (py xs j)) (lwD (px xs j) (py xs j))) (plD2 (smF timF xs j).2 (lwD (px xs j) (py xs j)))) = (lwN ((lgT xs j).1 * py xs j + px xs j * (lgT xs j).2) ((lgT xs j).2 * py xs j), lwD ((lgT xs j).1 * py xs j + px xs j * (lgT xs j).2) ((lgT xs j).2 * py xs j))
    rw [ih]
    have p := plus_val (n := (lgT xs j).1) (d := (lgT xs j).2) (m := lwN (px xs j) (py xs j)) (e := lwD (px xs j) (py xs j)) (A := (lgT xs j).1) (B := (lgT xs j).2) (C := px xs j) (D := py xs j) d1 (lwD_pos (by omega)).1 d1 b.2.2.1 rfl (lw_cross (by omega))
    rw [p.1, p.2]
/-- a leg's time in numbers -/
theorem timF_bd {l f : Int} (h : lgOk l f = true) : 1 ≤ (timF l f).2 ∧ (timF l f).2 ≤ 100 ∧ 0 ≤ (timF l f).1 ∧ (timF l f).1 ≤ 1000 := by
  have b := lgOk_iff.1 h
  have p := lwD_pos (a := l) (b := f) (by omega)
  have q := lwN_bd (a := l) (b := f) (B := 1000) (by omega) (by omega) (by omega)
  have c := lw_cross (a := l) (b := f) (by omega)
  have r : 0 ≤ lwN l f := by
    rcases Int.lt_or_le (lwN l f) 0 with k | k
    · have x := Int.mul_neg_of_neg_of_pos k (show 0 < f by omega)
      have y := mul_pos1 b.1 p.1
      omega
    · exact k
  exact ⟨p.1, by show lwD l f ≤ 100; omega, r, q.2⟩
/-- the terms of a fraction in lowest terms are no greater -/
theorem lwD_le {a b B : Int} (h : 1 ≤ b) (h2 : b ≤ B) : 1 ≤ lwD a b ∧ lwD a b ≤ B := by
  have p := lwD_pos (a := a) (b := b) (by omega); omega
/-- the quotient of two fractions -/
theorem over_val {n d m e A B C D : Int} (hd : 1 ≤ d) (hm : 1 ≤ m) (hB : 1 ≤ B) (hC : 1 ≤ C) (h1 : n * B = A * d) (h2 : m * D = C * e) :
    lwN (n * e) (d * m) = lwN (A * D) (B * C) ∧ lwD (n * e) (d * m) = lwD (A * D) (B * C) := by
  refine lw_same (mul_pos1 hd hm) (mul_pos1 hB hC) ?_
  calc n * e * (B * C) = n * B * (C * e) := by ac_rfl
    _ = A * d * (m * D) := by rw [h1, h2]
    _ = A * D * (d * m) := by ac_rfl
end Go.Proofs.YtlfjgggidoakaaaDoor
