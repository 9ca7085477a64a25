/- Plain mathematics of chapter 6's program: what its sums of fractions are in the model's words. -/
import Derived.Test.YtlfjgggidoakaaaLegNum
import Derived.Test.YtlfjgggidoakaaaCmpI
namespace Go.Proofs.Ytlfjgggidoakaaa
open Go.RowKit
set_option linter.unusedVariables false
/-- the difference of two fractions, told by others of the same worth -/
theorem minus_val {n d m e A B C D : Int} (hd : 1 ≤ d) (he : 1 ≤ e) (hB : 1 ≤ B) (hD : 1 ≤ D) (h1 : n * B = A * d) (h2 : m * D = C * e) :
    lwN (plN2 n d (lwN (m * -1) e) (lwD (m * -1) e)) (plD2 d (lwD (m * -1) e)) = lwN (A * D - C * B) (B * D) ∧ lwD (plN2 n d (lwN (m * -1) e) (lwD (m * -1) e)) (plD2 d (lwD (m * -1) e)) = lwD (A * D - C * B) (B * D) := by
  have p := lwD_pos (a := m * -1) (b := e) (by omega)
  have c := lw_cross (a := m * -1) (b := e) (by omega)
  have k : lwN (m * -1) e * D = (C * -1) * lwD (m * -1) e := by
    have q : (lwN (m * -1) e * D) * e = ((C * -1) * lwD (m * -1) e) * e := by
      calc (lwN (m * -1) e * D) * e = (lwN (m * -1) e * e) * D := by ac_rfl
        _ = m * -1 * lwD (m * -1) e * D := by rw [c]
        _ = (m * D) * (-1 * lwD (m * -1) e) := by ac_rfl
        _ = (C * e) * (-1 * lwD (m * -1) e) := by rw [h2]
        _ = ((C * -1) * lwD (m * -1) e) * e := by ac_rfl
    exact Int.eq_of_mul_eq_mul_right (by omega) q
  have v := plus_val (n := n) (d := d) (m := lwN (m * -1) e) (e := lwD (m * -1) e) (A := A) (B := B) (C := C * -1) (D := D) hd p.1 hB hD h1 k
  have e1 : A * D + C * -1 * B = A * D - C * B := by rw [Int.mul_neg, Int.mul_one, Int.neg_mul]; omega
  rw [e1] at v
  exact v
/-- the speed that is needed -/
theorem need_val {s n m p q : Int} (hq : 1 ≤ q) (hm : 1 ≤ m) :
    let W := s + n
    let a := lwN (W * 1) (1 * m)
    let b := lwD (W * 1) (1 * m)
    lwN (plN2 a b (lwN (p * -1) q) (lwD (p * -1) q)) (plD2 b (lwD (p * -1) q)) = lwN (W * q - p * m) (m * q) ∧ lwD (plN2 a b (lwN (p * -1) q) (lwD (p * -1) q)) (plD2 b (lwD (p * -1) q)) = lwD (W * q - p * m) (m * q) := by
  intro W a b
  have h := lwD_pos (a := W * 1) (b := 1 * m) (by omega)
  have c := lw_cross (a := W * 1) (b := 1 * m) (by omega)
  refine minus_val h.1 hq hm hq ?_ rfl
  show lwN (W * 1) (1 * m) * m = W * lwD (W * 1) (1 * m)
  rw [Int.mul_one, Int.one_mul] at *
  exact c
theorem lw_sign {a b : Int} (hb : 1 ≤ b) : 0 < lwN a b ↔ 0 < a := by
  have p := lwD_pos (a := a) (b := b) (by omega)
  have c := lw_cross (a := a) (b := b) (by omega)
  constructor
  · intro h
    have x := Int.mul_pos h (show 0 < b by omega)
    rw [c] at x
    exact Int.pos_of_mul_pos_left x (by omega)
  · intro h
    have x := Int.mul_pos h (show 0 < lwD a b by omega)
    rw [← c] at x
    exact Int.pos_of_mul_pos_left x (by omega)
/-- the speed itself -/
theorem need_over {n x y : Int} (hx : 0 < x) (hy : 1 ≤ y) : lwN (n * lwD x y) (1 * lwN x y) = lwN (n * y) x ∧ lwD (n * lwD x y) (1 * lwN x y) = lwD (n * y) x := by
  have p := lwD_pos (a := x) (b := y) (by omega)
  have c := lw_cross (a := x) (b := y) (by omega)
  have s := (lw_sign (a := x) hy).2 hx
  have o := over_val (n := n) (d := 1) (m := lwN x y) (e := lwD x y) (A := n) (B := 1) (C := x) (D := y) (by omega) (by omega) (by omega) (by omega) rfl c
  rw [Int.one_mul] at o
  rw [Int.one_mul] at o
  rw [Int.one_mul]
  exact o
/-- which of two fractions is greater, whatever their terms -/
theorem lw_cmp {a b c d : Int} (hb : 1 ≤ b) (hd : 1 ≤ d) : (0 < cmpI (lwN a b * lwD c d) (lwN c d * lwD a b)) ↔ c * b < a * d := by
  have p1 := lwD_pos (a := a) (b := b) (by omega)
  have p2 := lwD_pos (a := c) (b := d) (by omega)
  have c1 := lw_cross (a := a) (b := b) (by omega)
  have c2 := lw_cross (a := c) (b := d) (by omega)
  have k := lt_cross (a := lwN a b) (b := lwD a b) (c := lwN c d) (d := lwD c d) (A := a) (B := b) (C := c) (D := d) p1.1 p2.1 hb hd c1 c2
  rw [← k]
  unfold cmpI
  split
  · omega
  · split <;> omega
/-- where one is: against the end of the leg -/
theorem place_cross {s l f u v p q T Q : Int} (hf : 1 ≤ f) (hv : 1 ≤ v) (hq : 1 ≤ q) (hQ : 1 ≤ Q) (hT : T * (q * f) = (p * f + l * q) * Q) :
    let a := lwN (u * q - p * v) (v * q)
    let b := lwD (u * q - p * v) (v * q)
    let X := lwN (s * b + f * a) b
    let Y := lwD (s * b + f * a) b
    (u * Q < T * v ↔ X < (s + l) * Y) ∧ (T * v < u * Q ↔ (s + l) * Y < X) := by
  intro a b X Y
  have m1 : 1 ≤ v * q := mul_pos1 hv hq
  have p1 := lwD_pos (a := u * q - p * v) (b := v * q) (by omega)
  have c1 := lw_cross (a := u * q - p * v) (b := v * q) (by omega)
  have p2 := lwD_pos (a := s * b + f * a) (b := b) (by omega)
  have c2 := lw_cross (a := s * b + f * a) (b := b) (by omega)
  change 1 ≤ b ∧ _ at p1
  change a * (v * q) = (u * q - p * v) * b at c1
  change 1 ≤ Y ∧ _ at p2
  change X * b = (s * b + f * a) * Y at c2
  have e : X * (v * q) = (s * (v * q) + f * (u * q - p * v)) * Y := by
    have : (X * (v * q)) * b = ((s * (v * q) + f * (u * q - p * v)) * Y) * b := by
      calc (X * (v * q)) * b = (X * b) * (v * q) := by ac_rfl
        _ = (s * b + f * a) * Y * (v * q) := by rw [c2]
        _ = (s * b * (v * q) + f * (a * (v * q))) * Y := by rw [show (s * b + f * a) * Y * (v * q) = (s * b + f * a) * (v * q) * Y by ac_rfl, Int.add_mul]; congr 2; ac_rfl
        _ = (s * b * (v * q) + f * ((u * q - p * v) * b)) * Y := by rw [c1]
        _ = ((s * (v * q) + f * (u * q - p * v)) * Y) * b := by
          rw [show s * b * (v * q) = s * (v * q) * b by ac_rfl, show f * ((u * q - p * v) * b) = f * (u * q - p * v) * b by ac_rfl, ← Int.add_mul]; ac_rfl
    exact Int.eq_of_mul_eq_mul_right (by omega) this
  have z : (s + l) * Y * (v * q) = (s * (v * q) + l * (v * q)) * Y := by
    rw [show (s + l) * Y * (v * q) = (s + l) * (v * q) * Y by ac_rfl, Int.add_mul s l]
  -- both sides over one
  have key : ∀ (x : Int), x = f * (u * q - p * v) - l * (v * q) → x * Q = (u * Q - T * v) * (q * f) := fun x hx => by
    have t1 : T * v * (q * f) = (p * f + l * q) * Q * v := by rw [← hT]; ac_rfl
    rw [hx, Int.sub_mul (u * Q), t1, Int.sub_mul, Int.mul_sub, Int.sub_mul, Int.add_mul, Int.add_mul]
    have a1 : f * (u * q) * Q = u * Q * (q * f) := by ac_rfl
    have a2 : f * (p * v) * Q = p * f * Q * v := by ac_rfl
    have a3 : l * (v * q) * Q = l * q * Q * v := by ac_rfl
    omega
  have hqf : 1 ≤ q * f := mul_pos1 hq hf
  have K := key _ rfl
  have d1 : X * (v * q) - (s + l) * Y * (v * q) = (f * (u * q - p * v) - l * (v * q)) * Y := by
    rw [e, z, ← Int.sub_mul]; congr 1; omega
  have d2 : (X - (s + l) * Y) * (v * q) = (f * (u * q - p * v) - l * (v * q)) * Y := by rw [Int.sub_mul]; exact d1
  have sg : ∀ {a b c d : Int}, 1 ≤ b → 1 ≤ d → a * b = c * d → ((a < 0 ↔ c < 0) ∧ (0 < a ↔ 0 < c)) := fun {a b c d} hb hd h => by
    refine ⟨⟨fun k => ?_, fun k => ?_⟩, ⟨fun k => ?_, fun k => ?_⟩⟩
    · have r := Int.mul_neg_of_neg_of_pos k (show 0 < b by omega)
      rw [h] at r
      rcases Int.lt_or_le c 0 with g | g
      · exact g
      · have := Int.mul_nonneg g (show 0 ≤ d by omega); omega
    · have r := Int.mul_neg_of_neg_of_pos k (show 0 < d by omega)
      rw [← h] at r
      rcases Int.lt_or_le a 0 with g | g
      · exact g
      · have := Int.mul_nonneg g (show 0 ≤ b by omega); omega
    · have r := Int.mul_pos k (show 0 < b by omega)
      rw [h] at r
      exact Int.pos_of_mul_pos_left r (by omega)
    · have r := Int.mul_pos k (show 0 < d by omega)
      rw [← h] at r
      exact Int.pos_of_mul_pos_left r (by omega)
  have s1 := sg hQ hqf K
  have s2 := sg m1 p2.1 d2
  constructor
  · have r1 := s1.1
    have r2 := s2.1
    generalize f * (u * q - p * v) - l * (v * q) = x at r1 r2
    generalize u * Q = uQ at *
    generalize T * v = Tv at *
    generalize (s + l) * Y = sY at *
    generalize X = XX at *
    omega
  · have r1 := s1.2
    have r2 := s2.2
    generalize f * (u * q - p * v) - l * (v * q) = x at r1 r2
    generalize u * Q = uQ at *
    generalize T * v = Tv at *
    generalize (s + l) * Y = sY at *
    generalize X = XX at *
    omega
/-- the time of a ride and a walk -/
theorem ride_val {l O U a v : Int} (hU : 1 ≤ U) (ha : 1 ≤ a) (hv : 1 ≤ v) :
    let P1 := lwN O U
    let P2 := lwD O U
    let W1 := lwN (plN2 l 1 (lwN (P1 * -1) P2) (lwD (P1 * -1) P2)) (plD2 1 (lwD (P1 * -1) P2))
    let W2 := lwD (plN2 l 1 (lwN (P1 * -1) P2) (lwD (P1 * -1) P2)) (plD2 1 (lwD (P1 * -1) P2))
    let R1 := lwN (P1 * 1) (P2 * v)
    let R2 := lwD (P1 * 1) (P2 * v)
    let S1 := lwN (W1 * 1) (W2 * a)
    let S2 := lwD (W1 * 1) (W2 * a)
    W1 = lwN (l * U - O) U ∧ W2 = lwD (l * U - O) U ∧ lwN (plN2 R1 R2 S1 S2) (plD2 R2 S2) = lwN (O * a + (l * U - O) * v) (U * a * v) ∧ lwD (plN2 R1 R2 S1 S2) (plD2 R2 S2) = lwD (O * a + (l * U - O) * v) (U * a * v) := by
  intro P1 P2 W1 W2 R1 R2 S1 S2
  have pP := lwD_pos (a := O) (b := U) (by omega)
  have cP := lw_cross (a := O) (b := U) (by omega)
  have w := minus_val (n := l) (d := 1) (m := P1) (e := P2) (A := l) (B := 1) (C := O) (D := U) (by omega) pP.1 (by omega) hU rfl cP
  rw [Int.mul_one, Int.one_mul] at w
  have w1 : W1 = lwN (l * U - O) U := w.1
  have w2 : W2 = lwD (l * U - O) U := w.2
  have pW := lwD_pos (a := l * U - O) (b := U) (by omega)
  have cW := lw_cross (a := l * U - O) (b := U) (by omega)
  rw [← w1, ← w2] at cW
  rw [← w2] at pW
  have r := over_val (n := P1) (d := P2) (m := v) (e := 1) (A := O) (B := U) (C := v) (D := 1) pP.1 hv hU hv cP rfl
  have s := over_val (n := W1) (d := W2) (m := a) (e := 1) (A := l * U - O) (B := U) (C := a) (D := 1) pW.1 ha hU ha cW rfl
  rw [Int.mul_one, Int.mul_one] at r s
  have mv : 1 ≤ U * v := mul_pos1 hU hv
  have ma : 1 ≤ U * a := mul_pos1 hU ha
  have pR := lwD_pos (a := O) (b := U * v) (by omega)
  have cR := lw_cross (a := O) (b := U * v) (by omega)
  have pS := lwD_pos (a := l * U - O) (b := U * a) (by omega)
  have cS := lw_cross (a := l * U - O) (b := U * a) (by omega)
  have r1 : R1 = lwN O (U * v) := by show lwN (P1 * 1) (P2 * v) = _; rw [Int.mul_one]; exact r.1
  have r2 : R2 = lwD O (U * v) := by show lwD (P1 * 1) (P2 * v) = _; rw [Int.mul_one]; exact r.2
  have s1 : S1 = lwN (l * U - O) (U * a) := by show lwN (W1 * 1) (W2 * a) = _; rw [Int.mul_one]; exact s.1
  have s2 : S2 = lwD (l * U - O) (U * a) := by show lwD (W1 * 1) (W2 * a) = _; rw [Int.mul_one]; exact s.2
  refine ⟨w1, w2, ?_⟩
  rw [r1, r2, s1, s2]
  have t := plus_val (n := lwN O (U * v)) (d := lwD O (U * v)) (m := lwN (l * U - O) (U * a)) (e := lwD (l * U - O) (U * a)) (A := O) (B := U * v) (C := l * U - O) (D := U * a) pR.1 pS.1 mv ma cR cS
  have z := lw_same (a := O * (U * a) + (l * U - O) * (U * v)) (b := U * v * (U * a)) (c := O * a + (l * U - O) * v) (d := U * a * v) (mul_pos1 mv ma) (mul_pos1 ma hv) (by
    rw [Int.add_mul, Int.add_mul]
    congr 1 <;> ac_rfl)
  exact ⟨t.1.trans z.1, t.2.trans z.2⟩
end Go.Proofs.Ytlfjgggidoakaaa
