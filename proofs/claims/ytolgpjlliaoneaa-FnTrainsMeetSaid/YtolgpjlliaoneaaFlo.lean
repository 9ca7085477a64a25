/- Floats, plain mathematics: a quotient and a difference as they are rounded, and what a first guess of two times tells. No program is named here. -/
import Derived.Laws.FloatArith
namespace Go.Proofs.Ytolgpjlliaoneaa
open Ieee
set_option linter.unusedVariables false
set_option linter.unusedSimpArgs false
theorem fD_least : double.leastPlace = -1074 := by decide
theorem fD_bin : double.binade = 4503599627370496 := by decide
theorem fD_inf : double.infRung = 9218868437227405312 := by decide
theorem fD_sw : double.signWeight = 9223372036854775808 := by decide
theorem read_word (neg : Bool) (rung : Nat) (h : rung < 9218868437227405312) :
    double.read (double.word neg rung) = if rung < 4503599627370496 then .number neg rung (-1074) else .number neg (4503599627370496 + rung % 4503599627370496) (-1074 + ((rung / 4503599627370496 - 1 : Nat) : Int)) := by
  have e1 : (double.word neg rung / 9223372036854775808 % 2 == 1) = neg := by
    unfold Format.word; rw [fD_sw]
    cases neg
    · simp only [Bool.false_eq_true, if_false, beq_eq_false_iff_ne]; omega
    · simp only [if_true, beq_iff_eq]; omega
  have e2 : double.word neg rung % 9223372036854775808 = rung := by
    unfold Format.word; rw [fD_sw]
    cases neg
    · simp only [Bool.false_eq_true, if_false]; omega
    · simp only [if_true]; omega
  unfold Format.read
  rw [fD_sw, fD_bin, fD_inf, fD_least]
  simp only [e1, e2]
  by_cases h1 : rung < 4503599627370496
  · simp only [h1, if_true]
  · simp only [h1, h, if_true, if_false]
theorem cut_bd (neg : Bool) (n drop : Nat) (h : drop ≤ n.log2 + 2) : ∃ b, b ≤ 1 ∧ Toward.even.cut neg n drop = n / 2 ^ drop + b ∧ (drop = 0 → b = 0) := by
  unfold Toward.cut
  rw [Nat.min_eq_left h, Nat.one_shiftLeft]
  refine ⟨_, ?_, rfl, ?_⟩
  · exact Bool.toNat_le _
  · intro h0
    subst h0
    simp only [Nat.pow_zero, Nat.mod_one, Nat.mul_zero]
    simp
/-- the number that a number is written as -/
theorem nearest_num (neg : Bool) (mag : Nat) (place : Int) (h0 : 0 < mag) (h1 : -1074 ≤ place) (h2 : place + mag.log2 ≤ 900) (h3 : -1000 ≤ place + mag.log2) :
    ∃ (m : Nat) (p : Int), double.read (double.nearest neg mag place) = .number neg m p ∧ 4503599627370496 ≤ m ∧ m < 9007199254740992 ∧ place + mag.log2 - 52 ≤ p ∧ p ≤ place + mag.log2 - 51 ∧
      m * 2 ^ (p + 1074).toNat * 4503599627370496 ≤ mag * 2 ^ (place + 1074).toNat * 4503599627370497 ∧
      mag * 2 ^ (place + 1074).toNat * 4503599627370496 ≤ m * 2 ^ (p + 1074).toNat * 4503599627370496 + mag * 2 ^ (place + 1074).toNat ∧
      (mag.log2 ≤ 52 → m * 2 ^ (p + 1074).toNat = mag * 2 ^ (place + 1074).toNat ∧ p = place + mag.log2 - 52) := by
  have hl1 := Nat.log2_self_le (n := mag) (by omega)
  have hl2 := Nat.lt_log2_self (n := mag)
  obtain ⟨L, hL⟩ : ∃ L, mag.log2 = L := ⟨_, rfl⟩
  rw [hL] at hl1 hl2 h2 h3 ⊢
  obtain ⟨P, hP⟩ : ∃ P : Nat, place = (P : Int) - 1074 := ⟨(place + 1074).toNat, by omega⟩
  have eP : (place + 1074).toNat = P := by omega
  obtain ⟨T, hT⟩ : ∃ T : Nat, place + L - 52 = (T : Int) - 1074 := ⟨(place + L - 52 + 1074).toNat, by omega⟩
  have hmax : max (place + (L : Int) - (double.fractionBits : Int)) double.leastPlace = (T : Int) - 1074 := by
    rw [fD_least]; show max (place + (L : Int) - 52) (-1074) = _; omega
  -- the digits that are kept
  obtain ⟨c, hc, c1, c2, g1, g2, g3⟩ : ∃ c, Toward.even.cut neg (mag <<< (place - ((T : Int) - 1074)).toNat) ((T : Int) - 1074 - place).toNat = c ∧ 4503599627370496 ≤ c ∧ c ≤ 9007199254740992 ∧
      c * 2 ^ T * 4503599627370496 ≤ mag * 2 ^ P * 4503599627370497 ∧ mag * 2 ^ P * 4503599627370496 ≤ c * 2 ^ T * 4503599627370496 + mag * 2 ^ P ∧ (L ≤ 52 → c * 2 ^ T = mag * 2 ^ P ∧ c < 9007199254740992) := by
    by_cases hs : L ≤ 52
    · have e1 : (place - ((T : Int) - 1074)).toNat = 52 - L := by omega
      have e2 : ((T : Int) - 1074 - place).toNat = 0 := by omega
      have e3 : P = 52 - L + T := by omega
      obtain ⟨b, b1, b2, b3⟩ := cut_bd neg (mag <<< (52 - L)) 0 (by omega)
      rw [e1, e2]
      have hb := b3 rfl
      subst hb
      refine ⟨_, b2, ?_⟩
      rw [Nat.pow_zero, Nat.div_one, Nat.add_zero, Nat.shiftLeft_eq]
      have q1 : 2 ^ L * 2 ^ (52 - L) = 4503599627370496 := by rw [← Nat.pow_add, show L + (52 - L) = 52 from by omega]
      have q2 : 2 ^ (L + 1) * 2 ^ (52 - L) = 9007199254740992 := by rw [← Nat.pow_add, show L + 1 + (52 - L) = 53 from by omega]
      have q3 : mag * 2 ^ (52 - L) * 2 ^ T = mag * 2 ^ P := by rw [Nat.mul_assoc, ← Nat.pow_add, e3]
      have q4 := Nat.mul_le_mul_right (2 ^ (52 - L)) hl1
      have q5 := Nat.mul_lt_mul_of_pos_right hl2 (Nat.pow_pos (n := 52 - L) (show 0 < 2 by omega))
      rw [q1] at q4
      rw [q2] at q5
      rw [q3]
      refine ⟨q4, Nat.le_of_lt q5, ?_, ?_, fun _ => ⟨rfl, q5⟩⟩ <;> omega
    · have e1 : (place - ((T : Int) - 1074)).toNat = 0 := by omega
      have e2 : ((T : Int) - 1074 - place).toNat = L - 52 := by omega
      have e3 : T = L - 52 + P := by omega
      obtain ⟨b, b1, b2, b3⟩ := cut_bd neg mag (L - 52) (by omega)
      rw [e1, e2, Nat.shiftLeft_zero]
      refine ⟨_, b2, ?_⟩
      have hg : 0 < 2 ^ (L - 52) := Nat.pow_pos (by omega)
      have q1 : 4503599627370496 * 2 ^ (L - 52) = 2 ^ L := by
        show 2 ^ 52 * 2 ^ (L - 52) = 2 ^ L
        rw [← Nat.pow_add, show 52 + (L - 52) = L from by omega]
      have q2 : 9007199254740992 * 2 ^ (L - 52) = 2 ^ (L + 1) := by
        show 2 ^ 53 * 2 ^ (L - 52) = 2 ^ (L + 1)
        rw [← Nat.pow_add, show 53 + (L - 52) = L + 1 from by omega]
      have q3 : 2 ^ T = 2 ^ (L - 52) * 2 ^ P := by rw [← Nat.pow_add, e3]
      rw [q3]
      have d1 := Nat.div_add_mod mag (2 ^ (L - 52))
      have d2 := Nat.mod_lt mag hg
      rw [← q1] at hl1
      rw [← q2] at hl2
      generalize 2 ^ (L - 52) = g at *
      generalize 2 ^ P = G at *
      have l1 : 4503599627370496 ≤ mag / g := (Nat.le_div_iff_mul_le hg).2 hl1
      have l2 : mag / g < 9007199254740992 := (Nat.div_lt_iff_lt_mul hg).2 hl2
      generalize mag / g = low at *
      have k1 : low * g + b * g ≤ mag + g := by
        have : b * g ≤ 1 * g := Nat.mul_le_mul_right g b1
        rw [Nat.mul_comm low g]; omega
      have k2 : mag ≤ low * g + b * g + g := by rw [Nat.mul_comm low g]; omega
      refine ⟨by omega, by omega, ?_, ?_, fun h => absurd h hs⟩
      · have : (low + b) * g * 4503599627370496 ≤ mag * 4503599627370497 := by rw [Nat.add_mul]; omega
        have := Nat.mul_le_mul_right G this
        calc (low + b) * (g * G) * 4503599627370496 = (low + b) * g * 4503599627370496 * G := by ac_rfl
          _ ≤ mag * 4503599627370497 * G := this
          _ = mag * G * 4503599627370497 := by ac_rfl
      · have : mag * 4503599627370496 ≤ (low + b) * g * 4503599627370496 + mag := by rw [Nat.add_mul]; omega
        have := Nat.mul_le_mul_right G this
        calc mag * G * 4503599627370496 = mag * 4503599627370496 * G := by ac_rfl
          _ ≤ ((low + b) * g * 4503599627370496 + mag) * G := this
          _ = (low + b) * (g * G) * 4503599627370496 + mag * G := by rw [Nat.add_mul]; congr 1; ac_rfl
  have hT2 : T ≤ 1922 := by clear g1 g2 g3 hc hmax; omega
  have hle : T * 4503599627370496 + c ≤ 9218868437227405312 := by clear g1 g2 g3 hc hmax hl1 hl2; omega
  have hrd : double.nearest neg mag place = double.word neg (T * 4503599627370496 + c) := by
    unfold Format.nearest
    rw [if_neg (by omega)]
    simp only [hL, hmax, hc]
    rw [fD_least, fD_bin, fD_inf]
    congr 1
    rw [show ((T : Int) - 1074 - -1074).toNat = T from by omega]
    have hle : T * 4503599627370496 + c ≤ 9218868437227405312 := by omega
    exact Nat.min_eq_left hle
  have hT2 : T ≤ 1922 := by omega
  rw [hrd, read_word neg _ (by omega), if_neg (by omega), eP]
  by_cases hc2 : c < 9007199254740992
  · have r1 : (T * 4503599627370496 + c) % 4503599627370496 = c - 4503599627370496 := by omega
    have r2 : (T * 4503599627370496 + c) / 4503599627370496 = T + 1 := by omega
    rw [r1, r2]
    refine ⟨_, _, rfl, by omega, by omega, by omega, by omega, ?_⟩
    rw [show (-1074 + ((T + 1 - 1 : Nat) : Int) + 1074).toNat = T from by omega, show 4503599627370496 + (c - 4503599627370496) = c from by omega]
    exact ⟨g1, g2, fun h => ⟨(g3 h).1, by omega⟩⟩
  · have hc3 : c = 9007199254740992 := by omega
    subst hc3
    have r1 : (T * 4503599627370496 + 9007199254740992) % 4503599627370496 = 0 := by omega
    have r2 : (T * 4503599627370496 + 9007199254740992) / 4503599627370496 = T + 2 := by omega
    rw [r1, r2]
    refine ⟨_, _, rfl, by omega, by omega, by omega, by omega, ?_⟩
    rw [show (-1074 + ((T + 2 - 1 : Nat) : Int) + 1074).toNat = T + 1 from by omega]
    have e : (4503599627370496 + 0) * 2 ^ (T + 1) = 9007199254740992 * 2 ^ T := by rw [Nat.pow_succ]; omega
    rw [e]
    exact ⟨g1, g2, fun h => absurd (g3 h).2 (by omega)⟩

def kS : Nat := 1074
/-- a word that stands for a number -/
structure Fin (x : Nat) (s : Bool) (m : Nat) (p : Int) : Prop where
  rd : double.read x = .number s m p
  lo : -1074 ≤ p
def Rg (m : Nat) (p : Int) : Prop := (m = 0 ∧ p = -1074) ∨ (4503599627370496 ≤ m ∧ m < 9007199254740992 ∧ -200 ≤ p ∧ p ≤ 200)
/-- what it stands for, 2 ^ 1074 fold -/
def sc (s : Bool) (m : Nat) (p : Int) : Int := signed s m (p + 1074).toNat
theorem signed_eq (s : Bool) (m k : Nat) : signed s m k = (if s then -1 else 1) * ((m * 2 ^ k : Nat) : Int) := by
  unfold signed
  rw [Nat.shiftLeft_eq]
  cases s <;> simp
theorem signed_scale (s : Bool) (m a b : Nat) : signed s m (a + b) = signed s m a * 2 ^ b := by
  rw [signed_eq, signed_eq, Nat.pow_add]
  push_cast
  ac_rfl
theorem compare_scale (a b : Int) (k : Nat) : compare (a * 2 ^ k) (b * 2 ^ k) = compare a b := by
  have h : (0 : Int) < 2 ^ k := Int.pow_pos (by omega)
  rcases Int.lt_trichotomy a b with q | q | q
  · rw [Int.compare_eq_lt.2 q, Int.compare_eq_lt.2 (Int.mul_lt_mul_of_pos_right q h)]
  · subst q; rw [Int.compare_eq_eq.2 rfl, Int.compare_eq_eq.2 rfl]
  · rw [Int.compare_eq_gt.2 q, Int.compare_eq_gt.2 (Int.mul_lt_mul_of_pos_right q h)]
theorem order_sc {x y : Nat} {s t : Bool} {m n : Nat} {i j : Int} (hx : Fin x s m i) (hy : Fin y t n j) : double.order x y = some (compare (sc s m i) (sc t n j)) := by
  unfold Format.order
  rw [hx.rd, hy.rd]
  show some (compare (signed s m (i - min i j).toNat) (signed t n (j - min i j).toNat)) = _
  have b1 := hx.lo
  have b2 := hy.lo
  unfold sc
  rw [show (i + 1074).toNat = (i - min i j).toNat + (min i j + 1074).toNat from by omega, show (j + 1074).toNat = (j - min i j).toNat + (min i j + 1074).toNat from by omega]
  rw [signed_scale, signed_scale, compare_scale]
theorem log_big {m : Nat} (h1 : 4503599627370496 ≤ m) (h2 : m < 9007199254740992) : m.log2 = 52 := by
  have a := (Nat.le_log2 (n := m) (k := 52) (by omega)).2 h1
  have b := (Nat.log2_lt (n := m) (k := 53) (by omega)).2 h2
  omega
theorem log_lt {m : Nat} (h0 : m ≠ 0) (k : Nat) (h : m < 2 ^ k) : m.log2 < k := (Nat.log2_lt h0).2 h
theorem log_ge {m : Nat} (h0 : m ≠ 0) (k : Nat) (h : 2 ^ k ≤ m) : k ≤ m.log2 := (Nat.le_log2 h0).2 h
/-- a number without a rest stands for itself -/
theorem fl_int (n : Int) (h : n.natAbs < 1073741824) (hn : n ≠ 0) : ∃ m p, Fin (Go.floatOfInt .f64 n) (decide (n < 0)) m p ∧ 4503599627370496 ≤ m ∧ m < 9007199254740992 ∧ -52 ≤ p ∧ p ≤ 0 ∧ m * 2 ^ (p + 1074).toNat = n.natAbs * 2 ^ kS := by
  have h0 : n.natAbs ≠ 0 := by omega
  have hl : n.natAbs.log2 < 30 := log_lt h0 30 h
  obtain ⟨m, p, e1, e2, e3, e4, e5, e6, e7, e8⟩ := nearest_num (decide (n < 0)) n.natAbs 0 (by omega) (by omega) (by omega) (by omega)
  refine ⟨m, p, ⟨e1, by omega⟩, e2, e3, by omega, by omega, ?_⟩
  have := (e8 (by omega)).1
  rw [this, show ((0 : Int) + 1074).toNat = kS from rfl]
theorem fl_zero : Fin (Go.floatOfInt .f64 0) false 0 (-1074) := ⟨by decide, by omega⟩
theorem sc_zero (s : Bool) (p : Int) : sc s 0 p = 0 := by unfold sc; rw [signed_eq]; simp
theorem div_lin {y x u z : Nat} (x2 : x ≤ z * 36028797018963968 + u) (x3 : z * 36028797018963968 ≤ x + u) (x4 : u ≤ 2 * z) (x5 : y * 4503599627370496 ≤ x * 4503599627370497) (x6 : x * 4503599627370496 ≤ y * 4503599627370496 + x) :
    y * 1125899906842624 ≤ z * 36028797018963968 * 1125899906842625 ∧ z * 36028797018963968 * 1125899906842624 ≤ y * 1125899906842624 + z * 36028797018963968 := by omega
/-- a quotient, nearly -/
theorem fl_div (a b : Int) (ha : a.natAbs < 1073741824) (h0 : a ≠ 0) (b1 : 1 ≤ b) (b2 : b < 1073741824) :
    ∃ q m p, double.div (Go.floatOfInt .f64 a) (Go.floatOfInt .f64 b) = some q ∧ Fin q (decide (a < 0)) m p ∧ 4503599627370496 ≤ m ∧ m < 9007199254740992 ∧ -200 ≤ p ∧ p ≤ 200 ∧
      m * 2 ^ (p + 1074).toNat * b.natAbs * 1125899906842624 ≤ a.natAbs * 2 ^ kS * 1125899906842625 ∧
      a.natAbs * 2 ^ kS * 1125899906842624 ≤ m * 2 ^ (p + 1074).toNat * b.natAbs * 1125899906842624 + a.natAbs * 2 ^ kS := by
  obtain ⟨m, i, fa, m1, m2, i1, i2, em⟩ := fl_int a ha h0
  obtain ⟨n, j, fb, n1, n2, j1, j2, en⟩ := fl_int b (by omega) (by omega)
  have lm := log_big m1 m2
  have ln := log_big n1 n2
  have hq : Datum.quotient (double.fractionBits + 2) (.number (decide (a < 0)) m i) (.number (decide (b < 0)) n j) = some (.number (decide (a < 0)) (2 * (m * 18014398509481984 / n) + (m * 18014398509481984 % n != 0).toNat) (i - j - 54 - 1)) := by
    unfold Datum.quotient
    have e0 : ¬ n = 0 := by omega
    have e1 : double.fractionBits + 2 + n.log2 - m.log2 = 54 := by rw [lm, ln]; rfl
    have e2 : decide (b < 0) = false := decide_eq_false (by omega)
    simp only [e0, if_false, e1, e2, Bool.xor_false, Nat.shiftLeft_eq]
    rfl
  obtain ⟨I, hI⟩ : ∃ I : Nat, i = (I : Int) - 1074 := ⟨(i + 1074).toNat, by omega⟩
  obtain ⟨J, hJ⟩ : ∃ J : Nat, j = (J : Int) - 1074 := ⟨(j + 1074).toNat, by omega⟩
  obtain ⟨P, hP⟩ : ∃ P : Nat, i - j - 54 - 1 = (P : Int) - 1074 := ⟨(i - j - 54 - 1 + 1074).toNat, by omega⟩
  have hn : 0 < n := by omega
  have d1 := Nat.div_add_mod (m * 18014398509481984) n
  have d2 := Nat.mod_lt (m * 18014398509481984) hn
  have l1 : 9007199254740992 ≤ m * 18014398509481984 / n := (Nat.le_div_iff_mul_le hn).2 (by omega)
  have l2 : m * 18014398509481984 / n < 36028797018963968 := (Nat.div_lt_iff_lt_mul hn).2 (by omega)
  have hst : ((m * 18014398509481984 % n != 0).toNat = 0 ∧ m * 18014398509481984 % n = 0) ∨ (m * 18014398509481984 % n != 0).toNat = 1 := by
    by_cases h : m * 18014398509481984 % n = 0
    · left; rw [h]; exact ⟨rfl, rfl⟩
    · right; rw [bne_iff_ne.2 h]; rfl
  obtain ⟨mag, hmag⟩ : ∃ mag, mag = 2 * (m * 18014398509481984 / n) + (m * 18014398509481984 % n != 0).toNat := ⟨_, rfl⟩
  have k1 : mag * n ≤ m * 36028797018963968 + n := by
    rw [hmag, Nat.add_mul, Nat.mul_assoc 2, Nat.mul_comm _ n]
    rcases hst with ⟨q, r⟩ | q <;> rw [q] <;> omega
  have k2 : m * 36028797018963968 ≤ mag * n + n := by
    rw [hmag, Nat.add_mul, Nat.mul_assoc 2, Nat.mul_comm _ n]
    rcases hst with ⟨q, r⟩ | q <;> rw [q] <;> omega
  rw [← hmag] at hq
  have g1 : 18014398509481984 ≤ mag := by omega
  have g2 : mag < 144115188075855872 := by
    have : (m * 18014398509481984 % n != 0).toNat ≤ 1 := Bool.toNat_le _
    omega
  have g3 := log_ge (m := mag) (by omega) 54 g1
  have g4 := log_lt (m := mag) (by omega) 57 g2
  clear hmag hst d1 d2 l1 l2
  obtain ⟨m', p', e1, e2, e3, e4, e5, e6, e7, e8⟩ := nearest_num (decide (a < 0)) mag (i - j - 54 - 1) (by omega) (by omega) (by omega) (by omega)
  refine ⟨_, m', p', by unfold Format.div; rw [fa.rd, fb.rd, hq]; rfl, ⟨e1, by omega⟩, e2, e3, by omega, by omega, ?_⟩
  clear e8 e4 e5 e1 hq
  rw [show (i - j - 54 - 1 + 1074).toNat = P from by omega] at e6 e7
  rw [show (i + 1074).toNat = I from by omega] at em
  rw [show (j + 1074).toNat = J from by omega] at en
  have hA : a.natAbs * 2 ^ kS * 2 ^ kS = m * 2 ^ (P + J) * 36028797018963968 := by
    rw [← em, Nat.mul_assoc, ← Nat.pow_add, Nat.mul_assoc, show (36028797018963968 : Nat) = 2 ^ 55 from rfl, ← Nat.pow_add, show I + kS = P + J + 55 from by unfold kS; omega]
  have hG : 2 ^ P * 2 ^ J = 2 ^ (P + J) := (Nat.pow_add ..).symm
  have hpos : 0 < 2 ^ kS := Nat.pow_pos (by omega)
  have hnm : n ≤ 2 * m := by omega
  generalize m' * 2 ^ (p' + 1074).toNat = Y at *
  -- everything is a multiple of what one unit is
  have x1 : mag * 2 ^ P * (n * 2 ^ J) = mag * n * 2 ^ (P + J) := by rw [← hG]; ac_rfl
  have x2 := Nat.mul_le_mul_right (2 ^ (P + J)) k1
  have x3 := Nat.mul_le_mul_right (2 ^ (P + J)) k2
  have x4 := Nat.mul_le_mul_right (2 ^ (P + J)) hnm
  have x5 := Nat.mul_le_mul_right (n * 2 ^ J) e6
  have x6 := Nat.mul_le_mul_right (n * 2 ^ J) e7
  rw [Nat.add_mul] at x2 x3
  rw [← x1] at x2 x3
  rw [show m * 36028797018963968 * 2 ^ (P + J) = m * 2 ^ (P + J) * 36028797018963968 from by ac_rfl] at x2 x3
  rw [Nat.mul_assoc 2] at x4
  rw [show Y * 4503599627370496 * (n * 2 ^ J) = Y * (n * 2 ^ J) * 4503599627370496 from by ac_rfl, show mag * 2 ^ P * 4503599627370497 * (n * 2 ^ J) = mag * 2 ^ P * (n * 2 ^ J) * 4503599627370497 from by ac_rfl] at x5
  rw [Nat.add_mul, show Y * 4503599627370496 * (n * 2 ^ J) = Y * (n * 2 ^ J) * 4503599627370496 from by ac_rfl, show mag * 2 ^ P * 4503599627370496 * (n * 2 ^ J) = mag * 2 ^ P * (n * 2 ^ J) * 4503599627370496 from by ac_rfl] at x6
  have hY : Y * b.natAbs * 2 ^ kS = Y * (n * 2 ^ J) := by rw [Nat.mul_assoc, en]
  generalize mag * 2 ^ P * (n * 2 ^ J) = x at *
  generalize n * 2 ^ (P + J) = u at *
  generalize m * 2 ^ (P + J) = z at *
  generalize 2 ^ kS = S at *
  generalize a.natAbs = A at *
  generalize b.natAbs = B at *
  constructor
  · refine Nat.le_of_mul_le_mul_right (c := S) ?_ hpos
    rw [show Y * B * 1125899906842624 * S = Y * B * S * 1125899906842624 from by ac_rfl, hY, show A * S * 1125899906842625 * S = A * S * S * 1125899906842625 from by ac_rfl, hA]
    exact (div_lin x2 x3 x4 x5 x6).1
  · refine Nat.le_of_mul_le_mul_right (c := S) ?_ hpos
    rw [Nat.add_mul, show Y * B * 1125899906842624 * S = Y * B * S * 1125899906842624 from by ac_rfl, hY, show A * S * 1125899906842624 * S = A * S * S * 1125899906842624 from by ac_rfl, hA]
    exact (div_lin x2 x3 x4 x5 x6).2
theorem natAbs_signed (s : Bool) (m k : Nat) : (signed s m k).natAbs = m * 2 ^ k := by
  rw [signed_eq]
  cases s <;> simp [Int.natAbs_mul]
theorem log_mul {n k : Nat} (h1 : 4503599627370496 ≤ n) (h2 : n < 9007199254740992) : (n * 2 ^ k).log2 = 52 + k := by
  have hp : 0 < 2 ^ k := Nat.pow_pos (by omega)
  have h0 : n * 2 ^ k ≠ 0 := Nat.ne_of_gt (Nat.mul_pos (by omega) hp)
  have a := log_ge h0 (52 + k) (by rw [Nat.pow_add]; exact Nat.mul_le_mul_right _ h1)
  have b := log_lt h0 (53 + k) (by rw [Nat.pow_add]; exact Nat.mul_lt_mul_of_pos_right h2 hp)
  omega
/-- a difference, nearly -/
theorem fl_sub {x y : Nat} {s t : Bool} {m n : Nat} {i j : Int} (hx : Fin x s m i) (hy : Fin y t n j) (gx : Rg m i) (gy : Rg n j) :
    ∃ d sd md pd, double.sub x y = some d ∧ Fin d sd md pd ∧ (sc s m i - sc t n j = 0 → sc sd md pd = 0) ∧
      (0 < sc s m i - sc t n j → 0 ≤ sc sd md pd ∧ sc sd md pd * 4503599627370496 ≤ (sc s m i - sc t n j) * 4503599627370497) ∧
      (sc s m i - sc t n j < 0 → sc sd md pd ≤ 0 ∧ -sc sd md pd * 4503599627370496 ≤ -(sc s m i - sc t n j) * 4503599627370497) := by
  obtain ⟨base, hb⟩ : ∃ base, base = min i j := ⟨_, rfl⟩
  obtain ⟨T, hT⟩ : ∃ T, T = signed s m (i - base).toNat + signed (!t) n (j - base).toNat := ⟨_, rfl⟩
  have b1 := hx.lo
  have b2 := hy.lo
  have neg_signed : ∀ (t : Bool) (n k : Nat), signed (!t) n k = -signed t n k := by
    intro t n k; rw [signed_eq, signed_eq]; cases t <;> simp
  have hTs : T * 2 ^ (base + 1074).toNat = sc s m i - sc t n j := by
    rw [hT, neg_signed]
    unfold sc
    rw [show (i + 1074).toNat = (i - base).toNat + (base + 1074).toNat from by omega, show (j + 1074).toNat = (j - base).toNat + (base + 1074).toNat from by omega]
    rw [signed_scale, signed_scale, Int.add_mul, Int.neg_mul]; rfl
  have hsum : double.sub x y = some (double.write (.number (if T = 0 then s && !t else T < 0) T.natAbs base)) := by
    unfold Format.sub
    rw [hx.rd, hy.rd]
    show Option.map double.write (some (.number (if signed s m (i - min i j).toNat + signed (!t) n (j - min i j).toNat = 0 then s && !t else decide (signed s m (i - min i j).toNat + signed (!t) n (j - min i j).toNat < 0)) (signed s m (i - min i j).toNat + signed (!t) n (j - min i j).toNat).natAbs (min i j))) = _
    rw [← hb, ← hT]; rfl
  have hpos : (0 : Int) < 2 ^ (base + 1074).toNat := Int.pow_pos (by omega)
  rw [← hTs]
  by_cases h0 : T = 0
  · rw [hsum, if_pos h0, h0]
    refine ⟨_, (s && !t), 0, -1074, rfl, ⟨?_, by omega⟩, ?_, ?_, ?_⟩
    · show double.read (double.nearest (s && !t) 0 base) = _
      unfold Format.nearest
      rw [if_pos rfl, read_word _ 0 (by omega)]; rfl
    · intro _; exact sc_zero _ _
    · intro h; simp at h
    · intro h; simp at h
  · have hbig : base + T.natAbs.log2 ≤ 900 ∧ -1000 ≤ base + T.natAbs.log2 := by
      rcases gx with ⟨m0, i0⟩ | ⟨m1, m2, i1, i2⟩
      · subst m0
        have z1 : signed s 0 (i - base).toNat = 0 := by rw [signed_eq]; simp
        rw [z1, Int.zero_add] at hT
        rcases gy with ⟨n0, j0⟩ | ⟨n1, n2, j1, j2⟩
        · subst n0
          exact absurd (by rw [hT, signed_eq]; simp) h0
        · rw [hT, natAbs_signed, log_mul n1 n2]
          omega
      · rcases gy with ⟨n0, j0⟩ | ⟨n1, n2, j1, j2⟩
        · subst n0
          have z1 : signed (!t) 0 (j - base).toNat = 0 := by rw [signed_eq]; simp
          rw [z1, Int.add_zero] at hT
          rw [hT, natAbs_signed, log_mul m1 m2]
          omega
        · obtain ⟨E, hE⟩ : ∃ E, E = 400 := ⟨_, rfl⟩
          have q1 : T.natAbs ≤ m * 2 ^ (i - base).toNat + n * 2 ^ (j - base).toNat := by
            rw [hT, ← natAbs_signed s m, ← natAbs_signed (!t) n]; exact Int.natAbs_add_le _ _
          have q2 : 2 ^ (i - base).toNat ≤ 2 ^ E := Nat.pow_le_pow_right (by omega) (by omega)
          have q3 : 2 ^ (j - base).toNat ≤ 2 ^ E := Nat.pow_le_pow_right (by omega) (by omega)
          have q4 : m * 2 ^ (i - base).toNat ≤ 9007199254740992 * 2 ^ E := Nat.mul_le_mul (by omega) q2
          have q5 : n * 2 ^ (j - base).toNat ≤ 9007199254740992 * 2 ^ E := Nat.mul_le_mul (by omega) q3
          have q6 : T.natAbs.log2 < 455 := log_lt (by omega) 455 (Nat.lt_of_le_of_lt (Nat.le_trans q1 (Nat.add_le_add q4 q5)) (by
            rw [show 455 = 55 + E from by omega, Nat.pow_add]
            have : 0 < 2 ^ E := Nat.pow_pos (by omega)
            generalize 2 ^ E = g at *
            omega))
          clear q1 q2 q3 q4 q5
          omega
    obtain ⟨m', p', e1, e2, e3, e4, e5, e6, e7, e8⟩ := nearest_num (decide (T < 0)) T.natAbs base (by omega) (by omega) hbig.1 hbig.2
    rw [hsum, if_neg h0]
    refine ⟨_, decide (T < 0), m', p', rfl, ⟨e1, by omega⟩, ?_, ?_, ?_⟩
    · intro h
      rcases Int.mul_eq_zero.1 h with q | q
      · exact absurd q h0
      · omega
    · intro h
      have hp : 0 < T := Int.pos_of_mul_pos_left h hpos
      have hd : decide (T < 0) = false := decide_eq_false (by omega)
      rw [hd]
      unfold sc
      rw [signed_eq]
      simp only [Bool.false_eq_true, if_false, Int.one_mul]
      have hTn : T * 2 ^ (base + 1074).toNat = ((T.natAbs * 2 ^ (base + 1074).toNat : Nat) : Int) := by
        push_cast
        rw [show ((T.natAbs : Nat) : Int) = T from by omega]
      rw [hTn]
      omega
    · intro h
      have hp : T < 0 := by
        rcases Int.lt_or_le T 0 with q | q
        · exact q
        · have := Int.mul_nonneg q (Int.le_of_lt hpos); omega
      have hd : decide (T < 0) = true := decide_eq_true hp
      rw [hd]
      unfold sc
      rw [signed_eq]
      simp only [if_true]
      have hTn : T * 2 ^ (base + 1074).toNat = -((T.natAbs * 2 ^ (base + 1074).toNat : Nat) : Int) := by
        push_cast
        rw [show ((T.natAbs : Nat) : Int) = -T from by omega, Int.neg_mul, Int.neg_neg]
      rw [hTn]
      omega
/-- 0.001, as the program writes it, and its negative -/
theorem near_fin : Fin 4562254508917369340 false 4611686018427388 (-62) := ⟨by decide, by omega⟩
theorem nears_fin : Fin 13785626545772145148 true 4611686018427388 (-62) := ⟨by decide, by omega⟩
def nB : Int := sc false 4611686018427388 (-62)
theorem quo_any (a b : Int) (ha : a.natAbs < 1073741824) (b1 : 1 ≤ b) (b2 : b < 1073741824) :
    ∃ q s m p, double.div (Go.floatOfInt .f64 a) (Go.floatOfInt .f64 b) = some q ∧ Fin q s m p ∧ Rg m p ∧
      (sc s m p * b - a * 2 ^ kS) * 1048576 ≤ 2 ^ kS ∧ (a * 2 ^ kS - sc s m p * b) * 1048576 ≤ 2 ^ kS := by
  by_cases h0 : a = 0
  · subst h0
    obtain ⟨n, j, fb, n1, n2, j1, j2, en⟩ := fl_int b (by omega) (by omega)
    have e0 : ¬ n = 0 := by omega
    have e2 : decide (b < 0) = false := decide_eq_false (by omega)
    have hq : ∃ k, Datum.quotient (double.fractionBits + 2) (.number false 0 (-1074)) (.number (decide (b < 0)) n j) = some (.number false 0 k) := by
      unfold Datum.quotient
      simp only [e0, if_false, e2, Bool.xor_false, Nat.zero_shiftLeft, Nat.zero_div, Nat.zero_mod]
      exact ⟨_, rfl⟩
    obtain ⟨k, hk⟩ := hq
    refine ⟨_, false, 0, -1074, by unfold Format.div; rw [fl_zero.rd, fb.rd, hk]; rfl, ⟨?_, by omega⟩, .inl ⟨rfl, rfl⟩, ?_, ?_⟩
    · show double.read (double.nearest false 0 k) = _
      unfold Format.nearest
      rw [if_pos rfl, read_word _ 0 (by omega)]; rfl
    all_goals
      rw [sc_zero]
      have : (0 : Int) < 2 ^ kS := Int.pow_pos (by omega)
      simp only [Int.zero_mul, Int.sub_zero]
      omega
  · obtain ⟨q, m, p, e1, e2, m1, m2, p1, p2, e3, e4⟩ := fl_div a b ha h0 b1 b2
    refine ⟨q, _, m, p, e1, e2, .inr ⟨m1, m2, p1, p2⟩, ?_⟩
    have hS : (2 : Int) ^ kS = ((2 ^ kS : Nat) : Int) := by push_cast; rfl
    have hm : a.natAbs * 2 ^ kS ≤ 1073741824 * 2 ^ kS := Nat.mul_le_mul_right _ (by omega)
    have hB : (b.natAbs : Int) = b := by omega
    unfold sc
    rw [signed_eq, hS]
    rcases Int.lt_or_le a 0 with h | h
    · have hd : decide (a < 0) = true := decide_eq_true h
      have hA : (a.natAbs : Int) = -a := by omega
      rw [hd]
      simp only [if_true]
      have f1 : (-1 : Int) * ((m * 2 ^ (p + 1074).toNat : Nat) : Int) * b = -((m * 2 ^ (p + 1074).toNat * b.natAbs : Nat) : Int) := by
        rw [Int.natCast_mul (m * 2 ^ (p + 1074).toNat) b.natAbs, hB, Int.neg_mul, Int.one_mul, Int.neg_mul]
      have f2 : a * ((2 ^ kS : Nat) : Int) = -((a.natAbs * 2 ^ kS : Nat) : Int) := by
        rw [Int.natCast_mul, hA, Int.neg_mul, Int.neg_neg]
      rw [f1, f2]
      generalize m * 2 ^ (p + 1074).toNat * b.natAbs = Y at *
      generalize a.natAbs * 2 ^ kS = A at *
      generalize 2 ^ kS = S at *
      clear f1 f2 hS e1 e2
      omega
    · have hd : decide (a < 0) = false := decide_eq_false (by omega)
      have hA : (a.natAbs : Int) = a := by omega
      rw [hd]
      simp only [Bool.false_eq_true, if_false, Int.one_mul]
      have f1 : ((m * 2 ^ (p + 1074).toNat : Nat) : Int) * b = ((m * 2 ^ (p + 1074).toNat * b.natAbs : Nat) : Int) := by
        rw [Int.natCast_mul (m * 2 ^ (p + 1074).toNat) b.natAbs, hB]
      have f2 : a * ((2 ^ kS : Nat) : Int) = ((a.natAbs * 2 ^ kS : Nat) : Int) := by
        rw [Int.natCast_mul, hA]
      rw [f1, f2]
      generalize m * 2 ^ (p + 1074).toNat * b.natAbs = Y at *
      generalize a.natAbs * 2 ^ kS = A at *
      generalize 2 ^ kS = S at *
      clear f1 f2 hS e1 e2
      omega
theorem zero_fin : Fin 0 false 0 (-1074) := ⟨by decide, by omega⟩
theorem signed_tf (m k : Nat) : signed true m k = -signed false m k := rfl
theorem sc_nears : sc true 4611686018427388 (-62) = -nB := signed_tf _ _
theorem kS_k : ∃ k, kS = 62 + k ∧ ((-62 : Int) + 1074).toNat = k := ⟨1012, rfl, rfl⟩
theorem nB_big : 2 ^ kS ≤ nB * 2500 := by
  obtain ⟨k, hk, hk2⟩ := kS_k
  have e : nB = 4611686018427388 * 2 ^ k := by
    unfold nB sc signed
    rw [Nat.shiftLeft_eq, hk2]
    show ((4611686018427388 * 2 ^ k : Nat) : Int) = _
    rw [Int.natCast_mul, Int.natCast_pow]; rfl
  rw [e, hk, Int.pow_add]
  have h : (0 : Int) < 2 ^ k := Int.pow_pos (by omega)
  generalize (2 : Int) ^ k = g at *
  omega
theorem far_ok {V1 V2 a1 b1 a2 b2 S d : Int} (hS : 0 < S) (c1 : 1 ≤ b1) (c2 : 1 ≤ b2)
    (h1 : (V1 * b1 - a1 * S) * 1048576 ≤ S) (h2 : (a2 * S - V2 * b2) * 1048576 ≤ S)
    (hd : d * 4503599627370496 ≤ (V1 - V2) * 4503599627370497) (hn : S ≤ d * 2500) : a2 * b1 < a1 * b2 := by
  rcases Int.lt_or_le (a2 * b1) (a1 * b2) with q | q
  · exact q
  · exfalso
    have k1 := Int.mul_le_mul_of_nonneg_right h1 (show 0 ≤ b2 by omega)
    have k2 := Int.mul_le_mul_of_nonneg_right h2 (show 0 ≤ b1 by omega)
    have k3 := Int.mul_le_mul_of_nonneg_right q (Int.le_of_lt hS)
    have k4 : 0 < b1 * b2 := Int.mul_pos (by omega) (by omega)
    have k5 : S * b1 ≤ S * (b1 * b2) := Int.mul_le_mul_of_nonneg_left (by
      have := Int.mul_le_mul_of_nonneg_left c2 (show 0 ≤ b1 by omega); omega) (Int.le_of_lt hS)
    have k6 : S * b2 ≤ S * (b1 * b2) := Int.mul_le_mul_of_nonneg_left (by
      have := Int.mul_le_mul_of_nonneg_right c1 (show 0 ≤ b2 by omega); omega) (Int.le_of_lt hS)
    have e : (V1 - V2) * 1048576 * (b1 * b2) = (V1 * b1 - a1 * S) * 1048576 * b2 + (a2 * S - V2 * b2) * 1048576 * b1 + (a1 * b2 * S - a2 * b1 * S) * 1048576 := by
      simp only [Int.sub_mul]
      have e1 : V1 * b1 * 1048576 * b2 = V1 * 1048576 * (b1 * b2) := by ac_rfl
      have e2 : V2 * b2 * 1048576 * b1 = V2 * 1048576 * (b1 * b2) := by ac_rfl
      have e3 : a1 * S * 1048576 * b2 = a1 * b2 * S * 1048576 := by ac_rfl
      have e4 : a2 * S * 1048576 * b1 = a2 * b1 * S * 1048576 := by ac_rfl
      omega
    have k7 : (V1 - V2) * 1048576 * (b1 * b2) ≤ 2 * S * (b1 * b2) := by
      rw [e, Int.mul_assoc 2 S]; omega
    have k8 := Int.le_of_mul_le_mul_right k7 k4
    omega
/-- the guess tells the later one, or is near -/
theorem guess_ok (a1 b1 a2 b2 : Int) (ha1 : a1.natAbs < 1073741824) (c1 : 1 ≤ b1) (d1 : b1 < 1073741824) (ha2 : a2.natAbs < 1073741824) (c2 : 1 ≤ b2) (d2 : b2 < 1073741824) :
    ∃ (q1 q2 d : Nat) (p1 p2 p3 : Bool), double.div (Go.floatOfInt .f64 a1) (Go.floatOfInt .f64 b1) = some q1 ∧ double.div (Go.floatOfInt .f64 a2) (Go.floatOfInt .f64 b2) = some q2 ∧ double.sub q1 q2 = some d ∧
      (double.order 13785626545772145148 d == some .lt) = p1 ∧ (double.order d 4562254508917369340 == some .lt) = p2 ∧ (double.order d 0 == some .gt) = p3 ∧ (p1 = false ∨ p2 = false → p3 = decide (a2 * b1 < a1 * b2)) := by
  obtain ⟨q1, s1, m1, i1, e1, f1, g1, k1, l1⟩ := quo_any a1 b1 ha1 c1 d1
  obtain ⟨q2, s2, m2, i2, e2, f2, g2, k2, l2⟩ := quo_any a2 b2 ha2 c2 d2
  obtain ⟨d, sd, md, pd, e3, f3, z0, zp, zn⟩ := fl_sub f1 f2 g1 g2
  refine ⟨q1, q2, d, _, _, _, e1, e2, e3, rfl, rfl, rfl, ?_⟩
  rw [order_sc nears_fin f3, order_sc f3 near_fin, order_sc f3 zero_fin, sc_nears, sc_zero]
  have hn := nB_big
  have hS : (0 : Int) < 2 ^ kS := Int.pow_pos (by omega)
  generalize (2 : Int) ^ kS = S at *
  have hnb : sc false 4611686018427388 (-62) = nB := rfl
  rw [hnb]
  generalize sc s1 m1 i1 = V1 at *
  generalize sc s2 m2 i2 = V2 at *
  generalize sc sd md pd = D at *
  intro h
  have hfar : nB ≤ D ∨ D ≤ -nB := by
    rcases h with h | h
    · rw [beq_eq_false_iff_ne] at h
      right
      rcases Int.lt_or_le (-nB) D with q | q
      · exact absurd (by rw [Int.compare_eq_lt.2 q]) h
      · exact q
    · rw [beq_eq_false_iff_ne] at h
      left
      rcases Int.lt_or_le D nB with q | q
      · exact absurd (by rw [Int.compare_eq_lt.2 q]) h
      · exact q
  rcases hfar with q | q
  · have hD : 0 < D := by omega
    have hT : 0 < V1 - V2 := by
      rcases Int.lt_trichotomy (V1 - V2) 0 with r | r | r
      · have := (zn r).1; omega
      · have := z0 r; omega
      · exact r
    have := far_ok hS c1 c2 k1 l2 (zp hT).2 (by omega)
    rw [decide_eq_true this, Int.compare_eq_gt.2 hD]; rfl
  · have hD : D < 0 := by omega
    have hT : V1 - V2 < 0 := by
      rcases Int.lt_trichotomy (V1 - V2) 0 with r | r | r
      · exact r
      · have := z0 r; omega
      · have := (zp r).1; omega
    have := far_ok (d := -D) hS c2 c1 k2 l1 (by have := (zn hT).2; omega) (by omega)
    rw [decide_eq_false (by omega), Int.compare_eq_lt.2 hD]; rfl
/-- a whole number as a float is greater than 0 just if it is -/
theorem int_gt (c : Int) (h : c.natAbs < 1073741824) : (double.order (Go.floatOfInt .f64 c) 0 == some .gt) = decide (0 < c) := by
  by_cases h0 : c = 0
  · subst h0
    rw [order_sc fl_zero zero_fin, sc_zero]; decide
  · obtain ⟨m, p, f, m1, m2, p1, p2, e⟩ := fl_int c h h0
    rw [order_sc f zero_fin, sc_zero]
    have hp : 0 < m * 2 ^ (p + 1074).toNat := Nat.mul_pos (by omega) (Nat.pow_pos (by omega))
    unfold sc
    rw [signed_eq]
    generalize m * 2 ^ (p + 1074).toNat = Y at *
    rcases Int.lt_or_le c 0 with q | q
    · rw [decide_eq_true q, decide_eq_false (show ¬ 0 < c by omega), Int.compare_eq_lt.2 (by simp only [if_true]; omega)]; rfl
    · rw [decide_eq_false (show ¬ c < 0 by omega), decide_eq_true (show 0 < c by omega), Int.compare_eq_gt.2 (by simp only [Bool.false_eq_true, if_false]; omega)]; rfl
end Go.Proofs.Ytolgpjlliaoneaa
