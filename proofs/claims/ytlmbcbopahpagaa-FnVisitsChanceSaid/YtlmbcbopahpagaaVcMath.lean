/- Plain mathematics of the named law of chances (chapter 8): no program is named here. -/
import Derived.Test.YtlmbcbopahpagaaWinMath
import Derived.Test.YtlmbcbopahpagaaHeadMath
namespace Go.Proofs.Ytlmbcbopahpagaa
open Go.RowKit
set_option linter.unusedVariables false
theorem wtri_two (k : Int) (h : 0 ≤ k) : 2 * wtri k = k * (k + 1) := by
  obtain ⟨n, rfl⟩ : ∃ n : Nat, k = (n : Int) := ⟨k.toNat, by omega⟩
  induction n with
  | zero => rfl
  | succ n ih =>
    have s := wtri_step ((n + 1 : Nat) : Int)
    have e : (((n + 1 : Nat) : Int) - 1) = (n : Int) := by omega
    rw [e] at s
    have ih := ih (by omega)
    have p : wps ((n + 1 : Nat) : Int) = (n : Int) + 1 := by unfold wps; rw [if_neg (by omega)]; omega
    have q : ((n + 1 : Nat) : Int) = (n : Int) + 1 := by omega
    rw [p] at s
    rw [s, q, Int.mul_add, ih]
    grind
theorem wtri_neg {k : Int} (h : k ≤ 0) : wtri k = 0 := by unfold wtri; rw [if_pos h]
theorem wtri_bdV {k m : Int} (h : k ≤ m) (hm : 0 ≤ m) : 0 ≤ wtri k ∧ wtri k ≤ wtri m := by
  obtain ⟨n, rfl⟩ : ∃ n : Nat, m = k + (n : Int) := ⟨(m - k).toNat, by omega⟩
  have z : ∀ x : Int, 0 ≤ wtri x := fun x => by
    by_cases hx : x ≤ 0
    · rw [wtri_neg hx]; omega
    · have := wtri_two x (by omega)
      have := Int.mul_nonneg (show 0 ≤ x by omega) (show 0 ≤ x + 1 by omega)
      omega
  refine ⟨z k, ?_⟩
  clear h hm
  induction n with
  | zero => simp
  | succ n ih =>
    have s := wtri_step (k + ((n + 1 : Nat) : Int))
    have e : k + ((n + 1 : Nat) : Int) - 1 = k + (n : Int) := by omega
    rw [e] at s
    have p : 0 ≤ wps (k + ((n + 1 : Nat) : Int)) := by unfold wps; split <;> omega
    omega
theorem wtN_sym {m a b : Int} (h : wmOk m a b = true) : wtN m b a = wtN m a b := by
  have h2 : wmOk m b a = true := by
    obtain ⟨h1, h2, h3, h4, h5, h6⟩ := wmOk_iff.1 h
    exact wmOk_iff.2 ⟨h1, h2, h5, h6, h3, h4⟩
  rw [wtN_eq h, wtN_eq h2]; omega
theorem wtN_low {m a b : Int} (h : wmOk m a b = true) : m ≤ wtN m a b := by
  obtain ⟨h1, h2, h3, h4, h5, h6⟩ := wmOk_iff.1 h
  rw [wtN_eq h]
  have p := wtri_bdV (k := m - 1 - a) (m := m - 1) (by omega) (by omega)
  have q := wtri_bdV (k := m - 1 - b) (m := m - 1) (by omega) (by omega)
  have t := wtri_two (m - 1) (by omega)
  have e : (m - 1) * (m - 1 + 1) = m * m - m := by rw [show m - 1 + 1 = m by omega, Int.sub_mul, Int.one_mul]
  omega
/-- the near ones so far -/
def nrS (m k : Int) : Int := if k = 0 then 0 else m * m - 2 * wtri (m - k)
theorem nrS_step {m k : Int} (hk : 0 ≤ k) (h : k < m) : nrS m (k + 1) = nrS m k + caN m k := by
  unfold nrS caN
  rw [if_neg (by omega)]
  by_cases h0 : k = 0
  · subst h0
    rw [if_pos rfl, if_pos rfl]
    have t := wtri_two (m - 1) (by omega)
    have e : (m - 1) * (m - 1 + 1) = m * m - m := by rw [show m - 1 + 1 = m by omega, Int.sub_mul, Int.one_mul]
    rw [show m - (0 + 1) = m - 1 from by omega]
    omega
  · rw [if_neg h0, if_neg h0]
    have s := wtri_step (m - k)
    rw [show m - k - 1 = m - (k + 1) from by omega] at s
    omega
theorem nrS_end {m a k : Int} (h : wmOk m a a = true) (hk : 0 ≤ k) (hm : k ≤ m) (ha : k ≤ a + 1) (he : k = m ∨ k = a + 1) : nrS m k = wtN m a a := by
  obtain ⟨h1, h2, h3, h4, h5, h6⟩ := wmOk_iff.1 h
  rw [wtN_eq h]
  unfold nrS
  rw [if_neg (by omega)]
  rcases he with rfl | rfl
  · rw [wtri_neg (show k - 1 - a ≤ 0 by omega), Int.sub_self, wtri_neg (Int.le_refl 0)]; omega
  · rw [show m - (a + 1) = m - 1 - a from by omega]; omega
theorem caN_bdV {m k : Int} (hk : 0 ≤ k) (h : k ≤ 200) (hm : 1 ≤ m) (h2 : m ≤ 200) : 0 ≤ caN m k ∧ caN m k ≤ 400 := by
  unfold caN wps
  split
  · omega
  · split <;> omega
theorem nrS_bd {m k : Int} (hk : 0 ≤ k) (h : k ≤ m) (hm : 1 ≤ m) (h2 : m ≤ 200) : 0 ≤ nrS m k ∧ nrS m k ≤ 40000 := by
  have r := mul_bd m m 200 200 (by omega) h2 (by omega) h2
  unfold nrS
  split
  · omega
  · have p := wtri_bdV (k := m - k) (m := m - 1) (by omega) (by omega)
    have t := wtri_two (m - 1) (by omega)
    have e : (m - 1) * (m - 1 + 1) = m * m - m := by rw [show m - 1 + 1 = m by omega, Int.sub_mul, Int.one_mul]
    omega
/-- two that come within one stay, counted as a list of two -/
theorem cw_two {m s : Int} (hs : 0 ≤ s) : ∀ f : Nat, (f : Int) ≤ m → cwN m s 2 f = 2 * (m * f) - f * f - 2 * (wtri (m - 1 - s) - wtri (m - 1 - s - f))
  | 0, _ => by
    unfold cwN
    rw [show m - 1 - s - ((0 : Nat) : Int) = m - 1 - s from by omega]
    simp
  | f + 1, hf => by
    have ih := cw_two (m := m) hs f (by omega)
    have t := wtri_step (m - 1 - s - (f : Int))
    rw [show m - 1 - s - (f : Int) - 1 = m - 1 - s - ((f + 1 : Nat) : Int) from by omega] at t
    unfold cwN
    rw [ih]
    have e1 : m * ((f + 1 : Nat) : Int) = m * f + m := by rw [Int.natCast_add, Int.mul_add]; simp
    have e2 : ((f + 1 : Nat) : Int) * ((f + 1 : Nat) : Int) = f * f + 2 * f + 1 := by rw [Int.natCast_add, Int.mul_add, Int.add_mul]; simp; omega
    rw [e1, e2]
    have w : wide m s f = (m - 1 - (f : Int)) - wps (m - 1 - s - (f : Int)) := by unfold wide low wps; split <;> split <;> omega
    have sq : (wide m s f + 1) ^ 2 - wide m s f ^ 2 = 2 * wide m s f + 1 := by
      generalize wide m s f = x
      have p : ∀ y : Int, y ^ 2 = y * y := fun y => by rw [Int.pow_succ, Int.pow_succ, Int.pow_zero, Int.one_mul]
      rw [p, p, Int.mul_add, Int.add_mul]; omega
    rw [sq, w]
    omega
theorem cw_two_all {m s : Int} (h : wmOk m s s = true) (hm : 1 ≤ m) : cwN m s 2 m.toNat = wtN m s s := by
  obtain ⟨h1, h2, h3, h4, h5, h6⟩ := wmOk_iff.1 h
  rw [wtN_eq h, cw_two h3 m.toNat (by omega)]
  have e : (m.toNat : Int) = m := by omega
  rw [e, wtri_neg (show m - 1 - s - m ≤ 0 by omega)]
  omega
/-- the powers: steps grow -/
theorem pow_step {x y : Int} (hx : 0 ≤ x) (h : x ≤ y) : ∀ p : Nat, (x + 1) ^ p - x ^ p ≤ (y + 1) ^ p - y ^ p ∧ 0 ≤ (x + 1) ^ p - x ^ p ∧ 0 ≤ x ^ p ∧ x ^ p ≤ y ^ p
  | 0 => by simp
  | p + 1 => by
    obtain ⟨a, b, c, d⟩ := pow_step hx h p
    rw [Int.pow_succ, Int.pow_succ, Int.pow_succ, Int.pow_succ]
    generalize (x + 1) ^ p = X at *
    generalize x ^ p = x' at *
    generalize (y + 1) ^ p = Y at *
    generalize y ^ p = y' at *
    have e1 : X * (x + 1) - x' * x = (X - x') * x + X := by rw [Int.mul_add, Int.sub_mul]; omega
    have e2 : Y * (y + 1) - y' * y = (Y - y') * y + Y := by rw [Int.mul_add, Int.sub_mul]; omega
    have m1 : (X - x') * x ≤ (Y - y') * x := Int.mul_le_mul_of_nonneg_right a hx
    have m2 : (Y - y') * x ≤ (Y - y') * y := Int.mul_le_mul_of_nonneg_left h (by omega)
    have m3 : 0 ≤ (X - x') * x := Int.mul_nonneg b hx
    have m4 : 0 ≤ x' * x := Int.mul_nonneg c hx
    have m5 : x' * x ≤ y' * x := Int.mul_le_mul_of_nonneg_right d hx
    have m6 : y' * x ≤ y' * y := Int.mul_le_mul_of_nonneg_left h (by omega)
    rw [e1, e2]
    omega
theorem pow_one_le {x : Int} (hx : 0 ≤ x) : ∀ p : Nat, 1 ≤ (x + 1) ^ p
  | 0 => by simp
  | p + 1 => by
    have ih := pow_one_le hx p
    rw [Int.pow_succ, Int.mul_add, Int.mul_one]
    have := Int.mul_nonneg (show 0 ≤ (x + 1) ^ p by omega) hx
    omega
/-- every step is one at least -/
theorem pow_step_one {x : Int} (hx : 0 ≤ x) (p : Nat) : 1 ≤ (x + 1) ^ (p + 1) - x ^ (p + 1) := by
  obtain ⟨a, b, c, d⟩ := pow_step hx (Int.le_refl x) p
  have o := pow_one_le hx p
  rw [Int.pow_succ, Int.pow_succ]
  generalize (x + 1) ^ p = X at *
  generalize x ^ p = x' at *
  have e1 : X * (x + 1) - x' * x = (X - x') * x + X := by rw [Int.mul_add, Int.sub_mul]; omega
  have m3 : 0 ≤ (X - x') * x := Int.mul_nonneg b hx
  rw [e1]; omega
/-- the steps grow strictly from the second power on -/
theorem pow_step_lt {x y : Int} (hx : 0 ≤ x) (h : x < y) (p : Nat) : (x + 1) ^ (p + 2) - x ^ (p + 2) < (y + 1) ^ (p + 2) - y ^ (p + 2) := by
  obtain ⟨a, b, c, d⟩ := pow_step hx (Int.le_of_lt h) (p + 1)
  have o := pow_step_one (show 0 ≤ y by omega) p
  have g : (x + 1) ^ (p + 1) ≤ (y + 1) ^ (p + 1) := by omega
  rw [Int.pow_succ _ (p + 1), Int.pow_succ _ (p + 1), Int.pow_succ _ (p + 1), Int.pow_succ _ (p + 1)]
  generalize (x + 1) ^ (p + 1) = X at *
  generalize x ^ (p + 1) = x' at *
  generalize (y + 1) ^ (p + 1) = Y at *
  generalize y ^ (p + 1) = y' at *
  have e1 : X * (x + 1) - x' * x = (X - x') * x + X := by rw [Int.mul_add, Int.sub_mul]; omega
  have e2 : Y * (y + 1) - y' * y = (Y - y') * y + Y := by rw [Int.mul_add, Int.sub_mul]; omega
  have m1 : (X - x') * x ≤ (Y - y') * x := Int.mul_le_mul_of_nonneg_right a hx
  have m2 : (Y - y') * x + (Y - y') ≤ (Y - y') * y := by
    have : (Y - y') * (x + 1) ≤ (Y - y') * y := Int.mul_le_mul_of_nonneg_left (by omega) (by omega)
    rw [Int.mul_add, Int.mul_one] at this; exact this
  rw [e1, e2]; omega
/-- all lists, by how they begin: what is missed -/
theorem cw_all {m s : Int} (hs : 0 ≤ s) (p : Nat) (hp : 1 ≤ p) : ∀ f : Nat, (f : Int) ≤ m → (f : Int) ≤ cwN m s p f ∧ cwN m s p f ≤ m ^ p - (m - f) ^ p
  | 0, _ => by simp [cwN]
  | f + 1, hf => by
    obtain ⟨a, b⟩ := cw_all (m := m) hs p hp f (by omega)
    have w1 : 0 ≤ wide m s f ∧ wide m s f ≤ m - 1 - (f : Int) := by unfold wide low; split <;> omega
    obtain ⟨c, _, _, _⟩ := pow_step w1.1 w1.2 p
    obtain ⟨q, rfl⟩ : ∃ q, p = q + 1 := ⟨p - 1, by omega⟩
    have o := pow_step_one w1.1 q
    unfold cwN
    rw [show m - ((f + 1 : Nat) : Int) = m - 1 - (f : Int) from by omega]
    rw [show m - 1 - (f : Int) + 1 = m - (f : Int) from by omega] at c
    omega
theorem cw_full {m s : Int} (p : Nat) (h : m - 1 ≤ s) : ∀ f : Nat, (f : Int) ≤ m → cwN m s p f = m ^ p - (m - f) ^ p
  | 0, _ => by simp [cwN]
  | f + 1, hf => by
    have a := cw_full (m := m) p h f (by omega)
    have w1 : wide m s f = m - 1 - (f : Int) := by unfold wide low; split <;> omega
    unfold cwN
    rw [a, w1, show m - ((f + 1 : Nat) : Int) = m - 1 - (f : Int) from by omega, show m - 1 - (f : Int) + 1 = m - (f : Int) from by omega]
    omega
theorem cw_one {m s : Int} : ∀ f : Nat, cwN m s 1 f = (f : Int)
  | 0 => by simp [cwN]
  | f + 1 => by
    unfold cwN
    rw [cw_one f]
    have p : ∀ y : Int, y ^ 1 = y := fun y => by rw [Int.pow_succ, Int.pow_zero, Int.one_mul]
    rw [p, p]; omega
theorem cw_less {m s : Int} (hs : 0 ≤ s) (h : s < m - 1) (p : Nat) : ∀ f : Nat, (f : Int) + 1 ≤ m → cwN m s (p + 2) (f + 1) < m ^ (p + 2) - (m - (f + 1 : Nat)) ^ (p + 2)
  | 0, _ => by
    have w1 : wide m s 0 = s := by unfold wide low; split <;> omega
    have c := pow_step_lt hs h p
    simp only [cwN, w1]
    rw [show m - ((0 + 1 : Nat) : Int) = m - 1 from by omega]
    rw [show m - 1 + 1 = m from by omega] at c
    omega
  | f + 1, hf => by
    have a := cw_less (m := m) hs h p f (by omega)
    have w1 : 0 ≤ wide m s (f + 1) ∧ wide m s (f + 1) ≤ m - 1 - ((f + 1 : Nat) : Int) := by unfold wide low; split <;> omega
    obtain ⟨c, _, _, _⟩ := pow_step w1.1 w1.2 (p + 2)
    rw [cwN]
    rw [show m - ((f + 1 + 1 : Nat) : Int) = m - 1 - ((f + 1 : Nat) : Int) from by omega]
    rw [show m - 1 - ((f + 1 : Nat) : Int) + 1 = m - ((f + 1 : Nat) : Int) from by omega] at c
    omega
/-- how many lists: between, and all of them just where nobody can miss -/
theorem cw_facts {m p s : Int} (h : cwOk m p s = true) : m ≤ cwN m s p.toNat m.toNat ∧ cwN m s p.toNat m.toNat ≤ m ^ p.toNat ∧ (cwN m s p.toNat m.toNat = m ^ p.toNat ↔ (m - 1 ≤ s ∨ p = 1)) := by
  obtain ⟨h1, h2, h3, h4, h5, h6⟩ := cwOk_iff.1 h
  have e : (m.toNat : Int) = m := by omega
  have z : ∀ q : Nat, 1 ≤ q → (m - (m.toNat : Int)) ^ q = 0 := fun q hq => by
    obtain ⟨r, rfl⟩ : ∃ r, q = r + 1 := ⟨q - 1, by omega⟩
    rw [e, Int.sub_self, Int.pow_succ, Int.mul_zero]
  have a := cw_all (m := m) h5 p.toNat (by omega) m.toNat (by omega)
  rw [z _ (by omega), e] at a
  refine ⟨a.1, by omega, ?_⟩
  by_cases q1 : m - 1 ≤ s
  · have f := cw_full (m := m) p.toNat q1 m.toNat (by omega)
    rw [z _ (by omega)] at f
    simp only [q1, true_or, iff_true]
    omega
  · by_cases q2 : p = 1
    · subst q2
      have f := cw_one (m := m) (s := s) m.toNat
      have p1 : m ^ (1 : Int).toNat = m := by rw [show (1 : Int).toNat = 1 from rfl, Int.pow_succ, Int.pow_zero, Int.one_mul]
      rw [p1, show (1 : Int).toNat = 1 from rfl]
      simp only [or_true, iff_true]
      omega
    · obtain ⟨r, hr⟩ : ∃ r, p.toNat = r + 2 := ⟨p.toNat - 2, by omega⟩
      obtain ⟨g, hg⟩ : ∃ g, m.toNat = g + 1 := ⟨m.toNat - 1, by omega⟩
      have f := cw_less (m := m) h5 (by omega) r g (by omega)
      rw [← hg, ← hr, z _ (by omega)] at f
      simp only [q1, q2, or_self, iff_false]
      omega
/-- the sum of the gaps so far, three times -/
def gpS (n : Int) : Nat → Int
  | 0 => 0
  | i + 1 => gpS n i + (i : Int) * caN n i
theorem gpS_eq (n : Int) : ∀ i : Nat, (i : Int) ≤ n → 3 * gpS n i = (i : Int) * (i - 1) * (3 * n - 2 * i + 1)
  | 0, _ => by simp [gpS]
  | i + 1, h => by
    have ih := gpS_eq n i (by omega)
    unfold gpS
    by_cases h0 : i = 0
    · subst h0; simp [gpS]
    · have c : caN n i = 2 * (n - i) := by unfold caN wps; rw [if_neg (by omega), if_neg (by omega)]
      rw [Int.mul_add, ih, c]
      rw [show ((i + 1 : Nat) : Int) = (i : Int) + 1 from by omega]
      generalize (i : Int) = x
      rw [show x + 1 - 1 = x from by omega]
      grind
theorem gpS_all {n : Int} (h : 1 ≤ n) : 3 * gpS n n.toNat = n * (n * n - 1) := by
  have e : (n.toNat : Int) = n := by omega
  have g := gpS_eq n n.toNat (by omega)
  rw [e] at g
  rw [g]
  grind
theorem gpS_bd {n : Int} (h : 1 ≤ n) (h2 : n ≤ 200) : ∀ i : Nat, (i : Int) ≤ n → 0 ≤ gpS n i ∧ gpS n i ≤ 80000 * (i : Int)
  | 0, _ => by simp [gpS]
  | i + 1, hi => by
    have ih := gpS_bd h h2 i (by omega)
    have c := caN_bdV (m := n) (k := (i : Int)) (by omega) (by omega) h h2
    have p := mul_bd (i : Int) (caN n i) 200 400 (by omega) (by omega) c.1 c.2
    unfold gpS
    omega
end Go.Proofs.Ytlmbcbopahpagaa
