/- Plain mathematics of chapter 8 (windows): no program is named here. -/
import Derived.Test.YtlmbcbopahpagaaDogMath
import Derived.Test.YtlmbcbopahpagaaTwoMathL
import Derived.Test.YtlmbcbopahpagaaAreAll0
namespace Go.Proofs.Ytlmbcbopahpagaa
open Go.RowKit
set_option linter.unusedVariables false
/-- moments and stays -/
def wmOk (m a b : Int) : Bool := inB m 1 200 && inB a 0 200 && inB b 0 200
theorem wmOk_iff {m a b : Int} : wmOk m a b = true ↔ 1 ≤ m ∧ m ≤ 200 ∧ 0 ≤ a ∧ a ≤ 200 ∧ 0 ≤ b ∧ b ≤ 200 := by
  unfold wmOk; rw [Bool.and_eq_true, Bool.and_eq_true, inB_iff, inB_iff, inB_iff]; omega
/-- of the first times of the second one, how many meet a time of the first one -/
def wrC (a b x : Int) : Nat → Int
  | 0 => 0
  | j + 1 => wrC a b x j + (if (j : Int) - x ≤ a ∧ x - (j : Int) ≤ b then 1 else 0)
/-- of the first times of the first one, how many pairs meet -/
def wtC (a b : Int) (m : Nat) : Nat → Int
  | 0 => 0
  | i + 1 => wtC a b m i + wrC a b (i : Int) m
theorem wrC_bd (a b x : Int) : ∀ j, 0 ≤ wrC a b x j ∧ wrC a b x j ≤ (j : Int)
  | 0 => by simp [wrC]
  | j + 1 => by
    have ih := wrC_bd a b x j
    unfold wrC
    split <;> omega
theorem wtC_bd (a b : Int) (m : Nat) : ∀ i : Nat, 0 ≤ wtC a b m i ∧ wtC a b m i ≤ (i : Int) * (m : Int)
  | 0 => by simp [wtC]
  | i + 1 => by
    have ih := wtC_bd a b m i
    have h := wrC_bd a b (i : Int) m
    unfold wtC
    have e : ((i + 1 : Nat) : Int) * (m : Int) = (i : Int) * (m : Int) + (m : Int) := by rw [Int.natCast_add, Int.add_mul]; simp
    omega
/-- what is above nothing -/
def wps (k : Int) : Int := if k ≤ 0 then 0 else k
/-- the sum of the numbers up to one -/
def wtri (k : Int) : Int := if k ≤ 0 then 0 else k * (k + 1) / 2
theorem wtri_step (k : Int) : wtri k = wtri (k - 1) + wps k := by
  unfold wtri wps
  have e1 : k * (k + 1) = k * k + k := by rw [Int.mul_add, Int.mul_one]
  have e2 : (k - 1) * (k - 1 + 1) = k * k - k := by
    rw [show k - 1 + 1 = k by omega, Int.sub_mul, Int.one_mul]
  rw [e1, e2]
  by_cases h : k ≤ 0
  · rw [if_pos h, if_pos (show k - 1 ≤ 0 by omega), if_pos h]; rfl
  · by_cases h1 : k = 1
    · subst h1; rfl
    · rw [if_neg h, if_neg (show ¬ k - 1 ≤ 0 by omega), if_neg h]; omega
theorem wrC_eq {a b x : Int} (ha : 0 ≤ a) (hb : 0 ≤ b) (hx : 0 ≤ x) : ∀ j : Nat, wrC a b x j = (if (j : Int) ≤ x - b then 0 else if (j : Int) ≤ x + a then (j : Int) - wps (x - b) else x + a + 1 - wps (x - b))
  | 0 => by unfold wrC wps; (repeat' split) <;> omega
  | j + 1 => by
    have ih := wrC_eq ha hb hx j
    unfold wrC
    rw [ih]
    unfold wps
    (repeat' split) <;> omega
theorem wrC_row {a b x : Int} {m : Nat} (ha : 0 ≤ a) (hb : 0 ≤ b) (hx : 0 ≤ x) (hm : x < (m : Int)) : wrC a b x m = (m : Int) - wps ((m : Int) - 1 - a - x) - wps (x - b) := by
  rw [wrC_eq ha hb hx]
  unfold wps
  (repeat' split) <;> omega
theorem wtC_eq {a b : Int} {m : Nat} (ha : 0 ≤ a) (hb : 0 ≤ b) : ∀ i : Nat, i ≤ m → wtC a b m i = (i : Int) * (m : Int) - (wtri ((m : Int) - 1 - a) - wtri ((m : Int) - 1 - a - i)) - wtri ((i : Int) - 1 - b)
  | 0, _ => by
    unfold wtC
    have h : wtri ((0 : Nat) - 1 - b : Int) = 0 := by unfold wtri; rw [if_pos (by omega)]
    rw [h]
    have e : (m : Int) - 1 - a - ((0 : Nat) : Int) = (m : Int) - 1 - a := by omega
    rw [e]
    simp
  | i + 1, hi => by
    unfold wtC
    rw [wtC_eq ha hb i (by omega), wrC_row ha hb (by omega) (by omega)]
    have s1 := wtri_step ((m : Int) - 1 - a - i)
    have s2 := wtri_step ((i : Int) - b)
    have e : ((i + 1 : Nat) : Int) * (m : Int) = (i : Int) * (m : Int) + (m : Int) := by rw [Int.natCast_add, Int.add_mul]; simp
    have e1 : (m : Int) - 1 - a - ((i + 1 : Nat) : Int) = (m : Int) - 1 - a - i - 1 := by omega
    have e2 : ((i + 1 : Nat) : Int) - 1 - b = (i : Int) - b := by omega
    have e3 : (i : Int) - b - 1 = (i : Int) - 1 - b := by omega
    rw [e3] at s2
    rw [e, e1, e2]
    omega
/-- how many pairs meet -/
def wtN (m a b : Int) : Int := wtC a b m.toNat m.toNat
theorem wtN_eq {m a b : Int} (h : wmOk m a b = true) : wtN m a b = m * m - wtri (m - 1 - a) - wtri (m - 1 - b) := by
  obtain ⟨h1, h2, h3, h4, h5, h6⟩ := wmOk_iff.1 h
  unfold wtN
  rw [wtC_eq h3 h5 _ (Nat.le_refl _)]
  have e : (m.toNat : Int) = m := by omega
  rw [e]
  have e2 : wtri (m - 1 - a - m) = 0 := by unfold wtri; rw [if_pos (by omega)]
  rw [e2]
  omega
theorem wtN_bd {m a b : Int} (h : wmOk m a b = true) : 0 ≤ wtN m a b ∧ wtN m a b ≤ m * m ∧ m * m ≤ 40000 ∧ 1 ≤ m * m := by
  obtain ⟨h1, h2, h3, h4, h5, h6⟩ := wmOk_iff.1 h
  have q := wtC_bd a b m.toNat m.toNat
  have e : (m.toNat : Int) = m := by omega
  rw [e] at q
  have r := mul_bd m m 200 200 (by omega) h2 (by omega) h2
  have s : 1 * 1 ≤ m * m := Int.mul_le_mul h1 h1 (by omega) (by omega)
  exact ⟨q.1, q.2, by omega, by omega⟩
/-- a span and stays in it -/
def wlOk (l a b : Int) : Bool := inB l 1 200 && inB a 0 l && inB b 0 l
theorem wlOk_iff {l a b : Int} : wlOk l a b = true ↔ 1 ≤ l ∧ l ≤ 200 ∧ 0 ≤ a ∧ a ≤ l ∧ 0 ≤ b ∧ b ≤ l := by
  unfold wlOk; rw [Bool.and_eq_true, Bool.and_eq_true, inB_iff, inB_iff, inB_iff]; omega
/-- the chance by stays, over twice the square of the span -/
def wsS (l a b : Int) : Int := 2 * l * l - (l - a) * (l - a) - (l - b) * (l - b)
theorem wsS_bd {l a b : Int} (h : wlOk l a b = true) : 0 ≤ wsS l a b ∧ wsS l a b ≤ 2 * l * l ∧ 1 ≤ 2 * l * l ∧ 2 * l * l ≤ 80000 ∧ 0 ≤ (l - a) * (l - a) ∧ (l - a) * (l - a) ≤ 40000 ∧ 0 ≤ (l - b) * (l - b) ∧ (l - b) * (l - b) ≤ 40000 := by
  obtain ⟨h1, h2, h3, h4, h5, h6⟩ := wlOk_iff.1 h
  have p := mul_bd (l - a) (l - a) l l (by omega) (by omega) (by omega) (by omega)
  have q := mul_bd (l - b) (l - b) l l (by omega) (by omega) (by omega) (by omega)
  have r := mul_bd l l 200 200 (by omega) h2 (by omega) h2
  have s : 1 * 1 ≤ l * l := Int.mul_le_mul h1 h1 (by omega) (by omega)
  have e : 2 * l * l = 2 * (l * l) := Int.mul_assoc ..
  unfold wsS
  rw [e]
  omega
/-- the first number of some with a property -/
def fsB (P : Nat → Bool) : Nat → Bool
  | 0 => false
  | n + 1 => fsB P n || P n
def fsV (P : Nat → Bool) : Nat → Nat
  | 0 => 0
  | n + 1 => if fsB P n then fsV P n else if P n then n else 0
theorem fs_no {P : Nat → Bool} : ∀ {n : Nat}, (∀ k, k < n → P k = false) → fsB P n = false ∧ fsV P n = 0
  | 0, _ => ⟨rfl, rfl⟩
  | n + 1, h => by
    have ih := fs_no (P := P) (n := n) fun k hk => h k (by omega)
    simp [fsB, fsV, ih.1, h n (by omega)]
theorem fs_yes {P : Nat → Bool} {i : Nat} (hp : P i = true) (h : ∀ k, k < i → P k = false) : ∀ {n : Nat}, i < n → fsB P n = true ∧ fsV P n = i
  | 0, hi => absurd hi (Nat.not_lt_zero _)
  | n + 1, hi => by
    by_cases q : i = n
    · subst q
      have ih := fs_no (P := P) (n := i) h
      simp [fsB, fsV, ih.1, hp]
    · have ih := fs_yes hp h (n := n) (by omega)
      simp [fsB, fsV, ih.1, ih.2]
/-- a stay is enough for a chance -/
def lsB (l u v : Int) (s : Nat) : Bool := decide (u * 2 * l * l ≤ wsS l s s * v)
def lsOk (l u v : Int) : Bool := inB l 1 200 && inB u 0 1000 && inB v 1 1000
theorem lsOk_iff {l u v : Int} : lsOk l u v = true ↔ 1 ≤ l ∧ l ≤ 200 ∧ 0 ≤ u ∧ u ≤ 1000 ∧ 1 ≤ v ∧ v ≤ 1000 := by
  unfold lsOk; rw [Bool.and_eq_true, Bool.and_eq_true, inB_iff, inB_iff, inB_iff]; omega
/-- lists of times that are all within a stay -/
def cwOk (m p s : Int) : Bool := inB m 1 50 && inB p 1 6 && inB s 0 50
theorem cwOk_iff {m p s : Int} : cwOk m p s = true ↔ 1 ≤ m ∧ m ≤ 50 ∧ 1 ≤ p ∧ p ≤ 6 ∧ 0 ≤ s ∧ s ≤ 50 := by
  unfold cwOk; rw [Bool.and_eq_true, Bool.and_eq_true, inB_iff, inB_iff, inB_iff]; omega
def wide (m s : Int) (f : Nat) : Int := low s (m - 1 - f)
def cwN (m s : Int) (p : Nat) : Nat → Int
  | 0 => 0
  | f + 1 => cwN m s p f + ((wide m s f + 1) ^ p - wide m s f ^ p)
theorem pow_bdI {n : Int} {B : Int} (h : 0 ≤ n) (h2 : n ≤ B) : ∀ k : Nat, 0 ≤ n ^ k ∧ n ^ k ≤ B ^ k
  | 0 => by simp
  | k + 1 => by
    have ih := pow_bdI h h2 k
    rw [Int.pow_succ, Int.pow_succ]
    exact mul_bd _ _ _ _ ih.1 ih.2 h h2
theorem pow_bdM {n : Int} {k : Nat} (h : 0 ≤ n) (h2 : n ≤ 51) (hk : k ≤ 6) : 0 ≤ n ^ k ∧ n ^ k ≤ 17596287801 := by
  have q := pow_bdI h h2 k
  have r : (51 : Int) ^ k ≤ 51 ^ 6 := by
    rcases (show k = 0 ∨ k = 1 ∨ k = 2 ∨ k = 3 ∨ k = 4 ∨ k = 5 ∨ k = 6 by omega) with rfl | rfl | rfl | rfl | rfl | rfl | rfl <;> decide
  have s : (51 : Int) ^ 6 = 17596287801 := by decide
  omega
theorem cwN_bd {m s : Int} {p : Nat} (hm : m ≤ 50) (hs : 0 ≤ s) (hs2 : s ≤ 50) (hp : p ≤ 6) : ∀ f : Nat, (f : Int) ≤ m → -17596287801 * (f : Int) ≤ cwN m s p f ∧ cwN m s p f ≤ 17596287801 * (f : Int)
  | 0, _ => by simp [cwN]
  | f + 1, hf => by
    have ih := cwN_bd hm hs hs2 hp f (by omega)
    have w1 : 0 ≤ wide m s f ∧ wide m s f ≤ 50 := by unfold wide low; split <;> omega
    have q1 := pow_bdM (n := wide m s f + 1) (k := p) (by omega) (by omega) hp
    have q2 := pow_bdM (n := wide m s f) (k := p) (by omega) (by omega) hp
    unfold cwN
    omega
/-- how many pairs are so far apart -/
def caN (m a : Int) : Int := if a = 0 then m else 2 * wps (m - a)
/-- a visit -/
def viOk (f s : Int) : Bool := inB f 0 200 && inB s 0 200
theorem viOk_iff {f s : Int} : viOk f s = true ↔ 0 ≤ f ∧ f ≤ 200 ∧ 0 ≤ s ∧ s ≤ 200 := by
  unfold viOk; rw [Bool.and_eq_true, inB_iff, inB_iff]; omega
/-- visits -/
def viS (xs : List (Int × Int)) : Bool := inB (xs.length : Int) 1 6 && allP viOk xs
theorem viS_at {xs : List (Int × Int)} (h : viS xs = true) : 1 ≤ xs.length ∧ xs.length ≤ 6 ∧ ∀ i, i < xs.length → viOk (px xs i) (py xs i) = true := by
  unfold viS at h
  rw [Bool.and_eq_true, inB_iff] at h
  exact ⟨by omega, by omega, fun i hi => allP_at h.2 hi⟩
/-- the last coming and the first leaving of the first ones -/
def viF (xs : List (Int × Int)) : Nat → Int
  | 0 => 0
  | j + 1 => hig (viF xs j) (px xs j)
def viL (xs : List (Int × Int)) : Nat → Int
  | 0 => 400
  | j + 1 => low (viL xs j) (px xs j + py xs j)
/-- the least and the most of numbers, the first one given -/
def leI (xs : List Int) : Nat → Int
  | 0 => xs.getD 0 0
  | j + 1 => low (leI xs j) (xs.getD j 0)
def moI (xs : List Int) : Nat → Int
  | 0 => xs.getD 0 0
  | j + 1 => hig (moI xs j) (xs.getD j 0)
theorem lmI_bd {xs : List Int} {lo hi : Int} (h : ∀ i, i < xs.length → lo ≤ xs.getD i 0 ∧ xs.getD i 0 ≤ hi) (h0 : 0 < xs.length) : ∀ j, j ≤ xs.length → lo ≤ leI xs j ∧ leI xs j ≤ moI xs j ∧ moI xs j ≤ hi
  | 0, _ => by have := h 0 h0; simp only [leI, moI]; omega
  | j + 1, hj => by
    have ih := lmI_bd h h0 j (by omega)
    have b := h j (by omega)
    simp only [leI, moI, low, hig]
    (repeat' split) <;> omega
end Go.Proofs.Ytlmbcbopahpagaa
