/- Plain mathematics of chapter 1's greatest heights with slips: no program is named here. -/
import Derived.Test.YtadfjepfjbllmaaMathH
namespace Go.Proofs.Ytadfjepfjbllmaa
open Go.RowKit
set_option linter.unusedVariables false

theorem hig_bd (n m : Int) : n ≤ hig n m ∧ m ≤ hig n m ∧ (hig n m = n ∨ hig n m = m) := by unfold hig; split <;> omega
/-- the height behind k nights, if there is no top -/
def po (up : Int) (xs : List Int) (h : Int) : Nat → Int
  | 0 => h
  | k + 1 => hig 0 (po up xs h k + up - slp xs k)
/-- how far it comes at most in k days -/
def tp (up : Int) (xs : List Int) (h : Int) : Nat → Int
  | 0 => 0
  | k + 1 => hig (tp up xs h k) (po up xs h k + up)
theorem slp_per (xs : List Int) (a k : Nat) : slp xs (xs.length * a + k) = slp xs k := by
  unfold slp; rw [Nat.mul_add_mod]
theorem po_nn {up : Int} {xs : List Int} {h : Int} (h0 : 0 ≤ h) (k : Nat) : 0 ≤ po up xs h k := by
  cases k with
  | zero => exact h0
  | succ k => have := hig_bd 0 (po up xs h k + up - slp xs k); simp only [po]; omega
theorem po_mono {up : Int} {xs : List Int} {h h' : Int} (q : h ≤ h') (k : Nat) : po up xs h k ≤ po up xs h' k := by
  induction k with
  | zero => exact q
  | succ k ih =>
    have a := hig_bd 0 (po up xs h k + up - slp xs k)
    have b := hig_bd 0 (po up xs h' k + up - slp xs k)
    simp only [po]; omega
theorem tp_nn {up : Int} {xs : List Int} {h : Int} (k : Nat) : 0 ≤ tp up xs h k := by
  induction k with
  | zero => exact Int.le_refl _
  | succ k ih => have := hig_bd (tp up xs h k) (po up xs h k + up); simp only [tp]; omega
theorem tp_mono {up : Int} {xs : List Int} {h h' : Int} (q : h ≤ h') (k : Nat) : tp up xs h k ≤ tp up xs h' k := by
  induction k with
  | zero => exact Int.le_refl _
  | succ k ih =>
    have a := hig_bd (tp up xs h k) (po up xs h k + up)
    have b := hig_bd (tp up xs h' k) (po up xs h' k + up)
    have c := po_mono (up := up) (xs := xs) q k
    simp only [tp]; omega
theorem tp_le {up : Int} {xs : List Int} {h : Int} (k j : Nat) : tp up xs h k ≤ tp up xs h (k + j) := by
  induction j with
  | zero => exact Int.le_refl _
  | succ j ih => have := hig_bd (tp up xs h (k + j)) (po up xs h (k + j) + up); rw [← Nat.add_assoc]; simp only [tp]; omega
theorem po_shift (up : Int) (xs : List Int) (h : Int) (a k : Nat) : po up xs h (xs.length * a + k) = po up xs (po up xs h (xs.length * a)) k := by
  induction k with
  | zero => rfl
  | succ k ih => rw [← Nat.add_assoc]; simp only [po]; rw [ih, slp_per]
theorem tp_shift (up : Int) (xs : List Int) (h : Int) (a k : Nat) : tp up xs h (xs.length * a + k) = hig (tp up xs h (xs.length * a)) (tp up xs (po up xs h (xs.length * a)) k) := by
  induction k with
  | zero =>
    have := tp_nn (up := up) (xs := xs) (h := h) (xs.length * a)
    simp only [Nat.add_zero, tp]; unfold hig; split <;> omega
  | succ k ih =>
    rw [← Nat.add_assoc]; simp only [tp]; rw [ih, po_shift]
    have a1 := hig_bd (tp up xs h (xs.length * a)) (tp up xs (po up xs h (xs.length * a)) k)
    have a2 := hig_bd (hig (tp up xs h (xs.length * a)) (tp up xs (po up xs h (xs.length * a)) k)) (po up xs (po up xs h (xs.length * a)) k + up)
    have a3 := hig_bd (tp up xs (po up xs h (xs.length * a)) k) (po up xs (po up xs h (xs.length * a)) k + up)
    have a4 := hig_bd (tp up xs h (xs.length * a)) (hig (tp up xs (po up xs h (xs.length * a)) k) (po up xs (po up xs h (xs.length * a)) k + up))
    omega
theorem po_form (up : Int) (xs : List Int) (k : Nat) : ∃ S C : Int, 0 ≤ C ∧ ∀ h, 0 ≤ h → po up xs h k = hig (h + S) C := by
  induction k with
  | zero => exact ⟨0, 0, Int.le_refl _, fun h h0 => by simp only [po]; unfold hig; split <;> omega⟩
  | succ k ih =>
    obtain ⟨S, C, hC, hf⟩ := ih
    refine ⟨S + up - slp xs k, hig 0 (C + up - slp xs k), (hig_bd _ _).1, fun h h0 => ?_⟩
    simp only [po]; rw [hf h h0]
    have a := hig_bd (h + S) C
    have b := hig_bd 0 (hig (h + S) C + up - slp xs k)
    have c := hig_bd 0 (C + up - slp xs k)
    have d := hig_bd (h + (S + up - slp xs k)) (hig 0 (C + up - slp xs k))
    omega
/-- mornings behind whole rounds -/
def mr (up : Int) (xs : List Int) (a : Nat) : Int := po up xs 0 (xs.length * a)
theorem mr_succ (up : Int) (xs : List Int) (a : Nat) : mr up xs (a + 1) = po up xs (mr up xs a) xs.length := by
  unfold mr; rw [Nat.mul_succ, po_shift]
theorem mr_zero (up : Int) (xs : List Int) : mr up xs 0 = 0 := by unfold mr; rfl
theorem mr_nn (up : Int) (xs : List Int) (a : Nat) : 0 ≤ mr up xs a := po_nn (Int.le_refl _) _
theorem mr_lin (up : Int) (xs : List Int) (a : Nat) : mr up xs (a + 1) = mr up xs 1 + (a : Int) * (mr up xs 2 - mr up xs 1) ∧ mr up xs a ≤ mr up xs (a + 1) ∧ 0 ≤ mr up xs 2 - mr up xs 1 := by
  obtain ⟨S, C, hC, hf⟩ := po_form up xs xs.length
  have hs : ∀ a, mr up xs (a + 1) = hig (mr up xs a + S) C := fun a => by rw [mr_succ, hf _ (mr_nn up xs a)]
  have h1 := hs 0
  have h2 := hs 1
  rw [mr_zero] at h1
  have b1 := hig_bd (0 + S) C
  have b2 := hig_bd (mr up xs 1 + S) C
  have e2 : mr up xs (1 + 1) = mr up xs 2 := rfl
  have e1 : mr up xs (0 + 1) = mr up xs 1 := rfl
  rw [e2] at h2
  rw [e1] at h1
  by_cases hS : 0 < S
  · have hd : mr up xs 2 - mr up xs 1 = S := by omega
    have key : ∀ a : Nat, mr up xs (a + 1) = mr up xs 1 + (a : Int) * S ∧ C ≤ mr up xs (a + 1) := by
      intro a
      induction a with
      | zero => refine ⟨by rw [e1]; simp, by rw [e1]; omega⟩
      | succ a ih =>
        have q := hs (a + 1)
        have b := hig_bd (mr up xs (a + 1) + S) C
        have e : ((a + 1 : Nat) : Int) * S = (a : Int) * S + S := by rw [show ((a + 1 : Nat) : Int) = (a : Int) + 1 from by omega, Int.add_mul, Int.one_mul]
        rw [e]; omega
    refine ⟨by rw [hd]; exact (key a).1, ?_, by omega⟩
    cases a with
    | zero => rw [mr_zero]; exact mr_nn up xs _
    | succ a =>
      have q := hs (a + 1)
      have b := hig_bd (mr up xs (a + 1) + S) C
      have := (key a).2
      omega
  · have hd : mr up xs 2 - mr up xs 1 = 0 := by omega
    have key : ∀ a : Nat, mr up xs (a + 1) = C := by
      intro a
      induction a with
      | zero => rw [e1]; omega
      | succ a ih => have q := hs (a + 1); have b := hig_bd (mr up xs (a + 1) + S) C; omega
    refine ⟨by rw [hd, key a, ← key 0]; simp, ?_, by omega⟩
    cases a with
    | zero => rw [mr_zero]; exact mr_nn up xs _
    | succ a => rw [key a, key (a + 1)]; exact Int.le_refl _
theorem tp_rounds (up : Int) (xs : List Int) (a : Nat) : tp up xs 0 (xs.length * a) ≤ tp up xs (mr up xs a) xs.length := by
  induction a with
  | zero => rw [Nat.mul_zero]; exact tp_nn _
  | succ a ih =>
    rw [Nat.mul_succ, tp_shift]
    have m := (mr_lin up xs a).2.1
    have t := tp_mono (up := up) (xs := xs) m xs.length
    have b := hig_bd (tp up xs 0 (xs.length * a)) (tp up xs (po up xs 0 (xs.length * a)) xs.length)
    have e : po up xs 0 (xs.length * a) = mr up xs a := rfl
    rw [e] at b ⊢
    omega
/-- the program's way: the last whole round and the days behind it -/
theorem tp_last (up : Int) (xs : List Int) (a r : Nat) : tp up xs 0 (xs.length * (a + 2) + r) = tp up xs (mr up xs 1 + (a : Int) * (mr up xs 2 - mr up xs 1)) (xs.length + r) := by
  have e : xs.length * (a + 2) + r = xs.length * (a + 1) + (xs.length + r) := by rw [Nat.mul_succ]; omega
  rw [e, tp_shift, ← (mr_lin up xs a).1]
  have t := tp_rounds up xs (a + 1)
  have u := tp_le (up := up) (xs := xs) (h := mr up xs (a + 1)) xs.length r
  have b := hig_bd (tp up xs 0 (xs.length * (a + 1))) (tp up xs (po up xs 0 (xs.length * (a + 1))) (xs.length + r))
  have e2 : po up xs 0 (xs.length * (a + 1)) = mr up xs (a + 1) := rfl
  rw [e2] at b ⊢
  omega
theorem po_bd {up : Int} {xs : List Int} (hs : slOk up xs = true) {h : Int} (h0 : 0 ≤ h) (k : Nat) : 0 ≤ po up xs h k ∧ po up xs h k ≤ h + 1000 * (k : Int) := by
  obtain ⟨u1, u2, _, _, s⟩ := slOk_iff hs
  induction k with
  | zero => simp only [po]; omega
  | succ k ih =>
    have := s k
    have b := hig_bd 0 (po up xs h k + up - slp xs k)
    simp only [po]; omega
theorem tp_bd {up : Int} {xs : List Int} (hs : slOk up xs = true) {h : Int} (h0 : 0 ≤ h) (k : Nat) : 0 ≤ tp up xs h k ∧ tp up xs h k ≤ h + 1000 * (k : Int) := by
  obtain ⟨u1, u2, _, _, s⟩ := slOk_iff hs
  induction k with
  | zero => simp only [tp]; omega
  | succ k ih =>
    have q := po_bd hs h0 k
    have b := hig_bd (tp up xs h k) (po up xs h k + up)
    simp only [tp]; omega
end Go.Proofs.Ytadfjepfjbllmaa
