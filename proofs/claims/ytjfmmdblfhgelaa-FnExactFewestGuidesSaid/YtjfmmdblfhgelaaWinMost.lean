/- Plain mathematics: when most people are there (chapter 8): only when somebody comes. -/
import Derived.Test.YtjfmmdblfhgelaaWinWho
import Derived.Test.YtjfmmdblfhgelaaWinMath3
namespace Go.Proofs.Ytjfmmdblfhgelaa
open Go.RowKit
set_option linter.unusedVariables false
/-- how many are there -/
def cnI (xs : List (Int × Int)) (t : Int) : Int := ((thL xs t xs.length).length : Int)
theorem thL_mono {xs : List (Int × Int)} {s t : Int} : ∀ {n : Nat}, (∀ j, j < n → thB xs t j = true → thB xs s j = true) → (thL xs t n).length ≤ (thL xs s n).length
  | 0, _ => by simp [thL]
  | n + 1, h => by
    have ih := thL_mono (xs := xs) (s := s) (t := t) (n := n) fun j hj => h j (by omega)
    simp only [thL]
    by_cases ht : thB xs t n = true
    · rw [if_pos ht, if_pos (h n (by omega) ht)]; simp; omega
    · rw [if_neg ht]
      split
      · simp; omega
      · exact ih
theorem thL_pos {xs : List (Int × Int)} {t : Int} {i : Nat} (hi : thB xs t i = true) : ∀ {n : Nat}, i < n → 1 ≤ (thL xs t n).length
  | 0, h => absurd h (Nat.not_lt_zero _)
  | n + 1, h => by
    simp only [thL]
    by_cases q : i = n
    · subst q; rw [if_pos hi]; simp
    · have := thL_pos hi (n := n) (by omega)
      split
      · simp
      · exact this
theorem thL_none {xs : List (Int × Int)} {t : Int} : ∀ {n : Nat}, (∀ j, j < n → thB xs t j = false) → thL xs t n = []
  | 0, _ => rfl
  | n + 1, h => by
    simp only [thL]
    rw [if_neg (by rw [h n (by omega)]; simp)]
    exact thL_none fun j hj => h j (by omega)
theorem thB_iff {xs : List (Int × Int)} {t : Int} {j : Nat} : thB xs t j = true ↔ px xs j ≤ t ∧ t ≤ px xs j + py xs j := by
  unfold thB; rw [inB_iff]
theorem cn_own {xs : List (Int × Int)} (h : viS xs = true) {i : Nat} (hi : i < xs.length) : 1 ≤ cnI xs (px xs i) := by
  have := viOk_iff.1 ((viS_at h).2.2 i hi)
  have := thL_pos (xs := xs) (t := px xs i) (i := i) (thB_iff.2 (by omega)) hi
  unfold cnI; omega
/-- at a time at which nobody comes there are no more than just before -/
theorem cn_prev {xs : List (Int × Int)} {t : Int} (h : ∀ j, j < xs.length → px xs j ≠ t) : cnI xs t ≤ cnI xs (t - 1) := by
  have := thL_mono (xs := xs) (s := t - 1) (t := t) (n := xs.length) fun j hj q => by
    have q := thB_iff.1 q
    have := h j hj
    exact thB_iff.2 (by omega)
  unfold cnI; omega
theorem mtS_step (xs : List (Int × Int)) (j : Nat) : mtS xs (j + 1) = if (mtS xs j).1 < cnI xs (j : Int) then (cnI xs (j : Int), (j : Int)) else mtS xs j := rfl
theorem mtS_spec (xs : List (Int × Int)) : ∀ N : Nat, (∀ t : Nat, t < N → cnI xs (t : Int) ≤ (mtS xs N).1) ∧ ((mtS xs N = (0, 0)) ∨ ∃ t : Nat, t < N ∧ (mtS xs N).2 = (t : Int) ∧ cnI xs (t : Int) = (mtS xs N).1 ∧ 0 < (mtS xs N).1 ∧ ∀ s : Nat, s < t → cnI xs (s : Int) < (mtS xs N).1)
  | 0 => ⟨fun t h => absurd h (Nat.not_lt_zero _), .inl rfl⟩
  | N + 1 => by
    obtain ⟨h1, h2⟩ := mtS_spec xs N
    rw [mtS_step]
    by_cases q : (mtS xs N).1 < cnI xs (N : Int)
    · rw [if_pos q]
      refine ⟨fun t ht => ?_, .inr ⟨N, by omega, rfl, rfl, ?_, fun s hs => ?_⟩⟩
      · by_cases e : t = N
        · subst e; exact Int.le_refl _
        · have := h1 t (by omega); simp only; omega
      · simp only
        rcases h2 with h2 | ⟨t, _, _, _, h3, _⟩
        · rw [h2] at q; exact q
        · omega
      · have := h1 s hs; simp only; omega
    · rw [if_neg q]
      refine ⟨fun t ht => ?_, ?_⟩
      · by_cases e : t = N
        · subst e; omega
        · exact h1 t (by omega)
      · rcases h2 with h2 | ⟨t, k1, k2, k3, k4, k5⟩
        · exact .inl h2
        · exact .inr ⟨t, by omega, k2, k3, k4, k5⟩
/-- the program's way: over the visits -/
def mpS (xs : List (Int × Int)) : Nat → Int × Int
  | 0 => (0, 0)
  | j + 1 => if (mpS xs j).1 < cnI xs (px xs j) ∨ (cnI xs (px xs j) = (mpS xs j).1 ∧ px xs j < (mpS xs j).2) then (cnI xs (px xs j), px xs j) else mpS xs j
theorem mpS_spec {xs : List (Int × Int)} (h : viS xs = true) : ∀ j, j ≤ xs.length → (∀ i, i < j → cnI xs (px xs i) ≤ (mpS xs j).1) ∧ ((j = 0 ∧ mpS xs j = (0, 0)) ∨ ∃ i, i < j ∧ (mpS xs j).2 = px xs i ∧ cnI xs (px xs i) = (mpS xs j).1) ∧ (∀ i, i < j → cnI xs (px xs i) = (mpS xs j).1 → (mpS xs j).2 ≤ px xs i)
  | 0, _ => ⟨fun t h => absurd h (Nat.not_lt_zero _), .inl ⟨rfl, rfl⟩, fun t h => absurd h (Nat.not_lt_zero _)⟩
  | j + 1, hj => by
    obtain ⟨h1, h2, h3⟩ := mpS_spec h j (by omega)
    have hc := cn_own h (i := j) (by omega)
    unfold mpS
    by_cases q : (mpS xs j).1 < cnI xs (px xs j) ∨ (cnI xs (px xs j) = (mpS xs j).1 ∧ px xs j < (mpS xs j).2)
    · rw [if_pos q]
      refine ⟨fun i hi => ?_, .inr ⟨j, by omega, rfl, rfl⟩, fun i hi e => ?_⟩
      · by_cases e : i = j
        · subst e; exact Int.le_refl _
        · have := h1 i (by omega); simp only; omega
      · simp only at e ⊢
        by_cases e2 : i = j
        · subst e2; exact Int.le_refl _
        · have a := h1 i (by omega)
          rcases q with q | q
          · omega
          · have := h3 i (by omega) (by omega); omega
    · rw [if_neg q]
      refine ⟨fun i hi => ?_, ?_, fun i hi e => ?_⟩
      · by_cases e : i = j
        · subst e; omega
        · exact h1 i (by omega)
      · rcases h2 with ⟨rfl, h2⟩ | ⟨i, k1, k2, k3⟩
        · rw [h2] at q; simp only at q; omega
        · exact .inr ⟨i, by omega, k2, k3⟩
      · by_cases e2 : i = j
        · subst e2; omega
        · exact h3 i (by omega) e
theorem most_same {xs : List (Int × Int)} (h : viS xs = true) : mpS xs xs.length = mtS xs 201 := by
  have hl := (viS_at h).1
  have hv := (viS_at h).2.2
  obtain ⟨a1, a2, a3⟩ := mpS_spec h xs.length (Nat.le_refl _)
  obtain ⟨b1, b2⟩ := mtS_spec xs 201
  have hx : ∀ i, i < xs.length → ∃ t : Nat, t < 201 ∧ px xs i = (t : Int) := fun i hi => by
    have := viOk_iff.1 (hv i hi)
    exact ⟨(px xs i).toNat, by omega, by omega⟩
  have hpos : 0 < (mtS xs 201).1 := by
    obtain ⟨t, ht, e⟩ := hx 0 (by omega)
    have := b1 t ht
    have := cn_own h (i := 0) (by omega)
    rw [e] at this; omega
  rcases b2 with b2 | ⟨t, c1, c2, c3, c4, c5⟩
  · rw [b2] at hpos; exact absurd hpos (by decide)
  rcases a2 with ⟨e, _⟩ | ⟨i, d1, d2, d3⟩
  · omega
  -- the first such time is one at which somebody comes
  have hk : ∃ k, k < xs.length ∧ px xs k = (t : Int) := by
    by_cases q : ∃ k, k < xs.length ∧ px xs k = (t : Int)
    · exact q
    · exfalso
      have hn : ∀ j, j < xs.length → px xs j ≠ (t : Int) := fun j hj e => q ⟨j, hj, e⟩
      have hp := cn_prev hn
      by_cases t0 : t = 0
      · subst t0
        have he : thL xs ((0 : Nat) : Int) xs.length = [] := thL_none fun j hj => by
          have := viOk_iff.1 (hv j hj)
          have := hn j hj
          cases hq : thB xs ((0 : Nat) : Int) j
          · rfl
          · have := thB_iff.1 hq; simp at this; omega
        have : cnI xs ((0 : Nat) : Int) = 0 := by unfold cnI; rw [he]; rfl
        omega
      · have := c5 (t - 1) (by omega)
        rw [show ((t - 1 : Nat) : Int) = (t : Int) - 1 by omega] at this
        omega
  obtain ⟨k, k1, k2⟩ := hk
  have e1 := a1 k k1
  rw [k2, c3] at e1
  obtain ⟨s, s1, s2⟩ := hx i d1
  have e2 := b1 s s1
  rw [← s2, d3] at e2
  have e3 : (mpS xs xs.length).1 = (mtS xs 201).1 := by omega
  have e4 := a3 k k1 (by rw [k2]; omega)
  have e5 : (mpS xs xs.length).2 = (mtS xs 201).2 := by
    by_cases q : s < t
    · have := c5 s q
      rw [← s2, d3] at this
      omega
    · omega
  exact Prod.ext e3 e5
end Go.Proofs.Ytjfmmdblfhgelaa
