/- Plain mathematics: fewest guides (chapter 8): the first end of those who are not served. -/
import Derived.Test.YtjfmmdblfhgelaaWinMost
namespace Go.Proofs.Ytjfmmdblfhgelaa
open Go.RowKit
set_option linter.unusedVariables false
/-- the earliest end among the first ones that are kept, or -1 -/
def fgE (xs : List (Int × Int)) (U : Nat → Bool) : Nat → Int
  | 0 => -1
  | j + 1 => if U j = true ∧ (fgE xs U j < 0 ∨ px xs j + py xs j < fgE xs U j) then px xs j + py xs j else fgE xs U j
/-- who is kept behind a guide -/
def fgU (xs : List (Int × Int)) (U : Nat → Bool) (e : Int) : Nat → Bool := fun i => U i && !thB xs e i
/-- the guides, of at most so many -/
def fgR (xs : List (Int × Int)) : Nat → (Nat → Bool) → List Int
  | 0, _ => []
  | k + 1, U => if fgE xs U xs.length < 0 then [] else fgE xs U xs.length :: fgR xs k (fgU xs U (fgE xs U xs.length))
/-- how many are kept -/
def fgN (U : Nat → Bool) : Nat → Nat
  | 0 => 0
  | j + 1 => if U j then fgN U j + 1 else fgN U j
def fgL (xs : List (Int × Int)) : List Int := if viS xs then fgR xs xs.length (fun _ => true) else []
theorem fgR_len (xs : List (Int × Int)) : ∀ k U, (fgR xs k U).length ≤ k
  | 0, U => by simp [fgR]
  | k + 1, U => by
    simp only [fgR]
    split
    · simp
    · have := fgR_len xs k (fgU xs U (fgE xs U xs.length)); simp; omega
theorem fgL_len (xs : List (Int × Int)) : (fgL xs).length ≤ 1000 := by
  unfold fgL
  split
  · rename_i h
    have := (viS_at h).2.1
    have := fgR_len xs xs.length (fun _ => true)
    omega
  · simp
def okV (xs : List (Int × Int)) : Prop := ∀ i, i < xs.length → viOk (px xs i) (py xs i) = true
theorem fgE_spec {xs : List (Int × Int)} {U : Nat → Bool} (h : okV xs) : ∀ j, j ≤ xs.length → -1 ≤ fgE xs U j ∧ fgE xs U j ≤ 400 ∧ (fgE xs U j < 0 → ∀ i, i < j → U i = false) ∧ (0 ≤ fgE xs U j → (∃ i, i < j ∧ U i = true ∧ fgE xs U j = px xs i + py xs i) ∧ ∀ i, i < j → U i = true → fgE xs U j ≤ px xs i + py xs i)
  | 0, _ => ⟨by simp [fgE], by simp [fgE], fun _ i hi => absurd hi (Nat.not_lt_zero _), fun q => by simp [fgE] at q⟩
  | j + 1, hj => by
    obtain ⟨h1, h2, h3, h4⟩ := fgE_spec (U := U) h j (by omega)
    have b := viOk_iff.1 (h j (by omega))
    simp only [fgE]
    by_cases q : U j = true ∧ (fgE xs U j < 0 ∨ px xs j + py xs j < fgE xs U j)
    · rw [if_pos q]
      refine ⟨by omega, by omega, fun k => by omega, fun _ => ⟨⟨j, by omega, q.1, rfl⟩, fun i hi hU => ?_⟩⟩
      by_cases e : i = j
      · subst e; omega
      · rcases q.2 with k | k
        · have := h3 k i (by omega); rw [this] at hU; cases hU
        · by_cases z : 0 ≤ fgE xs U j
          · have := (h4 z).2 i (by omega) hU; omega
          · omega
    · rw [if_neg q]
      refine ⟨h1, h2, fun k i hi => ?_, fun k => ⟨?_, fun i hi hU => ?_⟩⟩
      · by_cases e : i = j
        · subst e
          cases hU : U i
          · rfl
          · exact absurd ⟨hU, .inl k⟩ q
        · exact h3 k i (by omega)
      · obtain ⟨i, a, b, c⟩ := (h4 k).1
        exact ⟨i, by omega, b, c⟩
      · by_cases e : i = j
        · subst e
          by_cases z : px xs i + py xs i < fgE xs U i
          · exact absurd ⟨hU, .inr z⟩ q
          · omega
        · exact (h4 k).2 i (by omega) hU
theorem fgN_le (U : Nat → Bool) : ∀ j, fgN U j ≤ j
  | 0 => Nat.le_refl _
  | j + 1 => by have := fgN_le U j; simp only [fgN]; split <;> omega
theorem fgN_pos {U : Nat → Bool} : ∀ {j i : Nat}, i < j → U i = true → 0 < fgN U j
  | 0, i, h, _ => absurd h (Nat.not_lt_zero _)
  | j + 1, i, h, hU => by
    simp only [fgN]
    by_cases q : i = j
    · subst q; rw [if_pos hU]; omega
    · have := fgN_pos (U := U) (j := j) (i := i) (by omega) hU
      split <;> omega
theorem fgN_mono {U V : Nat → Bool} (h : ∀ i, V i = true → U i = true) : ∀ j, fgN V j ≤ fgN U j
  | 0 => Nat.le_refl _
  | j + 1 => by
    have ih := fgN_mono h j
    simp only [fgN]
    cases hV : V j
    · simp; split <;> omega
    · rw [h j hV]; simp; omega
theorem fgN_less {U V : Nat → Bool} (h : ∀ i, V i = true → U i = true) {i : Nat} (hU : U i = true) (hV : V i = false) : ∀ {j : Nat}, i < j → fgN V j < fgN U j
  | 0, hi => absurd hi (Nat.not_lt_zero _)
  | j + 1, hi => by
    simp only [fgN]
    by_cases q : i = j
    · subst q
      have := fgN_mono h i
      rw [hU, hV]; simp; omega
    · have ih := fgN_less h hU hV (j := j) (by omega)
      cases hV2 : V j
      · simp; split <;> omega
      · rw [h j hV2]; simp; omega
theorem fgN_zero {U : Nat → Bool} : ∀ {j : Nat}, fgN U j = 0 → ∀ i, i < j → U i = false
  | 0, _, i, hi => absurd hi (Nat.not_lt_zero _)
  | j + 1, h, i, hi => by
    cases hU : U i
    · rfl
    · have := fgN_pos (U := U) hi hU; omega
/-- one round -/
theorem fg_round {xs : List (Int × Int)} {U : Nat → Bool} (h : okV xs) {k : Nat} (hk : fgN U xs.length ≤ k) :
    (fgE xs U xs.length < 0 → fgR xs k U = []) ∧ (0 ≤ fgE xs U xs.length → ∃ m, k = m + 1 ∧ fgR xs k U = fgE xs U xs.length :: fgR xs m (fgU xs U (fgE xs U xs.length)) ∧ fgN (fgU xs U (fgE xs U xs.length)) xs.length ≤ m) := by
  obtain ⟨h1, h2, h3, h4⟩ := fgE_spec (U := U) h xs.length (Nat.le_refl _)
  constructor
  · intro q
    cases k
    · rfl
    · simp only [fgR]; rw [if_pos q]
  · intro q
    obtain ⟨i, hi, hU, he⟩ := (h4 q).1
    have hp := fgN_pos hi hU
    obtain ⟨m, rfl⟩ : ∃ m, k = m + 1 := ⟨k - 1, by omega⟩
    refine ⟨m, rfl, by simp only [fgR]; rw [if_neg (by omega)], ?_⟩
    have hb := viOk_iff.1 (h i hi)
    have ht : thB xs (fgE xs U xs.length) i = true := thB_iff.2 (by omega)
    have := fgN_less (U := U) (V := fgU xs U (fgE xs U xs.length)) (fun i hi => by unfold fgU at hi; rw [Bool.and_eq_true] at hi; exact hi.1) hU (by unfold fgU; rw [ht]; simp) hi
    omega
/-- of one who is kept, a guide is not before the end: it is there just if it has come -/
theorem fgU_at {xs : List (Int × Int)} {U : Nat → Bool} (h : okV xs) (q : 0 ≤ fgE xs U xs.length) {i : Nat} (hi : i < xs.length) : fgU xs U (fgE xs U xs.length) i = (U i && !decide (px xs i ≤ fgE xs U xs.length)) := by
  unfold fgU
  cases hU : U i
  · rfl
  · have := ((fgE_spec (U := U) h xs.length (Nat.le_refl _)).2.2.2 q).2 i hi hU
    have e : thB xs (fgE xs U xs.length) i = decide (px xs i ≤ fgE xs U xs.length) := by
      rw [Bool.eq_iff_iff, thB_iff, decide_eq_true_iff]; omega
    rw [e]
/-- the least of all ends of the kept ones is the one -/
theorem fgE_is {xs : List (Int × Int)} {U : Nat → Bool} (h : okV xs) {f : Int} (h1 : ∀ i, i < xs.length → U i = true → f ≤ px xs i + py xs i) (h2 : ∃ i, i < xs.length ∧ U i = true ∧ f = px xs i + py xs i) : f = fgE xs U xs.length := by
  obtain ⟨a1, a2, a3, a4⟩ := fgE_spec (U := U) h xs.length (Nat.le_refl _)
  obtain ⟨i, hi, hU, he⟩ := h2
  have hp : 0 ≤ fgE xs U xs.length := by
    rcases Int.lt_or_le (fgE xs U xs.length) 0 with q | q
    · have := a3 q i hi; rw [this] at hU; cases hU
    · exact q
  obtain ⟨⟨j, hj, hUj, hej⟩, hle⟩ := a4 hp
  have b1 := hle i hi hU
  have b2 := h1 j hj hUj
  omega
theorem fg_some {xs : List (Int × Int)} {U : Nat → Bool} (h : okV xs) {i : Nat} (hi : i < xs.length) (hU : U i = true) : 0 ≤ fgE xs U xs.length := by
  rcases Int.lt_or_le (fgE xs U xs.length) 0 with q | q
  · have := (fgE_spec (U := U) h xs.length (Nat.le_refl _)).2.2.1 q i hi; rw [this] at hU; cases hU
  · exact q
theorem fgR_ext {xs : List (Int × Int)} {k : Nat} {U V : Nat → Bool} (h : ∀ i, i < xs.length → U i = V i) : fgR xs k U = fgR xs k V := by
  have hE : ∀ {U V : Nat → Bool}, (∀ i, i < xs.length → U i = V i) → ∀ j, j ≤ xs.length → fgE xs U j = fgE xs V j := by
    intro U V h j
    induction j with
    | zero => intro _; rfl
    | succ j ih =>
      intro hj
      simp only [fgE]
      rw [ih (by omega), h j (by omega)]
  induction k generalizing U V with
  | zero => rfl
  | succ k ih =>
    simp only [fgR]
    rw [hE h xs.length (Nat.le_refl _)]
    split
    · rfl
    · rw [ih (U := fgU xs U (fgE xs V xs.length)) (V := fgU xs V (fgE xs V xs.length)) fun i hi => by unfold fgU; rw [h i hi]]
end Go.Proofs.Ytjfmmdblfhgelaa
