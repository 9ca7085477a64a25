/- A row of rows that is made whole and filled (out of XLegTimesI). -/
import Derived.Test.YtikfblbfodacaaaRowsX
import Derived.WalkKit
namespace Go.Proofs.Ytikfblbfodacaaa
open Go.RowKit
set_option linter.unusedVariables false
set_option linter.unusedSimpArgs false
/-- the first j slices of ks stand in the row of n at block g -/
def MadeR (w : World) (base g n j : Nat) (β : Nat → Nat) (ks : List (List Int)) : Prop :=
  ∃ ys, w.ownsRow base 54 1 (.slice (some ⟨g, 0, none⟩) n n) n ys ∧ (∀ i, i < j → ys[i]? = some (.slice (some ⟨β i, 0, none⟩) (ks.getD i []).length (ks.getD i []).length)) ∧ (∀ i, i < j → Own w base (some ⟨β i, 0, none⟩) (ks.getD i []).length (ks.getD i [])) ∧ ∀ i k, i < k → k < j → β i < β k
theorem MadeR.below {w w' : World} {base g n j : Nat} {β : Nat → Nat} {ks : List (List Int)} (h : MadeR w base g n j β ks) (hb : Below w.heap.size w w') : MadeR w' base g n j β ks := by
  obtain ⟨ys, h1, h2, h3, h4⟩ := h
  exact ⟨ys, rowB h1 hb, h2, fun i hi => (h3 i hi).below hb, h4⟩
theorem MadeR.lt {w : World} {base g n j : Nat} {β : Nat → Nat} {ks : List (List Int)} (h : MadeR w base g n j β ks) {i : Nat} (hi : i < j) : β i < w.heap.size := by
  obtain ⟨ys, h1, h2, h3, h4⟩ := h
  have h5 := h3 i hi
  unfold Own at h5
  exact (h5.lt (β i) rfl).2
theorem MadeR.at {w : World} {base g n j : Nat} {β : Nat → Nat} {ks : List (List Int)} (h : MadeR w base g n j β ks) {i : Nat} (hi : i < n) : (∃ v, w.cell? ⟨g, i, none⟩ = some v) ∧ w.frozen? ⟨g, i, none⟩ = false ∧ g < w.heap.size ∧ base ≤ g := by
  obtain ⟨ys, h1, h2, h3, h4⟩ := h
  have hl : ys.length = n * 1 := h1.1
  have c := h1.cellAt i (by omega)
  rw [List.getElem?_eq_getElem (by omega)] at c
  exact ⟨⟨_, c⟩, h1.frozenAt i, (h1.lt g rfl).2, (h1.lt g rfl).1⟩
theorem MadeR.step {w W : World} {base g n j B : Nat} {β : Nat → Nat} {ks : List (List Int)} (h : MadeR w base g n j β ks) (hW : Below w.heap.size w W) (hB : w.heap.size ≤ B) (hj : j < n)
    (hN : Own W base (some ⟨B, 0, none⟩) (ks.getD j []).length (ks.getD j [])) :
    MadeR (W.setCell ⟨g, j, none⟩ (.slice (some ⟨B, 0, none⟩) (ks.getD j []).length (ks.getD j []).length)) base g n (j + 1) (fun i => if i = j then B else β i) ks := by
  have hW' := h.below hW
  have hlt := fun i (hi : i < j) => h.lt hi
  obtain ⟨ys, h1, h2, h3, h4⟩ := hW'
  have hl : ys.length = n * 1 := h1.1
  obtain ⟨s1, s2⟩ := h1.stored j (.slice (some ⟨B, 0, none⟩) (ks.getD j []).length (ks.getD j []).length)
  refine ⟨_, s1, fun i hi => ?_, fun i hi => ?_, fun i k hik hk => ?_⟩
  · by_cases q : i = j
    · subst q
      rw [List.getElem?_set_self (by omega)]
      simp only [if_true]
    · rw [List.getElem?_set_ne (by omega)]
      simp only [if_neg q]
      exact h2 i (by omega)
  · by_cases q : i = j
    · subst q
      simp only [if_true]
      unfold Own at hN ⊢
      exact World.ownsRow.kept hN s2 (own_neX hN h1 int_ne_slice)
    · simp only [if_neg q]
      have hi' := h3 i (by omega)
      unfold Own at hi' ⊢
      exact World.ownsRow.kept hi' s2 (own_neX hi' h1 int_ne_slice)
  · simp only [if_neg (show ¬ i = j by omega)]
    by_cases q : k = j
    · rw [if_pos q]
      exact Nat.lt_of_lt_of_le (hlt i (by omega)) hB
    · rw [if_neg q]
      exact h4 i k hik (by omega)
theorem MadeR.own {w : World} {base g n : Nat} {β : Nat → Nat} {ks : List (List Int)} (h : MadeR w base g n n β ks) (hn : ks.length = n) : OwnSS w base (some ⟨g, 0, none⟩) n ks := by
  obtain ⟨ys, h1, h2, h3, h4⟩ := h
  have hl : ys.length = n * 1 := h1.1
  have e : ys = valsX β ks n := by
    apply List.ext_getElem?
    intro i
    by_cases q : i < n
    · rw [h2 i q, valsX_get q]
    · rw [List.getElem?_eq_none (by omega), List.getElem?_eq_none (by unfold valsX; simp; omega)]
  subst e
  exact RowsX.own (j := n) (β := β) ⟨h1, h3, h4⟩ hn
end Go.Proofs.Ytikfblbfodacaaa
