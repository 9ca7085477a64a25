/- The best order of runners: the model's search, as mathematics. -/
import Derived.Test.YtlfjgggidoakaaaLegBest
import Derived.WalkKit
namespace Go.Proofs.Ytlfjgggidoakaaa
open Go.RowKit
set_option linter.unusedVariables false
set_option linter.unusedSimpArgs false
/-- the best one of the first j tries behind bg -/
def rrF (rec : List Int → List Int) (ls ss : List Int) (least : Bool) (bg : List Int) : Nat → List Int
  | 0 => []
  | j + 1 => if bg.contains (j : Int) then rrF rec ls ss least bg j
    else if (rrF rec ls ss least bg j).length = 0 ∨ btO ls ss (rec (bg ++ [(j : Int)])) (rrF rec ls ss least bg j) least = true then rec (bg ++ [(j : Int)]) else rrF rec ls ss least bg j
/-- the best order that begins with bg, f places left -/
def rrL (ls ss : List Int) (least : Bool) : Nat → List Int → List Int
  | 0, bg => bg
  | f + 1, bg => rrF (rrL ls ss least f) ls ss least bg ss.length
/-- how many of the first j stand in bg -/
def cnB (bg : List Int) : Nat → Nat
  | 0 => 0
  | j + 1 => cnB bg j + (if bg.contains (j : Int) then 1 else 0)
theorem cnB_nil : ∀ j, cnB [] j = 0
  | 0 => rfl
  | j + 1 => by simp [cnB, cnB_nil j]
theorem cnB_cons (x : Int) (bg : List Int) : ∀ j, cnB (x :: bg) j ≤ cnB bg j + (if 0 ≤ x ∧ x < (j : Int) then 1 else 0)
  | 0 => by simp [cnB]
  | j + 1 => by
    have ih := cnB_cons x bg j
    simp only [cnB]
    by_cases e : (j : Int) = x
    · subst e
      have h1 : ((j : Int) :: bg).contains (j : Int) = true := by simp
      have hn : ¬ (0 ≤ (j : Int) ∧ (j : Int) < (j : Int)) := by omega
      rw [if_neg hn] at ih
      rw [h1, if_pos (show 0 ≤ (j : Int) ∧ (j : Int) < ((j + 1 : Nat) : Int) by omega), if_pos rfl]
      split <;> omega
    · have h1 : (x :: bg).contains (j : Int) = bg.contains (j : Int) := by
        rw [List.contains_cons]
        have : ((j : Int) == x) = false := by rw [beq_eq_false_iff_ne]; exact e
        rw [this, Bool.false_or]
      rw [h1]
      by_cases c : 0 ≤ x ∧ x < (j : Int)
      · rw [if_pos c] at ih
        rw [if_pos (show 0 ≤ x ∧ x < ((j + 1 : Nat) : Int) by omega)]
        omega
      · rw [if_neg c] at ih
        rw [if_neg (show ¬ (0 ≤ x ∧ x < ((j + 1 : Nat) : Int)) by omega)]
        omega
theorem cnB_le (j : Nat) : ∀ bg : List Int, cnB bg j ≤ bg.length
  | [] => by rw [cnB_nil]; exact Nat.le_refl _
  | x :: bg => by
    have ih := cnB_le j bg
    have := cnB_cons x bg j
    rw [List.length_cons]
    split at this <;> omega
/-- an order of N runners -/
def gdO (N M : Nat) (l : List Int) : Prop := l.length = N ∧ ∀ i, i < N → 0 ≤ l.getD i 0 ∧ l.getD i 0 < (M : Int)
theorem rrF_good {rec : List Int → List Int} {ls ss : List Int} {least : Bool} {bg : List Int} {N M : Nat} (n1 : 1 ≤ N) (hr : ∀ j : Nat, j < M → gdO N M (rec (bg ++ [(j : Int)]))) :
    ∀ j, j ≤ M → (rrF rec ls ss least bg j = [] ∨ gdO N M (rrF rec ls ss least bg j)) ∧ (cnB bg j < j → gdO N M (rrF rec ls ss least bg j))
  | 0, _ => ⟨.inl rfl, fun h => absurd h (Nat.not_lt_zero _)⟩
  | j + 1, hj => by
    have ih := rrF_good (ls := ls) (ss := ss) (least := least) n1 hr j (by omega)
    simp only [rrF, cnB]
    by_cases c : bg.contains (j : Int) = true
    · rw [if_pos c, if_pos c]
      exact ⟨ih.1, fun h => ih.2 (by omega)⟩
    · rw [if_neg c, if_neg c]
      have g := hr j (by omega)
      split
      · exact ⟨.inr g, fun _ => g⟩
      · rename_i q
        rcases ih.1 with h | h
        · exact absurd (Or.inl (by rw [h]; rfl)) q
        · exact ⟨.inr h, fun _ => h⟩
theorem rrL_good {ls ss : List Int} {least : Bool} (hn : 1 ≤ ls.length) (he : ss.length = ls.length) : ∀ (f : Nat) (bg : List Int), bg.length + f = ls.length → (∀ i, i < bg.length → 0 ≤ bg.getD i 0 ∧ bg.getD i 0 < (ls.length : Int)) → gdO ls.length ls.length (rrL ls ss least f bg)
  | 0, bg, h, k => ⟨by simp only [rrL]; omega, fun i hi => k i (by omega)⟩
  | f + 1, bg, h, k => by
    have hc := cnB_le ls.length bg
    simp only [rrL]
    rw [he]
    refine (rrF_good (N := ls.length) (M := ls.length) hn (fun j hj => rrL_good hn he f _ (by rw [List.length_append, List.length_singleton]; omega) (fun i hi => ?_)) ls.length (Nat.le_refl _)).2 (by omega)
    rw [List.length_append, List.length_singleton] at hi
    by_cases q : i < bg.length
    · rw [List.getD, List.getElem?_append_left q]; exact k i q
    · rw [List.getD, List.getElem?_append_right (by omega), show i - bg.length = 0 by omega]
      show 0 ≤ (j : Int) ∧ (j : Int) < _
      omega
end Go.Proofs.Ytlfjgggidoakaaa
