/- Lists whose members are all of one kind: plain mathematics. -/
import Derived.Test.YtlmbcbopahpagaaPairs0
namespace Go.Proofs.Ytlmbcbopahpagaa
open Go.RowKit
set_option linter.unusedVariables false
def allP (ok : Int → Int → Bool) (xs : List (Int × Int)) : Bool := xs.all fun p => ok p.1 p.2
theorem allP_at {ok : Int → Int → Bool} {xs : List (Int × Int)} (h : allP ok xs = true) {i : Nat} (hi : i < xs.length) : ok (px xs i) (py xs i) = true := by
  unfold allP at h
  rw [List.all_eq_true] at h
  have := h xs[i] (List.getElem_mem hi)
  simpa [px, py, List.getD, List.getElem?_eq_getElem hi] using this
theorem allP_no {ok : Int → Int → Bool} {xs : List (Int × Int)} {i : Nat} (hi : i < xs.length) (h : ok (px xs i) (py xs i) = false) : allP ok xs = false := by
  cases hw : allP ok xs
  · rfl
  · rw [allP_at hw hi] at h; cases h
theorem allP_of {ok : Int → Int → Bool} {xs : List (Int × Int)} (h : ∀ i, i < xs.length → ok (px xs i) (py xs i) = true) : allP ok xs = true := by
  unfold allP
  rw [List.all_eq_true]
  intro p hp
  obtain ⟨i, hi, rfl⟩ := List.getElem_of_mem hp
  have := h i hi
  simpa [px, py, List.getD, List.getElem?_eq_getElem hi] using this
def allV (ok : Int → Bool) (xs : List Int) : Bool := xs.all ok
theorem allV_at {ok : Int → Bool} {xs : List Int} (h : allV ok xs = true) {i : Nat} (hi : i < xs.length) : ok (xs.getD i 0) = true := by
  unfold allV at h
  rw [List.all_eq_true] at h
  have := h xs[i] (List.getElem_mem hi)
  simpa [List.getD, List.getElem?_eq_getElem hi] using this
theorem allV_no {ok : Int → Bool} {xs : List Int} {i : Nat} (hi : i < xs.length) (h : ok (xs.getD i 0) = false) : allV ok xs = false := by
  cases hw : allV ok xs
  · rfl
  · rw [allV_at hw hi] at h; cases h
theorem allV_of {ok : Int → Bool} {xs : List Int} (h : ∀ i, i < xs.length → ok (xs.getD i 0) = true) : allV ok xs = true := by
  unfold allV
  rw [List.all_eq_true]
  intro p hp
  obtain ⟨i, hi, rfl⟩ := List.getElem_of_mem hp
  have := h i hi
  simpa [List.getD, List.getElem?_eq_getElem hi] using this
end Go.Proofs.Ytlmbcbopahpagaa
