/- Lists of runners: AreRunners and its kin by contracts, the program's and the model's. -/
import Derived.Test.YtchpdmcfnpcfeaaDoorProg
import Derived.Test.YtchpdmcfnpcfeaaDoorThrWalks
import Derived.Test.YtchpdmcfnpcfeaaDoorPairsR
import Derived.WalkKit
import Derived.WalkSpells
import Derived.WalkLawsBesides
import Derived.Lib.Hide
import Derived.Deep.LoopGhost
import Derived.Deep.QuietTactic
import Derived.Deep.RegionHeld3
import Derived.BigQuiet
namespace Go.Proofs.YtchpdmcfnpcfeaaDoor
open Go.RowKit
set_option linter.unusedVariables false
set_option linter.unusedSimpArgs false
/-- are they all runners, from 1 to 6 -/
def allR (l : Int) (xs : List (Int × Int)) : Bool := xs.all fun p => rn1 l p.1 p.2
def rns (l : Int) (xs : List (Int × Int)) : Bool := inB (xs.length : Int) 1 6 && allR l xs
theorem allR_at {l : Int} {xs : List (Int × Int)} (h : allR l xs = true) {i : Nat} (hi : i < xs.length) : rn1 l (px xs i) (py xs i) = true := by
  unfold allR at h
  rw [List.all_eq_true] at h
  have := h xs[i] (List.getElem_mem hi)
  simpa [px, py, List.getD, List.getElem?_eq_getElem hi] using this
theorem allR_no {l : Int} {xs : List (Int × Int)} {i : Nat} (hi : i < xs.length) (h : rn1 l (px xs i) (py xs i) = false) : allR l xs = false := by
  cases hw : allR l xs
  · rfl
  · rw [allR_at hw hi] at h; cases h
theorem allR_of {l : Int} {xs : List (Int × Int)} (h : ∀ i, i < xs.length → rn1 l (px xs i) (py xs i) = true) : allR l xs = true := by
  unfold allR
  rw [List.all_eq_true]
  intro p hp
  obtain ⟨i, hi, rfl⟩ := List.getElem_of_mem hp
  have := h i hi
  simpa [px, py, List.getD, List.getElem?_eq_getElem hi] using this
theorem rns_lap {l : Int} {xs : List (Int × Int)} (h : lapOk l = false) : rns l xs = false := by
  cases hw : rns l xs
  · rfl
  · unfold rns at hw
    rw [Bool.and_eq_true, inB_iff] at hw
    have := allR_at hw.2 (i := 0) (by omega)
    unfold rn1 at this
    rw [h] at this; simp at this
theorem rns_one (l p s : Int) : rns l [(p, s)] = rn1 l p s := by simp [rns, allR, inB]
theorem rns_two (l p s q r : Int) : rns l [(p, s), (q, r)] = rn2 l p s q r := by simp [rns, allR, inB, rn2]
theorem rns_at {l : Int} {xs : List (Int × Int)} (h : rns l xs = true) : 1 ≤ xs.length ∧ xs.length ≤ 6 ∧ ∀ i, i < xs.length → rn1 l (px xs i) (py xs i) = true := by
  unfold rns at h
  rw [Bool.and_eq_true, inB_iff] at h
  exact ⟨by omega, by omega, fun i hi => allR_at h.2 hi⟩
end Go.Proofs.YtchpdmcfnpcfeaaDoor
