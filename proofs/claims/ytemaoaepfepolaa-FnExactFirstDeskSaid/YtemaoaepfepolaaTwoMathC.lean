/- Plain mathematics of chapter 2 (walkers), the third part: no program is named here. -/
import Derived.Test.YtemaoaepfepolaaTwoMath
namespace Go.Proofs.Ytemaoaepfepolaa
open Go.RowKit
set_option linter.unusedVariables false
/-- the greatest divisor of the first speeds -/
def gdk (ys : Nat → Int) : Nat → Int
  | 0 => 0
  | j + 1 => gc (gdk ys j) (ys j)
theorem gc_bd {c s B : Int} (h1 : 0 ≤ c) (h2 : c ≤ B) (h3 : -B ≤ s) (h4 : s ≤ B) : 0 ≤ gc c s ∧ gc c s ≤ B := by
  refine ⟨gc_nonneg _ _, ?_⟩
  by_cases e : s = 0
  · subst e; rw [gc_zero c h1]; exact h2
  · have := gc_le (a := c) (b := ab s) (by unfold ab; split <;> omega)
    rw [gc_ab'] at this
    have := ab_le h3 h4
    omega
theorem gdk_bd {ys : Nat → Int} {n : Nat} (h : ∀ i, i < n → -100 ≤ ys i ∧ ys i ≤ 100) : ∀ j, j ≤ n → 0 ≤ gdk ys j ∧ gdk ys j ≤ 100
  | 0, _ => by simp [gdk]
  | j + 1, hj => by
    have a := gdk_bd h j (by omega)
    have b := h j (by omega)
    exact gc_bd a.1 a.2 b.1 b.2
def saB (m : Int) (ok : Bool) (g : Int) : Bool := inB m 1 1000 && ok && decide (g ≠ 0)
def saN (m : Int) (ok : Bool) (g : Int) : Int := if saB m ok g then lwN m g else 0
def saD (m : Int) (ok : Bool) (g : Int) : Int := if saB m ok g then lwD m g else 0
theorem sa_no {m : Int} {ok : Bool} {g : Int} (h : saB m ok g = false) : saN m ok g = 0 ∧ saD m ok g = 0 := by unfold saN saD; rw [h]; simp
theorem sa_yes {m : Int} {ok : Bool} {g : Int} (h : saB m ok g = true) : saN m ok g = lwN m g ∧ saD m ok g = lwD m g := by unfold saN saD; rw [h]; simp
end Go.Proofs.Ytemaoaepfepolaa
