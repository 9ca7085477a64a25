/- Puzzles (chapter 9): the program's DoesFit and AddClue by contracts. -/
import Derived.Test.YtnnokfecjdmjpabPzFn
import Derived.Test.YtnnokfecjdmjpabPzPart
import Derived.WalkKit
import Derived.OwnWalk
import Derived.WalkSpells
import Derived.WalkLawsBesides
import Derived.Lib.Hide
import Derived.Deep.QuietTactic
import Derived.Deep.RegionWith
import Derived.Deep.RegionLaw
import Derived.Deep.RegionHeld3
import Derived.Deep.RegionHeldLaw
import Derived.BigQuiet
import Derived.Shelf.Abstract
namespace Go.Proofs.Ytnnokfecjdmjpab
open Go.RowKit
set_option linter.unusedVariables false
set_option linter.unusedSimpArgs false
theorem rd_one {w : World} {g : Nat} {k a b : Int} (hlt : g < w.heap.size) (h0 : w.cell? ⟨g, 0, none⟩ = some (.int .i64 k)) (h1 : w.cell? ⟨g, 1, none⟩ = some (.int .i64 a)) (h2 : w.cell? ⟨g, 2, none⟩ = some (.int .i64 b)) : RdT w (some ⟨g, 0, none⟩) [(k, a, b)] := by
  refine .inr ⟨g, 0, rfl, hlt, fun i hi => ?_⟩
  obtain rfl : i = 0 := by simp at hi; omega
  exact ⟨h0, h1, h2⟩
theorem pzG_one (k a b : Int) : pzG [(k, a, b)] = clB k a b := by simp [pzG, clA]
theorem fiA_one (k a b u d : Int) : fiA [(k, a, b)] u d = decide (pzV k a u d = b) := by simp [fiA, fiB]
theorem pzG_snoc (xs : List (Int × Int × Int)) (k a b : Int) : pzG (xs ++ [(k, a, b)]) = adB xs k a b := by
  unfold pzG adB pzG clA
  rw [List.all_append, List.length_append]
  simp only [List.all_cons, List.all_nil, Bool.and_true, List.length_singleton]
  by_cases q : xs.length + 1 ≤ 6
  · rw [decide_eq_true q, decide_eq_true (show xs.length ≤ 6 by omega), decide_eq_false (show ¬ xs.length = 6 by omega)]
    simp
  · rw [decide_eq_false q]
    by_cases q2 : xs.length = 6
    · rw [decide_eq_true q2]; simp
    · rw [decide_eq_false (show ¬ xs.length ≤ 6 by omega)]; simp
theorem three_at {W : World} {g : Nat} {u v z : Value} (h0 : W.cell? ⟨g, 0, none⟩ = some u) (h1 : W.cell? ⟨g, 1, none⟩ = some v) (h2 : W.cell? ⟨g, 2, none⟩ = some z) : ∀ (j : Nat) (x : Value), [u, v, z][j]? = some x → W.cell? ((⟨g, 0, none⟩ : Addr).add j) = some x := by
  intro j x hx
  have ea : (⟨g, 0, none⟩ : Addr).add j = ⟨g, j, none⟩ := by unfold Addr.add; split <;> simp_all
  rw [ea]
  match j, hx with
  | 0, hx => simp at hx; subst hx; exact h0
  | 1, hx => simp at hx; subst hx; exact h1
  | 2, hx => simp at hx; subst hx; exact h2
  | _ + 3, hx => simp at hx
end Go.Proofs.Ytnnokfecjdmjpab
