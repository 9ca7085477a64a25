/- The mean of equal parts: the model's function by contracts. -/
import Derived.Test.YtikfblbfodacaaaLegMean
import Derived.WalkKit
import Derived.WalkSpells
import Derived.WalkLawsBesides
import Derived.Lib.Hide
import Derived.Deep.LoopGhost
import Derived.Deep.QuietTactic
import Derived.Deep.RegionHeld3
import Derived.BigQuiet
namespace Go.Proofs.Ytikfblbfodacaaa
open Go.RowKit
set_option linter.unusedVariables false
set_option linter.unusedSimpArgs false
/-- legs of length one -/
def hvs (xs : List Int) : List (Int × Int) := xs.map fun s => (1, s)
theorem hvs_length (xs : List Int) : (hvs xs).length = xs.length := by simp [hvs]
theorem hvs_at {xs : List Int} {i : Nat} (h : i < xs.length) : px (hvs xs) i = 1 ∧ py (hvs xs) i = xs.getD i 0 := by
  unfold px py hvs
  simp [List.getD, List.getElem?_eq_getElem h]
theorem hvs_ok {xs : List Int} (h : spS xs = true) : lgS (hvs xs) = true := by
  have t := spS_at h
  unfold lgS
  rw [Bool.and_eq_true, inB_iff, hvs_length]
  refine ⟨by omega, ?_⟩
  refine allP_of ?_
  intro i hi
  rw [hvs_length] at hi
  rw [(hvs_at hi).1, (hvs_at hi).2, lgOk_iff]
  have := t.2.2 i hi
  omega
theorem cs2_snocH (out : List (Int × Int)) (u v : Int) : cs2 (out ++ [(u, v)]) = cs2 out ++ [.int .i64 u, .int .i64 v] := by
  induction out with
  | nil => rfl
  | cons p t ih => simp [cs2, ih]
theorem hvs_take {xs : List Int} {j : Nat} (h : j < xs.length) : hvs (xs.take (j + 1)) = hvs (xs.take j) ++ [(1, xs.getD j 0)] := by
  unfold hvs
  rw [List.take_add_one, List.getElem?_eq_getElem h, List.map_append]
  congr 1
  simp [List.getD, List.getElem?_eq_getElem h]
theorem cell_two_newH (w : World) (u v : Value) (e : TypeId) : ∀ (j : Nat) (x : Value), [u, v][j]? = some x → (w.alloc (.cells #[u, v] e)).cell? ((⟨w.heap.size, 0, none⟩ : Addr).add j) = some x := by
  intro j x hx
  have ea : (⟨w.heap.size, 0, none⟩ : Addr).add j = ⟨w.heap.size, j, none⟩ := by unfold Addr.add; split <;> simp_all
  rw [ea]
  match j, hx with
  | 0, hx => simp at hx; subst hx; go_simp
  | 1, hx => simp at hx; subst hx; go_simp
  | j + 2, hx => simp at hx
theorem own_formH {w : World} {base e size n : Nat} {v : Value} {xs : List Value} (h : w.ownsRow base e size v n xs) : ∃ a c, v = .slice a n c := by
  rcases h.2 with ⟨rfl, rfl⟩ | ⟨g, c, _, rfl, _⟩
  · exact ⟨_, _, rfl⟩
  · exact ⟨_, _, rfl⟩
end Go.Proofs.Ytikfblbfodacaaa
