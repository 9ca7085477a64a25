/- A tool: the ways through a piece of code that make memory in several orders are brought to one end: what each way says of the slots that the piece has set and of the world. -/
import Derived.Test.YtnnokfecjdmjpaaProg
import Derived.WalkKit
namespace Go.Proofs.Ytnnokfecjdmjpaa
open Go.RowKit
def putsU (a : Act) : List (Tmp × Value) → Act
  | [] => a
  | p :: l => putsU (a.put (some p.1) p.2) l
theorem wp_uni {P : Program} {c : Code} {Q : Exit → Act → World → Prop} {a : Act} {w : World} (ts : List Tmp) (F : List Value → World → Prop)
    (h1 : c.wp P (fun e a' w' => e = .normal ∧ ∃ vs, a' = putsU a (ts.zip vs) ∧ F vs w') a w)
    (h2 : ∀ vs w', F vs w' → Q .normal (putsU a (ts.zip vs)) w') : c.wp P Q a w :=
  Code.wp_mono (fun e a' w' h => by
    obtain ⟨he, vs, ha, hf⟩ := h
    subst he
    subst ha
    exact h2 vs w' hf) h1
theorem new2U (w : World) (u v : Value) (e : TypeId) : (w.alloc (.cells #[u, v] e)).cell? ⟨w.heap.size, 0, none⟩ = some u ∧ (w.alloc (.cells #[u, v] e)).cell? ⟨w.heap.size, 1, none⟩ = some v ∧ (w.alloc (.cells #[u, v] e)).frozen? ⟨w.heap.size, 0, none⟩ = false ∧ (w.alloc (.cells #[u, v] e)).frozen? ⟨w.heap.size, 1, none⟩ = false := by
  refine ⟨?_, ?_, ?_, ?_⟩ <;> go_simp
theorem set2U {w : World} {k : Nat} {u v X Y : Value} (h0 : w.cell? ⟨k, 0, none⟩ = some u) (h1 : w.cell? ⟨k, 1, none⟩ = some v) : ((w.setCell ⟨k, 0, none⟩ X).setCell ⟨k, 1, none⟩ Y).cell? ⟨k, 0, none⟩ = some X ∧ ((w.setCell ⟨k, 0, none⟩ X).setCell ⟨k, 1, none⟩ Y).cell? ⟨k, 1, none⟩ = some Y := by
  refine ⟨?_, ?_⟩ <;> go_simp
theorem set2F {w : World} {k o : Nat} {X Y : Value} {p q : Addr} (h : w.frozen? ⟨k, o, none⟩ = false) : ((w.setCell p X).setCell q Y).frozen? ⟨k, o, none⟩ = false := by
  rw [World.frozen?_setCell, World.frozen?_setCell]; exact h
end Go.Proofs.Ytnnokfecjdmjpaa
