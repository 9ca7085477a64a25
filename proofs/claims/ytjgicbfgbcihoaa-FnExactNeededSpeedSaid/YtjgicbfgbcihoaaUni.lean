/- A tool: the ways through a piece of code that make memory in several orders are brought to one end: what each way says of the slots that the piece has set and of the world. -/
import Derived.Test.YtjgicbfgbcihoaaProg
import Derived.WalkKit
namespace Go.Proofs.Ytjgicbfgbcihoaa
open Go.RowKit
def putsU (a : Act) : List (Tmp × Value) → Act
  | [] => a
  | p :: l => putsU (a.put (some p.1) p.2) l
theorem wp_uni {P : Program} {c : Code} {Q : Exit → Act → World → Prop} {a : Act} {w : World} (ts : List Tmp) (F : List Value → World → Prop)
    (h1 : c.wp P (fun e a' w' => e = .normal ∧ ∃ vs, a' = putsU a (ts.zip vs) ∧ F vs w') a w)
    (h2 : ∀ vs w', F vs w' → Q .normal (putsU a (ts.zip vs)) w') : c.wp P Q a w :=
  Code.wp_mono (fun e a' w' h => by
    obtain ⟨he, vs, ha, hf⟩ := h
    subst he
    subst ha
    exact h2 vs w' hf) h1
end Go.Proofs.Ytjgicbfgbcihoaa
