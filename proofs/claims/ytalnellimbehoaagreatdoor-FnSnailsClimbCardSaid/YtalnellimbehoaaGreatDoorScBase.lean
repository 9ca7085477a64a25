/- What the pieces of the walk of the named law of snails that climb share: a box that holds a snail, and the tail of a piece of code. -/
import Derived.Test.YtalnellimbehoaaGreatDoorProg
import Derived.Test.YtalnellimbehoaaGreatDoorSlices
import Derived.Deep.Cut
import Derived.Deep.CutRange
import Derived.WalkKit
import Derived.ProofKit
import Derived.Below
import Derived.Lib.SmallJoins
import Derived.Lib.Hide
namespace Go.Proofs.YtalnellimbehoaaGreatDoor
open Go.ChangeShapes Go.WideShapes Go.ChangeAt Go.RowKit Go.Joins
set_option linter.unusedVariables false
set_option linter.unusedSimpArgs false
namespace fnSnailsClimb
/-- a block that holds two numbers -/
def Bx (b : Nat) (l r : Int) (w : World) : Prop := b < w.heap.size ∧ w.cell? ⟨b, 0, none⟩ = some (.int .i64 l) ∧ w.cell? ⟨b, 1, none⟩ = some (.int .i64 r)
theorem Bx.below {b : Nat} {l r : Int} {w w' : World} (h : Bx b l r w) (hb : Below w.heap.size w w') : Bx b l r w' := by
  obtain ⟨h1, h2, h3⟩ := h
  have e := fun o => (bcell hb).1 b o h1
  exact ⟨Nat.lt_of_lt_of_le h1 hb.size, by rw [e]; exact h2, by rw [e]; exact h3⟩
theorem hbs {w a b : World} (H : Hid (Below w.heap.size w a)) (hb : Below a.heap.size a b) : Hid (Below w.heap.size w b) := Lib.hid (H.out.trans (hb.mono H.out.size))
/-- the first region of a piece of code -/
def lead : Code → Option Nat
  | .region n _ _ => some n
  | .seq a _ => lead a
  | _ => none
/-- the greatest piece of code that begins with the region n -/
def tailAt (n : Nat) : Code → Option Code
  | .seq a b => if lead a = some n then some (.seq a b) else match tailAt n a with
    | some c => some c
    | none => tailAt n b
  | .loop c => tailAt n c
  | .block _ c => tailAt n c
  | .scope c => tailAt n c
  | .cond _ a b => match tailAt n a with
    | some c => some c
    | none => tailAt n b
  | _ => none
noncomputable def code29 : Code := ((Tryz.f3.body.bind (tailAt 29)).getD .skip)
noncomputable def code45 : Code := ((Tryz.f3.body.bind (tailAt 45)).getD .skip)
end fnSnailsClimb
end Go.Proofs.YtalnellimbehoaaGreatDoor
