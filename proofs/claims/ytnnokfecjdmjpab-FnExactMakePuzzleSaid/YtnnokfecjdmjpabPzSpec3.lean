/- Puzzles (chapter 9): the model's functions on one puzzle by contracts. -/
import Derived.Test.YtnnokfecjdmjpabPzSpec2
import Derived.Test.YtnnokfecjdmjpabSlices
import Derived.WalkKit
import Derived.WalkSpells
import Derived.WalkLawsBesides
import Derived.Lib.Hide
import Derived.Deep.LoopGhost
import Derived.Deep.QuietTactic
import Derived.Deep.RegionWith
import Derived.Deep.RegionHeld3
import Derived.BigQuiet
namespace Go.Proofs.Ytnnokfecjdmjpab
open Go.RowKit
set_option linter.unusedVariables false
set_option linter.unusedSimpArgs false
def RetK (w : World) (L : List (Int × Int)) (ok : Bool) (e : Ending) (w' : World) : Prop :=
  ∃ (a : Option Addr) (cap : Nat), e = .returned (.tuple #[.slice a L.length cap, .bool ok]) ∧ OwnK w' w.heap.size a cap L ∧ Below w.heap.size w w'
def RetI9 (w : World) (L : List Int) (ok : Bool) (e : Ending) (w' : World) : Prop :=
  ∃ (a : Option Addr) (cap : Nat), e = .returned (.tuple #[.slice a L.length cap, .bool ok]) ∧ Own w' w.heap.size a cap L ∧ Below w.heap.size w w'
def RetP9 (w : World) (L : List (Int × Int × Int)) (ok : Bool) (e : Ending) (w' : World) : Prop :=
  ∃ (a : Option Addr) (cap : Nat), e = .returned (.tuple #[.agg #[.slice a L.length cap], .bool ok]) ∧ OwnC w' w.heap.size a cap L ∧ Below w.heap.size w w'
/-- the answers -/
def slL (xs : List (Int × Int × Int)) : List (Int × Int) := if pzG xs then sol xs else []
def slC (xs : List (Int × Int × Int)) : Int := if pzG xs then ((sol xs).length : Int) else 0
def slS (xs : List (Int × Int × Int)) : Bool := pzG xs && decide ((sol xs).length = 1)
def slF (xs : List (Int × Int × Int)) : Bool := pzG xs && decide (0 < (sol xs).length)
def slU (xs : List (Int × Int × Int)) : Int := if slF xs then px (sol xs) 0 else 0
def slD (xs : List (Int × Int × Int)) : Int := if slF xs then py (sol xs) 0 else 0
/-- the number of all of the first j, or -1 -/
def suN (f : Nat → Int) : Nat → Int
  | 0 => f 0
  | j + 1 => if f j = suN f j then suN f j else -1
def suU (xs : List (Int × Int × Int)) : Int := if slF xs then suN (px (sol xs)) (sol xs).length else 0
def suD (xs : List (Int × Int × Int)) : Int := if slF xs then suN (py (sol xs)) (sol xs).length else 0
/-- where a list that is not empty lies -/
theorem row_ptr {w : World} {base : Nat} {a : Option Addr} {c : Nat} {L : List (Int × Int)} (h : OwnK w base a c L) (hl : 0 < L.length) : ∃ g, (a = some ⟨g, 0, none⟩ ∧ w.cell? ⟨g, 0, none⟩ = some (.int .i64 (px L 0)) ∧ w.cell? ⟨g, 1, none⟩ = some (.int .i64 (py L 0))) ∧ base ≤ g ∧ g < w.heap.size := by
  have h' := h
  rcases h.2 with ⟨_, q⟩ | ⟨g, c', cur, q, q1, q2, q3⟩
  · omega
  · have e1 : a = some ⟨g, 0, none⟩ := by injection q with x1 x2 x3
    subst e1
    refine ⟨g, ⟨rfl, ?_, ?_⟩, q1, (h'.lt g rfl).2⟩
    · have := h'.cellAt 0 (by omega)
      rw [this]; have := px_get hl; simpa using this
    · have := h'.cellAt 1 (by omega)
      rw [this]; have := py_get hl; simpa using this
end Go.Proofs.Ytnnokfecjdmjpab
