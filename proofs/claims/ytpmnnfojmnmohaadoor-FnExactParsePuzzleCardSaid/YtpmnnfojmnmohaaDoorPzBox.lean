/- Boxes of one, two and three cells, kept from world to world; rows kept apart. -/
import Derived.Test.YtpmnnfojmnmohaaDoorTriC
import Derived.Test.YtpmnnfojmnmohaaDoorPairsK
import Derived.Test.YtpmnnfojmnmohaaDoorSlices
import Derived.WalkKit
import Derived.Deep.AppendLies
namespace Go.Proofs.YtpmnnfojmnmohaaDoor
open Go.RowKit
set_option linter.unusedVariables false
def Box1 (w : World) (b : Nat) (v0 : Value) : Prop := b < w.heap.size ∧ w.cell? ⟨b, 0, none⟩ = some v0
def Box2 (w : World) (b : Nat) (v0 v1 : Value) : Prop := b < w.heap.size ∧ w.cell? ⟨b, 0, none⟩ = some v0 ∧ w.cell? ⟨b, 1, none⟩ = some v1
def Box3 (w : World) (b : Nat) (v0 v1 v2 : Value) : Prop := b < w.heap.size ∧ w.cell? ⟨b, 0, none⟩ = some v0 ∧ w.cell? ⟨b, 1, none⟩ = some v1 ∧ w.cell? ⟨b, 2, none⟩ = some v2
theorem Box1.below {w w' : World} {b : Nat} {v0 : Value} (h : Box1 w b v0) (hb : Below w.heap.size w w') : Box1 w' b v0 := by
  obtain ⟨h0, h1⟩ := h
  exact ⟨Nat.lt_of_lt_of_le h0 hb.size, by rw [(bcell hb).1 _ _ h0]; exact h1⟩
theorem Box2.below {w w' : World} {b : Nat} {v0 v1 : Value} (h : Box2 w b v0 v1) (hb : Below w.heap.size w w') : Box2 w' b v0 v1 := by
  obtain ⟨h0, h1, h2⟩ := h
  exact ⟨Nat.lt_of_lt_of_le h0 hb.size, by rw [(bcell hb).1 _ _ h0]; exact h1, by rw [(bcell hb).1 _ _ h0]; exact h2⟩
theorem Box3.below {w w' : World} {b : Nat} {v0 v1 v2 : Value} (h : Box3 w b v0 v1 v2) (hb : Below w.heap.size w w') : Box3 w' b v0 v1 v2 := by
  obtain ⟨h0, h1, h2, h3⟩ := h
  exact ⟨Nat.lt_of_lt_of_le h0 hb.size, by rw [(bcell hb).1 _ _ h0]; exact h1, by rw [(bcell hb).1 _ _ h0]; exact h2, by rw [(bcell hb).1 _ _ h0]; exact h3⟩
theorem Box1.grown {w w' : World} {row : Option Nat} {b : Nat} {v0 : Value} (h : Box1 w b v0) (hg : w.grownBy w' row) (hne : some b ≠ row) : Box1 w' b v0 := by
  obtain ⟨h0, h1⟩ := h
  have e := fun o => hg.cell_far ⟨b, o, none⟩ h0 hne
  exact ⟨Nat.lt_of_lt_of_le h0 hg.size, by rw [e]; exact h1⟩
theorem Box2.grown {w w' : World} {row : Option Nat} {b : Nat} {v0 v1 : Value} (h : Box2 w b v0 v1) (hg : w.grownBy w' row) (hne : some b ≠ row) : Box2 w' b v0 v1 := by
  obtain ⟨h0, h1, h2⟩ := h
  have e := fun o => hg.cell_far ⟨b, o, none⟩ h0 hne
  exact ⟨Nat.lt_of_lt_of_le h0 hg.size, by rw [e]; exact h1, by rw [e]; exact h2⟩
theorem Box3.grown {w w' : World} {row : Option Nat} {b : Nat} {v0 v1 v2 : Value} (h : Box3 w b v0 v1 v2) (hg : w.grownBy w' row) (hne : some b ≠ row) : Box3 w' b v0 v1 v2 := by
  obtain ⟨h0, h1, h2, h3⟩ := h
  have e := fun o => hg.cell_far ⟨b, o, none⟩ h0 hne
  exact ⟨Nat.lt_of_lt_of_le h0 hg.size, by rw [e]; exact h1, by rw [e]; exact h2, by rw [e]; exact h3⟩
theorem own_apart {u v : Value} (h : ∀ k, u.ownBlock = some k → v.ownBlock = some k → False) : u.ownBlock = none ∨ u.ownBlock ≠ v.ownBlock := by
  cases hq : u.ownBlock with
  | none => exact .inl rfl
  | some k => exact .inr fun e => h k hq e.symm
theorem Own.apart' {w w' : World} {base : Nat} {a : Option Addr} {cap : Nat} {ks : List Int} {r : Option Nat} (h : Own w base a cap ks) (hg : w.grownBy w' r) (hr : (Value.slice a ks.length cap).ownBlock = none ∨ (Value.slice a ks.length cap).ownBlock ≠ r) : Own w' base a cap ks := World.ownsRow.kept h hg hr
theorem OwnC.apart' {w w' : World} {base : Nat} {a : Option Addr} {cap : Nat} {ks : List (Int × Int × Int)} {r : Option Nat} (h : OwnC w base a cap ks) (hg : w.grownBy w' r) (hr : (Value.slice a ks.length cap).ownBlock = none ∨ (Value.slice a ks.length cap).ownBlock ≠ r) : OwnC w' base a cap ks := World.ownsRow.kept h hg hr
end Go.Proofs.YtpmnnfojmnmohaaDoor
