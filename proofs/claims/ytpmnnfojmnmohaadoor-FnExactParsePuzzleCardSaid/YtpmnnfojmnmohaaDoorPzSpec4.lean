/- Puzzles (chapter 9): the model's functions that answer lists and puzzles by contracts. -/
import Derived.Test.YtpmnnfojmnmohaaDoorPzSpec3
import Derived.Test.YtpmnnfojmnmohaaDoorSlices
import Derived.WalkKit
import Derived.WalkSpells
import Derived.WalkLawsBesides
import Derived.Lib.Hide
import Derived.Deep.LoopGhost
import Derived.Deep.QuietTactic
import Derived.Deep.RegionWith
import Derived.Deep.RegionHeld3
import Derived.Deep.RegionHeldLaw
import Derived.BigQuiet
namespace Go.Proofs.YtpmnnfojmnmohaaDoor
open Go.RowKit
set_option linter.unusedVariables false
set_option linter.unusedSimpArgs false
theorem own_lit_at (w : World) (base g : Nat) (e : TypeId) (hg : w.heap.size = g) (hb : base ≤ g) : (w.alloc (.cells #[] e)).ownsRow base e 3 (.slice (some ⟨g, 0, none⟩) 0 0) 0 [] := by
  subst hg
  exact World.ownsRow_lit w #[] 0 hb (by decide) rfl
theorem three_kept {X w2 : World} {r : Option Nat} {g : Nat} {u v z : Value} (hg : X.grownBy w2 r) (hr : some g ≠ r) (hlt : g < X.heap.size) (h0 : X.cell? ⟨g, 0, none⟩ = some u) (h1 : X.cell? ⟨g, 1, none⟩ = some v) (h2 : X.cell? ⟨g, 2, none⟩ = some z) : ∀ (j : Nat) (x : Value), [u, v, z][j]? = some x → w2.cell? ((⟨g, 0, none⟩ : Addr).add j) = some x :=
  cell_three_at ((hg.cell_far ⟨g, 0, none⟩ hlt hr).trans h0) ((hg.cell_far ⟨g, 1, none⟩ hlt hr).trans h1) ((hg.cell_far ⟨g, 2, none⟩ hlt hr).trans h2)
/-- a cell of a block before all that a row may lie in -/
theorem box_far {w w' : World} {r : Option Nat} {B o : Nat} (hg : w.grownBy w' r) (hr : ∀ k, r = some k → B < k) (hlt : B < w.heap.size) : w'.cell? ⟨B, o, none⟩ = w.cell? ⟨B, o, none⟩ :=
  hg.cell_far ⟨B, o, none⟩ hlt (fun e => by have := hr B e.symm; omega)
/-- the needless ones among the first -/
def ndN (xs : List (Int × Int × Int)) : Nat → List Int
  | 0 => []
  | k + 1 => ndN xs k ++ (if (sol (drp xs k)).length = (sol xs).length then [(k : Int)] else [])
theorem ndN_len (xs : List (Int × Int × Int)) : ∀ k, (ndN xs k).length ≤ k
  | 0 => Nat.le_refl _
  | k + 1 => by
    have := ndN_len xs k
    simp only [ndN, List.length_append]
    split <;> simp <;> omega
def ndL (xs : List (Int × Int × Int)) : List Int := if pzG xs then ndN xs xs.length else []
/-- how many are left by the first ones -/
def lfN (xs : List (Int × Int × Int)) : Nat → List Int
  | 0 => []
  | k + 1 => lfN xs k ++ [((sol (xs.take k)).length : Int)]
theorem lfN_len (xs : List (Int × Int × Int)) : ∀ k, (lfN xs k).length = k
  | 0 => rfl
  | k + 1 => by simp [lfN, lfN_len xs k]
def lfL (xs : List (Int × Int × Int)) : List Int := if pzG xs then lfN xs (xs.length + 1) else []
theorem clA_take {xs : List (Int × Int × Int)} (k : Nat) (h : clA xs = true) : clA (xs.take k) = true := clA_sub h fun _ hp => List.mem_of_mem_take hp
/-- the first ones of a slice -/
theorem RdC.first {w : World} {a : Option Addr} {xs : List (Int × Int × Int)} (h : RdC w a xs) (k : Nat) : RdC w a (xs.take k) := by
  rcases h with h | ⟨b, off, rfl, hlt, hc⟩
  · exact .inl (by rw [h]; simp)
  · have := RdC.part hlt hc 0 k
    simpa using this
/-- without the one with an index -/
def dpB (xs : List (Int × Int × Int)) (k : Int) : Bool := pzG xs && inB k 0 ((xs.length : Int) - 1)
def dpL (xs : List (Int × Int × Int)) (k : Int) : List (Int × Int × Int) := if dpB xs k then drp xs k.toNat else []
/-- with one more -/
def adB (xs : List (Int × Int × Int)) (k a b : Int) : Bool := pzG xs && clB k a b && !decide (xs.length = 6)
def adL (xs : List (Int × Int × Int)) (k a b : Int) : List (Int × Int × Int) := if adB xs k a b then xs ++ [(k, a, b)] else []
end Go.Proofs.YtpmnnfojmnmohaaDoor
