/- Slices of integers: what a slice reads as, what it owns; the laws' own helpers toIntS, eqIntS, markIntS, heldIntS by contracts. -/
import Derived.Test.YtlmbcbopahpagaaProg
import Derived.Test.YtlmbcbopahpagaaMath
import Derived.WalkKit
import Derived.WalkSpells
import Derived.WalkLawsBesides
import Derived.Lib.Hide
import Derived.Deep.LoopGhost
import Derived.Deep.QuietTactic
import Derived.BigQuiet
namespace Go.Proofs.Ytlmbcbopahpagaa
open Go.RowKit
set_option linter.unusedVariables false
set_option linter.unusedSimpArgs false

/-- The elements of a slice at a read as xs: nothing is asked of its spare room. -/
def Rd (w : World) (a : Option Addr) (xs : List Int) : Prop :=
  xs = [] ∨ ∃ b off, a = some ⟨b, off, none⟩ ∧ b < w.heap.size ∧ ∀ i, i < xs.length → w.cell? ⟨b, off + i, none⟩ = some (.int .i64 (xs.getD i 0))
theorem Rd.below {w w' : World} {a : Option Addr} {xs : List Int} (h : Rd w a xs) (hb : Below w.heap.size w w') : Rd w' a xs := by
  rcases h with h | ⟨b, off, e, hlt, hc⟩
  · exact .inl h
  · exact .inr ⟨b, off, e, Nat.lt_of_lt_of_le hlt hb.size, fun i hi => by rw [(bcell hb).1 b _ hlt]; exact hc i hi⟩
/-- The slice at a with so many elements is the call's own, from block base on, and reads as xs. -/
def Own (w : World) (base : Nat) (a : Option Addr) (cap : Nat) (xs : List Int) : Prop :=
  w.ownsRow base 3 1 (.slice a xs.length cap) xs.length (xs.map (Value.int .i64))
theorem Own.below {w w' : World} {base : Nat} {a : Option Addr} {cap : Nat} {xs : List Int} (h : Own w base a cap xs) (hb : Below w.heap.size w w') : Own w' base a cap xs := by
  obtain ⟨hl, h⟩ := h
  refine ⟨hl, ?_⟩
  rcases h with h | ⟨g, c, cur, e, h1, h2, h3⟩
  · exact .inl h
  · have hg : g < w.heap.size := by
      rcases Nat.lt_or_ge g w.heap.size with q | q
      · exact q
      · rw [Array.getElem?_eq_none q] at h2; cases h2
    exact .inr ⟨g, c, cur, e, h1, by rw [hb.block g hg]; exact h2, h3⟩
theorem Own.grown {w w' : World} {base : Nat} {a : Option Addr} {cap : Nat} {xs : List Int} {row : Option Nat} (h : Own w base a cap xs) (hg : w.grownBy w' row) (hne : (Value.slice a xs.length cap).ownBlock = none ∨ (Value.slice a xs.length cap).ownBlock ≠ row) : Own w' base a cap xs :=
  World.ownsRow.kept h hg hne
theorem Own.rd {w : World} {base : Nat} {a : Option Addr} {cap : Nat} {xs : List Int} (h : Own w base a cap xs) : Rd w a xs := by
  obtain ⟨hl, h⟩ := h
  rcases h with ⟨_, h0⟩ | ⟨g, c, cur, e, h1, h2, h3, h4, h5, h6⟩
  · exact .inl (List.length_eq_zero_iff.1 h0)
  · refine .inr ⟨g, 0, by injection e, ?_, fun i hi => ?_⟩
    · rcases Nat.lt_or_ge g w.heap.size with q | q
      · exact q
      · rw [Array.getElem?_eq_none q] at h2; cases h2
    · have hc := World.ownsRow.cells (base := base) (e := 3) (size := 1) (n := xs.length) (xs := xs.map (Value.int .i64)) (v := .slice a xs.length cap) (w := w) ⟨hl, .inr ⟨g, c, cur, e, h1, h2, h3, h4, h5, h6⟩⟩ (g := g) (by rw [e]; rfl) i (.int .i64 (xs.getD i 0)) (by rw [List.getElem?_map, List.getElem?_eq_getElem hi]; simp [List.getD, List.getElem?_eq_getElem hi])
      have e2 : (⟨g, 0, none⟩ : Addr).add i = ⟨g, 0 + i, none⟩ := by unfold Addr.add; split <;> simp_all
      rw [← e2]; exact hc
theorem rd_of_cells {w : World} {x : Addr} {n : Nat} {zs : List Int} (hn : n ≤ zs.length) (hc : ∀ i, i < zs.length → w.cell? (x.add i) = some (.int .i64 (zs.getD i 0))) : Rd w (some x) (zs.take n) := by
  by_cases h0 : n = 0
  · subst h0; exact .inl (by simp)
  · have hpos : 0 < zs.length := by omega
    have q0 := hc 0 hpos
    obtain ⟨b, off, spot⟩ := x
    have hspot : spot = none := by
      have := World.cell?_spot q0
      unfold Addr.add at this; simpa using this
    subst hspot
    have hb : b < w.heap.size := by
      rcases Nat.lt_or_ge b w.heap.size with q | q
      · exact q
      · exfalso
        have e : w.heap[b]? = none := Array.getElem?_eq_none q
        have q1 : (Addr.add ⟨b, off, none⟩ 0).block = b := by unfold Addr.add; split <;> rfl
        simp [World.cell?, q1, e] at q0
    refine .inr ⟨b, off, rfl, hb, fun i hi => ?_⟩
    rw [List.length_take] at hi
    have e2 : (⟨b, off, none⟩ : Addr).add i = ⟨b, off + i, none⟩ := by unfold Addr.add; split <;> simp_all
    have e3 : (zs.take n).getD i 0 = zs.getD i 0 := by
      simp only [List.getD, List.getElem?_take]; rw [if_pos (by omega)]
    rw [← e2, e3]; exact hc i (by omega)
theorem row_rd {w : World} {base n : Nat} {a : Option Addr} {cap : Nat} {xs : List Int} (hl : xs.length = n) (h : w.ownsRow base 3 1 (.slice a n cap) n (xs.map (Value.int .i64))) : Rd w a xs := by
  subst hl; exact Own.rd h
theorem row_lt {w : World} {base n : Nat} {a : Option Addr} {cap : Nat} {xs : List Value} (h : w.ownsRow base 3 1 (.slice a n cap) n xs) : ∀ k, (Value.slice a n cap).ownBlock = some k → base ≤ k ∧ k < w.heap.size := h.lt
theorem row_ne {w : World} {base n X : Nat} {a : Option Addr} {cap : Nat} {xs : List Value} (h : w.ownsRow base 3 1 (.slice a n cap) n xs) (hX : X < base) : (Value.slice a n cap).ownBlock = none ∨ (Value.slice a n cap).ownBlock ≠ some X := by
  cases hq : (Value.slice a n cap).ownBlock with
  | none => exact .inl rfl
  | some k => exact .inr fun e => by have := (h.lt k hq).1; injection e with e; omega
/-- what a function of ([]int, bool) answers: a list of its own in new memory -/
def RetS (w : World) (xs : List Int) (ok : Bool) (e : Ending) (w' : World) : Prop :=
  ∃ (a : Option Addr) (cap : Nat), e = .returned (.tuple #[.slice a xs.length cap, .bool ok]) ∧ Own w' w.heap.size a cap xs ∧ Below w.heap.size w w'
/-- the marks k, k + 1, .. -/
def sq (k : Int) (n : Nat) : List Int := (List.range n).map fun (i : Nat) => k + (i : Int)
theorem sq_length (k : Int) (n : Nat) : (sq k n).length = n := by simp [sq]
theorem sq_getD (k : Int) (n i : Nat) (h : i < n) : (sq k n).getD i 0 = k + (i : Int) := by simp [sq, List.getD, h]

theorem intInfo : (Try.prog.info? 3).map (fun i => (i.zero, i.size, i.bytes)) = some (some (.int .i64 0), 1, 8) := by kernel_rfl

end Go.Proofs.Ytlmbcbopahpagaa
