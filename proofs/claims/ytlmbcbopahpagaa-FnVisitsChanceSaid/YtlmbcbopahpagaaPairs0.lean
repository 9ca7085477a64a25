/- Slices of structs of two integers: what a slice reads as. -/
import Derived.Test.YtlmbcbopahpagaaProg
import Derived.Test.YtlmbcbopahpagaaTwoWalks
import Derived.WalkKit
import Derived.WalkSpells
import Derived.WalkLawsBesides
import Derived.Lib.Hide
import Derived.Deep.LoopGhost
import Derived.Deep.QuietTactic
import Derived.Deep.RegionHeld3
import Derived.BigQuiet
namespace Go.Proofs.Ytlmbcbopahpagaa
open Go.RowKit
set_option linter.unusedVariables false
set_option linter.unusedSimpArgs false

/-- the cells of a list of pairs -/
def cs2 : List (Int × Int) → List Value
  | [] => []
  | p :: t => .int .i64 p.1 :: .int .i64 p.2 :: cs2 t
theorem cs2_length : ∀ xs : List (Int × Int), (cs2 xs).length = xs.length * 2
  | [] => rfl
  | p :: t => by simp only [cs2, List.length_cons, cs2_length t]; omega
theorem cs2_get0 : ∀ (xs : List (Int × Int)) (i : Nat), (cs2 xs)[i * 2]? = xs[i]?.map fun p => Value.int .i64 p.1
  | [], i => by simp [cs2]
  | p :: t, 0 => by simp [cs2]
  | p :: t, i + 1 => by
    have := cs2_get0 t i
    rw [show (i + 1) * 2 = i * 2 + 1 + 1 from by omega]; simpa [cs2] using this
theorem cs2_get1 : ∀ (xs : List (Int × Int)) (i : Nat), (cs2 xs)[i * 2 + 1]? = xs[i]?.map fun p => Value.int .i64 p.2
  | [], i => by simp [cs2]
  | p :: t, 0 => by simp [cs2]
  | p :: t, i + 1 => by
    have := cs2_get1 t i
    rw [show (i + 1) * 2 + 1 = (i * 2 + 1) + 1 + 1 from by omega]; simpa [cs2] using this
/-- the i-th pair -/
def px (xs : List (Int × Int)) (i : Nat) : Int := (xs.getD i (0, 0)).1
def py (xs : List (Int × Int)) (i : Nat) : Int := (xs.getD i (0, 0)).2
theorem px_get {xs : List (Int × Int)} {i : Nat} (h : i < xs.length) : (cs2 xs)[i * 2]? = some (.int .i64 (px xs i)) := by
  rw [cs2_get0, List.getElem?_eq_getElem h]; simp [px, List.getD, List.getElem?_eq_getElem h]
theorem py_get {xs : List (Int × Int)} {i : Nat} (h : i < xs.length) : (cs2 xs)[i * 2 + 1]? = some (.int .i64 (py xs i)) := by
  rw [cs2_get1, List.getElem?_eq_getElem h]; simp [py, List.getD, List.getElem?_eq_getElem h]
/-- The elements of a slice at a read as xs: nothing is asked of its spare room. -/
def RdP (w : World) (a : Option Addr) (xs : List (Int × Int)) : Prop :=
  xs = [] ∨ ∃ b off, a = some ⟨b, off, none⟩ ∧ b < w.heap.size ∧ ∀ i, i < xs.length → w.cell? ⟨b, off + i * 2, none⟩ = some (.int .i64 (px xs i)) ∧ w.cell? ⟨b, off + i * 2 + 1, none⟩ = some (.int .i64 (py xs i))
theorem RdP.below {w w' : World} {a : Option Addr} {xs : List (Int × Int)} (h : RdP w a xs) (hb : Below w.heap.size w w') : RdP w' a xs := by
  rcases h with h | ⟨b, off, e, hlt, hc⟩
  · exact .inl h
  · exact .inr ⟨b, off, e, Nat.lt_of_lt_of_le hlt hb.size, fun i hi => by rw [(bcell hb).1 b _ hlt, (bcell hb).1 b _ hlt]; exact hc i hi⟩
theorem row_below {w w' : World} {base : Nat} {e : TypeId} {size : Nat} {v : Value} {n : Nat} {xs : List Value} (h : w.ownsRow base e size v n xs) (hb : Below w.heap.size w w') : w'.ownsRow base e size v n xs := by
  obtain ⟨hl, h⟩ := h
  refine ⟨hl, ?_⟩
  rcases h with h | ⟨g, c, cur, e, h1, h2, h3⟩
  · exact .inl h
  · have hg : g < w.heap.size := by
      rcases Nat.lt_or_ge g w.heap.size with q | q
      · exact q
      · rw [Array.getElem?_eq_none q] at h2; cases h2
    exact .inr ⟨g, c, cur, e, h1, by rw [hb.block g hg]; exact h2, h3⟩
theorem rowP_rd {w : World} {base n : Nat} {e : TypeId} {a : Option Addr} {cap : Nat} {xs : List (Int × Int)} (hn : xs.length = n) (h : w.ownsRow base e 2 (.slice a n cap) n (cs2 xs)) : RdP w a xs := by
  subst hn
  have h' := h
  obtain ⟨hl, h⟩ := h
  rcases h with ⟨_, h0⟩ | ⟨g, c, cur, e, h1, h2, h3⟩
  · exact .inl (List.length_eq_zero_iff.1 h0)
  · have e1 : a = some ⟨g, 0, none⟩ ∧ cap = c := by injection e with x1 x2 x3; exact ⟨x1, x3⟩
    obtain ⟨rfl, rfl⟩ := e1
    refine .inr ⟨g, 0, rfl, ?_, fun i hi => ⟨?_, ?_⟩⟩
    · rcases Nat.lt_or_ge g w.heap.size with q | q
      · exact q
      · rw [Array.getElem?_eq_none q] at h2; cases h2
    · rw [Nat.zero_add, h'.cellAt (i * 2) (by omega)]; exact px_get hi
    · rw [Nat.zero_add, h'.cellAt (i * 2 + 1) (by omega)]; exact py_get hi
theorem rowP_lt {w : World} {base n : Nat} {e : TypeId} {sz : Nat} {a : Option Addr} {cap : Nat} {xs : List Value} (h : w.ownsRow base e sz (.slice a n cap) n xs) : ∀ k, (Value.slice a n cap).ownBlock = some k → base ≤ k ∧ k < w.heap.size := h.lt
theorem rowP_ne {w : World} {base n X : Nat} {e : TypeId} {sz : Nat} {a : Option Addr} {cap : Nat} {xs : List Value} (h : w.ownsRow base e sz (.slice a n cap) n xs) (hX : X < base) : (Value.slice a n cap).ownBlock = none ∨ (Value.slice a n cap).ownBlock ≠ some X := by
  cases hq : (Value.slice a n cap).ownBlock with
  | none => exact .inl rfl
  | some k => exact .inr fun e => by have := (h.lt k hq).1; injection e with e; omega
/-- the marks k, k + 1, .. -/
def sqP (k : Int) (n : Nat) : List (Int × Int) := (List.range n).map fun (i : Nat) => (k + 2 * (i : Int), k + 2 * (i : Int) + 1)
theorem sqP_length (k : Int) (n : Nat) : (sqP k n).length = n := by simp [sqP]
theorem sqP_x (k : Int) (n i : Nat) (h : i < n) : px (sqP k n) i = k + 2 * (i : Int) := by simp [px, sqP, List.getD, h]
theorem sqP_y (k : Int) (n i : Nat) (h : i < n) : py (sqP k n) i = k + 2 * (i : Int) + 1 := by simp [py, sqP, List.getD, h]
end Go.Proofs.Ytlmbcbopahpagaa
