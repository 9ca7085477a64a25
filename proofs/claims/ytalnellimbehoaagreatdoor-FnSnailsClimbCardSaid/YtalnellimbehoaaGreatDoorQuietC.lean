/- A region that draws its order, beside calls that make memory: one walk in the order of the text serves every order, where a box of two numbers is all that is read. -/
import Derived.Test.YtalnellimbehoaaGreatDoorSlices
import Derived.WalkKit
import Derived.BigQuiet
import Derived.Deep.QuietTactic
namespace Go.Proofs.YtalnellimbehoaaGreatDoor
open Go.RowKit
set_option linter.unusedVariables false
/-- a world that has grown out of w0 and whose block b holds two numbers -/
structure Held (b : Nat) (l r : Int) (w0 : World) where
  w : World
  below : Below w0.heap.size w0 w
  lt : b < w.heap.size
  c0 : w.cell? ⟨b, 0, none⟩ = some (.int .i64 l)
  c1 : w.cell? ⟨b, 1, none⟩ = some (.int .i64 r)
theorem held_sub {b : Nat} {l r : Int} {w0 : World} (s : Held b l r w0) {w2 : World} (hb : Below s.w.heap.size s.w w2) : ∃ s' : Held b l r w0, w2 = s'.w := by
  obtain ⟨a, h0, h1, h2, h3⟩ := s
  have e := fun o => (bcell hb).1 b o h1
  exact ⟨⟨w2, h0.trans (hb.mono h0.size), Nat.lt_of_lt_of_le h1 hb.size, by rw [e]; exact h2, by rw [e]; exact h3⟩, rfl⟩
theorem held_start {b : Nat} {l r : Int} {w : World} (h1 : b < w.heap.size) (h2 : w.cell? ⟨b, 0, none⟩ = some (.int .i64 l)) (h3 : w.cell? ⟨b, 1, none⟩ = some (.int .i64 r)) : ∃ s : Held b l r w, w.drew = s.w :=
  ⟨⟨w.drew, Below.drew (Below.refl _ _), by simpa using h1, by go_simp, by go_simp⟩, rfl⟩
theorem wp_region_quietC {P : Program} {S : Type} (g : S → World) {id : Nat} {Q : Exit → Act → World → Prop} {a : Act} {w : World} {l : List Oper} (hm : P.follows .mixedOrders = true) (hB : Region.lexB .any l.toArray = true) (hC : ∃ s, w.drew = g s)
    (h : wpQuiet P l.toArray (fun w' => ∃ s, w' = g s) (fun a' => ∀ w', (∃ s, w' = g s) → Q .normal a' w') l a) : (Code.region id l.toArray true).wp P Q a w :=
  wp_region_quiet (C := fun w' => ∃ s, w' = g s) hm hB hC (by simpa using h)
/-- a call of the class -/
theorem held_call {P : Program} {f : FuncId} {args : Array Value} {b : Nat} {l r : Int} {w0 : World} {v : Value} (s : Held b l r w0) (c : ∀ w, Calls P f args w fun e w' => e = .returned v ∧ Below w.heap.size w w') :
    Calls P f args s.w fun e w' => e = .returned v ∧ ∃ s' : Held b l r w0, w' = s'.w :=
  (c s.w).mono fun _ _ h => ⟨h.1, held_sub s h.2⟩
/-- the operations of a region -/
def opsAt (n : Nat) : Code → Option (Array Oper)
  | .region m ops _ => if m = n then some ops else none
  | .seq a b => match opsAt n a with | some c => some c | none => opsAt n b
  | .loop c => opsAt n c
  | .block _ c => opsAt n c
  | .scope c => opsAt n c
  | .cond _ a b => match opsAt n a with | some c => some c | none => opsAt n b
  | _ => none
/-- the first k of n places are marked -/
def markK (n k : Nat) : Array Bool := (List.replicate k true ++ List.replicate (n - k) false).toArray
/-- the region's order in the text, at one place -/
def lexAt (md : Region.Mode) (ops : Array Oper) (k : Nat) : Bool := (Region.ready md ops (markK ops.size k)).contains k && Region.free md ops (markK ops.size k) k
theorem markK_set (n k : Nat) (h : k < n) : (markK n k).setIfInBounds k true = markK n (k + 1) := by
  unfold markK
  obtain ⟨m, hm⟩ : ∃ m, n - k = m + 1 := ⟨n - k - 1, by omega⟩
  have e : n - (k + 1) = m := by omega
  rw [hm, e, List.replicate_succ (n := m), List.replicate_succ' (n := k)]
  simp [List.setIfInBounds_toArray]
theorem lexFrom_of (md : Region.Mode) (ops : Array Oper) (he : (Region.ready md ops (markK ops.size ops.size)).isEmpty = true) : ∀ (m k : Nat), k + m = ops.size → (∀ j, k ≤ j → j < ops.size → lexAt md ops j = true) → Region.lexFrom md ops m k (markK ops.size k) = true
  | 0, k, hk, _ => by
    obtain rfl : k = ops.size := by omega
    exact he
  | m + 1, k, hk, h => by
    have h0 := h k (Nat.le_refl _) (by omega)
    unfold lexAt at h0
    unfold Region.lexFrom
    rw [h0, markK_set _ _ (by omega), lexFrom_of md ops he m (k + 1) (by omega) (fun j a b => h j (by omega) b)]
    rfl
theorem lexB_of (md : Region.Mode) (ops : Array Oper) (hs : Region.noSelect ops = true) (he : (Region.ready md ops (markK ops.size ops.size)).isEmpty = true) (h : ∀ j, j < ops.size → lexAt md ops j = true) : Region.lexB md ops = true := by
  unfold Region.lexB
  rw [hs, show Array.replicate ops.size false = markK ops.size 0 from by unfold markK; simp, lexFrom_of md ops he ops.size 0 (by omega) (fun j _ b => h j b)]
  rfl
theorem lexAll {md : Region.Mode} {ops : Array Oper} {a c : Nat} (h : (List.range' a c).all (lexAt md ops) = true) (j : Nat) (h1 : a ≤ j) (h2 : j < a + c) : lexAt md ops j = true := by
  rw [List.all_eq_true] at h
  exact h j (List.mem_range'_1.2 ⟨h1, h2⟩)
end Go.Proofs.YtalnellimbehoaaGreatDoor
