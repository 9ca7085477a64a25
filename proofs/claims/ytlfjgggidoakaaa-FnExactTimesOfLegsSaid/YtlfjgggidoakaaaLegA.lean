/- Chapter 6's program: ways, times and means of legs, by contracts. -/
import Derived.Test.YtlfjgggidoakaaaLegSum
import Derived.Test.YtlfjgggidoakaaaLegMean
import Derived.Test.YtlfjgggidoakaaaLegHalf
import Derived.WalkKit
import Derived.WalkSpells
import Derived.WalkLawsBesides
import Derived.Lib.Hide
import Derived.Deep.LoopGhost
import Derived.Deep.QuietTactic
import Derived.Deep.RegionWith
import Derived.Deep.RegionHeld3
import Derived.BigQuiet
import Derived.Shelf.Abstract
namespace Go.Proofs.Ytlfjgggidoakaaa
open Go.RowKit
set_option linter.unusedVariables false
set_option linter.unusedSimpArgs false
theorem fld0 (a b : Int) (w : World) : (Instr.field 54 (.agg #[.int .i64 a, .int .i64 b]) 0).run Try.prog w = .ok (.int .i64 a) w := by
  have e : ∀ (xs : Array Value) (w : World), (asAgg (.agg xs)).run Try.prog w = .ok xs w := fun _ _ => rfl
  simp [Instr.field, go_sem, e]
theorem fld1 (a b : Int) (w : World) : (Instr.field 54 (.agg #[.int .i64 a, .int .i64 b]) 1).run Try.prog w = .ok (.int .i64 b) w := by
  have e : ∀ (xs : Array Value) (w : World), (asAgg (.agg xs)).run Try.prog w = .ok xs w := fun _ _ => rfl
  simp [Instr.field, go_sem, e]
theorem timB {xs : List (Int × Int)} (ht : ∀ i, i < xs.length → lgOk (px xs i) (py xs i) = true) : ∀ i, i < xs.length → 0 ≤ (timF (px xs i) (py xs i)).1 ∧ (timF (px xs i) (py xs i)).1 ≤ 1000 ∧ 1 ≤ (timF (px xs i) (py xs i)).2 ∧ (timF (px xs i) (py xs i)).2 ≤ 100 := fun i hi => by
  have b := timF_bd (ht i hi); omega
theorem wayB {xs : List (Int × Int)} (ht : ∀ i, i < xs.length → lgOk (px xs i) (py xs i) = true) : ∀ i, i < xs.length → 0 ≤ (wayF (px xs i) (py xs i)).1 ∧ (wayF (px xs i) (py xs i)).1 ≤ 1000 ∧ 1 ≤ (wayF (px xs i) (py xs i)).2 ∧ (wayF (px xs i) (py xs i)).2 ≤ 100 := fun i hi => by
  have b := lgOk_iff.1 (ht i hi)
  show 0 ≤ px xs i ∧ px xs i ≤ 1000 ∧ (1 : Int) ≤ 1 ∧ (1 : Int) ≤ 100
  omega
theorem sumT_any (B : Nat) (a : Option Addr) (cap : Nat) (xs : List (Int × Int)) (w : World) (h : RdP w a xs) (hl : xs.length ≤ 5) (ht : ∀ i, i < xs.length → lgOk (px xs i) (py xs i) = true) (hcl : w.cell? ⟨B, 0, none⟩ = some (.func (.func 32) #[] #[])) (hB : B < w.heap.size) :
    Calls Try.prog 47 #[.slice a xs.length cap, .pointer (some ⟨B, 0, none⟩)] w fun e w' => e = .returned (.agg #[.int .i64 (lgT xs xs.length).1, .int .i64 (lgT xs xs.length).2]) ∧ Below w.heap.size w w' := by
  have H := sumPart_any 32 #[] timF B a cap xs w h hl hcl hB (enters_of Try.func32 (by kernel_rfl) rfl) (fun i hi W => legTime_any (px xs i) (py xs i) (ht i hi) W) (smT_bd ht hl) (timB ht)
  rw [sm_time ht _ (Nat.le_refl _)] at H
  exact H
/-- the same over the first n legs -/
theorem sumTk_any (n : Nat) (B : Nat) (a : Option Addr) (cap : Nat) (xs : List (Int × Int)) (w : World) (h : RdP w a xs) (hl : xs.length ≤ 5) (hn : n ≤ xs.length) (ht : ∀ i, i < xs.length → lgOk (px xs i) (py xs i) = true) (hcl : w.cell? ⟨B, 0, none⟩ = some (.func (.func 32) #[] #[])) (hB : B < w.heap.size) :
    Calls Try.prog 47 #[.slice a n cap, .pointer (some ⟨B, 0, none⟩)] w fun e w' => e = .returned (.agg #[.int .i64 (lgT xs n).1, .int .i64 (lgT xs n).2]) ∧ Below w.heap.size w w' := by
  have el := len_take (xs := xs) (n := n) hn
  have H := sumT_any B a cap (xs.take n) w (RdP_take h n) (by omega) (ok_take ht n) hcl hB
  rw [el, lgT_take xs n n (Nat.le_refl _)] at H
  exact H
end Go.Proofs.Ytlfjgggidoakaaa
