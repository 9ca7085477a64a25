/- Contracts: DropBus of the model and of the program, slices.Clone at []int, the laws' marks in a line; a struct's box of four cells. -/
import Derived.Test.YtjcapaoafkgkaaaDoorBusA
import Derived.Test.YtjcapaoafkgkaaaDoorBusMathB
import Derived.Test.YtjcapaoafkgkaaaDoorTwoOrd
import Derived.Deep.AppendLies
import Derived.Lib.SliceRun
namespace Go.Proofs.YtjcapaoafkgkaaaDoor
open Go.RowKit
set_option linter.unusedVariables false
set_option linter.unusedSimpArgs false
/-- a block holds a struct of four cells -/
def Box (w : World) (b : Nat) (v0 v1 v2 v3 : Value) : Prop :=
  b < w.heap.size ∧ w.cell? ⟨b, 0, none⟩ = some v0 ∧ w.cell? ⟨b, 1, none⟩ = some v1 ∧ w.cell? ⟨b, 2, none⟩ = some v2 ∧ w.cell? ⟨b, 3, none⟩ = some v3
theorem Box.below {w w' : World} {b : Nat} {v0 v1 v2 v3 : Value} (h : Box w b v0 v1 v2 v3) (hb : Below w.heap.size w w') : Box w' b v0 v1 v2 v3 := by
  obtain ⟨h0, h1, h2, h3, h4⟩ := h
  have e := fun o => (bcell hb).1 b o h0
  exact ⟨Nat.lt_of_lt_of_le h0 hb.size, by rw [e]; exact h1, by rw [e]; exact h2, by rw [e]; exact h3, by rw [e]; exact h4⟩
theorem Box.grown {w w' : World} {row : Option Nat} {b : Nat} {v0 v1 v2 v3 : Value} (h : Box w b v0 v1 v2 v3) (hg : w.grownBy w' row) (hne : some b ≠ row) : Box w' b v0 v1 v2 v3 := by
  obtain ⟨h0, h1, h2, h3, h4⟩ := h
  have e := fun o => hg.cell_far ⟨b, o, none⟩ h0 hne
  exact ⟨Nat.lt_of_lt_of_le h0 hg.size, by rw [e]; exact h1, by rw [e]; exact h2, by rw [e]; exact h3, by rw [e]; exact h4⟩
/-- what a function of (Line, bool) answers: its stops are its own -/
def RetL (w : World) (F E C : Int) (ys : List Int) (ok : Bool) (r : Ending) (w' : World) : Prop :=
  ∃ (a : Option Addr) (cap : Nat), r = .returned (.tuple #[.agg #[.int .i64 F, .int .i64 E, .int .i64 C, .slice a ys.length cap], .bool ok]) ∧ Own w' w.heap.size a cap ys ∧ Below w.heap.size w w'
theorem own_nil (w : World) (base : Nat) : Own w base none 0 [] := ⟨rfl, .inl ⟨rfl, rfl⟩⟩
theorem rdz_of {w : World} {a : Option Addr} {cap : Nat} {xs : List Int} (h : Rd w a xs) (hn : 2 ≤ xs.length) : RdZ w a cap xs := by
  rcases h with h | ⟨b, off, h1, h2, h3⟩
  · rw [h] at hn; simp at hn
  · exact .inr ⟨b, off, h1, h2, h3⟩
set_option maxHeartbeats 2000000 in
theorem markLine_own (f e c : Int) (base : Nat) (a : Option Addr) (cap : Nat) (xs : List Int) (k : Int) (w : World) (h : Own w base a cap xs) (k0 : 0 ≤ k) (k1 : k + (xs.length : Int) ≤ 4611686018427387904) :
    Calls Tryd.prog 12 #[.agg #[.int .i64 f, .int .i64 e, .int .i64 c, .slice a xs.length cap], .int .i64 k] w fun r w' => r = .returned (.int .i64 (k + (xs.length : Int))) ∧ w'.ownsRow base 3 1 (.slice a xs.length cap) xs.length ((sq k xs.length).map (Value.int .i64)) ∧ w.grownBy w' (Value.slice a xs.length cap).ownBlock := by
  have b0 : Below w.heap.size w (w.alloc (.cells #[.int .i64 f, .int .i64 e, .int .i64 c, .slice a xs.length cap] 28)) := (Below.refl _ _).alloc (Nat.le_refl _) _
  have hO := h.below b0
  go_enter Tryd.func12, Tryd.ntmps12
  go_wp2_with fail
  refine (markIntS_own base a cap xs k _ hO k0 k1).mono ?_; rintro e1 w1 ⟨rfl, hO1, hg1⟩
  have HO := Lib.hid hO1
  have HG := Lib.hid ((World.grownBy_alloc w (.cells #[.int .i64 f, .int .i64 e, .int .i64 c, .slice a xs.length cap] 28) _).trans hg1)
  clear hO1 hg1 hO b0 h
  go_wp2_with fail
  go_ret
  exact ⟨rfl, HO.out, HG.out⟩
set_option maxHeartbeats 2000000 in
theorem heldLine_ok (f e c : Int) (a : Option Addr) (n cap : Nat) (k : Int) (w : World) (h : Rd w a (sq k n)) (k0 : 0 ≤ k) (k1 : k + (n : Int) ≤ 4611686018427387904) :
    Calls Tryd.prog 13 #[.agg #[.int .i64 f, .int .i64 e, .int .i64 c, .slice a n cap], .int .i64 k] w fun r w' => r = .returned (.int .i64 (k + (n : Int))) ∧ Below w.heap.size w w' := by
  have hk : ¬ (k + (n : Int) < 0) := by omega
  go_enter Tryd.func13, Tryd.ntmps13
  go_wp2_with (first | (go_at_call 26; refine (heldIntS_ok a n cap k _ (h.below (by (repeat (first | exact Below.refl _ _ | refine Below.drew ?_ | refine below_drewN ?_ _ | refine Below.setCell ?_ (by first | omega | (simp; done) | (simp; omega)) _ | refine Below.alloc ?_ (by first | omega | (simp; done) | (simp; omega)) _ | refine bchain ?_ (by assumption) (by first | omega | (simp; done) | (simp; omega)))))) k0 k1).mono ?_; rintro e w1 ⟨rfl, hb1⟩; have hs1 := hb1.size; (try simp only [World.size_alloc, World.size_drew, World.size_setCell] at hs1); (try (have hl1_0 : w.heap.size < w1.heap.size := (by first | omega | (simp; done) | (simp; omega)))); (try (have hc1_0 := fun o => (bcell hb1).1 (w.heap.size) o (by first | omega | (simp; done) | (simp; omega))))) | go_in)
  go_ret
  exact ⟨rfl, by (repeat (first | exact Below.refl _ _ | refine Below.drew ?_ | refine below_drewN ?_ _ | refine Below.setCell ?_ (by first | omega | (simp; done) | (simp; omega)) _ | refine Below.alloc ?_ (by first | omega | (simp; done) | (simp; omega)) _ | refine bchain ?_ (by assumption) (by first | omega | (simp; done) | (simp; omega))))⟩
/-- what DropBus answers -/
def dpR (f e c : Int) (xs : List Int) (n F E C : Int) (ys : List Int) (ok : Bool) : Prop :=
  (dpK f e c xs n = true → f = F ∧ e = E ∧ minI c n = C ∧ xs = ys ∧ true = ok) ∧ (dpK f e c xs n = false → 0 = F ∧ 0 = E ∧ 0 = C ∧ [] = ys ∧ false = ok)
theorem dpR_false {f e c : Int} {xs : List Int} {n F E C : Int} {ys : List Int} {ok : Bool} (h : dpR f e c xs n F E C ys ok) (k : dpK f e c xs n = false) : 0 = F ∧ 0 = E ∧ 0 = C ∧ [] = ys ∧ false = ok := h.2 k
theorem dpR_true {f e c : Int} {xs : List Int} {n F E C : Int} {ys : List Int} {ok : Bool} (h : dpR f e c xs n F E C ys ok) (k : dpK f e c xs n = true) : f = F ∧ e = E ∧ minI c n = C ∧ xs = ys ∧ true = ok := h.1 k
end Go.Proofs.YtjcapaoafkgkaaaDoor
