/- Puzzles (chapter 9): the model's functions on one puzzle by contracts. -/
import Derived.Test.YtnnokfecjdmjpaaPzSpec2
import Derived.Test.YtnnokfecjdmjpaaSlices
import Derived.WalkKit
import Derived.WalkSpells
import Derived.WalkLawsBesides
import Derived.Lib.Hide
import Derived.Deep.LoopGhost
import Derived.Deep.QuietTactic
import Derived.Deep.RegionWith
import Derived.Deep.RegionHeld3
import Derived.BigQuiet
namespace Go.Proofs.Ytnnokfecjdmjpaa
open Go.RowKit
set_option linter.unusedVariables false
set_option linter.unusedSimpArgs false
def RetK (w : World) (L : List (Int × Int)) (ok : Bool) (e : Ending) (w' : World) : Prop :=
  ∃ (a : Option Addr) (cap : Nat), e = .returned (.tuple #[.slice a L.length cap, .bool ok]) ∧ OwnK w' w.heap.size a cap L ∧ Below w.heap.size w w'
def RetI9 (w : World) (L : List Int) (ok : Bool) (e : Ending) (w' : World) : Prop :=
  ∃ (a : Option Addr) (cap : Nat), e = .returned (.tuple #[.slice a L.length cap, .bool ok]) ∧ Own w' w.heap.size a cap L ∧ Below w.heap.size w w'
def RetP9 (w : World) (L : List (Int × Int × Int)) (ok : Bool) (e : Ending) (w' : World) : Prop :=
  ∃ (a : Option Addr) (cap : Nat), e = .returned (.tuple #[.agg #[.slice a L.length cap], .bool ok]) ∧ OwnC w' w.heap.size a cap L ∧ Below w.heap.size w w'
/-- the answers -/
def slL (xs : List (Int × Int × Int)) : List (Int × Int) := if pzG xs then sol xs else []
def slC (xs : List (Int × Int × Int)) : Int := if pzG xs then ((sol xs).length : Int) else 0
def slS (xs : List (Int × Int × Int)) : Bool := pzG xs && decide ((sol xs).length = 1)
def slF (xs : List (Int × Int × Int)) : Bool := pzG xs && decide (0 < (sol xs).length)
def slU (xs : List (Int × Int × Int)) : Int := if slF xs then px (sol xs) 0 else 0
def slD (xs : List (Int × Int × Int)) : Int := if slF xs then py (sol xs) 0 else 0
/-- the number of all of the first j, or -1 -/
def suN (f : Nat → Int) : Nat → Int
  | 0 => f 0
  | j + 1 => if f j = suN f j then suN f j else -1
def suU (xs : List (Int × Int × Int)) : Int := if slF xs then suN (px (sol xs)) (sol xs).length else 0
def suD (xs : List (Int × Int × Int)) : Int := if slF xs then suN (py (sol xs)) (sol xs).length else 0
/-- where a list that is not empty lies -/
theorem row_ptr {w : World} {base : Nat} {a : Option Addr} {c : Nat} {L : List (Int × Int)} (h : OwnK w base a c L) (hl : 0 < L.length) : ∃ g, (a = some ⟨g, 0, none⟩ ∧ w.cell? ⟨g, 0, none⟩ = some (.int .i64 (px L 0)) ∧ w.cell? ⟨g, 1, none⟩ = some (.int .i64 (py L 0))) ∧ base ≤ g ∧ g < w.heap.size := by
  have h' := h
  rcases h.2 with ⟨_, q⟩ | ⟨g, c', cur, q, q1, q2, q3⟩
  · omega
  · have e1 : a = some ⟨g, 0, none⟩ := by injection q with x1 x2 x3
    subst e1
    refine ⟨g, ⟨rfl, ?_, ?_⟩, q1, (h'.lt g rfl).2⟩
    · have := h'.cellAt 0 (by omega)
      rw [this]; have := px_get hl; simpa using this
    · have := h'.cellAt 1 (by omega)
      rw [this]; have := py_get hl; simpa using this
set_option maxHeartbeats 2000000 in
theorem specIsPuzzle (a : Option Addr) (cap : Nat) (xs : List (Int × Int × Int)) (w : World) (h : RdT w a xs) (hn : xs.length ≤ 1048576) :
    Calls Try.prog 19 #[.agg #[.slice a xs.length cap]] w fun e w' => e = .returned (.bool (pzG xs)) ∧ Below w.heap.size w w' := by
  obtain ⟨b, hb⟩ : ∃ b, b = pzG xs := ⟨_, rfl⟩
  have HG := Lib.hid hb.symm
  rw [← hb]
  clear hb
  go_enter Try.func19, Try.ntmps19
  go_wp2_with (first | (go_at_call 56; refine (pzGood_any a cap xs _ (h.below (by (repeat (first | assumption | exact Below.refl _ _ | refine Below.drew ?_ | refine below_drewN ?_ _ | refine Below.setCell ?_ (by first | omega | (simp; done) | (simp; omega)) _ | refine Below.alloc ?_ (by first | omega | (simp; done) | (simp; omega)) _ | refine bchain ?_ (by assumption) (by first | omega | (simp; done) | (simp; omega)))))) hn).mono ?_; rw [HG.out]; rintro e w0 ⟨rfl, hb0⟩; have hs0 := hb0.size; (try simp only [World.size_alloc] at hs0); have hc0 : w0.cell? ⟨w.heap.size, 0, none⟩ = some (.slice a xs.length cap) := (by rw [(bcell hb0).1 _ _ (by first | omega | (simp; done) | (simp; omega))]; go_simp); have B0 : Below w.heap.size w w0 := (by (repeat (first | assumption | exact Below.refl _ _ | refine Below.drew ?_ | refine below_drewN ?_ _ | refine Below.setCell ?_ (by first | omega | (simp; done) | (simp; omega)) _ | refine Below.alloc ?_ (by first | omega | (simp; done) | (simp; omega)) _ | refine bchain ?_ (by assumption) (by first | omega | (simp; done) | (simp; omega)))))))
  go_ret
  exact ⟨rfl, B0⟩
/-- may it be asked, does it fit -/
def dfO (k a b u d : Int) : Bool := hdB u d && clB k a b
def dfB (k a b u d : Int) : Bool := dfO k a b u d && decide (pzV k a u d = b)
set_option maxHeartbeats 2000000 in
theorem specDoesFit (k a b u d : Int) (w : World) :
    Calls Try.prog 23 #[.agg #[.int .i64 k, .int .i64 a, .int .i64 b], .agg #[.int .i64 u, .int .i64 d]] w fun e w' => e = .returned (.tuple #[.bool (dfB k a b u d), .bool (dfO k a b u d)]) ∧ Below w.heap.size w w' := by
  cases h1 : hdB u d
  · rw [show dfO k a b u d = false by simp [dfO, h1], show dfB k a b u d = false by simp [dfB, dfO, h1]]
    have H1 := Lib.hid h1
    clear h1
    go_enter Try.func23, Try.ntmps23
    go_wp2_with (first | (go_at_call 62; refine (pzHidden_any u d _).mono ?_; rw [H1.out]; rintro e w0 ⟨rfl, hb0⟩))
    go_ret2
    exact ⟨rfl, by (repeat (first | assumption | exact Below.refl _ _ | refine Below.drew ?_ | refine below_drewN ?_ _ | refine Below.setCell ?_ (by first | omega | (simp; done) | (simp; omega)) _ | refine Below.alloc ?_ (by first | omega | (simp; done) | (simp; omega)) _ | refine bchain ?_ (by assumption) (by first | omega | (simp; done) | (simp; omega))))⟩
  cases h2 : clB k a b
  · rw [show dfO k a b u d = false by simp [dfO, h2], show dfB k a b u d = false by simp [dfB, dfO, h2]]
    have H1 := Lib.hid h1
    have H2 := Lib.hid h2
    clear h1 h2
    go_enter Try.func23, Try.ntmps23
    go_wp2_with (first | (go_at_call 62; refine (pzHidden_any u d _).mono ?_; rw [H1.out]; rintro e w0 ⟨rfl, hb0⟩; have hs0 := hb0.size; (try simp only [World.size_alloc] at hs0); have hcA := fun o => (bcell hb0).1 w.heap.size o (by first | omega | (simp; done) | (simp; omega)); have hcB := fun o => (bcell hb0).1 (w.heap.size + 1) o (by first | omega | (simp; done) | (simp; omega))) | (go_at_call 53; refine (pzClue_any k a b _).mono ?_; rw [H2.out]; rintro e w1 ⟨rfl, hb1⟩))
    go_ret2
    exact ⟨rfl, by (repeat (first | assumption | exact Below.refl _ _ | refine Below.drew ?_ | refine below_drewN ?_ _ | refine Below.setCell ?_ (by first | omega | (simp; done) | (simp; omega)) _ | refine Below.alloc ?_ (by first | omega | (simp; done) | (simp; omega)) _ | refine bchain ?_ (by assumption) (by first | omega | (simp; done) | (simp; omega))))⟩
  · have hka := clB_ka h2
    rw [show dfO k a b u d = true by simp [dfO, h1, h2], show dfB k a b u d = decide (pzV k a u d = b) by simp [dfB, dfO, h1, h2]]
    have HF := Lib.hid (fun w => pzFits_any k a b u d hka h1 w)
    have H1 := Lib.hid h1
    have H2 := Lib.hid h2
    clear h1 h2 hka
    generalize decide (pzV k a u d = b) = D at *
    go_enter Try.func23, Try.ntmps23
    go_wp2_with (first | (go_at_call 62; refine (pzHidden_any u d _).mono ?_; rw [H1.out]; rintro e w0 ⟨rfl, hb0⟩; have hs0 := hb0.size; (try simp only [World.size_alloc] at hs0); have hcA := fun o => (bcell hb0).1 w.heap.size o (by first | omega | (simp; done) | (simp; omega)); have hcB := fun o => (bcell hb0).1 (w.heap.size + 1) o (by first | omega | (simp; done) | (simp; omega))) | (go_at_call 53; refine (pzClue_any k a b _).mono ?_; rw [H2.out]; rintro e w1 ⟨rfl, hb1⟩; have hs1 := hb1.size; have hcC := fun o => (bcell hb1).1 w.heap.size o (by first | omega | (simp; done) | (simp; omega)); have hcD := fun o => (bcell hb1).1 (w.heap.size + 1) o (by first | omega | (simp; done) | (simp; omega))) | (go_at_call 63; refine (HF.out _).mono ?_; rintro e w2 ⟨rfl, hb2⟩))
    go_ret2
    exact ⟨rfl, by (repeat (first | assumption | exact Below.refl _ _ | refine Below.drew ?_ | refine below_drewN ?_ _ | refine Below.setCell ?_ (by first | omega | (simp; done) | (simp; omega)) _ | refine Below.alloc ?_ (by first | omega | (simp; done) | (simp; omega)) _ | refine bchain ?_ (by assumption) (by first | omega | (simp; done) | (simp; omega))))⟩
set_option maxHeartbeats 2000000 in
theorem specSolutions (a : Option Addr) (cap : Nat) (xs : List (Int × Int × Int)) (w : World) (h : RdT w a xs) (hn : xs.length ≤ 1048576) :
    Calls Try.prog 26 #[.agg #[.slice a xs.length cap]] w (RetK w (slL xs) (pzG xs)) := by
  cases hg : pzG xs
  · have HL := Lib.hid (show slL xs = [] by simp [slL, hg])
    have HG := Lib.hid hg
    clear hg
    go_enter Try.func26, Try.ntmps26
    go_wp2_with (first | (go_at_call 56; refine (pzGood_any a cap xs _ (h.below (by (repeat (first | assumption | exact Below.refl _ _ | refine Below.drew ?_ | refine below_drewN ?_ _ | refine Below.setCell ?_ (by first | omega | (simp; done) | (simp; omega)) _ | refine Below.alloc ?_ (by first | omega | (simp; done) | (simp; omega)) _ | refine bchain ?_ (by assumption) (by first | omega | (simp; done) | (simp; omega)))))) hn).mono ?_; rw [HG.out]; rintro e w0 ⟨rfl, hb0⟩; have hs0 := hb0.size; (try simp only [World.size_alloc] at hs0); have hc0 : w0.cell? ⟨w.heap.size, 0, none⟩ = some (.slice a xs.length cap) := (by rw [(bcell hb0).1 _ _ (by first | omega | (simp; done) | (simp; omega))]; go_simp); have B0 : Below w.heap.size w w0 := (by (repeat (first | assumption | exact Below.refl _ _ | refine Below.drew ?_ | refine below_drewN ?_ _ | refine Below.setCell ?_ (by first | omega | (simp; done) | (simp; omega)) _ | refine Below.alloc ?_ (by first | omega | (simp; done) | (simp; omega)) _ | refine bchain ?_ (by assumption) (by first | omega | (simp; done) | (simp; omega)))))))
    go_ret2
    rw [HL.out]
    exact ⟨none, 0, rfl, World.ownsRow_nil _ _ _ _, B0⟩
  · have HL := Lib.hid (show slL xs = sol xs by simp [slL, hg])
    have HCL := Lib.hid (pzG_iff.1 hg).2
    have HG := Lib.hid hg
    clear hg
    go_enter Try.func26, Try.ntmps26
    go_wp2_with (first | (go_at_call 56; refine (pzGood_any a cap xs _ (h.below (by (repeat (first | assumption | exact Below.refl _ _ | refine Below.drew ?_ | refine below_drewN ?_ _ | refine Below.setCell ?_ (by first | omega | (simp; done) | (simp; omega)) _ | refine Below.alloc ?_ (by first | omega | (simp; done) | (simp; omega)) _ | refine bchain ?_ (by assumption) (by first | omega | (simp; done) | (simp; omega)))))) hn).mono ?_; rw [HG.out]; rintro e w0 ⟨rfl, hb0⟩; have hs0 := hb0.size; (try simp only [World.size_alloc] at hs0); have hc0 : w0.cell? ⟨w.heap.size, 0, none⟩ = some (.slice a xs.length cap) := (by rw [(bcell hb0).1 _ _ (by first | omega | (simp; done) | (simp; omega))]; go_simp); have B0 : Below w.heap.size w w0 := (by (repeat (first | assumption | exact Below.refl _ _ | refine Below.drew ?_ | refine below_drewN ?_ _ | refine Below.setCell ?_ (by first | omega | (simp; done) | (simp; omega)) _ | refine Below.alloc ?_ (by first | omega | (simp; done) | (simp; omega)) _ | refine bchain ?_ (by assumption) (by first | omega | (simp; done) | (simp; omega)))))) | (go_at_call 69; refine (pzAll_any a cap xs _ (h.below B0) hn HCL.out).mono ?_; rintro e w1 ⟨a1, c1, rfl, hO1, hb1⟩))
    go_ret2
    rw [HL.out]
    exact ⟨a1, c1, rfl, row_low hO1 B0.size, by (repeat (first | assumption | exact Below.refl _ _ | refine Below.drew ?_ | refine below_drewN ?_ _ | refine Below.setCell ?_ (by first | omega | (simp; done) | (simp; omega)) _ | refine Below.alloc ?_ (by first | omega | (simp; done) | (simp; omega)) _ | refine bchain ?_ (by assumption) (by first | omega | (simp; done) | (simp; omega))))⟩
set_option maxHeartbeats 2000000 in
theorem specCountSolutions (a : Option Addr) (cap : Nat) (xs : List (Int × Int × Int)) (w : World) (h : RdT w a xs) (hn : xs.length ≤ 1048576) :
    Calls Try.prog 32 #[.agg #[.slice a xs.length cap]] w fun e w' => e = .returned (.tuple #[.int .i64 (slC xs), .bool (pzG xs)]) ∧ Below w.heap.size w w' := by
  cases hg : pzG xs
  · have HL := Lib.hid (show slC xs = 0 by simp [slC, hg])
    have HG := Lib.hid hg
    clear hg
    go_enter Try.func32, Try.ntmps32
    go_wp2_with (first | (go_at_call 56; refine (pzGood_any a cap xs _ (h.below (by (repeat (first | assumption | exact Below.refl _ _ | refine Below.drew ?_ | refine below_drewN ?_ _ | refine Below.setCell ?_ (by first | omega | (simp; done) | (simp; omega)) _ | refine Below.alloc ?_ (by first | omega | (simp; done) | (simp; omega)) _ | refine bchain ?_ (by assumption) (by first | omega | (simp; done) | (simp; omega)))))) hn).mono ?_; rw [HG.out]; rintro e w0 ⟨rfl, hb0⟩; have hs0 := hb0.size; (try simp only [World.size_alloc] at hs0); have hc0 : w0.cell? ⟨w.heap.size, 0, none⟩ = some (.slice a xs.length cap) := (by rw [(bcell hb0).1 _ _ (by first | omega | (simp; done) | (simp; omega))]; go_simp); have B0 : Below w.heap.size w w0 := (by (repeat (first | assumption | exact Below.refl _ _ | refine Below.drew ?_ | refine below_drewN ?_ _ | refine Below.setCell ?_ (by first | omega | (simp; done) | (simp; omega)) _ | refine Below.alloc ?_ (by first | omega | (simp; done) | (simp; omega)) _ | refine bchain ?_ (by assumption) (by first | omega | (simp; done) | (simp; omega)))))))
    go_ret2
    rw [HL.out]
    exact ⟨rfl, B0⟩
  · have HL := Lib.hid (show slC xs = ((sol xs).length : Int) by simp [slC, hg])
    have HCL := Lib.hid (pzG_iff.1 hg).2
    have HG := Lib.hid hg
    clear hg
    go_enter Try.func32, Try.ntmps32
    go_wp2_with (first | (go_at_call 56; refine (pzGood_any a cap xs _ (h.below (by (repeat (first | assumption | exact Below.refl _ _ | refine Below.drew ?_ | refine below_drewN ?_ _ | refine Below.setCell ?_ (by first | omega | (simp; done) | (simp; omega)) _ | refine Below.alloc ?_ (by first | omega | (simp; done) | (simp; omega)) _ | refine bchain ?_ (by assumption) (by first | omega | (simp; done) | (simp; omega)))))) hn).mono ?_; rw [HG.out]; rintro e w0 ⟨rfl, hb0⟩; have hs0 := hb0.size; (try simp only [World.size_alloc] at hs0); have hc0 : w0.cell? ⟨w.heap.size, 0, none⟩ = some (.slice a xs.length cap) := (by rw [(bcell hb0).1 _ _ (by first | omega | (simp; done) | (simp; omega))]; go_simp); have B0 : Below w.heap.size w w0 := (by (repeat (first | assumption | exact Below.refl _ _ | refine Below.drew ?_ | refine below_drewN ?_ _ | refine Below.setCell ?_ (by first | omega | (simp; done) | (simp; omega)) _ | refine Below.alloc ?_ (by first | omega | (simp; done) | (simp; omega)) _ | refine bchain ?_ (by assumption) (by first | omega | (simp; done) | (simp; omega)))))) | (go_at_call 69; refine (pzAll_any a cap xs _ (h.below B0) hn HCL.out).mono ?_; rintro e w1 ⟨a1, c1, rfl, hO1, hb1⟩))
    go_ret2
    rw [HL.out]
    exact ⟨rfl, by (repeat (first | assumption | exact Below.refl _ _ | refine Below.drew ?_ | refine below_drewN ?_ _ | refine Below.setCell ?_ (by first | omega | (simp; done) | (simp; omega)) _ | refine Below.alloc ?_ (by first | omega | (simp; done) | (simp; omega)) _ | refine bchain ?_ (by assumption) (by first | omega | (simp; done) | (simp; omega))))⟩
set_option maxHeartbeats 2000000 in
theorem specIsSolved (a : Option Addr) (cap : Nat) (xs : List (Int × Int × Int)) (w : World) (h : RdT w a xs) (hn : xs.length ≤ 1048576) :
    Calls Try.prog 39 #[.agg #[.slice a xs.length cap]] w fun e w' => e = .returned (.tuple #[.bool (slS xs), .bool (pzG xs)]) ∧ Below w.heap.size w w' := by
  cases hg : pzG xs
  · have HL := Lib.hid (show slS xs = false by simp [slS, hg])
    have HG := Lib.hid hg
    clear hg
    go_enter Try.func39, Try.ntmps39
    go_wp2_with (first | (go_at_call 56; refine (pzGood_any a cap xs _ (h.below (by (repeat (first | assumption | exact Below.refl _ _ | refine Below.drew ?_ | refine below_drewN ?_ _ | refine Below.setCell ?_ (by first | omega | (simp; done) | (simp; omega)) _ | refine Below.alloc ?_ (by first | omega | (simp; done) | (simp; omega)) _ | refine bchain ?_ (by assumption) (by first | omega | (simp; done) | (simp; omega)))))) hn).mono ?_; rw [HG.out]; rintro e w0 ⟨rfl, hb0⟩; have hs0 := hb0.size; (try simp only [World.size_alloc] at hs0); have hc0 : w0.cell? ⟨w.heap.size, 0, none⟩ = some (.slice a xs.length cap) := (by rw [(bcell hb0).1 _ _ (by first | omega | (simp; done) | (simp; omega))]; go_simp); have B0 : Below w.heap.size w w0 := (by (repeat (first | assumption | exact Below.refl _ _ | refine Below.drew ?_ | refine below_drewN ?_ _ | refine Below.setCell ?_ (by first | omega | (simp; done) | (simp; omega)) _ | refine Below.alloc ?_ (by first | omega | (simp; done) | (simp; omega)) _ | refine bchain ?_ (by assumption) (by first | omega | (simp; done) | (simp; omega)))))))
    go_ret2
    rw [HL.out]
    exact ⟨rfl, B0⟩
  · have HL := Lib.hid (show slS xs = decide ((sol xs).length = 1) by simp [slS, hg])
    have HCL := Lib.hid (pzG_iff.1 hg).2
    have HG := Lib.hid hg
    clear hg
    go_enter Try.func39, Try.ntmps39
    go_wp2_with (first | (go_at_call 56; refine (pzGood_any a cap xs _ (h.below (by (repeat (first | assumption | exact Below.refl _ _ | refine Below.drew ?_ | refine below_drewN ?_ _ | refine Below.setCell ?_ (by first | omega | (simp; done) | (simp; omega)) _ | refine Below.alloc ?_ (by first | omega | (simp; done) | (simp; omega)) _ | refine bchain ?_ (by assumption) (by first | omega | (simp; done) | (simp; omega)))))) hn).mono ?_; rw [HG.out]; rintro e w0 ⟨rfl, hb0⟩; have hs0 := hb0.size; (try simp only [World.size_alloc] at hs0); have hc0 : w0.cell? ⟨w.heap.size, 0, none⟩ = some (.slice a xs.length cap) := (by rw [(bcell hb0).1 _ _ (by first | omega | (simp; done) | (simp; omega))]; go_simp); have B0 : Below w.heap.size w w0 := (by (repeat (first | assumption | exact Below.refl _ _ | refine Below.drew ?_ | refine below_drewN ?_ _ | refine Below.setCell ?_ (by first | omega | (simp; done) | (simp; omega)) _ | refine Below.alloc ?_ (by first | omega | (simp; done) | (simp; omega)) _ | refine bchain ?_ (by assumption) (by first | omega | (simp; done) | (simp; omega)))))) | (go_at_call 80; refine (pzSolved_any a cap xs _ (h.below B0) hn HCL.out).mono ?_; rintro e w1 ⟨rfl, hb1⟩))
    go_ret2
    rw [HL.out]
    exact ⟨rfl, by (repeat (first | assumption | exact Below.refl _ _ | refine Below.drew ?_ | refine below_drewN ?_ _ | refine Below.setCell ?_ (by first | omega | (simp; done) | (simp; omega)) _ | refine Below.alloc ?_ (by first | omega | (simp; done) | (simp; omega)) _ | refine bchain ?_ (by assumption) (by first | omega | (simp; done) | (simp; omega))))⟩
set_option maxHeartbeats 2000000 in
theorem specFirstSolution (a : Option Addr) (cap : Nat) (xs : List (Int × Int × Int)) (w : World) (h : RdT w a xs) (hn : xs.length ≤ 1048576) :
    Calls Try.prog 34 #[.agg #[.slice a xs.length cap]] w fun e w' => e = .returned (.tuple #[.agg #[.int .i64 (slU xs), .int .i64 (slD xs)], .bool (slF xs)]) ∧ Below w.heap.size w w' := by
  cases hg : pzG xs
  · have hf : slF xs = false := by simp [slF, hg]
    rw [show slU xs = 0 by simp [slU, hf], show slD xs = 0 by simp [slD, hf], hf]
    have HG := Lib.hid hg
    clear hg hf
    go_enter Try.func34, Try.ntmps34
    go_wp2_with (first | (go_at_call 56; refine (pzGood_any a cap xs _ (h.below (by (repeat (first | assumption | exact Below.refl _ _ | refine Below.drew ?_ | refine below_drewN ?_ _ | refine Below.setCell ?_ (by first | omega | (simp; done) | (simp; omega)) _ | refine Below.alloc ?_ (by first | omega | (simp; done) | (simp; omega)) _ | refine bchain ?_ (by assumption) (by first | omega | (simp; done) | (simp; omega)))))) hn).mono ?_; rw [HG.out]; rintro e w0 ⟨rfl, hb0⟩; have hs0 := hb0.size; (try simp only [World.size_alloc] at hs0); have hc0 : w0.cell? ⟨w.heap.size, 0, none⟩ = some (.slice a xs.length cap) := (by rw [(bcell hb0).1 _ _ (by first | omega | (simp; done) | (simp; omega))]; go_simp); have hx0 : w0.cell? ⟨w.heap.size + 1, 0, none⟩ = some (.int .i64 0) := (by rw [(bcell hb0).1 _ _ (by first | omega | (simp; done) | (simp; omega))]; go_simp); have hx1 : w0.cell? ⟨w.heap.size + 1, 1, none⟩ = some (.int .i64 0) := (by rw [(bcell hb0).1 _ _ (by first | omega | (simp; done) | (simp; omega))]; go_simp); have hfx : ∀ o, w0.frozen? ⟨w.heap.size + 1, o, none⟩ = false := (fun o => by rw [(bcell hb0).2 _ _ (by first | omega | (simp; done) | (simp; omega))]; go_simp); have B0 : Below w.heap.size w w0 := (by (repeat (first | assumption | exact Below.refl _ _ | refine Below.drew ?_ | refine below_drewN ?_ _ | refine Below.setCell ?_ (by first | omega | (simp; done) | (simp; omega)) _ | refine Below.alloc ?_ (by first | omega | (simp; done) | (simp; omega)) _ | refine bchain ?_ (by assumption) (by first | omega | (simp; done) | (simp; omega)))))))
    refine bodyPost_ret (v := .tuple #[.agg #[.int .i64 0, .int .i64 0], .bool false]) (by simp [results, Try.results34, go_sem, hx0, hx1]) rfl ⟨rfl, by (repeat (first | assumption | exact Below.refl _ _ | refine Below.drew ?_ | refine below_drewN ?_ _ | refine Below.setCell ?_ (by first | omega | (simp; done) | (simp; omega)) _ | refine Below.alloc ?_ (by first | omega | (simp; done) | (simp; omega)) _ | refine bchain ?_ (by assumption) (by first | omega | (simp; done) | (simp; omega))))⟩
  · have HCL := Lib.hid (pzG_iff.1 hg).2
    by_cases hl : 0 < (sol xs).length
    · have hf : slF xs = true := by simp [slF, hg, hl]
      have h0 := hl
      rw [show slU xs = px (sol xs) 0 by simp [slU, hf], show slD xs = py (sol xs) 0 by simp [slD, hf], hf]
      have HG := Lib.hid hg
      clear hg hf
      have hlI : (0 : Int) < ((sol xs).length : Int) := by omega
      have hlN : ¬ ((sol xs).length = 0) := by omega
      obtain ⟨L, hL⟩ : ∃ L, L = sol xs := ⟨_, rfl⟩
      have HA := Lib.hid (fun w h => pzAll_any a cap xs w h hn HCL.out)
      rw [← hL] at HA hlI hlN hl ⊢
      clear hL HCL h0
      go_enter Try.func34, Try.ntmps34
      go_wp2_with (first | (go_at_call 56; refine (pzGood_any a cap xs _ (h.below (by (repeat (first | assumption | exact Below.refl _ _ | refine Below.drew ?_ | refine below_drewN ?_ _ | refine Below.setCell ?_ (by first | omega | (simp; done) | (simp; omega)) _ | refine Below.alloc ?_ (by first | omega | (simp; done) | (simp; omega)) _ | refine bchain ?_ (by assumption) (by first | omega | (simp; done) | (simp; omega)))))) hn).mono ?_; rw [HG.out]; rintro e w0 ⟨rfl, hb0⟩; have hs0 := hb0.size; (try simp only [World.size_alloc] at hs0); have hc0 : w0.cell? ⟨w.heap.size, 0, none⟩ = some (.slice a xs.length cap) := (by rw [(bcell hb0).1 _ _ (by first | omega | (simp; done) | (simp; omega))]; go_simp); have hx0 : w0.cell? ⟨w.heap.size + 1, 0, none⟩ = some (.int .i64 0) := (by rw [(bcell hb0).1 _ _ (by first | omega | (simp; done) | (simp; omega))]; go_simp); have hx1 : w0.cell? ⟨w.heap.size + 1, 1, none⟩ = some (.int .i64 0) := (by rw [(bcell hb0).1 _ _ (by first | omega | (simp; done) | (simp; omega))]; go_simp); have hfx : ∀ o, w0.frozen? ⟨w.heap.size + 1, o, none⟩ = false := (fun o => by rw [(bcell hb0).2 _ _ (by first | omega | (simp; done) | (simp; omega))]; go_simp); have B0 : Below w.heap.size w w0 := (by (repeat (first | assumption | exact Below.refl _ _ | refine Below.drew ?_ | refine below_drewN ?_ _ | refine Below.setCell ?_ (by first | omega | (simp; done) | (simp; omega)) _ | refine Below.alloc ?_ (by first | omega | (simp; done) | (simp; omega)) _ | refine bchain ?_ (by assumption) (by first | omega | (simp; done) | (simp; omega)))))) | (go_at_call 69; refine (HA.out _ (h.below B0)).mono ?_; rintro e w1 ⟨a1, c1, rfl, hO1, hb1⟩; have hs1 := hb1.size; have hy0 : w1.cell? ⟨w.heap.size + 1, 0, none⟩ = some (.int .i64 0) := (by rw [(bcell hb1).1 _ _ (by first | omega | (simp; done) | (simp; omega))]; exact hx0); have hy1 : w1.cell? ⟨w.heap.size + 1, 1, none⟩ = some (.int .i64 0) := (by rw [(bcell hb1).1 _ _ (by first | omega | (simp; done) | (simp; omega))]; exact hx1); have hfy : ∀ o, w1.frozen? ⟨w.heap.size + 1, o, none⟩ = false := (fun o => by rw [(bcell hb1).2 _ _ (by first | omega | (simp; done) | (simp; omega))]; exact hfx o); obtain ⟨g, hg1, hg2, hg3⟩ := row_ptr hO1 hl; obtain ⟨rfl, hz0, hz1⟩ := hg1))
      refine bodyPost_ret (v := .tuple #[.agg #[.int .i64 (px L 0), .int .i64 (py L 0)], .bool true]) (by simp [results, Try.results34, go_sem, hy0, hy1]) rfl ⟨rfl, by (repeat (first | assumption | exact Below.refl _ _ | refine Below.drew ?_ | refine below_drewN ?_ _ | refine Below.setCell ?_ (by first | omega | (simp; done) | (simp; omega)) _ | refine Below.alloc ?_ (by first | omega | (simp; done) | (simp; omega)) _ | refine bchain ?_ (by assumption) (by first | omega | (simp; done) | (simp; omega))))⟩
    · have hf : slF xs = false := by simp [slF, hg, hl]
      rw [show slU xs = 0 by simp [slU, hf], show slD xs = 0 by simp [slD, hf], hf]
      have HG := Lib.hid hg
      clear hg hf
      have hlN : (sol xs).length = 0 := by omega
      obtain ⟨L, hL⟩ : ∃ L, L = sol xs := ⟨_, rfl⟩
      have HA := Lib.hid (fun w h => pzAll_any a cap xs w h hn HCL.out)
      rw [← hL] at HA hlN hl
      clear hL HCL hl
      obtain rfl := List.length_eq_zero_iff.1 hlN
      clear hlN
      go_enter Try.func34, Try.ntmps34
      go_wp2_with (first | (go_at_call 56; refine (pzGood_any a cap xs _ (h.below (by (repeat (first | assumption | exact Below.refl _ _ | refine Below.drew ?_ | refine below_drewN ?_ _ | refine Below.setCell ?_ (by first | omega | (simp; done) | (simp; omega)) _ | refine Below.alloc ?_ (by first | omega | (simp; done) | (simp; omega)) _ | refine bchain ?_ (by assumption) (by first | omega | (simp; done) | (simp; omega)))))) hn).mono ?_; rw [HG.out]; rintro e w0 ⟨rfl, hb0⟩; have hs0 := hb0.size; (try simp only [World.size_alloc] at hs0); have hc0 : w0.cell? ⟨w.heap.size, 0, none⟩ = some (.slice a xs.length cap) := (by rw [(bcell hb0).1 _ _ (by first | omega | (simp; done) | (simp; omega))]; go_simp); have hx0 : w0.cell? ⟨w.heap.size + 1, 0, none⟩ = some (.int .i64 0) := (by rw [(bcell hb0).1 _ _ (by first | omega | (simp; done) | (simp; omega))]; go_simp); have hx1 : w0.cell? ⟨w.heap.size + 1, 1, none⟩ = some (.int .i64 0) := (by rw [(bcell hb0).1 _ _ (by first | omega | (simp; done) | (simp; omega))]; go_simp); have hfx : ∀ o, w0.frozen? ⟨w.heap.size + 1, o, none⟩ = false := (fun o => by rw [(bcell hb0).2 _ _ (by first | omega | (simp; done) | (simp; omega))]; go_simp); have B0 : Below w.heap.size w w0 := (by (repeat (first | assumption | exact Below.refl _ _ | refine Below.drew ?_ | refine below_drewN ?_ _ | refine Below.setCell ?_ (by first | omega | (simp; done) | (simp; omega)) _ | refine Below.alloc ?_ (by first | omega | (simp; done) | (simp; omega)) _ | refine bchain ?_ (by assumption) (by first | omega | (simp; done) | (simp; omega)))))) | (go_at_call 69; refine (HA.out _ (h.below B0)).mono ?_; rintro e w1 ⟨a1, c1, rfl, hO1, hb1⟩; have hs1 := hb1.size; have hy0 : w1.cell? ⟨w.heap.size + 1, 0, none⟩ = some (.int .i64 0) := (by rw [(bcell hb1).1 _ _ (by first | omega | (simp; done) | (simp; omega))]; exact hx0); have hy1 : w1.cell? ⟨w.heap.size + 1, 1, none⟩ = some (.int .i64 0) := (by rw [(bcell hb1).1 _ _ (by first | omega | (simp; done) | (simp; omega))]; exact hx1); have hfy : ∀ o, w1.frozen? ⟨w.heap.size + 1, o, none⟩ = false := (fun o => by rw [(bcell hb1).2 _ _ (by first | omega | (simp; done) | (simp; omega))]; exact hfx o)))
      refine bodyPost_ret (v := .tuple #[.agg #[.int .i64 0, .int .i64 0], .bool false]) (by simp [results, Try.results34, go_sem, hy0, hy1]) rfl ⟨rfl, by (repeat (first | assumption | exact Below.refl _ _ | refine Below.drew ?_ | refine below_drewN ?_ _ | refine Below.setCell ?_ (by first | omega | (simp; done) | (simp; omega)) _ | refine Below.alloc ?_ (by first | omega | (simp; done) | (simp; omega)) _ | refine bchain ?_ (by assumption) (by first | omega | (simp; done) | (simp; omega))))⟩
set_option maxHeartbeats 4000000 in
set_option maxRecDepth 100000 in
theorem specSureSnail (a : Option Addr) (cap : Nat) (xs : List (Int × Int × Int)) (w : World) (h : RdT w a xs) (hn : xs.length ≤ 1048576) :
    Calls Try.prog 37 #[.agg #[.slice a xs.length cap]] w fun e w' => e = .returned (.tuple #[.int .i64 (suU xs), .int .i64 (suD xs), .bool (slF xs)]) ∧ Below w.heap.size w w' := by
  cases hg : pzG xs
  · have hf : slF xs = false := by simp [slF, hg]
    rw [show suU xs = 0 by simp [suU, hf], show suD xs = 0 by simp [suD, hf], hf]
    have HG := Lib.hid hg
    clear hg hf
    go_enter Try.func37, Try.ntmps37
    go_wp2_with (first | (go_at_call 56; refine (pzGood_any a cap xs _ (h.below (by (repeat (first | assumption | exact Below.refl _ _ | refine Below.drew ?_ | refine below_drewN ?_ _ | refine Below.setCell ?_ (by first | omega | (simp; done) | (simp; omega)) _ | refine Below.alloc ?_ (by first | omega | (simp; done) | (simp; omega)) _ | refine bchain ?_ (by assumption) (by first | omega | (simp; done) | (simp; omega)))))) hn).mono ?_; rw [HG.out]; rintro e w0 ⟨rfl, hb0⟩; have hs0 := hb0.size; (try simp only [World.size_alloc] at hs0); have hc0 : w0.cell? ⟨w.heap.size, 0, none⟩ = some (.slice a xs.length cap) := (by rw [(bcell hb0).1 _ _ (by first | omega | (simp; done) | (simp; omega))]; go_simp); have B0 : Below w.heap.size w w0 := (by (repeat (first | assumption | exact Below.refl _ _ | refine Below.drew ?_ | refine below_drewN ?_ _ | refine Below.setCell ?_ (by first | omega | (simp; done) | (simp; omega)) _ | refine Below.alloc ?_ (by first | omega | (simp; done) | (simp; omega)) _ | refine bchain ?_ (by assumption) (by first | omega | (simp; done) | (simp; omega)))))))
    refine bodyPost_ret (v := .tuple #[.int .i64 0, .int .i64 0, .bool false]) (by simp [results, Try.results37, go_sem]) rfl ⟨rfl, by (repeat (first | assumption | exact Below.refl _ _ | refine Below.drew ?_ | refine below_drewN ?_ _ | refine Below.setCell ?_ (by first | omega | (simp; done) | (simp; omega)) _ | refine Below.alloc ?_ (by first | omega | (simp; done) | (simp; omega)) _ | refine bchain ?_ (by assumption) (by first | omega | (simp; done) | (simp; omega))))⟩
  · have HCL := Lib.hid (pzG_iff.1 hg).2
    by_cases hl : 0 < (sol xs).length
    · have hf : slF xs = true := by simp [slF, hg, hl]
      rw [show suU xs = suN (px (sol xs)) (sol xs).length by simp [suU, hf], show suD xs = suN (py (sol xs)) (sol xs).length by simp [suD, hf], hf]
      have HG := Lib.hid hg
      have hle := sol_len xs
      have HM := Lib.hid (fun (i : Nat) (hi : i < (sol xs).length) => hdB_iff.1 (slN_mem (xs := xs) (n := 156) (Nat.le_refl _) (List.getElem_mem hi)))
      clear hg hf
      have hlI : (0 : Int) < ((sol xs).length : Int) := by omega
      have hlN : ¬ ((sol xs).length = 0) := by omega
      obtain ⟨L, hL⟩ : ∃ L, L = sol xs := ⟨_, rfl⟩
      have HA := Lib.hid (fun w h => pzAll_any a cap xs w h hn HCL.out)
      rw [← hL] at HA hlI hlN hl hle ⊢
      clear hL HCL HM
      have HU := Lib.hid (fun (j : Nat) => (show suN (px L) (j + 1) = if px L j = suN (px L) j then suN (px L) j else -1 from rfl))
      have HD := Lib.hid (fun (j : Nat) => (show suN (py L) (j + 1) = if py L j = suN (py L) j then suN (py L) j else -1 from rfl))
      go_enter Try.func37, Try.ntmps37
      go_wp2_with (first | (go_at_call 56; refine (pzGood_any a cap xs _ (h.below (by (repeat (first | assumption | exact Below.refl _ _ | refine Below.drew ?_ | refine below_drewN ?_ _ | refine Below.setCell ?_ (by first | omega | (simp; done) | (simp; omega)) _ | refine Below.alloc ?_ (by first | omega | (simp; done) | (simp; omega)) _ | refine bchain ?_ (by assumption) (by first | omega | (simp; done) | (simp; omega)))))) hn).mono ?_; rw [HG.out]; rintro e w0 ⟨rfl, hb0⟩; have hs0 := hb0.size; (try simp only [World.size_alloc] at hs0); have hc0 : w0.cell? ⟨w.heap.size, 0, none⟩ = some (.slice a xs.length cap) := (by rw [(bcell hb0).1 _ _ (by first | omega | (simp; done) | (simp; omega))]; go_simp); have B0 : Below w.heap.size w w0 := (by (repeat (first | assumption | exact Below.refl _ _ | refine Below.drew ?_ | refine below_drewN ?_ _ | refine Below.setCell ?_ (by first | omega | (simp; done) | (simp; omega)) _ | refine Below.alloc ?_ (by first | omega | (simp; done) | (simp; omega)) _ | refine bchain ?_ (by assumption) (by first | omega | (simp; done) | (simp; omega)))))) | (go_at_call 69; refine (HA.out _ (h.below B0)).mono ?_; rintro e w1 ⟨a1, c1, rfl, hO1, hb1⟩; obtain ⟨g, hg1, hg2, hg3⟩ := row_ptr hO1 hl; obtain ⟨rfl, hz0, hz1⟩ := hg1))
      have HB1 := Lib.hid (show Below w.heap.size w w1 by (repeat (first | assumption | exact Below.refl _ _ | refine Below.drew ?_ | refine below_drewN ?_ _ | refine Below.setCell ?_ (by first | omega | (simp; done) | (simp; omega)) _ | refine Below.alloc ?_ (by first | omega | (simp; done) | (simp; omega)) _ | refine bchain ?_ (by assumption) (by first | omega | (simp; done) | (simp; omega)))))
      have HO1 := Lib.hid hO1
      clear hb1 hO1 hb0 B0 hc0
      go_quiet (fail)
      go_wp2_with fail
      have HBq := Lib.hid (below_drewN HB1.out nq)
      have HOq := Lib.hid (HO1.out.below (below_drewN (Below.refl w1.heap.size w1) nq))
      clear HB1 HO1 hz0 hz1
      go_loopg [6, 7, 29] L.length (fun k v6 v7 v29 wr => ∃ (j : Nat), v6 = .int .i64 (suN (px L) j) ∧ v7 = .int .i64 (suN (py L) j) ∧ v29 = .int .i64 (j : Int) ∧ j + k = L.length ∧ OwnK wr w0.heap.size (some ⟨g, 0, none⟩) c1 L ∧ Below w.heap.size w wr)
      case atStart => exact ⟨0, rfl, rfl, rfl, by omega, HOq.out, HBq.out⟩
      case round =>
        obtain ⟨j, rfl, rfl, rfl, q1, hO, hbel⟩ := hrel
        have hgs := (hO.lt g rfl).2
        by_cases hj : j < L.length
        · have hcx := hO.cellAt (j * 2) (by omega)
          have hcy := hO.cellAt (j * 2 + 1) (by omega)
          rw [px_get hj] at hcx
          rw [py_get hj] at hcy
          have hjI : (j : Int) < (L.length : Int) := by omega
          have HUj := Lib.hid (HU.out j)
          have HDj := Lib.hid (HD.out j)
          have HO := Lib.hid hO
          have HB := Lib.hid hbel
          clear hO hbel
          generalize suN (px L) j = S at *
          generalize suN (py L) j = T at *
          generalize px L j = x at *
          generalize py L j = y at *
          by_cases hx : x = S <;> by_cases hy : y = T
          all_goals
            first
            | (have HU1 := Lib.hid (HUj.out.trans (if_pos hx)))
            | (have HU1 := Lib.hid (HUj.out.trans (if_neg hx)))
            first
            | (have HD1 := Lib.hid (HDj.out.trans (if_pos hy)))
            | (have HD1 := Lib.hid (HDj.out.trans (if_neg hy)))
            first
            | (have ex : (x != S) = false := by rw [bne_eq_false_iff_eq]; exact hx)
            | (have ex : (x != S) = true := by rw [bne_iff_ne]; exact hx)
            first
            | (have ey : (y != T) = false := by rw [bne_eq_false_iff_eq]; exact hy)
            | (have ey : (y != T) = true := by rw [bne_iff_ne]; exact hy)
            clear hx hy HUj HDj
            go_wp2_with fail
            go_roundg (gk - 1)
            case rel => exact ⟨j + 1, by rw [HU1.out], by rw [HD1.out], by go_num, by omega, HO.out.below (by (repeat (first | assumption | exact Below.refl _ _ | refine Below.drew ?_ | refine below_drewN ?_ _ | refine Below.setCell ?_ (by first | omega | (simp; done) | (simp; omega)) _ | refine Below.alloc ?_ (by first | omega | (simp; done) | (simp; omega)) _ | refine bchain ?_ (by assumption) (by first | omega | (simp; done) | (simp; omega))))), by (repeat (first | assumption | exact HB.out | exact Below.refl _ _ | refine Below.drew ?_ | refine below_drewN ?_ _ | refine Below.setCell ?_ (by first | omega | (simp; done) | (simp; omega)) _ | refine Below.alloc ?_ (by first | omega | (simp; done) | (simp; omega)) _ | refine bchain ?_ (by assumption) (by first | omega | (simp; done) | (simp; omega))))⟩
            case measure => omega
        · obtain rfl : j = L.length := by omega
          have HB := Lib.hid hbel
          clear hO hbel
          go_wp2_with fail
          refine bodyPost_ret (v := .tuple #[.int .i64 (suN (px L) L.length), .int .i64 (suN (py L) L.length), .bool true]) (by simp [results, Try.results37, go_sem]) rfl ⟨rfl, HB.out⟩
    · have hf : slF xs = false := by simp [slF, hg, hl]
      rw [show suU xs = 0 by simp [suU, hf], show suD xs = 0 by simp [suD, hf], hf]
      have HG := Lib.hid hg
      clear hg hf
      have hlN : (sol xs).length = 0 := by omega
      obtain ⟨L, hL⟩ : ∃ L, L = sol xs := ⟨_, rfl⟩
      have HA := Lib.hid (fun w h => pzAll_any a cap xs w h hn HCL.out)
      rw [← hL] at HA hlN hl
      clear hL HCL hl
      obtain rfl := List.length_eq_zero_iff.1 hlN
      clear hlN
      go_enter Try.func37, Try.ntmps37
      go_wp2_with (first | (go_at_call 56; refine (pzGood_any a cap xs _ (h.below (by (repeat (first | assumption | exact Below.refl _ _ | refine Below.drew ?_ | refine below_drewN ?_ _ | refine Below.setCell ?_ (by first | omega | (simp; done) | (simp; omega)) _ | refine Below.alloc ?_ (by first | omega | (simp; done) | (simp; omega)) _ | refine bchain ?_ (by assumption) (by first | omega | (simp; done) | (simp; omega)))))) hn).mono ?_; rw [HG.out]; rintro e w0 ⟨rfl, hb0⟩; have hs0 := hb0.size; (try simp only [World.size_alloc] at hs0); have hc0 : w0.cell? ⟨w.heap.size, 0, none⟩ = some (.slice a xs.length cap) := (by rw [(bcell hb0).1 _ _ (by first | omega | (simp; done) | (simp; omega))]; go_simp); have B0 : Below w.heap.size w w0 := (by (repeat (first | assumption | exact Below.refl _ _ | refine Below.drew ?_ | refine below_drewN ?_ _ | refine Below.setCell ?_ (by first | omega | (simp; done) | (simp; omega)) _ | refine Below.alloc ?_ (by first | omega | (simp; done) | (simp; omega)) _ | refine bchain ?_ (by assumption) (by first | omega | (simp; done) | (simp; omega)))))) | (go_at_call 69; refine (HA.out _ (h.below B0)).mono ?_; rintro e w1 ⟨a1, c1, rfl, hO1, hb1⟩))
      refine bodyPost_ret (v := .tuple #[.int .i64 0, .int .i64 0, .bool false]) (by simp [results, Try.results37, go_sem]) rfl ⟨rfl, by (repeat (first | assumption | exact Below.refl _ _ | refine Below.drew ?_ | refine below_drewN ?_ _ | refine Below.setCell ?_ (by first | omega | (simp; done) | (simp; omega)) _ | refine Below.alloc ?_ (by first | omega | (simp; done) | (simp; omega)) _ | refine bchain ?_ (by assumption) (by first | omega | (simp; done) | (simp; omega))))⟩
end Go.Proofs.Ytnnokfecjdmjpaa
