/- The function DropClue of chapter 9 answers as the model at every puzzle (every field of the answer), its answer owns its memory, it does not panic, it writes into nothing that was there before the call. Conditions: none. -/
import Derived.Test.YtnnokfecjdmjpaaRows
import Derived.Test.YtnnokfecjdmjpaaPzFn
import Derived.Test.YtnnokfecjdmjpaaPzFn2
import Derived.Test.YtnnokfecjdmjpaaPzSpec3
import Derived.Test.YtnnokfecjdmjpaaPzSpec4
import Derived.Test.YtnnokfecjdmjpaaPzSpec5
import Derived.Test.YtnnokfecjdmjpaaTriFrame
import Derived.Test.YtnnokfecjdmjpaaPzBox
import Derived.Test.YtnnokfecjdmjpaaPairsK
import Derived.Test.YtnnokfecjdmjpaaSlices
import Derived.WalkKit
import Derived.ProofKit
import Derived.OpenShut
import Derived.ShutString
import Derived.ChangeOld
import Derived.Below
import Derived.Lib.SmallJoins
namespace Go.Proofs.Ytnnokfecjdmjpaa
open Go.ChangeShapes Go.WideShapes Go.ChangeAt Go.RowKit Go.Joins
open Go.ChangeMaps (open_string shut_string)
set_option linter.unusedVariables false
set_option linter.unusedSimpArgs false
namespace fnExactDropClue
theorem own : ownKnob Try.prog.godebug = none := by kernel_rfl
theorem laidOut : laidOutB Try.prog = true := by kernel_rfl
theorem cellsPuzzle : Try.prog.cellsOf 30 = 1 := by kernel_rfl
theorem dpL_len (xs : List (Int × Int × Int)) (k : Int) : (dpL xs k).length ≤ 1000 := by
  unfold dpL; split
  · rename_i h
    unfold dpB at h
    rw [Bool.and_eq_true] at h
    have h6 := (pzG_iff.1 h.1).1
    have hb := inB_iff.1 h.2
    rw [drp_len (by omega)]; omega
  · simp
set_option maxHeartbeats 8000000 in
set_option maxRecDepth 100000 in
theorem fnExactDropClue_walk (a0 : Option Addr) (cap0 : Nat) (xs : List (Int × Int × Int)) (n : Int) (w : World) (h : RdT w a0 xs) (hm : xs.length ≤ maxLen) (_ : (Lit.int .i64 n).wf = true) :
    Calls Try.prog 12 #[.agg #[.slice a0 xs.length cap0], .int .i64 n] w fun e w' => e = .returned (.bool true) ∧ Below w.heap.size w w' := by
  unfold maxLen at hm
  by_cases hbig : (1048576 : Int) < (xs.length : Int)
  · go_enter Try.func12, Try.ntmps12
    go_wp2_with fail
    have b0 : Below w.heap.size w (w.alloc (.cells #[.slice a0 xs.length cap0] 30)) := (Below.refl _ _).alloc (Nat.le_refl _) _
    refine (szPuzzle_big a0 xs.length cap0 _ (by omega) hbig).mono ?_; rintro e w0 ⟨rfl, hb0⟩
    have B0 : Below w.heap.size w w0 := b0.trans (hb0.mono (by simp))
    go_wp2_with fail
    go_ret
    exact ⟨rfl, B0⟩
  · have hx : xs.length ≤ 1048576 := by omega
    obtain ⟨L, ok, hL0, hS, hI⟩ : ∃ (L : List (Int × Int × Int)) (ok : Bool), L.length ≤ 1000 ∧ (∀ (A : Addr) (w : World), RdT w (some A) xs → Calls Try.prog 46 #[.agg #[.slice (some A) xs.length xs.length], .int .i64 n] w (RetP9 w L ok)) ∧ (∀ (A : Addr) (w : World), RdT w (some A) xs → Calls Try.prog 47 #[.agg #[.slice (some A) xs.length xs.length], .int .i64 n] w (RetP9 w L ok)) := ⟨_, _, dpL_len xs n, fun A w h => specDropClue (some A) xs.length xs n w h hx (Nat.le_refl _), fun A w h => implDropClue A xs.length xs n w h hx (Nat.le_refl _)⟩
    have hL1 : L.length ≤ 1048576 := by omega
    have hz : ¬ (1048576 - (xs.length : Int) < 0) := by omega
    clear hbig hm
    go_enter Try.func12, Try.ntmps12
    go_wp2_with fail
    have bx0 : Below w.heap.size w (w.alloc (.cells #[.slice a0 xs.length cap0] 30)) := (Below.refl _ _).alloc (Nat.le_refl _) _
    have bAs : Box1 (w.alloc (.cells #[.slice a0 xs.length cap0] 30)) (w.heap.size) (.slice a0 xs.length cap0) := ⟨by simp, by go_simp⟩
    refine (szPuzzle_ok a0 xs.length cap0 _ hx).mono ?_; rintro e w0 ⟨rfl, hb0⟩
    have B0 : Below w.heap.size w w0 := bx0.trans (hb0.mono (by simp))
    have bA0 := bAs.below hb0
    have s0 : w.heap.size < w0.heap.size := bA0.1
    clear bAs bx0 hb0
    obtain ⟨_, uA0_1⟩ := id bA0
    go_wp2_with fail
    refine (toPuzzle_some a0 cap0 xs _ (h.below B0) hx).mono ?_; rintro e w1 ⟨A1, rfl, hO1, hb1⟩
    have s1 := hb1.size
    have B1 : Below w.heap.size w w1 := B0.trans (hb1.mono B0.size)
    have bA1 := bA0.below hb1
    clear bA0
    clear B0 hb1
    go_wp2_with fail
    refine (hS _ _ hO1.rd).mono ?_; rintro e w2 ⟨q2, k2, rfl, hO2, hb2⟩
    have s2 := hb2.size
    have B2 : Below w.heap.size w w2 := B1.trans (hb2.mono B1.size)
    have bA2 := bA1.below hb2
    clear bA1
    clear B1 hb2
    clear hO1
    have rlW : ∀ k, (Value.slice q2 L.length k2).ownBlock = some k → w1.heap.size ≤ k ∧ k < w2.heap.size := fun k hk => rowP_lt hO2 k hk
    have rW2 := hO2
    clear hO2
    obtain ⟨_, uA0_2⟩ := id bA2
    go_wp2_with fail
    generalize hq : World.alloc w2 _ = w2a
    have hb2a : Below w2.heap.size w2 w2a := by subst hq; exact (Below.refl _ _).alloc (Nat.le_refl _) _
    have bW2a : Box1 w2a (w2.heap.size) (.slice q2 L.length k2) := by subst hq; exact ⟨by simp, by go_simp⟩
    have s2a : w2a.heap.size = w2.heap.size + 1 := by subst hq; simp
    clear hq
    have B2a : Below w.heap.size w w2a := B2.trans (hb2a.mono B2.size)
    have bA2a := bA2.below hb2a
    have rW2a := rW2.below hb2a
    clear bA2 rW2
    clear B2 hb2a
    refine (toPuzzle_some a0 cap0 xs _ (h.below B2a) hx).mono ?_; rintro e w3 ⟨A3, rfl, hO3, hb3⟩
    have s3 := hb3.size
    have B3 : Below w.heap.size w w3 := B2a.trans (hb3.mono B2a.size)
    have bA3 := bA2a.below hb3
    have bW3 := bW2a.below hb3
    have rW3 := rW2a.below hb3
    clear bA2a bW2a rW2a
    clear B2a hb3
    have rlX : ∀ k, (Value.slice (some A3) xs.length xs.length).ownBlock = some k → w2a.heap.size ≤ k ∧ k < w3.heap.size := fun k hk => rowP_lt hO3 k hk
    have rX3 := hO3
    clear hO3
    go_wp2_with fail
    generalize hq : World.alloc w3 _ = w3a
    have hb3a : Below w3.heap.size w3 w3a := by subst hq; exact (Below.refl _ _).alloc (Nat.le_refl _) _
    have bX3a : Box1 w3a (w3.heap.size) (.slice (some A3) xs.length xs.length) := by subst hq; exact ⟨by simp, by go_simp⟩
    have s3a : w3a.heap.size = w3.heap.size + 1 := by subst hq; simp
    clear hq
    have B3a : Below w.heap.size w w3a := B3.trans (hb3a.mono B3.size)
    have bA3a := bA3.below hb3a
    have bW3a := bW3.below hb3a
    have rW3a := rW3.below hb3a
    have rX3a := rX3.below hb3a
    clear bA3 bW3 rW3 rX3
    clear B3 hb3a
    refine (hI _ _ rX3a.rd).mono ?_; rintro e w4 ⟨q4, k4, rfl, hO4, hb4⟩
    have s4 := hb4.size
    have B4 : Below w.heap.size w w4 := B3a.trans (hb4.mono B3a.size)
    have bA4 := bA3a.below hb4
    have bW4 := bW3a.below hb4
    have bX4 := bX3a.below hb4
    have rW4 := rW3a.below hb4
    have rX4 := rX3a.below hb4
    clear bA3a bW3a bX3a rW3a rX3a
    clear B3a hb4
    have rlG : ∀ k, (Value.slice q4 L.length k4).ownBlock = some k → w3a.heap.size ≤ k ∧ k < w4.heap.size := fun k hk => rowP_lt hO4 k hk
    have rG4 := hO4
    clear hO4
    obtain ⟨_, uA0_3⟩ := id bA4
    obtain ⟨_, uW0_4⟩ := id bW4
    obtain ⟨_, uX0_5⟩ := id bX4
    go_wp2_with fail
    generalize hq : World.alloc w4 _ = w4a
    have hb4a : Below w4.heap.size w4 w4a := by subst hq; exact (Below.refl _ _).alloc (Nat.le_refl _) _
    have bG4a : Box1 w4a (w4.heap.size) (.slice q4 L.length k4) := by subst hq; exact ⟨by simp, by go_simp⟩
    have s4a : w4a.heap.size = w4.heap.size + 1 := by subst hq; simp
    clear hq
    have B4a : Below w.heap.size w w4a := B4.trans (hb4a.mono B4.size)
    have bA4a := bA4.below hb4a
    have bW4a := bW4.below hb4a
    have bX4a := bX4.below hb4a
    have rW4a := rW4.below hb4a
    have rX4a := rX4.below hb4a
    have rG4a := rG4.below hb4a
    clear bA4 bW4 bX4 rW4 rX4 rG4
    clear B4 hb4a
    refine (eqPuzzle_eq q4 q2 k4 k2 L _ rG4a.rd rW4a.rd hL1).mono ?_; rintro e w5 ⟨rfl, hb5⟩
    have s5 := hb5.size
    have B5 : Below w.heap.size w w5 := B4a.trans (hb5.mono B4a.size)
    have bA5 := bA4a.below hb5
    have bW5 := bW4a.below hb5
    have bX5 := bX4a.below hb5
    have bG5 := bG4a.below hb5
    have rW5 := rW4a.below hb5
    have rX5 := rX4a.below hb5
    have rG5 := rG4a.below hb5
    clear bA4a bW4a bX4a bG4a rW4a rX4a rG4a
    clear B4a hb5
    obtain ⟨_, uA0_6⟩ := id bA5
    obtain ⟨_, uW0_7⟩ := id bW5
    obtain ⟨_, uX0_8⟩ := id bX5
    obtain ⟨_, uG0_9⟩ := id bG5
    go_wp2_with fail
    have RA : RdT w5 a0 xs := h.below B5
    have hAl : w.heap.size < w5.heap.size := bA5.1
    have hXl : w3.heap.size < w5.heap.size := bX5.1
    obtain ⟨_, uA0_10⟩ := id bA5
    obtain ⟨_, uX0_11⟩ := id bX5
    have HB := Lib.hid B5
    clear B5
    go_region_held3 (fun v => Below w5.heap.size w5 v ∧ v.cell? ⟨w.heap.size, 0, none⟩ = some (.slice a0 xs.length cap0) ∧ v.cell? ⟨w3.heap.size, 0, none⟩ = some (.slice (some A3) xs.length xs.length))
      (refine ⟨?_, ?_, ?_⟩ <;> first | assumption | (go_simp; done) | ((repeat (first | assumption | exact Below.refl _ _ | refine Below.drew ?_ | refine below_drewN ?_ _ | refine Below.alloc ?_ (by first | omega | (simp; done) | (simp; omega)) _ | refine bchain ?_ (by assumption) (by first | omega | (simp; done) | (simp; omega)))); done))
      (first | (go_at_call 20; refine (toPuzzle_some a0 cap0 xs _ (RA.below (by (repeat (first | assumption | exact Below.refl _ _ | refine Below.drew ?_ | refine below_drewN ?_ _ | refine Below.alloc ?_ (by first | omega | (simp; done) | (simp; omega)) _ | refine bchain ?_ (by assumption) (by first | omega | (simp; done) | (simp; omega)))))) hx).mono ?_; rintro e w6 ⟨A6, rfl, hO6, hb6⟩; have hs6 := hb6.size; (try simp only [World.size_alloc, World.size_drew] at hs6); have hcA6 := fun o => (bcell hb6).1 w.heap.size o (by first | omega | (simp; done) | (simp; omega)); have hcX6 := fun o => (bcell hb6).1 w3.heap.size o (by first | omega | (simp; done) | (simp; omega))) | (go_at_call 22; refine (eqPuzzle_eq _ _ _ _ xs _ (rX5.rd.below (by (repeat (first | assumption | exact Below.refl _ _ | refine Below.drew ?_ | refine below_drewN ?_ _ | refine Below.alloc ?_ (by first | omega | (simp; done) | (simp; omega)) _ | refine bchain ?_ (by assumption) (by first | omega | (simp; done) | (simp; omega)))))) (hO6.rd.below (by (repeat (first | assumption | exact Below.refl _ _ | refine Below.drew ?_ | refine below_drewN ?_ _ | refine Below.alloc ?_ (by first | omega | (simp; done) | (simp; omega)) _ | refine bchain ?_ (by assumption) (by first | omega | (simp; done) | (simp; omega)))))) hx).mono ?_; rintro e w6b ⟨rfl, hb6b⟩; have hs6b := hb6b.size; (try simp only [World.size_alloc, World.size_drew] at hs6b); have hcA6b := fun o => (bcell hb6b).1 w.heap.size o (by first | omega | (simp; done) | (simp; omega)); have hcX6b := fun o => (bcell hb6b).1 w3.heap.size o (by first | omega | (simp; done) | (simp; omega))))
    all_goals
      rename_i hSS
      have hb7 := hSS.1
      have s7 := hb7.size
      have B7 := HB.out.trans (hb7.mono HB.out.size)
      clear hcA6 hcX6 hcA6b hcX6b hb6 hb6b hO6
      clear RA uA0_10 uX0_11
      have bA7 := bA5.below hb7
      have bW7 := bW5.below hb7
      have bX7 := bX5.below hb7
      have bG7 := bG5.below hb7
      have rW7 := rW5.below hb7
      have rX7 := rX5.below hb7
      have rG7 := rG5.below hb7
      clear bA5 bW5 bX5 bG5 rW5 rX5 rG5
      clear hSS hb7
      have hkx : ¬ (1 + 3 * (xs.length : Int) < 0) := by omega
      have hky : ¬ (1 + 3 * (L.length : Int) < 0) := by omega
      have hkz : ¬ (1 + 2 * (L.length : Int) < 0) := by omega
      have hkw : ¬ (1 + (L.length : Int) < 0) := by omega
      obtain ⟨_, uX0_12⟩ := id bX7
      go_wp2_with fail
      refine (markPuzzle_own w2a.heap.size _ _ xs 1 _ rX7 (by omega) (by omega)).mono ?_; rintro e w8 ⟨rfl, hM8, hg8⟩
      have s8 := hg8.size
      have B8 : Below w.heap.size w w8 := B7.grown hg8 B7.size (fun k hk => by have := (rlX k hk).1; omega)
      have bA8 := bA7.grown hg8 (fun hk => by have := rlX _ hk.symm; omega)
      have bW8 := bW7.grown hg8 (fun hk => by have := rlX _ hk.symm; omega)
      have bX8 := bX7.grown hg8 (fun hk => by have := rlX _ hk.symm; omega)
      have bG8 := bG7.grown hg8 (fun hk => by have := rlX _ hk.symm; omega)
      have rW8 := rW7.apart' hg8 (own_apart (fun k hk hk2 => by have := rlW k hk; have := rlX k hk2; omega))
      have rG8 := rG7.apart' hg8 (own_apart (fun k hk hk2 => by have := rlG k hk; have := rlX k hk2; omega))
      clear bA7 bW7 bX7 bG7 rW7 rX7 rG7 B7
      clear hM8 hg8
      obtain ⟨_, uA0_13⟩ := id bA8
      obtain ⟨_, uW0_14⟩ := id bW8
      obtain ⟨_, uX0_15⟩ := id bX8
      obtain ⟨_, uG0_16⟩ := id bG8
      go_wp2_with fail
      refine (eqPuzzle_eq q4 q2 k4 k2 L _ rG8.rd rW8.rd hL1).mono ?_; rintro e w9 ⟨rfl, hb9⟩
      have s9 := hb9.size
      have B9 : Below w.heap.size w w9 := B8.trans (hb9.mono B8.size)
      have bA9 := bA8.below hb9
      have bW9 := bW8.below hb9
      have bX9 := bX8.below hb9
      have bG9 := bG8.below hb9
      have rW9 := rW8.below hb9
      have rG9 := rG8.below hb9
      clear bA8 bW8 bX8 bG8 rW8 rG8
      clear B8 hb9
      obtain ⟨_, uA0_17⟩ := id bA9
      obtain ⟨_, uW0_18⟩ := id bW9
      obtain ⟨_, uX0_19⟩ := id bX9
      obtain ⟨_, uG0_20⟩ := id bG9
      go_wp2_with fail
      refine (markPuzzle_own w3a.heap.size _ _ L 1 _ rG9 (by omega) (by omega)).mono ?_; rintro e w10 ⟨rfl, hM10, hg10⟩
      have s10 := hg10.size
      have B10 : Below w.heap.size w w10 := B9.grown hg10 B9.size (fun k hk => by have := (rlG k hk).1; omega)
      have bA10 := bA9.grown hg10 (fun hk => by have := rlG _ hk.symm; omega)
      have bW10 := bW9.grown hg10 (fun hk => by have := rlG _ hk.symm; omega)
      have bX10 := bX9.grown hg10 (fun hk => by have := rlG _ hk.symm; omega)
      have bG10 := bG9.grown hg10 (fun hk => by have := rlG _ hk.symm; omega)
      have rW10 := rW9.apart' hg10 (own_apart (fun k hk hk2 => by have := rlW k hk; have := rlG k hk2; omega))
      clear bA9 bW9 bX9 bG9 rW9 rG9 B9
      have rGR10 := rowT_rd (sqT_length _ _) hM10
      clear hM10 hg10
      obtain ⟨_, uA0_21⟩ := id bA10
      obtain ⟨_, uW0_22⟩ := id bW10
      obtain ⟨_, uX0_23⟩ := id bX10
      obtain ⟨_, uG0_24⟩ := id bG10
      go_wp2_with fail
      refine (heldPuzzle_ok q4 L.length k4 1 _ rGR10 (by omega) (by omega)).mono ?_; rintro e w11 ⟨rfl, hb11⟩
      have s11 := hb11.size
      have B11 : Below w.heap.size w w11 := B10.trans (hb11.mono B10.size)
      have bA11 := bA10.below hb11
      have bW11 := bW10.below hb11
      have bX11 := bX10.below hb11
      have bG11 := bG10.below hb11
      have rW11 := rW10.below hb11
      have rGR11 := rGR10.below hb11
      clear bA10 bW10 bX10 bG10 rW10 rGR10
      clear B10 hb11
      obtain ⟨_, uA0_25⟩ := id bA11
      obtain ⟨_, uW0_26⟩ := id bW11
      obtain ⟨_, uX0_27⟩ := id bX11
      obtain ⟨_, uG0_28⟩ := id bG11
      go_wp2_with fail
      refine (toPuzzle_some a0 cap0 xs _ (h.below B11) hx).mono ?_; rintro e w12 ⟨A12, rfl, hO12, hb12⟩
      have s12 := hb12.size
      have B12 : Below w.heap.size w w12 := B11.trans (hb12.mono B11.size)
      have bA12 := bA11.below hb12
      have bW12 := bW11.below hb12
      have bX12 := bX11.below hb12
      have bG12 := bG11.below hb12
      have rW12 := rW11.below hb12
      have rGR12 := rGR11.below hb12
      clear bA11 bW11 bX11 bG11 rW11 rGR11
      clear B11 hb12
      obtain ⟨_, uA0_29⟩ := id bA12
      obtain ⟨_, uW0_30⟩ := id bW12
      obtain ⟨_, uX0_31⟩ := id bX12
      obtain ⟨_, uG0_32⟩ := id bG12
      go_wp2_with fail
      refine (hI _ _ hO12.rd).mono ?_; rintro e w13 ⟨q13, k13, rfl, hO13, hb13⟩
      have s13 := hb13.size
      have B13 : Below w.heap.size w w13 := B12.trans (hb13.mono B12.size)
      have bA13 := bA12.below hb13
      have bW13 := bW12.below hb13
      have bX13 := bX12.below hb13
      have bG13 := bG12.below hb13
      have rW13 := rW12.below hb13
      have rGR13 := rGR12.below hb13
      clear bA12 bW12 bX12 bG12 rW12 rGR12
      clear B12 hb13
      clear hO12
      have rH13 := hO13
      clear hO13
      obtain ⟨_, uA0_33⟩ := id bA13
      obtain ⟨_, uW0_34⟩ := id bW13
      obtain ⟨_, uX0_35⟩ := id bX13
      obtain ⟨_, uG0_36⟩ := id bG13
      go_wp2_with fail
      generalize hq : World.alloc w13 _ = w13a
      have hb13a : Below w13.heap.size w13 w13a := by subst hq; exact (Below.refl _ _).alloc (Nat.le_refl _) _
      have bH13a : Box1 w13a (w13.heap.size) (.slice q13 L.length k13) := by subst hq; exact ⟨by simp, by go_simp⟩
      have s13a : w13a.heap.size = w13.heap.size + 1 := by subst hq; simp
      clear hq
      have B13a : Below w.heap.size w w13a := B13.trans (hb13a.mono B13.size)
      have bA13a := bA13.below hb13a
      have bW13a := bW13.below hb13a
      have bX13a := bX13.below hb13a
      have bG13a := bG13.below hb13a
      have rW13a := rW13.below hb13a
      have rGR13a := rGR13.below hb13a
      have rH13a := rH13.below hb13a
      clear bA13 bW13 bX13 bG13 rW13 rGR13 rH13
      clear B13 hb13a
      refine (eqPuzzle_eq q13 q2 k13 k2 L _ rH13a.rd rW13a.rd hL1).mono ?_; rintro e w14 ⟨rfl, hb14⟩
      have s14 := hb14.size
      have B14 : Below w.heap.size w w14 := B13a.trans (hb14.mono B13a.size)
      have bA14 := bA13a.below hb14
      have bW14 := bW13a.below hb14
      have bX14 := bX13a.below hb14
      have bG14 := bG13a.below hb14
      have bH14 := bH13a.below hb14
      have rW14 := rW13a.below hb14
      have rGR14 := rGR13a.below hb14
      have rH14 := rH13a.below hb14
      clear bA13a bW13a bX13a bG13a bH13a rW13a rGR13a rH13a
      clear B13a hb14
      obtain ⟨_, uA0_37⟩ := id bA14
      obtain ⟨_, uW0_38⟩ := id bW14
      obtain ⟨_, uX0_39⟩ := id bX14
      obtain ⟨_, uG0_40⟩ := id bG14
      obtain ⟨_, uH0_41⟩ := id bH14
      go_wp2_with fail
      refine (heldPuzzle_ok q4 L.length k4 1 _ rGR14 (by omega) (by omega)).mono ?_; rintro e w15 ⟨rfl, hb15⟩
      have s15 := hb15.size
      have B15 : Below w.heap.size w w15 := B14.trans (hb15.mono B14.size)
      have bA15 := bA14.below hb15
      have bW15 := bW14.below hb15
      have bX15 := bX14.below hb15
      have bG15 := bG14.below hb15
      have bH15 := bH14.below hb15
      have rW15 := rW14.below hb15
      have rGR15 := rGR14.below hb15
      have rH15 := rH14.below hb15
      clear bA14 bW14 bX14 bG14 bH14 rW14 rGR14 rH14
      clear B14 hb15
      go_wp2_with fail
      go_ret
      exact ⟨rfl, B15⟩
set_option maxRecDepth 100000 in
theorem fnExactDropClue_lifted (os : Os) (started : os.Started) (H : Type) (enc : TypeId × Value → H) :
    ReturnsInHanded {} Try.checked os 12 .any (Rows.fnExactDropClueSpec.pre6 enc Try.prog Try.f12 Rows.fnExactDropClueRow.domain false) (Rows.fnExactDropClueSpec.post enc Try.prog Try.f12 false true false false) := by
  refine returnsInHanded_of_change (C := Try.checked) own started (by kernel_rfl) Try.func12
    (ChangeSpec.witness6 (enc := enc) (C := Try.checked) false ⟨#[], #[.agg #[.slice none 0 0], .int .i64 0], []⟩ 8 (by kernel_rfl) (by kernel_rfl) (by kernel_rfl) (by kernel_rfl)) ?_
  intro W base args ds gs before hval0 hW hcnd _
  have hval : ∀ (j : Nat) t v, Try.f12.params[j]? = some t → args[j]? = some v → Value.okWide Try.prog W .any base t v := hval0
  have hW' := hW
  obtain ⟨p, q, hA0, hV, rfl, hfz, hnd⟩ := hW
  have hA : DataW.TrodAll enc Try.prog W 0 (fun _ => true) true Try.f12.params.toList args.toList ds p := hA0
  rw [Try.params12] at hA hval
  obtain ⟨v0, vs0, d0, ds0, p0, q0, hargs, rfl, rfl, h0, r0⟩ := trodAll_cons hA
  obtain ⟨v1, vs1, d1, ds1, p1, q1, rfl, rfl, rfl, h1, r1⟩ := trodAll_cons r0
  obtain ⟨rfl, rfl, rfl⟩ := trodAll_nil r1
  obtain rfl : args = #[v0, v1] := by cases args; simp_all
  obtain ⟨rfl, rfl⟩ := trodVars_none hV
  have k0 := h0
  have lt0 : ∀ x ∈ p0, x.block < W.heap.size := by obtain ⟨m, hm⟩ := k0; exact DataW.trod_lt m _ _ _ hm
  have k1 := h1
  have lt1 : ∀ x ∈ p1, x.block < W.heap.size := by obtain ⟨m, hm⟩ := k1; exact DataW.trod_lt m _ _ _ hm
  obtain ⟨c0, y0, m0, rfl, rfl, rfl, hy0⟩ := open_agg1 Try.underlying30 rfl (by kernel_rfl) cellsPuzzle (hval 0 30 v0 rfl rfl) h0
  obtain ⟨b0, cap0, xs0, E0, R0, M0⟩ := open_triples_val Try.underlying28 Try.underlying23 (by kernel_rfl) rfl rfl rfl (by kernel_rfl) (by kernel_rfl) (by kernel_rfl) Try.underlying3 Try.underlying3 Try.underlying3 hy0
  subst E0
  obtain ⟨a1, rfl, rfl, rfl, x1⟩ := open_int Try.underlying3 (hval 1 3 v1 rfl rfl) h1
  clear hA0 hval0
  refine (fnExactDropClue_walk b0 cap0 xs0 a1 W R0 M0 x1).mono fun e W' ⟨he, bel⟩ => ?_
  subst he
  exact ⟨_, rfl, _, _, _, [], _, [], hW', trodAll_mk1 (shut_bool Try.underlying4 _), (trodAll_cons_mk (Below.trod laidOut (by kernel_rfl) (of_decide_eq_true (by kernel_rfl)) k0 bel lt0) (trodAll_cons_mk (Below.trod laidOut (by kernel_rfl) (of_decide_eq_true (by kernel_rfl)) k1 bel lt1) trodAll_mk0)), rfl, bel.frame _, fun h => by cases h⟩
theorem fnExactDropClue_over : Rows.fnExactDropClueRow.holds Try.pinned (OpenSpec.ofChange Rows.fnExactDropClueSpec) :=
  OpenClaim.holds_of_wide 12 Try.f12 rfl rfl rfl rfl rfl rfl rfl ⟨rfl, rfl, rfl, rfl, rfl⟩ rfl rfl rfl rfl rfl (by kernel_rfl) Try.func12 (by kernel_rfl)
    (of_decide_eq_true (by kernel_rfl)) (by unfold Func.isWrapper; first | (rw [if_pos (by decide +kernel)]; kernel_rfl) | (rw [if_neg (by decide +kernel)]; exact ⟨rfl, rfl⟩))
    (fun os started H enc _ => fnExactDropClue_lifted os started H enc)
/-- The statement, as it is given. -/
theorem fnExactDropClue_holds : Rows.FnExactDropClueSaid := fnExactDropClue_over

end fnExactDropClue
end Go.Proofs.Ytnnokfecjdmjpaa
