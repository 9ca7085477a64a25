/- The function DropBus of chapter 7 answers as the model at every line and every number (every field of the answer), its answer owns its stops, it does not panic, it writes into nothing that was there before the call. Conditions: none. -/
import Derived.Test.YtjcapaoafkgkaaaRows
import Derived.Test.YtjcapaoafkgkaaaBusC
import Derived.Test.YtjcapaoafkgkaaaSlices
import Derived.WalkKit
import Derived.ProofKit
import Derived.OpenShut
import Derived.ShutString
import Derived.ChangeOld
import Derived.Below
import Derived.Lib.SmallJoins
namespace Go.Proofs.Ytjcapaoafkgkaaa
open Go.ChangeShapes Go.WideShapes Go.ChangeAt Go.RowKit Go.Joins
open Go.ChangeMaps (open_string shut_string)
set_option linter.unusedVariables false
set_option linter.unusedSimpArgs false
namespace fnExactDropBus
theorem own : ownKnob Try.prog.godebug = none := by kernel_rfl
theorem laidOut : laidOutB Try.prog = true := by kernel_rfl
theorem cellsLine : Try.prog.cellsOf 24 = 4 := by kernel_rfl
theorem own_apart {u v : Value} (h : ∀ k, u.ownBlock = some k → v.ownBlock = some k → False) : u.ownBlock = none ∨ u.ownBlock ≠ v.ownBlock := by
  cases hq : u.ownBlock with
  | none => exact .inl rfl
  | some k => exact .inr fun e => h k hq e.symm
set_option maxHeartbeats 8000000 in
theorem fnExactDropBus_walk (f0 e0 c0 : Int) (a0 : Option Addr) (cap0 : Nat) (xs : List Int) (n : Int) (w : World) (_ : (Lit.int .i64 f0).wf = true) (_ : (Lit.int .i64 e0).wf = true) (_ : (Lit.int .i64 c0).wf = true) (h : Rd w a0 xs) (hm : xs.length ≤ maxLen) (_ : (Lit.int .i64 n).wf = true) :
    Calls Try.prog 7 #[.agg #[.int .i64 f0, .int .i64 e0, .int .i64 c0, .slice a0 xs.length cap0], .int .i64 n] w fun e w' => e = .returned (.bool true) ∧ Below w.heap.size w w' := by
  unfold maxLen at hm
  by_cases hbig : (1048576 : Int) < (xs.length : Int)
  · go_enter Try.func7, Try.ntmps7
    go_wp2_with fail
    have b0 : Below w.heap.size w (w.alloc (.cells #[.int .i64 f0, .int .i64 e0, .int .i64 c0, .slice a0 xs.length cap0] 24)) := (Below.refl _ _).alloc (Nat.le_refl _) _
    refine (szLine_big f0 e0 c0 a0 xs.length cap0 (by omega) (by omega) _).mono ?_; rintro e w0 ⟨rfl, hb0⟩
    have B0 : Below w.heap.size w w0 := b0.trans (hb0.mono (by simp))
    go_wp2_with fail
    go_ret
    exact ⟨rfl, B0⟩
  · have hx : xs.length ≤ 1048576 := by omega
    have hx0 : xs.length ≤ 4611686018427387904 := by omega
    obtain ⟨F, E, C, ys, ok, hys, hS, hI⟩ : ∃ (F E C : Int) (ys : List Int) (ok : Bool), ys.length ≤ 1048576 ∧ (∀ (a : Option Addr) (cap : Nat) (w : World), Rd w a xs → Calls Try.prog 19 #[.agg #[.int .i64 f0, .int .i64 e0, .int .i64 c0, .slice a xs.length cap], .int .i64 n] w (RetL w F E C ys ok)) ∧ (∀ (a : Option Addr) (cap : Nat) (w : World), Rd w a xs → Calls Try.prog 20 #[.agg #[.int .i64 f0, .int .i64 e0, .int .i64 c0, .slice a xs.length cap], .int .i64 n] w (RetL w F E C ys ok)) := by
      cases hk : dpK f0 e0 c0 xs n
      · have hR : Hid (dpR f0 e0 c0 xs n 0 0 0 [] false) := Lib.hid ⟨fun q => (by rw [hk] at q; cases q), fun _ => ⟨rfl, rfl, rfl, rfl, rfl⟩⟩
        exact ⟨0, 0, 0, [], false, by simp, fun a cap w h => specDropBus f0 e0 c0 a cap xs n 0 0 0 [] false hR w h hx, fun a cap w h => implDropBus f0 e0 c0 a cap xs n 0 0 0 [] false hR w h hx⟩
      · have hR : Hid (dpR f0 e0 c0 xs n f0 e0 (minI c0 n) xs true) := Lib.hid ⟨fun _ => ⟨rfl, rfl, rfl, rfl, rfl⟩, fun q => (by rw [hk] at q; cases q)⟩
        exact ⟨f0, e0, minI c0 n, xs, true, hx, fun a cap w h => specDropBus f0 e0 c0 a cap xs n _ _ _ _ _ hR w h hx, fun a cap w h => implDropBus f0 e0 c0 a cap xs n _ _ _ _ _ hR w h hx⟩
    have hys0 : ys.length ≤ 4611686018427387904 := by omega
    clear hbig hm
    go_enter Try.func7, Try.ntmps7
    go_wp2_with fail
    have bx0 : Below w.heap.size w (w.alloc (.cells #[.int .i64 f0, .int .i64 e0, .int .i64 c0, .slice a0 xs.length cap0] 24)) := (Below.refl _ _).alloc (Nat.le_refl _) _
    have bAs : Box (w.alloc (.cells #[.int .i64 f0, .int .i64 e0, .int .i64 c0, .slice a0 xs.length cap0] 24)) (w.heap.size) (.int .i64 f0) (.int .i64 e0) (.int .i64 c0) (.slice a0 xs.length cap0) := ⟨by simp, by go_simp, by go_simp, by go_simp, by go_simp⟩
    refine (szLine_ok f0 e0 c0 a0 xs.length cap0 hx _).mono ?_; rintro e w0 ⟨rfl, hb0⟩
    have B0 : Below w.heap.size w w0 := bx0.trans (hb0.mono (by simp))
    have bA0 := bAs.below hb0
    clear bAs bx0
    obtain ⟨_, uA0, uA1, uA2, uA3⟩ := id bA0
    go_wp2_with fail
    refine (toLine_any f0 e0 c0 a0 cap0 xs _ (h.below B0) hx).mono ?_; rintro e w1 ⟨q1, rfl, hO1, hb1⟩
    have B1 : Below w.heap.size w w1 := B0.trans (hb1.mono B0.size)
    have bA1 := bA0.below hb1
    go_wp2_with fail
    refine (hS _ _ _ hO1.rd).mono ?_; rintro e w2 ⟨q2, k2, rfl, hO2, hb2⟩
    have B2 : Below w.heap.size w w2 := B1.trans (hb2.mono B1.size)
    have bA2 := bA1.below hb2
    obtain ⟨_, uA0, uA1, uA2, uA3⟩ := id bA2
    go_wp2_with fail
    generalize hq : World.alloc w2 _ = w2a
    have hb2a : Below w2.heap.size w2 w2a := by subst hq; exact (Below.refl _ _).alloc (Nat.le_refl _) _
    have bW2a : Box w2a (w2.heap.size) (.int .i64 F) (.int .i64 E) (.int .i64 C) (.slice q2 ys.length k2) := by subst hq; exact ⟨by simp, by go_simp, by go_simp, by go_simp, by go_simp⟩
    have hz2a : w2a.heap.size = w2.heap.size + 1 := by subst hq; simp
    clear hq
    have bA2a := bA2.below hb2a
    have B2a : Below w.heap.size w w2a := B2.trans (hb2a.mono B2.size)
    refine (toLine_any f0 e0 c0 a0 cap0 xs _ (h.below B2a) hx).mono ?_; rintro e w3 ⟨q3, rfl, hO3, hb3⟩
    have B3 : Below w.heap.size w w3 := B2a.trans (hb3.mono B2a.size)
    have bA3 := bA2a.below hb3
    have bW3 := bW2a.below hb3
    go_wp2_with fail
    generalize hq : World.alloc w3 _ = w3a
    have hb3a : Below w3.heap.size w3 w3a := by subst hq; exact (Below.refl _ _).alloc (Nat.le_refl _) _
    have bX3a : Box w3a (w3.heap.size) (.int .i64 f0) (.int .i64 e0) (.int .i64 c0) (.slice q3 xs.length xs.length) := by subst hq; exact ⟨by simp, by go_simp, by go_simp, by go_simp, by go_simp⟩
    have hz3a : w3a.heap.size = w3.heap.size + 1 := by subst hq; simp
    clear hq
    have bA3a := bA3.below hb3a
    have bW3a := bW3.below hb3a
    have B3a : Below w.heap.size w w3a := B3.trans (hb3a.mono B3.size)
    refine (hI _ _ _ (hO3.rd.below hb3a)).mono ?_; rintro e w4 ⟨q4, k4, rfl, hO4, hb4⟩
    have B4 : Below w.heap.size w w4 := B3a.trans (hb4.mono B3a.size)
    have bA4 := bA3a.below hb4
    have bW4 := bW3a.below hb4
    have bX4 := bX3a.below hb4
    obtain ⟨_, uW0, uW1, uW2, uW3⟩ := id bW4
    go_wp2_with fail
    generalize hq : World.alloc w4 _ = w4a
    have hb4a : Below w4.heap.size w4 w4a := by subst hq; exact (Below.refl _ _).alloc (Nat.le_refl _) _
    have bG4a : Box w4a (w4.heap.size) (.int .i64 F) (.int .i64 E) (.int .i64 C) (.slice q4 ys.length k4) := by subst hq; exact ⟨by simp, by go_simp, by go_simp, by go_simp, by go_simp⟩
    have hz4a : w4a.heap.size = w4.heap.size + 1 := by subst hq; simp
    clear hq
    have bA4a := bA4.below hb4a
    have bW4a := bW4.below hb4a
    have bX4a := bX4.below hb4a
    have B4a : Below w.heap.size w w4a := B4.trans (hb4a.mono B4.size)
    have W4 : Own w4a w1.heap.size q2 k2 ys := ((((hO2.below hb2a).below hb3).below hb3a).below hb4).below hb4a
    have X4 : Own w4a w2a.heap.size q3 xs.length xs := ((hO3.below hb3a).below hb4).below hb4a
    have G4 : Own w4a w3a.heap.size q4 k4 ys := hO4.below hb4a
    refine (eqLine_eq F E C q4 q2 k4 k2 ys _ G4.rd W4.rd hys0).mono ?_; rintro e w5 ⟨rfl, hb5⟩
    have B5 : Below w.heap.size w w5 := B4a.trans (hb5.mono B4a.size)
    have bA5 := bA4a.below hb5
    have bW5 := bW4a.below hb5
    have bX5 := bX4a.below hb5
    have bG5 := bG4a.below hb5
    have W5 := W4.below hb5
    have X5 := X4.below hb5
    have G5 := G4.below hb5
    have r2 : ∀ k, (Value.slice q2 ys.length k2).ownBlock = some k → k < w2.heap.size := fun k hk => (row_lt hO2 k hk).2
    have r3 : ∀ k, (Value.slice q3 xs.length xs.length).ownBlock = some k → w2a.heap.size ≤ k ∧ k < w3.heap.size := fun k hk => row_lt hO3 k hk
    have r4 : ∀ k, (Value.slice q4 ys.length k4).ownBlock = some k → w3a.heap.size ≤ k ∧ k < w4.heap.size := fun k hk => row_lt hO4 k hk
    have s0 : w.heap.size < w0.heap.size := bA0.1
    have s1 := hb1.size
    have s2 := hb2.size
    have s3 := hb3.size
    have s4 := hb4.size
    have RA5 : Rd w5 a0 xs := h.below B5
    clear hO1 hO2 hO3 hO4 W4 X4 G4 hb0 hb1 hb2 hb2a hb3 hb3a hb4 hb4a hb5 B0 B1 B2 B2a B3 B3a B4 B4a hS bA0 bA1 bA2 bA2a bA3 bA3a bA4 bA4a bW2a bW3 bW3a bW4 bW4a bX3a bX4 bX4a bG4a uA0 uA1 uA2 uA3
    obtain ⟨_, uA0, uA1, uA2, uA3⟩ := id bA5
    obtain ⟨_, uX0, uX1, uX2, uX3⟩ := id bX5
    have zz5 := B5.size
    have zA5 := bA5.1
    have zX5 := bX5.1
    have HB5 := Lib.hid B5
    clear B5
    go_wp2_with fail
    go_region_held3 (fun v => Below w5.heap.size w5 v ∧ v.cell? ⟨w.heap.size, 0, none⟩ = some (.int .i64 f0) ∧ v.cell? ⟨w.heap.size, 1, none⟩ = some (.int .i64 e0) ∧ v.cell? ⟨w.heap.size, 2, none⟩ = some (.int .i64 c0) ∧ v.cell? ⟨w.heap.size, 3, none⟩ = some (.slice a0 xs.length cap0) ∧ v.cell? ⟨w3.heap.size, 0, none⟩ = some (.int .i64 f0) ∧ v.cell? ⟨w3.heap.size, 1, none⟩ = some (.int .i64 e0) ∧ v.cell? ⟨w3.heap.size, 2, none⟩ = some (.int .i64 c0) ∧ v.cell? ⟨w3.heap.size, 3, none⟩ = some (.slice q3 xs.length xs.length))
      (refine ⟨?_, ?_, ?_, ?_, ?_, ?_, ?_, ?_, ?_⟩ <;> first | assumption | (go_simp; done) | ((repeat (first | assumption | exact Below.refl _ _ | refine Below.drew ?_ | refine below_drewN ?_ _ | refine Below.alloc ?_ (by first | omega | (simp; done) | (simp; omega)) _ | refine bchain ?_ (by assumption) (by first | omega | (simp; done) | (simp; omega)))); done))
      (first | (go_at_call 10; refine (toLine_any f0 e0 c0 a0 cap0 xs _ (RA5.below (by (repeat (first | assumption | exact Below.refl _ _ | refine Below.drew ?_ | refine below_drewN ?_ _ | refine Below.alloc ?_ (by first | omega | (simp; done) | (simp; omega)) _ | refine bchain ?_ (by assumption) (by first | omega | (simp; done) | (simp; omega)))))) hx).mono ?_; rintro e w6 ⟨q6, rfl, hO6, hb6⟩; have hs6 := hb6.size; (try simp only [World.size_alloc, World.size_drew] at hs6); have hcA6 := fun o => (bcell hb6).1 w.heap.size o (by first | omega | (simp; done) | (simp; omega)); have hcX6 := fun o => (bcell hb6).1 w3.heap.size o (by first | omega | (simp; done) | (simp; omega))) | (go_at_call 12; refine (eqLine_eq f0 e0 c0 _ _ _ _ xs _ (X5.rd.below (by (repeat (first | assumption | exact Below.refl _ _ | refine Below.drew ?_ | refine below_drewN ?_ _ | refine Below.alloc ?_ (by first | omega | (simp; done) | (simp; omega)) _ | refine bchain ?_ (by assumption) (by first | omega | (simp; done) | (simp; omega)))))) (hO6.rd.below (by (repeat (first | assumption | exact Below.refl _ _ | refine Below.drew ?_ | refine below_drewN ?_ _ | refine Below.alloc ?_ (by first | omega | (simp; done) | (simp; omega)) _ | refine bchain ?_ (by assumption) (by first | omega | (simp; done) | (simp; omega)))))) hx0).mono ?_; rintro e w6b ⟨rfl, hb6b⟩; have hs6b := hb6b.size; (try simp only [World.size_alloc, World.size_drew] at hs6b); have hcA6b := fun o => (bcell hb6b).1 w.heap.size o (by first | omega | (simp; done) | (simp; omega)); have hcX6b := fun o => (bcell hb6b).1 w3.heap.size o (by first | omega | (simp; done) | (simp; omega))))
    all_goals
      rename_i hSS
      have hb7 := hSS.1
      have B7 := HB5.out.trans (hb7.mono HB5.out.size)
      have bA7 := bA5.below hb7
      have bW7 := bW5.below hb7
      have bX7 := bX5.below hb7
      have bG7 := bG5.below hb7
      have W7 := W5.below hb7
      have X7 := X5.below hb7
      have G7 := G5.below hb7
      clear hcA6 hcX6 hcA6b hcX6b hb6 hb6b hO6
      clear hSS hb7 bA5 bW5 bX5 bG5 W5 X5 G5 RA5 uA0 uA1 uA2 uA3 uX0 uX1 uX2 uX3
      have hkx : ¬ (1 + (xs.length : Int) < 0) := by omega
      have hky : ¬ (1 + (ys.length : Int) < 0) := by omega
      obtain ⟨_, uX0, uX1, uX2, uX3⟩ := id bX7
      go_wp2_with fail
      refine (markLine_own f0 e0 c0 w2a.heap.size _ _ xs 1 _ X7 (by omega) (by omega)).mono ?_; rintro e w8 ⟨rfl, hM8, hg8⟩
      have B8 : Below w.heap.size w w8 := B7.grown hg8 B7.size (fun k hk => by have := (r3 k hk).1; omega)
      have bA8 := bA7.grown hg8 (fun hk => by have := r3 _ hk.symm; omega)
      have bW8 := bW7.grown hg8 (fun hk => by have := r3 _ hk.symm; omega)
      have bX8 := bX7.grown hg8 (fun hk => by have := r3 _ hk.symm; omega)
      have bG8 := bG7.grown hg8 (fun hk => by have := r3 _ hk.symm; omega)
      have W8 : Own w8 w1.heap.size q2 k2 ys := W7.grown hg8 (own_apart (fun k hk hk2 => by have := r2 k hk; have := r3 k hk2; omega))
      have G8 : Own w8 w3a.heap.size q4 k4 ys := G7.grown hg8 (own_apart (fun k hk hk2 => by have := r4 k hk; have := r3 k hk2; omega))
      clear hM8 hg8 bA7 bW7 bX7 bG7 W7 X7 G7 B7 uX0 uX1 uX2 uX3
      obtain ⟨_, uG0, uG1, uG2, uG3⟩ := id bG8
      obtain ⟨_, uW0, uW1, uW2, uW3⟩ := id bW8
      go_wp2_with fail
      refine (eqLine_eq F E C q4 q2 k4 k2 ys _ G8.rd W8.rd hys0).mono ?_; rintro e w9 ⟨rfl, hb9⟩
      have B9 : Below w.heap.size w w9 := B8.trans (hb9.mono B8.size)
      have bA9 := bA8.below hb9
      have bW9 := bW8.below hb9
      have bX9 := bX8.below hb9
      have bG9 := bG8.below hb9
      have W9 := W8.below hb9
      have G9 := G8.below hb9
      clear hb9 bA8 bW8 bX8 bG8 W8 G8 B8 uG0 uG1 uG2 uG3 uW0 uW1 uW2 uW3
      obtain ⟨_, uG0, uG1, uG2, uG3⟩ := id bG9
      go_wp2_with fail
      refine (markLine_own F E C w3a.heap.size _ _ ys 1 _ G9 (by omega) (by omega)).mono ?_; rintro e w10 ⟨rfl, hM10, hg10⟩
      have B10 : Below w.heap.size w w10 := B9.grown hg10 B9.size (fun k hk => by have := (r4 k hk).1; omega)
      have bA10 := bA9.grown hg10 (fun hk => by have := r4 _ hk.symm; omega)
      have bW10 := bW9.grown hg10 (fun hk => by have := r4 _ hk.symm; omega)
      have bX10 := bX9.grown hg10 (fun hk => by have := r4 _ hk.symm; omega)
      have bG10 := bG9.grown hg10 (fun hk => by have := r4 _ hk.symm; omega)
      have W10 : Own w10 w1.heap.size q2 k2 ys := W9.grown hg10 (own_apart (fun k hk hk2 => by have := r2 k hk; have := r4 k hk2; omega))
      have R10 : Rd w10 q4 (sq 1 ys.length) := row_rd (sq_length _ _) hM10
      clear hM10 hg10 bA9 bW9 bX9 bG9 W9 G9 B9 uG0 uG1 uG2 uG3
      obtain ⟨_, uG0, uG1, uG2, uG3⟩ := id bG10
      go_wp2_with fail
      refine (heldLine_ok F E C q4 ys.length k4 1 _ R10 (by omega) (by omega)).mono ?_; rintro e w11 ⟨rfl, hb11⟩
      have B11 : Below w.heap.size w w11 := B10.trans (hb11.mono B10.size)
      have bA11 := bA10.below hb11
      have bW11 := bW10.below hb11
      have bX11 := bX10.below hb11
      have bG11 := bG10.below hb11
      have W11 := W10.below hb11
      have R11 := R10.below hb11
      clear hb11 bA10 bW10 bX10 bG10 W10 R10 B10 uG0 uG1 uG2 uG3
      obtain ⟨_, uA0, uA1, uA2, uA3⟩ := id bA11
      go_wp2_with fail
      refine (toLine_any f0 e0 c0 a0 cap0 xs _ (h.below B11) hx).mono ?_; rintro e w12 ⟨q12, rfl, hO12, hb12⟩
      have B12 : Below w.heap.size w w12 := B11.trans (hb12.mono B11.size)
      have bA12 := bA11.below hb12
      have bW12 := bW11.below hb12
      have bX12 := bX11.below hb12
      have bG12 := bG11.below hb12
      have W12 := W11.below hb12
      have R12 := R11.below hb12
      clear hb12 bA11 bW11 bX11 bG11 W11 R11 B11 uA0 uA1 uA2 uA3
      go_wp2_with fail
      refine (hI _ _ _ hO12.rd).mono ?_; rintro e w13 ⟨q13, k13, rfl, hO13, hb13⟩
      have B13 : Below w.heap.size w w13 := B12.trans (hb13.mono B12.size)
      have bA13 := bA12.below hb13
      have bW13 := bW12.below hb13
      have bX13 := bX12.below hb13
      have bG13 := bG12.below hb13
      have W13 := W12.below hb13
      have R13 := R12.below hb13
      clear hb13 bA12 bW12 bX12 bG12 W12 R12 B12
      obtain ⟨_, uW0, uW1, uW2, uW3⟩ := id bW13
      go_wp2_with fail
      generalize hq : World.alloc w13 _ = w13a
      have hb13a : Below w13.heap.size w13 w13a := by subst hq; exact (Below.refl _ _).alloc (Nat.le_refl _) _
      have bH13a : Box w13a (w13.heap.size) (.int .i64 F) (.int .i64 E) (.int .i64 C) (.slice q13 ys.length k13) := by subst hq; exact ⟨by simp, by go_simp, by go_simp, by go_simp, by go_simp⟩
      have hz13a : w13a.heap.size = w13.heap.size + 1 := by subst hq; simp
      clear hq
      have bA13a := bA13.below hb13a
      have bW13a := bW13.below hb13a
      have bX13a := bX13.below hb13a
      have bG13a := bG13.below hb13a
      have B13a : Below w.heap.size w w13a := B13.trans (hb13a.mono B13.size)
      have W13a := W13.below hb13a
      have R13a := R13.below hb13a
      have H13a := hO13.below hb13a
      clear hb13a bA13 bW13 bX13 bG13 W13 R13 B13 hO13
      refine (eqLine_eq F E C q13 q2 k13 k2 ys _ H13a.rd W13a.rd hys0).mono ?_; rintro e w14 ⟨rfl, hb14⟩
      have B14 : Below w.heap.size w w14 := B13a.trans (hb14.mono B13a.size)
      have bA14 := bA13a.below hb14
      have bW14 := bW13a.below hb14
      have bX14 := bX13a.below hb14
      have bG14 := bG13a.below hb14
      have bH14 := bH13a.below hb14
      have R14 := R13a.below hb14
      obtain ⟨_, uG0, uG1, uG2, uG3⟩ := id bG14
      go_wp2_with fail
      refine (heldLine_ok F E C q4 ys.length k4 1 _ R14 (by omega) (by omega)).mono ?_; rintro e w15 ⟨rfl, hb15⟩
      have B15 : Below w.heap.size w w15 := B14.trans (hb15.mono B14.size)
      have bA15 := bA14.below hb15
      have bW15 := bW14.below hb15
      have bX15 := bX14.below hb15
      have bG15 := bG14.below hb15
      have bH15 := bH14.below hb15
      go_wp2_with fail
      go_ret
      exact ⟨rfl, B15⟩
set_option maxRecDepth 100000 in
theorem fnExactDropBus_lifted (os : Os) (started : os.Started) (H : Type) (enc : TypeId × Value → H) :
    ReturnsInHanded {} Try.checked os 7 .any (Rows.fnExactDropBusSpec.pre6 enc Try.prog Try.f7 Rows.fnExactDropBusRow.domain false) (Rows.fnExactDropBusSpec.post enc Try.prog Try.f7 false true false false) := by
  refine returnsInHanded_of_change (C := Try.checked) own started (by kernel_rfl) Try.func7
    (ChangeSpec.witness6 (enc := enc) (C := Try.checked) false ⟨#[], #[.agg #[.int .i64 0, .int .i64 0, .int .i64 0, .slice none 0 0], .int .i64 0], []⟩ 8 (by kernel_rfl) (by kernel_rfl) (by kernel_rfl) (by kernel_rfl)) ?_
  intro W base args ds gs before hval0 hW hcnd _
  have hval : ∀ (j : Nat) t v, Try.f7.params[j]? = some t → args[j]? = some v → Value.okWide Try.prog W .any base t v := hval0
  have hW' := hW
  obtain ⟨p, q, hA0, hV, rfl, hfz, hnd⟩ := hW
  have hA : DataW.TrodAll enc Try.prog W 0 (fun _ => true) true Try.f7.params.toList args.toList ds p := hA0
  rw [Try.params7] at hA hval
  obtain ⟨v0, vs0, d0, ds0, p0, q0, hargs, rfl, rfl, h0, r0⟩ := trodAll_cons hA
  obtain ⟨v1, vs1, d1, ds1, p1, q1, rfl, rfl, rfl, h1, r1⟩ := trodAll_cons r0
  obtain ⟨rfl, rfl, rfl⟩ := trodAll_nil r1
  obtain rfl : args = #[v0, v1] := by cases args; simp_all
  obtain ⟨rfl, rfl⟩ := trodVars_none hV
  have k0 := h0
  have lt0 : ∀ x ∈ p0, x.block < W.heap.size := by obtain ⟨m, hm⟩ := k0; exact DataW.trod_lt m _ _ _ hm
  have k1 := h1
  have lt1 : ∀ x ∈ p1, x.block < W.heap.size := by obtain ⟨m, hm⟩ := k1; exact DataW.trod_lt m _ _ _ hm
  obtain ⟨c0_0, c0_1, c0_2, c0_3, y0_0, y0_1, y0_2, y0_3, m0, rfl, rfl, rfl, hy0_0, hy0_1, hy0_2, hy0_3⟩ := open_agg4 Try.underlying24 (by kernel_rfl) cellsLine (hval 0 24 v0 rfl rfl) h0
  obtain ⟨a0_0, e0_0, rfl, x0_0⟩ := DataW.trod_int Try.underlying3 hy0_0
  obtain ⟨a0_1, e0_1, rfl, x0_1⟩ := DataW.trod_int Try.underlying3 hy0_1
  obtain ⟨a0_2, e0_2, rfl, x0_2⟩ := DataW.trod_int Try.underlying3 hy0_2
  simp at e0_0 e0_1 e0_2
  subst e0_0 e0_1 e0_2
  obtain ⟨b0, cap0, xs0, E0, R0, M0⟩ : ∃ (b : Option Addr) (cap : Nat) (xs : List Int), c0_3 = .slice b xs.length cap ∧ Rd W b xs ∧ xs.length ≤ maxLen := by
    rcases open_ints Try.underlying22 Try.underlying3 (by kernel_rfl) hy0_3 with ⟨hcs, _⟩ | ⟨x, l, c, zs, hcs, _, hl, hm, hz, _, hcell, hwz⟩
    · simp at hcs
      exact ⟨none, 0, [], by simpa using hcs, .inl rfl, by simp⟩
    · simp at hcs
      have hz' : zs.length = c := by simpa using hz
      have hlz : (zs.take l).length = l := by rw [List.length_take]; omega
      exact ⟨some x, c, zs.take l, by rw [hlz]; exact hcs, rd_of_cells (by omega) hcell, by rw [hlz]; omega⟩
  subst E0
  obtain ⟨a1, rfl, rfl, rfl, x1⟩ := open_int Try.underlying3 (hval 1 3 v1 rfl rfl) h1
  clear hA0 hval0
  refine (fnExactDropBus_walk a0_0 a0_1 a0_2 b0 cap0 xs0 a1 W x0_0 x0_1 x0_2 R0 M0 x1).mono fun e W' ⟨he, bel⟩ => ?_
  subst he
  exact ⟨_, rfl, _, _, _, [], _, [], hW', trodAll_mk1 (shut_bool Try.underlying4 _), (trodAll_cons_mk (Below.trod laidOut (by kernel_rfl) (of_decide_eq_true (by kernel_rfl)) k0 bel lt0) (trodAll_cons_mk (Below.trod laidOut (by kernel_rfl) (of_decide_eq_true (by kernel_rfl)) k1 bel lt1) trodAll_mk0)), rfl, bel.frame _, fun h => by cases h⟩
theorem fnExactDropBus_over : Rows.fnExactDropBusRow.holds Try.pinned (OpenSpec.ofChange Rows.fnExactDropBusSpec) :=
  OpenClaim.holds_of_wide 7 Try.f7 rfl rfl rfl rfl rfl rfl rfl ⟨rfl, rfl, rfl, rfl, rfl⟩ rfl rfl rfl rfl rfl (by kernel_rfl) Try.func7 (by kernel_rfl)
    (of_decide_eq_true (by kernel_rfl)) (by unfold Func.isWrapper; first | (rw [if_pos (by decide +kernel)]; kernel_rfl) | (rw [if_neg (by decide +kernel)]; exact ⟨rfl, rfl⟩))
    (fun os started H enc _ => fnExactDropBus_lifted os started H enc)
/-- The statement, as it is given. -/
theorem fnExactDropBus_holds : Rows.FnExactDropBusSaid := fnExactDropBus_over

end fnExactDropBus
end Go.Proofs.Ytjcapaoafkgkaaa
