/- The function NeedlessClues of chapter 9 answers as the model at every puzzle (every field of the answer), its answer owns its memory, it does not panic, it writes into nothing that was there before the call. Conditions: none. -/
import Derived.Test.YtnnokfecjdmjpaaRows
import Derived.Test.YtnnokfecjdmjpaaPzFn
import Derived.Test.YtnnokfecjdmjpaaPzFn2
import Derived.Test.YtnnokfecjdmjpaaPzSpec3
import Derived.Test.YtnnokfecjdmjpaaPzSpec4
import Derived.Test.YtnnokfecjdmjpaaPzSpec5
import Derived.Test.YtnnokfecjdmjpaaTriFrame
import Derived.Test.YtnnokfecjdmjpaaPzBox
import Derived.Test.YtnnokfecjdmjpaaPairsK
import Derived.Test.YtnnokfecjdmjpaaSlices
import Derived.WalkKit
import Derived.ProofKit
import Derived.OpenShut
import Derived.ShutString
import Derived.ChangeOld
import Derived.Below
import Derived.Lib.SmallJoins
namespace Go.Proofs.Ytnnokfecjdmjpaa
open Go.ChangeShapes Go.WideShapes Go.ChangeAt Go.RowKit Go.Joins
open Go.ChangeMaps (open_string shut_string)
set_option linter.unusedVariables false
set_option linter.unusedSimpArgs false
namespace fnExactNeedlessClues
theorem own : ownKnob Try.prog.godebug = none := by kernel_rfl
theorem laidOut : laidOutB Try.prog = true := by kernel_rfl
theorem cellsPuzzle : Try.prog.cellsOf 30 = 1 := by kernel_rfl
theorem ndL_len (xs : List (Int × Int × Int)) : (ndL xs).length ≤ 1000 := by
  unfold ndL; split
  · rename_i h
    have := (pzG_iff.1 h).1
    have := ndN_len xs xs.length; omega
  · simp
set_option maxHeartbeats 8000000 in
set_option maxRecDepth 100000 in
theorem fnExactNeedlessClues_walk (a0 : Option Addr) (cap0 : Nat) (xs : List (Int × Int × Int)) (w : World) (h : RdT w a0 xs) (hm : xs.length ≤ maxLen) :
    Calls Try.prog 11 #[.agg #[.slice a0 xs.length cap0]] w fun e w' => e = .returned (.bool true) ∧ Below w.heap.size w w' := by
  unfold maxLen at hm
  by_cases hbig : (1048576 : Int) < (xs.length : Int)
  · go_enter Try.func11, Try.ntmps11
    go_wp2_with fail
    have b0 : Below w.heap.size w (w.alloc (.cells #[.slice a0 xs.length cap0] 30)) := (Below.refl _ _).alloc (Nat.le_refl _) _
    refine (szPuzzle_big a0 xs.length cap0 _ (by omega) hbig).mono ?_; rintro e w0 ⟨rfl, hb0⟩
    have B0 : Below w.heap.size w w0 := b0.trans (hb0.mono (by simp))
    go_wp2_with fail
    go_ret
    exact ⟨rfl, B0⟩
  · have hx : xs.length ≤ 1048576 := by omega
    obtain ⟨L, ok, hL0, hS, hI⟩ : ∃ (L : List Int) (ok : Bool), L.length ≤ 1000 ∧ (∀ (A : Addr) (w : World), RdT w (some A) xs → Calls Try.prog 41 #[.agg #[.slice (some A) xs.length xs.length]] w (RetI9 w L ok)) ∧ (∀ (A : Addr) (w : World), RdT w (some A) xs → Calls Try.prog 42 #[.agg #[.slice (some A) xs.length xs.length]] w (RetI9 w L ok)) := ⟨_, _, ndL_len xs, fun A w h => specNeedlessClues (some A) xs.length xs w h hx (Nat.le_refl _), fun A w h => implNeedlessClues A xs.length xs w h hx (Nat.le_refl _)⟩
    have hL1 : L.length ≤ 4611686018427387904 := by omega
    have hz : ¬ (1048576 - (xs.length : Int) < 0) := by omega
    clear hbig hm
    go_enter Try.func11, Try.ntmps11
    go_wp2_with fail
    have bx0 : Below w.heap.size w (w.alloc (.cells #[.slice a0 xs.length cap0] 30)) := (Below.refl _ _).alloc (Nat.le_refl _) _
    have bAs : Box1 (w.alloc (.cells #[.slice a0 xs.length cap0] 30)) (w.heap.size) (.slice a0 xs.length cap0) := ⟨by simp, by go_simp⟩
    refine (szPuzzle_ok a0 xs.length cap0 _ hx).mono ?_; rintro e w0 ⟨rfl, hb0⟩
    have B0 : Below w.heap.size w w0 := bx0.trans (hb0.mono (by simp))
    have bA0 := bAs.below hb0
    have s0 : w.heap.size < w0.heap.size := bA0.1
    clear bAs bx0 hb0
    obtain ⟨_, uA0_1⟩ := id bA0
    go_wp2_with fail
    refine (toPuzzle_some a0 cap0 xs _ (h.below B0) hx).mono ?_; rintro e w1 ⟨A1, rfl, hO1, hb1⟩
    have s1 := hb1.size
    have B1 : Below w.heap.size w w1 := B0.trans (hb1.mono B0.size)
    have bA1 := bA0.below hb1
    clear bA0
    clear B0 hb1
    go_wp2_with fail
    refine (hS _ _ hO1.rd).mono ?_; rintro e w2 ⟨q2, k2, rfl, hO2, hb2⟩
    have s2 := hb2.size
    have B2 : Below w.heap.size w w2 := B1.trans (hb2.mono B1.size)
    have bA2 := bA1.below hb2
    clear bA1
    clear B1 hb2
    clear hO1
    have rlW : ∀ k, (Value.slice q2 L.length k2).ownBlock = some k → w1.heap.size ≤ k ∧ k < w2.heap.size := fun k hk => rowP_lt hO2 k hk
    have rW2 := hO2
    clear hO2
    obtain ⟨_, uA0_2⟩ := id bA2
    go_wp2_with fail
    refine (toPuzzle_some a0 cap0 xs _ (h.below B2) hx).mono ?_; rintro e w3 ⟨A3, rfl, hO3, hb3⟩
    have s3 := hb3.size
    have B3 : Below w.heap.size w w3 := B2.trans (hb3.mono B2.size)
    have bA3 := bA2.below hb3
    have rW3 := rW2.below hb3
    clear bA2 rW2
    clear B2 hb3
    have rlX : ∀ k, (Value.slice (some A3) xs.length xs.length).ownBlock = some k → w2.heap.size ≤ k ∧ k < w3.heap.size := fun k hk => rowP_lt hO3 k hk
    have rX3 := hO3
    clear hO3
    go_wp2_with fail
    generalize hq : World.alloc w3 _ = w3a
    have hb3a : Below w3.heap.size w3 w3a := by subst hq; exact (Below.refl _ _).alloc (Nat.le_refl _) _
    have bX3a : Box1 w3a (w3.heap.size) (.slice (some A3) xs.length xs.length) := by subst hq; exact ⟨by simp, by go_simp⟩
    have s3a : w3a.heap.size = w3.heap.size + 1 := by subst hq; simp
    clear hq
    have B3a : Below w.heap.size w w3a := B3.trans (hb3a.mono B3.size)
    have bA3a := bA3.below hb3a
    have rW3a := rW3.below hb3a
    have rX3a := rX3.below hb3a
    clear bA3 rW3 rX3
    clear B3 hb3a
    refine (hI _ _ rX3a.rd).mono ?_; rintro e w4 ⟨q4, k4, rfl, hO4, hb4⟩
    have s4 := hb4.size
    have B4 : Below w.heap.size w w4 := B3a.trans (hb4.mono B3a.size)
    have bA4 := bA3a.below hb4
    have bX4 := bX3a.below hb4
    have rW4 := rW3a.below hb4
    have rX4 := rX3a.below hb4
    clear bA3a bX3a rW3a rX3a
    clear B3a hb4
    have rlG : ∀ k, (Value.slice q4 L.length k4).ownBlock = some k → w3a.heap.size ≤ k ∧ k < w4.heap.size := fun k hk => rowP_lt hO4 k hk
    have rG4 := hO4
    clear hO4
    obtain ⟨_, uA0_3⟩ := id bA4
    obtain ⟨_, uX0_4⟩ := id bX4
    go_wp2_with fail
    refine (eqIntS_eq q4 q2 k4 k2 L _ rG4.rd rW4.rd hL1).mono ?_; rintro e w5 ⟨rfl, hb5⟩
    have s5 := hb5.size
    have B5 : Below w.heap.size w w5 := B4.trans (hb5.mono B4.size)
    have bA5 := bA4.below hb5
    have bX5 := bX4.below hb5
    have rW5 := rW4.below hb5
    have rX5 := rX4.below hb5
    have rG5 := rG4.below hb5
    clear bA4 bX4 rW4 rX4 rG4
    clear B4 hb5
    obtain ⟨_, uA0_5⟩ := id bA5
    obtain ⟨_, uX0_6⟩ := id bX5
    go_wp2_with fail
    have RA : RdT w5 a0 xs := h.below B5
    have hAl : w.heap.size < w5.heap.size := bA5.1
    have hXl : w3.heap.size < w5.heap.size := bX5.1
    obtain ⟨_, uA0_7⟩ := id bA5
    obtain ⟨_, uX0_8⟩ := id bX5
    have HB := Lib.hid B5
    clear B5
    go_region_held3 (fun v => Below w5.heap.size w5 v ∧ v.cell? ⟨w.heap.size, 0, none⟩ = some (.slice a0 xs.length cap0) ∧ v.cell? ⟨w3.heap.size, 0, none⟩ = some (.slice (some A3) xs.length xs.length))
      (refine ⟨?_, ?_, ?_⟩ <;> first | assumption | (go_simp; done) | ((repeat (first | assumption | exact Below.refl _ _ | refine Below.drew ?_ | refine below_drewN ?_ _ | refine Below.alloc ?_ (by first | omega | (simp; done) | (simp; omega)) _ | refine bchain ?_ (by assumption) (by first | omega | (simp; done) | (simp; omega)))); done))
      (first | (go_at_call 20; refine (toPuzzle_some a0 cap0 xs _ (RA.below (by (repeat (first | assumption | exact Below.refl _ _ | refine Below.drew ?_ | refine below_drewN ?_ _ | refine Below.alloc ?_ (by first | omega | (simp; done) | (simp; omega)) _ | refine bchain ?_ (by assumption) (by first | omega | (simp; done) | (simp; omega)))))) hx).mono ?_; rintro e w6 ⟨A6, rfl, hO6, hb6⟩; have hs6 := hb6.size; (try simp only [World.size_alloc, World.size_drew] at hs6); have hcA6 := fun o => (bcell hb6).1 w.heap.size o (by first | omega | (simp; done) | (simp; omega)); have hcX6 := fun o => (bcell hb6).1 w3.heap.size o (by first | omega | (simp; done) | (simp; omega))) | (go_at_call 22; refine (eqPuzzle_eq _ _ _ _ xs _ (rX5.rd.below (by (repeat (first | assumption | exact Below.refl _ _ | refine Below.drew ?_ | refine below_drewN ?_ _ | refine Below.alloc ?_ (by first | omega | (simp; done) | (simp; omega)) _ | refine bchain ?_ (by assumption) (by first | omega | (simp; done) | (simp; omega)))))) (hO6.rd.below (by (repeat (first | assumption | exact Below.refl _ _ | refine Below.drew ?_ | refine below_drewN ?_ _ | refine Below.alloc ?_ (by first | omega | (simp; done) | (simp; omega)) _ | refine bchain ?_ (by assumption) (by first | omega | (simp; done) | (simp; omega)))))) hx).mono ?_; rintro e w6b ⟨rfl, hb6b⟩; have hs6b := hb6b.size; (try simp only [World.size_alloc, World.size_drew] at hs6b); have hcA6b := fun o => (bcell hb6b).1 w.heap.size o (by first | omega | (simp; done) | (simp; omega)); have hcX6b := fun o => (bcell hb6b).1 w3.heap.size o (by first | omega | (simp; done) | (simp; omega))))
    all_goals
      rename_i hSS
      have hb7 := hSS.1
      have s7 := hb7.size
      have B7 := HB.out.trans (hb7.mono HB.out.size)
      clear hcA6 hcX6 hcA6b hcX6b hb6 hb6b hO6
      clear RA uA0_7 uX0_8
      have bA7 := bA5.below hb7
      have bX7 := bX5.below hb7
      have rW7 := rW5.below hb7
      have rX7 := rX5.below hb7
      have rG7 := rG5.below hb7
      clear bA5 bX5 rW5 rX5 rG5
      clear hSS hb7
      have hkx : ¬ (1 + 3 * (xs.length : Int) < 0) := by omega
      have hky : ¬ (1 + 3 * (L.length : Int) < 0) := by omega
      have hkz : ¬ (1 + 2 * (L.length : Int) < 0) := by omega
      have hkw : ¬ (1 + (L.length : Int) < 0) := by omega
      obtain ⟨_, uX0_9⟩ := id bX7
      go_wp2_with fail
      refine (markPuzzle_own w2.heap.size _ _ xs 1 _ rX7 (by omega) (by omega)).mono ?_; rintro e w8 ⟨rfl, hM8, hg8⟩
      have s8 := hg8.size
      have B8 : Below w.heap.size w w8 := B7.grown hg8 B7.size (fun k hk => by have := (rlX k hk).1; omega)
      have bA8 := bA7.grown hg8 (fun hk => by have := rlX _ hk.symm; omega)
      have bX8 := bX7.grown hg8 (fun hk => by have := rlX _ hk.symm; omega)
      have rW8 := rW7.apart' hg8 (own_apart (fun k hk hk2 => by have := rlW k hk; have := rlX k hk2; omega))
      have rG8 := rG7.apart' hg8 (own_apart (fun k hk hk2 => by have := rlG k hk; have := rlX k hk2; omega))
      clear bA7 bX7 rW7 rX7 rG7 B7
      clear hM8 hg8
      obtain ⟨_, uA0_10⟩ := id bA8
      obtain ⟨_, uX0_11⟩ := id bX8
      go_wp2_with fail
      refine (eqIntS_eq q4 q2 k4 k2 L _ rG8.rd rW8.rd hL1).mono ?_; rintro e w9 ⟨rfl, hb9⟩
      have s9 := hb9.size
      have B9 : Below w.heap.size w w9 := B8.trans (hb9.mono B8.size)
      have bA9 := bA8.below hb9
      have bX9 := bX8.below hb9
      have rW9 := rW8.below hb9
      have rG9 := rG8.below hb9
      clear bA8 bX8 rW8 rG8
      clear B8 hb9
      obtain ⟨_, uA0_12⟩ := id bA9
      obtain ⟨_, uX0_13⟩ := id bX9
      go_wp2_with fail
      refine (markIntS_own w3a.heap.size _ _ L 1 _ rG9 (by omega) (by omega)).mono ?_; rintro e w10 ⟨rfl, hM10, hg10⟩
      have s10 := hg10.size
      have B10 : Below w.heap.size w w10 := B9.grown hg10 B9.size (fun k hk => by have := (rlG k hk).1; omega)
      have bA10 := bA9.grown hg10 (fun hk => by have := rlG _ hk.symm; omega)
      have bX10 := bX9.grown hg10 (fun hk => by have := rlG _ hk.symm; omega)
      have rW10 := rW9.apart' hg10 (own_apart (fun k hk hk2 => by have := rlW k hk; have := rlG k hk2; omega))
      clear bA9 bX9 rW9 rG9 B9
      have rGR10 := row_rd (sq_length _ _) hM10
      clear hM10 hg10
      obtain ⟨_, uA0_14⟩ := id bA10
      obtain ⟨_, uX0_15⟩ := id bX10
      go_wp2_with fail
      refine (heldIntS_ok q4 L.length k4 1 _ rGR10 (by omega) (by omega)).mono ?_; rintro e w11 ⟨rfl, hb11⟩
      have s11 := hb11.size
      have B11 : Below w.heap.size w w11 := B10.trans (hb11.mono B10.size)
      have bA11 := bA10.below hb11
      have bX11 := bX10.below hb11
      have rW11 := rW10.below hb11
      have rGR11 := rGR10.below hb11
      clear bA10 bX10 rW10 rGR10
      clear B10 hb11
      obtain ⟨_, uA0_16⟩ := id bA11
      obtain ⟨_, uX0_17⟩ := id bX11
      go_wp2_with fail
      refine (toPuzzle_some a0 cap0 xs _ (h.below B11) hx).mono ?_; rintro e w12 ⟨A12, rfl, hO12, hb12⟩
      have s12 := hb12.size
      have B12 : Below w.heap.size w w12 := B11.trans (hb12.mono B11.size)
      have bA12 := bA11.below hb12
      have bX12 := bX11.below hb12
      have rW12 := rW11.below hb12
      have rGR12 := rGR11.below hb12
      clear bA11 bX11 rW11 rGR11
      clear B11 hb12
      obtain ⟨_, uA0_18⟩ := id bA12
      obtain ⟨_, uX0_19⟩ := id bX12
      go_wp2_with fail
      refine (hI _ _ hO12.rd).mono ?_; rintro e w13 ⟨q13, k13, rfl, hO13, hb13⟩
      have s13 := hb13.size
      have B13 : Below w.heap.size w w13 := B12.trans (hb13.mono B12.size)
      have bA13 := bA12.below hb13
      have bX13 := bX12.below hb13
      have rW13 := rW12.below hb13
      have rGR13 := rGR12.below hb13
      clear bA12 bX12 rW12 rGR12
      clear B12 hb13
      clear hO12
      have rH13 := hO13
      clear hO13
      obtain ⟨_, uA0_20⟩ := id bA13
      obtain ⟨_, uX0_21⟩ := id bX13
      go_wp2_with fail
      refine (eqIntS_eq q13 q2 k13 k2 L _ rH13.rd rW13.rd hL1).mono ?_; rintro e w14 ⟨rfl, hb14⟩
      have s14 := hb14.size
      have B14 : Below w.heap.size w w14 := B13.trans (hb14.mono B13.size)
      have bA14 := bA13.below hb14
      have bX14 := bX13.below hb14
      have rW14 := rW13.below hb14
      have rGR14 := rGR13.below hb14
      have rH14 := rH13.below hb14
      clear bA13 bX13 rW13 rGR13 rH13
      clear B13 hb14
      obtain ⟨_, uA0_22⟩ := id bA14
      obtain ⟨_, uX0_23⟩ := id bX14
      go_wp2_with fail
      refine (heldIntS_ok q4 L.length k4 1 _ rGR14 (by omega) (by omega)).mono ?_; rintro e w15 ⟨rfl, hb15⟩
      have s15 := hb15.size
      have B15 : Below w.heap.size w w15 := B14.trans (hb15.mono B14.size)
      have bA15 := bA14.below hb15
      have bX15 := bX14.below hb15
      have rW15 := rW14.below hb15
      have rGR15 := rGR14.below hb15
      have rH15 := rH14.below hb15
      clear bA14 bX14 rW14 rGR14 rH14
      clear B14 hb15
      go_wp2_with fail
      go_ret
      exact ⟨rfl, B15⟩
set_option maxRecDepth 100000 in
theorem fnExactNeedlessClues_lifted (os : Os) (started : os.Started) (H : Type) (enc : TypeId × Value → H) :
    ReturnsInHanded {} Try.checked os 11 .any (Rows.fnExactNeedlessCluesSpec.pre6 enc Try.prog Try.f11 Rows.fnExactNeedlessCluesRow.domain false) (Rows.fnExactNeedlessCluesSpec.post enc Try.prog Try.f11 false true false false) := by
  refine returnsInHanded_of_change (C := Try.checked) own started (by kernel_rfl) Try.func11
    (ChangeSpec.witness6 (enc := enc) (C := Try.checked) false ⟨#[], #[.agg #[.slice none 0 0]], []⟩ 8 (by kernel_rfl) (by kernel_rfl) (by kernel_rfl) (by kernel_rfl)) ?_
  intro W base args ds gs before hval0 hW hcnd _
  have hval : ∀ (j : Nat) t v, Try.f11.params[j]? = some t → args[j]? = some v → Value.okWide Try.prog W .any base t v := hval0
  have hW' := hW
  obtain ⟨p, q, hA0, hV, rfl, hfz, hnd⟩ := hW
  have hA : DataW.TrodAll enc Try.prog W 0 (fun _ => true) true Try.f11.params.toList args.toList ds p := hA0
  rw [Try.params11] at hA hval
  obtain ⟨v0, vs0, d0, ds0, p0, q0, hargs, rfl, rfl, h0, r0⟩ := trodAll_cons hA
  obtain ⟨rfl, rfl, rfl⟩ := trodAll_nil r0
  obtain rfl : args = #[v0] := by cases args; simp_all
  obtain ⟨rfl, rfl⟩ := trodVars_none hV
  have k0 := h0
  have lt0 : ∀ x ∈ p0, x.block < W.heap.size := by obtain ⟨m, hm⟩ := k0; exact DataW.trod_lt m _ _ _ hm
  obtain ⟨c0, y0, m0, rfl, rfl, rfl, hy0⟩ := open_agg1 Try.underlying30 rfl (by kernel_rfl) cellsPuzzle (hval 0 30 v0 rfl rfl) h0
  obtain ⟨b0, cap0, xs0, E0, R0, M0⟩ := open_triples_val Try.underlying28 Try.underlying23 (by kernel_rfl) rfl rfl rfl (by kernel_rfl) (by kernel_rfl) (by kernel_rfl) Try.underlying3 Try.underlying3 Try.underlying3 hy0
  subst E0
  clear hA0 hval0
  refine (fnExactNeedlessClues_walk b0 cap0 xs0 W R0 M0).mono fun e W' ⟨he, bel⟩ => ?_
  subst he
  exact ⟨_, rfl, _, _, _, [], _, [], hW', trodAll_mk1 (shut_bool Try.underlying4 _), (trodAll_cons_mk (Below.trod laidOut (by kernel_rfl) (of_decide_eq_true (by kernel_rfl)) k0 bel lt0) trodAll_mk0), rfl, bel.frame _, fun h => by cases h⟩
theorem fnExactNeedlessClues_over : Rows.fnExactNeedlessCluesRow.holds Try.pinned (OpenSpec.ofChange Rows.fnExactNeedlessCluesSpec) :=
  OpenClaim.holds_of_wide 11 Try.f11 rfl rfl rfl rfl rfl rfl rfl ⟨rfl, rfl, rfl, rfl, rfl⟩ rfl rfl rfl rfl rfl (by kernel_rfl) Try.func11 (by kernel_rfl)
    (of_decide_eq_true (by kernel_rfl)) (by unfold Func.isWrapper; first | (rw [if_pos (by decide +kernel)]; kernel_rfl) | (rw [if_neg (by decide +kernel)]; exact ⟨rfl, rfl⟩))
    (fun os started H enc _ => fnExactNeedlessClues_lifted os started H enc)
/-- The statement, as it is given. -/
theorem fnExactNeedlessClues_holds : Rows.FnExactNeedlessCluesSaid := fnExactNeedlessClues_over

end fnExactNeedlessClues
end Go.Proofs.Ytnnokfecjdmjpaa
