/- The function AddClue of chapter 9 answers as the model at every puzzle and every clue (every field of the answer), its answer owns its memory, it does not panic, it writes into nothing that was there before the call. Conditions: none. -/
import Derived.Test.YtnnokfecjdmjpaaRows
import Derived.Test.YtnnokfecjdmjpaaPzFn
import Derived.Test.YtnnokfecjdmjpaaPzFn2
import Derived.Test.YtnnokfecjdmjpaaPzSpec3
import Derived.Test.YtnnokfecjdmjpaaPzSpec4
import Derived.Test.YtnnokfecjdmjpaaPzSpec5
import Derived.Test.YtnnokfecjdmjpaaUni
import Derived.Test.YtnnokfecjdmjpaaTriFrame
import Derived.Test.YtnnokfecjdmjpaaPzBox
import Derived.Test.YtnnokfecjdmjpaaPairsK
import Derived.Test.YtnnokfecjdmjpaaSlices
import Derived.WalkKit
import Derived.ProofKit
import Derived.OpenShut
import Derived.ShutString
import Derived.ChangeOld
import Derived.Below
import Derived.Deep.RegionHeld3
import Derived.Lib.SmallJoins
namespace Go.Proofs.Ytnnokfecjdmjpaa
open Go.ChangeShapes Go.WideShapes Go.ChangeAt Go.RowKit Go.Joins
open Go.ChangeMaps (open_string shut_string)
set_option linter.unusedVariables false
set_option linter.unusedSimpArgs false
namespace fnExactAddClue
theorem own : ownKnob Try.prog.godebug = none := by kernel_rfl
theorem laidOut : laidOutB Try.prog = true := by kernel_rfl
theorem cellsPuzzle : Try.prog.cellsOf 30 = 1 := by kernel_rfl
theorem cells23 : Try.prog.cellsOf 23 = 3 := by kernel_rfl
theorem adL_len (xs : List (Int × Int × Int)) (k a b : Int) : (adL xs k a b).length ≤ 1000 := by
  unfold adL; split
  · rename_i h
    unfold adB at h
    rw [Bool.and_eq_true, Bool.and_eq_true] at h
    have h6 := (pzG_iff.1 h.1.1).1
    simp; omega
  · simp
set_option maxHeartbeats 16000000 in
set_option maxRecDepth 100000 in
theorem fnExactAddClue_walk (a0 : Option Addr) (cap0 : Nat) (xs : List (Int × Int × Int)) (k x y : Int) (w : World) (h : RdT w a0 xs) (hm : xs.length ≤ maxLen) (_ : (Lit.int .i64 k).wf = true) (_ : (Lit.int .i64 x).wf = true) (_ : (Lit.int .i64 y).wf = true) :
    Calls Try.prog 13 #[.agg #[.slice a0 xs.length cap0], .agg #[.int .i64 k, .int .i64 x, .int .i64 y]] w fun e w' => e = .returned (.bool true) ∧ Below w.heap.size w w' := by
  unfold maxLen at hm
  by_cases hbig : (1048576 : Int) < (xs.length : Int)
  · go_enter Try.func13, Try.ntmps13
    go_wp2_with fail
    have b0 : Below w.heap.size w ((w.alloc (.cells #[.slice a0 xs.length cap0] 30)).alloc (.cells #[.int .i64 k, .int .i64 x, .int .i64 y] 23)) := by (repeat (first | assumption | exact Below.refl _ _ | refine Below.drew ?_ | refine below_drewN ?_ _ | refine Below.setCell ?_ (by first | omega | (simp; done) | (simp; omega)) _ | refine Below.alloc ?_ (by first | omega | (simp; done) | (simp; omega)) _ | refine bchain ?_ (by assumption) (by first | omega | (simp; done) | (simp; omega))))
    refine (szPuzzle_big a0 xs.length cap0 _ (by omega) hbig).mono ?_; rintro e w0 ⟨rfl, hb0⟩
    have B0 : Below w.heap.size w w0 := b0.trans (hb0.mono (by simp; omega))
    go_wp2_with fail
    go_ret
    exact ⟨rfl, B0⟩
  · have hx : xs.length ≤ 1048576 := by omega
    obtain ⟨L, ok, hL0, hS, hI⟩ : ∃ (L : List (Int × Int × Int)) (ok : Bool), L.length ≤ 1000 ∧ (∀ (A : Addr) (w : World), RdT w (some A) xs → Calls Try.prog 49 #[.agg #[.slice (some A) xs.length xs.length], .agg #[.int .i64 k, .int .i64 x, .int .i64 y]] w (RetP9 w L ok)) ∧ (∀ (A : Addr) (w : World), RdT w (some A) xs → Calls Try.prog 50 #[.agg #[.slice (some A) xs.length xs.length], .agg #[.int .i64 k, .int .i64 x, .int .i64 y]] w (RetP9 w L ok)) := ⟨_, _, adL_len xs k x y, fun A w h => specAddClue A xs.length xs k x y w h hx (Nat.le_refl _), fun A w h => implAddClue A xs.length xs k x y w h hx (Nat.le_refl _)⟩
    have hL1 : L.length ≤ 1048576 := by omega
    have hz : ¬ (1048576 - (xs.length : Int) < 0) := by omega
    clear hbig hm
    go_enter Try.func13, Try.ntmps13
    go_wp2_with fail
    have bx0 : Below w.heap.size w ((w.alloc (.cells #[.slice a0 xs.length cap0] 30)).alloc (.cells #[.int .i64 k, .int .i64 x, .int .i64 y] 23)) := by (repeat (first | assumption | exact Below.refl _ _ | refine Below.drew ?_ | refine below_drewN ?_ _ | refine Below.setCell ?_ (by first | omega | (simp; done) | (simp; omega)) _ | refine Below.alloc ?_ (by first | omega | (simp; done) | (simp; omega)) _ | refine bchain ?_ (by assumption) (by first | omega | (simp; done) | (simp; omega))))
    have bAs : Box1 ((w.alloc (.cells #[.slice a0 xs.length cap0] 30)).alloc (.cells #[.int .i64 k, .int .i64 x, .int .i64 y] 23)) (w.heap.size) (.slice a0 xs.length cap0) := ⟨by simp; omega, by go_simp⟩
    have bCs : Box3 ((w.alloc (.cells #[.slice a0 xs.length cap0] 30)).alloc (.cells #[.int .i64 k, .int .i64 x, .int .i64 y] 23)) (w.heap.size + 1) (.int .i64 k) (.int .i64 x) (.int .i64 y) := ⟨by simp, by go_simp, by go_simp, by go_simp⟩
    refine (szPuzzle_ok a0 xs.length cap0 _ hx).mono ?_; rintro e w0 ⟨rfl, hb0⟩
    have B0 : Below w.heap.size w w0 := bx0.trans (hb0.mono (by simp; omega))
    have bA0 := bAs.below hb0
    have bC0 := bCs.below hb0
    have s0 : w.heap.size + 1 < w0.heap.size := bC0.1
    clear bAs bCs bx0 hb0
    obtain ⟨_, uA0_1⟩ := id bA0
    obtain ⟨_, uC0_2, uC1_2, uC2_2⟩ := id bC0
    go_wp2_with fail
    have RA2 : RdT w0 a0 xs := h.below B0
    obtain ⟨_, uA0_3⟩ := id bA0
    obtain ⟨_, uC0_4, uC1_4, uC2_4⟩ := id bC0
    refine wp_uni [22, 23, 24, 25, 26, 21, 27, 28, 6, 7] (fun vs X => ∃ (p : Nat) (q : Option Addr) (c : Nat) (v0 v1 v2 v3 v4 v5 v6 v7 : Value), vs = [v0, v1, v2, v3, v4, v5, v6, v7, .pointer (some ⟨p, 0, none⟩), .bool ok] ∧ Below w0.heap.size w0 X ∧ w0.heap.size ≤ p ∧ p < X.heap.size ∧ X.cell? ⟨p, 0, none⟩ = some (.slice q L.length c) ∧ OwnC X w0.heap.size q c L ∧ ∀ k, (Value.slice q L.length c).ownBlock = some k → k ≠ p) ?_ ?_
    · go_region_held3 (fun v => Below w0.heap.size w0 v ∧ w0.heap.size ≤ v.heap.size ∧ w.heap.size < v.heap.size ∧ w.heap.size + 1 < v.heap.size ∧ v.cell? ⟨w.heap.size, 0, none⟩ = some (.slice a0 xs.length cap0) ∧ v.cell? ⟨w.heap.size + 1, 0, none⟩ = some (.int .i64 k) ∧ v.cell? ⟨w.heap.size + 1, 1, none⟩ = some (.int .i64 x) ∧ v.cell? ⟨w.heap.size + 1, 2, none⟩ = some (.int .i64 y))
        (refine ⟨?_, ?_, ?_, ?_, ?_, ?_, ?_, ?_⟩ <;> first | assumption | exact Nat.le_refl _ | omega | (simp; done) | (simp; omega) | (go_simp; done) | ((repeat (first | assumption | (apply And.left; assumption) | exact Below.refl _ _ | refine Below.drew ?_ | refine below_drewN ?_ _ | refine Below.setCell ?_ (by first | omega | (simp; done) | (simp; omega)) _ | refine Below.alloc ?_ (by first | omega | (simp; done) | (simp; omega)) _ | refine bchain ?_ (by assumption) (by first | omega | (simp; done) | (simp; omega)))); done))
        (first | (go_at_call 20; refine (toPuzzle_some a0 cap0 xs _ (RA2.below (by (repeat (first | assumption | exact Below.refl _ _ | refine Below.drew ?_ | refine below_drewN ?_ _ | refine Below.setCell ?_ (by first | omega | (simp; done) | (simp; omega)) _ | refine Below.alloc ?_ (by first | omega | (simp; done) | (simp; omega)) _ | refine bchain ?_ (by assumption) (by first | omega | (simp; done) | (simp; omega)))))) hx).mono ?_; rintro e x1 ⟨A1, rfl, hO1, hb1⟩; have hs1 := hb1.size; (try simp only [World.size_alloc, World.size_drew, World.size_setCell] at hs1); (first | (have hl1 := Nat.lt_of_succ_le hs1) | skip); have hall1 := (bcell hb1).1; have hfall1 := (bcell hb1).2; have BB1 : Below w0.heap.size w0 x1 := bchain (by (repeat (first | assumption | (apply And.left; assumption) | exact Below.refl _ _ | refine Below.drew ?_ | refine below_drewN ?_ _ | refine Below.setCell ?_ (by first | omega | (simp; done) | (simp; omega)) _ | refine Below.alloc ?_ (by first | omega | (simp; done) | (simp; omega)) _ | refine bchain ?_ (by assumption) (by first | omega | (simp; done) | (simp; omega))))) hb1 (by first | exact Nat.le_refl _ | omega | (simp; done) | (simp; omega)); have hq1 := BB1.size; have ff1A0 := ((bcell BB1).1 _ 0 bA0.1).trans uA0_3; have gg1A := Nat.lt_of_lt_of_le bA0.1 BB1.size; have ff1C0 := ((bcell BB1).1 _ 0 bC0.1).trans uC0_4; have ff1C1 := ((bcell BB1).1 _ 1 bC0.1).trans uC1_4; have ff1C2 := ((bcell BB1).1 _ 2 bC0.1).trans uC2_4; have gg1C := Nat.lt_of_lt_of_le bC0.1 BB1.size) | (go_at_call 16; refine (toClue_any _ _ _ _).mono ?_; rintro e x2 ⟨rfl, hb2⟩; have hR2 := (hO1.rd).below (w' := x2) (by (repeat (first | assumption | exact Below.refl _ _ | refine Below.drew ?_ | refine below_drewN ?_ _ | refine Below.setCell ?_ (by first | omega | (simp; done) | (simp; omega)) _ | refine Below.alloc ?_ (by first | omega | (simp; done) | (simp; omega)) _ | refine bchain ?_ (by assumption) (by first | omega | (simp; done) | (simp; omega))))); have hs2 := hb2.size; (try simp only [World.size_alloc, World.size_drew, World.size_setCell] at hs2); (first | (have hl2 := Nat.lt_of_succ_le hs2) | skip); have hall2 := (bcell hb2).1; have hfall2 := (bcell hb2).2; have BB2 : Below w0.heap.size w0 x2 := bchain (by (repeat (first | assumption | (apply And.left; assumption) | exact Below.refl _ _ | refine Below.drew ?_ | refine below_drewN ?_ _ | refine Below.setCell ?_ (by first | omega | (simp; done) | (simp; omega)) _ | refine Below.alloc ?_ (by first | omega | (simp; done) | (simp; omega)) _ | refine bchain ?_ (by assumption) (by first | omega | (simp; done) | (simp; omega))))) hb2 (by first | exact Nat.le_refl _ | omega | (simp; done) | (simp; omega)); have hq2 := BB2.size; have ff2A0 := ((bcell BB2).1 _ 0 bA0.1).trans uA0_3; have gg2A := Nat.lt_of_lt_of_le bA0.1 BB2.size; have ff2C0 := ((bcell BB2).1 _ 0 bC0.1).trans uC0_4; have ff2C1 := ((bcell BB2).1 _ 1 bC0.1).trans uC1_4; have ff2C2 := ((bcell BB2).1 _ 2 bC0.1).trans uC2_4; have gg2C := Nat.lt_of_lt_of_le bC0.1 BB2.size; (first | (have hm2 := Nat.lt_of_lt_of_le hl1 hs2) | skip)) | (go_at_call 49; refine (hS _ _ (hR2.below (by (repeat (first | assumption | exact Below.refl _ _ | refine Below.drew ?_ | refine below_drewN ?_ _ | refine Below.setCell ?_ (by first | omega | (simp; done) | (simp; omega)) _ | refine Below.alloc ?_ (by first | omega | (simp; done) | (simp; omega)) _ | refine bchain ?_ (by assumption) (by first | omega | (simp; done) | (simp; omega))))))).mono ?_; rintro e x3 ⟨q3, k3, rfl, hO3, hb3⟩; have hO3' := (show OwnC x3 w0.heap.size q3 k3 L from row_low hO3 (by first | omega | (simp; done) | (simp; omega))); have hlt3 : ∀ k, (Value.slice q3 L.length k3).ownBlock = some k → w0.heap.size ≤ k ∧ k < x3.heap.size := (fun k hk => rowP_lt hO3' k hk); have hge3 := (fun k hk => (rowP_lt hO3 k hk).1); (try simp only [World.size_alloc, World.size_drew] at hge3); have hs3 := hb3.size; (try simp only [World.size_alloc, World.size_drew, World.size_setCell] at hs3); (first | (have hl3 := Nat.lt_of_succ_le hs3) | skip); have hall3 := (bcell hb3).1; have hfall3 := (bcell hb3).2; have BB3 : Below w0.heap.size w0 x3 := bchain (by (repeat (first | assumption | (apply And.left; assumption) | exact Below.refl _ _ | refine Below.drew ?_ | refine below_drewN ?_ _ | refine Below.setCell ?_ (by first | omega | (simp; done) | (simp; omega)) _ | refine Below.alloc ?_ (by first | omega | (simp; done) | (simp; omega)) _ | refine bchain ?_ (by assumption) (by first | omega | (simp; done) | (simp; omega))))) hb3 (by first | exact Nat.le_refl _ | omega | (simp; done) | (simp; omega)); have hq3 := BB3.size; have ff3A0 := ((bcell BB3).1 _ 0 bA0.1).trans uA0_3; have gg3A := Nat.lt_of_lt_of_le bA0.1 BB3.size; have ff3C0 := ((bcell BB3).1 _ 0 bC0.1).trans uC0_4; have ff3C1 := ((bcell BB3).1 _ 1 bC0.1).trans uC1_4; have ff3C2 := ((bcell BB3).1 _ 2 bC0.1).trans uC2_4; have gg3C := Nat.lt_of_lt_of_le bC0.1 BB3.size))
      all_goals (rename_i hHeld; refine' ⟨rfl, [_, _, _, _, _, _, _, _, _, _], ?_, ?_⟩; rotate_left 10; (simp only [List.zip_cons_cons, List.zip_nil_left, putsU, Act.put, List.setIfInBounds_toArray, List.set_cons_zero, List.set_cons_succ]; first | done | rfl); exact ⟨_, q3, k3, _, _, _, _, _, _, _, _, rfl, hHeld.1, (by first | omega | (simp; done) | (simp; omega)), (by first | omega | (simp; done) | (simp; omega)), (by go_simp), (by first | exact hO3' | exact row_low (row_setLow hO3 _ _ (by first | omega | (simp; done) | (simp; omega))) (by first | omega | (simp; done) | (simp; omega)) | exact row_setLow hO3' _ _ (by first | omega | (simp; done) | (simp; omega)) | exact hO3'.below (by (repeat (first | assumption | exact Below.refl _ _ | refine Below.drew ?_ | refine below_drewN ?_ _ | refine Below.setCell ?_ (by first | omega | (simp; done) | (simp; omega)) _ | refine Below.alloc ?_ (by first | omega | (simp; done) | (simp; omega)) _ | refine bchain ?_ (by assumption) (by first | omega | (simp; done) | (simp; omega)))))), (fun k hk => by have := hge3 k hk; have := hlt3 k hk; omega)⟩)
    · rintro vs w2 ⟨pW, q2, k2, y2_0, y2_1, y2_2, y2_3, y2_4, y2_5, y2_6, y2_7, rfl, hb2, hpW, hplW, hpcW, hO2, hneW⟩
      simp only [List.zip_cons_cons, List.zip_nil_left, putsU, Act.put, List.setIfInBounds_toArray, List.set_cons_zero, List.set_cons_succ]
      have s2 := hb2.size
      have B2 : Below w.heap.size w w2 := B0.trans (hb2.mono B0.size)
      have bA2 := bA0.below hb2
      have bC2 := bC0.below hb2
      clear bA0 bC0
      clear B0 hb2 RA2
      have rlW : ∀ k, (Value.slice q2 L.length k2).ownBlock = some k → w0.heap.size ≤ k ∧ k < w2.heap.size := fun k hk => rowP_lt hO2 k hk
      have rW2 := hO2
      clear hO2
      have bW2 : Box1 w2 pW (.slice q2 L.length k2) := ⟨hplW, hpcW⟩
      clear hpcW
      obtain ⟨_, uA0_5⟩ := id bA2
      obtain ⟨_, uC0_6, uC1_6, uC2_6⟩ := id bC2
      obtain ⟨_, uW0_7⟩ := id bW2
      go_wp2_with fail
      refine (toPuzzle_some a0 cap0 xs _ (h.below B2) hx).mono ?_; rintro e w3 ⟨A3, rfl, hO3, hb3⟩
      have s3 := hb3.size
      have B3 : Below w.heap.size w w3 := B2.trans (hb3.mono B2.size)
      have bA3 := bA2.below hb3
      have bC3 := bC2.below hb3
      have bW3 := bW2.below hb3
      have rW3 := rW2.below hb3
      clear bA2 bC2 bW2 rW2
      clear B2 hb3
      have rlX : ∀ k, (Value.slice (some A3) xs.length xs.length).ownBlock = some k → w2.heap.size ≤ k ∧ k < w3.heap.size := fun k hk => rowP_lt hO3 k hk
      have rX3 := hO3
      clear hO3
      go_wp2_with fail
      generalize hq : World.alloc w3 _ = w3a
      have hb3a : Below w3.heap.size w3 w3a := by subst hq; exact (Below.refl _ _).alloc (Nat.le_refl _) _
      have bX3a : Box1 w3a (w3.heap.size) (.slice (some A3) xs.length xs.length) := by subst hq; exact ⟨by simp, by go_simp⟩
      have s3a : w3.heap.size < w3a.heap.size := by subst hq; simp
      clear hq
      have B3a : Below w.heap.size w w3a := B3.trans (hb3a.mono B3.size)
      have bA3a := bA3.below hb3a
      have bC3a := bC3.below hb3a
      have bW3a := bW3.below hb3a
      have rW3a := rW3.below hb3a
      have rX3a := rX3.below hb3a
      clear bA3 bC3 bW3 rW3 rX3
      clear B3 hb3a
      obtain ⟨_, uA0_8⟩ := id bA3a
      obtain ⟨_, uC0_9, uC1_9, uC2_9⟩ := id bC3a
      obtain ⟨_, uW0_10⟩ := id bW3a
      obtain ⟨_, uX0_11⟩ := id bX3a
      go_wp2_with fail
      have RA4 : RdT w3a a0 xs := h.below B3a
      obtain ⟨_, uA0_12⟩ := id bA3a
      obtain ⟨_, uC0_13, uC1_13, uC2_13⟩ := id bC3a
      obtain ⟨_, uW0_14⟩ := id bW3a
      obtain ⟨_, uX0_15⟩ := id bX3a
      refine wp_uni [32, 33, 34, 35, 31, 36, 37, 9, 10] (fun vs X => ∃ (p : Nat) (q : Option Addr) (c : Nat) (v0 v1 v2 v3 v4 v5 v6 : Value), vs = [v0, v1, v2, v3, v4, v5, v6, .pointer (some ⟨p, 0, none⟩), .bool ok] ∧ Below w3a.heap.size w3a X ∧ w3a.heap.size ≤ p ∧ p < X.heap.size ∧ X.cell? ⟨p, 0, none⟩ = some (.slice q L.length c) ∧ OwnC X w3a.heap.size q c L ∧ ∀ k, (Value.slice q L.length c).ownBlock = some k → k ≠ p) ?_ ?_
      · go_region_held3 (fun v => Below w3a.heap.size w3a v ∧ w3a.heap.size ≤ v.heap.size ∧ w.heap.size < v.heap.size ∧ w.heap.size + 1 < v.heap.size ∧ w3.heap.size < v.heap.size ∧ v.cell? ⟨w.heap.size, 0, none⟩ = some (.slice a0 xs.length cap0) ∧ v.cell? ⟨w.heap.size + 1, 0, none⟩ = some (.int .i64 k) ∧ v.cell? ⟨w.heap.size + 1, 1, none⟩ = some (.int .i64 x) ∧ v.cell? ⟨w.heap.size + 1, 2, none⟩ = some (.int .i64 y) ∧ v.cell? ⟨w3.heap.size, 0, none⟩ = some (.slice (some A3) xs.length xs.length))
          (refine ⟨?_, ?_, ?_, ?_, ?_, ?_, ?_, ?_, ?_, ?_⟩ <;> first | assumption | exact Nat.le_refl _ | omega | (simp; done) | (simp; omega) | (go_simp; done) | ((repeat (first | assumption | (apply And.left; assumption) | exact Below.refl _ _ | refine Below.drew ?_ | refine below_drewN ?_ _ | refine Below.setCell ?_ (by first | omega | (simp; done) | (simp; omega)) _ | refine Below.alloc ?_ (by first | omega | (simp; done) | (simp; omega)) _ | refine bchain ?_ (by assumption) (by first | omega | (simp; done) | (simp; omega)))); done))
          (first | (go_at_call 16; refine (toClue_any _ _ _ _).mono ?_; rintro e x2 ⟨rfl, hb2⟩; have hR2 := (rX3a.rd).below (w' := x2) (by (repeat (first | assumption | exact Below.refl _ _ | refine Below.drew ?_ | refine below_drewN ?_ _ | refine Below.setCell ?_ (by first | omega | (simp; done) | (simp; omega)) _ | refine Below.alloc ?_ (by first | omega | (simp; done) | (simp; omega)) _ | refine bchain ?_ (by assumption) (by first | omega | (simp; done) | (simp; omega))))); have hs2 := hb2.size; (try simp only [World.size_alloc, World.size_drew, World.size_setCell] at hs2); (first | (have hl2 := Nat.lt_of_succ_le hs2) | skip); have hall2 := (bcell hb2).1; have hfall2 := (bcell hb2).2; have BB2 : Below w3a.heap.size w3a x2 := bchain (by (repeat (first | assumption | (apply And.left; assumption) | exact Below.refl _ _ | refine Below.drew ?_ | refine below_drewN ?_ _ | refine Below.setCell ?_ (by first | omega | (simp; done) | (simp; omega)) _ | refine Below.alloc ?_ (by first | omega | (simp; done) | (simp; omega)) _ | refine bchain ?_ (by assumption) (by first | omega | (simp; done) | (simp; omega))))) hb2 (by first | exact Nat.le_refl _ | omega | (simp; done) | (simp; omega)); have hq2 := BB2.size; have ff2A0 := ((bcell BB2).1 _ 0 bA3a.1).trans uA0_12; have gg2A := Nat.lt_of_lt_of_le bA3a.1 BB2.size; have ff2C0 := ((bcell BB2).1 _ 0 bC3a.1).trans uC0_13; have ff2C1 := ((bcell BB2).1 _ 1 bC3a.1).trans uC1_13; have ff2C2 := ((bcell BB2).1 _ 2 bC3a.1).trans uC2_13; have gg2C := Nat.lt_of_lt_of_le bC3a.1 BB2.size; have ff2X0 := ((bcell BB2).1 _ 0 bX3a.1).trans uX0_15; have gg2X := Nat.lt_of_lt_of_le bX3a.1 BB2.size; (first | (have hm2 := Nat.lt_of_lt_of_le hl1 hs2) | skip)) | (go_at_call 50; refine (hI _ _ (hR2.below (by (repeat (first | assumption | exact Below.refl _ _ | refine Below.drew ?_ | refine below_drewN ?_ _ | refine Below.setCell ?_ (by first | omega | (simp; done) | (simp; omega)) _ | refine Below.alloc ?_ (by first | omega | (simp; done) | (simp; omega)) _ | refine bchain ?_ (by assumption) (by first | omega | (simp; done) | (simp; omega))))))).mono ?_; rintro e x3 ⟨q3, k3, rfl, hO3, hb3⟩; have hO3' := (show OwnC x3 w3a.heap.size q3 k3 L from row_low hO3 (by first | omega | (simp; done) | (simp; omega))); have hlt3 : ∀ k, (Value.slice q3 L.length k3).ownBlock = some k → w3a.heap.size ≤ k ∧ k < x3.heap.size := (fun k hk => rowP_lt hO3' k hk); have hge3 := (fun k hk => (rowP_lt hO3 k hk).1); (try simp only [World.size_alloc, World.size_drew] at hge3); have hs3 := hb3.size; (try simp only [World.size_alloc, World.size_drew, World.size_setCell] at hs3); (first | (have hl3 := Nat.lt_of_succ_le hs3) | skip); have hall3 := (bcell hb3).1; have hfall3 := (bcell hb3).2; have BB3 : Below w3a.heap.size w3a x3 := bchain (by (repeat (first | assumption | (apply And.left; assumption) | exact Below.refl _ _ | refine Below.drew ?_ | refine below_drewN ?_ _ | refine Below.setCell ?_ (by first | omega | (simp; done) | (simp; omega)) _ | refine Below.alloc ?_ (by first | omega | (simp; done) | (simp; omega)) _ | refine bchain ?_ (by assumption) (by first | omega | (simp; done) | (simp; omega))))) hb3 (by first | exact Nat.le_refl _ | omega | (simp; done) | (simp; omega)); have hq3 := BB3.size; have ff3A0 := ((bcell BB3).1 _ 0 bA3a.1).trans uA0_12; have gg3A := Nat.lt_of_lt_of_le bA3a.1 BB3.size; have ff3C0 := ((bcell BB3).1 _ 0 bC3a.1).trans uC0_13; have ff3C1 := ((bcell BB3).1 _ 1 bC3a.1).trans uC1_13; have ff3C2 := ((bcell BB3).1 _ 2 bC3a.1).trans uC2_13; have gg3C := Nat.lt_of_lt_of_le bC3a.1 BB3.size; have ff3X0 := ((bcell BB3).1 _ 0 bX3a.1).trans uX0_15; have gg3X := Nat.lt_of_lt_of_le bX3a.1 BB3.size))
        all_goals (rename_i hHeld; refine' ⟨rfl, [_, _, _, _, _, _, _, _, _], ?_, ?_⟩; rotate_left 9; (simp only [List.zip_cons_cons, List.zip_nil_left, putsU, Act.put, List.setIfInBounds_toArray, List.set_cons_zero, List.set_cons_succ]; first | done | rfl); exact ⟨_, q3, k3, _, _, _, _, _, _, _, rfl, hHeld.1, (by first | omega | (simp; done) | (simp; omega)), (by first | omega | (simp; done) | (simp; omega)), (by go_simp), (by first | exact hO3' | exact row_low (row_setLow hO3 _ _ (by first | omega | (simp; done) | (simp; omega))) (by first | omega | (simp; done) | (simp; omega)) | exact row_setLow hO3' _ _ (by first | omega | (simp; done) | (simp; omega)) | exact hO3'.below (by (repeat (first | assumption | exact Below.refl _ _ | refine Below.drew ?_ | refine below_drewN ?_ _ | refine Below.setCell ?_ (by first | omega | (simp; done) | (simp; omega)) _ | refine Below.alloc ?_ (by first | omega | (simp; done) | (simp; omega)) _ | refine bchain ?_ (by assumption) (by first | omega | (simp; done) | (simp; omega)))))), (fun k hk => by have := hge3 k hk; have := hlt3 k hk; omega)⟩)
      · rintro vs w4 ⟨pG, q4, k4, y4_0, y4_1, y4_2, y4_3, y4_4, y4_5, y4_6, rfl, hb4, hpG, hplG, hpcG, hO4, hneG⟩
        simp only [List.zip_cons_cons, List.zip_nil_left, putsU, Act.put, List.setIfInBounds_toArray, List.set_cons_zero, List.set_cons_succ]
        have s4 := hb4.size
        have B4 : Below w.heap.size w w4 := B3a.trans (hb4.mono B3a.size)
        have bA4 := bA3a.below hb4
        have bC4 := bC3a.below hb4
        have bW4 := bW3a.below hb4
        have bX4 := bX3a.below hb4
        have rW4 := rW3a.below hb4
        have rX4 := rX3a.below hb4
        clear bA3a bC3a bW3a bX3a rW3a rX3a
        clear B3a hb4 RA4
        have rlG : ∀ k, (Value.slice q4 L.length k4).ownBlock = some k → w3a.heap.size ≤ k ∧ k < w4.heap.size := fun k hk => rowP_lt hO4 k hk
        have rG4 := hO4
        clear hO4
        have bG4 : Box1 w4 pG (.slice q4 L.length k4) := ⟨hplG, hpcG⟩
        clear hpcG
        obtain ⟨_, uA0_16⟩ := id bA4
        obtain ⟨_, uC0_17, uC1_17, uC2_17⟩ := id bC4
        obtain ⟨_, uW0_18⟩ := id bW4
        obtain ⟨_, uX0_19⟩ := id bX4
        obtain ⟨_, uG0_20⟩ := id bG4
        go_wp2_with fail
        refine (eqPuzzle_eq q4 q2 k4 k2 L _ rG4.rd rW4.rd hL1).mono ?_; rintro e w5 ⟨rfl, hb5⟩
        have s5 := hb5.size
        have B5 : Below w.heap.size w w5 := B4.trans (hb5.mono B4.size)
        have bA5 := bA4.below hb5
        have bC5 := bC4.below hb5
        have bW5 := bW4.below hb5
        have bX5 := bX4.below hb5
        have bG5 := bG4.below hb5
        have rW5 := rW4.below hb5
        have rX5 := rX4.below hb5
        have rG5 := rG4.below hb5
        clear bA4 bC4 bW4 bX4 bG4 rW4 rX4 rG4
        clear B4 hb5
        obtain ⟨_, uA0_21⟩ := id bA5
        obtain ⟨_, uC0_22, uC1_22, uC2_22⟩ := id bC5
        obtain ⟨_, uW0_23⟩ := id bW5
        obtain ⟨_, uX0_24⟩ := id bX5
        obtain ⟨_, uG0_25⟩ := id bG5
        go_wp2_with fail
        have RA : RdT w5 a0 xs := h.below B5
        have hAl : w.heap.size < w5.heap.size := bA5.1
        have hXl : w3.heap.size < w5.heap.size := bX5.1
        obtain ⟨_, uA0_26⟩ := id bA5
        obtain ⟨_, uX0_27⟩ := id bX5
        have HB := Lib.hid B5
        clear B5
        go_region_held3 (fun v => Below w5.heap.size w5 v ∧ v.cell? ⟨w.heap.size, 0, none⟩ = some (.slice a0 xs.length cap0) ∧ v.cell? ⟨w3.heap.size, 0, none⟩ = some (.slice (some A3) xs.length xs.length))
          (refine ⟨?_, ?_, ?_⟩ <;> first | assumption | (go_simp; done) | ((repeat (first | assumption | exact Below.refl _ _ | refine Below.drew ?_ | refine below_drewN ?_ _ | refine Below.setCell ?_ (by first | omega | (simp; done) | (simp; omega)) _ | refine Below.alloc ?_ (by first | omega | (simp; done) | (simp; omega)) _ | refine bchain ?_ (by assumption) (by first | omega | (simp; done) | (simp; omega)))); done))
          (first | (go_at_call 20; refine (toPuzzle_some a0 cap0 xs _ (RA.below (by (repeat (first | assumption | exact Below.refl _ _ | refine Below.drew ?_ | refine below_drewN ?_ _ | refine Below.setCell ?_ (by first | omega | (simp; done) | (simp; omega)) _ | refine Below.alloc ?_ (by first | omega | (simp; done) | (simp; omega)) _ | refine bchain ?_ (by assumption) (by first | omega | (simp; done) | (simp; omega)))))) hx).mono ?_; rintro e w6 ⟨A6, rfl, hO6, hb6⟩; have hs6 := hb6.size; (try simp only [World.size_alloc, World.size_drew] at hs6); have hcA6 := fun o => (bcell hb6).1 w.heap.size o (by first | omega | (simp; done) | (simp; omega)); have hcX6 := fun o => (bcell hb6).1 w3.heap.size o (by first | omega | (simp; done) | (simp; omega))) | (go_at_call 22; refine (eqPuzzle_eq _ _ _ _ xs _ (rX5.rd.below (by (repeat (first | assumption | exact Below.refl _ _ | refine Below.drew ?_ | refine below_drewN ?_ _ | refine Below.setCell ?_ (by first | omega | (simp; done) | (simp; omega)) _ | refine Below.alloc ?_ (by first | omega | (simp; done) | (simp; omega)) _ | refine bchain ?_ (by assumption) (by first | omega | (simp; done) | (simp; omega)))))) (hO6.rd.below (by (repeat (first | assumption | exact Below.refl _ _ | refine Below.drew ?_ | refine below_drewN ?_ _ | refine Below.setCell ?_ (by first | omega | (simp; done) | (simp; omega)) _ | refine Below.alloc ?_ (by first | omega | (simp; done) | (simp; omega)) _ | refine bchain ?_ (by assumption) (by first | omega | (simp; done) | (simp; omega)))))) hx).mono ?_; rintro e w6b ⟨rfl, hb6b⟩; have hs6b := hb6b.size; (try simp only [World.size_alloc, World.size_drew] at hs6b); have hcA6b := fun o => (bcell hb6b).1 w.heap.size o (by first | omega | (simp; done) | (simp; omega)); have hcX6b := fun o => (bcell hb6b).1 w3.heap.size o (by first | omega | (simp; done) | (simp; omega))))
        all_goals
          rename_i hSS
          have hb7 := hSS.1
          have s7 := hb7.size
          have B7 := HB.out.trans (hb7.mono HB.out.size)
          clear hcA6 hcX6 hcA6b hcX6b hb6 hb6b hO6
          clear RA uA0_26 uX0_27
          have bA7 := bA5.below hb7
          have bC7 := bC5.below hb7
          have bW7 := bW5.below hb7
          have bX7 := bX5.below hb7
          have bG7 := bG5.below hb7
          have rW7 := rW5.below hb7
          have rX7 := rX5.below hb7
          have rG7 := rG5.below hb7
          clear bA5 bC5 bW5 bX5 bG5 rW5 rX5 rG5
          clear hSS hb7
          have hkx : ¬ (1 + 3 * (xs.length : Int) < 0) := by omega
          have hky : ¬ (1 + 3 * (L.length : Int) < 0) := by omega
          obtain ⟨_, uA0_28⟩ := id bA7
          obtain ⟨_, uC0_29, uC1_29, uC2_29⟩ := id bC7
          obtain ⟨_, uW0_30⟩ := id bW7
          obtain ⟨_, uX0_31⟩ := id bX7
          obtain ⟨_, uG0_32⟩ := id bG7
          go_wp2_with fail
          refine (markPuzzle_own w2.heap.size _ _ xs 1 _ rX7 (by omega) (by omega)).mono ?_; rintro e w8 ⟨rfl, hM8, hg8⟩
          have s8 := hg8.size
          have B8 : Below w.heap.size w w8 := B7.grown hg8 B7.size (fun k hk => by have := (rlX k hk).1; omega)
          have bA8 := bA7.grown hg8 (fun hk => by have := rlX _ hk.symm; omega)
          have bC8 := bC7.grown hg8 (fun hk => by have := rlX _ hk.symm; omega)
          have bW8 := bW7.grown hg8 (fun hk => by have := rlX _ hk.symm; omega)
          have bX8 := bX7.grown hg8 (fun hk => by have := rlX _ hk.symm; omega)
          have bG8 := bG7.grown hg8 (fun hk => by have := rlX _ hk.symm; omega)
          have rW8 := rW7.apart' hg8 (own_apart (fun k hk hk2 => by have := rlW k hk; have := rlX k hk2; omega))
          have rG8 := rG7.apart' hg8 (own_apart (fun k hk hk2 => by have := rlG k hk; have := rlX k hk2; omega))
          clear bA7 bC7 bW7 bX7 bG7 rW7 rX7 rG7 B7
          clear hM8 hg8
          obtain ⟨_, uA0_33⟩ := id bA8
          obtain ⟨_, uC0_34, uC1_34, uC2_34⟩ := id bC8
          obtain ⟨_, uW0_35⟩ := id bW8
          obtain ⟨_, uX0_36⟩ := id bX8
          obtain ⟨_, uG0_37⟩ := id bG8
          go_wp2_with fail
          refine (eqPuzzle_eq q4 q2 k4 k2 L _ rG8.rd rW8.rd hL1).mono ?_; rintro e w9 ⟨rfl, hb9⟩
          have s9 := hb9.size
          have B9 : Below w.heap.size w w9 := B8.trans (hb9.mono B8.size)
          have bA9 := bA8.below hb9
          have bC9 := bC8.below hb9
          have bW9 := bW8.below hb9
          have bX9 := bX8.below hb9
          have bG9 := bG8.below hb9
          have rW9 := rW8.below hb9
          have rG9 := rG8.below hb9
          clear bA8 bC8 bW8 bX8 bG8 rW8 rG8
          clear B8 hb9
          obtain ⟨_, uA0_38⟩ := id bA9
          obtain ⟨_, uC0_39, uC1_39, uC2_39⟩ := id bC9
          obtain ⟨_, uW0_40⟩ := id bW9
          obtain ⟨_, uX0_41⟩ := id bX9
          obtain ⟨_, uG0_42⟩ := id bG9
          go_wp2_with fail
          have rlG0 := rlG
          have rlG : ∀ k, (Value.slice q4 L.length k4).ownBlock = some k → (w3a.heap.size ≤ k ∧ k < w4.heap.size) ∧ k ≠ pG := fun k hk => ⟨rlG0 k hk, hneG k hk⟩
          refine (markPuzzle_own w3a.heap.size _ _ L 1 _ rG9 (by omega) (by omega)).mono ?_; rintro e w10 ⟨rfl, hM10, hg10⟩
          have s10 := hg10.size
          have B10 : Below w.heap.size w w10 := B9.grown hg10 B9.size (fun k hk => by have := (rlG k hk).1; omega)
          have bA10 := bA9.grown hg10 (fun hk => by have := rlG _ hk.symm; omega)
          have bC10 := bC9.grown hg10 (fun hk => by have := rlG _ hk.symm; omega)
          have bW10 := bW9.grown hg10 (fun hk => by have := rlG _ hk.symm; omega)
          have bX10 := bX9.grown hg10 (fun hk => by have := rlG _ hk.symm; omega)
          have bG10 := bG9.grown hg10 (fun hk => by have := rlG _ hk.symm; omega)
          have rW10 := rW9.apart' hg10 (own_apart (fun k hk hk2 => by have := rlW k hk; have := rlG k hk2; omega))
          clear bA9 bC9 bW9 bX9 bG9 rW9 rG9 B9
          have rGR10 := rowT_rd (sqT_length _ _) hM10
          clear hM10 hg10
          obtain ⟨_, uA0_43⟩ := id bA10
          obtain ⟨_, uC0_44, uC1_44, uC2_44⟩ := id bC10
          obtain ⟨_, uW0_45⟩ := id bW10
          obtain ⟨_, uX0_46⟩ := id bX10
          obtain ⟨_, uG0_47⟩ := id bG10
          go_wp2_with fail
          refine (heldPuzzle_ok q4 L.length k4 1 _ rGR10 (by omega) (by omega)).mono ?_; rintro e w11 ⟨rfl, hb11⟩
          have s11 := hb11.size
          have B11 : Below w.heap.size w w11 := B10.trans (hb11.mono B10.size)
          have bA11 := bA10.below hb11
          have bC11 := bC10.below hb11
          have bW11 := bW10.below hb11
          have bX11 := bX10.below hb11
          have bG11 := bG10.below hb11
          have rW11 := rW10.below hb11
          have rGR11 := rGR10.below hb11
          clear bA10 bC10 bW10 bX10 bG10 rW10 rGR10
          clear B10 hb11
          obtain ⟨_, uA0_48⟩ := id bA11
          obtain ⟨_, uC0_49, uC1_49, uC2_49⟩ := id bC11
          obtain ⟨_, uW0_50⟩ := id bW11
          obtain ⟨_, uX0_51⟩ := id bX11
          obtain ⟨_, uG0_52⟩ := id bG11
          go_wp2_with fail
          have RA13 : RdT w11 a0 xs := h.below B11
          obtain ⟨_, uA0_53⟩ := id bA11
          obtain ⟨_, uC0_54, uC1_54, uC2_54⟩ := id bC11
          obtain ⟨_, uW0_55⟩ := id bW11
          obtain ⟨_, uX0_56⟩ := id bX11
          obtain ⟨_, uG0_57⟩ := id bG11
          refine wp_uni [80, 81, 82, 83, 84, 79, 85, 86, 14, 15] (fun vs X => ∃ (p : Nat) (q : Option Addr) (c : Nat) (v0 v1 v2 v3 v4 v5 v6 v7 : Value), vs = [v0, v1, v2, v3, v4, v5, v6, v7, .pointer (some ⟨p, 0, none⟩), .bool ok] ∧ Below w11.heap.size w11 X ∧ w11.heap.size ≤ p ∧ p < X.heap.size ∧ X.cell? ⟨p, 0, none⟩ = some (.slice q L.length c) ∧ OwnC X w11.heap.size q c L ∧ ∀ k, (Value.slice q L.length c).ownBlock = some k → k ≠ p) ?_ ?_
          · go_region_held3 (fun v => Below w11.heap.size w11 v ∧ w11.heap.size ≤ v.heap.size ∧ w.heap.size < v.heap.size ∧ w.heap.size + 1 < v.heap.size ∧ v.cell? ⟨w.heap.size, 0, none⟩ = some (.slice a0 xs.length cap0) ∧ v.cell? ⟨w.heap.size + 1, 0, none⟩ = some (.int .i64 k) ∧ v.cell? ⟨w.heap.size + 1, 1, none⟩ = some (.int .i64 x) ∧ v.cell? ⟨w.heap.size + 1, 2, none⟩ = some (.int .i64 y))
              (refine ⟨?_, ?_, ?_, ?_, ?_, ?_, ?_, ?_⟩ <;> first | assumption | exact Nat.le_refl _ | omega | (simp; done) | (simp; omega) | (go_simp; done) | ((repeat (first | assumption | (apply And.left; assumption) | exact Below.refl _ _ | refine Below.drew ?_ | refine below_drewN ?_ _ | refine Below.setCell ?_ (by first | omega | (simp; done) | (simp; omega)) _ | refine Below.alloc ?_ (by first | omega | (simp; done) | (simp; omega)) _ | refine bchain ?_ (by assumption) (by first | omega | (simp; done) | (simp; omega)))); done))
              (first | (go_at_call 20; refine (toPuzzle_some a0 cap0 xs _ (RA13.below (by (repeat (first | assumption | exact Below.refl _ _ | refine Below.drew ?_ | refine below_drewN ?_ _ | refine Below.setCell ?_ (by first | omega | (simp; done) | (simp; omega)) _ | refine Below.alloc ?_ (by first | omega | (simp; done) | (simp; omega)) _ | refine bchain ?_ (by assumption) (by first | omega | (simp; done) | (simp; omega)))))) hx).mono ?_; rintro e x1 ⟨A1, rfl, hO1, hb1⟩; have hs1 := hb1.size; (try simp only [World.size_alloc, World.size_drew, World.size_setCell] at hs1); (first | (have hl1 := Nat.lt_of_succ_le hs1) | skip); have hall1 := (bcell hb1).1; have hfall1 := (bcell hb1).2; have BB1 : Below w11.heap.size w11 x1 := bchain (by (repeat (first | assumption | (apply And.left; assumption) | exact Below.refl _ _ | refine Below.drew ?_ | refine below_drewN ?_ _ | refine Below.setCell ?_ (by first | omega | (simp; done) | (simp; omega)) _ | refine Below.alloc ?_ (by first | omega | (simp; done) | (simp; omega)) _ | refine bchain ?_ (by assumption) (by first | omega | (simp; done) | (simp; omega))))) hb1 (by first | exact Nat.le_refl _ | omega | (simp; done) | (simp; omega)); have hq1 := BB1.size; have ff1A0 := ((bcell BB1).1 _ 0 bA11.1).trans uA0_53; have gg1A := Nat.lt_of_lt_of_le bA11.1 BB1.size; have ff1C0 := ((bcell BB1).1 _ 0 bC11.1).trans uC0_54; have ff1C1 := ((bcell BB1).1 _ 1 bC11.1).trans uC1_54; have ff1C2 := ((bcell BB1).1 _ 2 bC11.1).trans uC2_54; have gg1C := Nat.lt_of_lt_of_le bC11.1 BB1.size) | (go_at_call 16; refine (toClue_any _ _ _ _).mono ?_; rintro e x2 ⟨rfl, hb2⟩; have hR2 := (hO1.rd).below (w' := x2) (by (repeat (first | assumption | exact Below.refl _ _ | refine Below.drew ?_ | refine below_drewN ?_ _ | refine Below.setCell ?_ (by first | omega | (simp; done) | (simp; omega)) _ | refine Below.alloc ?_ (by first | omega | (simp; done) | (simp; omega)) _ | refine bchain ?_ (by assumption) (by first | omega | (simp; done) | (simp; omega))))); have hs2 := hb2.size; (try simp only [World.size_alloc, World.size_drew, World.size_setCell] at hs2); (first | (have hl2 := Nat.lt_of_succ_le hs2) | skip); have hall2 := (bcell hb2).1; have hfall2 := (bcell hb2).2; have BB2 : Below w11.heap.size w11 x2 := bchain (by (repeat (first | assumption | (apply And.left; assumption) | exact Below.refl _ _ | refine Below.drew ?_ | refine below_drewN ?_ _ | refine Below.setCell ?_ (by first | omega | (simp; done) | (simp; omega)) _ | refine Below.alloc ?_ (by first | omega | (simp; done) | (simp; omega)) _ | refine bchain ?_ (by assumption) (by first | omega | (simp; done) | (simp; omega))))) hb2 (by first | exact Nat.le_refl _ | omega | (simp; done) | (simp; omega)); have hq2 := BB2.size; have ff2A0 := ((bcell BB2).1 _ 0 bA11.1).trans uA0_53; have gg2A := Nat.lt_of_lt_of_le bA11.1 BB2.size; have ff2C0 := ((bcell BB2).1 _ 0 bC11.1).trans uC0_54; have ff2C1 := ((bcell BB2).1 _ 1 bC11.1).trans uC1_54; have ff2C2 := ((bcell BB2).1 _ 2 bC11.1).trans uC2_54; have gg2C := Nat.lt_of_lt_of_le bC11.1 BB2.size; (first | (have hm2 := Nat.lt_of_lt_of_le hl1 hs2) | skip)) | (go_at_call 50; refine (hI _ _ (hR2.below (by (repeat (first | assumption | exact Below.refl _ _ | refine Below.drew ?_ | refine below_drewN ?_ _ | refine Below.setCell ?_ (by first | omega | (simp; done) | (simp; omega)) _ | refine Below.alloc ?_ (by first | omega | (simp; done) | (simp; omega)) _ | refine bchain ?_ (by assumption) (by first | omega | (simp; done) | (simp; omega))))))).mono ?_; rintro e x3 ⟨q3, k3, rfl, hO3, hb3⟩; have hO3' := (show OwnC x3 w11.heap.size q3 k3 L from row_low hO3 (by first | omega | (simp; done) | (simp; omega))); have hlt3 : ∀ k, (Value.slice q3 L.length k3).ownBlock = some k → w11.heap.size ≤ k ∧ k < x3.heap.size := (fun k hk => rowP_lt hO3' k hk); have hge3 := (fun k hk => (rowP_lt hO3 k hk).1); (try simp only [World.size_alloc, World.size_drew] at hge3); have hs3 := hb3.size; (try simp only [World.size_alloc, World.size_drew, World.size_setCell] at hs3); (first | (have hl3 := Nat.lt_of_succ_le hs3) | skip); have hall3 := (bcell hb3).1; have hfall3 := (bcell hb3).2; have BB3 : Below w11.heap.size w11 x3 := bchain (by (repeat (first | assumption | (apply And.left; assumption) | exact Below.refl _ _ | refine Below.drew ?_ | refine below_drewN ?_ _ | refine Below.setCell ?_ (by first | omega | (simp; done) | (simp; omega)) _ | refine Below.alloc ?_ (by first | omega | (simp; done) | (simp; omega)) _ | refine bchain ?_ (by assumption) (by first | omega | (simp; done) | (simp; omega))))) hb3 (by first | exact Nat.le_refl _ | omega | (simp; done) | (simp; omega)); have hq3 := BB3.size; have ff3A0 := ((bcell BB3).1 _ 0 bA11.1).trans uA0_53; have gg3A := Nat.lt_of_lt_of_le bA11.1 BB3.size; have ff3C0 := ((bcell BB3).1 _ 0 bC11.1).trans uC0_54; have ff3C1 := ((bcell BB3).1 _ 1 bC11.1).trans uC1_54; have ff3C2 := ((bcell BB3).1 _ 2 bC11.1).trans uC2_54; have gg3C := Nat.lt_of_lt_of_le bC11.1 BB3.size))
            all_goals (rename_i hHeld; refine' ⟨rfl, [_, _, _, _, _, _, _, _, _, _], ?_, ?_⟩; rotate_left 10; (simp only [List.zip_cons_cons, List.zip_nil_left, putsU, Act.put, List.setIfInBounds_toArray, List.set_cons_zero, List.set_cons_succ]; first | done | rfl); exact ⟨_, q3, k3, _, _, _, _, _, _, _, _, rfl, hHeld.1, (by first | omega | (simp; done) | (simp; omega)), (by first | omega | (simp; done) | (simp; omega)), (by go_simp), (by first | exact hO3' | exact row_low (row_setLow hO3 _ _ (by first | omega | (simp; done) | (simp; omega))) (by first | omega | (simp; done) | (simp; omega)) | exact row_setLow hO3' _ _ (by first | omega | (simp; done) | (simp; omega)) | exact hO3'.below (by (repeat (first | assumption | exact Below.refl _ _ | refine Below.drew ?_ | refine below_drewN ?_ _ | refine Below.setCell ?_ (by first | omega | (simp; done) | (simp; omega)) _ | refine Below.alloc ?_ (by first | omega | (simp; done) | (simp; omega)) _ | refine bchain ?_ (by assumption) (by first | omega | (simp; done) | (simp; omega)))))), (fun k hk => by have := hge3 k hk; have := hlt3 k hk; omega)⟩)
          · rintro vs w13 ⟨pH, q13, k13, y13_0, y13_1, y13_2, y13_3, y13_4, y13_5, y13_6, y13_7, rfl, hb13, hpH, hplH, hpcH, hO13, hneH⟩
            simp only [List.zip_cons_cons, List.zip_nil_left, putsU, Act.put, List.setIfInBounds_toArray, List.set_cons_zero, List.set_cons_succ]
            have s13 := hb13.size
            have B13 : Below w.heap.size w w13 := B11.trans (hb13.mono B11.size)
            have bA13 := bA11.below hb13
            have bC13 := bC11.below hb13
            have bW13 := bW11.below hb13
            have bX13 := bX11.below hb13
            have bG13 := bG11.below hb13
            have rW13 := rW11.below hb13
            have rGR13 := rGR11.below hb13
            clear bA11 bC11 bW11 bX11 bG11 rW11 rGR11
            clear B11 hb13 RA13
            have rlH : ∀ k, (Value.slice q13 L.length k13).ownBlock = some k → w11.heap.size ≤ k ∧ k < w13.heap.size := fun k hk => rowP_lt hO13 k hk
            have rH13 := hO13
            clear hO13
            have bH13 : Box1 w13 pH (.slice q13 L.length k13) := ⟨hplH, hpcH⟩
            clear hpcH
            obtain ⟨_, uA0_58⟩ := id bA13
            obtain ⟨_, uC0_59, uC1_59, uC2_59⟩ := id bC13
            obtain ⟨_, uW0_60⟩ := id bW13
            obtain ⟨_, uX0_61⟩ := id bX13
            obtain ⟨_, uG0_62⟩ := id bG13
            obtain ⟨_, uH0_63⟩ := id bH13
            go_wp2_with fail
            refine (eqPuzzle_eq q13 q2 k13 k2 L _ rH13.rd rW13.rd hL1).mono ?_; rintro e w14 ⟨rfl, hb14⟩
            have s14 := hb14.size
            have B14 : Below w.heap.size w w14 := B13.trans (hb14.mono B13.size)
            have bA14 := bA13.below hb14
            have bC14 := bC13.below hb14
            have bW14 := bW13.below hb14
            have bX14 := bX13.below hb14
            have bG14 := bG13.below hb14
            have bH14 := bH13.below hb14
            have rW14 := rW13.below hb14
            have rGR14 := rGR13.below hb14
            have rH14 := rH13.below hb14
            clear bA13 bC13 bW13 bX13 bG13 bH13 rW13 rGR13 rH13
            clear B13 hb14
            obtain ⟨_, uA0_64⟩ := id bA14
            obtain ⟨_, uC0_65, uC1_65, uC2_65⟩ := id bC14
            obtain ⟨_, uW0_66⟩ := id bW14
            obtain ⟨_, uX0_67⟩ := id bX14
            obtain ⟨_, uG0_68⟩ := id bG14
            obtain ⟨_, uH0_69⟩ := id bH14
            go_wp2_with fail
            refine (heldPuzzle_ok q4 L.length k4 1 _ rGR14 (by omega) (by omega)).mono ?_; rintro e w15 ⟨rfl, hb15⟩
            have s15 := hb15.size
            have B15 : Below w.heap.size w w15 := B14.trans (hb15.mono B14.size)
            have bA15 := bA14.below hb15
            have bC15 := bC14.below hb15
            have bW15 := bW14.below hb15
            have bX15 := bX14.below hb15
            have bG15 := bG14.below hb15
            have bH15 := bH14.below hb15
            have rW15 := rW14.below hb15
            have rGR15 := rGR14.below hb15
            have rH15 := rH14.below hb15
            clear bA14 bC14 bW14 bX14 bG14 bH14 rW14 rGR14 rH14
            clear B14 hb15
            go_wp2_with fail
            go_ret
            exact ⟨rfl, B15⟩
set_option maxRecDepth 100000 in
theorem fnExactAddClue_lifted (os : Os) (started : os.Started) (H : Type) (enc : TypeId × Value → H) :
    ReturnsInHanded {} Try.checked os 13 .any (Rows.fnExactAddClueSpec.pre6 enc Try.prog Try.f13 Rows.fnExactAddClueRow.domain false) (Rows.fnExactAddClueSpec.post enc Try.prog Try.f13 false true false false) := by
  refine returnsInHanded_of_change (C := Try.checked) own started (by kernel_rfl) Try.func13
    (ChangeSpec.witness6 (enc := enc) (C := Try.checked) false ⟨#[], #[.agg #[.slice none 0 0], .agg #[.int .i64 0, .int .i64 0, .int .i64 0]], []⟩ 8 (by kernel_rfl) (by kernel_rfl) (by kernel_rfl) (by kernel_rfl)) ?_
  intro W base args ds gs before hval0 hW hcnd _
  have hval : ∀ (j : Nat) t v, Try.f13.params[j]? = some t → args[j]? = some v → Value.okWide Try.prog W .any base t v := hval0
  have hW' := hW
  obtain ⟨p, q, hA0, hV, rfl, hfz, hnd⟩ := hW
  have hA : DataW.TrodAll enc Try.prog W 0 (fun _ => true) true Try.f13.params.toList args.toList ds p := hA0
  rw [Try.params13] at hA hval
  obtain ⟨v0, vs0, d0, ds0, p0, q0, hargs, rfl, rfl, h0, r0⟩ := trodAll_cons hA
  obtain ⟨v1, vs1, d1, ds1, p1, q1, rfl, rfl, rfl, h1, r1⟩ := trodAll_cons r0
  obtain ⟨rfl, rfl, rfl⟩ := trodAll_nil r1
  obtain rfl : args = #[v0, v1] := by cases args; simp_all
  obtain ⟨rfl, rfl⟩ := trodVars_none hV
  have k0 := h0
  have lt0 : ∀ x ∈ p0, x.block < W.heap.size := by obtain ⟨m, hm⟩ := k0; exact DataW.trod_lt m _ _ _ hm
  have k1 := h1
  have lt1 : ∀ x ∈ p1, x.block < W.heap.size := by obtain ⟨m, hm⟩ := k1; exact DataW.trod_lt m _ _ _ hm
  obtain ⟨c0, y0, m0, rfl, rfl, rfl, hy0⟩ := open_agg1 Try.underlying30 rfl (by kernel_rfl) cellsPuzzle (hval 0 30 v0 rfl rfl) h0
  obtain ⟨b0, cap0, xs0, E0, R0, M0⟩ := open_triples_val Try.underlying28 Try.underlying23 (by kernel_rfl) rfl rfl rfl (by kernel_rfl) (by kernel_rfl) (by kernel_rfl) Try.underlying3 Try.underlying3 Try.underlying3 hy0
  subst E0
  obtain ⟨c1_0, c1_1, c1_2, y1_0, y1_1, y1_2, m1, rfl, rfl, rfl, hy1_0, hy1_1, hy1_2⟩ := open_agg3 Try.underlying23 (by kernel_rfl) cells23 (hval 1 23 v1 rfl rfl) h1
  obtain ⟨a1_0, e1_0, rfl, x1_0⟩ := DataW.trod_int Try.underlying3 hy1_0
  obtain ⟨a1_1, e1_1, rfl, x1_1⟩ := DataW.trod_int Try.underlying3 hy1_1
  obtain ⟨a1_2, e1_2, rfl, x1_2⟩ := DataW.trod_int Try.underlying3 hy1_2
  simp at e1_0 e1_1 e1_2
  subst e1_0 e1_1 e1_2
  clear hA0 hval0
  refine (fnExactAddClue_walk b0 cap0 xs0 a1_0 a1_1 a1_2 W R0 M0 x1_0 x1_1 x1_2).mono fun e W' ⟨he, bel⟩ => ?_
  subst he
  exact ⟨_, rfl, _, _, _, [], _, [], hW', trodAll_mk1 (shut_bool Try.underlying4 _), (trodAll_cons_mk (Below.trod laidOut (by kernel_rfl) (of_decide_eq_true (by kernel_rfl)) k0 bel lt0) (trodAll_cons_mk (Below.trod laidOut (by kernel_rfl) (of_decide_eq_true (by kernel_rfl)) k1 bel lt1) trodAll_mk0)), rfl, bel.frame _, fun h => by cases h⟩
theorem fnExactAddClue_over : Rows.fnExactAddClueRow.holds Try.pinned (OpenSpec.ofChange Rows.fnExactAddClueSpec) :=
  OpenClaim.holds_of_wide 13 Try.f13 rfl rfl rfl rfl rfl rfl rfl ⟨rfl, rfl, rfl, rfl, rfl⟩ rfl rfl rfl rfl rfl (by kernel_rfl) Try.func13 (by kernel_rfl)
    (of_decide_eq_true (by kernel_rfl)) (by unfold Func.isWrapper; first | (rw [if_pos (by decide +kernel)]; kernel_rfl) | (rw [if_neg (by decide +kernel)]; exact ⟨rfl, rfl⟩))
    (fun os started H enc _ => fnExactAddClue_lifted os started H enc)
/-- The statement, as it is given. -/
theorem fnExactAddClue_holds : Rows.FnExactAddClueSaid := fnExactAddClue_over

end fnExactAddClue
end Go.Proofs.Ytnnokfecjdmjpaa
