/- The function FirstSolution of chapter 9 answers as the model at every puzzle (every field of the answer), its answer owns its memory, it does not panic, it writes into nothing that was there before the call. Conditions: none. -/
import Derived.Test.YtnnokfecjdmjpaaRows
import Derived.Test.YtnnokfecjdmjpaaPzFn
import Derived.Test.YtnnokfecjdmjpaaPzFn2
import Derived.Test.YtnnokfecjdmjpaaPzSpec3
import Derived.Test.YtnnokfecjdmjpaaPzSpec4
import Derived.Test.YtnnokfecjdmjpaaPzSpec5
import Derived.Test.YtnnokfecjdmjpaaTriFrame
import Derived.Test.YtnnokfecjdmjpaaPzBox
import Derived.Test.YtnnokfecjdmjpaaPairsK
import Derived.Test.YtnnokfecjdmjpaaSlices
import Derived.WalkKit
import Derived.ProofKit
import Derived.OpenShut
import Derived.ShutString
import Derived.ChangeOld
import Derived.Below
import Derived.Lib.SmallJoins
namespace Go.Proofs.Ytnnokfecjdmjpaa
open Go.ChangeShapes Go.WideShapes Go.ChangeAt Go.RowKit Go.Joins
open Go.ChangeMaps (open_string shut_string)
set_option linter.unusedVariables false
set_option linter.unusedSimpArgs false
namespace fnExactFirstSolution
theorem own : ownKnob Try.prog.godebug = none := by kernel_rfl
theorem laidOut : laidOutB Try.prog = true := by kernel_rfl
theorem cellsPuzzle : Try.prog.cellsOf 30 = 1 := by kernel_rfl
set_option maxHeartbeats 8000000 in
set_option maxRecDepth 100000 in
theorem fnExactFirstSolution_walk (a0 : Option Addr) (cap0 : Nat) (xs : List (Int × Int × Int)) (w : World) (h : RdT w a0 xs) (hm : xs.length ≤ maxLen) :
    Calls Try.prog 8 #[.agg #[.slice a0 xs.length cap0]] w fun e w' => e = .returned (.bool true) ∧ Below w.heap.size w w' := by
  unfold maxLen at hm
  by_cases hbig : (1048576 : Int) < (xs.length : Int)
  · go_enter Try.func8, Try.ntmps8
    go_wp2_with fail
    have b0 : Below w.heap.size w (w.alloc (.cells #[.slice a0 xs.length cap0] 30)) := (Below.refl _ _).alloc (Nat.le_refl _) _
    refine (szPuzzle_big a0 xs.length cap0 _ (by omega) hbig).mono ?_; rintro e w0 ⟨rfl, hb0⟩
    have B0 : Below w.heap.size w w0 := b0.trans (hb0.mono (by simp))
    go_wp2_with fail
    go_ret
    exact ⟨rfl, B0⟩
  · have hx : xs.length ≤ 1048576 := by omega
    obtain ⟨x, y, b, hS, hI⟩ : ∃ (x y : Int) (b : Bool), (∀ (A : Addr) (w : World), RdT w (some A) xs → Calls Try.prog 34 #[.agg #[.slice (some A) xs.length xs.length]] w fun e w' => e = .returned (.tuple #[.agg #[.int .i64 x, .int .i64 y], .bool b]) ∧ Below w.heap.size w w') ∧ (∀ (A : Addr) (w : World), RdT w (some A) xs → Calls Try.prog 35 #[.agg #[.slice (some A) xs.length xs.length]] w fun e w' => e = .returned (.tuple #[.agg #[.int .i64 x, .int .i64 y], .bool b]) ∧ Below w.heap.size w w') := ⟨_, _, _, fun A w h => specFirstSolution (some A) xs.length xs w h hx, fun A w h => implFirstSolution A xs.length xs w h hx (Nat.le_refl _)⟩
    have hz : ¬ (1048576 - (xs.length : Int) < 0) := by omega
    clear hbig hm
    go_enter Try.func8, Try.ntmps8
    go_wp2_with fail
    have bx0 : Below w.heap.size w (w.alloc (.cells #[.slice a0 xs.length cap0] 30)) := (Below.refl _ _).alloc (Nat.le_refl _) _
    have bAs : Box1 (w.alloc (.cells #[.slice a0 xs.length cap0] 30)) (w.heap.size) (.slice a0 xs.length cap0) := ⟨by simp, by go_simp⟩
    refine (szPuzzle_ok a0 xs.length cap0 _ hx).mono ?_; rintro e w0 ⟨rfl, hb0⟩
    have B0 : Below w.heap.size w w0 := bx0.trans (hb0.mono (by simp))
    have bA0 := bAs.below hb0
    have s0 : w.heap.size < w0.heap.size := bA0.1
    clear bAs bx0 hb0
    obtain ⟨_, uA0_1⟩ := id bA0
    go_wp2_with fail
    refine (toPuzzle_some a0 cap0 xs _ (h.below B0) hx).mono ?_; rintro e w1 ⟨A1, rfl, hO1, hb1⟩
    have s1 := hb1.size
    have B1 : Below w.heap.size w w1 := B0.trans (hb1.mono B0.size)
    have bA1 := bA0.below hb1
    clear bA0
    clear B0 hb1
    go_wp2_with fail
    refine (hS _ _ hO1.rd).mono ?_; rintro e w2 ⟨rfl, hb2⟩
    have s2 := hb2.size
    have B2 : Below w.heap.size w w2 := B1.trans (hb2.mono B1.size)
    have bA2 := bA1.below hb2
    clear bA1
    clear B1 hb2
    clear hO1
    obtain ⟨_, uA0_2⟩ := id bA2
    go_wp2_with fail
    generalize hq : World.alloc w2 _ = w2a
    have hb2a : Below w2.heap.size w2 w2a := by subst hq; exact (Below.refl _ _).alloc (Nat.le_refl _) _
    have bW2a : Box2 w2a (w2.heap.size) (.int .i64 x) (.int .i64 y) := by subst hq; exact ⟨by simp, by go_simp, by go_simp⟩
    have s2a : w2a.heap.size = w2.heap.size + 1 := by subst hq; simp
    clear hq
    have B2a : Below w.heap.size w w2a := B2.trans (hb2a.mono B2.size)
    have bA2a := bA2.below hb2a
    clear bA2
    clear B2 hb2a
    refine (toPuzzle_some a0 cap0 xs _ (h.below B2a) hx).mono ?_; rintro e w3 ⟨A3, rfl, hO3, hb3⟩
    have s3 := hb3.size
    have B3 : Below w.heap.size w w3 := B2a.trans (hb3.mono B2a.size)
    have bA3 := bA2a.below hb3
    have bW3 := bW2a.below hb3
    clear bA2a bW2a
    clear B2a hb3
    have rlX : ∀ k, (Value.slice (some A3) xs.length xs.length).ownBlock = some k → w2a.heap.size ≤ k ∧ k < w3.heap.size := fun k hk => rowP_lt hO3 k hk
    have rX3 := hO3
    clear hO3
    go_wp2_with fail
    generalize hq : World.alloc w3 _ = w3a
    have hb3a : Below w3.heap.size w3 w3a := by subst hq; exact (Below.refl _ _).alloc (Nat.le_refl _) _
    have bX3a : Box1 w3a (w3.heap.size) (.slice (some A3) xs.length xs.length) := by subst hq; exact ⟨by simp, by go_simp⟩
    have s3a : w3a.heap.size = w3.heap.size + 1 := by subst hq; simp
    clear hq
    have B3a : Below w.heap.size w w3a := B3.trans (hb3a.mono B3.size)
    have bA3a := bA3.below hb3a
    have bW3a := bW3.below hb3a
    have rX3a := rX3.below hb3a
    clear bA3 bW3 rX3
    clear B3 hb3a
    refine (hI _ _ rX3a.rd).mono ?_; rintro e w4 ⟨rfl, hb4⟩
    have s4 := hb4.size
    have B4 : Below w.heap.size w w4 := B3a.trans (hb4.mono B3a.size)
    have bA4 := bA3a.below hb4
    have bW4 := bW3a.below hb4
    have bX4 := bX3a.below hb4
    have rX4 := rX3a.below hb4
    clear bA3a bW3a bX3a rX3a
    clear B3a hb4
    obtain ⟨_, uA0_3⟩ := id bA4
    obtain ⟨_, uW0_4, uW1_4⟩ := id bW4
    obtain ⟨_, uX0_5⟩ := id bX4
    go_wp2_with fail
    generalize hq : World.alloc w4 _ = w4a
    have hb4a : Below w4.heap.size w4 w4a := by subst hq; exact (Below.refl _ _).alloc (Nat.le_refl _) _
    have bG4a : Box2 w4a (w4.heap.size) (.int .i64 x) (.int .i64 y) := by subst hq; exact ⟨by simp, by go_simp, by go_simp⟩
    have s4a : w4a.heap.size = w4.heap.size + 1 := by subst hq; simp
    clear hq
    have B4a : Below w.heap.size w w4a := B4.trans (hb4a.mono B4.size)
    have bA4a := bA4.below hb4a
    have bW4a := bW4.below hb4a
    have bX4a := bX4.below hb4a
    have rX4a := rX4.below hb4a
    clear bA4 bW4 bX4 rX4
    clear B4 hb4a
    refine (eqSnail_same x y _).mono ?_; rintro e w5 ⟨rfl, hb5⟩
    have s5 := hb5.size
    have B5 : Below w.heap.size w w5 := B4a.trans (hb5.mono B4a.size)
    have bA5 := bA4a.below hb5
    have bW5 := bW4a.below hb5
    have bX5 := bX4a.below hb5
    have bG5 := bG4a.below hb5
    have rX5 := rX4a.below hb5
    clear bA4a bW4a bX4a bG4a rX4a
    clear B4a hb5
    obtain ⟨_, uA0_6⟩ := id bA5
    obtain ⟨_, uW0_7, uW1_7⟩ := id bW5
    obtain ⟨_, uX0_8⟩ := id bX5
    obtain ⟨_, uG0_9, uG1_9⟩ := id bG5
    go_wp2_with fail
    have RA : RdT w5 a0 xs := h.below B5
    have hAl : w.heap.size < w5.heap.size := bA5.1
    have hXl : w3.heap.size < w5.heap.size := bX5.1
    obtain ⟨_, uA0_10⟩ := id bA5
    obtain ⟨_, uX0_11⟩ := id bX5
    have HB := Lib.hid B5
    clear B5
    go_region_held3 (fun v => Below w5.heap.size w5 v ∧ v.cell? ⟨w.heap.size, 0, none⟩ = some (.slice a0 xs.length cap0) ∧ v.cell? ⟨w3.heap.size, 0, none⟩ = some (.slice (some A3) xs.length xs.length))
      (refine ⟨?_, ?_, ?_⟩ <;> first | assumption | (go_simp; done) | ((repeat (first | assumption | exact Below.refl _ _ | refine Below.drew ?_ | refine below_drewN ?_ _ | refine Below.alloc ?_ (by first | omega | (simp; done) | (simp; omega)) _ | refine bchain ?_ (by assumption) (by first | omega | (simp; done) | (simp; omega)))); done))
      (first | (go_at_call 20; refine (toPuzzle_some a0 cap0 xs _ (RA.below (by (repeat (first | assumption | exact Below.refl _ _ | refine Below.drew ?_ | refine below_drewN ?_ _ | refine Below.alloc ?_ (by first | omega | (simp; done) | (simp; omega)) _ | refine bchain ?_ (by assumption) (by first | omega | (simp; done) | (simp; omega)))))) hx).mono ?_; rintro e w6 ⟨A6, rfl, hO6, hb6⟩; have hs6 := hb6.size; (try simp only [World.size_alloc, World.size_drew] at hs6); have hcA6 := fun o => (bcell hb6).1 w.heap.size o (by first | omega | (simp; done) | (simp; omega)); have hcX6 := fun o => (bcell hb6).1 w3.heap.size o (by first | omega | (simp; done) | (simp; omega))) | (go_at_call 22; refine (eqPuzzle_eq _ _ _ _ xs _ (rX5.rd.below (by (repeat (first | assumption | exact Below.refl _ _ | refine Below.drew ?_ | refine below_drewN ?_ _ | refine Below.alloc ?_ (by first | omega | (simp; done) | (simp; omega)) _ | refine bchain ?_ (by assumption) (by first | omega | (simp; done) | (simp; omega)))))) (hO6.rd.below (by (repeat (first | assumption | exact Below.refl _ _ | refine Below.drew ?_ | refine below_drewN ?_ _ | refine Below.alloc ?_ (by first | omega | (simp; done) | (simp; omega)) _ | refine bchain ?_ (by assumption) (by first | omega | (simp; done) | (simp; omega)))))) hx).mono ?_; rintro e w6b ⟨rfl, hb6b⟩; have hs6b := hb6b.size; (try simp only [World.size_alloc, World.size_drew] at hs6b); have hcA6b := fun o => (bcell hb6b).1 w.heap.size o (by first | omega | (simp; done) | (simp; omega)); have hcX6b := fun o => (bcell hb6b).1 w3.heap.size o (by first | omega | (simp; done) | (simp; omega))))
    all_goals
      rename_i hSS
      have hb7 := hSS.1
      have s7 := hb7.size
      have B7 := HB.out.trans (hb7.mono HB.out.size)
      clear hcA6 hcX6 hcA6b hcX6b hb6 hb6b hO6
      clear RA uA0_10 uX0_11
      have bA7 := bA5.below hb7
      have bW7 := bW5.below hb7
      have bX7 := bX5.below hb7
      have bG7 := bG5.below hb7
      have rX7 := rX5.below hb7
      clear bA5 bW5 bX5 bG5 rX5
      clear hSS hb7
      go_wp2_with fail
      go_ret
      exact ⟨rfl, B7⟩
set_option maxRecDepth 100000 in
theorem fnExactFirstSolution_lifted (os : Os) (started : os.Started) (H : Type) (enc : TypeId × Value → H) :
    ReturnsInHanded {} Try.checked os 8 .any (Rows.fnExactFirstSolutionSpec.pre6 enc Try.prog Try.f8 Rows.fnExactFirstSolutionRow.domain false) (Rows.fnExactFirstSolutionSpec.post enc Try.prog Try.f8 false true false false) := by
  refine returnsInHanded_of_change (C := Try.checked) own started (by kernel_rfl) Try.func8
    (ChangeSpec.witness6 (enc := enc) (C := Try.checked) false ⟨#[], #[.agg #[.slice none 0 0]], []⟩ 8 (by kernel_rfl) (by kernel_rfl) (by kernel_rfl) (by kernel_rfl)) ?_
  intro W base args ds gs before hval0 hW hcnd _
  have hval : ∀ (j : Nat) t v, Try.f8.params[j]? = some t → args[j]? = some v → Value.okWide Try.prog W .any base t v := hval0
  have hW' := hW
  obtain ⟨p, q, hA0, hV, rfl, hfz, hnd⟩ := hW
  have hA : DataW.TrodAll enc Try.prog W 0 (fun _ => true) true Try.f8.params.toList args.toList ds p := hA0
  rw [Try.params8] at hA hval
  obtain ⟨v0, vs0, d0, ds0, p0, q0, hargs, rfl, rfl, h0, r0⟩ := trodAll_cons hA
  obtain ⟨rfl, rfl, rfl⟩ := trodAll_nil r0
  obtain rfl : args = #[v0] := by cases args; simp_all
  obtain ⟨rfl, rfl⟩ := trodVars_none hV
  have k0 := h0
  have lt0 : ∀ x ∈ p0, x.block < W.heap.size := by obtain ⟨m, hm⟩ := k0; exact DataW.trod_lt m _ _ _ hm
  obtain ⟨c0, y0, m0, rfl, rfl, rfl, hy0⟩ := open_agg1 Try.underlying30 rfl (by kernel_rfl) cellsPuzzle (hval 0 30 v0 rfl rfl) h0
  obtain ⟨b0, cap0, xs0, E0, R0, M0⟩ := open_triples_val Try.underlying28 Try.underlying23 (by kernel_rfl) rfl rfl rfl (by kernel_rfl) (by kernel_rfl) (by kernel_rfl) Try.underlying3 Try.underlying3 Try.underlying3 hy0
  subst E0
  clear hA0 hval0
  refine (fnExactFirstSolution_walk b0 cap0 xs0 W R0 M0).mono fun e W' ⟨he, bel⟩ => ?_
  subst he
  exact ⟨_, rfl, _, _, _, [], _, [], hW', trodAll_mk1 (shut_bool Try.underlying4 _), (trodAll_cons_mk (Below.trod laidOut (by kernel_rfl) (of_decide_eq_true (by kernel_rfl)) k0 bel lt0) trodAll_mk0), rfl, bel.frame _, fun h => by cases h⟩
theorem fnExactFirstSolution_over : Rows.fnExactFirstSolutionRow.holds Try.pinned (OpenSpec.ofChange Rows.fnExactFirstSolutionSpec) :=
  OpenClaim.holds_of_wide 8 Try.f8 rfl rfl rfl rfl rfl rfl rfl ⟨rfl, rfl, rfl, rfl, rfl⟩ rfl rfl rfl rfl rfl (by kernel_rfl) Try.func8 (by kernel_rfl)
    (of_decide_eq_true (by kernel_rfl)) (by unfold Func.isWrapper; first | (rw [if_pos (by decide +kernel)]; kernel_rfl) | (rw [if_neg (by decide +kernel)]; exact ⟨rfl, rfl⟩))
    (fun os started H enc _ => fnExactFirstSolution_lifted os started H enc)
/-- The statement, as it is given. -/
theorem fnExactFirstSolution_holds : Rows.FnExactFirstSolutionSaid := fnExactFirstSolution_over

end fnExactFirstSolution
end Go.Proofs.Ytnnokfecjdmjpaa
