/- The function MakePuzzle of chapter 9 answers as the model at every snail and every two numbers (every field of the answer), its answer owns its memory, it does not panic, it writes into nothing that was there before the call. Conditions: none. -/
import Derived.Test.YtnnokfecjdmjpabRows
import Derived.Test.YtnnokfecjdmjpabPzMake
import Derived.Test.YtnnokfecjdmjpabPzMakeI
import Derived.Test.YtnnokfecjdmjpabPzSpec3
import Derived.Test.YtnnokfecjdmjpabTriFrame
import Derived.Test.YtnnokfecjdmjpabPzBox
import Derived.Test.YtnnokfecjdmjpabPairsK
import Derived.Test.YtnnokfecjdmjpabSlices
import Derived.WalkKit
import Derived.ProofKit
import Derived.OpenShut
import Derived.ShutString
import Derived.ChangeOld
import Derived.Below
import Derived.Lib.SmallJoins
namespace Go.Proofs.Ytnnokfecjdmjpab
open Go.ChangeShapes Go.WideShapes Go.ChangeAt Go.RowKit Go.Joins
open Go.ChangeMaps (open_string shut_string)
set_option linter.unusedVariables false
set_option linter.unusedSimpArgs false
namespace fnExactMakePuzzle
theorem own : ownKnob Try.prog.godebug = none := by kernel_rfl
theorem laidOut : laidOutB Try.prog = true := by kernel_rfl
theorem cells38 : Try.prog.cellsOf 38 = 2 := by kernel_rfl
theorem mkN_len' (u d z : Int) : ∀ n, (mkN u d z n).length ≤ n
  | 0 => Nat.le_refl _
  | n + 1 => by
    have := mkN_len' u d z n
    unfold mkN; simp; omega
theorem mkP_len (u d n z : Int) : (mkP u d n z).length ≤ 1000 := by
  unfold mkP; split
  · rename_i h
    unfold mkO at h
    rw [Bool.and_eq_true, Bool.and_eq_true] at h
    have hn := inB_iff.1 h.1.2
    have := mkN_len' u d z n.toNat; omega
  · simp
set_option maxHeartbeats 16000000 in
set_option maxRecDepth 100000 in
theorem fnExactMakePuzzle_walk (u d n z : Int) (w : World) (_ : (Lit.int .i64 u).wf = true) (_ : (Lit.int .i64 d).wf = true) (_ : (Lit.int .i64 n).wf = true) (_ : (Lit.int .i64 z).wf = true) :
    Calls Try.prog 5 #[.agg #[.int .i64 u, .int .i64 d], .int .i64 n, .int .i64 z] w fun e w' => e = .returned (.bool true) ∧ Below w.heap.size w w' := by
  obtain ⟨L, ok, hL0, hS, hI⟩ : ∃ (L : List (Int × Int × Int)) (ok : Bool), L.length ≤ 1000 ∧ (∀ (w : World), Calls Try.prog 15 #[.agg #[.int .i64 u, .int .i64 d], .int .i64 n, .int .i64 z] w (RetP9 w L ok)) ∧ (∀ (w : World), Calls Try.prog 17 #[.agg #[.int .i64 u, .int .i64 d], .int .i64 n, .int .i64 z] w (RetP9 w L ok)) := ⟨_, _, mkP_len u d n z, fun w => specMakePuzzle u d n z w, fun w => implMakePuzzle u d n z w⟩
  have hL1 : L.length ≤ 1048576 := by omega
  go_enter Try.func5, Try.ntmps5
  go_wp2_with fail
  have B0 : Below w.heap.size w (w.alloc (.cells #[.int .i64 u, .int .i64 d] 38)) := by (repeat (first | assumption | exact Below.refl _ _ | refine Below.drew ?_ | refine below_drewN ?_ _ | refine Below.setCell ?_ (by first | omega | (simp; done) | (simp; omega)) _ | refine Below.alloc ?_ (by first | omega | (simp; done) | (simp; omega)) _ | refine bchain ?_ (by assumption) (by first | omega | (simp; done) | (simp; omega))))
  have bC0 : Box2 (w.alloc (.cells #[.int .i64 u, .int .i64 d] 38)) (w.heap.size) (.int .i64 u) (.int .i64 d) := ⟨by simp, by go_simp, by go_simp⟩
  generalize (w.alloc (.cells #[.int .i64 u, .int .i64 d] 38)) = w0 at *
  have s0 : w.heap.size < w0.heap.size := bC0.1
  obtain ⟨_, uC0_1, uC1_1⟩ := id bC0
  refine (toSnail_any u d _).mono ?_; rintro e w1 ⟨rfl, hb1⟩
  have s1 := hb1.size
  have B1 : Below w.heap.size w w1 := B0.trans (hb1.mono B0.size)
  have bC1 := bC0.below hb1
  clear bC0
  clear B0 hb1
  obtain ⟨_, uC0_2, uC1_2⟩ := id bC1
  go_wp2_with fail
  refine (hS _).mono ?_; rintro e w2 ⟨q2, k2, rfl, hO2, hb2⟩
  have s2 := hb2.size
  have B2 : Below w.heap.size w w2 := B1.trans (hb2.mono B1.size)
  have bC2 := bC1.below hb2
  clear bC1
  clear B1 hb2
  have rlW : ∀ k, (Value.slice q2 L.length k2).ownBlock = some k → w1.heap.size ≤ k ∧ k < w2.heap.size := fun k hk => rowP_lt hO2 k hk
  have rW2 := hO2
  clear hO2
  obtain ⟨_, uC0_3, uC1_3⟩ := id bC2
  go_wp2_with fail
  generalize hq : World.alloc w2 _ = w2a
  have hb2a : Below w2.heap.size w2 w2a := by subst hq; exact (Below.refl _ _).alloc (Nat.le_refl _) _
  have bW2a : Box1 w2a (w2.heap.size) (.slice q2 L.length k2) := by subst hq; exact ⟨by simp, by go_simp⟩
  have s2a : w2a.heap.size = w2.heap.size + 1 := by subst hq; simp
  clear hq
  have B2a : Below w.heap.size w w2a := B2.trans (hb2a.mono B2.size)
  have bC2a := bC2.below hb2a
  have rW2a := rW2.below hb2a
  clear bC2 rW2
  clear B2 hb2a
  obtain ⟨_, uC0_4, uC1_4⟩ := id bC2a
  obtain ⟨_, uW0_5⟩ := id bW2a
  refine (toSnail_any u d _).mono ?_; rintro e w3 ⟨rfl, hb3⟩
  have s3 := hb3.size
  have B3 : Below w.heap.size w w3 := B2a.trans (hb3.mono B2a.size)
  have bC3 := bC2a.below hb3
  have bW3 := bW2a.below hb3
  have rW3 := rW2a.below hb3
  clear bC2a bW2a rW2a
  clear B2a hb3
  obtain ⟨_, uC0_6, uC1_6⟩ := id bC3
  obtain ⟨_, uW0_7⟩ := id bW3
  go_wp2_with fail
  refine (hI _).mono ?_; rintro e w4 ⟨q4, k4, rfl, hO4, hb4⟩
  have s4 := hb4.size
  have B4 : Below w.heap.size w w4 := B3.trans (hb4.mono B3.size)
  have bC4 := bC3.below hb4
  have bW4 := bW3.below hb4
  have rW4 := rW3.below hb4
  clear bC3 bW3 rW3
  clear B3 hb4
  have rlG : ∀ k, (Value.slice q4 L.length k4).ownBlock = some k → w3.heap.size ≤ k ∧ k < w4.heap.size := fun k hk => rowP_lt hO4 k hk
  have rG4 := hO4
  clear hO4
  obtain ⟨_, uC0_8, uC1_8⟩ := id bC4
  obtain ⟨_, uW0_9⟩ := id bW4
  go_wp2_with fail
  generalize hq : World.alloc w4 _ = w4a
  have hb4a : Below w4.heap.size w4 w4a := by subst hq; exact (Below.refl _ _).alloc (Nat.le_refl _) _
  have bG4a : Box1 w4a (w4.heap.size) (.slice q4 L.length k4) := by subst hq; exact ⟨by simp, by go_simp⟩
  have s4a : w4a.heap.size = w4.heap.size + 1 := by subst hq; simp
  clear hq
  have B4a : Below w.heap.size w w4a := B4.trans (hb4a.mono B4.size)
  have bC4a := bC4.below hb4a
  have bW4a := bW4.below hb4a
  have rW4a := rW4.below hb4a
  have rG4a := rG4.below hb4a
  clear bC4 bW4 rW4 rG4
  clear B4 hb4a
  refine (eqPuzzle_eq q4 q2 k4 k2 L _ rG4a.rd rW4a.rd hL1).mono ?_; rintro e w5 ⟨rfl, hb5⟩
  have s5 := hb5.size
  have B5 : Below w.heap.size w w5 := B4a.trans (hb5.mono B4a.size)
  have bC5 := bC4a.below hb5
  have bW5 := bW4a.below hb5
  have bG5 := bG4a.below hb5
  have rW5 := rW4a.below hb5
  have rG5 := rG4a.below hb5
  clear bC4a bW4a bG4a rW4a rG4a
  clear B4a hb5
  have hky : ¬ (1 + 3 * (L.length : Int) < 0) := by omega
  obtain ⟨_, uC0_10, uC1_10⟩ := id bC5
  obtain ⟨_, uW0_11⟩ := id bW5
  obtain ⟨_, uG0_12⟩ := id bG5
  go_wp2_with fail
  refine (markPuzzle_own w3.heap.size _ _ L 1 _ rG5 (by omega) (by omega)).mono ?_; rintro e w6 ⟨rfl, hM6, hg6⟩
  have s6 := hg6.size
  have B6 : Below w.heap.size w w6 := B5.grown hg6 B5.size (fun k hk => by have := (rlG k hk).1; omega)
  have bC6 := bC5.grown hg6 (fun hk => by have := rlG _ hk.symm; omega)
  have bW6 := bW5.grown hg6 (fun hk => by have := rlG _ hk.symm; omega)
  have bG6 := bG5.grown hg6 (fun hk => by have := rlG _ hk.symm; omega)
  have rW6 := rW5.apart' hg6 (own_apart (fun k hk hk2 => by have := rlW k hk; have := rlG k hk2; omega))
  clear bC5 bW5 bG5 rW5 rG5 B5
  have rGR6 := rowT_rd (sqT_length _ _) hM6
  clear hM6 hg6
  obtain ⟨_, uC0_13, uC1_13⟩ := id bC6
  obtain ⟨_, uW0_14⟩ := id bW6
  obtain ⟨_, uG0_15⟩ := id bG6
  go_wp2_with fail
  refine (heldPuzzle_ok q4 L.length k4 1 _ rGR6 (by omega) (by omega)).mono ?_; rintro e w7 ⟨rfl, hb7⟩
  have s7 := hb7.size
  have B7 : Below w.heap.size w w7 := B6.trans (hb7.mono B6.size)
  have bC7 := bC6.below hb7
  have bW7 := bW6.below hb7
  have bG7 := bG6.below hb7
  have rW7 := rW6.below hb7
  have rGR7 := rGR6.below hb7
  clear bC6 bW6 bG6 rW6 rGR6
  clear B6 hb7
  obtain ⟨_, uC0_16, uC1_16⟩ := id bC7
  obtain ⟨_, uW0_17⟩ := id bW7
  obtain ⟨_, uG0_18⟩ := id bG7
  go_wp2_with fail
  obtain ⟨_, uC0_19, uC1_19⟩ := id bC7
  obtain ⟨_, uW0_20⟩ := id bW7
  obtain ⟨_, uG0_21⟩ := id bG7
  refine (toSnail_any u d _).mono ?_; rintro e w8 ⟨rfl, hb8⟩
  have s8 := hb8.size
  have B8 : Below w.heap.size w w8 := B7.trans (hb8.mono B7.size)
  have bC8 := bC7.below hb8
  have bW8 := bW7.below hb8
  have bG8 := bG7.below hb8
  have rW8 := rW7.below hb8
  have rGR8 := rGR7.below hb8
  clear bC7 bW7 bG7 rW7 rGR7
  clear B7 hb8
  obtain ⟨_, uC0_22, uC1_22⟩ := id bC8
  obtain ⟨_, uW0_23⟩ := id bW8
  obtain ⟨_, uG0_24⟩ := id bG8
  go_wp2_with fail
  refine (hI _).mono ?_; rintro e w9 ⟨q9, k9, rfl, hO9, hb9⟩
  have s9 := hb9.size
  have B9 : Below w.heap.size w w9 := B8.trans (hb9.mono B8.size)
  have bC9 := bC8.below hb9
  have bW9 := bW8.below hb9
  have bG9 := bG8.below hb9
  have rW9 := rW8.below hb9
  have rGR9 := rGR8.below hb9
  clear bC8 bW8 bG8 rW8 rGR8
  clear B8 hb9
  have rlH : ∀ k, (Value.slice q9 L.length k9).ownBlock = some k → w8.heap.size ≤ k ∧ k < w9.heap.size := fun k hk => rowP_lt hO9 k hk
  have rH9 := hO9
  clear hO9
  obtain ⟨_, uC0_25, uC1_25⟩ := id bC9
  obtain ⟨_, uW0_26⟩ := id bW9
  obtain ⟨_, uG0_27⟩ := id bG9
  go_wp2_with fail
  generalize hq : World.alloc w9 _ = w9a
  have hb9a : Below w9.heap.size w9 w9a := by subst hq; exact (Below.refl _ _).alloc (Nat.le_refl _) _
  have bH9a : Box1 w9a (w9.heap.size) (.slice q9 L.length k9) := by subst hq; exact ⟨by simp, by go_simp⟩
  have s9a : w9a.heap.size = w9.heap.size + 1 := by subst hq; simp
  clear hq
  have B9a : Below w.heap.size w w9a := B9.trans (hb9a.mono B9.size)
  have bC9a := bC9.below hb9a
  have bW9a := bW9.below hb9a
  have bG9a := bG9.below hb9a
  have rW9a := rW9.below hb9a
  have rGR9a := rGR9.below hb9a
  have rH9a := rH9.below hb9a
  clear bC9 bW9 bG9 rW9 rGR9 rH9
  clear B9 hb9a
  refine (eqPuzzle_eq q9 q2 k9 k2 L _ rH9a.rd rW9a.rd hL1).mono ?_; rintro e w10 ⟨rfl, hb10⟩
  have s10 := hb10.size
  have B10 : Below w.heap.size w w10 := B9a.trans (hb10.mono B9a.size)
  have bC10 := bC9a.below hb10
  have bW10 := bW9a.below hb10
  have bG10 := bG9a.below hb10
  have bH10 := bH9a.below hb10
  have rW10 := rW9a.below hb10
  have rGR10 := rGR9a.below hb10
  have rH10 := rH9a.below hb10
  clear bC9a bW9a bG9a bH9a rW9a rGR9a rH9a
  clear B9a hb10
  obtain ⟨_, uC0_28, uC1_28⟩ := id bC10
  obtain ⟨_, uW0_29⟩ := id bW10
  obtain ⟨_, uG0_30⟩ := id bG10
  obtain ⟨_, uH0_31⟩ := id bH10
  go_wp2_with fail
  refine (heldPuzzle_ok q4 L.length k4 1 _ rGR10 (by omega) (by omega)).mono ?_; rintro e w11 ⟨rfl, hb11⟩
  have s11 := hb11.size
  have B11 : Below w.heap.size w w11 := B10.trans (hb11.mono B10.size)
  have bC11 := bC10.below hb11
  have bW11 := bW10.below hb11
  have bG11 := bG10.below hb11
  have bH11 := bH10.below hb11
  have rW11 := rW10.below hb11
  have rGR11 := rGR10.below hb11
  have rH11 := rH10.below hb11
  clear bC10 bW10 bG10 bH10 rW10 rGR10 rH10
  clear B10 hb11
  go_wp2_with fail
  go_ret
  exact ⟨rfl, B11⟩
set_option maxRecDepth 100000 in
theorem fnExactMakePuzzle_lifted (os : Os) (started : os.Started) (H : Type) (enc : TypeId × Value → H) :
    ReturnsInHanded {} Try.checked os 5 .any (Rows.fnExactMakePuzzleSpec.pre6 enc Try.prog Try.f5 Rows.fnExactMakePuzzleRow.domain false) (Rows.fnExactMakePuzzleSpec.post enc Try.prog Try.f5 false true false false) := by
  refine returnsInHanded_of_change (C := Try.checked) own started (by kernel_rfl) Try.func5
    (ChangeSpec.witness6 (enc := enc) (C := Try.checked) false ⟨#[], #[.agg #[.int .i64 0, .int .i64 0], .int .i64 0, .int .i64 0], []⟩ 8 (by kernel_rfl) (by kernel_rfl) (by kernel_rfl) (by kernel_rfl)) ?_
  intro W base args ds gs before hval0 hW hcnd _
  have hval : ∀ (j : Nat) t v, Try.f5.params[j]? = some t → args[j]? = some v → Value.okWide Try.prog W .any base t v := hval0
  have hW' := hW
  obtain ⟨p, q, hA0, hV, rfl, hfz, hnd⟩ := hW
  have hA : DataW.TrodAll enc Try.prog W 0 (fun _ => true) true Try.f5.params.toList args.toList ds p := hA0
  rw [Try.params5] at hA hval
  obtain ⟨v0, vs0, d0, ds0, p0, q0, hargs, rfl, rfl, h0, r0⟩ := trodAll_cons hA
  obtain ⟨v1, vs1, d1, ds1, p1, q1, rfl, rfl, rfl, h1, r1⟩ := trodAll_cons r0
  obtain ⟨v2, vs2, d2, ds2, p2, q2, rfl, rfl, rfl, h2, r2⟩ := trodAll_cons r1
  obtain ⟨rfl, rfl, rfl⟩ := trodAll_nil r2
  obtain rfl : args = #[v0, v1, v2] := by cases args; simp_all
  obtain ⟨rfl, rfl⟩ := trodVars_none hV
  have k0 := h0
  have lt0 : ∀ x ∈ p0, x.block < W.heap.size := by obtain ⟨m, hm⟩ := k0; exact DataW.trod_lt m _ _ _ hm
  have k1 := h1
  have lt1 : ∀ x ∈ p1, x.block < W.heap.size := by obtain ⟨m, hm⟩ := k1; exact DataW.trod_lt m _ _ _ hm
  have k2 := h2
  have lt2 : ∀ x ∈ p2, x.block < W.heap.size := by obtain ⟨m, hm⟩ := k2; exact DataW.trod_lt m _ _ _ hm
  obtain ⟨c0_0, c0_1, y0_0, y0_1, m0, rfl, rfl, rfl, hy0_0, hy0_1⟩ := open_agg2 Try.underlying38 (by kernel_rfl) cells38 (hval 0 38 v0 rfl rfl) h0
  obtain ⟨a0_0, e0_0, rfl, x0_0⟩ := DataW.trod_int Try.underlying3 hy0_0
  obtain ⟨a0_1, e0_1, rfl, x0_1⟩ := DataW.trod_int Try.underlying3 hy0_1
  simp at e0_0 e0_1
  subst e0_0 e0_1
  obtain ⟨a1, rfl, rfl, rfl, x1⟩ := open_int Try.underlying3 (hval 1 3 v1 rfl rfl) h1
  obtain ⟨a2, rfl, rfl, rfl, x2⟩ := open_int Try.underlying3 (hval 2 3 v2 rfl rfl) h2
  clear hA0 hval0
  refine (fnExactMakePuzzle_walk a0_0 a0_1 a1 a2 W x0_0 x0_1 x1 x2).mono fun e W' ⟨he, bel⟩ => ?_
  subst he
  exact ⟨_, rfl, _, _, _, [], _, [], hW', trodAll_mk1 (shut_bool Try.underlying4 _), (trodAll_cons_mk (Below.trod laidOut (by kernel_rfl) (of_decide_eq_true (by kernel_rfl)) k0 bel lt0) (trodAll_cons_mk (Below.trod laidOut (by kernel_rfl) (of_decide_eq_true (by kernel_rfl)) k1 bel lt1) (trodAll_cons_mk (Below.trod laidOut (by kernel_rfl) (of_decide_eq_true (by kernel_rfl)) k2 bel lt2) trodAll_mk0))), rfl, bel.frame _, fun h => by cases h⟩
theorem fnExactMakePuzzle_over : Rows.fnExactMakePuzzleRow.holds Try.pinned (OpenSpec.ofChange Rows.fnExactMakePuzzleSpec) :=
  OpenClaim.holds_of_wide 5 Try.f5 rfl rfl rfl rfl rfl rfl rfl ⟨rfl, rfl, rfl, rfl, rfl⟩ rfl rfl rfl rfl rfl (by kernel_rfl) Try.func5 (by kernel_rfl)
    (of_decide_eq_true (by kernel_rfl)) (by unfold Func.isWrapper; first | (rw [if_pos (by decide +kernel)]; kernel_rfl) | (rw [if_neg (by decide +kernel)]; exact ⟨rfl, rfl⟩))
    (fun os started H enc _ => fnExactMakePuzzle_lifted os started H enc)
/-- The statement, as it is given. -/
theorem fnExactMakePuzzle_holds : Rows.FnExactMakePuzzleSaid := fnExactMakePuzzle_over

end fnExactMakePuzzle
end Go.Proofs.Ytnnokfecjdmjpab
