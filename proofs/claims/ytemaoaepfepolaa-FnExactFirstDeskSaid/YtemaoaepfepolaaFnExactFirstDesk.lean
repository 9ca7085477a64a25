/- The function FirstDesk of chapter 10 answers as the model (every field of the answer), its answer owns its memory, it does not panic, it writes into nothing that was there before the call. Conditions: none. -/
import Derived.Test.YtemaoaepfepolaaRows
import Derived.Test.YtemaoaepfepolaaDesk
import Derived.WalkKit
import Derived.ProofKit
import Derived.OpenShut
import Derived.ShutString
import Derived.ChangeOld
import Derived.Below
import Derived.Lib.SmallJoins
namespace Go.Proofs.Ytemaoaepfepolaa
open Go.ChangeShapes Go.WideShapes Go.ChangeAt Go.RowKit Go.Joins
open Go.ChangeMaps (open_string shut_string)
set_option linter.unusedVariables false
set_option linter.unusedSimpArgs false
namespace fnExactFirstDesk
theorem own : ownKnob Try.prog.godebug = none := by kernel_rfl
theorem laidOut : laidOutB Try.prog = true := by kernel_rfl
theorem own_apart {u v : Value} (h : ∀ k, u.ownBlock = some k → v.ownBlock = some k → False) : u.ownBlock = none ∨ u.ownBlock ≠ v.ownBlock := by
  cases hq : u.ownBlock with
  | none => exact .inl rfl
  | some k => exact .inr fun e => h k hq e.symm
set_option maxHeartbeats 8000000 in
theorem fnExactFirstDesk_walk (w : World) :
    Calls Try.prog 3 #[] w fun e w' => e = .returned (.bool true) ∧ Below w.heap.size w w' := by
  go_enter Try.func3, Try.ntmps3
  go_wp2_with fail
  refine (specFirstDesk _).mono ?_; rintro e w1 ⟨q1, rfl, hO1, hb1⟩
  have hlen : deskXs.length = 2 := rfl
  have B1 : Below w.heap.size w w1 := hb1
  have s1 := hb1.size
  go_wp2_with fail
  generalize hq : World.alloc w1 _ = w1a
  have hb1a : Below w1.heap.size w1 w1a := by subst hq; exact (Below.refl _ _).alloc (Nat.le_refl _) _
  have bW : BoxD w1a w1.heap.size (.slice q1 2 2) (.int .i64 10) := by subst hq; exact ⟨by simp, by go_simp, by go_simp⟩
  clear hq
  have s1a := bW.1
  have B1a : Below w.heap.size w w1a := B1.trans (hb1a.mono s1)
  refine (implFirstDesk _).mono ?_; rintro e w2 ⟨q2, rfl, hO2, hb2⟩
  have s2 := hb2.size
  have B2 : Below w.heap.size w w2 := B1a.trans (hb2.mono B1a.size)
  have bW2 := bW.below hb2
  obtain ⟨_, uW0, uW1⟩ := id bW2
  go_wp2_with fail
  generalize hq : World.alloc w2 _ = w2a
  have hb2a : Below w2.heap.size w2 w2a := by subst hq; exact (Below.refl _ _).alloc (Nat.le_refl _) _
  have bG : BoxD w2a w2.heap.size (.slice q2 2 2) (.int .i64 10) := by subst hq; exact ⟨by simp, by go_simp, by go_simp⟩
  clear hq
  have s2a := bG.1
  have B2a : Below w.heap.size w w2a := B2.trans (hb2a.mono B2.size)
  have bW2a := bW2.below hb2a
  have W2 : OwnP w2a w.heap.size q1 2 deskXs := ((hO1.below hb1a).below hb2).below hb2a
  have G2 : OwnP w2a w1a.heap.size q2 2 deskXs := hO2.below hb2a
  have lt1 := rowP_lt hO1
  have lt2 := rowP_lt hO2
  clear hO1 hO2 hb1 hb1a hb2 hb2a bW bW2 B1 B1a B2
  refine (eqDesk_eq q2 q1 2 2 deskXs 10 _ G2.rd W2.rd (by rw [hlen]; omega)).mono ?_; rintro e w3 ⟨rfl, hb3⟩
  have s3 := hb3.size
  have B3 : Below w.heap.size w w3 := B2a.trans (hb3.mono B2a.size)
  have bW3 := bW2a.below hb3
  have bG3 := bG.below hb3
  have W3 := W2.below hb3
  have G3 := G2.below hb3
  clear bW2a bG W2 G2 hb3 B2a uW0 uW1
  obtain ⟨_, uW0, uW1⟩ := id bW3
  obtain ⟨_, uG0, uG1⟩ := id bG3
  go_wp2_with fail
  refine (markDesk_own _ q2 2 deskXs 10 1 _ G3 (by omega) (by rw [hlen]; omega)).mono ?_; rintro e w4 ⟨rfl, hO4, hg4⟩
  have hne : (Value.slice q1 2 2).ownBlock = none ∨ (Value.slice q1 2 2).ownBlock ≠ (Value.slice q2 2 2).ownBlock := own_apart fun k h1 h2 => by
    have a := lt1 k h1
    have b := lt2 k h2
    omega
  have B4 : Below w.heap.size w w4 := B3.grown hg4 B3.size (fun k hk => by have := lt2 k hk; omega)
  have W4 : OwnP w4 w.heap.size q1 2 deskXs := World.ownsRow.kept W3 hg4 hne
  have bW4 := bW3.grown hg4 (fun e => by have := lt2 w1.heap.size e.symm; omega)
  have bG4 := bG3.grown hg4 (fun e => by have := lt2 w2.heap.size e.symm; omega)
  have R4 : RdP w4 q2 (sqP 1 2) := rowP_rd (sqP_length 1 2) hO4
  have s4 := hg4.size
  clear bW3 bG3 W3 G3 B3 hg4 hO4 uW0 uW1 uG0 uG1
  obtain ⟨_, uW0, uW1⟩ := id bW4
  obtain ⟨_, uG0, uG1⟩ := id bG4
  go_wp2_with fail
  refine (heldDesk_ok q2 2 2 10 1 _ R4 (by omega) (by omega)).mono ?_; rintro e w5 ⟨rfl, hb5⟩
  have s5 := hb5.size
  have B5 : Below w.heap.size w w5 := B4.trans (hb5.mono B4.size)
  have bW5 := bW4.below hb5
  have bG5 := bG4.below hb5
  have W5 := W4.below hb5
  have R5 := R4.below hb5
  clear bW4 bG4 W4 R4 B4 hb5 uW0 uW1 uG0 uG1
  obtain ⟨_, uW0, uW1⟩ := id bW5
  obtain ⟨_, uG0, uG1⟩ := id bG5
  go_wp2_with fail
  refine (implFirstDesk _).mono ?_; rintro e w6 ⟨q6, rfl, hO6, hb6⟩
  have s6 := hb6.size
  have B6 : Below w.heap.size w w6 := B5.trans (hb6.mono B5.size)
  have bW6 := bW5.below hb6
  have bG6 := bG5.below hb6
  have W6 := W5.below hb6
  have R6 := R5.below hb6
  clear bW5 bG5 W5 R5 B5 hb6 uW0 uW1 uG0 uG1
  obtain ⟨_, uW0, uW1⟩ := id bW6
  go_wp2_with fail
  generalize hq : World.alloc w6 _ = w6a
  have hb6a : Below w6.heap.size w6 w6a := by subst hq; exact (Below.refl _ _).alloc (Nat.le_refl _) _
  have bH : BoxD w6a w6.heap.size (.slice q6 2 2) (.int .i64 10) := by subst hq; exact ⟨by simp, by go_simp, by go_simp⟩
  clear hq
  have B6a : Below w.heap.size w w6a := B6.trans (hb6a.mono B6.size)
  have bW6a := bW6.below hb6a
  have bG6a := bG6.below hb6a
  have W6a := W6.below hb6a
  have R6a := R6.below hb6a
  have H6a : OwnP w6a w5.heap.size q6 2 deskXs := hO6.below hb6a
  clear bW6 bG6 W6 R6 B6 hb6a hO6
  refine (eqDesk_eq q6 q1 2 2 deskXs 10 _ H6a.rd W6a.rd (by rw [hlen]; omega)).mono ?_; rintro e w7 ⟨rfl, hb7⟩
  have B7 : Below w.heap.size w w7 := B6a.trans (hb7.mono B6a.size)
  have bG7 := bG6a.below hb7
  have R7 := R6a.below hb7
  clear bW6a bG6a W6a R6a B6a hb7 H6a uW0 uW1 bH
  obtain ⟨_, uG0, uG1⟩ := id bG7
  go_wp2_with fail
  refine (heldDesk_ok q2 2 2 10 1 _ R7 (by omega) (by omega)).mono ?_; rintro e w8 ⟨rfl, hb8⟩
  have B8 : Below w.heap.size w w8 := B7.trans (hb8.mono B7.size)
  clear bG7 R7 B7 hb8 uG0 uG1
  go_wp2_with fail
  go_ret
  exact ⟨rfl, B8⟩
set_option maxRecDepth 100000 in
theorem fnExactFirstDesk_lifted (os : Os) (started : os.Started) (H : Type) (enc : TypeId × Value → H) :
    ReturnsInHanded {} Try.checked os 3 .any (Rows.fnExactFirstDeskSpec.pre6 enc Try.prog Try.f3 Rows.fnExactFirstDeskRow.domain false) (Rows.fnExactFirstDeskSpec.post enc Try.prog Try.f3 false true false false) := by
  refine returnsInHanded_of_change (C := Try.checked) own started (by kernel_rfl) Try.func3
    (ChangeSpec.witness6 (enc := enc) (C := Try.checked) false ⟨#[], #[], []⟩ 8 (by kernel_rfl) (by kernel_rfl) (by kernel_rfl) (by kernel_rfl)) ?_
  intro W base args ds gs before hval0 hW hcnd _
  have hW' := hW
  obtain ⟨p, q, hA0, hV, rfl, hfz, hnd⟩ := hW
  have hA : DataW.TrodAll enc Try.prog W 0 (fun _ => true) true Try.f3.params.toList args.toList ds p := hA0
  rw [Try.params3] at hA
  obtain ⟨hargs, rfl, rfl⟩ := trodAll_nil hA
  obtain rfl : args = #[] := by cases args; simp_all
  obtain ⟨rfl, rfl⟩ := trodVars_none hV
  clear hA0 hval0
  refine (fnExactFirstDesk_walk W).mono fun e W' ⟨he, bel⟩ => ?_
  subst he
  exact ⟨_, rfl, _, _, _, [], _, [], hW', trodAll_mk1 (shut_bool Try.underlying4 _), trodAll_mk0, rfl, bel.frame _, fun h => by cases h⟩
theorem fnExactFirstDesk_over : Rows.fnExactFirstDeskRow.holds Try.pinned (OpenSpec.ofChange Rows.fnExactFirstDeskSpec) :=
  OpenClaim.holds_of_wide 3 Try.f3 rfl rfl rfl rfl rfl rfl rfl ⟨rfl, rfl, rfl, rfl, rfl⟩ rfl rfl rfl rfl rfl (by kernel_rfl) Try.func3 (by kernel_rfl)
    (of_decide_eq_true (by kernel_rfl)) (by unfold Func.isWrapper; first | (rw [if_pos (by decide +kernel)]; kernel_rfl) | (rw [if_neg (by decide +kernel)]; exact ⟨rfl, rfl⟩))
    (fun os started H enc _ => fnExactFirstDesk_lifted os started H enc)
/-- The statement, as it is given. -/
theorem fnExactFirstDesk_holds : Rows.FnExactFirstDeskSaid := fnExactFirstDesk_over

end fnExactFirstDesk
end Go.Proofs.Ytemaoaepfepolaa
