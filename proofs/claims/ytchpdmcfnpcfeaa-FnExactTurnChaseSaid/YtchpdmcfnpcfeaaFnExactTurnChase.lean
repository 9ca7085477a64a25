/- The function TurnChase of chapter 4 answers as the model at every argument (every field of the answer), it does not panic, and it writes into nothing that was there before the call. Conditions: none. -/
import Derived.Test.YtchpdmcfnpcfeaaRows
import Derived.Test.YtchpdmcfnpcfeaaDogImpl
import Derived.WalkKit
import Derived.ProofKit
import Derived.OpenShut
import Derived.ShutString
import Derived.ChangeOld
import Derived.Below
import Derived.Deep.RegionHeld3
import Derived.Lib.SmallJoins
namespace Go.Proofs.Ytchpdmcfnpcfeaa
open Go.ChangeShapes Go.WideShapes Go.ChangeAt Go.RowKit Go.Joins
open Go.ChangeMaps (open_string shut_string)
set_option linter.unusedVariables false
set_option linter.unusedSimpArgs false
namespace fnExactTurnChase
theorem own : ownKnob Try.prog.godebug = none := by kernel_rfl
theorem laidOut : laidOutB Try.prog = true := by kernel_rfl
theorem cells23 : Try.prog.cellsOf 23 = 4 := by kernel_rfl
theorem eqChase_same (a b c d : Int) (w : World) :
    Calls Try.prog 26 #[.agg #[.int .i64 a, .int .i64 b, .int .i64 c, .int .i64 d], .agg #[.int .i64 a, .int .i64 b, .int .i64 c, .int .i64 d]] w fun e w' => e = .returned (.bool true) ∧ Below w.heap.size w w' := by
  go_enter Try.func26, Try.ntmps26
  go_wp2
  all_goals (go_ret; refine ⟨rfl, ?_⟩)
  all_goals (repeat (first | exact Below.refl _ _ | refine Below.drew ?_ | refine below_drewN ?_ _ | refine Below.setCell ?_ (by first | omega | (simp; done) | (simp; omega)) _ | refine Below.alloc ?_ (by first | omega | (simp; done) | (simp; omega)) _ | refine bchain ?_ (by assumption) (by first | omega | (simp; done) | (simp; omega))))
set_option maxHeartbeats 2000000 in
theorem fnExactTurnChase_walk (a0_0 a0_1 a0_2 a0_3 : Int) (w : World) (_ : (Lit.int .i64 a0_0).wf = true) (_ : (Lit.int .i64 a0_1).wf = true) (_ : (Lit.int .i64 a0_2).wf = true) (_ : (Lit.int .i64 a0_3).wf = true) :
    Calls Try.prog 8 #[.agg #[.int .i64 a0_0, .int .i64 a0_1, .int .i64 a0_2, .int .i64 a0_3]] w fun e w' => e = .returned (.bool true) ∧ Below w.heap.size w w' := by
  obtain ⟨x, y, u, v, b, hS, hI⟩ : ∃ (x y u v : Int) (b : Bool), (∀ w : World, Calls Try.prog 24 #[.agg #[.int .i64 a0_0, .int .i64 a0_1, .int .i64 a0_2, .int .i64 a0_3]] w fun e w' => e = .returned (.tuple #[.agg #[.int .i64 x, .int .i64 y, .int .i64 u, .int .i64 v], .bool b]) ∧ Below w.heap.size w w') ∧ (∀ w : World, Calls Try.prog 25 #[.agg #[.int .i64 a0_0, .int .i64 a0_1, .int .i64 a0_2, .int .i64 a0_3]] w fun e w' => e = .returned (.tuple #[.agg #[.int .i64 x, .int .i64 y, .int .i64 u, .int .i64 v], .bool b]) ∧ Below w.heap.size w w') := ⟨_, _, _, _, _, fun w => specTurnChase a0_0 a0_1 a0_2 a0_3 w, fun w => implTurnChase a0_0 a0_1 a0_2 a0_3 w⟩
  go_enter Try.func8, Try.ntmps8
  go_wp2_with (first | (have _p := hb4; go_at_call 26; refine (eqChase_same _ _ _ _ _).mono ?_; rintro e x5 ⟨rfl, hb5⟩; have hz5 := hb5.size; have hc5 := (bcell hb5).1; have hf5 := (bcell hb5).2; (try simp only [World.size_alloc, World.size_drew] at hz5 hc5 hf5); have hw5 : w.heap.size < x5.heap.size := (by omega); have hcA5 := fun o => hc5 w.heap.size o (by omega); have hfA5 := fun o => hf5 w.heap.size o (by omega); (try (have hlw05 : w.heap.size < _ := (by omega : w.heap.size < x5.heap.size); have hcw05 := fun o => hc5 (w.heap.size) o (by omega); have hfw05 := fun o => hf5 (w.heap.size) o (by omega))); (try (have hlw15 : w.heap.size + 1 < _ := (by omega : w.heap.size + 1 < x5.heap.size); have hcw15 := fun o => hc5 (w.heap.size + 1) o (by omega); have hfw15 := fun o => hf5 (w.heap.size + 1) o (by omega))); (try (have hlx105 : x1.heap.size < _ := (by omega : x1.heap.size < x5.heap.size); have hcx105 := fun o => hc5 (x1.heap.size) o (by omega); have hfx105 := fun o => hf5 (x1.heap.size) o (by omega))); (try (have hlx115 : x1.heap.size + 1 < _ := (by omega : x1.heap.size + 1 < x5.heap.size); have hcx115 := fun o => hc5 (x1.heap.size + 1) o (by omega); have hfx115 := fun o => hf5 (x1.heap.size + 1) o (by omega))); (try (have hlx205 : x2.heap.size < _ := (by omega : x2.heap.size < x5.heap.size); have hcx205 := fun o => hc5 (x2.heap.size) o (by omega); have hfx205 := fun o => hf5 (x2.heap.size) o (by omega))); (try (have hlx215 : x2.heap.size + 1 < _ := (by omega : x2.heap.size + 1 < x5.heap.size); have hcx215 := fun o => hc5 (x2.heap.size + 1) o (by omega); have hfx215 := fun o => hf5 (x2.heap.size + 1) o (by omega))); (try (have hlx305 : x3.heap.size < _ := (by omega : x3.heap.size < x5.heap.size); have hcx305 := fun o => hc5 (x3.heap.size) o (by omega); have hfx305 := fun o => hf5 (x3.heap.size) o (by omega))); (try (have hlx315 : x3.heap.size + 1 < _ := (by omega : x3.heap.size + 1 < x5.heap.size); have hcx315 := fun o => hc5 (x3.heap.size + 1) o (by omega); have hfx315 := fun o => hf5 (x3.heap.size + 1) o (by omega))); (try (have hlx405 : x4.heap.size < _ := (by omega : x4.heap.size < x5.heap.size); have hcx405 := fun o => hc5 (x4.heap.size) o (by omega); have hfx405 := fun o => hf5 (x4.heap.size) o (by omega))); (try (have hlx415 : x4.heap.size + 1 < _ := (by omega : x4.heap.size + 1 < x5.heap.size); have hcx415 := fun o => hc5 (x4.heap.size + 1) o (by omega); have hfx415 := fun o => hf5 (x4.heap.size + 1) o (by omega)))) | (have _p := hb3; go_at_call 25; refine (hI _).mono ?_; rintro e x4 ⟨rfl, hb4⟩; have hz4 := hb4.size; have hc4 := (bcell hb4).1; have hf4 := (bcell hb4).2; (try simp only [World.size_alloc, World.size_drew] at hz4 hc4 hf4); have hw4 : w.heap.size < x4.heap.size := (by omega); have hcA4 := fun o => hc4 w.heap.size o (by omega); have hfA4 := fun o => hf4 w.heap.size o (by omega); (try (have hlw04 : w.heap.size < _ := (by omega : w.heap.size < x4.heap.size); have hcw04 := fun o => hc4 (w.heap.size) o (by omega); have hfw04 := fun o => hf4 (w.heap.size) o (by omega))); (try (have hlw14 : w.heap.size + 1 < _ := (by omega : w.heap.size + 1 < x4.heap.size); have hcw14 := fun o => hc4 (w.heap.size + 1) o (by omega); have hfw14 := fun o => hf4 (w.heap.size + 1) o (by omega))); (try (have hlx104 : x1.heap.size < _ := (by omega : x1.heap.size < x4.heap.size); have hcx104 := fun o => hc4 (x1.heap.size) o (by omega); have hfx104 := fun o => hf4 (x1.heap.size) o (by omega))); (try (have hlx114 : x1.heap.size + 1 < _ := (by omega : x1.heap.size + 1 < x4.heap.size); have hcx114 := fun o => hc4 (x1.heap.size + 1) o (by omega); have hfx114 := fun o => hf4 (x1.heap.size + 1) o (by omega))); (try (have hlx204 : x2.heap.size < _ := (by omega : x2.heap.size < x4.heap.size); have hcx204 := fun o => hc4 (x2.heap.size) o (by omega); have hfx204 := fun o => hf4 (x2.heap.size) o (by omega))); (try (have hlx214 : x2.heap.size + 1 < _ := (by omega : x2.heap.size + 1 < x4.heap.size); have hcx214 := fun o => hc4 (x2.heap.size + 1) o (by omega); have hfx214 := fun o => hf4 (x2.heap.size + 1) o (by omega))); (try (have hlx304 : x3.heap.size < _ := (by omega : x3.heap.size < x4.heap.size); have hcx304 := fun o => hc4 (x3.heap.size) o (by omega); have hfx304 := fun o => hf4 (x3.heap.size) o (by omega))); (try (have hlx314 : x3.heap.size + 1 < _ := (by omega : x3.heap.size + 1 < x4.heap.size); have hcx314 := fun o => hc4 (x3.heap.size + 1) o (by omega); have hfx314 := fun o => hf4 (x3.heap.size + 1) o (by omega)))) | (have _p := hb2; go_at_call 14; refine (toChase_any _ _ _ _ _).mono ?_; rintro e x3 ⟨rfl, hb3⟩; have hz3 := hb3.size; have hc3 := (bcell hb3).1; have hf3 := (bcell hb3).2; (try simp only [World.size_alloc, World.size_drew] at hz3 hc3 hf3); have hw3 : w.heap.size < x3.heap.size := (by omega); have hcA3 := fun o => hc3 w.heap.size o (by omega); have hfA3 := fun o => hf3 w.heap.size o (by omega); (try (have hlw03 : w.heap.size < _ := (by omega : w.heap.size < x3.heap.size); have hcw03 := fun o => hc3 (w.heap.size) o (by omega); have hfw03 := fun o => hf3 (w.heap.size) o (by omega))); (try (have hlw13 : w.heap.size + 1 < _ := (by omega : w.heap.size + 1 < x3.heap.size); have hcw13 := fun o => hc3 (w.heap.size + 1) o (by omega); have hfw13 := fun o => hf3 (w.heap.size + 1) o (by omega))); (try (have hlx103 : x1.heap.size < _ := (by omega : x1.heap.size < x3.heap.size); have hcx103 := fun o => hc3 (x1.heap.size) o (by omega); have hfx103 := fun o => hf3 (x1.heap.size) o (by omega))); (try (have hlx113 : x1.heap.size + 1 < _ := (by omega : x1.heap.size + 1 < x3.heap.size); have hcx113 := fun o => hc3 (x1.heap.size + 1) o (by omega); have hfx113 := fun o => hf3 (x1.heap.size + 1) o (by omega))); (try (have hlx203 : x2.heap.size < _ := (by omega : x2.heap.size < x3.heap.size); have hcx203 := fun o => hc3 (x2.heap.size) o (by omega); have hfx203 := fun o => hf3 (x2.heap.size) o (by omega))); (try (have hlx213 : x2.heap.size + 1 < _ := (by omega : x2.heap.size + 1 < x3.heap.size); have hcx213 := fun o => hc3 (x2.heap.size + 1) o (by omega); have hfx213 := fun o => hf3 (x2.heap.size + 1) o (by omega)))) | (have _p := hb1; go_at_call 24; refine (hS _).mono ?_; rintro e x2 ⟨rfl, hb2⟩; have hz2 := hb2.size; have hc2 := (bcell hb2).1; have hf2 := (bcell hb2).2; (try simp only [World.size_alloc, World.size_drew] at hz2 hc2 hf2); have hw2 : w.heap.size < x2.heap.size := (by omega); have hcA2 := fun o => hc2 w.heap.size o (by omega); have hfA2 := fun o => hf2 w.heap.size o (by omega); (try (have hlw02 : w.heap.size < _ := (by omega : w.heap.size < x2.heap.size); have hcw02 := fun o => hc2 (w.heap.size) o (by omega); have hfw02 := fun o => hf2 (w.heap.size) o (by omega))); (try (have hlw12 : w.heap.size + 1 < _ := (by omega : w.heap.size + 1 < x2.heap.size); have hcw12 := fun o => hc2 (w.heap.size + 1) o (by omega); have hfw12 := fun o => hf2 (w.heap.size + 1) o (by omega))); (try (have hlx102 : x1.heap.size < _ := (by omega : x1.heap.size < x2.heap.size); have hcx102 := fun o => hc2 (x1.heap.size) o (by omega); have hfx102 := fun o => hf2 (x1.heap.size) o (by omega))); (try (have hlx112 : x1.heap.size + 1 < _ := (by omega : x1.heap.size + 1 < x2.heap.size); have hcx112 := fun o => hc2 (x1.heap.size + 1) o (by omega); have hfx112 := fun o => hf2 (x1.heap.size + 1) o (by omega)))) | (go_at_call 14; refine (toChase_any _ _ _ _ _).mono ?_; rintro e x1 ⟨rfl, hb1⟩; have hz1 := hb1.size; have hc1 := (bcell hb1).1; have hf1 := (bcell hb1).2; (try simp only [World.size_alloc, World.size_drew] at hz1 hc1 hf1); have hw1 : w.heap.size < x1.heap.size := (by omega); have hcA1 := fun o => hc1 w.heap.size o (by omega); have hfA1 := fun o => hf1 w.heap.size o (by omega); (try (have hlw01 : w.heap.size < _ := (by omega : w.heap.size < x1.heap.size); have hcw01 := fun o => hc1 (w.heap.size) o (by omega); have hfw01 := fun o => hf1 (w.heap.size) o (by omega))); (try (have hlw11 : w.heap.size + 1 < _ := (by omega : w.heap.size + 1 < x1.heap.size); have hcw11 := fun o => hc1 (w.heap.size + 1) o (by omega); have hfw11 := fun o => hf1 (w.heap.size + 1) o (by omega)))))
  all_goals (go_ret; refine ⟨rfl, ?_⟩)
  all_goals (repeat (first | exact Below.refl _ _ | refine Below.drew ?_ | refine below_drewN ?_ _ | refine Below.setCell ?_ (by first | omega | (simp; done) | (simp; omega)) _ | refine Below.alloc ?_ (by first | omega | (simp; done) | (simp; omega)) _ | refine bchain ?_ (by assumption) (by first | omega | (simp; done) | (simp; omega))))
set_option maxRecDepth 100000 in
theorem fnExactTurnChase_lifted (os : Os) (started : os.Started) (H : Type) (enc : TypeId × Value → H) :
    ReturnsInHanded {} Try.checked os 8 .any (Rows.fnExactTurnChaseSpec.pre6 enc Try.prog Try.f8 Rows.fnExactTurnChaseRow.domain false) (Rows.fnExactTurnChaseSpec.post enc Try.prog Try.f8 false true false false) := by
  refine returnsInHanded_of_change (C := Try.checked) own started (by kernel_rfl) Try.func8
    (ChangeSpec.witness6 (enc := enc) (C := Try.checked) false ⟨#[], #[.agg #[.int .i64 0, .int .i64 0, .int .i64 0, .int .i64 0]], []⟩ 8 (by kernel_rfl) (by kernel_rfl) (by kernel_rfl) (by kernel_rfl)) ?_
  intro W base args ds gs before hval0 hW hcnd _
  have hval : ∀ (j : Nat) t v, Try.f8.params[j]? = some t → args[j]? = some v → Value.okWide Try.prog W .any base t v := hval0
  have hW' := hW
  obtain ⟨p, q, hA0, hV, rfl, hfz, hnd⟩ := hW
  have hA : DataW.TrodAll enc Try.prog W 0 (fun _ => true) true Try.f8.params.toList args.toList ds p := hA0
  rw [Try.params8] at hA hval
  obtain ⟨v0, vs0, d0, ds0, p0, q0, hargs, rfl, rfl, h0, r0⟩ := trodAll_cons hA
  obtain ⟨rfl, rfl, rfl⟩ := trodAll_nil r0
  obtain rfl : args = #[v0] := by cases args; simp_all
  obtain ⟨rfl, rfl⟩ := trodVars_none hV
  have k0 := h0
  have lt0 : ∀ x ∈ p0, x.block < W.heap.size := by obtain ⟨m, hm⟩ := k0; exact DataW.trod_lt m _ _ _ hm
  obtain ⟨c0_0, c0_1, c0_2, c0_3, y0_0, y0_1, y0_2, y0_3, m0, rfl, rfl, rfl, hy0_0, hy0_1, hy0_2, hy0_3⟩ := open_agg4 Try.underlying23 (by kernel_rfl) cells23 (hval 0 23 v0 rfl rfl) h0
  obtain ⟨a0_0, e0_0, rfl, x0_0⟩ := DataW.trod_int Try.underlying3 hy0_0
  obtain ⟨a0_1, e0_1, rfl, x0_1⟩ := DataW.trod_int Try.underlying3 hy0_1
  obtain ⟨a0_2, e0_2, rfl, x0_2⟩ := DataW.trod_int Try.underlying3 hy0_2
  obtain ⟨a0_3, e0_3, rfl, x0_3⟩ := DataW.trod_int Try.underlying3 hy0_3
  simp at e0_0 e0_1 e0_2 e0_3
  subst e0_0 e0_1 e0_2 e0_3
  clear hA0 hval0
  refine (fnExactTurnChase_walk a0_0 a0_1 a0_2 a0_3 W x0_0 x0_1 x0_2 x0_3).mono fun e W' ⟨he, bel⟩ => ?_
  subst he
  exact ⟨_, rfl, _, _, _, [], _, [], hW', trodAll_mk1 (shut_bool Try.underlying4 _), (trodAll_cons_mk (Below.trod laidOut (by kernel_rfl) (of_decide_eq_true (by kernel_rfl)) k0 bel lt0) trodAll_mk0), rfl, bel.frame _, fun h => by cases h⟩
theorem fnExactTurnChase_over : Rows.fnExactTurnChaseRow.holds Try.pinned (OpenSpec.ofChange Rows.fnExactTurnChaseSpec) :=
  OpenClaim.holds_of_wide 8 Try.f8 rfl rfl rfl rfl rfl rfl rfl ⟨rfl, rfl, rfl, rfl, rfl⟩ rfl rfl rfl rfl rfl (by kernel_rfl) Try.func8 (by kernel_rfl)
    (of_decide_eq_true (by kernel_rfl)) (by unfold Func.isWrapper; first | (rw [if_pos (by decide +kernel)]; kernel_rfl) | (rw [if_neg (by decide +kernel)]; exact ⟨rfl, rfl⟩))
    (fun os started H enc _ => fnExactTurnChase_lifted os started H enc)
/-- The statement, as it is given. -/
theorem fnExactTurnChase_holds : Rows.FnExactTurnChaseSaid := fnExactTurnChase_over

end fnExactTurnChase
end Go.Proofs.Ytchpdmcfnpcfeaa
