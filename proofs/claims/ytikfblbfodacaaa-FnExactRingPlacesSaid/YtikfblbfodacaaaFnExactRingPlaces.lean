/- The function RingPlaces of chapter 2 answers as the model at every argument (every field of the answer), it does not panic, it writes into nothing that was there before the call, and its lists are new memory. Conditions: none. -/
import Derived.Test.YtikfblbfodacaaaRows
import Derived.Test.YtikfblbfodacaaaPairFrame
import Derived.Test.YtikfblbfodacaaaRgImpl
import Derived.Test.YtikfblbfodacaaaSlicesS
import Derived.WalkKit
import Derived.ProofKit
import Derived.OpenShut
import Derived.ShutString
import Derived.ChangeOld
import Derived.Below
import Derived.Lib.SmallJoins
import Derived.Deep.RegionHeld3
import Derived.Deep.QuietTactic
import Derived.BigQuiet
namespace Go.Proofs.Ytikfblbfodacaaa
open Go.ChangeShapes Go.WideShapes Go.ChangeAt Go.RowKit Go.Joins
open Go.ChangeMaps (open_string shut_string)
set_option linter.unusedVariables false
set_option linter.unusedSimpArgs false
namespace fnExactRingPlaces
theorem own : ownKnob Try.prog.godebug = none := by kernel_rfl
theorem laidOut : laidOutB Try.prog = true := by kernel_rfl
theorem cells32 : Try.prog.cellsOf 32 = 2 := by kernel_rfl
theorem rgR_len (m p s q r : Int) : (rgR m p s q r).length ≤ 200 := by
  unfold rgR
  split
  · rename_i h
    have h2 : (inB m 1 1000 && wkOk p s && wkOk q r) = true := by
      unfold rgB at h
      rw [Bool.and_eq_true] at h
      exact h.1
    rw [Bool.and_eq_true, Bool.and_eq_true] at h2
    have := nrr_bd h2.1.2 h2.2
    have := rgP_len (rgK m p s q r) (nrr s r).toNat
    rw [rgL_len]; omega
  · simp
theorem rgR_two (m p s q r : Int) : ∀ i, i < (rgR m p s q r).length → ((rgR m p s q r).getD i []).length ≤ 1048576 := by
  intro i hi
  unfold rgR at hi ⊢
  split at hi
  · rename_i h
    rw [if_pos h]
    rw [rgL_len] at hi
    rw [rgL_at hi]; simp
  · simp at hi
theorem own_low {w : World} {base B : Nat} {a : Option Addr} {cap : Nat} {ks : List (List Int)} (h : OwnSS w base a cap ks) (hB : B ≤ base) : OwnSS w B a cap ks := by
  obtain ⟨av, cv, h1, h2, h3, h4⟩ := h
  exact ⟨av, cv, row_base h1 hB, fun i hi => row_base (h2 i hi) hB, h3, h4⟩
set_option maxHeartbeats 4000000 in
theorem fnExactRingPlaces_walk (a0 a1_0 a1_1 a2_0 a2_1 : Int) (w : World) (_ : (Lit.int .i64 a0).wf = true) (_ : (Lit.int .i64 a1_0).wf = true) (_ : (Lit.int .i64 a1_1).wf = true) (_ : (Lit.int .i64 a2_0).wf = true) (_ : (Lit.int .i64 a2_1).wf = true) :
    Calls Try.prog 4 #[.int .i64 a0, .agg #[.int .i64 a1_0, .int .i64 a1_1], .agg #[.int .i64 a2_0, .int .i64 a2_1]] w fun e w' => e = .returned (.bool true) ∧ Below w.heap.size w w' := by
  obtain ⟨L, ok, hL0, hL2, hS, hI⟩ : ∃ (L : List (List Int)) (ok : Bool), L.length ≤ 200 ∧ (∀ i, i < L.length → (L.getD i []).length ≤ 1048576) ∧ (∀ (w : World) (B : Nat), B ≤ w.heap.size → Calls Try.prog 12 #[.int .i64 a0, .agg #[.int .i64 a1_0, .int .i64 a1_1], .agg #[.int .i64 a2_0, .int .i64 a2_1]] w fun e w' => ∃ a cap, e = .returned (.tuple #[.slice a L.length cap, .bool ok]) ∧ OwnSS w' B a cap L ∧ Below w.heap.size w w') ∧ (∀ (w : World) (B : Nat), B ≤ w.heap.size → Calls Try.prog 14 #[.int .i64 a0, .agg #[.int .i64 a1_0, .int .i64 a1_1], .agg #[.int .i64 a2_0, .int .i64 a2_1]] w fun e w' => ∃ a cap, e = .returned (.tuple #[.slice a L.length cap, .bool ok]) ∧ OwnSS w' B a cap L ∧ Below w.heap.size w w') := ⟨_, _, rgR_len a0 a1_0 a1_1 a2_0 a2_1, rgR_two a0 a1_0 a1_1 a2_0 a2_1, fun w B hB => (specRingPlaces a0 a1_0 a1_1 a2_0 a2_1 w).mono fun e w' ⟨a, c, h1, h2, h3⟩ => ⟨a, c, h1, own_low h2 hB, h3⟩, fun w B hB => (implRingPlaces a0 a1_0 a1_1 a2_0 a2_1 w).mono fun e w' ⟨a, c, h1, h2, h3⟩ => ⟨a, c, h1, own_low h2 hB, h3⟩⟩
  have hL1 : L.length ≤ 1048576 := by omega
  go_enter Try.func4, Try.ntmps4
  go_wp2_with fail
  go_region_held3 (fun v => Below w.heap.size w v ∧ w.heap.size ≤ v.heap.size ∧ w.heap.size + 1 < v.heap.size ∧ v.cell? ⟨w.heap.size, 0, none⟩ = some (.int .i64 a1_0) ∧ v.cell? ⟨w.heap.size, 1, none⟩ = some (.int .i64 a1_1) ∧ v.cell? ⟨w.heap.size + 1, 0, none⟩ = some (.int .i64 a2_0) ∧ v.cell? ⟨w.heap.size + 1, 1, none⟩ = some (.int .i64 a2_1))
    (refine ⟨?_, ?_, ?_, ?_, ?_, ?_, ?_⟩ <;> first | assumption | omega | (go_simp; done) | (simp; done) | (simp; omega) | ((repeat (first | exact Below.refl _ _ | refine Below.drew ?_ | refine below_drewN ?_ _ | refine Below.setCell ?_ (by first | omega | (simp; done) | (simp; omega)) _ | refine Below.alloc ?_ (by first | omega | (simp; done) | (simp; omega)) _ | refine bchain ?_ (by assumption) (by first | omega | (simp; done) | (simp; omega)))); done))
    (first | (go_at_call 13; refine (toWalker_any _ _ _).mono ?_; rintro e w1 ⟨rfl, hb⟩; have hc := (bcell hb).1; have hf := (bcell hb).2; have hz := hb.size; (try simp at hz); have hzA : w.heap.size + 1 < w1.heap.size := (by have := hb.size; (try simp at this); omega); have hcA0 := fun o => (bcell hb).1 (w.heap.size) o (by first | omega | (simp; omega) | (simp; done)); have hcA1 := fun o => (bcell hb).1 (w.heap.size + 1) o (by first | omega | (simp; omega) | (simp; done))) | (go_at_call 12; refine (hS _ w.heap.size (by first | omega | (simp; omega))).mono ?_; rintro e w2 ⟨a2, c2, rfl, hO2, hb⟩; have hc := (bcell hb).1; have hf := (bcell hb).2; have hz := hb.size; (try simp at hz); have hzA : w.heap.size + 1 < w2.heap.size := (by have := hb.size; (try simp at this); omega); have hcA0 := fun o => (bcell hb).1 (w.heap.size) o (by first | omega | (simp; omega) | (simp; done)); have hcA1 := fun o => (bcell hb).1 (w.heap.size + 1) o (by first | omega | (simp; omega) | (simp; done))))
  have B2 : Below w.heap.size w w2 := by first | assumption | ((repeat (first | exact Below.refl _ _ | refine Below.drew ?_ | refine below_drewN ?_ _ | refine Below.setCell ?_ (by first | omega | (simp; done) | (simp; omega)) _ | refine Below.alloc ?_ (by first | omega | (simp; done) | (simp; omega)) _ | refine bchain ?_ (by assumption) (by first | omega | (simp; done) | (simp; omega)))); done)
  have z2 : w.heap.size ≤ w2.heap.size := B2.size
  have e20 : w2.cell? ⟨w.heap.size, 0, none⟩ = some (.int .i64 a1_0) := by first | assumption | (go_simp; done)
  have e21 : w2.cell? ⟨w.heap.size, 1, none⟩ = some (.int .i64 a1_1) := by first | assumption | (go_simp; done)
  have e22 : w2.cell? ⟨w.heap.size + 1, 0, none⟩ = some (.int .i64 a2_0) := by first | assumption | (go_simp; done)
  have e23 : w2.cell? ⟨w.heap.size + 1, 1, none⟩ = some (.int .i64 a2_1) := by first | assumption | (go_simp; done)
  have y2 : w.heap.size + 1 < w2.heap.size := by omega
  go_wp2_with fail
  go_region_held3 (fun v => Below w2.heap.size w2 v ∧ w2.heap.size ≤ v.heap.size ∧ w.heap.size + 1 < v.heap.size ∧ v.cell? ⟨w.heap.size, 0, none⟩ = some (.int .i64 a1_0) ∧ v.cell? ⟨w.heap.size, 1, none⟩ = some (.int .i64 a1_1) ∧ v.cell? ⟨w.heap.size + 1, 0, none⟩ = some (.int .i64 a2_0) ∧ v.cell? ⟨w.heap.size + 1, 1, none⟩ = some (.int .i64 a2_1))
    (refine ⟨?_, ?_, ?_, ?_, ?_, ?_, ?_⟩ <;> first | assumption | omega | (go_simp; done) | (simp; done) | (simp; omega) | ((repeat (first | exact Below.refl _ _ | refine Below.drew ?_ | refine below_drewN ?_ _ | refine Below.setCell ?_ (by first | omega | (simp; done) | (simp; omega)) _ | refine Below.alloc ?_ (by first | omega | (simp; done) | (simp; omega)) _ | refine bchain ?_ (by assumption) (by first | omega | (simp; done) | (simp; omega)))); done))
    (first | (go_at_call 13; refine (toWalker_any _ _ _).mono ?_; rintro e w3 ⟨rfl, hb⟩; have hc := (bcell hb).1; have hf := (bcell hb).2; have hz := hb.size; (try simp at hz); have hzA : w.heap.size + 1 < w3.heap.size := (by have := hb.size; (try simp at this); omega); have hcA0 := fun o => (bcell hb).1 (w.heap.size) o (by first | omega | (simp; omega) | (simp; done)); have hcA1 := fun o => (bcell hb).1 (w.heap.size + 1) o (by first | omega | (simp; omega) | (simp; done))) | (go_at_call 14; refine (hI _ w2.heap.size (by first | omega | (simp; omega))).mono ?_; rintro e w4 ⟨a4, c4, rfl, hO4, hb⟩; have hc := (bcell hb).1; have hf := (bcell hb).2; have hz := hb.size; (try simp at hz); have hzA : w.heap.size + 1 < w4.heap.size := (by have := hb.size; (try simp at this); omega); have hcA0 := fun o => (bcell hb).1 (w.heap.size) o (by first | omega | (simp; omega) | (simp; done)); have hcA1 := fun o => (bcell hb).1 (w.heap.size + 1) o (by first | omega | (simp; omega) | (simp; done))))
  have B4 : Below w2.heap.size w2 w4 := by first | assumption | ((repeat (first | exact Below.refl _ _ | refine Below.drew ?_ | refine below_drewN ?_ _ | refine Below.setCell ?_ (by first | omega | (simp; done) | (simp; omega)) _ | refine Below.alloc ?_ (by first | omega | (simp; done) | (simp; omega)) _ | refine bchain ?_ (by assumption) (by first | omega | (simp; done) | (simp; omega)))); done)
  have z4 : w2.heap.size ≤ w4.heap.size := B4.size
  go_wp2_with fail
  refine (eqIntSS_eq a4 a2 c4 c2 L.length L _ hO4.rd (hO2.rd.below B4) rfl hL1 hL2).mono ?_; rintro e w5 ⟨rfl, hb5⟩
  have C5 : Below w2.heap.size w2 w5 := B4.trans (hb5.mono z4)
  have z5 := C5.size
  go_wp2_with fail
  refine (markIntSS_own w2.heap.size a4 c4 L.length 1 L _ (hO4.below hb5) rfl hL1 hL2 (by omega) (by omega) z5).mono ?_; rintro e w6 ⟨rfl, hR6, hb6⟩
  have C6 : Below w2.heap.size w2 w6 := C5.trans hb6
  have z6 := C6.size
  go_wp2_with fail
  refine (heldIntSS_ok a4 c4 L.length 1 L _ hR6 rfl hL1 hL2 (by omega) (by omega)).mono ?_; rintro e w7 ⟨rfl, hb7⟩
  have C7 : Below w2.heap.size w2 w7 := C6.trans (hb7.mono z6)
  have z7 := C7.size
  have e70 : w7.cell? ⟨w.heap.size, 0, none⟩ = some (.int .i64 a1_0) := by rw [(bcell C7).1 _ _ (by omega)]; exact e20
  have e71 : w7.cell? ⟨w.heap.size, 1, none⟩ = some (.int .i64 a1_1) := by rw [(bcell C7).1 _ _ (by omega)]; exact e21
  have e72 : w7.cell? ⟨w.heap.size + 1, 0, none⟩ = some (.int .i64 a2_0) := by rw [(bcell C7).1 _ _ (by omega)]; exact e22
  have e73 : w7.cell? ⟨w.heap.size + 1, 1, none⟩ = some (.int .i64 a2_1) := by rw [(bcell C7).1 _ _ (by omega)]; exact e23
  have y7 : w.heap.size + 1 < w7.heap.size := by omega
  go_wp2_with fail
  go_region_held3 (fun v => Below w7.heap.size w7 v ∧ w7.heap.size ≤ v.heap.size ∧ w.heap.size + 1 < v.heap.size ∧ v.cell? ⟨w.heap.size, 0, none⟩ = some (.int .i64 a1_0) ∧ v.cell? ⟨w.heap.size, 1, none⟩ = some (.int .i64 a1_1) ∧ v.cell? ⟨w.heap.size + 1, 0, none⟩ = some (.int .i64 a2_0) ∧ v.cell? ⟨w.heap.size + 1, 1, none⟩ = some (.int .i64 a2_1))
    (refine ⟨?_, ?_, ?_, ?_, ?_, ?_, ?_⟩ <;> first | assumption | omega | (go_simp; done) | (simp; done) | (simp; omega) | ((repeat (first | exact Below.refl _ _ | refine Below.drew ?_ | refine below_drewN ?_ _ | refine Below.setCell ?_ (by first | omega | (simp; done) | (simp; omega)) _ | refine Below.alloc ?_ (by first | omega | (simp; done) | (simp; omega)) _ | refine bchain ?_ (by assumption) (by first | omega | (simp; done) | (simp; omega)))); done))
    (first | (go_at_call 13; refine (toWalker_any _ _ _).mono ?_; rintro e w8 ⟨rfl, hb⟩; have hc := (bcell hb).1; have hf := (bcell hb).2; have hz := hb.size; (try simp at hz); have hzA : w.heap.size + 1 < w8.heap.size := (by have := hb.size; (try simp at this); omega); have hcA0 := fun o => (bcell hb).1 (w.heap.size) o (by first | omega | (simp; omega) | (simp; done)); have hcA1 := fun o => (bcell hb).1 (w.heap.size + 1) o (by first | omega | (simp; omega) | (simp; done))) | (go_at_call 14; refine (hI _ w7.heap.size (by first | omega | (simp; omega))).mono ?_; rintro e w9 ⟨a9, c9, rfl, hO9, hb⟩; have hc := (bcell hb).1; have hf := (bcell hb).2; have hz := hb.size; (try simp at hz); have hzA : w.heap.size + 1 < w9.heap.size := (by have := hb.size; (try simp at this); omega); have hcA0 := fun o => (bcell hb).1 (w.heap.size) o (by first | omega | (simp; omega) | (simp; done)); have hcA1 := fun o => (bcell hb).1 (w.heap.size + 1) o (by first | omega | (simp; omega) | (simp; done))))
  have B9 : Below w7.heap.size w7 w9 := by first | assumption | ((repeat (first | exact Below.refl _ _ | refine Below.drew ?_ | refine below_drewN ?_ _ | refine Below.setCell ?_ (by first | omega | (simp; done) | (simp; omega)) _ | refine Below.alloc ?_ (by first | omega | (simp; done) | (simp; omega)) _ | refine bchain ?_ (by assumption) (by first | omega | (simp; done) | (simp; omega)))); done)
  have C9 : Below w2.heap.size w2 w9 := C7.trans (B9.mono z7)
  have z9 := C9.size
  go_wp2_with fail
  refine (eqIntSS_eq a9 a2 c9 c2 L.length L _ hO9.rd (hO2.rd.below C9) rfl hL1 hL2).mono ?_; rintro e w10 ⟨rfl, hb10⟩
  have C10 : Below w2.heap.size w2 w10 := C9.trans (hb10.mono z9)
  have z10 := C10.size
  go_wp2_with fail
  refine (heldIntSS_ok a4 c4 L.length 1 L _ (((hR6.below hb7).below B9).below hb10) rfl hL1 hL2 (by omega) (by omega)).mono ?_; rintro e w11 ⟨rfl, hb11⟩
  have C11 : Below w2.heap.size w2 w11 := C10.trans (hb11.mono z10)
  go_wp2_with fail
  go_ret
  exact ⟨rfl, B2.trans (C11.mono z2)⟩
set_option maxRecDepth 100000 in
theorem fnExactRingPlaces_lifted (os : Os) (started : os.Started) (H : Type) (enc : TypeId × Value → H) :
    ReturnsInHanded {} Try.checked os 4 .any (Rows.fnExactRingPlacesSpec.pre6 enc Try.prog Try.f4 Rows.fnExactRingPlacesRow.domain false) (Rows.fnExactRingPlacesSpec.post enc Try.prog Try.f4 false true false false) := by
  refine returnsInHanded_of_change (C := Try.checked) own started (by kernel_rfl) Try.func4
    (ChangeSpec.witness6 (enc := enc) (C := Try.checked) false ⟨#[], #[.int .i64 0, .agg #[.int .i64 0, .int .i64 0], .agg #[.int .i64 0, .int .i64 0]], []⟩ 8 (by kernel_rfl) (by kernel_rfl) (by kernel_rfl) (by kernel_rfl)) ?_
  intro W base args ds gs before hval0 hW hcnd _
  have hval : ∀ (j : Nat) t v, Try.f4.params[j]? = some t → args[j]? = some v → Value.okWide Try.prog W .any base t v := hval0
  have hW' := hW
  obtain ⟨p, q, hA0, hV, rfl, hfz, hnd⟩ := hW
  have hA : DataW.TrodAll enc Try.prog W 0 (fun _ => true) true Try.f4.params.toList args.toList ds p := hA0
  rw [Try.params4] at hA hval
  obtain ⟨v0, vs0, d0, ds0, p0, q0, hargs, rfl, rfl, h0, r0⟩ := trodAll_cons hA
  obtain ⟨v1, vs1, d1, ds1, p1, q1, rfl, rfl, rfl, h1, r1⟩ := trodAll_cons r0
  obtain ⟨v2, vs2, d2, ds2, p2, q2, rfl, rfl, rfl, h2, r2⟩ := trodAll_cons r1
  obtain ⟨rfl, rfl, rfl⟩ := trodAll_nil r2
  obtain rfl : args = #[v0, v1, v2] := by cases args; simp_all
  obtain ⟨rfl, rfl⟩ := trodVars_none hV
  have k0 := h0
  have lt0 : ∀ x ∈ p0, x.block < W.heap.size := by obtain ⟨m, hm⟩ := k0; exact DataW.trod_lt m _ _ _ hm
  have k1 := h1
  have lt1 : ∀ x ∈ p1, x.block < W.heap.size := by obtain ⟨m, hm⟩ := k1; exact DataW.trod_lt m _ _ _ hm
  have k2 := h2
  have lt2 : ∀ x ∈ p2, x.block < W.heap.size := by obtain ⟨m, hm⟩ := k2; exact DataW.trod_lt m _ _ _ hm
  obtain ⟨a0, rfl, rfl, rfl, x0⟩ := open_int Try.underlying3 (hval 0 3 v0 rfl rfl) h0
  obtain ⟨c1_0, c1_1, y1_0, y1_1, m1, rfl, rfl, rfl, hy1_0, hy1_1⟩ := open_agg2 Try.underlying32 (by kernel_rfl) cells32 (hval 1 32 v1 rfl rfl) h1
  obtain ⟨a1_0, e1_0, rfl, x1_0⟩ := DataW.trod_int Try.underlying3 hy1_0
  obtain ⟨a1_1, e1_1, rfl, x1_1⟩ := DataW.trod_int Try.underlying3 hy1_1
  simp at e1_0 e1_1
  subst e1_0 e1_1
  obtain ⟨c2_0, c2_1, y2_0, y2_1, m2, rfl, rfl, rfl, hy2_0, hy2_1⟩ := open_agg2 Try.underlying32 (by kernel_rfl) cells32 (hval 2 32 v2 rfl rfl) h2
  obtain ⟨a2_0, e2_0, rfl, x2_0⟩ := DataW.trod_int Try.underlying3 hy2_0
  obtain ⟨a2_1, e2_1, rfl, x2_1⟩ := DataW.trod_int Try.underlying3 hy2_1
  simp at e2_0 e2_1
  subst e2_0 e2_1
  clear hA0 hval0
  refine (fnExactRingPlaces_walk a0 a1_0 a1_1 a2_0 a2_1 W x0 x1_0 x1_1 x2_0 x2_1).mono fun e W' ⟨he, bel⟩ => ?_
  subst he
  exact ⟨_, rfl, _, _, _, [], _, [], hW', trodAll_mk1 (shut_bool Try.underlying4 _), (trodAll_cons_mk (Below.trod laidOut (by kernel_rfl) (of_decide_eq_true (by kernel_rfl)) k0 bel lt0) (trodAll_cons_mk (Below.trod laidOut (by kernel_rfl) (of_decide_eq_true (by kernel_rfl)) k1 bel lt1) (trodAll_cons_mk (Below.trod laidOut (by kernel_rfl) (of_decide_eq_true (by kernel_rfl)) k2 bel lt2) trodAll_mk0))), rfl, bel.frame _, fun h => by cases h⟩
theorem fnExactRingPlaces_over : Rows.fnExactRingPlacesRow.holds Try.pinned (OpenSpec.ofChange Rows.fnExactRingPlacesSpec) :=
  OpenClaim.holds_of_wide 4 Try.f4 rfl rfl rfl rfl rfl rfl rfl ⟨rfl, rfl, rfl, rfl, rfl⟩ rfl rfl rfl rfl rfl (by kernel_rfl) Try.func4 (by kernel_rfl)
    (of_decide_eq_true (by kernel_rfl)) (by unfold Func.isWrapper; first | (rw [if_pos (by decide +kernel)]; kernel_rfl) | (rw [if_neg (by decide +kernel)]; exact ⟨rfl, rfl⟩))
    (fun os started H enc _ => fnExactRingPlaces_lifted os started H enc)
/-- The statement, as it is given. -/
theorem fnExactRingPlaces_holds : Rows.FnExactRingPlacesSaid := fnExactRingPlaces_over

end fnExactRingPlaces
end Go.Proofs.Ytikfblbfodacaaa
