/- The function IsDesk of chapter 10 answers as the model at every desk (every field of the answer), it does not panic, it writes into nothing that was there before the call. Conditions: none. -/
import Derived.Test.YtemaoaepfepolaaRows
import Derived.Test.YtemaoaepfepolaaDesk
import Derived.WalkKit
import Derived.ProofKit
import Derived.OpenShut
import Derived.ShutString
import Derived.ChangeOld
import Derived.Below
import Derived.Lib.SmallJoins
namespace Go.Proofs.Ytemaoaepfepolaa
open Go.ChangeShapes Go.WideShapes Go.ChangeAt Go.RowKit Go.Joins
open Go.ChangeMaps (open_string shut_string)
set_option linter.unusedVariables false
set_option linter.unusedSimpArgs false
namespace fnExactIsDesk
theorem own : ownKnob Try.prog.godebug = none := by kernel_rfl
theorem laidOut : laidOutB Try.prog = true := by kernel_rfl
theorem cellsDesk : Try.prog.cellsOf 31 = 2 := by kernel_rfl
set_option maxHeartbeats 2000000 in
theorem fnExactIsDesk_walk (f0 : Int) (a0 : Option Addr) (cap0 : Nat) (xs : List (Int × Int)) (w : World) (_ : (Lit.int .i64 f0).wf = true) (h : RdP w a0 xs) (hm : xs.length ≤ maxLen) :
    Calls Try.prog 4 #[.agg #[.slice a0 xs.length cap0, .int .i64 f0]] w fun e w' => e = .returned (.bool true) ∧ Below w.heap.size w w' := by
  unfold maxLen at hm
  by_cases hbig : (1048576 : Int) < (xs.length : Int)
  · go_enter Try.func4, Try.ntmps4
    go_wp2_with fail
    have b0 : Below w.heap.size w (w.alloc (.cells #[.slice a0 xs.length cap0, .int .i64 f0] 31)) := (Below.refl _ _).alloc (Nat.le_refl _) _
    refine (szDesk_big a0 xs.length cap0 f0 (by omega) (by omega) _).mono ?_; rintro e w0 ⟨rfl, hb0⟩
    have B0 : Below w.heap.size w w0 := b0.trans (hb0.mono (by simp))
    go_wp2_with fail
    go_ret
    exact ⟨rfl, B0⟩
  · have hx : xs.length ≤ 1048576 := by omega
    have hx0 : xs.length ≤ 4611686018427387904 := by omega
    obtain ⟨r0, hS, hI⟩ : ∃ (r0 : Bool), (∀ (a : Option Addr) (cap : Nat) (w : World), RdP w a xs → Calls Try.prog 12 #[.agg #[.slice a xs.length cap, .int .i64 f0]] w fun e w' => e = .returned (.bool r0) ∧ Below w.heap.size w w') ∧ (∀ (a : Option Addr) (cap : Nat) (w : World), RdP w a xs → Calls Try.prog 14 #[.agg #[.slice a xs.length cap, .int .i64 f0]] w fun e w' => e = .returned (.bool r0) ∧ Below w.heap.size w w') := ⟨_, fun a cap w h => specIsDesk a cap xs f0 w h hx, fun a cap w h => implIsDesk a cap xs f0 w h hx⟩
    go_enter Try.func4, Try.ntmps4
    go_wp2_with fail
    have b0 : Below w.heap.size w (w.alloc (.cells #[.slice a0 xs.length cap0, .int .i64 f0] 31)) := (Below.refl _ _).alloc (Nat.le_refl _) _
    refine (szDesk_ok a0 xs.length cap0 f0 hx _).mono ?_; rintro e w0 ⟨rfl, hb0⟩
    have hz0 : w.heap.size < w0.heap.size := by have := hb0.size; simp at this; omega
    have hcA0 := fun o => (bcell hb0).1 w.heap.size o (by simp)
    have B0 : Below w.heap.size w w0 := b0.trans (hb0.mono (by simp))
    go_wp2_with fail
    refine (toDesk_any a0 cap0 xs f0 _ (h.below B0) hx).mono ?_; rintro e w1 ⟨q1, rfl, hO1, hb1⟩
    have hz1 : w.heap.size < w1.heap.size := by have := hb1.size; omega
    have hcA1 := fun o => (bcell hb1).1 w.heap.size o (by omega)
    have B1 : Below w.heap.size w w1 := B0.trans (hb1.mono (by omega))
    go_wp2_with fail
    refine (hS _ _ _ hO1.rd).mono ?_; rintro e w2 ⟨rfl, hb2⟩
    have hz2 : w.heap.size < w2.heap.size := by have := hb2.size; omega
    have hcA2 := fun o => (bcell hb2).1 w.heap.size o (by omega)
    have B2 : Below w.heap.size w w2 := B1.trans (hb2.mono (by omega))
    go_wp2_with fail
    refine (toDesk_any a0 cap0 xs f0 _ (h.below B2) hx).mono ?_; rintro e w3 ⟨q3, rfl, hO3, hb3⟩
    have hz3 : w.heap.size < w3.heap.size := by have := hb3.size; omega
    have hcA3 := fun o => (bcell hb3).1 w.heap.size o (by omega)
    have B3 : Below w.heap.size w w3 := B2.trans (hb3.mono (by omega))
    go_wp2_with fail
    generalize hq : World.alloc w3 _ = w3a
    have hb3a : Below w3.heap.size w3 w3a := by subst hq; exact (Below.refl _ _).alloc (Nat.le_refl _) _
    have hz3a : w3.heap.size < w3a.heap.size := by subst hq; simp
    have k1 : w3a.cell? ⟨w3.heap.size, 1, none⟩ = some (.int .i64 f0) := by subst hq; go_simp
    have k0 : w3a.cell? ⟨w3.heap.size, 0, none⟩ = some (.slice q3 xs.length xs.length) := by subst hq; go_simp
    clear hq
    have hcA3a := fun o => (bcell hb3a).1 w.heap.size o (by omega)
    have B3a : Below w.heap.size w w3a := B3.trans (hb3a.mono (by omega))
    refine (hI _ _ _ (hO3.rd.below hb3a)).mono ?_; rintro e w4 ⟨rfl, hb4⟩
    have hz4 : w.heap.size < w4.heap.size := by have := hb4.size; omega
    have hcA4 := fun o => (bcell hb4).1 w.heap.size o (by omega)
    have B4 : Below w.heap.size w w4 := B3a.trans (hb4.mono (by omega))
    have hy4 : w3.heap.size < w4.heap.size := by have := hb4.size; omega
    have hcX4 := fun o => (bcell hb4).1 w3.heap.size o (by omega)
    go_wp2_with fail
    have j1 : w4.cell? ⟨w.heap.size, 1, none⟩ = some (.int .i64 f0) := by rw [hcA4, hcA3a, hcA3, hcA2, hcA1, hcA0]; go_simp
    have y1 : w4.cell? ⟨w3.heap.size, 1, none⟩ = some (.int .i64 f0) := by rw [hcX4]; exact k1
    have j0 : w4.cell? ⟨w.heap.size, 0, none⟩ = some (.slice a0 xs.length cap0) := by rw [hcA4, hcA3a, hcA3, hcA2, hcA1, hcA0]; go_simp
    have y0 : w4.cell? ⟨w3.heap.size, 0, none⟩ = some (.slice q3 xs.length xs.length) := by rw [hcX4]; exact k0
    have R0 : RdP w4 a0 xs := h.below B4
    have R3 : RdP w4 q3 xs := (hO3.rd.below hb3a).below hb4
    have BB4 := Lib.hid B4
    clear hcA4 hcA3a hcA3 hcA2 hcA1 hcA0 hcX4 k0 k1 hO3 hO1 hS hI h hb4 hb3a hb3 hb2 hb1 hb0 b0 B0 B1 B2 B3 B3a B4
    go_region_held3 (fun v => Below w4.heap.size w4 v ∧ v.cell? ⟨w.heap.size, 0, none⟩ = some (.slice a0 xs.length cap0) ∧ v.cell? ⟨w.heap.size, 1, none⟩ = some (.int .i64 f0) ∧ v.cell? ⟨w3.heap.size, 0, none⟩ = some (.slice q3 xs.length xs.length) ∧ v.cell? ⟨w3.heap.size, 1, none⟩ = some (.int .i64 f0))
      (refine ⟨?_, ?_, ?_, ?_, ?_⟩ <;> first | assumption | (go_simp; done) | ((repeat (first | assumption | exact Below.refl _ _ | refine Below.drew ?_ | refine below_drewN ?_ _ | refine Below.alloc ?_ (by first | omega | (simp; done) | (simp; omega)) _ | refine bchain ?_ (by assumption) (by first | omega | (simp; done) | (simp; omega)))); done))
      (first | (go_at_call 13; refine (toDesk_any a0 cap0 xs f0 _ (R0.below (by (repeat (first | assumption | exact Below.refl _ _ | refine Below.drew ?_ | refine below_drewN ?_ _ | refine Below.alloc ?_ (by first | omega | (simp; done) | (simp; omega)) _ | refine bchain ?_ (by assumption) (by first | omega | (simp; done) | (simp; omega)))))) hx).mono ?_; rintro e w5 ⟨q5, rfl, hO5, hb5⟩; have hs5 := hb5.size; (try simp only [World.size_alloc, World.size_drew] at hs5); have hcA5 := fun o => (bcell hb5).1 w.heap.size o (by first | omega | (simp; done) | (simp; omega)); have hcX5 := fun o => (bcell hb5).1 w3.heap.size o (by first | omega | (simp; done) | (simp; omega))) | (go_at_call 8; refine (eqDesk_eq _ _ _ _ xs f0 _ (R3.below (by (repeat (first | assumption | exact Below.refl _ _ | refine Below.drew ?_ | refine below_drewN ?_ _ | refine Below.alloc ?_ (by first | omega | (simp; done) | (simp; omega)) _ | refine bchain ?_ (by assumption) (by first | omega | (simp; done) | (simp; omega)))))) (hO5.rd.below (by (repeat (first | assumption | exact Below.refl _ _ | refine Below.drew ?_ | refine below_drewN ?_ _ | refine Below.alloc ?_ (by first | omega | (simp; done) | (simp; omega)) _ | refine bchain ?_ (by assumption) (by first | omega | (simp; done) | (simp; omega)))))) hx).mono ?_; rintro e w6 ⟨rfl, hb6⟩; have hs6 := hb6.size; (try simp only [World.size_alloc, World.size_drew] at hs6); have hcA6 := fun o => (bcell hb6).1 w.heap.size o (by first | omega | (simp; done) | (simp; omega)); have hcX6 := fun o => (bcell hb6).1 w3.heap.size o (by first | omega | (simp; done) | (simp; omega))))
    all_goals (rename_i hSS; have hS1 := hSS.1; go_wp2_with fail; go_ret; exact ⟨rfl, BB4.out.trans (hS1.mono BB4.out.size)⟩)
set_option maxRecDepth 100000 in
theorem fnExactIsDesk_lifted (os : Os) (started : os.Started) (H : Type) (enc : TypeId × Value → H) :
    ReturnsInHanded {} Try.checked os 4 .any (Rows.fnExactIsDeskSpec.pre6 enc Try.prog Try.f4 Rows.fnExactIsDeskRow.domain false) (Rows.fnExactIsDeskSpec.post enc Try.prog Try.f4 false true false false) := by
  refine returnsInHanded_of_change (C := Try.checked) own started (by kernel_rfl) Try.func4
    (ChangeSpec.witness6 (enc := enc) (C := Try.checked) false ⟨#[], #[.agg #[.slice none 0 0, .int .i64 0]], []⟩ 8 (by kernel_rfl) (by kernel_rfl) (by kernel_rfl) (by kernel_rfl)) ?_
  intro W base args ds gs before hval0 hW hcnd _
  have hval : ∀ (j : Nat) t v, Try.f4.params[j]? = some t → args[j]? = some v → Value.okWide Try.prog W .any base t v := hval0
  have hW' := hW
  obtain ⟨p, q, hA0, hV, rfl, hfz, hnd⟩ := hW
  have hA : DataW.TrodAll enc Try.prog W 0 (fun _ => true) true Try.f4.params.toList args.toList ds p := hA0
  rw [Try.params4] at hA hval
  obtain ⟨v0, vs0, d0, ds0, p0, q0, hargs, rfl, rfl, h0, r0⟩ := trodAll_cons hA
  obtain ⟨rfl, rfl, rfl⟩ := trodAll_nil r0
  obtain rfl : args = #[v0] := by cases args; simp_all
  obtain ⟨rfl, rfl⟩ := trodVars_none hV
  have k0 := h0
  have lt0 : ∀ x ∈ p0, x.block < W.heap.size := by obtain ⟨m, hm⟩ := k0; exact DataW.trod_lt m _ _ _ hm
  obtain ⟨c0_0, c0_1, y0_0, y0_1, m0, rfl, rfl, rfl, hy0_0, hy0_1⟩ := open_agg2 Try.underlying31 (by kernel_rfl) cellsDesk (hval 0 31 v0 rfl rfl) h0
  obtain ⟨a0_1, e0_1, rfl, x0_1⟩ := DataW.trod_int Try.underlying3 hy0_1
  simp at e0_1
  subst e0_1
  obtain ⟨b0, cap0, xs0, E0, R0, M0⟩ := open_pairs_val Try.underlying29 Try.underlying76 (by kernel_rfl) rfl rfl (by kernel_rfl) (by kernel_rfl) Try.underlying3 Try.underlying3 hy0_0
  subst E0
  clear hA0 hval0
  refine (fnExactIsDesk_walk a0_1 b0 cap0 xs0 W x0_1 R0 M0).mono fun e W' ⟨he, bel⟩ => ?_
  subst he
  exact ⟨_, rfl, _, _, _, [], _, [], hW', trodAll_mk1 (shut_bool Try.underlying4 _), (trodAll_cons_mk (Below.trod laidOut (by kernel_rfl) (of_decide_eq_true (by kernel_rfl)) k0 bel lt0) trodAll_mk0), rfl, bel.frame _, fun h => by cases h⟩
theorem fnExactIsDesk_over : Rows.fnExactIsDeskRow.holds Try.pinned (OpenSpec.ofChange Rows.fnExactIsDeskSpec) :=
  OpenClaim.holds_of_wide 4 Try.f4 rfl rfl rfl rfl rfl rfl rfl ⟨rfl, rfl, rfl, rfl, rfl⟩ rfl rfl rfl rfl rfl (by kernel_rfl) Try.func4 (by kernel_rfl)
    (of_decide_eq_true (by kernel_rfl)) (by unfold Func.isWrapper; first | (rw [if_pos (by decide +kernel)]; kernel_rfl) | (rw [if_neg (by decide +kernel)]; exact ⟨rfl, rfl⟩))
    (fun os started H enc _ => fnExactIsDesk_lifted os started H enc)
/-- The statement, as it is given. -/
theorem fnExactIsDesk_holds : Rows.FnExactIsDeskSaid := fnExactIsDesk_over

end fnExactIsDesk
end Go.Proofs.Ytemaoaepfepolaa
