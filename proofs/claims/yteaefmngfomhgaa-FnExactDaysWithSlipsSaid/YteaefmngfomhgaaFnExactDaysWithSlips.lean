/- The function DaysWithSlips of chapter 1 answers as the model at every argument (every field of the answer), it does not panic, and it writes into nothing that was there before the call. Conditions: none. -/
import Derived.Test.YteaefmngfomhgaaRows
import Derived.Test.YteaefmngfomhgaaOneDays
import Derived.WalkKit
import Derived.ProofKit
import Derived.OpenShut
import Derived.ShutString
import Derived.ChangeOld
import Derived.Below
import Derived.Lib.SmallJoins
namespace Go.Proofs.Yteaefmngfomhgaa
open Go.ChangeShapes Go.WideShapes Go.ChangeAt Go.RowKit Go.Joins
open Go.ChangeMaps (open_string shut_string)
set_option linter.unusedVariables false
set_option linter.unusedSimpArgs false
namespace fnExactDaysWithSlips
theorem own : ownKnob Try.prog.godebug = none := by kernel_rfl
theorem laidOut : laidOutB Try.prog = true := by kernel_rfl
theorem same {up n : Int} {xs : List Int} {w w2 v v2 : World} {e e2 : Ending} (h : DwPost up xs n w e w2) (g : DwPost up xs n v e2 v2) : ∃ (D : Int) (ok : Bool), e = .returned (.tuple #[.int .i64 D, .bool ok]) ∧ e2 = .returned (.tuple #[.int .i64 D, .bool ok]) ∧ Below w.heap.size w w2 ∧ Below v.heap.size v v2 := by
  obtain ⟨D, ok, rfl, h1, h2, h3⟩ := h
  obtain ⟨D', ok', rfl, g1, g2, g3⟩ := g
  have : D = D' ∧ ok = ok' := by
    cases hv : slOk up xs && inB n 1 1000000
    · have a := h2 hv; have b := g2 hv; rw [a.1, a.2, b.1, b.2]; exact ⟨rfl, rfl⟩
    · exact ans_unique (h1 hv) (g1 hv)
  obtain ⟨rfl, rfl⟩ := this
  exact ⟨D, ok, rfl, rfl, h3, g3⟩
set_option maxHeartbeats 2000000 in
theorem fnExactDaysWithSlips_walk (up : Int) (a0 : Option Addr) (cap0 : Nat) (xs : List Int) (n : Int) (w : World) (_ : (Lit.int .i64 up).wf = true) (h : Rd w a0 xs) (hm : xs.length ≤ maxLen) (_ : (Lit.int .i64 n).wf = true) :
    Calls Try.prog 3 #[.int .i64 up, .slice a0 xs.length cap0, .int .i64 n] w fun e w' => e = .returned (.bool true) ∧ Below w.heap.size w w' := by
  unfold maxLen at hm
  by_cases hbig : (1048576 : Int) < (xs.length : Int)
  · go_enter Try.func3, Try.ntmps3
    go_wp2_with fail
    go_ret
    exact ⟨rfl, Below.refl _ _⟩
  · have hx : xs.length ≤ 1048576 := by omega
    have hx0 : xs.length ≤ 4611686018427387904 := by omega
    go_enter Try.func3, Try.ntmps3
    go_wp2_with fail
    refine (toIntS_any a0 cap0 xs _ h hx).mono ?_; rintro e w1 ⟨rfl, hO1, hb1⟩
    go_wp2_with fail
    refine (specDays up n _ _ xs _ hO1.rd hx0).mono ?_; rintro e w2 hD2
    obtain ⟨D, ok, he, hq1, hq2, hb2⟩ := hD2
    have HD := Lib.hid (show DwPost up xs n w1 e w2 from ⟨D, ok, he, hq1, hq2, hb2⟩)
    have HE := Lib.hid he
    subst he
    clear hq1 hq2
    have B2 : Below w.heap.size w w2 := hb1.trans (hb2.mono hb1.size)
    go_wp2_with fail
    refine (toIntS_any a0 cap0 xs _ (h.below B2) hx).mono ?_; rintro e w3 ⟨rfl, hO3, hb3⟩
    have B3 : Below w.heap.size w w3 := B2.trans (hb3.mono B2.size)
    go_wp2_with fail
    refine (implDays up n _ _ xs _ hO3.rd hx0).mono ?_; rintro e w4 hD4
    obtain ⟨D', ok', e1, rfl, _, hb4⟩ := same HD.out hD4
    obtain ⟨rfl, rfl⟩ : D = D' ∧ ok = ok' := by injection e1 with e1; injection e1 with e1; simpa using e1
    clear e1 hD4 HD HE
    have B4 : Below w.heap.size w w4 := B3.trans (hb4.mono B3.size)
    go_wp2_with fail
    refine (toIntS_any a0 cap0 xs _ (h.below B4) hx).mono ?_; rintro e w6 ⟨rfl, hO6, hb6⟩
    have B6 : Below w.heap.size w w6 := B4.trans (hb6.mono B4.size)
    go_wp2_with fail
    refine (eqIntS_eq _ _ _ _ xs _ ((hO3.rd.below hb4).below hb6) hO6.rd hx0).mono ?_; rintro e w7 ⟨rfl, hb7⟩
    have B7 : Below w.heap.size w w7 := B6.trans (hb7.mono B6.size)
    go_wp2_with fail
    go_ret
    exact ⟨rfl, B7⟩
set_option maxRecDepth 100000 in
theorem fnExactDaysWithSlips_lifted (os : Os) (started : os.Started) (H : Type) (enc : TypeId × Value → H) :
    ReturnsInHanded {} Try.checked os 3 .any (Rows.fnExactDaysWithSlipsSpec.pre6 enc Try.prog Try.f3 Rows.fnExactDaysWithSlipsRow.domain false) (Rows.fnExactDaysWithSlipsSpec.post enc Try.prog Try.f3 false true false false) := by
  refine returnsInHanded_of_change (C := Try.checked) own started (by kernel_rfl) Try.func3
    (ChangeSpec.witness6 (enc := enc) (C := Try.checked) false ⟨#[], #[.int .i64 0, .slice none 0 0, .int .i64 0], []⟩ 8 (by kernel_rfl) (by kernel_rfl) (by kernel_rfl) (by kernel_rfl)) ?_
  intro W base args ds gs before hval0 hW hcnd _
  have hval : ∀ (j : Nat) t v, Try.f3.params[j]? = some t → args[j]? = some v → Value.okWide Try.prog W .any base t v := hval0
  have hW' := hW
  obtain ⟨p, q, hA0, hV, rfl, hfz, hnd⟩ := hW
  have hA : DataW.TrodAll enc Try.prog W 0 (fun _ => true) true Try.f3.params.toList args.toList ds p := hA0
  rw [Try.params3] at hA hval
  obtain ⟨v0, vs0, d0, ds0, p0, q0, hargs, rfl, rfl, h0, r0⟩ := trodAll_cons hA
  obtain ⟨v1, vs1, d1, ds1, p1, q1, rfl, rfl, rfl, h1, r1⟩ := trodAll_cons r0
  obtain ⟨v2, vs2, d2, ds2, p2, q2, rfl, rfl, rfl, h2, r2⟩ := trodAll_cons r1
  obtain ⟨rfl, rfl, rfl⟩ := trodAll_nil r2
  obtain rfl : args = #[v0, v1, v2] := by cases args; simp_all
  obtain ⟨rfl, rfl⟩ := trodVars_none hV
  have k0 := h0
  have lt0 : ∀ x ∈ p0, x.block < W.heap.size := by obtain ⟨m, hm⟩ := k0; exact DataW.trod_lt m _ _ _ hm
  have k1 := h1
  have lt1 : ∀ x ∈ p1, x.block < W.heap.size := by obtain ⟨m, hm⟩ := k1; exact DataW.trod_lt m _ _ _ hm
  have k2 := h2
  have lt2 : ∀ x ∈ p2, x.block < W.heap.size := by obtain ⟨m, hm⟩ := k2; exact DataW.trod_lt m _ _ _ hm
  obtain ⟨a0, rfl, rfl, rfl, x0⟩ := open_int Try.underlying3 (hval 0 3 v0 rfl rfl) h0
  obtain ⟨b1, len1, cap1, rfl⟩ := okWide_slice Try.underlying22 (hval 1 22 v1 rfl rfl)
  obtain ⟨xs1, R1, M1, E1⟩ : ∃ xs : List Int, Rd W b1 xs ∧ xs.length ≤ maxLen ∧ xs.length = len1 := by
    obtain ⟨fuel, hf⟩ := h1
    rcases open_ints Try.underlying22 Try.underlying3 (by kernel_rfl) hf with ⟨hcs, _⟩ | ⟨x, l, c, zs, hcs, _, hl, hm, hz, _, hcell, hwz⟩
    · simp [Value.cells] at hcs
      obtain ⟨rfl, rfl, rfl⟩ := hcs
      exact ⟨[], .inl rfl, by simp, rfl⟩
    · simp [Value.cells] at hcs
      obtain ⟨rfl, rfl, rfl⟩ := hcs
      have hz' : zs.length = cap1 := by simpa using hz
      exact ⟨zs.take len1, rd_of_cells (by omega) hcell, by rw [List.length_take]; omega, by rw [List.length_take]; omega⟩
  subst E1
  obtain ⟨a2, rfl, rfl, rfl, x2⟩ := open_int Try.underlying3 (hval 2 3 v2 rfl rfl) h2
  clear hA0 hval0
  refine (fnExactDaysWithSlips_walk a0 b1 cap1 xs1 a2 W x0 R1 M1 x2).mono fun e W' ⟨he, bel⟩ => ?_
  subst he
  exact ⟨_, rfl, _, _, _, [], _, [], hW', trodAll_mk1 (shut_bool Try.underlying4 _), (trodAll_cons_mk (Below.trod laidOut (by kernel_rfl) (of_decide_eq_true (by kernel_rfl)) k0 bel lt0) (trodAll_cons_mk (Below.trod laidOut (by kernel_rfl) (of_decide_eq_true (by kernel_rfl)) k1 bel lt1) (trodAll_cons_mk (Below.trod laidOut (by kernel_rfl) (of_decide_eq_true (by kernel_rfl)) k2 bel lt2) trodAll_mk0))), rfl, bel.frame _, fun h => by cases h⟩
theorem fnExactDaysWithSlips_over : Rows.fnExactDaysWithSlipsRow.holds Try.pinned (OpenSpec.ofChange Rows.fnExactDaysWithSlipsSpec) :=
  OpenClaim.holds_of_wide 3 Try.f3 rfl rfl rfl rfl rfl rfl rfl ⟨rfl, rfl, rfl, rfl, rfl⟩ rfl rfl rfl rfl rfl (by kernel_rfl) Try.func3 (by kernel_rfl)
    (of_decide_eq_true (by kernel_rfl)) (by unfold Func.isWrapper; first | (rw [if_pos (by decide +kernel)]; kernel_rfl) | (rw [if_neg (by decide +kernel)]; exact ⟨rfl, rfl⟩))
    (fun os started H enc _ => fnExactDaysWithSlips_lifted os started H enc)
/-- The statement, as it is given. -/
theorem fnExactDaysWithSlips_holds : Rows.FnExactDaysWithSlipsSaid := fnExactDaysWithSlips_over

end fnExactDaysWithSlips
end Go.Proofs.Yteaefmngfomhgaa
