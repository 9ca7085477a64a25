/- The function MostTogether of chapter 8 answers as the model at every argument (every field of the answer), it does not panic, it writes into nothing that was there before the call. Conditions: none. -/
import Derived.Test.YtjfmmdblfhgelaaRows
import Derived.Test.YtjfmmdblfhgelaaPairFrame
import Derived.Test.YtjfmmdblfhgelaaPairsV
import Derived.Test.YtjfmmdblfhgelaaWinWhoI
import Derived.WalkKit
import Derived.ProofKit
import Derived.OpenShut
import Derived.ShutString
import Derived.ChangeOld
import Derived.Below
import Derived.Lib.SmallJoins
namespace Go.Proofs.Ytjfmmdblfhgelaa
open Go.ChangeShapes Go.WideShapes Go.ChangeAt Go.RowKit Go.Joins
open Go.ChangeMaps (open_string shut_string)
set_option linter.unusedVariables false
set_option linter.unusedSimpArgs false
namespace fnExactMostTogether
theorem own : ownKnob Try.prog.godebug = none := by kernel_rfl
theorem laidOut : laidOutB Try.prog = true := by kernel_rfl
set_option maxHeartbeats 2000000 in
theorem fnExactMostTogether_walk (b0 : Option Addr) (cap0 : Nat) (xs : List (Int × Int)) (w : World) (h : RdP w b0 xs) (hm : xs.length ≤ maxLen) :
    Calls Try.prog 5 #[.slice b0 xs.length cap0] w fun e w' => e = .returned (.bool true) ∧ Below w.heap.size w w' := by
  unfold maxLen at hm
  by_cases hbig : (1048576 : Int) < (xs.length : Int)
  · go_enter Try.func5, Try.ntmps5
    go_wp2_with (first | (go_at_call 9; refine (szVisitS_any b0 xs.length cap0 _ (by omega)).mono ?_; rw [if_pos hbig]; rintro e w1 ⟨rfl, rfl⟩))
    go_ret
    exact ⟨rfl, Below.refl _ _⟩
  · have hx : xs.length ≤ 1048576 := by omega
    obtain ⟨x, y, b, hS, hI⟩ : ∃ (x y : Int) (b : Bool), (∀ (a : Option Addr) (cap : Nat) (w : World), RdP w a xs → Calls Try.prog 23 #[.slice a xs.length cap] w fun e w' => e = .returned (.tuple #[.int .i64 x, .int .i64 y, .bool b]) ∧ Below w.heap.size w w') ∧ (∀ (a : Option Addr) (cap : Nat) (w : World), RdP w a xs → Calls Try.prog 24 #[.slice a xs.length cap] w fun e w' => e = .returned (.tuple #[.int .i64 x, .int .i64 y, .bool b]) ∧ Below w.heap.size w w') := ⟨_, _, _, fun a cap w h => specMostTogether a cap xs w h hx, fun a cap w h => implMostTogether a cap xs w h hx⟩
    have hz : 0 ≤ 1048576 - (xs.length : Int) := by omega
    go_enter Try.func5, Try.ntmps5
    go_wp2_with (first | (go_at_call 9; refine (szVisitS_any b0 xs.length cap0 _ (by omega)).mono ?_; rw [if_neg hbig]; rintro e w1 ⟨rfl, rfl⟩))
    refine (toVisitS_any b0 cap0 xs _ h hx).mono ?_; rintro e w1 ⟨rfl, hO1, B1⟩
    go_wp2_with fail
    refine (hS _ _ _ hO1.rd).mono ?_; rintro e w2 ⟨rfl, hb2⟩
    have B2 : Below w.heap.size w w2 := B1.trans (hb2.mono B1.size)
    go_wp2_with fail
    refine (toVisitS_any b0 cap0 xs _ (h.below B2) hx).mono ?_; rintro e w3 ⟨rfl, hO3, hb3⟩
    have B3 : Below w.heap.size w w3 := B2.trans (hb3.mono B2.size)
    go_wp2_with fail
    refine (hI _ _ _ hO3.rd).mono ?_; rintro e w4 ⟨rfl, hb4⟩
    have B4 : Below w.heap.size w w4 := B3.trans (hb4.mono B3.size)
    go_wp2_with fail
    refine (toVisitS_any b0 cap0 xs _ (h.below B4) hx).mono ?_; rintro e w5 ⟨rfl, hO5, hb5⟩
    have B5 : Below w.heap.size w w5 := B4.trans (hb5.mono B4.size)
    go_wp2_with fail
    refine (eqVisitS_eq _ _ _ _ xs _ (((hO3.below hb4).below hb5).rd) hO5.rd hx).mono ?_; rintro e w6 ⟨rfl, hb6⟩
    have B6 : Below w.heap.size w w6 := B5.trans (hb6.mono B5.size)
    go_wp2_with fail
    go_ret
    exact ⟨rfl, B6⟩
set_option maxRecDepth 100000 in
theorem fnExactMostTogether_lifted (os : Os) (started : os.Started) (H : Type) (enc : TypeId × Value → H) :
    ReturnsInHanded {} Try.checked os 5 .any (Rows.fnExactMostTogetherSpec.pre6 enc Try.prog Try.f5 Rows.fnExactMostTogetherRow.domain false) (Rows.fnExactMostTogetherSpec.post enc Try.prog Try.f5 false true false false) := by
  refine returnsInHanded_of_change (C := Try.checked) own started (by kernel_rfl) Try.func5
    (ChangeSpec.witness6 (enc := enc) (C := Try.checked) false ⟨#[], #[.slice none 0 0], []⟩ 8 (by kernel_rfl) (by kernel_rfl) (by kernel_rfl) (by kernel_rfl)) ?_
  intro W base args ds gs before hval0 hW hcnd _
  have hval : ∀ (j : Nat) t v, Try.f5.params[j]? = some t → args[j]? = some v → Value.okWide Try.prog W .any base t v := hval0
  have hW' := hW
  obtain ⟨p, q, hA0, hV, rfl, hfz, hnd⟩ := hW
  have hA : DataW.TrodAll enc Try.prog W 0 (fun _ => true) true Try.f5.params.toList args.toList ds p := hA0
  rw [Try.params5] at hA hval
  obtain ⟨v0, vs0, d0, ds0, p0, q0, hargs, rfl, rfl, h0, r0⟩ := trodAll_cons hA
  obtain ⟨rfl, rfl, rfl⟩ := trodAll_nil r0
  obtain rfl : args = #[v0] := by cases args; simp_all
  obtain ⟨rfl, rfl⟩ := trodVars_none hV
  have k0 := h0
  have lt0 : ∀ x ∈ p0, x.block < W.heap.size := by obtain ⟨m, hm⟩ := k0; exact DataW.trod_lt m _ _ _ hm
  obtain ⟨b0, len0, cap0, rfl⟩ := okWide_slice Try.underlying22 (hval 0 22 v0 rfl rfl)
  obtain ⟨xs0, R0, M0, E0⟩ : ∃ xs : List (Int × Int), RdP W b0 xs ∧ xs.length ≤ maxLen ∧ xs.length = len0 := by
    obtain ⟨fuel, hf⟩ := h0
    simp only [Value.cells] at hf
    exact open_pairs_ints Try.underlying22 Try.underlying52 (by kernel_rfl) rfl rfl (by kernel_rfl) (by kernel_rfl) Try.underlying3 Try.underlying3 hf
  subst E0
  clear hA0 hval0
  refine (fnExactMostTogether_walk b0 cap0 xs0 W R0 M0).mono fun e W' ⟨he, bel⟩ => ?_
  subst he
  exact ⟨_, rfl, _, _, _, [], _, [], hW', trodAll_mk1 (shut_bool Try.underlying4 _), (trodAll_cons_mk (Below.trod laidOut (by kernel_rfl) (of_decide_eq_true (by kernel_rfl)) k0 bel lt0) trodAll_mk0), rfl, bel.frame _, fun h => by cases h⟩
theorem fnExactMostTogether_over : Rows.fnExactMostTogetherRow.holds Try.pinned (OpenSpec.ofChange Rows.fnExactMostTogetherSpec) :=
  OpenClaim.holds_of_wide 5 Try.f5 rfl rfl rfl rfl rfl rfl rfl ⟨rfl, rfl, rfl, rfl, rfl⟩ rfl rfl rfl rfl rfl (by kernel_rfl) Try.func5 (by kernel_rfl)
    (of_decide_eq_true (by kernel_rfl)) (by unfold Func.isWrapper; first | (rw [if_pos (by decide +kernel)]; kernel_rfl) | (rw [if_neg (by decide +kernel)]; exact ⟨rfl, rfl⟩))
    (fun os started H enc _ => fnExactMostTogether_lifted os started H enc)
/-- The statement, as it is given. -/
theorem fnExactMostTogether_holds : Rows.FnExactMostTogetherSaid := fnExactMostTogether_over

end fnExactMostTogether
end Go.Proofs.Ytjfmmdblfhgelaa
