/- The function FewestGuides of chapter 8 answers as the model at every argument (every field of the answer), it does not panic, it writes into nothing that was there before the call, and its list is new memory. Conditions: none. -/
import Derived.Test.YtjfmmdblfhgelaaRows
import Derived.Test.YtjfmmdblfhgelaaPairFrame
import Derived.Test.YtjfmmdblfhgelaaPairsV
import Derived.Test.YtjfmmdblfhgelaaSlices
import Derived.Test.YtjfmmdblfhgelaaWinGuiI
import Derived.WalkKit
import Derived.ProofKit
import Derived.OpenShut
import Derived.ShutString
import Derived.ChangeOld
import Derived.Below
import Derived.Lib.SmallJoins
namespace Go.Proofs.Ytjfmmdblfhgelaa
open Go.ChangeShapes Go.WideShapes Go.ChangeAt Go.RowKit Go.Joins
open Go.ChangeMaps (open_string shut_string)
set_option linter.unusedVariables false
set_option linter.unusedSimpArgs false
namespace fnExactFewestGuides
theorem own : ownKnob Try.prog.godebug = none := by kernel_rfl
theorem laidOut : laidOutB Try.prog = true := by kernel_rfl
set_option maxHeartbeats 2000000 in
theorem fnExactFewestGuides_walk (b0 : Option Addr) (cap0 : Nat) (xs : List (Int × Int)) (w : World) (h : RdP w b0 xs) (hm : xs.length ≤ maxLen) :
    Calls Try.prog 7 #[.slice b0 xs.length cap0] w fun e w' => e = .returned (.bool true) ∧ Below w.heap.size w w' := by
  unfold maxLen at hm
  by_cases hbig : (1048576 : Int) < (xs.length : Int)
  · go_enter Try.func7, Try.ntmps7
    go_wp2_with (first | (go_at_call 9; refine (szVisitS_any b0 xs.length cap0 _ (by omega)).mono ?_; rw [if_pos hbig]; rintro e w1 ⟨rfl, rfl⟩))
    go_ret
    exact ⟨rfl, Below.refl _ _⟩
  · have hx : xs.length ≤ 1048576 := by omega
    obtain ⟨L, ok, hL0, hS, hI⟩ : ∃ (L : List Int) (ok : Bool), L.length ≤ 1000 ∧ (∀ (a : Option Addr) (cap : Nat) (w : World), RdP w a xs → Calls Try.prog 27 #[.slice a xs.length cap] w (RetS w L ok)) ∧ (∀ (a : Option Addr) (cap : Nat) (w : World), RdP w a xs → Calls Try.prog 28 #[.slice a xs.length cap] w (RetS w L ok)) := ⟨_, _, fgL_len xs, fun a cap w h => specFewestGuides a cap xs w h hx, fun a cap w h => implFewestGuides a cap xs w h hx⟩
    have hz : 0 ≤ 1048576 - (xs.length : Int) := by omega
    have hL1 : L.length ≤ 4611686018427387904 := by omega
    go_enter Try.func7, Try.ntmps7
    go_wp2_with (first | (go_at_call 9; refine (szVisitS_any b0 xs.length cap0 _ (by omega)).mono ?_; rw [if_neg hbig]; rintro e w1 ⟨rfl, rfl⟩))
    refine (toVisitS_any b0 cap0 xs _ h hx).mono ?_; rintro e w1 ⟨rfl, hO1, hb1⟩
    go_wp2_with fail
    refine (hS _ _ _ hO1.rd).mono ?_; rintro e w2 ⟨a2, c2, rfl, hO2, hb2⟩
    have B2 : Below w.heap.size w w2 := hb1.trans (hb2.mono hb1.size)
    go_wp2_with fail
    refine (toVisitS_any b0 cap0 xs _ (h.below B2) hx).mono ?_; rintro e w3 ⟨rfl, hO3, hb3⟩
    have hX : w2.heap.size < w3.heap.size := (rowP_lt hO3 w2.heap.size rfl).2
    go_wp2_with fail
    refine (hI _ _ _ hO3.rd).mono ?_; rintro e w4 ⟨a4, c4, rfl, hO4, hb4⟩
    have C4 : Below w2.heap.size w2 w4 := hb3.trans (hb4.mono hb3.size)
    go_wp2_with fail
    refine (eqIntS_eq a4 a2 c4 c2 L _ hO4.rd (hO2.rd.below C4) hL1).mono ?_; rintro e w5 ⟨rfl, hb5⟩
    have C5 : Below w2.heap.size w2 w5 := C4.trans (hb5.mono C4.size)
    go_wp2_with fail
    refine (toVisitS_any b0 cap0 xs _ (h.below (B2.trans (C5.mono B2.size))) hx).mono ?_; rintro e w6 ⟨rfl, hO6, hb6⟩
    have C6 : Below w2.heap.size w2 w6 := C5.trans (hb6.mono C5.size)
    have hO3' : OwnV w6 w2.heap.size (some ⟨w2.heap.size, 0, none⟩) xs.length xs := ((hO3.below hb4).below hb5).below hb6
    go_wp2_with fail
    refine (eqVisitS_eq _ _ _ _ xs _ hO3'.rd hO6.rd hx).mono ?_; rintro e w7 ⟨rfl, hb7⟩
    have C7 : Below w2.heap.size w2 w7 := C6.trans (hb7.mono C6.size)
    go_wp2_with fail
    refine (markVisitS_own w2.heap.size _ _ xs 1 _ (hO3'.below hb7) (by omega) (by omega)).mono ?_; rintro e w8 ⟨rfl, hO8, hg8⟩
    have C8 : Below w2.heap.size w2 w8 := C7.grown hg8 C7.size (fun k hk => (rowP_lt (hO3'.below hb7) k hk).1)
    have hO4' : Own w8 w3.heap.size a4 c4 L := ((((hO4.below hb5).below hb6).below hb7)).grown hg8 (row_ne (((hO4.below hb5).below hb6).below hb7) hX)
    go_wp2_with fail
    refine (eqIntS_eq a4 a2 c4 c2 L _ hO4'.rd (hO2.rd.below C8) hL1).mono ?_; rintro e w9 ⟨rfl, hb9⟩
    have C9 : Below w2.heap.size w2 w9 := C8.trans (hb9.mono C8.size)
    go_wp2_with fail
    refine (markIntS_own w3.heap.size _ _ L 1 _ (hO4'.below hb9) (by omega) (by omega)).mono ?_; rintro e w10 ⟨rfl, hO10, hg10⟩
    have C10 : Below w2.heap.size w2 w10 := C9.grown hg10 C9.size (fun k hk => Nat.le_trans (Nat.le_of_lt hX) (row_lt (hO4'.below hb9) k hk).1)
    have hR10 : Rd w10 a4 (sq 1 L.length) := row_rd (sq_length _ _) hO10
    go_wp2_with fail
    refine (heldIntS_ok a4 L.length c4 1 _ hR10 (by omega) (by omega)).mono ?_; rintro e w11 ⟨rfl, hb11⟩
    have C11 : Below w2.heap.size w2 w11 := C10.trans (hb11.mono C10.size)
    go_wp2_with fail
    refine (toVisitS_any b0 cap0 xs _ (h.below (B2.trans (C11.mono B2.size))) hx).mono ?_; rintro e w12 ⟨rfl, hO12, hb12⟩
    have C12 : Below w2.heap.size w2 w12 := C11.trans (hb12.mono C11.size)
    go_wp2_with fail
    refine (hI _ _ _ hO12.rd).mono ?_; rintro e w13 ⟨a13, c13, rfl, hO13, hb13⟩
    have C13 : Below w2.heap.size w2 w13 := C12.trans (hb13.mono C12.size)
    go_wp2_with fail
    refine (eqIntS_eq a13 a2 c13 c2 L _ hO13.rd (hO2.rd.below C13) hL1).mono ?_; rintro e w14 ⟨rfl, hb14⟩
    have C14 : Below w2.heap.size w2 w14 := C13.trans (hb14.mono C13.size)
    go_wp2_with fail
    refine (heldIntS_ok a4 L.length c4 1 _ ((((hR10.below hb11).below hb12).below hb13).below hb14) (by omega) (by omega)).mono ?_; rintro e w15 ⟨rfl, hb15⟩
    have C15 : Below w2.heap.size w2 w15 := C14.trans (hb15.mono C14.size)
    go_wp2_with fail
    go_ret
    exact ⟨rfl, B2.trans (C15.mono B2.size)⟩
set_option maxRecDepth 100000 in
theorem fnExactFewestGuides_lifted (os : Os) (started : os.Started) (H : Type) (enc : TypeId × Value → H) :
    ReturnsInHanded {} Try.checked os 7 .any (Rows.fnExactFewestGuidesSpec.pre6 enc Try.prog Try.f7 Rows.fnExactFewestGuidesRow.domain false) (Rows.fnExactFewestGuidesSpec.post enc Try.prog Try.f7 false true false false) := by
  refine returnsInHanded_of_change (C := Try.checked) own started (by kernel_rfl) Try.func7
    (ChangeSpec.witness6 (enc := enc) (C := Try.checked) false ⟨#[], #[.slice none 0 0], []⟩ 8 (by kernel_rfl) (by kernel_rfl) (by kernel_rfl) (by kernel_rfl)) ?_
  intro W base args ds gs before hval0 hW hcnd _
  have hval : ∀ (j : Nat) t v, Try.f7.params[j]? = some t → args[j]? = some v → Value.okWide Try.prog W .any base t v := hval0
  have hW' := hW
  obtain ⟨p, q, hA0, hV, rfl, hfz, hnd⟩ := hW
  have hA : DataW.TrodAll enc Try.prog W 0 (fun _ => true) true Try.f7.params.toList args.toList ds p := hA0
  rw [Try.params7] at hA hval
  obtain ⟨v0, vs0, d0, ds0, p0, q0, hargs, rfl, rfl, h0, r0⟩ := trodAll_cons hA
  obtain ⟨rfl, rfl, rfl⟩ := trodAll_nil r0
  obtain rfl : args = #[v0] := by cases args; simp_all
  obtain ⟨rfl, rfl⟩ := trodVars_none hV
  have k0 := h0
  have lt0 : ∀ x ∈ p0, x.block < W.heap.size := by obtain ⟨m, hm⟩ := k0; exact DataW.trod_lt m _ _ _ hm
  obtain ⟨b0, len0, cap0, rfl⟩ := okWide_slice Try.underlying22 (hval 0 22 v0 rfl rfl)
  obtain ⟨xs0, R0, M0, E0⟩ : ∃ xs : List (Int × Int), RdP W b0 xs ∧ xs.length ≤ maxLen ∧ xs.length = len0 := by
    obtain ⟨fuel, hf⟩ := h0
    simp only [Value.cells] at hf
    exact open_pairs_ints Try.underlying22 Try.underlying52 (by kernel_rfl) rfl rfl (by kernel_rfl) (by kernel_rfl) Try.underlying3 Try.underlying3 hf
  subst E0
  clear hA0 hval0
  refine (fnExactFewestGuides_walk b0 cap0 xs0 W R0 M0).mono fun e W' ⟨he, bel⟩ => ?_
  subst he
  exact ⟨_, rfl, _, _, _, [], _, [], hW', trodAll_mk1 (shut_bool Try.underlying4 _), (trodAll_cons_mk (Below.trod laidOut (by kernel_rfl) (of_decide_eq_true (by kernel_rfl)) k0 bel lt0) trodAll_mk0), rfl, bel.frame _, fun h => by cases h⟩
theorem fnExactFewestGuides_over : Rows.fnExactFewestGuidesRow.holds Try.pinned (OpenSpec.ofChange Rows.fnExactFewestGuidesSpec) :=
  OpenClaim.holds_of_wide 7 Try.f7 rfl rfl rfl rfl rfl rfl rfl ⟨rfl, rfl, rfl, rfl, rfl⟩ rfl rfl rfl rfl rfl (by kernel_rfl) Try.func7 (by kernel_rfl)
    (of_decide_eq_true (by kernel_rfl)) (by unfold Func.isWrapper; first | (rw [if_pos (by decide +kernel)]; kernel_rfl) | (rw [if_neg (by decide +kernel)]; exact ⟨rfl, rfl⟩))
    (fun os started H enc _ => fnExactFewestGuides_lifted os started H enc)
/-- The statement, as it is given. -/
theorem fnExactFewestGuides_holds : Rows.FnExactFewestGuidesSaid := fnExactFewestGuides_over

end fnExactFewestGuides
end Go.Proofs.Ytjfmmdblfhgelaa
