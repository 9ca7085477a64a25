/- The function WorstRunners of chapter 6 answers as the model at every argument (every field of the answer), it does not panic, it writes into nothing that was there before the call, and its list is new memory. Conditions: none. -/
import Derived.Test.YtlfjgggidoakaaaRows
import Derived.Test.YtlfjgggidoakaaaLegPmI
import Derived.Test.YtlfjgggidoakaaaLegTeam
import Derived.Test.YtlfjgggidoakaaaSlices
import Derived.WalkKit
import Derived.ProofKit
import Derived.OpenShut
import Derived.ShutString
import Derived.ChangeOld
import Derived.Below
import Derived.Lib.SmallJoins
namespace Go.Proofs.Ytlfjgggidoakaaa
open Go.ChangeShapes Go.WideShapes Go.ChangeAt Go.RowKit Go.Joins
open Go.ChangeMaps (open_string shut_string)
set_option linter.unusedVariables false
set_option linter.unusedSimpArgs false
namespace fnExactWorstRunners
theorem own : ownKnob Try.prog.godebug = none := by kernel_rfl
theorem laidOut : laidOutB Try.prog = true := by kernel_rfl
theorem len_rr (ls ss : List Int) : (rrA ls ss false).length ≤ 6 := by
  unfold rrA
  split
  · rename_i q
    have t := tmG_at q
    have g := (rrL_good (least := false) t.1 t.2.2.1 ls.length [] (by simp) (fun i hi => absurd hi (by simp))).1
    omega
  · simp
set_option maxHeartbeats 4000000 in
theorem fnExactWorstRunners_walk (la : Option Addr) (lc : Nat) (ls : List Int) (sa : Option Addr) (sc : Nat) (ss : List Int) (w : World) (hL : Rd w la ls) (hml : ls.length ≤ maxLen) (hS : Rd w sa ss) (hms : ss.length ≤ maxLen) :
    Calls Try.prog 5 #[.slice la ls.length lc, .slice sa ss.length sc] w fun e w' => e = .returned (.bool true) ∧ Below w.heap.size w w' := by
  unfold maxLen at hml hms
  by_cases hbig : (1048576 : Int) < (ls.length : Int)
  · go_enter Try.func5, Try.ntmps5
    go_wp2_with fail
    go_ret
    exact ⟨rfl, Below.refl _ _⟩
  by_cases hbig2 : (1048576 : Int) < (ss.length : Int)
  · go_enter Try.func5, Try.ntmps5
    go_wp2_with fail
    go_ret
    exact ⟨rfl, Below.refl _ _⟩
  · have hx : ls.length ≤ 1048576 := by omega
    have hy : ss.length ≤ 1048576 := by omega
    have hx0 : ls.length ≤ 4611686018427387904 := by omega
    have hy0 : ss.length ≤ 4611686018427387904 := by omega
    obtain ⟨L, ok, hL0, hSp, hIm⟩ : ∃ (L : List Int) (ok : Bool), L.length ≤ 6 ∧ (∀ (la sa : Option Addr) (lc sc : Nat) (w : World), Rd w la ls → Rd w sa ss → Calls Try.prog 22 #[.slice la ls.length lc, .slice sa ss.length sc] w (RetS w L ok)) ∧ (∀ (la sa : Option Addr) (lc sc : Nat) (w : World), Rd w la ls → Rd w sa ss → Calls Try.prog 23 #[.slice la ls.length lc, .slice sa ss.length sc] w (RetS w L ok)) := ⟨_, _, len_rr ls ss, fun la sa lc sc w h1 h2 => specWorstRunners la sa lc sc ls ss w h1 h2 hx hy, fun la sa lc sc w h1 h2 => implWorstRunners la sa lc sc ls ss w h1 h2 hx hy⟩
    have hL1 : L.length ≤ 4611686018427387904 := by omega
    have kx : ¬ (1 + (ls.length : Int) + (ss.length : Int) < 0) := by omega
    go_enter Try.func5, Try.ntmps5
    go_wp2_with fail
    refine (toIntS_any la lc ls _ hL hx).mono ?_; rintro e w1 ⟨rfl, hO1, B1⟩
    go_wp2_with fail
    refine (toIntS_any sa sc ss _ (hS.below B1) hy).mono ?_; rintro e w2 ⟨rfl, hO2, hb2⟩
    have B2 : Below w.heap.size w w2 := B1.trans (hb2.mono B1.size)
    go_wp2_with fail
    refine (hSp _ _ _ _ _ (hO1.rd.below hb2) hO2.rd).mono ?_; rintro e w3 ⟨a3, c3, rfl, hO3, hb3⟩
    have B3 : Below w.heap.size w w3 := B2.trans (hb3.mono B2.size)
    go_wp2_with fail
    refine (toIntS_any la lc ls _ (hL.below B3) hx).mono ?_; rintro e w4 ⟨rfl, hO4, C4⟩
    have z4 : w3.heap.size < w4.heap.size := (row_lt hO4 _ rfl).2
    go_wp2_with fail
    refine (toIntS_any sa sc ss _ (hS.below (B3.trans (C4.mono B3.size))) hy).mono ?_; rintro e w5 ⟨rfl, hO5, hb5⟩
    have C5 : Below w3.heap.size w3 w5 := C4.trans (hb5.mono C4.size)
    have z5 : w4.heap.size < w5.heap.size := (row_lt hO5 _ rfl).2
    go_wp2_with fail
    refine (hIm _ _ _ _ _ (hO4.rd.below hb5) hO5.rd).mono ?_; rintro e w6 ⟨a6, c6, rfl, hO6, hb6⟩
    have C6 : Below w3.heap.size w3 w6 := C5.trans (hb6.mono C5.size)
    go_wp2_with fail
    refine (eqIntS_eq a6 a3 c6 c3 L _ hO6.rd (hO3.rd.below C6) hL1).mono ?_; rintro e w7 ⟨rfl, hb7⟩
    have C7 : Below w3.heap.size w3 w7 := C6.trans (hb7.mono C6.size)
    go_wp2_with fail
    refine (toIntS_any la lc ls _ (hL.below (B3.trans (C7.mono B3.size))) hx).mono ?_; rintro e w8 ⟨rfl, hO8, hb8⟩
    have C8 : Below w3.heap.size w3 w8 := C7.trans (hb8.mono C7.size)
    have hX8 : Own w8 w3.heap.size (some ⟨w3.heap.size, 0, none⟩) ls.length ls := (((hO4.below hb5).below hb6).below hb7).below hb8
    go_wp2_with fail
    refine (eqIntS_eq _ _ _ _ ls _ hX8.rd hO8.rd hx0).mono ?_; rintro e w9 ⟨rfl, hb9⟩
    have C9 : Below w3.heap.size w3 w9 := C8.trans (hb9.mono C8.size)
    go_wp2_with fail
    refine (toIntS_any sa sc ss _ (hS.below (B3.trans (C9.mono B3.size))) hy).mono ?_; rintro e w10 ⟨rfl, hO10, hb10⟩
    have C10 : Below w3.heap.size w3 w10 := C9.trans (hb10.mono C9.size)
    have hY10 : Own w10 w4.heap.size (some ⟨w4.heap.size, 0, none⟩) ss.length ss := ((((hO5.below hb6).below hb7).below hb8).below hb9).below hb10
    go_wp2_with fail
    refine (eqIntS_eq _ _ _ _ ss _ hY10.rd hO10.rd hy0).mono ?_; rintro e w11 ⟨rfl, hb11⟩
    have C11 : Below w3.heap.size w3 w11 := C10.trans (hb11.mono C10.size)
    have hX11 : Own w11 w3.heap.size (some ⟨w3.heap.size, 0, none⟩) ls.length ls := ((hX8.below hb9).below hb10).below hb11
    go_wp2_with fail
    refine (markIntS_own w3.heap.size _ _ ls 1 _ hX11 (by omega) (by omega)).mono ?_; rintro e w12 ⟨rfl, hO12, hg12⟩
    have C12 : Below w3.heap.size w3 w12 := C11.grown hg12 C11.size (fun k hk => (row_lt hX11 k hk).1)
    have hY12 : Own w12 w4.heap.size (some ⟨w4.heap.size, 0, none⟩) ss.length ss := (hY10.below hb11).grown hg12 (row_ne (hY10.below hb11) z4)
    have hG12 : Own w12 w5.heap.size a6 c6 L := (((((hO6.below hb7).below hb8).below hb9).below hb10).below hb11).grown hg12 (row_ne (((((hO6.below hb7).below hb8).below hb9).below hb10).below hb11) (Nat.lt_trans z4 z5))
    go_wp2_with fail
    refine (markIntS_own w4.heap.size _ _ ss _ _ hY12 (by omega) (by omega)).mono ?_; rintro e w13 ⟨rfl, hO13, hg13⟩
    have C13 : Below w3.heap.size w3 w13 := C12.grown hg13 C12.size (fun k hk => Nat.le_trans (Nat.le_of_lt z4) (row_lt hY12 k hk).1)
    have hG13 : Own w13 w5.heap.size a6 c6 L := hG12.grown hg13 (row_ne hG12 z5)
    go_wp2_with fail
    refine (eqIntS_eq a6 a3 c6 c3 L _ hG13.rd (hO3.rd.below C13) hL1).mono ?_; rintro e w14 ⟨rfl, hb14⟩
    have C14 : Below w3.heap.size w3 w14 := C13.trans (hb14.mono C13.size)
    go_wp2_with fail
    refine (markIntS_own w5.heap.size _ _ L 1 _ (hG13.below hb14) (by omega) (by omega)).mono ?_; rintro e w15 ⟨rfl, hO15, hg15⟩
    have C15 : Below w3.heap.size w3 w15 := C14.grown hg15 C14.size (fun k hk => by have := (row_lt (hG13.below hb14) k hk).1; omega)
    have hR15 : Rd w15 a6 (sq 1 L.length) := row_rd (sq_length _ _) hO15
    go_wp2_with fail
    refine (heldIntS_ok a6 L.length c6 1 _ hR15 (by omega) (by omega)).mono ?_; rintro e w16 ⟨rfl, hb16⟩
    have C16 : Below w3.heap.size w3 w16 := C15.trans (hb16.mono C15.size)
    go_wp2_with fail
    refine (toIntS_any la lc ls _ (hL.below (B3.trans (C16.mono B3.size))) hx).mono ?_; rintro e w17 ⟨rfl, hO17, hb17⟩
    have C17 : Below w3.heap.size w3 w17 := C16.trans (hb17.mono C16.size)
    go_wp2_with fail
    refine (toIntS_any sa sc ss _ (hS.below (B3.trans (C17.mono B3.size))) hy).mono ?_; rintro e w18 ⟨rfl, hO18, hb18⟩
    have C18 : Below w3.heap.size w3 w18 := C17.trans (hb18.mono C17.size)
    go_wp2_with fail
    refine (hIm _ _ _ _ _ (hO17.rd.below hb18) hO18.rd).mono ?_; rintro e w19 ⟨a19, c19, rfl, hO19, hb19⟩
    have C19 : Below w3.heap.size w3 w19 := C18.trans (hb19.mono C18.size)
    go_wp2_with fail
    refine (eqIntS_eq a19 a3 c19 c3 L _ hO19.rd (hO3.rd.below C19) hL1).mono ?_; rintro e w20 ⟨rfl, hb20⟩
    have C20 : Below w3.heap.size w3 w20 := C19.trans (hb20.mono C19.size)
    go_wp2_with fail
    refine (heldIntS_ok a6 L.length c6 1 _ (((((hR15.below hb16).below hb17).below hb18).below hb19).below hb20) (by omega) (by omega)).mono ?_; rintro e w21 ⟨rfl, hb21⟩
    have C21 : Below w3.heap.size w3 w21 := C20.trans (hb21.mono C20.size)
    go_wp2_with fail
    go_ret
    exact ⟨rfl, B3.trans (C21.mono B3.size)⟩
set_option maxRecDepth 100000 in
theorem fnExactWorstRunners_lifted (os : Os) (started : os.Started) (H : Type) (enc : TypeId × Value → H) :
    ReturnsInHanded {} Try.checked os 5 .any (Rows.fnExactWorstRunnersSpec.pre6 enc Try.prog Try.f5 Rows.fnExactWorstRunnersRow.domain false) (Rows.fnExactWorstRunnersSpec.post enc Try.prog Try.f5 false true false false) := by
  refine returnsInHanded_of_change (C := Try.checked) own started (by kernel_rfl) Try.func5
    (ChangeSpec.witness6 (enc := enc) (C := Try.checked) false ⟨#[], #[.slice none 0 0, .slice none 0 0], []⟩ 8 (by kernel_rfl) (by kernel_rfl) (by kernel_rfl) (by kernel_rfl)) ?_
  intro W base args ds gs before hval0 hW hcnd _
  have hval : ∀ (j : Nat) t v, Try.f5.params[j]? = some t → args[j]? = some v → Value.okWide Try.prog W .any base t v := hval0
  have hW' := hW
  obtain ⟨p, q, hA0, hV, rfl, hfz, hnd⟩ := hW
  have hA : DataW.TrodAll enc Try.prog W 0 (fun _ => true) true Try.f5.params.toList args.toList ds p := hA0
  rw [Try.params5] at hA hval
  obtain ⟨v0, vs0, d0, ds0, p0, q0, hargs, rfl, rfl, h0, r0⟩ := trodAll_cons hA
  obtain ⟨v1, vs1, d1, ds1, p1, q1, rfl, rfl, rfl, h1, r1⟩ := trodAll_cons r0
  obtain ⟨rfl, rfl, rfl⟩ := trodAll_nil r1
  obtain rfl : args = #[v0, v1] := by cases args; simp_all
  obtain ⟨rfl, rfl⟩ := trodVars_none hV
  have k0 := h0
  have lt0 : ∀ x ∈ p0, x.block < W.heap.size := by obtain ⟨m, hm⟩ := k0; exact DataW.trod_lt m _ _ _ hm
  have k1 := h1
  have lt1 : ∀ x ∈ p1, x.block < W.heap.size := by obtain ⟨m, hm⟩ := k1; exact DataW.trod_lt m _ _ _ hm
  obtain ⟨b0, len0, cap0, rfl⟩ := okWide_slice Try.underlying34 (hval 0 34 v0 rfl rfl)
  obtain ⟨xs0, R0, M0, E0⟩ : ∃ xs : List Int, Rd W b0 xs ∧ xs.length ≤ maxLen ∧ xs.length = len0 := by
    obtain ⟨fuel, hf⟩ := h0
    rcases open_ints Try.underlying34 Try.underlying3 (by kernel_rfl) hf with ⟨hcs, _⟩ | ⟨x, l, c, zs, hcs, _, hl, hm, hz, _, hcell, hwz⟩
    · simp [Value.cells] at hcs
      obtain ⟨rfl, rfl, rfl⟩ := hcs
      exact ⟨[], .inl rfl, by simp, rfl⟩
    · simp [Value.cells] at hcs
      obtain ⟨rfl, rfl, rfl⟩ := hcs
      have hz' : zs.length = cap0 := by simpa using hz
      exact ⟨zs.take len0, rd_of_cells (by omega) hcell, by rw [List.length_take]; omega, by rw [List.length_take]; omega⟩
  subst E0
  obtain ⟨b1, len1, cap1, rfl⟩ := okWide_slice Try.underlying34 (hval 1 34 v1 rfl rfl)
  obtain ⟨xs1, R1, M1, E1⟩ : ∃ xs : List Int, Rd W b1 xs ∧ xs.length ≤ maxLen ∧ xs.length = len1 := by
    obtain ⟨fuel, hf⟩ := h1
    rcases open_ints Try.underlying34 Try.underlying3 (by kernel_rfl) hf with ⟨hcs, _⟩ | ⟨x, l, c, zs, hcs, _, hl, hm, hz, _, hcell, hwz⟩
    · simp [Value.cells] at hcs
      obtain ⟨rfl, rfl, rfl⟩ := hcs
      exact ⟨[], .inl rfl, by simp, rfl⟩
    · simp [Value.cells] at hcs
      obtain ⟨rfl, rfl, rfl⟩ := hcs
      have hz' : zs.length = cap1 := by simpa using hz
      exact ⟨zs.take len1, rd_of_cells (by omega) hcell, by rw [List.length_take]; omega, by rw [List.length_take]; omega⟩
  subst E1
  clear hA0 hval0
  refine (fnExactWorstRunners_walk b0 cap0 xs0 b1 cap1 xs1 W R0 M0 R1 M1).mono fun e W' ⟨he, bel⟩ => ?_
  subst he
  exact ⟨_, rfl, _, _, _, [], _, [], hW', trodAll_mk1 (shut_bool Try.underlying4 _), (trodAll_cons_mk (Below.trod laidOut (by kernel_rfl) (of_decide_eq_true (by kernel_rfl)) k0 bel lt0) (trodAll_cons_mk (Below.trod laidOut (by kernel_rfl) (of_decide_eq_true (by kernel_rfl)) k1 bel lt1) trodAll_mk0)), rfl, bel.frame _, fun h => by cases h⟩
theorem fnExactWorstRunners_over : Rows.fnExactWorstRunnersRow.holds Try.pinned (OpenSpec.ofChange Rows.fnExactWorstRunnersSpec) :=
  OpenClaim.holds_of_wide 5 Try.f5 rfl rfl rfl rfl rfl rfl rfl ⟨rfl, rfl, rfl, rfl, rfl⟩ rfl rfl rfl rfl rfl (by kernel_rfl) Try.func5 (by kernel_rfl)
    (of_decide_eq_true (by kernel_rfl)) (by unfold Func.isWrapper; first | (rw [if_pos (by decide +kernel)]; kernel_rfl) | (rw [if_neg (by decide +kernel)]; exact ⟨rfl, rfl⟩))
    (fun os started H enc _ => fnExactWorstRunners_lifted os started H enc)
/-- The statement, as it is given. -/
theorem fnExactWorstRunners_holds : Rows.FnExactWorstRunnersSaid := fnExactWorstRunners_over

end fnExactWorstRunners
end Go.Proofs.Ytlfjgggidoakaaa
