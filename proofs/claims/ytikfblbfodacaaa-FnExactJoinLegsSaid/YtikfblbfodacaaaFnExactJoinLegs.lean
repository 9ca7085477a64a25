/- The function JoinLegs of chapter 6 answers as the model at every argument (every field of the answer), it does not panic, it writes into nothing that was there before the call, and its list is new memory. Conditions: none. -/
import Derived.Test.YtikfblbfodacaaaRows
import Derived.Test.YtikfblbfodacaaaPairFrame
import Derived.Test.YtikfblbfodacaaaLegJoC
import Derived.WalkKit
import Derived.ProofKit
import Derived.OpenShut
import Derived.ShutString
import Derived.ChangeOld
import Derived.Below
import Derived.Lib.SmallJoins
namespace Go.Proofs.Ytikfblbfodacaaa
open Go.ChangeShapes Go.WideShapes Go.ChangeAt Go.RowKit Go.Joins
open Go.ChangeMaps (open_string shut_string)
set_option linter.unusedVariables false
set_option linter.unusedSimpArgs false
namespace fnExactJoinLegs
theorem own : ownKnob Try.prog.godebug = none := by kernel_rfl
theorem laidOut : laidOutB Try.prog = true := by kernel_rfl
set_option maxHeartbeats 1000000 in
theorem heldLegS_ok (a : Option Addr) (n cap : Nat) (k : Int) (w : World) (h : RdP w a (sqP k n)) (k0 : 0 ≤ k) (k1 : k + 2 * (n : Int) ≤ 4611686018427387904) :
    Calls Try.prog 11 #[.slice a n cap, .int .i64 k] w fun e w' => e = .returned (.int .i64 (k + 2 * (n : Int))) ∧ Below w.heap.size w w' := by
  go_enter Try.func11, Try.ntmps11
  go_wp2_with fail
  go_loopg [1, 5] n (fun f v1 v5 wr => ∃ (j : Nat), v1 = .int .i64 (k + 2 * (j : Int)) ∧ v5 = .int .i64 (j : Int) ∧ j + f ≤ n ∧ n ≤ j + f ∧ Below w.heap.size w wr)
  case atStart => exact ⟨0, by simp, rfl, by omega, by omega, Below.refl _ _⟩
  case round =>
    obtain ⟨j, rfl, rfl, h1, h2, hbel⟩ := hrel
    by_cases hj : j < n
    · rcases h with h | ⟨b, off, rfl, hlt, hc⟩
      · have := congrArg List.length h; rw [sqP_length] at this; simp at this; omega
      · have hcj := (hc j (by rw [sqP_length]; exact hj)).1
        have hck := (hc j (by rw [sqP_length]; exact hj)).2
        rw [sqP_x k n j hj] at hcj
        rw [sqP_y k n j hj] at hck
        have hcj' : wr.cell? ⟨b, off + j * 2, none⟩ = some (.int .i64 (k + 2 * (j : Int))) := by rw [(bcell hbel).1 b _ hlt]; exact hcj
        have hck' : wr.cell? ⟨b, off + j * 2 + 1, none⟩ = some (.int .i64 (k + 2 * (j : Int) + 1)) := by rw [(bcell hbel).1 b _ hlt]; exact hck
        have hjI : (j : Int) < (n : Int) := by omega
        have HB := Lib.hid hbel
        clear hbel hc hcj hck
        go_wp2_with fail
        all_goals try (go_quiet (fail); go_wp2_with fail)
        all_goals try (go_quiet (fail); go_wp2_with fail)
        go_roundg (gk - 1)
        case rel => exact ⟨j + 1, by rw [show k + 2 * ((j + 1 : Nat) : Int) = k + 2 * (j : Int) + 1 + 1 from by omega], by go_num, by omega, by omega, by first | exact HB.out | exact below_drewN HB.out _⟩
        case measure => omega
    · have e : j = n := by omega
      have HB := Lib.hid hbel
      clear hbel
      subst e
      go_wp2_with fail
      go_ret
      exact ⟨rfl, HB.out⟩

theorem jlL_len (xs : List (Int × Int)) : (jlL xs).length ≤ 1000 := by
  unfold jlL jlB
  split
  · rename_i h
    rw [Bool.and_eq_true] at h
    have := (jgOk_of h.2).2.1
    omega
  · simp
theorem markLegS_N (base cap : Nat) (k : Int) (w : World) :
    Calls Try.prog 10 #[.slice none ([] : List (Int × Int)).length cap, .int .i64 k] w fun e w' => e = .returned (.int .i64 (k + 2 * (([] : List (Int × Int)).length : Int))) ∧ RdP w' none (sqP k ([] : List (Int × Int)).length) ∧ Below base w w' := by
  go_enter Try.func10, Try.ntmps10
  go_wp2_with fail
  go_loopg [1, 5] 0 (fun f v1 v5 wr => v1 = .int .i64 k ∧ v5 = .int .i64 0 ∧ wr = w)
  case atStart => exact ⟨rfl, rfl, rfl⟩
  case round =>
    obtain ⟨rfl, rfl, rfl⟩ := hrel
    go_wp2_with fail
    go_ret
    exact ⟨by simp, .inl (List.eq_nil_of_length_eq_zero (by rw [sqP_length])), Below.refl _ _⟩
/-- what the program's list is -/
def OwnB (w : World) (base : Nat) (a : Option Addr) (ys : List (Int × Int)) : Prop := (a = none ∧ ys = []) ∨ ∃ g, a = some ⟨g, 0, none⟩ ∧ OwnJ w base g ys
theorem OwnB.rd {w : World} {base : Nat} {a : Option Addr} {ys : List (Int × Int)} (h : OwnB w base a ys) : RdP w a ys := by
  rcases h with ⟨_, h⟩ | ⟨g, rfl, h⟩
  · exact .inl h
  · exact h.rd
theorem OwnB.below {w w' : World} {base : Nat} {a : Option Addr} {ys : List (Int × Int)} (h : OwnB w base a ys) (hb : Below w.heap.size w w') : OwnB w' base a ys := by
  rcases h with h | ⟨g, rfl, h⟩
  · exact .inl h
  · exact .inr ⟨g, rfl, h.below hb⟩
theorem OwnB.kept {w w' : World} {base X : Nat} {a : Option Addr} {ys : List (Int × Int)} (h : OwnB w base a ys) (hg : w.grownBy w' (some X)) (hX : X < base) : OwnB w' base a ys := by
  rcases h with h | ⟨g, rfl, h⟩
  · exact .inl h
  · exact .inr ⟨g, rfl, OwnJ.kept h hg (by have := h.1; omega)⟩
theorem markLegS_B (base : Nat) (a : Option Addr) (cap : Nat) (xs : List (Int × Int)) (k : Int) (w : World) (h : OwnB w base a xs) (k0 : 0 ≤ k) (k1 : k + 2 * (xs.length : Int) ≤ 4611686018427387904) :
    Calls Try.prog 10 #[.slice a xs.length cap, .int .i64 k] w fun e w' => e = .returned (.int .i64 (k + 2 * (xs.length : Int))) ∧ RdP w' a (sqP k xs.length) ∧ Below base w w' := by
  rcases h with ⟨rfl, rfl⟩ | ⟨g, rfl, h⟩
  · exact (markLegS_N base cap k w).mono fun e w' h => h
  · refine (markLegS_J base g cap xs k w h k0 k1).mono ?_
    rintro e w' ⟨he, hr, hg⟩
    exact ⟨he, hr, hg.os, hg.tape, hg.output, hg.size, fun i hi => hg.block i (by have := h.2.1; have := h.1; omega) (fun q => by have := Option.some.inj q; have := h.1; omega)⟩
set_option maxHeartbeats 2000000 in
theorem fnExactJoinLegs_walk (b0 : Option Addr) (cap0 : Nat) (xs : List (Int × Int)) (w : World) (h : RdP w b0 xs) (hm : xs.length ≤ maxLen) :
    Calls Try.prog 3 #[.slice b0 xs.length cap0] w fun e w' => e = .returned (.bool true) ∧ Below w.heap.size w w' := by
  unfold maxLen at hm
  by_cases hbig : (1048576 : Int) < (xs.length : Int)
  · go_enter Try.func3, Try.ntmps3
    go_wp2_with (first | (go_at_call 5; refine (szLegS_any b0 xs.length cap0 _ (by omega)).mono ?_; rw [if_pos hbig]; rintro e w1 ⟨rfl, rfl⟩))
    go_ret
    exact ⟨rfl, Below.refl _ _⟩
  · have hx : xs.length ≤ 1048576 := by omega
    obtain ⟨L, ok, hL0, hS, hI⟩ : ∃ (L : List (Int × Int)) (ok : Bool), L.length ≤ 1000 ∧ (∀ (a : Option Addr) (cap : Nat) (w : World), RdP w a xs → Calls Try.prog 6 #[.slice a xs.length cap] w (RetG w L ok)) ∧ (∀ (a : Option Addr) (cap : Nat) (w : World), RdP w a xs → Calls Try.prog 8 #[.slice a xs.length cap] w (RetJ w L ok)) := ⟨_, _, jlL_len xs, fun a cap w h => specJoinLegs a cap xs w h hx, fun a cap w h => implJoinLegs a cap xs w h hx⟩
    have hz : 0 ≤ 1048576 - (xs.length : Int) := by omega
    have hL1 : L.length ≤ 1048576 := by omega
    go_enter Try.func3, Try.ntmps3
    go_wp2_with (first | (go_at_call 5; refine (szLegS_any b0 xs.length cap0 _ (by omega)).mono ?_; rw [if_neg hbig]; rintro e w1 ⟨rfl, rfl⟩))
    refine (toLegS_any b0 cap0 xs _ h hx).mono ?_; rintro e w1 ⟨rfl, hO1, hb1⟩
    go_wp2_with fail
    refine (hS _ _ _ hO1.rd).mono ?_; rintro e w2 ⟨a2, c2, rfl, hO2, hb2⟩
    have B2 : Below w.heap.size w w2 := hb1.trans (hb2.mono hb1.size)
    go_wp2_with fail
    refine (toLegS_any b0 cap0 xs _ (h.below B2) hx).mono ?_; rintro e w3 ⟨rfl, hO3, hb3⟩
    have hX : w2.heap.size < w3.heap.size := (rowP_lt hO3 w2.heap.size rfl).2
    go_wp2_with fail
    refine (hI _ _ _ hO3.rd).mono ?_; rintro e w4 ⟨a4, c4, rfl, hO4z, hb4⟩
    have hO4 : OwnB w4 w3.heap.size a4 L := hO4z
    have C4 : Below w2.heap.size w2 w4 := hb3.trans (hb4.mono hb3.size)
    go_wp2_with fail
    refine (eqLegS_eq a4 a2 c4 c2 L _ hO4.rd (hO2.rd.below C4) hL1).mono ?_; rintro e w5 ⟨rfl, hb5⟩
    have C5 : Below w2.heap.size w2 w5 := C4.trans (hb5.mono C4.size)
    go_wp2_with fail
    refine (toLegS_any b0 cap0 xs _ (h.below (B2.trans (C5.mono B2.size))) hx).mono ?_; rintro e w6 ⟨rfl, hO6, hb6⟩
    have C6 : Below w2.heap.size w2 w6 := C5.trans (hb6.mono C5.size)
    have hO3' : OwnG w6 w2.heap.size (some ⟨w2.heap.size, 0, none⟩) xs.length xs := ((hO3.below hb4).below hb5).below hb6
    go_wp2_with fail
    refine (eqLegS_eq _ _ _ _ xs _ hO3'.rd hO6.rd hx).mono ?_; rintro e w7 ⟨rfl, hb7⟩
    have C7 : Below w2.heap.size w2 w7 := C6.trans (hb7.mono C6.size)
    go_wp2_with fail
    refine (markLegS_own w2.heap.size _ _ xs 1 _ (hO3'.below hb7) (by omega) (by omega)).mono ?_; rintro e w8 ⟨rfl, hO8, hg8⟩
    have C8 : Below w2.heap.size w2 w8 := C7.grown hg8 C7.size (fun k hk => (rowP_lt (hO3'.below hb7) k hk).1)
    have hO4' : OwnB w8 w3.heap.size a4 L := (((hO4.below hb5).below hb6).below hb7).kept hg8 hX
    go_wp2_with fail
    refine (eqLegS_eq a4 a2 c4 c2 L _ hO4'.rd (hO2.rd.below C8) hL1).mono ?_; rintro e w9 ⟨rfl, hb9⟩
    have C9 : Below w2.heap.size w2 w9 := C8.trans (hb9.mono C8.size)
    go_wp2_with fail
    refine (markLegS_B w3.heap.size a4 c4 L 1 _ (hO4'.below hb9) (by omega) (by omega)).mono ?_; rintro e w10 ⟨rfl, hR10, hg10⟩
    have C10 : Below w2.heap.size w2 w10 := C9.trans (hg10.mono (Nat.le_of_lt hX))
    go_wp2_with fail
    refine (heldLegS_ok a4 L.length c4 1 _ hR10 (by omega) (by omega)).mono ?_; rintro e w11 ⟨rfl, hb11⟩
    have C11 : Below w2.heap.size w2 w11 := C10.trans (hb11.mono C10.size)
    go_wp2_with fail
    refine (toLegS_any b0 cap0 xs _ (h.below (B2.trans (C11.mono B2.size))) hx).mono ?_; rintro e w12 ⟨rfl, hO12, hb12⟩
    have C12 : Below w2.heap.size w2 w12 := C11.trans (hb12.mono C11.size)
    go_wp2_with fail
    refine (hI _ _ _ hO12.rd).mono ?_; rintro e w13 ⟨a13, c13, rfl, hO13z, hb13⟩
    have hO13 : OwnB w13 w12.heap.size a13 L := hO13z
    have C13 : Below w2.heap.size w2 w13 := C12.trans (hb13.mono C12.size)
    go_wp2_with fail
    refine (eqLegS_eq a13 a2 c13 c2 L _ hO13.rd (hO2.rd.below C13) hL1).mono ?_; rintro e w14 ⟨rfl, hb14⟩
    have C14 : Below w2.heap.size w2 w14 := C13.trans (hb14.mono C13.size)
    go_wp2_with fail
    refine (heldLegS_ok a4 L.length c4 1 _ ((((hR10.below hb11).below hb12).below hb13).below hb14) (by omega) (by omega)).mono ?_; rintro e w15 ⟨rfl, hb15⟩
    have C15 : Below w2.heap.size w2 w15 := C14.trans (hb15.mono C14.size)
    go_wp2_with fail
    go_ret
    exact ⟨rfl, B2.trans (C15.mono B2.size)⟩
set_option maxRecDepth 100000 in
theorem fnExactJoinLegs_lifted (os : Os) (started : os.Started) (H : Type) (enc : TypeId × Value → H) :
    ReturnsInHanded {} Try.checked os 3 .any (Rows.fnExactJoinLegsSpec.pre6 enc Try.prog Try.f3 Rows.fnExactJoinLegsRow.domain false) (Rows.fnExactJoinLegsSpec.post enc Try.prog Try.f3 false true false false) := by
  refine returnsInHanded_of_change (C := Try.checked) own started (by kernel_rfl) Try.func3
    (ChangeSpec.witness6 (enc := enc) (C := Try.checked) false ⟨#[], #[.slice none 0 0], []⟩ 8 (by kernel_rfl) (by kernel_rfl) (by kernel_rfl) (by kernel_rfl)) ?_
  intro W base args ds gs before hval0 hW hcnd _
  have hval : ∀ (j : Nat) t v, Try.f3.params[j]? = some t → args[j]? = some v → Value.okWide Try.prog W .any base t v := hval0
  have hW' := hW
  obtain ⟨p, q, hA0, hV, rfl, hfz, hnd⟩ := hW
  have hA : DataW.TrodAll enc Try.prog W 0 (fun _ => true) true Try.f3.params.toList args.toList ds p := hA0
  rw [Try.params3] at hA hval
  obtain ⟨v0, vs0, d0, ds0, p0, q0, hargs, rfl, rfl, h0, r0⟩ := trodAll_cons hA
  obtain ⟨rfl, rfl, rfl⟩ := trodAll_nil r0
  obtain rfl : args = #[v0] := by cases args; simp_all
  obtain ⟨rfl, rfl⟩ := trodVars_none hV
  have k0 := h0
  have lt0 : ∀ x ∈ p0, x.block < W.heap.size := by obtain ⟨m, hm⟩ := k0; exact DataW.trod_lt m _ _ _ hm
  obtain ⟨b0, len0, cap0, rfl⟩ := okWide_slice Try.underlying22 (hval 0 22 v0 rfl rfl)
  obtain ⟨xs0, R0, M0, E0⟩ : ∃ xs : List (Int × Int), RdP W b0 xs ∧ xs.length ≤ maxLen ∧ xs.length = len0 := by
    obtain ⟨fuel, hf⟩ := h0
    simp only [Value.cells] at hf
    exact open_pairs_ints Try.underlying22 Try.underlying45 (by kernel_rfl) rfl rfl (by kernel_rfl) (by kernel_rfl) Try.underlying3 Try.underlying3 hf
  subst E0
  clear hA0 hval0
  refine (fnExactJoinLegs_walk b0 cap0 xs0 W R0 M0).mono fun e W' ⟨he, bel⟩ => ?_
  subst he
  exact ⟨_, rfl, _, _, _, [], _, [], hW', trodAll_mk1 (shut_bool Try.underlying4 _), (trodAll_cons_mk (Below.trod laidOut (by kernel_rfl) (of_decide_eq_true (by kernel_rfl)) k0 bel lt0) trodAll_mk0), rfl, bel.frame _, fun h => by cases h⟩
theorem fnExactJoinLegs_over : Rows.fnExactJoinLegsRow.holds Try.pinned (OpenSpec.ofChange Rows.fnExactJoinLegsSpec) :=
  OpenClaim.holds_of_wide 3 Try.f3 rfl rfl rfl rfl rfl rfl rfl ⟨rfl, rfl, rfl, rfl, rfl⟩ rfl rfl rfl rfl rfl (by kernel_rfl) Try.func3 (by kernel_rfl)
    (of_decide_eq_true (by kernel_rfl)) (by unfold Func.isWrapper; first | (rw [if_pos (by decide +kernel)]; kernel_rfl) | (rw [if_neg (by decide +kernel)]; exact ⟨rfl, rfl⟩))
    (fun os started H enc _ => fnExactJoinLegs_lifted os started H enc)
/-- The statement, as it is given. -/
theorem fnExactJoinLegs_holds : Rows.FnExactJoinLegsSaid := fnExactJoinLegs_over

end fnExactJoinLegs
end Go.Proofs.Ytikfblbfodacaaa
