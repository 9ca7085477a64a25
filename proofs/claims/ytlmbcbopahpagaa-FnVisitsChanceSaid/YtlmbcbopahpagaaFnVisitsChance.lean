/- The named law of chances (chapter 8) holds at whatever is drawn from whatever bytes: it answers true, it does not panic, and it writes into nothing that was there before the call. Conditions: none. -/
import Derived.Test.YtlmbcbopahpagaaRows
import Derived.Test.YtlmbcbopahpagaaVcTailB
import Derived.Test.YtlmbcbopahpagaaVcFacts
import Derived.Test.YtlmbcbopahpagaaCurVc
import Derived.Test.YtlmbcbopahpagaaCurFrame
import Derived.OpenShut
import Derived.ShutString
import Derived.ChangeOld
import Derived.Deep.Cut
import Derived.Deep.CutRange
import Derived.WalkKit
import Derived.ProofKit
import Derived.Below
import Derived.Lib.SmallJoins
import Derived.Lib.Hide
namespace Go.Proofs.Ytlmbcbopahpagaa
open Go.ChangeShapes Go.WideShapes Go.ChangeAt Go.RowKit Go.Joins
set_option linter.unusedVariables false
set_option linter.unusedSimpArgs false
namespace fnVisitsChance
theorem own : ownKnob Try.prog.godebug = none := by kernel_rfl
theorem laidOut : laidOutB Try.prog = true := by kernel_rfl
theorem big_any (a b : Option Addr) (n m c k : Nat) (w : World) (hn : n ≤ 9223372036854775807) (hm : m ≤ 9223372036854775807) :
    Calls Try.prog 4 #[.slice a n c, .slice b m k] w fun e w' => e = .returned (.bool (decide (1048576 < (n : Int)) || decide (1048576 - (n : Int) < (m : Int)))) ∧ w = w' := by
  by_cases h1 : (1048576 : Int) < (n : Int)
  · go_enter Try.func4, Try.ntmps4
    go_wp2_with fail
    go_ret
    exact ⟨by simp [h1], rfl⟩
  · by_cases h2 : (1048576 : Int) - (n : Int) < (m : Int)
    · go_enter Try.func4, Try.ntmps4
      go_wp2_with fail
      go_ret
      exact ⟨by simp [h1, h2], rfl⟩
    · go_enter Try.func4, Try.ntmps4
      go_wp2_with fail
      go_ret
      exact ⟨by simp [h1, h2], rfl⟩
set_option maxHeartbeats 16000000 in
set_option maxRecDepth 100000 in
theorem walk (ca ma : Option Addr) (cn mn ccap mcap : Nat) (w : World) (hc : RdY w ca cn) (hm0 : RdY w ma mn) (hbig : (decide (1048576 < (cn : Int)) || decide (1048576 - (cn : Int) < (mn : Int))) = false) :
    Calls Try.prog 3 #[.slice ca cn ccap, .slice ma mn mcap] w fun e w' => e = .returned (.bool true) ∧ Below w.heap.size w w' := by
  have hcn := hc.1
  have hmn := hm0.1
  go_enter Try.func3, Try.ntmps3
  dsimp only [List.append]
  go_wp2_with fail
  refine (big_any ca ma cn mn ccap mcap _ (by omega) (by omega)).mono ?_; rw [hbig]; rintro e w0 ⟨rfl, rfl⟩
  go_wp2_with fail
  refine (drawCountTogether ca cn ccap _ hc).mono ?_; rintro e wD ⟨m, a, b, rfl, hb⟩
  have HB := Lib.hid hb
  have hM := hm0.below hb
  obtain ⟨C, num, den, ok, cAi, cAs, cHi, cHs, fA⟩ := vcFactsA m a b
  have gA := Lib.hid fA
  clear hb hc hm0 hbig fA
  go_wp2_with fail
  refine (cAi _).mono ?_; rintro e w1 ⟨rfl, hb⟩
  replace HB := hbs HB hb
  replace hM := hM.below hb
  clear hb cAi
  go_wp2_with fail
  refine (cAs _).mono ?_; rintro e w1 ⟨rfl, hb⟩
  replace HB := hbs HB hb
  replace hM := hM.below hb
  clear hb cAs
  go_wp2_with fail
  refine (cHi _).mono ?_; rintro e w1 ⟨rfl, hb⟩
  replace HB := hbs HB hb
  replace hM := hM.below hb
  clear hb cHi
  go_wp2_with fail
  refine (cHs _).mono ?_; rintro e w1 ⟨rfl, hb⟩
  replace HB := hbs HB hb
  replace hM := hM.below hb
  clear hb cHs
  go_upto_region 8 with fail
  go_cut [151] from 124 to 150 (fun vv wx => vv = .bool false ∧ wx = w1)
  case first => as_aux_lemma =>
    clear gA HB hM
    go_wp2_with fail
    go_meet
    case rel => exact ⟨by first | rfl | simp, rfl⟩
  case rest =>
    obtain ⟨rfl, hwc⟩ := hcut
    obtain rfl := hwc
    go_upto_if 152 with fail
    go_cut [] from 153 to 241 (fun wx => Below wc.heap.size wc wx)
    case first => as_aux_lemma =>
      clear HB hM
      cases ok
      · clear gA
        go_wp2_with fail
        go_meet
        case rel => exact Below.refl _ _
      · obtain ⟨⟨b1, b2, b3, b4, b5, b6, b7, b8⟩, cY, cS, ⟨X1, X2, X3, e1, e2, e3, e4, h1, h2⟩, hab⟩ := gA.out rfl
        clear gA
        have GAB := Lib.hid hab
        clear hab
        go_wp2_with fail
        refine (cS _).mono ?_; rintro e w1 ⟨rfl, hb⟩
        have HX := Lib.hid hb
        clear hb cS
        go_wp2_with fail
        refine (cY _).mono ?_; rintro e w2 ⟨rfl, hb⟩
        replace HX := hbs HX hb
        clear hb cY
        by_cases q : a = b
        · subst q
          obtain ⟨hloop, hend, hW⟩ := GAB.out rfl
          have GL := Lib.hid hloop
          have GE := Lib.hid hend
          have GW := Lib.hid hW
          clear GAB hloop hend hW
          go_wp2_with fail
          clear e1 e2 e3 e4 h1 h2
          go_loopg [21, 20] m.toNat (fun k v21 v20 wr => ∃ i : Nat, v21 = .int .i64 (i : Int) ∧ v20 = .int .i64 (nrS m (i : Int)) ∧ (i : Int) + (k : Int) = m ∧ (i : Int) ≤ a + 1 ∧ Below wc.heap.size wc wr)
          case atStart => exact ⟨0, rfl, rfl, by omega, by omega, HX.out⟩
          case round => as_aux_lemma =>
            clear HX
            obtain ⟨i, rfl, rfl, hk, hia, hbel⟩ := hrel
            have HX := Lib.hid hbel
            clear hbel
            by_cases q1 : (i : Int) ≤ a
            · by_cases q2 : (i : Int) < m
              · obtain ⟨⟨n1, n2, n3, n4, n5⟩, cK⟩ := GL.out i (by omega) q2 q1
                clear GL GE GW
                obtain ⟨N, hN⟩ : ∃ N, nrS m i = N := ⟨_, rfl⟩
                obtain ⟨N1, hN1⟩ : ∃ N1, nrS m ((i : Int) + 1) = N1 := ⟨_, rfl⟩
                have HN1 := Lib.hid hN1
                rw [hN] at n1 n2 n5
                rw [hN1] at n5
                rw [hN]
                clear hN hN1
                generalize caN m i = cc at *
                go_wp2_with fail
                refine (cK _).mono ?_; rintro e w3 ⟨rfl, hb⟩
                replace HX := hbs HX hb
                clear hb cK
                subst n5
                go_wp2_with fail
                go_roundg (gk - 1)
                case rel => exact ⟨i + 1, by go_num, by rw [show ((i + 1 : Nat) : Int) = (i : Int) + 1 from by omega, HN1.out], by omega, by omega, HX.out⟩
                case measure => omega
              · skip
                obtain ⟨N, hN⟩ : ∃ N, nrS m i = N := ⟨_, rfl⟩
                have hC := GE.out i (by omega) (by omega) (by omega) (by omega)
                clear GE GL
                rw [hN] at hC
                rw [hN]
                subst hC
                clear hN
                by_cases q1 : m ≤ 50
                · by_cases q2 : a ≤ 50
                  · have cW := GW.out q1 q2
                    clear GW
                    go_wp2_with fail
                    refine (cW _).mono ?_; rintro e w2 ⟨rfl, hb⟩
                    replace HX := hbs HX hb
                    clear hb cW
                    go_wp2_with fail
                    go_meet
                    case rel => exact HX.out
                  · clear GW
                    go_wp2_with fail
                    go_meet
                    case rel => exact HX.out
                · clear GW
                  go_wp2_with fail
                  go_meet
                  case rel => exact HX.out
            · skip
              obtain ⟨N, hN⟩ : ∃ N, nrS m i = N := ⟨_, rfl⟩
              have hC := GE.out i (by omega) (by omega) (by omega) (by omega)
              clear GE GL
              rw [hN] at hC
              rw [hN]
              subst hC
              clear hN
              by_cases q1 : m ≤ 50
              · by_cases q2 : a ≤ 50
                · have cW := GW.out q1 q2
                  clear GW
                  go_wp2_with fail
                  refine (cW _).mono ?_; rintro e w2 ⟨rfl, hb⟩
                  replace HX := hbs HX hb
                  clear hb cW
                  go_wp2_with fail
                  go_meet
                  case rel => exact HX.out
                · clear GW
                  go_wp2_with fail
                  go_meet
                  case rel => exact HX.out
              · clear GW
                go_wp2_with fail
                go_meet
                case rel => exact HX.out
        · clear GAB
          go_wp2_with fail
          go_meet
          case rel => exact HX.out
    case rest =>
      replace HB := hbs HB hcut
      replace hM := hM.below hcut
      rename_i hK
      exact hK _ _ (tail29 HB hM)
set_option maxHeartbeats 4000000 in
set_option maxRecDepth 100000 in
theorem fnVisitsChance_walk (ca : Option Addr) (cn ccap : Nat) (ma : Option Addr) (mn mcap : Nat) (w : World) (hc : cn ≤ 1048576 → RdY w ca cn) (hc2 : cn ≤ maxLen) (hm : mn ≤ 1048576 → RdY w ma mn) (hm2 : mn ≤ maxLen) :
    Calls Try.prog 3 #[.slice ca cn ccap, .slice ma mn mcap] w fun e w' => e = .returned (.bool true) ∧ Below w.heap.size w w' := by
  unfold maxLen at hc2 hm2
  cases hbig : (decide (1048576 < (cn : Int)) || decide (1048576 - (cn : Int) < (mn : Int)))
  · have h2 := hbig
    rw [Bool.or_eq_false_iff, decide_eq_false_iff_not, decide_eq_false_iff_not] at h2
    exact walk ca ma cn mn ccap mcap w (hc (by omega)) (hm (by omega)) hbig
  · clear hc hm
    go_enter Try.func3, Try.ntmps3
    dsimp only [List.append]
    go_wp2_with fail
    refine (big_any ca ma cn mn ccap mcap _ (by omega) (by omega)).mono ?_; rw [hbig]; rintro e w0 ⟨rfl, rfl⟩
    go_wp2_with fail
    go_ret
    exact ⟨rfl, Below.refl _ _⟩
set_option maxRecDepth 100000 in
theorem fnVisitsChance_lifted (os : Os) (started : os.Started) (H : Type) (enc : TypeId × Value → H) :
    ReturnsInHanded {} Try.checked os 3 .any (Rows.fnVisitsChanceSpec.pre6 enc Try.prog Try.f3 Rows.fnVisitsChanceRow.domain false) (Rows.fnVisitsChanceSpec.post enc Try.prog Try.f3 false true false false) := by
  refine returnsInHanded_of_change (C := Try.checked) own started (by kernel_rfl) Try.func3
    (ChangeSpec.witness6 (enc := enc) (C := Try.checked) false ⟨#[], #[.slice none 0 0, .slice none 0 0], []⟩ 8 (by kernel_rfl) (by kernel_rfl) (by kernel_rfl) (by kernel_rfl)) ?_
  intro W base args ds gs before hval0 hW hcnd _
  have hval : ∀ (j : Nat) t v, Try.f3.params[j]? = some t → args[j]? = some v → Value.okWide Try.prog W .any base t v := hval0
  have hW' := hW
  obtain ⟨p, q, hA0, hV, rfl, hfz, hnd⟩ := hW
  have hA : DataW.TrodAll enc Try.prog W 0 (fun _ => true) true Try.f3.params.toList args.toList ds p := hA0
  rw [Try.params3] at hA hval
  obtain ⟨v0, vs0, d0, ds0, p0, q0, hargs, rfl, rfl, h0, r0⟩ := trodAll_cons hA
  obtain ⟨v1, vs1, d1, ds1, p1, q1, rfl, rfl, rfl, h1, r1⟩ := trodAll_cons r0
  obtain ⟨rfl, rfl, rfl⟩ := trodAll_nil r1
  obtain rfl : args = #[v0, v1] := by cases args; simp_all
  obtain ⟨rfl, rfl⟩ := trodVars_none hV
  have k0 := h0
  have lt0 : ∀ x ∈ p0, x.block < W.heap.size := by obtain ⟨m, hm⟩ := k0; exact DataW.trod_lt m _ _ _ hm
  have k1 := h1
  have lt1 : ∀ x ∈ p1, x.block < W.heap.size := by obtain ⟨m, hm⟩ := k1; exact DataW.trod_lt m _ _ _ hm
  obtain ⟨b0, len0, cap0, rfl⟩ := okWide_slice Try.underlying22 (hval 0 22 v0 rfl rfl)
  obtain ⟨R0, M0⟩ : (len0 ≤ 1048576 → RdY W b0 len0) ∧ len0 ≤ maxLen := by
    obtain ⟨fuel, hf⟩ := h0
    rcases open_ints Try.underlying22 Try.underlying5 (by kernel_rfl) hf with ⟨hcs, _⟩ | ⟨x, l, c, zs, hcs, _, hl, hm, hz, _, hcell, hwz⟩
    · simp [Value.cells] at hcs
      obtain ⟨rfl, rfl, rfl⟩ := hcs
      exact ⟨fun _ => ⟨Nat.zero_le _, .inl rfl⟩, Nat.zero_le _⟩
    · simp [Value.cells] at hcs
      obtain ⟨rfl, rfl, rfl⟩ := hcs
      have hz' : zs.length = cap0 := by simpa using hz
      exact ⟨fun q => rdY_of (by omega) q hcell hwz, by omega⟩
  obtain ⟨b1, len1, cap1, rfl⟩ := okWide_slice Try.underlying22 (hval 1 22 v1 rfl rfl)
  obtain ⟨R1, M1⟩ : (len1 ≤ 1048576 → RdY W b1 len1) ∧ len1 ≤ maxLen := by
    obtain ⟨fuel, hf⟩ := h1
    rcases open_ints Try.underlying22 Try.underlying5 (by kernel_rfl) hf with ⟨hcs, _⟩ | ⟨x, l, c, zs, hcs, _, hl, hm, hz, _, hcell, hwz⟩
    · simp [Value.cells] at hcs
      obtain ⟨rfl, rfl, rfl⟩ := hcs
      exact ⟨fun _ => ⟨Nat.zero_le _, .inl rfl⟩, Nat.zero_le _⟩
    · simp [Value.cells] at hcs
      obtain ⟨rfl, rfl, rfl⟩ := hcs
      have hz' : zs.length = cap1 := by simpa using hz
      exact ⟨fun q => rdY_of (by omega) q hcell hwz, by omega⟩
  clear hA0 hval0
  refine (fnVisitsChance_walk b0 len0 cap0 b1 len1 cap1 W R0 M0 R1 M1).mono fun e W' ⟨he, bel⟩ => ?_
  subst he
  exact ⟨_, rfl, _, _, _, [], _, [], hW', trodAll_mk1 (shut_bool Try.underlying4 _), (trodAll_cons_mk (Below.trod laidOut (by kernel_rfl) (of_decide_eq_true (by kernel_rfl)) k0 bel lt0) (trodAll_cons_mk (Below.trod laidOut (by kernel_rfl) (of_decide_eq_true (by kernel_rfl)) k1 bel lt1) trodAll_mk0)), rfl, bel.frame _, fun h => by cases h⟩
theorem fnVisitsChance_over : Rows.fnVisitsChanceRow.holds Try.pinned (OpenSpec.ofChange Rows.fnVisitsChanceSpec) :=
  OpenClaim.holds_of_wide 3 Try.f3 rfl rfl rfl rfl rfl rfl rfl ⟨rfl, rfl, rfl, rfl, rfl⟩ rfl rfl rfl rfl rfl (by kernel_rfl) Try.func3 (by kernel_rfl)
    (of_decide_eq_true (by kernel_rfl)) (by unfold Func.isWrapper; first | (rw [if_pos (by decide +kernel)]; kernel_rfl) | (rw [if_neg (by decide +kernel)]; exact ⟨rfl, rfl⟩))
    (fun os started H enc _ => fnVisitsChance_lifted os started H enc)
/-- The statement, as it is given. -/
theorem fnVisitsChance_holds : Rows.FnVisitsChanceSaid := fnVisitsChance_over


end fnVisitsChance
end Go.Proofs.Ytlmbcbopahpagaa
