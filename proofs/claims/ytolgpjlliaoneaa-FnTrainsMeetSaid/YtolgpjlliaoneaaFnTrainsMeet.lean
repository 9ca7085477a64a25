/- The named law of trains that meet (chapter 5) holds at whatever is drawn from whatever bytes: it answers true, it does not panic, and it writes into nothing that was there before the call. Conditions: none. -/
import Derived.Test.YtolgpjlliaoneaaRows
import Derived.Test.YtolgpjlliaoneaaTrnImpl
import Derived.Test.YtolgpjlliaoneaaTrnWalks
import Derived.Test.YtolgpjlliaoneaaTrnList
import Derived.Test.YtolgpjlliaoneaaTrnMost
import Derived.Test.YtolgpjlliaoneaaTrnFit
import Derived.Test.YtolgpjlliaoneaaTrnTake
import Derived.Test.YtolgpjlliaoneaaFloI
import Derived.Test.YtolgpjlliaoneaaQSame
import Derived.Test.YtolgpjlliaoneaaQIs
import Derived.Test.YtolgpjlliaoneaaTmMath
import Derived.Test.YtolgpjlliaoneaaTmFacts
import Derived.Test.YtolgpjlliaoneaaCurOne
import Derived.Test.YtolgpjlliaoneaaCurTrn
import Derived.Test.YtolgpjlliaoneaaCurFrame
import Derived.Deep.Cut
import Derived.Deep.CutRange
import Derived.WalkKit
import Derived.ProofKit
import Derived.OpenShut
import Derived.ShutString
import Derived.ChangeOld
import Derived.Below
import Derived.Lib.SmallJoins
import Derived.Lib.Hide
namespace Go.Proofs.Ytolgpjlliaoneaa
open Go.ChangeShapes Go.WideShapes Go.ChangeAt Go.RowKit Go.Joins
open Go.ChangeMaps (open_string shut_string)
set_option linter.unusedVariables false
set_option linter.unusedSimpArgs false
namespace fnTrainsMeet
theorem own : ownKnob Try.prog.godebug = none := by kernel_rfl
theorem laidOut : laidOutB Try.prog = true := by kernel_rfl
/-- both trains stand in the call's own two blocks -/
def Two (u d v z : Int) (w w' : World) : Prop := Below w.heap.size w w' ∧ w.heap.size < w'.heap.size ∧ w.heap.size + 1 < w'.heap.size ∧
  w'.cell? ⟨w.heap.size, 0, none⟩ = some (.int .i64 u) ∧ w'.cell? ⟨w.heap.size, 1, none⟩ = some (.int .i64 d) ∧ w'.cell? ⟨w.heap.size + 1, 0, none⟩ = some (.int .i64 v) ∧ w'.cell? ⟨w.heap.size + 1, 1, none⟩ = some (.int .i64 z)
theorem Two.below {u d v z : Int} {w a b : World} (h : Two u d v z w a) (hb : Below a.heap.size a b) : Two u d v z w b := by
  obtain ⟨h0, h1, h2, h3, h4, h5, h6⟩ := h
  have e := fun o => (bcell hb).1 w.heap.size o h1
  have f := fun o => (bcell hb).1 (w.heap.size + 1) o h2
  have s := hb.size
  exact ⟨h0.trans (hb.mono h0.size), by omega, by omega, by rw [e]; exact h3, by rw [e]; exact h4, by rw [f]; exact h5, by rw [f]; exact h6⟩
theorem big_any (a b : Option Addr) (n m c k : Nat) (w : World) (hn : n ≤ 9223372036854775807) (hm : m ≤ 9223372036854775807) :
    Calls Try.prog 4 #[.slice a n c, .slice b m k] w fun e w' => e = .returned (.bool (decide (1048576 < (n : Int)) || decide (1048576 - (n : Int) < (m : Int)))) ∧ w = w' := by
  by_cases h1 : (1048576 : Int) < (n : Int)
  · go_enter Try.func4, Try.ntmps4
    go_wp2_with fail
    go_ret
    exact ⟨by simp [h1], rfl⟩
  · by_cases h2 : (1048576 : Int) - (n : Int) < (m : Int)
    · go_enter Try.func4, Try.ntmps4
      go_wp2_with fail
      go_ret
      exact ⟨by simp [h1, h2], rfl⟩
    · go_enter Try.func4, Try.ntmps4
      go_wp2_with fail
      go_ret
      exact ⟨by simp [h1, h2], rfl⟩
set_option maxHeartbeats 16000000 in
set_option maxRecDepth 100000 in
theorem walk (ca ma : Option Addr) (cn mn ccap mcap : Nat) (w : World) (hc : RdY w ca cn) (hm0 : RdY w ma mn) (hbig : (decide (1048576 < (cn : Int)) || decide (1048576 - (cn : Int) < (mn : Int))) = false) :
    Calls Try.prog 3 #[.slice ca cn ccap, .slice ma mn mcap] w fun e w' => e = .returned (.bool true) ∧ Below w.heap.size w w' := by
  have hcn := hc.1
  have hmn := hm0.1
  go_enter Try.func3, Try.ntmps3
  dsimp only [List.append]
  go_wp2_with fail
  refine (big_any ca ma cn mn ccap mcap _ (by omega) (by omega)).mono ?_; rw [hbig]; rintro e w0 ⟨rfl, rfl⟩
  go_wp2_with fail
  refine (drawMeetAfter ca cn ccap _ hc).mono ?_; rintro e wD ⟨l, r, m, q, n, rfl, hbD⟩
  obtain ⟨A, B, C, D, I, J, K, L, H, Y, ok, one, three, cMi, cMs, cOi, cOs, cHi, cHs, fF, fM, fO1, fO2, fH⟩ := tmFacts1 l r m q n
  have gF := Lib.hid fF
  have gM := Lib.hid fM
  have gO1 := Lib.hid fO1
  have gO2 := Lib.hid fO2
  have gH := Lib.hid fH
  have hB0 := Lib.hid hbD
  have hM := hm0.below hbD
  clear fF fM fO1 fO2 fH hbD hc hm0 hbig
  go_wp2_with fail
  refine (cMi _).mono ?_; rintro e w1 ⟨rfl, hb⟩
  have hz : wD.heap.size < w1.heap.size ∧ wD.heap.size + 1 < w1.heap.size := (by have := hb.size; (try simp at this); omega)
  have hcA := fun o => (bcell hb).1 wD.heap.size o (by first | omega | (simp; omega) | (simp; done))
  have hcB := fun o => (bcell hb).1 (wD.heap.size + 1) o (by first | omega | (simp; omega) | (simp; done))
  have hT : Two l r m q wD w1 := by
    refine ⟨by (repeat (first | assumption | exact Below.refl _ _ | refine Below.drew ?_ | refine Below.alloc ?_ (by first | omega | (simp; done) | (simp; omega)) _ | refine bchain ?_ (by assumption) (by first | omega | (simp; done) | (simp; omega)))), by omega, by omega, ?_, ?_, ?_, ?_⟩ <;> go_simp
  clear hb hz hcA hcB
  obtain ⟨hz1, hz2, uA0, uA1, uB0, uB1⟩ := id hT.2
  go_upto_region 10 with (first | (go_at_call 7; refine (cMs _).mono ?_; rintro e w1 ⟨rfl, hb⟩; replace hT := Two.below hT hb; clear hb hz1 hz2 uA0 uA1 uB0 uB1; obtain ⟨hz1, hz2, uA0, uA1, uB0, uB1⟩ := id hT.2) | (go_at_call 8; refine (cOi _).mono ?_; rintro e w1 ⟨rfl, hb⟩; replace hT := Two.below hT hb; clear hb hz1 hz2 uA0 uA1 uB0 uB1; obtain ⟨hz1, hz2, uA0, uA1, uB0, uB1⟩ := id hT.2) | (go_at_call 9; refine (cOs _).mono ?_; rintro e w1 ⟨rfl, hb⟩; replace hT := Two.below hT hb; clear hb hz1 hz2 uA0 uA1 uB0 uB1; obtain ⟨hz1, hz2, uA0, uA1, uB0, uB1⟩ := id hT.2) | (go_at_call 10; refine (cHi _).mono ?_; rintro e w1 ⟨rfl, hb⟩; replace hT := Two.below hT hb; clear hb hz1 hz2 uA0 uA1 uB0 uB1; obtain ⟨hz1, hz2, uA0, uA1, uB0, uB1⟩ := id hT.2) | (go_at_call 11; refine (cHs _).mono ?_; rintro e w1 ⟨rfl, hb⟩; replace hT := Two.below hT hb; clear hb hz1 hz2 uA0 uA1 uB0 uB1; obtain ⟨hz1, hz2, uA0, uA1, uB0, uB1⟩ := id hT.2))
  clear cMi cMs cOi cOs cHi cHs
  go_cut [222] from 146 to 221 (fun v223 wc => v223 = .bool false ∧ wc = w1)
  case first => as_aux_lemma =>
    have hF := gF.out
    clear hM hB0 gF gM gO1 gO2 gH hT hz1 hz2 uA0 uA1 uB0 uB1 
    cases ok
    · obtain ⟨rfl, rfl⟩ := hF rfl
      go_wp2_with fail
      go_meet
      case rel => exact ⟨by first | rfl | simp, rfl⟩
    · clear hF
      cases one <;> cases three
      all_goals
        go_wp2_with fail
        go_meet
        case rel => exact ⟨by first | rfl | simp, rfl⟩
  case rest =>
    obtain ⟨rfl, hwc⟩ := hcut
    obtain rfl : w1 = wc := hwc.symm
    go_upto_if 223 with fail
    go_cut [] from 224 to 287 (fun wc => Two l r m q wD wc)
    case first => as_aux_lemma =>
      cases ok
      · go_wp2_with fail
        go_meet
        case rel => exact hT
      · obtain ⟨⟨b1, b2, b3, b4, b5, b6, b7, b8⟩, E, F, nr, P1, P2, nD, P3, e1, e2, e3, e4, e5, e6, cB, cQ1, cQ2⟩ := gM.out rfl
        clear hM hB0 gF gM gO1 gO2 gH
        have gB := Lib.hid b1
        clear b7 b8
        go_wp2_with (first | (go_at_call 6; refine (cB _).mono ?_; rintro e w1 ⟨rfl, hb⟩; replace hT := Two.below hT hb; clear hb hz1 hz2 uA0 uA1 uB0 uB1; obtain ⟨hz1, hz2, uA0, uA1, uB0, uB1⟩ := id hT.2) | (go_at_call_of 12 (Value.int IntKind.i64 A); refine (cQ1 _).mono ?_; rintro e w1 ⟨rfl, hb⟩; replace hT := Two.below hT hb; clear hb hz1 hz2 uA0 uA1 uB0 uB1; obtain ⟨hz1, hz2, uA0, uA1, uB0, uB1⟩ := id hT.2) | (go_at_call_of 12 (Value.int IntKind.i64 C); refine (cQ2 _).mono ?_; rintro e w1 ⟨rfl, hb⟩; replace hT := Two.below hT hb; clear hb hz1 hz2 uA0 uA1 uB0 uB1; obtain ⟨hz1, hz2, uA0, uA1, uB0, uB1⟩ := id hT.2))
        go_meet
        case rel => assumption
    case rest =>
      clear hT hz1 hz2 uA0 uA1 uB0 uB1 gF gM
      have hT := hcut
      clear hcut
      obtain ⟨hz1, hz2, uA0, uA1, uB0, uB1⟩ := id hT.2
      go_upto_region 16 with fail
      go_cut [353] from 288 to 352 (fun v354 wc => v354 = .bool false ∧ Two l r m q wD wc)
      case first => as_aux_lemma =>
        have hO1 := gO1.out
        have hO2 := gO2.out
        clear hM hB0 gO1 gO2 gH 
        cases one
        · cases ok
          · clear hO1 hO2
            go_wp2_with fail
            go_meet
            case rel => exact ⟨by first | rfl | simp, hT⟩
          · obtain ⟨h1, h2⟩ := hO1 rfl rfl
            have h3 : ¬ q < r := by omega
            clear hO1 hO2
            go_wp2_with fail
            go_meet
            case rel => exact ⟨by first | rfl | simp [h2], hT⟩
        · obtain ⟨rfl, ⟨b1, b2, b3, b4, b5, b6⟩, hor, hz0, hcq⟩ := hO2 rfl
          clear hO1 hO2
          by_cases hn : n = 0
          · obtain ⟨rfl, rfl, rfl, rfl⟩ := hz0 hn
            subst hn
            clear hor hz0
            by_cases hqr : q < r
            · obtain ⟨nr, e1, cQ3, cQ4⟩ := hcq hqr
              clear hcq cQ4
              have e2 : (0 : Int) * r = 0 := Int.zero_mul r
              clear e1
              go_wp2_with (first | (go_at_call 12; refine (cQ3 _).mono ?_; rintro e w1 ⟨rfl, hb⟩; replace hT := Two.below hT hb; clear hb hz1 hz2 uA0 uA1 uB0 uB1; obtain ⟨hz1, hz2, uA0, uA1, uB0, uB1⟩ := id hT.2))
              go_meet
              case rel => exact ⟨by first | rfl | simp, by assumption⟩
            · clear hcq
              go_wp2_with fail
              go_meet
              case rel => exact ⟨by first | rfl | simp, hT⟩
          · have hqr : q < r := by omega
            obtain ⟨nr, e1, cQ3, cQ4⟩ := hcq hqr
            clear hcq hz0 hor
            go_wp2_with (first | (go_at_call_of 12 (Value.int IntKind.i64 I); refine (cQ3 _).mono ?_; rintro e w1 ⟨rfl, hb⟩; replace hT := Two.below hT hb; clear hb hz1 hz2 uA0 uA1 uB0 uB1; obtain ⟨hz1, hz2, uA0, uA1, uB0, uB1⟩ := id hT.2) | (go_at_call_of 12 (Value.int IntKind.i64 K); refine (cQ4 _).mono ?_; rintro e w1 ⟨rfl, hb⟩; replace hT := Two.below hT hb; clear hb hz1 hz2 uA0 uA1 uB0 uB1; obtain ⟨hz1, hz2, uA0, uA1, uB0, uB1⟩ := id hT.2))
            go_meet
            case rel => exact ⟨by first | rfl | simp, by assumption⟩
      case rest =>
        clear hT hz1 hz2 uA0 uA1 uB0 uB1 gO1 gO2
        obtain ⟨rfl, hT⟩ := hcut
        obtain ⟨hz1, hz2, uA0, uA1, uB0, uB1⟩ := id hT.2
        go_upto_if 354 with fail
        go_cut [] from 355 to 430 (fun wc => Two l r m q wD wc)
        case first => as_aux_lemma =>
          have hH := gH.out
          clear hM hB0 gH 
          cases three
          · go_wp2_with fail
            go_meet
            case rel => exact hT
          · obtain ⟨⟨b1, b2, b3, b4, b5, b6, b7, b8⟩, PL, PT, X1, X2, X3, X4, X5, X6, X7, e1, e2, e3, e4, e5, e6, e7, e8, k1, k2, k3, cP, cL⟩ := hH rfl
            clear hH
            by_cases k4 : X2 < X1
            · obtain rfl := k3 k4
              clear k2
              go_wp2_with (first | (go_at_call 13; refine (cP _).mono ?_; rintro e w1 ⟨rfl, hb⟩; replace hT := Two.below hT hb; clear hb hz1 hz2 uA0 uA1 uB0 uB1; obtain ⟨hz1, hz2, uA0, uA1, uB0, uB1⟩ := id hT.2) | (go_at_call 14; refine (cL _).mono ?_; rintro e w1 ⟨rfl, hb⟩; replace hT := Two.below hT hb; clear hb hz1 hz2 uA0 uA1 uB0 uB1; obtain ⟨hz1, hz2, uA0, uA1, uB0, uB1⟩ := id hT.2))
              go_meet
              case rel => assumption
            · clear k3
              go_wp2_with (first | (go_at_call 13; refine (cP _).mono ?_; rintro e w1 ⟨rfl, hb⟩; replace hT := Two.below hT hb; clear hb hz1 hz2 uA0 uA1 uB0 uB1; obtain ⟨hz1, hz2, uA0, uA1, uB0, uB1⟩ := id hT.2) | (go_at_call 14; refine (cL _).mono ?_; rintro e w1 ⟨rfl, hb⟩; replace hT := Two.below hT hb; clear hb hz1 hz2 uA0 uA1 uB0 uB1; obtain ⟨hz1, hz2, uA0, uA1, uB0, uB1⟩ := id hT.2))
              go_meet
              case rel => assumption
        case rest =>
          clear hT hz1 hz2 uA0 uA1 uB0 uB1 gH
          have hBel : Below w.heap.size w wc := hB0.out.trans (hcut.1.mono hB0.out.size)
          have hM := hM.below hcut.1
          clear hcut hB0
          go_wp2_with fail
          refine (drawCountTrainsMet ma mn mcap _ hM).mono ?_; rintro e wE ⟨jj, ee, g, rfl, hbE⟩
          obtain ⟨cnt, five, cCi, cCs, fC⟩ := tmFacts2 jj ee g
          have gC := Lib.hid fC
          have BE := hBel.trans (hbE.mono hBel.size)
          have hM := hM.below hbE
          clear fC hBel hbE
          go_wp2_with fail
          refine (cCi _).mono ?_; rintro e w1 ⟨rfl, hb1⟩
          have B1 := BE.trans (hb1.mono BE.size)
          go_wp2_with fail
          refine (cCs _).mono ?_; rintro e w2 ⟨rfl, hb2⟩
          have B2 := B1.trans (hb2.mono B1.size)
          have hM := (hM.below hb1).below hb2
          clear BE hb1 hb2 B1 cCi cCs
          go_wp2_with fail
          refine (drawMetAt ma mn mcap _ hM).mono ?_; rintro e wF ⟨lo, of, lf, rfl, hbF⟩
          obtain ⟨num, den, seven, cAi, cAs, fA⟩ := tmFacts3 lo of lf
          have gA := Lib.hid fA
          have BF := B2.trans (hbF.mono B2.size)
          have hM := hM.below hbF
          clear fA B2 hbF
          go_wp2_with fail
          refine (cAi _).mono ?_; rintro e w3 ⟨rfl, hb3⟩
          have B3 := BF.trans (hb3.mono BF.size)
          go_wp2_with fail
          refine (cAs _).mono ?_; rintro e w4 ⟨rfl, hb4⟩
          have B3b := B3.trans (hb4.mono B3.size)
          have hM := (hM.below hb3).below hb4
          clear BF hb3 hb4 B3 cAi cAs
          go_wp2_with fail
          refine (drawMostInSiding ma mn mcap _ hM).mono ?_; rintro e wS ⟨xs, a0, cap0, sd, rfl, hxl, hR, hbS⟩
          obtain ⟨R, nine, fits, hRl, cSi, cSs, cFi, cFs, fS⟩ := tmFacts4 a0 cap0 xs sd (by omega)
          have gS := Lib.hid fS
          have gSi := Lib.hid cSi
          have gSs := Lib.hid cSs
          have gFi := Lib.hid cFi
          have gFs := Lib.hid cFs
          have HW := Lib.hid (B3b.trans (hbS.mono B3b.size))
          have B4 := Below.refl wS.heap.size wS
          have hx : ¬ (10000 : Int) < (xs.length : Int) := by omega
          clear fS cSi cSs cFi cFs B3b hbS hM hxl
          go_wp2_with fail
          refine (gSi.out _ (hR.below B4)).mono ?_; rintro e w5 ⟨q1, k1, rfl, hO1, hb5⟩
          have B5 := B4.trans (hb5.mono B4.size)
          go_wp2_with fail
          refine (gSs.out _ (hR.below B5)).mono ?_; rintro e w6 ⟨q2, k2, rfl, hO2, hb6⟩
          have B6 := B5.trans (hb6.mono B5.size)
          go_wp2_with fail
          refine (gFi.out _ (hR.below B6)).mono ?_; rintro e w7 ⟨rfl, hb7⟩
          have B7 := B6.trans (hb7.mono B6.size)
          go_wp2_with fail
          refine (gFs.out _ (hR.below B7)).mono ?_; rintro e w8 ⟨rfl, hb8⟩
          have B8 := B7.trans (hb8.mono B7.size)
          have R1 : Rd w8 q1 R := (((hO1.below hb6).below hb7).below hb8).rd
          have R2 : Rd w8 q2 R := ((hO2.below hb7).below hb8).rd
          clear hO1 hO2 hb5 hb6 hb7 hb8 B4 B5 B6 B7 gSi gSs gFi gFs
          go_wp2_with fail
          refine (qSame_eq q1 q2 k1 k2 R _ R1 R2 (by omega)).mono ?_; rintro e w9 ⟨rfl, hb9⟩
          have B9w := B8.trans (hb9.mono B8.size)
          have B9 := Lib.hid (HW.out.trans (B9w.mono HW.out.size))
          have R9 := R1.below hb9
          have RX := hR.below B9w
          clear R1 R2 B8 hb9 hR B9w HW
          go_upto_if 551 with fail
          go_cut [] from 552 to 617 (fun wc => Below w9.heap.size w9 wc)
          case first => as_aux_lemma =>
            clear gA gS RX R9
            cases five
            · go_wp2_with fail
              go_meet
              case rel => exact Below.refl _ _
            · obtain ⟨oth, lst, mx, my, P, c1, c2, c3, ho1, ⟨o0, o1⟩, cO, ⟨hl1, hl2⟩, cM, eP, hx1, hx2⟩ := gC.out rfl
              clear gC
              cases g
              · have hx3 := hx2 rfl
                clear hx2 ho1
                go_wp2_with fail
                refine (cO _).mono ?_; rintro e wa ⟨rfl, ha⟩
                go_wp2_with fail
                refine (cM _).mono ?_; rintro e wb ⟨rfl, hb⟩
                have HB := Lib.hid (ha.trans (hb.mono ha.size))
                clear ha hb
                go_upto_region 44 with fail
                go_cut [617] from 598 to 616 (fun v601 wc => v601 = .bool false ∧ wc = wb)
                case first =>
                  go_wp2_with fail
                  go_meet
                  case rel => exact ⟨by first | rfl | (simp [hx3]; omega), rfl⟩
                case rest =>
                  obtain ⟨rfl, hwc⟩ := hcut
                  obtain rfl : wb = wc := hwc.symm
                  go_wp2_with fail
                  go_meet
                  case rel => exact HB.out
              · obtain ⟨ho3, ho4⟩ := ho1 rfl
                clear hx2 ho1
                go_wp2_with fail
                refine (cO _).mono ?_; rintro e wa ⟨rfl, ha⟩
                go_wp2_with fail
                refine (cM _).mono ?_; rintro e wb ⟨rfl, hb⟩
                have HB := Lib.hid (ha.trans (hb.mono ha.size))
                clear ha hb
                go_wp2_with fail
                go_meet
                case rel => exact HB.out
          case rest =>
            have hA0 := hcut
            clear hcut gC
            go_upto_region 46 with fail
            go_cut [629] from 618 to 628 (fun v613 wc => v613 = .bool false ∧ Below w9.heap.size w9 wc)
            case first => as_aux_lemma =>
              clear gS RX R9
              cases seven
              · clear gA
                go_wp2_with fail
                go_meet
                case rel => exact ⟨rfl, hA0⟩
              · obtain ⟨Y1, Y2, e1, e2, cQ⟩ := gA.out rfl
                clear gA
                go_wp2_with fail
                refine (cQ _).mono ?_; rintro e wa ⟨rfl, ha⟩
                have HB := Lib.hid (hA0.trans (ha.mono hA0.size))
                clear ha hA0
                go_wp2_with fail
                go_meet
                case rel => exact ⟨by first | rfl | simp, HB.out⟩
            case rest =>
              obtain ⟨rfl, hA1⟩ := hcut
              have R10 := R9.below hA1
              have RY := RX.below hA1
              have HB := Lib.hid (bchain B9.out hA1 B9.out.size)
              clear hA1 hA0 R9 RX B9 gA
              cases nine
              · clear gS R10 RY
                go_wp2_with fail
                go_ret
                exact ⟨rfl, HB.out⟩
              · obtain ⟨SM, hS⟩ := gS.out rfl
                have gM := Lib.hid hS
                have hlx := hS.len
                have hrl := hS.rl
                clear gS hS
                go_wp2_with fail
                go_loopg [633, 74] R.length (fun k v617 v81 wr => ∃ (j : Nat), v617 = .int .i64 (j : Int) ∧ v81 = .int .i64 (SM j) ∧ j + k ≤ R.length ∧ R.length ≤ j + k ∧ Below wc.heap.size wc wr)
                case atStart => exact ⟨0, rfl, by rw [gM.out.s0], by omega, by omega, Below.refl _ _⟩
                case round => as_aux_lemma =>
                  obtain ⟨j, rfl, rfl, h1, h2, hbel⟩ := hrel
                  by_cases hj : j < R.length
                  · have hss := gM.out.ss j hj
                    have hsb := gM.out.sb j (by omega)
                    have hsb' := gM.out.sb (j + 1) (by omega)
                    have hbd := gM.out.bd j hj
                    obtain ⟨x, hx⟩ : ∃ x : Nat, R.getD j 0 = (x : Int) := ⟨(R.getD j 0).toNat, by omega⟩
                    have hxl : x < xs.length := by omega
                    have hpx := gM.out.px1 x hxl
                    rcases R10 with h | ⟨b, off, rfl, hlt, hc⟩
                    · rw [h] at hj; exact absurd hj (Nat.not_lt_zero _)
                    · rcases RY with h | ⟨b', off', rfl, hlt', hc'⟩
                      · rw [h] at hxl; exact absurd hxl (Nat.not_lt_zero _)
                      · have hcj : wr.cell? ⟨b, off + j, none⟩ = some (.int .i64 (x : Int)) := by rw [(bcell hbel).1 b _ hlt, ← hx]; exact hc j hj
                        have hcx : wr.cell? ⟨b', off' + x * 2, none⟩ = some (.int .i64 (px xs x)) := by rw [(bcell hbel).1 b' _ hlt']; exact (hc' x hxl).1
                        have hjI : (j : Int) < (R.length : Int) := by omega
                        have hxI : (x : Int) < (xs.length : Int) := by omega
                        have HBw := Lib.hid hbel
                        have GC := Lib.hid (fun (o : Nat) (ho : o < R.length) => show wr.cell? ⟨b, off + o, none⟩ = some (.int .i64 (R.getD o 0)) by rw [(bcell hbel).1 b _ hlt]; exact hc o ho)
                        have GS := Lib.hid (show SM (j + 1) = SM j + px xs x by rw [hss, hx]; simp)
                        have HX := Lib.hid hx
                        clear hbel hc hc' hss hbd hx
                        generalize px xs x = p at *
                        go_upto_region 53 with fail
                        go_cut [658] from 638 to 657 (fun v642 wc => v642 = .bool false ∧ wc = wr)
                        case first => as_aux_lemma =>
                          clear hcx hsb hsb' hpx GS
                          rcases j with _ | i
                          · go_wp2_with fail
                            go_meet
                            case rel => exact ⟨by first | rfl | (simp; omega), rfl⟩
                          · have hinc := gM.out.inc i hj
                            have hci : wr.cell? ⟨b, off + i, none⟩ = some (.int .i64 (R.getD i 0)) := GC.out i (by omega)
                            rw [HX.out] at hinc
                            clear GC HX
                            generalize R.getD i 0 = pv at *
                            go_wp2_with fail
                            go_meet
                            case rel => exact ⟨by first | rfl | (simp; omega), rfl⟩
                        case rest =>
                          obtain ⟨rfl, hwc⟩ := hcut
                          obtain rfl : wr = wc := hwc.symm
                          clear GC HX hcj
                          go_wp2_with fail
                          go_roundg (gk - 1)
                          case rel => exact ⟨j + 1, by go_num, by rw [GS.out], by omega, by omega, HBw.out⟩
                          case measure => omega
                  · obtain rfl : j = R.length := by omega
                    have hsle := gM.out.sle
                    have hsb := gM.out.sb R.length (Nat.le_refl _)
                    have hn0 := gM.out.n0
                    have hfit := gM.out.fit
                    have GO := Lib.hid gM.out.out
                    have GL := Lib.hid gM.out.low
                    have GP := Lib.hid gM.out.px1
                    have GB := Lib.hid gM.out.bd
                    have R11 := R10.below hbel
                    have RZ := RY.below hbel
                    have HBx := Lib.hid (bchain HB.out hbel HB.out.size)
                    clear hbel R10 RY HB gM h1 h2 hj
                    generalize SM R.length = S at *
                    go_upto_region 57 with fail
                    go_cut [678] from 667 to 677 (fun v662 wc => v662 = .bool false ∧ wc = wr)
                    case first => as_aux_lemma =>
                      by_cases hq : R.length = xs.length
                      · have HQ := Lib.hid (show (R.length : Int) = (xs.length : Int) by omega)
                        obtain rfl : fits = true := by rw [hfit]; simp [hq]
                        clear hfit hq
                        go_wp2_with fail
                        go_meet
                        case rel => exact ⟨by first | rfl | (simp [HQ.out]; done) | (simp [HQ.out]; omega), rfl⟩
                      · have HQ := Lib.hid (show ¬ (R.length : Int) = (xs.length : Int) by omega)
                        obtain rfl : fits = false := by rw [hfit]; simp [hq]
                        clear hfit hq
                        go_wp2_with fail
                        go_meet
                        case rel => exact ⟨by first | rfl | (simp [HQ.out]; done) | (simp [HQ.out]; omega), rfl⟩
                    case rest =>
                      obtain ⟨rfl, hwc⟩ := hcut
                      obtain rfl : wr = wc := hwc.symm
                      clear hfit hsle
                      go_wp2_with fail
                      generalize hwo : wr = wo at *
                      go_loopg [681] xs.length (fun k v665 wr => ∃ (j : Nat), v665 = .int .i64 (j : Int) ∧ j + k ≤ xs.length ∧ xs.length ≤ j + k ∧ Below wo.heap.size wo wr)
                      case atStart => exact ⟨0, rfl, by omega, by omega, Below.refl _ _⟩
                      case round => as_aux_lemma =>
                        obtain ⟨t, rfl, h1, h2, hbel⟩ := hrel
                        obtain ⟨gko, hgko⟩ : ∃ n, n = gk := ⟨_, rfl⟩
                        by_cases ht : t < xs.length
                        · have hpx := GP.out t ht
                          have hout := GO.out t ht
                          have hlow := GL.out t ht
                          rcases RZ with h | ⟨b', off', rfl, hlt', hc'⟩
                          · rw [h] at ht; exact absurd ht (Nat.not_lt_zero _)
                          · have hc0 : wr.cell? ⟨b', off' + t * 2, none⟩ = some (.int .i64 (px xs t)) := by rw [(bcell hbel).1 b' _ hlt']; exact (hc' t ht).1
                            have hc1 : wr.cell? ⟨b', off' + t * 2 + 1, none⟩ = some (.int .i64 (py xs t)) := by rw [(bcell hbel).1 b' _ hlt']; exact (hc' t ht).2
                            have htI : (t : Int) < (xs.length : Int) := by omega
                            have RQ : RdP wr (some ⟨b', off', none⟩) xs := RdP.below (.inr ⟨b', off', rfl, hlt', hc'⟩) hbel
                            have R12 := R11.below hbel
                            have HBq := Lib.hid hbel
                            have HO := Lib.hid hout
                            have HL := Lib.hid hlow
                            clear hbel hc' hout hlow
                            go_wp2_with fail
                            generalize hw : World.alloc wr _ = wa
                            have ha : Below wr.heap.size wr wa := by subst hw; exact (Below.refl _ _).alloc (Nat.le_refl _) _
                            have ka : wa.cell? ⟨wr.heap.size, 0, none⟩ = some (.int .i64 (px xs t)) := by subst hw; go_simp
                            have sa : wr.heap.size < wa.heap.size := by subst hw; simp
                            clear hw
                            refine (qHas_any q1 k1 R t _ (R12.below ha) (by omega)).mono ?_; rintro e wb ⟨rfl, hb⟩
                            have kb : wb.cell? ⟨wr.heap.size, 0, none⟩ = some (.int .i64 (px xs t)) := by rw [(bcell hb).1 _ _ sa]; exact ka
                            have sb : wr.heap.size < wb.heap.size := Nat.lt_of_lt_of_le sa hb.size
                            have hB : Below wr.heap.size wr wb := ha.trans (hb.mono ha.size)
                            have RW := RQ.below hB
                            have R13 := R12.below hB
                            have HBb := Lib.hid (bchain HBq.out hB HBq.out.size)
                            clear ha ka sa hb hB RQ R12 HBq R11 hc0 hc1 HBx
                            generalize wr.heap.size = tb at *
                            generalize px xs t = p at *
                            cases hin : R.contains (t : Int)
                            · have hout := HO.out hin
                              have hlow := Lib.hid (HL.out hin)
                              clear HO HL hin GO GL
                              go_wp2_with fail
                              go_loopg [697] R.length (fun k v681 wr => ∃ (i : Nat), v681 = .int .i64 (i : Int) ∧ i + k ≤ R.length ∧ R.length ≤ i + k ∧ Below wb.heap.size wb wr)
                              case atStart => exact ⟨0, rfl, by omega, by omega, Below.refl _ _⟩
                              case round => as_aux_lemma =>
                                obtain ⟨i, rfl, g1, g2, hbel⟩ := hrel
                                by_cases hi : i < R.length
                                · have hbd := GB.out i hi
                                  obtain ⟨x, hx⟩ : ∃ x : Nat, R.getD i 0 = (x : Int) := ⟨(R.getD i 0).toNat, by omega⟩
                                  have hxl : x < xs.length := by omega
                                  have hl := hlow.out i hi
                                  rw [hx] at hl
                                  simp only [Int.toNat_natCast] at hl
                                  rcases R13 with h | ⟨b, off, rfl, hlt, hc⟩
                                  · rw [h] at hi; exact absurd hi (Nat.not_lt_zero _)
                                  · rcases RW with h | ⟨b2, off2, h2e, hlt2, hc2⟩
                                    · rw [h] at hxl; exact absurd hxl (Nat.not_lt_zero _)
                                    · obtain ⟨rfl, rfl⟩ : b' = b2 ∧ off' = off2 := by
                                        injection h2e with h2e; injection h2e with h2a h2b; exact ⟨h2a, h2b⟩
                                      have hci : wr.cell? ⟨b, off + i, none⟩ = some (.int .i64 (x : Int)) := by rw [(bcell hbel).1 b _ hlt, ← hx]; exact hc i hi
                                      have hcx : wr.cell? ⟨b', off' + x * 2, none⟩ = some (.int .i64 (px xs x)) := by rw [(bcell hbel).1 b' _ hlt2]; exact (hc2 x hxl).1
                                      have kt : wr.cell? ⟨tb, 0, none⟩ = some (.int .i64 p) := by rw [(bcell hbel).1 tb _ sb]; exact kb
                                      have hiI : (i : Int) < (R.length : Int) := by omega
                                      have hxI : (x : Int) < (xs.length : Int) := by omega
                                      have HBw := Lib.hid hbel
                                      clear hbel hc hc2 hbd hx kb h2e hlow HBb GB GP
                                      generalize px xs x = y at *
                                      rcases hl with hl | ⟨hl1, hl2⟩
                                      · have n1 : ¬ p < y := by omega
                                        have n2 : ¬ y = p := by omega
                                        go_wp2_with fail
                                        go_quiet (fail)
                                        go_wp2_with fail
                                        go_roundg (gk - 1)
                                        case rel => exact ⟨i + 1, by go_num, by omega, by omega, below_drewN HBw.out _⟩
                                        case measure => omega
                                      · have n1 : ¬ p < y := by omega
                                        have n3 : ¬ (t : Int) < (x : Int) := by omega
                                        go_wp2_with fail
                                        go_quiet (fail)
                                        go_wp2_with fail
                                        go_roundg (gk - 1)
                                        case rel => exact ⟨i + 1, by go_num, by omega, by omega, below_drewN HBw.out _⟩
                                        case measure => omega
                                · have HBc := Lib.hid (bchain HBb.out hbel HBb.out.size)
                                  clear hbel HBb hlow R13 RW kb GB GP
                                  go_wp2_with fail
                                  go_roundg (gko - 1)
                                  case rel => exact ⟨t + 1, by go_num, by omega, by omega, HBc.out⟩
                                  case measure => omega
                            · clear HO HL hin GO GL RW R13 kb GB GP
                              go_wp2_with fail
                              go_roundg (gko - 1)
                              case rel => exact ⟨t + 1, by go_num, by omega, by omega, HBb.out⟩
                              case measure => omega
                        · have HB := Lib.hid (bchain HBx.out hbel HBx.out.size)
                          clear hbel R11 RZ HBx GO GL GP GB
                          go_wp2_with fail
                          go_ret
                          exact ⟨rfl, HB.out⟩
set_option maxHeartbeats 4000000 in
set_option maxRecDepth 100000 in
theorem fnTrainsMeet_walk (ca : Option Addr) (cn ccap : Nat) (ma : Option Addr) (mn mcap : Nat) (w : World) (hc : cn ≤ 1048576 → RdY w ca cn) (hc2 : cn ≤ maxLen) (hm : mn ≤ 1048576 → RdY w ma mn) (hm2 : mn ≤ maxLen) :
    Calls Try.prog 3 #[.slice ca cn ccap, .slice ma mn mcap] w fun e w' => e = .returned (.bool true) ∧ Below w.heap.size w w' := by
  unfold maxLen at hc2 hm2
  cases hbig : (decide (1048576 < (cn : Int)) || decide (1048576 - (cn : Int) < (mn : Int)))
  · have h2 := hbig
    rw [Bool.or_eq_false_iff, decide_eq_false_iff_not, decide_eq_false_iff_not] at h2
    exact walk ca ma cn mn ccap mcap w (hc (by omega)) (hm (by omega)) hbig
  · clear hc hm
    go_enter Try.func3, Try.ntmps3
    dsimp only [List.append]
    go_wp2_with fail
    refine (big_any ca ma cn mn ccap mcap _ (by omega) (by omega)).mono ?_; rw [hbig]; rintro e w0 ⟨rfl, rfl⟩
    go_wp2_with fail
    go_ret
    exact ⟨rfl, Below.refl _ _⟩
set_option maxRecDepth 100000 in
theorem fnTrainsMeet_lifted (os : Os) (started : os.Started) (H : Type) (enc : TypeId × Value → H) :
    ReturnsInHanded {} Try.checked os 3 .any (Rows.fnTrainsMeetSpec.pre6 enc Try.prog Try.f3 Rows.fnTrainsMeetRow.domain false) (Rows.fnTrainsMeetSpec.post enc Try.prog Try.f3 false true false false) := by
  refine returnsInHanded_of_change (C := Try.checked) own started (by kernel_rfl) Try.func3
    (ChangeSpec.witness6 (enc := enc) (C := Try.checked) false ⟨#[], #[.slice none 0 0, .slice none 0 0], []⟩ 8 (by kernel_rfl) (by kernel_rfl) (by kernel_rfl) (by kernel_rfl)) ?_
  intro W base args ds gs before hval0 hW hcnd _
  have hval : ∀ (j : Nat) t v, Try.f3.params[j]? = some t → args[j]? = some v → Value.okWide Try.prog W .any base t v := hval0
  have hW' := hW
  obtain ⟨p, q, hA0, hV, rfl, hfz, hnd⟩ := hW
  have hA : DataW.TrodAll enc Try.prog W 0 (fun _ => true) true Try.f3.params.toList args.toList ds p := hA0
  rw [Try.params3] at hA hval
  obtain ⟨v0, vs0, d0, ds0, p0, q0, hargs, rfl, rfl, h0, r0⟩ := trodAll_cons hA
  obtain ⟨v1, vs1, d1, ds1, p1, q1, rfl, rfl, rfl, h1, r1⟩ := trodAll_cons r0
  obtain ⟨rfl, rfl, rfl⟩ := trodAll_nil r1
  obtain rfl : args = #[v0, v1] := by cases args; simp_all
  obtain ⟨rfl, rfl⟩ := trodVars_none hV
  have k0 := h0
  have lt0 : ∀ x ∈ p0, x.block < W.heap.size := by obtain ⟨m, hm⟩ := k0; exact DataW.trod_lt m _ _ _ hm
  have k1 := h1
  have lt1 : ∀ x ∈ p1, x.block < W.heap.size := by obtain ⟨m, hm⟩ := k1; exact DataW.trod_lt m _ _ _ hm
  obtain ⟨b0, len0, cap0, rfl⟩ := okWide_slice Try.underlying22 (hval 0 22 v0 rfl rfl)
  obtain ⟨R0, M0⟩ : (len0 ≤ 1048576 → RdY W b0 len0) ∧ len0 ≤ maxLen := by
    obtain ⟨fuel, hf⟩ := h0
    rcases open_ints Try.underlying22 Try.underlying5 (by kernel_rfl) hf with ⟨hcs, _⟩ | ⟨x, l, c, zs, hcs, _, hl, hm, hz, _, hcell, hwz⟩
    · simp [Value.cells] at hcs
      obtain ⟨rfl, rfl, rfl⟩ := hcs
      exact ⟨fun _ => ⟨Nat.zero_le _, .inl rfl⟩, Nat.zero_le _⟩
    · simp [Value.cells] at hcs
      obtain ⟨rfl, rfl, rfl⟩ := hcs
      have hz' : zs.length = cap0 := by simpa using hz
      exact ⟨fun q => rdY_of (by omega) q hcell hwz, by omega⟩
  obtain ⟨b1, len1, cap1, rfl⟩ := okWide_slice Try.underlying22 (hval 1 22 v1 rfl rfl)
  obtain ⟨R1, M1⟩ : (len1 ≤ 1048576 → RdY W b1 len1) ∧ len1 ≤ maxLen := by
    obtain ⟨fuel, hf⟩ := h1
    rcases open_ints Try.underlying22 Try.underlying5 (by kernel_rfl) hf with ⟨hcs, _⟩ | ⟨x, l, c, zs, hcs, _, hl, hm, hz, _, hcell, hwz⟩
    · simp [Value.cells] at hcs
      obtain ⟨rfl, rfl, rfl⟩ := hcs
      exact ⟨fun _ => ⟨Nat.zero_le _, .inl rfl⟩, Nat.zero_le _⟩
    · simp [Value.cells] at hcs
      obtain ⟨rfl, rfl, rfl⟩ := hcs
      have hz' : zs.length = cap1 := by simpa using hz
      exact ⟨fun q => rdY_of (by omega) q hcell hwz, by omega⟩
  clear hA0 hval0
  refine (fnTrainsMeet_walk b0 len0 cap0 b1 len1 cap1 W R0 M0 R1 M1).mono fun e W' ⟨he, bel⟩ => ?_
  subst he
  exact ⟨_, rfl, _, _, _, [], _, [], hW', trodAll_mk1 (shut_bool Try.underlying4 _), (trodAll_cons_mk (Below.trod laidOut (by kernel_rfl) (of_decide_eq_true (by kernel_rfl)) k0 bel lt0) (trodAll_cons_mk (Below.trod laidOut (by kernel_rfl) (of_decide_eq_true (by kernel_rfl)) k1 bel lt1) trodAll_mk0)), rfl, bel.frame _, fun h => by cases h⟩
theorem fnTrainsMeet_over : Rows.fnTrainsMeetRow.holds Try.pinned (OpenSpec.ofChange Rows.fnTrainsMeetSpec) :=
  OpenClaim.holds_of_wide 3 Try.f3 rfl rfl rfl rfl rfl rfl rfl ⟨rfl, rfl, rfl, rfl, rfl⟩ rfl rfl rfl rfl rfl (by kernel_rfl) Try.func3 (by kernel_rfl)
    (of_decide_eq_true (by kernel_rfl)) (by unfold Func.isWrapper; first | (rw [if_pos (by decide +kernel)]; kernel_rfl) | (rw [if_neg (by decide +kernel)]; exact ⟨rfl, rfl⟩))
    (fun os started H enc _ => fnTrainsMeet_lifted os started H enc)
/-- The statement, as it is given. -/
theorem fnTrainsMeet_holds : Rows.FnTrainsMeetSaid := fnTrainsMeet_over


end fnTrainsMeet
end Go.Proofs.Ytolgpjlliaoneaa
