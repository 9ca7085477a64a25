/- The named law of snails' races (chapter 1) holds at whatever is drawn from whatever bytes: it answers true, it does not panic, and it writes into nothing that was there before the call. Conditions: none. -/
import Derived.Test.YtadfjepfjbllmaaRows
import Derived.Test.YtadfjepfjbllmaaRaceFacts
import Derived.Test.YtadfjepfjbllmaaCurOne
import Derived.Test.YtadfjepfjbllmaaCurFrame
import Derived.Test.YtadfjepfjbllmaaQSame
import Derived.Test.YtadfjepfjbllmaaRaceMath
import Derived.Deep.Cut
import Derived.Deep.CutRange
import Derived.WalkKit
import Derived.ProofKit
import Derived.OpenShut
import Derived.ShutString
import Derived.ChangeOld
import Derived.Below
import Derived.Lib.SmallJoins
import Derived.Lib.Hide
namespace Go.Proofs.Ytadfjepfjbllmaa
open Go.ChangeShapes Go.WideShapes Go.ChangeAt Go.RowKit Go.Joins
open Go.ChangeMaps (open_string shut_string)
set_option linter.unusedVariables false
set_option linter.unusedSimpArgs false
namespace fnSnailsRace
theorem own : ownKnob Try.prog.godebug = none := by kernel_rfl
theorem laidOut : laidOutB Try.prog = true := by kernel_rfl
/-- both snails stand in the call's own two blocks -/
def Two (u d v z : Int) (w w' : World) : Prop := Below w.heap.size w w' ∧ w.heap.size < w'.heap.size ∧ w.heap.size + 1 < w'.heap.size ∧
  w'.cell? ⟨w.heap.size, 0, none⟩ = some (.int .i64 u) ∧ w'.cell? ⟨w.heap.size, 1, none⟩ = some (.int .i64 d) ∧ w'.cell? ⟨w.heap.size + 1, 0, none⟩ = some (.int .i64 v) ∧ w'.cell? ⟨w.heap.size + 1, 1, none⟩ = some (.int .i64 z)
theorem Two.below {u d v z : Int} {w a b : World} (h : Two u d v z w a) (hb : Below a.heap.size a b) : Two u d v z w b := by
  obtain ⟨h0, h1, h2, h3, h4, h5, h6⟩ := h
  have e := fun o => (bcell hb).1 w.heap.size o h1
  have f := fun o => (bcell hb).1 (w.heap.size + 1) o h2
  have s := hb.size
  exact ⟨h0.trans (hb.mono h0.size), by omega, by omega, by rw [e]; exact h3, by rw [e]; exact h4, by rw [f]; exact h5, by rw [f]; exact h6⟩
theorem big_any (a b : Option Addr) (n m c k : Nat) (w : World) (hn : n ≤ 9223372036854775807) (hm : m ≤ 9223372036854775807) :
    Calls Try.prog 4 #[.slice a n c, .slice b m k] w fun e w' => e = .returned (.bool (decide (1048576 < (n : Int)) || decide (1048576 - (n : Int) < (m : Int)))) ∧ w = w' := by
  by_cases h1 : (1048576 : Int) < (n : Int)
  · go_enter Try.func4, Try.ntmps4
    go_wp2_with fail
    go_ret
    exact ⟨by simp [h1], rfl⟩
  · by_cases h2 : (1048576 : Int) - (n : Int) < (m : Int)
    · go_enter Try.func4, Try.ntmps4
      go_wp2_with fail
      go_ret
      exact ⟨by simp [h1, h2], rfl⟩
    · go_enter Try.func4, Try.ntmps4
      go_wp2_with fail
      go_ret
      exact ⟨by simp [h1, h2], rfl⟩
set_option maxHeartbeats 16000000 in
set_option maxRecDepth 100000 in
theorem walk (ca ma : Option Addr) (cn mn ccap mcap : Nat) (w : World) (hc : RdY w ca cn) (hm0 : RdY w ma mn) (hbig : (decide (1048576 < (cn : Int)) || decide (1048576 - (cn : Int) < (mn : Int))) = false) :
    Calls Try.prog 3 #[.slice ca cn ccap, .slice ma mn mcap] w fun e w' => e = .returned (.bool true) ∧ Below w.heap.size w w' := by
  have hcn := hc.1
  have hmn := hm0.1
  go_enter Try.func3, Try.ntmps3
  go_wp2_with fail
  refine (big_any ca ma cn mn ccap mcap _ (by omega) (by omega)).mono ?_; rw [hbig]; rintro e w0 ⟨rfl, rfl⟩
  go_wp2_with fail
  refine (drawLeadOf ca cn ccap _ hc).mono ?_; rintro e wD ⟨u, d, v, z, n, y, rfl, hbD⟩
  obtain ⟨L, W0, C, ok, one, cLi, cLs, cWi, cWs, cCi, cCs, fL, fW⟩ := raceFacts1 u d v z n y
  have gL := Lib.hid fL
  have gW := Lib.hid fW
  have hB0 := Lib.hid hbD
  have hM := hm0.below hbD
  clear fL fW hbD hc hm0 hbig
  go_upto_if 147 with (first | (go_at_call 6; refine (cLi _).mono ?_; rintro e w1 ⟨rfl, hb⟩; have hz : wD.heap.size < w1.heap.size ∧ wD.heap.size + 1 < w1.heap.size := (by have := hb.size; (try simp at this); omega); have hcA := fun o => (bcell hb).1 wD.heap.size o (by first | omega | (simp; omega) | (simp; done)); have hcB := fun o => (bcell hb).1 (wD.heap.size + 1) o (by first | omega | (simp; omega) | (simp; done))) | (go_at_call 7; refine (cLs _).mono ?_; rintro e w1 ⟨rfl, hb⟩; have hz : wD.heap.size < w1.heap.size ∧ wD.heap.size + 1 < w1.heap.size := (by have := hb.size; (try simp at this); omega); have hcA := fun o => (bcell hb).1 wD.heap.size o (by first | omega | (simp; omega) | (simp; done)); have hcB := fun o => (bcell hb).1 (wD.heap.size + 1) o (by first | omega | (simp; omega) | (simp; done))) | (go_at_call 8; refine (cWi _).mono ?_; rintro e w1 ⟨rfl, hb⟩; have hz : wD.heap.size < w1.heap.size ∧ wD.heap.size + 1 < w1.heap.size := (by have := hb.size; (try simp at this); omega); have hcA := fun o => (bcell hb).1 wD.heap.size o (by first | omega | (simp; omega) | (simp; done)); have hcB := fun o => (bcell hb).1 (wD.heap.size + 1) o (by first | omega | (simp; omega) | (simp; done))) | (go_at_call 9; refine (cWs _).mono ?_; rintro e w1 ⟨rfl, hb⟩; have hz : wD.heap.size < w1.heap.size ∧ wD.heap.size + 1 < w1.heap.size := (by have := hb.size; (try simp at this); omega); have hcA := fun o => (bcell hb).1 wD.heap.size o (by first | omega | (simp; omega) | (simp; done)); have hcB := fun o => (bcell hb).1 (wD.heap.size + 1) o (by first | omega | (simp; omega) | (simp; done))) | (go_at_call 10; refine (cCi _).mono ?_; rintro e w1 ⟨rfl, hb⟩; have hz : wD.heap.size < w1.heap.size ∧ wD.heap.size + 1 < w1.heap.size := (by have := hb.size; (try simp at this); omega); have hcA := fun o => (bcell hb).1 wD.heap.size o (by first | omega | (simp; omega) | (simp; done)); have hcB := fun o => (bcell hb).1 (wD.heap.size + 1) o (by first | omega | (simp; omega) | (simp; done))) | (go_at_call 11; refine (cCs _).mono ?_; rintro e w1 ⟨rfl, hb⟩; have hz : wD.heap.size < w1.heap.size ∧ wD.heap.size + 1 < w1.heap.size := (by have := hb.size; (try simp at this); omega); have hcA := fun o => (bcell hb).1 wD.heap.size o (by first | omega | (simp; omega) | (simp; done)); have hcB := fun o => (bcell hb).1 (wD.heap.size + 1) o (by first | omega | (simp; omega) | (simp; done))))
  have hT : Two u d v z wD w1 := by
    refine ⟨by (repeat (first | assumption | exact Below.refl _ _ | refine Below.drew ?_ | refine Below.alloc ?_ (by first | omega | (simp; done) | (simp; omega)) _ | refine bchain ?_ (by assumption) (by first | omega | (simp; done) | (simp; omega)))), by omega, by omega, ?_, ?_, ?_, ?_⟩ <;> go_simp
  clear cLi cLs cWi cWs cCi cCs
  obtain ⟨hz1, hz2, uA0, uA1, uB0, uB1⟩ := id hT.2
  go_cut [] from 148 to 192 (fun wc => Two u d v z wD wc)
  case first => as_aux_lemma =>
    cases ok
    · go_wp2_with fail
      go_meet
      case rel => exact hT
    · obtain ⟨a, b, p0, p1, q0, q1, rfl, cE1, cE2, cB⟩ := gL.out rfl
      go_wp2_with (first | (go_at_call_of 12 (Value.agg #[Value.int IntKind.i64 u, Value.int IntKind.i64 d]); refine (cE1 _).mono ?_; rintro e w1 ⟨rfl, hb⟩; have hT1 := Two.below (by assumption) hb; obtain ⟨hz1, hz2, uA0, uA1, uB0, uB1⟩ := hT1.2; clear hb) | (go_at_call_of 12 (Value.agg #[Value.int IntKind.i64 v, Value.int IntKind.i64 z]); refine (cE2 _).mono ?_; rintro e w1 ⟨rfl, hb⟩; have hT1 := Two.below (by assumption) hb; obtain ⟨hz1, hz2, uA0, uA1, uB0, uB1⟩ := hT1.2; clear hb) | (go_at_call 6; refine (cB _).mono ?_; rintro e w1 ⟨rfl, hb⟩; have hT1 := Two.below (by assumption) hb; obtain ⟨hz1, hz2, uA0, uA1, uB0, uB1⟩ := hT1.2; clear hb))
      go_meet
      case rel => assumption
  case rest =>
    clear hT hb hz hcA hcB hz1 hz2 uA0 uA1 uB0 uB1
    have hT := hcut
    clear hcut
    obtain ⟨hz1, hz2, uA0, uA1, uB0, uB1⟩ := id hT.2
    go_upto_if 193 with fail
    go_cut [] from 194 to 289 (fun wc => Two u d v z wD wc)
    case first => as_aux_lemma =>
      cases one
      · go_wp2_with fail
        go_meet
        case rel => exact hT
      · obtain ⟨x, y', p, q, W1, hpq, hW0, hW1, hC0, hC1, cD1, cD2, cWr, cCr⟩ := gW.out rfl
        have e0 : ¬ C < 0 := by omega
        have e1 : ¬ 1 < C := by omega
        have gc1 := Lib.hid cWr
        have gc2 := Lib.hid cCr
        have gc3 := Lib.hid hW0
        have gc4 := Lib.hid hW1
        clear cWr cCr hW0 hW1
        go_upto_region 22 with (first | (go_at_call_of 13 (Value.agg #[Value.int IntKind.i64 u, Value.int IntKind.i64 d]); refine (cD1 _).mono ?_; rintro e w1 ⟨rfl, hb⟩; have hT1 := Two.below (by assumption) hb; obtain ⟨hz1, hz2, uA0, uA1, uB0, uB1⟩ := hT1.2; clear hb) | (go_at_call_of 13 (Value.agg #[Value.int IntKind.i64 v, Value.int IntKind.i64 z]); refine (cD2 _).mono ?_; rintro e w1 ⟨rfl, hb⟩; have hT1 := Two.below (by assumption) hb; obtain ⟨hz1, hz2, uA0, uA1, uB0, uB1⟩ := hT1.2; clear hb))
        have cWr := gc1.out
        have cCr := gc2.out
        have hW0 := gc3.out
        have hW1 := gc4.out
        clear cD1 cD2 gc1 gc2 gc3 gc4
        cases p <;> cases q
        · cases hpq
        · have v0 : W0 = 2 := hW0
          have v1 : W1 = 1 := hW1
          subst v0 v1
          clear hW0 hW1 hpq hC0 hC1
          go_wp2_with (first | (go_at_call 8; refine (cWr _).mono ?_; rintro e w1 ⟨rfl, hb⟩; have hT1 := Two.below (by assumption) hb; obtain ⟨hz1, hz2, uA0, uA1, uB0, uB1⟩ := hT1.2; clear hb) | (go_at_call 10; refine (cCr _).mono ?_; rintro e w1 ⟨rfl, hb⟩; have hT1 := Two.below (by assumption) hb; obtain ⟨hz1, hz2, uA0, uA1, uB0, uB1⟩ := hT1.2; clear hb))
          go_meet
          case rel => assumption
        · have v0 : W0 = 1 := hW0
          have v1 : W1 = 2 := hW1
          subst v0 v1
          clear hW0 hW1 hpq hC0 hC1
          go_wp2_with (first | (go_at_call 8; refine (cWr _).mono ?_; rintro e w1 ⟨rfl, hb⟩; have hT1 := Two.below (by assumption) hb; obtain ⟨hz1, hz2, uA0, uA1, uB0, uB1⟩ := hT1.2; clear hb) | (go_at_call 10; refine (cCr _).mono ?_; rintro e w1 ⟨rfl, hb⟩; have hT1 := Two.below (by assumption) hb; obtain ⟨hz1, hz2, uA0, uA1, uB0, uB1⟩ := hT1.2; clear hb))
          go_meet
          case rel => assumption
        · rcases Int.lt_trichotomy x y' with hxy | hxy | hxy
          · have hyx : ¬ y' < x := by omega
            have v0 : W0 = 1 := by rw [hW0]; simp [dueF, hxy]
            have v1 : W1 = 2 := by rw [hW1]; simp [dueF, hxy, hyx]
            subst v0 v1
            clear hW0 hW1 hpq hC0 hC1
            go_wp2_with (first | (go_at_call 8; refine (cWr _).mono ?_; rintro e w1 ⟨rfl, hb⟩; have hT1 := Two.below (by assumption) hb; obtain ⟨hz1, hz2, uA0, uA1, uB0, uB1⟩ := hT1.2; clear hb) | (go_at_call 10; refine (cCr _).mono ?_; rintro e w1 ⟨rfl, hb⟩; have hT1 := Two.below (by assumption) hb; obtain ⟨hz1, hz2, uA0, uA1, uB0, uB1⟩ := hT1.2; clear hb))
            go_meet
            case rel => assumption
          · subst hxy
            have hxy : ¬ x < x := by omega
            have v0 : W0 = 0 := by rw [hW0]; simp [dueF]
            have v1 : W1 = 0 := by rw [hW1]; simp [dueF]
            subst v0 v1
            clear hW0 hW1 hpq hC0 hC1
            go_wp2_with (first | (go_at_call 8; refine (cWr _).mono ?_; rintro e w1 ⟨rfl, hb⟩; have hT1 := Two.below (by assumption) hb; obtain ⟨hz1, hz2, uA0, uA1, uB0, uB1⟩ := hT1.2; clear hb) | (go_at_call 10; refine (cCr _).mono ?_; rintro e w1 ⟨rfl, hb⟩; have hT1 := Two.below (by assumption) hb; obtain ⟨hz1, hz2, uA0, uA1, uB0, uB1⟩ := hT1.2; clear hb))
            go_meet
            case rel => assumption
          · have hyx : ¬ x < y' := by omega
            have v0 : W0 = 2 := by rw [hW0]; simp [dueF, hxy, hyx]
            have v1 : W1 = 1 := by rw [hW1]; simp [dueF, hxy]
            subst v0 v1
            clear hW0 hW1 hpq hC0 hC1
            go_wp2_with (first | (go_at_call 8; refine (cWr _).mono ?_; rintro e w1 ⟨rfl, hb⟩; have hT1 := Two.below (by assumption) hb; obtain ⟨hz1, hz2, uA0, uA1, uB0, uB1⟩ := hT1.2; clear hb) | (go_at_call 10; refine (cCr _).mono ?_; rintro e w1 ⟨rfl, hb⟩; have hT1 := Two.below (by assumption) hb; obtain ⟨hz1, hz2, uA0, uA1, uB0, uB1⟩ := hT1.2; clear hb))
            go_meet
            case rel => assumption
    case rest =>
      have hBel := hcut.1
      clear hT hz1 hz2 uA0 uA1 uB0 uB1 hcut gL gW
      have hBx := Lib.hid (hB0.out.trans (hBel.mono hB0.out.size))
      have hY := hM.below hBel
      clear hBel hB0 hM
      go_wp2_with fail
      refine (drawHeightsWithSlips ma mn mcap _ hY).mono ?_; rintro e wE ⟨up, nn, yy, xs, a0, cap0, rfl, hxl, hO, hbE⟩
      obtain ⟨D, G, five, seven, nine, hs, cHi, cHs, hsl, cDi, cDs, cGi, cGs, fH, fO⟩ := raceFacts2 up nn yy a0 cap0 xs (by omega)
      have gH := Lib.hid fH
      have gO := Lib.hid fO
      have gHi := Lib.hid cHi
      have gHs := Lib.hid cHs
      have gDi := Lib.hid cDi
      have gDs := Lib.hid cDs
      have gGi := Lib.hid cGi
      have gGs := Lib.hid cGs
      have hR : Rd wE a0 xs := hO.rd
      have hB0 := Lib.hid (hBx.out.trans (hbE.mono hBx.out.size))
      have hBel := Below.refl wE.heap.size wE
      have hR0 := hR
      clear fH fO cHi cHs cDi cDs cGi cGs hbE hO hBx hY
      go_wp2_with fail
      refine (gHi.out _ hR0).mono ?_; rintro e w1 ⟨q1, k1, rfl, hO1, hb1⟩
      have B1 := hBel.trans (hb1.mono hBel.size)
      go_wp2_with fail
      refine (gHs.out _ (hR.below B1)).mono ?_; rintro e w2 ⟨q2, k2, rfl, hO2, hb2⟩
      have B2 := B1.trans (hb2.mono B1.size)
      go_wp2_with fail
      refine (gDi.out _ (hR.below B2)).mono ?_; rintro e w3 ⟨rfl, hb3⟩
      have B3 := B2.trans (hb3.mono B2.size)
      go_wp2_with fail
      refine (gDs.out _ (hR.below B3)).mono ?_; rintro e w4 ⟨rfl, hb4⟩
      have B4 := B3.trans (hb4.mono B3.size)
      go_wp2_with fail
      refine (gGi.out _ (hR.below B4)).mono ?_; rintro e w5 ⟨rfl, hb5⟩
      have B5 := B4.trans (hb5.mono B4.size)
      go_wp2_with fail
      refine (gGs.out _ (hR.below B5)).mono ?_; rintro e w6 ⟨rfl, hb6⟩
      have B6 := B5.trans (hb6.mono B5.size)
      have R1 : Rd w6 q1 hs := (((((hO1.below hb2).below hb3).below hb4).below hb5).below hb6).rd
      have R2 : Rd w6 q2 hs := ((((hO2.below hb3).below hb4).below hb5).below hb6).rd
      clear hO1 hO2 hb1 hb2 hb3 hb4 hb5 hb6 B1 B2 B3 B4 B5 hR0 hBel gHi gHs gDi gDs gGi gGs
      go_wp2_with fail
      refine (qSame_eq q1 q2 k1 k2 hs _ R1 R2 (by omega)).mono ?_; rintro e w7 ⟨rfl, hb7⟩
      have B7 := B6.trans (hb7.mono B6.size)
      have R7 := R1.below hb7
      have RX := hR.below B7
      clear R1 R2 B6 hb7 hR
      cases five
      · clear gH gO
        have HB := Lib.hid B7
        clear B7 R7 RX
        go_wp2_with fail
        go_ret
        exact ⟨rfl, hB0.out.trans (HB.out.mono hB0.out.size)⟩
      · obtain ⟨hnine, M, hM⟩ := gH.out rfl
        have gM := Lib.hid hM
        have gx : xs.length = 1 → _ := gO.out rfl
        have gX := Lib.hid gx
        have HB := Lib.hid B7
        have h1 : ((hs.length : Nat) : Int) = yy := hM.len
        subst hnine
        clear gH gO B7 hM gx
        subst h1
        go_wp2_with fail
        go_loopg [381, 52] hs.length (fun k vi vm wr => ∃ (j : Nat), vi = .int .i64 (j : Int) ∧ vm = .int .i64 (M j) ∧ j + k ≤ hs.length ∧ hs.length ≤ j + k ∧ Below w7.heap.size w7 wr)
        case atStart => exact ⟨0, rfl, by rw [gM.out.m0], by omega, by omega, Below.refl _ _⟩
        case round =>
          obtain ⟨j, rfl, rfl, h1, h2, hbel⟩ := hrel
          by_cases hj : j < hs.length
          · have hms := gM.out.ms j hj
            have hbd := gM.out.bd j hj
            have htop := gM.out.top j hj
            have hup := gM.out.up1
            have hnn := gM.out.nn1
            have hbig := gM.out.big
            rcases R7 with h | ⟨b, off, rfl, hlt, hc⟩
            · rw [h] at hj; exact absurd hj (Nat.not_lt_zero _)
            · have hcj : wr.cell? ⟨b, off + j, none⟩ = some (.int .i64 (hs.getD j 0)) := by rw [(bcell hbel).1 b _ hlt]; exact hc j hj
              have hjI : (j : Int) < (hs.length : Int) := by omega
              have hn1 : ¬ hs.getD j 0 < 1 := by omega
              have hn2 : ¬ nn < hs.getD j 0 := by omega
              have HBw := Lib.hid hbel
              have GC := Lib.hid (fun (o : Nat) (ho : o < hs.length) => show wr.cell? ⟨b, off + o, none⟩ = some (.int .i64 (hs.getD o 0)) by rw [(bcell hbel).1 b _ hlt]; exact hc o ho)
              have GT := Lib.hid htop
              have GS := Lib.hid hms
              clear hbel hc htop hms
              generalize hh : hs.getD j 0 = h at *
              go_upto_region 46 with fail
              go_cut [429] from 386 to 428 (fun vc wc => vc = .bool false ∧ wc = wr)
              case first => as_aux_lemma =>
                have htop := GT.out
                clear GT GS
                rcases j with _ | i
                · have e1 : ((0 : Nat) : Int) + 1 = 1 := rfl
                  rw [e1] at htop
                  clear e1 hh hcj
                  cases seven
                  · have hne : ¬ h = nn := fun e => by cases (htop.1 e).1
                    clear htop
                    go_wp2_with fail
                    go_meet
                    case rel => exact ⟨by simp [hne], rfl⟩
                  · by_cases hD : D ≤ 1
                    · have he : h = nn := htop.2 ⟨rfl, hD⟩
                      clear htop
                      subst he
                      go_wp2_with fail
                      go_meet
                      case rel => exact ⟨rfl, rfl⟩
                    · have hne : ¬ h = nn := fun e => hD (htop.1 e).2
                      clear htop
                      go_wp2_with fail
                      go_meet
                      case rel => exact ⟨by simp [hne], rfl⟩
                · have hrise := gM.out.rise i hj
                  have hbi := gM.out.bd i (by omega)
                  have hci : wr.cell? ⟨b, off + i, none⟩ = some (.int .i64 (hs.getD i 0)) := GC.out i (by omega)
                  have e1 : ((i + 1 : Nat) : Int) + 1 = (i : Int) + 1 + 1 := by omega
                  rw [e1] at htop
                  rw [hh] at hrise
                  clear e1 hh hcj
                  generalize hs.getD i 0 = g at *
                  by_cases hg : g < nn
                  · have hr : ¬ (g + up < h) := by have := hrise hg; omega
                    clear hrise
                    cases seven
                    · have hne : ¬ h = nn := fun e => by cases (htop.1 e).1
                      clear htop
                      go_wp2_with fail
                      go_meet
                      case rel => exact ⟨by simp [hne], rfl⟩
                    · by_cases hD : D ≤ (i : Int) + 1 + 1
                      · have he : h = nn := htop.2 ⟨rfl, hD⟩
                        clear htop
                        subst he
                        go_wp2_with fail
                        go_meet
                        case rel => exact ⟨rfl, rfl⟩
                      · have hne : ¬ h = nn := fun e => hD (htop.1 e).2
                        clear htop
                        go_wp2_with fail
                        go_meet
                        case rel => exact ⟨by simp [hne], rfl⟩
                  · clear hrise
                    cases seven
                    · have hne : ¬ h = nn := fun e => by cases (htop.1 e).1
                      clear htop
                      go_wp2_with fail
                      go_meet
                      case rel => exact ⟨by simp [hne], rfl⟩
                    · by_cases hD : D ≤ (i : Int) + 1 + 1
                      · have he : h = nn := htop.2 ⟨rfl, hD⟩
                        clear htop
                        subst he
                        go_wp2_with fail
                        go_meet
                        case rel => exact ⟨rfl, rfl⟩
                      · have hne : ¬ h = nn := fun e => hD (htop.1 e).2
                        clear htop
                        go_wp2_with fail
                        go_meet
                        case rel => exact ⟨by simp [hne], rfl⟩
              case rest =>
                obtain ⟨rfl, hwc⟩ := hcut
                obtain rfl : wr = wc := hwc.symm
                have hms := GS.out
                clear GT GS GC hh hcj
                by_cases hm : M j < h
                · rw [if_pos hm] at hms
                  have HM := Lib.hid hms
                  clear hms
                  go_wp2_with fail
                  go_roundg (gk - 1)
                  case rel => exact ⟨j + 1, by go_num, by rw [HM.out], by omega, by omega, HBw.out⟩
                  case measure => omega
                · rw [if_neg hm] at hms
                  have HM := Lib.hid hms
                  clear hms
                  go_wp2_with fail
                  go_roundg (gk - 1)
                  case rel => exact ⟨j + 1, by go_num, by rw [HM.out], by omega, by omega, HBw.out⟩
                  case measure => omega
          · have e : j = hs.length := by omega
            subst e
            have hmf := gM.out.mf
            have hme := gM.out.me
            have hmn := gM.out.mn
            have HBw := Lib.hid (bchain HB.out hbel HB.out.size)
            have RX2 : Rd wr a0 xs := RX.below hbel
            have hnf : ¬ G < M hs.length := by omega
            have hpos := gM.out.pos
            have hup := gM.out.up1
            have hup2 : up ≤ 1000 := hup.2
            have hbig := gM.out.big
            rcases R7 with h | ⟨b, off, rfl, hlt, hc⟩
            · rw [h] at hpos; cases hpos
            · obtain ⟨m, hm⟩ : ∃ m, m = hs.length - 1 := ⟨_, rfl⟩
              have hcm : wr.cell? ⟨b, off + m, none⟩ = some (.int .i64 (hs.getD m 0)) := by rw [(bcell hbel).1 b _ hlt]; exact hc m (by omega)
              have hlw : b < wr.heap.size := Nat.lt_of_lt_of_le hlt hbel.size
              have i0 : 0 ≤ (hs.length : Int) - 1 := by omega
              have i1 : (hs.length : Int) - 1 < (hs.length : Int) := by omega
              have i2 : ((hs.length : Int) - 1).toNat = m := by omega
              have i3 : IntKind.i64.wrap ((hs.length : Int) - 1) = (hs.length : Int) - 1 := IntWalk.i64_in _ (by omega)
              rw [← hm] at gX
              clear hm hc hbel
              generalize hs.getD m 0 = V at *
              go_upto_region 51 with fail
              go_cut [447] from 435 to 446 (fun vc wc => vc = .bool false ∧ wc = wr)
              case first =>
                by_cases hmx : M hs.length < nn
                · have hG : G = M hs.length := hme hmx
                  clear hme
                  subst hG
                  go_wp2_with fail
                  go_meet
                  case rel => exact ⟨rfl, rfl⟩
                · clear hme
                  go_wp2_with fail
                  go_meet
                  case rel => exact ⟨rfl, rfl⟩
              case rest => as_aux_lemma =>
                obtain ⟨rfl, hwc⟩ := hcut
                obtain rfl : wr = wc := hwc.symm
                clear hme hnf
                by_cases hxl : xs.length = 1
                · obtain ⟨T, hT, cE, cD⟩ := gX.out hxl
                  have hxI : ((xs.length : Nat) : Int) = 1 := by omega
                  rcases RX2 with h | ⟨b', off', rfl, hlt', hc'⟩
                  · rw [h] at hxl; cases hxl
                  · have hcx : wr.cell? ⟨b', off', none⟩ = some (.int .i64 (xs.getD 0 0)) := hc' 0 (by omega)
                    have hlw' : b' < wr.heap.size := hlt'
                    generalize xs.getD 0 0 = x at *
                    cases seven
                    · clear hT
                      go_wp2_with fail
                      generalize hq : World.alloc wr _ = w8
                      have hb8 : Below wr.heap.size wr w8 := by subst hq; exact (Below.refl _ _).alloc (Nat.le_refl _) _
                      have k0 : w8.cell? ⟨wr.heap.size, 0, none⟩ = some (.int .i64 up) := by subst hq; go_simp
                      have k1 : w8.cell? ⟨wr.heap.size, 1, none⟩ = some (.int .i64 x) := by subst hq; go_simp
                      have s8 : wr.heap.size < w8.heap.size := by subst hq; simp
                      clear hq
                      refine (cE _).mono ?_; rintro e w9 ⟨rfl, hb9⟩
                      have s9 := hb9.size
                      have k0' : w9.cell? ⟨wr.heap.size, 0, none⟩ = some (.int .i64 up) := by rw [(bcell hb9).1 _ _ s8]; exact k0
                      have k1' : w9.cell? ⟨wr.heap.size, 1, none⟩ = some (.int .i64 x) := by rw [(bcell hb9).1 _ _ s8]; exact k1
                      clear k0 k1
                      go_wp2_with fail
                      refine (cD _).mono ?_; rintro e w10 ⟨rfl, hb10⟩
                      have hcm10 : w10.cell? ⟨b, off + m, none⟩ = some (.int .i64 V) := by rw [(bcell hb10).1 _ _ (by omega), (bcell hb9).1 _ _ (by omega), (bcell hb8).1 _ _ hlw]; exact hcm
                      have HX := Lib.hid (HBw.out.trans (((hb8.trans (hb9.mono hb8.size)).trans (hb10.mono (by omega))).mono HBw.out.size))
                      clear hb8 hb9 hb10 k0' k1' cE cD
                      go_wp2_with fail
                      go_ret
                      exact ⟨rfl, hB0.out.trans (HX.out.mono hB0.out.size)⟩
                    · have hTD := hT rfl
                      subst hTD
                      clear hT
                      go_wp2_with fail
                      generalize hq : World.alloc wr _ = w8
                      have hb8 : Below wr.heap.size wr w8 := by subst hq; exact (Below.refl _ _).alloc (Nat.le_refl _) _
                      have k0 : w8.cell? ⟨wr.heap.size, 0, none⟩ = some (.int .i64 up) := by subst hq; go_simp
                      have k1 : w8.cell? ⟨wr.heap.size, 1, none⟩ = some (.int .i64 x) := by subst hq; go_simp
                      have s8 : wr.heap.size < w8.heap.size := by subst hq; simp
                      clear hq
                      refine (cE _).mono ?_; rintro e w9 ⟨rfl, hb9⟩
                      have s9 := hb9.size
                      have k0' : w9.cell? ⟨wr.heap.size, 0, none⟩ = some (.int .i64 up) := by rw [(bcell hb9).1 _ _ s8]; exact k0
                      have k1' : w9.cell? ⟨wr.heap.size, 1, none⟩ = some (.int .i64 x) := by rw [(bcell hb9).1 _ _ s8]; exact k1
                      clear k0 k1
                      go_wp2_with fail
                      refine (cD _).mono ?_; rintro e w10 ⟨rfl, hb10⟩
                      have hcm10 : w10.cell? ⟨b, off + m, none⟩ = some (.int .i64 V) := by rw [(bcell hb10).1 _ _ (by omega), (bcell hb9).1 _ _ (by omega), (bcell hb8).1 _ _ hlw]; exact hcm
                      have HX := Lib.hid (HBw.out.trans (((hb8.trans (hb9.mono hb8.size)).trans (hb10.mono (by omega))).mono HBw.out.size))
                      clear hb8 hb9 hb10 k0' k1' cE cD
                      go_wp2_with fail
                      go_ret
                      exact ⟨rfl, hB0.out.trans (HX.out.mono hB0.out.size)⟩
                · have hxI : ¬ ((xs.length : Nat) : Int) = 1 := by omega
                  go_wp2_with fail
                  go_ret
                  exact ⟨rfl, hB0.out.trans (HBw.out.mono hB0.out.size)⟩
set_option maxHeartbeats 4000000 in
set_option maxRecDepth 100000 in
theorem fnSnailsRace_walk (ca : Option Addr) (cn ccap : Nat) (ma : Option Addr) (mn mcap : Nat) (w : World) (hc : cn ≤ 1048576 → RdY w ca cn) (hc2 : cn ≤ maxLen) (hm : mn ≤ 1048576 → RdY w ma mn) (hm2 : mn ≤ maxLen) :
    Calls Try.prog 3 #[.slice ca cn ccap, .slice ma mn mcap] w fun e w' => e = .returned (.bool true) ∧ Below w.heap.size w w' := by
  unfold maxLen at hc2 hm2
  cases hbig : (decide (1048576 < (cn : Int)) || decide (1048576 - (cn : Int) < (mn : Int)))
  · have h2 := hbig
    rw [Bool.or_eq_false_iff, decide_eq_false_iff_not, decide_eq_false_iff_not] at h2
    exact walk ca ma cn mn ccap mcap w (hc (by omega)) (hm (by omega)) hbig
  · clear hc hm
    go_enter Try.func3, Try.ntmps3
    go_wp2_with fail
    refine (big_any ca ma cn mn ccap mcap _ (by omega) (by omega)).mono ?_; rw [hbig]; rintro e w0 ⟨rfl, rfl⟩
    go_wp2_with fail
    go_ret
    exact ⟨rfl, Below.refl _ _⟩
set_option maxRecDepth 100000 in
theorem fnSnailsRace_lifted (os : Os) (started : os.Started) (H : Type) (enc : TypeId × Value → H) :
    ReturnsInHanded {} Try.checked os 3 .any (Rows.fnSnailsRaceSpec.pre6 enc Try.prog Try.f3 Rows.fnSnailsRaceRow.domain false) (Rows.fnSnailsRaceSpec.post enc Try.prog Try.f3 false true false false) := by
  refine returnsInHanded_of_change (C := Try.checked) own started (by kernel_rfl) Try.func3
    (ChangeSpec.witness6 (enc := enc) (C := Try.checked) false ⟨#[], #[.slice none 0 0, .slice none 0 0], []⟩ 8 (by kernel_rfl) (by kernel_rfl) (by kernel_rfl) (by kernel_rfl)) ?_
  intro W base args ds gs before hval0 hW hcnd _
  have hval : ∀ (j : Nat) t v, Try.f3.params[j]? = some t → args[j]? = some v → Value.okWide Try.prog W .any base t v := hval0
  have hW' := hW
  obtain ⟨p, q, hA0, hV, rfl, hfz, hnd⟩ := hW
  have hA : DataW.TrodAll enc Try.prog W 0 (fun _ => true) true Try.f3.params.toList args.toList ds p := hA0
  rw [Try.params3] at hA hval
  obtain ⟨v0, vs0, d0, ds0, p0, q0, hargs, rfl, rfl, h0, r0⟩ := trodAll_cons hA
  obtain ⟨v1, vs1, d1, ds1, p1, q1, rfl, rfl, rfl, h1, r1⟩ := trodAll_cons r0
  obtain ⟨rfl, rfl, rfl⟩ := trodAll_nil r1
  obtain rfl : args = #[v0, v1] := by cases args; simp_all
  obtain ⟨rfl, rfl⟩ := trodVars_none hV
  have k0 := h0
  have lt0 : ∀ x ∈ p0, x.block < W.heap.size := by obtain ⟨m, hm⟩ := k0; exact DataW.trod_lt m _ _ _ hm
  have k1 := h1
  have lt1 : ∀ x ∈ p1, x.block < W.heap.size := by obtain ⟨m, hm⟩ := k1; exact DataW.trod_lt m _ _ _ hm
  obtain ⟨b0, len0, cap0, rfl⟩ := okWide_slice Try.underlying22 (hval 0 22 v0 rfl rfl)
  obtain ⟨R0, M0⟩ : (len0 ≤ 1048576 → RdY W b0 len0) ∧ len0 ≤ maxLen := by
    obtain ⟨fuel, hf⟩ := h0
    rcases open_ints Try.underlying22 Try.underlying5 (by kernel_rfl) hf with ⟨hcs, _⟩ | ⟨x, l, c, zs, hcs, _, hl, hm, hz, _, hcell, hwz⟩
    · simp [Value.cells] at hcs
      obtain ⟨rfl, rfl, rfl⟩ := hcs
      exact ⟨fun _ => ⟨Nat.zero_le _, .inl rfl⟩, Nat.zero_le _⟩
    · simp [Value.cells] at hcs
      obtain ⟨rfl, rfl, rfl⟩ := hcs
      have hz' : zs.length = cap0 := by simpa using hz
      exact ⟨fun q => rdY_of (by omega) q hcell hwz, by omega⟩
  obtain ⟨b1, len1, cap1, rfl⟩ := okWide_slice Try.underlying22 (hval 1 22 v1 rfl rfl)
  obtain ⟨R1, M1⟩ : (len1 ≤ 1048576 → RdY W b1 len1) ∧ len1 ≤ maxLen := by
    obtain ⟨fuel, hf⟩ := h1
    rcases open_ints Try.underlying22 Try.underlying5 (by kernel_rfl) hf with ⟨hcs, _⟩ | ⟨x, l, c, zs, hcs, _, hl, hm, hz, _, hcell, hwz⟩
    · simp [Value.cells] at hcs
      obtain ⟨rfl, rfl, rfl⟩ := hcs
      exact ⟨fun _ => ⟨Nat.zero_le _, .inl rfl⟩, Nat.zero_le _⟩
    · simp [Value.cells] at hcs
      obtain ⟨rfl, rfl, rfl⟩ := hcs
      have hz' : zs.length = cap1 := by simpa using hz
      exact ⟨fun q => rdY_of (by omega) q hcell hwz, by omega⟩
  clear hA0 hval0
  refine (fnSnailsRace_walk b0 len0 cap0 b1 len1 cap1 W R0 M0 R1 M1).mono fun e W' ⟨he, bel⟩ => ?_
  subst he
  exact ⟨_, rfl, _, _, _, [], _, [], hW', trodAll_mk1 (shut_bool Try.underlying4 _), (trodAll_cons_mk (Below.trod laidOut (by kernel_rfl) (of_decide_eq_true (by kernel_rfl)) k0 bel lt0) (trodAll_cons_mk (Below.trod laidOut (by kernel_rfl) (of_decide_eq_true (by kernel_rfl)) k1 bel lt1) trodAll_mk0)), rfl, bel.frame _, fun h => by cases h⟩
theorem fnSnailsRace_over : Rows.fnSnailsRaceRow.holds Try.pinned (OpenSpec.ofChange Rows.fnSnailsRaceSpec) :=
  OpenClaim.holds_of_wide 3 Try.f3 rfl rfl rfl rfl rfl rfl rfl ⟨rfl, rfl, rfl, rfl, rfl⟩ rfl rfl rfl rfl rfl (by kernel_rfl) Try.func3 (by kernel_rfl)
    (of_decide_eq_true (by kernel_rfl)) (by unfold Func.isWrapper; first | (rw [if_pos (by decide +kernel)]; kernel_rfl) | (rw [if_neg (by decide +kernel)]; exact ⟨rfl, rfl⟩))
    (fun os started H enc _ => fnSnailsRace_lifted os started H enc)
/-- The statement, as it is given. -/
theorem fnSnailsRace_holds : Rows.FnSnailsRaceSaid := fnSnailsRace_over


end fnSnailsRace
end Go.Proofs.Ytadfjepfjbllmaa
