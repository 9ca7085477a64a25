/- Lists of visits: the model's functions by contracts. -/
import Derived.Test.YtiidggbllcmppaaWinWalks
import Derived.Test.YtiidggbllcmppaaDogWalks
import Derived.Test.YtiidggbllcmppaaPairsG
import Derived.WalkKit
import Derived.WalkSpells
import Derived.WalkLawsBesides
import Derived.Lib.Hide
import Derived.Deep.LoopGhost
import Derived.Deep.QuietTactic
import Derived.Deep.RegionWith
import Derived.Deep.RegionHeld3
import Derived.BigQuiet
namespace Go.Proofs.Ytiidggbllcmppaa
open Go.RowKit
set_option linter.unusedVariables false
set_option linter.unusedSimpArgs false
set_option maxHeartbeats 2000000 in
theorem wiGood_any (a : Option Addr) (cap : Nat) (xs : List (Int × Int)) (w : World) (h : RdP w a xs) (hn : xs.length ≤ 1048576) :
    Calls Try.prog 58 #[.slice a xs.length cap] w fun e w' => e = .returned (.bool (viS xs)) ∧ Below w.heap.size w w' := by
  have hnI : (xs.length : Int) ≤ 1048576 := by omega
  cases hb : inB (xs.length : Int) 1 6
  · have HR := Lib.hid (show viS xs = false by unfold viS; rw [hb]; rfl)
    have HB := Lib.hid hb
    clear hb
    go_enter Try.func58, Try.ntmps58
    go_wp2_with (first | (go_at_call 48; refine (specIn _ _ _ _).mono ?_; rw [HB.out]; rintro e w1 ⟨rfl, rfl⟩))
    go_ret
    rw [HR.out]
    exact ⟨rfl, Below.refl _ _⟩
  · have HB := Lib.hid hb
    have HR := Lib.hid (show viS xs = allP viOk xs by unfold viS; rw [hb]; rfl)
    clear hb
    go_enter Try.func58, Try.ntmps58
    go_wp2_with (first | (go_at_call 48; refine (specIn _ _ _ _).mono ?_; rw [HB.out]; rintro e w1 ⟨rfl, rfl⟩))
    go_loopg [11] xs.length (fun k v11 wr => ∃ (j : Nat), v11 = .int .i64 (j : Int) ∧ j + k ≤ xs.length ∧ xs.length ≤ j + k ∧ Hid (∀ i, i < j → viOk (px xs i) (py xs i) = true) ∧ Below w.heap.size w wr)
    case atStart => exact ⟨0, rfl, by omega, by omega, fun i hi => absurd hi (Nat.not_lt_zero _), Below.refl _ _⟩
    case round =>
      obtain ⟨j, rfl, h1, h2, hall, hbel⟩ := hrel
      by_cases hj : j < xs.length
      · rcases h with h | ⟨b, off, rfl, hlt, hc⟩
        · rw [h] at hj; exact absurd hj (Nat.not_lt_zero _)
        · have hcj : wr.cell? ⟨b, off + j * 2, none⟩ = some (.int .i64 (px xs j)) := by rw [(bcell hbel).1 b _ hlt]; exact (hc j hj).1
          have hck : wr.cell? ⟨b, off + j * 2 + 1, none⟩ = some (.int .i64 (py xs j)) := by rw [(bcell hbel).1 b _ hlt]; exact (hc j hj).2
          have hjI : (j : Int) < (xs.length : Int) := by omega
          have HBl := Lib.hid hbel
          have hsz := hbel.size
          clear hbel hc
          cases k1 : inB (px xs j) 0 200
          · have HX := Lib.hid (HR.out.trans (allP_no hj (by simp [viOk, k1])))
            have H1 := Lib.hid k1
            clear k1
            go_wp2_with (first | (go_at_call 48; refine (specIn _ _ _ _).mono ?_; (first | rw [H1.out] | rw [H2.out]); rintro e w1 ⟨rfl, rfl⟩))
            go_ret
            rw [HX.out]
            exact ⟨rfl, by (repeat (first | exact HBl.out | exact Below.refl _ _ | refine Below.drew ?_ | refine below_drewN ?_ _ | refine Below.alloc ?_ (by first | omega | (simp; done) | (simp; omega)) _ | refine bchain ?_ (by assumption) (by first | omega | (simp; done) | (simp; omega))))⟩
          cases k2 : inB (py xs j) 0 200
          · have HX := Lib.hid (HR.out.trans (allP_no hj (by simp [viOk, k2])))
            have H1 := Lib.hid k1
            have H2 := Lib.hid k2
            clear k1 k2
            go_wp2_with (first | (go_at_call 48; refine (specIn _ _ _ _).mono ?_; (first | rw [H1.out] | rw [H2.out]); rintro e w1 ⟨rfl, rfl⟩))
            go_ret
            rw [HX.out]
            exact ⟨rfl, by (repeat (first | exact HBl.out | exact Below.refl _ _ | refine Below.drew ?_ | refine below_drewN ?_ _ | refine Below.alloc ?_ (by first | omega | (simp; done) | (simp; omega)) _ | refine bchain ?_ (by assumption) (by first | omega | (simp; done) | (simp; omega))))⟩
          · have hall2 : Hid (∀ i, i < j + 1 → viOk (px xs i) (py xs i) = true) := fun i hi => by
              by_cases q : i = j
              · subst q; simp [viOk, k1, k2]
              · exact hall.out i (by omega)
            have H1 := Lib.hid k1
            have H2 := Lib.hid k2
            clear k1 k2
            go_wp2_with (first | (go_at_call 48; refine (specIn _ _ _ _).mono ?_; (first | rw [H1.out] | rw [H2.out]); rintro e w1 ⟨rfl, rfl⟩))
            go_roundg (gk - 1)
            case rel => exact ⟨j + 1, by go_num, by omega, by omega, hall2, by (repeat (first | exact HBl.out | exact Below.refl _ _ | refine Below.drew ?_ | refine below_drewN ?_ _ | refine Below.alloc ?_ (by first | omega | (simp; done) | (simp; omega)) _ | refine bchain ?_ (by assumption) (by first | omega | (simp; done) | (simp; omega))))⟩
            case measure => omega
      · have HX := Lib.hid (HR.out.trans (allP_of fun i hi => hall.out i (by omega)))
        have HBl := Lib.hid hbel
        clear hbel
        go_wp2_with fail
        go_ret
        rw [HX.out]
        exact ⟨rfl, HBl.out⟩
theorem specAreVisits (a : Option Addr) (cap : Nat) (xs : List (Int × Int)) (w : World) (h : RdP w a xs) (hn : xs.length ≤ 1048576) :
    Calls Try.prog 31 #[.slice a xs.length cap] w fun e w' => e = .returned (.bool (viS xs)) ∧ Below w.heap.size w w' := by
  go_enter Try.func31, Try.ntmps31
  go_wp2_with fail
  refine (wiGood_any a cap xs _ h hn).mono ?_; rintro e w1 ⟨rfl, hb⟩
  go_wp2_with fail
  go_ret
  exact ⟨rfl, hb⟩
set_option maxHeartbeats 2000000 in
theorem specAllThere (a : Option Addr) (cap : Nat) (xs : List (Int × Int)) (w : World) (h : RdP w a xs) (hn : xs.length ≤ 1048576) :
    Calls Try.prog 35 #[.slice a xs.length cap] w fun e w' => e = .returned (.tuple #[.int .i64 (ifI (viS xs && decide (viF xs xs.length ≤ viL xs xs.length)) (viF xs xs.length)), .int .i64 (ifI (viS xs && decide (viF xs xs.length ≤ viL xs xs.length)) (viL xs xs.length)), .bool (viS xs && decide (viF xs xs.length ≤ viL xs xs.length))]) ∧ Below w.heap.size w w' := by
  cases hs : viS xs
  · have HS := Lib.hid hs
    clear hs
    go_enter Try.func35, Try.ntmps35
    go_wp2_with fail
    refine (wiGood_any a cap xs _ h hn).mono ?_; rw [HS.out]; rintro e w1 ⟨rfl, hb⟩
    go_wp2_with fail
    go_ret3
    exact ⟨rfl, hb⟩
  · have t := viS_at hs
    have HS := Lib.hid hs
    have HT := Lib.hid t.2.2
    have hnI : (xs.length : Int) ≤ 6 := by omega
    clear hs
    go_enter Try.func35, Try.ntmps35
    go_wp2_with fail
    refine (wiGood_any a cap xs _ h hn).mono ?_; rw [HS.out]; rintro e w0 ⟨rfl, hb0⟩
    replace h := h.below hb0
    have HB0 := Lib.hid hb0
    have hz0 := hb0.size
    clear hb0 t
    go_wp2_with fail
    go_loopg [5, 6, 14] xs.length (fun k v5 v6 v14 wr => ∃ (j : Nat) (p q : Int), v5 = .int .i64 p ∧ v6 = .int .i64 q ∧ v14 = .int .i64 (j : Int) ∧ j + k ≤ xs.length ∧ xs.length ≤ j + k ∧ Hid (viF xs j = p) ∧ Hid (viL xs j = q) ∧ Below w0.heap.size w0 wr)
    case atStart => exact ⟨0, 0, 400, rfl, rfl, rfl, by omega, by omega, rfl, rfl, Below.refl _ _⟩
    case round =>
      obtain ⟨j, p, q, rfl, rfl, rfl, h1, h2, hp, hq, hbel⟩ := hrel
      by_cases hj : j < xs.length
      · rcases h with h | ⟨b, off, rfl, hlt, hc⟩
        · rw [h] at hj; exact absurd hj (Nat.not_lt_zero _)
        · have hcj : wr.cell? ⟨b, off + j * 2, none⟩ = some (.int .i64 (px xs j)) := by rw [(bcell hbel).1 b _ hlt]; exact (hc j hj).1
          have hck : wr.cell? ⟨b, off + j * 2 + 1, none⟩ = some (.int .i64 (py xs j)) := by rw [(bcell hbel).1 b _ hlt]; exact (hc j hj).2
          have hjI : (j : Int) < (xs.length : Int) := by omega
          have HBl := Lib.hid hbel
          have hsz := hbel.size
          clear hbel hc
          have bt := viOk_iff.1 (HT.out j hj)
          have HP := Lib.hid (show viF xs (j + 1) = hig p (px xs j) by rw [← hp.out]; rfl)
          have HQ := Lib.hid (show viL xs (j + 1) = low q (px xs j + py xs j) by rw [← hq.out]; rfl)
          clear hp hq
          generalize px xs j = x at *
          generalize py xs j = y at *
          have HM := Lib.hid (fun w => most_hig p x w)
          have HL := Lib.hid (fun w => least_any q (x + y) w)
          go_wp2_with (first | (go_at_call 57; refine (HM.out _).mono ?_; rintro e w1 ⟨rfl, rfl⟩) | (go_at_call 53; refine (HL.out _).mono ?_; rintro e w1 ⟨rfl, rfl⟩))
          go_roundg (gk - 1)
          case rel => exact ⟨j + 1, _, _, rfl, rfl, by go_num, by omega, by omega, HP, HQ, by (repeat (first | exact HBl.out | exact Below.refl _ _ | refine Below.drew ?_ | refine below_drewN ?_ _ | refine Below.alloc ?_ (by first | omega | (simp; done) | (simp; omega)) _ | refine bchain ?_ (by assumption) (by first | omega | (simp; done) | (simp; omega))))⟩
          case measure => omega
      · obtain rfl : j = xs.length := by omega
        have HBl := Lib.hid (bchain HB0.out hbel hz0)
        clear hbel
        by_cases hd : p ≤ q
        · have HD := Lib.hid hd
          go_wp2_with fail
          go_ret3
          refine ⟨rII ?_ ?_ ?_, HBl.out⟩
          all_goals simp [HS.out, hp.out, hq.out, HD.out, ifI]
        · have HD := Lib.hid hd
          go_wp2_with fail
          go_ret3
          refine ⟨rII ?_ ?_ ?_, HBl.out⟩
          all_goals (simp [HS.out, hp.out, hq.out, ifI]; try omega)
set_option maxHeartbeats 2000000 in
theorem specStaysNeeded (a : Option Addr) (cap : Nat) (xs : List Int) (w : World) (h : Rd w a xs) (hn : xs.length ≤ 1048576) :
    Calls Try.prog 37 #[.slice a xs.length cap] w fun e w' => e = .returned (.tuple #[.int .i64 (ifI (inB (xs.length : Int) 1 6 && alB xs 0 200) (moI xs xs.length - leI xs xs.length)), .bool (inB (xs.length : Int) 1 6 && alB xs 0 200)]) ∧ Below w.heap.size w w' := by
  have hnI : (xs.length : Int) ≤ 1048576 := by omega
  cases h1 : inB (xs.length : Int) 1 6
  · have H1 := Lib.hid h1
    clear h1
    go_enter Try.func37, Try.ntmps37
    go_wp2_with (first | (go_at_call 48; refine (specIn _ _ _ _).mono ?_; rw [H1.out]; rintro e w1 ⟨rfl, rfl⟩))
    go_ret2
    refine ⟨rIB ?_ ?_, Below.refl _ _⟩
    all_goals simp [H1.out, ifI]
  cases h2 : alB xs 0 200
  · have H1 := Lib.hid h1
    have H2 := Lib.hid h2
    clear h1 h2
    go_enter Try.func37, Try.ntmps37
    go_wp2_with (first | (go_at_call 48; refine (specIn _ _ _ _).mono ?_; rw [H1.out]; rintro e w1 ⟨rfl, rfl⟩) | (go_at_call 65; refine (l1All_dog 0 200 a cap xs _ h (by omega)).mono ?_; rw [H2.out]; rintro e w1 ⟨rfl, rfl⟩))
    go_ret2
    refine ⟨rIB ?_ ?_, Below.refl _ _⟩
    all_goals simp [H1.out, H2.out, ifI]
  · have b1 := inB_iff.1 h1
    have HA := Lib.hid (alB_iff.1 h2)
    have H1 := Lib.hid h1
    have H2 := Lib.hid h2
    have hbd := Lib.hid (fun j hj => lmI_bd (alB_iff.1 h2) (by omega) j hj)
    clear h1 h2
    have hcs := h
    rcases hcs with hcs | ⟨b, off, rfl, hlt, hc⟩
    · rw [hcs] at b1; exact absurd b1.1 (by decide)
    have hc0 : w.cell? ⟨b, off, none⟩ = some (.int .i64 (xs.getD 0 0)) := hc 0 (by omega)
    obtain ⟨x0, HX⟩ : ∃ x0, Hid (xs.getD 0 0 = x0) := ⟨_, rfl⟩
    rw [HX.out] at hc0
    have hlI : (0 : Int) < (xs.length : Int) := by omega
    have hlN : 0 < xs.length := by omega
    have HC := Lib.hid hc
    clear hc
    go_enter Try.func37, Try.ntmps37
    go_wp2_with (first | (go_at_call 48; refine (specIn _ _ _ _).mono ?_; rw [H1.out]; rintro e w1 ⟨rfl, rfl⟩) | (go_at_call 65; refine (l1All_dog 0 200 _ cap xs _ h (by omega)).mono ?_; rw [H2.out]; rintro e w1 ⟨rfl, rfl⟩))
    go_quiet (fail)
    go_wp2_with fail
    go_loopg [4, 5, 25] xs.length (fun k v4 v5 v25 wr => ∃ (j : Nat) (p q : Int), v4 = .int .i64 p ∧ v5 = .int .i64 q ∧ v25 = .int .i64 (j : Int) ∧ j + k ≤ xs.length ∧ xs.length ≤ j + k ∧ Hid (leI xs j = p) ∧ Hid (moI xs j = q) ∧ Below w.heap.size w wr)
    case atStart => exact ⟨0, x0, x0, rfl, rfl, rfl, by omega, by omega, HX, HX, by (repeat (first | exact HBl.out | exact Below.refl _ _ | refine Below.drew ?_ | refine below_drewN ?_ _ | refine Below.alloc ?_ (by first | omega | (simp; done) | (simp; omega)) _ | refine bchain ?_ (by assumption) (by first | omega | (simp; done) | (simp; omega))))⟩
    case round =>
      obtain ⟨j, p, q, rfl, rfl, rfl, k1, k2, hp, hq, hbel⟩ := hrel
      by_cases hj : j < xs.length
      · have hcj : wr.cell? ⟨b, off + j, none⟩ = some (.int .i64 (xs.getD j 0)) := by rw [(bcell hbel).1 b _ hlt]; exact HC.out j hj
        have hjI : (j : Int) < (xs.length : Int) := by omega
        have hsz := hbel.size
        have HBl := Lib.hid hbel
        clear hbel
        have HP := Lib.hid (show leI xs (j + 1) = low p (xs.getD j 0) by rw [← hp.out]; rfl)
        have HQ := Lib.hid (show moI xs (j + 1) = hig q (xs.getD j 0) by rw [← hq.out]; rfl)
        clear hp hq hc0
        generalize xs.getD j 0 = x at *
        have HM := Lib.hid (fun w => most_hig q x w)
        have HL := Lib.hid (fun w => least_any p x w)
        go_wp2_with (first | (go_at_call 57; refine (HM.out _).mono ?_; rintro e w1 ⟨rfl, rfl⟩) | (go_at_call 53; refine (HL.out _).mono ?_; rintro e w1 ⟨rfl, rfl⟩))
        go_roundg (gk - 1)
        case rel => exact ⟨j + 1, _, _, rfl, rfl, by go_num, by omega, by omega, HP, HQ, by (repeat (first | exact HBl.out | exact Below.refl _ _ | refine Below.drew ?_ | refine below_drewN ?_ _ | refine Below.alloc ?_ (by first | omega | (simp; done) | (simp; omega)) _ | refine bchain ?_ (by assumption) (by first | omega | (simp; done) | (simp; omega))))⟩
        case measure => omega
      · obtain rfl : j = xs.length := by omega
        have HBl := Lib.hid hbel
        clear hbel
        have bb := hbd.out xs.length (Nat.le_refl _)
        rw [hp.out, hq.out] at bb
        go_wp2_with fail
        go_ret2
        refine ⟨rIB ?_ ?_, HBl.out⟩
        all_goals simp [H1.out, H2.out, hp.out, hq.out, ifI]
end Go.Proofs.Ytiidggbllcmppaa
