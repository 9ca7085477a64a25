/- Lists of visits (chapter 8), the program's ways by contracts. -/
import Derived.Test.YtiidggbllcmppaaWinMath3
import Derived.Test.YtiidggbllcmppaaWinList
import Derived.Test.YtiidggbllcmppaaAreAllV
import Derived.Test.YtiidggbllcmppaaAreAllI
import Derived.Test.YtiidggbllcmppaaWinNumI
import Derived.WalkKit
import Derived.WalkSpells
import Derived.WalkLawsBesides
import Derived.Lib.Hide
import Derived.Deep.LoopGhost
import Derived.Deep.QuietTactic
import Derived.Deep.RegionHeld3
import Derived.BigQuiet
import Derived.Shelf.Abstract
namespace Go.Proofs.Ytiidggbllcmppaa
open Go.RowKit
set_option linter.unusedVariables false
set_option linter.unusedSimpArgs false
set_option maxHeartbeats 2000000 in
theorem end_any (f s : Int) (h1 : 0 ≤ f) (h2 : f ≤ 200) (h3 : 0 ≤ s) (h4 : s ≤ 200) (w : World) :
    Calls Try.prog 64 #[.agg #[.int .i64 f, .int .i64 s]] w fun e w' => e = .returned (.int .i64 (f + s)) ∧ Below w.heap.size w w' := by
  go_enter Try.func64, Try.ntmps64
  go_wp2_with fail
  all_goals (go_ret; refine ⟨rI ?_, ?_⟩)
  all_goals first | rfl | omega | (repeat (first | exact HBl.out | exact Below.refl _ _ | refine Below.drew ?_ | refine below_drewN ?_ _ | refine Below.alloc ?_ (by first | omega | (simp; done) | (simp; omega)) _ | refine bchain ?_ (by assumption) (by first | omega | (simp; done) | (simp; omega))))
set_option maxHeartbeats 2000000 in
theorem isVisit_any (f s : Int) (w : World) :
    Calls Try.prog 61 #[.agg #[.int .i64 f, .int .i64 s]] w fun e w' => e = .returned (.bool (viOk f s)) ∧ Below w.heap.size w w' := by
  cases h1 : inB f 0 200
  all_goals
    go_enter Try.func61, Try.ntmps61
    go_wp2_with (first | (go_at_call 62; refine (isArrival_any _ _).mono ?_; rintro e w1 ⟨rfl, rfl⟩) | (go_at_call 44; refine (isStay_any _ _).mono ?_; rintro e w1 ⟨rfl, rfl⟩) | go_in)
    all_goals (go_ret; refine ⟨rB ?_, ?_⟩)
    all_goals first | (simp [viOk, h1]; done) | (repeat (first | exact HBl.out | exact Below.refl _ _ | refine Below.drew ?_ | refine below_drewN ?_ _ | refine Below.alloc ?_ (by first | omega | (simp; done) | (simp; omega)) _ | refine bchain ?_ (by assumption) (by first | omega | (simp; done) | (simp; omega))))
set_option maxHeartbeats 1000000 in
theorem implAreVisits (a : Option Addr) (cap : Nat) (xs : List (Int × Int)) (w : World) (h : RdP w a xs) (hn : xs.length ≤ 1048576) :
    Calls Try.prog 33 #[.slice a xs.length cap] w fun e w' => e = .returned (.bool (viS xs)) ∧ Below w.heap.size w w' := by
  go_enter Try.func33, Try.ntmps33
  go_wp2_with fail
  refine (areAllV 61 #[] viOk a cap xs 6 _ h hn (enters_of Try.func61 (by kernel_rfl) rfl) (fun x y W _ => isVisit_any x y W)).mono ?_
  rintro e w1 ⟨rfl, hb⟩
  go_wp2_with fail
  go_ret
  exact ⟨rfl, hb⟩
set_option maxHeartbeats 4000000 in
theorem implAllThere (a : Option Addr) (cap : Nat) (xs : List (Int × Int)) (w : World) (h : RdP w a xs) (hn : xs.length ≤ 1048576) :
    Calls Try.prog 36 #[.slice a xs.length cap] w fun e w' => e = .returned (.tuple #[.int .i64 (ifI (viS xs && decide (viF xs xs.length ≤ viL xs xs.length)) (viF xs xs.length)), .int .i64 (ifI (viS xs && decide (viF xs xs.length ≤ viL xs xs.length)) (viL xs xs.length)), .bool (viS xs && decide (viF xs xs.length ≤ viL xs xs.length))]) ∧ Below w.heap.size w w' := by
  cases hs : viS xs
  · have HS := Lib.hid hs
    clear hs
    go_enter Try.func36, Try.ntmps36
    go_wp2_with (first | (go_at_call 33; refine (implAreVisits a cap xs _ h hn).mono ?_; rw [HS.out]; rintro e w0 ⟨rfl, hb0⟩))
    go_ret3
    exact ⟨rfl, hb0⟩
  · have t := viS_at hs
    have HS := Lib.hid hs
    have HT := Lib.hid t.2.2
    have hnI : (xs.length : Int) ≤ 6 := by omega
    have hl0 : 0 < xs.length := by omega
    have hlI : (0 : Int) < (xs.length : Int) := by omega
    clear hs t
    go_enter Try.func36, Try.ntmps36
    go_wp2_with fail
    refine (implAreVisits a cap xs _ h hn).mono ?_; rw [HS.out]; rintro e w0 ⟨rfl, hb0⟩
    replace h := h.below hb0
    have HB0 := Lib.hid hb0
    have hz0 := hb0.size
    clear hb0
    go_wp2_with fail
    rcases h with h | ⟨b, off, rfl, hlt, hc⟩
    · rw [h] at hl0; exact absurd hl0 (Nat.not_lt_zero _)
    have hc0 : w0.cell? ⟨b, off, none⟩ = some (.int .i64 (px xs 0)) := (hc 0 hl0).1
    have hc1 : w0.cell? ⟨b, off + 1, none⟩ = some (.int .i64 (py xs 0)) := (hc 0 hl0).2
    have b0 := viOk_iff.1 (HT.out 0 hl0)
    have HC := Lib.hid hc
    clear hc
    obtain ⟨x0, HX⟩ : ∃ x0, Hid (px xs 0 = x0) := ⟨_, rfl⟩
    obtain ⟨y0, HY⟩ : ∃ y0, Hid (py xs 0 = y0) := ⟨_, rfl⟩
    rw [HX.out] at hc0 b0
    rw [HY.out] at hc1 b0
    have hE := Lib.hid (fun w => end_any x0 y0 (by omega) (by omega) (by omega) (by omega) w)
    go_region_held3 (fun w' => Below w0.heap.size w0 w' ∧ b < w'.heap.size ∧ w'.cell? ⟨b, off, none⟩ = some (.int .i64 x0) ∧ w'.cell? ⟨b, off + 1, none⟩ = some (.int .i64 y0)) (refine ⟨?_, ?_, ?_, ?_⟩ <;> first | assumption | omega | (go_simp; done) | (repeat (first | exact HBl.out | exact Below.refl _ _ | refine Below.drew ?_ | refine below_drewN ?_ _ | refine Below.alloc ?_ (by first | omega | (simp; done) | (simp; omega)) _ | refine bchain ?_ (by assumption) (by first | omega | (simp; done) | (simp; omega))))) (first | (go_at_call 64; refine (hE.out _).mono ?_; rintro e w1 ⟨rfl, hb⟩; have hzz := hb.size; (try simp at hzz); have hcA := fun o => (bcell hb).1 b o (by first | omega | (simp; omega) | (simp; done))))
    all_goals go_wp2_with fail
    all_goals (clear hc0 hc1)
    all_goals
      go_loopg [5, 6, 22] xs.length (fun k v5 v6 v22 wr => ∃ (j : Nat) (p q : Int), v5 = .int .i64 p ∧ v6 = .int .i64 q ∧ v22 = .int .i64 (j : Int) ∧ j + k ≤ xs.length ∧ xs.length ≤ j + k ∧ Hid (vpF xs j = p) ∧ Hid (vpL xs j = q) ∧ Below w0.heap.size w0 wr)
      case atStart => exact ⟨0, x0, x0 + y0, rfl, rfl, rfl, by omega, by omega, (by unfold Hid; rw [vpF_zero (by rw [HX.out]; omega), HX.out]), (by unfold Hid; rw [vpL_zero (by rw [HX.out, HY.out]; omega), HX.out, HY.out]), by (repeat (first | exact HBl.out | exact Below.refl _ _ | refine Below.drew ?_ | refine below_drewN ?_ _ | refine Below.alloc ?_ (by first | omega | (simp; done) | (simp; omega)) _ | refine bchain ?_ (by assumption) (by first | omega | (simp; done) | (simp; omega))))⟩
      case round =>
        obtain ⟨j, p, q, rfl, rfl, rfl, h1, h2, hp, hq, hbel⟩ := hrel
        by_cases hj : j < xs.length
        · have hcj : wr.cell? ⟨b, off + j * 2, none⟩ = some (.int .i64 (px xs j)) := by rw [(bcell hbel).1 b _ hlt]; exact (HC.out j hj).1
          have hck : wr.cell? ⟨b, off + j * 2 + 1, none⟩ = some (.int .i64 (py xs j)) := by rw [(bcell hbel).1 b _ hlt]; exact (HC.out j hj).2
          have hjI : (j : Int) < (xs.length : Int) := by omega
          have HBl := Lib.hid hbel
          have hsz := hbel.size
          clear hbel
          have bt := viOk_iff.1 (HT.out j hj)
          have HP := Lib.hid (show vpF xs (j + 1) = hig p (px xs j) by rw [vpF_step, hp.out])
          have HQ := Lib.hid (show vpL xs (j + 1) = low q (px xs j + py xs j) by rw [vpL_step, hq.out])
          clear hp hq
          generalize px xs j = x at *
          generalize py xs j = y at *
          have hE2 := Lib.hid (fun w => end_any x y (by omega) (by omega) (by omega) (by omega) w)
          rcases Int.lt_trichotomy p x with m1 | m1 | m1
          all_goals (try (rw [← m1] at HP))
          all_goals rcases Int.lt_trichotomy q (x + y) with m2 | m2 | m2
          all_goals (try (rw [← m2] at HQ))
          all_goals
            go_wp2_with fail
            go_region_held3 (fun w' => Below w0.heap.size w0 w' ∧ wr.heap.size < w'.heap.size ∧ w'.cell? ⟨wr.heap.size, 0, none⟩ = some (.int .i64 x) ∧ w'.cell? ⟨wr.heap.size, 1, none⟩ = some (.int .i64 y)) (refine ⟨?_, ?_, ?_, ?_⟩ <;> first | assumption | omega | (go_simp; done) | (repeat (first | exact HBl.out | exact Below.refl _ _ | refine Below.drew ?_ | refine below_drewN ?_ _ | refine Below.alloc ?_ (by first | omega | (simp; done) | (simp; omega)) _ | refine bchain ?_ (by assumption) (by first | omega | (simp; done) | (simp; omega))))) (first | (go_at_call 64; refine (hE2.out _).mono ?_; rintro e w1 ⟨rfl, hb⟩; have hzz := hb.size; (try simp at hzz); have hcA := fun o => (bcell hb).1 wr.heap.size o (by first | omega | (simp; omega) | (simp; done))))

            all_goals go_wp2_with fail
            all_goals go_roundg (gk - 1)
            all_goals first | omega | exact ⟨j + 1, _, _, rfl, rfl, by go_num, by omega, by omega, (by unfold Hid; rw [HP.out]; unfold hig; (repeat' split) <;> omega), (by unfold Hid; rw [HQ.out]; unfold low; (repeat' split) <;> omega), by (repeat (first | exact HBl.out | exact Below.refl _ _ | refine Below.drew ?_ | refine below_drewN ?_ _ | refine Below.alloc ?_ (by first | omega | (simp; done) | (simp; omega)) _ | refine bchain ?_ (by assumption) (by first | omega | (simp; done) | (simp; omega))))⟩
        · obtain rfl : j = xs.length := by omega
          have HBl := Lib.hid (bchain HB0.out hbel hz0)
          clear hbel
          rw [vpF_end hl0] at hp
          rw [vpL_end hl0] at hq
          by_cases hd : p ≤ q
          · have HD := Lib.hid hd
            go_wp2_with fail
            go_ret3
            refine ⟨rII ?_ ?_ ?_, HBl.out⟩
            all_goals simp [HS.out, hp.out, hq.out, HD.out, ifI]
          · have HD := Lib.hid hd
            have hd2 : q < p := by omega
            go_wp2_with fail
            go_ret3
            refine ⟨rII ?_ ?_ ?_, HBl.out⟩
            all_goals (simp [HS.out, hp.out, hq.out, ifI]; try omega)
set_option maxHeartbeats 2000000 in
theorem slicesMax_any (a : Option Addr) (cap : Nat) (xs : List (Int)) (w : World) (h : Rd w a xs) (hn : xs.length ≤ 1048576) (h0 : 0 < xs.length) :
    Calls Try.prog 67 #[.slice a xs.length cap] w fun e w' => e = .returned (.int .i64 (moI xs xs.length)) ∧ w = w' := by
  have hnI : (xs.length : Int) ≤ 1048576 := by omega
  have h0I : (0 : Int) < (xs.length : Int) := by omega
  rcases h with h | ⟨b, off, rfl, hlt, hc⟩
  · rw [h] at h0; exact absurd h0 (Nat.not_lt_zero _)
  have hc0 : w.cell? ⟨b, off, none⟩ = some (.int .i64 (xs.getD 0 0)) := hc 0 h0
  have HC := Lib.hid hc
  clear hc
  have H1 := Lib.hid (show moI xs 1 = xs.getD 0 0 by simp [moI, hig])
  obtain ⟨x0, HX⟩ : ∃ x0, Hid (xs.getD 0 0 = x0) := ⟨_, rfl⟩
  rw [HX.out] at hc0 H1
  go_enter Try.func67, Try.ntmps67
  go_wp2_with fail
  go_loopg [3, 4] xs.length (fun k v3 v4 wr => ∃ (j : Nat) (p : Int), v3 = .int .i64 p ∧ v4 = .int .i64 (j : Int) ∧ j + k ≤ xs.length + 1 ∧ xs.length + 1 ≤ j + k ∧ 1 ≤ j ∧ j ≤ xs.length ∧ Hid (moI xs j = p) ∧ w = wr)
  case atStart => exact ⟨1, x0, rfl, rfl, by omega, by omega, by omega, by omega, H1, rfl⟩
  case round =>
    obtain ⟨j, p, rfl, rfl, k1, k2, k3, k4, hp, rfl⟩ := hrel
    clear hc0
    by_cases hj : j < xs.length
    · have hcj := HC.out j hj
      have hjI : (j : Int) < (xs.length : Int) := by omega
      have HP := Lib.hid (show moI xs (j + 1) = hig p (xs.getD j 0) by rw [← hp.out]; rfl)
      clear hp
      generalize xs.getD j 0 = x at *
      go_wp2_with fail
      all_goals go_roundg (gk - 1)
      all_goals first | omega | exact ⟨j + 1, _, by go_num, by go_num, by omega, by omega, by omega, by omega, (by unfold Hid; rw [HP.out]; unfold hig; (repeat' split) <;> omega), rfl⟩
    · obtain rfl : j = xs.length := by omega
      go_wp2_with fail
      go_ret
      exact ⟨rI hp.out.symm, rfl⟩
set_option maxHeartbeats 2000000 in
theorem slicesMin_any (a : Option Addr) (cap : Nat) (xs : List (Int)) (w : World) (h : Rd w a xs) (hn : xs.length ≤ 1048576) (h0 : 0 < xs.length) :
    Calls Try.prog 68 #[.slice a xs.length cap] w fun e w' => e = .returned (.int .i64 (leI xs xs.length)) ∧ w = w' := by
  have hnI : (xs.length : Int) ≤ 1048576 := by omega
  have h0I : (0 : Int) < (xs.length : Int) := by omega
  rcases h with h | ⟨b, off, rfl, hlt, hc⟩
  · rw [h] at h0; exact absurd h0 (Nat.not_lt_zero _)
  have hc0 : w.cell? ⟨b, off, none⟩ = some (.int .i64 (xs.getD 0 0)) := hc 0 h0
  have HC := Lib.hid hc
  clear hc
  have H1 := Lib.hid (show leI xs 1 = xs.getD 0 0 by simp [leI, low])
  obtain ⟨x0, HX⟩ : ∃ x0, Hid (xs.getD 0 0 = x0) := ⟨_, rfl⟩
  rw [HX.out] at hc0 H1
  go_enter Try.func68, Try.ntmps68
  go_wp2_with fail
  go_loopg [3, 4] xs.length (fun k v3 v4 wr => ∃ (j : Nat) (p : Int), v3 = .int .i64 p ∧ v4 = .int .i64 (j : Int) ∧ j + k ≤ xs.length + 1 ∧ xs.length + 1 ≤ j + k ∧ 1 ≤ j ∧ j ≤ xs.length ∧ Hid (leI xs j = p) ∧ w = wr)
  case atStart => exact ⟨1, x0, rfl, rfl, by omega, by omega, by omega, by omega, H1, rfl⟩
  case round =>
    obtain ⟨j, p, rfl, rfl, k1, k2, k3, k4, hp, rfl⟩ := hrel
    clear hc0
    by_cases hj : j < xs.length
    · have hcj := HC.out j hj
      have hjI : (j : Int) < (xs.length : Int) := by omega
      have HP := Lib.hid (show leI xs (j + 1) = low p (xs.getD j 0) by rw [← hp.out]; rfl)
      clear hp
      generalize xs.getD j 0 = x at *
      go_wp2_with fail
      all_goals go_roundg (gk - 1)
      all_goals first | omega | exact ⟨j + 1, _, by go_num, by go_num, by omega, by omega, by omega, by omega, (by unfold Hid; rw [HP.out]; unfold low; (repeat' split) <;> omega), rfl⟩
    · obtain rfl : j = xs.length := by omega
      go_wp2_with fail
      go_ret
      exact ⟨rI hp.out.symm, rfl⟩
set_option maxHeartbeats 2000000 in
theorem implStaysNeeded (a : Option Addr) (cap : Nat) (xs : List (Int)) (w : World) (h : Rd w a xs) (hn : xs.length ≤ 1048576) :
    Calls Try.prog 39 #[.slice a xs.length cap] w fun e w' => e = .returned (.tuple #[.int .i64 (ifI (inB (xs.length : Int) 1 6 && alB xs 0 200) (moI xs xs.length - leI xs xs.length)), .bool (inB (xs.length : Int) 1 6 && alB xs 0 200)]) ∧ Below w.heap.size w w' := by
  have hq : (inB (xs.length : Int) 1 6 && allV (fun x => inB x 0 200) xs) = (inB (xs.length : Int) 1 6 && alB xs 0 200) := by rw [allV_alB]
  cases hv : (inB (xs.length : Int) 1 6 && alB xs 0 200)
  · have HV := Lib.hid (hq.trans hv)
    go_enter Try.func39, Try.ntmps39
    go_wp2_with (first | (go_at_call 66; refine (areAllI 62 #[] (fun x => inB x 0 200) a cap xs 6 _ h (by omega) (enters_of Try.func62 (by kernel_rfl) rfl) (fun x W => isArrival_any x W)).mono ?_; rw [HV.out]; rintro e w1 ⟨rfl, rfl⟩))
    go_ret2
    exact ⟨rfl, Below.refl _ _⟩
  · have HV := Lib.hid (hq.trans hv)
    rw [Bool.and_eq_true] at hv
    have b1 := inB_iff.1 hv.1
    have b2 := lmI_bd (alB_iff.1 hv.2) (by omega) xs.length (Nat.le_refl _)
    have HX := Lib.hid (fun w h => slicesMax_any a cap xs w h hn (by omega))
    have HN := Lib.hid (fun w h => slicesMin_any a cap xs w h hn (by omega))
    have h' := Lib.hid h
    clear hv hq
    generalize moI xs xs.length = p at *
    generalize leI xs xs.length = q at *
    go_enter Try.func39, Try.ntmps39
    go_wp2_with (first | (go_at_call 66; refine (areAllI 62 #[] (fun x => inB x 0 200) a cap xs 6 _ h (by omega) (enters_of Try.func62 (by kernel_rfl) rfl) (fun x W => isArrival_any x W)).mono ?_; rw [HV.out]; rintro e w1 ⟨rfl, rfl⟩) | (go_at_call 67; refine (HX.out _ h).mono ?_; rintro e w1 ⟨rfl, rfl⟩) | (go_at_call 68; refine (HN.out _ h).mono ?_; rintro e w1 ⟨rfl, rfl⟩))
    go_ret2
    exact ⟨rfl, Below.refl _ _⟩
end Go.Proofs.Ytiidggbllcmppaa
