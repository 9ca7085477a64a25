/- Chapter 6's program: mean speeds by times and by halves, by contracts. -/
import Derived.Test.YtjgicbfgbcihoaaLegA
import Derived.WalkKit
import Derived.WalkSpells
import Derived.WalkLawsBesides
import Derived.Lib.Hide
import Derived.Deep.LoopGhost
import Derived.Deep.QuietTactic
import Derived.Deep.RegionWith
import Derived.Deep.RegionHeld3
import Derived.BigQuiet
import Derived.Shelf.Abstract
namespace Go.Proofs.Ytjgicbfgbcihoaa
open Go.RowKit
set_option linter.unusedVariables false
set_option linter.unusedSimpArgs false
theorem areSpeeds_sp (a : Option Addr) (cap : Nat) (xs : List Int) (w : World) (h : Rd w a xs) (hn : xs.length ≤ 1048576) :
    Calls Try.prog 59 #[.slice a xs.length cap] w fun e w' => e = .returned (.bool (spS xs)) ∧ w = w' := areSpeeds_any a cap xs w h hn
set_option maxHeartbeats 1000000 in
theorem same_any (n : Int) (w : World) :
    Calls Try.prog 62 #[.int .i64 n] w fun e w' => e = .returned (.int .i64 n) ∧ w = w' := by
  go_enter Try.func62, Try.ntmps62
  go_wp2_with fail
  go_ret
  exact ⟨rfl, rfl⟩
set_option maxHeartbeats 2000000 in
theorem sumV_any (a : Option Addr) (cap : Nat) (xs : List Int) (w : World) (h : Rd w a xs) (hl : xs.length ≤ 5) (ht : ∀ i, i < xs.length → 1 ≤ xs.getD i 0 ∧ xs.getD i 0 ≤ 100) :
    Calls Try.prog 61 #[.slice a xs.length cap, .func (.func 62) #[] #[]] w fun e w' => e = .returned (.int .i64 (sumV xs xs.length)) ∧ w = w' := by
  have hbd := Lib.hid (sumV_bd ht)
  have HT := Lib.hid ht
  clear ht
  go_enter Try.func61, Try.ntmps61
  go_wp2_with fail
  go_loopg [5, 10] xs.length (fun k v5 v10 wr => ∃ (j : Nat) (s : Int), v5 = .int .i64 s ∧ v10 = .int .i64 (j : Int) ∧ j + k ≤ xs.length ∧ xs.length ≤ j + k ∧ Hid (sumV xs j = s) ∧ w = wr)
  case atStart => exact ⟨0, 0, rfl, rfl, by omega, by omega, rfl, rfl⟩
  case round =>
    obtain ⟨j, s, rfl, rfl, g1, g2, hsum, rfl⟩ := hrel
    by_cases hj : j < xs.length
    · rcases h with h | ⟨b, off, rfl, hlt, hc⟩
      · rw [h] at hj; exact absurd hj (Nat.not_lt_zero _)
      · have hcj := hc j hj
        have hjI : (j : Int) < (xs.length : Int) := by omega
        have bs := hbd.out j (by omega)
        have bt := HT.out j hj
        rw [hsum.out] at bs
        have hsum2 : Hid (sumV xs (j + 1) = s + xs.getD j 0) := by unfold Hid; rw [← hsum.out]; rfl
        clear hsum hc
        generalize xs.getD j 0 = x at *
        go_wp2_with (first | (go_at_call 62; refine (same_any x _).mono ?_; rintro e w1 ⟨rfl, rfl⟩))
        go_roundg (gk - 1)
        case rel => exact ⟨j + 1, s + x, by go_num, by go_num, by omega, by omega, hsum2, rfl⟩
        case measure => omega
    · obtain rfl : j = xs.length := by omega
      have HF := Lib.hid hsum
      clear hsum
      go_wp2_with fail
      go_ret
      rw [HF.out]
      exact ⟨rfl, rfl⟩
set_option maxHeartbeats 2000000 in
theorem implMeanByTimes (a : Option Addr) (cap : Nat) (xs : List Int) (w : World) (h : Rd w a xs) (hn : xs.length ≤ 1048576) :
    Calls Try.prog 28 #[.slice a xs.length cap] w fun e w' => e = .returned (.tuple #[.int .i64 (ifI (spS xs) (lwN (sumV xs xs.length) (xs.length : Int))), .int .i64 (ifI (spS xs) (lwD (sumV xs xs.length) (xs.length : Int))), .bool (spS xs)]) ∧ Below w.heap.size w w' := by
  cases hs : spS xs
  · have HS := Lib.hid hs
    clear hs
    go_enter Try.func28, Try.ntmps28
    go_wp2_with (first | (go_at_call 59; refine (areSpeeds_sp a cap xs _ h hn).mono ?_; rw [HS.out]; rintro e w1 ⟨rfl, rfl⟩))
    go_ret3
    exact ⟨rfl, Below.refl _ _⟩
  · have t := spS_at hs
    have HS := Lib.hid hs
    have hl := t.2.1
    have hl1 := t.1
    have HT := Lib.hid t.2.2
    have bs := sumV_bd t.2.2 xs.length (Nat.le_refl _)
    have HL := Lib.hid (fun w => lowest_any (sumV xs xs.length) (xs.length : Int) (by omega) (by omega) (by omega) (by omega) w)
    clear hs t
    go_enter Try.func28, Try.ntmps28
    go_wp2_with (first | (go_at_call 59; refine (areSpeeds_sp a cap xs _ h hn).mono ?_; rw [HS.out]; rintro e w1 ⟨rfl, rfl⟩) | (go_at_call 61; refine (sumV_any a cap xs _ h hl HT.out).mono ?_; rintro e w2 ⟨rfl, rfl⟩))
    refine (HL.out _).mono ?_; rintro e w3 ⟨rfl, hb⟩
    have B3 := Lib.hid hb
    have y3 := hb.size
    clear hb
    go_wp2_with fail
    all_goals try (go_quiet (fail); go_wp2_with fail)
    go_ret3
    exact ⟨rfl, by first | exact below_drewN (B3.out.alloc (by omega) _) _ | exact (B3.out.alloc (by omega) _).drew | exact B3.out.alloc (by omega) _⟩
set_option maxHeartbeats 4000000 in
theorem implMeanByHalves (a : Option Addr) (cap : Nat) (xs : List Int) (w : World) (h : Rd w a xs) (hn : xs.length ≤ 1048576) :
    Calls Try.prog 31 #[.slice a xs.length cap] w fun e w' => e = .returned (.tuple #[.int .i64 (ifI (spS xs) (lwN (lgL (hvs xs) xs.length * (lgT (hvs xs) xs.length).2) (lgT (hvs xs) xs.length).1)), .int .i64 (ifI (spS xs) (lwD (lgL (hvs xs) xs.length * (lgT (hvs xs) xs.length).2) (lgT (hvs xs) xs.length).1)), .bool (spS xs)]) ∧ Below w.heap.size w w' := by
  cases hs : spS xs
  · have HS := Lib.hid hs
    clear hs
    go_enter Try.func31, Try.ntmps31
    go_wp2_with (first | (go_at_call 59; refine (areSpeeds_sp a cap xs _ h hn).mono ?_; rw [HS.out]; rintro e w1 ⟨rfl, rfl⟩))
    go_ret3
    exact ⟨rfl, Below.refl _ _⟩
  · obtain ⟨i0, hi, hz0, hz1, hz2⟩ := info_parts pairInfoG
    have t := spS_at hs
    have HG := Lib.hid (hvs_ok hs)
    have HS := Lib.hid hs
    have hl := t.2.1
    clear hs t
    have hlI : (xs.length : Int) ≤ 5 := by omega
    have HL := Lib.hid (hvs_length xs)
    generalize hPQ : lwN (lgL (hvs xs) xs.length * (lgT (hvs xs) xs.length).2) (lgT (hvs xs) xs.length).1 = P
    generalize hQQ : lwD (lgL (hvs xs) xs.length * (lgT (hvs xs) xs.length).2) (lgT (hvs xs) xs.length).1 = Q
    have HPQ := Lib.hid (And.intro hPQ hQQ)
    clear hPQ hQQ
    obtain ⟨w3, hrun, hown0, hgr0⟩ := run_make_full (P := Try.prog) w w.heap.size 25 47 i0 (.agg #[.int .i64 0, .int .i64 0]) 2 Try.underlying25 hi hz0 hz1 .i64 .i64 xs.length (by rw [hz2]; omega) (by unfold maxLen; omega) (Nat.le_refl _)
    have hbel0 : Below w.heap.size w w3 := (Below.refl _ _).grown hgr0 (Nat.le_refl _) (fun k hk => by cases hk)
    obtain ⟨ys0, hy0⟩ : ∃ ys, ys = (madeCells (Value.agg #[.int .i64 0, .int .i64 0]).cells (xs.length * 2)).toList := ⟨_, rfl⟩
    rw [← hy0] at hown0
    clear hy0 hgr0
    go_enter Try.func31, Try.ntmps31
    go_wp2_with (first | (go_at_call 59; refine (areSpeeds_sp a cap xs _ h hn).mono ?_; rw [HS.out]; rintro e w1 ⟨rfl, rfl⟩))
    clear hrun
    go_loopg [16] xs.length (fun f v16 wr => ∃ (j : Nat) (ys : List Value), v16 = .int .i64 (j : Int) ∧ j + f ≤ xs.length ∧ xs.length ≤ j + f ∧ wr.ownsRow w.heap.size 47 2 (.slice (some ⟨w.heap.size, 0, none⟩) xs.length xs.length) xs.length ys ∧ Hid (∀ i, i < j * 2 → ys[i]? = (cs2 (hvs xs))[i]?) ∧ Below w.heap.size w wr)
    case atStart => exact ⟨0, ys0, rfl, by omega, by omega, hown0, fun i hi => absurd hi (Nat.not_lt_zero _), hbel0⟩
    case round =>
      clear hown0 hbel0
      obtain ⟨j, ys, rfl, g1, g2, hown, hys, hbel⟩ := hrel
      have hsz := hbel.size
      have hlen : ys.length = xs.length * 2 := hown.1
      by_cases hj : j < xs.length
      · have h' := h.below hbel
        rcases h' with h' | ⟨b, off, rfl, hlt, hc⟩
        · rw [h'] at hj; exact absurd hj (Nat.not_lt_zero _)
        · have hcj := hc j hj
          have hjI : (j : Int) < (xs.length : Int) := by omega
          have hx1 := (hvs_at hj).1
          have hx2 := (hvs_at hj).2
          have e0 := cs2_get0 (hvs xs) j
          have e1 := cs2_get1 (hvs xs) j
          have hq : (hvs xs)[j]? = some (1, xs.getD j 0) := by simp [hvs, List.getD, List.getElem?_eq_getElem hj]
          rw [hq] at e0 e1
          have E0 := Lib.hid e0
          have E1 := Lib.hid e1
          clear hc hx1 hx2 e0 e1 hq
          generalize xs.getD j 0 = x at *
          have hcy0 := hown.cellAt (j * 2) (by omega)
          have hcy1 := hown.cellAt (j * 2 + 1) (by omega)
          have hfy0 := hown.frozenAt (j * 2)
          have hfy1 := hown.frozenAt (j * 2 + 1)
          rw [List.getElem?_eq_getElem (by omega)] at hcy0 hcy1
          obtain ⟨st1, _⟩ := hown.stored (j * 2) (.int .i64 1)
          obtain ⟨st2, _⟩ := st1.stored (j * 2 + 1) (.int .i64 x)
          have HST := Lib.hid st2
          have HB := Lib.hid hbel
          clear hown hbel st1 st2
          go_wp2_with fail
          go_roundg (gk - 1)
          case rel =>
            refine ⟨j + 1, _, by go_num, by omega, by omega, HST.out, ?_, (HB.out.setCell (Nat.le_refl _) _).setCell (Nat.le_refl _) _⟩
            intro i hi
            by_cases q1 : i = j * 2 + 1
            · subst q1; rw [List.getElem?_set_self (by rw [List.length_set]; omega), E1.out]; rfl
            · rw [List.getElem?_set_ne (by omega)]
              by_cases q2 : i = j * 2
              · subst q2; rw [List.getElem?_set_self (by omega), E0.out]; rfl
              · rw [List.getElem?_set_ne (by omega)]; exact hys.out i (by omega)
          case measure => omega
      · obtain rfl : j = xs.length := by omega
        have hyx : ys = cs2 (hvs xs) := by
          apply List.ext_getElem?
          intro i
          by_cases q : i < xs.length * 2
          · exact hys.out i (by omega)
          · rw [List.getElem?_eq_none (by omega), List.getElem?_eq_none (by rw [cs2_length, hvs_length]; omega)]
        subst hyx
        have hR : RdP wr (some ⟨w.heap.size, 0, none⟩) (hvs xs) := rowP_rd HL.out hown
        have HM := Lib.hid (implMeanSpeed (some ⟨w.heap.size, 0, none⟩) xs.length (hvs xs) wr hR (by rw [HL.out]; omega))
        rw [HL.out, HG.out, HPQ.out.1, HPQ.out.2] at HM
        have HB := Lib.hid hbel
        clear hown hbel hR hys
        go_wp2_with fail
        refine HM.out.mono ?_; rintro e w2 ⟨rfl, hb⟩
        have HB2 := Lib.hid (HB.out.trans (hb.mono HB.out.size))
        clear hb
        go_wp2_with fail
        go_ret3
        exact ⟨rfl, HB2.out⟩
end Go.Proofs.Ytjgicbfgbcihoaa
