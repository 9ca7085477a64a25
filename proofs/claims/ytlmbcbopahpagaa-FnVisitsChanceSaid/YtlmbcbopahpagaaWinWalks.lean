/- Contracts of chapter 8's functions on numbers, the model's, over one translation. -/
import Derived.Test.YtlmbcbopahpagaaProg
import Derived.Test.YtlmbcbopahpagaaWinMath
import Derived.Test.YtlmbcbopahpagaaTwoWalks
import Derived.Test.YtlmbcbopahpagaaOneWalks
import Derived.WalkKit
import Derived.WalkSpells
import Derived.WalkLawsBesides
import Derived.Lib.Hide
import Derived.Deep.RegionWith
import Derived.Deep.RegionHeld3
import Derived.Deep.QuietTactic
import Derived.Deep.LoopGhost
import Derived.BigQuiet
namespace Go.Proofs.Ytlmbcbopahpagaa
open Go.RowKit
set_option linter.unusedVariables false
set_option linter.unusedSimpArgs false
set_option maxHeartbeats 2000000 in
theorem wiMoments_any (m a b : Int) (w : World) :
    Calls Try.prog 34 #[.int .i64 m, .int .i64 a, .int .i64 b] w fun e w' => e = .returned (.bool (wmOk m a b)) ∧ w = w' := by
  cases h1 : inB m 1 200 <;> cases h2 : inB a 0 200 <;> cases h3 : inB b 0 200
  all_goals
    go_enter Try.func34, Try.ntmps34
    go_wp2_with (first | (go_at_call 45; refine (specIn _ _ _ _).mono ?_; rintro e w1 ⟨rfl, rfl⟩) | go_in)
    all_goals (go_ret; refine ⟨rB ?_, rfl⟩)
    all_goals first | (simp [wmOk, h1, h2, h3]; done) | (repeat (first | exact Below.refl _ _ | refine Below.drew ?_ | refine below_drewN ?_ _ | refine Below.setCell ?_ (by first | omega | (simp; done) | (simp; omega)) _ | refine Below.alloc ?_ (by first | omega | (simp; done) | (simp; omega)) _ | refine bchain ?_ (by assumption) (by first | omega | (simp; done) | (simp; omega))))
set_option maxHeartbeats 2000000 in
theorem wiTogether_any (m a b : Int) (hv : wmOk m a b = true) (w : World) :
    Calls Try.prog 35 #[.int .i64 m, .int .i64 a, .int .i64 b] w fun e w' => e = .returned (.int .i64 (wtN m a b)) ∧ w = w' := by
  obtain ⟨h1, h2, h3, h4, h5, h6⟩ := wmOk_iff.1 hv
  obtain ⟨M, rfl⟩ : ∃ M : Nat, m = (M : Int) := ⟨m.toNat, by omega⟩
  have HF := Lib.hid (show wtN (M : Int) a b = wtC a b M M by unfold wtN; simp)
  have HB := Lib.hid (wtC_bd a b M)
  have HR := Lib.hid (fun x j => wrC_bd a b x j)
  have HQ := Lib.hid (show ∀ i : Nat, i ≤ M → (i : Int) * (M : Int) ≤ 40000 from fun i hi => by have := mul_bd (i : Int) (M : Int) 200 200 (by omega) (by omega) (by omega) (by omega); omega)
  clear hv
  go_enter Try.func35, Try.ntmps35
  go_wp2_with fail
  go_loopg [7, 8] M (fun k v3 v4 wr => ∃ (i : Nat) (s : Int), v3 = .int .i64 s ∧ v4 = .int .i64 (i : Int) ∧ i + k ≤ M ∧ M ≤ i + k ∧ Hid (wtC a b M i = s) ∧ w = wr)
  case atStart => exact ⟨0, 0, rfl, rfl, by omega, by omega, rfl, rfl⟩
  case round =>
    obtain ⟨i, s, rfl, rfl, q1, q2, hs, rfl⟩ := hrel
    have bs := HB.out i
    rw [hs.out] at bs
    by_cases hi : i < M
    · have hiI : (i : Int) < (M : Int) := by omega
      have bq := HQ.out i (by omega)
      obtain ⟨K, rfl⟩ : ∃ K, gk = K + 1 := ⟨gk - 1, by omega⟩
      go_wp2_with fail
      go_loopg [7, 9] M (fun k v3 v5 wr => ∃ (j : Nat) (t : Int), v3 = .int .i64 t ∧ v5 = .int .i64 (j : Int) ∧ j + k ≤ M ∧ M ≤ j + k ∧ Hid (s + wrC a b (i : Int) j = t) ∧ w = wr)
      case atStart => exact ⟨0, s, rfl, rfl, by omega, by omega, (by unfold Hid wrC; simp), rfl⟩
      case round =>
        obtain ⟨j, t, rfl, rfl, p1, p2, ht, rfl⟩ := hrel
        have bt := HR.out (i : Int) j
        have ht2 := ht.out
        have btL : 0 ≤ t ∧ t ≤ 40200 := by omega
        clear ht2 bt
        by_cases hj : j < M
        · have hjI : (j : Int) < (M : Int) := by omega
          by_cases e1 : (j : Int) - (i : Int) ≤ a
          · by_cases e2 : (i : Int) - (j : Int) ≤ b
            · have HT := Lib.hid (show s + wrC a b (i : Int) (j + 1) = t + 1 by have := ht.out; unfold wrC; rw [if_pos ⟨e1, e2⟩]; omega)
              go_wp2_with fail
              go_roundg (gk - 1)
              case rel => exact ⟨j + 1, t + 1, by go_num, by go_num, by omega, by omega, HT.out, rfl⟩
              case measure => omega
            · have HT := Lib.hid (show s + wrC a b (i : Int) (j + 1) = t by have := ht.out; unfold wrC; rw [if_neg fun q => e2 q.2]; omega)
              go_wp2_with fail
              go_roundg (gk - 1)
              case rel => exact ⟨j + 1, t, by go_num, by go_num, by omega, by omega, HT.out, rfl⟩
              case measure => omega
          · have HT := Lib.hid (show s + wrC a b (i : Int) (j + 1) = t by have := ht.out; unfold wrC; rw [if_neg fun q => e1 q.1]; omega)
            go_wp2_with fail
            go_roundg (gk - 1)
            case rel => exact ⟨j + 1, t, by go_num, by go_num, by omega, by omega, HT.out, rfl⟩
            case measure => omega
        · obtain rfl : j = M := by omega
          have HT := Lib.hid (show wtC a b j (i + 1) = t by have := ht.out; have := hs.out; show wtC a b j i + wrC a b (i : Int) j = t; omega)
          go_wp2_with fail
          go_roundg K
          case rel => exact ⟨i + 1, t, by go_num, by go_num, by omega, by omega, HT.out, rfl⟩
          case measure => omega
    · obtain rfl : i = M := by omega
      have HS := Lib.hid (HF.out.trans hs.out)
      go_wp2_with fail
      go_ret
      refine ⟨rI ?_, rfl⟩
      rw [HS.out]
set_option maxHeartbeats 2000000 in
theorem specCountTogether (m a b : Int) (w : World) :
    Calls Try.prog 7 #[.int .i64 m, .int .i64 a, .int .i64 b] w fun e w' => e = .returned (.tuple #[.int .i64 (ifI (wmOk m a b) (wtN m a b)), .bool (wmOk m a b)]) ∧ Below w.heap.size w w' := by
  cases hv : wmOk m a b
  case false =>
    go_enter Try.func7, Try.ntmps7
    go_wp2_with (first | (go_at_call 34; refine (wiMoments_any _ _ _ _).mono ?_; rintro e w1 ⟨rfl, rfl⟩) | go_in)
    all_goals (go_ret2; refine ⟨rIB ?_ ?_, ?_⟩)
    all_goals first | (simp [hv, ifI]; done) | (repeat (first | exact Below.refl _ _ | refine Below.drew ?_ | refine below_drewN ?_ _ | refine Below.setCell ?_ (by first | omega | (simp; done) | (simp; omega)) _ | refine Below.alloc ?_ (by first | omega | (simp; done) | (simp; omega)) _ | refine bchain ?_ (by assumption) (by first | omega | (simp; done) | (simp; omega))))
  case true =>
  go_enter Try.func7, Try.ntmps7
  go_wp2_with (first | (go_at_call 34; refine (wiMoments_any _ _ _ _).mono ?_; rintro e w1 ⟨rfl, rfl⟩) | (go_at_call 35; refine (wiTogether_any _ _ _ hv _).mono ?_; rintro e w1 ⟨rfl, rfl⟩) | go_in)
  all_goals try ((go_quiet (fail)); go_wp2_with (first | (go_at_call 34; refine (wiMoments_any _ _ _ _).mono ?_; rintro e w1 ⟨rfl, rfl⟩) | (go_at_call 35; refine (wiTogether_any _ _ _ hv _).mono ?_; rintro e w1 ⟨rfl, rfl⟩) | go_in))
  all_goals (go_ret2; refine ⟨rIB ?_ ?_, ?_⟩)
  all_goals first | (simp [hv, ifI]; done) | (repeat (first | exact Below.refl _ _ | refine Below.drew ?_ | refine below_drewN ?_ _ | refine Below.setCell ?_ (by first | omega | (simp; done) | (simp; omega)) _ | refine Below.alloc ?_ (by first | omega | (simp; done) | (simp; omega)) _ | refine bchain ?_ (by assumption) (by first | omega | (simp; done) | (simp; omega))))
set_option maxHeartbeats 2000000 in
theorem specChanceTogether (m a b : Int) (w : World) :
    Calls Try.prog 9 #[.int .i64 m, .int .i64 a, .int .i64 b] w fun e w' => e = .returned (.tuple #[.int .i64 (ifI (wmOk m a b) (lwN (wtN m a b) (m * m))), .int .i64 (ifI (wmOk m a b) (lwD (wtN m a b) (m * m))), .bool (wmOk m a b)]) ∧ Below w.heap.size w w' := by
  cases hv : wmOk m a b
  case false =>
    go_enter Try.func9, Try.ntmps9
    go_wp2_with (first | (go_at_call 34; refine (wiMoments_any _ _ _ _).mono ?_; rintro e w1 ⟨rfl, rfl⟩) | go_in)
    all_goals (go_ret3; refine ⟨rII ?_ ?_ ?_, ?_⟩)
    all_goals first | (simp [hv, ifI]; done) | (repeat (first | exact Below.refl _ _ | refine Below.drew ?_ | refine below_drewN ?_ _ | refine Below.setCell ?_ (by first | omega | (simp; done) | (simp; omega)) _ | refine Below.alloc ?_ (by first | omega | (simp; done) | (simp; omega)) _ | refine bchain ?_ (by assumption) (by first | omega | (simp; done) | (simp; omega))))
  case true =>
  have v1 := wtN_bd hv
  go_enter Try.func9, Try.ntmps9
  go_wp2_with (first | (go_at_call 34; refine (wiMoments_any _ _ _ _).mono ?_; rintro e w1 ⟨rfl, rfl⟩) | (go_at_call 35; refine (wiTogether_any _ _ _ hv _).mono ?_; rintro e w1 ⟨rfl, rfl⟩) | (go_at_call 37; refine (meLow_pos (wtN m a b) (m * m) (by omega) (by omega) (by omega) (by omega) _).mono ?_; rintro e w1 ⟨rfl, hb⟩; have hc := (bcell hb).1; have hf := (bcell hb).2; have hz : w.heap.size ≤ w1.heap.size := (by have := hb.size; (try simp at this); omega)) | go_in)
  all_goals try ((go_quiet (fail)); go_wp2_with (first | (go_at_call 34; refine (wiMoments_any _ _ _ _).mono ?_; rintro e w1 ⟨rfl, rfl⟩) | (go_at_call 35; refine (wiTogether_any _ _ _ hv _).mono ?_; rintro e w1 ⟨rfl, rfl⟩) | (go_at_call 37; refine (meLow_pos (wtN m a b) (m * m) (by omega) (by omega) (by omega) (by omega) _).mono ?_; rintro e w1 ⟨rfl, hb⟩; have hc := (bcell hb).1; have hf := (bcell hb).2; have hz : w.heap.size ≤ w1.heap.size := (by have := hb.size; (try simp at this); omega)) | go_in))
  all_goals (go_ret3; refine ⟨rII ?_ ?_ ?_, ?_⟩)
  all_goals first | (simp [hv, ifI]; done) | (repeat (first | exact Below.refl _ _ | refine Below.drew ?_ | refine below_drewN ?_ _ | refine Below.setCell ?_ (by first | omega | (simp; done) | (simp; omega)) _ | refine Below.alloc ?_ (by first | omega | (simp; done) | (simp; omega)) _ | refine bchain ?_ (by assumption) (by first | omega | (simp; done) | (simp; omega))))
set_option maxHeartbeats 2000000 in
theorem wiStays_any (m a b : Int) (hv : wlOk m a b = true) (w : World) :
    Calls Try.prog 46 #[.int .i64 m, .int .i64 a, .int .i64 b] w fun e w' => e = .returned (.int .i64 (wsS m a b)) ∧ w = w' := by
  have v1 := wsS_bd hv
  have v2 := wlOk_iff.1 hv
  have v3 : 0 ≤ 2 * m ∧ 2 * m ≤ 400 := by omega
  have v4 : wsS m a b = 2 * m * m - (m - a) * (m - a) - (m - b) * (m - b) := rfl
  go_enter Try.func46, Try.ntmps46
  go_wp2
  all_goals (go_ret; refine ⟨rI ?_, rfl⟩)
  all_goals first | rfl | (go_simp; done) | (simp [wsS]; done)
set_option maxHeartbeats 2000000 in
theorem specChanceOfStays (l a b : Int) (w : World) :
    Calls Try.prog 18 #[.int .i64 l, .int .i64 a, .int .i64 b] w fun e w' => e = .returned (.tuple #[.int .i64 (ifI (wlOk l a b) (lwN (wsS l a b) (2 * l * l))), .int .i64 (ifI (wlOk l a b) (lwD (wsS l a b) (2 * l * l))), .bool (wlOk l a b)]) ∧ Below w.heap.size w w' := by
  cases h1 : inB l 1 200 <;> cases h2 : inB a 0 l <;> cases h3 : inB b 0 l
  case true.true.true =>
    have hv : wlOk l a b = true := by simp [wlOk, h1, h2, h3]
    have v1 := wsS_bd hv
    have v2 := wlOk_iff.1 hv
    have v3 : 0 ≤ 2 * l ∧ 2 * l ≤ 400 := by omega
    go_enter Try.func18, Try.ntmps18
    go_wp2_with (first | (go_at_call 45; refine (specIn _ _ _ _).mono ?_; rintro e w1 ⟨rfl, rfl⟩) | (go_at_call 46; refine (wiStays_any _ _ _ (by assumption) _).mono ?_; rintro e w1 ⟨rfl, rfl⟩) | (go_at_call 37; refine (meLow_pos (wsS l a b) (2 * l * l) (by omega) (by omega) (by omega) (by omega) _).mono ?_; rintro e w1 ⟨rfl, hb⟩; have hc := (bcell hb).1; have hf := (bcell hb).2; have hz : w.heap.size ≤ w1.heap.size := (by have := hb.size; (try simp at this); omega)) | go_in)
    all_goals try ((go_quiet (fail)); go_wp2_with (first | (go_at_call 45; refine (specIn _ _ _ _).mono ?_; rintro e w1 ⟨rfl, rfl⟩) | (go_at_call 46; refine (wiStays_any _ _ _ (by assumption) _).mono ?_; rintro e w1 ⟨rfl, rfl⟩) | (go_at_call 37; refine (meLow_pos (wsS l a b) (2 * l * l) (by omega) (by omega) (by omega) (by omega) _).mono ?_; rintro e w1 ⟨rfl, hb⟩; have hc := (bcell hb).1; have hf := (bcell hb).2; have hz : w.heap.size ≤ w1.heap.size := (by have := hb.size; (try simp at this); omega)) | go_in))
    all_goals (go_ret3; refine ⟨rII ?_ ?_ ?_, ?_⟩)
    all_goals first | (simp [wlOk, h1, h2, h3, ifI]; done) | (repeat (first | exact Below.refl _ _ | refine Below.drew ?_ | refine below_drewN ?_ _ | refine Below.setCell ?_ (by first | omega | (simp; done) | (simp; omega)) _ | refine Below.alloc ?_ (by first | omega | (simp; done) | (simp; omega)) _ | refine bchain ?_ (by assumption) (by first | omega | (simp; done) | (simp; omega))))
  all_goals
    go_enter Try.func18, Try.ntmps18
    go_wp2_with (first | (go_at_call 45; refine (specIn _ _ _ _).mono ?_; rintro e w1 ⟨rfl, rfl⟩) | go_in)
    all_goals try ((go_quiet (fail)); go_wp2_with (first | (go_at_call 45; refine (specIn _ _ _ _).mono ?_; rintro e w1 ⟨rfl, rfl⟩) | go_in))
    all_goals (go_ret3; refine ⟨rII ?_ ?_ ?_, ?_⟩)
    all_goals first | (simp [wlOk, h1, h2, h3, ifI]; done) | (repeat (first | exact Below.refl _ _ | refine Below.drew ?_ | refine below_drewN ?_ _ | refine Below.setCell ?_ (by first | omega | (simp; done) | (simp; omega)) _ | refine Below.alloc ?_ (by first | omega | (simp; done) | (simp; omega)) _ | refine bchain ?_ (by assumption) (by first | omega | (simp; done) | (simp; omega))))
set_option maxHeartbeats 2000000 in
theorem specEvenChance (l a : Int) (w : World) :
    Calls Try.prog 15 #[.int .i64 l, .int .i64 a] w fun e w' => e = .returned (.tuple #[.int .i64 (ifI (wlOk l a a) (lwN (wsS l a a) (2 * l * l))), .int .i64 (ifI (wlOk l a a) (lwD (wsS l a a) (2 * l * l))), .bool (wlOk l a a)]) ∧ Below w.heap.size w w' := by
  go_enter Try.func15, Try.ntmps15
  go_wp2_with (first | (go_at_call 18; refine (specChanceOfStays _ _ _ _).mono ?_; rintro e w1 ⟨rfl, hb⟩; have hc := (bcell hb).1; have hf := (bcell hb).2; have hz : w.heap.size ≤ w1.heap.size := (by have := hb.size; (try simp at this); omega)) | go_in)
  all_goals try (go_quiet (fail); go_wp2_with fail)
  all_goals (go_ret3; refine ⟨rII ?_ ?_ ?_, ?_⟩)
  all_goals first | rfl | (repeat (first | exact Below.refl _ _ | refine Below.drew ?_ | refine below_drewN ?_ _ | refine Below.setCell ?_ (by first | omega | (simp; done) | (simp; omega)) _ | refine Below.alloc ?_ (by first | omega | (simp; done) | (simp; omega)) _ | refine bchain ?_ (by assumption) (by first | omega | (simp; done) | (simp; omega))))
set_option maxHeartbeats 2000000 in
theorem specLeastStay (l u v : Int) (w : World) :
    Calls Try.prog 21 #[.int .i64 l, .int .i64 u, .int .i64 v] w fun e w' => e = .returned (.tuple #[.int .i64 (ifI (lsOk l u v) (fsV (lsB l u v) (l.toNat + 1))), .bool (lsOk l u v && fsB (lsB l u v) (l.toNat + 1))]) ∧ Below w.heap.size w w' := by
  cases h1 : inB l 1 200 <;> cases h2 : inB u 0 1000 <;> cases h3 : inB v 1 1000
  case true.true.true =>
    have hv : lsOk l u v = true := by simp [lsOk, h1, h2, h3]
    obtain ⟨b1, b2, b3, b4, b5, b6⟩ := lsOk_iff.1 hv
    obtain ⟨L, rfl⟩ : ∃ L : Nat, l = (L : Int) := ⟨l.toNat, by omega⟩
    have hm := mul_bd (L : Int) (L : Int) 200 200 (by omega) (by omega) (by omega) (by omega)
    have e1 : u * 2 * (L : Int) * (L : Int) = u * 2 * ((L : Int) * (L : Int)) := Int.mul_assoc ..
    have m1 := mul_bd (u * 2) ((L : Int) * (L : Int)) 2000 40000 (by omega) (by omega) (by omega) (by omega)
    have m2 := mul_bd (u * 2) (L : Int) 2000 200 (by omega) (by omega) (by omega) (by omega)
    rw [← e1] at m1
    clear e1 hm
    have HV := Lib.hid hv
    clear hv
    go_enter Try.func21, Try.ntmps21
    go_wp2_with (first | (go_at_call 45; refine (specIn _ _ _ _).mono ?_; rintro e w1 ⟨rfl, rfl⟩)| go_in)
    go_loopg [8] (L + 1) (fun k v9 wr => ∃ (j : Nat), v9 = .int .i64 (j : Int) ∧ j + k ≤ L + 1 ∧ L + 1 ≤ j + k ∧ Hid (∀ i, i < j → lsB (L : Int) u v i = false) ∧ w = wr)
    case atStart => exact ⟨0, rfl, by omega, by omega, fun i hi => absurd hi (Nat.not_lt_zero _), rfl⟩
    case round =>
      obtain ⟨j, rfl, q1, q2, hp, rfl⟩ := hrel
      by_cases hj : j ≤ L
      · have hjI : (j : Int) ≤ (L : Int) := by omega
        have hw : wlOk (L : Int) (j : Int) (j : Int) = true := wlOk_iff.2 (by omega)
        have bw := wsS_bd hw
        have bw1 := bw.1
        have bw2 : wsS (L : Int) (j : Int) (j : Int) ≤ 80000 := by omega
        have m3 := mul_bd (wsS (L : Int) (j : Int) (j : Int)) v 80000 1000 (by omega) (by omega) (by omega) (by omega)
        clear bw
        have HW := Lib.hid (fun w => wiStays_any _ _ _ hw w)
        clear hw
        cases hs : lsB (L : Int) u v j
        · have hs2 : ¬ (u * 2 * (L : Int) * (L : Int) ≤ wsS (L : Int) (j : Int) (j : Int) * v) := of_decide_eq_false hs
          have hp2 : Hid (∀ i, i < j + 1 → lsB (L : Int) u v i = false) := fun i hi => by
            by_cases q : i = j
            · subst q; exact hs
            · exact hp.out i (by omega)
          clear hp hs
          generalize wsS (L : Int) (j : Int) (j : Int) = z at *
          go_wp2_with (first | (go_at_call 46; refine (HW.out _).mono ?_; rintro e w1 ⟨rfl, rfl⟩))
          go_roundg (gk - 1)
          case rel => exact ⟨j + 1, by go_num, by omega, by omega, hp2, rfl⟩
          case measure => omega
        · have hs2 : u * 2 * (L : Int) * (L : Int) ≤ wsS (L : Int) (j : Int) (j : Int) * v := of_decide_eq_true hs
          have HY := Lib.hid (fs_yes hs hp.out (n := L + 1) (by omega))
          clear hp hs
          go_wp2_with (first | (go_at_call 46; refine (HW.out _).mono ?_; rintro e w1 ⟨rfl, rfl⟩))
          go_ret2
          refine ⟨rIB ?_ ?_, Below.refl _ _⟩
          · simp [HV.out, ifI, HY.out.2]
          · simp [HV.out, HY.out.1]
      · obtain rfl : j = L + 1 := by omega
        have HN := Lib.hid (fs_no hp.out)
        clear hp
        go_wp2_with fail
        go_ret2
        refine ⟨rIB ?_ ?_, Below.refl _ _⟩
        · simp [HV.out, ifI, HN.out.2]
        · simp [HV.out, HN.out.1]
  all_goals
    go_enter Try.func21, Try.ntmps21
    go_wp2_with (first | (go_at_call 45; refine (specIn _ _ _ _).mono ?_; rintro e w1 ⟨rfl, rfl⟩) | go_in)
    all_goals try ((go_quiet (fail)); go_wp2_with (first | (go_at_call 45; refine (specIn _ _ _ _).mono ?_; rintro e w1 ⟨rfl, rfl⟩) | go_in))
    all_goals (go_ret2; refine ⟨rIB ?_ ?_, ?_⟩)
    all_goals first | (simp [lsOk, h1, h2, h3, ifI]; done) | (repeat (first | exact Below.refl _ _ | refine Below.drew ?_ | refine below_drewN ?_ _ | refine Below.setCell ?_ (by first | omega | (simp; done) | (simp; omega)) _ | refine Below.alloc ?_ (by first | omega | (simp; done) | (simp; omega)) _ | refine bchain ?_ (by assumption) (by first | omega | (simp; done) | (simp; omega))))
set_option maxHeartbeats 2000000 in
theorem wiPower_any (n : Int) (t : Nat) (h1 : 0 ≤ n) (h2 : n ≤ 51) (h3 : t ≤ 6) (w : World) :
    Calls Try.prog 48 #[.int .i64 n, .int .i64 (t : Int)] w fun e w' => e = .returned (.int .i64 (n ^ t)) ∧ w = w' := by
  have HP := Lib.hid (fun k hk => pow_bdM (n := n) (k := k) h1 h2 hk)
  go_enter Try.func48, Try.ntmps48
  go_wp2_with fail
  go_loopg [1, 5] t (fun k v1 v2 wr => ∃ (j : Nat) (o : Int), v1 = .int .i64 (k : Int) ∧ v2 = .int .i64 o ∧ j + k ≤ t ∧ t ≤ j + k ∧ Hid (n ^ j = o) ∧ w = wr)
  case atStart => exact ⟨0, 1, rfl, rfl, by omega, by omega, Lib.hid (Int.pow_zero n), rfl⟩
  case round =>
    obtain ⟨j, o, rfl, rfl, q1, q2, ho, rfl⟩ := hrel
    by_cases hk : 0 < gk
    · obtain ⟨k, rfl⟩ : ∃ k, gk = k + 1 := ⟨gk - 1, by omega⟩
      have HO := Lib.hid (show n ^ (j + 1) = o * n by rw [Int.pow_succ, ho.out])
      have b1 := HP.out (j + 1) (by omega)
      rw [HO.out] at b1
      go_wp2_with fail
      go_roundg k
      case rel => exact ⟨j + 1, o * n, by go_num, by go_num, by omega, by omega, HO.out, rfl⟩
      case measure => omega
    · obtain rfl : gk = 0 := by omega
      obtain rfl : j = t := by omega
      go_wp2_with fail
      go_ret
      refine ⟨rI ?_, rfl⟩
      rw [ho.out]
set_option maxHeartbeats 2000000 in
theorem specCountAllWithin (m p s : Int) (w : World) :
    Calls Try.prog 23 #[.int .i64 m, .int .i64 p, .int .i64 s] w fun e w' => e = .returned (.tuple #[.int .i64 (ifI (cwOk m p s) (cwN m s p.toNat m.toNat)), .bool (cwOk m p s)]) ∧ Below w.heap.size w w' := by
  cases h1 : inB m 1 50 <;> cases h2 : inB p 1 6 <;> cases h3 : inB s 0 50
  case true.true.true =>
    have hv : cwOk m p s = true := by simp [cwOk, h1, h2, h3]
    obtain ⟨b1, b2, b3, b4, b5, b6⟩ := cwOk_iff.1 hv
    obtain ⟨M, rfl⟩ : ∃ M : Nat, m = (M : Int) := ⟨m.toNat, by omega⟩
    obtain ⟨P, rfl⟩ : ∃ P : Nat, p = (P : Int) := ⟨p.toNat, by omega⟩
    have HC := Lib.hid (cwN_bd (m := (M : Int)) (s := s) (p := P) b2 b5 b6 (by omega))
    have HV := Lib.hid hv
    clear hv
    go_enter Try.func23, Try.ntmps23
    go_wp2_with (first | (go_at_call 45; refine (specIn _ _ _ _).mono ?_; rintro e w1 ⟨rfl, rfl⟩)| go_in)
    go_loopg [8, 9] M (fun k v7 v8 wr => ∃ (j : Nat) (t : Int), v7 = .int .i64 t ∧ v8 = .int .i64 (j : Int) ∧ j + k ≤ M ∧ M ≤ j + k ∧ Hid (cwN (M : Int) s P j = t) ∧ w = wr)
    case atStart => exact ⟨0, 0, rfl, rfl, by omega, by omega, rfl, rfl⟩
    case round =>
      obtain ⟨j, t, rfl, rfl, q1, q2, ht, rfl⟩ := hrel
      have bt := HC.out j (by omega)
      rw [ht.out] at bt
      have btL : -879814390050 ≤ t ∧ t ≤ 879814390050 := by omega
      clear bt
      by_cases hj : j < M
      · have hjI : (j : Int) < (M : Int) := by omega
        have HT := Lib.hid (show cwN (M : Int) s P (j + 1) = t + ((wide (M : Int) s j + 1) ^ P - wide (M : Int) s j ^ P) by rw [← ht.out]; rfl)
        have w1 : 0 ≤ wide (M : Int) s j ∧ wide (M : Int) s j ≤ 50 := by unfold wide low; split <;> omega
        have HWI := Lib.hid (show low s ((M : Int) - 1 - (j : Int)) = wide (M : Int) s j from rfl)
        have p1 := pow_bdM (n := wide (M : Int) s j + 1) (k := P) (by omega) (by omega) (by omega)
        have p2 := pow_bdM (n := wide (M : Int) s j) (k := P) (by omega) (by omega) (by omega)
        clear ht
        generalize wide (M : Int) s j = d at *
        have HLE := Lib.hid (fun w => HWI.out ▸ least_any s ((M : Int) - 1 - (j : Int)) w)
        go_wp2_with (first | (go_at_call 43; refine (HLE.out _).mono ?_; rintro e w1 ⟨rfl, rfl⟩) | (go_at_call 48; refine (wiPower_any _ P (by omega) (by omega) (by omega) _).mono ?_; rintro e w1 ⟨rfl, rfl⟩))
        all_goals try (go_quiet ((go_at_call 48; refine (wiPower_any _ P (by omega) (by omega) (by omega) _).mono ?_; rintro e w1 ⟨rfl, rfl⟩)); go_wp2_with fail)
        go_roundg (gk - 1)
        case rel => exact ⟨j + 1, _, by go_num, by go_num, by omega, by omega, HT.out, rfl⟩
        case measure => omega
      · obtain rfl : j = M := by omega
        go_wp2_with fail
        go_ret2
        refine ⟨rIB ?_ ?_, Below.refl _ _⟩
        · simp [HV.out, ifI]; exact ht.out.symm
        · simp [HV.out]
  all_goals
    go_enter Try.func23, Try.ntmps23
    go_wp2_with (first | (go_at_call 45; refine (specIn _ _ _ _).mono ?_; rintro e w1 ⟨rfl, rfl⟩) | go_in)
    all_goals try ((go_quiet (fail)); go_wp2_with (first | (go_at_call 45; refine (specIn _ _ _ _).mono ?_; rintro e w1 ⟨rfl, rfl⟩) | go_in))
    all_goals (go_ret2; refine ⟨rIB ?_ ?_, ?_⟩)
    all_goals first | (simp [cwOk, h1, h2, h3, ifI]; done) | (repeat (first | exact Below.refl _ _ | refine Below.drew ?_ | refine below_drewN ?_ _ | refine Below.setCell ?_ (by first | omega | (simp; done) | (simp; omega)) _ | refine Below.alloc ?_ (by first | omega | (simp; done) | (simp; omega)) _ | refine bchain ?_ (by assumption) (by first | omega | (simp; done) | (simp; omega))))
set_option maxHeartbeats 2000000 in
theorem specMeanApart (m : Int) (w : World) :
    Calls Try.prog 26 #[.int .i64 m] w fun e w' => e = .returned (.tuple #[.int .i64 (ifI (inB m 1 200) (lwN (m * m - 1) (3 * m))), .int .i64 (ifI (inB m 1 200) (lwD (m * m - 1) (3 * m))), .bool (inB m 1 200)]) ∧ Below w.heap.size w w' := by
  cases hv : inB m 1 200
  case false =>
    go_enter Try.func26, Try.ntmps26
    go_wp2_with (first | (go_at_call 45; refine (specIn _ _ _ _).mono ?_; rintro e w1 ⟨rfl, rfl⟩) | go_in)
    all_goals (go_ret3; refine ⟨rII ?_ ?_ ?_, ?_⟩)
    all_goals first | (simp [hv, ifI]; done) | (repeat (first | exact Below.refl _ _ | refine Below.drew ?_ | refine below_drewN ?_ _ | refine Below.setCell ?_ (by first | omega | (simp; done) | (simp; omega)) _ | refine Below.alloc ?_ (by first | omega | (simp; done) | (simp; omega)) _ | refine bchain ?_ (by assumption) (by first | omega | (simp; done) | (simp; omega))))
  case true =>
    have b1 := (inB_iff.1 hv).1
    have b2 := (inB_iff.1 hv).2
    have b3 := mul_bd m m 200 200 (by omega) (by omega) (by omega) (by omega)
    have b4 : 1 * 1 ≤ m * m := Int.mul_le_mul b1 b1 (by omega) (by omega)
    go_enter Try.func26, Try.ntmps26
    go_wp2_with (first | (go_at_call 45; refine (specIn _ _ _ _).mono ?_; rintro e w1 ⟨rfl, rfl⟩) | (go_at_call 37; refine (meLow_pos (m * m - 1) (3 * m) (by omega) (by omega) (by omega) (by omega) _).mono ?_; rintro e w1 ⟨rfl, hb⟩; have hc := (bcell hb).1; have hf := (bcell hb).2; have hz : w.heap.size ≤ w1.heap.size := (by have := hb.size; (try simp at this); omega)) | go_in)
    all_goals try ((go_quiet (fail)); go_wp2_with (first | (go_at_call 45; refine (specIn _ _ _ _).mono ?_; rintro e w1 ⟨rfl, rfl⟩) | (go_at_call 37; refine (meLow_pos (m * m - 1) (3 * m) (by omega) (by omega) (by omega) (by omega) _).mono ?_; rintro e w1 ⟨rfl, hb⟩; have hc := (bcell hb).1; have hf := (bcell hb).2; have hz : w.heap.size ≤ w1.heap.size := (by have := hb.size; (try simp at this); omega)) | go_in))
    all_goals (go_ret3; refine ⟨rII ?_ ?_ ?_, ?_⟩)
    all_goals first | (simp [hv, ifI]; done) | (repeat (first | exact Below.refl _ _ | refine Below.drew ?_ | refine below_drewN ?_ _ | refine Below.setCell ?_ (by first | omega | (simp; done) | (simp; omega)) _ | refine Below.alloc ?_ (by first | omega | (simp; done) | (simp; omega)) _ | refine bchain ?_ (by assumption) (by first | omega | (simp; done) | (simp; omega))))
set_option maxHeartbeats 2000000 in
theorem specCountApart (m a : Int) (w : World) :
    Calls Try.prog 28 #[.int .i64 m, .int .i64 a] w fun e w' => e = .returned (.tuple #[.int .i64 (ifI (inB m 1 200 && inB a 0 200) (caN m a)), .bool (inB m 1 200 && inB a 0 200)]) ∧ Below w.heap.size w w' := by
  cases h1 : inB m 1 200 <;> cases h2 : inB a 0 200
  case true.true =>
    have b1 := inB_iff.1 h1
    have b2 := inB_iff.1 h2
    by_cases hz : a = 0
    · subst hz
      go_enter Try.func28, Try.ntmps28
      go_wp2_with (first | (go_at_call 45; refine (specIn _ _ _ _).mono ?_; rintro e w1 ⟨rfl, rfl⟩) | go_in)
      all_goals try ((go_quiet (fail)); go_wp2_with (first | (go_at_call 45; refine (specIn _ _ _ _).mono ?_; rintro e w1 ⟨rfl, rfl⟩) | go_in))
      all_goals (go_ret2; refine ⟨rIB ?_ ?_, ?_⟩)
      all_goals first | (simp [h1, h2, ifI, caN]; done) | (repeat (first | exact Below.refl _ _ | refine Below.drew ?_ | refine below_drewN ?_ _ | refine Below.setCell ?_ (by first | omega | (simp; done) | (simp; omega)) _ | refine Below.alloc ?_ (by first | omega | (simp; done) | (simp; omega)) _ | refine bchain ?_ (by assumption) (by first | omega | (simp; done) | (simp; omega))))
    · have HM := Lib.hid (show hig 0 (m - a) = wps (m - a) by unfold hig wps; (repeat' split) <;> omega)
      have HA := Lib.hid (show caN m a = 2 * wps (m - a) by unfold caN; rw [if_neg hz])
      have b3 : 0 ≤ wps (m - a) ∧ wps (m - a) ≤ 200 := by unfold wps; split <;> omega
      have HMO := Lib.hid (fun w => HM.out ▸ most_hig 0 (m - a) w)
      go_enter Try.func28, Try.ntmps28
      go_wp2_with (first | (go_at_call 45; refine (specIn _ _ _ _).mono ?_; rintro e w1 ⟨rfl, rfl⟩) | (go_at_call 42; refine (HMO.out _).mono ?_; rintro e w1 ⟨rfl, rfl⟩) | go_in)
      all_goals try ((go_quiet (fail)); go_wp2_with (first | (go_at_call 45; refine (specIn _ _ _ _).mono ?_; rintro e w1 ⟨rfl, rfl⟩) | (go_at_call 42; refine (HMO.out _).mono ?_; rintro e w1 ⟨rfl, rfl⟩) | go_in))
      all_goals (go_ret2; refine ⟨rIB ?_ ?_, ?_⟩)
      all_goals first | (simp [h1, h2, ifI, HA.out]; done) | (repeat (first | exact Below.refl _ _ | refine Below.drew ?_ | refine below_drewN ?_ _ | refine Below.setCell ?_ (by first | omega | (simp; done) | (simp; omega)) _ | refine Below.alloc ?_ (by first | omega | (simp; done) | (simp; omega)) _ | refine bchain ?_ (by assumption) (by first | omega | (simp; done) | (simp; omega))))
  all_goals
    go_enter Try.func28, Try.ntmps28
    go_wp2_with (first | (go_at_call 45; refine (specIn _ _ _ _).mono ?_; rintro e w1 ⟨rfl, rfl⟩) | go_in)
    all_goals try ((go_quiet (fail)); go_wp2_with (first | (go_at_call 45; refine (specIn _ _ _ _).mono ?_; rintro e w1 ⟨rfl, rfl⟩) | go_in))
    all_goals (go_ret2; refine ⟨rIB ?_ ?_, ?_⟩)
    all_goals first | (simp [h1, h2, ifI]; done) | (repeat (first | exact Below.refl _ _ | refine Below.drew ?_ | refine below_drewN ?_ _ | refine Below.setCell ?_ (by first | omega | (simp; done) | (simp; omega)) _ | refine Below.alloc ?_ (by first | omega | (simp; done) | (simp; omega)) _ | refine bchain ?_ (by assumption) (by first | omega | (simp; done) | (simp; omega))))
end Go.Proofs.Ytlmbcbopahpagaa
