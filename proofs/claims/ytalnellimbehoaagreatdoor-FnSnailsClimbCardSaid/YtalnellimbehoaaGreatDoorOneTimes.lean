/- Contracts of chapter 1's functions, the program's and the model's, over one translation. -/
import Derived.Test.YtalnellimbehoaaGreatDoorProg
import Derived.Test.YtalnellimbehoaaGreatDoorOneWalks
import Derived.Test.YtalnellimbehoaaGreatDoorMathC
import Derived.Deep.LoopGhost
import Derived.WalkKit
import Derived.WalkSpells
import Derived.WalkLawsBesides
import Derived.Lib.Hide
import Derived.Deep.RegionWith
namespace Go.Proofs.YtalnellimbehoaaGreatDoor
open Go.RowKit
set_option linter.unusedVariables false
set_option linter.unusedSimpArgs false
set_option maxHeartbeats 2000000 in
theorem snMorning2_any (u d n y : Int) (hs : snOk u d = true) (hn : inB n 1 1000000 = true) (y1 : 1 ≤ y) (y2 : y ≤ 1000001) (w : World) :
    Calls Tryz.prog 41 #[.agg #[.int .i64 u, .int .i64 d], .int .i64 n, .int .i64 y] w fun e w' => e = .returned (.int .i64 (mor u d n y)) ∧ Below w.heap.size w w' := by
  have sl := snOk_iff.1 hs
  have sl1 := sl.1
  have sl2 := sl.2.1
  have sl3 := sl.2.2.1
  have sl4 := sl.2.2.2
  clear sl
  have nl := inB_iff.1 hn
  have nl1 := nl.1
  have nl2 := nl.2
  clear nl
  rcases Decidable.em (y = 1) with rfl | hd
  · go_enter Tryz.func41, Tryz.ntmps41
    go_wp2
    all_goals (go_ret; refine ⟨rI ?_, ?_⟩)
    all_goals first | rfl | (repeat (first | exact Below.refl _ _ | refine Below.drew ?_ | refine Below.alloc ?_ (by first | omega | (simp; done) | (simp; omega)) _ | refine bchain ?_ (by assumption) (by first | omega | (simp; done) | (simp; omega))))
  · have fb := far_bd u d (y - 1) hs (inB_true (by omega))
    have lb := low_bd n (far u d (y - 1))
    by_cases he : low n (far u d (y - 1)) = n
    · have hE := Lib.hid he; have he2 : (low n (far u d (y - 1)) == n) = true := by rw [beq_iff_eq]; exact he
      clear he
      go_enter Tryz.func41, Tryz.ntmps41
      go_wp2_with (first | (go_at_call 43; refine (snEvening_any u d (y - 1) hs (inB_true (by omega)) _).mono ?_; rintro e w1 ⟨rfl, hb⟩; have hc := (bcell hb).1; have hf := (bcell hb).2; have hz : w.heap.size < w1.heap.size := (by have := hb.size; (try simp at this); omega); have hcA := fun o => (bcell hb).1 w.heap.size o (by first | omega | (simp; omega) | (simp; done))) | (go_at_call 42; refine (least_any _ _ _).mono ?_; rintro e w1 ⟨rfl, rfl⟩) | (go_at_call 57; refine (most_hig _ _ _).mono ?_; rintro e w1 ⟨rfl, rfl⟩) | go_in)
      all_goals (go_ret; refine ⟨rI ?_, ?_⟩)
      all_goals first | (unfold mor mA; rw [if_neg hd, if_pos hE.out]) | (repeat (first | exact Below.refl _ _ | refine Below.drew ?_ | refine Below.alloc ?_ (by first | omega | (simp; done) | (simp; omega)) _ | refine bchain ?_ (by assumption) (by first | omega | (simp; done) | (simp; omega))))
    · go_enter Tryz.func41, Tryz.ntmps41
      go_wp2_with (first | (go_at_call 43; refine (snEvening_any u d (y - 1) hs (inB_true (by omega)) _).mono ?_; rintro e w1 ⟨rfl, hb⟩; have hc := (bcell hb).1; have hf := (bcell hb).2; have hz : w.heap.size < w1.heap.size := (by have := hb.size; (try simp at this); omega); have hcA := fun o => (bcell hb).1 w.heap.size o (by first | omega | (simp; omega) | (simp; done))) | (go_at_call 42; refine (least_any _ _ _).mono ?_; rintro e w1 ⟨rfl, rfl⟩) | (go_at_call 57; refine (most_hig _ _ _).mono ?_; rintro e w1 ⟨rfl, rfl⟩) | go_in)
      all_goals (go_ret; refine ⟨rI ?_, ?_⟩)
      all_goals first | (unfold mor mA hig; rw [if_neg hd, if_neg he]; (repeat' split) <;> omega) | (repeat (first | exact Below.refl _ _ | refine Below.drew ?_ | refine Below.alloc ?_ (by first | omega | (simp; done) | (simp; omega)) _ | refine bchain ?_ (by assumption) (by first | omega | (simp; done) | (simp; omega))))
set_option maxHeartbeats 2000000 in
theorem implTimesPassed (u d n h : Int) (w : World) :
    Calls Tryz.prog 24 #[.agg #[.int .i64 u, .int .i64 d], .int .i64 n, .int .i64 h] w fun e w' => e = .returned (.tuple #[.int .i64 (if (snOk u d && inB n 1 1000000 && inB h 1 n) && fd1 u d h && fd1 u d n then lastLow u d n h - fd0 u d h + 1 else 0), .bool ((snOk u d && inB n 1 1000000 && inB h 1 n) && (!fd1 u d h || fd1 u d n))]) ∧ Below w.heap.size w w' := by
  cases hs : snOk u d <;> cases hn : inB n 1 1000000 <;> cases hh : inB h 1 n <;> cases fh : fd1 u d h <;> cases fn : fd1 u d n
  case true.true.true.true.true =>
    have nl := inB_iff.1 hn
    have nl1 := nl.1
    have nl2 := nl.2
    have kl := inB_iff.1 hh
    have kl1 := kl.1
    have kl2 := kl.2
    have sl := snOk_iff.1 hs
    have sl1 := sl.1
    have sl2 := sl.2.1
    have sl3 := sl.2.2.1
    have sl4 := sl.2.2.2
    clear nl kl sl
    have fq := fd1_iff.1 fn
    have b1 := fd0_pos hs fh
    have b2 := fd0_pos hs fn
    have b3 := fd0_le (h := h) hs (by omega)
    have b4 := fd0_le (h := n) hs (by omega)
    have b5 := first_le hs hn hh fn
    have b6 := lastLow_le (h := h) hs nl2
    have a1 : (h - 1) / (u - d) ≤ h - 1 ∨ u ≤ d := by
      by_cases q : d < u
      · exact .inl (Int.ediv_le_self _ (by omega))
      · exact .inr (by omega)
    have a2 : 0 ≤ (h - 1) / (u - d) ∨ u ≤ d := by
      by_cases q : d < u
      · exact .inl (Int.ediv_nonneg (by omega) (by omega))
      · exact .inr (by omega)
    by_cases hg : d < u
    · have eG := Lib.hid (gain_pos hg)
      have a3 : (h - 1) / (u - d) ≤ h - 1 := by omega
      have a4 : 0 ≤ (h - 1) / (u - d) := by omega
      clear a1 a2
      have hL := Lib.hid (show lastLow u d n h = low (fd0 u d n) ((h - 1) / (u - d) + 1) from by unfold lastLow; rw [if_pos hg])
      go_enter Tryz.func24, Tryz.ntmps24
      go_wp2_with (first | (go_at_call 51; refine (implIn _ _ _ _).mono ?_; rintro e w1 ⟨rfl, rfl⟩) | (go_at_call 18; refine (implIsSnail _ _ _).mono ?_; rintro e w1 ⟨rfl, hb⟩; have hc := (bcell hb).1; have hf := (bcell hb).2; have hz : w.heap.size < w1.heap.size := (by have := hb.size; (try simp at this); omega); have hcA := fun o => (bcell hb).1 w.heap.size o (by first | omega | (simp; omega) | (simp; done))) | (go_at_call_of 44 (Value.int .i64 h); refine (firstDayAt_any u d h hs (by have := inB_iff.1 hh; omega) (by have := inB_iff.1 hh; have := inB_iff.1 hn; omega) _).mono ?_; rintro e w1 ⟨rfl, hb⟩; have hc := (bcell hb).1; have hf := (bcell hb).2; have hz : w.heap.size < w1.heap.size := (by have := hb.size; (try simp at this); omega); have hcA := fun o => (bcell hb).1 w.heap.size o (by first | omega | (simp; omega) | (simp; done))) | (go_at_call_of 44 (Value.int .i64 n); refine (firstDayAt_any u d n hs (by have := inB_iff.1 hn; omega) (by have := inB_iff.1 hn; omega) _).mono ?_; rintro e w1 ⟨rfl, hb⟩; have hc := (bcell hb).1; have hf := (bcell hb).2; have hz : w.heap.size < w1.heap.size := (by have := hb.size; (try simp at this); omega); have hcA := fun o => (bcell hb).1 w.heap.size o (by first | omega | (simp; omega) | (simp; done))) | (go_at_call 59; refine (dailyGain_any _ _ hs _).mono ?_; rintro e w1 ⟨rfl, hb⟩; rw [eG.out]; have hc := (bcell hb).1; have hf := (bcell hb).2; have hz : w.heap.size < w1.heap.size := (by have := hb.size; (try simp at this); omega)) | go_in)
      all_goals (go_ret2; refine ⟨rIB ?_ ?_, ?_⟩)
      all_goals first | (simp only [hL.out, low, Bool.and_self, if_true]; (repeat' split) <;> omega) | (simp [hL.out, low]; (repeat' split) <;> omega) | (simp; done) | (repeat (first | exact Below.refl _ _ | refine Below.drew ?_ | refine Below.alloc ?_ (by first | omega | (simp; done) | (simp; omega)) _ | refine bchain ?_ (by assumption) (by first | omega | (simp; done) | (simp; omega))))
    · have eG := Lib.hid (gain_zero (show u ≤ d by omega))
      clear a1 a2
      have hL := Lib.hid (show lastLow u d n h = fd0 u d n from by unfold lastLow; rw [if_neg hg])
      go_enter Tryz.func24, Tryz.ntmps24
      go_wp2_with (first | (go_at_call 51; refine (implIn _ _ _ _).mono ?_; rintro e w1 ⟨rfl, rfl⟩) | (go_at_call 18; refine (implIsSnail _ _ _).mono ?_; rintro e w1 ⟨rfl, hb⟩; have hc := (bcell hb).1; have hf := (bcell hb).2; have hz : w.heap.size < w1.heap.size := (by have := hb.size; (try simp at this); omega); have hcA := fun o => (bcell hb).1 w.heap.size o (by first | omega | (simp; omega) | (simp; done))) | (go_at_call_of 44 (Value.int .i64 h); refine (firstDayAt_any u d h hs (by have := inB_iff.1 hh; omega) (by have := inB_iff.1 hh; have := inB_iff.1 hn; omega) _).mono ?_; rintro e w1 ⟨rfl, hb⟩; have hc := (bcell hb).1; have hf := (bcell hb).2; have hz : w.heap.size < w1.heap.size := (by have := hb.size; (try simp at this); omega); have hcA := fun o => (bcell hb).1 w.heap.size o (by first | omega | (simp; omega) | (simp; done))) | (go_at_call_of 44 (Value.int .i64 n); refine (firstDayAt_any u d n hs (by have := inB_iff.1 hn; omega) (by have := inB_iff.1 hn; omega) _).mono ?_; rintro e w1 ⟨rfl, hb⟩; have hc := (bcell hb).1; have hf := (bcell hb).2; have hz : w.heap.size < w1.heap.size := (by have := hb.size; (try simp at this); omega); have hcA := fun o => (bcell hb).1 w.heap.size o (by first | omega | (simp; omega) | (simp; done))) | (go_at_call 59; refine (dailyGain_any _ _ hs _).mono ?_; rintro e w1 ⟨rfl, hb⟩; rw [eG.out]; have hc := (bcell hb).1; have hf := (bcell hb).2; have hz : w.heap.size < w1.heap.size := (by have := hb.size; (try simp at this); omega)) | go_in)
      all_goals (go_ret2; refine ⟨rIB ?_ ?_, ?_⟩)
      all_goals first | (rw [hL.out]; done) | (simp only [hL.out, Bool.and_self, if_true]; omega) | (simp [hL.out]; omega) | (simp; done) | (repeat (first | exact Below.refl _ _ | refine Below.drew ?_ | refine Below.alloc ?_ (by first | omega | (simp; done) | (simp; omega)) _ | refine bchain ?_ (by assumption) (by first | omega | (simp; done) | (simp; omega))))
  all_goals
    go_enter Tryz.func24, Tryz.ntmps24
    go_wp2_with (first | (go_at_call 51; refine (implIn _ _ _ _).mono ?_; rintro e w1 ⟨rfl, rfl⟩) | (go_at_call 18; refine (implIsSnail _ _ _).mono ?_; rintro e w1 ⟨rfl, hb⟩; have hc := (bcell hb).1; have hf := (bcell hb).2; have hz : w.heap.size < w1.heap.size := (by have := hb.size; (try simp at this); omega); have hcA := fun o => (bcell hb).1 w.heap.size o (by first | omega | (simp; omega) | (simp; done))) | (go_at_call_of 44 (Value.int .i64 h); refine (firstDayAt_any u d h hs (by have := inB_iff.1 hh; omega) (by have := inB_iff.1 hh; have := inB_iff.1 hn; omega) _).mono ?_; rintro e w1 ⟨rfl, hb⟩; have hc := (bcell hb).1; have hf := (bcell hb).2; have hz : w.heap.size < w1.heap.size := (by have := hb.size; (try simp at this); omega); have hcA := fun o => (bcell hb).1 w.heap.size o (by first | omega | (simp; omega) | (simp; done))) | (go_at_call_of 44 (Value.int .i64 n); refine (firstDayAt_any u d n hs (by have := inB_iff.1 hn; omega) (by have := inB_iff.1 hn; omega) _).mono ?_; rintro e w1 ⟨rfl, hb⟩; have hc := (bcell hb).1; have hf := (bcell hb).2; have hz : w.heap.size < w1.heap.size := (by have := hb.size; (try simp at this); omega); have hcA := fun o => (bcell hb).1 w.heap.size o (by first | omega | (simp; omega) | (simp; done))) | go_in)
    all_goals (go_ret2; refine ⟨rIB ?_ ?_, ?_⟩)
    all_goals first | (simp [hs, hn, hh, fh, fn]; done) | (repeat (first | exact Below.refl _ _ | refine Below.drew ?_ | refine Below.alloc ?_ (by first | omega | (simp; done) | (simp; omega)) _ | refine bchain ?_ (by assumption) (by first | omega | (simp; done) | (simp; omega))))
set_option maxHeartbeats 2000000 in
theorem specTimesPassed (u d n h : Int) (w : World) :
    Calls Tryz.prog 25 #[.agg #[.int .i64 u, .int .i64 d], .int .i64 n, .int .i64 h] w fun e w' => e = .returned (.tuple #[.int .i64 (if (snOk u d && inB n 1 1000000 && inB h 1 n) && fd1 u d h && fd1 u d n then lastLow u d n h - fd0 u d h + 1 else 0), .bool ((snOk u d && inB n 1 1000000 && inB h 1 n) && (!fd1 u d h || fd1 u d n))]) ∧ Below w.heap.size w w' := by
  cases hs : snOk u d <;> cases hn : inB n 1 1000000 <;> cases hh : inB h 1 n <;> cases fh : fd1 u d h <;> cases fn : fd1 u d n
  case true.true.true.true.true =>
    have nl := inB_iff.1 hn
    have nl1 := nl.1
    have nl2 := nl.2
    have kl := inB_iff.1 hh
    have kl1 := kl.1
    have kl2 := kl.2
    have sl := snOk_iff.1 hs
    have sl1 := sl.1
    have sl2 := sl.2.1
    have sl3 := sl.2.2.1
    have sl4 := sl.2.2.2
    clear nl kl sl
    have fq := fd1_iff.1 fn
    have b1 := fd0_pos hs fh
    have b2 := fd0_pos hs fn
    have b3 := fd0_le (h := h) hs (by omega)
    have b4 := fd0_le (h := n) hs (by omega)
    have b5 := first_le hs hn hh fn
    have b6 := lastLow_le (h := h) hs nl2
    have a1 : (h - 1) / (u - d) ≤ h - 1 ∨ u ≤ d := by
      by_cases q : d < u
      · exact .inl (Int.ediv_le_self _ (by omega))
      · exact .inr (by omega)
    have a2 : 0 ≤ (h - 1) / (u - d) ∨ u ≤ d := by
      by_cases q : d < u
      · exact .inl (Int.ediv_nonneg (by omega) (by omega))
      · exact .inr (by omega)
    clear a1 a2
    by_cases hg : d < u
    · clear fq
      go_enter Tryz.func25, Tryz.ntmps25
      go_wp2_with (first | (go_at_call 58; refine (specIn _ _ _ _).mono ?_; rintro e w1 ⟨rfl, rfl⟩) | (go_at_call 48; refine (snGood_any _ _ _).mono ?_; rintro e w1 ⟨rfl, hb⟩; have hc := (bcell hb).1; have hf := (bcell hb).2; have hz : w.heap.size < w1.heap.size := (by have := hb.size; (try simp at this); omega); have hcA := fun o => (bcell hb).1 w.heap.size o (by first | omega | (simp; omega) | (simp; done))) | (go_at_call 45; refine (snCan_any u d h _).mono ?_; rintro e w1 ⟨rfl, hb⟩; have hc := (bcell hb).1; have hf := (bcell hb).2; have hz : w.heap.size < w1.heap.size := (by have := hb.size; (try simp at this); omega); have hcA := fun o => (bcell hb).1 w.heap.size o (by first | omega | (simp; omega) | (simp; done))) | (go_at_call 46; refine (snDays_any u d h hs (by omega) (by omega) fh _).mono ?_; rintro e w1 ⟨rfl, hb⟩; have hc := (bcell hb).1; have hf := (bcell hb).2; have hz : w.heap.size < w1.heap.size := (by have := hb.size; (try simp at this); omega); have hcA := fun o => (bcell hb).1 w.heap.size o (by first | omega | (simp; omega) | (simp; done))) | go_in)
      go_loopg [8, 9] (lastLow u d n h + 1 - fd0 u d h).toNat (fun k v8 v9 wr => ∃ c : Int, v8 = .int .i64 c ∧ v9 = .int .i64 (fd0 u d h + c) ∧ 0 ≤ c ∧ fd0 u d h + c + (k : Int) ≤ lastLow u d n h + 1 ∧ lastLow u d n h + 1 ≤ fd0 u d h + c + (k : Int) ∧ Below w.heap.size w wr ∧ w.heap.size < wr.heap.size ∧ wr.cell? ⟨w.heap.size, 0, none⟩ = some (.int .i64 u) ∧ wr.cell? ⟨w.heap.size, 1, none⟩ = some (.int .i64 d))
      case atStart => exact ⟨0, rfl, by simp, by omega, by omega, by omega, by (repeat (first | exact Below.refl _ _ | refine Below.drew ?_ | refine Below.alloc ?_ (by first | omega | (simp; done) | (simp; omega)) _ | refine bchain ?_ (by assumption) (by first | omega | (simp; done) | (simp; omega)))), by omega, by go_simp, by go_simp⟩
      case round =>
        obtain ⟨c, rfl, rfl, c1, c2, c3, hbel, hsz, hx0, hx1⟩ := hrel
        by_cases hm : fd0 u d h + c ≤ lastLow u d n h
        · have hq := (mor_lt hs hn hh fn (y := fd0 u d h + c) (by omega)).2 hm
          go_wp2_with (first | (go_at_call 41; refine (snMorning2_any u d n (fd0 u d h + c) hs hn (by omega) (by omega) _).mono ?_; rintro e w1 ⟨rfl, hb⟩; have hc := (bcell hb).1; have hf := (bcell hb).2; have hz : w.heap.size < w1.heap.size := (by have := hb.size; (try simp at this); omega); have hcA := fun o => (bcell hb).1 w.heap.size o (by first | omega | (simp; omega) | (simp; done))) | go_in)
          go_roundg (gk - 1)
          case rel => exact ⟨c + 1, rfl, by rw [Int.add_assoc], by omega, by omega, by omega, by first | exact hbel | exact hbel.trans (hb.mono (by omega)), by omega, by go_simp, by go_simp⟩
          case measure => omega
        · have hq : ¬ mor u d n (fd0 u d h + c) < h := fun q => hm ((mor_lt hs hn hh fn (y := fd0 u d h + c) (by omega)).1 q)
          go_wp2_with (first | (go_at_call 41; refine (snMorning2_any u d n (fd0 u d h + c) hs hn (by omega) (by omega) _).mono ?_; rintro e w1 ⟨rfl, hb⟩; have hc := (bcell hb).1; have hf := (bcell hb).2; have hz : w.heap.size < w1.heap.size := (by have := hb.size; (try simp at this); omega); have hcA := fun o => (bcell hb).1 w.heap.size o (by first | omega | (simp; omega) | (simp; done))) | go_in)
          all_goals (go_ret2; refine ⟨rIB ?_ ?_, ?_⟩)
          all_goals first | omega | (simp only [Bool.and_self, if_true]; omega) | (simp; omega) | (simp; done) | exact hbel.trans (hb.mono (by omega))
    · have fq1 : n ≤ u := by omega
      have fq2 : u ≤ d := by omega
      clear fq
      go_enter Tryz.func25, Tryz.ntmps25
      go_wp2_with (first | (go_at_call 58; refine (specIn _ _ _ _).mono ?_; rintro e w1 ⟨rfl, rfl⟩) | (go_at_call 48; refine (snGood_any _ _ _).mono ?_; rintro e w1 ⟨rfl, hb⟩; have hc := (bcell hb).1; have hf := (bcell hb).2; have hz : w.heap.size < w1.heap.size := (by have := hb.size; (try simp at this); omega); have hcA := fun o => (bcell hb).1 w.heap.size o (by first | omega | (simp; omega) | (simp; done))) | (go_at_call 45; refine (snCan_any u d h _).mono ?_; rintro e w1 ⟨rfl, hb⟩; have hc := (bcell hb).1; have hf := (bcell hb).2; have hz : w.heap.size < w1.heap.size := (by have := hb.size; (try simp at this); omega); have hcA := fun o => (bcell hb).1 w.heap.size o (by first | omega | (simp; omega) | (simp; done))) | (go_at_call 46; refine (snDays_any u d h hs (by omega) (by omega) fh _).mono ?_; rintro e w1 ⟨rfl, hb⟩; have hc := (bcell hb).1; have hf := (bcell hb).2; have hz : w.heap.size < w1.heap.size := (by have := hb.size; (try simp at this); omega); have hcA := fun o => (bcell hb).1 w.heap.size o (by first | omega | (simp; omega) | (simp; done))) | go_in)
      go_loopg [8, 9] (lastLow u d n h + 1 - fd0 u d h).toNat (fun k v8 v9 wr => ∃ c : Int, v8 = .int .i64 c ∧ v9 = .int .i64 (fd0 u d h + c) ∧ 0 ≤ c ∧ fd0 u d h + c + (k : Int) ≤ lastLow u d n h + 1 ∧ lastLow u d n h + 1 ≤ fd0 u d h + c + (k : Int) ∧ Below w.heap.size w wr ∧ w.heap.size < wr.heap.size ∧ wr.cell? ⟨w.heap.size, 0, none⟩ = some (.int .i64 u) ∧ wr.cell? ⟨w.heap.size, 1, none⟩ = some (.int .i64 d))
      case atStart => exact ⟨0, rfl, by simp, by omega, by omega, by omega, by (repeat (first | exact Below.refl _ _ | refine Below.drew ?_ | refine Below.alloc ?_ (by first | omega | (simp; done) | (simp; omega)) _ | refine bchain ?_ (by assumption) (by first | omega | (simp; done) | (simp; omega)))), by omega, by go_simp, by go_simp⟩
      case round =>
        obtain ⟨c, rfl, rfl, c1, c2, c3, hbel, hsz, hx0, hx1⟩ := hrel
        by_cases hm : fd0 u d h + c ≤ lastLow u d n h
        · have hq := (mor_lt hs hn hh fn (y := fd0 u d h + c) (by omega)).2 hm
          go_wp2_with (first | (go_at_call 41; refine (snMorning2_any u d n (fd0 u d h + c) hs hn (by omega) (by omega) _).mono ?_; rintro e w1 ⟨rfl, hb⟩; have hc := (bcell hb).1; have hf := (bcell hb).2; have hz : w.heap.size < w1.heap.size := (by have := hb.size; (try simp at this); omega); have hcA := fun o => (bcell hb).1 w.heap.size o (by first | omega | (simp; omega) | (simp; done))) | go_in)
          go_roundg (gk - 1)
          case rel => exact ⟨c + 1, rfl, by rw [Int.add_assoc], by omega, by omega, by omega, by first | exact hbel | exact hbel.trans (hb.mono (by omega)), by omega, by go_simp, by go_simp⟩
          case measure => omega
        · have hq : ¬ mor u d n (fd0 u d h + c) < h := fun q => hm ((mor_lt hs hn hh fn (y := fd0 u d h + c) (by omega)).1 q)
          go_wp2_with (first | (go_at_call 41; refine (snMorning2_any u d n (fd0 u d h + c) hs hn (by omega) (by omega) _).mono ?_; rintro e w1 ⟨rfl, hb⟩; have hc := (bcell hb).1; have hf := (bcell hb).2; have hz : w.heap.size < w1.heap.size := (by have := hb.size; (try simp at this); omega); have hcA := fun o => (bcell hb).1 w.heap.size o (by first | omega | (simp; omega) | (simp; done))) | go_in)
          all_goals (go_ret2; refine ⟨rIB ?_ ?_, ?_⟩)
          all_goals first | omega | (simp only [Bool.and_self, if_true]; omega) | (simp; omega) | (simp; done) | exact hbel.trans (hb.mono (by omega))
  all_goals
    first | (have fq := fd1_not.1 fn; have fq1 := fq.1; have fq2 := fq.2; clear fq) | skip
    go_enter Tryz.func25, Tryz.ntmps25
    go_wp2_with (first | (go_at_call 58; refine (specIn _ _ _ _).mono ?_; rintro e w1 ⟨rfl, rfl⟩) | (go_at_call 48; refine (snGood_any _ _ _).mono ?_; rintro e w1 ⟨rfl, hb⟩; have hc := (bcell hb).1; have hf := (bcell hb).2; have hz : w.heap.size < w1.heap.size := (by have := hb.size; (try simp at this); omega); have hcA := fun o => (bcell hb).1 w.heap.size o (by first | omega | (simp; omega) | (simp; done))) | (go_at_call 45; refine (snCan_any u d h _).mono ?_; rintro e w1 ⟨rfl, hb⟩; have hc := (bcell hb).1; have hf := (bcell hb).2; have hz : w.heap.size < w1.heap.size := (by have := hb.size; (try simp at this); omega); have hcA := fun o => (bcell hb).1 w.heap.size o (by first | omega | (simp; omega) | (simp; done))) | go_in)
    all_goals (go_ret2; refine ⟨rIB ?_ ?_, ?_⟩)
    all_goals first | (simp [hs, hn, hh, fh, fn]; done) | (repeat (first | exact Below.refl _ _ | refine Below.drew ?_ | refine Below.alloc ?_ (by first | omega | (simp; done) | (simp; omega)) _ | refine bchain ?_ (by assumption) (by first | omega | (simp; done) | (simp; omega))))
end Go.Proofs.YtalnellimbehoaaGreatDoor
