/- Contracts of chapter 1's functions, the program's and the model's, over one translation. -/
import Derived.Test.YtbhjdfkoblgilaaProg
import Derived.Test.YtbhjdfkoblgilaaMath
import Derived.WalkKit
import Derived.WalkSpells
import Derived.WalkLawsBesides
import Derived.Lib.Hide
import Derived.Deep.RegionWith
namespace Go.Proofs.Ytbhjdfkoblgilaa
open Go.RowKit
set_option linter.unusedVariables false
set_option linter.unusedSimpArgs false
set_option maxHeartbeats 2000000 in
theorem specIn (n lo hi : Int) (w : World) :
    Calls Try.prog 55 #[.int .i64 n, .int .i64 lo, .int .i64 hi] w fun e w' => e = .returned (.bool (inB n lo hi)) ∧ w = w' := by
  go_enter Try.func55, Try.ntmps55
  go_wp2
  all_goals (go_ret; refine ⟨rB ?_, rfl⟩)
  all_goals (unfold inB; rw [Bool.eq_iff_iff]; simp only [decide_eq_true_eq, Bool.false_eq_true, false_iff, true_iff]; omega)
set_option maxHeartbeats 2000000 in
theorem implIn (n lo hi : Int) (w : World) :
    Calls Try.prog 41 #[.int .i64 n, .int .i64 lo, .int .i64 hi] w fun e w' => e = .returned (.bool (inB n lo hi)) ∧ w = w' := by
  go_enter Try.func41, Try.ntmps41
  go_wp2
  all_goals (go_ret; refine ⟨rB ?_, rfl⟩)
  all_goals (unfold inB; rw [Bool.eq_iff_iff]; simp only [decide_eq_true_eq, Bool.false_eq_true, false_iff, true_iff]; omega)
set_option maxHeartbeats 2000000 in
theorem toSnail_any (u d : Int) (w : World) :
    Calls Try.prog 16 #[.agg #[.int .i64 u, .int .i64 d]] w fun e w' => e = .returned (.agg #[.int .i64 u, .int .i64 d]) ∧ Below w.heap.size w w' := by
  go_enter Try.func16, Try.ntmps16
  go_wp2
  exact bodyPost_ret (v := .agg #[.int .i64 u, .int .i64 d]) (by simp [results, Try.results16, go_sem]) rfl ⟨rfl, by (repeat (first | exact Below.refl _ _ | refine Below.drew ?_ | refine Below.alloc ?_ (by first | omega | (simp; done) | (simp; omega)) _ | refine bchain ?_ (by assumption) (by first | omega | (simp; done) | (simp; omega))))⟩
set_option maxHeartbeats 2000000 in
theorem snGood_any (u d : Int) (w : World) :
    Calls Try.prog 40 #[.agg #[.int .i64 u, .int .i64 d]] w fun e w' => e = .returned (.bool (snOk u d)) ∧ Below w.heap.size w w' := by
  cases h1 : inB u 1 1000
  all_goals
    go_enter Try.func40, Try.ntmps40
    go_wp2_with (first | (go_at_call 55; refine (specIn _ _ _ _).mono ?_; rintro e w1 ⟨rfl, rfl⟩) | go_in)
    all_goals (go_ret; refine ⟨rB ?_, ?_⟩)
    all_goals first | (simp [snOk, h1]) | (repeat (first | exact Below.refl _ _ | refine Below.drew ?_ | refine Below.alloc ?_ (by first | omega | (simp; done) | (simp; omega)) _ | refine bchain ?_ (by assumption) (by first | omega | (simp; done) | (simp; omega))))
set_option maxHeartbeats 2000000 in
theorem implIsSnail (u d : Int) (w : World) :
    Calls Try.prog 17 #[.agg #[.int .i64 u, .int .i64 d]] w fun e w' => e = .returned (.bool (snOk u d)) ∧ Below w.heap.size w w' := by
  cases h1 : inB u 1 1000
  all_goals
    go_enter Try.func17, Try.ntmps17
    go_wp2_with (first | (go_at_call 41; refine (implIn _ _ _ _).mono ?_; rintro e w1 ⟨rfl, rfl⟩) | go_in)
    all_goals (go_ret; refine ⟨rB ?_, ?_⟩)
    all_goals first | (simp [snOk, h1]) | (repeat (first | exact Below.refl _ _ | refine Below.drew ?_ | refine Below.alloc ?_ (by first | omega | (simp; done) | (simp; omega)) _ | refine bchain ?_ (by assumption) (by first | omega | (simp; done) | (simp; omega))))
set_option maxHeartbeats 2000000 in
theorem specIsSnail (u d : Int) (w : World) :
    Calls Try.prog 15 #[.agg #[.int .i64 u, .int .i64 d]] w fun e w' => e = .returned (.bool (snOk u d)) ∧ Below w.heap.size w w' := by
  go_enter Try.func15, Try.ntmps15
  go_wp2_with (first | (go_at_call 40; refine (snGood_any _ _ _).mono ?_; rintro e w1 ⟨rfl, hb⟩; have hc := (bcell hb).1; have hf := (bcell hb).2; have hz : w.heap.size < w1.heap.size := (by have := hb.size; (try simp at this); omega); have hcA := fun o => (bcell hb).1 w.heap.size o (by first | omega | (simp; omega) | (simp; done))) | go_in)
  all_goals (go_ret; refine ⟨rB ?_, ?_⟩)
  all_goals first | rfl | (repeat (first | exact Below.refl _ _ | refine Below.drew ?_ | refine Below.alloc ?_ (by first | omega | (simp; done) | (simp; omega)) _ | refine bchain ?_ (by assumption) (by first | omega | (simp; done) | (simp; omega))))
set_option maxHeartbeats 2000000 in
theorem snEvening_any (u d y : Int) (hs : snOk u d = true) (hy : inB y 1 1000000 = true) (w : World) :
    Calls Try.prog 49 #[.agg #[.int .i64 u, .int .i64 d], .int .i64 y] w fun e w' => e = .returned (.int .i64 (far u d y)) ∧ Below w.heap.size w w' := by
  have sl := snOk_iff.1 hs
  have sl1 := sl.1
  have sl2 := sl.2.1
  have sl3 := sl.2.2.1
  have sl4 := sl.2.2.2
  clear sl
  have yl := inB_iff.1 hy
  have yl1 := yl.1
  have yl2 := yl.2
  clear yl
  have g := gain_bd u d hs
  have m := mul_bd (y - 1) (gain u d) 1000000 1000 (by omega) (by omega) g.1 g.2
  by_cases hg : u ≤ d
  · go_enter Try.func49, Try.ntmps49
    go_wp2
    all_goals (go_ret; refine ⟨rI ?_, ?_⟩)
    all_goals first | (unfold far gain; rw [if_neg (by omega)]; omega) | (repeat (first | exact Below.refl _ _ | refine Below.drew ?_ | refine Below.alloc ?_ (by first | omega | (simp; done) | (simp; omega)) _ | refine bchain ?_ (by assumption) (by first | omega | (simp; done) | (simp; omega))))
  · have eg : gain u d = u - d := by unfold gain; rw [if_pos (by omega)]
    rw [eg] at m g; clear eg
    go_enter Try.func49, Try.ntmps49
    go_wp2
    all_goals (go_ret; refine ⟨rI ?_, ?_⟩)
    all_goals first | (unfold far gain; rw [if_pos (by omega)]) | (repeat (first | exact Below.refl _ _ | refine Below.drew ?_ | refine Below.alloc ?_ (by first | omega | (simp; done) | (simp; omega)) _ | refine bchain ?_ (by assumption) (by first | omega | (simp; done) | (simp; omega))))
set_option maxHeartbeats 2000000 in
theorem dailyGain_any (u d : Int) (hs : snOk u d = true) (w : World) :
    Calls Try.prog 56 #[.agg #[.int .i64 u, .int .i64 d]] w fun e w' => e = .returned (.int .i64 (gain u d)) ∧ Below w.heap.size w w' := by
  have sl := snOk_iff.1 hs
  have sl1 := sl.1
  have sl2 := sl.2.1
  have sl3 := sl.2.2.1
  have sl4 := sl.2.2.2
  clear sl
  by_cases hg : u ≤ d
  all_goals
    go_enter Try.func56, Try.ntmps56
    go_wp2
    all_goals (go_ret; refine ⟨rI ?_, ?_⟩)
    all_goals first | (unfold gain; (repeat' split) <;> (first | rfl | omega)) | (repeat (first | exact Below.refl _ _ | refine Below.drew ?_ | refine Below.alloc ?_ (by first | omega | (simp; done) | (simp; omega)) _ | refine bchain ?_ (by assumption) (by first | omega | (simp; done) | (simp; omega))))
set_option maxHeartbeats 2000000 in
theorem farthest_any (u d y : Int) (hs : snOk u d = true) (hy : inB y 1 1000000 = true) (w : World) :
    Calls Try.prog 54 #[.agg #[.int .i64 u, .int .i64 d], .int .i64 y] w fun e w' => e = .returned (.int .i64 (far u d y)) ∧ Below w.heap.size w w' := by
  have sl := snOk_iff.1 hs
  have sl1 := sl.1
  have sl2 := sl.2.1
  have sl3 := sl.2.2.1
  have sl4 := sl.2.2.2
  clear sl
  have yl := inB_iff.1 hy
  have yl1 := yl.1
  have yl2 := yl.2
  clear yl
  have g := gain_bd u d hs
  have m := mul_bd (y - 1) (gain u d) 1000000 1000 (by omega) (by omega) g.1 g.2
  go_enter Try.func54, Try.ntmps54
  go_wp2_with fail
  go_region_with (go_at_call 56; refine (dailyGain_any _ _ hs _).mono ?_; rintro e w1 ⟨rfl, hb⟩; have hc := (bcell hb).1; have hf := (bcell hb).2; have hz : w.heap.size < w1.heap.size := (by have := hb.size; (try simp at this); omega); have hcA := fun o => (bcell hb).1 w.heap.size o (by first | omega | (simp; omega) | (simp; done)))
  all_goals go_wp2
  all_goals (go_ret; refine ⟨rI ?_, ?_⟩)
  all_goals first | (unfold far; rw [IntWalk.i64_in (y - 1) (by omega), IntWalk.i64_in ((y - 1) * gain u d) (by omega), IntWalk.i64_in (u + (y - 1) * gain u d) (by omega)]) | (repeat (first | exact Below.refl _ _ | refine Below.drew ?_ | refine Below.alloc ?_ (by first | omega | (simp; done) | (simp; omega)) _ | refine bchain ?_ (by assumption) (by first | omega | (simp; done) | (simp; omega))))
set_option maxHeartbeats 2000000 in
theorem firstDayAt_any (u d h : Int) (hs : snOk u d = true) (ha : 0 ≤ h) (hb : h ≤ 1000000) (w : World) :
    Calls Try.prog 45 #[.agg #[.int .i64 u, .int .i64 d], .int .i64 h] w fun e w' => e = .returned (.tuple #[.int .i64 (fd0 u d h), .bool (fd1 u d h)]) ∧ Below w.heap.size w w' := by
  have sl := snOk_iff.1 hs
  have sl1 := sl.1
  have sl2 := sl.2.1
  have sl3 := sl.2.2.1
  have sl4 := sl.2.2.2
  clear sl
  by_cases hu : h ≤ u
  · go_enter Try.func45, Try.ntmps45
    go_wp2
    all_goals (go_ret2; refine ⟨rIB ?_ ?_, ?_⟩)
    all_goals first | (unfold fd0; (repeat' split) <;> (first | rfl | omega)) | (unfold fd1; rw [Bool.eq_iff_iff]; simp only [decide_eq_true_eq, Bool.false_eq_true, false_iff, true_iff]; omega) | (repeat (first | exact Below.refl _ _ | refine Below.drew ?_ | refine Below.alloc ?_ (by first | omega | (simp; done) | (simp; omega)) _ | refine bchain ?_ (by assumption) (by first | omega | (simp; done) | (simp; omega))))
  by_cases hg : u ≤ d
  · have eg : gain u d = 0 := by unfold gain; rw [if_neg (by omega)]
    have eG := Lib.hid eg; clear eg
    go_enter Try.func45, Try.ntmps45
    go_wp2_with (first | (go_at_call 56; refine (dailyGain_any _ _ hs _).mono ?_; rintro e w1 ⟨rfl, hb⟩; rw [eG.out]; have hc := (bcell hb).1; have hf := (bcell hb).2; have hz : w.heap.size < w1.heap.size := (by have := hb.size; (try simp at this); omega)) | go_in)
    all_goals (go_ret2; refine ⟨rIB ?_ ?_, ?_⟩)
    all_goals first | (unfold fd0; (repeat' split) <;> (first | rfl | omega)) | (unfold fd1; rw [Bool.eq_iff_iff]; simp only [decide_eq_true_eq, Bool.false_eq_true, false_iff, true_iff]; omega) | (repeat (first | exact Below.refl _ _ | refine Below.drew ?_ | refine Below.alloc ?_ (by first | omega | (simp; done) | (simp; omega)) _ | refine bchain ?_ (by assumption) (by first | omega | (simp; done) | (simp; omega))))
  · have eg : gain u d = u - d := by unfold gain; rw [if_pos (by omega)]
    have eG := Lib.hid eg; clear eg
    have a1 : (h - u + (u - d) - 1) / (u - d) ≤ h - u + (u - d) - 1 := Int.ediv_le_self _ (by omega)
    have a2 : 0 ≤ (h - u + (u - d) - 1) / (u - d) := Int.ediv_nonneg (by omega) (by omega)
    go_enter Try.func45, Try.ntmps45
    go_wp2_with (first | (go_at_call 56; refine (dailyGain_any _ _ hs _).mono ?_; rintro e w1 ⟨rfl, hb⟩; rw [eG.out]; have hc := (bcell hb).1; have hf := (bcell hb).2; have hz : w.heap.size < w1.heap.size := (by have := hb.size; (try simp at this); omega)) | go_in)
    all_goals (go_ret2; refine ⟨rIB ?_ ?_, ?_⟩)
    all_goals first | (unfold fd0; (repeat' split) <;> (first | rfl | omega)) | (unfold fd1; rw [Bool.eq_iff_iff]; simp only [decide_eq_true_eq, Bool.false_eq_true, false_iff, true_iff]; omega) | (repeat (first | exact Below.refl _ _ | refine Below.drew ?_ | refine Below.alloc ?_ (by first | omega | (simp; done) | (simp; omega)) _ | refine bchain ?_ (by assumption) (by first | omega | (simp; done) | (simp; omega))))
set_option maxHeartbeats 2000000 in
theorem snDays_any (u d h : Int) (hs : snOk u d = true) (ha : 0 ≤ h) (hb : h ≤ 1000000) (hf : fd1 u d h = true) (w : World) :
    Calls Try.prog 46 #[.agg #[.int .i64 u, .int .i64 d], .int .i64 h] w fun e w' => e = .returned (.int .i64 (fd0 u d h)) ∧ Below w.heap.size w w' := by
  have sl := snOk_iff.1 hs
  have sl1 := sl.1
  have sl2 := sl.2.1
  have sl3 := sl.2.2.1
  have sl4 := sl.2.2.2
  clear sl
  have hq := fd1_iff.1 hf
  by_cases hu : h ≤ u
  · go_enter Try.func46, Try.ntmps46
    go_wp2
    all_goals (go_ret; refine ⟨rI ?_, ?_⟩)
    all_goals first | (unfold fd0; (repeat' split) <;> (first | rfl | omega)) | (unfold fd1; rw [Bool.eq_iff_iff]; simp only [decide_eq_true_eq, Bool.false_eq_true, false_iff, true_iff]; omega) | (repeat (first | exact Below.refl _ _ | refine Below.drew ?_ | refine Below.alloc ?_ (by first | omega | (simp; done) | (simp; omega)) _ | refine bchain ?_ (by assumption) (by first | omega | (simp; done) | (simp; omega))))
  · have a1 : (h - u + (u - d) - 1) / (u - d) ≤ h - u + (u - d) - 1 := Int.ediv_le_self _ (by omega)
    have a2 : 0 ≤ (h - u + (u - d) - 1) / (u - d) := Int.ediv_nonneg (by omega) (by omega)
    go_enter Try.func46, Try.ntmps46
    go_wp2
    all_goals (go_ret; refine ⟨rI ?_, ?_⟩)
    all_goals first | (unfold fd0; (repeat' split) <;> (first | rfl | omega)) | (unfold fd1; rw [Bool.eq_iff_iff]; simp only [decide_eq_true_eq, Bool.false_eq_true, false_iff, true_iff]; omega) | (repeat (first | exact Below.refl _ _ | refine Below.drew ?_ | refine Below.alloc ?_ (by first | omega | (simp; done) | (simp; omega)) _ | refine bchain ?_ (by assumption) (by first | omega | (simp; done) | (simp; omega))))
set_option maxHeartbeats 2000000 in
theorem snCan_any (u d h : Int) (w : World) :
    Calls Try.prog 43 #[.agg #[.int .i64 u, .int .i64 d], .int .i64 h] w fun e w' => e = .returned (.bool (fd1 u d h)) ∧ Below w.heap.size w w' := by
  go_enter Try.func43, Try.ntmps43
  go_wp2
  all_goals (go_ret; refine ⟨rB ?_, ?_⟩)
  all_goals first | (unfold fd1; rw [Bool.eq_iff_iff]; simp only [decide_eq_true_eq, Bool.false_eq_true, false_iff, true_iff, Bool.or_eq_true] <;> omega) | (repeat (first | exact Below.refl _ _ | refine Below.drew ?_ | refine Below.alloc ?_ (by first | omega | (simp; done) | (simp; omega)) _ | refine bchain ?_ (by assumption) (by first | omega | (simp; done) | (simp; omega))))
set_option maxHeartbeats 2000000 in
theorem least_any (a b : Int) (w : World) :
    Calls Try.prog 48 #[.int .i64 a, .int .i64 b] w fun e w' => e = .returned (.int .i64 (low a b)) ∧ w = w' := by
  go_enter Try.func48, Try.ntmps48
  go_wp2
  all_goals (go_ret; refine ⟨rI ?_, rfl⟩)
  all_goals (unfold low; (repeat' split) <;> omega)
set_option maxHeartbeats 2000000 in
theorem most_any (a b : Int) (w : World) :
    Calls Try.prog 60 #[.int .i64 a, .int .i64 b] w fun e w' => e = .returned (.int .i64 (hig a b)) ∧ w = w' := by
  go_enter Try.func60, Try.ntmps60
  go_wp2
  all_goals (go_ret; refine ⟨rI ?_, rfl⟩)
  all_goals (unfold hig; (repeat' split) <;> omega)
set_option maxHeartbeats 2000000 in
theorem morningAfter_any (a p n : Int) (h1 : 0 ≤ a) (h2 : a ≤ 2000000000) (h3 : 0 ≤ p) (h4 : p ≤ 1000) (w : World) :
    Calls Try.prog 53 #[.int .i64 a, .int .i64 p, .int .i64 n] w fun e w' => e = .returned (.int .i64 (mA a p n)) ∧ w = w' := by
  by_cases h : a = n
  all_goals
    go_enter Try.func53, Try.ntmps53
    go_wp2
    all_goals (go_ret; refine ⟨rI ?_, rfl⟩)
    all_goals (unfold mA; (repeat' split) <;> omega)
set_option maxHeartbeats 2000000 in
theorem eveningBelow_any (u d n y : Int) (hs : snOk u d = true) (hy : inB y 1 1000000 = true) (hn : inB n 1 1000000 = true) (w : World) :
    Calls Try.prog 51 #[.agg #[.int .i64 u, .int .i64 d], .int .i64 n, .int .i64 y] w fun e w' => e = .returned (.int .i64 (low n (far u d y))) ∧ Below w.heap.size w w' := by
  have nl := inB_iff.1 hn
  have nl1 := nl.1
  have nl2 := nl.2
  clear nl
  have fb := far_bd u d y hs hy
  go_enter Try.func51, Try.ntmps51
  go_wp2_with (first | (go_at_call 54; refine (farthest_any _ _ _ hs hy _).mono ?_; rintro e w1 ⟨rfl, hb⟩; have hc := (bcell hb).1; have hf := (bcell hb).2; have hz : w.heap.size < w1.heap.size := (by have := hb.size; (try simp at this); omega); have hcA := fun o => (bcell hb).1 w.heap.size o (by first | omega | (simp; omega) | (simp; done))) | go_in)
  all_goals (go_ret; refine ⟨rI ?_, ?_⟩)
  all_goals first | (unfold low; (repeat' split) <;> omega) | (repeat (first | exact Below.refl _ _ | refine Below.drew ?_ | refine Below.alloc ?_ (by first | omega | (simp; done) | (simp; omega)) _ | refine bchain ?_ (by assumption) (by first | omega | (simp; done) | (simp; omega))))
set_option maxHeartbeats 2000000 in
theorem snMorning_any (u d n y : Int) (hs : snOk u d = true) (hn : inB n 1 1000000 = true) (hy : inB y 1 1000000 = true) (w : World) :
    Calls Try.prog 52 #[.agg #[.int .i64 u, .int .i64 d], .int .i64 n, .int .i64 y] w fun e w' => e = .returned (.int .i64 (mor u d n y)) ∧ Below w.heap.size w w' := by
  have sl := snOk_iff.1 hs
  have sl1 := sl.1
  have sl2 := sl.2.1
  have sl3 := sl.2.2.1
  have sl4 := sl.2.2.2
  clear sl
  have nl := inB_iff.1 hn
  have nl1 := nl.1
  have nl2 := nl.2
  clear nl
  have yk := inB_iff.1 hy
  have yk1 := yk.1
  have yk2 := yk.2
  clear yk
  rcases Decidable.em (y = 1) with rfl | hd
  · go_enter Try.func52, Try.ntmps52
    go_wp2
    all_goals (go_ret; refine ⟨rI ?_, ?_⟩)
    all_goals first | rfl | (repeat (first | exact Below.refl _ _ | refine Below.drew ?_ | refine Below.alloc ?_ (by first | omega | (simp; done) | (simp; omega)) _ | refine bchain ?_ (by assumption) (by first | omega | (simp; done) | (simp; omega))))
  · have fb := far_bd u d (y - 1) hs (inB_pred hy hd)
    have lb := low_bd n (far u d (y - 1))
    by_cases he : low n (far u d (y - 1)) = n
    · have hE := Lib.hid he; have he2 : (low n (far u d (y - 1)) == n) = true := by rw [beq_iff_eq]; exact he
      clear he
      go_enter Try.func52, Try.ntmps52
      go_wp2_with (first | (go_at_call 49; refine (snEvening_any u d (y - 1) hs (inB_pred hy hd) _).mono ?_; rintro e w1 ⟨rfl, hb⟩; have hc := (bcell hb).1; have hf := (bcell hb).2; have hz : w.heap.size < w1.heap.size := (by have := hb.size; (try simp at this); omega); have hcA := fun o => (bcell hb).1 w.heap.size o (by first | omega | (simp; omega) | (simp; done))) | (go_at_call 48; refine (least_any _ _ _).mono ?_; rintro e w1 ⟨rfl, rfl⟩) | (go_at_call 60; refine (most_any _ _ _).mono ?_; rintro e w1 ⟨rfl, rfl⟩) | go_in)
      all_goals (go_ret; refine ⟨rI ?_, ?_⟩)
      all_goals first | (unfold mor mA; rw [if_neg hd, if_pos hE.out]) | (repeat (first | exact Below.refl _ _ | refine Below.drew ?_ | refine Below.alloc ?_ (by first | omega | (simp; done) | (simp; omega)) _ | refine bchain ?_ (by assumption) (by first | omega | (simp; done) | (simp; omega))))
    · go_enter Try.func52, Try.ntmps52
      go_wp2_with (first | (go_at_call 49; refine (snEvening_any u d (y - 1) hs (inB_pred hy hd) _).mono ?_; rintro e w1 ⟨rfl, hb⟩; have hc := (bcell hb).1; have hf := (bcell hb).2; have hz : w.heap.size < w1.heap.size := (by have := hb.size; (try simp at this); omega); have hcA := fun o => (bcell hb).1 w.heap.size o (by first | omega | (simp; omega) | (simp; done))) | (go_at_call 48; refine (least_any _ _ _).mono ?_; rintro e w1 ⟨rfl, rfl⟩) | (go_at_call 60; refine (most_any _ _ _).mono ?_; rintro e w1 ⟨rfl, rfl⟩) | go_in)
      all_goals (go_ret; refine ⟨rI ?_, ?_⟩)
      all_goals first | (unfold mor mA hig; rw [if_neg hd, if_neg he]; (repeat' split) <;> omega) | (repeat (first | exact Below.refl _ _ | refine Below.drew ?_ | refine Below.alloc ?_ (by first | omega | (simp; done) | (simp; omega)) _ | refine bchain ?_ (by assumption) (by first | omega | (simp; done) | (simp; omega))))
set_option maxHeartbeats 2000000 in
theorem specCanClimb (u d n : Int) (w : World) :
    Calls Try.prog 18 #[.agg #[.int .i64 u, .int .i64 d], .int .i64 n] w fun e w' => e = .returned (.tuple #[.bool ((snOk u d && inB n 1 1000000) && fd1 u d n), .bool (snOk u d && inB n 1 1000000)]) ∧ Below w.heap.size w w' := by
  cases hs : snOk u d <;> cases hn : inB n 1 1000000
  all_goals
    go_enter Try.func18, Try.ntmps18
    go_wp2_with (first | (go_at_call 55; refine (specIn _ _ _ _).mono ?_; rintro e w1 ⟨rfl, rfl⟩) | (go_at_call 40; refine (snGood_any _ _ _).mono ?_; rintro e w1 ⟨rfl, hb⟩; have hc := (bcell hb).1; have hf := (bcell hb).2; have hz : w.heap.size < w1.heap.size := (by have := hb.size; (try simp at this); omega); have hcA := fun o => (bcell hb).1 w.heap.size o (by first | omega | (simp; omega) | (simp; done))) | (go_at_call 43; refine (snCan_any _ _ _ _).mono ?_; rintro e w1 ⟨rfl, hb⟩; have hc := (bcell hb).1; have hf := (bcell hb).2; have hz : w.heap.size < w1.heap.size := (by have := hb.size; (try simp at this); omega); have hcA := fun o => (bcell hb).1 w.heap.size o (by first | omega | (simp; omega) | (simp; done))) | go_in)
    all_goals (go_ret2; refine ⟨rBB ?_ ?_, ?_⟩)
    all_goals first | (simp [hs, hn]) | (repeat (first | exact Below.refl _ _ | refine Below.drew ?_ | refine Below.alloc ?_ (by first | omega | (simp; done) | (simp; omega)) _ | refine bchain ?_ (by assumption) (by first | omega | (simp; done) | (simp; omega))))
set_option maxHeartbeats 2000000 in
theorem specDaysToTop (u d n : Int) (w : World) :
    Calls Try.prog 20 #[.agg #[.int .i64 u, .int .i64 d], .int .i64 n] w fun e w' => e = .returned (.tuple #[.int .i64 (if (snOk u d && inB n 1 1000000) && fd1 u d n then fd0 u d n else 0), .bool ((snOk u d && inB n 1 1000000) && fd1 u d n)]) ∧ Below w.heap.size w w' := by
  cases hs : snOk u d <;> cases hn : inB n 1 1000000 <;> cases hc0 : fd1 u d n
  all_goals
    go_enter Try.func20, Try.ntmps20
    go_wp2_with (first | (go_at_call 55; refine (specIn _ _ _ _).mono ?_; rintro e w1 ⟨rfl, rfl⟩) | (go_at_call 40; refine (snGood_any _ _ _).mono ?_; rintro e w1 ⟨rfl, hb⟩; have hc := (bcell hb).1; have hf := (bcell hb).2; have hz : w.heap.size < w1.heap.size := (by have := hb.size; (try simp at this); omega); have hcA := fun o => (bcell hb).1 w.heap.size o (by first | omega | (simp; omega) | (simp; done))) | (go_at_call 43; refine (snCan_any _ _ _ _).mono ?_; rintro e w1 ⟨rfl, hb⟩; have hc := (bcell hb).1; have hf := (bcell hb).2; have hz : w.heap.size < w1.heap.size := (by have := hb.size; (try simp at this); omega); have hcA := fun o => (bcell hb).1 w.heap.size o (by first | omega | (simp; omega) | (simp; done))) | (go_at_call 46; refine (snDays_any u d n hs (by have := inB_iff.1 hn; omega) (by have := inB_iff.1 hn; omega) hc0 _).mono ?_; rintro e w1 ⟨rfl, hb⟩; have hc := (bcell hb).1; have hf := (bcell hb).2; have hz : w.heap.size < w1.heap.size := (by have := hb.size; (try simp at this); omega); have hcA := fun o => (bcell hb).1 w.heap.size o (by first | omega | (simp; omega) | (simp; done))) | go_in)
    all_goals (go_ret2; refine ⟨rIB ?_ ?_, ?_⟩)
    all_goals first | (simp [hs, hn, hc0]; done) | (simp [hs, hn, hc0, fd0_zero, low, mor]; done) | (simp [hs, hn, hc0, low, mor]; omega) | (repeat (first | exact Below.refl _ _ | refine Below.drew ?_ | refine Below.alloc ?_ (by first | omega | (simp; done) | (simp; omega)) _ | refine bchain ?_ (by assumption) (by first | omega | (simp; done) | (simp; omega))))
set_option maxHeartbeats 2000000 in
theorem specEveningHeight (u d n y : Int) (w : World) :
    Calls Try.prog 22 #[.agg #[.int .i64 u, .int .i64 d], .int .i64 n, .int .i64 y] w fun e w' => e = .returned (.tuple #[.int .i64 (if (snOk u d && inB n 1 1000000 && inB y 1 1000000) then low n (far u d y) else 0), .bool (snOk u d && inB n 1 1000000 && inB y 1 1000000)]) ∧ Below w.heap.size w w' := by
  cases hs : snOk u d <;> cases hn : inB n 1 1000000 <;> cases hy : inB y 1 1000000
  all_goals
    go_enter Try.func22, Try.ntmps22
    go_wp2_with (first | (go_at_call 55; refine (specIn _ _ _ _).mono ?_; rintro e w1 ⟨rfl, rfl⟩) | (go_at_call 40; refine (snGood_any _ _ _).mono ?_; rintro e w1 ⟨rfl, hb⟩; have hc := (bcell hb).1; have hf := (bcell hb).2; have hz : w.heap.size < w1.heap.size := (by have := hb.size; (try simp at this); omega); have hcA := fun o => (bcell hb).1 w.heap.size o (by first | omega | (simp; omega) | (simp; done))) | (go_at_call 43; refine (snCan_any _ _ _ _).mono ?_; rintro e w1 ⟨rfl, hb⟩; have hc := (bcell hb).1; have hf := (bcell hb).2; have hz : w.heap.size < w1.heap.size := (by have := hb.size; (try simp at this); omega); have hcA := fun o => (bcell hb).1 w.heap.size o (by first | omega | (simp; omega) | (simp; done))) | (go_at_call 49; refine (snEvening_any _ _ _ hs hy _).mono ?_; rintro e w1 ⟨rfl, hb⟩; have hc := (bcell hb).1; have hf := (bcell hb).2; have hz : w.heap.size < w1.heap.size := (by have := hb.size; (try simp at this); omega); have hcA := fun o => (bcell hb).1 w.heap.size o (by first | omega | (simp; omega) | (simp; done))) | go_in)
    all_goals (go_ret2; refine ⟨rIB ?_ ?_, ?_⟩)
    all_goals first | (simp [hs, hn, hy]; done) | (simp [hs, hn, hy, fd0_zero, low, mor]; done) | (simp [hs, hn, hy, low, mor]; omega) | (repeat (first | exact Below.refl _ _ | refine Below.drew ?_ | refine Below.alloc ?_ (by first | omega | (simp; done) | (simp; omega)) _ | refine bchain ?_ (by assumption) (by first | omega | (simp; done) | (simp; omega))))
set_option maxHeartbeats 2000000 in
theorem specGreatestWall (u d y : Int) (w : World) :
    Calls Try.prog 26 #[.agg #[.int .i64 u, .int .i64 d], .int .i64 y] w fun e w' => e = .returned (.tuple #[.int .i64 (if (snOk u d && inB y 1 1000000) then far u d y else 0), .bool (snOk u d && inB y 1 1000000)]) ∧ Below w.heap.size w w' := by
  cases hs : snOk u d <;> cases hy : inB y 1 1000000
  all_goals
    go_enter Try.func26, Try.ntmps26
    go_wp2_with (first | (go_at_call 55; refine (specIn _ _ _ _).mono ?_; rintro e w1 ⟨rfl, rfl⟩) | (go_at_call 40; refine (snGood_any _ _ _).mono ?_; rintro e w1 ⟨rfl, hb⟩; have hc := (bcell hb).1; have hf := (bcell hb).2; have hz : w.heap.size < w1.heap.size := (by have := hb.size; (try simp at this); omega); have hcA := fun o => (bcell hb).1 w.heap.size o (by first | omega | (simp; omega) | (simp; done))) | (go_at_call 43; refine (snCan_any _ _ _ _).mono ?_; rintro e w1 ⟨rfl, hb⟩; have hc := (bcell hb).1; have hf := (bcell hb).2; have hz : w.heap.size < w1.heap.size := (by have := hb.size; (try simp at this); omega); have hcA := fun o => (bcell hb).1 w.heap.size o (by first | omega | (simp; omega) | (simp; done))) | (go_at_call 49; refine (snEvening_any _ _ _ hs hy _).mono ?_; rintro e w1 ⟨rfl, hb⟩; have hc := (bcell hb).1; have hf := (bcell hb).2; have hz : w.heap.size < w1.heap.size := (by have := hb.size; (try simp at this); omega); have hcA := fun o => (bcell hb).1 w.heap.size o (by first | omega | (simp; omega) | (simp; done))) | go_in)
    all_goals (go_ret2; refine ⟨rIB ?_ ?_, ?_⟩)
    all_goals first | (simp [hs, hy]; done) | (simp [hs, hy, fd0_zero, low, mor]; done) | (simp [hs, hy, low, mor]; omega) | (repeat (first | exact Below.refl _ _ | refine Below.drew ?_ | refine Below.alloc ?_ (by first | omega | (simp; done) | (simp; omega)) _ | refine bchain ?_ (by assumption) (by first | omega | (simp; done) | (simp; omega))))
set_option maxHeartbeats 2000000 in
theorem specDayOfHeight (u d n h : Int) (w : World) :
    Calls Try.prog 28 #[.agg #[.int .i64 u, .int .i64 d], .int .i64 n, .int .i64 h] w fun e w' => e = .returned (.tuple #[.int .i64 (if (snOk u d && inB n 1 1000000 && inB h 0 n) && fd1 u d h then fd0 u d h else 0), .bool ((snOk u d && inB n 1 1000000 && inB h 0 n) && fd1 u d h)]) ∧ Below w.heap.size w w' := by
  cases hs : snOk u d <;> cases hn : inB n 1 1000000 <;> cases hh : inB h 0 n <;> cases hc0 : fd1 u d h
  all_goals
    go_enter Try.func28, Try.ntmps28
    go_wp2_with (first | (go_at_call 55; refine (specIn _ _ _ _).mono ?_; rintro e w1 ⟨rfl, rfl⟩) | (go_at_call 40; refine (snGood_any _ _ _).mono ?_; rintro e w1 ⟨rfl, hb⟩; have hc := (bcell hb).1; have hf := (bcell hb).2; have hz : w.heap.size < w1.heap.size := (by have := hb.size; (try simp at this); omega); have hcA := fun o => (bcell hb).1 w.heap.size o (by first | omega | (simp; omega) | (simp; done))) | (go_at_call 43; refine (snCan_any _ _ _ _).mono ?_; rintro e w1 ⟨rfl, hb⟩; have hc := (bcell hb).1; have hf := (bcell hb).2; have hz : w.heap.size < w1.heap.size := (by have := hb.size; (try simp at this); omega); have hcA := fun o => (bcell hb).1 w.heap.size o (by first | omega | (simp; omega) | (simp; done))) | (go_at_call 46; refine (snDays_any _ _ _ hs (by have := inB_iff.1 hh; omega) (by have := inB_iff.1 hh; have := inB_iff.1 hn; omega) hc0 _).mono ?_; rintro e w1 ⟨rfl, hb⟩; have hc := (bcell hb).1; have hf := (bcell hb).2; have hz : w.heap.size < w1.heap.size := (by have := hb.size; (try simp at this); omega); have hcA := fun o => (bcell hb).1 w.heap.size o (by first | omega | (simp; omega) | (simp; done))) | go_in)
    all_goals (go_ret2; refine ⟨rIB ?_ ?_, ?_⟩)
    all_goals first | (simp [hs, hn, hh, hc0]; done) | (simp [hs, hn, hh, hc0, fd0_zero, low, mor]; done) | (simp [hs, hn, hh, hc0, low, mor]; omega) | (repeat (first | exact Below.refl _ _ | refine Below.drew ?_ | refine Below.alloc ?_ (by first | omega | (simp; done) | (simp; omega)) _ | refine bchain ?_ (by assumption) (by first | omega | (simp; done) | (simp; omega))))
set_option maxHeartbeats 2000000 in
theorem implCanClimb (u d n : Int) (w : World) :
    Calls Try.prog 19 #[.agg #[.int .i64 u, .int .i64 d], .int .i64 n] w fun e w' => e = .returned (.tuple #[.bool ((snOk u d && inB n 1 1000000) && fd1 u d n), .bool (snOk u d && inB n 1 1000000)]) ∧ Below w.heap.size w w' := by
  cases hs : snOk u d <;> cases hn : inB n 1 1000000
  all_goals
    go_enter Try.func19, Try.ntmps19
    go_wp2_with (first | (go_at_call 41; refine (implIn _ _ _ _).mono ?_; rintro e w1 ⟨rfl, rfl⟩) | (go_at_call 17; refine (implIsSnail _ _ _).mono ?_; rintro e w1 ⟨rfl, hb⟩; have hc := (bcell hb).1; have hf := (bcell hb).2; have hz : w.heap.size < w1.heap.size := (by have := hb.size; (try simp at this); omega); have hcA := fun o => (bcell hb).1 w.heap.size o (by first | omega | (simp; omega) | (simp; done))) | (go_at_call 45; refine (firstDayAt_any u d n hs (by have := inB_iff.1 hn; omega) (by have := inB_iff.1 hn; omega) _).mono ?_; rintro e w1 ⟨rfl, hb⟩; have hc := (bcell hb).1; have hf := (bcell hb).2; have hz : w.heap.size < w1.heap.size := (by have := hb.size; (try simp at this); omega); have hcA := fun o => (bcell hb).1 w.heap.size o (by first | omega | (simp; omega) | (simp; done))) | go_in)
    all_goals (go_ret2; refine ⟨rBB ?_ ?_, ?_⟩)
    all_goals first | (simp [hs, hn]) | (repeat (first | exact Below.refl _ _ | refine Below.drew ?_ | refine Below.alloc ?_ (by first | omega | (simp; done) | (simp; omega)) _ | refine bchain ?_ (by assumption) (by first | omega | (simp; done) | (simp; omega))))
set_option maxHeartbeats 2000000 in
theorem implDaysToTop (u d n : Int) (w : World) :
    Calls Try.prog 21 #[.agg #[.int .i64 u, .int .i64 d], .int .i64 n] w fun e w' => e = .returned (.tuple #[.int .i64 (if (snOk u d && inB n 1 1000000) && fd1 u d n then fd0 u d n else 0), .bool ((snOk u d && inB n 1 1000000) && fd1 u d n)]) ∧ Below w.heap.size w w' := by
  cases hs : snOk u d <;> cases hn : inB n 1 1000000 <;> cases hc0 : fd1 u d n
  all_goals
    go_enter Try.func21, Try.ntmps21
    go_wp2_with (first | (go_at_call 41; refine (implIn _ _ _ _).mono ?_; rintro e w1 ⟨rfl, rfl⟩) | (go_at_call 17; refine (implIsSnail _ _ _).mono ?_; rintro e w1 ⟨rfl, hb⟩; have hc := (bcell hb).1; have hf := (bcell hb).2; have hz : w.heap.size < w1.heap.size := (by have := hb.size; (try simp at this); omega); have hcA := fun o => (bcell hb).1 w.heap.size o (by first | omega | (simp; omega) | (simp; done))) | (go_at_call 45; refine (firstDayAt_any u d n hs (by have := inB_iff.1 hn; omega) (by have := inB_iff.1 hn; omega) _).mono ?_; rintro e w1 ⟨rfl, hb⟩; have hc := (bcell hb).1; have hf := (bcell hb).2; have hz : w.heap.size < w1.heap.size := (by have := hb.size; (try simp at this); omega); have hcA := fun o => (bcell hb).1 w.heap.size o (by first | omega | (simp; omega) | (simp; done))) | go_in)
    all_goals (go_ret2; refine ⟨rIB ?_ ?_, ?_⟩)
    all_goals first | (simp [hs, hn, hc0]; done) | (simp [hs, hn, hc0, fd0_zero, low, mor]; done) | (simp [hs, hn, hc0, low, mor]; omega) | (repeat (first | exact Below.refl _ _ | refine Below.drew ?_ | refine Below.alloc ?_ (by first | omega | (simp; done) | (simp; omega)) _ | refine bchain ?_ (by assumption) (by first | omega | (simp; done) | (simp; omega))))
set_option maxHeartbeats 2000000 in
theorem implEveningHeight (u d n y : Int) (w : World) :
    Calls Try.prog 23 #[.agg #[.int .i64 u, .int .i64 d], .int .i64 n, .int .i64 y] w fun e w' => e = .returned (.tuple #[.int .i64 (if (snOk u d && inB n 1 1000000 && inB y 1 1000000) then low n (far u d y) else 0), .bool (snOk u d && inB n 1 1000000 && inB y 1 1000000)]) ∧ Below w.heap.size w w' := by
  cases hs : snOk u d <;> cases hn : inB n 1 1000000 <;> cases hy : inB y 1 1000000
  all_goals
    go_enter Try.func23, Try.ntmps23
    go_wp2_with (first | (go_at_call 41; refine (implIn _ _ _ _).mono ?_; rintro e w1 ⟨rfl, rfl⟩) | (go_at_call 17; refine (implIsSnail _ _ _).mono ?_; rintro e w1 ⟨rfl, hb⟩; have hc := (bcell hb).1; have hf := (bcell hb).2; have hz : w.heap.size < w1.heap.size := (by have := hb.size; (try simp at this); omega); have hcA := fun o => (bcell hb).1 w.heap.size o (by first | omega | (simp; omega) | (simp; done))) | (go_at_call 51; refine (eveningBelow_any _ _ _ _ hs hy hn _).mono ?_; rintro e w1 ⟨rfl, hb⟩; have hc := (bcell hb).1; have hf := (bcell hb).2; have hz : w.heap.size < w1.heap.size := (by have := hb.size; (try simp at this); omega); have hcA := fun o => (bcell hb).1 w.heap.size o (by first | omega | (simp; omega) | (simp; done))) | go_in)
    all_goals (go_ret2; refine ⟨rIB ?_ ?_, ?_⟩)
    all_goals first | (simp [hs, hn, hy]; done) | (simp [hs, hn, hy, fd0_zero, low, mor]; done) | (simp [hs, hn, hy, low, mor]; omega) | (repeat (first | exact Below.refl _ _ | refine Below.drew ?_ | refine Below.alloc ?_ (by first | omega | (simp; done) | (simp; omega)) _ | refine bchain ?_ (by assumption) (by first | omega | (simp; done) | (simp; omega))))
set_option maxHeartbeats 2000000 in
theorem implGreatestWall (u d y : Int) (w : World) :
    Calls Try.prog 27 #[.agg #[.int .i64 u, .int .i64 d], .int .i64 y] w fun e w' => e = .returned (.tuple #[.int .i64 (if (snOk u d && inB y 1 1000000) then far u d y else 0), .bool (snOk u d && inB y 1 1000000)]) ∧ Below w.heap.size w w' := by
  cases hs : snOk u d <;> cases hy : inB y 1 1000000
  all_goals
    go_enter Try.func27, Try.ntmps27
    go_wp2_with (first | (go_at_call 41; refine (implIn _ _ _ _).mono ?_; rintro e w1 ⟨rfl, rfl⟩) | (go_at_call 17; refine (implIsSnail _ _ _).mono ?_; rintro e w1 ⟨rfl, hb⟩; have hc := (bcell hb).1; have hf := (bcell hb).2; have hz : w.heap.size < w1.heap.size := (by have := hb.size; (try simp at this); omega); have hcA := fun o => (bcell hb).1 w.heap.size o (by first | omega | (simp; omega) | (simp; done))) | (go_at_call 54; refine (farthest_any _ _ _ hs hy _).mono ?_; rintro e w1 ⟨rfl, hb⟩; have hc := (bcell hb).1; have hf := (bcell hb).2; have hz : w.heap.size < w1.heap.size := (by have := hb.size; (try simp at this); omega); have hcA := fun o => (bcell hb).1 w.heap.size o (by first | omega | (simp; omega) | (simp; done))) | go_in)
    all_goals (go_ret2; refine ⟨rIB ?_ ?_, ?_⟩)
    all_goals first | (simp [hs, hy]; done) | (simp [hs, hy, fd0_zero, low, mor]; done) | (simp [hs, hy, low, mor]; omega) | (repeat (first | exact Below.refl _ _ | refine Below.drew ?_ | refine Below.alloc ?_ (by first | omega | (simp; done) | (simp; omega)) _ | refine bchain ?_ (by assumption) (by first | omega | (simp; done) | (simp; omega))))
set_option maxHeartbeats 2000000 in
theorem implDayOfHeight (u d n h : Int) (w : World) :
    Calls Try.prog 29 #[.agg #[.int .i64 u, .int .i64 d], .int .i64 n, .int .i64 h] w fun e w' => e = .returned (.tuple #[.int .i64 (if (snOk u d && inB n 1 1000000 && inB h 0 n) && fd1 u d h then fd0 u d h else 0), .bool ((snOk u d && inB n 1 1000000 && inB h 0 n) && fd1 u d h)]) ∧ Below w.heap.size w w' := by
  cases hs : snOk u d <;> cases hn : inB n 1 1000000 <;> cases hh : inB h 0 n <;> cases hc0 : fd1 u d h
  all_goals
    go_enter Try.func29, Try.ntmps29
    go_wp2_with (first | (go_at_call 41; refine (implIn _ _ _ _).mono ?_; rintro e w1 ⟨rfl, rfl⟩) | (go_at_call 17; refine (implIsSnail _ _ _).mono ?_; rintro e w1 ⟨rfl, hb⟩; have hc := (bcell hb).1; have hf := (bcell hb).2; have hz : w.heap.size < w1.heap.size := (by have := hb.size; (try simp at this); omega); have hcA := fun o => (bcell hb).1 w.heap.size o (by first | omega | (simp; omega) | (simp; done))) | (go_at_call 45; refine (firstDayAt_any _ _ _ hs (by have := inB_iff.1 hh; omega) (by have := inB_iff.1 hh; have := inB_iff.1 hn; omega) _).mono ?_; rintro e w1 ⟨rfl, hb⟩; have hc := (bcell hb).1; have hf := (bcell hb).2; have hz : w.heap.size < w1.heap.size := (by have := hb.size; (try simp at this); omega); have hcA := fun o => (bcell hb).1 w.heap.size o (by first | omega | (simp; omega) | (simp; done))) | go_in)
    all_goals (go_ret2; refine ⟨rIB ?_ ?_, ?_⟩)
    all_goals first | (simp [hs, hn, hh, hc0]; done) | (simp [hs, hn, hh, hc0, fd0_zero, low, mor]; done) | (simp [hs, hn, hh, hc0, low, mor]; omega) | (repeat (first | exact Below.refl _ _ | refine Below.drew ?_ | refine Below.alloc ?_ (by first | omega | (simp; done) | (simp; omega)) _ | refine bchain ?_ (by assumption) (by first | omega | (simp; done) | (simp; omega))))
end Go.Proofs.Ytbhjdfkoblgilaa
