/- Contracts of chapter 1's functions, the program's and the model's, over one translation. -/
import Derived.Test.YtalnellimbehoaaGreatDoorProg
import Derived.Test.YtalnellimbehoaaGreatDoorMath
import Derived.Test.YtalnellimbehoaaGreatDoorTwoWalks
import Derived.WalkKit
import Derived.WalkSpells
import Derived.WalkLawsBesides
import Derived.Lib.Hide
import Derived.Deep.RegionWith
namespace Go.Proofs.YtalnellimbehoaaGreatDoor
open Go.RowKit
set_option linter.unusedVariables false
set_option linter.unusedSimpArgs false
theorem most_hig (a b : Int) (w : World) :
    Calls Tryz.prog 57 #[.int .i64 a, .int .i64 b] w fun e w' => e = .returned (.int .i64 (hig a b)) ∧ w = w' := most_any a b w
set_option maxHeartbeats 2000000 in
theorem snGood_any (u d : Int) (w : World) :
    Calls Tryz.prog 48 #[.agg #[.int .i64 u, .int .i64 d]] w fun e w' => e = .returned (.bool (snOk u d)) ∧ Below w.heap.size w w' := by
  cases h1 : inB u 1 1000
  all_goals
    go_enter Tryz.func48, Tryz.ntmps48
    go_wp2_with (first | (go_at_call 58; refine (specIn _ _ _ _).mono ?_; rintro e w1 ⟨rfl, rfl⟩) | go_in)
    all_goals (go_ret; refine ⟨rB ?_, ?_⟩)
    all_goals first | (simp [snOk, h1]) | (repeat (first | exact Below.refl _ _ | refine Below.drew ?_ | refine Below.alloc ?_ (by first | omega | (simp; done) | (simp; omega)) _ | refine bchain ?_ (by assumption) (by first | omega | (simp; done) | (simp; omega))))
set_option maxHeartbeats 2000000 in
theorem implIsSnail (u d : Int) (w : World) :
    Calls Tryz.prog 18 #[.agg #[.int .i64 u, .int .i64 d]] w fun e w' => e = .returned (.bool (snOk u d)) ∧ Below w.heap.size w w' := by
  cases h1 : inB u 1 1000
  all_goals
    go_enter Tryz.func18, Tryz.ntmps18
    go_wp2_with (first | (go_at_call 51; refine (implIn _ _ _ _).mono ?_; rintro e w1 ⟨rfl, rfl⟩) | go_in)
    all_goals (go_ret; refine ⟨rB ?_, ?_⟩)
    all_goals first | (simp [snOk, h1]) | (repeat (first | exact Below.refl _ _ | refine Below.drew ?_ | refine Below.alloc ?_ (by first | omega | (simp; done) | (simp; omega)) _ | refine bchain ?_ (by assumption) (by first | omega | (simp; done) | (simp; omega))))
set_option maxHeartbeats 2000000 in
theorem specIsSnail (u d : Int) (w : World) :
    Calls Tryz.prog 19 #[.agg #[.int .i64 u, .int .i64 d]] w fun e w' => e = .returned (.bool (snOk u d)) ∧ Below w.heap.size w w' := by
  go_enter Tryz.func19, Tryz.ntmps19
  go_wp2_with (first | (go_at_call 48; refine (snGood_any _ _ _).mono ?_; rintro e w1 ⟨rfl, hb⟩; have hc := (bcell hb).1; have hf := (bcell hb).2; have hz : w.heap.size < w1.heap.size := (by have := hb.size; (try simp at this); omega); have hcA := fun o => (bcell hb).1 w.heap.size o (by first | omega | (simp; omega) | (simp; done))) | go_in)
  all_goals (go_ret; refine ⟨rB ?_, ?_⟩)
  all_goals first | rfl | (repeat (first | exact Below.refl _ _ | refine Below.drew ?_ | refine Below.alloc ?_ (by first | omega | (simp; done) | (simp; omega)) _ | refine bchain ?_ (by assumption) (by first | omega | (simp; done) | (simp; omega))))
set_option maxHeartbeats 2000000 in
theorem snEvening_any (u d y : Int) (hs : snOk u d = true) (hy : inB y 1 1000000 = true) (w : World) :
    Calls Tryz.prog 43 #[.agg #[.int .i64 u, .int .i64 d], .int .i64 y] w fun e w' => e = .returned (.int .i64 (far u d y)) ∧ Below w.heap.size w w' := by
  have sl := snOk_iff.1 hs
  have sl1 := sl.1
  have sl2 := sl.2.1
  have sl3 := sl.2.2.1
  have sl4 := sl.2.2.2
  clear sl
  have yl := inB_iff.1 hy
  have yl1 := yl.1
  have yl2 := yl.2
  clear yl
  have g := gain_bd u d hs
  have m := mul_bd (y - 1) (gain u d) 1000000 1000 (by omega) (by omega) g.1 g.2
  by_cases hg : u ≤ d
  · go_enter Tryz.func43, Tryz.ntmps43
    go_wp2
    all_goals (go_ret; refine ⟨rI ?_, ?_⟩)
    all_goals first | (unfold far gain; rw [if_neg (by omega)]; omega) | (repeat (first | exact Below.refl _ _ | refine Below.drew ?_ | refine Below.alloc ?_ (by first | omega | (simp; done) | (simp; omega)) _ | refine bchain ?_ (by assumption) (by first | omega | (simp; done) | (simp; omega))))
  · have eg : gain u d = u - d := by unfold gain; rw [if_pos (by omega)]
    rw [eg] at m g; clear eg
    go_enter Tryz.func43, Tryz.ntmps43
    go_wp2
    all_goals (go_ret; refine ⟨rI ?_, ?_⟩)
    all_goals first | (unfold far gain; rw [if_pos (by omega)]) | (repeat (first | exact Below.refl _ _ | refine Below.drew ?_ | refine Below.alloc ?_ (by first | omega | (simp; done) | (simp; omega)) _ | refine bchain ?_ (by assumption) (by first | omega | (simp; done) | (simp; omega))))
set_option maxHeartbeats 2000000 in
theorem dailyGain_any (u d : Int) (hs : snOk u d = true) (w : World) :
    Calls Tryz.prog 59 #[.agg #[.int .i64 u, .int .i64 d]] w fun e w' => e = .returned (.int .i64 (gain u d)) ∧ Below w.heap.size w w' := by
  have sl := snOk_iff.1 hs
  have sl1 := sl.1
  have sl2 := sl.2.1
  have sl3 := sl.2.2.1
  have sl4 := sl.2.2.2
  clear sl
  by_cases hg : u ≤ d
  all_goals
    go_enter Tryz.func59, Tryz.ntmps59
    go_wp2
    all_goals (go_ret; refine ⟨rI ?_, ?_⟩)
    all_goals first | (unfold gain; (repeat' split) <;> (first | rfl | omega)) | (repeat (first | exact Below.refl _ _ | refine Below.drew ?_ | refine Below.alloc ?_ (by first | omega | (simp; done) | (simp; omega)) _ | refine bchain ?_ (by assumption) (by first | omega | (simp; done) | (simp; omega))))
set_option maxHeartbeats 2000000 in
theorem farthest_any (u d y : Int) (hs : snOk u d = true) (hy : inB y 1 1000000 = true) (w : World) :
    Calls Tryz.prog 47 #[.agg #[.int .i64 u, .int .i64 d], .int .i64 y] w fun e w' => e = .returned (.int .i64 (far u d y)) ∧ Below w.heap.size w w' := by
  have sl := snOk_iff.1 hs
  have sl1 := sl.1
  have sl2 := sl.2.1
  have sl3 := sl.2.2.1
  have sl4 := sl.2.2.2
  clear sl
  have yl := inB_iff.1 hy
  have yl1 := yl.1
  have yl2 := yl.2
  clear yl
  have g := gain_bd u d hs
  have m := mul_bd (y - 1) (gain u d) 1000000 1000 (by omega) (by omega) g.1 g.2
  go_enter Tryz.func47, Tryz.ntmps47
  go_wp2_with fail
  go_region_with (go_at_call 59; refine (dailyGain_any _ _ hs _).mono ?_; rintro e w1 ⟨rfl, hb⟩; have hc := (bcell hb).1; have hf := (bcell hb).2; have hz : w.heap.size < w1.heap.size := (by have := hb.size; (try simp at this); omega); have hcA := fun o => (bcell hb).1 w.heap.size o (by first | omega | (simp; omega) | (simp; done)))
  all_goals go_wp2
  all_goals (go_ret; refine ⟨rI ?_, ?_⟩)
  all_goals first | (unfold far; rw [IntWalk.i64_in (y - 1) (by omega), IntWalk.i64_in ((y - 1) * gain u d) (by omega), IntWalk.i64_in (u + (y - 1) * gain u d) (by omega)]) | (repeat (first | exact Below.refl _ _ | refine Below.drew ?_ | refine Below.alloc ?_ (by first | omega | (simp; done) | (simp; omega)) _ | refine bchain ?_ (by assumption) (by first | omega | (simp; done) | (simp; omega))))
set_option maxHeartbeats 2000000 in
theorem firstDayAt_any (u d h : Int) (hs : snOk u d = true) (ha : 0 ≤ h) (hb : h ≤ 1000000) (w : World) :
    Calls Tryz.prog 44 #[.agg #[.int .i64 u, .int .i64 d], .int .i64 h] w fun e w' => e = .returned (.tuple #[.int .i64 (fd0 u d h), .bool (fd1 u d h)]) ∧ Below w.heap.size w w' := by
  have sl := snOk_iff.1 hs
  have sl1 := sl.1
  have sl2 := sl.2.1
  have sl3 := sl.2.2.1
  have sl4 := sl.2.2.2
  clear sl
  by_cases hu : h ≤ u
  · go_enter Tryz.func44, Tryz.ntmps44
    go_wp2
    all_goals (go_ret2; refine ⟨rIB ?_ ?_, ?_⟩)
    all_goals first | (unfold fd0; (repeat' split) <;> (first | rfl | omega)) | (unfold fd1; rw [Bool.eq_iff_iff]; simp only [decide_eq_true_eq, Bool.false_eq_true, false_iff, true_iff]; omega) | (repeat (first | exact Below.refl _ _ | refine Below.drew ?_ | refine Below.alloc ?_ (by first | omega | (simp; done) | (simp; omega)) _ | refine bchain ?_ (by assumption) (by first | omega | (simp; done) | (simp; omega))))
  by_cases hg : u ≤ d
  · have eg : gain u d = 0 := by unfold gain; rw [if_neg (by omega)]
    have eG := Lib.hid eg; clear eg
    go_enter Tryz.func44, Tryz.ntmps44
    go_wp2_with (first | (go_at_call 59; refine (dailyGain_any _ _ hs _).mono ?_; rintro e w1 ⟨rfl, hb⟩; rw [eG.out]; have hc := (bcell hb).1; have hf := (bcell hb).2; have hz : w.heap.size < w1.heap.size := (by have := hb.size; (try simp at this); omega)) | go_in)
    all_goals (go_ret2; refine ⟨rIB ?_ ?_, ?_⟩)
    all_goals first | (unfold fd0; (repeat' split) <;> (first | rfl | omega)) | (unfold fd1; rw [Bool.eq_iff_iff]; simp only [decide_eq_true_eq, Bool.false_eq_true, false_iff, true_iff]; omega) | (repeat (first | exact Below.refl _ _ | refine Below.drew ?_ | refine Below.alloc ?_ (by first | omega | (simp; done) | (simp; omega)) _ | refine bchain ?_ (by assumption) (by first | omega | (simp; done) | (simp; omega))))
  · have eg : gain u d = u - d := by unfold gain; rw [if_pos (by omega)]
    have eG := Lib.hid eg; clear eg
    have a1 : (h - u + (u - d) - 1) / (u - d) ≤ h - u + (u - d) - 1 := Int.ediv_le_self _ (by omega)
    have a2 : 0 ≤ (h - u + (u - d) - 1) / (u - d) := Int.ediv_nonneg (by omega) (by omega)
    go_enter Tryz.func44, Tryz.ntmps44
    go_wp2_with (first | (go_at_call 59; refine (dailyGain_any _ _ hs _).mono ?_; rintro e w1 ⟨rfl, hb⟩; rw [eG.out]; have hc := (bcell hb).1; have hf := (bcell hb).2; have hz : w.heap.size < w1.heap.size := (by have := hb.size; (try simp at this); omega)) | go_in)
    all_goals (go_ret2; refine ⟨rIB ?_ ?_, ?_⟩)
    all_goals first | (unfold fd0; (repeat' split) <;> (first | rfl | omega)) | (unfold fd1; rw [Bool.eq_iff_iff]; simp only [decide_eq_true_eq, Bool.false_eq_true, false_iff, true_iff]; omega) | (repeat (first | exact Below.refl _ _ | refine Below.drew ?_ | refine Below.alloc ?_ (by first | omega | (simp; done) | (simp; omega)) _ | refine bchain ?_ (by assumption) (by first | omega | (simp; done) | (simp; omega))))
set_option maxHeartbeats 2000000 in
theorem snDays_any (u d h : Int) (hs : snOk u d = true) (ha : 0 ≤ h) (hb : h ≤ 1000000) (hf : fd1 u d h = true) (w : World) :
    Calls Tryz.prog 46 #[.agg #[.int .i64 u, .int .i64 d], .int .i64 h] w fun e w' => e = .returned (.int .i64 (fd0 u d h)) ∧ Below w.heap.size w w' := by
  have sl := snOk_iff.1 hs
  have sl1 := sl.1
  have sl2 := sl.2.1
  have sl3 := sl.2.2.1
  have sl4 := sl.2.2.2
  clear sl
  have hq := fd1_iff.1 hf
  by_cases hu : h ≤ u
  · go_enter Tryz.func46, Tryz.ntmps46
    go_wp2
    all_goals (go_ret; refine ⟨rI ?_, ?_⟩)
    all_goals first | (unfold fd0; (repeat' split) <;> (first | rfl | omega)) | (unfold fd1; rw [Bool.eq_iff_iff]; simp only [decide_eq_true_eq, Bool.false_eq_true, false_iff, true_iff]; omega) | (repeat (first | exact Below.refl _ _ | refine Below.drew ?_ | refine Below.alloc ?_ (by first | omega | (simp; done) | (simp; omega)) _ | refine bchain ?_ (by assumption) (by first | omega | (simp; done) | (simp; omega))))
  · have a1 : (h - u + (u - d) - 1) / (u - d) ≤ h - u + (u - d) - 1 := Int.ediv_le_self _ (by omega)
    have a2 : 0 ≤ (h - u + (u - d) - 1) / (u - d) := Int.ediv_nonneg (by omega) (by omega)
    go_enter Tryz.func46, Tryz.ntmps46
    go_wp2
    all_goals (go_ret; refine ⟨rI ?_, ?_⟩)
    all_goals first | (unfold fd0; (repeat' split) <;> (first | rfl | omega)) | (unfold fd1; rw [Bool.eq_iff_iff]; simp only [decide_eq_true_eq, Bool.false_eq_true, false_iff, true_iff]; omega) | (repeat (first | exact Below.refl _ _ | refine Below.drew ?_ | refine Below.alloc ?_ (by first | omega | (simp; done) | (simp; omega)) _ | refine bchain ?_ (by assumption) (by first | omega | (simp; done) | (simp; omega))))
set_option maxHeartbeats 2000000 in
theorem snCan_any (u d h : Int) (w : World) :
    Calls Tryz.prog 45 #[.agg #[.int .i64 u, .int .i64 d], .int .i64 h] w fun e w' => e = .returned (.bool (fd1 u d h)) ∧ Below w.heap.size w w' := by
  go_enter Tryz.func45, Tryz.ntmps45
  go_wp2
  all_goals (go_ret; refine ⟨rB ?_, ?_⟩)
  all_goals first | (unfold fd1; rw [Bool.eq_iff_iff]; simp only [decide_eq_true_eq, Bool.false_eq_true, false_iff, true_iff, Bool.or_eq_true] <;> omega) | (repeat (first | exact Below.refl _ _ | refine Below.drew ?_ | refine Below.alloc ?_ (by first | omega | (simp; done) | (simp; omega)) _ | refine bchain ?_ (by assumption) (by first | omega | (simp; done) | (simp; omega))))
set_option maxHeartbeats 2000000 in
theorem least_any (a b : Int) (w : World) :
    Calls Tryz.prog 42 #[.int .i64 a, .int .i64 b] w fun e w' => e = .returned (.int .i64 (low a b)) ∧ w = w' := by
  go_enter Tryz.func42, Tryz.ntmps42
  go_wp2
  all_goals (go_ret; refine ⟨rI ?_, rfl⟩)
  all_goals (unfold low; (repeat' split) <;> omega)
set_option maxHeartbeats 2000000 in
theorem morningAfter_any (a p n : Int) (h1 : 0 ≤ a) (h2 : a ≤ 2000000000) (h3 : 0 ≤ p) (h4 : p ≤ 1000) (w : World) :
    Calls Tryz.prog 37 #[.int .i64 a, .int .i64 p, .int .i64 n] w fun e w' => e = .returned (.int .i64 (mA a p n)) ∧ w = w' := by
  by_cases h : a = n
  all_goals
    go_enter Tryz.func37, Tryz.ntmps37
    go_wp2
    all_goals (go_ret; refine ⟨rI ?_, rfl⟩)
    all_goals (unfold mA; (repeat' split) <;> omega)
set_option maxHeartbeats 2000000 in
theorem eveningBelow_any (u d n y : Int) (hs : snOk u d = true) (hy : inB y 1 1000000 = true) (hn : inB n 1 1000000 = true) (w : World) :
    Calls Tryz.prog 38 #[.agg #[.int .i64 u, .int .i64 d], .int .i64 n, .int .i64 y] w fun e w' => e = .returned (.int .i64 (low n (far u d y))) ∧ Below w.heap.size w w' := by
  have nl := inB_iff.1 hn
  have nl1 := nl.1
  have nl2 := nl.2
  clear nl
  have fb := far_bd u d y hs hy
  go_enter Tryz.func38, Tryz.ntmps38
  go_wp2_with (first | (go_at_call 47; refine (farthest_any _ _ _ hs hy _).mono ?_; rintro e w1 ⟨rfl, hb⟩; have hc := (bcell hb).1; have hf := (bcell hb).2; have hz : w.heap.size < w1.heap.size := (by have := hb.size; (try simp at this); omega); have hcA := fun o => (bcell hb).1 w.heap.size o (by first | omega | (simp; omega) | (simp; done))) | go_in)
  all_goals (go_ret; refine ⟨rI ?_, ?_⟩)
  all_goals first | (unfold low; (repeat' split) <;> omega) | (repeat (first | exact Below.refl _ _ | refine Below.drew ?_ | refine Below.alloc ?_ (by first | omega | (simp; done) | (simp; omega)) _ | refine bchain ?_ (by assumption) (by first | omega | (simp; done) | (simp; omega))))
set_option maxHeartbeats 2000000 in
theorem snMorning_any (u d n y : Int) (hs : snOk u d = true) (hn : inB n 1 1000000 = true) (hy : inB y 1 1000000 = true) (w : World) :
    Calls Tryz.prog 41 #[.agg #[.int .i64 u, .int .i64 d], .int .i64 n, .int .i64 y] w fun e w' => e = .returned (.int .i64 (mor u d n y)) ∧ Below w.heap.size w w' := by
  have sl := snOk_iff.1 hs
  have sl1 := sl.1
  have sl2 := sl.2.1
  have sl3 := sl.2.2.1
  have sl4 := sl.2.2.2
  clear sl
  have nl := inB_iff.1 hn
  have nl1 := nl.1
  have nl2 := nl.2
  clear nl
  have yk := inB_iff.1 hy
  have yk1 := yk.1
  have yk2 := yk.2
  clear yk
  rcases Decidable.em (y = 1) with rfl | hd
  · go_enter Tryz.func41, Tryz.ntmps41
    go_wp2
    all_goals (go_ret; refine ⟨rI ?_, ?_⟩)
    all_goals first | rfl | (repeat (first | exact Below.refl _ _ | refine Below.drew ?_ | refine Below.alloc ?_ (by first | omega | (simp; done) | (simp; omega)) _ | refine bchain ?_ (by assumption) (by first | omega | (simp; done) | (simp; omega))))
  · have fb := far_bd u d (y - 1) hs (inB_pred hy hd)
    have lb := low_bd n (far u d (y - 1))
    by_cases he : low n (far u d (y - 1)) = n
    · have hE := Lib.hid he; have he2 : (low n (far u d (y - 1)) == n) = true := by rw [beq_iff_eq]; exact he
      clear he
      go_enter Tryz.func41, Tryz.ntmps41
      go_wp2_with (first | (go_at_call 43; refine (snEvening_any u d (y - 1) hs (inB_pred hy hd) _).mono ?_; rintro e w1 ⟨rfl, hb⟩; have hc := (bcell hb).1; have hf := (bcell hb).2; have hz : w.heap.size < w1.heap.size := (by have := hb.size; (try simp at this); omega); have hcA := fun o => (bcell hb).1 w.heap.size o (by first | omega | (simp; omega) | (simp; done))) | (go_at_call 42; refine (least_any _ _ _).mono ?_; rintro e w1 ⟨rfl, rfl⟩) | (go_at_call 57; refine (most_any _ _ _).mono ?_; rintro e w1 ⟨rfl, rfl⟩) | go_in)
      all_goals (go_ret; refine ⟨rI ?_, ?_⟩)
      all_goals first | (unfold mor mA; rw [if_neg hd, if_pos hE.out]) | (repeat (first | exact Below.refl _ _ | refine Below.drew ?_ | refine Below.alloc ?_ (by first | omega | (simp; done) | (simp; omega)) _ | refine bchain ?_ (by assumption) (by first | omega | (simp; done) | (simp; omega))))
    · go_enter Tryz.func41, Tryz.ntmps41
      go_wp2_with (first | (go_at_call 43; refine (snEvening_any u d (y - 1) hs (inB_pred hy hd) _).mono ?_; rintro e w1 ⟨rfl, hb⟩; have hc := (bcell hb).1; have hf := (bcell hb).2; have hz : w.heap.size < w1.heap.size := (by have := hb.size; (try simp at this); omega); have hcA := fun o => (bcell hb).1 w.heap.size o (by first | omega | (simp; omega) | (simp; done))) | (go_at_call 42; refine (least_any _ _ _).mono ?_; rintro e w1 ⟨rfl, rfl⟩) | (go_at_call 57; refine (most_any _ _ _).mono ?_; rintro e w1 ⟨rfl, rfl⟩) | go_in)
      all_goals (go_ret; refine ⟨rI ?_, ?_⟩)
      all_goals first | (unfold mor mA hig; rw [if_neg hd, if_neg he]; (repeat' split) <;> omega) | (unfold mor mA; rw [if_neg hd, if_neg he]; (repeat' split) <;> omega) | (repeat (first | exact Below.refl _ _ | refine Below.drew ?_ | refine Below.alloc ?_ (by first | omega | (simp; done) | (simp; omega)) _ | refine bchain ?_ (by assumption) (by first | omega | (simp; done) | (simp; omega))))
set_option maxHeartbeats 2000000 in
theorem specCanClimb (u d n : Int) (w : World) :
    Calls Tryz.prog 13 #[.agg #[.int .i64 u, .int .i64 d], .int .i64 n] w fun e w' => e = .returned (.tuple #[.bool ((snOk u d && inB n 1 1000000) && fd1 u d n), .bool (snOk u d && inB n 1 1000000)]) ∧ Below w.heap.size w w' := by
  cases hs : snOk u d <;> cases hn : inB n 1 1000000
  all_goals
    go_enter Tryz.func13, Tryz.ntmps13
    go_wp2_with (first | (go_at_call 58; refine (specIn _ _ _ _).mono ?_; rintro e w1 ⟨rfl, rfl⟩) | (go_at_call 48; refine (snGood_any _ _ _).mono ?_; rintro e w1 ⟨rfl, hb⟩; have hc := (bcell hb).1; have hf := (bcell hb).2; have hz : w.heap.size < w1.heap.size := (by have := hb.size; (try simp at this); omega); have hcA := fun o => (bcell hb).1 w.heap.size o (by first | omega | (simp; omega) | (simp; done))) | (go_at_call 45; refine (snCan_any _ _ _ _).mono ?_; rintro e w1 ⟨rfl, hb⟩; have hc := (bcell hb).1; have hf := (bcell hb).2; have hz : w.heap.size < w1.heap.size := (by have := hb.size; (try simp at this); omega); have hcA := fun o => (bcell hb).1 w.heap.size o (by first | omega | (simp; omega) | (simp; done))) | go_in)
    all_goals (go_ret2; refine ⟨rBB ?_ ?_, ?_⟩)
    all_goals first | (simp [hs, hn]) | (repeat (first | exact Below.refl _ _ | refine Below.drew ?_ | refine Below.alloc ?_ (by first | omega | (simp; done) | (simp; omega)) _ | refine bchain ?_ (by assumption) (by first | omega | (simp; done) | (simp; omega))))
set_option maxHeartbeats 2000000 in
theorem specDaysToTop (u d n : Int) (w : World) :
    Calls Tryz.prog 11 #[.agg #[.int .i64 u, .int .i64 d], .int .i64 n] w fun e w' => e = .returned (.tuple #[.int .i64 (if (snOk u d && inB n 1 1000000) && fd1 u d n then fd0 u d n else 0), .bool ((snOk u d && inB n 1 1000000) && fd1 u d n)]) ∧ Below w.heap.size w w' := by
  cases hs : snOk u d <;> cases hn : inB n 1 1000000 <;> cases hc0 : fd1 u d n
  all_goals
    go_enter Tryz.func11, Tryz.ntmps11
    go_wp2_with (first | (go_at_call 58; refine (specIn _ _ _ _).mono ?_; rintro e w1 ⟨rfl, rfl⟩) | (go_at_call 48; refine (snGood_any _ _ _).mono ?_; rintro e w1 ⟨rfl, hb⟩; have hc := (bcell hb).1; have hf := (bcell hb).2; have hz : w.heap.size < w1.heap.size := (by have := hb.size; (try simp at this); omega); have hcA := fun o => (bcell hb).1 w.heap.size o (by first | omega | (simp; omega) | (simp; done))) | (go_at_call 45; refine (snCan_any _ _ _ _).mono ?_; rintro e w1 ⟨rfl, hb⟩; have hc := (bcell hb).1; have hf := (bcell hb).2; have hz : w.heap.size < w1.heap.size := (by have := hb.size; (try simp at this); omega); have hcA := fun o => (bcell hb).1 w.heap.size o (by first | omega | (simp; omega) | (simp; done))) | (go_at_call 46; refine (snDays_any u d n hs (by have := inB_iff.1 hn; omega) (by have := inB_iff.1 hn; omega) hc0 _).mono ?_; rintro e w1 ⟨rfl, hb⟩; have hc := (bcell hb).1; have hf := (bcell hb).2; have hz : w.heap.size < w1.heap.size := (by have := hb.size; (try simp at this); omega); have hcA := fun o => (bcell hb).1 w.heap.size o (by first | omega | (simp; omega) | (simp; done))) | go_in)
    all_goals (go_ret2; refine ⟨rIB ?_ ?_, ?_⟩)
    all_goals first | (simp [hs, hn, hc0]; done) | (simp [hs, hn, hc0, fd0_zero, low, mor]; done) | (simp [hs, hn, hc0, low, mor]; omega) | (repeat (first | exact Below.refl _ _ | refine Below.drew ?_ | refine Below.alloc ?_ (by first | omega | (simp; done) | (simp; omega)) _ | refine bchain ?_ (by assumption) (by first | omega | (simp; done) | (simp; omega))))
set_option maxHeartbeats 2000000 in
theorem specEveningHeight (u d n y : Int) (w : World) :
    Calls Tryz.prog 9 #[.agg #[.int .i64 u, .int .i64 d], .int .i64 n, .int .i64 y] w fun e w' => e = .returned (.tuple #[.int .i64 (if (snOk u d && inB n 1 1000000 && inB y 1 1000000) then low n (far u d y) else 0), .bool (snOk u d && inB n 1 1000000 && inB y 1 1000000)]) ∧ Below w.heap.size w w' := by
  cases hs : snOk u d <;> cases hn : inB n 1 1000000 <;> cases hy : inB y 1 1000000
  all_goals
    go_enter Tryz.func9, Tryz.ntmps9
    go_wp2_with (first | (go_at_call 58; refine (specIn _ _ _ _).mono ?_; rintro e w1 ⟨rfl, rfl⟩) | (go_at_call 48; refine (snGood_any _ _ _).mono ?_; rintro e w1 ⟨rfl, hb⟩; have hc := (bcell hb).1; have hf := (bcell hb).2; have hz : w.heap.size < w1.heap.size := (by have := hb.size; (try simp at this); omega); have hcA := fun o => (bcell hb).1 w.heap.size o (by first | omega | (simp; omega) | (simp; done))) | (go_at_call 45; refine (snCan_any _ _ _ _).mono ?_; rintro e w1 ⟨rfl, hb⟩; have hc := (bcell hb).1; have hf := (bcell hb).2; have hz : w.heap.size < w1.heap.size := (by have := hb.size; (try simp at this); omega); have hcA := fun o => (bcell hb).1 w.heap.size o (by first | omega | (simp; omega) | (simp; done))) | (go_at_call 43; refine (snEvening_any _ _ _ hs hy _).mono ?_; rintro e w1 ⟨rfl, hb⟩; have hc := (bcell hb).1; have hf := (bcell hb).2; have hz : w.heap.size < w1.heap.size := (by have := hb.size; (try simp at this); omega); have hcA := fun o => (bcell hb).1 w.heap.size o (by first | omega | (simp; omega) | (simp; done))) | go_in)
    all_goals (go_ret2; refine ⟨rIB ?_ ?_, ?_⟩)
    all_goals first | (simp [hs, hn, hy]; done) | (simp [hs, hn, hy, fd0_zero, low, mor]; done) | (simp [hs, hn, hy, low, mor]; omega) | (repeat (first | exact Below.refl _ _ | refine Below.drew ?_ | refine Below.alloc ?_ (by first | omega | (simp; done) | (simp; omega)) _ | refine bchain ?_ (by assumption) (by first | omega | (simp; done) | (simp; omega))))
set_option maxHeartbeats 2000000 in
theorem specGreatestWall (u d y : Int) (w : World) :
    Calls Tryz.prog 15 #[.agg #[.int .i64 u, .int .i64 d], .int .i64 y] w fun e w' => e = .returned (.tuple #[.int .i64 (if (snOk u d && inB y 1 1000000) then far u d y else 0), .bool (snOk u d && inB y 1 1000000)]) ∧ Below w.heap.size w w' := by
  cases hs : snOk u d <;> cases hy : inB y 1 1000000
  all_goals
    go_enter Tryz.func15, Tryz.ntmps15
    go_wp2_with (first | (go_at_call 58; refine (specIn _ _ _ _).mono ?_; rintro e w1 ⟨rfl, rfl⟩) | (go_at_call 48; refine (snGood_any _ _ _).mono ?_; rintro e w1 ⟨rfl, hb⟩; have hc := (bcell hb).1; have hf := (bcell hb).2; have hz : w.heap.size < w1.heap.size := (by have := hb.size; (try simp at this); omega); have hcA := fun o => (bcell hb).1 w.heap.size o (by first | omega | (simp; omega) | (simp; done))) | (go_at_call 45; refine (snCan_any _ _ _ _).mono ?_; rintro e w1 ⟨rfl, hb⟩; have hc := (bcell hb).1; have hf := (bcell hb).2; have hz : w.heap.size < w1.heap.size := (by have := hb.size; (try simp at this); omega); have hcA := fun o => (bcell hb).1 w.heap.size o (by first | omega | (simp; omega) | (simp; done))) | (go_at_call 43; refine (snEvening_any _ _ _ hs hy _).mono ?_; rintro e w1 ⟨rfl, hb⟩; have hc := (bcell hb).1; have hf := (bcell hb).2; have hz : w.heap.size < w1.heap.size := (by have := hb.size; (try simp at this); omega); have hcA := fun o => (bcell hb).1 w.heap.size o (by first | omega | (simp; omega) | (simp; done))) | go_in)
    all_goals (go_ret2; refine ⟨rIB ?_ ?_, ?_⟩)
    all_goals first | (simp [hs, hy]; done) | (simp [hs, hy, fd0_zero, low, mor]; done) | (simp [hs, hy, low, mor]; omega) | (repeat (first | exact Below.refl _ _ | refine Below.drew ?_ | refine Below.alloc ?_ (by first | omega | (simp; done) | (simp; omega)) _ | refine bchain ?_ (by assumption) (by first | omega | (simp; done) | (simp; omega))))
set_option maxHeartbeats 2000000 in
theorem specDayOfHeight (u d n h : Int) (w : World) :
    Calls Tryz.prog 23 #[.agg #[.int .i64 u, .int .i64 d], .int .i64 n, .int .i64 h] w fun e w' => e = .returned (.tuple #[.int .i64 (if (snOk u d && inB n 1 1000000 && inB h 0 n) && fd1 u d h then fd0 u d h else 0), .bool ((snOk u d && inB n 1 1000000 && inB h 0 n) && fd1 u d h)]) ∧ Below w.heap.size w w' := by
  cases hs : snOk u d <;> cases hn : inB n 1 1000000 <;> cases hh : inB h 0 n <;> cases hc0 : fd1 u d h
  all_goals
    go_enter Tryz.func23, Tryz.ntmps23
    go_wp2_with (first | (go_at_call 58; refine (specIn _ _ _ _).mono ?_; rintro e w1 ⟨rfl, rfl⟩) | (go_at_call 48; refine (snGood_any _ _ _).mono ?_; rintro e w1 ⟨rfl, hb⟩; have hc := (bcell hb).1; have hf := (bcell hb).2; have hz : w.heap.size < w1.heap.size := (by have := hb.size; (try simp at this); omega); have hcA := fun o => (bcell hb).1 w.heap.size o (by first | omega | (simp; omega) | (simp; done))) | (go_at_call 45; refine (snCan_any _ _ _ _).mono ?_; rintro e w1 ⟨rfl, hb⟩; have hc := (bcell hb).1; have hf := (bcell hb).2; have hz : w.heap.size < w1.heap.size := (by have := hb.size; (try simp at this); omega); have hcA := fun o => (bcell hb).1 w.heap.size o (by first | omega | (simp; omega) | (simp; done))) | (go_at_call 46; refine (snDays_any _ _ _ hs (by have := inB_iff.1 hh; omega) (by have := inB_iff.1 hh; have := inB_iff.1 hn; omega) hc0 _).mono ?_; rintro e w1 ⟨rfl, hb⟩; have hc := (bcell hb).1; have hf := (bcell hb).2; have hz : w.heap.size < w1.heap.size := (by have := hb.size; (try simp at this); omega); have hcA := fun o => (bcell hb).1 w.heap.size o (by first | omega | (simp; omega) | (simp; done))) | go_in)
    all_goals (go_ret2; refine ⟨rIB ?_ ?_, ?_⟩)
    all_goals first | (simp [hs, hn, hh, hc0]; done) | (simp [hs, hn, hh, hc0, fd0_zero, low, mor]; done) | (simp [hs, hn, hh, hc0, low, mor]; omega) | (repeat (first | exact Below.refl _ _ | refine Below.drew ?_ | refine Below.alloc ?_ (by first | omega | (simp; done) | (simp; omega)) _ | refine bchain ?_ (by assumption) (by first | omega | (simp; done) | (simp; omega))))
set_option maxHeartbeats 2000000 in
theorem implCanClimb (u d n : Int) (w : World) :
    Calls Tryz.prog 12 #[.agg #[.int .i64 u, .int .i64 d], .int .i64 n] w fun e w' => e = .returned (.tuple #[.bool ((snOk u d && inB n 1 1000000) && fd1 u d n), .bool (snOk u d && inB n 1 1000000)]) ∧ Below w.heap.size w w' := by
  cases hs : snOk u d <;> cases hn : inB n 1 1000000
  all_goals
    go_enter Tryz.func12, Tryz.ntmps12
    go_wp2_with (first | (go_at_call 51; refine (implIn _ _ _ _).mono ?_; rintro e w1 ⟨rfl, rfl⟩) | (go_at_call 18; refine (implIsSnail _ _ _).mono ?_; rintro e w1 ⟨rfl, hb⟩; have hc := (bcell hb).1; have hf := (bcell hb).2; have hz : w.heap.size < w1.heap.size := (by have := hb.size; (try simp at this); omega); have hcA := fun o => (bcell hb).1 w.heap.size o (by first | omega | (simp; omega) | (simp; done))) | (go_at_call 44; refine (firstDayAt_any u d n hs (by have := inB_iff.1 hn; omega) (by have := inB_iff.1 hn; omega) _).mono ?_; rintro e w1 ⟨rfl, hb⟩; have hc := (bcell hb).1; have hf := (bcell hb).2; have hz : w.heap.size < w1.heap.size := (by have := hb.size; (try simp at this); omega); have hcA := fun o => (bcell hb).1 w.heap.size o (by first | omega | (simp; omega) | (simp; done))) | go_in)
    all_goals (go_ret2; refine ⟨rBB ?_ ?_, ?_⟩)
    all_goals first | (simp [hs, hn]) | (repeat (first | exact Below.refl _ _ | refine Below.drew ?_ | refine Below.alloc ?_ (by first | omega | (simp; done) | (simp; omega)) _ | refine bchain ?_ (by assumption) (by first | omega | (simp; done) | (simp; omega))))
set_option maxHeartbeats 2000000 in
theorem implDaysToTop (u d n : Int) (w : World) :
    Calls Tryz.prog 10 #[.agg #[.int .i64 u, .int .i64 d], .int .i64 n] w fun e w' => e = .returned (.tuple #[.int .i64 (if (snOk u d && inB n 1 1000000) && fd1 u d n then fd0 u d n else 0), .bool ((snOk u d && inB n 1 1000000) && fd1 u d n)]) ∧ Below w.heap.size w w' := by
  cases hs : snOk u d <;> cases hn : inB n 1 1000000 <;> cases hc0 : fd1 u d n
  all_goals
    go_enter Tryz.func10, Tryz.ntmps10
    go_wp2_with (first | (go_at_call 51; refine (implIn _ _ _ _).mono ?_; rintro e w1 ⟨rfl, rfl⟩) | (go_at_call 18; refine (implIsSnail _ _ _).mono ?_; rintro e w1 ⟨rfl, hb⟩; have hc := (bcell hb).1; have hf := (bcell hb).2; have hz : w.heap.size < w1.heap.size := (by have := hb.size; (try simp at this); omega); have hcA := fun o => (bcell hb).1 w.heap.size o (by first | omega | (simp; omega) | (simp; done))) | (go_at_call 44; refine (firstDayAt_any u d n hs (by have := inB_iff.1 hn; omega) (by have := inB_iff.1 hn; omega) _).mono ?_; rintro e w1 ⟨rfl, hb⟩; have hc := (bcell hb).1; have hf := (bcell hb).2; have hz : w.heap.size < w1.heap.size := (by have := hb.size; (try simp at this); omega); have hcA := fun o => (bcell hb).1 w.heap.size o (by first | omega | (simp; omega) | (simp; done))) | go_in)
    all_goals (go_ret2; refine ⟨rIB ?_ ?_, ?_⟩)
    all_goals first | (simp [hs, hn, hc0]; done) | (simp [hs, hn, hc0, fd0_zero, low, mor]; done) | (simp [hs, hn, hc0, low, mor]; omega) | (repeat (first | exact Below.refl _ _ | refine Below.drew ?_ | refine Below.alloc ?_ (by first | omega | (simp; done) | (simp; omega)) _ | refine bchain ?_ (by assumption) (by first | omega | (simp; done) | (simp; omega))))
set_option maxHeartbeats 2000000 in
theorem implEveningHeight (u d n y : Int) (w : World) :
    Calls Tryz.prog 8 #[.agg #[.int .i64 u, .int .i64 d], .int .i64 n, .int .i64 y] w fun e w' => e = .returned (.tuple #[.int .i64 (if (snOk u d && inB n 1 1000000 && inB y 1 1000000) then low n (far u d y) else 0), .bool (snOk u d && inB n 1 1000000 && inB y 1 1000000)]) ∧ Below w.heap.size w w' := by
  cases hs : snOk u d <;> cases hn : inB n 1 1000000 <;> cases hy : inB y 1 1000000
  all_goals
    go_enter Tryz.func8, Tryz.ntmps8
    go_wp2_with (first | (go_at_call 51; refine (implIn _ _ _ _).mono ?_; rintro e w1 ⟨rfl, rfl⟩) | (go_at_call 18; refine (implIsSnail _ _ _).mono ?_; rintro e w1 ⟨rfl, hb⟩; have hc := (bcell hb).1; have hf := (bcell hb).2; have hz : w.heap.size < w1.heap.size := (by have := hb.size; (try simp at this); omega); have hcA := fun o => (bcell hb).1 w.heap.size o (by first | omega | (simp; omega) | (simp; done))) | (go_at_call 38; refine (eveningBelow_any _ _ _ _ hs hy hn _).mono ?_; rintro e w1 ⟨rfl, hb⟩; have hc := (bcell hb).1; have hf := (bcell hb).2; have hz : w.heap.size < w1.heap.size := (by have := hb.size; (try simp at this); omega); have hcA := fun o => (bcell hb).1 w.heap.size o (by first | omega | (simp; omega) | (simp; done))) | go_in)
    all_goals (go_ret2; refine ⟨rIB ?_ ?_, ?_⟩)
    all_goals first | (simp [hs, hn, hy]; done) | (simp [hs, hn, hy, fd0_zero, low, mor]; done) | (simp [hs, hn, hy, low, mor]; omega) | (repeat (first | exact Below.refl _ _ | refine Below.drew ?_ | refine Below.alloc ?_ (by first | omega | (simp; done) | (simp; omega)) _ | refine bchain ?_ (by assumption) (by first | omega | (simp; done) | (simp; omega))))
set_option maxHeartbeats 2000000 in
theorem implGreatestWall (u d y : Int) (w : World) :
    Calls Tryz.prog 14 #[.agg #[.int .i64 u, .int .i64 d], .int .i64 y] w fun e w' => e = .returned (.tuple #[.int .i64 (if (snOk u d && inB y 1 1000000) then far u d y else 0), .bool (snOk u d && inB y 1 1000000)]) ∧ Below w.heap.size w w' := by
  cases hs : snOk u d <;> cases hy : inB y 1 1000000
  all_goals
    go_enter Tryz.func14, Tryz.ntmps14
    go_wp2_with (first | (go_at_call 51; refine (implIn _ _ _ _).mono ?_; rintro e w1 ⟨rfl, rfl⟩) | (go_at_call 18; refine (implIsSnail _ _ _).mono ?_; rintro e w1 ⟨rfl, hb⟩; have hc := (bcell hb).1; have hf := (bcell hb).2; have hz : w.heap.size < w1.heap.size := (by have := hb.size; (try simp at this); omega); have hcA := fun o => (bcell hb).1 w.heap.size o (by first | omega | (simp; omega) | (simp; done))) | (go_at_call 47; refine (farthest_any _ _ _ hs hy _).mono ?_; rintro e w1 ⟨rfl, hb⟩; have hc := (bcell hb).1; have hf := (bcell hb).2; have hz : w.heap.size < w1.heap.size := (by have := hb.size; (try simp at this); omega); have hcA := fun o => (bcell hb).1 w.heap.size o (by first | omega | (simp; omega) | (simp; done))) | go_in)
    all_goals (go_ret2; refine ⟨rIB ?_ ?_, ?_⟩)
    all_goals first | (simp [hs, hy]; done) | (simp [hs, hy, fd0_zero, low, mor]; done) | (simp [hs, hy, low, mor]; omega) | (repeat (first | exact Below.refl _ _ | refine Below.drew ?_ | refine Below.alloc ?_ (by first | omega | (simp; done) | (simp; omega)) _ | refine bchain ?_ (by assumption) (by first | omega | (simp; done) | (simp; omega))))
set_option maxHeartbeats 2000000 in
theorem implDayOfHeight (u d n h : Int) (w : World) :
    Calls Tryz.prog 22 #[.agg #[.int .i64 u, .int .i64 d], .int .i64 n, .int .i64 h] w fun e w' => e = .returned (.tuple #[.int .i64 (if (snOk u d && inB n 1 1000000 && inB h 0 n) && fd1 u d h then fd0 u d h else 0), .bool ((snOk u d && inB n 1 1000000 && inB h 0 n) && fd1 u d h)]) ∧ Below w.heap.size w w' := by
  cases hs : snOk u d <;> cases hn : inB n 1 1000000 <;> cases hh : inB h 0 n <;> cases hc0 : fd1 u d h
  all_goals
    go_enter Tryz.func22, Tryz.ntmps22
    go_wp2_with (first | (go_at_call 51; refine (implIn _ _ _ _).mono ?_; rintro e w1 ⟨rfl, rfl⟩) | (go_at_call 18; refine (implIsSnail _ _ _).mono ?_; rintro e w1 ⟨rfl, hb⟩; have hc := (bcell hb).1; have hf := (bcell hb).2; have hz : w.heap.size < w1.heap.size := (by have := hb.size; (try simp at this); omega); have hcA := fun o => (bcell hb).1 w.heap.size o (by first | omega | (simp; omega) | (simp; done))) | (go_at_call 44; refine (firstDayAt_any _ _ _ hs (by have := inB_iff.1 hh; omega) (by have := inB_iff.1 hh; have := inB_iff.1 hn; omega) _).mono ?_; rintro e w1 ⟨rfl, hb⟩; have hc := (bcell hb).1; have hf := (bcell hb).2; have hz : w.heap.size < w1.heap.size := (by have := hb.size; (try simp at this); omega); have hcA := fun o => (bcell hb).1 w.heap.size o (by first | omega | (simp; omega) | (simp; done))) | go_in)
    all_goals (go_ret2; refine ⟨rIB ?_ ?_, ?_⟩)
    all_goals first | (simp [hs, hn, hh, hc0]; done) | (simp [hs, hn, hh, hc0, fd0_zero, low, mor]; done) | (simp [hs, hn, hh, hc0, low, mor]; omega) | (repeat (first | exact Below.refl _ _ | refine Below.drew ?_ | refine Below.alloc ?_ (by first | omega | (simp; done) | (simp; omega)) _ | refine bchain ?_ (by assumption) (by first | omega | (simp; done) | (simp; omega))))
end Go.Proofs.YtalnellimbehoaaGreatDoor
