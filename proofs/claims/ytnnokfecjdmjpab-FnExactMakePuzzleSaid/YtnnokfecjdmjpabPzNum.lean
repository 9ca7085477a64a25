/- Puzzles (chapter 9): the functions on single clues and snails, the model's and the program's, by contracts. -/
import Derived.Test.YtnnokfecjdmjpabProg
import Derived.Test.YtnnokfecjdmjpabPzMath
import Derived.Test.YtnnokfecjdmjpabTwoWalks
import Derived.Test.YtnnokfecjdmjpabOneWalks
import Derived.WalkKit
import Derived.WalkSpells
import Derived.WalkLawsBesides
import Derived.Lib.Hide
import Derived.Deep.RegionWith
import Derived.Deep.QuietTactic
import Derived.Deep.RegionHeld3
import Derived.BigQuiet
namespace Go.Proofs.Ytnnokfecjdmjpab
open Go.RowKit
set_option linter.unusedVariables false
set_option linter.unusedSimpArgs false
set_option maxHeartbeats 2000000 in
theorem toClue_any (k a b : Int) (w : World) :
    Calls Try.prog 42 #[.agg #[.int .i64 k, .int .i64 a, .int .i64 b]] w fun e w' => e = .returned (.agg #[.int .i64 k, .int .i64 a, .int .i64 b]) ∧ Below w.heap.size w w' := by
  go_enter Try.func42, Try.ntmps42
  go_wp2
  exact bodyPost_ret (v := .agg #[.int .i64 k, .int .i64 a, .int .i64 b]) (by simp [results, Try.results42, go_sem]) rfl ⟨rfl, by (repeat (first | exact Below.refl _ _ | refine Below.drew ?_ | refine below_drewN ?_ _ | refine Below.setCell ?_ (by first | omega | (simp; done) | (simp; omega)) _ | refine Below.alloc ?_ (by first | omega | (simp; done) | (simp; omega)) _ | refine bchain ?_ (by assumption) (by first | omega | (simp; done) | (simp; omega))))⟩
set_option maxHeartbeats 1000000 in
theorem eqClue_same (k a b : Int) (w : World) :
    Calls Try.prog 46 #[.agg #[.int .i64 k, .int .i64 a, .int .i64 b], .agg #[.int .i64 k, .int .i64 a, .int .i64 b]] w fun e w' => e = .returned (.bool true) ∧ Below w.heap.size w w' := by
  go_enter Try.func46, Try.ntmps46
  go_wp2_with fail
  go_ret
  exact ⟨rfl, ((Below.refl _ _).alloc (Nat.le_refl _) _).alloc (by simp) _⟩
set_option maxHeartbeats 8000000 in
theorem pzClue_any (k a b : Int) (w : World) :
    Calls Try.prog 40 #[.agg #[.int .i64 k, .int .i64 a, .int .i64 b]] w fun e w' => e = .returned (.bool (clB k a b)) ∧ Below w.heap.size w w' := by
  by_cases h0 : k = 0
  · subst h0
    rw [clB_0]
    cases h1 : inB a 1 100
    all_goals
      go_enter Try.func40, Try.ntmps40
      go_wp2_with (first | (go_at_call 32; refine (specIn _ _ _ _).mono ?_; rintro e w1 ⟨rfl, rfl⟩))
      all_goals (go_ret; refine ⟨rB ?_, ?_⟩)
      all_goals first | (simp [h1]; done) | (repeat (first | exact Below.refl _ _ | refine Below.drew ?_ | refine below_drewN ?_ _ | refine Below.setCell ?_ (by first | omega | (simp; done) | (simp; omega)) _ | refine Below.alloc ?_ (by first | omega | (simp; done) | (simp; omega)) _ | refine bchain ?_ (by assumption) (by first | omega | (simp; done) | (simp; omega))))
  by_cases h1 : k = 1
  · subst h1
    rw [clB_1]
    cases h1 : inB a 1 100
    all_goals
      go_enter Try.func40, Try.ntmps40
      go_wp2_with (first | (go_at_call 32; refine (specIn _ _ _ _).mono ?_; rintro e w1 ⟨rfl, rfl⟩))
      all_goals (go_ret; refine ⟨rB ?_, ?_⟩)
      all_goals first | (simp [h1]; done) | (repeat (first | exact Below.refl _ _ | refine Below.drew ?_ | refine below_drewN ?_ _ | refine Below.setCell ?_ (by first | omega | (simp; done) | (simp; omega)) _ | refine Below.alloc ?_ (by first | omega | (simp; done) | (simp; omega)) _ | refine bchain ?_ (by assumption) (by first | omega | (simp; done) | (simp; omega))))
  by_cases h2 : k = 2
  · subst h2
    rw [clB_2]
    by_cases h1 : a = 0
    all_goals
      go_enter Try.func40, Try.ntmps40
      go_wp2_with (first | (go_at_call 32; refine (specIn _ _ _ _).mono ?_; rintro e w1 ⟨rfl, rfl⟩))
      all_goals (go_ret; refine ⟨rB ?_, ?_⟩)
      all_goals first | (simp [h1]; done) | (repeat (first | exact Below.refl _ _ | refine Below.drew ?_ | refine below_drewN ?_ _ | refine Below.setCell ?_ (by first | omega | (simp; done) | (simp; omega)) _ | refine Below.alloc ?_ (by first | omega | (simp; done) | (simp; omega)) _ | refine bchain ?_ (by assumption) (by first | omega | (simp; done) | (simp; omega))))
  by_cases h3 : k = 3
  · subst h3
    rw [clB_3]
    cases h1 : inB a 2 9
    all_goals
      go_enter Try.func40, Try.ntmps40
      go_wp2_with (first | (go_at_call 32; refine (specIn _ _ _ _).mono ?_; rintro e w1 ⟨rfl, rfl⟩))
      all_goals (go_ret; refine ⟨rB ?_, ?_⟩)
      all_goals first | (simp [h1]; done) | (repeat (first | exact Below.refl _ _ | refine Below.drew ?_ | refine below_drewN ?_ _ | refine Below.setCell ?_ (by first | omega | (simp; done) | (simp; omega)) _ | refine Below.alloc ?_ (by first | omega | (simp; done) | (simp; omega)) _ | refine bchain ?_ (by assumption) (by first | omega | (simp; done) | (simp; omega))))
  by_cases h4 : k = 4
  · subst h4
    rw [clB_4]
    by_cases h1 : a = 0
    all_goals
      go_enter Try.func40, Try.ntmps40
      go_wp2_with (first | (go_at_call 32; refine (specIn _ _ _ _).mono ?_; rintro e w1 ⟨rfl, rfl⟩))
      all_goals (go_ret; refine ⟨rB ?_, ?_⟩)
      all_goals first | (simp [h1]; done) | (repeat (first | exact Below.refl _ _ | refine Below.drew ?_ | refine below_drewN ?_ _ | refine Below.setCell ?_ (by first | omega | (simp; done) | (simp; omega)) _ | refine Below.alloc ?_ (by first | omega | (simp; done) | (simp; omega)) _ | refine bchain ?_ (by assumption) (by first | omega | (simp; done) | (simp; omega))))
  · rw [clB_no a b h0 h1 h2 h3 h4]
    go_enter Try.func40, Try.ntmps40
    go_wp2_with fail
    go_ret
    exact ⟨rfl, by (repeat (first | exact Below.refl _ _ | refine Below.drew ?_ | refine below_drewN ?_ _ | refine Below.setCell ?_ (by first | omega | (simp; done) | (simp; omega)) _ | refine Below.alloc ?_ (by first | omega | (simp; done) | (simp; omega)) _ | refine bchain ?_ (by assumption) (by first | omega | (simp; done) | (simp; omega))))⟩
set_option maxHeartbeats 8000000 in
theorem implIsClue (k a b : Int) (w : World) :
    Calls Try.prog 55 #[.agg #[.int .i64 k, .int .i64 a, .int .i64 b]] w fun e w' => e = .returned (.bool (clB k a b)) ∧ Below w.heap.size w w' := by
  by_cases h0 : k = 0
  · subst h0
    rw [clB_0]
    cases h1 : inB a 1 100
    all_goals
      go_enter Try.func55, Try.ntmps55
      go_wp2_with (first | (go_at_call 36; refine (implIn _ _ _ _).mono ?_; rintro e w1 ⟨rfl, rfl⟩))
      all_goals (go_ret; refine ⟨rB ?_, ?_⟩)
      all_goals first | (simp [h1]; done) | (repeat (first | exact Below.refl _ _ | refine Below.drew ?_ | refine below_drewN ?_ _ | refine Below.setCell ?_ (by first | omega | (simp; done) | (simp; omega)) _ | refine Below.alloc ?_ (by first | omega | (simp; done) | (simp; omega)) _ | refine bchain ?_ (by assumption) (by first | omega | (simp; done) | (simp; omega))))
  by_cases h1 : k = 1
  · subst h1
    rw [clB_1]
    cases h1 : inB a 1 100
    all_goals
      go_enter Try.func55, Try.ntmps55
      go_wp2_with (first | (go_at_call 36; refine (implIn _ _ _ _).mono ?_; rintro e w1 ⟨rfl, rfl⟩))
      all_goals (go_ret; refine ⟨rB ?_, ?_⟩)
      all_goals first | (simp [h1]; done) | (repeat (first | exact Below.refl _ _ | refine Below.drew ?_ | refine below_drewN ?_ _ | refine Below.setCell ?_ (by first | omega | (simp; done) | (simp; omega)) _ | refine Below.alloc ?_ (by first | omega | (simp; done) | (simp; omega)) _ | refine bchain ?_ (by assumption) (by first | omega | (simp; done) | (simp; omega))))
  by_cases h2 : k = 2
  · subst h2
    rw [clB_2]
    by_cases h1 : a = 0
    all_goals
      go_enter Try.func55, Try.ntmps55
      go_wp2_with (first | (go_at_call 36; refine (implIn _ _ _ _).mono ?_; rintro e w1 ⟨rfl, rfl⟩))
      all_goals (go_ret; refine ⟨rB ?_, ?_⟩)
      all_goals first | (simp [h1]; done) | (repeat (first | exact Below.refl _ _ | refine Below.drew ?_ | refine below_drewN ?_ _ | refine Below.setCell ?_ (by first | omega | (simp; done) | (simp; omega)) _ | refine Below.alloc ?_ (by first | omega | (simp; done) | (simp; omega)) _ | refine bchain ?_ (by assumption) (by first | omega | (simp; done) | (simp; omega))))
  by_cases h3 : k = 3
  · subst h3
    rw [clB_3]
    cases h1 : inB a 2 9
    all_goals
      go_enter Try.func55, Try.ntmps55
      go_wp2_with (first | (go_at_call 36; refine (implIn _ _ _ _).mono ?_; rintro e w1 ⟨rfl, rfl⟩))
      all_goals (go_ret; refine ⟨rB ?_, ?_⟩)
      all_goals first | (simp [h1]; done) | (repeat (first | exact Below.refl _ _ | refine Below.drew ?_ | refine below_drewN ?_ _ | refine Below.setCell ?_ (by first | omega | (simp; done) | (simp; omega)) _ | refine Below.alloc ?_ (by first | omega | (simp; done) | (simp; omega)) _ | refine bchain ?_ (by assumption) (by first | omega | (simp; done) | (simp; omega))))
  by_cases h4 : k = 4
  · subst h4
    rw [clB_4]
    by_cases h1 : a = 0
    all_goals
      go_enter Try.func55, Try.ntmps55
      go_wp2_with (first | (go_at_call 36; refine (implIn _ _ _ _).mono ?_; rintro e w1 ⟨rfl, rfl⟩))
      all_goals (go_ret; refine ⟨rB ?_, ?_⟩)
      all_goals first | (simp [h1]; done) | (repeat (first | exact Below.refl _ _ | refine Below.drew ?_ | refine below_drewN ?_ _ | refine Below.setCell ?_ (by first | omega | (simp; done) | (simp; omega)) _ | refine Below.alloc ?_ (by first | omega | (simp; done) | (simp; omega)) _ | refine bchain ?_ (by assumption) (by first | omega | (simp; done) | (simp; omega))))
  · rw [clB_no a b h0 h1 h2 h3 h4]
    go_enter Try.func55, Try.ntmps55
    go_wp2_with fail
    go_ret
    exact ⟨rfl, by (repeat (first | exact Below.refl _ _ | refine Below.drew ?_ | refine below_drewN ?_ _ | refine Below.setCell ?_ (by first | omega | (simp; done) | (simp; omega)) _ | refine Below.alloc ?_ (by first | omega | (simp; done) | (simp; omega)) _ | refine bchain ?_ (by assumption) (by first | omega | (simp; done) | (simp; omega))))⟩
set_option maxHeartbeats 2000000 in
theorem isHidden_any (u d : Int) (w : World) :
    Calls Try.prog 35 #[.agg #[.int .i64 u, .int .i64 d]] w fun e w' => e = .returned (.bool (hdB u d)) ∧ Below w.heap.size w w' := by
  unfold hdB
  cases h1 : inB u 1 12
  all_goals
    go_enter Try.func35, Try.ntmps35
    go_wp2_with (first | (go_at_call 36; refine (implIn _ _ _ _).mono ?_; rintro e w1 ⟨rfl, rfl⟩))
    all_goals (go_ret; refine ⟨rB ?_, ?_⟩)
    all_goals first | (simp [h1]; done) | (repeat (first | exact Below.refl _ _ | refine Below.drew ?_ | refine below_drewN ?_ _ | refine Below.setCell ?_ (by first | omega | (simp; done) | (simp; omega)) _ | refine Below.alloc ?_ (by first | omega | (simp; done) | (simp; omega)) _ | refine bchain ?_ (by assumption) (by first | omega | (simp; done) | (simp; omega))))
set_option maxHeartbeats 2000000 in
theorem pzHidden_any (u d : Int) (w : World) :
    Calls Try.prog 31 #[.agg #[.int .i64 u, .int .i64 d]] w fun e w' => e = .returned (.bool (hdB u d)) ∧ Below w.heap.size w w' := by
  cases hs : snOk u d
  · have hh : hdB u d = false := by
      cases q : hdB u d
      · rfl
      · rw [hdB_ok q] at hs; cases hs
    rw [hh]
    go_enter Try.func31, Try.ntmps31
    go_wp2_with (first | (go_at_call 51; refine (snGood_any _ _ _).mono ?_; rw [hs]; rintro e w1 ⟨rfl, hb⟩; have hcA := fun o => (bcell hb).1 w.heap.size o (by first | omega | (simp; omega) | (simp; done))))
    go_ret
    exact ⟨rfl, by (repeat (first | exact Below.refl _ _ | refine Below.drew ?_ | refine below_drewN ?_ _ | refine Below.setCell ?_ (by first | omega | (simp; done) | (simp; omega)) _ | refine Below.alloc ?_ (by first | omega | (simp; done) | (simp; omega)) _ | refine bchain ?_ (by assumption) (by first | omega | (simp; done) | (simp; omega))))⟩
  · have sl := snOk_iff.1 hs
    have hh : hdB u d = (decide (u ≤ 12) && decide (d ≤ 12)) := by
      unfold hdB inB
      rw [decide_eq_decide.2 (show (1 ≤ u ∧ u ≤ 12) ↔ u ≤ 12 by omega), decide_eq_decide.2 (show (0 ≤ d ∧ d ≤ 12) ↔ d ≤ 12 by omega)]
    rw [hh]
    clear hh sl
    by_cases h1 : u ≤ 12 <;> by_cases h2 : d ≤ 12
    all_goals
      go_enter Try.func31, Try.ntmps31
      go_wp2_with (first | (go_at_call 51; refine (snGood_any _ _ _).mono ?_; rw [hs]; rintro e w1 ⟨rfl, hb⟩; have hcA := fun o => (bcell hb).1 w.heap.size o (by first | omega | (simp; omega) | (simp; done))))
      all_goals (go_ret; refine ⟨rB ?_, ?_⟩)
      all_goals first | (simp [h1, h2]; done) | (repeat (first | exact Below.refl _ _ | refine Below.drew ?_ | refine below_drewN ?_ _ | refine Below.setCell ?_ (by first | omega | (simp; done) | (simp; omega)) _ | refine Below.alloc ?_ (by first | omega | (simp; done) | (simp; omega)) _ | refine bchain ?_ (by assumption) (by first | omega | (simp; done) | (simp; omega))))
set_option maxHeartbeats 4000000 in
/-- what a clue of a kind tells, the model's way -/
theorem pzValue_any (k a u d : Int) (hk : kaB k a) (hh : hdB u d = true) (w : World) :
    Calls Try.prog 52 #[.int .i64 k, .int .i64 a, .agg #[.int .i64 u, .int .i64 d]] w fun e w' => e = .returned (.int .i64 (pzV k a u d)) ∧ Below w.heap.size w w' := by
  have hs := hdB_ok hh
  have hb0 := hdB_iff.1 hh
  rcases hk with ⟨rfl, h1, h2⟩ | ⟨rfl, h1, h2⟩ | ⟨rfl, rfl⟩ | ⟨rfl, h1, h2⟩ | ⟨rfl, rfl⟩
  · cases hc : fd1 u d a
    · rw [show pzV 0 a u d = 0 by simp [pzV, hc]]
      have HC := Lib.hid hc
      clear hc
      go_enter Try.func52, Try.ntmps52
      go_wp2_with (first | (go_at_call 59; refine (snCan_any u d a _).mono ?_; rw [HC.out]; rintro e w1 ⟨rfl, hb⟩; have hcA := fun o => (bcell hb).1 w.heap.size o (by first | omega | (simp; omega) | (simp; done)); have hz : w.heap.size < w1.heap.size := (by have := hb.size; (try simp at this); omega)))
      go_ret
      exact ⟨rfl, by (repeat (first | exact Below.refl _ _ | refine Below.drew ?_ | refine below_drewN ?_ _ | refine Below.setCell ?_ (by first | omega | (simp; done) | (simp; omega)) _ | refine Below.alloc ?_ (by first | omega | (simp; done) | (simp; omega)) _ | refine bchain ?_ (by assumption) (by first | omega | (simp; done) | (simp; omega))))⟩
    · rw [show pzV 0 a u d = fd0 u d a by simp [pzV, hc]]
      have HC := Lib.hid hc
      clear hc
      go_enter Try.func52, Try.ntmps52
      go_wp2_with (first | (go_at_call 59; refine (snCan_any u d a _).mono ?_; rw [HC.out]; rintro e w1 ⟨rfl, hb⟩; have hcA := fun o => (bcell hb).1 w.heap.size o (by first | omega | (simp; omega) | (simp; done)); have hz : w.heap.size < w1.heap.size := (by have := hb.size; (try simp at this); omega)) | (go_at_call 60; refine (snDays_any u d a hs (by omega) (by omega) HC.out _).mono ?_; rintro e w2 ⟨rfl, hb2⟩))
      go_ret
      exact ⟨rfl, by (repeat (first | exact Below.refl _ _ | refine Below.drew ?_ | refine below_drewN ?_ _ | refine Below.setCell ?_ (by first | omega | (simp; done) | (simp; omega)) _ | refine Below.alloc ?_ (by first | omega | (simp; done) | (simp; omega)) _ | refine bchain ?_ (by assumption) (by first | omega | (simp; done) | (simp; omega))))⟩
  · have ha : inB a 1 1000000 = true := inB_true (by omega)
    rw [show pzV 1 a u d = low 100 (far u d a) by simp [pzV]]
    go_enter Try.func52, Try.ntmps52
    go_wp2_with (first | (go_at_call 62; refine (snEvening_any u d a hs ha _).mono ?_; rintro e w1 ⟨rfl, hb⟩; have hcA := fun o => (bcell hb).1 w.heap.size o (by first | omega | (simp; omega) | (simp; done)); have hz : w.heap.size < w1.heap.size := (by have := hb.size; (try simp at this); omega)) | (go_at_call 61; refine (least_any _ _ _).mono ?_; rintro e w1 ⟨rfl, rfl⟩))
    go_ret
    exact ⟨rfl, by (repeat (first | exact Below.refl _ _ | refine Below.drew ?_ | refine below_drewN ?_ _ | refine Below.setCell ?_ (by first | omega | (simp; done) | (simp; omega)) _ | refine Below.alloc ?_ (by first | omega | (simp; done) | (simp; omega)) _ | refine bchain ?_ (by assumption) (by first | omega | (simp; done) | (simp; omega))))⟩
  · rw [show pzV 2 0 u d = u + d by simp [pzV]]
    go_enter Try.func52, Try.ntmps52
    go_wp2_with fail
    go_ret
    exact ⟨rfl, by (repeat (first | exact Below.refl _ _ | refine Below.drew ?_ | refine below_drewN ?_ _ | refine Below.setCell ?_ (by first | omega | (simp; done) | (simp; omega)) _ | refine Below.alloc ?_ (by first | omega | (simp; done) | (simp; omega)) _ | refine bchain ?_ (by assumption) (by first | omega | (simp; done) | (simp; omega))))⟩
  · have ha0 : ¬ a = 0 := by omega
    by_cases hm : u % a = 0
    · rw [show pzV 3 a u d = 1 by simp [pzV, hm]]
      go_enter Try.func52, Try.ntmps52
      go_wp2_with fail
      go_ret
      exact ⟨rfl, by (repeat (first | exact Below.refl _ _ | refine Below.drew ?_ | refine below_drewN ?_ _ | refine Below.setCell ?_ (by first | omega | (simp; done) | (simp; omega)) _ | refine Below.alloc ?_ (by first | omega | (simp; done) | (simp; omega)) _ | refine bchain ?_ (by assumption) (by first | omega | (simp; done) | (simp; omega))))⟩
    · rw [show pzV 3 a u d = 0 by simp [pzV, hm]]
      go_enter Try.func52, Try.ntmps52
      go_wp2_with fail
      go_ret
      exact ⟨rfl, by (repeat (first | exact Below.refl _ _ | refine Below.drew ?_ | refine below_drewN ?_ _ | refine Below.setCell ?_ (by first | omega | (simp; done) | (simp; omega)) _ | refine Below.alloc ?_ (by first | omega | (simp; done) | (simp; omega)) _ | refine bchain ?_ (by assumption) (by first | omega | (simp; done) | (simp; omega))))⟩
  · rw [show pzV 4 0 u d = u - d by simp [pzV]]
    go_enter Try.func52, Try.ntmps52
    go_wp2_with fail
    go_ret
    exact ⟨rfl, by (repeat (first | exact Below.refl _ _ | refine Below.drew ?_ | refine below_drewN ?_ _ | refine Below.setCell ?_ (by first | omega | (simp; done) | (simp; omega)) _ | refine Below.alloc ?_ (by first | omega | (simp; done) | (simp; omega)) _ | refine bchain ?_ (by assumption) (by first | omega | (simp; done) | (simp; omega))))⟩
set_option maxHeartbeats 4000000 in
theorem pzFits_any (k a b u d : Int) (hk : kaB k a) (hh : hdB u d = true) (w : World) :
    Calls Try.prog 41 #[.agg #[.int .i64 k, .int .i64 a, .int .i64 b], .agg #[.int .i64 u, .int .i64 d]] w fun e w' => e = .returned (.bool (decide (pzV k a u d = b))) ∧ Below w.heap.size w w' := by
  obtain ⟨V, hV⟩ : ∃ V, V = pzV k a u d := ⟨_, rfl⟩
  have HV := Lib.hid (show ∀ w, Calls Try.prog 52 #[.int .i64 k, .int .i64 a, .agg #[.int .i64 u, .int .i64 d]] w fun e w' => e = .returned (.int .i64 V) ∧ Below w.heap.size w w' from fun w => hV ▸ pzValue_any k a u d hk hh w)
  rw [← hV]
  clear hV hk hh
  go_enter Try.func41, Try.ntmps41
  go_wp2_with fail
  go_region_held3 (fun w' => Below w.heap.size w w' ∧ w.heap.size + 1 < w'.heap.size ∧ w'.cell? ⟨w.heap.size, 0, none⟩ = some (.int .i64 k) ∧ w'.cell? ⟨w.heap.size, 1, none⟩ = some (.int .i64 a) ∧ w'.cell? ⟨w.heap.size, 2, none⟩ = some (.int .i64 b) ∧ w'.cell? ⟨w.heap.size + 1, 0, none⟩ = some (.int .i64 u) ∧ w'.cell? ⟨w.heap.size + 1, 1, none⟩ = some (.int .i64 d))
    (refine ⟨?_, ?_, ?_, ?_, ?_, ?_, ?_⟩ <;> first | assumption | omega | (go_simp; done) | (repeat (first | exact Below.refl _ _ | refine Below.drew ?_ | refine below_drewN ?_ _ | refine Below.setCell ?_ (by first | omega | (simp; done) | (simp; omega)) _ | refine Below.alloc ?_ (by first | omega | (simp; done) | (simp; omega)) _ | refine bchain ?_ (by assumption) (by first | omega | (simp; done) | (simp; omega)))))
    (first | (go_at_call 52; refine (HV.out _).mono ?_; rintro e w1 ⟨rfl, hb⟩; have hz : w.heap.size + 1 < w1.heap.size := (by have := hb.size; (try simp at this); omega); have hcA := fun o => (bcell hb).1 w.heap.size o (by first | omega | (simp; omega) | (simp; done)); have hcB := fun o => (bcell hb).1 (w.heap.size + 1) o (by first | omega | (simp; omega) | (simp; done))))
  all_goals
    rename_i hS
    go_wp2_with fail
    go_ret
    refine ⟨rB ?_, hS.1⟩
    by_cases q : V = b <;> simp [q]
set_option maxHeartbeats 4000000 in
/-- the clue of a kind that a snail fits, the program's way -/
theorem fittingClue_any (k a u d : Int) (hk : kaB k a) (hh : hdB u d = true) (w : World) :
    Calls Try.prog 38 #[.int .i64 k, .int .i64 a, .agg #[.int .i64 u, .int .i64 d]] w fun e w' => e = .returned (.agg #[.int .i64 k, .int .i64 a, .int .i64 (pzV k a u d)]) ∧ Below w.heap.size w w' := by
  have hs := hdB_ok hh
  have hb0 := hdB_iff.1 hh
  have hc1 : inB 100 1 1000000 = true := by decide
  rcases hk with ⟨rfl, h1, h2⟩ | ⟨rfl, h1, h2⟩ | ⟨rfl, rfl⟩ | ⟨rfl, h1, h2⟩ | ⟨rfl, rfl⟩
  · have HV := Lib.hid (show ∀ w, Calls Try.prog 53 #[.agg #[.int .i64 u, .int .i64 d], .int .i64 a] w fun e w' => e = .returned (.tuple #[.int .i64 (pzV 0 a u d), .bool (fd1 u d a)]) ∧ Below w.heap.size w w' from fun w => by
      have ha : inB a 1 1000000 = true := inB_true (by omega)
      have := implDaysToTop u d a w
      simp only [hs, ha, Bool.and_self, Bool.true_and] at this
      simpa [pzV] using this)
    generalize pzV 0 a u d = V at *
    go_enter Try.func38, Try.ntmps38
    go_wp2_with (first | (go_at_call 53; refine (HV.out _).mono ?_; rintro e w1 ⟨rfl, hb⟩; have hz : w.heap.size + 2 < w1.heap.size := (by have := hb.size; (try simp at this); omega); have hcA := fun o => (bcell hb).1 w.heap.size o (by first | omega | (simp; omega) | (simp; done)); have hcB := fun o => (bcell hb).1 (w.heap.size + 1) o (by first | omega | (simp; omega) | (simp; done)); have hcC := fun o => (bcell hb).1 (w.heap.size + 2) o (by first | omega | (simp; omega) | (simp; done)); have hfB := fun o => (bcell hb).2 (w.heap.size + 1) o (by first | omega | (simp; omega) | (simp; done)); have hfC := fun o => (bcell hb).2 (w.heap.size + 2) o (by first | omega | (simp; omega) | (simp; done))))
    have z0 : w1.cell? ⟨w.heap.size + 1, 0, none⟩ = some (.int .i64 0) := by rw [hcB]; go_simp
    have z1 : w1.cell? ⟨w.heap.size + 1, 1, none⟩ = some (.int .i64 0) := by rw [hcB]; go_simp
    have z2 : w1.cell? ⟨w.heap.size + 1, 2, none⟩ = some (.int .i64 0) := by rw [hcB]; go_simp
    exact bodyPost_ret (v := .agg #[.int .i64 0, .int .i64 a, .int .i64 V]) (by simp [results, Try.results38, go_sem, z0, z1, z2]) rfl ⟨rfl, by (repeat (first | exact Below.refl _ _ | refine Below.drew ?_ | refine below_drewN ?_ _ | refine Below.setCell ?_ (by first | omega | (simp; done) | (simp; omega)) _ | refine Below.alloc ?_ (by first | omega | (simp; done) | (simp; omega)) _ | refine bchain ?_ (by assumption) (by first | omega | (simp; done) | (simp; omega))))⟩
  · have HV := Lib.hid (show ∀ w, Calls Try.prog 54 #[.agg #[.int .i64 u, .int .i64 d], .int .i64 100, .int .i64 a] w fun e w' => e = .returned (.tuple #[.int .i64 (pzV 1 a u d), .bool true]) ∧ Below w.heap.size w w' from fun w => by
      have ha : inB a 1 1000000 = true := inB_true (by omega)
      have := implEveningHeight u d 100 a w
      simp only [hs, ha, hc1, Bool.and_self, if_true] at this
      simpa [pzV] using this)
    generalize pzV 1 a u d = V at *
    go_enter Try.func38, Try.ntmps38
    go_wp2_with (first | (go_at_call 54; refine (HV.out _).mono ?_; rintro e w1 ⟨rfl, hb⟩; have hz : w.heap.size + 2 < w1.heap.size := (by have := hb.size; (try simp at this); omega); have hcA := fun o => (bcell hb).1 w.heap.size o (by first | omega | (simp; omega) | (simp; done)); have hcB := fun o => (bcell hb).1 (w.heap.size + 1) o (by first | omega | (simp; omega) | (simp; done)); have hcC := fun o => (bcell hb).1 (w.heap.size + 2) o (by first | omega | (simp; omega) | (simp; done)); have hfB := fun o => (bcell hb).2 (w.heap.size + 1) o (by first | omega | (simp; omega) | (simp; done)); have hfC := fun o => (bcell hb).2 (w.heap.size + 2) o (by first | omega | (simp; omega) | (simp; done))))
    have z0 : w1.cell? ⟨w.heap.size + 1, 0, none⟩ = some (.int .i64 0) := by rw [hcB]; go_simp
    have z1 : w1.cell? ⟨w.heap.size + 1, 1, none⟩ = some (.int .i64 0) := by rw [hcB]; go_simp
    have z2 : w1.cell? ⟨w.heap.size + 1, 2, none⟩ = some (.int .i64 0) := by rw [hcB]; go_simp
    exact bodyPost_ret (v := .agg #[.int .i64 1, .int .i64 a, .int .i64 V]) (by simp [results, Try.results38, go_sem, z0, z1, z2]) rfl ⟨rfl, by (repeat (first | exact Below.refl _ _ | refine Below.drew ?_ | refine below_drewN ?_ _ | refine Below.setCell ?_ (by first | omega | (simp; done) | (simp; omega)) _ | refine Below.alloc ?_ (by first | omega | (simp; done) | (simp; omega)) _ | refine bchain ?_ (by assumption) (by first | omega | (simp; done) | (simp; omega))))⟩
  · rw [show pzV 2 0 u d = u + d by simp [pzV]]
    go_enter Try.func38, Try.ntmps38
    go_wp2_with fail
    exact bodyPost_ret (v := .agg #[.int .i64 2, .int .i64 0, .int .i64 (u + d)]) (by simp [results, Try.results38, go_sem]) rfl ⟨rfl, by (repeat (first | exact Below.refl _ _ | refine Below.drew ?_ | refine below_drewN ?_ _ | refine Below.setCell ?_ (by first | omega | (simp; done) | (simp; omega)) _ | refine Below.alloc ?_ (by first | omega | (simp; done) | (simp; omega)) _ | refine bchain ?_ (by assumption) (by first | omega | (simp; done) | (simp; omega))))⟩
  · have ha0 : ¬ a = 0 := by omega
    by_cases hm : u % a = 0
    · rw [show pzV 3 a u d = 1 by simp [pzV, hm]]
      go_enter Try.func38, Try.ntmps38
      go_wp2_with fail
      exact bodyPost_ret (v := .agg #[.int .i64 3, .int .i64 a, .int .i64 1]) (by simp [results, Try.results38, go_sem]) rfl ⟨rfl, by (repeat (first | exact Below.refl _ _ | refine Below.drew ?_ | refine below_drewN ?_ _ | refine Below.setCell ?_ (by first | omega | (simp; done) | (simp; omega)) _ | refine Below.alloc ?_ (by first | omega | (simp; done) | (simp; omega)) _ | refine bchain ?_ (by assumption) (by first | omega | (simp; done) | (simp; omega))))⟩
    · rw [show pzV 3 a u d = 0 by simp [pzV, hm]]
      go_enter Try.func38, Try.ntmps38
      go_wp2_with fail
      exact bodyPost_ret (v := .agg #[.int .i64 3, .int .i64 a, .int .i64 0]) (by simp [results, Try.results38, go_sem]) rfl ⟨rfl, by (repeat (first | exact Below.refl _ _ | refine Below.drew ?_ | refine below_drewN ?_ _ | refine Below.setCell ?_ (by first | omega | (simp; done) | (simp; omega)) _ | refine Below.alloc ?_ (by first | omega | (simp; done) | (simp; omega)) _ | refine bchain ?_ (by assumption) (by first | omega | (simp; done) | (simp; omega))))⟩
  · rw [show pzV 4 0 u d = u - d by simp [pzV]]
    go_enter Try.func38, Try.ntmps38
    go_wp2_with fail
    exact bodyPost_ret (v := .agg #[.int .i64 4, .int .i64 0, .int .i64 (u - d)]) (by simp [results, Try.results38, go_sem]) rfl ⟨rfl, by (repeat (first | exact Below.refl _ _ | refine Below.drew ?_ | refine below_drewN ?_ _ | refine Below.setCell ?_ (by first | omega | (simp; done) | (simp; omega)) _ | refine Below.alloc ?_ (by first | omega | (simp; done) | (simp; omega)) _ | refine bchain ?_ (by assumption) (by first | omega | (simp; done) | (simp; omega))))⟩
end Go.Proofs.Ytnnokfecjdmjpab
