/- Contracts of chapter 2's functions on numbers and walkers, the program's and the model's, over one translation. -/
import Derived.Test.YtlmbcbopahpagaaProg
import Derived.Test.YtlmbcbopahpagaaTwoMath
import Derived.WalkKit
import Derived.WalkSpells
import Derived.WalkLawsBesides
import Derived.Lib.Hide
import Derived.Deep.RegionWith
import Derived.Deep.RegionHeld3
import Derived.Deep.QuietTactic
import Derived.BigQuiet
namespace Go.Proofs.Ytlmbcbopahpagaa
open Go.RowKit
set_option linter.unusedVariables false
set_option linter.unusedSimpArgs false
set_option maxHeartbeats 2000000 in
theorem specIn (n lo hi : Int) (w : World) :
    Calls Try.prog 45 #[.int .i64 n, .int .i64 lo, .int .i64 hi] w fun e w' => e = .returned (.bool (inB n lo hi)) ∧ w = w' := by
  go_enter Try.func45, Try.ntmps45
  go_wp2
  all_goals (go_ret; refine ⟨rB ?_, rfl⟩)
  all_goals (unfold inB; rw [Bool.eq_iff_iff]; simp only [decide_eq_true_eq, Bool.false_eq_true, false_iff, true_iff]; omega)
set_option maxHeartbeats 2000000 in
theorem implIn (n lo hi : Int) (w : World) :
    Calls Try.prog 38 #[.int .i64 n, .int .i64 lo, .int .i64 hi] w fun e w' => e = .returned (.bool (inB n lo hi)) ∧ w = w' := by
  go_enter Try.func38, Try.ntmps38
  go_wp2
  all_goals (go_ret; refine ⟨rB ?_, rfl⟩)
  all_goals (unfold inB; rw [Bool.eq_iff_iff]; simp only [decide_eq_true_eq, Bool.false_eq_true, false_iff, true_iff]; omega)
set_option maxHeartbeats 2000000 in
theorem gcd_any (a b : Int) (ha : 0 ≤ a) (hb : 0 ≤ b) (ha2 : a ≤ 1000000000000000000) (hb2 : b ≤ 1000000000000000000) (w : World) :
    Calls Try.prog 50 #[.int .i64 a, .int .i64 b] w fun e w' => e = .returned (.int .i64 (gc a b)) ∧ Below w.heap.size w w' := by
  go_enter Try.func50, Try.ntmps50
  go_wp2_with fail
  go_loopw [0, 1] (fun v0 v1 wr => ∃ x y : Int, v0 = .int .i64 x ∧ v1 = .int .i64 y ∧ 0 ≤ x ∧ x ≤ 1000000000000000000 ∧ 0 ≤ y ∧ y ≤ 1000000000000000000 ∧ Hid (gc x y = gc a b) ∧ Below w.heap.size w wr) (fun _ v1 _ => (intOf v1).toNat)
  case atStart => exact ⟨a, b, rfl, rfl, ha, ha2, hb, hb2, rfl, Below.refl _ _⟩
  case round =>
    obtain ⟨x, y, rfl, rfl, x1, x2, y1, y2, HE, hbel⟩ := hrel
    have HB := Lib.hid hbel
    clear hbel
    by_cases hy : y = 0
    · have HR : x = gc a b := by rw [← HE.out, hy, gc_zero x x1]
      clear HE
      subst hy
      subst HR
      go_wp2_with fail
      skip
      go_ret
      exact ⟨rfl, HB.out⟩
    · have e1 := Int.emod_nonneg x hy
      have e2 := Int.emod_lt_of_pos x (show 0 < y by omega)
      have HR := Lib.hid (show gc y (x % y) = gc a b by rw [gc_step x y x1 (by omega)]; exact HE.out)
      clear HE
      go_wp2_with fail
      have eM : x.tmod y = x % y := Int.tmod_eq_emod_of_nonneg x1
      have eW : IntKind.i64.wrap (x % y) = x % y := IntWalk.i64_in _ (by omega)
      go_quiet (fail)
      clear eM eW
      go_wp2_with fail
      go_roundw
      case rel => exact ⟨y, x % y, rfl, rfl, by omega, by omega, by omega, by omega, HR.out, below_drewN HB.out _⟩
      case measure => simp [intOf]; omega
set_option maxHeartbeats 2000000 in
theorem most_any (a b : Int) (w : World) :
    Calls Try.prog 42 #[.int .i64 a, .int .i64 b] w fun e w' => e = .returned (.int .i64 ((if b < a then a else b))) ∧ w = w' := by
  go_enter Try.func42, Try.ntmps42
  go_wp2
  all_goals (go_ret; refine ⟨rI ?_, rfl⟩)
  all_goals first | ((repeat' split) <;> omega) | (repeat (first | exact Below.refl _ _ | refine Below.drew ?_ | refine below_drewN ?_ _ | refine Below.setCell ?_ (by first | omega | (simp; done) | (simp; omega)) _ | refine Below.alloc ?_ (by first | omega | (simp; done) | (simp; omega)) _ | refine bchain ?_ (by assumption) (by first | omega | (simp; done) | (simp; omega))))
set_option maxHeartbeats 2000000 in
theorem l1Abs_any (n : Int) (h1 : -1000000000000000000 ≤ n) (h2 : n ≤ 1000000000000000000) (w : World) :
    Calls Try.prog 52 #[.int .i64 n] w fun e w' => e = .returned (.int .i64 (ab n)) ∧ w = w' := by
  go_enter Try.func52, Try.ntmps52
  go_wp2_with (first | (go_at_call 42; refine (most_any _ _ _).mono ?_; rintro e w1 ⟨rfl, rfl⟩) | go_in)
  all_goals (go_ret; refine ⟨rI ?_, rfl⟩)
  all_goals first | (unfold ab; (repeat' split) <;> omega) | (repeat (first | exact Below.refl _ _ | refine Below.drew ?_ | refine below_drewN ?_ _ | refine Below.setCell ?_ (by first | omega | (simp; done) | (simp; omega)) _ | refine Below.alloc ?_ (by first | omega | (simp; done) | (simp; omega)) _ | refine bchain ?_ (by assumption) (by first | omega | (simp; done) | (simp; omega))))
set_option maxHeartbeats 2000000 in
theorem distance_any (a b : Int) (h1 : -1000000000000000000 ≤ a) (h2 : a ≤ 1000000000000000000) (h3 : -1000000000000000000 ≤ b) (h4 : b ≤ 1000000000000000000) (w : World) :
    Calls Try.prog 51 #[.int .i64 a, .int .i64 b] w fun e w' => e = .returned (.int .i64 (ab (a - b))) ∧ w = w' := by
  by_cases h : a ≤ b
  all_goals
    go_enter Try.func51, Try.ntmps51
    go_wp2
    all_goals (go_ret; refine ⟨rI ?_, rfl⟩)
    all_goals first | (unfold ab; (repeat' split) <;> omega) | (repeat (first | exact Below.refl _ _ | refine Below.drew ?_ | refine below_drewN ?_ _ | refine Below.setCell ?_ (by first | omega | (simp; done) | (simp; omega)) _ | refine Below.alloc ?_ (by first | omega | (simp; done) | (simp; omega)) _ | refine bchain ?_ (by assumption) (by first | omega | (simp; done) | (simp; omega))))
set_option maxHeartbeats 2000000 in
theorem lowest_any (a b : Int) (h1 : -1000000000000000000 ≤ a) (h2 : a ≤ 1000000000000000000) (h3 : 1 ≤ b) (h4 : b ≤ 1000000000000000000) (w : World) :
    Calls Try.prog 36 #[.int .i64 a, .int .i64 b] w fun e w' => e = .returned (.agg #[.int .i64 (lwN a b), .int .i64 (lwD a b)]) ∧ Below w.heap.size w w' := by
  have g0 := ab_nonneg a
  have g1 := ab_le h1 h2
  have g2 := gc_pos (a := a) (b := b) (by omega)
  have g3 := gc_le (a := a) (b := b) (by omega)
  have e := Lib.hid (gc_ab a b)
  have t1 := tdiv_abs a (gc a b) g2
  have t2 := tdiv_abs b (gc a b) g2
  have t3 := ab_le (x := b) (B := 1000000000000000000) (by omega) (by omega)
  go_enter Try.func36, Try.ntmps36
  go_wp2_with (first | (go_at_call 51; refine (distance_any a 0 (by omega) (by omega) (by omega) (by omega) _).mono ?_; rw [Int.sub_zero]; rintro e w1 ⟨rfl, rfl⟩) | (go_at_call 50; refine (gcd_any (ab a) b (by omega) (by omega) (by omega) (by omega) _).mono ?_; rw [e.out]; rintro e w1 ⟨rfl, hb⟩; have hc := (bcell hb).1; have hf := (bcell hb).2; have hz : w.heap.size ≤ w1.heap.size := (by have := hb.size; (try simp at this); omega); have hz0 : w.heap.size < w1.heap.size := (by have := hb.size; (try simp at this); omega); have hcA0 := fun o => (bcell hb).1 (w.heap.size) o (by first | omega | (simp; omega) | (simp; done)); have hfA0 := fun o => (bcell hb).2 (w.heap.size) o (by first | omega | (simp; omega) | (simp; done))) | go_in)
  have d1 : IntKind.i64.wrap (a.tdiv (gc a b)) = a.tdiv (gc a b) := IntWalk.i64_in _ (by omega)
  have d2 : IntKind.i64.wrap (b.tdiv (gc a b)) = b.tdiv (gc a b) := IntWalk.i64_in _ (by omega)
  have d3 : (gc a b == 0) = false := by rw [beq_eq_false_iff_ne]; omega
  have d4 : ¬ gc a b = 0 := by omega
  have d5 : ¬ gc a b = -1 := by omega
  go_region
  all_goals go_wp2_with fail
  all_goals refine bodyPost_ret (v := .agg #[.int .i64 (lwN a b), .int .i64 (lwD a b)]) (by have e0 : (w1.cell? ⟨w.heap.size, 0, none⟩).isSome = true := (by rw [hcA0]; go_simp); have e1 : (w1.cell? ⟨w.heap.size, 1, none⟩).isSome = true := (by rw [hcA0]; go_simp); clear hcA0 hfA0; simp [results, Try.results36, go_sem, lwN, lwD, e0, e1]) rfl ⟨rfl, ?_⟩
  all_goals (repeat (first | exact Below.refl _ _ | refine Below.drew ?_ | refine below_drewN ?_ _ | refine Below.setCell ?_ (by first | omega | (simp; done) | (simp; omega)) _ | refine Below.alloc ?_ (by first | omega | (simp; done) | (simp; omega)) _ | refine bchain ?_ (by assumption) (by first | omega | (simp; done) | (simp; omega))))
set_option maxHeartbeats 2000000 in
theorem meLow_pos (a b : Int) (h1 : -1000000000000000000 ≤ a) (h2 : a ≤ 1000000000000000000) (h3 : 1 ≤ b) (h4 : b ≤ 1000000000000000000) (w : World) :
    Calls Try.prog 37 #[.int .i64 a, .int .i64 b] w fun e w' => e = .returned (.tuple #[.int .i64 (lwN a b), .int .i64 (lwD a b)]) ∧ Below w.heap.size w w' := by
  have g0 := ab_nonneg a
  have g1 := ab_le (x := a) (B := 1000000000000000000) (by omega) (by omega)
  have g2 := gc_pos (a := a) (b := b) (by omega)
  have g3 := gc_le (a := a) (b := b) (by omega)
  have t1 := tdiv_abs a (gc a b) g2
  have t2 := tdiv_abs b (gc a b) g2
  have t3 := ab_le (x := b) (B := 1000000000000000000) (by omega) (by omega)
  go_enter Try.func37, Try.ntmps37
  go_wp2_with (first | (go_at_call 52; refine (l1Abs_any a (by omega) (by omega) _).mono ?_; rintro e w1 ⟨rfl, rfl⟩) | go_in)
  go_loopw [6, 7] (fun v0 v1 wr => ∃ x y : Int, v0 = .int .i64 x ∧ v1 = .int .i64 y ∧ 0 ≤ x ∧ x ≤ 1000000000000000000 ∧ 0 ≤ y ∧ y ≤ 1000000000000000000 ∧ Hid (gc x y = gc a b) ∧ Below w.heap.size w wr) (fun _ v1 _ => (intOf v1).toNat)
  case atStart => exact ⟨ab a, b, rfl, rfl, by omega, by omega, by omega, by omega, gc_ab a b, Below.refl _ _⟩
  case round =>
    obtain ⟨x, y, rfl, rfl, x1, x2, y1, y2, HE, hbel⟩ := hrel
    have HB := Lib.hid hbel
    clear hbel
    by_cases hy : y = 0
    · have HR : x = gc a b := by rw [← HE.out, hy, gc_zero x x1]
      clear HE
      subst hy
      subst HR
      go_wp2_with fail
      have d1 : IntKind.i64.wrap (a.tdiv (gc a b)) = a.tdiv (gc a b) := IntWalk.i64_in _ (by omega)
      have d2 : IntKind.i64.wrap (b.tdiv (gc a b)) = b.tdiv (gc a b) := IntWalk.i64_in _ (by omega)
      have d3 : (gc a b == 0) = false := by rw [beq_eq_false_iff_ne]; omega
      have d4 : ¬ gc a b = 0 := by omega
      have d5 : ¬ gc a b = -1 := by omega
      go_quiet (fail)
      go_wp2_with fail
      go_ret2
      exact ⟨rfl, below_drewN HB.out _⟩
    · have e1 := Int.emod_nonneg x hy
      have e2 := Int.emod_lt_of_pos x (show 0 < y by omega)
      have HR := Lib.hid (show gc y (x % y) = gc a b by rw [gc_step x y x1 (by omega)]; exact HE.out)
      clear HE
      go_wp2_with fail
      have eM : x.tmod y = x % y := Int.tmod_eq_emod_of_nonneg x1
      have eW : IntKind.i64.wrap (x % y) = x % y := IntWalk.i64_in _ (by omega)
      go_quiet (fail)
      clear eM eW
      go_wp2_with fail
      go_roundw
      case rel => exact ⟨y, x % y, rfl, rfl, by omega, by omega, by omega, by omega, HR.out, below_drewN HB.out _⟩
      case measure => simp [intOf]; omega
set_option maxHeartbeats 2000000 in
theorem meLow_neg0 (a b : Int) (h1 : -1000000000000000000 ≤ a) (h2 : a ≤ 1000000000000000000) (h3 : 1 ≤ b) (h4 : b ≤ 1000000000000000000) (w : World) :
    Calls Try.prog 37 #[.int .i64 (-a), .int .i64 (-b)] w fun e w' => e = .returned (.tuple #[.int .i64 (lwN a b), .int .i64 (lwD a b)]) ∧ Below w.heap.size w w' := by
  have g0 := ab_nonneg a
  have g1 := ab_le (x := a) (B := 1000000000000000000) (by omega) (by omega)
  have g2 := gc_pos (a := a) (b := b) (by omega)
  have g3 := gc_le (a := a) (b := b) (by omega)
  have t1 := tdiv_abs a (gc a b) g2
  have t2 := tdiv_abs b (gc a b) g2
  have t3 := ab_le (x := b) (B := 1000000000000000000) (by omega) (by omega)
  go_enter Try.func37, Try.ntmps37
  go_wp2_with (first | (go_at_call 52; refine (l1Abs_any a (by omega) (by omega) _).mono ?_; rintro e w1 ⟨rfl, rfl⟩) | go_in)
  go_loopw [6, 7] (fun v0 v1 wr => ∃ x y : Int, v0 = .int .i64 x ∧ v1 = .int .i64 y ∧ 0 ≤ x ∧ x ≤ 1000000000000000000 ∧ 0 ≤ y ∧ y ≤ 1000000000000000000 ∧ Hid (gc x y = gc a b) ∧ Below w.heap.size w wr) (fun _ v1 _ => (intOf v1).toNat)
  case atStart => exact ⟨ab a, b, rfl, rfl, by omega, by omega, by omega, by omega, gc_ab a b, Below.refl _ _⟩
  case round =>
    obtain ⟨x, y, rfl, rfl, x1, x2, y1, y2, HE, hbel⟩ := hrel
    have HB := Lib.hid hbel
    clear hbel
    by_cases hy : y = 0
    · have HR : x = gc a b := by rw [← HE.out, hy, gc_zero x x1]
      clear HE
      subst hy
      subst HR
      go_wp2_with fail
      have d1 : IntKind.i64.wrap (a.tdiv (gc a b)) = a.tdiv (gc a b) := IntWalk.i64_in _ (by omega)
      have d2 : IntKind.i64.wrap (b.tdiv (gc a b)) = b.tdiv (gc a b) := IntWalk.i64_in _ (by omega)
      have d3 : (gc a b == 0) = false := by rw [beq_eq_false_iff_ne]; omega
      have d4 : ¬ gc a b = 0 := by omega
      have d5 : ¬ gc a b = -1 := by omega
      go_quiet (fail)
      go_wp2_with fail
      go_ret2
      exact ⟨rfl, below_drewN HB.out _⟩
    · have e1 := Int.emod_nonneg x hy
      have e2 := Int.emod_lt_of_pos x (show 0 < y by omega)
      have HR := Lib.hid (show gc y (x % y) = gc a b by rw [gc_step x y x1 (by omega)]; exact HE.out)
      clear HE
      go_wp2_with fail
      have eM : x.tmod y = x % y := Int.tmod_eq_emod_of_nonneg x1
      have eW : IntKind.i64.wrap (x % y) = x % y := IntWalk.i64_in _ (by omega)
      go_quiet (fail)
      clear eM eW
      go_wp2_with fail
      go_roundw
      case rel => exact ⟨y, x % y, rfl, rfl, by omega, by omega, by omega, by omega, HR.out, below_drewN HB.out _⟩
      case measure => simp [intOf]; omega
set_option maxHeartbeats 2000000 in
theorem meLow_neg (a b : Int) (h1 : -1000000000000000000 ≤ a) (h2 : a ≤ 1000000000000000000) (h3 : b ≤ -1) (h4 : -1000000000000000000 ≤ b) (w : World) :
    Calls Try.prog 37 #[.int .i64 a, .int .i64 b] w fun e w' => e = .returned (.tuple #[.int .i64 (lwN (-a) (-b)), .int .i64 (lwD (-a) (-b))]) ∧ Below w.heap.size w w' := by
  have h := meLow_neg0 (-a) (-b) (by omega) (by omega) (by omega) (by omega) w
  rw [Int.neg_neg, Int.neg_neg] at h
  exact h
end Go.Proofs.Ytlmbcbopahpagaa
