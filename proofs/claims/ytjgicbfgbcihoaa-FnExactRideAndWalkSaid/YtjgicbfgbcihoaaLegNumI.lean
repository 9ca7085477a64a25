/- Chapter 6's program on numbers and one leg: contracts with wide bounds. -/
import Derived.Test.YtjgicbfgbcihoaaLegNum
import Derived.Test.YtjgicbfgbcihoaaTwoWalks
import Derived.Test.YtjgicbfgbcihoaaCmpI
import Derived.Test.YtjgicbfgbcihoaaAreAllG
import Derived.Test.YtjgicbfgbcihoaaAreAllI
import Derived.WalkKit
import Derived.WalkSpells
import Derived.WalkLawsBesides
import Derived.Lib.Hide
import Derived.Deep.RegionWith
import Derived.Deep.RegionHeld3
import Derived.Deep.QuietTactic
import Derived.BigQuiet
namespace Go.Proofs.Ytjgicbfgbcihoaa
open Go.RowKit
set_option linter.unusedVariables false
set_option linter.unusedSimpArgs false
set_option maxHeartbeats 2000000 in
theorem plusW (a b c d A B C D : Int) (ha1 : -A ≤ a) (ha2 : a ≤ A) (b1 : 1 ≤ b) (b2 : b ≤ B) (hc1 : -C ≤ c) (hc2 : c ≤ C) (d1 : 1 ≤ d) (d2 : d ≤ D) (q1 : A * D ≤ 400000000000000000) (q2 : C * B ≤ 400000000000000000) (q3 : B * D ≤ 1000000000000000000) (B9 : B ≤ 1000000000000000000) (D9 : D ≤ 1000000000000000000) (w : World) :
    Calls Try.prog 68 #[.agg #[.int .i64 a, .int .i64 b], .agg #[.int .i64 c, .int .i64 d]] w fun e w' => e = .returned (.agg #[.int .i64 (lwN (plN2 a b c d) (plD2 b d)), .int .i64 (lwD (plN2 a b c d) (plD2 b d))]) ∧ Below w.heap.size w w' := by
  have g1 := gc_pos (a := b) (b := d) (by omega)
  have g2 := gc_le (a := b) (b := d) (by omega)
  have t1 := tdiv_pos (gc_dvd_l b d) b1 g1
  have t2 := tdiv_pos (gc_dvd_r b d) d1 g1
  have m1 := mul_ab a (d.tdiv (gc b d)) A D (by omega) (by omega) (by omega) (by omega)
  have m2 := mul_ab c (b.tdiv (gc b d)) C B (by omega) (by omega) (by omega) (by omega)
  have m3 := mul_bd (b.tdiv (gc b d)) d B D (by omega) (by omega) (by omega) (by omega)
  have m4 := mul_pos1 t1.1 d1
  generalize A * D = AD at *
  generalize C * B = CB at *
  generalize B * D = BD at *
  have HG := Lib.hid (fun w => gcd_any b d (by omega) (by omega) (by omega) (by omega) w)
  have d3 : (gc b d == 0) = false := by rw [beq_eq_false_iff_ne]; omega
  have d4 : ¬ gc b d = 0 := by omega
  have d5 : ¬ gc b d = -1 := by omega
  have HL := Lib.hid (fun w => lowest_any (plN2 a b c d) (plD2 b d) (by unfold plN2; omega) (by unfold plN2; omega) (by unfold plD2; omega) (by unfold plD2; omega) w)
  have eN : a * (d.tdiv (gc b d)) + c * (b.tdiv (gc b d)) = plN2 a b c d := rfl
  have eD : b.tdiv (gc b d) * d = plD2 b d := rfl
  rw [← eN, ← eD] at HL
  rw [← eN, ← eD]
  clear eN eD
  generalize gc b d = g at *
  generalize hbg : b.tdiv g = bg at *
  generalize hdg : d.tdiv g = dg at *
  have u7 : IntKind.i64.wrap bg = bg := IntWalk.i64_in _ (by omega)
  have u8 : IntKind.i64.wrap dg = dg := IntWalk.i64_in _ (by omega)
  have u3 : IntKind.i64.wrap (a * dg) = a * dg := IntWalk.i64_in _ (by omega)
  have u4 : IntKind.i64.wrap (c * bg) = c * bg := IntWalk.i64_in _ (by omega)
  have u5 : IntKind.i64.wrap (bg * d) = bg * d := IntWalk.i64_in _ (by omega)
  have u6 : IntKind.i64.wrap (a * dg + c * bg) = a * dg + c * bg := IntWalk.i64_in _ (by omega)
  go_enter Try.func68, Try.ntmps68
  go_wp2_with (go_at_call 78; refine (HG.out _).mono ?_; rintro e w1 ⟨rfl, hb⟩; have hc := (bcell hb).1; have hf := (bcell hb).2; have hz : w.heap.size ≤ w1.heap.size := (by have := hb.size; (try simp at this); omega); have hz0 : w.heap.size < w1.heap.size := (by have := hb.size; (try simp at this); omega); have hcA0 := fun o => (bcell hb).1 (w.heap.size) o (by first | omega | (simp; omega) | (simp; done)); have hfA0 := fun o => (bcell hb).2 (w.heap.size) o (by first | omega | (simp; omega) | (simp; done)); have hz1 : w.heap.size + 1 < w1.heap.size := (by have := hb.size; (try simp at this); omega); have hcA1 := fun o => (bcell hb).1 (w.heap.size + 1) o (by first | omega | (simp; omega) | (simp; done)); have hfA1 := fun o => (bcell hb).2 (w.heap.size + 1) o (by first | omega | (simp; omega) | (simp; done)); have hz2 : w.heap.size + 2 < w1.heap.size := (by have := hb.size; (try simp at this); omega); have hcA2 := fun o => (bcell hb).1 (w.heap.size + 2) o (by first | omega | (simp; omega) | (simp; done)); have hfA2 := fun o => (bcell hb).2 (w.heap.size + 2) o (by first | omega | (simp; omega) | (simp; done)))
  go_region_held3 (fun w' => Below w.heap.size w w' ∧ w.heap.size + 2 < w'.heap.size ∧ w'.cell? ⟨w.heap.size, 0, none⟩ = some (.int .i64 a) ∧ w'.cell? ⟨w.heap.size, 1, none⟩ = some (.int .i64 b) ∧ w'.cell? ⟨w.heap.size + 1, 0, none⟩ = some (.int .i64 c) ∧ w'.cell? ⟨w.heap.size + 1, 1, none⟩ = some (.int .i64 d))
    (refine ⟨?_, ?_, ?_, ?_, ?_, ?_⟩ <;> first | assumption | omega | (simp; omega) | (go_simp; done) | (repeat (first | exact Below.refl _ _ | refine Below.drew ?_ | refine below_drewN ?_ _ | refine Below.setCell ?_ (by first | omega | (simp; done) | (simp; omega)) _ | refine Below.alloc ?_ (by first | omega | (simp; done) | (simp; omega)) _ | refine bchain ?_ (by assumption) (by first | omega | (simp; done) | (simp; omega)))))
    (first | (go_at_call 60; refine (HL.out _).mono ?_; rintro e w1 ⟨rfl, hb⟩; have hc := (bcell hb).1; have hf := (bcell hb).2; have hz : w.heap.size ≤ w1.heap.size := (by have := hb.size; (try simp at this); omega); have hz0 : w.heap.size < w1.heap.size := (by have := hb.size; (try simp at this); omega); have hcA0 := fun o => (bcell hb).1 (w.heap.size) o (by first | omega | (simp; omega) | (simp; done)); have hfA0 := fun o => (bcell hb).2 (w.heap.size) o (by first | omega | (simp; omega) | (simp; done)); have hz1 : w.heap.size + 1 < w1.heap.size := (by have := hb.size; (try simp at this); omega); have hcA1 := fun o => (bcell hb).1 (w.heap.size + 1) o (by first | omega | (simp; omega) | (simp; done)); have hfA1 := fun o => (bcell hb).2 (w.heap.size + 1) o (by first | omega | (simp; omega) | (simp; done)); have hz2 : w.heap.size + 2 < w1.heap.size := (by have := hb.size; (try simp at this); omega); have hcA2 := fun o => (bcell hb).1 (w.heap.size + 2) o (by first | omega | (simp; omega) | (simp; done)); have hfA2 := fun o => (bcell hb).2 (w.heap.size + 2) o (by first | omega | (simp; omega) | (simp; done))))
  all_goals
    have e0 : (w1.cell? ⟨w.heap.size + 2, 0, none⟩).isSome = true := by first | (rw [hcA2]; go_simp; done) | (go_simp; done)
    have e1 : (w1.cell? ⟨w.heap.size + 2, 1, none⟩).isSome = true := by first | (rw [hcA2]; go_simp; done) | (go_simp; done)
    go_wp2_with fail
    refine bodyPost_ret (v := .agg #[.int .i64 (lwN (a * dg + c * bg) (bg * d)), .int .i64 (lwD (a * dg + c * bg) (bg * d))]) (by simp [results, Try.results68, go_sem, e0, e1]; done) rfl ⟨rfl, ?_⟩
    (repeat (first | exact Below.refl _ _ | refine Below.drew ?_ | refine below_drewN ?_ _ | refine Below.setCell ?_ (by first | omega | (simp; done) | (simp; omega)) _ | refine Below.alloc ?_ (by first | omega | (simp; done) | (simp; omega)) _ | refine bchain ?_ (by assumption) (by first | omega | (simp; done) | (simp; omega))))
set_option maxHeartbeats 1000000 in
theorem fcompareW (a b c d A B C D : Int) (a1 : -A ≤ a) (a2 : a ≤ A) (b1 : 0 ≤ b) (b2 : b ≤ B) (c1 : -C ≤ c) (c2 : c ≤ C) (d1 : 0 ≤ d) (d2 : d ≤ D) (q1 : A * D ≤ 9000000000000000000) (q2 : C * B ≤ 9000000000000000000) (w : World) :
    Calls Try.prog 70 #[.agg #[.int .i64 a, .int .i64 b], .agg #[.int .i64 c, .int .i64 d]] w fun e w' => e = .returned (.int .i64 (cmpI (a * d) (c * b))) ∧ Below w.heap.size w w' := by
  have m1 := mul_ab a d A D a1 a2 (by omega) d2
  have m2 := mul_ab c b C B c1 c2 (by omega) b2
  generalize A * D = AD at *
  generalize C * B = CB at *
  go_enter Try.func70, Try.ntmps70
  go_wp2_with (first | (go_at_call 80; refine (compare_any _ _ _).mono ?_; rintro e w1 ⟨rfl, rfl⟩))
  go_ret
  exact ⟨rfl, ((Below.refl _ _).alloc (Nat.le_refl _) _).alloc (by simp) _⟩
set_option maxHeartbeats 2000000 in
theorem timesW (x y n A N : Int) (h1 : -A ≤ x) (h2 : x ≤ A) (h3 : 1 ≤ y) (h4 : y ≤ 1000000000000000000) (h5 : -N ≤ n) (h6 : n ≤ N) (q : A * N ≤ 1000000000000000000) (w : World) :
    Calls Try.prog 69 #[.agg #[.int .i64 x, .int .i64 y], .int .i64 n] w fun e w' => e = .returned (.agg #[.int .i64 (lwN (x * n) (y)), .int .i64 (lwD (x * n) (y))]) ∧ Below w.heap.size w w' := by
  have m := mul_ab x n A N h1 h2 h5 h6
  generalize A * N = AN at *
  go_enter Try.func69, Try.ntmps69
  go_wp2_with (first | (go_at_call 60; refine (lowest_any (x * n) (y) (by omega) (by omega) (by omega) (by omega) _).mono ?_; rintro e w1 ⟨rfl, hb⟩; have hc := (bcell hb).1; have hf := (bcell hb).2; have hz : w.heap.size ≤ w1.heap.size := (by have := hb.size; (try simp at this); omega); have hz0 : w.heap.size < w1.heap.size := (by have := hb.size; (try simp at this); omega); have hcA0 := fun o => (bcell hb).1 (w.heap.size) o (by first | omega | (simp; omega) | (simp; done)); have hfA0 := fun o => (bcell hb).2 (w.heap.size) o (by first | omega | (simp; omega) | (simp; done)); have hz1 : w.heap.size + 1 < w1.heap.size := (by have := hb.size; (try simp at this); omega); have hcA1 := fun o => (bcell hb).1 (w.heap.size + 1) o (by first | omega | (simp; omega) | (simp; done)); have hfA1 := fun o => (bcell hb).2 (w.heap.size + 1) o (by first | omega | (simp; omega) | (simp; done))) | go_in)
  all_goals (refine bodyPost_ret (v := .agg #[.int .i64 (lwN (x * n) (y)), .int .i64 (lwD (x * n) (y))]) (by have e0 : (w1.cell? ⟨w.heap.size + 1, 0, none⟩).isSome = true := (by first | (rw [hcA1]; go_simp; done) | (go_simp; done)); have e1 : (w1.cell? ⟨w.heap.size + 1, 1, none⟩).isSome = true := (by first | (rw [hcA1]; go_simp; done) | (go_simp; done)); (try clear hcA0 hfA0 hcA1 hfA1); simp [results, Try.results69, go_sem, e0, e1]; done) rfl ⟨?_, ?_⟩)
  all_goals first | rfl | (repeat (first | exact Below.refl _ _ | refine Below.drew ?_ | refine below_drewN ?_ _ | refine Below.setCell ?_ (by first | omega | (simp; done) | (simp; omega)) _ | refine Below.alloc ?_ (by first | omega | (simp; done) | (simp; omega)) _ | refine bchain ?_ (by assumption) (by first | omega | (simp; done) | (simp; omega))))
set_option maxHeartbeats 2000000 in
theorem overW (a b c d A B C D : Int) (ha1 : -A ≤ a) (ha2 : a ≤ A) (b1 : 1 ≤ b) (b2 : b ≤ B) (c1 : 1 ≤ c) (c2 : c ≤ C) (d1 : 1 ≤ d) (d2 : d ≤ D) (q1 : A * D ≤ 1000000000000000000) (q2 : B * C ≤ 1000000000000000000) (w : World) :
    Calls Try.prog 57 #[.agg #[.int .i64 a, .int .i64 b], .agg #[.int .i64 c, .int .i64 d]] w fun e w' => e = .returned (.agg #[.int .i64 (lwN (a * d) (b * c)), .int .i64 (lwD (a * d) (b * c))]) ∧ Below w.heap.size w w' := by
  have m1 := mul_ab a d A D ha1 ha2 (by omega) d2
  have m2 := mul_bd b c B C (by omega) b2 (by omega) c2
  have m3 := mul_pos1 b1 c1
  generalize A * D = AD at *
  generalize B * C = BC at *
  go_enter Try.func57, Try.ntmps57
  go_wp2_with (first | (go_at_call 60; refine (lowest_any (a * d) (b * c) (by omega) (by omega) (by omega) (by omega) _).mono ?_; rintro e w1 ⟨rfl, hb⟩; have hc := (bcell hb).1; have hf := (bcell hb).2; have hz : w.heap.size ≤ w1.heap.size := (by have := hb.size; (try simp at this); omega); have hz0 : w.heap.size < w1.heap.size := (by have := hb.size; (try simp at this); omega); have hcA0 := fun o => (bcell hb).1 (w.heap.size) o (by first | omega | (simp; omega) | (simp; done)); have hfA0 := fun o => (bcell hb).2 (w.heap.size) o (by first | omega | (simp; omega) | (simp; done)); have hz1 : w.heap.size + 1 < w1.heap.size := (by have := hb.size; (try simp at this); omega); have hcA1 := fun o => (bcell hb).1 (w.heap.size + 1) o (by first | omega | (simp; omega) | (simp; done)); have hfA1 := fun o => (bcell hb).2 (w.heap.size + 1) o (by first | omega | (simp; omega) | (simp; done)); have hz2 : w.heap.size + 2 < w1.heap.size := (by have := hb.size; (try simp at this); omega); have hcA2 := fun o => (bcell hb).1 (w.heap.size + 2) o (by first | omega | (simp; omega) | (simp; done)); have hfA2 := fun o => (bcell hb).2 (w.heap.size + 2) o (by first | omega | (simp; omega) | (simp; done))) | go_in)
  all_goals (refine bodyPost_ret (v := .agg #[.int .i64 (lwN (a * d) (b * c)), .int .i64 (lwD (a * d) (b * c))]) (by have e0 : (w1.cell? ⟨w.heap.size + 2, 0, none⟩).isSome = true := (by first | (rw [hcA2]; go_simp; done) | (go_simp; done)); have e1 : (w1.cell? ⟨w.heap.size + 2, 1, none⟩).isSome = true := (by first | (rw [hcA2]; go_simp; done) | (go_simp; done)); (try clear hcA0 hfA0 hcA1 hfA1 hcA2 hfA2); simp [results, Try.results57, go_sem, e0, e1]; done) rfl ⟨?_, ?_⟩)
  all_goals first | rfl | (repeat (first | exact Below.refl _ _ | refine Below.drew ?_ | refine below_drewN ?_ _ | refine Below.setCell ?_ (by first | omega | (simp; done) | (simp; omega)) _ | refine Below.alloc ?_ (by first | omega | (simp; done) | (simp; omega)) _ | refine bchain ?_ (by assumption) (by first | omega | (simp; done) | (simp; omega))))
set_option maxHeartbeats 2000000 in
theorem legTime_any (l f : Int) (h : lgOk l f = true) (w : World) :
    Calls Try.prog 55 #[.agg #[.int .i64 l, .int .i64 f]] w fun e w' => e = .returned (.agg #[.int .i64 (lwN (l) (f)), .int .i64 (lwD (l) (f))]) ∧ Below w.heap.size w w' := by
  have hk := lgOk_iff.1 h
  have h1 := hk.1
  have h2 := hk.2.1
  have h3 := hk.2.2.1
  have h4 := hk.2.2.2
  clear hk
  go_enter Try.func55, Try.ntmps55
  go_wp2_with (first | (go_at_call 60; refine (lowest_any (l) (f) (by omega) (by omega) (by omega) (by omega) _).mono ?_; rintro e w1 ⟨rfl, hb⟩; have hc := (bcell hb).1; have hf := (bcell hb).2; have hz : w.heap.size ≤ w1.heap.size := (by have := hb.size; (try simp at this); omega); have hz0 : w.heap.size < w1.heap.size := (by have := hb.size; (try simp at this); omega); have hcA0 := fun o => (bcell hb).1 (w.heap.size) o (by first | omega | (simp; omega) | (simp; done)); have hfA0 := fun o => (bcell hb).2 (w.heap.size) o (by first | omega | (simp; omega) | (simp; done)); have hz1 : w.heap.size + 1 < w1.heap.size := (by have := hb.size; (try simp at this); omega); have hcA1 := fun o => (bcell hb).1 (w.heap.size + 1) o (by first | omega | (simp; omega) | (simp; done)); have hfA1 := fun o => (bcell hb).2 (w.heap.size + 1) o (by first | omega | (simp; omega) | (simp; done))) | go_in)
  all_goals (refine bodyPost_ret (v := .agg #[.int .i64 (lwN (l) (f)), .int .i64 (lwD (l) (f))]) (by have e0 : (w1.cell? ⟨w.heap.size + 1, 0, none⟩).isSome = true := (by first | (rw [hcA1]; go_simp; done) | (go_simp; done)); have e1 : (w1.cell? ⟨w.heap.size + 1, 1, none⟩).isSome = true := (by first | (rw [hcA1]; go_simp; done) | (go_simp; done)); (try clear hcA0 hfA0 hcA1 hfA1); simp [results, Try.results55, go_sem, e0, e1]; done) rfl ⟨?_, ?_⟩)
  all_goals first | rfl | (repeat (first | exact Below.refl _ _ | refine Below.drew ?_ | refine below_drewN ?_ _ | refine Below.setCell ?_ (by first | omega | (simp; done) | (simp; omega)) _ | refine Below.alloc ?_ (by first | omega | (simp; done) | (simp; omega)) _ | refine bchain ?_ (by assumption) (by first | omega | (simp; done) | (simp; omega))))
set_option maxHeartbeats 2000000 in
theorem legWay_any (l f : Int) (w : World) :
    Calls Try.prog 53 #[.agg #[.int .i64 l, .int .i64 f]] w fun e w' => e = .returned (.agg #[.int .i64 l, .int .i64 1]) ∧ Below w.heap.size w w' := by
  go_enter Try.func53, Try.ntmps53
  go_wp2
  exact bodyPost_ret (v := .agg #[.int .i64 l, .int .i64 1]) (by simp [results, Try.results53, go_sem]) rfl ⟨rfl, by (repeat (first | exact Below.refl _ _ | refine Below.drew ?_ | refine below_drewN ?_ _ | refine Below.setCell ?_ (by first | omega | (simp; done) | (simp; omega)) _ | refine Below.alloc ?_ (by first | omega | (simp; done) | (simp; omega)) _ | refine bchain ?_ (by assumption) (by first | omega | (simp; done) | (simp; omega))))⟩
set_option maxHeartbeats 2000000 in
theorem minusW (a b c d A B C D : Int) (ha1 : -A ≤ a) (ha2 : a ≤ A) (b1 : 1 ≤ b) (b2 : b ≤ B) (hc1 : -C ≤ c) (hc2 : c ≤ C) (d1 : 1 ≤ d) (d2 : d ≤ D) (q1 : A * D ≤ 400000000000000000) (q2 : C * B ≤ 400000000000000000) (q3 : B * D ≤ 1000000000000000000) (B9 : B ≤ 1000000000000000000) (D9 : D ≤ 1000000000000000000) (C9 : C ≤ 1000000000000000000) (w : World) :
    Calls Try.prog 67 #[.agg #[.int .i64 a, .int .i64 b], .agg #[.int .i64 c, .int .i64 d]] w fun e w' => e = .returned (.agg #[.int .i64 (lwN (plN2 a b (lwN (c * -1) d) (lwD (c * -1) d)) (plD2 b (lwD (c * -1) d))), .int .i64 (lwD (plN2 a b (lwN (c * -1) d) (lwD (c * -1) d)) (plD2 b (lwD (c * -1) d)))]) ∧ Below w.heap.size w w' := by
  have p1 := lwD_pos (a := c * -1) (b := d) (by omega)
  have p2 := lwN_bd (a := c * -1) (b := d) (B := C) (by omega) (by omega) (by omega)
  have HT := Lib.hid (fun w => timesW c d (-1) C 1 hc1 hc2 d1 (by omega) (by omega) (by omega) (by omega) w)
  have HP := Lib.hid (fun w => plusW a b (lwN (c * -1) d) (lwD (c * -1) d) A B C D ha1 ha2 b1 b2 p2.1 p2.2 p1.1 (by omega) q1 q2 q3 B9 D9 w)
  generalize lwN (c * -1) d = x at *
  generalize lwD (c * -1) d = y at *
  generalize lwN (plN2 a b x y) (plD2 b y) = X at *
  generalize lwD (plN2 a b x y) (plD2 b y) = Y at *
  go_enter Try.func67, Try.ntmps67
  go_wp2_with fail
  go_region_held3 (fun w' => Below w.heap.size w w' ∧ w.heap.size + 2 < w'.heap.size ∧ w'.cell? ⟨w.heap.size, 0, none⟩ = some (.int .i64 a) ∧ w'.cell? ⟨w.heap.size, 1, none⟩ = some (.int .i64 b) ∧ w'.cell? ⟨w.heap.size + 1, 0, none⟩ = some (.int .i64 c) ∧ w'.cell? ⟨w.heap.size + 1, 1, none⟩ = some (.int .i64 d))
    (refine ⟨?_, ?_, ?_, ?_, ?_, ?_⟩ <;> first | assumption | omega | (simp; omega) | (go_simp; done) | (repeat (first | exact Below.refl _ _ | refine Below.drew ?_ | refine below_drewN ?_ _ | refine Below.setCell ?_ (by first | omega | (simp; done) | (simp; omega)) _ | refine Below.alloc ?_ (by first | omega | (simp; done) | (simp; omega)) _ | refine bchain ?_ (by assumption) (by first | omega | (simp; done) | (simp; omega)))))
    (first | (go_at_call 69; refine (HT.out _).mono ?_; rintro e w1 ⟨rfl, hb⟩; have hc := (bcell hb).1; have hf := (bcell hb).2; have hz : w.heap.size ≤ w1.heap.size := (by have := hb.size; (try simp at this); omega); have hz0 : w.heap.size < w1.heap.size := (by have := hb.size; (try simp at this); omega); have hcA0 := fun o => (bcell hb).1 (w.heap.size) o (by first | omega | (simp; omega) | (simp; done)); have hfA0 := fun o => (bcell hb).2 (w.heap.size) o (by first | omega | (simp; omega) | (simp; done)); have hz1 : w.heap.size + 1 < w1.heap.size := (by have := hb.size; (try simp at this); omega); have hcA1 := fun o => (bcell hb).1 (w.heap.size + 1) o (by first | omega | (simp; omega) | (simp; done)); have hfA1 := fun o => (bcell hb).2 (w.heap.size + 1) o (by first | omega | (simp; omega) | (simp; done)); have hz2 : w.heap.size + 2 < w1.heap.size := (by have := hb.size; (try simp at this); omega); have hcA2 := fun o => (bcell hb).1 (w.heap.size + 2) o (by first | omega | (simp; omega) | (simp; done)); have hfA2 := fun o => (bcell hb).2 (w.heap.size + 2) o (by first | omega | (simp; omega) | (simp; done))) | (go_at_call 68; refine (HP.out _).mono ?_; rintro e w1 ⟨rfl, hb⟩; have hc := (bcell hb).1; have hf := (bcell hb).2; have hz : w.heap.size ≤ w1.heap.size := (by have := hb.size; (try simp at this); omega); have hz0 : w.heap.size < w1.heap.size := (by have := hb.size; (try simp at this); omega); have hcA0 := fun o => (bcell hb).1 (w.heap.size) o (by first | omega | (simp; omega) | (simp; done)); have hfA0 := fun o => (bcell hb).2 (w.heap.size) o (by first | omega | (simp; omega) | (simp; done)); have hz1 : w.heap.size + 1 < w1.heap.size := (by have := hb.size; (try simp at this); omega); have hcA1 := fun o => (bcell hb).1 (w.heap.size + 1) o (by first | omega | (simp; omega) | (simp; done)); have hfA1 := fun o => (bcell hb).2 (w.heap.size + 1) o (by first | omega | (simp; omega) | (simp; done)); have hz2 : w.heap.size + 2 < w1.heap.size := (by have := hb.size; (try simp at this); omega); have hcA2 := fun o => (bcell hb).1 (w.heap.size + 2) o (by first | omega | (simp; omega) | (simp; done)); have hfA2 := fun o => (bcell hb).2 (w.heap.size + 2) o (by first | omega | (simp; omega) | (simp; done))))
  all_goals
    have e0 : (w1.cell? ⟨w.heap.size + 2, 0, none⟩).isSome = true := by first | (rw [hcA2]; go_simp; done) | (go_simp; done)
    have e1 : (w1.cell? ⟨w.heap.size + 2, 1, none⟩).isSome = true := by first | (rw [hcA2]; go_simp; done) | (go_simp; done)
    go_wp2_with fail
    refine bodyPost_ret (v := .agg #[.int .i64 X, .int .i64 Y]) (by simp [results, Try.results67, go_sem, e0, e1]; done) rfl ⟨rfl, ?_⟩
    (repeat (first | exact Below.refl _ _ | refine Below.drew ?_ | refine below_drewN ?_ _ | refine Below.setCell ?_ (by first | omega | (simp; done) | (simp; omega)) _ | refine Below.alloc ?_ (by first | omega | (simp; done) | (simp; omega)) _ | refine bchain ?_ (by assumption) (by first | omega | (simp; done) | (simp; omega))))
set_option maxHeartbeats 2000000 in
theorem isLong_any (n : Int) (w : World) :
    Calls Try.prog 48 #[.int .i64 n] w fun e w' => e = .returned (.bool (inB n 1 1000)) ∧ w = w' := by
  go_enter Try.func48, Try.ntmps48
  go_wp2_with (first | (go_at_call 73; refine (implIn _ _ _ _).mono ?_; rintro e w1 ⟨rfl, rfl⟩) | go_in)
  go_ret
  exact ⟨rfl, rfl⟩
set_option maxHeartbeats 2000000 in
theorem isFast_any (n : Int) (w : World) :
    Calls Try.prog 49 #[.int .i64 n] w fun e w' => e = .returned (.bool (inB n 1 100)) ∧ w = w' := by
  go_enter Try.func49, Try.ntmps49
  go_wp2_with (first | (go_at_call 73; refine (implIn _ _ _ _).mono ?_; rintro e w1 ⟨rfl, rfl⟩) | go_in)
  go_ret
  exact ⟨rfl, rfl⟩
set_option maxHeartbeats 2000000 in
theorem isLegTime_any (n d : Int) (w : World) :
    Calls Try.prog 65 #[.int .i64 n, .int .i64 d] w fun e w' => e = .returned (.bool (gmOk n d)) ∧ w = w' := by
  cases h1 : inB n 0 100000
  all_goals
    go_enter Try.func65, Try.ntmps65
    go_wp2_with (first | (go_at_call 73; refine (implIn _ _ _ _).mono ?_; rintro e w1 ⟨rfl, rfl⟩) | go_in)
    all_goals (go_ret; refine ⟨rB ?_, rfl⟩)
    all_goals (simp [gmOk, h1]; done)
set_option maxHeartbeats 2000000 in
theorem isLeg_any (l f : Int) (w : World) :
    Calls Try.prog 47 #[.agg #[.int .i64 l, .int .i64 f]] w fun e w' => e = .returned (.bool (lgOk l f)) ∧ Below w.heap.size w w' := by
  cases h1 : inB l 1 1000
  all_goals
    go_enter Try.func47, Try.ntmps47
    go_wp2_with (first | (go_at_call 48; refine (isLong_any _ _).mono ?_; rintro e w1 ⟨rfl, rfl⟩) | (go_at_call 49; refine (isFast_any _ _).mono ?_; rintro e w1 ⟨rfl, rfl⟩) | go_in)
    all_goals (go_ret; refine ⟨rB ?_, ?_⟩)
    all_goals first | (simp [lgOk, h1]; done) | (repeat (first | exact Below.refl _ _ | refine Below.drew ?_ | refine below_drewN ?_ _ | refine Below.setCell ?_ (by first | omega | (simp; done) | (simp; omega)) _ | refine Below.alloc ?_ (by first | omega | (simp; done) | (simp; omega)) _ | refine bchain ?_ (by assumption) (by first | omega | (simp; done) | (simp; omega))))
set_option maxHeartbeats 1000000 in
theorem implAreLegs (a : Option Addr) (cap : Nat) (xs : List (Int × Int)) (w : World) (h : RdP w a xs) (hn : xs.length ≤ 1048576) :
    Calls Try.prog 18 #[.slice a xs.length cap] w fun e w' => e = .returned (.bool (lgS xs)) ∧ Below w.heap.size w w' := by
  go_enter Try.func18, Try.ntmps18
  go_wp2_with fail
  refine (areAllG 47 #[] lgOk a cap xs 5 _ h hn (enters_of Try.func47 (by kernel_rfl) rfl) (fun x y W _ => isLeg_any x y W)).mono ?_
  rintro e w1 ⟨rfl, hb⟩
  go_wp2_with fail
  go_ret
  exact ⟨rfl, hb⟩
set_option maxHeartbeats 1000000 in
theorem areSpeeds_any (a : Option Addr) (cap : Nat) (xs : List Int) (w : World) (h : Rd w a xs) (hn : xs.length ≤ 1048576) :
    Calls Try.prog 59 #[.slice a xs.length cap] w fun e w' => e = .returned (.bool (inB (xs.length : Int) 1 5 && allV (fun n => inB n 1 100) xs)) ∧ w = w' := by
  go_enter Try.func59, Try.ntmps59
  go_wp2_with fail
  refine (areAllI 49 #[] (fun n => inB n 1 100) a cap xs 5 _ h (by omega) (enters_of Try.func49 (by kernel_rfl) rfl) (fun x W => isFast_any x W)).mono ?_
  rintro e w1 ⟨rfl, rfl⟩
  go_wp2_with fail
  go_ret
  exact ⟨rfl, rfl⟩
end Go.Proofs.Ytjgicbfgbcihoaa
