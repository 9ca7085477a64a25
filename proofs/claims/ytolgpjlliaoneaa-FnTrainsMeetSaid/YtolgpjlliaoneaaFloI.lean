/- Times of trains that are told by floats at first: guess, later, plus and LeastHeadway by contracts. -/
import Derived.Test.YtolgpjlliaoneaaProg
import Derived.Test.YtolgpjlliaoneaaFlo
import Derived.Test.YtolgpjlliaoneaaTrnImpl
import Derived.Test.YtolgpjlliaoneaaHeadMath
import Derived.Test.YtolgpjlliaoneaaCmpI
import Derived.WalkKit
import Derived.WalkSpells
import Derived.WalkLawsBesides
import Derived.Lib.Hide
import Derived.Deep.RegionWith
import Derived.Deep.RegionHeld3
import Derived.Deep.QuietTactic
import Derived.BigQuiet
namespace Go.Proofs.Ytolgpjlliaoneaa
open Go.RowKit
set_option linter.unusedVariables false
set_option linter.unusedSimpArgs false

theorem cmpI_pos (x y : Int) : decide (0 < cmpI x y) = decide (y < x) := by
  unfold cmpI
  rcases Int.lt_trichotomy x y with q | q | q
  · rw [if_pos q, decide_eq_false (show ¬ (0 : Int) < -1 by omega), decide_eq_false (by omega)]
  · rw [if_neg (by omega), if_neg (by omega), decide_eq_false (show ¬ (0 : Int) < 0 by omega), decide_eq_false (by omega)]
  · rw [if_neg (by omega), if_pos q, decide_eq_true (show (0 : Int) < 1 by omega), decide_eq_true q]
set_option maxHeartbeats 2000000 in
theorem guess_any (a b : Int) (q : Nat) (h : Ieee.double.div (floatOfInt .f64 a) (floatOfInt .f64 b) = some q) (w : World) :
    Calls Try.prog 69 #[.agg #[.int .i64 a, .int .i64 b]] w fun e w' => e = .returned (.float .f64 q) ∧ Below w.heap.size w w' := by
  have hop := fun t w => run_float_arith (P := Try.prog) w .quo t .f64 _ _ q (show floatBits .quo .f64 _ _ = some q from h)
  go_enter Try.func69, Try.ntmps69
  go_wp2_with (simp only [hop])
  all_goals (go_ret; refine ⟨rfl, ?_⟩)
  all_goals (repeat (first | exact Below.refl _ _ | refine Below.drew ?_ | refine below_drewN ?_ _ | refine Below.setCell ?_ (by first | omega | (simp; done) | (simp; omega)) _ | refine Below.alloc ?_ (by first | omega | (simp; done) | (simp; omega)) _ | refine bchain ?_ (by assumption) (by first | omega | (simp; done) | (simp; omega))))
set_option maxHeartbeats 2000000 in
theorem later_any (a b c d : Int) (ha1 : -1000000000 ≤ a) (ha2 : a ≤ 1000000000) (b1 : 1 ≤ b) (b2 : b ≤ 1000000) (hc1 : -1000000000 ≤ c) (hc2 : c ≤ 1000000000) (d1 : 1 ≤ d) (d2 : d ≤ 1000000) (w : World) :
    Calls Try.prog 39 #[.agg #[.int .i64 a, .int .i64 b], .agg #[.int .i64 c, .int .i64 d]] w fun e w' => e = .returned (.agg #[.int .i64 (ltN a b c d), .int .i64 (ltD a b c d)]) ∧ Below w.heap.size w w' := by
  obtain ⟨q1, q2, dd, p1, p2, p3, e1, e2, e3, o1, o2, o3, hp⟩ := guess_ok a b c d (by omega) b1 (by omega) (by omega) d1 (by omega)
  have g1 := Lib.hid (fun w => guess_any a b q1 e1 w)
  have g2 := Lib.hid (fun w => guess_any c d q2 e2 w)
  have hop := fun t w => run_float_arith (P := Try.prog) w .sub t .f64 _ _ dd (show floatBits .sub .f64 _ _ = some dd from e3)
  have m1 := mul_ab a d 1073741824 1000000 (by omega) (by omega) (by omega) (by omega)
  have m2 := mul_ab c b 1073741824 1000000 (by omega) (by omega) (by omega) (by omega)
  have o1' : (FloatKind.f64.format.order 13785626545772145148 dd == some Ordering.lt) = p1 := o1
  have o2' : (FloatKind.f64.format.order dd 4562254508917369340 == some Ordering.lt) = p2 := o2
  have o3' : (FloatKind.f64.format.order dd 0 == some Ordering.gt) = p3 := o3
  have o4' : (FloatKind.f64.format.order (floatOfInt .f64 (cmpI (a * d) (c * b))) 0 == some Ordering.gt) = decide (c * b < a * d) := by
    have h := int_gt (cmpI (a * d) (c * b)) (by unfold cmpI; (repeat' split) <;> decide)
    rw [cmpI_pos] at h; exact h
  clear e1 e2 e3 o1 o2 o3
  by_cases hfar : p1 = true ∧ p2 = true
  · obtain ⟨rfl, rfl⟩ := hfar
    clear hp
    cases hx : decide (c * b < a * d)
    all_goals
      have hN0 : ltN a b c d = (if decide (c * b < a * d) then a else c) ∧ ltD a b c d = (if decide (c * b < a * d) then b else d) := by unfold ltN ltD; simp only [decide_eq_true_eq, and_self]
      rw [hx] at o4' hN0
      simp only [Bool.false_eq_true, if_true, if_false] at hN0
      have hN := Lib.hid hN0
      clear hx hN0
      go_enter Try.func39, Try.ntmps39
      go_wp2_with fail
      go_region_held3 (fun w' => Below w.heap.size w w' ∧ w.heap.size + 2 < w'.heap.size ∧ w'.cell? ⟨w.heap.size, 0, none⟩ = some (.int .i64 a) ∧ w'.cell? ⟨w.heap.size, 1, none⟩ = some (.int .i64 b) ∧ w'.cell? ⟨w.heap.size + 1, 0, none⟩ = some (.int .i64 c) ∧ w'.cell? ⟨w.heap.size + 1, 1, none⟩ = some (.int .i64 d) ∧ w'.cell? ⟨w.heap.size + 2, 0, none⟩ = some (.int .i64 0) ∧ w'.cell? ⟨w.heap.size + 2, 1, none⟩ = some (.int .i64 0))
        (refine ⟨?_, ?_, ?_, ?_, ?_, ?_, ?_, ?_⟩ <;> first | assumption | omega | (simp; omega) | (go_simp; done) | (repeat (first | exact Below.refl _ _ | refine Below.drew ?_ | refine below_drewN ?_ _ | refine Below.setCell ?_ (by first | omega | (simp; done) | (simp; omega)) _ | refine Below.alloc ?_ (by first | omega | (simp; done) | (simp; omega)) _ | refine bchain ?_ (by assumption) (by first | omega | (simp; done) | (simp; omega)))))
        (first | (go_at_call_of 69 (Value.agg #[.int .i64 a, .int .i64 b]); refine (g1.out _).mono ?_; rintro e w1 ⟨rfl, hb⟩; have hc := (bcell hb).1; have hf := (bcell hb).2; have hz : w.heap.size ≤ w1.heap.size := (by have := hb.size; (try simp at this); omega); have hz0 : w.heap.size < w1.heap.size := (by have := hb.size; (try simp at this); omega); have hcA0 := fun o => (bcell hb).1 (w.heap.size) o (by first | omega | (simp; omega) | (simp; done)); have hfA0 := fun o => (bcell hb).2 (w.heap.size) o (by first | omega | (simp; omega) | (simp; done)); have hz1 : w.heap.size + 1 < w1.heap.size := (by have := hb.size; (try simp at this); omega); have hcA1 := fun o => (bcell hb).1 (w.heap.size + 1) o (by first | omega | (simp; omega) | (simp; done)); have hfA1 := fun o => (bcell hb).2 (w.heap.size + 1) o (by first | omega | (simp; omega) | (simp; done)); have hz2 : w.heap.size + 2 < w1.heap.size := (by have := hb.size; (try simp at this); omega); have hcA2 := fun o => (bcell hb).1 (w.heap.size + 2) o (by first | omega | (simp; omega) | (simp; done)); have hfA2 := fun o => (bcell hb).2 (w.heap.size + 2) o (by first | omega | (simp; omega) | (simp; done))) | (go_at_call_of 69 (Value.agg #[.int .i64 c, .int .i64 d]); refine (g2.out _).mono ?_; rintro e w1 ⟨rfl, hb⟩; have hc := (bcell hb).1; have hf := (bcell hb).2; have hz : w.heap.size ≤ w1.heap.size := (by have := hb.size; (try simp at this); omega); have hz0 : w.heap.size < w1.heap.size := (by have := hb.size; (try simp at this); omega); have hcA0 := fun o => (bcell hb).1 (w.heap.size) o (by first | omega | (simp; omega) | (simp; done)); have hfA0 := fun o => (bcell hb).2 (w.heap.size) o (by first | omega | (simp; omega) | (simp; done)); have hz1 : w.heap.size + 1 < w1.heap.size := (by have := hb.size; (try simp at this); omega); have hcA1 := fun o => (bcell hb).1 (w.heap.size + 1) o (by first | omega | (simp; omega) | (simp; done)); have hfA1 := fun o => (bcell hb).2 (w.heap.size + 1) o (by first | omega | (simp; omega) | (simp; done)); have hz2 : w.heap.size + 2 < w1.heap.size := (by have := hb.size; (try simp at this); omega); have hcA2 := fun o => (bcell hb).1 (w.heap.size + 2) o (by first | omega | (simp; omega) | (simp; done)); have hfA2 := fun o => (bcell hb).2 (w.heap.size + 2) o (by first | omega | (simp; omega) | (simp; done))) | (simp only [hop]))
    all_goals
      rename_i hHeld
      obtain ⟨H0, H1, c0, c1, d0, d1, x0, x1⟩ := hHeld
      go_wp2_with fail
      refine (fcompare_any a b c d (by omega) (by omega) (by omega) (by omega) (by omega) (by omega) (by omega) (by omega) _).mono ?_; rintro e w2 ⟨rfl, hb2⟩
      have hs2 := hb2.size
      have q0 := fun o => (bcell hb2).1 w.heap.size o (by omega)
      have q1 := fun o => (bcell hb2).1 (w.heap.size + 1) o (by omega)
      have q2 := fun o => (bcell hb2).1 (w.heap.size + 2) o (by omega)
      have r2 := fun o => (bcell hb2).2 (w.heap.size + 2) o (by omega)
      have B2 := Lib.hid (H0.trans (hb2.mono H0.size))
      clear hb2
      go_wp2_with fail
      refine bodyPost_ret (v := .agg #[.int .i64 (ltN a b c d), .int .i64 (ltD a b c d)]) (by rw [hN.out.1, hN.out.2]; have e0 : (w2.cell? ⟨w.heap.size + 2, 0, none⟩).isSome = true := (by first | (rw [q2, x0]; rfl) | (rw [x0]; rfl)); have e1 : (w2.cell? ⟨w.heap.size + 2, 1, none⟩).isSome = true := (by first | (rw [q2, x1]; rfl) | (rw [x1]; rfl)); simp [results, Try.results39, go_sem, e0, e1]; done) rfl ⟨rfl, ?_⟩
      have BB := B2.out
      (repeat (first | exact Below.refl _ _ | refine Below.drew ?_ | refine below_drewN ?_ _ | refine Below.setCell ?_ (by first | omega | (simp; done) | (simp; omega)) _ | refine Below.alloc ?_ (by first | omega | (simp; done) | (simp; omega)) _ | refine bchain ?_ (by assumption) (by first | omega | (simp; done) | (simp; omega))))
  · have hp3 := hp (by cases p1 <;> cases p2 <;> simp_all)
    clear hp
    cases hx : decide (c * b < a * d)
    all_goals
      have hN0 : ltN a b c d = (if decide (c * b < a * d) then a else c) ∧ ltD a b c d = (if decide (c * b < a * d) then b else d) := by unfold ltN ltD; simp only [decide_eq_true_eq, and_self]
      rw [hx] at hp3 hN0
      simp only [Bool.false_eq_true, if_true, if_false] at hN0
      have hN := Lib.hid hN0
      subst hp3
      clear hx hN0
      go_enter Try.func39, Try.ntmps39
      go_wp2_with fail
      cases p1 <;> cases p2
      all_goals first | exact absurd ⟨rfl, rfl⟩ hfar | skip
      all_goals clear hfar
      all_goals
        go_region_held3 (fun w' => Below w.heap.size w w' ∧ w.heap.size + 2 < w'.heap.size ∧ w'.cell? ⟨w.heap.size, 0, none⟩ = some (.int .i64 a) ∧ w'.cell? ⟨w.heap.size, 1, none⟩ = some (.int .i64 b) ∧ w'.cell? ⟨w.heap.size + 1, 0, none⟩ = some (.int .i64 c) ∧ w'.cell? ⟨w.heap.size + 1, 1, none⟩ = some (.int .i64 d) ∧ w'.cell? ⟨w.heap.size + 2, 0, none⟩ = some (.int .i64 0) ∧ w'.cell? ⟨w.heap.size + 2, 1, none⟩ = some (.int .i64 0))
          (refine ⟨?_, ?_, ?_, ?_, ?_, ?_, ?_, ?_⟩ <;> first | assumption | omega | (simp; omega) | (go_simp; done) | (repeat (first | exact Below.refl _ _ | refine Below.drew ?_ | refine below_drewN ?_ _ | refine Below.setCell ?_ (by first | omega | (simp; done) | (simp; omega)) _ | refine Below.alloc ?_ (by first | omega | (simp; done) | (simp; omega)) _ | refine bchain ?_ (by assumption) (by first | omega | (simp; done) | (simp; omega)))))
          (first | (go_at_call_of 69 (Value.agg #[.int .i64 a, .int .i64 b]); refine (g1.out _).mono ?_; rintro e w1 ⟨rfl, hb⟩; have hc := (bcell hb).1; have hf := (bcell hb).2; have hz : w.heap.size ≤ w1.heap.size := (by have := hb.size; (try simp at this); omega); have hz0 : w.heap.size < w1.heap.size := (by have := hb.size; (try simp at this); omega); have hcA0 := fun o => (bcell hb).1 (w.heap.size) o (by first | omega | (simp; omega) | (simp; done)); have hfA0 := fun o => (bcell hb).2 (w.heap.size) o (by first | omega | (simp; omega) | (simp; done)); have hz1 : w.heap.size + 1 < w1.heap.size := (by have := hb.size; (try simp at this); omega); have hcA1 := fun o => (bcell hb).1 (w.heap.size + 1) o (by first | omega | (simp; omega) | (simp; done)); have hfA1 := fun o => (bcell hb).2 (w.heap.size + 1) o (by first | omega | (simp; omega) | (simp; done)); have hz2 : w.heap.size + 2 < w1.heap.size := (by have := hb.size; (try simp at this); omega); have hcA2 := fun o => (bcell hb).1 (w.heap.size + 2) o (by first | omega | (simp; omega) | (simp; done)); have hfA2 := fun o => (bcell hb).2 (w.heap.size + 2) o (by first | omega | (simp; omega) | (simp; done))) | (go_at_call_of 69 (Value.agg #[.int .i64 c, .int .i64 d]); refine (g2.out _).mono ?_; rintro e w1 ⟨rfl, hb⟩; have hc := (bcell hb).1; have hf := (bcell hb).2; have hz : w.heap.size ≤ w1.heap.size := (by have := hb.size; (try simp at this); omega); have hz0 : w.heap.size < w1.heap.size := (by have := hb.size; (try simp at this); omega); have hcA0 := fun o => (bcell hb).1 (w.heap.size) o (by first | omega | (simp; omega) | (simp; done)); have hfA0 := fun o => (bcell hb).2 (w.heap.size) o (by first | omega | (simp; omega) | (simp; done)); have hz1 : w.heap.size + 1 < w1.heap.size := (by have := hb.size; (try simp at this); omega); have hcA1 := fun o => (bcell hb).1 (w.heap.size + 1) o (by first | omega | (simp; omega) | (simp; done)); have hfA1 := fun o => (bcell hb).2 (w.heap.size + 1) o (by first | omega | (simp; omega) | (simp; done)); have hz2 : w.heap.size + 2 < w1.heap.size := (by have := hb.size; (try simp at this); omega); have hcA2 := fun o => (bcell hb).1 (w.heap.size + 2) o (by first | omega | (simp; omega) | (simp; done)); have hfA2 := fun o => (bcell hb).2 (w.heap.size + 2) o (by first | omega | (simp; omega) | (simp; done))) | (simp only [hop]))
    all_goals
      rename_i hHeld
      obtain ⟨H0, H1, c0, c1, d0, d1, x0, x1⟩ := hHeld
      go_wp2_with fail
      refine bodyPost_ret (v := .agg #[.int .i64 (ltN a b c d), .int .i64 (ltD a b c d)]) (by rw [hN.out.1, hN.out.2]; have e0 := congrArg Option.isSome x0; have e1 := congrArg Option.isSome x1; simp only [Option.isSome_some] at e0 e1; simp [results, Try.results39, go_sem, e0, e1]; done) rfl ⟨rfl, ?_⟩
      (repeat (first | exact Below.refl _ _ | refine Below.drew ?_ | refine below_drewN ?_ _ | refine Below.setCell ?_ (by first | omega | (simp; done) | (simp; omega)) _ | refine Below.alloc ?_ (by first | omega | (simp; done) | (simp; omega)) _ | refine bchain ?_ (by assumption) (by first | omega | (simp; done) | (simp; omega))))
set_option maxHeartbeats 2000000 in
theorem plus_any (a b c d : Int) (ha1 : -1000000 ≤ a) (ha2 : a ≤ 1000000) (b1 : 1 ≤ b) (b2 : b ≤ 1000) (hc1 : -1000000 ≤ c) (hc2 : c ≤ 1000000) (d1 : 1 ≤ d) (d2 : d ≤ 1000) (w : World) :
    Calls Try.prog 38 #[.agg #[.int .i64 a, .int .i64 b], .agg #[.int .i64 c, .int .i64 d]] w fun e w' => e = .returned (.agg #[.int .i64 (lwN (plN2 a b c d) (plD2 b d)), .int .i64 (lwD (plN2 a b c d) (plD2 b d))]) ∧ Below w.heap.size w w' := by
  have g1 := gc_pos (a := b) (b := d) (by omega)
  have g2 := gc_le (a := b) (b := d) (by omega)
  have t1 := tdiv_pos (gc_dvd_l b d) b1 g1
  have t2 := tdiv_pos (gc_dvd_r b d) d1 g1
  have m1 := mul_ab a (d.tdiv (gc b d)) 1000000 1000 (by omega) (by omega) (by omega) (by omega)
  have m2 := mul_ab c (b.tdiv (gc b d)) 1000000 1000 (by omega) (by omega) (by omega) (by omega)
  have m3 := mul_bd (b.tdiv (gc b d)) d 1000 1000 (by omega) (by omega) (by omega) (by omega)
  have m4 := mul_pos1 t1.1 d1
  have HG := Lib.hid (fun w => gcd_any b d (by omega) (by omega) (by omega) (by omega) w)
  have d3 : (gc b d == 0) = false := by rw [beq_eq_false_iff_ne]; omega
  have d4 : ¬ gc b d = 0 := by omega
  have d5 : ¬ gc b d = -1 := by omega
  have HL := Lib.hid (fun w => lowest_any (plN2 a b c d) (plD2 b d) (by unfold plN2; omega) (by unfold plN2; omega) (by unfold plD2; omega) (by unfold plD2; omega) w)
  have eN : a * (d.tdiv (gc b d)) + c * (b.tdiv (gc b d)) = plN2 a b c d := rfl
  have eD : b.tdiv (gc b d) * d = plD2 b d := rfl
  rw [← eN, ← eD] at HL
  rw [← eN, ← eD]
  clear eN eD
  generalize gc b d = g at *
  generalize hbg : b.tdiv g = bg at *
  generalize hdg : d.tdiv g = dg at *
  have u7 : IntKind.i64.wrap bg = bg := IntWalk.i64_in _ (by omega)
  have u8 : IntKind.i64.wrap dg = dg := IntWalk.i64_in _ (by omega)
  have u3 : IntKind.i64.wrap (a * dg) = a * dg := IntWalk.i64_in _ (by omega)
  have u4 : IntKind.i64.wrap (c * bg) = c * bg := IntWalk.i64_in _ (by omega)
  have u5 : IntKind.i64.wrap (bg * d) = bg * d := IntWalk.i64_in _ (by omega)
  have u6 : IntKind.i64.wrap (a * dg + c * bg) = a * dg + c * bg := IntWalk.i64_in _ (by omega)
  go_enter Try.func38, Try.ntmps38
  go_wp2_with (go_at_call 67; refine (HG.out _).mono ?_; rintro e w1 ⟨rfl, hb⟩; have hc := (bcell hb).1; have hf := (bcell hb).2; have hz : w.heap.size ≤ w1.heap.size := (by have := hb.size; (try simp at this); omega); have hz0 : w.heap.size < w1.heap.size := (by have := hb.size; (try simp at this); omega); have hcA0 := fun o => (bcell hb).1 (w.heap.size) o (by first | omega | (simp; omega) | (simp; done)); have hfA0 := fun o => (bcell hb).2 (w.heap.size) o (by first | omega | (simp; omega) | (simp; done)); have hz1 : w.heap.size + 1 < w1.heap.size := (by have := hb.size; (try simp at this); omega); have hcA1 := fun o => (bcell hb).1 (w.heap.size + 1) o (by first | omega | (simp; omega) | (simp; done)); have hfA1 := fun o => (bcell hb).2 (w.heap.size + 1) o (by first | omega | (simp; omega) | (simp; done)); have hz2 : w.heap.size + 2 < w1.heap.size := (by have := hb.size; (try simp at this); omega); have hcA2 := fun o => (bcell hb).1 (w.heap.size + 2) o (by first | omega | (simp; omega) | (simp; done)); have hfA2 := fun o => (bcell hb).2 (w.heap.size + 2) o (by first | omega | (simp; omega) | (simp; done)))
  go_region_held3 (fun w' => Below w.heap.size w w' ∧ w.heap.size + 2 < w'.heap.size ∧ w'.cell? ⟨w.heap.size, 0, none⟩ = some (.int .i64 a) ∧ w'.cell? ⟨w.heap.size, 1, none⟩ = some (.int .i64 b) ∧ w'.cell? ⟨w.heap.size + 1, 0, none⟩ = some (.int .i64 c) ∧ w'.cell? ⟨w.heap.size + 1, 1, none⟩ = some (.int .i64 d))
    (refine ⟨?_, ?_, ?_, ?_, ?_, ?_⟩ <;> first | assumption | omega | (simp; omega) | (go_simp; done) | (repeat (first | exact Below.refl _ _ | refine Below.drew ?_ | refine below_drewN ?_ _ | refine Below.setCell ?_ (by first | omega | (simp; done) | (simp; omega)) _ | refine Below.alloc ?_ (by first | omega | (simp; done) | (simp; omega)) _ | refine bchain ?_ (by assumption) (by first | omega | (simp; done) | (simp; omega)))))
    (first | (go_at_call 37; refine (HL.out _).mono ?_; rintro e w1 ⟨rfl, hb⟩; have hc := (bcell hb).1; have hf := (bcell hb).2; have hz : w.heap.size ≤ w1.heap.size := (by have := hb.size; (try simp at this); omega); have hz0 : w.heap.size < w1.heap.size := (by have := hb.size; (try simp at this); omega); have hcA0 := fun o => (bcell hb).1 (w.heap.size) o (by first | omega | (simp; omega) | (simp; done)); have hfA0 := fun o => (bcell hb).2 (w.heap.size) o (by first | omega | (simp; omega) | (simp; done)); have hz1 : w.heap.size + 1 < w1.heap.size := (by have := hb.size; (try simp at this); omega); have hcA1 := fun o => (bcell hb).1 (w.heap.size + 1) o (by first | omega | (simp; omega) | (simp; done)); have hfA1 := fun o => (bcell hb).2 (w.heap.size + 1) o (by first | omega | (simp; omega) | (simp; done)); have hz2 : w.heap.size + 2 < w1.heap.size := (by have := hb.size; (try simp at this); omega); have hcA2 := fun o => (bcell hb).1 (w.heap.size + 2) o (by first | omega | (simp; omega) | (simp; done)); have hfA2 := fun o => (bcell hb).2 (w.heap.size + 2) o (by first | omega | (simp; omega) | (simp; done))))
  all_goals
    have e0 : (w1.cell? ⟨w.heap.size + 2, 0, none⟩).isSome = true := by first | (rw [hcA2]; go_simp; done) | (go_simp; done)
    have e1 : (w1.cell? ⟨w.heap.size + 2, 1, none⟩).isSome = true := by first | (rw [hcA2]; go_simp; done) | (go_simp; done)
    go_wp2_with fail
    refine bodyPost_ret (v := .agg #[.int .i64 (lwN (a * dg + c * bg) (bg * d)), .int .i64 (lwD (a * dg + c * bg) (bg * d))]) (by simp [results, Try.results38, go_sem, e0, e1]; done) rfl ⟨rfl, ?_⟩
    (repeat (first | exact Below.refl _ _ | refine Below.drew ?_ | refine below_drewN ?_ _ | refine Below.setCell ?_ (by first | omega | (simp; done) | (simp; omega)) _ | refine Below.alloc ?_ (by first | omega | (simp; done) | (simp; omega)) _ | refine bchain ?_ (by assumption) (by first | omega | (simp; done) | (simp; omega))))
set_option maxHeartbeats 8000000 in
theorem implLeastHeadway (l r m q y : Int) (w : World) :
    Calls Try.prog 10 #[.agg #[.int .i64 l, .int .i64 r], .agg #[.int .i64 m, .int .i64 q], .int .i64 y] w fun e w' => e = .returned (.tuple #[.int .i64 (ifI (tn2 l r m q && wyOk y && decide (l ≤ y)) (lwN (hwN l r m q y) (hwD l r m q y))), .int .i64 (ifI (tn2 l r m q && wyOk y && decide (l ≤ y)) (lwD (hwN l r m q y) (hwD l r m q y))), .bool (tn2 l r m q && wyOk y && decide (l ≤ y))]) ∧ Below w.heap.size w w' := by
  cases hv : tn2 l r m q
  case false =>
    cases h1 : tnOk l r <;> cases h2 : tnOk m q
    all_goals first | (exfalso; simp [tn2, h1, h2] at hv; done) | skip
    all_goals
      go_enter Try.func10, Try.ntmps10
      go_wp2_with (first | (go_at_call_of 30 (Value.agg #[.int .i64 l, .int .i64 r]); refine (implIsTrain _ _ _).mono ?_; rw [h1]; rintro e w1 ⟨rfl, hb⟩; have hc := (bcell hb).1; have hf := (bcell hb).2; have hz : w.heap.size ≤ w1.heap.size := (by have := hb.size; (try simp at this); omega); have hz0 : w.heap.size < w1.heap.size := (by have := hb.size; (try simp at this); omega); have hcA0 := fun o => (bcell hb).1 (w.heap.size) o (by first | omega | (simp; omega) | (simp; done)); have hfA0 := fun o => (bcell hb).2 (w.heap.size) o (by first | omega | (simp; omega) | (simp; done)); have hz1 : w.heap.size + 1 < w1.heap.size := (by have := hb.size; (try simp at this); omega); have hcA1 := fun o => (bcell hb).1 (w.heap.size + 1) o (by first | omega | (simp; omega) | (simp; done)); have hfA1 := fun o => (bcell hb).2 (w.heap.size + 1) o (by first | omega | (simp; omega) | (simp; done))) | (go_at_call_of 30 (Value.agg #[.int .i64 m, .int .i64 q]); refine (implIsTrain _ _ _).mono ?_; rw [h2]; rintro e w1 ⟨rfl, hb⟩; have hc := (bcell hb).1; have hf := (bcell hb).2; have hz : w.heap.size ≤ w1.heap.size := (by have := hb.size; (try simp at this); omega); have hz0 : w.heap.size < w1.heap.size := (by have := hb.size; (try simp at this); omega); have hcA0 := fun o => (bcell hb).1 (w.heap.size) o (by first | omega | (simp; omega) | (simp; done)); have hfA0 := fun o => (bcell hb).2 (w.heap.size) o (by first | omega | (simp; omega) | (simp; done)); have hz1 : w.heap.size + 1 < w1.heap.size := (by have := hb.size; (try simp at this); omega); have hcA1 := fun o => (bcell hb).1 (w.heap.size + 1) o (by first | omega | (simp; omega) | (simp; done)); have hfA1 := fun o => (bcell hb).2 (w.heap.size + 1) o (by first | omega | (simp; omega) | (simp; done))) | (go_at_call 31; refine (isWay_any _ _).mono ?_; rintro e w1 ⟨rfl, rfl⟩) | go_in)
      all_goals (go_ret3; refine ⟨rII ?_ ?_ ?_, ?_⟩)
      all_goals first | (simp [hv, ifI]; done) | (repeat (first | exact Below.refl _ _ | refine Below.drew ?_ | refine below_drewN ?_ _ | refine Below.setCell ?_ (by first | omega | (simp; done) | (simp; omega)) _ | refine Below.alloc ?_ (by first | omega | (simp; done) | (simp; omega)) _ | refine bchain ?_ (by assumption) (by first | omega | (simp; done) | (simp; omega))))
  case true =>
    have h1 : tnOk l r = true := by unfold tn2 at hv; rw [Bool.and_eq_true] at hv; exact hv.1
    have h2 : tnOk m q = true := by unfold tn2 at hv; rw [Bool.and_eq_true] at hv; exact hv.2
    have b1 := (tn2_iff.1 hv).1.1
    have b2 := (tn2_iff.1 hv).1.2.1
    have b3 := (tn2_iff.1 hv).1.2.2.1
    have b4 := (tn2_iff.1 hv).1.2.2.2
    have d1 := (tn2_iff.1 hv).2.1
    have d2 := (tn2_iff.1 hv).2.2.1
    have d3 := (tn2_iff.1 hv).2.2.2.1
    have d4 := (tn2_iff.1 hv).2.2.2.2
    cases hw : wyOk y
    case false =>
      go_enter Try.func10, Try.ntmps10
      go_wp2_with (first | (go_at_call_of 30 (Value.agg #[.int .i64 l, .int .i64 r]); refine (implIsTrain _ _ _).mono ?_; rw [h1]; rintro e w1 ⟨rfl, hb⟩; have hc := (bcell hb).1; have hf := (bcell hb).2; have hz : w.heap.size ≤ w1.heap.size := (by have := hb.size; (try simp at this); omega); have hz0 : w.heap.size < w1.heap.size := (by have := hb.size; (try simp at this); omega); have hcA0 := fun o => (bcell hb).1 (w.heap.size) o (by first | omega | (simp; omega) | (simp; done)); have hfA0 := fun o => (bcell hb).2 (w.heap.size) o (by first | omega | (simp; omega) | (simp; done)); have hz1 : w.heap.size + 1 < w1.heap.size := (by have := hb.size; (try simp at this); omega); have hcA1 := fun o => (bcell hb).1 (w.heap.size + 1) o (by first | omega | (simp; omega) | (simp; done)); have hfA1 := fun o => (bcell hb).2 (w.heap.size + 1) o (by first | omega | (simp; omega) | (simp; done))) | (go_at_call_of 30 (Value.agg #[.int .i64 m, .int .i64 q]); refine (implIsTrain _ _ _).mono ?_; rw [h2]; rintro e w1 ⟨rfl, hb⟩; have hc := (bcell hb).1; have hf := (bcell hb).2; have hz : w.heap.size ≤ w1.heap.size := (by have := hb.size; (try simp at this); omega); have hz0 : w.heap.size < w1.heap.size := (by have := hb.size; (try simp at this); omega); have hcA0 := fun o => (bcell hb).1 (w.heap.size) o (by first | omega | (simp; omega) | (simp; done)); have hfA0 := fun o => (bcell hb).2 (w.heap.size) o (by first | omega | (simp; omega) | (simp; done)); have hz1 : w.heap.size + 1 < w1.heap.size := (by have := hb.size; (try simp at this); omega); have hcA1 := fun o => (bcell hb).1 (w.heap.size + 1) o (by first | omega | (simp; omega) | (simp; done)); have hfA1 := fun o => (bcell hb).2 (w.heap.size + 1) o (by first | omega | (simp; omega) | (simp; done))) | (go_at_call 31; refine (isWay_any _ _).mono ?_; rintro e w1 ⟨rfl, rfl⟩) | go_in)
      all_goals try ((go_quiet (fail)); go_wp2_with (first | (go_at_call_of 30 (Value.agg #[.int .i64 l, .int .i64 r]); refine (implIsTrain _ _ _).mono ?_; rw [h1]; rintro e w1 ⟨rfl, hb⟩; have hc := (bcell hb).1; have hf := (bcell hb).2; have hz : w.heap.size ≤ w1.heap.size := (by have := hb.size; (try simp at this); omega); have hz0 : w.heap.size < w1.heap.size := (by have := hb.size; (try simp at this); omega); have hcA0 := fun o => (bcell hb).1 (w.heap.size) o (by first | omega | (simp; omega) | (simp; done)); have hfA0 := fun o => (bcell hb).2 (w.heap.size) o (by first | omega | (simp; omega) | (simp; done)); have hz1 : w.heap.size + 1 < w1.heap.size := (by have := hb.size; (try simp at this); omega); have hcA1 := fun o => (bcell hb).1 (w.heap.size + 1) o (by first | omega | (simp; omega) | (simp; done)); have hfA1 := fun o => (bcell hb).2 (w.heap.size + 1) o (by first | omega | (simp; omega) | (simp; done))) | (go_at_call_of 30 (Value.agg #[.int .i64 m, .int .i64 q]); refine (implIsTrain _ _ _).mono ?_; rw [h2]; rintro e w1 ⟨rfl, hb⟩; have hc := (bcell hb).1; have hf := (bcell hb).2; have hz : w.heap.size ≤ w1.heap.size := (by have := hb.size; (try simp at this); omega); have hz0 : w.heap.size < w1.heap.size := (by have := hb.size; (try simp at this); omega); have hcA0 := fun o => (bcell hb).1 (w.heap.size) o (by first | omega | (simp; omega) | (simp; done)); have hfA0 := fun o => (bcell hb).2 (w.heap.size) o (by first | omega | (simp; omega) | (simp; done)); have hz1 : w.heap.size + 1 < w1.heap.size := (by have := hb.size; (try simp at this); omega); have hcA1 := fun o => (bcell hb).1 (w.heap.size + 1) o (by first | omega | (simp; omega) | (simp; done)); have hfA1 := fun o => (bcell hb).2 (w.heap.size + 1) o (by first | omega | (simp; omega) | (simp; done))) | (go_at_call 31; refine (isWay_any _ _).mono ?_; rintro e w1 ⟨rfl, rfl⟩) | go_in))
      all_goals (go_ret3; refine ⟨rII ?_ ?_ ?_, ?_⟩)
      all_goals first | (simp [hv, hw, ifI]; done) | (repeat (first | exact Below.refl _ _ | refine Below.drew ?_ | refine below_drewN ?_ _ | refine Below.setCell ?_ (by first | omega | (simp; done) | (simp; omega)) _ | refine Below.alloc ?_ (by first | omega | (simp; done) | (simp; omega)) _ | refine bchain ?_ (by assumption) (by first | omega | (simp; done) | (simp; omega))))
    case true =>
      have w1 := (wyOk_iff.1 hw).1
      have w2 := (wyOk_iff.1 hw).2
      cases hx : decide (l ≤ y)
      case false =>
        have x1 := of_decide_eq_false hx
        go_enter Try.func10, Try.ntmps10
        go_wp2_with (first | (go_at_call_of 30 (Value.agg #[.int .i64 l, .int .i64 r]); refine (implIsTrain _ _ _).mono ?_; rw [h1]; rintro e w1 ⟨rfl, hb⟩; have hc := (bcell hb).1; have hf := (bcell hb).2; have hz : w.heap.size ≤ w1.heap.size := (by have := hb.size; (try simp at this); omega); have hz0 : w.heap.size < w1.heap.size := (by have := hb.size; (try simp at this); omega); have hcA0 := fun o => (bcell hb).1 (w.heap.size) o (by first | omega | (simp; omega) | (simp; done)); have hfA0 := fun o => (bcell hb).2 (w.heap.size) o (by first | omega | (simp; omega) | (simp; done)); have hz1 : w.heap.size + 1 < w1.heap.size := (by have := hb.size; (try simp at this); omega); have hcA1 := fun o => (bcell hb).1 (w.heap.size + 1) o (by first | omega | (simp; omega) | (simp; done)); have hfA1 := fun o => (bcell hb).2 (w.heap.size + 1) o (by first | omega | (simp; omega) | (simp; done))) | (go_at_call_of 30 (Value.agg #[.int .i64 m, .int .i64 q]); refine (implIsTrain _ _ _).mono ?_; rw [h2]; rintro e w1 ⟨rfl, hb⟩; have hc := (bcell hb).1; have hf := (bcell hb).2; have hz : w.heap.size ≤ w1.heap.size := (by have := hb.size; (try simp at this); omega); have hz0 : w.heap.size < w1.heap.size := (by have := hb.size; (try simp at this); omega); have hcA0 := fun o => (bcell hb).1 (w.heap.size) o (by first | omega | (simp; omega) | (simp; done)); have hfA0 := fun o => (bcell hb).2 (w.heap.size) o (by first | omega | (simp; omega) | (simp; done)); have hz1 : w.heap.size + 1 < w1.heap.size := (by have := hb.size; (try simp at this); omega); have hcA1 := fun o => (bcell hb).1 (w.heap.size + 1) o (by first | omega | (simp; omega) | (simp; done)); have hfA1 := fun o => (bcell hb).2 (w.heap.size + 1) o (by first | omega | (simp; omega) | (simp; done))) | (go_at_call 31; refine (isWay_any _ _).mono ?_; rintro e w1 ⟨rfl, rfl⟩) | go_in)
        all_goals try ((go_quiet (fail)); go_wp2_with (first | (go_at_call_of 30 (Value.agg #[.int .i64 l, .int .i64 r]); refine (implIsTrain _ _ _).mono ?_; rw [h1]; rintro e w1 ⟨rfl, hb⟩; have hc := (bcell hb).1; have hf := (bcell hb).2; have hz : w.heap.size ≤ w1.heap.size := (by have := hb.size; (try simp at this); omega); have hz0 : w.heap.size < w1.heap.size := (by have := hb.size; (try simp at this); omega); have hcA0 := fun o => (bcell hb).1 (w.heap.size) o (by first | omega | (simp; omega) | (simp; done)); have hfA0 := fun o => (bcell hb).2 (w.heap.size) o (by first | omega | (simp; omega) | (simp; done)); have hz1 : w.heap.size + 1 < w1.heap.size := (by have := hb.size; (try simp at this); omega); have hcA1 := fun o => (bcell hb).1 (w.heap.size + 1) o (by first | omega | (simp; omega) | (simp; done)); have hfA1 := fun o => (bcell hb).2 (w.heap.size + 1) o (by first | omega | (simp; omega) | (simp; done))) | (go_at_call_of 30 (Value.agg #[.int .i64 m, .int .i64 q]); refine (implIsTrain _ _ _).mono ?_; rw [h2]; rintro e w1 ⟨rfl, hb⟩; have hc := (bcell hb).1; have hf := (bcell hb).2; have hz : w.heap.size ≤ w1.heap.size := (by have := hb.size; (try simp at this); omega); have hz0 : w.heap.size < w1.heap.size := (by have := hb.size; (try simp at this); omega); have hcA0 := fun o => (bcell hb).1 (w.heap.size) o (by first | omega | (simp; omega) | (simp; done)); have hfA0 := fun o => (bcell hb).2 (w.heap.size) o (by first | omega | (simp; omega) | (simp; done)); have hz1 : w.heap.size + 1 < w1.heap.size := (by have := hb.size; (try simp at this); omega); have hcA1 := fun o => (bcell hb).1 (w.heap.size + 1) o (by first | omega | (simp; omega) | (simp; done)); have hfA1 := fun o => (bcell hb).2 (w.heap.size + 1) o (by first | omega | (simp; omega) | (simp; done))) | (go_at_call 31; refine (isWay_any _ _).mono ?_; rintro e w1 ⟨rfl, rfl⟩) | go_in))
        all_goals (go_ret3; refine ⟨rII ?_ ?_ ?_, ?_⟩)
        all_goals first | (simp [hv, hw, hx, ifI]; done) | (repeat (first | exact Below.refl _ _ | refine Below.drew ?_ | refine below_drewN ?_ _ | refine Below.setCell ?_ (by first | omega | (simp; done) | (simp; omega)) _ | refine Below.alloc ?_ (by first | omega | (simp; done) | (simp; omega)) _ | refine bchain ?_ (by assumption) (by first | omega | (simp; done) | (simp; omega))))
      case true =>
        have x1 := of_decide_eq_true hx
        have n1 := lwN_bd (a := y) (b := r) (B := 100000) (by omega) (by omega) (by omega)
        have n2 := lwD_pos (a := y) (b := r) (by omega)
        have n3 := lwN_bd (a := l - y) (b := q) (B := 100000) (by omega) (by omega) (by omega)
        have n4 := lwD_pos (a := l - y) (b := q) (by omega)
        have n5 := lwN_bd (a := l) (b := r) (B := 1000) (by omega) (by omega) (by omega)
        have n6 := lwD_pos (a := l) (b := r) (by omega)
        have m1 := mul_ab y q 100000 100 (by omega) (by omega) (by omega) (by omega)
        have m2 := mul_ab (l - y) r 100000 100 (by omega) (by omega) (by omega) (by omega)
        have m3 := mul_bd r q 100 100 (by omega) (by omega) (by omega) (by omega)
        have m4 := mul_pos1 b3 d3
        have k1 := lwN_bd (a := y * q + (l - y) * r) (b := r * q) (B := 100000000) (by omega) (by omega) (by omega)
        have k2 := lwD_pos (a := y * q + (l - y) * r) (b := r * q) (by omega)
        have HP := Lib.hid (fun w => plus_any (lwN y r) (lwD y r) (lwN (l - y) q) (lwD (l - y) q) (by omega) (by omega) (by omega) (by omega) (by omega) (by omega) (by omega) (by omega) w)
        have pe := plus_eq (y := y) (z := l - y) b3 d3
        rw [pe.1, pe.2] at HP
        have HL := Lib.hid (fun w => later_any (lwN l r) (lwD l r) (lwN (y * q + (l - y) * r) (r * q)) (lwD (y * q + (l - y) * r) (r * q)) (by omega) (by omega) (by omega) (by omega) (by omega) (by omega) (by omega) (by omega) w)
        have he := head_eq (l := l) (m := m) (y := y) b3 d3
        rw [he.1, he.2] at HL
        have L1 := Lib.hid (fun w => lowest_any y r (by omega) (by omega) (by omega) (by omega) w)
        have L2 := Lib.hid (fun w => lowest_any (l - y) q (by omega) (by omega) (by omega) (by omega) w)
        have L3 := Lib.hid (fun w => lowest_any l r (by omega) (by omega) (by omega) (by omega) w)
        clear pe he k1 k2 m1 m2 m3 m4 n1 n2 n3 n4 n5 n6
        generalize lwN (y * q + (l - y) * r) (r * q) = eN at *
        generalize lwD (y * q + (l - y) * r) (r * q) = eD at *
        generalize lwN (hwN l r m q y) (hwD l r m q y) = rN at *
        generalize lwD (hwN l r m q y) (hwD l r m q y) = rD at *
        have u1 : IntKind.i64.wrap (l - y) = l - y := IntWalk.i64_in _ (by omega)
        generalize lwN l r = aN at *
        generalize lwD l r = aD at *
        generalize lwN y r = yN at *
        generalize lwD y r = yD at *
        generalize lwN (l - y) q = dN at *
        generalize lwD (l - y) q = dD at *
        go_enter Try.func10, Try.ntmps10
        go_wp2_with (first | (go_at_call_of 30 (Value.agg #[.int .i64 l, .int .i64 r]); refine (implIsTrain _ _ _).mono ?_; rw [h1]; rintro e i1 ⟨rfl, hi1⟩; have hc := (bcell hi1).1; have hf := (bcell hi1).2; have hz : w.heap.size ≤ i1.heap.size := (by have := hi1.size; (try simp at this); omega); have hz0 : w.heap.size < i1.heap.size := (by have := hi1.size; (try simp at this); omega); have hcA0 := fun o => (bcell hi1).1 (w.heap.size) o (by first | omega | (simp; omega) | (simp; done)); have hfA0 := fun o => (bcell hi1).2 (w.heap.size) o (by first | omega | (simp; omega) | (simp; done)); have hz1 : w.heap.size + 1 < i1.heap.size := (by have := hi1.size; (try simp at this); omega); have hcA1 := fun o => (bcell hi1).1 (w.heap.size + 1) o (by first | omega | (simp; omega) | (simp; done)); have hfA1 := fun o => (bcell hi1).2 (w.heap.size + 1) o (by first | omega | (simp; omega) | (simp; done))) | (go_at_call_of 30 (Value.agg #[.int .i64 m, .int .i64 q]); refine (implIsTrain _ _ _).mono ?_; rw [h2]; rintro e i2 ⟨rfl, hi2⟩; have hc := (bcell hi2).1; have hf := (bcell hi2).2; have hz : w.heap.size ≤ i2.heap.size := (by have := hi2.size; (try simp at this); omega); have hz0 : w.heap.size < i2.heap.size := (by have := hi2.size; (try simp at this); omega); have hcA0 := fun o => (bcell hi2).1 (w.heap.size) o (by first | omega | (simp; omega) | (simp; done)); have hfA0 := fun o => (bcell hi2).2 (w.heap.size) o (by first | omega | (simp; omega) | (simp; done)); have hz1 : w.heap.size + 1 < i2.heap.size := (by have := hi2.size; (try simp at this); omega); have hcA1 := fun o => (bcell hi2).1 (w.heap.size + 1) o (by first | omega | (simp; omega) | (simp; done)); have hfA1 := fun o => (bcell hi2).2 (w.heap.size + 1) o (by first | omega | (simp; omega) | (simp; done))) | (go_at_call 31; refine (isWay_any _ _).mono ?_; rintro e w1 ⟨rfl, rfl⟩))
        refine (L3.out _).mono ?_; rintro e i3 ⟨rfl, hi3⟩
        have z3 : i2.heap.size ≤ i3.heap.size := by have := hi3.size; (try simp at this); omega
        have p0 := fun o => (bcell hi3).1 w.heap.size o (by first | omega | (simp; omega))
        have p1 := fun o => (bcell hi3).1 (w.heap.size + 1) o (by first | omega | (simp; omega))
        have y0 : i3.cell? ⟨w.heap.size, 0, none⟩ = some (.int .i64 l) := by rw [p0]; go_simp
        have y1 : i3.cell? ⟨w.heap.size, 1, none⟩ = some (.int .i64 r) := by rw [p0]; go_simp
        have y2 : i3.cell? ⟨w.heap.size + 1, 0, none⟩ = some (.int .i64 m) := by rw [p1]; go_simp
        have y3 : i3.cell? ⟨w.heap.size + 1, 1, none⟩ = some (.int .i64 q) := by rw [p1]; go_simp
        have B3 : Below w.heap.size w i3 := by (repeat (first | exact Below.refl _ _ | refine Below.drew ?_ | refine below_drewN ?_ _ | refine Below.setCell ?_ (by first | omega | (simp; done) | (simp; omega)) _ | refine Below.alloc ?_ (by first | omega | (simp; done) | (simp; omega)) _ | refine bchain ?_ (by assumption) (by first | omega | (simp; done) | (simp; omega))))
        have hz3 : w.heap.size + 1 < i3.heap.size := by omega
        have hz30 : w.heap.size < i3.heap.size := by omega
        clear hi1 hi2 hi3 p0 p1
        go_wp2_with fail
        go_region_held3 (fun w' => Below w.heap.size w w' ∧ i3.heap.size < w'.heap.size ∧ w'.cell? ⟨w.heap.size, 0, none⟩ = some (.int .i64 l) ∧ w'.cell? ⟨w.heap.size, 1, none⟩ = some (.int .i64 r) ∧ w'.cell? ⟨w.heap.size + 1, 0, none⟩ = some (.int .i64 m) ∧ w'.cell? ⟨w.heap.size + 1, 1, none⟩ = some (.int .i64 q) ∧ w'.cell? ⟨i3.heap.size, 0, none⟩ = some (.int .i64 aN) ∧ w'.cell? ⟨i3.heap.size, 1, none⟩ = some (.int .i64 aD))
          (refine ⟨?_, ?_, ?_, ?_, ?_, ?_, ?_, ?_⟩ <;> first | assumption | omega | (simp only [World.size_alloc, World.size_drew, World.size_setCell]; omega) | (simp; omega) | (go_simp; done) | (repeat (first | exact Below.refl _ _ | refine Below.drew ?_ | refine below_drewN ?_ _ | refine Below.setCell ?_ (by first | omega | (simp; done) | (simp; omega)) _ | refine Below.alloc ?_ (by first | omega | (simp; done) | (simp; omega)) _ | refine bchain ?_ (by assumption) (by first | omega | (simp; done) | (simp; omega)))))
          (first | (go_at_call_of 38 (Value.agg #[.int .i64 yN, .int .i64 yD]); refine (HP.out _).mono ?_; rintro e x3 ⟨rfl, hb3⟩; have hz3 := hb3.size; have hc3 := (bcell hb3).1; have hf3 := (bcell hb3).2; (try simp only [World.size_alloc, World.size_drew] at hz3 hc3 hf3); (try (have hl3_0 : w.heap.size < x3.heap.size := (by omega); have hc3_0 := fun o => hc3 (w.heap.size) o (by omega); have hf3_0 := fun o => hf3 (w.heap.size) o (by omega))); (try (have hl3_1 : w.heap.size + 1 < x3.heap.size := (by omega); have hc3_1 := fun o => hc3 (w.heap.size + 1) o (by omega); have hf3_1 := fun o => hf3 (w.heap.size + 1) o (by omega))); (try (have hl3_2 : i3.heap.size < x3.heap.size := (by omega); have hc3_2 := fun o => hc3 (i3.heap.size) o (by omega); have hf3_2 := fun o => hf3 (i3.heap.size) o (by omega))); (try (have hl3_3 : i3.heap.size + 1 < x3.heap.size := (by omega); have hc3_3 := fun o => hc3 (i3.heap.size + 1) o (by omega); have hf3_3 := fun o => hf3 (i3.heap.size + 1) o (by omega))); (try (have hl3_4 : x1.heap.size < x3.heap.size := (by omega); have hc3_4 := fun o => hc3 (x1.heap.size) o (by omega); have hf3_4 := fun o => hf3 (x1.heap.size) o (by omega))); (try (have hl3_5 : x2.heap.size < x3.heap.size := (by omega); have hc3_5 := fun o => hc3 (x2.heap.size) o (by omega); have hf3_5 := fun o => hf3 (x2.heap.size) o (by omega)))) | (go_at_call_of 37 (Value.int .i64 (l - y)); refine (L2.out _).mono ?_; rintro e x2 ⟨rfl, hb2⟩; have hz2 := hb2.size; have hc2 := (bcell hb2).1; have hf2 := (bcell hb2).2; (try simp only [World.size_alloc, World.size_drew] at hz2 hc2 hf2); (try (have hl2_0 : w.heap.size < x2.heap.size := (by omega); have hc2_0 := fun o => hc2 (w.heap.size) o (by omega); have hf2_0 := fun o => hf2 (w.heap.size) o (by omega))); (try (have hl2_1 : w.heap.size + 1 < x2.heap.size := (by omega); have hc2_1 := fun o => hc2 (w.heap.size + 1) o (by omega); have hf2_1 := fun o => hf2 (w.heap.size + 1) o (by omega))); (try (have hl2_2 : i3.heap.size < x2.heap.size := (by omega); have hc2_2 := fun o => hc2 (i3.heap.size) o (by omega); have hf2_2 := fun o => hf2 (i3.heap.size) o (by omega))); (try (have hl2_3 : i3.heap.size + 1 < x2.heap.size := (by omega); have hc2_3 := fun o => hc2 (i3.heap.size + 1) o (by omega); have hf2_3 := fun o => hf2 (i3.heap.size + 1) o (by omega))); (try (have hl2_4 : x1.heap.size < x2.heap.size := (by omega); have hc2_4 := fun o => hc2 (x1.heap.size) o (by omega); have hf2_4 := fun o => hf2 (x1.heap.size) o (by omega)))) | (go_at_call_of 37 (Value.int .i64 y); refine (L1.out _).mono ?_; rintro e x1 ⟨rfl, hb1⟩; have hz1 := hb1.size; have hc1 := (bcell hb1).1; have hf1 := (bcell hb1).2; (try simp only [World.size_alloc, World.size_drew] at hz1 hc1 hf1); (try (have hl1_0 : w.heap.size < x1.heap.size := (by omega); have hc1_0 := fun o => hc1 (w.heap.size) o (by omega); have hf1_0 := fun o => hf1 (w.heap.size) o (by omega))); (try (have hl1_1 : w.heap.size + 1 < x1.heap.size := (by omega); have hc1_1 := fun o => hc1 (w.heap.size + 1) o (by omega); have hf1_1 := fun o => hf1 (w.heap.size + 1) o (by omega))); (try (have hl1_2 : i3.heap.size < x1.heap.size := (by omega); have hc1_2 := fun o => hc1 (i3.heap.size) o (by omega); have hf1_2 := fun o => hf1 (i3.heap.size) o (by omega))); (try (have hl1_3 : i3.heap.size + 1 < x1.heap.size := (by omega); have hc1_3 := fun o => hc1 (i3.heap.size + 1) o (by omega); have hf1_3 := fun o => hf1 (i3.heap.size + 1) o (by omega)))))
        all_goals (go_wp2_with (first | (go_at_call 39; refine (HL.out _).mono ?_; rintro e x4 ⟨rfl, hb4⟩; have hz4 := hb4.size; (try simp only [World.size_alloc, World.size_drew, World.size_setCell] at hz4)))
          ) 
        all_goals (go_quiet (fail))
        all_goals (go_wp2_with fail)
        all_goals (go_ret3; refine ⟨rII ?_ ?_ ?_, ?_⟩)
        all_goals first | (simp [hv, hw, hx, ifI]; done) | (repeat (first | exact Below.refl _ _ | refine Below.drew ?_ | refine below_drewN ?_ _ | refine Below.setCell ?_ (by first | omega | (simp; done) | (simp; omega)) _ | refine Below.alloc ?_ (by first | omega | (simp; done) | (simp; omega)) _ | refine bchain ?_ (by assumption) (by first | omega | (simp; done) | (simp; omega))))
end Go.Proofs.Ytolgpjlliaoneaa
