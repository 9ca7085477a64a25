/- Chapter 6's program on numbers and one leg: contracts with wide bounds. -/
import Derived.Test.YtlfjgggidoakaaaLegNum
import Derived.Test.YtlfjgggidoakaaaTwoWalks
import Derived.Test.YtlfjgggidoakaaaCmpI
import Derived.Test.YtlfjgggidoakaaaAreAllG
import Derived.Test.YtlfjgggidoakaaaAreAllI
import Derived.WalkKit
import Derived.WalkSpells
import Derived.WalkLawsBesides
import Derived.Lib.Hide
import Derived.Deep.RegionWith
import Derived.Deep.RegionHeld3
import Derived.Deep.QuietTactic
import Derived.BigQuiet
namespace Go.Proofs.Ytlfjgggidoakaaa
open Go.RowKit
set_option linter.unusedVariables false
set_option linter.unusedSimpArgs false
set_option maxHeartbeats 2000000 in
theorem plusW (a b c d A B C D : Int) (ha1 : -A ≤ a) (ha2 : a ≤ A) (b1 : 1 ≤ b) (b2 : b ≤ B) (hc1 : -C ≤ c) (hc2 : c ≤ C) (d1 : 1 ≤ d) (d2 : d ≤ D) (q1 : A * D ≤ 400000000000000000) (q2 : C * B ≤ 400000000000000000) (q3 : B * D ≤ 1000000000000000000) (B9 : B ≤ 1000000000000000000) (D9 : D ≤ 1000000000000000000) (w : World) :
    Calls Try.prog 48 #[.agg #[.int .i64 a, .int .i64 b], .agg #[.int .i64 c, .int .i64 d]] w fun e w' => e = .returned (.agg #[.int .i64 (lwN (plN2 a b c d) (plD2 b d)), .int .i64 (lwD (plN2 a b c d) (plD2 b d))]) ∧ Below w.heap.size w w' := by
  have g1 := gc_pos (a := b) (b := d) (by omega)
  have g2 := gc_le (a := b) (b := d) (by omega)
  have t1 := tdiv_pos (gc_dvd_l b d) b1 g1
  have t2 := tdiv_pos (gc_dvd_r b d) d1 g1
  have m1 := mul_ab a (d.tdiv (gc b d)) A D (by omega) (by omega) (by omega) (by omega)
  have m2 := mul_ab c (b.tdiv (gc b d)) C B (by omega) (by omega) (by omega) (by omega)
  have m3 := mul_bd (b.tdiv (gc b d)) d B D (by omega) (by omega) (by omega) (by omega)
  have m4 := mul_pos1 t1.1 d1
  generalize A * D = AD at *
  generalize C * B = CB at *
  generalize B * D = BD at *
  have HG := Lib.hid (fun w => gcd_any b d (by omega) (by omega) (by omega) (by omega) w)
  have d3 : (gc b d == 0) = false := by rw [beq_eq_false_iff_ne]; omega
  have d4 : ¬ gc b d = 0 := by omega
  have d5 : ¬ gc b d = -1 := by omega
  have HL := Lib.hid (fun w => lowest_any (plN2 a b c d) (plD2 b d) (by unfold plN2; omega) (by unfold plN2; omega) (by unfold plD2; omega) (by unfold plD2; omega) w)
  have eN : a * (d.tdiv (gc b d)) + c * (b.tdiv (gc b d)) = plN2 a b c d := rfl
  have eD : b.tdiv (gc b d) * d = plD2 b d := rfl
  rw [← eN, ← eD] at HL
  rw [← eN, ← eD]
  clear eN eD
  generalize gc b d = g at *
  generalize hbg : b.tdiv g = bg at *
  generalize hdg : d.tdiv g = dg at *
  have u7 : IntKind.i64.wrap bg = bg := IntWalk.i64_in _ (by omega)
  have u8 : IntKind.i64.wrap dg = dg := IntWalk.i64_in _ (by omega)
  have u3 : IntKind.i64.wrap (a * dg) = a * dg := IntWalk.i64_in _ (by omega)
  have u4 : IntKind.i64.wrap (c * bg) = c * bg := IntWalk.i64_in _ (by omega)
  have u5 : IntKind.i64.wrap (bg * d) = bg * d := IntWalk.i64_in _ (by omega)
  have u6 : IntKind.i64.wrap (a * dg + c * bg) = a * dg + c * bg := IntWalk.i64_in _ (by omega)
  go_enter Try.func48, Try.ntmps48
  go_wp2_with (go_at_call 63; refine (HG.out _).mono ?_; rintro e w1 ⟨rfl, hb⟩; have hc := (bcell hb).1; have hf := (bcell hb).2; have hz : w.heap.size ≤ w1.heap.size := (by have := hb.size; (try simp at this); omega); have hz0 : w.heap.size < w1.heap.size := (by have := hb.size; (try simp at this); omega); have hcA0 := fun o => (bcell hb).1 (w.heap.size) o (by first | omega | (simp; omega) | (simp; done)); have hfA0 := fun o => (bcell hb).2 (w.heap.size) o (by first | omega | (simp; omega) | (simp; done)); have hz1 : w.heap.size + 1 < w1.heap.size := (by have := hb.size; (try simp at this); omega); have hcA1 := fun o => (bcell hb).1 (w.heap.size + 1) o (by first | omega | (simp; omega) | (simp; done)); have hfA1 := fun o => (bcell hb).2 (w.heap.size + 1) o (by first | omega | (simp; omega) | (simp; done)); have hz2 : w.heap.size + 2 < w1.heap.size := (by have := hb.size; (try simp at this); omega); have hcA2 := fun o => (bcell hb).1 (w.heap.size + 2) o (by first | omega | (simp; omega) | (simp; done)); have hfA2 := fun o => (bcell hb).2 (w.heap.size + 2) o (by first | omega | (simp; omega) | (simp; done)))
  go_region_held3 (fun w' => Below w.heap.size w w' ∧ w.heap.size + 2 < w'.heap.size ∧ w'.cell? ⟨w.heap.size, 0, none⟩ = some (.int .i64 a) ∧ w'.cell? ⟨w.heap.size, 1, none⟩ = some (.int .i64 b) ∧ w'.cell? ⟨w.heap.size + 1, 0, none⟩ = some (.int .i64 c) ∧ w'.cell? ⟨w.heap.size + 1, 1, none⟩ = some (.int .i64 d))
    (refine ⟨?_, ?_, ?_, ?_, ?_, ?_⟩ <;> first | assumption | omega | (simp; omega) | (go_simp; done) | (repeat (first | exact Below.refl _ _ | refine Below.drew ?_ | refine below_drewN ?_ _ | refine Below.setCell ?_ (by first | omega | (simp; done) | (simp; omega)) _ | refine Below.alloc ?_ (by first | omega | (simp; done) | (simp; omega)) _ | refine bchain ?_ (by assumption) (by first | omega | (simp; done) | (simp; omega)))))
    (first | (go_at_call 49; refine (HL.out _).mono ?_; rintro e w1 ⟨rfl, hb⟩; have hc := (bcell hb).1; have hf := (bcell hb).2; have hz : w.heap.size ≤ w1.heap.size := (by have := hb.size; (try simp at this); omega); have hz0 : w.heap.size < w1.heap.size := (by have := hb.size; (try simp at this); omega); have hcA0 := fun o => (bcell hb).1 (w.heap.size) o (by first | omega | (simp; omega) | (simp; done)); have hfA0 := fun o => (bcell hb).2 (w.heap.size) o (by first | omega | (simp; omega) | (simp; done)); have hz1 : w.heap.size + 1 < w1.heap.size := (by have := hb.size; (try simp at this); omega); have hcA1 := fun o => (bcell hb).1 (w.heap.size + 1) o (by first | omega | (simp; omega) | (simp; done)); have hfA1 := fun o => (bcell hb).2 (w.heap.size + 1) o (by first | omega | (simp; omega) | (simp; done)); have hz2 : w.heap.size + 2 < w1.heap.size := (by have := hb.size; (try simp at this); omega); have hcA2 := fun o => (bcell hb).1 (w.heap.size + 2) o (by first | omega | (simp; omega) | (simp; done)); have hfA2 := fun o => (bcell hb).2 (w.heap.size + 2) o (by first | omega | (simp; omega) | (simp; done))))
  all_goals
    have e0 : (w1.cell? ⟨w.heap.size + 2, 0, none⟩).isSome = true := by first | (rw [hcA2]; go_simp; done) | (go_simp; done)
    have e1 : (w1.cell? ⟨w.heap.size + 2, 1, none⟩).isSome = true := by first | (rw [hcA2]; go_simp; done) | (go_simp; done)
    go_wp2_with fail
    refine bodyPost_ret (v := .agg #[.int .i64 (lwN (a * dg + c * bg) (bg * d)), .int .i64 (lwD (a * dg + c * bg) (bg * d))]) (by simp [results, Try.results48, go_sem, e0, e1]; done) rfl ⟨rfl, ?_⟩
    (repeat (first | exact Below.refl _ _ | refine Below.drew ?_ | refine below_drewN ?_ _ | refine Below.setCell ?_ (by first | omega | (simp; done) | (simp; omega)) _ | refine Below.alloc ?_ (by first | omega | (simp; done) | (simp; omega)) _ | refine bchain ?_ (by assumption) (by first | omega | (simp; done) | (simp; omega))))
set_option maxHeartbeats 2000000 in
theorem legTime_any (l f : Int) (h : lgOk l f = true) (w : World) :
    Calls Try.prog 32 #[.agg #[.int .i64 l, .int .i64 f]] w fun e w' => e = .returned (.agg #[.int .i64 (lwN (l) (f)), .int .i64 (lwD (l) (f))]) ∧ Below w.heap.size w w' := by
  have hk := lgOk_iff.1 h
  have h1 := hk.1
  have h2 := hk.2.1
  have h3 := hk.2.2.1
  have h4 := hk.2.2.2
  clear hk
  go_enter Try.func32, Try.ntmps32
  go_wp2_with (first | (go_at_call 49; refine (lowest_any (l) (f) (by omega) (by omega) (by omega) (by omega) _).mono ?_; rintro e w1 ⟨rfl, hb⟩; have hc := (bcell hb).1; have hf := (bcell hb).2; have hz : w.heap.size ≤ w1.heap.size := (by have := hb.size; (try simp at this); omega); have hz0 : w.heap.size < w1.heap.size := (by have := hb.size; (try simp at this); omega); have hcA0 := fun o => (bcell hb).1 (w.heap.size) o (by first | omega | (simp; omega) | (simp; done)); have hfA0 := fun o => (bcell hb).2 (w.heap.size) o (by first | omega | (simp; omega) | (simp; done)); have hz1 : w.heap.size + 1 < w1.heap.size := (by have := hb.size; (try simp at this); omega); have hcA1 := fun o => (bcell hb).1 (w.heap.size + 1) o (by first | omega | (simp; omega) | (simp; done)); have hfA1 := fun o => (bcell hb).2 (w.heap.size + 1) o (by first | omega | (simp; omega) | (simp; done))) | go_in)
  all_goals (refine bodyPost_ret (v := .agg #[.int .i64 (lwN (l) (f)), .int .i64 (lwD (l) (f))]) (by have e0 : (w1.cell? ⟨w.heap.size + 1, 0, none⟩).isSome = true := (by first | (rw [hcA1]; go_simp; done) | (go_simp; done)); have e1 : (w1.cell? ⟨w.heap.size + 1, 1, none⟩).isSome = true := (by first | (rw [hcA1]; go_simp; done) | (go_simp; done)); (try clear hcA0 hfA0 hcA1 hfA1); simp [results, Try.results32, go_sem, e0, e1]; done) rfl ⟨?_, ?_⟩)
  all_goals first | rfl | (repeat (first | exact Below.refl _ _ | refine Below.drew ?_ | refine below_drewN ?_ _ | refine Below.setCell ?_ (by first | omega | (simp; done) | (simp; omega)) _ | refine Below.alloc ?_ (by first | omega | (simp; done) | (simp; omega)) _ | refine bchain ?_ (by assumption) (by first | omega | (simp; done) | (simp; omega))))
set_option maxHeartbeats 2000000 in
theorem isLong_any (n : Int) (w : World) :
    Calls Try.prog 45 #[.int .i64 n] w fun e w' => e = .returned (.bool (inB n 1 1000)) ∧ w = w' := by
  go_enter Try.func45, Try.ntmps45
  go_wp2_with (first | (go_at_call 62; refine (implIn _ _ _ _).mono ?_; rintro e w1 ⟨rfl, rfl⟩) | go_in)
  go_ret
  exact ⟨rfl, rfl⟩
set_option maxHeartbeats 2000000 in
theorem isFast_any (n : Int) (w : World) :
    Calls Try.prog 46 #[.int .i64 n] w fun e w' => e = .returned (.bool (inB n 1 100)) ∧ w = w' := by
  go_enter Try.func46, Try.ntmps46
  go_wp2_with (first | (go_at_call 62; refine (implIn _ _ _ _).mono ?_; rintro e w1 ⟨rfl, rfl⟩) | go_in)
  go_ret
  exact ⟨rfl, rfl⟩
set_option maxHeartbeats 2000000 in
theorem isLeg_any (l f : Int) (w : World) :
    Calls Try.prog 44 #[.agg #[.int .i64 l, .int .i64 f]] w fun e w' => e = .returned (.bool (lgOk l f)) ∧ Below w.heap.size w w' := by
  cases h1 : inB l 1 1000
  all_goals
    go_enter Try.func44, Try.ntmps44
    go_wp2_with (first | (go_at_call 45; refine (isLong_any _ _).mono ?_; rintro e w1 ⟨rfl, rfl⟩) | (go_at_call 46; refine (isFast_any _ _).mono ?_; rintro e w1 ⟨rfl, rfl⟩) | go_in)
    all_goals (go_ret; refine ⟨rB ?_, ?_⟩)
    all_goals first | (simp [lgOk, h1]; done) | (repeat (first | exact Below.refl _ _ | refine Below.drew ?_ | refine below_drewN ?_ _ | refine Below.setCell ?_ (by first | omega | (simp; done) | (simp; omega)) _ | refine Below.alloc ?_ (by first | omega | (simp; done) | (simp; omega)) _ | refine bchain ?_ (by assumption) (by first | omega | (simp; done) | (simp; omega))))
set_option maxHeartbeats 1000000 in
theorem implAreLegs (a : Option Addr) (cap : Nat) (xs : List (Int × Int)) (w : World) (h : RdP w a xs) (hn : xs.length ≤ 1048576) :
    Calls Try.prog 30 #[.slice a xs.length cap] w fun e w' => e = .returned (.bool (lgS xs)) ∧ Below w.heap.size w w' := by
  go_enter Try.func30, Try.ntmps30
  go_wp2_with fail
  refine (areAllG 44 #[] lgOk a cap xs 5 _ h hn (enters_of Try.func44 (by kernel_rfl) rfl) (fun x y W _ => isLeg_any x y W)).mono ?_
  rintro e w1 ⟨rfl, hb⟩
  go_wp2_with fail
  go_ret
  exact ⟨rfl, hb⟩
end Go.Proofs.Ytlfjgggidoakaaa
