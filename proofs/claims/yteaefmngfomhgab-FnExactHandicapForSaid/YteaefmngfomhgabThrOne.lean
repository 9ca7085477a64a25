/- Functions of one or two runners by contracts, the program's and the model's. -/
import Derived.Test.YteaefmngfomhgabProg
import Derived.Test.YteaefmngfomhgabThrRun
import Derived.Test.YteaefmngfomhgabTwoWalks2
import Derived.Test.YteaefmngfomhgabAreAllR
import Derived.WalkKit
import Derived.WalkSpells
import Derived.WalkLawsBesides
import Derived.Lib.Hide
import Derived.Deep.LoopGhost
import Derived.Deep.RegionWith
import Derived.Deep.QuietTactic
import Derived.Deep.RegionHeld3
import Derived.BigQuiet
namespace Go.Proofs.Yteaefmngfomhgab
open Go.RowKit
set_option linter.unusedVariables false
set_option linter.unusedSimpArgs false
set_option maxHeartbeats 2000000 in
theorem common_any (a b : Int) (ha : 0 ≤ a) (hb : 0 ≤ b) (ha2 : a ≤ 1000000000000) (hb2 : b ≤ 1000000000000) (w : World) :
    Calls Try.prog 49 #[.int .i64 a, .int .i64 b] w fun e w' => e = .returned (.int .i64 (gc a b)) ∧ Below w.heap.size w w' := by
  go_enter Try.func49, Try.ntmps49
  go_wp2_with fail
  go_loopw [0, 1] (fun v0 v1 wr => ∃ x y : Int, v0 = .int .i64 x ∧ v1 = .int .i64 y ∧ 0 ≤ x ∧ x ≤ 1000000000000 ∧ 0 ≤ y ∧ y ≤ 1000000000000 ∧ Hid (gc x y = gc a b) ∧ Below w.heap.size w wr) (fun _ v1 _ => (intOf v1).toNat)
  case atStart => exact ⟨a, b, rfl, rfl, ha, ha2, hb, hb2, rfl, Below.refl _ _⟩
  case round =>
    obtain ⟨x, y, rfl, rfl, x1, x2, y1, y2, HE, hbel⟩ := hrel
    have HB := Lib.hid hbel
    clear hbel
    by_cases hy : y = 0
    · have HR : x = gc a b := by rw [← HE.out, hy, gc_zero x x1]
      clear HE
      subst hy
      subst HR
      go_wp2_with fail
      skip
      go_ret
      exact ⟨rfl, HB.out⟩
    · have e1 := Int.emod_nonneg x hy
      have e2 := Int.emod_lt_of_pos x (show 0 < y by omega)
      have HR := Lib.hid (show gc y (x % y) = gc a b by rw [gc_step x y x1 (by omega)]; exact HE.out)
      clear HE
      go_wp2_with fail
      have eM : x.tmod y = x % y := Int.tmod_eq_emod_of_nonneg x1
      have eW : IntKind.i64.wrap (x % y) = x % y := IntWalk.i64_in _ (by omega)
      go_quiet (fail)
      clear eM eW
      go_wp2_with fail
      go_roundw
      case rel => exact ⟨y, x % y, rfl, rfl, by omega, by omega, by omega, by omega, HR.out, below_drewN HB.out _⟩
      case measure => simp [intOf]; omega
set_option maxHeartbeats 2000000 in
theorem specLeadBetween (l p s q r t : Int) (w : World) :
    Calls Try.prog 9 #[.int .i64 l, .agg #[.int .i64 p, .int .i64 s], .agg #[.int .i64 q, .int .i64 r], .int .i64 t] w fun e w' => e = .returned (.tuple #[.int .i64 (ifI (rn2 l p s q r && rtOk t) (fr p s t - fr q r t)), .bool (rn2 l p s q r && rtOk t)]) ∧ Below w.heap.size w w' := by
  cases hv : rn2 l p s q r <;> cases ht : rtOk t
  case true.true =>
    have rr := rn2_iff.1 hv
    have l1 := rr.1
    have l2 := rr.2.1
    have p1 := rr.2.2.1
    have p2 := rr.2.2.2.1
    have s1 := rr.2.2.2.2.1
    have s2 := rr.2.2.2.2.2.1
    have q1 := rr.2.2.2.2.2.2.1
    have q2 := rr.2.2.2.2.2.2.2.1
    have r1 := rr.2.2.2.2.2.2.2.2.1
    have r2 := rr.2.2.2.2.2.2.2.2.2
    clear rr
    have k1 := (rtOk_iff.1 ht).1
    have k2 := (rtOk_iff.1 ht).2
    have m2 := fr_bd p1 (show p ≤ 1000 by omega) (show 0 ≤ s by omega) s2 k1 k2
    have m3 := fr_bd q1 (show q ≤ 1000 by omega) (show 0 ≤ r by omega) r2 k1 k2
    go_enter Try.func9, Try.ntmps9
    go_wp2_with (first | (go_at_call 33; refine (trTwo_any _ _ _ _ _ _).mono ?_; rintro e w1 ⟨rfl, hb⟩; have hc := (bcell hb).1; have hf := (bcell hb).2; have hz : w.heap.size ≤ w1.heap.size := (by have := hb.size; (try simp at this); omega); have hz0 : w.heap.size < w1.heap.size := (by have := hb.size; (try simp at this); omega); have hcA0 := fun o => (bcell hb).1 (w.heap.size) o (by first | omega | (simp; omega) | (simp; done)); have hfA0 := fun o => (bcell hb).2 (w.heap.size) o (by first | omega | (simp; omega) | (simp; done)); have hz1 : w.heap.size + 1 < w1.heap.size := (by have := hb.size; (try simp at this); omega); have hcA1 := fun o => (bcell hb).1 (w.heap.size + 1) o (by first | omega | (simp; omega) | (simp; done)); have hfA1 := fun o => (bcell hb).2 (w.heap.size + 1) o (by first | omega | (simp; omega) | (simp; done))) | (go_at_call 34; refine (trTime_any _ _).mono ?_; rintro e w1 ⟨rfl, rfl⟩) | (go_at_call 41; refine (specIn n 1 100 _).mono ?_; rw [show inB n 1 100 = lpsOk n from rfl]; rintro e w1 ⟨rfl, rfl⟩))
    have w1 : IntKind.i64.wrap (fr p s (t) - fr q r (t)) = fr p s (t) - fr q r (t) := IntWalk.i64_in _ (by omega)
    go_region_held3 (fun w' => Below w.heap.size w w' ∧ w.heap.size < w'.heap.size ∧ w.heap.size + 1 < w'.heap.size ∧ w'.cell? ⟨w.heap.size, 0, none⟩ = some (.int .i64 p) ∧ w'.cell? ⟨w.heap.size, 1, none⟩ = some (.int .i64 s) ∧ w'.cell? ⟨w.heap.size + 1, 0, none⟩ = some (.int .i64 q) ∧ w'.cell? ⟨w.heap.size + 1, 1, none⟩ = some (.int .i64 r))
      (refine ⟨?_, ?_, ?_, ?_, ?_, ?_, ?_⟩ <;> first | assumption | omega | (go_simp; done) | (repeat (first | exact Below.refl _ _ | refine Below.drew ?_ | refine below_drewN ?_ _ | refine Below.setCell ?_ (by first | omega | (simp; done) | (simp; omega)) _ | refine Below.alloc ?_ (by first | omega | (simp; done) | (simp; omega)) _ | refine bchain ?_ (by assumption) (by first | omega | (simp; done) | (simp; omega)))))
      (first | (go_at_call_of 35 (Value.agg #[.int .i64 p, .int .i64 s]); refine (trFar_any p s (t) (by omega) (by omega) (by omega) (by omega) (by omega) (by omega) _).mono ?_; rintro e w1 ⟨rfl, hb⟩; have hc := (bcell hb).1; have hf := (bcell hb).2; have hz : w.heap.size ≤ w1.heap.size := (by have := hb.size; (try simp at this); omega); have hz0 : w.heap.size < w1.heap.size := (by have := hb.size; (try simp at this); omega); have hcA0 := fun o => (bcell hb).1 (w.heap.size) o (by first | omega | (simp; omega) | (simp; done)); have hfA0 := fun o => (bcell hb).2 (w.heap.size) o (by first | omega | (simp; omega) | (simp; done)); have hz1 : w.heap.size + 1 < w1.heap.size := (by have := hb.size; (try simp at this); omega); have hcA1 := fun o => (bcell hb).1 (w.heap.size + 1) o (by first | omega | (simp; omega) | (simp; done)); have hfA1 := fun o => (bcell hb).2 (w.heap.size + 1) o (by first | omega | (simp; omega) | (simp; done))) | (go_at_call_of 35 (Value.agg #[.int .i64 q, .int .i64 r]); refine (trFar_any q r (t) (by omega) (by omega) (by omega) (by omega) (by omega) (by omega) _).mono ?_; rintro e w1 ⟨rfl, hb⟩; have hc := (bcell hb).1; have hf := (bcell hb).2; have hz : w.heap.size ≤ w1.heap.size := (by have := hb.size; (try simp at this); omega); have hz0 : w.heap.size < w1.heap.size := (by have := hb.size; (try simp at this); omega); have hcA0 := fun o => (bcell hb).1 (w.heap.size) o (by first | omega | (simp; omega) | (simp; done)); have hfA0 := fun o => (bcell hb).2 (w.heap.size) o (by first | omega | (simp; omega) | (simp; done)); have hz1 : w.heap.size + 1 < w1.heap.size := (by have := hb.size; (try simp at this); omega); have hcA1 := fun o => (bcell hb).1 (w.heap.size + 1) o (by first | omega | (simp; omega) | (simp; done)); have hfA1 := fun o => (bcell hb).2 (w.heap.size + 1) o (by first | omega | (simp; omega) | (simp; done))))
    all_goals go_wp2_with fail
    rename_i hHeld
    have B0 := hHeld.1
    go_ret2
    refine ⟨rIB ?_ ?_, B0⟩
    · first | (simp [hv, ht, ifI]; done) | (unfold haV; rw [HZ.out]; rfl)
    · first | rfl | exact HZ.out.symm
  all_goals
    go_enter Try.func9, Try.ntmps9
    go_wp2_with (first | (go_at_call 33; refine (trTwo_any _ _ _ _ _ _).mono ?_; rintro e w1 ⟨rfl, hb⟩; have hc := (bcell hb).1; have hf := (bcell hb).2; have hz : w.heap.size ≤ w1.heap.size := (by have := hb.size; (try simp at this); omega); have hz0 : w.heap.size < w1.heap.size := (by have := hb.size; (try simp at this); omega); have hcA0 := fun o => (bcell hb).1 (w.heap.size) o (by first | omega | (simp; omega) | (simp; done)); have hfA0 := fun o => (bcell hb).2 (w.heap.size) o (by first | omega | (simp; omega) | (simp; done)); have hz1 : w.heap.size + 1 < w1.heap.size := (by have := hb.size; (try simp at this); omega); have hcA1 := fun o => (bcell hb).1 (w.heap.size + 1) o (by first | omega | (simp; omega) | (simp; done)); have hfA1 := fun o => (bcell hb).2 (w.heap.size + 1) o (by first | omega | (simp; omega) | (simp; done))) | (go_at_call 34; refine (trTime_any _ _).mono ?_; rintro e w1 ⟨rfl, rfl⟩) | go_in)
    all_goals (go_ret2; refine ⟨rIB ?_ ?_, ?_⟩)
    all_goals first | (simp [hv, ht, ifI]; done) | (repeat (first | exact Below.refl _ _ | refine Below.drew ?_ | refine below_drewN ?_ _ | refine Below.setCell ?_ (by first | omega | (simp; done) | (simp; omega)) _ | refine Below.alloc ?_ (by first | omega | (simp; done) | (simp; omega)) _ | refine bchain ?_ (by assumption) (by first | omega | (simp; done) | (simp; omega))))
set_option maxHeartbeats 2000000 in
theorem specCountOvertakings (l p s q r t : Int) (w : World) :
    Calls Try.prog 12 #[.int .i64 l, .agg #[.int .i64 p, .int .i64 s], .agg #[.int .i64 q, .int .i64 r], .int .i64 t] w fun e w' => e = .returned (.tuple #[.int .i64 (ifI (rn2 l p s q r && rtOk t) (ovN l p s q r t)), .bool (rn2 l p s q r && rtOk t)]) ∧ Below w.heap.size w w' := by
  cases hv : rn2 l p s q r <;> cases ht : rtOk t
  case true.true =>
    have rr := rn2_iff.1 hv
    have l1 := rr.1
    have l2 := rr.2.1
    have p1 := rr.2.2.1
    have p2 := rr.2.2.2.1
    have s1 := rr.2.2.2.2.1
    have s2 := rr.2.2.2.2.2.1
    have q1 := rr.2.2.2.2.2.2.1
    have q2 := rr.2.2.2.2.2.2.2.1
    have r1 := rr.2.2.2.2.2.2.2.2.1
    have r2 := rr.2.2.2.2.2.2.2.2.2
    clear rr
    have k1 := (rtOk_iff.1 ht).1
    have k2 := (rtOk_iff.1 ht).2
    have m2 := fr_bd p1 (show p ≤ 1000 by omega) (show 0 ≤ s by omega) s2 k1 k2
    have m3 := fr_bd q1 (show q ≤ 1000 by omega) (show 0 ≤ r by omega) r2 k1 k2
    have m4 := fr_bd p1 (show p ≤ 1000 by omega) (show 0 ≤ s by omega) s2 (show (0 : Int) ≤ 0 by omega) (show (0 : Int) ≤ 1000000 by omega)
    have m5 := fr_bd q1 (show q ≤ 1000 by omega) (show 0 ≤ r by omega) r2 (show (0 : Int) ≤ 0 by omega) (show (0 : Int) ≤ 1000000 by omega)
    by_cases hs : s ≤ r
    case pos =>
      have HZ := Lib.hid (ov_zero (l := l) (p := p) (q := q) (t := t) (by omega) hs k1)
      go_enter Try.func12, Try.ntmps12
      go_wp2_with (first | (go_at_call 33; refine (trTwo_any _ _ _ _ _ _).mono ?_; rintro e w1 ⟨rfl, hb⟩; have hc := (bcell hb).1; have hf := (bcell hb).2; have hz : w.heap.size ≤ w1.heap.size := (by have := hb.size; (try simp at this); omega); have hz0 : w.heap.size < w1.heap.size := (by have := hb.size; (try simp at this); omega); have hcA0 := fun o => (bcell hb).1 (w.heap.size) o (by first | omega | (simp; omega) | (simp; done)); have hfA0 := fun o => (bcell hb).2 (w.heap.size) o (by first | omega | (simp; omega) | (simp; done)); have hz1 : w.heap.size + 1 < w1.heap.size := (by have := hb.size; (try simp at this); omega); have hcA1 := fun o => (bcell hb).1 (w.heap.size + 1) o (by first | omega | (simp; omega) | (simp; done)); have hfA1 := fun o => (bcell hb).2 (w.heap.size + 1) o (by first | omega | (simp; omega) | (simp; done))) | (go_at_call 34; refine (trTime_any _ _).mono ?_; rintro e w1 ⟨rfl, rfl⟩) | go_in)
      all_goals (go_ret2; refine ⟨rIB ?_ ?_, ?_⟩)
      all_goals first | (simp [hv, ht, ifI]; exact HZ.out.symm) | rfl | (repeat (first | exact Below.refl _ _ | refine Below.drew ?_ | refine below_drewN ?_ _ | refine Below.setCell ?_ (by first | omega | (simp; done) | (simp; omega)) _ | refine Below.alloc ?_ (by first | omega | (simp; done) | (simp; omega)) _ | refine bchain ?_ (by assumption) (by first | omega | (simp; done) | (simp; omega))))
    case neg =>
      have HZ := Lib.hid (ov_eq (l := l) (p := p) (s := s) (q := q) (r := r) (t := t) (by omega) (by omega) k1)
      have D1 := div_bd (n := fr p s t - fr q r t - 1) (l := l) (by omega) (B := 1000000000) (by omega) (by omega)
      have D2 := div_bd (n := fr p s 0 - fr q r 0 - 1) (l := l) (by omega) (B := 1000000000) (by omega) (by omega)
      go_enter Try.func12, Try.ntmps12
      go_wp2_with (first | (go_at_call 33; refine (trTwo_any _ _ _ _ _ _).mono ?_; rintro e w1 ⟨rfl, hb⟩; have hc := (bcell hb).1; have hf := (bcell hb).2; have hz : w.heap.size ≤ w1.heap.size := (by have := hb.size; (try simp at this); omega); have hz0 : w.heap.size < w1.heap.size := (by have := hb.size; (try simp at this); omega); have hcA0 := fun o => (bcell hb).1 (w.heap.size) o (by first | omega | (simp; omega) | (simp; done)); have hfA0 := fun o => (bcell hb).2 (w.heap.size) o (by first | omega | (simp; omega) | (simp; done)); have hz1 : w.heap.size + 1 < w1.heap.size := (by have := hb.size; (try simp at this); omega); have hcA1 := fun o => (bcell hb).1 (w.heap.size + 1) o (by first | omega | (simp; omega) | (simp; done)); have hfA1 := fun o => (bcell hb).2 (w.heap.size + 1) o (by first | omega | (simp; omega) | (simp; done))) | (go_at_call 34; refine (trTime_any _ _).mono ?_; rintro e w1 ⟨rfl, rfl⟩))
      have w1 : IntKind.i64.wrap (fr p s t - fr q r t) = fr p s t - fr q r t := IntWalk.i64_in _ (by omega)
      have w2 : IntKind.i64.wrap (fr p s 0 - fr q r 0) = fr p s 0 - fr q r 0 := IntWalk.i64_in _ (by omega)
      go_region_held3 (fun w' => Below w.heap.size w w' ∧ w.heap.size < w'.heap.size ∧ w.heap.size + 1 < w'.heap.size ∧ w'.cell? ⟨w.heap.size, 0, none⟩ = some (.int .i64 p) ∧ w'.cell? ⟨w.heap.size, 1, none⟩ = some (.int .i64 s) ∧ w'.cell? ⟨w.heap.size + 1, 0, none⟩ = some (.int .i64 q) ∧ w'.cell? ⟨w.heap.size + 1, 1, none⟩ = some (.int .i64 r))
        (refine ⟨?_, ?_, ?_, ?_, ?_, ?_, ?_⟩ <;> first | assumption | omega | (go_simp; done) | (repeat (first | exact Below.refl _ _ | refine Below.drew ?_ | refine below_drewN ?_ _ | refine Below.setCell ?_ (by first | omega | (simp; done) | (simp; omega)) _ | refine Below.alloc ?_ (by first | omega | (simp; done) | (simp; omega)) _ | refine bchain ?_ (by assumption) (by first | omega | (simp; done) | (simp; omega)))))
        (first | (go_at_call_of 35 (Value.agg #[.int .i64 p, .int .i64 s]); go_at_call_of 35 (Value.int .i64 0); refine (trFar_any p s 0 (by omega) (by omega) (by omega) (by omega) (by omega) (by omega) _).mono ?_; rintro e w1 ⟨rfl, hb⟩; have hc := (bcell hb).1; have hf := (bcell hb).2; have hz : w.heap.size ≤ w1.heap.size := (by have := hb.size; (try simp at this); omega); have hz0 : w.heap.size < w1.heap.size := (by have := hb.size; (try simp at this); omega); have hcA0 := fun o => (bcell hb).1 (w.heap.size) o (by first | omega | (simp; omega) | (simp; done)); have hfA0 := fun o => (bcell hb).2 (w.heap.size) o (by first | omega | (simp; omega) | (simp; done)); have hz1 : w.heap.size + 1 < w1.heap.size := (by have := hb.size; (try simp at this); omega); have hcA1 := fun o => (bcell hb).1 (w.heap.size + 1) o (by first | omega | (simp; omega) | (simp; done)); have hfA1 := fun o => (bcell hb).2 (w.heap.size + 1) o (by first | omega | (simp; omega) | (simp; done))) | (go_at_call_of 35 (Value.agg #[.int .i64 q, .int .i64 r]); go_at_call_of 35 (Value.int .i64 0); refine (trFar_any q r 0 (by omega) (by omega) (by omega) (by omega) (by omega) (by omega) _).mono ?_; rintro e w1 ⟨rfl, hb⟩; have hc := (bcell hb).1; have hf := (bcell hb).2; have hz : w.heap.size ≤ w1.heap.size := (by have := hb.size; (try simp at this); omega); have hz0 : w.heap.size < w1.heap.size := (by have := hb.size; (try simp at this); omega); have hcA0 := fun o => (bcell hb).1 (w.heap.size) o (by first | omega | (simp; omega) | (simp; done)); have hfA0 := fun o => (bcell hb).2 (w.heap.size) o (by first | omega | (simp; omega) | (simp; done)); have hz1 : w.heap.size + 1 < w1.heap.size := (by have := hb.size; (try simp at this); omega); have hcA1 := fun o => (bcell hb).1 (w.heap.size + 1) o (by first | omega | (simp; omega) | (simp; done)); have hfA1 := fun o => (bcell hb).2 (w.heap.size + 1) o (by first | omega | (simp; omega) | (simp; done))) | (go_at_call_of 35 (Value.agg #[.int .i64 p, .int .i64 s]); go_at_call_of 35 (Value.int .i64 t); refine (trFar_any p s t (by omega) (by omega) (by omega) (by omega) (by omega) (by omega) _).mono ?_; rintro e w1 ⟨rfl, hb⟩; have hc := (bcell hb).1; have hf := (bcell hb).2; have hz : w.heap.size ≤ w1.heap.size := (by have := hb.size; (try simp at this); omega); have hz0 : w.heap.size < w1.heap.size := (by have := hb.size; (try simp at this); omega); have hcA0 := fun o => (bcell hb).1 (w.heap.size) o (by first | omega | (simp; omega) | (simp; done)); have hfA0 := fun o => (bcell hb).2 (w.heap.size) o (by first | omega | (simp; omega) | (simp; done)); have hz1 : w.heap.size + 1 < w1.heap.size := (by have := hb.size; (try simp at this); omega); have hcA1 := fun o => (bcell hb).1 (w.heap.size + 1) o (by first | omega | (simp; omega) | (simp; done)); have hfA1 := fun o => (bcell hb).2 (w.heap.size + 1) o (by first | omega | (simp; omega) | (simp; done))) | (go_at_call_of 35 (Value.agg #[.int .i64 q, .int .i64 r]); go_at_call_of 35 (Value.int .i64 t); refine (trFar_any q r t (by omega) (by omega) (by omega) (by omega) (by omega) (by omega) _).mono ?_; rintro e w1 ⟨rfl, hb⟩; have hc := (bcell hb).1; have hf := (bcell hb).2; have hz : w.heap.size ≤ w1.heap.size := (by have := hb.size; (try simp at this); omega); have hz0 : w.heap.size < w1.heap.size := (by have := hb.size; (try simp at this); omega); have hcA0 := fun o => (bcell hb).1 (w.heap.size) o (by first | omega | (simp; omega) | (simp; done)); have hfA0 := fun o => (bcell hb).2 (w.heap.size) o (by first | omega | (simp; omega) | (simp; done)); have hz1 : w.heap.size + 1 < w1.heap.size := (by have := hb.size; (try simp at this); omega); have hcA1 := fun o => (bcell hb).1 (w.heap.size + 1) o (by first | omega | (simp; omega) | (simp; done)); have hfA1 := fun o => (bcell hb).2 (w.heap.size + 1) o (by first | omega | (simp; omega) | (simp; done))))
      rename_i hHeld
      have B0 := hHeld.1
      have z0 := hHeld.2.1
      have z1 := hHeld.2.2.1
      go_wp2_with fail
      refine (trDown_any (fr p s t - fr q r t - 1) l (by omega) (by omega) (by omega) (by omega) _).mono ?_; rintro e w1 ⟨rfl, hb1⟩; have y1 := hb1.size
      go_wp2_with fail
      refine (trDown_any (fr p s 0 - fr q r 0 - 1) l (by omega) (by omega) (by omega) (by omega) _).mono ?_; rintro e w2 ⟨rfl, hb2⟩; have y2 := hb2.size
      go_wp2_with fail
      go_ret2
      refine ⟨rIB ?_ ?_, ?_⟩
      · simp [hv, ht, ifI]; exact HZ.out
      · rfl
      · exact bchain (bchain B0 hb1 (by omega)) hb2 (by omega)
  all_goals
    go_enter Try.func12, Try.ntmps12
    go_wp2_with (first | (go_at_call 33; refine (trTwo_any _ _ _ _ _ _).mono ?_; rintro e w1 ⟨rfl, hb⟩; have hc := (bcell hb).1; have hf := (bcell hb).2; have hz : w.heap.size ≤ w1.heap.size := (by have := hb.size; (try simp at this); omega); have hz0 : w.heap.size < w1.heap.size := (by have := hb.size; (try simp at this); omega); have hcA0 := fun o => (bcell hb).1 (w.heap.size) o (by first | omega | (simp; omega) | (simp; done)); have hfA0 := fun o => (bcell hb).2 (w.heap.size) o (by first | omega | (simp; omega) | (simp; done)); have hz1 : w.heap.size + 1 < w1.heap.size := (by have := hb.size; (try simp at this); omega); have hcA1 := fun o => (bcell hb).1 (w.heap.size + 1) o (by first | omega | (simp; omega) | (simp; done)); have hfA1 := fun o => (bcell hb).2 (w.heap.size + 1) o (by first | omega | (simp; omega) | (simp; done))) | (go_at_call 34; refine (trTime_any _ _).mono ?_; rintro e w1 ⟨rfl, rfl⟩) | go_in)
    all_goals (go_ret2; refine ⟨rIB ?_ ?_, ?_⟩)
    all_goals first | (simp [hv, ht, ifI]; done) | (repeat (first | exact Below.refl _ _ | refine Below.drew ?_ | refine below_drewN ?_ _ | refine Below.setCell ?_ (by first | omega | (simp; done) | (simp; omega)) _ | refine Below.alloc ?_ (by first | omega | (simp; done) | (simp; omega)) _ | refine bchain ?_ (by assumption) (by first | omega | (simp; done) | (simp; omega))))
set_option maxHeartbeats 2000000 in
theorem specHandicapFor (l p s q r n : Int) (w : World) :
    Calls Try.prog 14 #[.int .i64 l, .agg #[.int .i64 p, .int .i64 s], .agg #[.int .i64 q, .int .i64 r], .int .i64 n] w fun e w' => e = .returned (.tuple #[.int .i64 (haV l p s q r n), .bool (haB l p s q r n)]) ∧ Below w.heap.size w w' := by
  cases hv : rn2 l p s q r <;> cases ht : lpsOk n
  case true.true =>
    have rr := rn2_iff.1 hv
    have l1 := rr.1
    have l2 := rr.2.1
    have p1 := rr.2.2.1
    have p2 := rr.2.2.2.1
    have s1 := rr.2.2.2.2.1
    have s2 := rr.2.2.2.2.2.1
    have q1 := rr.2.2.2.2.2.2.1
    have q2 := rr.2.2.2.2.2.2.2.1
    have r1 := rr.2.2.2.2.2.2.2.2.1
    have r2 := rr.2.2.2.2.2.2.2.2.2
    clear rr
    have k1 := (lpsOk_iff.1 ht).1
    have k2 := (lpsOk_iff.1 ht).2
    have m1 := mul_bd n l 100 1000 (by omega) k2 (by omega) l2
    have x1 := Int.emod_nonneg (n * l) (show s ≠ 0 by omega)
    have x2 := Int.emod_lt_of_pos (n * l) (show 0 < s by omega)
    have eM : (n * l).tmod s = n * l % s := Int.tmod_eq_emod_of_nonneg (by omega)
    have eW : IntKind.i64.wrap (n * l % s) = n * l % s := IntWalk.i64_in _ (by omega)
    have u1 : IntKind.i64.wrap (n * l) = n * l := IntWalk.i64_in _ (by omega)
    by_cases hg : n * l % s = 0
    case pos =>
      have HZ := Lib.hid (show haB l p s q r n = true by simp [haB, hv, ht, hg])
      have hg2 : (n * l % s == 0) = true := by simpa using hg
      have d1 := Int.ediv_le_self s (show 0 ≤ n * l by omega)
      have d2 := Int.ediv_nonneg (show 0 ≤ n * l by omega) (show 0 ≤ s by omega)
      have eD : (n * l).tdiv s = n * l / s := Int.tdiv_eq_ediv_of_nonneg (by omega)
      have eV : IntKind.i64.wrap (n * l / s) = n * l / s := IntWalk.i64_in _ (by omega)
      have m2 := fr_bd p1 (show p ≤ 1000 by omega) (show 0 ≤ s by omega) s2 d2 (show n * l / s ≤ 1000000 by omega)
      have m3 := fr_bd q1 (show q ≤ 1000 by omega) (show 0 ≤ r by omega) r2 d2 (show n * l / s ≤ 1000000 by omega)
      go_enter Try.func14, Try.ntmps14
      go_wp2_with (first | (go_at_call 33; refine (trTwo_any _ _ _ _ _ _).mono ?_; rintro e w1 ⟨rfl, hb⟩; have hc := (bcell hb).1; have hf := (bcell hb).2; have hz : w.heap.size ≤ w1.heap.size := (by have := hb.size; (try simp at this); omega); have hz0 : w.heap.size < w1.heap.size := (by have := hb.size; (try simp at this); omega); have hcA0 := fun o => (bcell hb).1 (w.heap.size) o (by first | omega | (simp; omega) | (simp; done)); have hfA0 := fun o => (bcell hb).2 (w.heap.size) o (by first | omega | (simp; omega) | (simp; done)); have hz1 : w.heap.size + 1 < w1.heap.size := (by have := hb.size; (try simp at this); omega); have hcA1 := fun o => (bcell hb).1 (w.heap.size + 1) o (by first | omega | (simp; omega) | (simp; done)); have hfA1 := fun o => (bcell hb).2 (w.heap.size + 1) o (by first | omega | (simp; omega) | (simp; done))) | (go_at_call 34; refine (trTime_any _ _).mono ?_; rintro e w1 ⟨rfl, rfl⟩) | (go_at_call 41; refine (specIn n 1 100 _).mono ?_; rw [show inB n 1 100 = lpsOk n from rfl]; rintro e w1 ⟨rfl, rfl⟩))
      have w1 : IntKind.i64.wrap (fr p s (n * l / s) - fr q r (n * l / s)) = fr p s (n * l / s) - fr q r (n * l / s) := IntWalk.i64_in _ (by omega)
      all_goals try (go_quiet (fail); go_wp2_with fail)
      go_region_held3 (fun w' => Below w.heap.size w w' ∧ w.heap.size < w'.heap.size ∧ w.heap.size + 1 < w'.heap.size ∧ w'.cell? ⟨w.heap.size, 0, none⟩ = some (.int .i64 p) ∧ w'.cell? ⟨w.heap.size, 1, none⟩ = some (.int .i64 s) ∧ w'.cell? ⟨w.heap.size + 1, 0, none⟩ = some (.int .i64 q) ∧ w'.cell? ⟨w.heap.size + 1, 1, none⟩ = some (.int .i64 r))
        (refine ⟨?_, ?_, ?_, ?_, ?_, ?_, ?_⟩ <;> first | assumption | omega | (go_simp; done) | (repeat (first | exact Below.refl _ _ | refine Below.drew ?_ | refine below_drewN ?_ _ | refine Below.setCell ?_ (by first | omega | (simp; done) | (simp; omega)) _ | refine Below.alloc ?_ (by first | omega | (simp; done) | (simp; omega)) _ | refine bchain ?_ (by assumption) (by first | omega | (simp; done) | (simp; omega)))))
        (first | (go_at_call_of 35 (Value.agg #[.int .i64 p, .int .i64 s]); refine (trFar_any p s (n * l / s) (by omega) (by omega) (by omega) (by omega) (by omega) (by omega) _).mono ?_; rintro e w1 ⟨rfl, hb⟩; have hc := (bcell hb).1; have hf := (bcell hb).2; have hz : w.heap.size ≤ w1.heap.size := (by have := hb.size; (try simp at this); omega); have hz0 : w.heap.size < w1.heap.size := (by have := hb.size; (try simp at this); omega); have hcA0 := fun o => (bcell hb).1 (w.heap.size) o (by first | omega | (simp; omega) | (simp; done)); have hfA0 := fun o => (bcell hb).2 (w.heap.size) o (by first | omega | (simp; omega) | (simp; done)); have hz1 : w.heap.size + 1 < w1.heap.size := (by have := hb.size; (try simp at this); omega); have hcA1 := fun o => (bcell hb).1 (w.heap.size + 1) o (by first | omega | (simp; omega) | (simp; done)); have hfA1 := fun o => (bcell hb).2 (w.heap.size + 1) o (by first | omega | (simp; omega) | (simp; done))) | (go_at_call_of 35 (Value.agg #[.int .i64 q, .int .i64 r]); refine (trFar_any q r (n * l / s) (by omega) (by omega) (by omega) (by omega) (by omega) (by omega) _).mono ?_; rintro e w1 ⟨rfl, hb⟩; have hc := (bcell hb).1; have hf := (bcell hb).2; have hz : w.heap.size ≤ w1.heap.size := (by have := hb.size; (try simp at this); omega); have hz0 : w.heap.size < w1.heap.size := (by have := hb.size; (try simp at this); omega); have hcA0 := fun o => (bcell hb).1 (w.heap.size) o (by first | omega | (simp; omega) | (simp; done)); have hfA0 := fun o => (bcell hb).2 (w.heap.size) o (by first | omega | (simp; omega) | (simp; done)); have hz1 : w.heap.size + 1 < w1.heap.size := (by have := hb.size; (try simp at this); omega); have hcA1 := fun o => (bcell hb).1 (w.heap.size + 1) o (by first | omega | (simp; omega) | (simp; done)); have hfA1 := fun o => (bcell hb).2 (w.heap.size + 1) o (by first | omega | (simp; omega) | (simp; done))))
      all_goals go_wp2_with fail
      rename_i hHeld
      have B0 := hHeld.1
      go_ret2
      refine ⟨rIB ?_ ?_, B0⟩
      · first | (simp [hv, ht, ifI]; done) | (unfold haV; rw [HZ.out]; rfl)
      · first | rfl | exact HZ.out.symm
    case neg =>
      have HZ := Lib.hid (show haB l p s q r n = false by simp [haB, hg])
      have hg2 : (n * l % s == 0) = false := by simpa using hg
      go_enter Try.func14, Try.ntmps14
      go_wp2_with (first | (go_at_call 33; refine (trTwo_any _ _ _ _ _ _).mono ?_; rintro e w1 ⟨rfl, hb⟩; have hc := (bcell hb).1; have hf := (bcell hb).2; have hz : w.heap.size ≤ w1.heap.size := (by have := hb.size; (try simp at this); omega); have hz0 : w.heap.size < w1.heap.size := (by have := hb.size; (try simp at this); omega); have hcA0 := fun o => (bcell hb).1 (w.heap.size) o (by first | omega | (simp; omega) | (simp; done)); have hfA0 := fun o => (bcell hb).2 (w.heap.size) o (by first | omega | (simp; omega) | (simp; done)); have hz1 : w.heap.size + 1 < w1.heap.size := (by have := hb.size; (try simp at this); omega); have hcA1 := fun o => (bcell hb).1 (w.heap.size + 1) o (by first | omega | (simp; omega) | (simp; done)); have hfA1 := fun o => (bcell hb).2 (w.heap.size + 1) o (by first | omega | (simp; omega) | (simp; done))) | (go_at_call 41; refine (specIn n 1 100 _).mono ?_; rw [show inB n 1 100 = lpsOk n from rfl]; rintro e w1 ⟨rfl, rfl⟩) | go_in)
      all_goals try ((go_quiet (fail)); go_wp2_with (first | (go_at_call 33; refine (trTwo_any _ _ _ _ _ _).mono ?_; rintro e w1 ⟨rfl, hb⟩; have hc := (bcell hb).1; have hf := (bcell hb).2; have hz : w.heap.size ≤ w1.heap.size := (by have := hb.size; (try simp at this); omega); have hz0 : w.heap.size < w1.heap.size := (by have := hb.size; (try simp at this); omega); have hcA0 := fun o => (bcell hb).1 (w.heap.size) o (by first | omega | (simp; omega) | (simp; done)); have hfA0 := fun o => (bcell hb).2 (w.heap.size) o (by first | omega | (simp; omega) | (simp; done)); have hz1 : w.heap.size + 1 < w1.heap.size := (by have := hb.size; (try simp at this); omega); have hcA1 := fun o => (bcell hb).1 (w.heap.size + 1) o (by first | omega | (simp; omega) | (simp; done)); have hfA1 := fun o => (bcell hb).2 (w.heap.size + 1) o (by first | omega | (simp; omega) | (simp; done))) | (go_at_call 41; refine (specIn n 1 100 _).mono ?_; rw [show inB n 1 100 = lpsOk n from rfl]; rintro e w1 ⟨rfl, rfl⟩) | go_in))
      all_goals try ((go_quiet (fail)); go_wp2_with (first | (go_at_call 33; refine (trTwo_any _ _ _ _ _ _).mono ?_; rintro e w1 ⟨rfl, hb⟩; have hc := (bcell hb).1; have hf := (bcell hb).2; have hz : w.heap.size ≤ w1.heap.size := (by have := hb.size; (try simp at this); omega); have hz0 : w.heap.size < w1.heap.size := (by have := hb.size; (try simp at this); omega); have hcA0 := fun o => (bcell hb).1 (w.heap.size) o (by first | omega | (simp; omega) | (simp; done)); have hfA0 := fun o => (bcell hb).2 (w.heap.size) o (by first | omega | (simp; omega) | (simp; done)); have hz1 : w.heap.size + 1 < w1.heap.size := (by have := hb.size; (try simp at this); omega); have hcA1 := fun o => (bcell hb).1 (w.heap.size + 1) o (by first | omega | (simp; omega) | (simp; done)); have hfA1 := fun o => (bcell hb).2 (w.heap.size + 1) o (by first | omega | (simp; omega) | (simp; done))) | (go_at_call 41; refine (specIn n 1 100 _).mono ?_; rw [show inB n 1 100 = lpsOk n from rfl]; rintro e w1 ⟨rfl, rfl⟩) | go_in))
      all_goals try ((go_quiet (fail)); go_wp2_with (first | (go_at_call 33; refine (trTwo_any _ _ _ _ _ _).mono ?_; rintro e w1 ⟨rfl, hb⟩; have hc := (bcell hb).1; have hf := (bcell hb).2; have hz : w.heap.size ≤ w1.heap.size := (by have := hb.size; (try simp at this); omega); have hz0 : w.heap.size < w1.heap.size := (by have := hb.size; (try simp at this); omega); have hcA0 := fun o => (bcell hb).1 (w.heap.size) o (by first | omega | (simp; omega) | (simp; done)); have hfA0 := fun o => (bcell hb).2 (w.heap.size) o (by first | omega | (simp; omega) | (simp; done)); have hz1 : w.heap.size + 1 < w1.heap.size := (by have := hb.size; (try simp at this); omega); have hcA1 := fun o => (bcell hb).1 (w.heap.size + 1) o (by first | omega | (simp; omega) | (simp; done)); have hfA1 := fun o => (bcell hb).2 (w.heap.size + 1) o (by first | omega | (simp; omega) | (simp; done))) | (go_at_call 41; refine (specIn n 1 100 _).mono ?_; rw [show inB n 1 100 = lpsOk n from rfl]; rintro e w1 ⟨rfl, rfl⟩) | go_in))
      all_goals (go_ret2; refine ⟨rIB ?_ ?_, ?_⟩)
      all_goals first | (unfold haV; rw [HZ.out]; rfl) | (exact HZ.out.symm) | (repeat (first | exact Below.refl _ _ | refine Below.drew ?_ | refine below_drewN ?_ _ | refine Below.setCell ?_ (by first | omega | (simp; done) | (simp; omega)) _ | refine Below.alloc ?_ (by first | omega | (simp; done) | (simp; omega)) _ | refine bchain ?_ (by assumption) (by first | omega | (simp; done) | (simp; omega))))
  all_goals
    go_enter Try.func14, Try.ntmps14
    go_wp2_with (first | (go_at_call 33; refine (trTwo_any _ _ _ _ _ _).mono ?_; rintro e w1 ⟨rfl, hb⟩; have hc := (bcell hb).1; have hf := (bcell hb).2; have hz : w.heap.size ≤ w1.heap.size := (by have := hb.size; (try simp at this); omega); have hz0 : w.heap.size < w1.heap.size := (by have := hb.size; (try simp at this); omega); have hcA0 := fun o => (bcell hb).1 (w.heap.size) o (by first | omega | (simp; omega) | (simp; done)); have hfA0 := fun o => (bcell hb).2 (w.heap.size) o (by first | omega | (simp; omega) | (simp; done)); have hz1 : w.heap.size + 1 < w1.heap.size := (by have := hb.size; (try simp at this); omega); have hcA1 := fun o => (bcell hb).1 (w.heap.size + 1) o (by first | omega | (simp; omega) | (simp; done)); have hfA1 := fun o => (bcell hb).2 (w.heap.size + 1) o (by first | omega | (simp; omega) | (simp; done))) | (go_at_call 41; refine (specIn n 1 100 _).mono ?_; rw [show inB n 1 100 = lpsOk n from rfl]; rintro e w1 ⟨rfl, rfl⟩) | go_in)
    all_goals (go_ret2; refine ⟨rIB ?_ ?_, ?_⟩)
    all_goals first | (simp [haV, haB, hv, ht, ifI]; done) | (repeat (first | exact Below.refl _ _ | refine Below.drew ?_ | refine below_drewN ?_ _ | refine Below.setCell ?_ (by first | omega | (simp; done) | (simp; omega)) _ | refine Below.alloc ?_ (by first | omega | (simp; done) | (simp; omega)) _ | refine bchain ?_ (by assumption) (by first | omega | (simp; done) | (simp; omega))))
set_option maxHeartbeats 2000000 in
theorem specTimeOfLaps (l p s n : Int) (w : World) :
    Calls Try.prog 25 #[.int .i64 l, .agg #[.int .i64 p, .int .i64 s], .int .i64 n] w fun e w' => e = .returned (.tuple #[.int .i64 (ifI (rn1 l p s && lpsOk n) (lwN (n * l) s)), .int .i64 (ifI (rn1 l p s && lpsOk n) (lwD (n * l) s)), .bool (rn1 l p s && lpsOk n)]) ∧ Below w.heap.size w w' := by
  cases hv : rn1 l p s <;> cases ht : lpsOk n
  case true.true =>
    have rr := rn1_iff.1 hv
    have l1 := rr.1
    have l2 := rr.2.1
    have p1 := rr.2.2.1
    have p2 := rr.2.2.2.1
    have s1 := rr.2.2.2.2.1
    have s2 := rr.2.2.2.2.2
    clear rr
    have k1 := (lpsOk_iff.1 ht).1
    have k2 := (lpsOk_iff.1 ht).2
    have m1 := mul_bd n l 100 1000 (by omega) k2 (by omega) l2
    have u1 : IntKind.i64.wrap (n * l) = n * l := IntWalk.i64_in _ (by omega)
    have g2 := gc_pos (a := n * l) (b := s) (by omega)
    have g3 := gc_le (a := n * l) (b := s) (by omega)
    have t1 := tdiv_abs (n * l) (gc (n * l) s) g2
    have t2 := tdiv_abs s (gc (n * l) s) g2
    have t3 := ab_le (x := n * l) (B := 1000000000) (by omega) (by omega)
    have t4 := ab_le (x := s) (B := 1000000000) (by omega) (by omega)
    have d1 : IntKind.i64.wrap ((n * l).tdiv (gc (n * l) s)) = (n * l).tdiv (gc (n * l) s) := IntWalk.i64_in _ (by omega)
    have d2 : IntKind.i64.wrap (s.tdiv (gc (n * l) s)) = s.tdiv (gc (n * l) s) := IntWalk.i64_in _ (by omega)
    have d3 : (gc (n * l) s == 0) = false := by rw [beq_eq_false_iff_ne]; omega
    have d4 : ¬ gc (n * l) s = 0 := by omega
    have d5 : ¬ gc (n * l) s = -1 := by omega
    go_enter Try.func25, Try.ntmps25
    go_wp2_with (first | (go_at_call 48; refine (trRunner_any _ _ _ _).mono ?_; rintro e w1 ⟨rfl, hb⟩; have hc := (bcell hb).1; have hf := (bcell hb).2; have hz : w.heap.size ≤ w1.heap.size := (by have := hb.size; (try simp at this); omega); have hz0 : w.heap.size < w1.heap.size := (by have := hb.size; (try simp at this); omega); have hcA0 := fun o => (bcell hb).1 (w.heap.size) o (by first | omega | (simp; omega) | (simp; done)); have hfA0 := fun o => (bcell hb).2 (w.heap.size) o (by first | omega | (simp; omega) | (simp; done))) | (go_at_call 41; refine (specIn n 1 100 _).mono ?_; rw [show inB n 1 100 = lpsOk n from rfl]; rintro e w1 ⟨rfl, rfl⟩) | (go_at_call 49; refine (common_any (n * l) s (by omega) (by omega) (by omega) (by omega) _).mono ?_; rintro e w1 ⟨rfl, hb⟩; have hc := (bcell hb).1; have hf := (bcell hb).2; have hz : w.heap.size ≤ w1.heap.size := (by have := hb.size; (try simp at this); omega); have hz0 : w.heap.size < w1.heap.size := (by have := hb.size; (try simp at this); omega); have hcA0 := fun o => (bcell hb).1 (w.heap.size) o (by first | omega | (simp; omega) | (simp; done)); have hfA0 := fun o => (bcell hb).2 (w.heap.size) o (by first | omega | (simp; omega) | (simp; done))) | go_in)
    all_goals try ((go_quiet (fail)); go_wp2_with (first | (go_at_call 48; refine (trRunner_any _ _ _ _).mono ?_; rintro e w1 ⟨rfl, hb⟩; have hc := (bcell hb).1; have hf := (bcell hb).2; have hz : w.heap.size ≤ w1.heap.size := (by have := hb.size; (try simp at this); omega); have hz0 : w.heap.size < w1.heap.size := (by have := hb.size; (try simp at this); omega); have hcA0 := fun o => (bcell hb).1 (w.heap.size) o (by first | omega | (simp; omega) | (simp; done)); have hfA0 := fun o => (bcell hb).2 (w.heap.size) o (by first | omega | (simp; omega) | (simp; done))) | (go_at_call 41; refine (specIn n 1 100 _).mono ?_; rw [show inB n 1 100 = lpsOk n from rfl]; rintro e w1 ⟨rfl, rfl⟩) | (go_at_call 49; refine (common_any (n * l) s (by omega) (by omega) (by omega) (by omega) _).mono ?_; rintro e w1 ⟨rfl, hb⟩; have hc := (bcell hb).1; have hf := (bcell hb).2; have hz : w.heap.size ≤ w1.heap.size := (by have := hb.size; (try simp at this); omega); have hz0 : w.heap.size < w1.heap.size := (by have := hb.size; (try simp at this); omega); have hcA0 := fun o => (bcell hb).1 (w.heap.size) o (by first | omega | (simp; omega) | (simp; done)); have hfA0 := fun o => (bcell hb).2 (w.heap.size) o (by first | omega | (simp; omega) | (simp; done))) | go_in))
    all_goals try ((go_quiet (fail)); go_wp2_with (first | (go_at_call 48; refine (trRunner_any _ _ _ _).mono ?_; rintro e w1 ⟨rfl, hb⟩; have hc := (bcell hb).1; have hf := (bcell hb).2; have hz : w.heap.size ≤ w1.heap.size := (by have := hb.size; (try simp at this); omega); have hz0 : w.heap.size < w1.heap.size := (by have := hb.size; (try simp at this); omega); have hcA0 := fun o => (bcell hb).1 (w.heap.size) o (by first | omega | (simp; omega) | (simp; done)); have hfA0 := fun o => (bcell hb).2 (w.heap.size) o (by first | omega | (simp; omega) | (simp; done))) | (go_at_call 41; refine (specIn n 1 100 _).mono ?_; rw [show inB n 1 100 = lpsOk n from rfl]; rintro e w1 ⟨rfl, rfl⟩) | (go_at_call 49; refine (common_any (n * l) s (by omega) (by omega) (by omega) (by omega) _).mono ?_; rintro e w1 ⟨rfl, hb⟩; have hc := (bcell hb).1; have hf := (bcell hb).2; have hz : w.heap.size ≤ w1.heap.size := (by have := hb.size; (try simp at this); omega); have hz0 : w.heap.size < w1.heap.size := (by have := hb.size; (try simp at this); omega); have hcA0 := fun o => (bcell hb).1 (w.heap.size) o (by first | omega | (simp; omega) | (simp; done)); have hfA0 := fun o => (bcell hb).2 (w.heap.size) o (by first | omega | (simp; omega) | (simp; done))) | go_in))
    all_goals try ((go_quiet (fail)); go_wp2_with (first | (go_at_call 48; refine (trRunner_any _ _ _ _).mono ?_; rintro e w1 ⟨rfl, hb⟩; have hc := (bcell hb).1; have hf := (bcell hb).2; have hz : w.heap.size ≤ w1.heap.size := (by have := hb.size; (try simp at this); omega); have hz0 : w.heap.size < w1.heap.size := (by have := hb.size; (try simp at this); omega); have hcA0 := fun o => (bcell hb).1 (w.heap.size) o (by first | omega | (simp; omega) | (simp; done)); have hfA0 := fun o => (bcell hb).2 (w.heap.size) o (by first | omega | (simp; omega) | (simp; done))) | (go_at_call 41; refine (specIn n 1 100 _).mono ?_; rw [show inB n 1 100 = lpsOk n from rfl]; rintro e w1 ⟨rfl, rfl⟩) | (go_at_call 49; refine (common_any (n * l) s (by omega) (by omega) (by omega) (by omega) _).mono ?_; rintro e w1 ⟨rfl, hb⟩; have hc := (bcell hb).1; have hf := (bcell hb).2; have hz : w.heap.size ≤ w1.heap.size := (by have := hb.size; (try simp at this); omega); have hz0 : w.heap.size < w1.heap.size := (by have := hb.size; (try simp at this); omega); have hcA0 := fun o => (bcell hb).1 (w.heap.size) o (by first | omega | (simp; omega) | (simp; done)); have hfA0 := fun o => (bcell hb).2 (w.heap.size) o (by first | omega | (simp; omega) | (simp; done))) | go_in))
    all_goals (go_ret3; refine ⟨rII ?_ ?_ ?_, ?_⟩)
    all_goals first | (simp [hv, ht, ifI, lwN, lwD]; done) | (repeat (first | exact Below.refl _ _ | refine Below.drew ?_ | refine below_drewN ?_ _ | refine Below.setCell ?_ (by first | omega | (simp; done) | (simp; omega)) _ | refine Below.alloc ?_ (by first | omega | (simp; done) | (simp; omega)) _ | refine bchain ?_ (by assumption) (by first | omega | (simp; done) | (simp; omega))))
  all_goals
    go_enter Try.func25, Try.ntmps25
    go_wp2_with (first | (go_at_call 48; refine (trRunner_any _ _ _ _).mono ?_; rintro e w1 ⟨rfl, hb⟩; have hc := (bcell hb).1; have hf := (bcell hb).2; have hz : w.heap.size ≤ w1.heap.size := (by have := hb.size; (try simp at this); omega); have hz0 : w.heap.size < w1.heap.size := (by have := hb.size; (try simp at this); omega); have hcA0 := fun o => (bcell hb).1 (w.heap.size) o (by first | omega | (simp; omega) | (simp; done)); have hfA0 := fun o => (bcell hb).2 (w.heap.size) o (by first | omega | (simp; omega) | (simp; done))) | (go_at_call 41; refine (specIn n 1 100 _).mono ?_; rw [show inB n 1 100 = lpsOk n from rfl]; rintro e w1 ⟨rfl, rfl⟩) | go_in)
    all_goals (go_ret3; refine ⟨rII ?_ ?_ ?_, ?_⟩)
    all_goals first | (simp [hv, ht, ifI]; done) | (repeat (first | exact Below.refl _ _ | refine Below.drew ?_ | refine below_drewN ?_ _ | refine Below.setCell ?_ (by first | omega | (simp; done) | (simp; omega)) _ | refine Below.alloc ?_ (by first | omega | (simp; done) | (simp; omega)) _ | refine bchain ?_ (by assumption) (by first | omega | (simp; done) | (simp; omega))))
set_option maxHeartbeats 2000000 in
theorem implLeadBetween (l p s q r t : Int) (w : World) :
    Calls Try.prog 11 #[.int .i64 l, .agg #[.int .i64 p, .int .i64 s], .agg #[.int .i64 q, .int .i64 r], .int .i64 t] w fun e w' => e = .returned (.tuple #[.int .i64 (ifI (rn2 l p s q r && rtOk t) (fr p s t - fr q r t)), .bool (rn2 l p s q r && rtOk t)]) ∧ Below w.heap.size w w' := by
  cases hv : rn2 l p s q r <;> cases ht : rtOk t
  case true.true =>
    have rr := rn2_iff.1 hv
    have l1 := rr.1
    have l2 := rr.2.1
    have p1 := rr.2.2.1
    have p2 := rr.2.2.2.1
    have s1 := rr.2.2.2.2.1
    have s2 := rr.2.2.2.2.2.1
    have q1 := rr.2.2.2.2.2.2.1
    have q2 := rr.2.2.2.2.2.2.2.1
    have r1 := rr.2.2.2.2.2.2.2.2.1
    have r2 := rr.2.2.2.2.2.2.2.2.2
    clear rr
    have k1 := (rtOk_iff.1 ht).1
    have k2 := (rtOk_iff.1 ht).2
    have m2 := fr_bd p1 (show p ≤ 1000 by omega) (show 0 ≤ s by omega) s2 k1 k2
    have m3 := fr_bd q1 (show q ≤ 1000 by omega) (show 0 ≤ r by omega) r2 k1 k2
    go_enter Try.func11, Try.ntmps11
    go_wp2_with (first | (go_at_call 36; refine (twoRunners_any _ _ _ _ _ _).mono ?_; rintro e w1 ⟨rfl, hb⟩; have hc := (bcell hb).1; have hf := (bcell hb).2; have hz : w.heap.size ≤ w1.heap.size := (by have := hb.size; (try simp at this); omega); have hz0 : w.heap.size < w1.heap.size := (by have := hb.size; (try simp at this); omega); have hcA0 := fun o => (bcell hb).1 (w.heap.size) o (by first | omega | (simp; omega) | (simp; done)); have hfA0 := fun o => (bcell hb).2 (w.heap.size) o (by first | omega | (simp; omega) | (simp; done)); have hz1 : w.heap.size + 1 < w1.heap.size := (by have := hb.size; (try simp at this); omega); have hcA1 := fun o => (bcell hb).1 (w.heap.size + 1) o (by first | omega | (simp; omega) | (simp; done)); have hfA1 := fun o => (bcell hb).2 (w.heap.size + 1) o (by first | omega | (simp; omega) | (simp; done))) | (go_at_call 37; refine (isRunTime_any _ _).mono ?_; rintro e w1 ⟨rfl, rfl⟩) | (go_at_call 42; refine (toldLaps_any _ _).mono ?_; rintro e w1 ⟨rfl, rfl⟩))
    have w1 : IntKind.i64.wrap (fr p s (t) - fr q r (t)) = fr p s (t) - fr q r (t) := IntWalk.i64_in _ (by omega)
    go_region_held3 (fun w' => Below w.heap.size w w' ∧ w.heap.size < w'.heap.size ∧ w.heap.size + 1 < w'.heap.size ∧ w'.cell? ⟨w.heap.size, 0, none⟩ = some (.int .i64 p) ∧ w'.cell? ⟨w.heap.size, 1, none⟩ = some (.int .i64 s) ∧ w'.cell? ⟨w.heap.size + 1, 0, none⟩ = some (.int .i64 q) ∧ w'.cell? ⟨w.heap.size + 1, 1, none⟩ = some (.int .i64 r))
      (refine ⟨?_, ?_, ?_, ?_, ?_, ?_, ?_⟩ <;> first | assumption | omega | (go_simp; done) | (repeat (first | exact Below.refl _ _ | refine Below.drew ?_ | refine below_drewN ?_ _ | refine Below.setCell ?_ (by first | omega | (simp; done) | (simp; omega)) _ | refine Below.alloc ?_ (by first | omega | (simp; done) | (simp; omega)) _ | refine bchain ?_ (by assumption) (by first | omega | (simp; done) | (simp; omega)))))
      (first | (go_at_call_of 38 (Value.agg #[.int .i64 p, .int .i64 s]); refine (farAt_any p s (t) (by omega) (by omega) (by omega) (by omega) (by omega) (by omega) _).mono ?_; rintro e w1 ⟨rfl, hb⟩; have hc := (bcell hb).1; have hf := (bcell hb).2; have hz : w.heap.size ≤ w1.heap.size := (by have := hb.size; (try simp at this); omega); have hz0 : w.heap.size < w1.heap.size := (by have := hb.size; (try simp at this); omega); have hcA0 := fun o => (bcell hb).1 (w.heap.size) o (by first | omega | (simp; omega) | (simp; done)); have hfA0 := fun o => (bcell hb).2 (w.heap.size) o (by first | omega | (simp; omega) | (simp; done)); have hz1 : w.heap.size + 1 < w1.heap.size := (by have := hb.size; (try simp at this); omega); have hcA1 := fun o => (bcell hb).1 (w.heap.size + 1) o (by first | omega | (simp; omega) | (simp; done)); have hfA1 := fun o => (bcell hb).2 (w.heap.size + 1) o (by first | omega | (simp; omega) | (simp; done))) | (go_at_call_of 38 (Value.agg #[.int .i64 q, .int .i64 r]); refine (farAt_any q r (t) (by omega) (by omega) (by omega) (by omega) (by omega) (by omega) _).mono ?_; rintro e w1 ⟨rfl, hb⟩; have hc := (bcell hb).1; have hf := (bcell hb).2; have hz : w.heap.size ≤ w1.heap.size := (by have := hb.size; (try simp at this); omega); have hz0 : w.heap.size < w1.heap.size := (by have := hb.size; (try simp at this); omega); have hcA0 := fun o => (bcell hb).1 (w.heap.size) o (by first | omega | (simp; omega) | (simp; done)); have hfA0 := fun o => (bcell hb).2 (w.heap.size) o (by first | omega | (simp; omega) | (simp; done)); have hz1 : w.heap.size + 1 < w1.heap.size := (by have := hb.size; (try simp at this); omega); have hcA1 := fun o => (bcell hb).1 (w.heap.size + 1) o (by first | omega | (simp; omega) | (simp; done)); have hfA1 := fun o => (bcell hb).2 (w.heap.size + 1) o (by first | omega | (simp; omega) | (simp; done))))
    all_goals go_wp2_with fail
    rename_i hHeld
    have B0 := hHeld.1
    go_ret2
    refine ⟨rIB ?_ ?_, B0⟩
    · first | (simp [hv, ht, ifI]; done) | (unfold haV; rw [HZ.out]; rfl)
    · first | rfl | exact HZ.out.symm
  all_goals
    go_enter Try.func11, Try.ntmps11
    go_wp2_with (first | (go_at_call 36; refine (twoRunners_any _ _ _ _ _ _).mono ?_; rintro e w1 ⟨rfl, hb⟩; have hc := (bcell hb).1; have hf := (bcell hb).2; have hz : w.heap.size ≤ w1.heap.size := (by have := hb.size; (try simp at this); omega); have hz0 : w.heap.size < w1.heap.size := (by have := hb.size; (try simp at this); omega); have hcA0 := fun o => (bcell hb).1 (w.heap.size) o (by first | omega | (simp; omega) | (simp; done)); have hfA0 := fun o => (bcell hb).2 (w.heap.size) o (by first | omega | (simp; omega) | (simp; done)); have hz1 : w.heap.size + 1 < w1.heap.size := (by have := hb.size; (try simp at this); omega); have hcA1 := fun o => (bcell hb).1 (w.heap.size + 1) o (by first | omega | (simp; omega) | (simp; done)); have hfA1 := fun o => (bcell hb).2 (w.heap.size + 1) o (by first | omega | (simp; omega) | (simp; done))) | (go_at_call 37; refine (isRunTime_any _ _).mono ?_; rintro e w1 ⟨rfl, rfl⟩) | go_in)
    all_goals (go_ret2; refine ⟨rIB ?_ ?_, ?_⟩)
    all_goals first | (simp [hv, ht, ifI]; done) | (repeat (first | exact Below.refl _ _ | refine Below.drew ?_ | refine below_drewN ?_ _ | refine Below.setCell ?_ (by first | omega | (simp; done) | (simp; omega)) _ | refine Below.alloc ?_ (by first | omega | (simp; done) | (simp; omega)) _ | refine bchain ?_ (by assumption) (by first | omega | (simp; done) | (simp; omega))))
set_option maxHeartbeats 2000000 in
theorem implCountOvertakings (l p s q r t : Int) (w : World) :
    Calls Try.prog 13 #[.int .i64 l, .agg #[.int .i64 p, .int .i64 s], .agg #[.int .i64 q, .int .i64 r], .int .i64 t] w fun e w' => e = .returned (.tuple #[.int .i64 (ifI (rn2 l p s q r && rtOk t) (ovN l p s q r t)), .bool (rn2 l p s q r && rtOk t)]) ∧ Below w.heap.size w w' := by
  cases hv : rn2 l p s q r <;> cases ht : rtOk t
  case true.true =>
    have rr := rn2_iff.1 hv
    have l1 := rr.1
    have l2 := rr.2.1
    have p1 := rr.2.2.1
    have p2 := rr.2.2.2.1
    have s1 := rr.2.2.2.2.1
    have s2 := rr.2.2.2.2.2.1
    have q1 := rr.2.2.2.2.2.2.1
    have q2 := rr.2.2.2.2.2.2.2.1
    have r1 := rr.2.2.2.2.2.2.2.2.1
    have r2 := rr.2.2.2.2.2.2.2.2.2
    clear rr
    have k1 := (rtOk_iff.1 ht).1
    have k2 := (rtOk_iff.1 ht).2
    have m1 := mul_ab (s - r) t 100 1000000 (by omega) (by omega) (by omega) k2
    have b := mo_bd (q - p) l (by omega)
    have u1 : IntKind.i64.wrap ((s - r) * t) = (s - r) * t := IntWalk.i64_in _ (by omega)
    have u2 : IntKind.i64.wrap (s - r) = s - r := IntWalk.i64_in _ (by omega)
    have u3 : IntKind.i64.wrap (q - p) = q - p := IntWalk.i64_in _ (by omega)
    by_cases hg : (s - r) * t ≤ mo (q - p) l
    case pos =>
      have HZ := Lib.hid (show ovN l p s q r t = 0 by unfold ovN; rw [if_pos hg])
      have hg2 : decide ((s - r) * t ≤ mo (q - p) l) = true := by simpa using hg
      go_enter Try.func13, Try.ntmps13
      go_wp2_with (first | (go_at_call 36; refine (twoRunners_any _ _ _ _ _ _).mono ?_; rintro e w1 ⟨rfl, hb⟩; have hc := (bcell hb).1; have hf := (bcell hb).2; have hz : w.heap.size ≤ w1.heap.size := (by have := hb.size; (try simp at this); omega); have hz0 : w.heap.size < w1.heap.size := (by have := hb.size; (try simp at this); omega); have hcA0 := fun o => (bcell hb).1 (w.heap.size) o (by first | omega | (simp; omega) | (simp; done)); have hfA0 := fun o => (bcell hb).2 (w.heap.size) o (by first | omega | (simp; omega) | (simp; done)); have hz1 : w.heap.size + 1 < w1.heap.size := (by have := hb.size; (try simp at this); omega); have hcA1 := fun o => (bcell hb).1 (w.heap.size + 1) o (by first | omega | (simp; omega) | (simp; done)); have hfA1 := fun o => (bcell hb).2 (w.heap.size + 1) o (by first | omega | (simp; omega) | (simp; done))) | (go_at_call 37; refine (isRunTime_any _ _).mono ?_; rintro e w1 ⟨rfl, rfl⟩) | go_in)
      all_goals try ((go_quiet ((go_at_call 40; exact Calls.quiet_of_same (leastRest_any (q - p) l (by omega) (by omega) (by omega) (by omega) _)))); go_wp2_with (first | (go_at_call 36; refine (twoRunners_any _ _ _ _ _ _).mono ?_; rintro e w1 ⟨rfl, hb⟩; have hc := (bcell hb).1; have hf := (bcell hb).2; have hz : w.heap.size ≤ w1.heap.size := (by have := hb.size; (try simp at this); omega); have hz0 : w.heap.size < w1.heap.size := (by have := hb.size; (try simp at this); omega); have hcA0 := fun o => (bcell hb).1 (w.heap.size) o (by first | omega | (simp; omega) | (simp; done)); have hfA0 := fun o => (bcell hb).2 (w.heap.size) o (by first | omega | (simp; omega) | (simp; done)); have hz1 : w.heap.size + 1 < w1.heap.size := (by have := hb.size; (try simp at this); omega); have hcA1 := fun o => (bcell hb).1 (w.heap.size + 1) o (by first | omega | (simp; omega) | (simp; done)); have hfA1 := fun o => (bcell hb).2 (w.heap.size + 1) o (by first | omega | (simp; omega) | (simp; done))) | (go_at_call 37; refine (isRunTime_any _ _).mono ?_; rintro e w1 ⟨rfl, rfl⟩) | go_in))
      all_goals try ((go_quiet ((go_at_call 40; exact Calls.quiet_of_same (leastRest_any (q - p) l (by omega) (by omega) (by omega) (by omega) _)))); go_wp2_with (first | (go_at_call 36; refine (twoRunners_any _ _ _ _ _ _).mono ?_; rintro e w1 ⟨rfl, hb⟩; have hc := (bcell hb).1; have hf := (bcell hb).2; have hz : w.heap.size ≤ w1.heap.size := (by have := hb.size; (try simp at this); omega); have hz0 : w.heap.size < w1.heap.size := (by have := hb.size; (try simp at this); omega); have hcA0 := fun o => (bcell hb).1 (w.heap.size) o (by first | omega | (simp; omega) | (simp; done)); have hfA0 := fun o => (bcell hb).2 (w.heap.size) o (by first | omega | (simp; omega) | (simp; done)); have hz1 : w.heap.size + 1 < w1.heap.size := (by have := hb.size; (try simp at this); omega); have hcA1 := fun o => (bcell hb).1 (w.heap.size + 1) o (by first | omega | (simp; omega) | (simp; done)); have hfA1 := fun o => (bcell hb).2 (w.heap.size + 1) o (by first | omega | (simp; omega) | (simp; done))) | (go_at_call 37; refine (isRunTime_any _ _).mono ?_; rintro e w1 ⟨rfl, rfl⟩) | go_in))
      all_goals try ((go_quiet ((go_at_call 40; exact Calls.quiet_of_same (leastRest_any (q - p) l (by omega) (by omega) (by omega) (by omega) _)))); go_wp2_with (first | (go_at_call 36; refine (twoRunners_any _ _ _ _ _ _).mono ?_; rintro e w1 ⟨rfl, hb⟩; have hc := (bcell hb).1; have hf := (bcell hb).2; have hz : w.heap.size ≤ w1.heap.size := (by have := hb.size; (try simp at this); omega); have hz0 : w.heap.size < w1.heap.size := (by have := hb.size; (try simp at this); omega); have hcA0 := fun o => (bcell hb).1 (w.heap.size) o (by first | omega | (simp; omega) | (simp; done)); have hfA0 := fun o => (bcell hb).2 (w.heap.size) o (by first | omega | (simp; omega) | (simp; done)); have hz1 : w.heap.size + 1 < w1.heap.size := (by have := hb.size; (try simp at this); omega); have hcA1 := fun o => (bcell hb).1 (w.heap.size + 1) o (by first | omega | (simp; omega) | (simp; done)); have hfA1 := fun o => (bcell hb).2 (w.heap.size + 1) o (by first | omega | (simp; omega) | (simp; done))) | (go_at_call 37; refine (isRunTime_any _ _).mono ?_; rintro e w1 ⟨rfl, rfl⟩) | go_in))
      all_goals (go_ret2; refine ⟨rIB ?_ ?_, ?_⟩)
      all_goals first | (simp [hv, ht, ifI]; exact HZ.out.symm) | rfl | (repeat (first | exact Below.refl _ _ | refine Below.drew ?_ | refine below_drewN ?_ _ | refine Below.setCell ?_ (by first | omega | (simp; done) | (simp; omega)) _ | refine Below.alloc ?_ (by first | omega | (simp; done) | (simp; omega)) _ | refine bchain ?_ (by assumption) (by first | omega | (simp; done) | (simp; omega))))
    case neg =>
      have HZ := Lib.hid (show ovN l p s q r t = ((s - r) * t - mo (q - p) l - 1) / l + 1 by unfold ovN; rw [if_neg hg])
      have e1 := Int.ediv_le_self l (show 0 ≤ (s - r) * t - mo (q - p) l - 1 by omega)
      have e2 := Int.ediv_nonneg (show 0 ≤ (s - r) * t - mo (q - p) l - 1 by omega) (show 0 ≤ l by omega)
      have eM : ((s - r) * t - mo (q - p) l - 1).tdiv l = ((s - r) * t - mo (q - p) l - 1) / l := Int.tdiv_eq_ediv_of_nonneg (by omega)
      have eW : IntKind.i64.wrap (((s - r) * t - mo (q - p) l - 1) / l) = ((s - r) * t - mo (q - p) l - 1) / l := IntWalk.i64_in _ (by omega)
      go_enter Try.func13, Try.ntmps13
      go_wp2_with (first | (go_at_call 36; refine (twoRunners_any _ _ _ _ _ _).mono ?_; rintro e w1 ⟨rfl, hb⟩; have hc := (bcell hb).1; have hf := (bcell hb).2; have hz : w.heap.size ≤ w1.heap.size := (by have := hb.size; (try simp at this); omega); have hz0 : w.heap.size < w1.heap.size := (by have := hb.size; (try simp at this); omega); have hcA0 := fun o => (bcell hb).1 (w.heap.size) o (by first | omega | (simp; omega) | (simp; done)); have hfA0 := fun o => (bcell hb).2 (w.heap.size) o (by first | omega | (simp; omega) | (simp; done)); have hz1 : w.heap.size + 1 < w1.heap.size := (by have := hb.size; (try simp at this); omega); have hcA1 := fun o => (bcell hb).1 (w.heap.size + 1) o (by first | omega | (simp; omega) | (simp; done)); have hfA1 := fun o => (bcell hb).2 (w.heap.size + 1) o (by first | omega | (simp; omega) | (simp; done))) | (go_at_call 37; refine (isRunTime_any _ _).mono ?_; rintro e w1 ⟨rfl, rfl⟩) | go_in)
      all_goals try ((go_quiet ((go_at_call 40; exact Calls.quiet_of_same (leastRest_any (q - p) l (by omega) (by omega) (by omega) (by omega) _)))); go_wp2_with (first | (go_at_call 36; refine (twoRunners_any _ _ _ _ _ _).mono ?_; rintro e w1 ⟨rfl, hb⟩; have hc := (bcell hb).1; have hf := (bcell hb).2; have hz : w.heap.size ≤ w1.heap.size := (by have := hb.size; (try simp at this); omega); have hz0 : w.heap.size < w1.heap.size := (by have := hb.size; (try simp at this); omega); have hcA0 := fun o => (bcell hb).1 (w.heap.size) o (by first | omega | (simp; omega) | (simp; done)); have hfA0 := fun o => (bcell hb).2 (w.heap.size) o (by first | omega | (simp; omega) | (simp; done)); have hz1 : w.heap.size + 1 < w1.heap.size := (by have := hb.size; (try simp at this); omega); have hcA1 := fun o => (bcell hb).1 (w.heap.size + 1) o (by first | omega | (simp; omega) | (simp; done)); have hfA1 := fun o => (bcell hb).2 (w.heap.size + 1) o (by first | omega | (simp; omega) | (simp; done))) | (go_at_call 37; refine (isRunTime_any _ _).mono ?_; rintro e w1 ⟨rfl, rfl⟩) | go_in))
      all_goals try ((go_quiet ((go_at_call 40; exact Calls.quiet_of_same (leastRest_any (q - p) l (by omega) (by omega) (by omega) (by omega) _)))); go_wp2_with (first | (go_at_call 36; refine (twoRunners_any _ _ _ _ _ _).mono ?_; rintro e w1 ⟨rfl, hb⟩; have hc := (bcell hb).1; have hf := (bcell hb).2; have hz : w.heap.size ≤ w1.heap.size := (by have := hb.size; (try simp at this); omega); have hz0 : w.heap.size < w1.heap.size := (by have := hb.size; (try simp at this); omega); have hcA0 := fun o => (bcell hb).1 (w.heap.size) o (by first | omega | (simp; omega) | (simp; done)); have hfA0 := fun o => (bcell hb).2 (w.heap.size) o (by first | omega | (simp; omega) | (simp; done)); have hz1 : w.heap.size + 1 < w1.heap.size := (by have := hb.size; (try simp at this); omega); have hcA1 := fun o => (bcell hb).1 (w.heap.size + 1) o (by first | omega | (simp; omega) | (simp; done)); have hfA1 := fun o => (bcell hb).2 (w.heap.size + 1) o (by first | omega | (simp; omega) | (simp; done))) | (go_at_call 37; refine (isRunTime_any _ _).mono ?_; rintro e w1 ⟨rfl, rfl⟩) | go_in))
      all_goals try ((go_quiet ((go_at_call 40; exact Calls.quiet_of_same (leastRest_any (q - p) l (by omega) (by omega) (by omega) (by omega) _)))); go_wp2_with (first | (go_at_call 36; refine (twoRunners_any _ _ _ _ _ _).mono ?_; rintro e w1 ⟨rfl, hb⟩; have hc := (bcell hb).1; have hf := (bcell hb).2; have hz : w.heap.size ≤ w1.heap.size := (by have := hb.size; (try simp at this); omega); have hz0 : w.heap.size < w1.heap.size := (by have := hb.size; (try simp at this); omega); have hcA0 := fun o => (bcell hb).1 (w.heap.size) o (by first | omega | (simp; omega) | (simp; done)); have hfA0 := fun o => (bcell hb).2 (w.heap.size) o (by first | omega | (simp; omega) | (simp; done)); have hz1 : w.heap.size + 1 < w1.heap.size := (by have := hb.size; (try simp at this); omega); have hcA1 := fun o => (bcell hb).1 (w.heap.size + 1) o (by first | omega | (simp; omega) | (simp; done)); have hfA1 := fun o => (bcell hb).2 (w.heap.size + 1) o (by first | omega | (simp; omega) | (simp; done))) | (go_at_call 37; refine (isRunTime_any _ _).mono ?_; rintro e w1 ⟨rfl, rfl⟩) | go_in))
      all_goals try ((go_quiet ((go_at_call 40; exact Calls.quiet_of_same (leastRest_any (q - p) l (by omega) (by omega) (by omega) (by omega) _)))); go_wp2_with (first | (go_at_call 36; refine (twoRunners_any _ _ _ _ _ _).mono ?_; rintro e w1 ⟨rfl, hb⟩; have hc := (bcell hb).1; have hf := (bcell hb).2; have hz : w.heap.size ≤ w1.heap.size := (by have := hb.size; (try simp at this); omega); have hz0 : w.heap.size < w1.heap.size := (by have := hb.size; (try simp at this); omega); have hcA0 := fun o => (bcell hb).1 (w.heap.size) o (by first | omega | (simp; omega) | (simp; done)); have hfA0 := fun o => (bcell hb).2 (w.heap.size) o (by first | omega | (simp; omega) | (simp; done)); have hz1 : w.heap.size + 1 < w1.heap.size := (by have := hb.size; (try simp at this); omega); have hcA1 := fun o => (bcell hb).1 (w.heap.size + 1) o (by first | omega | (simp; omega) | (simp; done)); have hfA1 := fun o => (bcell hb).2 (w.heap.size + 1) o (by first | omega | (simp; omega) | (simp; done))) | (go_at_call 37; refine (isRunTime_any _ _).mono ?_; rintro e w1 ⟨rfl, rfl⟩) | go_in))
      all_goals (go_ret2; refine ⟨rIB ?_ ?_, ?_⟩)
      all_goals first | (simp [hv, ht, ifI]; exact HZ.out.symm) | rfl | (repeat (first | exact Below.refl _ _ | refine Below.drew ?_ | refine below_drewN ?_ _ | refine Below.setCell ?_ (by first | omega | (simp; done) | (simp; omega)) _ | refine Below.alloc ?_ (by first | omega | (simp; done) | (simp; omega)) _ | refine bchain ?_ (by assumption) (by first | omega | (simp; done) | (simp; omega))))
  all_goals
    go_enter Try.func13, Try.ntmps13
    go_wp2_with (first | (go_at_call 36; refine (twoRunners_any _ _ _ _ _ _).mono ?_; rintro e w1 ⟨rfl, hb⟩; have hc := (bcell hb).1; have hf := (bcell hb).2; have hz : w.heap.size ≤ w1.heap.size := (by have := hb.size; (try simp at this); omega); have hz0 : w.heap.size < w1.heap.size := (by have := hb.size; (try simp at this); omega); have hcA0 := fun o => (bcell hb).1 (w.heap.size) o (by first | omega | (simp; omega) | (simp; done)); have hfA0 := fun o => (bcell hb).2 (w.heap.size) o (by first | omega | (simp; omega) | (simp; done)); have hz1 : w.heap.size + 1 < w1.heap.size := (by have := hb.size; (try simp at this); omega); have hcA1 := fun o => (bcell hb).1 (w.heap.size + 1) o (by first | omega | (simp; omega) | (simp; done)); have hfA1 := fun o => (bcell hb).2 (w.heap.size + 1) o (by first | omega | (simp; omega) | (simp; done))) | (go_at_call 37; refine (isRunTime_any _ _).mono ?_; rintro e w1 ⟨rfl, rfl⟩) | go_in)
    all_goals (go_ret2; refine ⟨rIB ?_ ?_, ?_⟩)
    all_goals first | (simp [hv, ht, ifI]; done) | (repeat (first | exact Below.refl _ _ | refine Below.drew ?_ | refine below_drewN ?_ _ | refine Below.setCell ?_ (by first | omega | (simp; done) | (simp; omega)) _ | refine Below.alloc ?_ (by first | omega | (simp; done) | (simp; omega)) _ | refine bchain ?_ (by assumption) (by first | omega | (simp; done) | (simp; omega))))
set_option maxHeartbeats 2000000 in
theorem implHandicapFor (l p s q r n : Int) (w : World) :
    Calls Try.prog 15 #[.int .i64 l, .agg #[.int .i64 p, .int .i64 s], .agg #[.int .i64 q, .int .i64 r], .int .i64 n] w fun e w' => e = .returned (.tuple #[.int .i64 (haV l p s q r n), .bool (haB l p s q r n)]) ∧ Below w.heap.size w w' := by
  cases hv : rn2 l p s q r <;> cases ht : lpsOk n
  case true.true =>
    have rr := rn2_iff.1 hv
    have l1 := rr.1
    have l2 := rr.2.1
    have p1 := rr.2.2.1
    have p2 := rr.2.2.2.1
    have s1 := rr.2.2.2.2.1
    have s2 := rr.2.2.2.2.2.1
    have q1 := rr.2.2.2.2.2.2.1
    have q2 := rr.2.2.2.2.2.2.2.1
    have r1 := rr.2.2.2.2.2.2.2.2.1
    have r2 := rr.2.2.2.2.2.2.2.2.2
    clear rr
    have k1 := (lpsOk_iff.1 ht).1
    have k2 := (lpsOk_iff.1 ht).2
    have m1 := mul_bd n l 100 1000 (by omega) k2 (by omega) l2
    have x1 := Int.emod_nonneg (n * l) (show s ≠ 0 by omega)
    have x2 := Int.emod_lt_of_pos (n * l) (show 0 < s by omega)
    have eM : (n * l).tmod s = n * l % s := Int.tmod_eq_emod_of_nonneg (by omega)
    have eW : IntKind.i64.wrap (n * l % s) = n * l % s := IntWalk.i64_in _ (by omega)
    have u1 : IntKind.i64.wrap (n * l) = n * l := IntWalk.i64_in _ (by omega)
    by_cases hg : n * l % s = 0
    case pos =>
      have HZ := Lib.hid (show haB l p s q r n = true by simp [haB, hv, ht, hg])
      have hg2 : (n * l % s == 0) = true := by simpa using hg
      have d1 := Int.ediv_le_self s (show 0 ≤ n * l by omega)
      have d2 := Int.ediv_nonneg (show 0 ≤ n * l by omega) (show 0 ≤ s by omega)
      have eD : (n * l).tdiv s = n * l / s := Int.tdiv_eq_ediv_of_nonneg (by omega)
      have eV : IntKind.i64.wrap (n * l / s) = n * l / s := IntWalk.i64_in _ (by omega)
      have m2 := fr_bd p1 (show p ≤ 1000 by omega) (show 0 ≤ s by omega) s2 d2 (show n * l / s ≤ 1000000 by omega)
      have m3 := fr_bd q1 (show q ≤ 1000 by omega) (show 0 ≤ r by omega) r2 d2 (show n * l / s ≤ 1000000 by omega)
      go_enter Try.func15, Try.ntmps15
      go_wp2_with (first | (go_at_call 36; refine (twoRunners_any _ _ _ _ _ _).mono ?_; rintro e w1 ⟨rfl, hb⟩; have hc := (bcell hb).1; have hf := (bcell hb).2; have hz : w.heap.size ≤ w1.heap.size := (by have := hb.size; (try simp at this); omega); have hz0 : w.heap.size < w1.heap.size := (by have := hb.size; (try simp at this); omega); have hcA0 := fun o => (bcell hb).1 (w.heap.size) o (by first | omega | (simp; omega) | (simp; done)); have hfA0 := fun o => (bcell hb).2 (w.heap.size) o (by first | omega | (simp; omega) | (simp; done)); have hz1 : w.heap.size + 1 < w1.heap.size := (by have := hb.size; (try simp at this); omega); have hcA1 := fun o => (bcell hb).1 (w.heap.size + 1) o (by first | omega | (simp; omega) | (simp; done)); have hfA1 := fun o => (bcell hb).2 (w.heap.size + 1) o (by first | omega | (simp; omega) | (simp; done))) | (go_at_call 37; refine (isRunTime_any _ _).mono ?_; rintro e w1 ⟨rfl, rfl⟩) | (go_at_call 42; refine (toldLaps_any _ _).mono ?_; rintro e w1 ⟨rfl, rfl⟩))
      have w1 : IntKind.i64.wrap (fr p s (n * l / s) - fr q r (n * l / s)) = fr p s (n * l / s) - fr q r (n * l / s) := IntWalk.i64_in _ (by omega)
      all_goals try (go_quiet (fail); go_wp2_with fail)
      go_region_held3 (fun w' => Below w.heap.size w w' ∧ w.heap.size < w'.heap.size ∧ w.heap.size + 1 < w'.heap.size ∧ w'.cell? ⟨w.heap.size, 0, none⟩ = some (.int .i64 p) ∧ w'.cell? ⟨w.heap.size, 1, none⟩ = some (.int .i64 s) ∧ w'.cell? ⟨w.heap.size + 1, 0, none⟩ = some (.int .i64 q) ∧ w'.cell? ⟨w.heap.size + 1, 1, none⟩ = some (.int .i64 r))
        (refine ⟨?_, ?_, ?_, ?_, ?_, ?_, ?_⟩ <;> first | assumption | omega | (go_simp; done) | (repeat (first | exact Below.refl _ _ | refine Below.drew ?_ | refine below_drewN ?_ _ | refine Below.setCell ?_ (by first | omega | (simp; done) | (simp; omega)) _ | refine Below.alloc ?_ (by first | omega | (simp; done) | (simp; omega)) _ | refine bchain ?_ (by assumption) (by first | omega | (simp; done) | (simp; omega)))))
        (first | (go_at_call_of 38 (Value.agg #[.int .i64 p, .int .i64 s]); refine (farAt_any p s (n * l / s) (by omega) (by omega) (by omega) (by omega) (by omega) (by omega) _).mono ?_; rintro e w1 ⟨rfl, hb⟩; have hc := (bcell hb).1; have hf := (bcell hb).2; have hz : w.heap.size ≤ w1.heap.size := (by have := hb.size; (try simp at this); omega); have hz0 : w.heap.size < w1.heap.size := (by have := hb.size; (try simp at this); omega); have hcA0 := fun o => (bcell hb).1 (w.heap.size) o (by first | omega | (simp; omega) | (simp; done)); have hfA0 := fun o => (bcell hb).2 (w.heap.size) o (by first | omega | (simp; omega) | (simp; done)); have hz1 : w.heap.size + 1 < w1.heap.size := (by have := hb.size; (try simp at this); omega); have hcA1 := fun o => (bcell hb).1 (w.heap.size + 1) o (by first | omega | (simp; omega) | (simp; done)); have hfA1 := fun o => (bcell hb).2 (w.heap.size + 1) o (by first | omega | (simp; omega) | (simp; done))) | (go_at_call_of 38 (Value.agg #[.int .i64 q, .int .i64 r]); refine (farAt_any q r (n * l / s) (by omega) (by omega) (by omega) (by omega) (by omega) (by omega) _).mono ?_; rintro e w1 ⟨rfl, hb⟩; have hc := (bcell hb).1; have hf := (bcell hb).2; have hz : w.heap.size ≤ w1.heap.size := (by have := hb.size; (try simp at this); omega); have hz0 : w.heap.size < w1.heap.size := (by have := hb.size; (try simp at this); omega); have hcA0 := fun o => (bcell hb).1 (w.heap.size) o (by first | omega | (simp; omega) | (simp; done)); have hfA0 := fun o => (bcell hb).2 (w.heap.size) o (by first | omega | (simp; omega) | (simp; done)); have hz1 : w.heap.size + 1 < w1.heap.size := (by have := hb.size; (try simp at this); omega); have hcA1 := fun o => (bcell hb).1 (w.heap.size + 1) o (by first | omega | (simp; omega) | (simp; done)); have hfA1 := fun o => (bcell hb).2 (w.heap.size + 1) o (by first | omega | (simp; omega) | (simp; done))))
      all_goals go_wp2_with fail
      rename_i hHeld
      have B0 := hHeld.1
      go_ret2
      refine ⟨rIB ?_ ?_, B0⟩
      · first | (simp [hv, ht, ifI]; done) | (unfold haV; rw [HZ.out]; rfl)
      · first | rfl | exact HZ.out.symm
    case neg =>
      have HZ := Lib.hid (show haB l p s q r n = false by simp [haB, hg])
      have hg2 : (n * l % s == 0) = false := by simpa using hg
      go_enter Try.func15, Try.ntmps15
      go_wp2_with (first | (go_at_call 36; refine (twoRunners_any _ _ _ _ _ _).mono ?_; rintro e w1 ⟨rfl, hb⟩; have hc := (bcell hb).1; have hf := (bcell hb).2; have hz : w.heap.size ≤ w1.heap.size := (by have := hb.size; (try simp at this); omega); have hz0 : w.heap.size < w1.heap.size := (by have := hb.size; (try simp at this); omega); have hcA0 := fun o => (bcell hb).1 (w.heap.size) o (by first | omega | (simp; omega) | (simp; done)); have hfA0 := fun o => (bcell hb).2 (w.heap.size) o (by first | omega | (simp; omega) | (simp; done)); have hz1 : w.heap.size + 1 < w1.heap.size := (by have := hb.size; (try simp at this); omega); have hcA1 := fun o => (bcell hb).1 (w.heap.size + 1) o (by first | omega | (simp; omega) | (simp; done)); have hfA1 := fun o => (bcell hb).2 (w.heap.size + 1) o (by first | omega | (simp; omega) | (simp; done))) | (go_at_call 42; refine (toldLaps_any _ _).mono ?_; rintro e w1 ⟨rfl, rfl⟩) | go_in)
      all_goals try ((go_quiet (fail)); go_wp2_with (first | (go_at_call 36; refine (twoRunners_any _ _ _ _ _ _).mono ?_; rintro e w1 ⟨rfl, hb⟩; have hc := (bcell hb).1; have hf := (bcell hb).2; have hz : w.heap.size ≤ w1.heap.size := (by have := hb.size; (try simp at this); omega); have hz0 : w.heap.size < w1.heap.size := (by have := hb.size; (try simp at this); omega); have hcA0 := fun o => (bcell hb).1 (w.heap.size) o (by first | omega | (simp; omega) | (simp; done)); have hfA0 := fun o => (bcell hb).2 (w.heap.size) o (by first | omega | (simp; omega) | (simp; done)); have hz1 : w.heap.size + 1 < w1.heap.size := (by have := hb.size; (try simp at this); omega); have hcA1 := fun o => (bcell hb).1 (w.heap.size + 1) o (by first | omega | (simp; omega) | (simp; done)); have hfA1 := fun o => (bcell hb).2 (w.heap.size + 1) o (by first | omega | (simp; omega) | (simp; done))) | (go_at_call 42; refine (toldLaps_any _ _).mono ?_; rintro e w1 ⟨rfl, rfl⟩) | go_in))
      all_goals try ((go_quiet (fail)); go_wp2_with (first | (go_at_call 36; refine (twoRunners_any _ _ _ _ _ _).mono ?_; rintro e w1 ⟨rfl, hb⟩; have hc := (bcell hb).1; have hf := (bcell hb).2; have hz : w.heap.size ≤ w1.heap.size := (by have := hb.size; (try simp at this); omega); have hz0 : w.heap.size < w1.heap.size := (by have := hb.size; (try simp at this); omega); have hcA0 := fun o => (bcell hb).1 (w.heap.size) o (by first | omega | (simp; omega) | (simp; done)); have hfA0 := fun o => (bcell hb).2 (w.heap.size) o (by first | omega | (simp; omega) | (simp; done)); have hz1 : w.heap.size + 1 < w1.heap.size := (by have := hb.size; (try simp at this); omega); have hcA1 := fun o => (bcell hb).1 (w.heap.size + 1) o (by first | omega | (simp; omega) | (simp; done)); have hfA1 := fun o => (bcell hb).2 (w.heap.size + 1) o (by first | omega | (simp; omega) | (simp; done))) | (go_at_call 42; refine (toldLaps_any _ _).mono ?_; rintro e w1 ⟨rfl, rfl⟩) | go_in))
      all_goals try ((go_quiet (fail)); go_wp2_with (first | (go_at_call 36; refine (twoRunners_any _ _ _ _ _ _).mono ?_; rintro e w1 ⟨rfl, hb⟩; have hc := (bcell hb).1; have hf := (bcell hb).2; have hz : w.heap.size ≤ w1.heap.size := (by have := hb.size; (try simp at this); omega); have hz0 : w.heap.size < w1.heap.size := (by have := hb.size; (try simp at this); omega); have hcA0 := fun o => (bcell hb).1 (w.heap.size) o (by first | omega | (simp; omega) | (simp; done)); have hfA0 := fun o => (bcell hb).2 (w.heap.size) o (by first | omega | (simp; omega) | (simp; done)); have hz1 : w.heap.size + 1 < w1.heap.size := (by have := hb.size; (try simp at this); omega); have hcA1 := fun o => (bcell hb).1 (w.heap.size + 1) o (by first | omega | (simp; omega) | (simp; done)); have hfA1 := fun o => (bcell hb).2 (w.heap.size + 1) o (by first | omega | (simp; omega) | (simp; done))) | (go_at_call 42; refine (toldLaps_any _ _).mono ?_; rintro e w1 ⟨rfl, rfl⟩) | go_in))
      all_goals (go_ret2; refine ⟨rIB ?_ ?_, ?_⟩)
      all_goals first | (unfold haV; rw [HZ.out]; rfl) | (exact HZ.out.symm) | (repeat (first | exact Below.refl _ _ | refine Below.drew ?_ | refine below_drewN ?_ _ | refine Below.setCell ?_ (by first | omega | (simp; done) | (simp; omega)) _ | refine Below.alloc ?_ (by first | omega | (simp; done) | (simp; omega)) _ | refine bchain ?_ (by assumption) (by first | omega | (simp; done) | (simp; omega))))
  all_goals
    go_enter Try.func15, Try.ntmps15
    go_wp2_with (first | (go_at_call 36; refine (twoRunners_any _ _ _ _ _ _).mono ?_; rintro e w1 ⟨rfl, hb⟩; have hc := (bcell hb).1; have hf := (bcell hb).2; have hz : w.heap.size ≤ w1.heap.size := (by have := hb.size; (try simp at this); omega); have hz0 : w.heap.size < w1.heap.size := (by have := hb.size; (try simp at this); omega); have hcA0 := fun o => (bcell hb).1 (w.heap.size) o (by first | omega | (simp; omega) | (simp; done)); have hfA0 := fun o => (bcell hb).2 (w.heap.size) o (by first | omega | (simp; omega) | (simp; done)); have hz1 : w.heap.size + 1 < w1.heap.size := (by have := hb.size; (try simp at this); omega); have hcA1 := fun o => (bcell hb).1 (w.heap.size + 1) o (by first | omega | (simp; omega) | (simp; done)); have hfA1 := fun o => (bcell hb).2 (w.heap.size + 1) o (by first | omega | (simp; omega) | (simp; done))) | (go_at_call 42; refine (toldLaps_any _ _).mono ?_; rintro e w1 ⟨rfl, rfl⟩) | go_in)
    all_goals (go_ret2; refine ⟨rIB ?_ ?_, ?_⟩)
    all_goals first | (simp [haV, haB, hv, ht, ifI]; done) | (repeat (first | exact Below.refl _ _ | refine Below.drew ?_ | refine below_drewN ?_ _ | refine Below.setCell ?_ (by first | omega | (simp; done) | (simp; omega)) _ | refine Below.alloc ?_ (by first | omega | (simp; done) | (simp; omega)) _ | refine bchain ?_ (by assumption) (by first | omega | (simp; done) | (simp; omega))))
set_option maxHeartbeats 2000000 in
theorem implTimeOfLaps (l p s n : Int) (w : World) :
    Calls Try.prog 26 #[.int .i64 l, .agg #[.int .i64 p, .int .i64 s], .int .i64 n] w fun e w' => e = .returned (.tuple #[.int .i64 (ifI (rn1 l p s && lpsOk n) (lwN (n * l) s)), .int .i64 (ifI (rn1 l p s && lpsOk n) (lwD (n * l) s)), .bool (rn1 l p s && lpsOk n)]) ∧ Below w.heap.size w w' := by
  cases hv : rn1 l p s <;> cases ht : lpsOk n
  case true.true =>
    have rr := rn1_iff.1 hv
    have l1 := rr.1
    have l2 := rr.2.1
    have p1 := rr.2.2.1
    have p2 := rr.2.2.2.1
    have s1 := rr.2.2.2.2.1
    have s2 := rr.2.2.2.2.2
    clear rr
    have k1 := (lpsOk_iff.1 ht).1
    have k2 := (lpsOk_iff.1 ht).2
    have m1 := mul_bd n l 100 1000 (by omega) k2 (by omega) l2
    have u1 : IntKind.i64.wrap (n * l) = n * l := IntWalk.i64_in _ (by omega)
    go_enter Try.func26, Try.ntmps26
    go_wp2_with (first | (go_at_call 50; refine (isRunner_any _ _ _ _).mono ?_; rintro e w1 ⟨rfl, hb⟩; have hc := (bcell hb).1; have hf := (bcell hb).2; have hz : w.heap.size ≤ w1.heap.size := (by have := hb.size; (try simp at this); omega); have hz0 : w.heap.size < w1.heap.size := (by have := hb.size; (try simp at this); omega); have hcA0 := fun o => (bcell hb).1 (w.heap.size) o (by first | omega | (simp; omega) | (simp; done)); have hfA0 := fun o => (bcell hb).2 (w.heap.size) o (by first | omega | (simp; omega) | (simp; done))) | (go_at_call 42; refine (toldLaps_any _ _).mono ?_; rintro e w1 ⟨rfl, rfl⟩) | (go_at_call 51; refine (lowest_any (n * l) s (by omega) (by omega) (by omega) (by omega) _).mono ?_; rintro e w1 ⟨rfl, hb⟩; have hc := (bcell hb).1; have hf := (bcell hb).2; have hz : w.heap.size ≤ w1.heap.size := (by have := hb.size; (try simp at this); omega); have hz0 : w.heap.size < w1.heap.size := (by have := hb.size; (try simp at this); omega); have hcA0 := fun o => (bcell hb).1 (w.heap.size) o (by first | omega | (simp; omega) | (simp; done)); have hfA0 := fun o => (bcell hb).2 (w.heap.size) o (by first | omega | (simp; omega) | (simp; done))) | go_in)
    all_goals try ((go_quiet (fail)); go_wp2_with (first | (go_at_call 50; refine (isRunner_any _ _ _ _).mono ?_; rintro e w1 ⟨rfl, hb⟩; have hc := (bcell hb).1; have hf := (bcell hb).2; have hz : w.heap.size ≤ w1.heap.size := (by have := hb.size; (try simp at this); omega); have hz0 : w.heap.size < w1.heap.size := (by have := hb.size; (try simp at this); omega); have hcA0 := fun o => (bcell hb).1 (w.heap.size) o (by first | omega | (simp; omega) | (simp; done)); have hfA0 := fun o => (bcell hb).2 (w.heap.size) o (by first | omega | (simp; omega) | (simp; done))) | (go_at_call 42; refine (toldLaps_any _ _).mono ?_; rintro e w1 ⟨rfl, rfl⟩) | (go_at_call 51; refine (lowest_any (n * l) s (by omega) (by omega) (by omega) (by omega) _).mono ?_; rintro e w1 ⟨rfl, hb⟩; have hc := (bcell hb).1; have hf := (bcell hb).2; have hz : w.heap.size ≤ w1.heap.size := (by have := hb.size; (try simp at this); omega); have hz0 : w.heap.size < w1.heap.size := (by have := hb.size; (try simp at this); omega); have hcA0 := fun o => (bcell hb).1 (w.heap.size) o (by first | omega | (simp; omega) | (simp; done)); have hfA0 := fun o => (bcell hb).2 (w.heap.size) o (by first | omega | (simp; omega) | (simp; done))) | go_in))
    all_goals (go_ret3; refine ⟨rII ?_ ?_ ?_, ?_⟩)
    all_goals first | (simp [hv, ht, ifI]; done) | (repeat (first | exact Below.refl _ _ | refine Below.drew ?_ | refine below_drewN ?_ _ | refine Below.setCell ?_ (by first | omega | (simp; done) | (simp; omega)) _ | refine Below.alloc ?_ (by first | omega | (simp; done) | (simp; omega)) _ | refine bchain ?_ (by assumption) (by first | omega | (simp; done) | (simp; omega))))
  all_goals
    go_enter Try.func26, Try.ntmps26
    go_wp2_with (first | (go_at_call 50; refine (isRunner_any _ _ _ _).mono ?_; rintro e w1 ⟨rfl, hb⟩; have hc := (bcell hb).1; have hf := (bcell hb).2; have hz : w.heap.size ≤ w1.heap.size := (by have := hb.size; (try simp at this); omega); have hz0 : w.heap.size < w1.heap.size := (by have := hb.size; (try simp at this); omega); have hcA0 := fun o => (bcell hb).1 (w.heap.size) o (by first | omega | (simp; omega) | (simp; done)); have hfA0 := fun o => (bcell hb).2 (w.heap.size) o (by first | omega | (simp; omega) | (simp; done))) | (go_at_call 42; refine (toldLaps_any _ _).mono ?_; rintro e w1 ⟨rfl, rfl⟩) | go_in)
    all_goals (go_ret3; refine ⟨rII ?_ ?_ ?_, ?_⟩)
    all_goals first | (simp [hv, ht, ifI]; done) | (repeat (first | exact Below.refl _ _ | refine Below.drew ?_ | refine below_drewN ?_ _ | refine Below.setCell ?_ (by first | omega | (simp; done) | (simp; omega)) _ | refine Below.alloc ?_ (by first | omega | (simp; done) | (simp; omega)) _ | refine bchain ?_ (by assumption) (by first | omega | (simp; done) | (simp; omega))))
end Go.Proofs.Yteaefmngfomhgab
