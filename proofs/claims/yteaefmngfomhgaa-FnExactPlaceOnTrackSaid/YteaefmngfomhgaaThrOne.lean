/- Functions of one or two runners by contracts, the program's and the model's. -/
import Derived.Test.YteaefmngfomhgaaProg
import Derived.Test.YteaefmngfomhgaaThrRun
import Derived.Test.YteaefmngfomhgaaTwoWalks2
import Derived.Test.YteaefmngfomhgaaAreAllR
import Derived.WalkKit
import Derived.WalkSpells
import Derived.WalkLawsBesides
import Derived.Lib.Hide
import Derived.Deep.LoopGhost
import Derived.Deep.RegionWith
import Derived.Deep.QuietTactic
import Derived.Deep.RegionHeld3
import Derived.BigQuiet
namespace Go.Proofs.Yteaefmngfomhgaa
open Go.RowKit
set_option linter.unusedVariables false
set_option linter.unusedSimpArgs false
set_option maxHeartbeats 2000000 in
theorem specPlaceOnTrack (l p s t : Int) (w : World) :
    Calls Try.prog 44 #[.int .i64 l, .agg #[.int .i64 p, .int .i64 s], .int .i64 t] w fun e w' => e = .returned (.tuple #[.int .i64 (ifI (rn1 l p s && rtOk t) (fr p s t % l)), .bool (rn1 l p s && rtOk t)]) ∧ Below w.heap.size w w' := by
  cases hv : rn1 l p s <;> cases ht : rtOk t
  case true.true =>
    have rr := rn1_iff.1 hv
    have l1 := rr.1
    have l2 := rr.2.1
    have p1 := rr.2.2.1
    have p2 := rr.2.2.2.1
    have s1 := rr.2.2.2.2.1
    have s2 := rr.2.2.2.2.2
    clear rr
    have k1 := (rtOk_iff.1 ht).1
    have k2 := (rtOk_iff.1 ht).2
    have m1 := mul_bd s t 100 1000000 (by omega) s2 k1 k2
    have m2 := fr_bd p1 (show p ≤ 1000 by omega) (show 0 ≤ s by omega) s2 k1 k2
    have e1 := Int.emod_nonneg (fr p s t) (show l ≠ 0 by omega)
    have e2 := Int.emod_lt_of_pos (fr p s t) (show 0 < l by omega)
    go_enter Try.func44, Try.ntmps44
    go_wp2_with (first | (go_at_call 91; refine (trRunner_any _ _ _ _).mono ?_; rintro e w1 ⟨rfl, hb⟩; have hc := (bcell hb).1; have hf := (bcell hb).2; have hz : w.heap.size ≤ w1.heap.size := (by have := hb.size; (try simp at this); omega); have hz0 : w.heap.size < w1.heap.size := (by have := hb.size; (try simp at this); omega); have hcA0 := fun o => (bcell hb).1 (w.heap.size) o (by first | omega | (simp; omega) | (simp; done)); have hfA0 := fun o => (bcell hb).2 (w.heap.size) o (by first | omega | (simp; omega) | (simp; done))) | (go_at_call 92; refine (trTime_any _ _).mono ?_; rintro e w1 ⟨rfl, rfl⟩) | (go_at_call 93; refine (trPlace_any l p s t (by omega) (by omega) (by omega) (by omega) (by omega) (by omega) (by omega) (by omega) _).mono ?_; rintro e w1 ⟨rfl, hb⟩; have hc := (bcell hb).1; have hf := (bcell hb).2; have hz : w.heap.size ≤ w1.heap.size := (by have := hb.size; (try simp at this); omega); have hz0 : w.heap.size < w1.heap.size := (by have := hb.size; (try simp at this); omega); have hcA0 := fun o => (bcell hb).1 (w.heap.size) o (by first | omega | (simp; omega) | (simp; done)); have hfA0 := fun o => (bcell hb).2 (w.heap.size) o (by first | omega | (simp; omega) | (simp; done))) | go_in)
    all_goals (go_ret2; refine ⟨rIB ?_ ?_, ?_⟩)
    all_goals first | (simp [hv, ht, ifI]; done) | (repeat (first | exact Below.refl _ _ | refine Below.drew ?_ | refine below_drewN ?_ _ | refine Below.setCell ?_ (by first | omega | (simp; done) | (simp; omega)) _ | refine Below.alloc ?_ (by first | omega | (simp; done) | (simp; omega)) _ | refine bchain ?_ (by assumption) (by first | omega | (simp; done) | (simp; omega))))
  all_goals
    go_enter Try.func44, Try.ntmps44
    go_wp2_with (first | (go_at_call 91; refine (trRunner_any _ _ _ _).mono ?_; rintro e w1 ⟨rfl, hb⟩; have hc := (bcell hb).1; have hf := (bcell hb).2; have hz : w.heap.size ≤ w1.heap.size := (by have := hb.size; (try simp at this); omega); have hz0 : w.heap.size < w1.heap.size := (by have := hb.size; (try simp at this); omega); have hcA0 := fun o => (bcell hb).1 (w.heap.size) o (by first | omega | (simp; omega) | (simp; done)); have hfA0 := fun o => (bcell hb).2 (w.heap.size) o (by first | omega | (simp; omega) | (simp; done))) | (go_at_call 92; refine (trTime_any _ _).mono ?_; rintro e w1 ⟨rfl, rfl⟩) | go_in)
    all_goals (go_ret2; refine ⟨rIB ?_ ?_, ?_⟩)
    all_goals first | (simp [hv, ht, ifI]; done) | (repeat (first | exact Below.refl _ _ | refine Below.drew ?_ | refine below_drewN ?_ _ | refine Below.setCell ?_ (by first | omega | (simp; done) | (simp; omega)) _ | refine Below.alloc ?_ (by first | omega | (simp; done) | (simp; omega)) _ | refine bchain ?_ (by assumption) (by first | omega | (simp; done) | (simp; omega))))
set_option maxHeartbeats 2000000 in
theorem specLapsAt (l p s t : Int) (w : World) :
    Calls Try.prog 47 #[.int .i64 l, .agg #[.int .i64 p, .int .i64 s], .int .i64 t] w fun e w' => e = .returned (.tuple #[.int .i64 (ifI (rn1 l p s && rtOk t) (s * t / l)), .bool (rn1 l p s && rtOk t)]) ∧ Below w.heap.size w w' := by
  cases hv : rn1 l p s <;> cases ht : rtOk t
  case true.true =>
    have rr := rn1_iff.1 hv
    have l1 := rr.1
    have l2 := rr.2.1
    have p1 := rr.2.2.1
    have p2 := rr.2.2.2.1
    have s1 := rr.2.2.2.2.1
    have s2 := rr.2.2.2.2.2
    clear rr
    have k1 := (rtOk_iff.1 ht).1
    have k2 := (rtOk_iff.1 ht).2
    have m1 := mul_bd s t 100 1000000 (by omega) s2 k1 k2
    have e1 := Int.ediv_le_self l (show 0 ≤ s * t by omega)
    have e2 := Int.ediv_nonneg (show 0 ≤ s * t by omega) (show 0 ≤ l by omega)
    have eM : (s * t).tdiv l = s * t / l := Int.tdiv_eq_ediv_of_nonneg (by omega)
    have eW : IntKind.i64.wrap (s * t / l) = s * t / l := IntWalk.i64_in _ (by omega)
    go_enter Try.func47, Try.ntmps47
    go_wp2_with (first | (go_at_call 91; refine (trRunner_any _ _ _ _).mono ?_; rintro e w1 ⟨rfl, hb⟩; have hc := (bcell hb).1; have hf := (bcell hb).2; have hz : w.heap.size ≤ w1.heap.size := (by have := hb.size; (try simp at this); omega); have hz0 : w.heap.size < w1.heap.size := (by have := hb.size; (try simp at this); omega); have hcA0 := fun o => (bcell hb).1 (w.heap.size) o (by first | omega | (simp; omega) | (simp; done)); have hfA0 := fun o => (bcell hb).2 (w.heap.size) o (by first | omega | (simp; omega) | (simp; done))) | (go_at_call 92; refine (trTime_any _ _).mono ?_; rintro e w1 ⟨rfl, rfl⟩) | go_in)
    all_goals try ((go_quiet (fail)); go_wp2_with (first | (go_at_call 91; refine (trRunner_any _ _ _ _).mono ?_; rintro e w1 ⟨rfl, hb⟩; have hc := (bcell hb).1; have hf := (bcell hb).2; have hz : w.heap.size ≤ w1.heap.size := (by have := hb.size; (try simp at this); omega); have hz0 : w.heap.size < w1.heap.size := (by have := hb.size; (try simp at this); omega); have hcA0 := fun o => (bcell hb).1 (w.heap.size) o (by first | omega | (simp; omega) | (simp; done)); have hfA0 := fun o => (bcell hb).2 (w.heap.size) o (by first | omega | (simp; omega) | (simp; done))) | (go_at_call 92; refine (trTime_any _ _).mono ?_; rintro e w1 ⟨rfl, rfl⟩) | go_in))
    all_goals (go_ret2; refine ⟨rIB ?_ ?_, ?_⟩)
    all_goals first | (simp [hv, ht, ifI]; done) | (repeat (first | exact Below.refl _ _ | refine Below.drew ?_ | refine below_drewN ?_ _ | refine Below.setCell ?_ (by first | omega | (simp; done) | (simp; omega)) _ | refine Below.alloc ?_ (by first | omega | (simp; done) | (simp; omega)) _ | refine bchain ?_ (by assumption) (by first | omega | (simp; done) | (simp; omega))))
  all_goals
    go_enter Try.func47, Try.ntmps47
    go_wp2_with (first | (go_at_call 91; refine (trRunner_any _ _ _ _).mono ?_; rintro e w1 ⟨rfl, hb⟩; have hc := (bcell hb).1; have hf := (bcell hb).2; have hz : w.heap.size ≤ w1.heap.size := (by have := hb.size; (try simp at this); omega); have hz0 : w.heap.size < w1.heap.size := (by have := hb.size; (try simp at this); omega); have hcA0 := fun o => (bcell hb).1 (w.heap.size) o (by first | omega | (simp; omega) | (simp; done)); have hfA0 := fun o => (bcell hb).2 (w.heap.size) o (by first | omega | (simp; omega) | (simp; done))) | (go_at_call 92; refine (trTime_any _ _).mono ?_; rintro e w1 ⟨rfl, rfl⟩) | go_in)
    all_goals (go_ret2; refine ⟨rIB ?_ ?_, ?_⟩)
    all_goals first | (simp [hv, ht, ifI]; done) | (repeat (first | exact Below.refl _ _ | refine Below.drew ?_ | refine below_drewN ?_ _ | refine Below.setCell ?_ (by first | omega | (simp; done) | (simp; omega)) _ | refine Below.alloc ?_ (by first | omega | (simp; done) | (simp; omega)) _ | refine bchain ?_ (by assumption) (by first | omega | (simp; done) | (simp; omega))))
set_option maxHeartbeats 2000000 in
theorem implPlaceOnTrack (l p s t : Int) (w : World) :
    Calls Try.prog 46 #[.int .i64 l, .agg #[.int .i64 p, .int .i64 s], .int .i64 t] w fun e w' => e = .returned (.tuple #[.int .i64 (ifI (rn1 l p s && rtOk t) (fr p s t % l)), .bool (rn1 l p s && rtOk t)]) ∧ Below w.heap.size w w' := by
  cases hv : rn1 l p s <;> cases ht : rtOk t
  case true.true =>
    have rr := rn1_iff.1 hv
    have l1 := rr.1
    have l2 := rr.2.1
    have p1 := rr.2.2.1
    have p2 := rr.2.2.2.1
    have s1 := rr.2.2.2.2.1
    have s2 := rr.2.2.2.2.2
    clear rr
    have k1 := (rtOk_iff.1 ht).1
    have k2 := (rtOk_iff.1 ht).2
    have m1 := mul_bd s t 100 1000000 (by omega) s2 k1 k2
    have m2 := fr_bd p1 (show p ≤ 1000 by omega) (show 0 ≤ s by omega) s2 k1 k2
    have e1 := Int.emod_nonneg (fr p s t) (show l ≠ 0 by omega)
    have e2 := Int.emod_lt_of_pos (fr p s t) (show 0 < l by omega)
    have eM : (fr p s t).tmod l = (fr p s t) % l := Int.tmod_eq_emod_of_nonneg (by omega)
    have eW : IntKind.i64.wrap ((fr p s t) % l) = (fr p s t) % l := IntWalk.i64_in _ (by omega)
    go_enter Try.func46, Try.ntmps46
    go_wp2_with (first | (go_at_call 94; refine (isRunner_any _ _ _ _).mono ?_; rintro e w1 ⟨rfl, hb⟩; have hc := (bcell hb).1; have hf := (bcell hb).2; have hz : w.heap.size ≤ w1.heap.size := (by have := hb.size; (try simp at this); omega); have hz0 : w.heap.size < w1.heap.size := (by have := hb.size; (try simp at this); omega); have hcA0 := fun o => (bcell hb).1 (w.heap.size) o (by first | omega | (simp; omega) | (simp; done)); have hfA0 := fun o => (bcell hb).2 (w.heap.size) o (by first | omega | (simp; omega) | (simp; done))) | (go_at_call 95; refine (isRunTime_any _ _).mono ?_; rintro e w1 ⟨rfl, rfl⟩) | (go_at_call 96; refine (farAt_any p s t (by omega) (by omega) (by omega) (by omega) (by omega) (by omega) _).mono ?_; rintro e w1 ⟨rfl, hb⟩; have hc := (bcell hb).1; have hf := (bcell hb).2; have hz : w.heap.size ≤ w1.heap.size := (by have := hb.size; (try simp at this); omega); have hz0 : w.heap.size < w1.heap.size := (by have := hb.size; (try simp at this); omega); have hcA0 := fun o => (bcell hb).1 (w.heap.size) o (by first | omega | (simp; omega) | (simp; done)); have hfA0 := fun o => (bcell hb).2 (w.heap.size) o (by first | omega | (simp; omega) | (simp; done))) | go_in)
    all_goals try ((go_quiet (fail)); go_wp2_with (first | (go_at_call 94; refine (isRunner_any _ _ _ _).mono ?_; rintro e w1 ⟨rfl, hb⟩; have hc := (bcell hb).1; have hf := (bcell hb).2; have hz : w.heap.size ≤ w1.heap.size := (by have := hb.size; (try simp at this); omega); have hz0 : w.heap.size < w1.heap.size := (by have := hb.size; (try simp at this); omega); have hcA0 := fun o => (bcell hb).1 (w.heap.size) o (by first | omega | (simp; omega) | (simp; done)); have hfA0 := fun o => (bcell hb).2 (w.heap.size) o (by first | omega | (simp; omega) | (simp; done))) | (go_at_call 95; refine (isRunTime_any _ _).mono ?_; rintro e w1 ⟨rfl, rfl⟩) | (go_at_call 96; refine (farAt_any p s t (by omega) (by omega) (by omega) (by omega) (by omega) (by omega) _).mono ?_; rintro e w1 ⟨rfl, hb⟩; have hc := (bcell hb).1; have hf := (bcell hb).2; have hz : w.heap.size ≤ w1.heap.size := (by have := hb.size; (try simp at this); omega); have hz0 : w.heap.size < w1.heap.size := (by have := hb.size; (try simp at this); omega); have hcA0 := fun o => (bcell hb).1 (w.heap.size) o (by first | omega | (simp; omega) | (simp; done)); have hfA0 := fun o => (bcell hb).2 (w.heap.size) o (by first | omega | (simp; omega) | (simp; done))) | go_in))
    all_goals (go_ret2; refine ⟨rIB ?_ ?_, ?_⟩)
    all_goals first | (simp [hv, ht, ifI]; done) | (repeat (first | exact Below.refl _ _ | refine Below.drew ?_ | refine below_drewN ?_ _ | refine Below.setCell ?_ (by first | omega | (simp; done) | (simp; omega)) _ | refine Below.alloc ?_ (by first | omega | (simp; done) | (simp; omega)) _ | refine bchain ?_ (by assumption) (by first | omega | (simp; done) | (simp; omega))))
  all_goals
    go_enter Try.func46, Try.ntmps46
    go_wp2_with (first | (go_at_call 94; refine (isRunner_any _ _ _ _).mono ?_; rintro e w1 ⟨rfl, hb⟩; have hc := (bcell hb).1; have hf := (bcell hb).2; have hz : w.heap.size ≤ w1.heap.size := (by have := hb.size; (try simp at this); omega); have hz0 : w.heap.size < w1.heap.size := (by have := hb.size; (try simp at this); omega); have hcA0 := fun o => (bcell hb).1 (w.heap.size) o (by first | omega | (simp; omega) | (simp; done)); have hfA0 := fun o => (bcell hb).2 (w.heap.size) o (by first | omega | (simp; omega) | (simp; done))) | (go_at_call 95; refine (isRunTime_any _ _).mono ?_; rintro e w1 ⟨rfl, rfl⟩) | go_in)
    all_goals (go_ret2; refine ⟨rIB ?_ ?_, ?_⟩)
    all_goals first | (simp [hv, ht, ifI]; done) | (repeat (first | exact Below.refl _ _ | refine Below.drew ?_ | refine below_drewN ?_ _ | refine Below.setCell ?_ (by first | omega | (simp; done) | (simp; omega)) _ | refine Below.alloc ?_ (by first | omega | (simp; done) | (simp; omega)) _ | refine bchain ?_ (by assumption) (by first | omega | (simp; done) | (simp; omega))))
set_option maxHeartbeats 2000000 in
theorem implLapsAt (l p s t : Int) (w : World) :
    Calls Try.prog 48 #[.int .i64 l, .agg #[.int .i64 p, .int .i64 s], .int .i64 t] w fun e w' => e = .returned (.tuple #[.int .i64 (ifI (rn1 l p s && rtOk t) (s * t / l)), .bool (rn1 l p s && rtOk t)]) ∧ Below w.heap.size w w' := by
  cases hv : rn1 l p s <;> cases ht : rtOk t
  case true.true =>
    have rr := rn1_iff.1 hv
    have l1 := rr.1
    have l2 := rr.2.1
    have p1 := rr.2.2.1
    have p2 := rr.2.2.2.1
    have s1 := rr.2.2.2.2.1
    have s2 := rr.2.2.2.2.2
    clear rr
    have k1 := (rtOk_iff.1 ht).1
    have k2 := (rtOk_iff.1 ht).2
    have m1 := mul_bd s t 100 1000000 (by omega) s2 k1 k2
    have e1 := Int.ediv_le_self l (show 0 ≤ s * t by omega)
    have e2 := Int.ediv_nonneg (show 0 ≤ s * t by omega) (show 0 ≤ l by omega)
    have eM : (s * t).tdiv l = s * t / l := Int.tdiv_eq_ediv_of_nonneg (by omega)
    have eW : IntKind.i64.wrap (s * t / l) = s * t / l := IntWalk.i64_in _ (by omega)
    go_enter Try.func48, Try.ntmps48
    go_wp2_with (first | (go_at_call 94; refine (isRunner_any _ _ _ _).mono ?_; rintro e w1 ⟨rfl, hb⟩; have hc := (bcell hb).1; have hf := (bcell hb).2; have hz : w.heap.size ≤ w1.heap.size := (by have := hb.size; (try simp at this); omega); have hz0 : w.heap.size < w1.heap.size := (by have := hb.size; (try simp at this); omega); have hcA0 := fun o => (bcell hb).1 (w.heap.size) o (by first | omega | (simp; omega) | (simp; done)); have hfA0 := fun o => (bcell hb).2 (w.heap.size) o (by first | omega | (simp; omega) | (simp; done))) | (go_at_call 95; refine (isRunTime_any _ _).mono ?_; rintro e w1 ⟨rfl, rfl⟩) | go_in)
    all_goals try ((go_quiet (fail)); go_wp2_with (first | (go_at_call 94; refine (isRunner_any _ _ _ _).mono ?_; rintro e w1 ⟨rfl, hb⟩; have hc := (bcell hb).1; have hf := (bcell hb).2; have hz : w.heap.size ≤ w1.heap.size := (by have := hb.size; (try simp at this); omega); have hz0 : w.heap.size < w1.heap.size := (by have := hb.size; (try simp at this); omega); have hcA0 := fun o => (bcell hb).1 (w.heap.size) o (by first | omega | (simp; omega) | (simp; done)); have hfA0 := fun o => (bcell hb).2 (w.heap.size) o (by first | omega | (simp; omega) | (simp; done))) | (go_at_call 95; refine (isRunTime_any _ _).mono ?_; rintro e w1 ⟨rfl, rfl⟩) | go_in))
    all_goals (go_ret2; refine ⟨rIB ?_ ?_, ?_⟩)
    all_goals first | (simp [hv, ht, ifI]; done) | (repeat (first | exact Below.refl _ _ | refine Below.drew ?_ | refine below_drewN ?_ _ | refine Below.setCell ?_ (by first | omega | (simp; done) | (simp; omega)) _ | refine Below.alloc ?_ (by first | omega | (simp; done) | (simp; omega)) _ | refine bchain ?_ (by assumption) (by first | omega | (simp; done) | (simp; omega))))
  all_goals
    go_enter Try.func48, Try.ntmps48
    go_wp2_with (first | (go_at_call 94; refine (isRunner_any _ _ _ _).mono ?_; rintro e w1 ⟨rfl, hb⟩; have hc := (bcell hb).1; have hf := (bcell hb).2; have hz : w.heap.size ≤ w1.heap.size := (by have := hb.size; (try simp at this); omega); have hz0 : w.heap.size < w1.heap.size := (by have := hb.size; (try simp at this); omega); have hcA0 := fun o => (bcell hb).1 (w.heap.size) o (by first | omega | (simp; omega) | (simp; done)); have hfA0 := fun o => (bcell hb).2 (w.heap.size) o (by first | omega | (simp; omega) | (simp; done))) | (go_at_call 95; refine (isRunTime_any _ _).mono ?_; rintro e w1 ⟨rfl, rfl⟩) | go_in)
    all_goals (go_ret2; refine ⟨rIB ?_ ?_, ?_⟩)
    all_goals first | (simp [hv, ht, ifI]; done) | (repeat (first | exact Below.refl _ _ | refine Below.drew ?_ | refine below_drewN ?_ _ | refine Below.setCell ?_ (by first | omega | (simp; done) | (simp; omega)) _ | refine Below.alloc ?_ (by first | omega | (simp; done) | (simp; omega)) _ | refine bchain ?_ (by assumption) (by first | omega | (simp; done) | (simp; omega))))
end Go.Proofs.Yteaefmngfomhgaa
