/- Contracts of chapter 3's functions on numbers and one runner, the program's and the model's, over one translation. -/
import Derived.Test.YteaefmngfomhgaaProg
import Derived.Test.YteaefmngfomhgaaThrMath
import Derived.Test.YteaefmngfomhgaaTwoWalks
import Derived.WalkKit
import Derived.WalkSpells
import Derived.WalkLawsBesides
import Derived.Lib.Hide
import Derived.Deep.RegionWith
import Derived.Deep.RegionHeld3
import Derived.Deep.QuietTactic
import Derived.BigQuiet
namespace Go.Proofs.Yteaefmngfomhgaa
open Go.RowKit
set_option linter.unusedVariables false
set_option linter.unusedSimpArgs false
set_option maxHeartbeats 2000000 in
theorem toRunner_any (p s : Int) (w : World) :
    Calls Try.prog 45 #[.agg #[.int .i64 p, .int .i64 s]] w fun e w' => e = .returned (.agg #[.int .i64 p, .int .i64 s]) ∧ Below w.heap.size w w' := by
  go_enter Try.func45, Try.ntmps45
  go_wp2
  exact bodyPost_ret (v := .agg #[.int .i64 p, .int .i64 s]) (by simp [results, Try.results45, go_sem]) rfl ⟨rfl, by (repeat (first | exact Below.refl _ _ | refine Below.drew ?_ | refine below_drewN ?_ _ | refine Below.setCell ?_ (by first | omega | (simp; done) | (simp; omega)) _ | refine Below.alloc ?_ (by first | omega | (simp; done) | (simp; omega)) _ | refine bchain ?_ (by assumption) (by first | omega | (simp; done) | (simp; omega))))⟩
set_option maxHeartbeats 2000000 in
theorem trLap_any (l : Int) (w : World) :
    Calls Try.prog 111 #[.int .i64 l] w fun e w' => e = .returned (.bool (lapOk l)) ∧ w = w' := by
  go_enter Try.func111, Try.ntmps111
  go_wp2_with (first | (go_at_call 58; refine (specIn _ _ _ _).mono ?_; rintro e w1 ⟨rfl, rfl⟩) | go_in)
  all_goals (go_ret; refine ⟨rB ?_, rfl⟩)
  all_goals first | rfl | (repeat (first | exact Below.refl _ _ | refine Below.drew ?_ | refine below_drewN ?_ _ | refine Below.setCell ?_ (by first | omega | (simp; done) | (simp; omega)) _ | refine Below.alloc ?_ (by first | omega | (simp; done) | (simp; omega)) _ | refine bchain ?_ (by assumption) (by first | omega | (simp; done) | (simp; omega))))
set_option maxHeartbeats 2000000 in
theorem trTime_any (t : Int) (w : World) :
    Calls Try.prog 92 #[.int .i64 t] w fun e w' => e = .returned (.bool (rtOk t)) ∧ w = w' := by
  go_enter Try.func92, Try.ntmps92
  go_wp2_with (first | (go_at_call 58; refine (specIn _ _ _ _).mono ?_; rintro e w1 ⟨rfl, rfl⟩) | go_in)
  all_goals (go_ret; refine ⟨rB ?_, rfl⟩)
  all_goals first | rfl | (repeat (first | exact Below.refl _ _ | refine Below.drew ?_ | refine below_drewN ?_ _ | refine Below.setCell ?_ (by first | omega | (simp; done) | (simp; omega)) _ | refine Below.alloc ?_ (by first | omega | (simp; done) | (simp; omega)) _ | refine bchain ?_ (by assumption) (by first | omega | (simp; done) | (simp; omega))))
set_option maxHeartbeats 2000000 in
theorem isRunTime_any (t : Int) (w : World) :
    Calls Try.prog 95 #[.int .i64 t] w fun e w' => e = .returned (.bool (rtOk t)) ∧ w = w' := by
  go_enter Try.func95, Try.ntmps95
  go_wp2_with (first | (go_at_call 60; refine (implIn _ _ _ _).mono ?_; rintro e w1 ⟨rfl, rfl⟩) | go_in)
  all_goals (go_ret; refine ⟨rB ?_, rfl⟩)
  all_goals first | rfl | (repeat (first | exact Below.refl _ _ | refine Below.drew ?_ | refine below_drewN ?_ _ | refine Below.setCell ?_ (by first | omega | (simp; done) | (simp; omega)) _ | refine Below.alloc ?_ (by first | omega | (simp; done) | (simp; omega)) _ | refine bchain ?_ (by assumption) (by first | omega | (simp; done) | (simp; omega))))
set_option maxHeartbeats 2000000 in
theorem trRunner_any (l p s : Int) (w : World) :
    Calls Try.prog 91 #[.int .i64 l, .agg #[.int .i64 p, .int .i64 s]] w fun e w' => e = .returned (.bool (rn1 l p s)) ∧ Below w.heap.size w w' := by
  cases h0 : lapOk l
  case true =>
    have hl := lapOk_iff.1 h0
    cases h1 : inB p 0 (l - 1)
    all_goals
      go_enter Try.func91, Try.ntmps91
      go_wp2_with (first | (go_at_call 111; refine (trLap_any _ _).mono ?_; rintro e w1 ⟨rfl, rfl⟩) | (go_at_call 58; refine (specIn _ _ _ _).mono ?_; rintro e w1 ⟨rfl, rfl⟩) | go_in)
      all_goals (go_ret; refine ⟨rB ?_, ?_⟩)
      all_goals first | (simp [rn1, rnOk, h0, h1]; done) | (repeat (first | exact Below.refl _ _ | refine Below.drew ?_ | refine below_drewN ?_ _ | refine Below.setCell ?_ (by first | omega | (simp; done) | (simp; omega)) _ | refine Below.alloc ?_ (by first | omega | (simp; done) | (simp; omega)) _ | refine bchain ?_ (by assumption) (by first | omega | (simp; done) | (simp; omega))))
  case false =>
    go_enter Try.func91, Try.ntmps91
    go_wp2_with (first | (go_at_call 111; refine (trLap_any _ _).mono ?_; rintro e w1 ⟨rfl, rfl⟩) | go_in)
    all_goals (go_ret; refine ⟨rB ?_, ?_⟩)
    all_goals first | (simp [rn1, rnOk, h0]; done) | (repeat (first | exact Below.refl _ _ | refine Below.drew ?_ | refine below_drewN ?_ _ | refine Below.setCell ?_ (by first | omega | (simp; done) | (simp; omega)) _ | refine Below.alloc ?_ (by first | omega | (simp; done) | (simp; omega)) _ | refine bchain ?_ (by assumption) (by first | omega | (simp; done) | (simp; omega))))
set_option maxHeartbeats 2000000 in
theorem trFar_any (p s t : Int) (p1 : 0 ≤ p) (p2 : p ≤ 1000) (s1 : 0 ≤ s) (s2 : s ≤ 100) (t1 : 0 ≤ t) (t2 : t ≤ 1000000) (w : World) :
    Calls Try.prog 97 #[.agg #[.int .i64 p, .int .i64 s], .int .i64 t] w fun e w' => e = .returned (.int .i64 (fr p s t)) ∧ Below w.heap.size w w' := by
  have m1 := mul_bd s t 100 1000000 s1 s2 t1 t2
  have m2 := fr_bd p1 p2 s1 s2 t1 t2
  go_enter Try.func97, Try.ntmps97
  go_wp2
  all_goals (go_ret; refine ⟨rI ?_, ?_⟩)
  all_goals first | (unfold fr; first | rfl | omega) | (repeat (first | exact Below.refl _ _ | refine Below.drew ?_ | refine below_drewN ?_ _ | refine Below.setCell ?_ (by first | omega | (simp; done) | (simp; omega)) _ | refine Below.alloc ?_ (by first | omega | (simp; done) | (simp; omega)) _ | refine bchain ?_ (by assumption) (by first | omega | (simp; done) | (simp; omega))))
set_option maxHeartbeats 2000000 in
theorem farAt_any (p s t : Int) (p1 : 0 ≤ p) (p2 : p ≤ 1000) (s1 : 0 ≤ s) (s2 : s ≤ 100) (t1 : 0 ≤ t) (t2 : t ≤ 1000000) (w : World) :
    Calls Try.prog 96 #[.agg #[.int .i64 p, .int .i64 s], .int .i64 t] w fun e w' => e = .returned (.int .i64 (fr p s t)) ∧ Below w.heap.size w w' := by
  have m1 := mul_bd s t 100 1000000 s1 s2 t1 t2
  have m2 := fr_bd p1 p2 s1 s2 t1 t2
  go_enter Try.func96, Try.ntmps96
  go_wp2
  all_goals (go_ret; refine ⟨rI ?_, ?_⟩)
  all_goals first | (unfold fr; first | rfl | omega) | (repeat (first | exact Below.refl _ _ | refine Below.drew ?_ | refine below_drewN ?_ _ | refine Below.setCell ?_ (by first | omega | (simp; done) | (simp; omega)) _ | refine Below.alloc ?_ (by first | omega | (simp; done) | (simp; omega)) _ | refine bchain ?_ (by assumption) (by first | omega | (simp; done) | (simp; omega))))
set_option maxHeartbeats 2000000 in
theorem trPlace_any (l p s t : Int) (l1 : 1 ≤ l) (l2 : l ≤ 1000) (p1 : 0 ≤ p) (p2 : p ≤ 1000) (s1 : 0 ≤ s) (s2 : s ≤ 100) (t1 : 0 ≤ t) (t2 : t ≤ 1000000) (w : World) :
    Calls Try.prog 93 #[.int .i64 l, .agg #[.int .i64 p, .int .i64 s], .int .i64 t] w fun e w' => e = .returned (.int .i64 (fr p s t % l)) ∧ Below w.heap.size w w' := by
  have m1 := mul_bd s t 100 1000000 s1 s2 t1 t2
  have m2 := fr_bd p1 p2 s1 s2 t1 t2
  have e1 := Int.emod_nonneg (fr p s t) (show l ≠ 0 by omega)
  have e2 := Int.emod_lt_of_pos (fr p s t) (show 0 < l by omega)
  have eM : (fr p s t).tmod l = (fr p s t) % l := Int.tmod_eq_emod_of_nonneg (by omega)
  have eW : IntKind.i64.wrap ((fr p s t) % l) = (fr p s t) % l := IntWalk.i64_in _ (by omega)
  go_enter Try.func93, Try.ntmps93
  go_wp2_with (first | (go_at_call 97; refine (trFar_any _ _ _ (by omega) (by omega) (by omega) (by omega) (by omega) (by omega) _).mono ?_; rintro e w1 ⟨rfl, hb⟩; have hc := (bcell hb).1; have hf := (bcell hb).2; have hz : w.heap.size ≤ w1.heap.size := (by have := hb.size; (try simp at this); omega); have hz0 : w.heap.size < w1.heap.size := (by have := hb.size; (try simp at this); omega); have hcA0 := fun o => (bcell hb).1 (w.heap.size) o (by first | omega | (simp; omega) | (simp; done)); have hfA0 := fun o => (bcell hb).2 (w.heap.size) o (by first | omega | (simp; omega) | (simp; done))) | go_in)
  all_goals try ((go_quiet (fail)); go_wp2_with (first | (go_at_call 97; refine (trFar_any _ _ _ (by omega) (by omega) (by omega) (by omega) (by omega) (by omega) _).mono ?_; rintro e w1 ⟨rfl, hb⟩; have hc := (bcell hb).1; have hf := (bcell hb).2; have hz : w.heap.size ≤ w1.heap.size := (by have := hb.size; (try simp at this); omega); have hz0 : w.heap.size < w1.heap.size := (by have := hb.size; (try simp at this); omega); have hcA0 := fun o => (bcell hb).1 (w.heap.size) o (by first | omega | (simp; omega) | (simp; done)); have hfA0 := fun o => (bcell hb).2 (w.heap.size) o (by first | omega | (simp; omega) | (simp; done))) | go_in))
  all_goals (go_ret; refine ⟨rI ?_, ?_⟩)
  all_goals first | rfl | (repeat (first | exact Below.refl _ _ | refine Below.drew ?_ | refine below_drewN ?_ _ | refine Below.setCell ?_ (by first | omega | (simp; done) | (simp; omega)) _ | refine Below.alloc ?_ (by first | omega | (simp; done) | (simp; omega)) _ | refine bchain ?_ (by assumption) (by first | omega | (simp; done) | (simp; omega))))
end Go.Proofs.Yteaefmngfomhgaa
