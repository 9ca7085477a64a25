/- Contracts of chapter 6's functions on numbers and legs, the model's, over one translation. -/
import Derived.Test.YtjgicbfgbcihoaaProg
import Derived.Test.YtjgicbfgbcihoaaLegMath
import Derived.Test.YtjgicbfgbcihoaaTwoWalks
import Derived.WalkKit
import Derived.WalkSpells
import Derived.WalkLawsBesides
import Derived.Lib.Hide
import Derived.Deep.RegionWith
import Derived.Deep.RegionHeld3
import Derived.Deep.QuietTactic
import Derived.BigQuiet
namespace Go.Proofs.Ytjgicbfgbcihoaa
open Go.RowKit
set_option linter.unusedVariables false
set_option linter.unusedSimpArgs false
set_option maxHeartbeats 2000000 in
theorem toLeg_any (l f : Int) (w : World) :
    Calls Try.prog 45 #[.agg #[.int .i64 l, .int .i64 f]] w fun e w' => e = .returned (.agg #[.int .i64 l, .int .i64 f]) ∧ Below w.heap.size w w' := by
  go_enter Try.func45, Try.ntmps45
  go_wp2
  exact bodyPost_ret (v := .agg #[.int .i64 l, .int .i64 f]) (by simp [results, Try.results45, go_sem]) rfl ⟨rfl, by (repeat (first | exact Below.refl _ _ | refine Below.drew ?_ | refine below_drewN ?_ _ | refine Below.setCell ?_ (by first | omega | (simp; done) | (simp; omega)) _ | refine Below.alloc ?_ (by first | omega | (simp; done) | (simp; omega)) _ | refine bchain ?_ (by assumption) (by first | omega | (simp; done) | (simp; omega))))⟩
set_option maxHeartbeats 2000000 in
theorem reMoment_any (n d : Int) (w : World) :
    Calls Try.prog 63 #[.int .i64 n, .int .i64 d] w fun e w' => e = .returned (.bool (gmOk n d)) ∧ w = w' := by
  cases h1 : inB n 0 100000
  all_goals
    go_enter Try.func63, Try.ntmps63
    go_wp2_with (first | (go_at_call 72; refine (specIn _ _ _ _).mono ?_; rintro e w1 ⟨rfl, rfl⟩) | go_in)
    all_goals (go_ret; refine ⟨rB ?_, rfl⟩)
    all_goals first | (simp [gmOk, h1]; done) | (repeat (first | exact Below.refl _ _ | refine Below.drew ?_ | refine below_drewN ?_ _ | refine Below.setCell ?_ (by first | omega | (simp; done) | (simp; omega)) _ | refine Below.alloc ?_ (by first | omega | (simp; done) | (simp; omega)) _ | refine bchain ?_ (by assumption) (by first | omega | (simp; done) | (simp; omega))))
set_option maxHeartbeats 2000000 in
theorem specRideAndWalk (l a b v : Int) (w : World) :
    Calls Try.prog 42 #[.int .i64 l, .int .i64 a, .int .i64 b, .int .i64 v] w fun e w' => e = .returned (.tuple #[.int .i64 (ifI (rwK l a b v) (lwN (rwO l a b v) (rwU a b v))), .int .i64 (ifI (rwK l a b v) (lwD (rwO l a b v) (rwU a b v))), .int .i64 (ifI (rwK l a b v) (lwN (rwT l a b v) (rwU a b v * a * v))), .int .i64 (ifI (rwK l a b v) (lwD (rwT l a b v) (rwU a b v * a * v))), .bool (rwK l a b v)]) ∧ Below w.heap.size w w' := by
  cases h1 : inB l 1 1000 <;> cases h2 : inB v 1 100
  case true.true =>
    have l1 := (inB_iff.1 h1).1
    have l2 := (inB_iff.1 h1).2
    have v1 := (inB_iff.1 h2).1
    have v2 := (inB_iff.1 h2).2
    cases h3 : inB a 1 (v - 1)
    case false =>
      go_enter Try.func42, Try.ntmps42
      go_wp2_with (first | (go_at_call_of 72 (Value.int .i64 l); refine (specIn _ _ _ _).mono ?_; rw [h1]; rintro e w1 ⟨rfl, rfl⟩) | (go_at_call_of 72 (Value.int .i64 v); refine (specIn _ _ _ _).mono ?_; rw [h2]; rintro e w1 ⟨rfl, rfl⟩) | (go_at_call_of 72 (Value.int .i64 a); refine (specIn _ _ _ _).mono ?_; rw [h3]; rintro e w1 ⟨rfl, rfl⟩) | go_in)
      all_goals try ((go_quiet (fail)); go_wp2_with (first | (go_at_call_of 72 (Value.int .i64 l); refine (specIn _ _ _ _).mono ?_; rw [h1]; rintro e w1 ⟨rfl, rfl⟩) | (go_at_call_of 72 (Value.int .i64 v); refine (specIn _ _ _ _).mono ?_; rw [h2]; rintro e w1 ⟨rfl, rfl⟩) | (go_at_call_of 72 (Value.int .i64 a); refine (specIn _ _ _ _).mono ?_; rw [h3]; rintro e w1 ⟨rfl, rfl⟩) | go_in))
      all_goals (((try simp only [Exit.inBlock, Exit.then]); refine bodyPost_ret (results_tmp5 rfl _ _ _) rfl ?_); refine ⟨r5 ?_ ?_ ?_ ?_ ?_, ?_⟩)
      all_goals first | (simp [rwK, h1, h2, h3, ifI]; done) | (repeat (first | exact Below.refl _ _ | refine Below.drew ?_ | refine below_drewN ?_ _ | refine Below.setCell ?_ (by first | omega | (simp; done) | (simp; omega)) _ | refine Below.alloc ?_ (by first | omega | (simp; done) | (simp; omega)) _ | refine bchain ?_ (by assumption) (by first | omega | (simp; done) | (simp; omega))))
    case true =>
      have a1 := (inB_iff.1 h3).1
      have a2 := (inB_iff.1 h3).2
      cases h4 : inB b 1 (v - 1)
      case false =>
        go_enter Try.func42, Try.ntmps42
        go_wp2_with (first | (go_at_call_of 72 (Value.int .i64 l); refine (specIn _ _ _ _).mono ?_; rw [h1]; rintro e w1 ⟨rfl, rfl⟩) | (go_at_call_of 72 (Value.int .i64 v); refine (specIn _ _ _ _).mono ?_; rw [h2]; rintro e w1 ⟨rfl, rfl⟩) | (go_at_call_of 72 (Value.int .i64 a); refine (specIn _ _ _ _).mono ?_; rw [h3]; rintro e w1 ⟨rfl, rfl⟩) | (go_at_call_of 72 (Value.int .i64 b); refine (specIn _ _ _ _).mono ?_; rw [h4]; rintro e w1 ⟨rfl, rfl⟩) | go_in)
        all_goals try ((go_quiet (fail)); go_wp2_with (first | (go_at_call_of 72 (Value.int .i64 l); refine (specIn _ _ _ _).mono ?_; rw [h1]; rintro e w1 ⟨rfl, rfl⟩) | (go_at_call_of 72 (Value.int .i64 v); refine (specIn _ _ _ _).mono ?_; rw [h2]; rintro e w1 ⟨rfl, rfl⟩) | (go_at_call_of 72 (Value.int .i64 a); refine (specIn _ _ _ _).mono ?_; rw [h3]; rintro e w1 ⟨rfl, rfl⟩) | (go_at_call_of 72 (Value.int .i64 b); refine (specIn _ _ _ _).mono ?_; rw [h4]; rintro e w1 ⟨rfl, rfl⟩) | go_in))
        all_goals (((try simp only [Exit.inBlock, Exit.then]); refine bodyPost_ret (results_tmp5 rfl _ _ _) rfl ?_); refine ⟨r5 ?_ ?_ ?_ ?_ ?_, ?_⟩)
        all_goals first | (simp [rwK, h1, h2, h3, h4, ifI]; done) | (repeat (first | exact Below.refl _ _ | refine Below.drew ?_ | refine below_drewN ?_ _ | refine Below.setCell ?_ (by first | omega | (simp; done) | (simp; omega)) _ | refine Below.alloc ?_ (by first | omega | (simp; done) | (simp; omega)) _ | refine bchain ?_ (by assumption) (by first | omega | (simp; done) | (simp; omega))))
      case true =>
        have b1 := (inB_iff.1 h4).1
        have b2 := (inB_iff.1 h4).2
        have bd := rw_bd l1 l2 v1 v2 a1 a2 b1 b2
        have hk : rwK l a b v = true := by simp [rwK, h1, h2, h3, h4]
        have m1 := mul_bd l b 1000 100 (by omega) (by omega) (by omega) (by omega)
        have m2 := mul_bd (l * b) (v - a) 100000 100 (by omega) (by omega) (by omega) (by omega)
        have m3 := mul_bd a (v - b) 100 100 (by omega) (by omega) (by omega) (by omega)
        have m4 := mul_bd b (v - a) 100 100 (by omega) (by omega) (by omega) (by omega)
        have m5 := mul_bd (l * b * (v - a)) a 10000000 100 (by omega) (by omega) (by omega) (by omega)
        have m6 := mul_bd l (a * (v - b) + b * (v - a)) 1000 20000 (by omega) (by omega) (by omega) (by omega)
        have m7 := mul_ab (l * (a * (v - b) + b * (v - a)) - l * b * (v - a)) v 20000000 100 (by omega) (by omega) (by omega) (by omega)
        have m8 := mul_bd (a * (v - b) + b * (v - a)) a 20000 100 (by omega) (by omega) (by omega) (by omega)
        have m9 := mul_bd ((a * (v - b) + b * (v - a)) * a) v 2000000 100 (by omega) (by omega) (by omega) (by omega)
        unfold rwT rwO rwU at *
        go_enter Try.func42, Try.ntmps42
        go_wp2_with (first | (go_at_call_of 72 (Value.int .i64 l); refine (specIn _ _ _ _).mono ?_; rw [h1]; rintro e w1 ⟨rfl, rfl⟩) | (go_at_call_of 72 (Value.int .i64 v); refine (specIn _ _ _ _).mono ?_; rw [h2]; rintro e w1 ⟨rfl, rfl⟩) | (go_at_call_of 72 (Value.int .i64 a); refine (specIn _ _ _ _).mono ?_; rw [h3]; rintro e w1 ⟨rfl, rfl⟩) | (go_at_call_of 72 (Value.int .i64 b); refine (specIn _ _ _ _).mono ?_; rw [h4]; rintro e w1 ⟨rfl, rfl⟩) | (go_at_call 56; refine (meLow_pos _ _ (by omega) (by omega) (by omega) (by omega) _).mono ?_; rintro e w1 ⟨rfl, hb⟩; have hc := (bcell hb).1; have hf := (bcell hb).2; have hz : w.heap.size ≤ w1.heap.size := (by have := hb.size; (try simp at this); omega)) | go_in)
        all_goals try ((go_quiet (fail)); go_wp2_with (first | (go_at_call_of 72 (Value.int .i64 l); refine (specIn _ _ _ _).mono ?_; rw [h1]; rintro e w1 ⟨rfl, rfl⟩) | (go_at_call_of 72 (Value.int .i64 v); refine (specIn _ _ _ _).mono ?_; rw [h2]; rintro e w1 ⟨rfl, rfl⟩) | (go_at_call_of 72 (Value.int .i64 a); refine (specIn _ _ _ _).mono ?_; rw [h3]; rintro e w1 ⟨rfl, rfl⟩) | (go_at_call_of 72 (Value.int .i64 b); refine (specIn _ _ _ _).mono ?_; rw [h4]; rintro e w1 ⟨rfl, rfl⟩) | (go_at_call 56; refine (meLow_pos _ _ (by omega) (by omega) (by omega) (by omega) _).mono ?_; rintro e w1 ⟨rfl, hb⟩; have hc := (bcell hb).1; have hf := (bcell hb).2; have hz : w.heap.size ≤ w1.heap.size := (by have := hb.size; (try simp at this); omega)) | go_in))
        all_goals try ((go_quiet (fail)); go_wp2_with (first | (go_at_call_of 72 (Value.int .i64 l); refine (specIn _ _ _ _).mono ?_; rw [h1]; rintro e w1 ⟨rfl, rfl⟩) | (go_at_call_of 72 (Value.int .i64 v); refine (specIn _ _ _ _).mono ?_; rw [h2]; rintro e w1 ⟨rfl, rfl⟩) | (go_at_call_of 72 (Value.int .i64 a); refine (specIn _ _ _ _).mono ?_; rw [h3]; rintro e w1 ⟨rfl, rfl⟩) | (go_at_call_of 72 (Value.int .i64 b); refine (specIn _ _ _ _).mono ?_; rw [h4]; rintro e w1 ⟨rfl, rfl⟩) | (go_at_call 56; refine (meLow_pos _ _ (by omega) (by omega) (by omega) (by omega) _).mono ?_; rintro e w1 ⟨rfl, hb⟩; have hc := (bcell hb).1; have hf := (bcell hb).2; have hz : w.heap.size ≤ w1.heap.size := (by have := hb.size; (try simp at this); omega)) | go_in))
        all_goals try ((go_quiet (fail)); go_wp2_with (first | (go_at_call_of 72 (Value.int .i64 l); refine (specIn _ _ _ _).mono ?_; rw [h1]; rintro e w1 ⟨rfl, rfl⟩) | (go_at_call_of 72 (Value.int .i64 v); refine (specIn _ _ _ _).mono ?_; rw [h2]; rintro e w1 ⟨rfl, rfl⟩) | (go_at_call_of 72 (Value.int .i64 a); refine (specIn _ _ _ _).mono ?_; rw [h3]; rintro e w1 ⟨rfl, rfl⟩) | (go_at_call_of 72 (Value.int .i64 b); refine (specIn _ _ _ _).mono ?_; rw [h4]; rintro e w1 ⟨rfl, rfl⟩) | (go_at_call 56; refine (meLow_pos _ _ (by omega) (by omega) (by omega) (by omega) _).mono ?_; rintro e w1 ⟨rfl, hb⟩; have hc := (bcell hb).1; have hf := (bcell hb).2; have hz : w.heap.size ≤ w1.heap.size := (by have := hb.size; (try simp at this); omega)) | go_in))
        all_goals (((try simp only [Exit.inBlock, Exit.then]); refine bodyPost_ret (results_tmp5 rfl _ _ _) rfl ?_); refine ⟨r5 ?_ ?_ ?_ ?_ ?_, ?_⟩)
        all_goals first | (simp [hk, ifI]; done) | (repeat (first | exact Below.refl _ _ | refine Below.drew ?_ | refine below_drewN ?_ _ | refine Below.setCell ?_ (by first | omega | (simp; done) | (simp; omega)) _ | refine Below.alloc ?_ (by first | omega | (simp; done) | (simp; omega)) _ | refine bchain ?_ (by assumption) (by first | omega | (simp; done) | (simp; omega))))
  all_goals
    go_enter Try.func42, Try.ntmps42
    go_wp2_with (first | (go_at_call_of 72 (Value.int .i64 l); refine (specIn _ _ _ _).mono ?_; rw [h1]; rintro e w1 ⟨rfl, rfl⟩) | (go_at_call_of 72 (Value.int .i64 v); refine (specIn _ _ _ _).mono ?_; rw [h2]; rintro e w1 ⟨rfl, rfl⟩) | go_in)
    all_goals try ((go_quiet (fail)); go_wp2_with (first | (go_at_call_of 72 (Value.int .i64 l); refine (specIn _ _ _ _).mono ?_; rw [h1]; rintro e w1 ⟨rfl, rfl⟩) | (go_at_call_of 72 (Value.int .i64 v); refine (specIn _ _ _ _).mono ?_; rw [h2]; rintro e w1 ⟨rfl, rfl⟩) | go_in))
    all_goals (((try simp only [Exit.inBlock, Exit.then]); refine bodyPost_ret (results_tmp5 rfl _ _ _) rfl ?_); refine ⟨r5 ?_ ?_ ?_ ?_ ?_, ?_⟩)
    all_goals first | (simp [rwK, h1, h2, ifI]; done) | (repeat (first | exact Below.refl _ _ | refine Below.drew ?_ | refine below_drewN ?_ _ | refine Below.setCell ?_ (by first | omega | (simp; done) | (simp; omega)) _ | refine Below.alloc ?_ (by first | omega | (simp; done) | (simp; omega)) _ | refine bchain ?_ (by assumption) (by first | omega | (simp; done) | (simp; omega))))
set_option maxHeartbeats 2000000 in
theorem specSharedBicycle (l a v : Int) (w : World) :
    Calls Try.prog 40 #[.int .i64 l, .int .i64 a, .int .i64 v] w fun e w' => e = .returned (.tuple #[.int .i64 (ifI (rwK l a a v) (lwN (rwO l a a v) (rwU a a v))), .int .i64 (ifI (rwK l a a v) (lwD (rwO l a a v) (rwU a a v))), .int .i64 (ifI (rwK l a a v) (lwN (rwT l a a v) (rwU a a v * a * v))), .int .i64 (ifI (rwK l a a v) (lwD (rwT l a a v) (rwU a a v * a * v))), .bool (rwK l a a v)]) ∧ Below w.heap.size w w' := by
  go_enter Try.func40, Try.ntmps40
  go_wp2_with fail
  refine (specRideAndWalk l a a v _).mono ?_; rintro e w1 ⟨rfl, hb⟩
  go_wp2_with fail
  (((try simp only [Exit.inBlock, Exit.then]); refine bodyPost_ret (results_tmp5 rfl _ _ _) rfl ?_); refine ⟨r5 ?_ ?_ ?_ ?_ ?_, ?_⟩)
  all_goals first | rfl | exact hb
end Go.Proofs.Ytjgicbfgbcihoaa
