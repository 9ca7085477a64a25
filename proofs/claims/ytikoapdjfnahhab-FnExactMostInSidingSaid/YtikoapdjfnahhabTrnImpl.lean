/- Contracts of chapter 5's functions on numbers and trains, the program's, over one translation. -/
import Derived.Test.YtikoapdjfnahhabProg
import Derived.Test.YtikoapdjfnahhabTrnMath
import Derived.Test.YtikoapdjfnahhabTrnWalks
import Derived.Test.YtikoapdjfnahhabDogImpl
import Derived.WalkKit
import Derived.WalkSpells
import Derived.WalkLawsBesides
import Derived.Lib.Hide
import Derived.Deep.RegionWith
import Derived.Deep.RegionHeld3
import Derived.Deep.QuietTactic
import Derived.BigQuiet
namespace Go.Proofs.Ytikoapdjfnahhab
open Go.RowKit
set_option linter.unusedVariables false
set_option linter.unusedSimpArgs false
set_option maxHeartbeats 2000000 in
theorem isRate_any (n : Int) (w : World) :
    Calls Try.prog 57 #[.int .i64 n] w fun e w' => e = .returned (.bool (inB n 1 100)) ∧ w = w' := by
  go_enter Try.func57, Try.ntmps57
  go_wp2_with (first | (go_at_call 27; refine (implIn _ _ _ _).mono ?_; rintro e w1 ⟨rfl, rfl⟩) | go_in)
  all_goals (go_ret; refine ⟨rB ?_, rfl⟩)
  all_goals first | rfl | (repeat (first | exact Below.refl _ _ | refine Below.drew ?_ | refine below_drewN ?_ _ | refine Below.setCell ?_ (by first | omega | (simp; done) | (simp; omega)) _ | refine Below.alloc ?_ (by first | omega | (simp; done) | (simp; omega)) _ | refine bchain ?_ (by assumption) (by first | omega | (simp; done) | (simp; omega))))
set_option maxHeartbeats 2000000 in
theorem isWay_any (n : Int) (w : World) :
    Calls Try.prog 31 #[.int .i64 n] w fun e w' => e = .returned (.bool (wyOk n)) ∧ w = w' := by
  go_enter Try.func31, Try.ntmps31
  go_wp2_with (first | (go_at_call 27; refine (implIn _ _ _ _).mono ?_; rintro e w1 ⟨rfl, rfl⟩) | go_in)
  all_goals (go_ret; refine ⟨rB ?_, rfl⟩)
  all_goals first | rfl | (repeat (first | exact Below.refl _ _ | refine Below.drew ?_ | refine below_drewN ?_ _ | refine Below.setCell ?_ (by first | omega | (simp; done) | (simp; omega)) _ | refine Below.alloc ?_ (by first | omega | (simp; done) | (simp; omega)) _ | refine bchain ?_ (by assumption) (by first | omega | (simp; done) | (simp; omega))))
set_option maxHeartbeats 2000000 in
theorem isTrainTime_any (n : Int) (w : World) :
    Calls Try.prog 26 #[.int .i64 n] w fun e w' => e = .returned (.bool (inB n 1 10000)) ∧ w = w' := by
  go_enter Try.func26, Try.ntmps26
  go_wp2_with (first | (go_at_call 27; refine (implIn _ _ _ _).mono ?_; rintro e w1 ⟨rfl, rfl⟩) | go_in)
  all_goals (go_ret; refine ⟨rB ?_, rfl⟩)
  all_goals first | rfl | (repeat (first | exact Below.refl _ _ | refine Below.drew ?_ | refine below_drewN ?_ _ | refine Below.setCell ?_ (by first | omega | (simp; done) | (simp; omega)) _ | refine Below.alloc ?_ (by first | omega | (simp; done) | (simp; omega)) _ | refine bchain ?_ (by assumption) (by first | omega | (simp; done) | (simp; omega))))
set_option maxHeartbeats 2000000 in
theorem implIsTrain (l r : Int) (w : World) :
    Calls Try.prog 45 #[.agg #[.int .i64 l, .int .i64 r]] w fun e w' => e = .returned (.bool (tnOk l r)) ∧ Below w.heap.size w w' := by
  cases h1 : inB l 1 1000
  all_goals
    go_enter Try.func45, Try.ntmps45
    go_wp2_with (first | (go_at_call 27; refine (implIn _ _ _ _).mono ?_; rintro e w1 ⟨rfl, rfl⟩) | (go_at_call 57; refine (isRate_any _ _).mono ?_; rintro e w1 ⟨rfl, rfl⟩) | go_in)
    all_goals (go_ret; refine ⟨rB ?_, ?_⟩)
    all_goals first | (simp [tnOk, h1]; done) | (repeat (first | exact Below.refl _ _ | refine Below.drew ?_ | refine below_drewN ?_ _ | refine Below.setCell ?_ (by first | omega | (simp; done) | (simp; omega)) _ | refine Below.alloc ?_ (by first | omega | (simp; done) | (simp; omega)) _ | refine bchain ?_ (by assumption) (by first | omega | (simp; done) | (simp; omega))))
set_option maxHeartbeats 2000000 in
theorem metTime_any (j v : Int) (b1 : 0 ≤ j) (b2 : j ≤ 10000) (b3 : 0 ≤ v) (b4 : v ≤ 1000000000) (w : World) :
    Calls Try.prog 28 #[.int .i64 j, .int .i64 v] w fun e w' => e = .returned (.agg #[.int .i64 (lwN (v + j) 2), .int .i64 (lwD (v + j) 2)]) ∧ Below w.heap.size w w' := by
  go_enter Try.func28, Try.ntmps28
  go_wp2_with (first | (go_at_call 46; refine (lowest_any (v + j) 2 (by omega) (by omega) (by omega) (by omega) _).mono ?_; rintro e w1 ⟨rfl, hb⟩; have hc := (bcell hb).1; have hf := (bcell hb).2; have hz : w.heap.size ≤ w1.heap.size := (by have := hb.size; (try simp at this); omega); have hz0 : w.heap.size < w1.heap.size := (by have := hb.size; (try simp at this); omega); have hcA0 := fun o => (bcell hb).1 (w.heap.size) o (by first | omega | (simp; omega) | (simp; done)); have hfA0 := fun o => (bcell hb).2 (w.heap.size) o (by first | omega | (simp; omega) | (simp; done))) | go_in)
  all_goals (refine bodyPost_ret (v := .agg #[.int .i64 (lwN (v + j) 2), .int .i64 (lwD (v + j) 2)]) (by have e0 : (w1.cell? ⟨w.heap.size, 0, none⟩).isSome = true := (by first | (rw [hcA0]; go_simp; done) | (go_simp; done)); have e1 : (w1.cell? ⟨w.heap.size, 1, none⟩).isSome = true := (by first | (rw [hcA0]; go_simp; done) | (go_simp; done)); (try clear hcA0 hfA0); simp [results, Try.results28, go_sem, e0, e1]; done) rfl ⟨?_, ?_⟩)
  all_goals first | rfl | (repeat (first | exact Below.refl _ _ | refine Below.drew ?_ | refine below_drewN ?_ _ | refine Below.setCell ?_ (by first | omega | (simp; done) | (simp; omega)) _ | refine Below.alloc ?_ (by first | omega | (simp; done) | (simp; omega)) _ | refine bchain ?_ (by assumption) (by first | omega | (simp; done) | (simp; omega))))
set_option maxHeartbeats 2000000 in
theorem implMetAt (j v k : Int) (w : World) :
    Calls Try.prog 8 #[.int .i64 j, .int .i64 v, .int .i64 k] w fun e w' => e = .returned (.tuple #[.int .i64 (ifI (jyOk j v && inB k 0 10000 && decide (v * k ≤ j)) (lwN (j + v * k) 2)), .int .i64 (ifI (jyOk j v && inB k 0 10000 && decide (v * k ≤ j)) (lwD (j + v * k) 2)), .bool (jyOk j v && inB k 0 10000 && decide (v * k ≤ j))]) ∧ Below w.heap.size w w' := by
  rw [Int.mul_comm v k, Int.add_comm j (k * v)]
  cases h1 : inB j 1 10000 <;> cases h2 : inB v 1 10000 <;> cases h3 : inB k 0 10000
  case true.true.true =>
    have b1 := (inB_iff.1 h1).1
    have b2 := (inB_iff.1 h1).2
    have b3 := (inB_iff.1 h2).1
    have b4 := (inB_iff.1 h2).2
    have b5 := (inB_iff.1 h3).1
    have b6 := (inB_iff.1 h3).2
    have m1 := mul_bd k v 10000 10000 (by omega) (by omega) (by omega) (by omega)
    have hj : jyOk j v = true := jyOk_iff.2 (by omega)
    cases hx : decide (k * v ≤ j)
    case false =>
      have x1 := of_decide_eq_false hx
      go_enter Try.func8, Try.ntmps8
      go_wp2_with (first | (go_at_call_of 26 (Value.int .i64 j); refine (isTrainTime_any _ _).mono ?_; rw [h1]; rintro e w1 ⟨rfl, rfl⟩) | (go_at_call_of 26 (Value.int .i64 v); refine (isTrainTime_any _ _).mono ?_; rw [h2]; rintro e w1 ⟨rfl, rfl⟩) | (go_at_call 27; refine (implIn _ _ _ _).mono ?_; rintro e w1 ⟨rfl, rfl⟩) | go_in)
      all_goals try ((go_quiet (fail)); go_wp2_with (first | (go_at_call_of 26 (Value.int .i64 j); refine (isTrainTime_any _ _).mono ?_; rw [h1]; rintro e w1 ⟨rfl, rfl⟩) | (go_at_call_of 26 (Value.int .i64 v); refine (isTrainTime_any _ _).mono ?_; rw [h2]; rintro e w1 ⟨rfl, rfl⟩) | (go_at_call 27; refine (implIn _ _ _ _).mono ?_; rintro e w1 ⟨rfl, rfl⟩) | go_in))
      all_goals (go_ret3; refine ⟨rII ?_ ?_ ?_, ?_⟩)
      all_goals first | (simp [hj, hx, ifI]; done) | (repeat (first | exact Below.refl _ _ | refine Below.drew ?_ | refine below_drewN ?_ _ | refine Below.setCell ?_ (by first | omega | (simp; done) | (simp; omega)) _ | refine Below.alloc ?_ (by first | omega | (simp; done) | (simp; omega)) _ | refine bchain ?_ (by assumption) (by first | omega | (simp; done) | (simp; omega))))
    case true =>
      have x1 := of_decide_eq_true hx
      go_enter Try.func8, Try.ntmps8
      go_wp2_with (first | (go_at_call_of 26 (Value.int .i64 j); refine (isTrainTime_any _ _).mono ?_; rw [h1]; rintro e w1 ⟨rfl, rfl⟩) | (go_at_call_of 26 (Value.int .i64 v); refine (isTrainTime_any _ _).mono ?_; rw [h2]; rintro e w1 ⟨rfl, rfl⟩) | (go_at_call 27; refine (implIn _ _ _ _).mono ?_; rw [h3]; rintro e w1 ⟨rfl, rfl⟩))
      refine (metTime_any j (k * v) (by omega) (by omega) (by omega) (by omega) _).mono ?_; rintro e w1 ⟨rfl, hb1⟩
      have z1 : w.heap.size ≤ w1.heap.size := by have := hb1.size; (try simp at this); omega
      have B1 := Lib.hid hb1
      clear hb1
      go_wp2_with fail
      go_quiet (fail)
      go_wp2_with fail
      all_goals (go_ret3; refine ⟨rII ?_ ?_ ?_, ?_⟩)
      all_goals first | (simp [hj, hx, ifI]; done) | (exact B1.out.alloc (by omega) _) | (exact below_drewN (B1.out.alloc (by omega) _) _)
  all_goals
    go_enter Try.func8, Try.ntmps8
    go_wp2_with (first | (go_at_call_of 26 (Value.int .i64 j); refine (isTrainTime_any _ _).mono ?_; rw [h1]; rintro e w1 ⟨rfl, rfl⟩) | (go_at_call_of 26 (Value.int .i64 v); refine (isTrainTime_any _ _).mono ?_; rw [h2]; rintro e w1 ⟨rfl, rfl⟩) | (go_at_call 27; refine (implIn _ _ _ _).mono ?_; rw [h3]; rintro e w1 ⟨rfl, rfl⟩) | go_in)
    all_goals try ((go_quiet (fail)); go_wp2_with (first | (go_at_call_of 26 (Value.int .i64 j); refine (isTrainTime_any _ _).mono ?_; rw [h1]; rintro e w1 ⟨rfl, rfl⟩) | (go_at_call_of 26 (Value.int .i64 v); refine (isTrainTime_any _ _).mono ?_; rw [h2]; rintro e w1 ⟨rfl, rfl⟩) | (go_at_call 27; refine (implIn _ _ _ _).mono ?_; rw [h3]; rintro e w1 ⟨rfl, rfl⟩) | go_in))
    all_goals (go_ret3; refine ⟨rII ?_ ?_ ?_, ?_⟩)
    all_goals first | (simp [jyOk, h1, h2, h3, ifI]; done) | (repeat (first | exact Below.refl _ _ | refine Below.drew ?_ | refine below_drewN ?_ _ | refine Below.setCell ?_ (by first | omega | (simp; done) | (simp; omega)) _ | refine Below.alloc ?_ (by first | omega | (simp; done) | (simp; omega)) _ | refine bchain ?_ (by assumption) (by first | omega | (simp; done) | (simp; omega))))
end Go.Proofs.Ytikoapdjfnahhab
