/- Contracts of chapter 2's functions on numbers and walkers, the program's and the model's, over one translation. -/
import Derived.Test.YtikfblbfodacaaaProg
import Derived.Test.YtikfblbfodacaaaTwoWalks
import Derived.Test.YtikfblbfodacaaaTwoMathB
import Derived.WalkKit
import Derived.WalkSpells
import Derived.WalkLawsBesides
import Derived.Lib.Hide
import Derived.Deep.RegionWith
import Derived.Deep.RegionHeld3
import Derived.Deep.QuietTactic
import Derived.BigQuiet
namespace Go.Proofs.Ytikfblbfodacaaa
open Go.RowKit
set_option linter.unusedVariables false
set_option linter.unusedSimpArgs false
set_option maxHeartbeats 2000000 in
theorem meMod_any (n m : Int) (h1 : 1 ≤ m) (h2 : m ≤ 1000) (h3 : -1000000000000 ≤ n) (h4 : n ≤ 1000000000000) (w : World) :
    Calls Try.prog 26 #[.int .i64 n, .int .i64 m] w fun e w' => e = .returned (.int .i64 (mo n m)) ∧ w' = w := by
  have b := tmod_bd n m h1
  have e := Lib.hid (mo_eq n m h1)
  have x0 : ¬ m = 0 := by omega
  have x1 : (m == 0) = false := by simp; omega
  have x2 : ¬ m = -1 := by omega
  go_enter Try.func26, Try.ntmps26
  go_wp2
  go_ret
  exact ⟨rI (by first | exact e.out | (rw [← e.out]; rfl) | (rw [← e.out, Int.tmod_eq_emod_of_nonneg (by omega)])), rfl⟩
set_option maxHeartbeats 2000000 in
theorem leastRest_any (n m : Int) (h1 : 1 ≤ m) (h2 : m ≤ 1000) (h3 : -1000000000000 ≤ n) (h4 : n ≤ 1000000000000) (w : World) :
    Calls Try.prog 54 #[.int .i64 n, .int .i64 m] w fun e w' => e = .returned (.int .i64 (mo n m)) ∧ w' = w := by
  have b := tmod_bd n m h1
  have e := Lib.hid (mo_eq n m h1)
  have x0 : ¬ m = 0 := by omega
  have x1 : (m == 0) = false := by simp; omega
  have x2 : ¬ m = -1 := by omega
  go_enter Try.func54, Try.ntmps54
  go_wp2
  go_ret
  exact ⟨rI (by first | exact e.out | (rw [← e.out]; rfl) | (rw [← e.out, Int.tmod_eq_emod_of_nonneg (by omega)])), rfl⟩
set_option maxHeartbeats 2000000 in
theorem meRing_any (m p s q r : Int) (w : World) :
    Calls Try.prog 24 #[.int .i64 m, .agg #[.int .i64 p, .int .i64 s], .agg #[.int .i64 q, .int .i64 r]] w fun e w' => e = .returned (.bool (inB m 1 1000 && wkOk p s && wkOk q r)) ∧ Below w.heap.size w w' := by
  cases hm : inB m 1 1000 <;> cases hv : wkOk p s <;> cases hw : wkOk q r
  all_goals
    go_enter Try.func24, Try.ntmps24
    go_wp2_with (first | (go_at_call 35; refine (specIn _ _ _ _).mono ?_; rintro e w1 ⟨rfl, rfl⟩) | (go_at_call 41; refine (meGood_any _ _ _).mono ?_; rintro e w1 ⟨rfl, hb⟩; have hc := (bcell hb).1; have hf := (bcell hb).2; have hz : w.heap.size ≤ w1.heap.size := (by have := hb.size; (try simp at this); omega); have hz0 : w.heap.size < w1.heap.size := (by have := hb.size; (try simp at this); omega); have hcA0 := fun o => (bcell hb).1 (w.heap.size) o (by first | omega | (simp; omega) | (simp; done)); have hfA0 := fun o => (bcell hb).2 (w.heap.size) o (by first | omega | (simp; omega) | (simp; done)); have hz1 : w.heap.size + 1 < w1.heap.size := (by have := hb.size; (try simp at this); omega); have hcA1 := fun o => (bcell hb).1 (w.heap.size + 1) o (by first | omega | (simp; omega) | (simp; done)); have hfA1 := fun o => (bcell hb).2 (w.heap.size + 1) o (by first | omega | (simp; omega) | (simp; done))) | go_in)
    all_goals (go_ret; refine ⟨rB ?_, ?_⟩)
    all_goals first | (simp [hm, hv, hw]; done) | (repeat (first | exact Below.refl _ _ | refine Below.drew ?_ | refine below_drewN ?_ _ | refine Below.setCell ?_ (by first | omega | (simp; done) | (simp; omega)) _ | refine Below.alloc ?_ (by first | omega | (simp; done) | (simp; omega)) _ | refine bchain ?_ (by assumption) (by first | omega | (simp; done) | (simp; omega))))
set_option maxHeartbeats 2000000 in
theorem isAround_any (m : Int) (w : World) :
    Calls Try.prog 43 #[.int .i64 m] w fun e w' => e = .returned (.bool (inB m 1 1000)) ∧ w = w' := by
  go_enter Try.func43, Try.ntmps43
  go_wp2_with (first | (go_at_call 51; refine (implIn _ _ _ _).mono ?_; rintro e w1 ⟨rfl, rfl⟩) | go_in)
  all_goals (go_ret; refine ⟨rB ?_, rfl⟩)
  all_goals first | rfl | (repeat (first | exact Below.refl _ _ | refine Below.drew ?_ | refine below_drewN ?_ _ | refine Below.setCell ?_ (by first | omega | (simp; done) | (simp; omega)) _ | refine Below.alloc ?_ (by first | omega | (simp; done) | (simp; omega)) _ | refine bchain ?_ (by assumption) (by first | omega | (simp; done) | (simp; omega))))
set_option maxHeartbeats 2000000 in
theorem isRing_any (m p s q r : Int) (w : World) :
    Calls Try.prog 29 #[.int .i64 m, .agg #[.int .i64 p, .int .i64 s], .agg #[.int .i64 q, .int .i64 r]] w fun e w' => e = .returned (.bool (inB m 1 1000 && wkOk p s && wkOk q r)) ∧ Below w.heap.size w w' := by
  cases hm : inB m 1 1000 <;> cases hv : wkOk p s <;> cases hw : wkOk q r
  all_goals
    go_enter Try.func29, Try.ntmps29
    go_wp2_with (first | (go_at_call 51; refine (implIn _ _ _ _).mono ?_; rintro e w1 ⟨rfl, rfl⟩) | (go_at_call 44; refine (implIsWalker _ _ _).mono ?_; rintro e w1 ⟨rfl, hb⟩; have hc := (bcell hb).1; have hf := (bcell hb).2; have hz : w.heap.size ≤ w1.heap.size := (by have := hb.size; (try simp at this); omega); have hz0 : w.heap.size < w1.heap.size := (by have := hb.size; (try simp at this); omega); have hcA0 := fun o => (bcell hb).1 (w.heap.size) o (by first | omega | (simp; omega) | (simp; done)); have hfA0 := fun o => (bcell hb).2 (w.heap.size) o (by first | omega | (simp; omega) | (simp; done)); have hz1 : w.heap.size + 1 < w1.heap.size := (by have := hb.size; (try simp at this); omega); have hcA1 := fun o => (bcell hb).1 (w.heap.size + 1) o (by first | omega | (simp; omega) | (simp; done)); have hfA1 := fun o => (bcell hb).2 (w.heap.size + 1) o (by first | omega | (simp; omega) | (simp; done))) | (go_at_call 43; refine (isAround_any _ _).mono ?_; rintro e w1 ⟨rfl, rfl⟩) | go_in)
    all_goals (go_ret; refine ⟨rB ?_, ?_⟩)
    all_goals first | (simp [hm, hv, hw]; done) | (repeat (first | exact Below.refl _ _ | refine Below.drew ?_ | refine below_drewN ?_ _ | refine Below.setCell ?_ (by first | omega | (simp; done) | (simp; omega)) _ | refine Below.alloc ?_ (by first | omega | (simp; done) | (simp; omega)) _ | refine bchain ?_ (by assumption) (by first | omega | (simp; done) | (simp; omega))))
set_option maxHeartbeats 2000000 in
theorem newRing_any (m p s q r : Int) (w : World) :
    Calls Try.prog 30 #[.int .i64 m, .agg #[.int .i64 p, .int .i64 s], .agg #[.int .i64 q, .int .i64 r]] w fun e w' => e = .returned (.agg #[.int .i64 p, .int .i64 s, .int .i64 q, .int .i64 r, .int .i64 m]) ∧ Below w.heap.size w w' := by
  go_enter Try.func30, Try.ntmps30
  go_wp2_with fail
  (refine bodyPost_ret (v := .agg #[.int .i64 p, .int .i64 s, .int .i64 q, .int .i64 r, .int .i64 m]) (by simp [results, Try.results30, go_sem]; done) rfl ⟨rfl, ?_⟩)
  (repeat (first | exact Below.refl _ _ | refine Below.drew ?_ | refine below_drewN ?_ _ | refine Below.setCell ?_ (by first | omega | (simp; done) | (simp; omega)) _ | refine Below.alloc ?_ (by first | omega | (simp; done) | (simp; omega)) _ | refine bchain ?_ (by assumption) (by first | omega | (simp; done) | (simp; omega))))
end Go.Proofs.Ytikfblbfodacaaa
