/- Contracts of chapter 1's functions, the program's and the model's, over one translation. -/
import Derived.Test.YtadfjepfjbllmaaProg
import Derived.Test.YtadfjepfjbllmaaOneWalks
import Derived.WalkKit
import Derived.WalkSpells
import Derived.WalkLawsBesides
import Derived.Lib.Hide
import Derived.Deep.RegionWith
namespace Go.Proofs.Ytadfjepfjbllmaa
open Go.RowKit
set_option linter.unusedVariables false
set_option linter.unusedSimpArgs false
set_option maxHeartbeats 2000000 in
theorem leadBelow_any (u d v z n y : Int) (hs : snOk u d = true) (ht : snOk v z = true) (hn : inB n 1 1000000 = true) (hy : inB y 1 1000000 = true) (w : World) :
    Calls Try.prog 28 #[.agg #[.int .i64 u, .int .i64 d], .agg #[.int .i64 v, .int .i64 z], .int .i64 n, .int .i64 y] w fun e w' => e = .returned (.int .i64 (low n (far u d y) - low n (far v z y))) ∧ Below w.heap.size w w' := by
  have f1 := far_bd u d y hs hy
  have l1 := low_bd n (far u d y)
  have f2 := far_bd v z y ht hy
  have l2 := low_bd n (far v z y)
  have nl := inB_iff.1 hn
  have nl1 := nl.1
  have nl2 := nl.2
  clear nl
  go_enter Try.func28, Try.ntmps28
  go_wp2_with fail
  go_region_with (first | (go_at_call_of 38 (Value.agg #[.int .i64 u, .int .i64 d]); refine (eveningBelow_any u d n y hs hy hn _).mono ?_; rintro e w1 ⟨rfl, hb⟩; have hc := (bcell hb).1; have hf := (bcell hb).2; have hz : w.heap.size < w1.heap.size ∧ w.heap.size + 1 < w1.heap.size := (by have := hb.size; (try simp at this); omega); have hcA := fun o => (bcell hb).1 w.heap.size o (by first | omega | (simp; omega) | (simp; done)); have hcB := fun o => (bcell hb).1 (w.heap.size + 1) o (by first | omega | (simp; omega) | (simp; done))) | (go_at_call_of 38 (Value.agg #[.int .i64 v, .int .i64 z]); refine (eveningBelow_any v z n y ht hy hn _).mono ?_; rintro e w1 ⟨rfl, hb⟩; have hc := (bcell hb).1; have hf := (bcell hb).2; have hz : w.heap.size < w1.heap.size ∧ w.heap.size + 1 < w1.heap.size := (by have := hb.size; (try simp at this); omega); have hcA := fun o => (bcell hb).1 w.heap.size o (by first | omega | (simp; omega) | (simp; done)); have hcB := fun o => (bcell hb).1 (w.heap.size + 1) o (by first | omega | (simp; omega) | (simp; done))))
  all_goals go_wp2
  all_goals (go_ret; refine ⟨rI ?_, ?_⟩)
  all_goals first | rfl | (rw [IntWalk.i64_in _ (by omega)]) | (repeat (first | exact Below.refl _ _ | refine Below.drew ?_ | refine Below.alloc ?_ (by first | omega | (simp; done) | (simp; omega)) _ | refine bchain ?_ (by assumption) (by first | omega | (simp; done) | (simp; omega))))
set_option maxHeartbeats 2000000 in
theorem specLeadOf (u d v z n y : Int) (w : World) :
    Calls Try.prog 7 #[.agg #[.int .i64 u, .int .i64 d], .agg #[.int .i64 v, .int .i64 z], .int .i64 n, .int .i64 y] w fun e w' => e = .returned (.tuple #[.int .i64 (if (snOk u d && snOk v z && inB n 1 1000000 && inB y 1 1000000) then low n (far u d y) - low n (far v z y) else 0), .bool (snOk u d && snOk v z && inB n 1 1000000 && inB y 1 1000000)]) ∧ Below w.heap.size w w' := by
  cases hs : snOk u d <;> cases ht : snOk v z <;> cases hn : inB n 1 1000000 <;> cases hy : inB y 1 1000000
  case true.true.true.true =>
    have f1 := far_bd u d y hs hy
    have l1 := low_bd n (far u d y)
    have f2 := far_bd v z y ht hy
    have l2 := low_bd n (far v z y)
    have nl := inB_iff.1 hn
    have nl1 := nl.1
    have nl2 := nl.2
    clear nl
    go_enter Try.func7, Try.ntmps7
    go_wp2_with (first | (go_at_call 45; refine (specIn _ _ _ _).mono ?_; rintro e w1 ⟨rfl, rfl⟩) | (go_at_call 54; refine (snGood_any _ _ _).mono ?_; rintro e w1 ⟨rfl, hb⟩; have hc := (bcell hb).1; have hf := (bcell hb).2; have hz : w.heap.size < w1.heap.size ∧ w.heap.size + 1 < w1.heap.size := (by have := hb.size; (try simp at this); omega); have hcA := fun o => (bcell hb).1 w.heap.size o (by first | omega | (simp; omega) | (simp; done)); have hcB := fun o => (bcell hb).1 (w.heap.size + 1) o (by first | omega | (simp; omega) | (simp; done))) | (go_at_call 34; refine (snCan_any _ _ _ _).mono ?_; rintro e w1 ⟨rfl, hb⟩; have hc := (bcell hb).1; have hf := (bcell hb).2; have hz : w.heap.size < w1.heap.size ∧ w.heap.size + 1 < w1.heap.size := (by have := hb.size; (try simp at this); omega); have hcA := fun o => (bcell hb).1 w.heap.size o (by first | omega | (simp; omega) | (simp; done)); have hcB := fun o => (bcell hb).1 (w.heap.size + 1) o (by first | omega | (simp; omega) | (simp; done))) | (go_at_call_of 32 (Value.agg #[.int .i64 u, .int .i64 d]); refine (snEvening_any u d y hs hy _).mono ?_; rintro e w1 ⟨rfl, hb⟩; have hc := (bcell hb).1; have hf := (bcell hb).2; have hz : w.heap.size < w1.heap.size ∧ w.heap.size + 1 < w1.heap.size := (by have := hb.size; (try simp at this); omega); have hcA := fun o => (bcell hb).1 w.heap.size o (by first | omega | (simp; omega) | (simp; done)); have hcB := fun o => (bcell hb).1 (w.heap.size + 1) o (by first | omega | (simp; omega) | (simp; done))) | (go_at_call_of 32 (Value.agg #[.int .i64 v, .int .i64 z]); refine (snEvening_any v z y ht hy _).mono ?_; rintro e w1 ⟨rfl, hb⟩; have hc := (bcell hb).1; have hf := (bcell hb).2; have hz : w.heap.size < w1.heap.size ∧ w.heap.size + 1 < w1.heap.size := (by have := hb.size; (try simp at this); omega); have hcA := fun o => (bcell hb).1 w.heap.size o (by first | omega | (simp; omega) | (simp; done)); have hcB := fun o => (bcell hb).1 (w.heap.size + 1) o (by first | omega | (simp; omega) | (simp; done))) | (go_at_call 31; refine (least_any _ _ _).mono ?_; rintro e w1 ⟨rfl, rfl⟩) | go_in)
    go_region_with (first | (go_at_call 45; refine (specIn _ _ _ _).mono ?_; rintro e w1 ⟨rfl, rfl⟩) | (go_at_call 54; refine (snGood_any _ _ _).mono ?_; rintro e w1 ⟨rfl, hb⟩; have hc := (bcell hb).1; have hf := (bcell hb).2; have hz : w.heap.size < w1.heap.size ∧ w.heap.size + 1 < w1.heap.size := (by have := hb.size; (try simp at this); omega); have hcA := fun o => (bcell hb).1 w.heap.size o (by first | omega | (simp; omega) | (simp; done)); have hcB := fun o => (bcell hb).1 (w.heap.size + 1) o (by first | omega | (simp; omega) | (simp; done))) | (go_at_call 34; refine (snCan_any _ _ _ _).mono ?_; rintro e w1 ⟨rfl, hb⟩; have hc := (bcell hb).1; have hf := (bcell hb).2; have hz : w.heap.size < w1.heap.size ∧ w.heap.size + 1 < w1.heap.size := (by have := hb.size; (try simp at this); omega); have hcA := fun o => (bcell hb).1 w.heap.size o (by first | omega | (simp; omega) | (simp; done)); have hcB := fun o => (bcell hb).1 (w.heap.size + 1) o (by first | omega | (simp; omega) | (simp; done))) | (go_at_call_of 32 (Value.agg #[.int .i64 u, .int .i64 d]); refine (snEvening_any u d y hs hy _).mono ?_; rintro e w1 ⟨rfl, hb⟩; have hc := (bcell hb).1; have hf := (bcell hb).2; have hz : w.heap.size < w1.heap.size ∧ w.heap.size + 1 < w1.heap.size := (by have := hb.size; (try simp at this); omega); have hcA := fun o => (bcell hb).1 w.heap.size o (by first | omega | (simp; omega) | (simp; done)); have hcB := fun o => (bcell hb).1 (w.heap.size + 1) o (by first | omega | (simp; omega) | (simp; done))) | (go_at_call_of 32 (Value.agg #[.int .i64 v, .int .i64 z]); refine (snEvening_any v z y ht hy _).mono ?_; rintro e w1 ⟨rfl, hb⟩; have hc := (bcell hb).1; have hf := (bcell hb).2; have hz : w.heap.size < w1.heap.size ∧ w.heap.size + 1 < w1.heap.size := (by have := hb.size; (try simp at this); omega); have hcA := fun o => (bcell hb).1 w.heap.size o (by first | omega | (simp; omega) | (simp; done)); have hcB := fun o => (bcell hb).1 (w.heap.size + 1) o (by first | omega | (simp; omega) | (simp; done))) | (go_at_call 31; refine (least_any _ _ _).mono ?_; rintro e w1 ⟨rfl, rfl⟩) | go_in)
    all_goals go_wp2
    all_goals (go_ret2; refine ⟨rIB ?_ ?_, ?_⟩)
    all_goals first | (simp [hs, ht, hn, hy]; done) | (rw [IntWalk.i64_in (low n (far u d y) - low n (far v z y)) (by omega)]) | (repeat (first | exact Below.refl _ _ | refine Below.drew ?_ | refine Below.alloc ?_ (by first | omega | (simp; done) | (simp; omega)) _ | refine bchain ?_ (by assumption) (by first | omega | (simp; done) | (simp; omega))))
  all_goals
    go_enter Try.func7, Try.ntmps7
    go_wp2_with (first | (go_at_call 45; refine (specIn _ _ _ _).mono ?_; rintro e w1 ⟨rfl, rfl⟩) | (go_at_call 54; refine (snGood_any _ _ _).mono ?_; rintro e w1 ⟨rfl, hb⟩; have hc := (bcell hb).1; have hf := (bcell hb).2; have hz : w.heap.size < w1.heap.size ∧ w.heap.size + 1 < w1.heap.size := (by have := hb.size; (try simp at this); omega); have hcA := fun o => (bcell hb).1 w.heap.size o (by first | omega | (simp; omega) | (simp; done)); have hcB := fun o => (bcell hb).1 (w.heap.size + 1) o (by first | omega | (simp; omega) | (simp; done))) | (go_at_call 34; refine (snCan_any _ _ _ _).mono ?_; rintro e w1 ⟨rfl, hb⟩; have hc := (bcell hb).1; have hf := (bcell hb).2; have hz : w.heap.size < w1.heap.size ∧ w.heap.size + 1 < w1.heap.size := (by have := hb.size; (try simp at this); omega); have hcA := fun o => (bcell hb).1 w.heap.size o (by first | omega | (simp; omega) | (simp; done)); have hcB := fun o => (bcell hb).1 (w.heap.size + 1) o (by first | omega | (simp; omega) | (simp; done))) | go_in)
    all_goals (go_ret2; refine ⟨rIB ?_ ?_, ?_⟩)
    all_goals first | (simp [hs, ht, hn, hy]; done) | (repeat (first | exact Below.refl _ _ | refine Below.drew ?_ | refine Below.alloc ?_ (by first | omega | (simp; done) | (simp; omega)) _ | refine bchain ?_ (by assumption) (by first | omega | (simp; done) | (simp; omega))))
set_option maxHeartbeats 2000000 in
theorem implLeadOf (u d v z n y : Int) (w : World) :
    Calls Try.prog 6 #[.agg #[.int .i64 u, .int .i64 d], .agg #[.int .i64 v, .int .i64 z], .int .i64 n, .int .i64 y] w fun e w' => e = .returned (.tuple #[.int .i64 (if (snOk u d && snOk v z && inB n 1 1000000 && inB y 1 1000000) then low n (far u d y) - low n (far v z y) else 0), .bool (snOk u d && snOk v z && inB n 1 1000000 && inB y 1 1000000)]) ∧ Below w.heap.size w w' := by
  cases hs : snOk u d <;> cases ht : snOk v z <;> cases hn : inB n 1 1000000 <;> cases hy : inB y 1 1000000
  all_goals
    go_enter Try.func6, Try.ntmps6
    go_wp2_with (first | (go_at_call 41; refine (implIn _ _ _ _).mono ?_; rintro e w1 ⟨rfl, rfl⟩) | (go_at_call 25; refine (implIsSnail _ _ _).mono ?_; rintro e w1 ⟨rfl, hb⟩; have hc := (bcell hb).1; have hf := (bcell hb).2; have hz : w.heap.size < w1.heap.size ∧ w.heap.size + 1 < w1.heap.size := (by have := hb.size; (try simp at this); omega); have hcA := fun o => (bcell hb).1 w.heap.size o (by first | omega | (simp; omega) | (simp; done)); have hcB := fun o => (bcell hb).1 (w.heap.size + 1) o (by first | omega | (simp; omega) | (simp; done))) | (go_at_call 28; refine (leadBelow_any u d v z n y hs ht hn hy _).mono ?_; rintro e w1 ⟨rfl, hb⟩; have hc := (bcell hb).1; have hf := (bcell hb).2; have hz : w.heap.size < w1.heap.size ∧ w.heap.size + 1 < w1.heap.size := (by have := hb.size; (try simp at this); omega); have hcA := fun o => (bcell hb).1 w.heap.size o (by first | omega | (simp; omega) | (simp; done)); have hcB := fun o => (bcell hb).1 (w.heap.size + 1) o (by first | omega | (simp; omega) | (simp; done))) | go_in)
    all_goals (go_ret2; refine ⟨rIB ?_ ?_, ?_⟩)
    all_goals first | (simp [hs, ht, hn, hy]; done) | (repeat (first | exact Below.refl _ _ | refine Below.drew ?_ | refine Below.alloc ?_ (by first | omega | (simp; done) | (simp; omega)) _ | refine bchain ?_ (by assumption) (by first | omega | (simp; done) | (simp; omega))))
end Go.Proofs.Ytadfjepfjbllmaa
