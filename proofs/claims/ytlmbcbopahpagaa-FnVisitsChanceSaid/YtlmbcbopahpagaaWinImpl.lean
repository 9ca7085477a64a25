/- Contracts of chapter 8's functions on numbers, the program's, over one translation. -/
import Derived.Test.YtlmbcbopahpagaaProg
import Derived.Test.YtlmbcbopahpagaaWinMath2
import Derived.Test.YtlmbcbopahpagaaWinWalks
import Derived.Test.YtlmbcbopahpagaaCmpI
import Derived.Test.YtlmbcbopahpagaaTwoWalks
import Derived.Test.YtlmbcbopahpagaaOneWalks
import Derived.WalkKit
import Derived.WalkSpells
import Derived.WalkLawsBesides
import Derived.Lib.Hide
import Derived.Deep.RegionWith
import Derived.Deep.RegionHeld3
import Derived.Deep.QuietTactic
import Derived.Deep.LoopGhost
import Derived.BigQuiet
namespace Go.Proofs.Ytlmbcbopahpagaa
open Go.RowKit
set_option linter.unusedVariables false
set_option linter.unusedSimpArgs false
set_option maxHeartbeats 2000000 in
theorem isSpan_any (n : Int) (w : World) :
    Calls Try.prog 31 #[.int .i64 n] w fun e w' => e = .returned (.bool (inB n 1 200)) ∧ w = w' := by
  go_enter Try.func31, Try.ntmps31
  go_wp2_with (first | (go_at_call 38; refine (implIn _ _ _ _).mono ?_; rintro e w1 ⟨rfl, rfl⟩) | go_in)
  all_goals (go_ret; refine ⟨rB ?_, rfl⟩)
  all_goals first | rfl | (repeat (first | exact Below.refl _ _ | refine Below.drew ?_ | refine below_drewN ?_ _ | refine Below.setCell ?_ (by first | omega | (simp; done) | (simp; omega)) _ | refine Below.alloc ?_ (by first | omega | (simp; done) | (simp; omega)) _ | refine bchain ?_ (by assumption) (by first | omega | (simp; done) | (simp; omega))))
set_option maxHeartbeats 2000000 in
theorem isStay_any (n : Int) (w : World) :
    Calls Try.prog 32 #[.int .i64 n] w fun e w' => e = .returned (.bool (inB n 0 200)) ∧ w = w' := by
  go_enter Try.func32, Try.ntmps32
  go_wp2_with (first | (go_at_call 38; refine (implIn _ _ _ _).mono ?_; rintro e w1 ⟨rfl, rfl⟩) | go_in)
  all_goals (go_ret; refine ⟨rB ?_, rfl⟩)
  all_goals first | rfl | (repeat (first | exact Below.refl _ _ | refine Below.drew ?_ | refine below_drewN ?_ _ | refine Below.setCell ?_ (by first | omega | (simp; done) | (simp; omega)) _ | refine Below.alloc ?_ (by first | omega | (simp; done) | (simp; omega)) _ | refine bchain ?_ (by assumption) (by first | omega | (simp; done) | (simp; omega))))
set_option maxHeartbeats 2000000 in
theorem tooLate_any (m s : Int) (h1 : 1 ≤ m) (h2 : m ≤ 200) (h3 : 0 ≤ s) (h4 : s ≤ 200) (w : World) :
    Calls Try.prog 33 #[.int .i64 m, .int .i64 s] w fun e w' => e = .returned (.int .i64 (wtri (m - 1 - s))) ∧ w = w' := by
  by_cases hk : m - 1 - s ≤ 0
  · have e : wtri (m - 1 - s) = 0 := by unfold wtri; rw [if_pos hk]
    rw [e]
    have hk2 : hig 0 (m - 1 - s) = 0 := by unfold hig; split <;> omega
    go_enter Try.func33, Try.ntmps33
    go_wp2
    all_goals (go_ret; refine ⟨rI ?_, rfl⟩)
    all_goals first | rfl | (simp; done) | omega | (exfalso; omega)
  · obtain ⟨k, hm⟩ : ∃ k, m - 1 - s = k := ⟨_, rfl⟩
    have e : wtri k = k * (k + 1) / 2 := by unfold wtri; rw [if_neg (by omega)]
    have hb := mul_bd k (k + 1) 200 201 (by omega) (by omega) (by omega) (by omega)
    have e2 : (k * (k + 1)).tdiv 2 = k * (k + 1) / 2 := Int.tdiv_eq_ediv_of_nonneg (by omega)
    have k1 : 0 < k := by omega
    rw [hm, e]
    go_enter Try.func33, Try.ntmps33
    go_wp2
    all_goals (go_ret; refine ⟨rI ?_, rfl⟩)
    all_goals first | exact e2 | rfl | (simp [e2]; done) | (exfalso; omega)
set_option maxHeartbeats 2000000 in
theorem implCountTogether (m a b : Int) (w : World) :
    Calls Try.prog 6 #[.int .i64 m, .int .i64 a, .int .i64 b] w fun e w' => e = .returned (.tuple #[.int .i64 (ifI (wmOk m a b) (wtN m a b)), .bool (wmOk m a b)]) ∧ Below w.heap.size w w' := by
  cases h1 : inB m 1 200 <;> cases h2 : inB a 0 200 <;> cases h3 : inB b 0 200
  case true.true.true =>
    have hv : wmOk m a b = true := by simp [wmOk, h1, h2, h3]
    obtain ⟨b1, b2, b3, b4, b5, b6⟩ := wmOk_iff.1 hv
    have e1 := wtN_eq hv
    have d1 := wtri_bd (m - 1 - a) (by omega)
    have d2 := wtri_bd (m - 1 - b) (by omega)
    have d3 := mul_bd m m 200 200 (by omega) (by omega) (by omega) (by omega)
    have HL1 := Lib.hid (fun w => tooLate_any m a (by omega) (by omega) (by omega) (by omega) w)
    have HL2 := Lib.hid (fun w => tooLate_any m b (by omega) (by omega) (by omega) (by omega) w)
    rw [e1]
    generalize wtri (m - 1 - a) = p at *
    generalize wtri (m - 1 - b) = q at *
    clear e1
    go_enter Try.func6, Try.ntmps6
    go_wp2_with (first | (go_at_call 31; refine (isSpan_any _ _).mono ?_; rintro e w1 ⟨rfl, rfl⟩) | (go_at_call_of 32 (Value.int .i64 a); refine (isStay_any _ _).mono ?_; rw [h2]; rintro e w1 ⟨rfl, rfl⟩) | (go_at_call_of 32 (Value.int .i64 b); refine (isStay_any _ _).mono ?_; rw [h3]; rintro e w1 ⟨rfl, rfl⟩) | (go_at_call_of 33 (Value.int .i64 a); refine (HL1.out _).mono ?_; rintro e w1 ⟨rfl, rfl⟩) | (go_at_call_of 33 (Value.int .i64 b); refine (HL2.out _).mono ?_; rintro e w1 ⟨rfl, rfl⟩) | go_in)
    all_goals try ((go_quiet (first | (go_at_call_of 33 (Value.int .i64 a); refine (HL1.out _).mono ?_; rintro e w1 ⟨rfl, rfl⟩) | (go_at_call_of 33 (Value.int .i64 b); refine (HL2.out _).mono ?_; rintro e w1 ⟨rfl, rfl⟩))); go_wp2_with (first | (go_at_call 31; refine (isSpan_any _ _).mono ?_; rintro e w1 ⟨rfl, rfl⟩) | (go_at_call_of 32 (Value.int .i64 a); refine (isStay_any _ _).mono ?_; rw [h2]; rintro e w1 ⟨rfl, rfl⟩) | (go_at_call_of 32 (Value.int .i64 b); refine (isStay_any _ _).mono ?_; rw [h3]; rintro e w1 ⟨rfl, rfl⟩) | (go_at_call_of 33 (Value.int .i64 a); refine (HL1.out _).mono ?_; rintro e w1 ⟨rfl, rfl⟩) | (go_at_call_of 33 (Value.int .i64 b); refine (HL2.out _).mono ?_; rintro e w1 ⟨rfl, rfl⟩) | go_in))
    all_goals (go_ret2; refine ⟨rIB ?_ ?_, ?_⟩)
    all_goals first | (simp [wmOk, h1, h2, h3, ifI]; done) | (repeat (first | exact Below.refl _ _ | refine Below.drew ?_ | refine below_drewN ?_ _ | refine Below.setCell ?_ (by first | omega | (simp; done) | (simp; omega)) _ | refine Below.alloc ?_ (by first | omega | (simp; done) | (simp; omega)) _ | refine bchain ?_ (by assumption) (by first | omega | (simp; done) | (simp; omega))))
  all_goals
    go_enter Try.func6, Try.ntmps6
    go_wp2_with (first | (go_at_call 31; refine (isSpan_any _ _).mono ?_; rintro e w1 ⟨rfl, rfl⟩) | (go_at_call_of 32 (Value.int .i64 a); refine (isStay_any _ _).mono ?_; rw [h2]; rintro e w1 ⟨rfl, rfl⟩) | (go_at_call_of 32 (Value.int .i64 b); refine (isStay_any _ _).mono ?_; rw [h3]; rintro e w1 ⟨rfl, rfl⟩) | go_in)
    all_goals try ((go_quiet (fail)); go_wp2_with (first | (go_at_call 31; refine (isSpan_any _ _).mono ?_; rintro e w1 ⟨rfl, rfl⟩) | (go_at_call_of 32 (Value.int .i64 a); refine (isStay_any _ _).mono ?_; rw [h2]; rintro e w1 ⟨rfl, rfl⟩) | (go_at_call_of 32 (Value.int .i64 b); refine (isStay_any _ _).mono ?_; rw [h3]; rintro e w1 ⟨rfl, rfl⟩) | go_in))
    all_goals (go_ret2; refine ⟨rIB ?_ ?_, ?_⟩)
    all_goals first | (simp [wmOk, h1, h2, h3, ifI]; done) | (repeat (first | exact Below.refl _ _ | refine Below.drew ?_ | refine below_drewN ?_ _ | refine Below.setCell ?_ (by first | omega | (simp; done) | (simp; omega)) _ | refine Below.alloc ?_ (by first | omega | (simp; done) | (simp; omega)) _ | refine bchain ?_ (by assumption) (by first | omega | (simp; done) | (simp; omega))))
set_option maxHeartbeats 2000000 in
theorem implChanceTogether (m a b : Int) (w : World) :
    Calls Try.prog 8 #[.int .i64 m, .int .i64 a, .int .i64 b] w fun e w' => e = .returned (.tuple #[.int .i64 (ifI (wmOk m a b) (lwN (wtN m a b) (m * m))), .int .i64 (ifI (wmOk m a b) (lwD (wtN m a b) (m * m))), .bool (wmOk m a b)]) ∧ Below w.heap.size w w' := by
  cases hv : wmOk m a b
  case false =>
    go_enter Try.func8, Try.ntmps8
    go_wp2_with (first | (go_at_call 6; refine (implCountTogether _ _ _ _).mono ?_; rw [hv]; rintro e w1 ⟨rfl, hb⟩; have hc := (bcell hb).1; have hf := (bcell hb).2; have hz : w.heap.size ≤ w1.heap.size := (by have := hb.size; (try simp at this); omega)) | go_in)
    all_goals (go_ret3; refine ⟨rII ?_ ?_ ?_, ?_⟩)
    all_goals first | (simp [ifI]; done) | (repeat (first | exact Below.refl _ _ | refine Below.drew ?_ | refine below_drewN ?_ _ | refine Below.setCell ?_ (by first | omega | (simp; done) | (simp; omega)) _ | refine Below.alloc ?_ (by first | omega | (simp; done) | (simp; omega)) _ | refine bchain ?_ (by assumption) (by first | omega | (simp; done) | (simp; omega))))
  case true =>
    have v1 := wtN_bd hv
    have v2 := wmOk_iff.1 hv
    have e0 : ifI true (wtN m a b) = wtN m a b := rfl
    have HC := Lib.hid (fun w => implCountTogether m a b w)
    rw [hv, e0] at HC
    generalize wtN m a b = t at *
    go_enter Try.func8, Try.ntmps8
    go_wp2_with (first | (go_at_call 6; refine (HC.out _).mono ?_; rintro e w1 ⟨rfl, hb⟩; have hc := (bcell hb).1; have hf := (bcell hb).2; have hz : w.heap.size ≤ w1.heap.size := (by have := hb.size; (try simp at this); omega)) | (go_at_call 36; refine (lowest_any (t) (m * m) (by omega) (by omega) (by omega) (by omega) _).mono ?_; rintro e w1 ⟨rfl, hb⟩; have hc := (bcell hb).1; have hf := (bcell hb).2; have hz : w.heap.size ≤ w1.heap.size := (by have := hb.size; (try simp at this); omega)) | go_in)
    all_goals try ((go_quiet (fail)); go_wp2_with (first | (go_at_call 6; refine (HC.out _).mono ?_; rintro e w1 ⟨rfl, hb⟩; have hc := (bcell hb).1; have hf := (bcell hb).2; have hz : w.heap.size ≤ w1.heap.size := (by have := hb.size; (try simp at this); omega)) | (go_at_call 36; refine (lowest_any (t) (m * m) (by omega) (by omega) (by omega) (by omega) _).mono ?_; rintro e w1 ⟨rfl, hb⟩; have hc := (bcell hb).1; have hf := (bcell hb).2; have hz : w.heap.size ≤ w1.heap.size := (by have := hb.size; (try simp at this); omega)) | go_in))
    all_goals (go_ret3; refine ⟨rII ?_ ?_ ?_, ?_⟩)
    all_goals first | (simp [ifI]; done) | (repeat (first | exact Below.refl _ _ | refine Below.drew ?_ | refine below_drewN ?_ _ | refine Below.setCell ?_ (by first | omega | (simp; done) | (simp; omega)) _ | refine Below.alloc ?_ (by first | omega | (simp; done) | (simp; omega)) _ | refine bchain ?_ (by assumption) (by first | omega | (simp; done) | (simp; omega))))
set_option maxHeartbeats 2000000 in
theorem chance_any (l a b : Int) (hv : wlOk l a b = true) (w : World) :
    Calls Try.prog 44 #[.int .i64 l, .int .i64 a, .int .i64 b] w fun e w' => e = .returned (.agg #[.int .i64 (lwN (wsS l a b) (2 * l * l)), .int .i64 (lwD (wsS l a b) (2 * l * l))]) ∧ Below w.heap.size w w' := by
  have v1 := wsS_bd hv
  have v2 := wlOk_iff.1 hv
  have v3 : 0 ≤ 2 * l ∧ 2 * l ≤ 400 := by omega
  have v4 : wsS l a b = 2 * l * l - (l - a) * (l - a) - (l - b) * (l - b) := rfl
  have HL := Lib.hid (fun w => lowest_any (2 * l * l - (l - a) * (l - a) - (l - b) * (l - b)) (2 * l * l) (by omega) (by omega) (by omega) (by omega) w)
  rw [← v4] at HL
  generalize hP : lwN (wsS l a b) (2 * l * l) = p at *
  generalize hQ : lwD (wsS l a b) (2 * l * l) = q at *
  clear hP hQ
  rw [v4] at HL
  go_enter Try.func44, Try.ntmps44
  go_wp2_with (first | (go_at_call 36; refine (HL.out _).mono ?_; rintro e w1 ⟨rfl, hb⟩; have hc := (bcell hb).1; have hf := (bcell hb).2; have hz : w.heap.size ≤ w1.heap.size := (by have := hb.size; (try simp at this); omega); have hz0 : w.heap.size < w1.heap.size := (by have := hb.size; (try simp at this); omega); have hcA0 := fun o => (bcell hb).1 (w.heap.size) o (by first | omega | (simp; omega) | (simp; done)); have hfA0 := fun o => (bcell hb).2 (w.heap.size) o (by first | omega | (simp; omega) | (simp; done))))
  all_goals (refine bodyPost_ret (v := .agg #[.int .i64 p, .int .i64 q]) (by have e0 : (w1.cell? ⟨w.heap.size, 0, none⟩).isSome = true := (by first | (rw [hcA0]; go_simp; done) | (go_simp; done)); have e1 : (w1.cell? ⟨w.heap.size, 1, none⟩).isSome = true := (by first | (rw [hcA0]; go_simp; done) | (go_simp; done)); (try clear hcA0 hfA0); simp [results, Try.results44, go_sem, e0, e1]; done) rfl ⟨?_, ?_⟩)
  all_goals first | rfl | (repeat (first | exact Below.refl _ _ | refine Below.drew ?_ | refine below_drewN ?_ _ | refine Below.setCell ?_ (by first | omega | (simp; done) | (simp; omega)) _ | refine Below.alloc ?_ (by first | omega | (simp; done) | (simp; omega)) _ | refine bchain ?_ (by assumption) (by first | omega | (simp; done) | (simp; omega))))
set_option maxHeartbeats 2000000 in
theorem implChanceOfStays (l a b : Int) (w : World) :
    Calls Try.prog 17 #[.int .i64 l, .int .i64 a, .int .i64 b] w fun e w' => e = .returned (.tuple #[.int .i64 (ifI (wlOk l a b) (lwN (wsS l a b) (2 * l * l))), .int .i64 (ifI (wlOk l a b) (lwD (wsS l a b) (2 * l * l))), .bool (wlOk l a b)]) ∧ Below w.heap.size w w' := by
  cases h1 : inB l 1 200 <;> cases h2 : inB a 0 l <;> cases h3 : inB b 0 l
  case true.true.true =>
    have hv : wlOk l a b = true := by simp [wlOk, h1, h2, h3]
    have HC := Lib.hid (fun w => chance_any l a b hv w)
    generalize lwN (wsS l a b) (2 * l * l) = p at *
    generalize lwD (wsS l a b) (2 * l * l) = q at *
    go_enter Try.func17, Try.ntmps17
    go_wp2_with (first | (go_at_call 31; refine (isSpan_any _ _).mono ?_; rintro e w1 ⟨rfl, rfl⟩) | (go_at_call_of 38 (Value.int .i64 a); refine (implIn _ _ _ _).mono ?_; rw [h2]; rintro e w1 ⟨rfl, rfl⟩) | (go_at_call_of 38 (Value.int .i64 b); refine (implIn _ _ _ _).mono ?_; rw [h3]; rintro e w1 ⟨rfl, rfl⟩) | (go_at_call 44; refine (HC.out _).mono ?_; rintro e w1 ⟨rfl, hb⟩; have hc := (bcell hb).1; have hf := (bcell hb).2; have hz : w.heap.size ≤ w1.heap.size := (by have := hb.size; (try simp at this); omega)) | go_in)
    all_goals try ((go_quiet (fail)); go_wp2_with (first | (go_at_call 31; refine (isSpan_any _ _).mono ?_; rintro e w1 ⟨rfl, rfl⟩) | (go_at_call_of 38 (Value.int .i64 a); refine (implIn _ _ _ _).mono ?_; rw [h2]; rintro e w1 ⟨rfl, rfl⟩) | (go_at_call_of 38 (Value.int .i64 b); refine (implIn _ _ _ _).mono ?_; rw [h3]; rintro e w1 ⟨rfl, rfl⟩) | (go_at_call 44; refine (HC.out _).mono ?_; rintro e w1 ⟨rfl, hb⟩; have hc := (bcell hb).1; have hf := (bcell hb).2; have hz : w.heap.size ≤ w1.heap.size := (by have := hb.size; (try simp at this); omega)) | go_in))
    all_goals (go_ret3; refine ⟨rII ?_ ?_ ?_, ?_⟩)
    all_goals first | (simp [wlOk, h1, h2, h3, ifI]; done) | (repeat (first | exact Below.refl _ _ | refine Below.drew ?_ | refine below_drewN ?_ _ | refine Below.setCell ?_ (by first | omega | (simp; done) | (simp; omega)) _ | refine Below.alloc ?_ (by first | omega | (simp; done) | (simp; omega)) _ | refine bchain ?_ (by assumption) (by first | omega | (simp; done) | (simp; omega))))
  all_goals
    go_enter Try.func17, Try.ntmps17
    go_wp2_with (first | (go_at_call 31; refine (isSpan_any _ _).mono ?_; rintro e w1 ⟨rfl, rfl⟩) | (go_at_call_of 38 (Value.int .i64 a); refine (implIn _ _ _ _).mono ?_; rw [h2]; rintro e w1 ⟨rfl, rfl⟩) | (go_at_call_of 38 (Value.int .i64 b); refine (implIn _ _ _ _).mono ?_; rw [h3]; rintro e w1 ⟨rfl, rfl⟩) | go_in)
    all_goals try ((go_quiet (fail)); go_wp2_with (first | (go_at_call 31; refine (isSpan_any _ _).mono ?_; rintro e w1 ⟨rfl, rfl⟩) | (go_at_call_of 38 (Value.int .i64 a); refine (implIn _ _ _ _).mono ?_; rw [h2]; rintro e w1 ⟨rfl, rfl⟩) | (go_at_call_of 38 (Value.int .i64 b); refine (implIn _ _ _ _).mono ?_; rw [h3]; rintro e w1 ⟨rfl, rfl⟩) | go_in))
    all_goals (go_ret3; refine ⟨rII ?_ ?_ ?_, ?_⟩)
    all_goals first | (simp [wlOk, h1, h2, h3, ifI]; done) | (repeat (first | exact Below.refl _ _ | refine Below.drew ?_ | refine below_drewN ?_ _ | refine Below.setCell ?_ (by first | omega | (simp; done) | (simp; omega)) _ | refine Below.alloc ?_ (by first | omega | (simp; done) | (simp; omega)) _ | refine bchain ?_ (by assumption) (by first | omega | (simp; done) | (simp; omega))))
set_option maxHeartbeats 2000000 in
theorem implEvenChance (l a : Int) (w : World) :
    Calls Try.prog 14 #[.int .i64 l, .int .i64 a] w fun e w' => e = .returned (.tuple #[.int .i64 (ifI (wlOk l a a) (lwN (wsS l a a) (2 * l * l))), .int .i64 (ifI (wlOk l a a) (lwD (wsS l a a) (2 * l * l))), .bool (wlOk l a a)]) ∧ Below w.heap.size w w' := by
  go_enter Try.func14, Try.ntmps14
  go_wp2_with (first | (go_at_call 17; refine (implChanceOfStays _ _ _ _).mono ?_; rintro e w1 ⟨rfl, hb⟩; have hc := (bcell hb).1; have hf := (bcell hb).2; have hz : w.heap.size ≤ w1.heap.size := (by have := hb.size; (try simp at this); omega)) | go_in)
  all_goals try (go_quiet (fail); go_wp2_with fail)
  all_goals (go_ret3; refine ⟨rII ?_ ?_ ?_, ?_⟩)
  all_goals first | rfl | (repeat (first | exact Below.refl _ _ | refine Below.drew ?_ | refine below_drewN ?_ _ | refine Below.setCell ?_ (by first | omega | (simp; done) | (simp; omega)) _ | refine Below.alloc ?_ (by first | omega | (simp; done) | (simp; omega)) _ | refine bchain ?_ (by assumption) (by first | omega | (simp; done) | (simp; omega))))
set_option maxHeartbeats 2000000 in
theorem power_any (n : Int) (t : Nat) (h1 : 0 ≤ n) (h2 : n ≤ 51) (h3 : t ≤ 6) (w : World) :
    Calls Try.prog 40 #[.int .i64 n, .int .i64 (t : Int)] w fun e w' => e = .returned (.int .i64 (n ^ t)) ∧ w = w' := by
  have HP := Lib.hid (fun k hk => pow_bdM (n := n) (k := k) h1 h2 hk)
  go_enter Try.func40, Try.ntmps40
  go_wp2_with fail
  go_loopg [5, 7] t (fun k v2 v1 wr => ∃ (j : Nat) (o : Int), v1 = .int .i64 (j : Int) ∧ v2 = .int .i64 o ∧ j + k ≤ t ∧ t ≤ j + k ∧ Hid (n ^ j = o) ∧ w = wr)
  case atStart => exact ⟨0, 1, rfl, rfl, by omega, by omega, Lib.hid (Int.pow_zero n), rfl⟩
  case round =>
    obtain ⟨j, o, rfl, rfl, q1, q2, ho, rfl⟩ := hrel
    by_cases hk : j < t
    · have HO := Lib.hid (show n ^ (j + 1) = o * n by rw [Int.pow_succ, ho.out])
      have hkI : (j : Int) < (t : Int) := by omega
      have b1 := HP.out (j + 1) (by omega)
      rw [HO.out] at b1
      go_wp2_with fail
      go_roundg (gk - 1)
      case rel => exact ⟨j + 1, o * n, by go_num, by go_num, by omega, by omega, HO.out, rfl⟩
      case measure => omega
    · obtain rfl : j = t := by omega
      go_wp2_with fail
      go_ret
      refine ⟨rI ?_, rfl⟩
      rw [ho.out]
set_option maxHeartbeats 2000000 in
theorem implCountAllWithin (m p s : Int) (w : World) :
    Calls Try.prog 12 #[.int .i64 m, .int .i64 p, .int .i64 s] w fun e w' => e = .returned (.tuple #[.int .i64 (ifI (cwOk m p s) (cwN m s p.toNat m.toNat)), .bool (cwOk m p s)]) ∧ Below w.heap.size w w' := by
  cases h1 : inB m 1 50 <;> cases h2 : inB p 1 6 <;> cases h3 : inB s 0 50
  case true.true.true =>
    have hv : cwOk m p s = true := by simp [cwOk, h1, h2, h3]
    obtain ⟨b1, b2, b3, b4, b5, b6⟩ := cwOk_iff.1 hv
    obtain ⟨M, rfl⟩ : ∃ M : Nat, m = (M : Int) := ⟨m.toNat, by omega⟩
    obtain ⟨P, rfl⟩ : ∃ P : Nat, p = (P : Int) := ⟨p.toNat, by omega⟩
    have HC := Lib.hid (cwN_bd (m := (M : Int)) (s := s) (p := P) b2 b5 b6 (by omega))
    have HV := Lib.hid hv
    have HI := Lib.hid (show ∀ a b c : Int, inB a b c = true → ∀ w, Calls Try.prog 38 #[.int .i64 a, .int .i64 b, .int .i64 c] w fun e w' => e = .returned (.bool true) ∧ w = w' from fun a b c h w => h ▸ implIn a b c w)
    clear hv
    go_enter Try.func12, Try.ntmps12
    go_wp2_with (first | (go_at_call 38; refine (HI.out _ _ _ (by first | exact h1 | exact h2 | exact h3) _).mono ?_; rintro e w1 ⟨rfl, rfl⟩))
    clear h1 h2 h3
    go_loopg [8, 25] M (fun k v7 v8 wr => ∃ (j : Nat) (t : Int), v7 = .int .i64 t ∧ v8 = .int .i64 (j : Int) ∧ j + k ≤ M ∧ M ≤ j + k ∧ Hid (cwN (M : Int) s P j = t) ∧ w = wr)
    case atStart => exact ⟨0, 0, rfl, rfl, by omega, by omega, rfl, rfl⟩
    case round =>
      obtain ⟨j, t, rfl, rfl, q1, q2, ht, rfl⟩ := hrel
      have bt := HC.out j (by omega)
      rw [ht.out] at bt
      have btL : -879814390050 ≤ t ∧ t ≤ 879814390050 := by omega
      clear bt
      by_cases hj : j < M
      · have hjI : (j : Int) < (M : Int) := by omega
        have HT := Lib.hid (show cwN (M : Int) s P (j + 1) = t + ((wide (M : Int) s j + 1) ^ P - wide (M : Int) s j ^ P) by rw [← ht.out]; rfl)
        have w1 : 0 ≤ wide (M : Int) s j ∧ wide (M : Int) s j ≤ 50 := by unfold wide low; split <;> omega
        have p1 := pow_bdM (n := wide (M : Int) s j + 1) (k := P) (by omega) (by omega) (by omega)
        have p2 := pow_bdM (n := wide (M : Int) s j) (k := P) (by omega) (by omega) (by omega)
        clear ht
        by_cases hd : s < (M : Int) - 1 - (j : Int)
        · have hw : wide (M : Int) s j = s := by unfold wide low; rw [if_pos hd]
          rw [hw] at HT w1 p1 p2
          clear hw
          go_wp2_with (first | (go_at_call 40; refine (power_any _ P (by omega) (by omega) (by omega) _).mono ?_; rintro e w1 ⟨rfl, rfl⟩))
          all_goals try (go_quiet ((go_at_call 40; refine (power_any _ P (by omega) (by omega) (by omega) _).mono ?_; rintro e w1 ⟨rfl, rfl⟩)); go_wp2_with fail)
          go_roundg (gk - 1)
          case rel => exact ⟨j + 1, _, by go_num, by go_num, by omega, by omega, HT.out, rfl⟩
          case measure => omega
        · have hw : wide (M : Int) s j = (M : Int) - 1 - (j : Int) := by unfold wide low; rw [if_neg hd]
          rw [hw] at HT w1 p1 p2
          clear hw
          by_cases hd2 : s = (M : Int) - 1 - (j : Int)
          · subst hd2
            go_wp2_with (first | (go_at_call 40; refine (power_any _ P (by omega) (by omega) (by omega) _).mono ?_; rintro e w1 ⟨rfl, rfl⟩))
            all_goals try (go_quiet ((go_at_call 40; refine (power_any _ P (by omega) (by omega) (by omega) _).mono ?_; rintro e w1 ⟨rfl, rfl⟩)); go_wp2_with fail)
            go_roundg (gk - 1)
            case rel => exact ⟨j + 1, _, by go_num, by go_num, by omega, by omega, HT.out, rfl⟩
            case measure => omega
          · have hd3 : (M : Int) - 1 - (j : Int) < s := by omega
            go_wp2_with (first | (go_at_call 40; refine (power_any _ P (by omega) (by omega) (by omega) _).mono ?_; rintro e w1 ⟨rfl, rfl⟩))
            all_goals try (go_quiet ((go_at_call 40; refine (power_any _ P (by omega) (by omega) (by omega) _).mono ?_; rintro e w1 ⟨rfl, rfl⟩)); go_wp2_with fail)
            go_roundg (gk - 1)
            case rel => exact ⟨j + 1, _, by go_num, by go_num, by omega, by omega, HT.out, rfl⟩
            case measure => omega
      · obtain rfl : j = M := by omega
        go_wp2_with fail
        go_ret2
        refine ⟨rIB ?_ ?_, Below.refl _ _⟩
        · simp [HV.out, ifI]; exact ht.out.symm
        · simp [HV.out]
  all_goals
    go_enter Try.func12, Try.ntmps12
    go_wp2_with (first | (go_at_call_of 38 (Value.int .i64 m); refine (implIn _ _ _ _).mono ?_; rw [h1]; rintro e w1 ⟨rfl, rfl⟩) | (go_at_call_of 38 (Value.int .i64 p); refine (implIn _ _ _ _).mono ?_; rw [h2]; rintro e w1 ⟨rfl, rfl⟩) | (go_at_call_of 38 (Value.int .i64 s); refine (implIn _ _ _ _).mono ?_; rw [h3]; rintro e w1 ⟨rfl, rfl⟩) | go_in)
    all_goals try ((go_quiet (fail)); go_wp2_with (first | (go_at_call_of 38 (Value.int .i64 m); refine (implIn _ _ _ _).mono ?_; rw [h1]; rintro e w1 ⟨rfl, rfl⟩) | (go_at_call_of 38 (Value.int .i64 p); refine (implIn _ _ _ _).mono ?_; rw [h2]; rintro e w1 ⟨rfl, rfl⟩) | (go_at_call_of 38 (Value.int .i64 s); refine (implIn _ _ _ _).mono ?_; rw [h3]; rintro e w1 ⟨rfl, rfl⟩) | go_in))
    all_goals (go_ret2; refine ⟨rIB ?_ ?_, ?_⟩)
    all_goals first | (simp [cwOk, h1, h2, h3, ifI]; done) | (repeat (first | exact Below.refl _ _ | refine Below.drew ?_ | refine below_drewN ?_ _ | refine Below.setCell ?_ (by first | omega | (simp; done) | (simp; omega)) _ | refine Below.alloc ?_ (by first | omega | (simp; done) | (simp; omega)) _ | refine bchain ?_ (by assumption) (by first | omega | (simp; done) | (simp; omega))))
set_option maxHeartbeats 2000000 in
theorem apart_any (m a : Int) (h1 : 1 ≤ m) (h2 : m ≤ 200) (h3 : 0 ≤ a) (h4 : a ≤ 200) (w : World) :
    Calls Try.prog 39 #[.int .i64 m, .int .i64 a] w fun e w' => e = .returned (.int .i64 (caN m a)) ∧ w = w' := by
  by_cases hz : a = 0
  · subst hz
    have e : caN m 0 = m := by unfold caN; rw [if_pos rfl]
    rw [e]
    go_enter Try.func39, Try.ntmps39
    go_wp2
    all_goals (go_ret; refine ⟨rI ?_, rfl⟩)
    all_goals first | rfl | omega
  · have hz2 : (a == 0) = false := by rw [beq_eq_false_iff_ne]; exact hz
    have e : caN m a = 2 * wps (m - a) := by unfold caN; rw [if_neg hz]
    have e2 : wps (m - a) = if m - a ≤ 0 then 0 else m - a := rfl
    rw [e]
    by_cases hk : m - a ≤ 0
    · rw [e2, if_pos hk]
      go_enter Try.func39, Try.ntmps39
      go_wp2
      all_goals (go_ret; refine ⟨rI ?_, rfl⟩)
      all_goals first | rfl | (simp; done) | omega | (exfalso; omega)
    · rw [e2, if_neg hk]
      have hk2 : 0 < m - a := by omega
      go_enter Try.func39, Try.ntmps39
      go_wp2
      all_goals (go_ret; refine ⟨rI ?_, rfl⟩)
      all_goals first | rfl | (simp; done) | omega | (exfalso; omega)
set_option maxHeartbeats 2000000 in
theorem implCountApart (m a : Int) (w : World) :
    Calls Try.prog 11 #[.int .i64 m, .int .i64 a] w fun e w' => e = .returned (.tuple #[.int .i64 (ifI (inB m 1 200 && inB a 0 200) (caN m a)), .bool (inB m 1 200 && inB a 0 200)]) ∧ Below w.heap.size w w' := by
  cases h1 : inB m 1 200 <;> cases h2 : inB a 0 200
  case true.true =>
    have b1 := inB_iff.1 h1
    have b2 := inB_iff.1 h2
    have HC := Lib.hid (fun w => apart_any m a (by omega) (by omega) (by omega) (by omega) w)
    generalize caN m a = c at *
    go_enter Try.func11, Try.ntmps11
    go_wp2_with (first | (go_at_call 31; refine (isSpan_any _ _).mono ?_; rintro e w1 ⟨rfl, rfl⟩) | (go_at_call_of 38 (Value.int .i64 a); refine (implIn _ _ _ _).mono ?_; rw [h2]; rintro e w1 ⟨rfl, rfl⟩) | (go_at_call 39; refine (HC.out _).mono ?_; rintro e w1 ⟨rfl, rfl⟩) | go_in)
    all_goals try ((go_quiet (fail)); go_wp2_with (first | (go_at_call 31; refine (isSpan_any _ _).mono ?_; rintro e w1 ⟨rfl, rfl⟩) | (go_at_call_of 38 (Value.int .i64 a); refine (implIn _ _ _ _).mono ?_; rw [h2]; rintro e w1 ⟨rfl, rfl⟩) | (go_at_call 39; refine (HC.out _).mono ?_; rintro e w1 ⟨rfl, rfl⟩) | go_in))
    all_goals (go_ret2; refine ⟨rIB ?_ ?_, ?_⟩)
    all_goals first | (simp [h1, h2, ifI]; done) | (repeat (first | exact Below.refl _ _ | refine Below.drew ?_ | refine below_drewN ?_ _ | refine Below.setCell ?_ (by first | omega | (simp; done) | (simp; omega)) _ | refine Below.alloc ?_ (by first | omega | (simp; done) | (simp; omega)) _ | refine bchain ?_ (by assumption) (by first | omega | (simp; done) | (simp; omega))))
  all_goals
    go_enter Try.func11, Try.ntmps11
    go_wp2_with (first | (go_at_call 31; refine (isSpan_any _ _).mono ?_; rintro e w1 ⟨rfl, rfl⟩) | (go_at_call_of 38 (Value.int .i64 a); refine (implIn _ _ _ _).mono ?_; rw [h2]; rintro e w1 ⟨rfl, rfl⟩) | go_in)
    all_goals try ((go_quiet (fail)); go_wp2_with (first | (go_at_call 31; refine (isSpan_any _ _).mono ?_; rintro e w1 ⟨rfl, rfl⟩) | (go_at_call_of 38 (Value.int .i64 a); refine (implIn _ _ _ _).mono ?_; rw [h2]; rintro e w1 ⟨rfl, rfl⟩) | go_in))
    all_goals (go_ret2; refine ⟨rIB ?_ ?_, ?_⟩)
    all_goals first | (simp [h1, h2, ifI]; done) | (repeat (first | exact Below.refl _ _ | refine Below.drew ?_ | refine below_drewN ?_ _ | refine Below.setCell ?_ (by first | omega | (simp; done) | (simp; omega)) _ | refine Below.alloc ?_ (by first | omega | (simp; done) | (simp; omega)) _ | refine bchain ?_ (by assumption) (by first | omega | (simp; done) | (simp; omega))))
set_option maxHeartbeats 2000000 in
theorem implMeanApart (m : Int) (w : World) :
    Calls Try.prog 25 #[.int .i64 m] w fun e w' => e = .returned (.tuple #[.int .i64 (ifI (inB m 1 200) (lwN (m * m - 1) (3 * m))), .int .i64 (ifI (inB m 1 200) (lwD (m * m - 1) (3 * m))), .bool (inB m 1 200)]) ∧ Below w.heap.size w w' := by
  cases hv : inB m 1 200
  case false =>
    go_enter Try.func25, Try.ntmps25
    go_wp2_with (first | (go_at_call 31; refine (isSpan_any _ _).mono ?_; rintro e w1 ⟨rfl, rfl⟩) | go_in)
    all_goals (go_ret3; refine ⟨rII ?_ ?_ ?_, ?_⟩)
    all_goals first | (simp [ifI]; done) | (repeat (first | exact Below.refl _ _ | refine Below.drew ?_ | refine below_drewN ?_ _ | refine Below.setCell ?_ (by first | omega | (simp; done) | (simp; omega)) _ | refine Below.alloc ?_ (by first | omega | (simp; done) | (simp; omega)) _ | refine bchain ?_ (by assumption) (by first | omega | (simp; done) | (simp; omega))))
  case true =>
    have b1 := (inB_iff.1 hv).1
    have b2 := (inB_iff.1 hv).2
    obtain ⟨M, rfl⟩ : ∃ M : Nat, m = (M : Int) := ⟨m.toNat, by omega⟩
    have b3 := mul_bd (M : Int) (M : Int) 200 200 (by omega) (by omega) (by omega) (by omega)
    have b4 : 1 * 1 ≤ (M : Int) * (M : Int) := Int.mul_le_mul b1 b1 (by omega) (by omega)
    have HE := Lib.hid (maS_low (m := (M : Int)) b1 (show (M : Int) = (M : Int) from rfl))
    have HB := Lib.hid (maS_bd (m := (M : Int)) (by omega) b2)
    rw [← HE.out.1, ← HE.out.2]
    go_enter Try.func25, Try.ntmps25
    go_wp2_with (first | (go_at_call 31; refine (isSpan_any _ _).mono ?_; rw [hv]; rintro e w1 ⟨rfl, rfl⟩))
    clear hv
    go_loopg [5, 12] M (fun k v7 v8 wr => ∃ (j : Nat) (t : Int), v7 = .int .i64 t ∧ v8 = .int .i64 (j : Int) ∧ j + k ≤ M ∧ M ≤ j + k ∧ Hid (maS (M : Int) j = t) ∧ w = wr)
    case atStart => exact ⟨0, 0, rfl, rfl, by omega, by omega, rfl, rfl⟩
    case round =>
      obtain ⟨j, t, rfl, rfl, q1, q2, ht, rfl⟩ := hrel
      have bt := HB.out j (by omega)
      rw [ht.out] at bt
      by_cases hj : j < M
      · have hjI : (j : Int) < (M : Int) := by omega
        have HT := Lib.hid (show maS (M : Int) (j + 1) = t + (j : Int) * caN (M : Int) (j : Int) by rw [← ht.out]; rfl)
        have HA := Lib.hid (fun w => apart_any (M : Int) (j : Int) (by omega) (by omega) (by omega) (by omega) w)
        have c1 := caN_bd (m := (M : Int)) (a := (j : Int)) (by omega) (by omega) (by omega)
        have c2 := mul_bd (j : Int) (caN (M : Int) (j : Int)) 200 400 (by omega) (by omega) (by omega) (by omega)
        clear ht
        generalize caN (M : Int) (j : Int) = c at *
        go_wp2_with (first | (go_at_call 39; refine (HA.out _).mono ?_; rintro e w1 ⟨rfl, rfl⟩))
        all_goals try (go_quiet (first | (go_at_call 39; refine (HA.out _).mono ?_; rintro e w1 ⟨rfl, rfl⟩)); go_wp2_with fail)
        go_roundg (gk - 1)
        case rel => exact ⟨j + 1, _, by go_num, by go_num, by omega, by omega, HT.out, rfl⟩
        case measure => omega
      · obtain rfl : j = M := by omega
        have HT2 := Lib.hid ht.out
        clear ht
        go_wp2_with (first | (go_at_call 36; refine (lowest_any (t) ((j : Int) * (j : Int)) (by omega) (by omega) (by omega) (by omega) _).mono ?_; rintro e w1 ⟨rfl, hb⟩; have hc := (bcell hb).1; have hf := (bcell hb).2; have hz : w.heap.size ≤ w1.heap.size := (by have := hb.size; (try simp at this); omega)))
        all_goals try (go_quiet (fail); go_wp2_with fail)
        all_goals (go_ret3; refine ⟨rII ?_ ?_ ?_, ?_⟩)
        all_goals first | (rw [HT2.out]; simp [ifI]; done) | (simp [ifI]; done) | (repeat (first | exact Below.refl _ _ | refine Below.drew ?_ | refine below_drewN ?_ _ | refine Below.setCell ?_ (by first | omega | (simp; done) | (simp; omega)) _ | refine Below.alloc ?_ (by first | omega | (simp; done) | (simp; omega)) _ | refine bchain ?_ (by assumption) (by first | omega | (simp; done) | (simp; omega))))
set_option maxHeartbeats 2000000 in
theorem implLeastStay (l u v : Int) (w : World) :
    Calls Try.prog 20 #[.int .i64 l, .int .i64 u, .int .i64 v] w fun e w' => e = .returned (.tuple #[.int .i64 (ifI (lsOk l u v) (fsV (lsB l u v) (l.toNat + 1))), .bool (lsOk l u v && fsB (lsB l u v) (l.toNat + 1))]) ∧ Below w.heap.size w w' := by
  cases h1 : inB l 1 200 <;> cases h2 : inB u 0 1000 <;> cases h3 : inB v 1 1000
  case true.true.true =>
    have hv : lsOk l u v = true := by simp [lsOk, h1, h2, h3]
    obtain ⟨b1, b2, b3, b4, b5, b6⟩ := lsOk_iff.1 hv
    obtain ⟨L, rfl⟩ : ∃ L : Nat, l = (L : Int) := ⟨l.toNat, by omega⟩
    have HV := Lib.hid hv
    clear hv
    go_enter Try.func20, Try.ntmps20
    go_wp2_with (first | (go_at_call 31; refine (isSpan_any _ _).mono ?_; rintro e w1 ⟨rfl, rfl⟩) | (go_at_call_of 38 (Value.int .i64 u); refine (implIn _ _ _ _).mono ?_; rw [h2]; rintro e w1 ⟨rfl, rfl⟩) | (go_at_call_of 38 (Value.int .i64 v); refine (implIn _ _ _ _).mono ?_; rw [h3]; rintro e w1 ⟨rfl, rfl⟩) | go_in)
    clear h1 h2 h3
    go_loopg [28] (L + 1) (fun k v9 wr => ∃ (j : Nat), v9 = .int .i64 (j : Int) ∧ j + k ≤ L + 1 ∧ L + 1 ≤ j + k ∧ Hid (∀ i, i < j → lsB (L : Int) u v i = false) ∧ Below w.heap.size w wr ∧ w.heap.size < wr.heap.size ∧ wr.cell? ⟨w.heap.size, 0, none⟩ = some (.int .i64 u) ∧ wr.cell? ⟨w.heap.size, 1, none⟩ = some (.int .i64 v))
    case atStart => exact ⟨0, rfl, by omega, by omega, fun i hi => absurd hi (Nat.not_lt_zero _), by (repeat (first | exact Below.refl _ _ | refine Below.drew ?_ | refine below_drewN ?_ _ | refine Below.setCell ?_ (by first | omega | (simp; done) | (simp; omega)) _ | refine Below.alloc ?_ (by first | omega | (simp; done) | (simp; omega)) _ | refine bchain ?_ (by assumption) (by first | omega | (simp; done) | (simp; omega)))), by simp, by go_simp, by go_simp⟩
    case round =>
      obtain ⟨j, rfl, q1, q2, hp, hbel, hz, hc0, hc1⟩ := hrel
      have HBl := Lib.hid hbel
      clear hbel
      by_cases hj : j ≤ L
      · have hjI : (j : Int) ≤ (L : Int) := by omega
        have hw : wlOk (L : Int) (j : Int) (j : Int) = true := wlOk_iff.2 (by omega)
        have HW := Lib.hid (fun w => chance_any _ _ _ hw w)
        have bl := ls_low (u := u) (v := v) (L := L) (j := j) hw
        have HM := Lib.hid (fun w => fcompare_any (lwN (wsS (L : Int) (j : Int) (j : Int)) (2 * (L : Int) * (L : Int))) (lwD (wsS (L : Int) (j : Int) (j : Int)) (2 * (L : Int) * (L : Int))) u v (by omega) (by omega) (by omega) (by omega) (by omega) (by omega) (by omega) (by omega) w)
        have hm := bl.2.2.2.2
        clear bl hw
        generalize lwN (wsS (L : Int) (j : Int) (j : Int)) (2 * (L : Int) * (L : Int)) = p at *
        generalize lwD (wsS (L : Int) (j : Int) (j : Int)) (2 * (L : Int) * (L : Int)) = q at *
        cases hs : lsB (L : Int) u v j
        · have hneg : cmpI (p * v) (u * q) < 0 := by have := mt hm.2; rw [hs] at this; have := this (by simp); omega
          have hp2 : Hid (∀ i, i < j + 1 → lsB (L : Int) u v i = false) := fun i hi => by
            by_cases q : i = j
            · subst q; exact hs
            · exact hp.out i (by omega)
          clear hp hs hm
          generalize cmpI (p * v) (u * q) = z at *
          go_wp2_with fail
          go_region_held3 (fun w' => Below w.heap.size w w' ∧ w.heap.size < w'.heap.size ∧ w'.cell? ⟨w.heap.size, 0, none⟩ = some (.int .i64 u) ∧ w'.cell? ⟨w.heap.size, 1, none⟩ = some (.int .i64 v)) (refine ⟨?_, ?_, ?_, ?_⟩ <;> first | assumption | omega | (go_simp; done) | (repeat (first | exact HBl.out | refine Below.drew ?_ | refine below_drewN ?_ _ | refine Below.alloc ?_ (by first | omega | (simp; done) | (simp; omega)) _ | refine bchain ?_ (by assumption) (by first | omega | (simp; done) | (simp; omega))))) (first | (go_at_call 44; refine (HW.out _).mono ?_; rintro e w1 ⟨rfl, hb⟩; have hzz := hb.size; (try simp at hzz); have hcA := fun o => (bcell hb).1 w.heap.size o (by first | omega | (simp; omega) | (simp; done))) | (go_at_call 47; refine (HM.out _).mono ?_; rintro e w1 ⟨rfl, hb⟩; have hzz := hb.size; (try simp at hzz); have hcA := fun o => (bcell hb).1 w.heap.size o (by first | omega | (simp; omega) | (simp; done))))
          all_goals go_wp2_with fail
          all_goals go_roundg (gk - 1)
          all_goals first | omega | exact ⟨j + 1, by go_num, by omega, by omega, hp2, by (repeat (first | exact HBl.out | refine Below.drew ?_ | refine below_drewN ?_ _ | refine Below.alloc ?_ (by first | omega | (simp; done) | (simp; omega)) _ | refine bchain ?_ (by assumption) (by first | omega | (simp; done) | (simp; omega)))), by first | omega | (simp; omega), by go_simp, by go_simp⟩
        · have hpos : ¬ (cmpI (p * v) (u * q) < 0) := by have := hm.1 hs; omega
          have HY := Lib.hid (fs_yes hs hp.out (n := L + 1) (by omega))
          clear hp hs hm
          generalize cmpI (p * v) (u * q) = z at *
          go_wp2_with fail
          go_region_held3 (fun w' => Below w.heap.size w w' ∧ w.heap.size < w'.heap.size ∧ w'.cell? ⟨w.heap.size, 0, none⟩ = some (.int .i64 u) ∧ w'.cell? ⟨w.heap.size, 1, none⟩ = some (.int .i64 v)) (refine ⟨?_, ?_, ?_, ?_⟩ <;> first | assumption | omega | (go_simp; done) | (repeat (first | exact HBl.out | refine Below.drew ?_ | refine below_drewN ?_ _ | refine Below.alloc ?_ (by first | omega | (simp; done) | (simp; omega)) _ | refine bchain ?_ (by assumption) (by first | omega | (simp; done) | (simp; omega))))) (first | (go_at_call 44; refine (HW.out _).mono ?_; rintro e w1 ⟨rfl, hb⟩; have hzz := hb.size; (try simp at hzz); have hcA := fun o => (bcell hb).1 w.heap.size o (by first | omega | (simp; omega) | (simp; done))) | (go_at_call 47; refine (HM.out _).mono ?_; rintro e w1 ⟨rfl, hb⟩; have hzz := hb.size; (try simp at hzz); have hcA := fun o => (bcell hb).1 w.heap.size o (by first | omega | (simp; omega) | (simp; done))))
          all_goals go_wp2_with fail
          all_goals (go_ret2; refine ⟨rIB ?_ ?_, by (repeat (first | exact HBl.out | refine Below.drew ?_ | refine below_drewN ?_ _ | refine Below.alloc ?_ (by first | omega | (simp; done) | (simp; omega)) _ | refine bchain ?_ (by assumption) (by first | omega | (simp; done) | (simp; omega))))⟩)
          all_goals first | (simp [HV.out, ifI, HY.out.2]; done) | (simp [HV.out, HY.out.1]; done)
      · obtain rfl : j = L + 1 := by omega
        have HN := Lib.hid (fs_no hp.out)
        clear hp
        go_wp2_with fail
        go_ret2
        refine ⟨rIB ?_ ?_, by (repeat (first | exact HBl.out | refine Below.drew ?_ | refine below_drewN ?_ _ | refine Below.alloc ?_ (by first | omega | (simp; done) | (simp; omega)) _ | refine bchain ?_ (by assumption) (by first | omega | (simp; done) | (simp; omega))))⟩
        · simp [HV.out, ifI, HN.out.2]
        · simp [HV.out, HN.out.1]
  all_goals
    go_enter Try.func20, Try.ntmps20
    go_wp2_with (first | (go_at_call 31; refine (isSpan_any _ _).mono ?_; rintro e w1 ⟨rfl, rfl⟩) | (go_at_call_of 38 (Value.int .i64 u); refine (implIn _ _ _ _).mono ?_; rw [h2]; rintro e w1 ⟨rfl, rfl⟩) | (go_at_call_of 38 (Value.int .i64 v); refine (implIn _ _ _ _).mono ?_; rw [h3]; rintro e w1 ⟨rfl, rfl⟩) | go_in)
    all_goals try ((go_quiet (fail)); go_wp2_with (first | (go_at_call 31; refine (isSpan_any _ _).mono ?_; rintro e w1 ⟨rfl, rfl⟩) | (go_at_call_of 38 (Value.int .i64 u); refine (implIn _ _ _ _).mono ?_; rw [h2]; rintro e w1 ⟨rfl, rfl⟩) | (go_at_call_of 38 (Value.int .i64 v); refine (implIn _ _ _ _).mono ?_; rw [h3]; rintro e w1 ⟨rfl, rfl⟩) | go_in))
    all_goals (go_ret2; refine ⟨rIB ?_ ?_, ?_⟩)
    all_goals first | (simp [lsOk, h1, h2, h3, ifI]; done) | (repeat (first | exact Below.refl _ _ | refine Below.drew ?_ | refine below_drewN ?_ _ | refine Below.setCell ?_ (by first | omega | (simp; done) | (simp; omega)) _ | refine Below.alloc ?_ (by first | omega | (simp; done) | (simp; omega)) _ | refine bchain ?_ (by assumption) (by first | omega | (simp; done) | (simp; omega))))
end Go.Proofs.Ytlmbcbopahpagaa
