/- Contracts of chapter 2's functions on numbers and walkers, the program's and the model's, over one translation. -/
import Derived.Test.YteaefmngfomhgaaProg
import Derived.Test.YteaefmngfomhgaaTwoWalks
import Derived.WalkKit
import Derived.WalkSpells
import Derived.WalkLawsBesides
import Derived.Lib.Hide
import Derived.Deep.RegionWith
import Derived.Deep.RegionHeld3
import Derived.Deep.QuietTactic
import Derived.BigQuiet
namespace Go.Proofs.Yteaefmngfomhgaa
open Go.RowKit
set_option linter.unusedVariables false
set_option linter.unusedSimpArgs false
set_option maxHeartbeats 2000000 in
theorem mtime_any (p s q r : Int) (hv : wkOk p s = true) (hw : wkOk q r = true) (w : World) :
    Calls Try.prog 110 #[.agg #[.int .i64 p, .int .i64 s, .int .i64 q, .int .i64 r]] w fun e w' => e = .returned (.tuple #[.agg #[.int .i64 (meN p s q r), .int .i64 (meD p s q r)], .bool (mtB p s q r)]) ∧ Below w.heap.size w w' := by
  have b1 := bhd_bd hv hw
  have b2 := nrr_bd hv hw
  have p1 := (wkOk_iff.1 hv).1
  have p2 := (wkOk_iff.1 hv).2.1
  have p3 := (wkOk_iff.1 hv).2.2.1
  have p4 := (wkOk_iff.1 hv).2.2.2
  have q1 := (wkOk_iff.1 hw).1
  have q2 := (wkOk_iff.1 hw).2.1
  have q3 := (wkOk_iff.1 hw).2.2.1
  have q4 := (wkOk_iff.1 hw).2.2.2
  by_cases e : p = q
  · by_cases f : s = r
    · have HR := Lib.hid (show meN p s q r = 0 ∧ meD p s q r = 1 ∧ mtB p s q r = true by unfold meN meD; rw [mtB_yes (.inl e)]; simp [mtN, mtD, e])
      subst e; subst f
      go_enter Try.func110, Try.ntmps110
      go_wp2_with (first | (go_at_call 115; refine (approach_any p s q r hv hw _).mono ?_; rintro e w1 ⟨rfl, hb⟩; have hc := (bcell hb).1; have hf := (bcell hb).2; have hz : w.heap.size ≤ w1.heap.size := (by have := hb.size; (try simp at this); omega); have hz0 : w.heap.size < w1.heap.size := (by have := hb.size; (try simp at this); omega); have hcA0 := fun o => (bcell hb).1 (w.heap.size) o (by first | omega | (simp; omega) | (simp; done)); have hfA0 := fun o => (bcell hb).2 (w.heap.size) o (by first | omega | (simp; omega) | (simp; done)); have hz1 : w.heap.size + 1 < w1.heap.size := (by have := hb.size; (try simp at this); omega); have hcA1 := fun o => (bcell hb).1 (w.heap.size + 1) o (by first | omega | (simp; omega) | (simp; done)); have hfA1 := fun o => (bcell hb).2 (w.heap.size + 1) o (by first | omega | (simp; omega) | (simp; done))) | go_in)
      rw [HR.out.1, HR.out.2.1, HR.out.2.2]
      (refine bodyPost_ret (v := .tuple #[.agg #[.int .i64 0, .int .i64 1], .bool true]) (by simp [results, Try.results110, go_sem]; done) rfl ⟨rfl, ?_⟩)
      (repeat (first | exact Below.refl _ _ | refine Below.drew ?_ | refine below_drewN ?_ _ | refine Below.setCell ?_ (by first | omega | (simp; done) | (simp; omega)) _ | refine Below.alloc ?_ (by first | omega | (simp; done) | (simp; omega)) _ | refine bchain ?_ (by assumption) (by first | omega | (simp; done) | (simp; omega))))
    · have z : nrr s r ≠ 0 := fun h => f (nrr_zero.1 h)
      have lz := lwN_zero (nrr s r) (by omega)
      have b0 : bhd p s q r = 0 := by unfold bhd; split <;> omega
      have HR := Lib.hid (show meN p s q r = lwN (bhd p s q r) (nrr s r) ∧ meD p s q r = lwD (bhd p s q r) (nrr s r) ∧ mtB p s q r = true by unfold meN meD; rw [mtB_yes (.inl e)]; simp [mtN, mtD, e]; rw [e] at b0; rw [b0, lz.1, lz.2]; exact ⟨rfl, rfl⟩)
      have f1 : 0 ≤ bhd p s q r := by omega
      clear b0 lz
      have x1 : (p == q && s == r) = false := by simp [f]
      have x2 : (nrr s r == 0) = false := by simp [z]
      have e' := Lib.hid e
      clear e
      go_enter Try.func110, Try.ntmps110
      go_wp2_with (first | (go_at_call 115; refine (approach_any p s q r hv hw _).mono ?_; rintro e w1 ⟨rfl, hb⟩; have hc := (bcell hb).1; have hf := (bcell hb).2; have hz : w.heap.size ≤ w1.heap.size := (by have := hb.size; (try simp at this); omega); have hz0 : w.heap.size < w1.heap.size := (by have := hb.size; (try simp at this); omega); have hcA0 := fun o => (bcell hb).1 (w.heap.size) o (by first | omega | (simp; omega) | (simp; done)); have hfA0 := fun o => (bcell hb).2 (w.heap.size) o (by first | omega | (simp; omega) | (simp; done)); have hz1 : w.heap.size + 1 < w1.heap.size := (by have := hb.size; (try simp at this); omega); have hcA1 := fun o => (bcell hb).1 (w.heap.size + 1) o (by first | omega | (simp; omega) | (simp; done)); have hfA1 := fun o => (bcell hb).2 (w.heap.size + 1) o (by first | omega | (simp; omega) | (simp; done))) | (go_at_call 86; refine (lowest_any (bhd p s q r) (nrr s r) (by omega) (by omega) (by omega) (by omega) _).mono ?_; rintro e w1 ⟨rfl, hb⟩; have hc := (bcell hb).1; have hf := (bcell hb).2; have hz : w.heap.size ≤ w1.heap.size := (by have := hb.size; (try simp at this); omega); have hz0 : w.heap.size < w1.heap.size := (by have := hb.size; (try simp at this); omega); have hcA0 := fun o => (bcell hb).1 (w.heap.size) o (by first | omega | (simp; omega) | (simp; done)); have hfA0 := fun o => (bcell hb).2 (w.heap.size) o (by first | omega | (simp; omega) | (simp; done)); have hz1 : w.heap.size + 1 < w1.heap.size := (by have := hb.size; (try simp at this); omega); have hcA1 := fun o => (bcell hb).1 (w.heap.size + 1) o (by first | omega | (simp; omega) | (simp; done)); have hfA1 := fun o => (bcell hb).2 (w.heap.size + 1) o (by first | omega | (simp; omega) | (simp; done))) | go_in)
      rw [HR.out.1, HR.out.2.1, HR.out.2.2]
      refine bodyPost_ret (v := .tuple #[.agg #[.int .i64 (lwN (bhd p s q r) (nrr s r)), .int .i64 (lwD (bhd p s q r) (nrr s r))], .bool true]) (by  have e0 : (w1.cell? ⟨w.heap.size + 1, 0, none⟩).isSome = true := (by first | (rw [hcA1]; go_simp; done) | (go_simp; done) | (simp [hcA1]; done)); have e1 : (w1.cell? ⟨w.heap.size + 1, 1, none⟩).isSome = true := (by first | (rw [hcA1]; go_simp; done) | (go_simp; done) | (simp [hcA1]; done)); simp [results, Try.results110, go_sem, e0, e1]) rfl ⟨rfl, ?_⟩
      (repeat (first | exact Below.refl _ _ | refine Below.drew ?_ | refine below_drewN ?_ _ | refine Below.setCell ?_ (by first | omega | (simp; done) | (simp; omega)) _ | refine Below.alloc ?_ (by first | omega | (simp; done) | (simp; omega)) _ | refine bchain ?_ (by assumption) (by first | omega | (simp; done) | (simp; omega))))
  · have z : p ≠ q := e
    by_cases f : bhd p s q r < 0 ∨ s = r
    · have HR := Lib.hid (show meN p s q r = 0 ∧ meD p s q r = 0 ∧ mtB p s q r = false by unfold meN meD; rw [mtB_no e f]; simp)
      have f2 : bhd p s q r < 0 ∨ nrr s r = 0 := by rw [nrr_zero]; exact f
      have x1 : (p == q) = false := by simp [e]
      clear f e z
      cases f3 : decide (bhd p s q r < 0)
      all_goals
        have f4 := of_decide_eq_true (show decide (bhd p s q r < 0 ∨ (nrr s r == 0) = true) = true by simpa using f2)
        first | (have f5 := of_decide_eq_true f3; clear f2 f4) | (have f5 := of_decide_eq_false f3; have x2 : (nrr s r == 0) = true := f4.resolve_left f5; clear f2 f4)
        clear f3
        go_enter Try.func110, Try.ntmps110
        go_wp2_with (first | (go_at_call 115; refine (approach_any p s q r hv hw _).mono ?_; rintro e w1 ⟨rfl, hb⟩; have hc := (bcell hb).1; have hf := (bcell hb).2; have hz : w.heap.size ≤ w1.heap.size := (by have := hb.size; (try simp at this); omega); have hz0 : w.heap.size < w1.heap.size := (by have := hb.size; (try simp at this); omega); have hcA0 := fun o => (bcell hb).1 (w.heap.size) o (by first | omega | (simp; omega) | (simp; done)); have hfA0 := fun o => (bcell hb).2 (w.heap.size) o (by first | omega | (simp; omega) | (simp; done)); have hz1 : w.heap.size + 1 < w1.heap.size := (by have := hb.size; (try simp at this); omega); have hcA1 := fun o => (bcell hb).1 (w.heap.size + 1) o (by first | omega | (simp; omega) | (simp; done)); have hfA1 := fun o => (bcell hb).2 (w.heap.size + 1) o (by first | omega | (simp; omega) | (simp; done))) | (go_at_call 86; refine (lowest_any (bhd p s q r) (nrr s r) (by omega) (by omega) (by omega) (by omega) _).mono ?_; rintro e w1 ⟨rfl, hb⟩; have hc := (bcell hb).1; have hf := (bcell hb).2; have hz : w.heap.size ≤ w1.heap.size := (by have := hb.size; (try simp at this); omega); have hz0 : w.heap.size < w1.heap.size := (by have := hb.size; (try simp at this); omega); have hcA0 := fun o => (bcell hb).1 (w.heap.size) o (by first | omega | (simp; omega) | (simp; done)); have hfA0 := fun o => (bcell hb).2 (w.heap.size) o (by first | omega | (simp; omega) | (simp; done)); have hz1 : w.heap.size + 1 < w1.heap.size := (by have := hb.size; (try simp at this); omega); have hcA1 := fun o => (bcell hb).1 (w.heap.size + 1) o (by first | omega | (simp; omega) | (simp; done)); have hfA1 := fun o => (bcell hb).2 (w.heap.size + 1) o (by first | omega | (simp; omega) | (simp; done))) | go_in)
        rw [HR.out.1, HR.out.2.1, HR.out.2.2]
        refine bodyPost_ret (v := .tuple #[.agg #[.int .i64 0, .int .i64 0], .bool false]) (by  have e0 : (w1.cell? ⟨w.heap.size + 1, 0, none⟩).isSome = true := (by first | (rw [hcA1]; go_simp; done) | (go_simp; done) | (simp [hcA1]; done)); have e1 : (w1.cell? ⟨w.heap.size + 1, 1, none⟩).isSome = true := (by first | (rw [hcA1]; go_simp; done) | (go_simp; done) | (simp [hcA1]; done)); simp [results, Try.results110, go_sem, e0, e1]) rfl ⟨rfl, ?_⟩
        (repeat (first | exact Below.refl _ _ | refine Below.drew ?_ | refine below_drewN ?_ _ | refine Below.setCell ?_ (by first | omega | (simp; done) | (simp; omega)) _ | refine Below.alloc ?_ (by first | omega | (simp; done) | (simp; omega)) _ | refine bchain ?_ (by assumption) (by first | omega | (simp; done) | (simp; omega))))
    · have f1 : 0 ≤ bhd p s q r := by omega
      have f2 : nrr s r ≠ 0 := fun h => f (.inr (nrr_zero.1 h))
      have HR := Lib.hid (show meN p s q r = lwN (bhd p s q r) (nrr s r) ∧ meD p s q r = lwD (bhd p s q r) (nrr s r) ∧ mtB p s q r = true by unfold meN meD; rw [mtB_yes (.inr ⟨f1, fun h => f2 (nrr_zero.2 h)⟩)]; simp [mtN, mtD, e])
      have x1 : (p == q) = false := by simp [e]
      have x2 : (nrr s r == 0) = false := by simp [f2]
      clear f e z
      go_enter Try.func110, Try.ntmps110
      go_wp2_with (first | (go_at_call 115; refine (approach_any p s q r hv hw _).mono ?_; rintro e w1 ⟨rfl, hb⟩; have hc := (bcell hb).1; have hf := (bcell hb).2; have hz : w.heap.size ≤ w1.heap.size := (by have := hb.size; (try simp at this); omega); have hz0 : w.heap.size < w1.heap.size := (by have := hb.size; (try simp at this); omega); have hcA0 := fun o => (bcell hb).1 (w.heap.size) o (by first | omega | (simp; omega) | (simp; done)); have hfA0 := fun o => (bcell hb).2 (w.heap.size) o (by first | omega | (simp; omega) | (simp; done)); have hz1 : w.heap.size + 1 < w1.heap.size := (by have := hb.size; (try simp at this); omega); have hcA1 := fun o => (bcell hb).1 (w.heap.size + 1) o (by first | omega | (simp; omega) | (simp; done)); have hfA1 := fun o => (bcell hb).2 (w.heap.size + 1) o (by first | omega | (simp; omega) | (simp; done))) | (go_at_call 86; refine (lowest_any (bhd p s q r) (nrr s r) (by omega) (by omega) (by omega) (by omega) _).mono ?_; rintro e w1 ⟨rfl, hb⟩; have hc := (bcell hb).1; have hf := (bcell hb).2; have hz : w.heap.size ≤ w1.heap.size := (by have := hb.size; (try simp at this); omega); have hz0 : w.heap.size < w1.heap.size := (by have := hb.size; (try simp at this); omega); have hcA0 := fun o => (bcell hb).1 (w.heap.size) o (by first | omega | (simp; omega) | (simp; done)); have hfA0 := fun o => (bcell hb).2 (w.heap.size) o (by first | omega | (simp; omega) | (simp; done)); have hz1 : w.heap.size + 1 < w1.heap.size := (by have := hb.size; (try simp at this); omega); have hcA1 := fun o => (bcell hb).1 (w.heap.size + 1) o (by first | omega | (simp; omega) | (simp; done)); have hfA1 := fun o => (bcell hb).2 (w.heap.size + 1) o (by first | omega | (simp; omega) | (simp; done))) | go_in)
      rw [HR.out.1, HR.out.2.1, HR.out.2.2]
      refine bodyPost_ret (v := .tuple #[.agg #[.int .i64 (lwN (bhd p s q r) (nrr s r)), .int .i64 (lwD (bhd p s q r) (nrr s r))], .bool true]) (by  have e0 : (w1.cell? ⟨w.heap.size + 1, 0, none⟩).isSome = true := (by first | (rw [hcA1]; go_simp; done) | (go_simp; done) | (simp [hcA1]; done)); have e1 : (w1.cell? ⟨w.heap.size + 1, 1, none⟩).isSome = true := (by first | (rw [hcA1]; go_simp; done) | (go_simp; done) | (simp [hcA1]; done)); simp [results, Try.results110, go_sem, e0, e1]) rfl ⟨rfl, ?_⟩
      (repeat (first | exact Below.refl _ _ | refine Below.drew ?_ | refine below_drewN ?_ _ | refine Below.setCell ?_ (by first | omega | (simp; done) | (simp; omega)) _ | refine Below.alloc ?_ (by first | omega | (simp; done) | (simp; omega)) _ | refine bchain ?_ (by assumption) (by first | omega | (simp; done) | (simp; omega))))
set_option maxHeartbeats 2000000 in
theorem meMeet_any (p s q r : Int) (hv : wkOk p s = true) (hw : wkOk q r = true) (w : World) :
    Calls Try.prog 77 #[.agg #[.int .i64 p, .int .i64 s], .agg #[.int .i64 q, .int .i64 r]] w fun e w' => e = .returned (.tuple #[.int .i64 (meN p s q r), .int .i64 (meD p s q r), .bool (mtB p s q r)]) ∧ Below w.heap.size w w' := by
  have p1 := (wkOk_iff.1 hv).1
  have p2 := (wkOk_iff.1 hv).2.1
  have p3 := (wkOk_iff.1 hv).2.2.1
  have p4 := (wkOk_iff.1 hv).2.2.2
  have q1 := (wkOk_iff.1 hw).1
  have q2 := (wkOk_iff.1 hw).2.1
  have q3 := (wkOk_iff.1 hw).2.2.1
  have q4 := (wkOk_iff.1 hw).2.2.2
  by_cases e : p = q
  · have HR := Lib.hid (show meN p s q r = 0 ∧ meD p s q r = 1 ∧ mtB p s q r = true by unfold meN meD; rw [mtB_yes (.inl e)]; simp [mtN, mtD, e])
    have x1 : (q - p == 0) = true := by simp; omega
    clear e
    go_enter Try.func77, Try.ntmps77
    go_wp2_with fail
    have u1 : IntKind.i64.wrap (q - p) = q - p := IntWalk.i64_in _ (by omega)
    have u2 : IntKind.i64.wrap (s - r) = s - r := IntWalk.i64_in _ (by omega)
    go_quiet (fail)
    clear u1 u2
    go_wp2_with (first | fail | go_in)
    all_goals (rw [HR.out.1, HR.out.2.1, HR.out.2.2]; go_ret3; refine ⟨rfl, ?_⟩; (repeat (first | exact Below.refl _ _ | refine Below.drew ?_ | refine below_drewN ?_ _ | refine Below.setCell ?_ (by first | omega | (simp; done) | (simp; omega)) _ | refine Below.alloc ?_ (by first | omega | (simp; done) | (simp; omega)) _ | refine bchain ?_ (by assumption) (by first | omega | (simp; done) | (simp; omega)))))
  · have x1 : (q - p == 0) = false := by simp; omega
    by_cases f : s = r
    · have HR := Lib.hid (show meN p s q r = 0 ∧ meD p s q r = 0 ∧ mtB p s q r = false by unfold meN meD; rw [mtB_no e (.inr f)]; simp)
      have x2 : (s - r == 0) = true := by simp; omega
      clear e f
      go_enter Try.func77, Try.ntmps77
      go_wp2_with fail
      have u1 : IntKind.i64.wrap (q - p) = q - p := IntWalk.i64_in _ (by omega)
      have u2 : IntKind.i64.wrap (s - r) = s - r := IntWalk.i64_in _ (by omega)
      go_quiet (fail)
      clear u1 u2
      go_wp2_with (first | fail | go_in)
      all_goals (rw [HR.out.1, HR.out.2.1, HR.out.2.2]; go_ret3; refine ⟨rfl, ?_⟩; (repeat (first | exact Below.refl _ _ | refine Below.drew ?_ | refine below_drewN ?_ _ | refine Below.setCell ?_ (by first | omega | (simp; done) | (simp; omega)) _ | refine Below.alloc ?_ (by first | omega | (simp; done) | (simp; omega)) _ | refine bchain ?_ (by assumption) (by first | omega | (simp; done) | (simp; omega)))))
    · have x2 : (s - r == 0) = false := by simp; omega
      by_cases g : p < q <;> by_cases h : r < s
      · have HR := Lib.hid (show meN p s q r = lwN (q - p) (s - r) ∧ meD p s q r = lwD (q - p) (s - r) ∧ mtB p s q r = true by have eb : bhd p s q r = q - p := (by unfold bhd; split <;> omega); have en : nrr s r = s - r := (by unfold nrr ab; split <;> omega); unfold meN meD; rw [mtB_yes (.inr ⟨by omega, f⟩)]; simp [mtN, mtD, e]; rw [eb, en]; exact ⟨rfl, rfl⟩)
        have y1 : decide (0 < q - p) = true := by simp; omega
        have y2 : decide (0 < s - r) = true := by simp; omega
        have z1 : decide (p < q) = true := by simp; omega
        have z2 : decide (r < s) = true := by simp; omega
        have g1 : p < q := by omega
        have h1 : r < s := by omega
        clear e f g h
        go_enter Try.func77, Try.ntmps77
        go_wp2_with fail
        have u1 : IntKind.i64.wrap (q - p) = q - p := IntWalk.i64_in _ (by omega)
        have u2 : IntKind.i64.wrap (s - r) = s - r := IntWalk.i64_in _ (by omega)
        go_quiet (fail)
        clear u1 u2
        go_wp2_with (first | (go_at_call 82; refine (meLow_pos (q - p) (s - r) (by omega) (by omega) (by omega) (by omega) _).mono ?_; rintro e w1 ⟨rfl, hb⟩; have hc := (bcell hb).1; have hf := (bcell hb).2; have hz : w.heap.size ≤ w1.heap.size := (by have := hb.size; (try simp at this); omega); have hz0 : w.heap.size < w1.heap.size := (by have := hb.size; (try simp at this); omega); have hcA0 := fun o => (bcell hb).1 (w.heap.size) o (by first | omega | (simp; omega) | (simp; done)); have hfA0 := fun o => (bcell hb).2 (w.heap.size) o (by first | omega | (simp; omega) | (simp; done)); have hz1 : w.heap.size + 1 < w1.heap.size := (by have := hb.size; (try simp at this); omega); have hcA1 := fun o => (bcell hb).1 (w.heap.size + 1) o (by first | omega | (simp; omega) | (simp; done)); have hfA1 := fun o => (bcell hb).2 (w.heap.size + 1) o (by first | omega | (simp; omega) | (simp; done))) | go_in)
        all_goals (rw [HR.out.1, HR.out.2.1, HR.out.2.2]; go_ret3; refine ⟨rfl, ?_⟩; (repeat (first | exact Below.refl _ _ | refine Below.drew ?_ | refine below_drewN ?_ _ | refine Below.setCell ?_ (by first | omega | (simp; done) | (simp; omega)) _ | refine Below.alloc ?_ (by first | omega | (simp; done) | (simp; omega)) _ | refine bchain ?_ (by assumption) (by first | omega | (simp; done) | (simp; omega)))))
      · have HR := Lib.hid (show meN p s q r = 0 ∧ meD p s q r = 0 ∧ mtB p s q r = false by unfold meN meD; rw [mtB_no e (.inl (by unfold bhd; split <;> omega))]; simp)
        have y1 : decide (0 < q - p) = true := by simp; omega
        have y2 : decide (0 < s - r) = false := by simp; omega
        have z1 : decide (p < q) = true := by simp; omega
        have z2 : decide (r < s) = false := by simp; omega
        have g1 : p < q := by omega
        have h1 : s < r := by omega
        clear e f g h
        go_enter Try.func77, Try.ntmps77
        go_wp2_with fail
        have u1 : IntKind.i64.wrap (q - p) = q - p := IntWalk.i64_in _ (by omega)
        have u2 : IntKind.i64.wrap (s - r) = s - r := IntWalk.i64_in _ (by omega)
        go_quiet (fail)
        clear u1 u2
        go_wp2_with (first | fail | go_in)
        all_goals (rw [HR.out.1, HR.out.2.1, HR.out.2.2]; go_ret3; refine ⟨rfl, ?_⟩; (repeat (first | exact Below.refl _ _ | refine Below.drew ?_ | refine below_drewN ?_ _ | refine Below.setCell ?_ (by first | omega | (simp; done) | (simp; omega)) _ | refine Below.alloc ?_ (by first | omega | (simp; done) | (simp; omega)) _ | refine bchain ?_ (by assumption) (by first | omega | (simp; done) | (simp; omega)))))
      · have HR := Lib.hid (show meN p s q r = 0 ∧ meD p s q r = 0 ∧ mtB p s q r = false by unfold meN meD; rw [mtB_no e (.inl (by unfold bhd; split <;> omega))]; simp)
        have y1 : decide (0 < q - p) = false := by simp; omega
        have y2 : decide (0 < s - r) = true := by simp; omega
        have z1 : decide (p < q) = false := by simp; omega
        have z2 : decide (r < s) = true := by simp; omega
        have g1 : q < p := by omega
        have h1 : r < s := by omega
        clear e f g h
        go_enter Try.func77, Try.ntmps77
        go_wp2_with fail
        have u1 : IntKind.i64.wrap (q - p) = q - p := IntWalk.i64_in _ (by omega)
        have u2 : IntKind.i64.wrap (s - r) = s - r := IntWalk.i64_in _ (by omega)
        go_quiet (fail)
        clear u1 u2
        go_wp2_with (first | fail | go_in)
        all_goals (rw [HR.out.1, HR.out.2.1, HR.out.2.2]; go_ret3; refine ⟨rfl, ?_⟩; (repeat (first | exact Below.refl _ _ | refine Below.drew ?_ | refine below_drewN ?_ _ | refine Below.setCell ?_ (by first | omega | (simp; done) | (simp; omega)) _ | refine Below.alloc ?_ (by first | omega | (simp; done) | (simp; omega)) _ | refine bchain ?_ (by assumption) (by first | omega | (simp; done) | (simp; omega)))))
      · have HR := Lib.hid (show meN p s q r = lwN (-(q - p)) (-(s - r)) ∧ meD p s q r = lwD (-(q - p)) (-(s - r)) ∧ mtB p s q r = true by have eb : bhd p s q r = -(q - p) := (by unfold bhd; split <;> omega); have en : nrr s r = -(s - r) := (by unfold nrr ab; split <;> omega); unfold meN meD; rw [mtB_yes (.inr ⟨by omega, f⟩)]; simp [mtN, mtD, e]; rw [eb, en]; exact ⟨rfl, rfl⟩)
        have y1 : decide (0 < q - p) = false := by simp; omega
        have y2 : decide (0 < s - r) = false := by simp; omega
        have z1 : decide (p < q) = false := by simp; omega
        have z2 : decide (r < s) = false := by simp; omega
        have g1 : q < p := by omega
        have h1 : s < r := by omega
        clear e f g h
        go_enter Try.func77, Try.ntmps77
        go_wp2_with fail
        have u1 : IntKind.i64.wrap (q - p) = q - p := IntWalk.i64_in _ (by omega)
        have u2 : IntKind.i64.wrap (s - r) = s - r := IntWalk.i64_in _ (by omega)
        go_quiet (fail)
        clear u1 u2
        go_wp2_with (first | (go_at_call 82; refine (meLow_neg (q - p) (s - r) (by omega) (by omega) (by omega) (by omega) _).mono ?_; rintro e w1 ⟨rfl, hb⟩; have hc := (bcell hb).1; have hf := (bcell hb).2; have hz : w.heap.size ≤ w1.heap.size := (by have := hb.size; (try simp at this); omega); have hz0 : w.heap.size < w1.heap.size := (by have := hb.size; (try simp at this); omega); have hcA0 := fun o => (bcell hb).1 (w.heap.size) o (by first | omega | (simp; omega) | (simp; done)); have hfA0 := fun o => (bcell hb).2 (w.heap.size) o (by first | omega | (simp; omega) | (simp; done)); have hz1 : w.heap.size + 1 < w1.heap.size := (by have := hb.size; (try simp at this); omega); have hcA1 := fun o => (bcell hb).1 (w.heap.size + 1) o (by first | omega | (simp; omega) | (simp; done)); have hfA1 := fun o => (bcell hb).2 (w.heap.size + 1) o (by first | omega | (simp; omega) | (simp; done))) | go_in)
        all_goals (rw [HR.out.1, HR.out.2.1, HR.out.2.2]; go_ret3; refine ⟨rfl, ?_⟩; (repeat (first | exact Below.refl _ _ | refine Below.drew ?_ | refine below_drewN ?_ _ | refine Below.setCell ?_ (by first | omega | (simp; done) | (simp; omega)) _ | refine Below.alloc ?_ (by first | omega | (simp; done) | (simp; omega)) _ | refine bchain ?_ (by assumption) (by first | omega | (simp; done) | (simp; omega)))))
end Go.Proofs.Yteaefmngfomhgaa
