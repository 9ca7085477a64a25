/- Contracts of chapter 5's functions on numbers and trains, the model's, over one translation. -/
import Derived.Test.YtokjmhkdcgkcoaaGreatDoorProg
import Derived.Test.YtokjmhkdcgkcoaaGreatDoorTrnMath
import Derived.Test.YtokjmhkdcgkcoaaGreatDoorTwoWalks
import Derived.WalkKit
import Derived.WalkSpells
import Derived.WalkLawsBesides
import Derived.Lib.Hide
import Derived.Deep.RegionWith
import Derived.Deep.RegionHeld3
import Derived.Deep.QuietTactic
import Derived.BigQuiet
namespace Go.Proofs.YtokjmhkdcgkcoaaGreatDoor
open Go.RowKit
set_option linter.unusedVariables false
set_option linter.unusedSimpArgs false
set_option maxHeartbeats 2000000 in
theorem tiGood_any (l r : Int) (w : World) :
    Calls Tryz.prog 38 #[.agg #[.int .i64 l, .int .i64 r]] w fun e w' => e = .returned (.bool (tnOk l r)) ∧ Below w.heap.size w w' := by
  cases h1 : inB l 1 1000
  all_goals
    go_enter Tryz.func38, Tryz.ntmps38
    go_wp2_with (first | (go_at_call 57; refine (specIn _ _ _ _).mono ?_; rintro e w1 ⟨rfl, rfl⟩) | go_in)
    all_goals (go_ret; refine ⟨rB ?_, ?_⟩)
    all_goals first | (simp [tnOk, h1]; done) | (repeat (first | exact Below.refl _ _ | refine Below.drew ?_ | refine below_drewN ?_ _ | refine Below.setCell ?_ (by first | omega | (simp; done) | (simp; omega)) _ | refine Below.alloc ?_ (by first | omega | (simp; done) | (simp; omega)) _ | refine bchain ?_ (by assumption) (by first | omega | (simp; done) | (simp; omega))))
set_option maxHeartbeats 2000000 in
theorem specIsTrain (l r : Int) (w : World) :
    Calls Tryz.prog 15 #[.agg #[.int .i64 l, .int .i64 r]] w fun e w' => e = .returned (.bool (tnOk l r)) ∧ Below w.heap.size w w' := by
  go_enter Tryz.func15, Tryz.ntmps15
  go_wp2_with (first | (go_at_call 38; refine (tiGood_any _ _ _).mono ?_; rintro e w1 ⟨rfl, hb⟩; have hc := (bcell hb).1; have hf := (bcell hb).2; have hz : w.heap.size ≤ w1.heap.size := (by have := hb.size; (try simp at this); omega); have hz0 : w.heap.size < w1.heap.size := (by have := hb.size; (try simp at this); omega); have hcA0 := fun o => (bcell hb).1 (w.heap.size) o (by first | omega | (simp; omega) | (simp; done)); have hfA0 := fun o => (bcell hb).2 (w.heap.size) o (by first | omega | (simp; omega) | (simp; done))) | go_in)
  all_goals (go_ret; refine ⟨rB ?_, ?_⟩)
  all_goals first | rfl | (repeat (first | exact Below.refl _ _ | refine Below.drew ?_ | refine below_drewN ?_ _ | refine Below.setCell ?_ (by first | omega | (simp; done) | (simp; omega)) _ | refine Below.alloc ?_ (by first | omega | (simp; done) | (simp; omega)) _ | refine bchain ?_ (by assumption) (by first | omega | (simp; done) | (simp; omega))))
set_option maxHeartbeats 2000000 in
theorem common_any (a b : Int) (ha : 0 ≤ a) (hb : 0 ≤ b) (ha2 : a ≤ 1000000000000) (hb2 : b ≤ 1000000000000) (w : World) :
    Calls Tryz.prog 63 #[.int .i64 a, .int .i64 b] w fun e w' => e = .returned (.int .i64 (gc a b)) ∧ Below w.heap.size w w' := by
  go_enter Tryz.func63, Tryz.ntmps63
  go_wp2_with fail
  go_loopw [0, 1] (fun v0 v1 wr => ∃ x y : Int, v0 = .int .i64 x ∧ v1 = .int .i64 y ∧ 0 ≤ x ∧ x ≤ 1000000000000000000 ∧ 0 ≤ y ∧ y ≤ 1000000000000000000 ∧ Hid (gc x y = gc a b) ∧ Below w.heap.size w wr) (fun _ v1 _ => (intOf v1).toNat)
  case atStart => exact ⟨a, b, rfl, rfl, ha, (by omega), hb, (by omega), rfl, Below.refl _ _⟩
  case round =>
    obtain ⟨x, y, rfl, rfl, x1, x2, y1, y2, HE, hbel⟩ := hrel
    have HB := Lib.hid hbel
    clear hbel
    by_cases hy : y = 0
    · have HR : x = gc a b := by rw [← HE.out, hy, gc_zero x x1]
      clear HE
      subst hy
      subst HR
      go_wp2_with fail
      skip
      go_ret
      exact ⟨rfl, HB.out⟩
    · have e1 := Int.emod_nonneg x hy
      have e2 := Int.emod_lt_of_pos x (show 0 < y by omega)
      have HR := Lib.hid (show gc y (x % y) = gc a b by rw [gc_step x y x1 (by omega)]; exact HE.out)
      clear HE
      go_wp2_with fail
      have eM : x.tmod y = x % y := Int.tmod_eq_emod_of_nonneg x1
      have eW : IntKind.i64.wrap (x % y) = x % y := IntWalk.i64_in _ (by omega)
      go_quiet (fail)
      clear eM eW
      go_wp2_with fail
      go_roundw
      case rel => exact ⟨y, x % y, rfl, rfl, by omega, by omega, by omega, by omega, HR.out, below_drewN HB.out _⟩
      case measure => simp [intOf]; omega
set_option maxHeartbeats 2000000 in
theorem tiLow_any (a b : Int) (h1 : 0 ≤ a) (h2 : a ≤ 1000000000000) (h3 : 1 ≤ b) (h4 : b ≤ 1000000000000) (w : World) :
    Calls Tryz.prog 40 #[.int .i64 a, .int .i64 b] w fun e w' => e = .returned (.tuple #[.int .i64 (lwN a b), .int .i64 (lwD a b)]) ∧ Below w.heap.size w w' := by
  have g0 := ab_nonneg a
  have g1 := ab_le (x := a) (B := 1000000000000) (by omega) (by omega)
  have g2 := gc_pos (a := a) (b := b) (by omega)
  have g3 := gc_le (a := a) (b := b) (by omega)
  have t1 := tdiv_abs a (gc a b) g2
  have t2 := tdiv_abs b (gc a b) g2
  have t3 := ab_le (x := b) (B := 1000000000000) (by omega) (by omega)
  have d1 : IntKind.i64.wrap (a.tdiv (gc a b)) = a.tdiv (gc a b) := IntWalk.i64_in _ (by omega)
  have d2 : IntKind.i64.wrap (b.tdiv (gc a b)) = b.tdiv (gc a b) := IntWalk.i64_in _ (by omega)
  have d3 : (gc a b == 0) = false := by rw [beq_eq_false_iff_ne]; omega
  have d4 : ¬ gc a b = 0 := by omega
  have d5 : ¬ gc a b = -1 := by omega
  go_enter Tryz.func40, Tryz.ntmps40
  go_wp2_with (first | (go_at_call 63; refine (common_any a b (by omega) (by omega) (by omega) (by omega) _).mono ?_; rintro e w1 ⟨rfl, hb⟩; have hc := (bcell hb).1; have hf := (bcell hb).2; have hz : w.heap.size ≤ w1.heap.size := (by have := hb.size; (try simp at this); omega)) | go_in)
  all_goals try (go_quiet (fail); go_wp2_with fail)
  go_ret2
  exact ⟨rfl, by (repeat (first | exact Below.refl _ _ | refine Below.drew ?_ | refine below_drewN ?_ _ | refine Below.setCell ?_ (by first | omega | (simp; done) | (simp; omega)) _ | refine Below.alloc ?_ (by first | omega | (simp; done) | (simp; omega)) _ | refine bchain ?_ (by assumption) (by first | omega | (simp; done) | (simp; omega))))⟩
set_option maxHeartbeats 2000000 in
theorem tiWay_any (n : Int) (w : World) :
    Calls Tryz.prog 39 #[.int .i64 n] w fun e w' => e = .returned (.bool (wyOk n)) ∧ w = w' := by
  go_enter Tryz.func39, Tryz.ntmps39
  go_wp2_with (first | (go_at_call 57; refine (specIn _ _ _ _).mono ?_; rintro e w1 ⟨rfl, rfl⟩) | go_in)
  all_goals (go_ret; refine ⟨rB ?_, rfl⟩)
  all_goals first | rfl | (repeat (first | exact Below.refl _ _ | refine Below.drew ?_ | refine below_drewN ?_ _ | refine Below.setCell ?_ (by first | omega | (simp; done) | (simp; omega)) _ | refine Below.alloc ?_ (by first | omega | (simp; done) | (simp; omega)) _ | refine bchain ?_ (by assumption) (by first | omega | (simp; done) | (simp; omega))))
set_option maxHeartbeats 2000000 in
theorem tiTwo_any (l r m q : Int) (w : World) :
    Calls Tryz.prog 52 #[.agg #[.int .i64 l, .int .i64 r], .agg #[.int .i64 m, .int .i64 q]] w fun e w' => e = .returned (.bool (tn2 l r m q)) ∧ Below w.heap.size w w' := by
  cases h1 : tnOk l r
  all_goals
    go_enter Tryz.func52, Tryz.ntmps52
    go_wp2_with (first | (go_at_call 38; refine (tiGood_any _ _ _).mono ?_; rintro e w1 ⟨rfl, hb⟩; have hc := (bcell hb).1; have hf := (bcell hb).2; have hz : w.heap.size ≤ w1.heap.size := (by have := hb.size; (try simp at this); omega); have hz0 : w.heap.size < w1.heap.size := (by have := hb.size; (try simp at this); omega); have hcA0 := fun o => (bcell hb).1 (w.heap.size) o (by first | omega | (simp; omega) | (simp; done)); have hfA0 := fun o => (bcell hb).2 (w.heap.size) o (by first | omega | (simp; omega) | (simp; done)); have hz1 : w.heap.size + 1 < w1.heap.size := (by have := hb.size; (try simp at this); omega); have hcA1 := fun o => (bcell hb).1 (w.heap.size + 1) o (by first | omega | (simp; omega) | (simp; done)); have hfA1 := fun o => (bcell hb).2 (w.heap.size + 1) o (by first | omega | (simp; omega) | (simp; done))) | go_in)
    all_goals (go_ret; refine ⟨rB ?_, ?_⟩)
    all_goals first | (simp [tn2, h1]; done) | (repeat (first | exact Below.refl _ _ | refine Below.drew ?_ | refine below_drewN ?_ _ | refine Below.setCell ?_ (by first | omega | (simp; done) | (simp; omega)) _ | refine Below.alloc ?_ (by first | omega | (simp; done) | (simp; omega)) _ | refine bchain ?_ (by assumption) (by first | omega | (simp; done) | (simp; omega))))
set_option maxHeartbeats 2000000 in
theorem specPolePassing (l r : Int) (w : World) :
    Calls Tryz.prog 9 #[.agg #[.int .i64 l, .int .i64 r]] w fun e w' => e = .returned (.tuple #[.int .i64 (ifI (tnOk l r) (lwN l r)), .int .i64 (ifI (tnOk l r) (lwD l r)), .bool (tnOk l r)]) ∧ Below w.heap.size w w' := by
  cases hv : tnOk l r
  case false =>
    go_enter Tryz.func9, Tryz.ntmps9
    go_wp2_with (first | (go_at_call 38; refine (tiGood_any _ _ _).mono ?_; rintro e w1 ⟨rfl, hb⟩; have hc := (bcell hb).1; have hf := (bcell hb).2; have hz : w.heap.size ≤ w1.heap.size := (by have := hb.size; (try simp at this); omega); have hz0 : w.heap.size < w1.heap.size := (by have := hb.size; (try simp at this); omega); have hcA0 := fun o => (bcell hb).1 (w.heap.size) o (by first | omega | (simp; omega) | (simp; done)); have hfA0 := fun o => (bcell hb).2 (w.heap.size) o (by first | omega | (simp; omega) | (simp; done))) | go_in)
    all_goals (go_ret3; refine ⟨rII ?_ ?_ ?_, ?_⟩)
    all_goals first | (simp [hv, ifI]; done) | (repeat (first | exact Below.refl _ _ | refine Below.drew ?_ | refine below_drewN ?_ _ | refine Below.setCell ?_ (by first | omega | (simp; done) | (simp; omega)) _ | refine Below.alloc ?_ (by first | omega | (simp; done) | (simp; omega)) _ | refine bchain ?_ (by assumption) (by first | omega | (simp; done) | (simp; omega))))
  case true =>
  have b1 := (tnOk_iff.1 hv).1
  have b2 := (tnOk_iff.1 hv).2.1
  have b3 := (tnOk_iff.1 hv).2.2.1
  have b4 := (tnOk_iff.1 hv).2.2.2
  go_enter Tryz.func9, Tryz.ntmps9
  go_wp2_with (first | (go_at_call 38; refine (tiGood_any _ _ _).mono ?_; rintro e w1 ⟨rfl, hb⟩; have hc := (bcell hb).1; have hf := (bcell hb).2; have hz : w.heap.size ≤ w1.heap.size := (by have := hb.size; (try simp at this); omega); have hz0 : w.heap.size < w1.heap.size := (by have := hb.size; (try simp at this); omega); have hcA0 := fun o => (bcell hb).1 (w.heap.size) o (by first | omega | (simp; omega) | (simp; done)); have hfA0 := fun o => (bcell hb).2 (w.heap.size) o (by first | omega | (simp; omega) | (simp; done))) | (go_at_call 40; refine (tiLow_any (l) (r) (by omega) (by omega) (by omega) (by omega) _).mono ?_; rintro e w1 ⟨rfl, hb⟩; have hc := (bcell hb).1; have hf := (bcell hb).2; have hz : w.heap.size ≤ w1.heap.size := (by have := hb.size; (try simp at this); omega); have hz0 : w.heap.size < w1.heap.size := (by have := hb.size; (try simp at this); omega); have hcA0 := fun o => (bcell hb).1 (w.heap.size) o (by first | omega | (simp; omega) | (simp; done)); have hfA0 := fun o => (bcell hb).2 (w.heap.size) o (by first | omega | (simp; omega) | (simp; done))) | go_in)
  all_goals try ((go_quiet (fail)); go_wp2_with (first | (go_at_call 38; refine (tiGood_any _ _ _).mono ?_; rintro e w1 ⟨rfl, hb⟩; have hc := (bcell hb).1; have hf := (bcell hb).2; have hz : w.heap.size ≤ w1.heap.size := (by have := hb.size; (try simp at this); omega); have hz0 : w.heap.size < w1.heap.size := (by have := hb.size; (try simp at this); omega); have hcA0 := fun o => (bcell hb).1 (w.heap.size) o (by first | omega | (simp; omega) | (simp; done)); have hfA0 := fun o => (bcell hb).2 (w.heap.size) o (by first | omega | (simp; omega) | (simp; done))) | (go_at_call 40; refine (tiLow_any (l) (r) (by omega) (by omega) (by omega) (by omega) _).mono ?_; rintro e w1 ⟨rfl, hb⟩; have hc := (bcell hb).1; have hf := (bcell hb).2; have hz : w.heap.size ≤ w1.heap.size := (by have := hb.size; (try simp at this); omega); have hz0 : w.heap.size < w1.heap.size := (by have := hb.size; (try simp at this); omega); have hcA0 := fun o => (bcell hb).1 (w.heap.size) o (by first | omega | (simp; omega) | (simp; done)); have hfA0 := fun o => (bcell hb).2 (w.heap.size) o (by first | omega | (simp; omega) | (simp; done))) | go_in))
  all_goals (go_ret3; refine ⟨rII ?_ ?_ ?_, ?_⟩)
  all_goals first | (simp [hv, ifI]; done) | (repeat (first | exact Below.refl _ _ | refine Below.drew ?_ | refine below_drewN ?_ _ | refine Below.setCell ?_ (by first | omega | (simp; done) | (simp; omega)) _ | refine Below.alloc ?_ (by first | omega | (simp; done) | (simp; omega)) _ | refine bchain ?_ (by assumption) (by first | omega | (simp; done) | (simp; omega))))
set_option maxHeartbeats 2000000 in
theorem specBridgePassing (l r n : Int) (w : World) :
    Calls Tryz.prog 7 #[.agg #[.int .i64 l, .int .i64 r], .int .i64 n] w fun e w' => e = .returned (.tuple #[.int .i64 (ifI (tnOk l r && wyOk n) (lwN (l + n) r)), .int .i64 (ifI (tnOk l r && wyOk n) (lwD (l + n) r)), .bool (tnOk l r && wyOk n)]) ∧ Below w.heap.size w w' := by
  cases hv : tnOk l r
  case false =>
    go_enter Tryz.func7, Tryz.ntmps7
    go_wp2_with (first | (go_at_call 38; refine (tiGood_any _ _ _).mono ?_; rintro e w1 ⟨rfl, hb⟩; have hc := (bcell hb).1; have hf := (bcell hb).2; have hz : w.heap.size ≤ w1.heap.size := (by have := hb.size; (try simp at this); omega); have hz0 : w.heap.size < w1.heap.size := (by have := hb.size; (try simp at this); omega); have hcA0 := fun o => (bcell hb).1 (w.heap.size) o (by first | omega | (simp; omega) | (simp; done)); have hfA0 := fun o => (bcell hb).2 (w.heap.size) o (by first | omega | (simp; omega) | (simp; done))) | (go_at_call 39; refine (tiWay_any _ _).mono ?_; rintro e w1 ⟨rfl, rfl⟩) | go_in)
    all_goals (go_ret3; refine ⟨rII ?_ ?_ ?_, ?_⟩)
    all_goals first | (simp [hv, ifI]; done) | (repeat (first | exact Below.refl _ _ | refine Below.drew ?_ | refine below_drewN ?_ _ | refine Below.setCell ?_ (by first | omega | (simp; done) | (simp; omega)) _ | refine Below.alloc ?_ (by first | omega | (simp; done) | (simp; omega)) _ | refine bchain ?_ (by assumption) (by first | omega | (simp; done) | (simp; omega))))
  case true =>
  have b1 := (tnOk_iff.1 hv).1
  have b2 := (tnOk_iff.1 hv).2.1
  have b3 := (tnOk_iff.1 hv).2.2.1
  have b4 := (tnOk_iff.1 hv).2.2.2
  cases hw : wyOk n
  case false =>
    go_enter Tryz.func7, Tryz.ntmps7
    go_wp2_with (first | (go_at_call 38; refine (tiGood_any _ _ _).mono ?_; rintro e w1 ⟨rfl, hb⟩; have hc := (bcell hb).1; have hf := (bcell hb).2; have hz : w.heap.size ≤ w1.heap.size := (by have := hb.size; (try simp at this); omega); have hz0 : w.heap.size < w1.heap.size := (by have := hb.size; (try simp at this); omega); have hcA0 := fun o => (bcell hb).1 (w.heap.size) o (by first | omega | (simp; omega) | (simp; done)); have hfA0 := fun o => (bcell hb).2 (w.heap.size) o (by first | omega | (simp; omega) | (simp; done))) | (go_at_call 39; refine (tiWay_any _ _).mono ?_; rintro e w1 ⟨rfl, rfl⟩) | go_in)
    all_goals try ((go_quiet (fail)); go_wp2_with (first | (go_at_call 38; refine (tiGood_any _ _ _).mono ?_; rintro e w1 ⟨rfl, hb⟩; have hc := (bcell hb).1; have hf := (bcell hb).2; have hz : w.heap.size ≤ w1.heap.size := (by have := hb.size; (try simp at this); omega); have hz0 : w.heap.size < w1.heap.size := (by have := hb.size; (try simp at this); omega); have hcA0 := fun o => (bcell hb).1 (w.heap.size) o (by first | omega | (simp; omega) | (simp; done)); have hfA0 := fun o => (bcell hb).2 (w.heap.size) o (by first | omega | (simp; omega) | (simp; done))) | (go_at_call 39; refine (tiWay_any _ _).mono ?_; rintro e w1 ⟨rfl, rfl⟩) | go_in))
    all_goals (go_ret3; refine ⟨rII ?_ ?_ ?_, ?_⟩)
    all_goals first | (simp [hv, hw, ifI]; done) | (repeat (first | exact Below.refl _ _ | refine Below.drew ?_ | refine below_drewN ?_ _ | refine Below.setCell ?_ (by first | omega | (simp; done) | (simp; omega)) _ | refine Below.alloc ?_ (by first | omega | (simp; done) | (simp; omega)) _ | refine bchain ?_ (by assumption) (by first | omega | (simp; done) | (simp; omega))))
  case true =>
  have w1 := (wyOk_iff.1 hw).1
  have w2 := (wyOk_iff.1 hw).2
  go_enter Tryz.func7, Tryz.ntmps7
  go_wp2_with (first | (go_at_call 38; refine (tiGood_any _ _ _).mono ?_; rintro e w1 ⟨rfl, hb⟩; have hc := (bcell hb).1; have hf := (bcell hb).2; have hz : w.heap.size ≤ w1.heap.size := (by have := hb.size; (try simp at this); omega); have hz0 : w.heap.size < w1.heap.size := (by have := hb.size; (try simp at this); omega); have hcA0 := fun o => (bcell hb).1 (w.heap.size) o (by first | omega | (simp; omega) | (simp; done)); have hfA0 := fun o => (bcell hb).2 (w.heap.size) o (by first | omega | (simp; omega) | (simp; done))) | (go_at_call 39; refine (tiWay_any _ _).mono ?_; rintro e w1 ⟨rfl, rfl⟩) | (go_at_call 40; refine (tiLow_any (l + n) (r) (by omega) (by omega) (by omega) (by omega) _).mono ?_; rintro e w1 ⟨rfl, hb⟩; have hc := (bcell hb).1; have hf := (bcell hb).2; have hz : w.heap.size ≤ w1.heap.size := (by have := hb.size; (try simp at this); omega); have hz0 : w.heap.size < w1.heap.size := (by have := hb.size; (try simp at this); omega); have hcA0 := fun o => (bcell hb).1 (w.heap.size) o (by first | omega | (simp; omega) | (simp; done)); have hfA0 := fun o => (bcell hb).2 (w.heap.size) o (by first | omega | (simp; omega) | (simp; done))) | go_in)
  all_goals try ((go_quiet (fail)); go_wp2_with (first | (go_at_call 38; refine (tiGood_any _ _ _).mono ?_; rintro e w1 ⟨rfl, hb⟩; have hc := (bcell hb).1; have hf := (bcell hb).2; have hz : w.heap.size ≤ w1.heap.size := (by have := hb.size; (try simp at this); omega); have hz0 : w.heap.size < w1.heap.size := (by have := hb.size; (try simp at this); omega); have hcA0 := fun o => (bcell hb).1 (w.heap.size) o (by first | omega | (simp; omega) | (simp; done)); have hfA0 := fun o => (bcell hb).2 (w.heap.size) o (by first | omega | (simp; omega) | (simp; done))) | (go_at_call 39; refine (tiWay_any _ _).mono ?_; rintro e w1 ⟨rfl, rfl⟩) | (go_at_call 40; refine (tiLow_any (l + n) (r) (by omega) (by omega) (by omega) (by omega) _).mono ?_; rintro e w1 ⟨rfl, hb⟩; have hc := (bcell hb).1; have hf := (bcell hb).2; have hz : w.heap.size ≤ w1.heap.size := (by have := hb.size; (try simp at this); omega); have hz0 : w.heap.size < w1.heap.size := (by have := hb.size; (try simp at this); omega); have hcA0 := fun o => (bcell hb).1 (w.heap.size) o (by first | omega | (simp; omega) | (simp; done)); have hfA0 := fun o => (bcell hb).2 (w.heap.size) o (by first | omega | (simp; omega) | (simp; done))) | go_in))
  all_goals (go_ret3; refine ⟨rII ?_ ?_ ?_, ?_⟩)
  all_goals first | (simp [hv, hw, ifI]; done) | (repeat (first | exact Below.refl _ _ | refine Below.drew ?_ | refine below_drewN ?_ _ | refine Below.setCell ?_ (by first | omega | (simp; done) | (simp; omega)) _ | refine Below.alloc ?_ (by first | omega | (simp; done) | (simp; omega)) _ | refine bchain ?_ (by assumption) (by first | omega | (simp; done) | (simp; omega))))
set_option maxHeartbeats 2000000 in
theorem specInsideTunnel (l r n : Int) (w : World) :
    Calls Tryz.prog 11 #[.agg #[.int .i64 l, .int .i64 r], .int .i64 n] w fun e w' => e = .returned (.tuple #[.int .i64 (ifI (tnOk l r && wyOk n && decide (l ≤ n)) (lwN (n - l) r)), .int .i64 (ifI (tnOk l r && wyOk n && decide (l ≤ n)) (lwD (n - l) r)), .bool (tnOk l r && wyOk n && decide (l ≤ n))]) ∧ Below w.heap.size w w' := by
  cases hv : tnOk l r
  case false =>
    go_enter Tryz.func11, Tryz.ntmps11
    go_wp2_with (first | (go_at_call 38; refine (tiGood_any _ _ _).mono ?_; rintro e w1 ⟨rfl, hb⟩; have hc := (bcell hb).1; have hf := (bcell hb).2; have hz : w.heap.size ≤ w1.heap.size := (by have := hb.size; (try simp at this); omega); have hz0 : w.heap.size < w1.heap.size := (by have := hb.size; (try simp at this); omega); have hcA0 := fun o => (bcell hb).1 (w.heap.size) o (by first | omega | (simp; omega) | (simp; done)); have hfA0 := fun o => (bcell hb).2 (w.heap.size) o (by first | omega | (simp; omega) | (simp; done))) | (go_at_call 39; refine (tiWay_any _ _).mono ?_; rintro e w1 ⟨rfl, rfl⟩) | go_in)
    all_goals (go_ret3; refine ⟨rII ?_ ?_ ?_, ?_⟩)
    all_goals first | (simp [hv, ifI]; done) | (repeat (first | exact Below.refl _ _ | refine Below.drew ?_ | refine below_drewN ?_ _ | refine Below.setCell ?_ (by first | omega | (simp; done) | (simp; omega)) _ | refine Below.alloc ?_ (by first | omega | (simp; done) | (simp; omega)) _ | refine bchain ?_ (by assumption) (by first | omega | (simp; done) | (simp; omega))))
  case true =>
  have b1 := (tnOk_iff.1 hv).1
  have b2 := (tnOk_iff.1 hv).2.1
  have b3 := (tnOk_iff.1 hv).2.2.1
  have b4 := (tnOk_iff.1 hv).2.2.2
  cases hw : wyOk n
  case false =>
    go_enter Tryz.func11, Tryz.ntmps11
    go_wp2_with (first | (go_at_call 38; refine (tiGood_any _ _ _).mono ?_; rintro e w1 ⟨rfl, hb⟩; have hc := (bcell hb).1; have hf := (bcell hb).2; have hz : w.heap.size ≤ w1.heap.size := (by have := hb.size; (try simp at this); omega); have hz0 : w.heap.size < w1.heap.size := (by have := hb.size; (try simp at this); omega); have hcA0 := fun o => (bcell hb).1 (w.heap.size) o (by first | omega | (simp; omega) | (simp; done)); have hfA0 := fun o => (bcell hb).2 (w.heap.size) o (by first | omega | (simp; omega) | (simp; done))) | (go_at_call 39; refine (tiWay_any _ _).mono ?_; rintro e w1 ⟨rfl, rfl⟩) | go_in)
    all_goals try ((go_quiet (fail)); go_wp2_with (first | (go_at_call 38; refine (tiGood_any _ _ _).mono ?_; rintro e w1 ⟨rfl, hb⟩; have hc := (bcell hb).1; have hf := (bcell hb).2; have hz : w.heap.size ≤ w1.heap.size := (by have := hb.size; (try simp at this); omega); have hz0 : w.heap.size < w1.heap.size := (by have := hb.size; (try simp at this); omega); have hcA0 := fun o => (bcell hb).1 (w.heap.size) o (by first | omega | (simp; omega) | (simp; done)); have hfA0 := fun o => (bcell hb).2 (w.heap.size) o (by first | omega | (simp; omega) | (simp; done))) | (go_at_call 39; refine (tiWay_any _ _).mono ?_; rintro e w1 ⟨rfl, rfl⟩) | go_in))
    all_goals (go_ret3; refine ⟨rII ?_ ?_ ?_, ?_⟩)
    all_goals first | (simp [hv, hw, ifI]; done) | (repeat (first | exact Below.refl _ _ | refine Below.drew ?_ | refine below_drewN ?_ _ | refine Below.setCell ?_ (by first | omega | (simp; done) | (simp; omega)) _ | refine Below.alloc ?_ (by first | omega | (simp; done) | (simp; omega)) _ | refine bchain ?_ (by assumption) (by first | omega | (simp; done) | (simp; omega))))
  case true =>
  have w1 := (wyOk_iff.1 hw).1
  have w2 := (wyOk_iff.1 hw).2
  cases hx : decide (l ≤ n)
  case false =>
    have x1 := of_decide_eq_false hx
    go_enter Tryz.func11, Tryz.ntmps11
    go_wp2_with (first | (go_at_call 38; refine (tiGood_any _ _ _).mono ?_; rintro e w1 ⟨rfl, hb⟩; have hc := (bcell hb).1; have hf := (bcell hb).2; have hz : w.heap.size ≤ w1.heap.size := (by have := hb.size; (try simp at this); omega); have hz0 : w.heap.size < w1.heap.size := (by have := hb.size; (try simp at this); omega); have hcA0 := fun o => (bcell hb).1 (w.heap.size) o (by first | omega | (simp; omega) | (simp; done)); have hfA0 := fun o => (bcell hb).2 (w.heap.size) o (by first | omega | (simp; omega) | (simp; done))) | (go_at_call 39; refine (tiWay_any _ _).mono ?_; rintro e w1 ⟨rfl, rfl⟩) | go_in)
    all_goals try ((go_quiet (fail)); go_wp2_with (first | (go_at_call 38; refine (tiGood_any _ _ _).mono ?_; rintro e w1 ⟨rfl, hb⟩; have hc := (bcell hb).1; have hf := (bcell hb).2; have hz : w.heap.size ≤ w1.heap.size := (by have := hb.size; (try simp at this); omega); have hz0 : w.heap.size < w1.heap.size := (by have := hb.size; (try simp at this); omega); have hcA0 := fun o => (bcell hb).1 (w.heap.size) o (by first | omega | (simp; omega) | (simp; done)); have hfA0 := fun o => (bcell hb).2 (w.heap.size) o (by first | omega | (simp; omega) | (simp; done))) | (go_at_call 39; refine (tiWay_any _ _).mono ?_; rintro e w1 ⟨rfl, rfl⟩) | go_in))
    all_goals (go_ret3; refine ⟨rII ?_ ?_ ?_, ?_⟩)
    all_goals first | (simp [hv, hw, hx, ifI]; done) | (repeat (first | exact Below.refl _ _ | refine Below.drew ?_ | refine below_drewN ?_ _ | refine Below.setCell ?_ (by first | omega | (simp; done) | (simp; omega)) _ | refine Below.alloc ?_ (by first | omega | (simp; done) | (simp; omega)) _ | refine bchain ?_ (by assumption) (by first | omega | (simp; done) | (simp; omega))))
  case true =>
  have x1 := of_decide_eq_true hx
  go_enter Tryz.func11, Tryz.ntmps11
  go_wp2_with (first | (go_at_call 38; refine (tiGood_any _ _ _).mono ?_; rintro e w1 ⟨rfl, hb⟩; have hc := (bcell hb).1; have hf := (bcell hb).2; have hz : w.heap.size ≤ w1.heap.size := (by have := hb.size; (try simp at this); omega); have hz0 : w.heap.size < w1.heap.size := (by have := hb.size; (try simp at this); omega); have hcA0 := fun o => (bcell hb).1 (w.heap.size) o (by first | omega | (simp; omega) | (simp; done)); have hfA0 := fun o => (bcell hb).2 (w.heap.size) o (by first | omega | (simp; omega) | (simp; done))) | (go_at_call 39; refine (tiWay_any _ _).mono ?_; rintro e w1 ⟨rfl, rfl⟩) | (go_at_call 40; refine (tiLow_any (n - l) (r) (by omega) (by omega) (by omega) (by omega) _).mono ?_; rintro e w1 ⟨rfl, hb⟩; have hc := (bcell hb).1; have hf := (bcell hb).2; have hz : w.heap.size ≤ w1.heap.size := (by have := hb.size; (try simp at this); omega); have hz0 : w.heap.size < w1.heap.size := (by have := hb.size; (try simp at this); omega); have hcA0 := fun o => (bcell hb).1 (w.heap.size) o (by first | omega | (simp; omega) | (simp; done)); have hfA0 := fun o => (bcell hb).2 (w.heap.size) o (by first | omega | (simp; omega) | (simp; done))) | go_in)
  all_goals try ((go_quiet (fail)); go_wp2_with (first | (go_at_call 38; refine (tiGood_any _ _ _).mono ?_; rintro e w1 ⟨rfl, hb⟩; have hc := (bcell hb).1; have hf := (bcell hb).2; have hz : w.heap.size ≤ w1.heap.size := (by have := hb.size; (try simp at this); omega); have hz0 : w.heap.size < w1.heap.size := (by have := hb.size; (try simp at this); omega); have hcA0 := fun o => (bcell hb).1 (w.heap.size) o (by first | omega | (simp; omega) | (simp; done)); have hfA0 := fun o => (bcell hb).2 (w.heap.size) o (by first | omega | (simp; omega) | (simp; done))) | (go_at_call 39; refine (tiWay_any _ _).mono ?_; rintro e w1 ⟨rfl, rfl⟩) | (go_at_call 40; refine (tiLow_any (n - l) (r) (by omega) (by omega) (by omega) (by omega) _).mono ?_; rintro e w1 ⟨rfl, hb⟩; have hc := (bcell hb).1; have hf := (bcell hb).2; have hz : w.heap.size ≤ w1.heap.size := (by have := hb.size; (try simp at this); omega); have hz0 : w.heap.size < w1.heap.size := (by have := hb.size; (try simp at this); omega); have hcA0 := fun o => (bcell hb).1 (w.heap.size) o (by first | omega | (simp; omega) | (simp; done)); have hfA0 := fun o => (bcell hb).2 (w.heap.size) o (by first | omega | (simp; omega) | (simp; done))) | go_in))
  all_goals (go_ret3; refine ⟨rII ?_ ?_ ?_, ?_⟩)
  all_goals first | (simp [hv, hw, hx, ifI]; done) | (repeat (first | exact Below.refl _ _ | refine Below.drew ?_ | refine below_drewN ?_ _ | refine Below.setCell ?_ (by first | omega | (simp; done) | (simp; omega)) _ | refine Below.alloc ?_ (by first | omega | (simp; done) | (simp; omega)) _ | refine bchain ?_ (by assumption) (by first | omega | (simp; done) | (simp; omega))))
set_option maxHeartbeats 2000000 in
theorem specPassEachOther (l r m q : Int) (w : World) :
    Calls Tryz.prog 21 #[.agg #[.int .i64 l, .int .i64 r], .agg #[.int .i64 m, .int .i64 q]] w fun e w' => e = .returned (.tuple #[.int .i64 (ifI (tn2 l r m q) (lwN (l + m) (r + q))), .int .i64 (ifI (tn2 l r m q) (lwD (l + m) (r + q))), .bool (tn2 l r m q)]) ∧ Below w.heap.size w w' := by
  cases hv : tn2 l r m q
  case false =>
    go_enter Tryz.func21, Tryz.ntmps21
    go_wp2_with (first | (go_at_call 52; refine (tiTwo_any _ _ _ _ _).mono ?_; rintro e w1 ⟨rfl, hb⟩; have hc := (bcell hb).1; have hf := (bcell hb).2; have hz : w.heap.size ≤ w1.heap.size := (by have := hb.size; (try simp at this); omega); have hz0 : w.heap.size < w1.heap.size := (by have := hb.size; (try simp at this); omega); have hcA0 := fun o => (bcell hb).1 (w.heap.size) o (by first | omega | (simp; omega) | (simp; done)); have hfA0 := fun o => (bcell hb).2 (w.heap.size) o (by first | omega | (simp; omega) | (simp; done)); have hz1 : w.heap.size + 1 < w1.heap.size := (by have := hb.size; (try simp at this); omega); have hcA1 := fun o => (bcell hb).1 (w.heap.size + 1) o (by first | omega | (simp; omega) | (simp; done)); have hfA1 := fun o => (bcell hb).2 (w.heap.size + 1) o (by first | omega | (simp; omega) | (simp; done))) | go_in)
    all_goals (go_ret3; refine ⟨rII ?_ ?_ ?_, ?_⟩)
    all_goals first | (simp [hv, ifI]; done) | (repeat (first | exact Below.refl _ _ | refine Below.drew ?_ | refine below_drewN ?_ _ | refine Below.setCell ?_ (by first | omega | (simp; done) | (simp; omega)) _ | refine Below.alloc ?_ (by first | omega | (simp; done) | (simp; omega)) _ | refine bchain ?_ (by assumption) (by first | omega | (simp; done) | (simp; omega))))
  case true =>
  have b1 := (tn2_iff.1 hv).1.1
  have b2 := (tn2_iff.1 hv).1.2.1
  have b3 := (tn2_iff.1 hv).1.2.2.1
  have b4 := (tn2_iff.1 hv).1.2.2.2
  have d1 := (tn2_iff.1 hv).2.1
  have d2 := (tn2_iff.1 hv).2.2.1
  have d3 := (tn2_iff.1 hv).2.2.2.1
  have d4 := (tn2_iff.1 hv).2.2.2.2
  go_enter Tryz.func21, Tryz.ntmps21
  go_wp2_with (first | (go_at_call 52; refine (tiTwo_any _ _ _ _ _).mono ?_; rintro e w1 ⟨rfl, hb⟩; have hc := (bcell hb).1; have hf := (bcell hb).2; have hz : w.heap.size ≤ w1.heap.size := (by have := hb.size; (try simp at this); omega); have hz0 : w.heap.size < w1.heap.size := (by have := hb.size; (try simp at this); omega); have hcA0 := fun o => (bcell hb).1 (w.heap.size) o (by first | omega | (simp; omega) | (simp; done)); have hfA0 := fun o => (bcell hb).2 (w.heap.size) o (by first | omega | (simp; omega) | (simp; done)); have hz1 : w.heap.size + 1 < w1.heap.size := (by have := hb.size; (try simp at this); omega); have hcA1 := fun o => (bcell hb).1 (w.heap.size + 1) o (by first | omega | (simp; omega) | (simp; done)); have hfA1 := fun o => (bcell hb).2 (w.heap.size + 1) o (by first | omega | (simp; omega) | (simp; done))) | (go_at_call 40; refine (tiLow_any (l + m) (r + q) (by omega) (by omega) (by omega) (by omega) _).mono ?_; rintro e w1 ⟨rfl, hb⟩; have hc := (bcell hb).1; have hf := (bcell hb).2; have hz : w.heap.size ≤ w1.heap.size := (by have := hb.size; (try simp at this); omega); have hz0 : w.heap.size < w1.heap.size := (by have := hb.size; (try simp at this); omega); have hcA0 := fun o => (bcell hb).1 (w.heap.size) o (by first | omega | (simp; omega) | (simp; done)); have hfA0 := fun o => (bcell hb).2 (w.heap.size) o (by first | omega | (simp; omega) | (simp; done)); have hz1 : w.heap.size + 1 < w1.heap.size := (by have := hb.size; (try simp at this); omega); have hcA1 := fun o => (bcell hb).1 (w.heap.size + 1) o (by first | omega | (simp; omega) | (simp; done)); have hfA1 := fun o => (bcell hb).2 (w.heap.size + 1) o (by first | omega | (simp; omega) | (simp; done))) | go_in)
  all_goals try ((go_quiet (fail)); go_wp2_with (first | (go_at_call 52; refine (tiTwo_any _ _ _ _ _).mono ?_; rintro e w1 ⟨rfl, hb⟩; have hc := (bcell hb).1; have hf := (bcell hb).2; have hz : w.heap.size ≤ w1.heap.size := (by have := hb.size; (try simp at this); omega); have hz0 : w.heap.size < w1.heap.size := (by have := hb.size; (try simp at this); omega); have hcA0 := fun o => (bcell hb).1 (w.heap.size) o (by first | omega | (simp; omega) | (simp; done)); have hfA0 := fun o => (bcell hb).2 (w.heap.size) o (by first | omega | (simp; omega) | (simp; done)); have hz1 : w.heap.size + 1 < w1.heap.size := (by have := hb.size; (try simp at this); omega); have hcA1 := fun o => (bcell hb).1 (w.heap.size + 1) o (by first | omega | (simp; omega) | (simp; done)); have hfA1 := fun o => (bcell hb).2 (w.heap.size + 1) o (by first | omega | (simp; omega) | (simp; done))) | (go_at_call 40; refine (tiLow_any (l + m) (r + q) (by omega) (by omega) (by omega) (by omega) _).mono ?_; rintro e w1 ⟨rfl, hb⟩; have hc := (bcell hb).1; have hf := (bcell hb).2; have hz : w.heap.size ≤ w1.heap.size := (by have := hb.size; (try simp at this); omega); have hz0 : w.heap.size < w1.heap.size := (by have := hb.size; (try simp at this); omega); have hcA0 := fun o => (bcell hb).1 (w.heap.size) o (by first | omega | (simp; omega) | (simp; done)); have hfA0 := fun o => (bcell hb).2 (w.heap.size) o (by first | omega | (simp; omega) | (simp; done)); have hz1 : w.heap.size + 1 < w1.heap.size := (by have := hb.size; (try simp at this); omega); have hcA1 := fun o => (bcell hb).1 (w.heap.size + 1) o (by first | omega | (simp; omega) | (simp; done)); have hfA1 := fun o => (bcell hb).2 (w.heap.size + 1) o (by first | omega | (simp; omega) | (simp; done))) | go_in))
  all_goals try ((go_quiet (fail)); go_wp2_with (first | (go_at_call 52; refine (tiTwo_any _ _ _ _ _).mono ?_; rintro e w1 ⟨rfl, hb⟩; have hc := (bcell hb).1; have hf := (bcell hb).2; have hz : w.heap.size ≤ w1.heap.size := (by have := hb.size; (try simp at this); omega); have hz0 : w.heap.size < w1.heap.size := (by have := hb.size; (try simp at this); omega); have hcA0 := fun o => (bcell hb).1 (w.heap.size) o (by first | omega | (simp; omega) | (simp; done)); have hfA0 := fun o => (bcell hb).2 (w.heap.size) o (by first | omega | (simp; omega) | (simp; done)); have hz1 : w.heap.size + 1 < w1.heap.size := (by have := hb.size; (try simp at this); omega); have hcA1 := fun o => (bcell hb).1 (w.heap.size + 1) o (by first | omega | (simp; omega) | (simp; done)); have hfA1 := fun o => (bcell hb).2 (w.heap.size + 1) o (by first | omega | (simp; omega) | (simp; done))) | (go_at_call 40; refine (tiLow_any (l + m) (r + q) (by omega) (by omega) (by omega) (by omega) _).mono ?_; rintro e w1 ⟨rfl, hb⟩; have hc := (bcell hb).1; have hf := (bcell hb).2; have hz : w.heap.size ≤ w1.heap.size := (by have := hb.size; (try simp at this); omega); have hz0 : w.heap.size < w1.heap.size := (by have := hb.size; (try simp at this); omega); have hcA0 := fun o => (bcell hb).1 (w.heap.size) o (by first | omega | (simp; omega) | (simp; done)); have hfA0 := fun o => (bcell hb).2 (w.heap.size) o (by first | omega | (simp; omega) | (simp; done)); have hz1 : w.heap.size + 1 < w1.heap.size := (by have := hb.size; (try simp at this); omega); have hcA1 := fun o => (bcell hb).1 (w.heap.size + 1) o (by first | omega | (simp; omega) | (simp; done)); have hfA1 := fun o => (bcell hb).2 (w.heap.size + 1) o (by first | omega | (simp; omega) | (simp; done))) | go_in))
  all_goals (go_ret3; refine ⟨rII ?_ ?_ ?_, ?_⟩)
  all_goals first | (simp [hv, ifI]; done) | (repeat (first | exact Below.refl _ _ | refine Below.drew ?_ | refine below_drewN ?_ _ | refine Below.setCell ?_ (by first | omega | (simp; done) | (simp; omega)) _ | refine Below.alloc ?_ (by first | omega | (simp; done) | (simp; omega)) _ | refine bchain ?_ (by assumption) (by first | omega | (simp; done) | (simp; omega))))
set_option maxHeartbeats 2000000 in
theorem specPassOvertaking (l r m q : Int) (w : World) :
    Calls Tryz.prog 23 #[.agg #[.int .i64 l, .int .i64 r], .agg #[.int .i64 m, .int .i64 q]] w fun e w' => e = .returned (.tuple #[.int .i64 (ifI (tn2 l r m q && decide (q < r)) (lwN (l + m) (r - q))), .int .i64 (ifI (tn2 l r m q && decide (q < r)) (lwD (l + m) (r - q))), .bool (tn2 l r m q && decide (q < r))]) ∧ Below w.heap.size w w' := by
  cases hv : tn2 l r m q
  case false =>
    go_enter Tryz.func23, Tryz.ntmps23
    go_wp2_with (first | (go_at_call 52; refine (tiTwo_any _ _ _ _ _).mono ?_; rintro e w1 ⟨rfl, hb⟩; have hc := (bcell hb).1; have hf := (bcell hb).2; have hz : w.heap.size ≤ w1.heap.size := (by have := hb.size; (try simp at this); omega); have hz0 : w.heap.size < w1.heap.size := (by have := hb.size; (try simp at this); omega); have hcA0 := fun o => (bcell hb).1 (w.heap.size) o (by first | omega | (simp; omega) | (simp; done)); have hfA0 := fun o => (bcell hb).2 (w.heap.size) o (by first | omega | (simp; omega) | (simp; done)); have hz1 : w.heap.size + 1 < w1.heap.size := (by have := hb.size; (try simp at this); omega); have hcA1 := fun o => (bcell hb).1 (w.heap.size + 1) o (by first | omega | (simp; omega) | (simp; done)); have hfA1 := fun o => (bcell hb).2 (w.heap.size + 1) o (by first | omega | (simp; omega) | (simp; done))) | go_in)
    all_goals (go_ret3; refine ⟨rII ?_ ?_ ?_, ?_⟩)
    all_goals first | (simp [hv, ifI]; done) | (repeat (first | exact Below.refl _ _ | refine Below.drew ?_ | refine below_drewN ?_ _ | refine Below.setCell ?_ (by first | omega | (simp; done) | (simp; omega)) _ | refine Below.alloc ?_ (by first | omega | (simp; done) | (simp; omega)) _ | refine bchain ?_ (by assumption) (by first | omega | (simp; done) | (simp; omega))))
  case true =>
  have b1 := (tn2_iff.1 hv).1.1
  have b2 := (tn2_iff.1 hv).1.2.1
  have b3 := (tn2_iff.1 hv).1.2.2.1
  have b4 := (tn2_iff.1 hv).1.2.2.2
  have d1 := (tn2_iff.1 hv).2.1
  have d2 := (tn2_iff.1 hv).2.2.1
  have d3 := (tn2_iff.1 hv).2.2.2.1
  have d4 := (tn2_iff.1 hv).2.2.2.2
  cases hx : decide (q < r)
  case false =>
    have x1 := of_decide_eq_false hx
    go_enter Tryz.func23, Tryz.ntmps23
    go_wp2_with (first | (go_at_call 52; refine (tiTwo_any _ _ _ _ _).mono ?_; rintro e w1 ⟨rfl, hb⟩; have hc := (bcell hb).1; have hf := (bcell hb).2; have hz : w.heap.size ≤ w1.heap.size := (by have := hb.size; (try simp at this); omega); have hz0 : w.heap.size < w1.heap.size := (by have := hb.size; (try simp at this); omega); have hcA0 := fun o => (bcell hb).1 (w.heap.size) o (by first | omega | (simp; omega) | (simp; done)); have hfA0 := fun o => (bcell hb).2 (w.heap.size) o (by first | omega | (simp; omega) | (simp; done)); have hz1 : w.heap.size + 1 < w1.heap.size := (by have := hb.size; (try simp at this); omega); have hcA1 := fun o => (bcell hb).1 (w.heap.size + 1) o (by first | omega | (simp; omega) | (simp; done)); have hfA1 := fun o => (bcell hb).2 (w.heap.size + 1) o (by first | omega | (simp; omega) | (simp; done))) | go_in)
    all_goals try ((go_quiet (fail)); go_wp2_with (first | (go_at_call 52; refine (tiTwo_any _ _ _ _ _).mono ?_; rintro e w1 ⟨rfl, hb⟩; have hc := (bcell hb).1; have hf := (bcell hb).2; have hz : w.heap.size ≤ w1.heap.size := (by have := hb.size; (try simp at this); omega); have hz0 : w.heap.size < w1.heap.size := (by have := hb.size; (try simp at this); omega); have hcA0 := fun o => (bcell hb).1 (w.heap.size) o (by first | omega | (simp; omega) | (simp; done)); have hfA0 := fun o => (bcell hb).2 (w.heap.size) o (by first | omega | (simp; omega) | (simp; done)); have hz1 : w.heap.size + 1 < w1.heap.size := (by have := hb.size; (try simp at this); omega); have hcA1 := fun o => (bcell hb).1 (w.heap.size + 1) o (by first | omega | (simp; omega) | (simp; done)); have hfA1 := fun o => (bcell hb).2 (w.heap.size + 1) o (by first | omega | (simp; omega) | (simp; done))) | go_in))
    all_goals (go_ret3; refine ⟨rII ?_ ?_ ?_, ?_⟩)
    all_goals first | (simp [hv, hx, ifI]; done) | (repeat (first | exact Below.refl _ _ | refine Below.drew ?_ | refine below_drewN ?_ _ | refine Below.setCell ?_ (by first | omega | (simp; done) | (simp; omega)) _ | refine Below.alloc ?_ (by first | omega | (simp; done) | (simp; omega)) _ | refine bchain ?_ (by assumption) (by first | omega | (simp; done) | (simp; omega))))
  case true =>
  have x1 := of_decide_eq_true hx
  go_enter Tryz.func23, Tryz.ntmps23
  go_wp2_with (first | (go_at_call 52; refine (tiTwo_any _ _ _ _ _).mono ?_; rintro e w1 ⟨rfl, hb⟩; have hc := (bcell hb).1; have hf := (bcell hb).2; have hz : w.heap.size ≤ w1.heap.size := (by have := hb.size; (try simp at this); omega); have hz0 : w.heap.size < w1.heap.size := (by have := hb.size; (try simp at this); omega); have hcA0 := fun o => (bcell hb).1 (w.heap.size) o (by first | omega | (simp; omega) | (simp; done)); have hfA0 := fun o => (bcell hb).2 (w.heap.size) o (by first | omega | (simp; omega) | (simp; done)); have hz1 : w.heap.size + 1 < w1.heap.size := (by have := hb.size; (try simp at this); omega); have hcA1 := fun o => (bcell hb).1 (w.heap.size + 1) o (by first | omega | (simp; omega) | (simp; done)); have hfA1 := fun o => (bcell hb).2 (w.heap.size + 1) o (by first | omega | (simp; omega) | (simp; done))) | (go_at_call 40; refine (tiLow_any (l + m) (r - q) (by omega) (by omega) (by omega) (by omega) _).mono ?_; rintro e w1 ⟨rfl, hb⟩; have hc := (bcell hb).1; have hf := (bcell hb).2; have hz : w.heap.size ≤ w1.heap.size := (by have := hb.size; (try simp at this); omega); have hz0 : w.heap.size < w1.heap.size := (by have := hb.size; (try simp at this); omega); have hcA0 := fun o => (bcell hb).1 (w.heap.size) o (by first | omega | (simp; omega) | (simp; done)); have hfA0 := fun o => (bcell hb).2 (w.heap.size) o (by first | omega | (simp; omega) | (simp; done)); have hz1 : w.heap.size + 1 < w1.heap.size := (by have := hb.size; (try simp at this); omega); have hcA1 := fun o => (bcell hb).1 (w.heap.size + 1) o (by first | omega | (simp; omega) | (simp; done)); have hfA1 := fun o => (bcell hb).2 (w.heap.size + 1) o (by first | omega | (simp; omega) | (simp; done))) | go_in)
  all_goals try ((go_quiet (fail)); go_wp2_with (first | (go_at_call 52; refine (tiTwo_any _ _ _ _ _).mono ?_; rintro e w1 ⟨rfl, hb⟩; have hc := (bcell hb).1; have hf := (bcell hb).2; have hz : w.heap.size ≤ w1.heap.size := (by have := hb.size; (try simp at this); omega); have hz0 : w.heap.size < w1.heap.size := (by have := hb.size; (try simp at this); omega); have hcA0 := fun o => (bcell hb).1 (w.heap.size) o (by first | omega | (simp; omega) | (simp; done)); have hfA0 := fun o => (bcell hb).2 (w.heap.size) o (by first | omega | (simp; omega) | (simp; done)); have hz1 : w.heap.size + 1 < w1.heap.size := (by have := hb.size; (try simp at this); omega); have hcA1 := fun o => (bcell hb).1 (w.heap.size + 1) o (by first | omega | (simp; omega) | (simp; done)); have hfA1 := fun o => (bcell hb).2 (w.heap.size + 1) o (by first | omega | (simp; omega) | (simp; done))) | (go_at_call 40; refine (tiLow_any (l + m) (r - q) (by omega) (by omega) (by omega) (by omega) _).mono ?_; rintro e w1 ⟨rfl, hb⟩; have hc := (bcell hb).1; have hf := (bcell hb).2; have hz : w.heap.size ≤ w1.heap.size := (by have := hb.size; (try simp at this); omega); have hz0 : w.heap.size < w1.heap.size := (by have := hb.size; (try simp at this); omega); have hcA0 := fun o => (bcell hb).1 (w.heap.size) o (by first | omega | (simp; omega) | (simp; done)); have hfA0 := fun o => (bcell hb).2 (w.heap.size) o (by first | omega | (simp; omega) | (simp; done)); have hz1 : w.heap.size + 1 < w1.heap.size := (by have := hb.size; (try simp at this); omega); have hcA1 := fun o => (bcell hb).1 (w.heap.size + 1) o (by first | omega | (simp; omega) | (simp; done)); have hfA1 := fun o => (bcell hb).2 (w.heap.size + 1) o (by first | omega | (simp; omega) | (simp; done))) | go_in))
  all_goals try ((go_quiet (fail)); go_wp2_with (first | (go_at_call 52; refine (tiTwo_any _ _ _ _ _).mono ?_; rintro e w1 ⟨rfl, hb⟩; have hc := (bcell hb).1; have hf := (bcell hb).2; have hz : w.heap.size ≤ w1.heap.size := (by have := hb.size; (try simp at this); omega); have hz0 : w.heap.size < w1.heap.size := (by have := hb.size; (try simp at this); omega); have hcA0 := fun o => (bcell hb).1 (w.heap.size) o (by first | omega | (simp; omega) | (simp; done)); have hfA0 := fun o => (bcell hb).2 (w.heap.size) o (by first | omega | (simp; omega) | (simp; done)); have hz1 : w.heap.size + 1 < w1.heap.size := (by have := hb.size; (try simp at this); omega); have hcA1 := fun o => (bcell hb).1 (w.heap.size + 1) o (by first | omega | (simp; omega) | (simp; done)); have hfA1 := fun o => (bcell hb).2 (w.heap.size + 1) o (by first | omega | (simp; omega) | (simp; done))) | (go_at_call 40; refine (tiLow_any (l + m) (r - q) (by omega) (by omega) (by omega) (by omega) _).mono ?_; rintro e w1 ⟨rfl, hb⟩; have hc := (bcell hb).1; have hf := (bcell hb).2; have hz : w.heap.size ≤ w1.heap.size := (by have := hb.size; (try simp at this); omega); have hz0 : w.heap.size < w1.heap.size := (by have := hb.size; (try simp at this); omega); have hcA0 := fun o => (bcell hb).1 (w.heap.size) o (by first | omega | (simp; omega) | (simp; done)); have hfA0 := fun o => (bcell hb).2 (w.heap.size) o (by first | omega | (simp; omega) | (simp; done)); have hz1 : w.heap.size + 1 < w1.heap.size := (by have := hb.size; (try simp at this); omega); have hcA1 := fun o => (bcell hb).1 (w.heap.size + 1) o (by first | omega | (simp; omega) | (simp; done)); have hfA1 := fun o => (bcell hb).2 (w.heap.size + 1) o (by first | omega | (simp; omega) | (simp; done))) | go_in))
  all_goals (go_ret3; refine ⟨rII ?_ ?_ ?_, ?_⟩)
  all_goals first | (simp [hv, hx, ifI]; done) | (repeat (first | exact Below.refl _ _ | refine Below.drew ?_ | refine below_drewN ?_ _ | refine Below.setCell ?_ (by first | omega | (simp; done) | (simp; omega)) _ | refine Below.alloc ?_ (by first | omega | (simp; done) | (simp; omega)) _ | refine bchain ?_ (by assumption) (by first | omega | (simp; done) | (simp; omega))))
set_option maxHeartbeats 2000000 in
theorem tiRate_any (a b : Int) (g : Bool) (b1 : 1 ≤ a) (b2 : a ≤ 100) (b3 : 1 ≤ b) (b4 : b ≤ 100) (w : World) :
    Calls Tryz.prog 55 #[.int .i64 a, .int .i64 b, .bool g] w fun e w' => e = .returned (.int .i64 (trt a b g)) ∧ w = w' := by
  cases g
  all_goals
    go_enter Tryz.func55, Tryz.ntmps55
    go_wp2_with (first | (go_at_call 69; refine (l1Abs_any _ (by omega) (by omega) _).mono ?_; rintro e w1 ⟨rfl, rfl⟩) | go_in)
    all_goals (go_ret; refine ⟨rI ?_, rfl⟩)
    all_goals first | rfl | (repeat (first | exact Below.refl _ _ | refine Below.drew ?_ | refine below_drewN ?_ _ | refine Below.setCell ?_ (by first | omega | (simp; done) | (simp; omega)) _ | refine Below.alloc ?_ (by first | omega | (simp; done) | (simp; omega)) _ | refine bchain ?_ (by assumption) (by first | omega | (simp; done) | (simp; omega))))
set_option maxHeartbeats 2000000 in
theorem specTrainFromTimes (b p y : Int) (w : World) :
    Calls Tryz.prog 31 #[.int .i64 b, .int .i64 p, .int .i64 y] w fun e w' => e = .returned (.tuple #[.int .i64 (ifI (inB b 1 100000 && inB p 1 10000 && inB y 1 10000 && decide (p < y)) (lwN (b * p) (y - p))), .int .i64 (ifI (inB b 1 100000 && inB p 1 10000 && inB y 1 10000 && decide (p < y)) (lwD (b * p) (y - p))), .int .i64 (ifI (inB b 1 100000 && inB p 1 10000 && inB y 1 10000 && decide (p < y)) (lwN b (y - p))), .int .i64 (ifI (inB b 1 100000 && inB p 1 10000 && inB y 1 10000 && decide (p < y)) (lwD b (y - p))), .bool (inB b 1 100000 && inB p 1 10000 && inB y 1 10000 && decide (p < y))]) ∧ Below w.heap.size w w' := by
  cases h1 : inB b 1 100000
  case false =>
    go_enter Tryz.func31, Tryz.ntmps31
    go_wp2_with (first | (go_at_call_of 57 (Value.int .i64 b); refine (specIn _ _ _ _).mono ?_; rintro e w1 ⟨rfl, rfl⟩) | (go_at_call_of 57 (Value.int .i64 p); refine (specIn _ _ _ _).mono ?_; rintro e w1 ⟨rfl, rfl⟩) | (go_at_call_of 57 (Value.int .i64 y); refine (specIn _ _ _ _).mono ?_; rintro e w1 ⟨rfl, rfl⟩) | go_in)
    all_goals (((try simp only [Exit.inBlock, Exit.then]); refine bodyPost_ret (results_tmp5 rfl _ _ _) rfl ?_); refine ⟨r5 ?_ ?_ ?_ ?_ ?_, ?_⟩)
    all_goals first | (simp [h1, ifI]; done) | (repeat (first | exact Below.refl _ _ | refine Below.drew ?_ | refine below_drewN ?_ _ | refine Below.setCell ?_ (by first | omega | (simp; done) | (simp; omega)) _ | refine Below.alloc ?_ (by first | omega | (simp; done) | (simp; omega)) _ | refine bchain ?_ (by assumption) (by first | omega | (simp; done) | (simp; omega))))
  case true =>
  have b1 := (inB_iff.1 h1).1
  have b2 := (inB_iff.1 h1).2
  cases h2 : inB p 1 10000
  case false =>
    go_enter Tryz.func31, Tryz.ntmps31
    go_wp2_with (first | (go_at_call_of 57 (Value.int .i64 b); refine (specIn _ _ _ _).mono ?_; rintro e w1 ⟨rfl, rfl⟩) | (go_at_call_of 57 (Value.int .i64 p); refine (specIn _ _ _ _).mono ?_; rintro e w1 ⟨rfl, rfl⟩) | (go_at_call_of 57 (Value.int .i64 y); refine (specIn _ _ _ _).mono ?_; rintro e w1 ⟨rfl, rfl⟩) | go_in)
    all_goals try ((go_quiet (fail)); go_wp2_with (first | (go_at_call_of 57 (Value.int .i64 b); refine (specIn _ _ _ _).mono ?_; rintro e w1 ⟨rfl, rfl⟩) | (go_at_call_of 57 (Value.int .i64 p); refine (specIn _ _ _ _).mono ?_; rintro e w1 ⟨rfl, rfl⟩) | (go_at_call_of 57 (Value.int .i64 y); refine (specIn _ _ _ _).mono ?_; rintro e w1 ⟨rfl, rfl⟩) | go_in))
    all_goals (((try simp only [Exit.inBlock, Exit.then]); refine bodyPost_ret (results_tmp5 rfl _ _ _) rfl ?_); refine ⟨r5 ?_ ?_ ?_ ?_ ?_, ?_⟩)
    all_goals first | (simp [h1, h2, ifI]; done) | (repeat (first | exact Below.refl _ _ | refine Below.drew ?_ | refine below_drewN ?_ _ | refine Below.setCell ?_ (by first | omega | (simp; done) | (simp; omega)) _ | refine Below.alloc ?_ (by first | omega | (simp; done) | (simp; omega)) _ | refine bchain ?_ (by assumption) (by first | omega | (simp; done) | (simp; omega))))
  case true =>
  have b3 := (inB_iff.1 h2).1
  have b4 := (inB_iff.1 h2).2
  cases h3 : inB y 1 10000
  case false =>
    go_enter Tryz.func31, Tryz.ntmps31
    go_wp2_with (first | (go_at_call_of 57 (Value.int .i64 b); refine (specIn _ _ _ _).mono ?_; rintro e w1 ⟨rfl, rfl⟩) | (go_at_call_of 57 (Value.int .i64 p); refine (specIn _ _ _ _).mono ?_; rintro e w1 ⟨rfl, rfl⟩) | (go_at_call_of 57 (Value.int .i64 y); refine (specIn _ _ _ _).mono ?_; rintro e w1 ⟨rfl, rfl⟩) | go_in)
    all_goals try ((go_quiet (fail)); go_wp2_with (first | (go_at_call_of 57 (Value.int .i64 b); refine (specIn _ _ _ _).mono ?_; rintro e w1 ⟨rfl, rfl⟩) | (go_at_call_of 57 (Value.int .i64 p); refine (specIn _ _ _ _).mono ?_; rintro e w1 ⟨rfl, rfl⟩) | (go_at_call_of 57 (Value.int .i64 y); refine (specIn _ _ _ _).mono ?_; rintro e w1 ⟨rfl, rfl⟩) | go_in))
    all_goals (((try simp only [Exit.inBlock, Exit.then]); refine bodyPost_ret (results_tmp5 rfl _ _ _) rfl ?_); refine ⟨r5 ?_ ?_ ?_ ?_ ?_, ?_⟩)
    all_goals first | (simp [h1, h2, h3, ifI]; done) | (repeat (first | exact Below.refl _ _ | refine Below.drew ?_ | refine below_drewN ?_ _ | refine Below.setCell ?_ (by first | omega | (simp; done) | (simp; omega)) _ | refine Below.alloc ?_ (by first | omega | (simp; done) | (simp; omega)) _ | refine bchain ?_ (by assumption) (by first | omega | (simp; done) | (simp; omega))))
  case true =>
  have b5 := (inB_iff.1 h3).1
  have b6 := (inB_iff.1 h3).2
  cases hx : decide (p < y)
  case false =>
    have x1 := of_decide_eq_false hx
    go_enter Tryz.func31, Tryz.ntmps31
    go_wp2_with (first | (go_at_call_of 57 (Value.int .i64 b); refine (specIn _ _ _ _).mono ?_; rintro e w1 ⟨rfl, rfl⟩) | (go_at_call_of 57 (Value.int .i64 p); refine (specIn _ _ _ _).mono ?_; rintro e w1 ⟨rfl, rfl⟩) | (go_at_call_of 57 (Value.int .i64 y); refine (specIn _ _ _ _).mono ?_; rintro e w1 ⟨rfl, rfl⟩) | go_in)
    all_goals try ((go_quiet (fail)); go_wp2_with (first | (go_at_call_of 57 (Value.int .i64 b); refine (specIn _ _ _ _).mono ?_; rintro e w1 ⟨rfl, rfl⟩) | (go_at_call_of 57 (Value.int .i64 p); refine (specIn _ _ _ _).mono ?_; rintro e w1 ⟨rfl, rfl⟩) | (go_at_call_of 57 (Value.int .i64 y); refine (specIn _ _ _ _).mono ?_; rintro e w1 ⟨rfl, rfl⟩) | go_in))
    all_goals (((try simp only [Exit.inBlock, Exit.then]); refine bodyPost_ret (results_tmp5 rfl _ _ _) rfl ?_); refine ⟨r5 ?_ ?_ ?_ ?_ ?_, ?_⟩)
    all_goals first | (simp [h1, h2, h3, hx, ifI]; done) | (repeat (first | exact Below.refl _ _ | refine Below.drew ?_ | refine below_drewN ?_ _ | refine Below.setCell ?_ (by first | omega | (simp; done) | (simp; omega)) _ | refine Below.alloc ?_ (by first | omega | (simp; done) | (simp; omega)) _ | refine bchain ?_ (by assumption) (by first | omega | (simp; done) | (simp; omega))))
  case true =>
  have x1 := of_decide_eq_true hx
  have m1 := mul_bd b p 100000 10000 (by omega) (by omega) (by omega) (by omega)
  go_enter Tryz.func31, Tryz.ntmps31
  go_wp2_with (first | (go_at_call_of 57 (Value.int .i64 b); refine (specIn _ _ _ _).mono ?_; rintro e w1 ⟨rfl, rfl⟩) | (go_at_call_of 57 (Value.int .i64 p); refine (specIn _ _ _ _).mono ?_; rintro e w1 ⟨rfl, rfl⟩) | (go_at_call_of 57 (Value.int .i64 y); refine (specIn _ _ _ _).mono ?_; rintro e w1 ⟨rfl, rfl⟩) | (go_at_call 40; refine (tiLow_any _ _ (by omega) (by omega) (by omega) (by omega) _).mono ?_; rintro e w1 ⟨rfl, hb⟩; have hc := (bcell hb).1; have hf := (bcell hb).2; have hz : w.heap.size ≤ w1.heap.size := (by have := hb.size; (try simp at this); omega)) | go_in)
  all_goals try ((go_quiet (fail)); go_wp2_with (first | (go_at_call_of 57 (Value.int .i64 b); refine (specIn _ _ _ _).mono ?_; rintro e w1 ⟨rfl, rfl⟩) | (go_at_call_of 57 (Value.int .i64 p); refine (specIn _ _ _ _).mono ?_; rintro e w1 ⟨rfl, rfl⟩) | (go_at_call_of 57 (Value.int .i64 y); refine (specIn _ _ _ _).mono ?_; rintro e w1 ⟨rfl, rfl⟩) | (go_at_call 40; refine (tiLow_any _ _ (by omega) (by omega) (by omega) (by omega) _).mono ?_; rintro e w1 ⟨rfl, hb⟩; have hc := (bcell hb).1; have hf := (bcell hb).2; have hz : w.heap.size ≤ w1.heap.size := (by have := hb.size; (try simp at this); omega)) | go_in))
  all_goals try ((go_quiet (fail)); go_wp2_with (first | (go_at_call_of 57 (Value.int .i64 b); refine (specIn _ _ _ _).mono ?_; rintro e w1 ⟨rfl, rfl⟩) | (go_at_call_of 57 (Value.int .i64 p); refine (specIn _ _ _ _).mono ?_; rintro e w1 ⟨rfl, rfl⟩) | (go_at_call_of 57 (Value.int .i64 y); refine (specIn _ _ _ _).mono ?_; rintro e w1 ⟨rfl, rfl⟩) | (go_at_call 40; refine (tiLow_any _ _ (by omega) (by omega) (by omega) (by omega) _).mono ?_; rintro e w1 ⟨rfl, hb⟩; have hc := (bcell hb).1; have hf := (bcell hb).2; have hz : w.heap.size ≤ w1.heap.size := (by have := hb.size; (try simp at this); omega)) | go_in))
  all_goals try ((go_quiet (fail)); go_wp2_with (first | (go_at_call_of 57 (Value.int .i64 b); refine (specIn _ _ _ _).mono ?_; rintro e w1 ⟨rfl, rfl⟩) | (go_at_call_of 57 (Value.int .i64 p); refine (specIn _ _ _ _).mono ?_; rintro e w1 ⟨rfl, rfl⟩) | (go_at_call_of 57 (Value.int .i64 y); refine (specIn _ _ _ _).mono ?_; rintro e w1 ⟨rfl, rfl⟩) | (go_at_call 40; refine (tiLow_any _ _ (by omega) (by omega) (by omega) (by omega) _).mono ?_; rintro e w1 ⟨rfl, hb⟩; have hc := (bcell hb).1; have hf := (bcell hb).2; have hz : w.heap.size ≤ w1.heap.size := (by have := hb.size; (try simp at this); omega)) | go_in))
  all_goals (((try simp only [Exit.inBlock, Exit.then]); refine bodyPost_ret (results_tmp5 rfl _ _ _) rfl ?_); refine ⟨r5 ?_ ?_ ?_ ?_ ?_, ?_⟩)
  all_goals first | (simp [h1, h2, h3, hx, ifI]; done) | (repeat (first | exact Below.refl _ _ | refine Below.drew ?_ | refine below_drewN ?_ _ | refine Below.setCell ?_ (by first | omega | (simp; done) | (simp; omega)) _ | refine Below.alloc ?_ (by first | omega | (simp; done) | (simp; omega)) _ | refine bchain ?_ (by assumption) (by first | omega | (simp; done) | (simp; omega))))
set_option maxHeartbeats 2000000 in
theorem specSeenFromTrain (l r m q : Int) (g : Bool) (w : World) :
    Calls Tryz.prog 26 #[.agg #[.int .i64 l, .int .i64 r], .agg #[.int .i64 m, .int .i64 q], .bool g] w fun e w' => e = .returned (.tuple #[.int .i64 (ifI (tn2 l r m q && decide (1 ≤ trt r q g)) (lwN m (trt r q g))), .int .i64 (ifI (tn2 l r m q && decide (1 ≤ trt r q g)) (lwD m (trt r q g))), .bool (tn2 l r m q && decide (1 ≤ trt r q g))]) ∧ Below w.heap.size w w' := by
  cases hv : tn2 l r m q
  case false =>
    go_enter Tryz.func26, Tryz.ntmps26
    go_wp2_with (first | (go_at_call 52; refine (tiTwo_any _ _ _ _ _).mono ?_; rintro e w1 ⟨rfl, hb⟩; have hc := (bcell hb).1; have hf := (bcell hb).2; have hz : w.heap.size ≤ w1.heap.size := (by have := hb.size; (try simp at this); omega); have hz0 : w.heap.size < w1.heap.size := (by have := hb.size; (try simp at this); omega); have hcA0 := fun o => (bcell hb).1 (w.heap.size) o (by first | omega | (simp; omega) | (simp; done)); have hfA0 := fun o => (bcell hb).2 (w.heap.size) o (by first | omega | (simp; omega) | (simp; done)); have hz1 : w.heap.size + 1 < w1.heap.size := (by have := hb.size; (try simp at this); omega); have hcA1 := fun o => (bcell hb).1 (w.heap.size + 1) o (by first | omega | (simp; omega) | (simp; done)); have hfA1 := fun o => (bcell hb).2 (w.heap.size + 1) o (by first | omega | (simp; omega) | (simp; done))) | (go_at_call 55; refine (HT.out _).mono ?_; rintro e w1 ⟨rfl, rfl⟩) | go_in)
    all_goals (go_ret3; refine ⟨rII ?_ ?_ ?_, ?_⟩)
    all_goals first | (simp [hv, ifI]; done) | (repeat (first | exact Below.refl _ _ | refine Below.drew ?_ | refine below_drewN ?_ _ | refine Below.setCell ?_ (by first | omega | (simp; done) | (simp; omega)) _ | refine Below.alloc ?_ (by first | omega | (simp; done) | (simp; omega)) _ | refine bchain ?_ (by assumption) (by first | omega | (simp; done) | (simp; omega))))
  case true =>
  have b1 := (tn2_iff.1 hv).1.1
  have b2 := (tn2_iff.1 hv).1.2.1
  have b3 := (tn2_iff.1 hv).1.2.2.1
  have b4 := (tn2_iff.1 hv).1.2.2.2
  have d1 := (tn2_iff.1 hv).2.1
  have d2 := (tn2_iff.1 hv).2.2.1
  have d3 := (tn2_iff.1 hv).2.2.2.1
  have d4 := (tn2_iff.1 hv).2.2.2.2
  have hr := trt_bd r q g (by omega) (by omega) (by omega) (by omega)
  obtain ⟨z, hz⟩ : ∃ z, trt r q g = z := ⟨_, rfl⟩
  have HT := Lib.hid (fun w => tiRate_any r q g (by omega) (by omega) (by omega) (by omega) w)
  rw [hz] at HT hr
  rw [hz]
  cases hx : decide (1 ≤ z)
  case false =>
    obtain rfl : z = 0 := by have := of_decide_eq_false hx; omega
    go_enter Tryz.func26, Tryz.ntmps26
    go_wp2_with (first | (go_at_call 52; refine (tiTwo_any _ _ _ _ _).mono ?_; rintro e w1 ⟨rfl, hb⟩; have hc := (bcell hb).1; have hf := (bcell hb).2; have hz : w.heap.size ≤ w1.heap.size := (by have := hb.size; (try simp at this); omega); have hz0 : w.heap.size < w1.heap.size := (by have := hb.size; (try simp at this); omega); have hcA0 := fun o => (bcell hb).1 (w.heap.size) o (by first | omega | (simp; omega) | (simp; done)); have hfA0 := fun o => (bcell hb).2 (w.heap.size) o (by first | omega | (simp; omega) | (simp; done)); have hz1 : w.heap.size + 1 < w1.heap.size := (by have := hb.size; (try simp at this); omega); have hcA1 := fun o => (bcell hb).1 (w.heap.size + 1) o (by first | omega | (simp; omega) | (simp; done)); have hfA1 := fun o => (bcell hb).2 (w.heap.size + 1) o (by first | omega | (simp; omega) | (simp; done))) | (go_at_call 55; refine (HT.out _).mono ?_; rintro e w1 ⟨rfl, rfl⟩) | go_in)
    all_goals try ((go_quiet (fail)); go_wp2_with (first | (go_at_call 52; refine (tiTwo_any _ _ _ _ _).mono ?_; rintro e w1 ⟨rfl, hb⟩; have hc := (bcell hb).1; have hf := (bcell hb).2; have hz : w.heap.size ≤ w1.heap.size := (by have := hb.size; (try simp at this); omega); have hz0 : w.heap.size < w1.heap.size := (by have := hb.size; (try simp at this); omega); have hcA0 := fun o => (bcell hb).1 (w.heap.size) o (by first | omega | (simp; omega) | (simp; done)); have hfA0 := fun o => (bcell hb).2 (w.heap.size) o (by first | omega | (simp; omega) | (simp; done)); have hz1 : w.heap.size + 1 < w1.heap.size := (by have := hb.size; (try simp at this); omega); have hcA1 := fun o => (bcell hb).1 (w.heap.size + 1) o (by first | omega | (simp; omega) | (simp; done)); have hfA1 := fun o => (bcell hb).2 (w.heap.size + 1) o (by first | omega | (simp; omega) | (simp; done))) | (go_at_call 55; refine (HT.out _).mono ?_; rintro e w1 ⟨rfl, rfl⟩) | go_in))
    all_goals (go_ret3; refine ⟨rII ?_ ?_ ?_, ?_⟩)
    all_goals first | (simp [hv, hx, ifI]; done) | (repeat (first | exact Below.refl _ _ | refine Below.drew ?_ | refine below_drewN ?_ _ | refine Below.setCell ?_ (by first | omega | (simp; done) | (simp; omega)) _ | refine Below.alloc ?_ (by first | omega | (simp; done) | (simp; omega)) _ | refine bchain ?_ (by assumption) (by first | omega | (simp; done) | (simp; omega))))
  case true =>
  have x1 := of_decide_eq_true hx
  go_enter Tryz.func26, Tryz.ntmps26
  go_wp2_with (first | (go_at_call 52; refine (tiTwo_any _ _ _ _ _).mono ?_; rintro e w1 ⟨rfl, hb⟩; have hc := (bcell hb).1; have hf := (bcell hb).2; have hz : w.heap.size ≤ w1.heap.size := (by have := hb.size; (try simp at this); omega); have hz0 : w.heap.size < w1.heap.size := (by have := hb.size; (try simp at this); omega); have hcA0 := fun o => (bcell hb).1 (w.heap.size) o (by first | omega | (simp; omega) | (simp; done)); have hfA0 := fun o => (bcell hb).2 (w.heap.size) o (by first | omega | (simp; omega) | (simp; done)); have hz1 : w.heap.size + 1 < w1.heap.size := (by have := hb.size; (try simp at this); omega); have hcA1 := fun o => (bcell hb).1 (w.heap.size + 1) o (by first | omega | (simp; omega) | (simp; done)); have hfA1 := fun o => (bcell hb).2 (w.heap.size + 1) o (by first | omega | (simp; omega) | (simp; done))) | (go_at_call 55; refine (HT.out _).mono ?_; rintro e w1 ⟨rfl, rfl⟩) | (go_at_call 40; refine (tiLow_any (m) (z) (by omega) (by omega) (by omega) (by omega) _).mono ?_; rintro e w1 ⟨rfl, hb⟩; have hc := (bcell hb).1; have hf := (bcell hb).2; have hz : w.heap.size ≤ w1.heap.size := (by have := hb.size; (try simp at this); omega); have hz0 : w.heap.size < w1.heap.size := (by have := hb.size; (try simp at this); omega); have hcA0 := fun o => (bcell hb).1 (w.heap.size) o (by first | omega | (simp; omega) | (simp; done)); have hfA0 := fun o => (bcell hb).2 (w.heap.size) o (by first | omega | (simp; omega) | (simp; done)); have hz1 : w.heap.size + 1 < w1.heap.size := (by have := hb.size; (try simp at this); omega); have hcA1 := fun o => (bcell hb).1 (w.heap.size + 1) o (by first | omega | (simp; omega) | (simp; done)); have hfA1 := fun o => (bcell hb).2 (w.heap.size + 1) o (by first | omega | (simp; omega) | (simp; done))) | go_in)
  all_goals try ((go_quiet (fail)); go_wp2_with (first | (go_at_call 52; refine (tiTwo_any _ _ _ _ _).mono ?_; rintro e w1 ⟨rfl, hb⟩; have hc := (bcell hb).1; have hf := (bcell hb).2; have hz : w.heap.size ≤ w1.heap.size := (by have := hb.size; (try simp at this); omega); have hz0 : w.heap.size < w1.heap.size := (by have := hb.size; (try simp at this); omega); have hcA0 := fun o => (bcell hb).1 (w.heap.size) o (by first | omega | (simp; omega) | (simp; done)); have hfA0 := fun o => (bcell hb).2 (w.heap.size) o (by first | omega | (simp; omega) | (simp; done)); have hz1 : w.heap.size + 1 < w1.heap.size := (by have := hb.size; (try simp at this); omega); have hcA1 := fun o => (bcell hb).1 (w.heap.size + 1) o (by first | omega | (simp; omega) | (simp; done)); have hfA1 := fun o => (bcell hb).2 (w.heap.size + 1) o (by first | omega | (simp; omega) | (simp; done))) | (go_at_call 55; refine (HT.out _).mono ?_; rintro e w1 ⟨rfl, rfl⟩) | (go_at_call 40; refine (tiLow_any (m) (z) (by omega) (by omega) (by omega) (by omega) _).mono ?_; rintro e w1 ⟨rfl, hb⟩; have hc := (bcell hb).1; have hf := (bcell hb).2; have hz : w.heap.size ≤ w1.heap.size := (by have := hb.size; (try simp at this); omega); have hz0 : w.heap.size < w1.heap.size := (by have := hb.size; (try simp at this); omega); have hcA0 := fun o => (bcell hb).1 (w.heap.size) o (by first | omega | (simp; omega) | (simp; done)); have hfA0 := fun o => (bcell hb).2 (w.heap.size) o (by first | omega | (simp; omega) | (simp; done)); have hz1 : w.heap.size + 1 < w1.heap.size := (by have := hb.size; (try simp at this); omega); have hcA1 := fun o => (bcell hb).1 (w.heap.size + 1) o (by first | omega | (simp; omega) | (simp; done)); have hfA1 := fun o => (bcell hb).2 (w.heap.size + 1) o (by first | omega | (simp; omega) | (simp; done))) | go_in))
  all_goals try ((go_quiet (fail)); go_wp2_with (first | (go_at_call 52; refine (tiTwo_any _ _ _ _ _).mono ?_; rintro e w1 ⟨rfl, hb⟩; have hc := (bcell hb).1; have hf := (bcell hb).2; have hz : w.heap.size ≤ w1.heap.size := (by have := hb.size; (try simp at this); omega); have hz0 : w.heap.size < w1.heap.size := (by have := hb.size; (try simp at this); omega); have hcA0 := fun o => (bcell hb).1 (w.heap.size) o (by first | omega | (simp; omega) | (simp; done)); have hfA0 := fun o => (bcell hb).2 (w.heap.size) o (by first | omega | (simp; omega) | (simp; done)); have hz1 : w.heap.size + 1 < w1.heap.size := (by have := hb.size; (try simp at this); omega); have hcA1 := fun o => (bcell hb).1 (w.heap.size + 1) o (by first | omega | (simp; omega) | (simp; done)); have hfA1 := fun o => (bcell hb).2 (w.heap.size + 1) o (by first | omega | (simp; omega) | (simp; done))) | (go_at_call 55; refine (HT.out _).mono ?_; rintro e w1 ⟨rfl, rfl⟩) | (go_at_call 40; refine (tiLow_any (m) (z) (by omega) (by omega) (by omega) (by omega) _).mono ?_; rintro e w1 ⟨rfl, hb⟩; have hc := (bcell hb).1; have hf := (bcell hb).2; have hz : w.heap.size ≤ w1.heap.size := (by have := hb.size; (try simp at this); omega); have hz0 : w.heap.size < w1.heap.size := (by have := hb.size; (try simp at this); omega); have hcA0 := fun o => (bcell hb).1 (w.heap.size) o (by first | omega | (simp; omega) | (simp; done)); have hfA0 := fun o => (bcell hb).2 (w.heap.size) o (by first | omega | (simp; omega) | (simp; done)); have hz1 : w.heap.size + 1 < w1.heap.size := (by have := hb.size; (try simp at this); omega); have hcA1 := fun o => (bcell hb).1 (w.heap.size + 1) o (by first | omega | (simp; omega) | (simp; done)); have hfA1 := fun o => (bcell hb).2 (w.heap.size + 1) o (by first | omega | (simp; omega) | (simp; done))) | go_in))
  all_goals (go_ret3; refine ⟨rII ?_ ?_ ?_, ?_⟩)
  all_goals first | (simp [hv, hx, ifI]; done) | (repeat (first | exact Below.refl _ _ | refine Below.drew ?_ | refine below_drewN ?_ _ | refine Below.setCell ?_ (by first | omega | (simp; done) | (simp; omega)) _ | refine Below.alloc ?_ (by first | omega | (simp; done) | (simp; omega)) _ | refine bchain ?_ (by assumption) (by first | omega | (simp; done) | (simp; omega))))
set_option maxHeartbeats 2000000 in
theorem specPassWalker (l r k : Int) (g : Bool) (w : World) :
    Calls Tryz.prog 29 #[.agg #[.int .i64 l, .int .i64 r], .int .i64 k, .bool g] w fun e w' => e = .returned (.tuple #[.int .i64 (ifI (tnOk l r && inB k 1 100 && (g || decide (k < r))) (lwN l (trt r k g))), .int .i64 (ifI (tnOk l r && inB k 1 100 && (g || decide (k < r))) (lwD l (trt r k g))), .bool (tnOk l r && inB k 1 100 && (g || decide (k < r)))]) ∧ Below w.heap.size w w' := by
  cases hv : tnOk l r
  case false =>
    go_enter Tryz.func29, Tryz.ntmps29
    go_wp2_with (first | (go_at_call 38; refine (tiGood_any _ _ _).mono ?_; rintro e w1 ⟨rfl, hb⟩; have hc := (bcell hb).1; have hf := (bcell hb).2; have hz : w.heap.size ≤ w1.heap.size := (by have := hb.size; (try simp at this); omega); have hz0 : w.heap.size < w1.heap.size := (by have := hb.size; (try simp at this); omega); have hcA0 := fun o => (bcell hb).1 (w.heap.size) o (by first | omega | (simp; omega) | (simp; done)); have hfA0 := fun o => (bcell hb).2 (w.heap.size) o (by first | omega | (simp; omega) | (simp; done))) | (go_at_call 57; refine (specIn _ _ _ _).mono ?_; rintro e w1 ⟨rfl, rfl⟩) | (go_at_call 55; refine (HT.out _).mono ?_; rintro e w1 ⟨rfl, rfl⟩) | go_in)
    all_goals (go_ret3; refine ⟨rII ?_ ?_ ?_, ?_⟩)
    all_goals first | (simp [hv, ifI]; done) | (repeat (first | exact Below.refl _ _ | refine Below.drew ?_ | refine below_drewN ?_ _ | refine Below.setCell ?_ (by first | omega | (simp; done) | (simp; omega)) _ | refine Below.alloc ?_ (by first | omega | (simp; done) | (simp; omega)) _ | refine bchain ?_ (by assumption) (by first | omega | (simp; done) | (simp; omega))))
  case true =>
  have b1 := (tnOk_iff.1 hv).1
  have b2 := (tnOk_iff.1 hv).2.1
  have b3 := (tnOk_iff.1 hv).2.2.1
  have b4 := (tnOk_iff.1 hv).2.2.2
  cases hw : inB k 1 100
  case false =>
    go_enter Tryz.func29, Tryz.ntmps29
    go_wp2_with (first | (go_at_call 38; refine (tiGood_any _ _ _).mono ?_; rintro e w1 ⟨rfl, hb⟩; have hc := (bcell hb).1; have hf := (bcell hb).2; have hz : w.heap.size ≤ w1.heap.size := (by have := hb.size; (try simp at this); omega); have hz0 : w.heap.size < w1.heap.size := (by have := hb.size; (try simp at this); omega); have hcA0 := fun o => (bcell hb).1 (w.heap.size) o (by first | omega | (simp; omega) | (simp; done)); have hfA0 := fun o => (bcell hb).2 (w.heap.size) o (by first | omega | (simp; omega) | (simp; done))) | (go_at_call 57; refine (specIn _ _ _ _).mono ?_; rintro e w1 ⟨rfl, rfl⟩) | (go_at_call 55; refine (HT.out _).mono ?_; rintro e w1 ⟨rfl, rfl⟩) | go_in)
    all_goals try ((go_quiet (fail)); go_wp2_with (first | (go_at_call 38; refine (tiGood_any _ _ _).mono ?_; rintro e w1 ⟨rfl, hb⟩; have hc := (bcell hb).1; have hf := (bcell hb).2; have hz : w.heap.size ≤ w1.heap.size := (by have := hb.size; (try simp at this); omega); have hz0 : w.heap.size < w1.heap.size := (by have := hb.size; (try simp at this); omega); have hcA0 := fun o => (bcell hb).1 (w.heap.size) o (by first | omega | (simp; omega) | (simp; done)); have hfA0 := fun o => (bcell hb).2 (w.heap.size) o (by first | omega | (simp; omega) | (simp; done))) | (go_at_call 57; refine (specIn _ _ _ _).mono ?_; rintro e w1 ⟨rfl, rfl⟩) | (go_at_call 55; refine (HT.out _).mono ?_; rintro e w1 ⟨rfl, rfl⟩) | go_in))
    all_goals (go_ret3; refine ⟨rII ?_ ?_ ?_, ?_⟩)
    all_goals first | (simp [hv, hw, ifI]; done) | (repeat (first | exact Below.refl _ _ | refine Below.drew ?_ | refine below_drewN ?_ _ | refine Below.setCell ?_ (by first | omega | (simp; done) | (simp; omega)) _ | refine Below.alloc ?_ (by first | omega | (simp; done) | (simp; omega)) _ | refine bchain ?_ (by assumption) (by first | omega | (simp; done) | (simp; omega))))
  case true =>
  have w1 := (inB_iff.1 hw).1
  have w2 := (inB_iff.1 hw).2
  cases hx : (g || decide (k < r))
  case false =>
    cases g <;> simp at hx
    go_enter Tryz.func29, Tryz.ntmps29
    go_wp2_with (first | (go_at_call 38; refine (tiGood_any _ _ _).mono ?_; rintro e w1 ⟨rfl, hb⟩; have hc := (bcell hb).1; have hf := (bcell hb).2; have hz : w.heap.size ≤ w1.heap.size := (by have := hb.size; (try simp at this); omega); have hz0 : w.heap.size < w1.heap.size := (by have := hb.size; (try simp at this); omega); have hcA0 := fun o => (bcell hb).1 (w.heap.size) o (by first | omega | (simp; omega) | (simp; done)); have hfA0 := fun o => (bcell hb).2 (w.heap.size) o (by first | omega | (simp; omega) | (simp; done))) | (go_at_call 57; refine (specIn _ _ _ _).mono ?_; rintro e w1 ⟨rfl, rfl⟩) | (go_at_call 55; refine (HT.out _).mono ?_; rintro e w1 ⟨rfl, rfl⟩) | go_in)
    all_goals try ((go_quiet (fail)); go_wp2_with (first | (go_at_call 38; refine (tiGood_any _ _ _).mono ?_; rintro e w1 ⟨rfl, hb⟩; have hc := (bcell hb).1; have hf := (bcell hb).2; have hz : w.heap.size ≤ w1.heap.size := (by have := hb.size; (try simp at this); omega); have hz0 : w.heap.size < w1.heap.size := (by have := hb.size; (try simp at this); omega); have hcA0 := fun o => (bcell hb).1 (w.heap.size) o (by first | omega | (simp; omega) | (simp; done)); have hfA0 := fun o => (bcell hb).2 (w.heap.size) o (by first | omega | (simp; omega) | (simp; done))) | (go_at_call 57; refine (specIn _ _ _ _).mono ?_; rintro e w1 ⟨rfl, rfl⟩) | (go_at_call 55; refine (HT.out _).mono ?_; rintro e w1 ⟨rfl, rfl⟩) | go_in))
    all_goals (go_ret3; refine ⟨rII ?_ ?_ ?_, ?_⟩)
    all_goals first | (simp [hv, hw, hx, ifI]; done) | (repeat (first | exact Below.refl _ _ | refine Below.drew ?_ | refine below_drewN ?_ _ | refine Below.setCell ?_ (by first | omega | (simp; done) | (simp; omega)) _ | refine Below.alloc ?_ (by first | omega | (simp; done) | (simp; omega)) _ | refine bchain ?_ (by assumption) (by first | omega | (simp; done) | (simp; omega))))
  case true =>
  have hr := trt_bd r k g (by omega) (by omega) (by omega) (by omega)
  have hp := trt_pos r k g (by omega) (by omega) (by cases g <;> simp_all)
  obtain ⟨z, hz⟩ : ∃ z, trt r k g = z := ⟨_, rfl⟩
  have HT := Lib.hid (fun w => tiRate_any r k g (by omega) (by omega) (by omega) (by omega) w)
  rw [hz] at HT hr hp
  rw [hz]
  cases g <;> (try simp only [Bool.false_or, Bool.true_or, decide_eq_true_eq] at hx)
  all_goals
    go_enter Tryz.func29, Tryz.ntmps29
    go_wp2_with (first | (go_at_call 38; refine (tiGood_any _ _ _).mono ?_; rintro e w1 ⟨rfl, hb⟩; have hc := (bcell hb).1; have hf := (bcell hb).2; have hz : w.heap.size ≤ w1.heap.size := (by have := hb.size; (try simp at this); omega); have hz0 : w.heap.size < w1.heap.size := (by have := hb.size; (try simp at this); omega); have hcA0 := fun o => (bcell hb).1 (w.heap.size) o (by first | omega | (simp; omega) | (simp; done)); have hfA0 := fun o => (bcell hb).2 (w.heap.size) o (by first | omega | (simp; omega) | (simp; done))) | (go_at_call 57; refine (specIn _ _ _ _).mono ?_; rintro e w1 ⟨rfl, rfl⟩) | (go_at_call 55; refine (HT.out _).mono ?_; rintro e w1 ⟨rfl, rfl⟩) | (go_at_call 40; refine (tiLow_any (l) (z) (by omega) (by omega) (by omega) (by omega) _).mono ?_; rintro e w1 ⟨rfl, hb⟩; have hc := (bcell hb).1; have hf := (bcell hb).2; have hz : w.heap.size ≤ w1.heap.size := (by have := hb.size; (try simp at this); omega); have hz0 : w.heap.size < w1.heap.size := (by have := hb.size; (try simp at this); omega); have hcA0 := fun o => (bcell hb).1 (w.heap.size) o (by first | omega | (simp; omega) | (simp; done)); have hfA0 := fun o => (bcell hb).2 (w.heap.size) o (by first | omega | (simp; omega) | (simp; done))) | go_in)
    all_goals try ((first | (go_quiet (fail)) | (go_region_with (first | (go_at_call 55; refine (HT.out _).mono ?_; rintro e w1 ⟨rfl, rfl⟩) | (go_at_call 40; refine (tiLow_any (l) (z) (by omega) (by omega) (by omega) (by omega) _).mono ?_; rintro e w1 ⟨rfl, hb⟩; have hc := (bcell hb).1; have hf := (bcell hb).2; have hz : w.heap.size ≤ w1.heap.size := (by have := hb.size; (try simp at this); omega); have hz0 : w.heap.size < w1.heap.size := (by have := hb.size; (try simp at this); omega); have hcA0 := fun o => (bcell hb).1 (w.heap.size) o (by first | omega | (simp; omega) | (simp; done)); have hfA0 := fun o => (bcell hb).2 (w.heap.size) o (by first | omega | (simp; omega) | (simp; done)))))); go_wp2_with (first | (go_at_call 38; refine (tiGood_any _ _ _).mono ?_; rintro e w1 ⟨rfl, hb⟩; have hc := (bcell hb).1; have hf := (bcell hb).2; have hz : w.heap.size ≤ w1.heap.size := (by have := hb.size; (try simp at this); omega); have hz0 : w.heap.size < w1.heap.size := (by have := hb.size; (try simp at this); omega); have hcA0 := fun o => (bcell hb).1 (w.heap.size) o (by first | omega | (simp; omega) | (simp; done)); have hfA0 := fun o => (bcell hb).2 (w.heap.size) o (by first | omega | (simp; omega) | (simp; done))) | (go_at_call 57; refine (specIn _ _ _ _).mono ?_; rintro e w1 ⟨rfl, rfl⟩) | (go_at_call 55; refine (HT.out _).mono ?_; rintro e w1 ⟨rfl, rfl⟩) | (go_at_call 40; refine (tiLow_any (l) (z) (by omega) (by omega) (by omega) (by omega) _).mono ?_; rintro e w1 ⟨rfl, hb⟩; have hc := (bcell hb).1; have hf := (bcell hb).2; have hz : w.heap.size ≤ w1.heap.size := (by have := hb.size; (try simp at this); omega); have hz0 : w.heap.size < w1.heap.size := (by have := hb.size; (try simp at this); omega); have hcA0 := fun o => (bcell hb).1 (w.heap.size) o (by first | omega | (simp; omega) | (simp; done)); have hfA0 := fun o => (bcell hb).2 (w.heap.size) o (by first | omega | (simp; omega) | (simp; done))) | go_in))
    all_goals try ((first | (go_quiet (fail)) | (go_region_with (first | (go_at_call 55; refine (HT.out _).mono ?_; rintro e w1 ⟨rfl, rfl⟩) | (go_at_call 40; refine (tiLow_any (l) (z) (by omega) (by omega) (by omega) (by omega) _).mono ?_; rintro e w1 ⟨rfl, hb⟩; have hc := (bcell hb).1; have hf := (bcell hb).2; have hz : w.heap.size ≤ w1.heap.size := (by have := hb.size; (try simp at this); omega); have hz0 : w.heap.size < w1.heap.size := (by have := hb.size; (try simp at this); omega); have hcA0 := fun o => (bcell hb).1 (w.heap.size) o (by first | omega | (simp; omega) | (simp; done)); have hfA0 := fun o => (bcell hb).2 (w.heap.size) o (by first | omega | (simp; omega) | (simp; done)))))); go_wp2_with (first | (go_at_call 38; refine (tiGood_any _ _ _).mono ?_; rintro e w1 ⟨rfl, hb⟩; have hc := (bcell hb).1; have hf := (bcell hb).2; have hz : w.heap.size ≤ w1.heap.size := (by have := hb.size; (try simp at this); omega); have hz0 : w.heap.size < w1.heap.size := (by have := hb.size; (try simp at this); omega); have hcA0 := fun o => (bcell hb).1 (w.heap.size) o (by first | omega | (simp; omega) | (simp; done)); have hfA0 := fun o => (bcell hb).2 (w.heap.size) o (by first | omega | (simp; omega) | (simp; done))) | (go_at_call 57; refine (specIn _ _ _ _).mono ?_; rintro e w1 ⟨rfl, rfl⟩) | (go_at_call 55; refine (HT.out _).mono ?_; rintro e w1 ⟨rfl, rfl⟩) | (go_at_call 40; refine (tiLow_any (l) (z) (by omega) (by omega) (by omega) (by omega) _).mono ?_; rintro e w1 ⟨rfl, hb⟩; have hc := (bcell hb).1; have hf := (bcell hb).2; have hz : w.heap.size ≤ w1.heap.size := (by have := hb.size; (try simp at this); omega); have hz0 : w.heap.size < w1.heap.size := (by have := hb.size; (try simp at this); omega); have hcA0 := fun o => (bcell hb).1 (w.heap.size) o (by first | omega | (simp; omega) | (simp; done)); have hfA0 := fun o => (bcell hb).2 (w.heap.size) o (by first | omega | (simp; omega) | (simp; done))) | go_in))
    all_goals (go_ret3; refine ⟨rII ?_ ?_ ?_, ?_⟩)
    all_goals first | (simp [hv, hw, hx, ifI]; done) | (repeat (first | exact Below.refl _ _ | refine Below.drew ?_ | refine below_drewN ?_ _ | refine Below.setCell ?_ (by first | omega | (simp; done) | (simp; omega)) _ | refine Below.alloc ?_ (by first | omega | (simp; done) | (simp; omega)) _ | refine bchain ?_ (by assumption) (by first | omega | (simp; done) | (simp; omega))))
end Go.Proofs.YtokjmhkdcgkcoaaGreatDoor
