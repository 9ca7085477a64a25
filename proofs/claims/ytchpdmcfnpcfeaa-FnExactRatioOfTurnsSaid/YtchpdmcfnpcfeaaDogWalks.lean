/- Contracts of chapter 4's functions on a chase and numbers, the model's, over one translation. -/
import Derived.Test.YtchpdmcfnpcfeaaProg
import Derived.Test.YtchpdmcfnpcfeaaDogMath
import Derived.Test.YtchpdmcfnpcfeaaTwoWalks
import Derived.Test.YtchpdmcfnpcfeaaSlices
import Derived.Deep.LoopGhost
import Derived.Deep.Heap
import Derived.WalkKit
import Derived.WalkSpells
import Derived.WalkLawsBesides
import Derived.Lib.Hide
import Derived.Deep.RegionWith
import Derived.Deep.RegionHeld3
import Derived.Deep.QuietTactic
import Derived.BigQuiet
namespace Go.Proofs.Ytchpdmcfnpcfeaa
open Go.RowKit
set_option linter.unusedVariables false
set_option linter.unusedSimpArgs false
set_option maxHeartbeats 2000000 in
theorem toChase_any (a l r g : Int) (w : World) :
    Calls Try.prog 14 #[.agg #[.int .i64 a, .int .i64 l, .int .i64 r, .int .i64 g]] w fun e w' => e = .returned (.agg #[.int .i64 a, .int .i64 l, .int .i64 r, .int .i64 g]) ∧ Below w.heap.size w w' := by
  go_enter Try.func14, Try.ntmps14
  go_wp2
  exact bodyPost_ret (v := .agg #[.int .i64 a, .int .i64 l, .int .i64 r, .int .i64 g]) (by simp [results, Try.results14, go_sem]) rfl ⟨rfl, by (repeat (first | exact Below.refl _ _ | refine Below.drew ?_ | refine below_drewN ?_ _ | refine Below.setCell ?_ (by first | omega | (simp; done) | (simp; omega)) _ | refine Below.alloc ?_ (by first | omega | (simp; done) | (simp; omega)) _ | refine bchain ?_ (by assumption) (by first | omega | (simp; done) | (simp; omega))))⟩
set_option maxHeartbeats 2000000 in
theorem mostx_any (l r : Int) (w : World) :
    Calls Try.prog 45 #[.int .i64 l, .int .i64 r] w fun e w' => e = .returned (.int .i64 (mx l r)) ∧ w = w' := by
  exact most_any l r w
theorem specIn_val {n lo hi : Int} {b : Bool} (h : inB n lo hi = b) (w : World) :
    Calls Try.prog 47 #[.int .i64 n, .int .i64 lo, .int .i64 hi] w fun e w' => e = .returned (.bool b) ∧ w' = w := by
  subst h; exact (specIn n lo hi w).mono fun _ _ h => ⟨h.1, h.2.symm⟩
set_option maxHeartbeats 2000000 in
theorem doGood_any (a l r g : Int) (w : World) :
    Calls Try.prog 35 #[.agg #[.int .i64 a, .int .i64 l, .int .i64 r, .int .i64 g]] w fun e w' => e = .returned (.bool (chOk a l r g)) ∧ Below w.heap.size w w' := by
  cases h1 : inB a 1 1000 <;> cases h2 : inB l 0 20 <;> cases h3 : inB r 0 20
  case true.true.true =>
    have k1 := inB_iff.1 h2
    have k2 := inB_iff.1 h3
    have k3 := mx_bd l r
    have u1 : IntKind.i64.wrap (l + r) = l + r := IntWalk.i64_in _ (by omega)
    have u2 : IntKind.i64.wrap (mx l r + 1) = mx l r + 1 := IntWalk.i64_in _ (by omega)
    cases h4 : decide (0 < l + r)
    all_goals
      go_enter Try.func35, Try.ntmps35
      go_wp2_with fail
      go_quiet (first | (go_at_call_of 47 (Value.int .i64 a); exact Calls.quiet_of_same (specIn_val h1 _)) | (go_at_call_of 47 (Value.int .i64 l); exact Calls.quiet_of_same (specIn_val h2 _)) | (go_at_call_of 47 (Value.int .i64 r); exact Calls.quiet_of_same (specIn_val h3 _)) | (go_at_call_of 47 (Value.int .i64 g); exact Calls.quiet_of_same ((specIn _ _ _ _).mono fun _ _ h => ⟨h.1, h.2.symm⟩)) | (go_at_call 45; exact Calls.quiet_of_same ((mostx_any _ _ _).mono fun _ _ h => ⟨h.1, h.2.symm⟩)))
      go_wp2_with fail
      go_ret
      refine ⟨rB ?_, ?_⟩
      all_goals first | (simp [chOk, h1, h2, h3, h4]; done) | (repeat (first | exact Below.refl _ _ | refine Below.drew ?_ | refine below_drewN ?_ _ | refine Below.setCell ?_ (by first | omega | (simp; done) | (simp; omega)) _ | refine Below.alloc ?_ (by first | omega | (simp; done) | (simp; omega)) _ | refine bchain ?_ (by assumption) (by first | omega | (simp; done) | (simp; omega))))
  all_goals
    go_enter Try.func35, Try.ntmps35
    go_wp2_with fail
    go_quiet (first | (go_at_call_of 47 (Value.int .i64 a); exact Calls.quiet_of_same (specIn_val h1 _)) | (go_at_call_of 47 (Value.int .i64 l); exact Calls.quiet_of_same (specIn_val h2 _)) | (go_at_call_of 47 (Value.int .i64 r); exact Calls.quiet_of_same (specIn_val h3 _)) | (go_at_call_of 47 (Value.int .i64 g); exact Calls.quiet_of_same ((specIn _ _ _ _).mono fun _ _ h => ⟨h.1, h.2.symm⟩)) | (go_at_call 45; exact Calls.quiet_of_same ((mostx_any _ _ _).mono fun _ _ h => ⟨h.1, h.2.symm⟩)))
    go_wp2_with fail
    go_ret
    refine ⟨rB ?_, ?_⟩
    all_goals first | (simp [chOk, h1, h2, h3]; done) | (repeat (first | exact Below.refl _ _ | refine Below.drew ?_ | refine below_drewN ?_ _ | refine Below.setCell ?_ (by first | omega | (simp; done) | (simp; omega)) _ | refine Below.alloc ?_ (by first | omega | (simp; done) | (simp; omega)) _ | refine bchain ?_ (by assumption) (by first | omega | (simp; done) | (simp; omega))))
set_option maxHeartbeats 2000000 in
theorem specIsChase (a l r g : Int) (w : World) :
    Calls Try.prog 13 #[.agg #[.int .i64 a, .int .i64 l, .int .i64 r, .int .i64 g]] w fun e w' => e = .returned (.bool (chOk a l r g)) ∧ Below w.heap.size w w' := by
  go_enter Try.func13, Try.ntmps13
  go_wp2_with (first | (go_at_call 35; refine (doGood_any _ _ _ _ _).mono ?_; rintro e w1 ⟨rfl, hb⟩; have hc := (bcell hb).1; have hf := (bcell hb).2; have hz : w.heap.size ≤ w1.heap.size := (by have := hb.size; (try simp at this); omega); have hz0 : w.heap.size < w1.heap.size := (by have := hb.size; (try simp at this); omega); have hcA0 := fun o => (bcell hb).1 (w.heap.size) o (by first | omega | (simp; omega) | (simp; done)); have hfA0 := fun o => (bcell hb).2 (w.heap.size) o (by first | omega | (simp; omega) | (simp; done))) | go_in)
  all_goals (go_ret; refine ⟨rB ?_, ?_⟩)
  all_goals first | rfl | (repeat (first | exact Below.refl _ _ | refine Below.drew ?_ | refine below_drewN ?_ _ | refine Below.setCell ?_ (by first | omega | (simp; done) | (simp; omega)) _ | refine Below.alloc ?_ (by first | omega | (simp; done) | (simp; omega)) _ | refine bchain ?_ (by assumption) (by first | omega | (simp; done) | (simp; omega))))
set_option maxHeartbeats 2000000 in
theorem specTimeToMeet (a l r g : Int) (w : World) :
    Calls Try.prog 16 #[.agg #[.int .i64 a, .int .i64 l, .int .i64 r, .int .i64 g]] w fun e w' => e = .returned (.tuple #[.int .i64 (ifI (chOk a l r g) (lwN (a) (l + r))), .int .i64 (ifI (chOk a l r g) (lwD (a) (l + r))), .bool (chOk a l r g)]) ∧ Below w.heap.size w w' := by
  cases hv : chOk a l r g
  case true =>
    have b1 := (chOk_iff.1 hv).1
    have b2 := (chOk_iff.1 hv).2.1
    have b3 := (chOk_iff.1 hv).2.2.1
    have b4 := (chOk_iff.1 hv).2.2.2.1
    have b5 := (chOk_iff.1 hv).2.2.2.2.1
    have b6 := (chOk_iff.1 hv).2.2.2.2.2.1
    have b7 := (chOk_iff.1 hv).2.2.2.2.2.2.1
    have b8 := (chOk_iff.1 hv).2.2.2.2.2.2.2.1
    have b9 := (chOk_iff.1 hv).2.2.2.2.2.2.2.2.1
    have b0 := (chOk_iff.1 hv).2.2.2.2.2.2.2.2.2
    go_enter Try.func16, Try.ntmps16
    go_wp2_with (first | (go_at_call 35; refine (doGood_any _ _ _ _ _).mono ?_; rintro e w1 ⟨rfl, hb⟩; have hc := (bcell hb).1; have hf := (bcell hb).2; have hz : w.heap.size ≤ w1.heap.size := (by have := hb.size; (try simp at this); omega); have hz0 : w.heap.size < w1.heap.size := (by have := hb.size; (try simp at this); omega); have hcA0 := fun o => (bcell hb).1 (w.heap.size) o (by first | omega | (simp; omega) | (simp; done)); have hfA0 := fun o => (bcell hb).2 (w.heap.size) o (by first | omega | (simp; omega) | (simp; done))) | (go_at_call 39; refine (meLow_pos (a) (l + r) (by omega) (by omega) (by omega) (by omega) _).mono ?_; rintro e w1 ⟨rfl, hb⟩; have hc := (bcell hb).1; have hf := (bcell hb).2; have hz : w.heap.size ≤ w1.heap.size := (by have := hb.size; (try simp at this); omega); have hz0 : w.heap.size < w1.heap.size := (by have := hb.size; (try simp at this); omega); have hcA0 := fun o => (bcell hb).1 (w.heap.size) o (by first | omega | (simp; omega) | (simp; done)); have hfA0 := fun o => (bcell hb).2 (w.heap.size) o (by first | omega | (simp; omega) | (simp; done))) | go_in)
    all_goals try ((go_quiet (fail)); go_wp2_with (first | (go_at_call 35; refine (doGood_any _ _ _ _ _).mono ?_; rintro e w1 ⟨rfl, hb⟩; have hc := (bcell hb).1; have hf := (bcell hb).2; have hz : w.heap.size ≤ w1.heap.size := (by have := hb.size; (try simp at this); omega); have hz0 : w.heap.size < w1.heap.size := (by have := hb.size; (try simp at this); omega); have hcA0 := fun o => (bcell hb).1 (w.heap.size) o (by first | omega | (simp; omega) | (simp; done)); have hfA0 := fun o => (bcell hb).2 (w.heap.size) o (by first | omega | (simp; omega) | (simp; done))) | (go_at_call 39; refine (meLow_pos (a) (l + r) (by omega) (by omega) (by omega) (by omega) _).mono ?_; rintro e w1 ⟨rfl, hb⟩; have hc := (bcell hb).1; have hf := (bcell hb).2; have hz : w.heap.size ≤ w1.heap.size := (by have := hb.size; (try simp at this); omega); have hz0 : w.heap.size < w1.heap.size := (by have := hb.size; (try simp at this); omega); have hcA0 := fun o => (bcell hb).1 (w.heap.size) o (by first | omega | (simp; omega) | (simp; done)); have hfA0 := fun o => (bcell hb).2 (w.heap.size) o (by first | omega | (simp; omega) | (simp; done))) | go_in))
    all_goals (go_ret3; refine ⟨rII ?_ ?_ ?_, ?_⟩)
    all_goals first | (simp [hv, ifI]; done) | (repeat (first | exact Below.refl _ _ | refine Below.drew ?_ | refine below_drewN ?_ _ | refine Below.setCell ?_ (by first | omega | (simp; done) | (simp; omega)) _ | refine Below.alloc ?_ (by first | omega | (simp; done) | (simp; omega)) _ | refine bchain ?_ (by assumption) (by first | omega | (simp; done) | (simp; omega))))
  all_goals
    go_enter Try.func16, Try.ntmps16
    go_wp2_with (first | (go_at_call 35; refine (doGood_any _ _ _ _ _).mono ?_; rintro e w1 ⟨rfl, hb⟩; have hc := (bcell hb).1; have hf := (bcell hb).2; have hz : w.heap.size ≤ w1.heap.size := (by have := hb.size; (try simp at this); omega); have hz0 : w.heap.size < w1.heap.size := (by have := hb.size; (try simp at this); omega); have hcA0 := fun o => (bcell hb).1 (w.heap.size) o (by first | omega | (simp; omega) | (simp; done)); have hfA0 := fun o => (bcell hb).2 (w.heap.size) o (by first | omega | (simp; omega) | (simp; done))) | go_in)
    all_goals (go_ret3; refine ⟨rII ?_ ?_ ?_, ?_⟩)
    all_goals first | (simp [hv, ifI]; done) | (repeat (first | exact Below.refl _ _ | refine Below.drew ?_ | refine below_drewN ?_ _ | refine Below.setCell ?_ (by first | omega | (simp; done) | (simp; omega)) _ | refine Below.alloc ?_ (by first | omega | (simp; done) | (simp; omega)) _ | refine bchain ?_ (by assumption) (by first | omega | (simp; done) | (simp; omega))))
set_option maxHeartbeats 2000000 in
theorem specDogDistance (a l r g : Int) (w : World) :
    Calls Try.prog 18 #[.agg #[.int .i64 a, .int .i64 l, .int .i64 r, .int .i64 g]] w fun e w' => e = .returned (.tuple #[.int .i64 (ifI (chOk a l r g) (lwN (a * g) (l + r))), .int .i64 (ifI (chOk a l r g) (lwD (a * g) (l + r))), .bool (chOk a l r g)]) ∧ Below w.heap.size w w' := by
  cases hv : chOk a l r g
  case true =>
    have b1 := (chOk_iff.1 hv).1
    have b2 := (chOk_iff.1 hv).2.1
    have b3 := (chOk_iff.1 hv).2.2.1
    have b4 := (chOk_iff.1 hv).2.2.2.1
    have b5 := (chOk_iff.1 hv).2.2.2.2.1
    have b6 := (chOk_iff.1 hv).2.2.2.2.2.1
    have b7 := (chOk_iff.1 hv).2.2.2.2.2.2.1
    have b8 := (chOk_iff.1 hv).2.2.2.2.2.2.2.1
    have b9 := (chOk_iff.1 hv).2.2.2.2.2.2.2.2.1
    have b0 := (chOk_iff.1 hv).2.2.2.2.2.2.2.2.2
    have m1 := mul_bd a g 1000 20 (by omega) b2 (by omega) b0
    go_enter Try.func18, Try.ntmps18
    go_wp2_with (first | (go_at_call 35; refine (doGood_any _ _ _ _ _).mono ?_; rintro e w1 ⟨rfl, hb⟩; have hc := (bcell hb).1; have hf := (bcell hb).2; have hz : w.heap.size ≤ w1.heap.size := (by have := hb.size; (try simp at this); omega); have hz0 : w.heap.size < w1.heap.size := (by have := hb.size; (try simp at this); omega); have hcA0 := fun o => (bcell hb).1 (w.heap.size) o (by first | omega | (simp; omega) | (simp; done)); have hfA0 := fun o => (bcell hb).2 (w.heap.size) o (by first | omega | (simp; omega) | (simp; done))) | (go_at_call 39; refine (meLow_pos (a * g) (l + r) (by omega) (by omega) (by omega) (by omega) _).mono ?_; rintro e w1 ⟨rfl, hb⟩; have hc := (bcell hb).1; have hf := (bcell hb).2; have hz : w.heap.size ≤ w1.heap.size := (by have := hb.size; (try simp at this); omega); have hz0 : w.heap.size < w1.heap.size := (by have := hb.size; (try simp at this); omega); have hcA0 := fun o => (bcell hb).1 (w.heap.size) o (by first | omega | (simp; omega) | (simp; done)); have hfA0 := fun o => (bcell hb).2 (w.heap.size) o (by first | omega | (simp; omega) | (simp; done))) | go_in)
    all_goals try ((go_quiet (fail)); go_wp2_with (first | (go_at_call 35; refine (doGood_any _ _ _ _ _).mono ?_; rintro e w1 ⟨rfl, hb⟩; have hc := (bcell hb).1; have hf := (bcell hb).2; have hz : w.heap.size ≤ w1.heap.size := (by have := hb.size; (try simp at this); omega); have hz0 : w.heap.size < w1.heap.size := (by have := hb.size; (try simp at this); omega); have hcA0 := fun o => (bcell hb).1 (w.heap.size) o (by first | omega | (simp; omega) | (simp; done)); have hfA0 := fun o => (bcell hb).2 (w.heap.size) o (by first | omega | (simp; omega) | (simp; done))) | (go_at_call 39; refine (meLow_pos (a * g) (l + r) (by omega) (by omega) (by omega) (by omega) _).mono ?_; rintro e w1 ⟨rfl, hb⟩; have hc := (bcell hb).1; have hf := (bcell hb).2; have hz : w.heap.size ≤ w1.heap.size := (by have := hb.size; (try simp at this); omega); have hz0 : w.heap.size < w1.heap.size := (by have := hb.size; (try simp at this); omega); have hcA0 := fun o => (bcell hb).1 (w.heap.size) o (by first | omega | (simp; omega) | (simp; done)); have hfA0 := fun o => (bcell hb).2 (w.heap.size) o (by first | omega | (simp; omega) | (simp; done))) | go_in))
    all_goals (go_ret3; refine ⟨rII ?_ ?_ ?_, ?_⟩)
    all_goals first | (simp [hv, ifI]; done) | (repeat (first | exact Below.refl _ _ | refine Below.drew ?_ | refine below_drewN ?_ _ | refine Below.setCell ?_ (by first | omega | (simp; done) | (simp; omega)) _ | refine Below.alloc ?_ (by first | omega | (simp; done) | (simp; omega)) _ | refine bchain ?_ (by assumption) (by first | omega | (simp; done) | (simp; omega))))
  all_goals
    go_enter Try.func18, Try.ntmps18
    go_wp2_with (first | (go_at_call 35; refine (doGood_any _ _ _ _ _).mono ?_; rintro e w1 ⟨rfl, hb⟩; have hc := (bcell hb).1; have hf := (bcell hb).2; have hz : w.heap.size ≤ w1.heap.size := (by have := hb.size; (try simp at this); omega); have hz0 : w.heap.size < w1.heap.size := (by have := hb.size; (try simp at this); omega); have hcA0 := fun o => (bcell hb).1 (w.heap.size) o (by first | omega | (simp; omega) | (simp; done)); have hfA0 := fun o => (bcell hb).2 (w.heap.size) o (by first | omega | (simp; omega) | (simp; done))) | go_in)
    all_goals (go_ret3; refine ⟨rII ?_ ?_ ?_, ?_⟩)
    all_goals first | (simp [hv, ifI]; done) | (repeat (first | exact Below.refl _ _ | refine Below.drew ?_ | refine below_drewN ?_ _ | refine Below.setCell ?_ (by first | omega | (simp; done) | (simp; omega)) _ | refine Below.alloc ?_ (by first | omega | (simp; done) | (simp; omega)) _ | refine bchain ?_ (by assumption) (by first | omega | (simp; done) | (simp; omega))))
set_option maxHeartbeats 2000000 in
theorem specDistanceOf (a l r g : Int) (w : World) :
    Calls Try.prog 20 #[.agg #[.int .i64 a, .int .i64 l, .int .i64 r, .int .i64 g]] w fun e w' => e = .returned (.tuple #[.int .i64 (ifI (chOk a l r g) (lwN (a * l) (l + r))), .int .i64 (ifI (chOk a l r g) (lwD (a * l) (l + r))), .int .i64 (ifI (chOk a l r g) (lwN (a * r) (l + r))), .int .i64 (ifI (chOk a l r g) (lwD (a * r) (l + r))), .bool (chOk a l r g)]) ∧ Below w.heap.size w w' := by
  cases hv : chOk a l r g
  case true =>
    have b1 := (chOk_iff.1 hv).1
    have b2 := (chOk_iff.1 hv).2.1
    have b3 := (chOk_iff.1 hv).2.2.1
    have b4 := (chOk_iff.1 hv).2.2.2.1
    have b5 := (chOk_iff.1 hv).2.2.2.2.1
    have b6 := (chOk_iff.1 hv).2.2.2.2.2.1
    have b7 := (chOk_iff.1 hv).2.2.2.2.2.2.1
    have b8 := (chOk_iff.1 hv).2.2.2.2.2.2.2.1
    have b9 := (chOk_iff.1 hv).2.2.2.2.2.2.2.2.1
    have b0 := (chOk_iff.1 hv).2.2.2.2.2.2.2.2.2
    have m1 := mul_bd a l 1000 20 (by omega) b2 b3 b4
    have m2 := mul_bd a r 1000 20 (by omega) b2 b5 b6
    go_enter Try.func20, Try.ntmps20
    go_wp2_with (first | (go_at_call 35; refine (doGood_any _ _ _ _ _).mono ?_; rintro e w1 ⟨rfl, hb⟩; have hc := (bcell hb).1; have hf := (bcell hb).2; have hz : w.heap.size ≤ w1.heap.size := (by have := hb.size; (try simp at this); omega); have hz0 : w.heap.size < w1.heap.size := (by have := hb.size; (try simp at this); omega); have hcA0 := fun o => (bcell hb).1 (w.heap.size) o (by first | omega | (simp; omega) | (simp; done)); have hfA0 := fun o => (bcell hb).2 (w.heap.size) o (by first | omega | (simp; omega) | (simp; done))) | (go_at_call 39; refine (meLow_pos _ _ (by omega) (by omega) (by omega) (by omega) _).mono ?_; rintro e w1 ⟨rfl, hb⟩; have hc := (bcell hb).1; have hf := (bcell hb).2; have hz : w.heap.size ≤ w1.heap.size := (by have := hb.size; (try simp at this); omega); have hz0 : w.heap.size < w1.heap.size := (by have := hb.size; (try simp at this); omega); have hcA0 := fun o => (bcell hb).1 (w.heap.size) o (by first | omega | (simp; omega) | (simp; done)); have hfA0 := fun o => (bcell hb).2 (w.heap.size) o (by first | omega | (simp; omega) | (simp; done))) | go_in)
    all_goals try ((go_quiet (fail)); go_wp2_with (first | (go_at_call 35; refine (doGood_any _ _ _ _ _).mono ?_; rintro e w1 ⟨rfl, hb⟩; have hc := (bcell hb).1; have hf := (bcell hb).2; have hz : w.heap.size ≤ w1.heap.size := (by have := hb.size; (try simp at this); omega); have hz0 : w.heap.size < w1.heap.size := (by have := hb.size; (try simp at this); omega); have hcA0 := fun o => (bcell hb).1 (w.heap.size) o (by first | omega | (simp; omega) | (simp; done)); have hfA0 := fun o => (bcell hb).2 (w.heap.size) o (by first | omega | (simp; omega) | (simp; done))) | (go_at_call 39; refine (meLow_pos _ _ (by omega) (by omega) (by omega) (by omega) _).mono ?_; rintro e w1 ⟨rfl, hb⟩; have hc := (bcell hb).1; have hf := (bcell hb).2; have hz : w.heap.size ≤ w1.heap.size := (by have := hb.size; (try simp at this); omega); have hz0 : w.heap.size < w1.heap.size := (by have := hb.size; (try simp at this); omega); have hcA0 := fun o => (bcell hb).1 (w.heap.size) o (by first | omega | (simp; omega) | (simp; done)); have hfA0 := fun o => (bcell hb).2 (w.heap.size) o (by first | omega | (simp; omega) | (simp; done))) | go_in))
    all_goals (((try simp only [Exit.inBlock, Exit.then]); refine bodyPost_ret (results_tmp5 rfl _ _ _) rfl ?_); refine ⟨r5 ?_ ?_ ?_ ?_ ?_, ?_⟩)
    all_goals first | (simp [hv, ifI]; done) | (repeat (first | exact Below.refl _ _ | refine Below.drew ?_ | refine below_drewN ?_ _ | refine Below.setCell ?_ (by first | omega | (simp; done) | (simp; omega)) _ | refine Below.alloc ?_ (by first | omega | (simp; done) | (simp; omega)) _ | refine bchain ?_ (by assumption) (by first | omega | (simp; done) | (simp; omega))))
  all_goals
    go_enter Try.func20, Try.ntmps20
    go_wp2_with (first | (go_at_call 35; refine (doGood_any _ _ _ _ _).mono ?_; rintro e w1 ⟨rfl, hb⟩; have hc := (bcell hb).1; have hf := (bcell hb).2; have hz : w.heap.size ≤ w1.heap.size := (by have := hb.size; (try simp at this); omega); have hz0 : w.heap.size < w1.heap.size := (by have := hb.size; (try simp at this); omega); have hcA0 := fun o => (bcell hb).1 (w.heap.size) o (by first | omega | (simp; omega) | (simp; done)); have hfA0 := fun o => (bcell hb).2 (w.heap.size) o (by first | omega | (simp; omega) | (simp; done))) | go_in)
    all_goals (((try simp only [Exit.inBlock, Exit.then]); refine bodyPost_ret (results_tmp5 rfl _ _ _) rfl ?_); refine ⟨r5 ?_ ?_ ?_ ?_ ?_, ?_⟩)
    all_goals first | (simp [hv, ifI]; done) | (repeat (first | exact Below.refl _ _ | refine Below.drew ?_ | refine below_drewN ?_ _ | refine Below.setCell ?_ (by first | omega | (simp; done) | (simp; omega)) _ | refine Below.alloc ?_ (by first | omega | (simp; done) | (simp; omega)) _ | refine bchain ?_ (by assumption) (by first | omega | (simp; done) | (simp; omega))))
set_option maxHeartbeats 2000000 in
theorem specRatioOfTurns (a l r g : Int) (w : World) :
    Calls Try.prog 22 #[.agg #[.int .i64 a, .int .i64 l, .int .i64 r, .int .i64 g]] w fun e w' => e = .returned (.tuple #[.int .i64 (ifI (chOk a l r g) (lwN (g - l) (g + r))), .int .i64 (ifI (chOk a l r g) (lwD (g - l) (g + r))), .int .i64 (ifI (chOk a l r g) (lwN (g - r) (g + l))), .int .i64 (ifI (chOk a l r g) (lwD (g - r) (g + l))), .bool (chOk a l r g)]) ∧ Below w.heap.size w w' := by
  cases hv : chOk a l r g
  case true =>
    have b1 := (chOk_iff.1 hv).1
    have b2 := (chOk_iff.1 hv).2.1
    have b3 := (chOk_iff.1 hv).2.2.1
    have b4 := (chOk_iff.1 hv).2.2.2.1
    have b5 := (chOk_iff.1 hv).2.2.2.2.1
    have b6 := (chOk_iff.1 hv).2.2.2.2.2.1
    have b7 := (chOk_iff.1 hv).2.2.2.2.2.2.1
    have b8 := (chOk_iff.1 hv).2.2.2.2.2.2.2.1
    have b9 := (chOk_iff.1 hv).2.2.2.2.2.2.2.2.1
    have b0 := (chOk_iff.1 hv).2.2.2.2.2.2.2.2.2
    go_enter Try.func22, Try.ntmps22
    go_wp2_with (first | (go_at_call 35; refine (doGood_any _ _ _ _ _).mono ?_; rintro e w1 ⟨rfl, hb⟩; have hc := (bcell hb).1; have hf := (bcell hb).2; have hz : w.heap.size ≤ w1.heap.size := (by have := hb.size; (try simp at this); omega); have hz0 : w.heap.size < w1.heap.size := (by have := hb.size; (try simp at this); omega); have hcA0 := fun o => (bcell hb).1 (w.heap.size) o (by first | omega | (simp; omega) | (simp; done)); have hfA0 := fun o => (bcell hb).2 (w.heap.size) o (by first | omega | (simp; omega) | (simp; done))) | (go_at_call 39; refine (meLow_pos _ _ (by omega) (by omega) (by omega) (by omega) _).mono ?_; rintro e w1 ⟨rfl, hb⟩; have hc := (bcell hb).1; have hf := (bcell hb).2; have hz : w.heap.size ≤ w1.heap.size := (by have := hb.size; (try simp at this); omega); have hz0 : w.heap.size < w1.heap.size := (by have := hb.size; (try simp at this); omega); have hcA0 := fun o => (bcell hb).1 (w.heap.size) o (by first | omega | (simp; omega) | (simp; done)); have hfA0 := fun o => (bcell hb).2 (w.heap.size) o (by first | omega | (simp; omega) | (simp; done))) | go_in)
    all_goals try ((go_quiet (fail)); go_wp2_with (first | (go_at_call 35; refine (doGood_any _ _ _ _ _).mono ?_; rintro e w1 ⟨rfl, hb⟩; have hc := (bcell hb).1; have hf := (bcell hb).2; have hz : w.heap.size ≤ w1.heap.size := (by have := hb.size; (try simp at this); omega); have hz0 : w.heap.size < w1.heap.size := (by have := hb.size; (try simp at this); omega); have hcA0 := fun o => (bcell hb).1 (w.heap.size) o (by first | omega | (simp; omega) | (simp; done)); have hfA0 := fun o => (bcell hb).2 (w.heap.size) o (by first | omega | (simp; omega) | (simp; done))) | (go_at_call 39; refine (meLow_pos _ _ (by omega) (by omega) (by omega) (by omega) _).mono ?_; rintro e w1 ⟨rfl, hb⟩; have hc := (bcell hb).1; have hf := (bcell hb).2; have hz : w.heap.size ≤ w1.heap.size := (by have := hb.size; (try simp at this); omega); have hz0 : w.heap.size < w1.heap.size := (by have := hb.size; (try simp at this); omega); have hcA0 := fun o => (bcell hb).1 (w.heap.size) o (by first | omega | (simp; omega) | (simp; done)); have hfA0 := fun o => (bcell hb).2 (w.heap.size) o (by first | omega | (simp; omega) | (simp; done))) | go_in))
    all_goals (((try simp only [Exit.inBlock, Exit.then]); refine bodyPost_ret (results_tmp5 rfl _ _ _) rfl ?_); refine ⟨r5 ?_ ?_ ?_ ?_ ?_, ?_⟩)
    all_goals first | (simp [hv, ifI]; done) | (repeat (first | exact Below.refl _ _ | refine Below.drew ?_ | refine below_drewN ?_ _ | refine Below.setCell ?_ (by first | omega | (simp; done) | (simp; omega)) _ | refine Below.alloc ?_ (by first | omega | (simp; done) | (simp; omega)) _ | refine bchain ?_ (by assumption) (by first | omega | (simp; done) | (simp; omega))))
  all_goals
    go_enter Try.func22, Try.ntmps22
    go_wp2_with (first | (go_at_call 35; refine (doGood_any _ _ _ _ _).mono ?_; rintro e w1 ⟨rfl, hb⟩; have hc := (bcell hb).1; have hf := (bcell hb).2; have hz : w.heap.size ≤ w1.heap.size := (by have := hb.size; (try simp at this); omega); have hz0 : w.heap.size < w1.heap.size := (by have := hb.size; (try simp at this); omega); have hcA0 := fun o => (bcell hb).1 (w.heap.size) o (by first | omega | (simp; omega) | (simp; done)); have hfA0 := fun o => (bcell hb).2 (w.heap.size) o (by first | omega | (simp; omega) | (simp; done))) | go_in)
    all_goals (((try simp only [Exit.inBlock, Exit.then]); refine bodyPost_ret (results_tmp5 rfl _ _ _) rfl ?_); refine ⟨r5 ?_ ?_ ?_ ?_ ?_, ?_⟩)
    all_goals first | (simp [hv, ifI]; done) | (repeat (first | exact Below.refl _ _ | refine Below.drew ?_ | refine below_drewN ?_ _ | refine Below.setCell ?_ (by first | omega | (simp; done) | (simp; omega)) _ | refine Below.alloc ?_ (by first | omega | (simp; done) | (simp; omega)) _ | refine bchain ?_ (by assumption) (by first | omega | (simp; done) | (simp; omega))))
set_option maxHeartbeats 2000000 in
theorem l1All_dog (lo hi : Int) (a : Option Addr) (cap : Nat) (xs : List Int) (w : World) (h : Rd w a xs) (hn : xs.length ≤ 4611686018427387904) :
    Calls Try.prog 53 #[.slice a xs.length cap, .int .i64 lo, .int .i64 hi] w fun e w' => e = .returned (.bool (alB xs lo hi)) ∧ w = w' := by
  go_enter Try.func53, Try.ntmps53
  go_wp2_with (first | fail | go_in)
  go_loopg [11] xs.length (fun k v wr => ∃ (j : Nat), v = .int .i64 (j : Int) ∧ j + k ≤ xs.length ∧ xs.length ≤ j + k ∧ Hid (∀ i, i < j → inB (xs.getD i 0) lo hi = true) ∧ w = wr)
  case atStart => exact ⟨0, rfl, by omega, by omega, fun i hi => absurd hi (Nat.not_lt_zero _), rfl⟩
  case round =>
    obtain ⟨j, rfl, q1, q2, hp, rfl⟩ := hrel
    by_cases hj : j < xs.length
    · rcases h with h | ⟨b, off, rfl, hlt, hc⟩
      · rw [h] at hj; exact absurd hj (Nat.not_lt_zero _)
      · have hcj := hc j hj
        have hjI : (j : Int) < (xs.length : Int) := by omega
        clear hc
        cases hx : inB (xs.getD j 0) lo hi
        · have hbad : Hid (alB xs lo hi = false) := by
            unfold Hid
            cases hq : alB xs lo hi
            · rfl
            · have := inB_true (alB_iff.1 hq j hj); rw [this] at hx; cases hx
          clear hp
          generalize xs.getD j 0 = x at *
          go_wp2_with (first | (go_at_call 47; refine (specIn _ _ _ _).mono ?_; rintro e w1 ⟨rfl, rfl⟩) | go_in)
          go_ret
          refine ⟨rB ?_, rfl⟩
          rw [hbad.out]
        · have hp2 : Hid (∀ i, i < j + 1 → inB (xs.getD i 0) lo hi = true) := by
            intro i hi
            by_cases q : i = j
            · rw [q]; exact hx
            · exact hp.out i (by omega)
          clear hp
          generalize xs.getD j 0 = x at *
          go_wp2_with (first | (go_at_call 47; refine (specIn _ _ _ _).mono ?_; rintro e w1 ⟨rfl, rfl⟩) | go_in)
          go_roundg (gk - 1)
          case rel => exact ⟨j + 1, by go_num, by omega, by omega, hp2, rfl⟩
          case measure => omega
    · have hall : Hid (alB xs lo hi = true) := alB_iff.2 (fun i hi => inB_iff.1 (hp.out i (by omega)))
      clear hp
      go_wp2_with fail
      go_ret
      refine ⟨rB ?_, rfl⟩
      rw [hall.out]
theorem rd_new4 (w : World) (a b c d : Int) (T : Nat) : Rd (w.alloc (.cells #[.int .i64 a, .int .i64 b, .int .i64 c, .int .i64 d] T)) (some ⟨w.heap.size, 0, none⟩) [a, b, c, d] := by
  refine .inr ⟨w.heap.size, 0, rfl, by simp, fun i hi => ?_⟩
  have hi2 : i = 0 ∨ i = 1 ∨ i = 2 ∨ i = 3 := by simp at hi; omega
  rcases hi2 with rfl | rfl | rfl | rfl <;> (unfold World.cell?; rw [Go.Deep.blk_alloc_new]; rfl)
set_option maxHeartbeats 2000000 in
theorem doLeaps_any (a b c d : Int) (w : World) :
    Calls Try.prog 48 #[.int .i64 a, .int .i64 b, .int .i64 c, .int .i64 d] w fun e w' => e = .returned (.bool (alB [a, b, c, d] 1 20)) ∧ Below w.heap.size w w' := by
  go_enter Try.func48, Try.ntmps48
  go_wp2_with fail
  refine (l1All_dog 1 20 (some ⟨w.heap.size, 0, none⟩) 4 [a, b, c, d] _ (rd_new4 w a b c d _) (by simp)).mono ?_
  rintro e w1 ⟨rfl, rfl⟩
  go_wp2_with fail
  go_ret
  exact ⟨rfl, (Below.refl _ _).alloc (Nat.le_refl _) _⟩
set_option maxHeartbeats 2000000 in
theorem specCanCatch (a b c d : Int) (w : World) :
    Calls Try.prog 33 #[.int .i64 a, .int .i64 b, .int .i64 c, .int .i64 d] w fun e w' => e = .returned (.tuple #[.bool (alB [a, b, c, d] 1 20 && decide (b * c < a * d)), .bool (alB [a, b, c, d] 1 20)]) ∧ Below w.heap.size w w' := by
  cases hv : alB [a, b, c, d] 1 20
  case true =>
    have q := four_bd hv
    have m1 := mul_bd b c 20 20 (by omega) (by omega) (by omega) (by omega)
    have m2 := mul_bd a d 20 20 (by omega) (by omega) (by omega) (by omega)
    clear q
    by_cases h : b * c < a * d
    all_goals
      go_enter Try.func33, Try.ntmps33
      go_wp2_with (first | (go_at_call 48; refine (doLeaps_any _ _ _ _ _).mono ?_; rintro e w1 ⟨rfl, hb⟩; have hc := (bcell hb).1; have hf := (bcell hb).2; have hz : w.heap.size ≤ w1.heap.size := (by have := hb.size; (try simp at this); omega)) | go_in)
      all_goals (go_ret2; refine ⟨rBB ?_ ?_, ?_⟩)
      all_goals first | (simp [h]; done) | (repeat (first | exact Below.refl _ _ | refine Below.drew ?_ | refine below_drewN ?_ _ | refine Below.setCell ?_ (by first | omega | (simp; done) | (simp; omega)) _ | refine Below.alloc ?_ (by first | omega | (simp; done) | (simp; omega)) _ | refine bchain ?_ (by assumption) (by first | omega | (simp; done) | (simp; omega))))
  case false =>
    go_enter Try.func33, Try.ntmps33
    go_wp2_with (first | (go_at_call 48; refine (doLeaps_any _ _ _ _ _).mono ?_; rintro e w1 ⟨rfl, hb⟩; have hc := (bcell hb).1; have hf := (bcell hb).2; have hz : w.heap.size ≤ w1.heap.size := (by have := hb.size; (try simp at this); omega)) | go_in)
    all_goals (go_ret2; refine ⟨rBB ?_ ?_, ?_⟩)
    all_goals first | (simp; done) | (repeat (first | exact Below.refl _ _ | refine Below.drew ?_ | refine below_drewN ?_ _ | refine Below.setCell ?_ (by first | omega | (simp; done) | (simp; omega)) _ | refine Below.alloc ?_ (by first | omega | (simp; done) | (simp; omega)) _ | refine bchain ?_ (by assumption) (by first | omega | (simp; done) | (simp; omega))))
set_option maxHeartbeats 2000000 in
theorem specCatchSpeed (a t h : Int) (w : World) :
    Calls Try.prog 31 #[.int .i64 a, .int .i64 t, .int .i64 h] w fun e w' => e = .returned (.tuple #[.int .i64 (ifI (csOk a t h) (lwN (a + h * t) t)), .int .i64 (ifI (csOk a t h) (lwD (a + h * t) t)), .bool (csOk a t h)]) ∧ Below w.heap.size w w' := by
  cases h1 : inB a 1 1000 <;> cases h2 : inB t 1 1000 <;> cases h3 : inB h 0 20
  case true.true.true =>
    have k1 := inB_iff.1 h1
    have k2 := inB_iff.1 h2
    have k3 := inB_iff.1 h3
    have m1 := mul_bd h t 20 1000 (by omega) (by omega) (by omega) (by omega)
    go_enter Try.func31, Try.ntmps31
    go_wp2_with (first | (go_at_call 47; refine (specIn _ _ _ _).mono ?_; rintro e w1 ⟨rfl, rfl⟩) | (go_at_call 39; refine (meLow_pos (a + h * t) (t) (by omega) (by omega) (by omega) (by omega) _).mono ?_; rintro e w1 ⟨rfl, hb⟩; have hc := (bcell hb).1; have hf := (bcell hb).2; have hz : w.heap.size ≤ w1.heap.size := (by have := hb.size; (try simp at this); omega)) | go_in)
    all_goals try ((go_quiet (fail)); go_wp2_with (first | (go_at_call 47; refine (specIn _ _ _ _).mono ?_; rintro e w1 ⟨rfl, rfl⟩) | (go_at_call 39; refine (meLow_pos (a + h * t) (t) (by omega) (by omega) (by omega) (by omega) _).mono ?_; rintro e w1 ⟨rfl, hb⟩; have hc := (bcell hb).1; have hf := (bcell hb).2; have hz : w.heap.size ≤ w1.heap.size := (by have := hb.size; (try simp at this); omega)) | go_in))
    all_goals (go_ret3; refine ⟨rII ?_ ?_ ?_, ?_⟩)
    all_goals first | (simp [csOk, h1, h2, h3, ifI]; done) | (repeat (first | exact Below.refl _ _ | refine Below.drew ?_ | refine below_drewN ?_ _ | refine Below.setCell ?_ (by first | omega | (simp; done) | (simp; omega)) _ | refine Below.alloc ?_ (by first | omega | (simp; done) | (simp; omega)) _ | refine bchain ?_ (by assumption) (by first | omega | (simp; done) | (simp; omega))))
  all_goals
    go_enter Try.func31, Try.ntmps31
    go_wp2_with (first | (go_at_call 47; refine (specIn _ _ _ _).mono ?_; rintro e w1 ⟨rfl, rfl⟩) | go_in)
    all_goals (go_ret3; refine ⟨rII ?_ ?_ ?_, ?_⟩)
    all_goals first | (simp [csOk, h1, h2, h3, ifI]; done) | (repeat (first | exact Below.refl _ _ | refine Below.drew ?_ | refine below_drewN ?_ _ | refine Below.setCell ?_ (by first | omega | (simp; done) | (simp; omega)) _ | refine Below.alloc ?_ (by first | omega | (simp; done) | (simp; omega)) _ | refine bchain ?_ (by assumption) (by first | omega | (simp; done) | (simp; omega))))
set_option maxHeartbeats 2000000 in
theorem specTurnChase (a l r g : Int) (w : World) :
    Calls Try.prog 24 #[.agg #[.int .i64 a, .int .i64 l, .int .i64 r, .int .i64 g]] w fun e w' => e = .returned (.tuple #[.agg #[.int .i64 (ifI (chOk a l r g) a), .int .i64 (ifI (chOk a l r g) r), .int .i64 (ifI (chOk a l r g) l), .int .i64 (ifI (chOk a l r g) g)], .bool (chOk a l r g)]) ∧ Below w.heap.size w w' := by
  cases hv : chOk a l r g
  case false =>
    go_enter Try.func24, Try.ntmps24
    go_wp2_with (first | (go_at_call 35; refine (doGood_any _ _ _ _ _).mono ?_; rintro e w1 ⟨rfl, hb⟩; have hc := (bcell hb).1; have hf := (bcell hb).2; have hz : w.heap.size ≤ w1.heap.size := (by have := hb.size; (try simp at this); omega); have hz0 : w.heap.size < w1.heap.size := (by have := hb.size; (try simp at this); omega); have hcA0 := fun o => (bcell hb).1 (w.heap.size) o (by first | omega | (simp; omega) | (simp; done)); have hfA0 := fun o => (bcell hb).2 (w.heap.size) o (by first | omega | (simp; omega) | (simp; done)); have hz1 : w.heap.size + 1 < w1.heap.size := (by have := hb.size; (try simp at this); omega); have hcA1 := fun o => (bcell hb).1 (w.heap.size + 1) o (by first | omega | (simp; omega) | (simp; done)); have hfA1 := fun o => (bcell hb).2 (w.heap.size + 1) o (by first | omega | (simp; omega) | (simp; done))) | go_in)
    refine bodyPost_ret (v := .tuple #[.agg #[.int .i64 0, .int .i64 0, .int .i64 0, .int .i64 0], .bool false]) (by have e0 : (w1.cell? ⟨w.heap.size + 1, 0, none⟩).isSome = true := (by first | (rw [hcA1]; go_simp; done) | (go_simp; done)); have e1 : (w1.cell? ⟨w.heap.size + 1, 1, none⟩).isSome = true := (by first | (rw [hcA1]; go_simp; done) | (go_simp; done)); have e2 : (w1.cell? ⟨w.heap.size + 1, 2, none⟩).isSome = true := (by first | (rw [hcA1]; go_simp; done) | (go_simp; done)); have e3 : (w1.cell? ⟨w.heap.size + 1, 3, none⟩).isSome = true := (by first | (rw [hcA1]; go_simp; done) | (go_simp; done)); clear hcA0 hfA0 hcA1 hfA1; simp [results, Try.results24, go_sem, e0, e1, e2, e3]; done) rfl ⟨?_, ?_⟩
    all_goals first | (simp [hv, ifI]; done) | (repeat (first | exact Below.refl _ _ | refine Below.drew ?_ | refine below_drewN ?_ _ | refine Below.setCell ?_ (by first | omega | (simp; done) | (simp; omega)) _ | refine Below.alloc ?_ (by first | omega | (simp; done) | (simp; omega)) _ | refine bchain ?_ (by assumption) (by first | omega | (simp; done) | (simp; omega))))
  case true =>
    go_enter Try.func24, Try.ntmps24
    go_wp2_with (first | (go_at_call 35; refine (doGood_any _ _ _ _ _).mono ?_; rintro e w1 ⟨rfl, hb⟩; have hc := (bcell hb).1; have hf := (bcell hb).2; have hz : w.heap.size ≤ w1.heap.size := (by have := hb.size; (try simp at this); omega); have hz0 : w.heap.size < w1.heap.size := (by have := hb.size; (try simp at this); omega); have hcA0 := fun o => (bcell hb).1 (w.heap.size) o (by first | omega | (simp; omega) | (simp; done)); have hfA0 := fun o => (bcell hb).2 (w.heap.size) o (by first | omega | (simp; omega) | (simp; done)); have hz1 : w.heap.size + 1 < w1.heap.size := (by have := hb.size; (try simp at this); omega); have hcA1 := fun o => (bcell hb).1 (w.heap.size + 1) o (by first | omega | (simp; omega) | (simp; done)); have hfA1 := fun o => (bcell hb).2 (w.heap.size + 1) o (by first | omega | (simp; omega) | (simp; done))) | go_in)
    refine bodyPost_ret (v := .tuple #[.agg #[.int .i64 a, .int .i64 r, .int .i64 l, .int .i64 g], .bool true]) (by have e0 : (w1.cell? ⟨w.heap.size + 1, 0, none⟩).isSome = true := (by first | (rw [hcA1]; go_simp; done) | (go_simp; done)); have e1 : (w1.cell? ⟨w.heap.size + 1, 1, none⟩).isSome = true := (by first | (rw [hcA1]; go_simp; done) | (go_simp; done)); have e2 : (w1.cell? ⟨w.heap.size + 1, 2, none⟩).isSome = true := (by first | (rw [hcA1]; go_simp; done) | (go_simp; done)); have e3 : (w1.cell? ⟨w.heap.size + 1, 3, none⟩).isSome = true := (by first | (rw [hcA1]; go_simp; done) | (go_simp; done)); clear hcA0 hfA0 hcA1 hfA1; simp [results, Try.results24, go_sem, e0, e1, e2, e3]; done) rfl ⟨?_, ?_⟩
    all_goals first | (simp [hv, ifI]; done) | (repeat (first | exact Below.refl _ _ | refine Below.drew ?_ | refine below_drewN ?_ _ | refine Below.setCell ?_ (by first | omega | (simp; done) | (simp; omega)) _ | refine Below.alloc ?_ (by first | omega | (simp; done) | (simp; omega)) _ | refine bchain ?_ (by assumption) (by first | omega | (simp; done) | (simp; omega))))
set_option maxHeartbeats 2000000 in
theorem doTime_any (a l r g n d : Int) (hv : chOk a l r g = true) (w : World) :
    Calls Try.prog 44 #[.agg #[.int .i64 a, .int .i64 l, .int .i64 r, .int .i64 g], .int .i64 n, .int .i64 d] w fun e w' => e = .returned (.bool (dtB a l r n d)) ∧ Below w.heap.size w w' := by
  have b1 := (chOk_iff.1 hv).1
  have b2 := (chOk_iff.1 hv).2.1
  have b3 := (chOk_iff.1 hv).2.2.1
  have b4 := (chOk_iff.1 hv).2.2.2.1
  have b5 := (chOk_iff.1 hv).2.2.2.2.1
  have b6 := (chOk_iff.1 hv).2.2.2.2.2.1
  have b7 := (chOk_iff.1 hv).2.2.2.2.2.2.1
  have b8 := (chOk_iff.1 hv).2.2.2.2.2.2.2.1
  have b9 := (chOk_iff.1 hv).2.2.2.2.2.2.2.2.1
  have b0 := (chOk_iff.1 hv).2.2.2.2.2.2.2.2.2
  cases h1 : inB n 0 1000 <;> cases h2 : inB d 1 100
  case true.true =>
    have k1 := inB_iff.1 h1
    have k2 := inB_iff.1 h2
    have m1 := mul_bd n (l + r) 1000 40 (by omega) (by omega) (by omega) (by omega)
    have m2 := mul_bd a d 1000 100 (by omega) (by omega) (by omega) (by omega)
    have u1 : IntKind.i64.wrap (l + r) = l + r := IntWalk.i64_in _ (by omega)
    have u2 : IntKind.i64.wrap (n * (l + r)) = n * (l + r) := IntWalk.i64_in _ (by omega)
    have u3 : IntKind.i64.wrap (a * d) = a * d := IntWalk.i64_in _ (by omega)
    go_enter Try.func44, Try.ntmps44
    go_wp2_with (first | (go_at_call_of 47 (Value.int .i64 n); refine (specIn_val h1 _).mono ?_; rintro e w1 ⟨rfl, rfl⟩) | (go_at_call_of 47 (Value.int .i64 d); refine (specIn_val h2 _).mono ?_; rintro e w1 ⟨rfl, rfl⟩))
    all_goals try (go_quiet (fail); go_wp2_with fail)
    all_goals (go_ret; refine ⟨rB ?_, ?_⟩)
    all_goals first | (simp [dtB, h1, h2]; done) | (repeat (first | exact Below.refl _ _ | refine Below.drew ?_ | refine below_drewN ?_ _ | refine Below.setCell ?_ (by first | omega | (simp; done) | (simp; omega)) _ | refine Below.alloc ?_ (by first | omega | (simp; done) | (simp; omega)) _ | refine bchain ?_ (by assumption) (by first | omega | (simp; done) | (simp; omega))))
  all_goals
    go_enter Try.func44, Try.ntmps44
    go_wp2_with (first | (go_at_call_of 47 (Value.int .i64 n); refine (specIn_val h1 _).mono ?_; rintro e w1 ⟨rfl, rfl⟩) | (go_at_call_of 47 (Value.int .i64 d); refine (specIn_val h2 _).mono ?_; rintro e w1 ⟨rfl, rfl⟩))
    all_goals try (go_quiet (fail); go_wp2_with fail)
    all_goals (go_ret; refine ⟨rB ?_, ?_⟩)
    all_goals first | (simp [dtB, h1, h2]; done) | (repeat (first | exact Below.refl _ _ | refine Below.drew ?_ | refine below_drewN ?_ _ | refine Below.setCell ?_ (by first | omega | (simp; done) | (simp; omega)) _ | refine Below.alloc ?_ (by first | omega | (simp; done) | (simp; omega)) _ | refine bchain ?_ (by assumption) (by first | omega | (simp; done) | (simp; omega))))
set_option maxHeartbeats 2000000 in
theorem specSlowestDog (a l r g n d : Int) (w : World) :
    Calls Try.prog 27 #[.agg #[.int .i64 a, .int .i64 l, .int .i64 r, .int .i64 g], .int .i64 n, .int .i64 d] w fun e w' => e = .returned (.tuple #[.int .i64 (ifI (chOk a l r g && dtB a l r n d) (sdV a r n d (sdS l r) (mx l r + 1))), .bool (chOk a l r g && dtB a l r n d && sdK a r n d (sdS l r) (mx l r + 1))]) ∧ Below w.heap.size w w' := by
  cases hv : chOk a l r g
  case false =>
    go_enter Try.func27, Try.ntmps27
    go_wp2_with (first | (go_at_call 35; refine (doGood_any _ _ _ _ _).mono ?_; rintro e w1 ⟨rfl, hb⟩; have hc := (bcell hb).1; have hf := (bcell hb).2; have hz : w.heap.size ≤ w1.heap.size := (by have := hb.size; (try simp at this); omega); have hz0 : w.heap.size < w1.heap.size := (by have := hb.size; (try simp at this); omega); have hcA0 := fun o => (bcell hb).1 (w.heap.size) o (by first | omega | (simp; omega) | (simp; done)); have hfA0 := fun o => (bcell hb).2 (w.heap.size) o (by first | omega | (simp; omega) | (simp; done))) | go_in)
    all_goals (go_ret2; refine ⟨rIB ?_ ?_, ?_⟩)
    all_goals first | (simp [hv, ifI]; done) | (repeat (first | exact Below.refl _ _ | refine Below.drew ?_ | refine below_drewN ?_ _ | refine Below.setCell ?_ (by first | omega | (simp; done) | (simp; omega)) _ | refine Below.alloc ?_ (by first | omega | (simp; done) | (simp; omega)) _ | refine bchain ?_ (by assumption) (by first | omega | (simp; done) | (simp; omega))))
  case true =>
    have b1 := (chOk_iff.1 hv).1
    have b2 := (chOk_iff.1 hv).2.1
    have b3 := (chOk_iff.1 hv).2.2.1
    have b4 := (chOk_iff.1 hv).2.2.2.1
    have b5 := (chOk_iff.1 hv).2.2.2.2.1
    have b6 := (chOk_iff.1 hv).2.2.2.2.2.1
    have b7 := (chOk_iff.1 hv).2.2.2.2.2.2.1
    have b8 := (chOk_iff.1 hv).2.2.2.2.2.2.2.1
    have b9 := (chOk_iff.1 hv).2.2.2.2.2.2.2.2.1
    have b0 := (chOk_iff.1 hv).2.2.2.2.2.2.2.2.2
    cases ht : dtB a l r n d
    case false =>
      go_enter Try.func27, Try.ntmps27
      go_wp2_with (first | (go_at_call 35; refine (doGood_any _ _ _ _ _).mono ?_; rintro e w1 ⟨rfl, hb⟩; have hc := (bcell hb).1; have hf := (bcell hb).2; have hz : w.heap.size ≤ w1.heap.size := (by have := hb.size; (try simp at this); omega); have hz0 : w.heap.size < w1.heap.size := (by have := hb.size; (try simp at this); omega); have hcA0 := fun o => (bcell hb).1 (w.heap.size) o (by first | omega | (simp; omega) | (simp; done)); have hfA0 := fun o => (bcell hb).2 (w.heap.size) o (by first | omega | (simp; omega) | (simp; done))) | (go_at_call 44; refine (doTime_any _ _ _ _ _ _ hv _).mono ?_; rintro e w1 ⟨rfl, hb⟩; have hc := (bcell hb).1; have hf := (bcell hb).2; have hz : w.heap.size ≤ w1.heap.size := (by have := hb.size; (try simp at this); omega); have hz0 : w.heap.size < w1.heap.size := (by have := hb.size; (try simp at this); omega); have hcA0 := fun o => (bcell hb).1 (w.heap.size) o (by first | omega | (simp; omega) | (simp; done)); have hfA0 := fun o => (bcell hb).2 (w.heap.size) o (by first | omega | (simp; omega) | (simp; done))) | go_in)
      all_goals (go_ret2; refine ⟨rIB ?_ ?_, ?_⟩)
      all_goals first | (simp [hv, ht, ifI]; done) | (repeat (first | exact Below.refl _ _ | refine Below.drew ?_ | refine below_drewN ?_ _ | refine Below.setCell ?_ (by first | omega | (simp; done) | (simp; omega)) _ | refine Below.alloc ?_ (by first | omega | (simp; done) | (simp; omega)) _ | refine bchain ?_ (by assumption) (by first | omega | (simp; done) | (simp; omega))))
    case true =>
      have t1 := (dtB_iff.1 ht).1
      have t2 := (dtB_iff.1 ht).2.1
      have t3 := (dtB_iff.1 ht).2.2.1
      have t4 := (dtB_iff.1 ht).2.2.2.1
      have k3 := mx_bd l r
      have m2 := mul_bd a d 1000 100 (by omega) (by omega) (by omega) (by omega)
      go_enter Try.func27, Try.ntmps27
      go_wp2_with (first | (go_at_call 35; refine (doGood_any _ _ _ _ _).mono ?_; rintro e w1 ⟨rfl, hb⟩; have hc := (bcell hb).1; have hf := (bcell hb).2; have hz : w.heap.size ≤ w1.heap.size := (by have := hb.size; (try simp at this); omega); have hz0 : w.heap.size < w1.heap.size := (by have := hb.size; (try simp at this); omega); have hcA0 := fun o => (bcell hb).1 (w.heap.size) o (by first | omega | (simp; omega) | (simp; done)); have hfA0 := fun o => (bcell hb).2 (w.heap.size) o (by first | omega | (simp; omega) | (simp; done))) | (go_at_call 44; refine (doTime_any _ _ _ _ _ _ hv _).mono ?_; rintro e w1 ⟨rfl, hb⟩; have hc := (bcell hb).1; have hf := (bcell hb).2; have hz : w.heap.size ≤ w1.heap.size := (by have := hb.size; (try simp at this); omega); have hz0 : w.heap.size < w1.heap.size := (by have := hb.size; (try simp at this); omega); have hcA0 := fun o => (bcell hb).1 (w.heap.size) o (by first | omega | (simp; omega) | (simp; done)); have hfA0 := fun o => (bcell hb).2 (w.heap.size) o (by first | omega | (simp; omega) | (simp; done))) | (go_at_call 45; refine (mostx_any _ _ _).mono ?_; rintro e w1 ⟨rfl, rfl⟩) | go_in)
      go_loopg [8] (sdS l r) (fun k v wr => ∃ x : Int, v = .int .i64 x ∧ x + (k : Int) = 21 ∧ mx l r < x ∧ Hid (sdK a r n d k x = sdK a r n d (sdS l r) (mx l r + 1)) ∧ Hid (sdV a r n d k x = sdV a r n d (sdS l r) (mx l r + 1)) ∧ Below w.heap.size w wr ∧ w.heap.size < wr.heap.size ∧ wr.cell? ⟨w.heap.size, 0, none⟩ = some (.int .i64 a) ∧ wr.cell? ⟨w.heap.size, 2, none⟩ = some (.int .i64 r))
      case atStart => exact ⟨mx l r + 1, by go_num, by unfold sdS; omega, by omega, rfl, rfl, by first | assumption | (repeat (first | exact Below.refl _ _ | refine Below.drew ?_ | refine below_drewN ?_ _ | refine Below.setCell ?_ (by first | omega | (simp; done) | (simp; omega)) _ | refine Below.alloc ?_ (by first | omega | (simp; done) | (simp; omega)) _ | refine bchain ?_ (by assumption) (by first | omega | (simp; done) | (simp; omega)))), by first | omega | (simp; omega) | (simp; done), by first | go_simp | assumption, by first | go_simp | assumption⟩
      case round =>
        obtain ⟨x, rfl, q1, q2, HK, HV, hbel, hlt, hcA, hcR⟩ := hrel
        have HB := Lib.hid hbel
        clear hbel
        by_cases hx : x ≤ 20
        · obtain ⟨k, rfl⟩ : ∃ k, gk = k + 1 := ⟨gk - 1, by omega⟩
          have m3 := mul_bd n (x + r) 1000 40 (by omega) (by omega) (by omega) (by omega)
          cases hs : sdB a r n d x
          · have HK2 := Lib.hid ((sd_no (k := k) hs).1.symm.trans HK.out)
            have HV2 := Lib.hid ((sd_no (k := k) hs).2.symm.trans HV.out)
            have hs2 : ¬ (a * d ≤ n * (x + r)) := by have q := of_decide_eq_false hs; rw [Int.mul_comm (x + r) n] at q; exact q
            clear HK HV hs
            go_wp2_with fail
            first | done | skip
            go_roundg k
            case rel => exact ⟨x + 1, by go_num, by omega, by omega, HK2.out, HV2.out, HB.out, hlt, hcA, hcR⟩
            case measure => omega
          · have HK2 := Lib.hid ((sd_yes (k := k) hs).1.symm.trans HK.out)
            have HV2 := Lib.hid ((sd_yes (k := k) hs).2.symm.trans HV.out)
            have hs2 : a * d ≤ n * (x + r) := by have q := of_decide_eq_true hs; rw [Int.mul_comm (x + r) n] at q; exact q
            clear HK HV hs
            go_wp2_with fail
            go_ret2
            refine ⟨rIB ?_ ?_, HB.out⟩
            · simp [hv, ht, ifI]; exact HV2.out
            · simp [hv, ht]; exact HK2.out.symm
        · obtain rfl : gk = 0 := by omega
          have HK2 := Lib.hid (HK.out.symm)
          have HV2 := Lib.hid (HV.out.symm)
          clear HK HV
          go_wp2_with fail
          go_ret2
          refine ⟨rIB ?_ ?_, HB.out⟩
          · simp [hv, ht, ifI]; rw [HV2.out]; rfl
          · simp [hv, ht]; rw [HK2.out]; rfl
set_option maxHeartbeats 2000000 in
theorem specCatchLeaps (h a b c d : Int) (w : World) :
    Calls Try.prog 29 #[.int .i64 h, .int .i64 a, .int .i64 b, .int .i64 c, .int .i64 d] w fun e w' => e = .returned (.tuple #[.int .i64 (ifI (clB h a b c d) (clV h a b c d)), .bool (clB h a b c d)]) ∧ Below w.heap.size w w' := by
  cases h1 : inB h 1 1000 <;> cases hv : alB [a, b, c, d] 1 20
  case true.true =>
    have q := four_bd hv
    have k1 := inB_iff.1 h1
    have m1 := mul_bd b c 20 20 (by omega) (by omega) (by omega) (by omega)
    have m2 := mul_bd a d 20 20 (by omega) (by omega) (by omega) (by omega)
    have m3 := mul_bd a c 20 20 (by omega) (by omega) (by omega) (by omega)
    have m4 := mul_bd h (a * c) 1000 400 (by omega) (by omega) (by omega) (by omega)
    clear q
    cases hq : decide (b * c < a * d)
    case true =>
      have hq2 : b * c < a * d := of_decide_eq_true hq
      have z1 : ¬ (a * d - b * c = 0) := by omega
      have z2 : ¬ (a * d - b * c = -1) := by omega
      have z3 : (a * d - b * c == 0) = false := by rw [beq_eq_false_iff_ne]; exact z1
      have t := tdiv_abs (h * (a * c) + (a * d - b * c) - 1) (a * d - b * c) (by omega)
      have t2 := ab_le (x := h * (a * c) + (a * d - b * c) - 1) (B := 1000000) (by omega) (by omega)
      go_enter Try.func29, Try.ntmps29
      go_wp2_with (first | (go_at_call 47; refine (specIn _ _ _ _).mono ?_; rintro e w1 ⟨rfl, rfl⟩) | (go_at_call 48; refine (doLeaps_any _ _ _ _ _).mono ?_; rintro e w1 ⟨rfl, hb⟩; have hc := (bcell hb).1; have hf := (bcell hb).2; have hz : w.heap.size ≤ w1.heap.size := (by have := hb.size; (try simp at this); omega)) | go_in)
      all_goals try (go_quiet (fail); go_wp2_with fail)
      all_goals (go_ret2; refine ⟨rIB ?_ ?_, ?_⟩)
      all_goals first | (simp [clB, clV, h1, hv, hq, ifI]; done) | (repeat (first | exact Below.refl _ _ | refine Below.drew ?_ | refine below_drewN ?_ _ | refine Below.setCell ?_ (by first | omega | (simp; done) | (simp; omega)) _ | refine Below.alloc ?_ (by first | omega | (simp; done) | (simp; omega)) _ | refine bchain ?_ (by assumption) (by first | omega | (simp; done) | (simp; omega))))
    case false =>
      have hq2 : a * d ≤ b * c := by have := of_decide_eq_false hq; omega
      go_enter Try.func29, Try.ntmps29
      go_wp2_with (first | (go_at_call 47; refine (specIn _ _ _ _).mono ?_; rintro e w1 ⟨rfl, rfl⟩) | (go_at_call 48; refine (doLeaps_any _ _ _ _ _).mono ?_; rintro e w1 ⟨rfl, hb⟩; have hc := (bcell hb).1; have hf := (bcell hb).2; have hz : w.heap.size ≤ w1.heap.size := (by have := hb.size; (try simp at this); omega)) | go_in)
      all_goals (go_ret2; refine ⟨rIB ?_ ?_, ?_⟩)
      all_goals first | (simp [clB, clV, h1, hv, hq, ifI]; done) | (repeat (first | exact Below.refl _ _ | refine Below.drew ?_ | refine below_drewN ?_ _ | refine Below.setCell ?_ (by first | omega | (simp; done) | (simp; omega)) _ | refine Below.alloc ?_ (by first | omega | (simp; done) | (simp; omega)) _ | refine bchain ?_ (by assumption) (by first | omega | (simp; done) | (simp; omega))))
  all_goals
    go_enter Try.func29, Try.ntmps29
    go_wp2_with (first | (go_at_call 47; refine (specIn _ _ _ _).mono ?_; rintro e w1 ⟨rfl, rfl⟩) | (go_at_call 48; refine (doLeaps_any _ _ _ _ _).mono ?_; rintro e w1 ⟨rfl, hb⟩; have hc := (bcell hb).1; have hf := (bcell hb).2; have hz : w.heap.size ≤ w1.heap.size := (by have := hb.size; (try simp at this); omega)) | go_in)
    all_goals (go_ret2; refine ⟨rIB ?_ ?_, ?_⟩)
    all_goals first | (simp [clB, clV, h1, hv, ifI]; done) | (repeat (first | exact Below.refl _ _ | refine Below.drew ?_ | refine below_drewN ?_ _ | refine Below.setCell ?_ (by first | omega | (simp; done) | (simp; omega)) _ | refine Below.alloc ?_ (by first | omega | (simp; done) | (simp; omega)) _ | refine bchain ?_ (by assumption) (by first | omega | (simp; done) | (simp; omega))))
end Go.Proofs.Ytchpdmcfnpcfeaa
