/- Contracts of chapter 4's functions on a chase and numbers, the program's, over one translation. -/
import Derived.Test.YtchpdmcfnpcfeaaProg
import Derived.Test.YtchpdmcfnpcfeaaDogMath
import Derived.Test.YtchpdmcfnpcfeaaDogImpl
import Derived.Test.YtchpdmcfnpcfeaaSlices
import Derived.Deep.LoopGhost
import Derived.WalkKit
import Derived.WalkSpells
import Derived.WalkLawsBesides
import Derived.Lib.Hide
import Derived.Deep.RegionWith
import Derived.Deep.RegionHeld3
import Derived.Deep.QuietTactic
import Derived.BigQuiet
namespace Go.Proofs.Ytchpdmcfnpcfeaa
open Go.RowKit
set_option linter.unusedVariables false
set_option linter.unusedSimpArgs false
set_option maxHeartbeats 40000000 in
theorem implRatioOfTurns (a l r g : Int) (w : World) :
    Calls Try.prog 23 #[.agg #[.int .i64 a, .int .i64 l, .int .i64 r, .int .i64 g]] w fun e w' => e = .returned (.tuple #[.int .i64 (ifI (chOk a l r g) (lwN (g - l) (g + r))), .int .i64 (ifI (chOk a l r g) (lwD (g - l) (g + r))), .int .i64 (ifI (chOk a l r g) (lwN (g - r) (g + l))), .int .i64 (ifI (chOk a l r g) (lwD (g - r) (g + l))), .bool (chOk a l r g)]) ∧ Below w.heap.size w w' := by
  cases hv : chOk a l r g
  case true =>
    have b1 := (chOk_iff.1 hv).1
    have b2 := (chOk_iff.1 hv).2.1
    have b3 := (chOk_iff.1 hv).2.2.1
    have b4 := (chOk_iff.1 hv).2.2.2.1
    have b5 := (chOk_iff.1 hv).2.2.2.2.1
    have b6 := (chOk_iff.1 hv).2.2.2.2.2.1
    have b7 := (chOk_iff.1 hv).2.2.2.2.2.2.1
    have b8 := (chOk_iff.1 hv).2.2.2.2.2.2.2.1
    have b9 := (chOk_iff.1 hv).2.2.2.2.2.2.2.2.1
    have b0 := (chOk_iff.1 hv).2.2.2.2.2.2.2.2.2
    go_enter Try.func23, Try.ntmps23
    go_wp2_with (first | (go_at_call 15; refine (implIsChase _ _ _ _ _).mono ?_; rintro e wi ⟨rfl, hbi⟩; have hzi : w.heap.size < wi.heap.size := (by have := hbi.size; (try simp at this); omega); have hcI := fun o => (bcell hbi).1 w.heap.size o (by first | omega | (simp; omega) | (simp; done)); have hfI := fun o => (bcell hbi).2 w.heap.size o (by first | omega | (simp; omega) | (simp; done))) | go_in)
    all_goals go_region_held3 (fun w' => Below w.heap.size w w' ∧ w.heap.size < w'.heap.size ∧ w'.cell? ⟨w.heap.size, 0, none⟩ = some (.int .i64 a) ∧ w'.cell? ⟨w.heap.size, 1, none⟩ = some (.int .i64 l) ∧ w'.cell? ⟨w.heap.size, 2, none⟩ = some (.int .i64 r) ∧ w'.cell? ⟨w.heap.size, 3, none⟩ = some (.int .i64 g))
      (refine ⟨?_, ?_, ?_, ?_, ?_, ?_⟩ <;> first | assumption | omega | (simp only [World.size_alloc, World.size_drew, World.size_setCell]; omega) | (go_simp; done) | (repeat (first | exact Below.refl _ _ | refine Below.drew ?_ | refine below_drewN ?_ _ | refine Below.setCell ?_ (by first | omega | (simp; done) | (simp; omega)) _ | refine Below.alloc ?_ (by first | omega | (simp; done) | (simp; omega)) _ | refine bchain ?_ (by assumption) (by first | omega | (simp; done) | (simp; omega)))))
      (first | (have _p := hb2; go_at_call 42; refine (partLeft_any a r l g (by omega) (by omega) (by omega) (by omega) (by omega) (by omega) _).mono ?_; rintro e x3 ⟨rfl, hb3⟩; have hz3 := hb3.size; have hc3 := (bcell hb3).1; have hf3 := (bcell hb3).2; (try simp only [World.size_alloc, World.size_drew] at hz3 hc3 hf3); have hw3 : w.heap.size < x3.heap.size := (by omega); have hcA3 := fun o => hc3 w.heap.size o (by omega); have hfA3 := fun o => hf3 w.heap.size o (by omega); (try (have hlwi03 : wi.heap.size < _ := (by omega : wi.heap.size < x3.heap.size); have hcwi03 := fun o => hc3 (wi.heap.size) o (by omega); have hfwi03 := fun o => hf3 (wi.heap.size) o (by omega))); (try (have hlwi13 : wi.heap.size + 1 < _ := (by omega : wi.heap.size + 1 < x3.heap.size); have hcwi13 := fun o => hc3 (wi.heap.size + 1) o (by omega); have hfwi13 := fun o => hf3 (wi.heap.size + 1) o (by omega))); (try (have hlx103 : x1.heap.size < _ := (by omega : x1.heap.size < x3.heap.size); have hcx103 := fun o => hc3 (x1.heap.size) o (by omega); have hfx103 := fun o => hf3 (x1.heap.size) o (by omega))); (try (have hlx113 : x1.heap.size + 1 < _ := (by omega : x1.heap.size + 1 < x3.heap.size); have hcx113 := fun o => hc3 (x1.heap.size + 1) o (by omega); have hfx113 := fun o => hf3 (x1.heap.size + 1) o (by omega))); (try (have hlx203 : x2.heap.size < _ := (by omega : x2.heap.size < x3.heap.size); have hcx203 := fun o => hc3 (x2.heap.size) o (by omega); have hfx203 := fun o => hf3 (x2.heap.size) o (by omega))); (try (have hlx213 : x2.heap.size + 1 < _ := (by omega : x2.heap.size + 1 < x3.heap.size); have hcx213 := fun o => hc3 (x2.heap.size + 1) o (by omega); have hfx213 := fun o => hf3 (x2.heap.size + 1) o (by omega)))) | (have _p := hb1; go_at_call 43; refine (exchanged_any _ _ _ _ _).mono ?_; rintro e x2 ⟨rfl, hb2⟩; have hz2 := hb2.size; have hc2 := (bcell hb2).1; have hf2 := (bcell hb2).2; (try simp only [World.size_alloc, World.size_drew] at hz2 hc2 hf2); have hw2 : w.heap.size < x2.heap.size := (by omega); have hcA2 := fun o => hc2 w.heap.size o (by omega); have hfA2 := fun o => hf2 w.heap.size o (by omega); (try (have hlwi02 : wi.heap.size < _ := (by omega : wi.heap.size < x2.heap.size); have hcwi02 := fun o => hc2 (wi.heap.size) o (by omega); have hfwi02 := fun o => hf2 (wi.heap.size) o (by omega))); (try (have hlwi12 : wi.heap.size + 1 < _ := (by omega : wi.heap.size + 1 < x2.heap.size); have hcwi12 := fun o => hc2 (wi.heap.size + 1) o (by omega); have hfwi12 := fun o => hf2 (wi.heap.size + 1) o (by omega))); (try (have hlx102 : x1.heap.size < _ := (by omega : x1.heap.size < x2.heap.size); have hcx102 := fun o => hc2 (x1.heap.size) o (by omega); have hfx102 := fun o => hf2 (x1.heap.size) o (by omega))); (try (have hlx112 : x1.heap.size + 1 < _ := (by omega : x1.heap.size + 1 < x2.heap.size); have hcx112 := fun o => hc2 (x1.heap.size + 1) o (by omega); have hfx112 := fun o => hf2 (x1.heap.size + 1) o (by omega)))) | (go_at_call 42; refine (partLeft_any a l r g (by omega) (by omega) (by omega) (by omega) (by omega) (by omega) _).mono ?_; rintro e x1 ⟨rfl, hb1⟩; have hz1 := hb1.size; have hc1 := (bcell hb1).1; have hf1 := (bcell hb1).2; (try simp only [World.size_alloc, World.size_drew] at hz1 hc1 hf1); have hw1 : w.heap.size < x1.heap.size := (by omega); have hcA1 := fun o => hc1 w.heap.size o (by omega); have hfA1 := fun o => hf1 w.heap.size o (by omega); (try (have hlwi01 : wi.heap.size < _ := (by omega : wi.heap.size < x1.heap.size); have hcwi01 := fun o => hc1 (wi.heap.size) o (by omega); have hfwi01 := fun o => hf1 (wi.heap.size) o (by omega))); (try (have hlwi11 : wi.heap.size + 1 < _ := (by omega : wi.heap.size + 1 < x1.heap.size); have hcwi11 := fun o => hc1 (wi.heap.size + 1) o (by omega); have hfwi11 := fun o => hf1 (wi.heap.size + 1) o (by omega)))))
    all_goals go_wp2_with fail
    all_goals try (go_quiet (fail); go_wp2_with fail)
    all_goals (((try simp only [Exit.inBlock, Exit.then]); refine bodyPost_ret (results_tmp5 rfl _ _ _) rfl ?_); refine ⟨r5 ?_ ?_ ?_ ?_ ?_, ?_⟩)
    all_goals first | (simp [hv, ifI]; done) | (repeat (first | exact Below.refl _ _ | refine Below.drew ?_ | refine below_drewN ?_ _ | refine Below.setCell ?_ (by first | omega | (simp; done) | (simp; omega)) _ | refine Below.alloc ?_ (by first | omega | (simp; done) | (simp; omega)) _ | refine bchain ?_ (by assumption) (by first | omega | (simp; done) | (simp; omega))))
  all_goals
    go_enter Try.func23, Try.ntmps23
    go_wp2_with (first | (go_at_call 15; refine (implIsChase _ _ _ _ _).mono ?_; rintro e w1 ⟨rfl, hb⟩; have hc := (bcell hb).1; have hf := (bcell hb).2; have hz : w.heap.size ≤ w1.heap.size := (by have := hb.size; (try simp at this); omega); have hz0 : w.heap.size < w1.heap.size := (by have := hb.size; (try simp at this); omega); have hcA0 := fun o => (bcell hb).1 (w.heap.size) o (by first | omega | (simp; omega) | (simp; done)); have hfA0 := fun o => (bcell hb).2 (w.heap.size) o (by first | omega | (simp; omega) | (simp; done))) | go_in)
    all_goals (((try simp only [Exit.inBlock, Exit.then]); refine bodyPost_ret (results_tmp5 rfl _ _ _) rfl ?_); refine ⟨r5 ?_ ?_ ?_ ?_ ?_, ?_⟩)
    all_goals first | (simp [hv, ifI]; done) | (repeat (first | exact Below.refl _ _ | refine Below.drew ?_ | refine below_drewN ?_ _ | refine Below.setCell ?_ (by first | omega | (simp; done) | (simp; omega)) _ | refine Below.alloc ?_ (by first | omega | (simp; done) | (simp; omega)) _ | refine bchain ?_ (by assumption) (by first | omega | (simp; done) | (simp; omega))))
end Go.Proofs.Ytchpdmcfnpcfeaa
