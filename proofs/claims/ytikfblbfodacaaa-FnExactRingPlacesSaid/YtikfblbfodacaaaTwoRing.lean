/- Contracts of chapter 2's functions on numbers and walkers, the program's and the model's, over one translation. -/
import Derived.Test.YtikfblbfodacaaaProg
import Derived.Test.YtikfblbfodacaaaTwoWalks2
import Derived.Test.YtikfblbfodacaaaTwoMathB
import Derived.WalkKit
import Derived.WalkSpells
import Derived.WalkLawsBesides
import Derived.Lib.Hide
import Derived.Deep.RegionWith
import Derived.Deep.RegionHeld3
import Derived.Deep.QuietTactic
import Derived.BigQuiet
namespace Go.Proofs.Ytikfblbfodacaaa
open Go.RowKit
set_option linter.unusedVariables false
set_option linter.unusedSimpArgs false
set_option maxHeartbeats 2000000 in
theorem meAhead_any (m p s q r : Int) (h1 : 1 ≤ m) (h2 : m ≤ 1000) (hv : wkOk p s = true) (hw : wkOk q r = true) (w : World) :
    Calls Try.prog 25 #[.int .i64 m, .agg #[.int .i64 p, .int .i64 s], .agg #[.int .i64 q, .int .i64 r]] w fun e w' => e = .returned (.tuple #[.int .i64 (bm m p s q r), .int .i64 (nrr s r)]) ∧ Below w.heap.size w w' := by
  have p1 := (wkOk_iff.1 hv).1
  have p2 := (wkOk_iff.1 hv).2.1
  have p3 := (wkOk_iff.1 hv).2.2.1
  have p4 := (wkOk_iff.1 hv).2.2.2
  have q1 := (wkOk_iff.1 hw).1
  have q2 := (wkOk_iff.1 hw).2.1
  have q3 := (wkOk_iff.1 hw).2.2.1
  have q4 := (wkOk_iff.1 hw).2.2.2
  by_cases h : s < r
  · have X := Lib.hid (show mo (p - q) m = bm m p s q r ∧ r - s = nrr s r by unfold bm; rw [bhd_lt h, nrr_lt h]; exact ⟨rfl, rfl⟩)
    go_enter Try.func25, Try.ntmps25
    go_wp2_with fail
    have u1 : IntKind.i64.wrap (p - q) = p - q := IntWalk.i64_in _ (by omega)
    have u2 : IntKind.i64.wrap (r - s) = r - s := IntWalk.i64_in _ (by omega)
    go_quiet ((go_at_call 26; exact Calls.quiet_of_same (meMod_any (p - q) m h1 h2 (by omega) (by omega) _)))
    clear u1 u2
    go_wp2_with fail
    go_ret2
    refine ⟨rI2 X.out.1 X.out.2, ?_⟩
    (repeat (first | exact Below.refl _ _ | refine Below.drew ?_ | refine below_drewN ?_ _ | refine Below.setCell ?_ (by first | omega | (simp; done) | (simp; omega)) _ | refine Below.alloc ?_ (by first | omega | (simp; done) | (simp; omega)) _ | refine bchain ?_ (by assumption) (by first | omega | (simp; done) | (simp; omega))))
  · have X := Lib.hid (show mo (q - p) m = bm m p s q r ∧ s - r = nrr s r by unfold bm; rw [bhd_ge h, nrr_ge h]; exact ⟨rfl, rfl⟩)
    go_enter Try.func25, Try.ntmps25
    go_wp2_with fail
    have u1 : IntKind.i64.wrap (q - p) = q - p := IntWalk.i64_in _ (by omega)
    have u2 : IntKind.i64.wrap (s - r) = s - r := IntWalk.i64_in _ (by omega)
    go_quiet ((go_at_call 26; exact Calls.quiet_of_same (meMod_any (q - p) m h1 h2 (by omega) (by omega) _)))
    clear u1 u2
    go_wp2_with fail
    go_ret2
    refine ⟨rI2 X.out.1 X.out.2, ?_⟩
    (repeat (first | exact Below.refl _ _ | refine Below.drew ?_ | refine below_drewN ?_ _ | refine Below.setCell ?_ (by first | omega | (simp; done) | (simp; omega)) _ | refine Below.alloc ?_ (by first | omega | (simp; done) | (simp; omega)) _ | refine bchain ?_ (by assumption) (by first | omega | (simp; done) | (simp; omega))))
set_option maxHeartbeats 2000000 in
theorem rapproach_any (m p s q r : Int) (h1 : 1 ≤ m) (h2 : m ≤ 1000) (hv : wkOk p s = true) (hw : wkOk q r = true) (w : World) :
    Calls Try.prog 45 #[.agg #[.int .i64 p, .int .i64 s, .int .i64 q, .int .i64 r, .int .i64 m]] w fun e w' => e = .returned (.tuple #[.int .i64 (bm m p s q r), .int .i64 (nrr s r)]) ∧ Below w.heap.size w w' := by
  have b := bhd_bd hv hw
  go_enter Try.func45, Try.ntmps45
  go_wp2_with (first | (go_at_call 53; refine (approach_any p s q r hv hw _).mono ?_; rintro e w1 ⟨rfl, hb⟩; have hc := (bcell hb).1; have hf := (bcell hb).2; have hz : w.heap.size ≤ w1.heap.size := (by have := hb.size; (try simp at this); omega); have hz0 : w.heap.size < w1.heap.size := (by have := hb.size; (try simp at this); omega); have hcA0 := fun o => (bcell hb).1 (w.heap.size) o (by first | omega | (simp; omega) | (simp; done)); have hfA0 := fun o => (bcell hb).2 (w.heap.size) o (by first | omega | (simp; omega) | (simp; done))) | (go_at_call 54; refine (leastRest_any (bhd p s q r) m h1 h2 (by omega) (by omega) _).mono ?_; rintro e w2 ⟨rfl, rfl⟩) | go_in)
  all_goals (go_ret2; refine ⟨rI2 ?_ ?_, ?_⟩)
  all_goals first | rfl | (repeat (first | exact Below.refl _ _ | refine Below.drew ?_ | refine below_drewN ?_ _ | refine Below.setCell ?_ (by first | omega | (simp; done) | (simp; omega)) _ | refine Below.alloc ?_ (by first | omega | (simp; done) | (simp; omega)) _ | refine bchain ?_ (by assumption) (by first | omega | (simp; done) | (simp; omega))))
end Go.Proofs.Ytikfblbfodacaaa
