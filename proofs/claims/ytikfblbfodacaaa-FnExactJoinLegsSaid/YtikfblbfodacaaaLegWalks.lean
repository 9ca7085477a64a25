/- Contracts of chapter 6's functions on numbers and legs, the model's, over one translation. -/
import Derived.Test.YtikfblbfodacaaaProg
import Derived.Test.YtikfblbfodacaaaLegMath
import Derived.Test.YtikfblbfodacaaaTwoWalks
import Derived.WalkKit
import Derived.WalkSpells
import Derived.WalkLawsBesides
import Derived.Lib.Hide
import Derived.Deep.RegionWith
import Derived.Deep.RegionHeld3
import Derived.Deep.QuietTactic
import Derived.BigQuiet
namespace Go.Proofs.Ytikfblbfodacaaa
open Go.RowKit
set_option linter.unusedVariables false
set_option linter.unusedSimpArgs false
set_option maxHeartbeats 2000000 in
theorem toLeg_any (l f : Int) (w : World) :
    Calls Try.prog 19 #[.agg #[.int .i64 l, .int .i64 f]] w fun e w' => e = .returned (.agg #[.int .i64 l, .int .i64 f]) ∧ Below w.heap.size w w' := by
  go_enter Try.func19, Try.ntmps19
  go_wp2
  exact bodyPost_ret (v := .agg #[.int .i64 l, .int .i64 f]) (by simp [results, Try.results19, go_sem]) rfl ⟨rfl, by (repeat (first | exact Below.refl _ _ | refine Below.drew ?_ | refine below_drewN ?_ _ | refine Below.setCell ?_ (by first | omega | (simp; done) | (simp; omega)) _ | refine Below.alloc ?_ (by first | omega | (simp; done) | (simp; omega)) _ | refine bchain ?_ (by assumption) (by first | omega | (simp; done) | (simp; omega))))⟩
end Go.Proofs.Ytikfblbfodacaaa
