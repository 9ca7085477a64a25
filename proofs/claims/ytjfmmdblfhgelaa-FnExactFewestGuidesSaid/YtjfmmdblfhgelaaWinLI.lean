/- Lists of visits (chapter 8), the program's ways by contracts. -/
import Derived.Test.YtjfmmdblfhgelaaWinMath3
import Derived.Test.YtjfmmdblfhgelaaWinList
import Derived.Test.YtjfmmdblfhgelaaAreAllV
import Derived.Test.YtjfmmdblfhgelaaAreAllI
import Derived.Test.YtjfmmdblfhgelaaWinNumI
import Derived.WalkKit
import Derived.WalkSpells
import Derived.WalkLawsBesides
import Derived.Lib.Hide
import Derived.Deep.LoopGhost
import Derived.Deep.QuietTactic
import Derived.Deep.RegionHeld3
import Derived.BigQuiet
import Derived.Shelf.Abstract
namespace Go.Proofs.Ytjfmmdblfhgelaa
open Go.RowKit
set_option linter.unusedVariables false
set_option linter.unusedSimpArgs false
set_option maxHeartbeats 2000000 in
theorem end_any (f s : Int) (h1 : 0 ≤ f) (h2 : f ≤ 200) (h3 : 0 ≤ s) (h4 : s ≤ 200) (w : World) :
    Calls Try.prog 50 #[.agg #[.int .i64 f, .int .i64 s]] w fun e w' => e = .returned (.int .i64 (f + s)) ∧ Below w.heap.size w w' := by
  go_enter Try.func50, Try.ntmps50
  go_wp2_with fail
  all_goals (go_ret; refine ⟨rI ?_, ?_⟩)
  all_goals first | rfl | omega | (repeat (first | exact HBl.out | exact Below.refl _ _ | refine Below.drew ?_ | refine below_drewN ?_ _ | refine Below.alloc ?_ (by first | omega | (simp; done) | (simp; omega)) _ | refine bchain ?_ (by assumption) (by first | omega | (simp; done) | (simp; omega))))
set_option maxHeartbeats 2000000 in
theorem isVisit_any (f s : Int) (w : World) :
    Calls Try.prog 45 #[.agg #[.int .i64 f, .int .i64 s]] w fun e w' => e = .returned (.bool (viOk f s)) ∧ Below w.heap.size w w' := by
  cases h1 : inB f 0 200
  all_goals
    go_enter Try.func45, Try.ntmps45
    go_wp2_with (first | (go_at_call 46; refine (isArrival_any _ _).mono ?_; rintro e w1 ⟨rfl, rfl⟩) | (go_at_call 47; refine (isStay_any _ _).mono ?_; rintro e w1 ⟨rfl, rfl⟩) | go_in)
    all_goals (go_ret; refine ⟨rB ?_, ?_⟩)
    all_goals first | (simp [viOk, h1]; done) | (repeat (first | exact HBl.out | exact Below.refl _ _ | refine Below.drew ?_ | refine below_drewN ?_ _ | refine Below.alloc ?_ (by first | omega | (simp; done) | (simp; omega)) _ | refine bchain ?_ (by assumption) (by first | omega | (simp; done) | (simp; omega))))
set_option maxHeartbeats 1000000 in
theorem implAreVisits (a : Option Addr) (cap : Nat) (xs : List (Int × Int)) (w : World) (h : RdP w a xs) (hn : xs.length ≤ 1048576) :
    Calls Try.prog 36 #[.slice a xs.length cap] w fun e w' => e = .returned (.bool (viS xs)) ∧ Below w.heap.size w w' := by
  go_enter Try.func36, Try.ntmps36
  go_wp2_with fail
  refine (areAllV 45 #[] viOk a cap xs 6 _ h hn (enters_of Try.func45 (by kernel_rfl) rfl) (fun x y W _ => isVisit_any x y W)).mono ?_
  rintro e w1 ⟨rfl, hb⟩
  go_wp2_with fail
  go_ret
  exact ⟨rfl, hb⟩
end Go.Proofs.Ytjfmmdblfhgelaa
