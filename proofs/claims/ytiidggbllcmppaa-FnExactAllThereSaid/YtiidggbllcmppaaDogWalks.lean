/- Contracts of chapter 4's functions on a chase and numbers, the model's, over one translation. -/
import Derived.Test.YtiidggbllcmppaaProg
import Derived.Test.YtiidggbllcmppaaDogMath
import Derived.Test.YtiidggbllcmppaaTwoWalks
import Derived.Test.YtiidggbllcmppaaSlices
import Derived.Deep.LoopGhost
import Derived.Deep.Heap
import Derived.WalkKit
import Derived.WalkSpells
import Derived.WalkLawsBesides
import Derived.Lib.Hide
import Derived.Deep.RegionWith
import Derived.Deep.RegionHeld3
import Derived.Deep.QuietTactic
import Derived.BigQuiet
namespace Go.Proofs.Ytiidggbllcmppaa
open Go.RowKit
set_option linter.unusedVariables false
set_option linter.unusedSimpArgs false
set_option maxHeartbeats 2000000 in
theorem mostx_any (l r : Int) (w : World) :
    Calls Try.prog 57 #[.int .i64 l, .int .i64 r] w fun e w' => e = .returned (.int .i64 (mx l r)) ∧ w = w' := by
  exact most_any l r w
theorem specIn_val {n lo hi : Int} {b : Bool} (h : inB n lo hi = b) (w : World) :
    Calls Try.prog 48 #[.int .i64 n, .int .i64 lo, .int .i64 hi] w fun e w' => e = .returned (.bool b) ∧ w' = w := by
  subst h; exact (specIn n lo hi w).mono fun _ _ h => ⟨h.1, h.2.symm⟩
set_option maxHeartbeats 2000000 in
theorem l1All_dog (lo hi : Int) (a : Option Addr) (cap : Nat) (xs : List Int) (w : World) (h : Rd w a xs) (hn : xs.length ≤ 4611686018427387904) :
    Calls Try.prog 65 #[.slice a xs.length cap, .int .i64 lo, .int .i64 hi] w fun e w' => e = .returned (.bool (alB xs lo hi)) ∧ w = w' := by
  go_enter Try.func65, Try.ntmps65
  go_wp2_with (first | fail | go_in)
  go_loopg [11] xs.length (fun k v wr => ∃ (j : Nat), v = .int .i64 (j : Int) ∧ j + k ≤ xs.length ∧ xs.length ≤ j + k ∧ Hid (∀ i, i < j → inB (xs.getD i 0) lo hi = true) ∧ w = wr)
  case atStart => exact ⟨0, rfl, by omega, by omega, fun i hi => absurd hi (Nat.not_lt_zero _), rfl⟩
  case round =>
    obtain ⟨j, rfl, q1, q2, hp, rfl⟩ := hrel
    by_cases hj : j < xs.length
    · rcases h with h | ⟨b, off, rfl, hlt, hc⟩
      · rw [h] at hj; exact absurd hj (Nat.not_lt_zero _)
      · have hcj := hc j hj
        have hjI : (j : Int) < (xs.length : Int) := by omega
        clear hc
        cases hx : inB (xs.getD j 0) lo hi
        · have hbad : Hid (alB xs lo hi = false) := by
            unfold Hid
            cases hq : alB xs lo hi
            · rfl
            · have := inB_true (alB_iff.1 hq j hj); rw [this] at hx; cases hx
          clear hp
          generalize xs.getD j 0 = x at *
          go_wp2_with (first | (go_at_call 48; refine (specIn _ _ _ _).mono ?_; rintro e w1 ⟨rfl, rfl⟩) | go_in)
          go_ret
          refine ⟨rB ?_, rfl⟩
          rw [hbad.out]
        · have hp2 : Hid (∀ i, i < j + 1 → inB (xs.getD i 0) lo hi = true) := by
            intro i hi
            by_cases q : i = j
            · rw [q]; exact hx
            · exact hp.out i (by omega)
          clear hp
          generalize xs.getD j 0 = x at *
          go_wp2_with (first | (go_at_call 48; refine (specIn _ _ _ _).mono ?_; rintro e w1 ⟨rfl, rfl⟩) | go_in)
          go_roundg (gk - 1)
          case rel => exact ⟨j + 1, by go_num, by omega, by omega, hp2, rfl⟩
          case measure => omega
    · have hall : Hid (alB xs lo hi = true) := alB_iff.2 (fun i hi => inB_iff.1 (hp.out i (by omega)))
      clear hp
      go_wp2_with fail
      go_ret
      refine ⟨rB ?_, rfl⟩
      rw [hall.out]
theorem rd_new4 (w : World) (a b c d : Int) (T : Nat) : Rd (w.alloc (.cells #[.int .i64 a, .int .i64 b, .int .i64 c, .int .i64 d] T)) (some ⟨w.heap.size, 0, none⟩) [a, b, c, d] := by
  refine .inr ⟨w.heap.size, 0, rfl, by simp, fun i hi => ?_⟩
  have hi2 : i = 0 ∨ i = 1 ∨ i = 2 ∨ i = 3 := by simp at hi; omega
  rcases hi2 with rfl | rfl | rfl | rfl <;> (unfold World.cell?; rw [Go.Deep.blk_alloc_new]; rfl)
end Go.Proofs.Ytiidggbllcmppaa
