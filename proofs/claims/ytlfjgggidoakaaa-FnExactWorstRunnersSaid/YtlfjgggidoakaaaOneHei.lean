/- Contracts of chapter 1's functions, the program's and the model's, over one translation. -/
import Derived.Test.YtlfjgggidoakaaaProg
import Derived.Test.YtlfjgggidoakaaaOneWalks
import Derived.Test.YtlfjgggidoakaaaMathH
import Derived.Test.YtlfjgggidoakaaaSlices
import Derived.Test.YtlfjgggidoakaaaAreAllI
import Derived.Deep.LoopGhost
import Derived.Deep.QuietTactic
import Derived.BigQuiet
import Derived.WalkKit
import Derived.WalkSpells
import Derived.WalkLawsBesides
import Derived.Lib.Hide
import Derived.Deep.RegionWith
namespace Go.Proofs.Ytlfjgggidoakaaa
open Go.RowKit
set_option linter.unusedVariables false
set_option linter.unusedSimpArgs false
set_option maxRecDepth 100000
set_option maxHeartbeats 2000000 in
theorem l1All_any (lo hi : Int) (a : Option Addr) (cap : Nat) (xs : List Int) (w : World) (h : Rd w a xs) (hn : xs.length ≤ 4611686018427387904) :
    Calls Try.prog 50 #[.slice a xs.length cap, .int .i64 lo, .int .i64 hi] w fun e w' => e = .returned (.bool (allB xs lo hi)) ∧ w = w' := by
  go_enter Try.func50, Try.ntmps50
  go_wp2_with (first | fail | go_in)
  go_loopg [11] xs.length (fun k v wr => ∃ (j : Nat), v = .int .i64 (j : Int) ∧ j + k ≤ xs.length ∧ xs.length ≤ j + k ∧ Hid (∀ i, i < j → inB (xs.getD i 0) lo hi = true) ∧ w = wr)
  case atStart => exact ⟨0, rfl, by omega, by omega, fun i hi => absurd hi (Nat.not_lt_zero _), rfl⟩
  case round =>
    obtain ⟨j, rfl, q1, q2, hp, rfl⟩ := hrel
    by_cases hj : j < xs.length
    · rcases h with h | ⟨b, off, rfl, hlt, hc⟩
      · rw [h] at hj; exact absurd hj (Nat.not_lt_zero _)
      · have hcj := hc j hj
        have hjI : (j : Int) < (xs.length : Int) := by omega
        clear hc
        cases hx : inB (xs.getD j 0) lo hi
        · have hbad : Hid (allB xs lo hi = false) := by
            unfold Hid
            cases hq : allB xs lo hi
            · rfl
            · have := inB_true (allB_iff.1 hq j hj); rw [this] at hx; cases hx
          clear hp
          generalize xs.getD j 0 = x at *
          go_wp2_with (first | (go_at_call 41; refine (specIn _ _ _ _).mono ?_; rintro e w1 ⟨rfl, rfl⟩) | go_in)
          go_ret
          refine ⟨rB ?_, rfl⟩
          rw [hbad.out]
        · have hp2 : Hid (∀ i, i < j + 1 → inB (xs.getD i 0) lo hi = true) := by
            intro i hi
            by_cases q : i = j
            · rw [q]; exact hx
            · exact hp.out i (by omega)
          clear hp
          generalize xs.getD j 0 = x at *
          go_wp2_with (first | (go_at_call 41; refine (specIn _ _ _ _).mono ?_; rintro e w1 ⟨rfl, rfl⟩) | go_in)
          go_roundg (gk - 1)
          case rel => exact ⟨j + 1, by go_num, by omega, by omega, hp2, rfl⟩
          case measure => omega
    · have hall : Hid (allB xs lo hi = true) := allB_iff.2 (fun i hi => inB_iff.1 (hp.out i (by omega)))
      clear hp
      go_wp2_with fail
      go_ret
      refine ⟨rB ?_, rfl⟩
      rw [hall.out]
theorem own_form {w : World} {base e size n : Nat} {v : Value} {xs : List Value} (h : w.ownsRow base e size v n xs) : ∃ a c, v = .slice a n c := by
  rcases h.2 with ⟨rfl, rfl⟩ | ⟨g, c, _, rfl, _⟩
  · exact ⟨_, _, rfl⟩
  · exact ⟨_, _, rfl⟩
end Go.Proofs.Ytlfjgggidoakaaa
