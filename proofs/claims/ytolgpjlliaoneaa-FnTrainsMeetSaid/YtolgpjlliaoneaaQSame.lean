/- The named laws' own comparison of two lists of numbers, by contract. -/
import Derived.Test.YtolgpjlliaoneaaSlices
import Derived.WalkKit
import Derived.WalkSpells
import Derived.WalkLawsBesides
import Derived.Lib.Hide
import Derived.Deep.LoopGhost
import Derived.Deep.QuietTactic
import Derived.BigQuiet
namespace Go.Proofs.Ytolgpjlliaoneaa
open Go.RowKit
set_option linter.unusedVariables false
set_option linter.unusedSimpArgs false
set_option maxHeartbeats 1000000 in
theorem qSame_eq (a a2 : Option Addr) (cap cap2 : Nat) (xs : List Int) (w : World) (h : Rd w a xs) (g : Rd w a2 xs) (hn : xs.length ≤ 4611686018427387904) :
    Calls Try.prog 26 #[.slice a xs.length cap, .slice a2 xs.length cap2] w fun e w' => e = .returned (.bool true) ∧ Below w.heap.size w w' := by
  go_enter Try.func26, Try.ntmps26
  go_wp2
  go_loopg [13] xs.length (fun k v5 wr => ∃ (j : Nat), v5 = .int .i64 (j : Int) ∧ j + k ≤ xs.length ∧ xs.length ≤ j + k ∧ Below w.heap.size w wr)
  case atStart => exact ⟨0, rfl, by omega, by omega, Below.refl _ _⟩
  case round =>
    obtain ⟨j, rfl, h1, h2, hbel⟩ := hrel
    by_cases hj : j < xs.length
    · rcases h with h | ⟨b, off, rfl, hlt, hc⟩
      · rw [h] at hj; exact absurd hj (Nat.not_lt_zero _)
      · rcases g with g | ⟨b2, off2, rfl, hlt2, hc2⟩
        · rw [g] at hj; exact absurd hj (Nat.not_lt_zero _)
        · have hcj : wr.cell? ⟨b, off + j, none⟩ = some (.int .i64 (xs.getD j 0)) := by rw [(bcell hbel).1 b _ hlt]; exact hc j hj
          have hcj2 : wr.cell? ⟨b2, off2 + j, none⟩ = some (.int .i64 (xs.getD j 0)) := by rw [(bcell hbel).1 b2 _ hlt2]; exact hc2 j hj
          have hjI : (j : Int) < (xs.length : Int) := by omega
          have HB := Lib.hid hbel
          clear hbel hc hc2
          generalize xs.getD j 0 = x at *
          go_wp2_with fail
          go_quiet (fail)
          go_wp2_with fail
          go_roundg (gk - 1)
          case rel => exact ⟨j + 1, by go_num, by omega, by omega, below_drewN HB.out _⟩
          case measure => omega
    · have HB := Lib.hid hbel
      clear hbel
      go_wp2
      go_ret
      exact ⟨rfl, HB.out⟩
end Go.Proofs.Ytolgpjlliaoneaa
