/- The named laws' own helpers qLow, qIs, qHas, by contracts. -/
import Derived.Test.YtlmbcbopahpagaaTwoMath
import Derived.Test.YtlmbcbopahpagaaTwoMathL
import Derived.Test.YtlmbcbopahpagaaSlices
import Derived.WalkKit
import Derived.WalkSpells
import Derived.WalkLawsBesides
import Derived.Lib.Hide
import Derived.Deep.LoopGhost
import Derived.Deep.QuietTactic
import Derived.BigQuiet
namespace Go.Proofs.Ytlmbcbopahpagaa
open Go.RowKit
set_option linter.unusedVariables false
set_option linter.unusedSimpArgs false
/-- a fraction in lowest terms -/
def LowQ (n d : Int) : Prop := 0 ≤ n ∧ 1 ≤ d ∧ gc n d = 1
theorem lowQ_lw {a b : Int} (ha : 0 ≤ a) (hb : 1 ≤ b) : LowQ (lwN a b) (lwD a b) := by
  have g := gc_pos (a := a) (b := b) (by omega)
  have d1 := gc_dvd_l a b
  have d2 := gc_dvd_r a b
  have e1 : gc a b * lwN a b = a := by unfold lwN; exact Int.mul_tdiv_cancel' d1
  have e2 : gc a b * lwD a b = b := by unfold lwD; exact Int.mul_tdiv_cancel' d2
  refine ⟨?_, (lwD_pos (by omega)).1, ?_⟩
  · by_cases h : 0 ≤ lwN a b
    · exact h
    · exfalso
      have : gc a b * lwN a b < 0 := Int.mul_neg_of_pos_of_neg (by omega) (by omega)
      omega
  · have h : gc a b = gc a b * gc (lwN a b) (lwD a b) := by
      have q : gc (gc a b * lwN a b) (gc a b * lwD a b) = gc a b * gc (lwN a b) (lwD a b) := by
        have : gc a b = ((gc a b).natAbs : Int) := by omega
        unfold gc at *
        rw [Int.gcd_mul_left]
        simp
      rw [e1, e2] at q; exact q
    have h2 : gc a b * 1 = gc a b * gc (lwN a b) (lwD a b) := by rw [Int.mul_one]; exact h
    exact (Int.eq_of_mul_eq_mul_left (by omega) h2).symm
theorem lowQ_zero : LowQ 0 1 := ⟨by omega, by omega, by decide⟩
set_option maxHeartbeats 4000000 in
theorem yLow_any (n d : Int) (h : LowQ n d) (hn : n ≤ 4611686018427387904) (hd : d ≤ 4611686018427387904) (w : World) :
    Calls Try.prog 10 #[.int .i64 n, .int .i64 d] w fun e w' => e = .returned (.bool true) ∧ Below w.heap.size w w' := by
  obtain ⟨h0, h1, hg⟩ := h
  have h1' : ¬ d < 1 := by omega
  have h0' : ¬ n < 0 := by omega
  go_enter Try.func10, Try.ntmps10
  go_wp2_with fail
  go_loopg [5, 6] d.toNat (fun k v5 v6 wr => ∃ x y : Int, v5 = .int .i64 x ∧ v6 = .int .i64 y ∧ 0 ≤ x ∧ x ≤ 4611686018427387904 ∧ 0 ≤ y ∧ y ≤ (k : Int) ∧ y ≤ 4611686018427387904 ∧ Hid (gc x y = 1) ∧ Below w.heap.size w wr)
  case atStart => exact ⟨n, d, rfl, rfl, h0, hn, by omega, by omega, hd, hg, Below.refl _ _⟩
  case round =>
    obtain ⟨x, y, rfl, rfl, x0, x1, y0, yk, y1, HG, hbel⟩ := hrel
    have HB := Lib.hid hbel
    clear hbel
    by_cases hy : y = 0
    · subst hy
      have hx : x = 1 := by have := HG.out; rw [gc_zero x x0] at this; exact this
      subst hx
      go_wp2_with fail
      go_ret
      exact ⟨rfl, HB.out⟩
    · have hy' : 0 < y := by omega
      have m0 := Int.emod_nonneg x hy
      have m1 := Int.emod_lt_of_pos x hy'
      have HN := Lib.hid (show gc y (x % y) = 1 by rw [gc_step x y x0 hy']; exact HG.out)
      go_wp2_with fail
      all_goals try (go_quiet (fail); go_wp2_with fail)
      go_roundg (gk - 1)
      case rel => exact ⟨y, x % y, rfl, rfl, by omega, by omega, by omega, by omega, by omega, HN, by first | exact HB.out | exact below_drewN HB.out _⟩
      case measure => omega
end Go.Proofs.Ytlmbcbopahpagaa
