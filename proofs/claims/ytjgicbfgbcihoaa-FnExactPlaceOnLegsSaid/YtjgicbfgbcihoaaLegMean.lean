/- Means of speeds: the model's functions by contracts. -/
import Derived.Test.YtjgicbfgbcihoaaLegList
import Derived.Test.YtjgicbfgbcihoaaOneHei
import Derived.WalkKit
import Derived.WalkSpells
import Derived.WalkLawsBesides
import Derived.Lib.Hide
import Derived.Deep.LoopGhost
import Derived.Deep.QuietTactic
import Derived.Deep.RegionHeld3
import Derived.BigQuiet
namespace Go.Proofs.Ytjgicbfgbcihoaa
open Go.RowKit
set_option linter.unusedVariables false
set_option linter.unusedSimpArgs false
/-- speeds -/
def spS (xs : List Int) : Bool := inB (xs.length : Int) 1 5 && allB xs 1 100
theorem spS_at {xs : List Int} (h : spS xs = true) : 1 ≤ xs.length ∧ xs.length ≤ 5 ∧ ∀ i, i < xs.length → 1 ≤ xs.getD i 0 ∧ xs.getD i 0 ≤ 100 := by
  unfold spS at h
  rw [Bool.and_eq_true, inB_iff] at h
  exact ⟨by omega, by omega, fun i hi => allB_iff.1 h.2 i hi⟩
def sumV (xs : List Int) : Nat → Int
  | 0 => 0
  | j + 1 => sumV xs j + xs.getD j 0
theorem sumV_bd {xs : List Int} (h : ∀ i, i < xs.length → 1 ≤ xs.getD i 0 ∧ xs.getD i 0 ≤ 100) : ∀ j, j ≤ xs.length → 0 ≤ sumV xs j ∧ sumV xs j ≤ 100 * (j : Int)
  | 0, _ => by simp [sumV]
  | j + 1, hj => by
    have ih := sumV_bd h j (by omega)
    have b := h j (by omega)
    unfold sumV
    omega
set_option maxHeartbeats 1000000 in
theorem reSpeeds_any (a : Option Addr) (cap : Nat) (xs : List Int) (w : World) (h : Rd w a xs) (hn : xs.length ≤ 1048576) :
    Calls Try.prog 58 #[.slice a xs.length cap] w fun e w' => e = .returned (.bool (spS xs)) ∧ w = w' := by
  have hnI : (xs.length : Int) ≤ 1048576 := by omega
  cases hb : inB (xs.length : Int) 1 5
  · have HR := Lib.hid (show spS xs = false by unfold spS; rw [hb]; rfl)
    have HB := Lib.hid hb
    clear hb
    go_enter Try.func58, Try.ntmps58
    go_wp2_with (first | (go_at_call 72; refine (specIn _ _ _ _).mono ?_; rw [HB.out]; rintro e w1 ⟨rfl, rfl⟩))
    go_ret
    rw [HR.out]
    exact ⟨rfl, rfl⟩
  · have HR := Lib.hid (show spS xs = allB xs 1 100 by unfold spS; rw [hb]; rfl)
    have HB := Lib.hid hb
    clear hb
    go_enter Try.func58, Try.ntmps58
    go_wp2_with (first | (go_at_call 72; refine (specIn _ _ _ _).mono ?_; rw [HB.out]; rintro e w1 ⟨rfl, rfl⟩) | (go_at_call 76; refine (l1All_any 1 100 a cap xs _ h (by omega)).mono ?_; rintro e w1 ⟨rfl, rfl⟩))
    go_ret
    rw [HR.out]
    exact ⟨rfl, rfl⟩
set_option maxHeartbeats 2000000 in
theorem specMeanByTimes (a : Option Addr) (cap : Nat) (xs : List Int) (w : World) (h : Rd w a xs) (hn : xs.length ≤ 1048576) :
    Calls Try.prog 26 #[.slice a xs.length cap] w fun e w' => e = .returned (.tuple #[.int .i64 (ifI (spS xs) (lwN (sumV xs xs.length) (xs.length : Int))), .int .i64 (ifI (spS xs) (lwD (sumV xs xs.length) (xs.length : Int))), .bool (spS xs)]) ∧ Below w.heap.size w w' := by
  cases hs : spS xs
  · have HS := Lib.hid hs
    clear hs
    go_enter Try.func26, Try.ntmps26
    go_wp2_with (first | (go_at_call 58; refine (reSpeeds_any a cap xs _ h hn).mono ?_; rw [HS.out]; rintro e w1 ⟨rfl, rfl⟩))
    go_ret3
    exact ⟨rfl, Below.refl _ _⟩
  · have t := spS_at hs
    have HS := Lib.hid hs
    have hl := t.2.1
    have hl1 := t.1
    have HT := Lib.hid t.2.2
    have hbd := Lib.hid (sumV_bd t.2.2)
    clear hs t
    go_enter Try.func26, Try.ntmps26
    go_wp2_with (first | (go_at_call 58; refine (reSpeeds_any a cap xs _ h hn).mono ?_; rw [HS.out]; rintro e w1 ⟨rfl, rfl⟩))
    go_loopg [5, 15] xs.length (fun k v4 v9 wr => ∃ (j : Nat) (s : Int), v4 = .int .i64 s ∧ v9 = .int .i64 (j : Int) ∧ j + k ≤ xs.length ∧ xs.length ≤ j + k ∧ Hid (sumV xs j = s) ∧ w = wr)
    case atStart => exact ⟨0, 0, rfl, rfl, by omega, by omega, rfl, rfl⟩
    case round =>
      obtain ⟨j, s, rfl, rfl, g1, g2, hsum, rfl⟩ := hrel
      by_cases hj : j < xs.length
      · rcases h with h | ⟨b, off, rfl, hlt, hc⟩
        · rw [h] at hj; exact absurd hj (Nat.not_lt_zero _)
        · have hcj := hc j hj
          have hjI : (j : Int) < (xs.length : Int) := by omega
          have bs := hbd.out j (by omega)
          have bt := HT.out j hj
          rw [hsum.out] at bs
          have hsum2 : Hid (sumV xs (j + 1) = s + xs.getD j 0) := by unfold Hid; rw [← hsum.out]; rfl
          clear hsum hc
          generalize xs.getD j 0 = x at *
          go_wp2_with fail
          go_roundg (gk - 1)
          case rel => exact ⟨j + 1, s + x, by go_num, by go_num, by omega, by omega, hsum2, rfl⟩
          case measure => omega
      · obtain rfl : j = xs.length := by omega
        have bs := hbd.out xs.length (Nat.le_refl _)
        rw [hsum.out] at bs
        have HF := Lib.hid hsum
        have HL := Lib.hid (fun w => meLow_pos s (xs.length : Int) (by omega) (by omega) (by omega) (by omega) w)
        clear hsum
        go_wp2_with fail
        refine (HL.out _).mono ?_; rintro e w2 ⟨rfl, hb⟩
        go_wp2_with fail
        go_ret3
        rw [HF.out]
        exact ⟨rfl, hb⟩
end Go.Proofs.Ytjgicbfgbcihoaa
