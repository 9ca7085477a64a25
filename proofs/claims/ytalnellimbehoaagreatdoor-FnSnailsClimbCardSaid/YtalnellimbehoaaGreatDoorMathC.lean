/- Plain mathematics of chapter 1's days and mornings: no program is named here. -/
import Derived.Test.YtalnellimbehoaaGreatDoorMathB
namespace Go.Proofs.YtalnellimbehoaaGreatDoor
open Go.RowKit
set_option linter.unusedVariables false

theorem gain_pos {u d : Int} (h : d < u) : gain u d = u - d := by unfold gain; rw [if_pos h]
theorem gain_zero {u d : Int} (h : u ≤ d) : gain u d = 0 := by unfold gain; rw [if_neg (by omega)]
theorem far_reach {u d h y : Int} (hs : snOk u d = true) (hg : d < u) (hy : 1 ≤ y) : h ≤ far u d y ↔ fd0 u d h ≤ y := by
  have s := snOk_iff.1 hs
  have m : 0 ≤ (y - 1) * (u - d) := Int.mul_nonneg (by omega) (by omega)
  unfold far fd0; rw [gain_pos hg]
  by_cases hu : h ≤ u
  · rw [if_pos hu]; omega
  · rw [if_neg hu, if_pos hg]
    have k : (h - u + (u - d) - 1) / (u - d) < y ↔ h - u + (u - d) - 1 < y * (u - d) := Int.ediv_lt_iff_lt_mul (by omega)
    have e : y * (u - d) = (y - 1) * (u - d) + (u - d) := by rw [Int.sub_mul]; omega
    omega
theorem fd0_pos {u d h : Int} (hs : snOk u d = true) (hf : fd1 u d h = true) : 1 ≤ fd0 u d h := by
  have s := snOk_iff.1 hs
  have f := fd1_iff.1 hf
  unfold fd0; split
  · omega
  · rw [if_pos (by omega)]
    have b : 0 ≤ (h - u + (u - d) - 1) / (u - d) := Int.ediv_nonneg (by omega) (by omega)
    omega
theorem fd0_le {u d h : Int} (hs : snOk u d = true) (h2 : h ≤ 1000000) : fd0 u d h ≤ 1000000 := by
  have s := snOk_iff.1 hs
  by_cases hg : d < u
  · have m : 999999 * 1 ≤ (1000000 - 1) * (u - d) := Int.mul_le_mul (by omega) (by omega) (by omega) (by omega)
    exact (far_reach hs hg (by omega)).1 (by unfold far; rw [gain_pos hg]; omega)
  · unfold fd0; split
    · omega
    · omega
/-- the last day on the morning of which it is below a height -/
def lastLow (u d n h : Int) : Int := if d < u then low (fd0 u d n) ((h - 1) / (u - d) + 1) else fd0 u d n
theorem mor_lt {u d n h y : Int} (hs : snOk u d = true) (hn : inB n 1 1000000 = true) (hh : inB h 1 n = true) (hf : fd1 u d n = true) (hy : 1 ≤ y) :
    mor u d n y < h ↔ y ≤ lastLow u d n h := by
  have s := snOk_iff.1 hs
  have b := inB_iff.1 hn
  have c := inB_iff.1 hh
  have f := fd1_iff.1 hf
  have p := fd0_pos hs hf
  unfold mor lastLow
  by_cases h1 : y = 1
  · rw [if_pos h1]
    split
    · have q : 0 ≤ (h - 1) / (u - d) := Int.ediv_nonneg (by omega) (by omega)
      have l := low_bd (fd0 u d n) ((h - 1) / (u - d) + 1)
      omega
    · omega
  · rw [if_neg h1]
    by_cases hg : d < u
    · rw [if_pos hg]
      have r := far_reach (h := n) hs hg (show 1 ≤ y - 1 by omega)
      have l := low_bd (fd0 u d n) ((h - 1) / (u - d) + 1)
      unfold mA
      by_cases hr : n ≤ far u d (y - 1)
      · rw [show low n (far u d (y - 1)) = n from by unfold low; split <;> omega, if_pos rfl]
        omega
      · rw [show low n (far u d (y - 1)) = far u d (y - 1) from by unfold low; split <;> omega, if_neg (by omega)]
        have e : far u d (y - 1) - d = (y - 1) * (u - d) := by
          unfold far; rw [gain_pos hg]
          have : (y - 1) * (u - d) = (y - 1 - 1) * (u - d) + (u - d) := by rw [Int.sub_mul (y - 1) 1]; omega
          omega
        have m : 1 * 1 ≤ (y - 1) * (u - d) := Int.mul_le_mul (by omega) (by omega) (by omega) (by omega)
        rw [if_neg (by omega), e]
        have k : y - 1 ≤ (h - 1) / (u - d) ↔ (y - 1) * (u - d) ≤ h - 1 := Int.le_ediv_iff_mul_le (by omega)
        omega
    · rw [if_neg hg]
      have g0 : gain u d = 0 := gain_zero (by omega)
      have e : far u d (y - 1) = u := by unfold far; rw [g0]; omega
      have e1 : fd0 u d n = 1 := by unfold fd0; rw [if_pos (by omega)]
      unfold mA
      rw [e, e1, show low n u = n from by unfold low; split <;> omega, if_pos rfl]
      omega
theorem lastLow_le {u d n h : Int} (hs : snOk u d = true) (h2 : n ≤ 1000000) : lastLow u d n h ≤ 1000000 := by
  have p := fd0_le (h := n) hs h2
  unfold lastLow; split
  · have l := low_bd (fd0 u d n) ((h - 1) / (u - d) + 1)
    omega
  · omega
theorem first_le {u d n h : Int} (hs : snOk u d = true) (hn : inB n 1 1000000 = true) (hh : inB h 1 n = true) (hf : fd1 u d n = true) : fd0 u d h ≤ lastLow u d n h := by
  have s := snOk_iff.1 hs
  have b := inB_iff.1 hn
  have c := inB_iff.1 hh
  have f := fd1_iff.1 hf
  have p := fd0_pos hs hf
  have hfh : fd1 u d h = true := fd1_iff.2 (by omega)
  have ph := fd0_pos hs hfh
  unfold lastLow
  by_cases hg : d < u
  · rw [if_pos hg]
    have l := low_bd (fd0 u d n) ((h - 1) / (u - d) + 1)
    have r1 := (far_reach (h := n) hs hg p).2 (Int.le_refl _)
    have r2 := (far_reach (h := h) hs hg p).1 (by omega)
    by_cases h1 : fd0 u d h = 1
    · have q : 0 ≤ (h - 1) / (u - d) := Int.ediv_nonneg (by omega) (by omega)
      omega
    · have r3 := far_reach (h := h) hs hg (show 1 ≤ fd0 u d h - 1 by omega)
      have r4 : far u d (fd0 u d h - 1) < h := by omega
      have e : far u d (fd0 u d h - 1) - d = (fd0 u d h - 1) * (u - d) := by
        unfold far; rw [gain_pos hg]
        have : (fd0 u d h - 1) * (u - d) = (fd0 u d h - 1 - 1) * (u - d) + (u - d) := by rw [Int.sub_mul (fd0 u d h - 1) 1]; omega
        omega
      have k : fd0 u d h - 1 ≤ (h - 1) / (u - d) ↔ (fd0 u d h - 1) * (u - d) ≤ h - 1 := Int.le_ediv_iff_mul_le (by omega)
      omega
  · rw [if_neg hg]
    unfold fd0; rw [if_pos (by omega), if_pos (by omega)]; omega
end Go.Proofs.YtalnellimbehoaaGreatDoor
