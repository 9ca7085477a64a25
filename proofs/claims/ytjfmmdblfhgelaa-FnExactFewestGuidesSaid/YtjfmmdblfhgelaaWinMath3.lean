/- Plain mathematics of chapter 8's lists, the program's ways: no program is named here. -/
import Derived.Test.YtjfmmdblfhgelaaWinMath2
namespace Go.Proofs.Ytjfmmdblfhgelaa
open Go.RowKit
set_option linter.unusedVariables false
theorem allV_alB (xs : List Int) : allV (fun x => inB x 0 200) xs = alB xs 0 200 := rfl
theorem viF_nn (xs : List (Int × Int)) : ∀ j, 0 ≤ viF xs j
  | 0 => by simp [viF]
  | j + 1 => by have := viF_nn xs j; simp only [viF, hig]; split <;> omega
theorem viF_px {xs : List (Int × Int)} : ∀ {j i : Nat}, i < j → px xs i ≤ viF xs j
  | 0, i, h => absurd h (Nat.not_lt_zero _)
  | j + 1, i, h => by
    simp only [viF, hig]
    by_cases q : i = j
    · subst q; split <;> omega
    · have := viF_px (xs := xs) (j := j) (i := i) (by omega)
      split <;> omega
theorem viL_px {xs : List (Int × Int)} : ∀ {j i : Nat}, i < j → viL xs j ≤ px xs i + py xs i
  | 0, i, h => absurd h (Nat.not_lt_zero _)
  | j + 1, i, h => by
    simp only [viL, low]
    by_cases q : i = j
    · subst q; split <;> omega
    · have := viL_px (xs := xs) (j := j) (i := i) (by omega)
      split <;> omega
theorem viL_nn {xs : List (Int × Int)} (h : ∀ i, i < xs.length → viOk (px xs i) (py xs i) = true) : ∀ j, j ≤ xs.length → 0 ≤ viL xs j ∧ viL xs j ≤ 400
  | 0, _ => by simp [viL]
  | j + 1, hj => by
    have := viL_nn h j (by omega)
    have := viOk_iff.1 (h j (by omega))
    simp only [viL, low]; split <;> omega
theorem viF_le {xs : List (Int × Int)} (h : ∀ i, i < xs.length → viOk (px xs i) (py xs i) = true) : ∀ j, j ≤ xs.length → viF xs j ≤ 200
  | 0, _ => by simp [viF]
  | j + 1, hj => by
    have := viF_le h j (by omega)
    have := viOk_iff.1 (h j (by omega))
    simp only [viF, hig]; split <;> omega
/-- the program's ways: they begin with the first visit -/
def vpF (xs : List (Int × Int)) (j : Nat) : Int := hig (viF xs j) (px xs 0)
def vpL (xs : List (Int × Int)) (j : Nat) : Int := low (viL xs j) (px xs 0 + py xs 0)
theorem vpF_zero {xs : List (Int × Int)} (h : 0 ≤ px xs 0) : vpF xs 0 = px xs 0 := by unfold vpF viF hig; split <;> omega
theorem vpL_zero {xs : List (Int × Int)} (h : px xs 0 + py xs 0 ≤ 400) : vpL xs 0 = px xs 0 + py xs 0 := by unfold vpL viL low; split <;> omega
theorem vpF_step (xs : List (Int × Int)) (j : Nat) : vpF xs (j + 1) = hig (vpF xs j) (px xs j) := by unfold vpF; simp only [viF, hig]; (repeat' split) <;> omega
theorem vpL_step (xs : List (Int × Int)) (j : Nat) : vpL xs (j + 1) = low (vpL xs j) (px xs j + py xs j) := by unfold vpL; simp only [viL, low]; (repeat' split) <;> omega
theorem vpF_end {xs : List (Int × Int)} {j : Nat} (h : 0 < j) : vpF xs j = viF xs j := by
  have := viF_px (xs := xs) h
  unfold vpF hig; split <;> omega
theorem vpL_end {xs : List (Int × Int)} {j : Nat} (h : 0 < j) : vpL xs j = viL xs j := by
  have := viL_px (xs := xs) h
  unfold vpL low; split <;> omega
end Go.Proofs.Ytjfmmdblfhgelaa
