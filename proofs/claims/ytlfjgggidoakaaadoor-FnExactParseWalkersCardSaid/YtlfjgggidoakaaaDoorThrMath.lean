/- Plain mathematics of chapter 3 (runners): no program is named here. -/
import Derived.Test.YtlfjgggidoakaaaDoorTwoMath
namespace Go.Proofs.YtlfjgggidoakaaaDoor
open Go.RowKit
set_option linter.unusedVariables false
/-- a runner of a track with a lap; a lap -/
def rnOk (l p s : Int) : Bool := inB p 0 (l - 1) && inB s 1 100
def lapOk (l : Int) : Bool := inB l 2 1000
def rn1 (l p s : Int) : Bool := lapOk l && rnOk l p s
theorem lapOk_iff {l : Int} : lapOk l = true ↔ 2 ≤ l ∧ l ≤ 1000 := inB_iff
theorem rnOk_iff {l p s : Int} : rnOk l p s = true ↔ 0 ≤ p ∧ p ≤ l - 1 ∧ 1 ≤ s ∧ s ≤ 100 := by
  unfold rnOk; rw [Bool.and_eq_true, inB_iff, inB_iff]; omega
theorem rn1_iff {l p s : Int} : rn1 l p s = true ↔ 2 ≤ l ∧ l ≤ 1000 ∧ 0 ≤ p ∧ p ≤ l - 1 ∧ 1 ≤ s ∧ s ≤ 100 := by
  unfold rn1; rw [Bool.and_eq_true, lapOk_iff, rnOk_iff]; omega
def rn2 (l p s q r : Int) : Bool := rn1 l p s && rn1 l q r
theorem rn2_iff {l p s q r : Int} : rn2 l p s q r = true ↔ 2 ≤ l ∧ l ≤ 1000 ∧ 0 ≤ p ∧ p ≤ l - 1 ∧ 1 ≤ s ∧ s ≤ 100 ∧ 0 ≤ q ∧ q ≤ l - 1 ∧ 1 ≤ r ∧ r ≤ 100 := by
  unfold rn2; rw [Bool.and_eq_true, rn1_iff, rn1_iff]; omega
def rtOk (t : Int) : Bool := inB t 0 1000000
theorem rtOk_iff {t : Int} : rtOk t = true ↔ 0 ≤ t ∧ t ≤ 1000000 := inB_iff
def lpsOk (n : Int) : Bool := inB n 1 100
theorem lpsOk_iff {n : Int} : lpsOk n = true ↔ 1 ≤ n ∧ n ≤ 100 := inB_iff
/-- how far a runner is -/
def fr (p s t : Int) : Int := p + s * t
theorem fr_bd {p s t P S T : Int} (h1 : 0 ≤ p) (h2 : p ≤ P) (h3 : 0 ≤ s) (h4 : s ≤ S) (h5 : 0 ≤ t) (h6 : t ≤ T) : 0 ≤ fr p s t ∧ fr p s t ≤ P + S * T := by
  have := mul_bd s t S T h3 h4 h5 h6
  unfold fr; omega
/-- rounded down -/
theorem down_eq {n b : Int} (hb : 1 ≤ b) (hn : n < 0) : -((b - 1 - n) / b) = n / b := by
  have e := Int.emod_add_mul_ediv n b
  have h1 := Int.emod_nonneg n (show b ≠ 0 by omega)
  have h2 := Int.emod_lt_of_pos n (show 0 < b by omega)
  have : b - 1 - n = (b - 1 - n % b) + b * (-(n / b)) := by rw [Int.mul_neg]; omega
  rw [this, Int.add_mul_ediv_left _ _ (by omega : b ≠ 0), Int.ediv_eq_zero_of_lt (by omega) (by omega)]
  omega
theorem div_bd {n l B : Int} (hl : 1 ≤ l) (h1 : -B ≤ n) (h2 : n ≤ B) : -B ≤ n / l ∧ n / l ≤ B := by
  have hB : 0 ≤ B := by omega
  constructor
  · rw [Int.le_ediv_iff_mul_le (by omega)]
    have : (-B) * l ≤ (-B) * 1 := Int.mul_le_mul_of_nonpos_left (by omega) hl
    omega
  · rcases Int.le_total 0 n with q | q
    · have := Int.ediv_le_self l q; omega
    · have := Int.ediv_le_ediv (show 0 < l by omega) q
      rw [Int.zero_ediv] at this; omega
/-- how many overtakings -/
def ovN (l p s q r t : Int) : Int := if (s - r) * t ≤ mo (q - p) l then 0 else ((s - r) * t - mo (q - p) l - 1) / l + 1
theorem ov_eq {l p s q r t : Int} (hl : 1 ≤ l) (h : r ≤ s) (ht : 0 ≤ t) : (fr p s t - fr q r t - 1) / l - (fr p s 0 - fr q r 0 - 1) / l = ovN l p s q r t := by
  have hG : 0 ≤ (s - r) * t := Int.mul_nonneg (by omega) ht
  have eG : (s - r) * t = s * t - r * t := Int.sub_mul ..
  unfold ovN
  have m1 := mo_bd (q - p) l hl
  have em : mo (q - p) l = (q - p) - l * ((q - p) / l) := by
    unfold mo; have := Int.emod_add_mul_ediv (q - p) l; omega
  generalize hb : mo (q - p) l = b at *
  generalize hG2 : (s - r) * t = G at *
  generalize (q - p) / l = k at em
  have e1 : fr p s t - fr q r t - 1 = (G - b - 1) + l * (-k) := by unfold fr; rw [Int.mul_neg]; omega
  have e2 : fr p s 0 - fr q r 0 - 1 = (- b - 1) + l * (-k) := by unfold fr; rw [Int.mul_neg, Int.mul_zero, Int.mul_zero]; omega
  rw [e1, e2, Int.add_mul_ediv_left _ _ (by omega : l ≠ 0), Int.add_mul_ediv_left _ _ (by omega : l ≠ 0)]
  have e3 : (-b - 1) / l = -1 := by
    have : -b - 1 = (l - b - 1) + l * (-1) := by omega
    rw [this, Int.add_mul_ediv_left _ _ (by omega : l ≠ 0), Int.ediv_eq_zero_of_lt (by omega) (by omega)]; omega
  rw [e3]
  split
  · have e4 : (G - b - 1) / l = -1 := by
      have : G - b - 1 = (l + G - b - 1) + l * (-1) := by omega
      rw [this, Int.add_mul_ediv_left _ _ (by omega : l ≠ 0), Int.ediv_eq_zero_of_lt (by omega) (by omega)]; omega
    rw [e4]; omega
  · omega
theorem ov_zero {l p s q r t : Int} (hl : 1 ≤ l) (h : s ≤ r) (ht : 0 ≤ t) : ovN l p s q r t = 0 := by
  have m1 := mo_bd (q - p) l hl
  have : 0 ≤ (r - s) * t := Int.mul_nonneg (by omega) ht
  have e : (s - r) * t = -((r - s) * t) := by rw [Int.sub_mul, Int.sub_mul]; omega
  unfold ovN
  rw [if_pos (by omega)]
/-- a handicap -/
def haB (l p s q r n : Int) : Bool := rn2 l p s q r && lpsOk n && decide (n * l % s = 0)
def haV (l p s q r n : Int) : Int := ifI (haB l p s q r n) (fr p s (n * l / s) - fr q r (n * l / s))
end Go.Proofs.YtlfjgggidoakaaaDoor
