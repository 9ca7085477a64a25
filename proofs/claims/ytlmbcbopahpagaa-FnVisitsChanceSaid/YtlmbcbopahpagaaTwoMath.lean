/- Plain mathematics of chapter 2 (walkers): no program is named here. -/
import Derived.Test.YtlmbcbopahpagaaMath
namespace Go.Proofs.Ytlmbcbopahpagaa
open Go.RowKit
set_option linter.unusedVariables false

theorem rII {a b c d : Int} {e f : Bool} (h : a = b) (k : c = d) (l : e = f) : Ending.returned (.tuple #[.int .i64 a, .int .i64 c, .bool e]) = .returned (.tuple #[.int .i64 b, .int .i64 d, .bool f]) := by rw [h, k, l]
theorem rI2 {a b c d : Int} (h : a = b) (k : c = d) : Ending.returned (.tuple #[.int .i64 a, .int .i64 c]) = .returned (.tuple #[.int .i64 b, .int .i64 d]) := by rw [h, k]

/-- a number, or 0: no test to the walk -/
def ifI (c : Bool) (x : Int) : Int := if c then x else 0
/-- greatest common divisor, a fraction in lowest terms -/
def gc (a b : Int) : Int := (Int.gcd a b : Int)
def lwN (a b : Int) : Int := a.tdiv (gc a b)
def lwD (a b : Int) : Int := b.tdiv (gc a b)
def ab (x : Int) : Int := if x < 0 then -x else x
theorem ab_nonneg (x : Int) : 0 ≤ ab x := by unfold ab; split <;> omega
theorem ab_le {x B : Int} (h : -B ≤ x) (k : x ≤ B) : ab x ≤ B := by unfold ab; split <;> omega
theorem ab_natAbs (x : Int) : ab x = (x.natAbs : Int) := by unfold ab; split <;> omega
theorem gc_nonneg (a b : Int) : 0 ≤ gc a b := by unfold gc; omega
theorem gc_ab (a b : Int) : gc (ab a) b = gc a b := by
  unfold gc; rw [ab_natAbs]; simp [Int.gcd]
theorem gc_ab' (a b : Int) : gc a (ab b) = gc a b := by
  unfold gc; rw [ab_natAbs]; simp [Int.gcd]
theorem gc_zero (a : Int) (h : 0 ≤ a) : gc a 0 = a := by
  unfold gc; simp [Int.gcd]; omega
theorem gc_zero' (a : Int) (h : 0 ≤ a) : gc 0 a = a := by
  unfold gc; simp [Int.gcd]; omega
theorem gc_step (a b : Int) (ha : 0 ≤ a) (hb : 0 < b) : gc b (a % b) = gc a b := by
  obtain ⟨n, rfl⟩ := Int.eq_ofNat_of_zero_le ha
  obtain ⟨m, rfl⟩ := Int.eq_ofNat_of_zero_le (Int.le_of_lt hb)
  unfold gc
  have e : ((n : Int) % (m : Int)) = ((n % m : Nat) : Int) := by simp
  rw [e]
  simp only [Int.gcd, Int.natAbs_natCast]
  congr 1
  rw [Nat.gcd_comm m (n % m), Nat.gcd_comm n m]
  exact (Nat.gcd_rec m n).symm
theorem gc_neg (a b : Int) : gc (-a) (-b) = gc a b := by unfold gc; simp [Int.gcd]
theorem gc_pos {a b : Int} (h : b ≠ 0) : 1 ≤ gc a b := by
  unfold gc
  have := Nat.gcd_pos_of_pos_right a.natAbs (by omega : 0 < b.natAbs)
  simp only [Int.gcd]; omega
theorem gc_le {a b : Int} (h : 0 < b) : gc a b ≤ b := by
  unfold gc
  have := Nat.gcd_le_right a.natAbs (by omega : 0 < b.natAbs)
  simp only [Int.gcd]; omega
theorem gc_dvd_l (a b : Int) : gc a b ∣ a := by unfold gc; exact Int.gcd_dvd_left ..
theorem gc_dvd_r (a b : Int) : gc a b ∣ b := by unfold gc; exact Int.gcd_dvd_right ..
theorem lwD_pos {a b : Int} (h : 0 < b) : 1 ≤ lwD a b ∧ lwD a b ≤ b := by
  have h1 := gc_pos (a := a) (b := b) (by omega)
  obtain ⟨k, hk⟩ := gc_dvd_r a b
  unfold lwD
  generalize gc a b = g at h1 hk ⊢
  subst hk
  rw [Int.mul_tdiv_cancel_left _ (by omega)]
  have kp : 0 < k := by
    rcases Int.lt_or_le 0 k with q | q
    · exact q
    · have := Int.mul_nonneg (by omega : 0 ≤ g) (by omega : 0 ≤ -k)
      rw [Int.mul_neg] at this; omega
  have : 1 * k ≤ g * k := Int.mul_le_mul_of_nonneg_right h1 (by omega)
  omega
theorem tdiv_abs (a g : Int) (hg : 1 ≤ g) : -(ab a) ≤ a.tdiv g ∧ a.tdiv g ≤ ab a := by
  have h1 : (a.tdiv g).natAbs ≤ a.natAbs := by rw [Int.natAbs_tdiv]; exact Nat.div_le_self ..
  rw [ab_natAbs]; omega
theorem lwN_bd {a b B : Int} (h : b ≠ 0) (h1 : -B ≤ a) (h2 : a ≤ B) : -B ≤ lwN a b ∧ lwN a b ≤ B := by
  have := tdiv_abs a (gc a b) (gc_pos h)
  have := ab_le h1 h2
  unfold lwN; omega
theorem lwN_zero (b : Int) (h : 0 < b) : lwN 0 b = 0 ∧ lwD 0 b = 1 := by
  unfold lwN lwD; rw [gc_zero' b (by omega)]
  exact ⟨by simp, Int.tdiv_self (by omega)⟩
theorem lwN_neg (a b : Int) : lwN (-a) (-b) = (-a).tdiv (gc a b) ∧ lwD (-a) (-b) = (-b).tdiv (gc a b) := by
  unfold lwN lwD; rw [gc_neg]; exact ⟨rfl, rfl⟩

/-! ### Walkers -/
def wkOk (p s : Int) : Bool := inB p (-1000) 1000 && inB s (-100) 100
theorem wkOk_iff {p s : Int} : wkOk p s = true ↔ -1000 ≤ p ∧ p ≤ 1000 ∧ -100 ≤ s ∧ s ≤ 100 := by
  unfold wkOk; rw [Bool.and_eq_true, inB_iff, inB_iff]; omega
def tmOk (n d : Int) : Bool := inB n 0 1000000 && inB d 1 1000
theorem tmOk_iff {n d : Int} : tmOk n d = true ↔ 0 ≤ n ∧ n ≤ 1000000 ∧ 1 ≤ d ∧ d ≤ 1000 := by
  unfold tmOk; rw [Bool.and_eq_true, inB_iff, inB_iff]; omega
theorem mul_ab (a b A B : Int) (h1 : -A ≤ a) (h2 : a ≤ A) (h3 : -B ≤ b) (h4 : b ≤ B) : -(A * B) ≤ a * b ∧ a * b ≤ A * B := by
  have hA : 0 ≤ A := by omega
  have hB : 0 ≤ B := by omega
  have q : (a * b).natAbs ≤ (A * B).natAbs := by
    rw [Int.natAbs_mul, Int.natAbs_mul]; exact Nat.mul_le_mul (by omega) (by omega)
  have := Int.mul_nonneg hA hB
  omega
/-- a place at a time, as a fraction that is not yet in lowest terms -/
def plN (p s n d : Int) : Int := p * d + s * n
theorem plN_bd {p s n d P N D : Int} (h1 : -P ≤ p) (h2 : p ≤ P) (h3 : -100 ≤ s) (h4 : s ≤ 100) (h5 : -N ≤ n) (h6 : n ≤ N) (h7 : -D ≤ d) (h8 : d ≤ D) :
    -(P * D + 100 * N) ≤ plN p s n d ∧ plN p s n d ≤ P * D + 100 * N := by
  have a := mul_ab p d P D h1 h2 h7 h8
  have b := mul_ab s n 100 N h3 h4 h5 h6
  unfold plN; omega
/-- how far the faster one is behind, and how much nearer it comes -/
def bhd (p s q r : Int) : Int := if s < r then p - q else q - p
def nrr (s r : Int) : Int := ab (s - r)
theorem nrr_nonneg (s r : Int) : 0 ≤ nrr s r := ab_nonneg _
/-- do they meet, and when -/
def mtB (p s q r : Int) : Bool := decide (p = q) || (decide (0 ≤ bhd p s q r) && decide (s ≠ r))
def mtN (p s q r : Int) : Int := if p = q then 0 else lwN (bhd p s q r) (nrr s r)
def mtD (p s q r : Int) : Int := if p = q then 1 else lwD (bhd p s q r) (nrr s r)
def meN (p s q r : Int) : Int := if mtB p s q r then mtN p s q r else 0
def meD (p s q r : Int) : Int := if mtB p s q r then mtD p s q r else 0
def mpN (p s q r : Int) : Int := if mtB p s q r then lwN (plN p s (meN p s q r) (meD p s q r)) (meD p s q r) else 0
def mpD (p s q r : Int) : Int := if mtB p s q r then lwD (plN p s (meN p s q r) (meD p s q r)) (meD p s q r) else 0
theorem mtB_yes {p s q r : Int} (h : p = q ∨ (0 ≤ bhd p s q r ∧ s ≠ r)) : mtB p s q r = true := by
  unfold mtB; rcases h with h | ⟨h, k⟩ <;> simp [*]
theorem mtB_no {p s q r : Int} (h : p ≠ q) (k : bhd p s q r < 0 ∨ s = r) : mtB p s q r = false := by
  unfold mtB; rcases k with k | k <;> simp [*] <;> omega
/-- a remainder of at least 0 -/
def mo (n m : Int) : Int := n % m
theorem mo_eq (n m : Int) (h : 1 ≤ m) : (n.tmod m + m) % m = mo n m := by
  unfold mo
  rcases Int.le_total 0 n with q | q
  · rw [Int.tmod_eq_emod_of_nonneg q]; simp
  · obtain ⟨k, rfl⟩ : ∃ k, n = -k := ⟨-n, by omega⟩
    rw [Int.neg_tmod, Int.tmod_eq_emod_of_nonneg (by omega)]
    have e := Int.emod_add_mul_ediv k m
    have : -k = -(k % m) + m + m * (-(k / m) - 1) := by
      rw [Int.mul_sub, Int.mul_neg]; omega
    conv => rhs; rw [this]
    rw [Int.add_mul_emod_self_left]
theorem mo_bd (n m : Int) (h : 1 ≤ m) : 0 ≤ mo n m ∧ mo n m < m :=
  ⟨Int.emod_nonneg _ (by omega), Int.emod_lt_of_pos _ (by omega)⟩
theorem tmod_bd (n m : Int) (h : 1 ≤ m) : -m < n.tmod m ∧ n.tmod m < m := by
  rcases Int.le_total 0 n with q | q
  · rw [Int.tmod_eq_emod_of_nonneg q]
    have := Int.emod_nonneg n (show m ≠ 0 by omega)
    have := Int.emod_lt_of_pos n (show 0 < m by omega)
    omega
  · obtain ⟨k, rfl⟩ : ∃ k, n = -k := ⟨-n, by omega⟩
    rw [Int.neg_tmod, Int.tmod_eq_emod_of_nonneg (by omega)]
    have := Int.emod_nonneg k (show m ≠ 0 by omega)
    have := Int.emod_lt_of_pos k (show 0 < m by omega)
    omega
def bm (m p s q r : Int) : Int := mo (bhd p s q r) m
def rtB (m p s q r : Int) : Bool := decide (bm m p s q r = 0) || decide (s ≠ r)
def rtN (m p s q r : Int) : Int := if bm m p s q r = 0 then 0 else if s = r then 0 else lwN (bm m p s q r) (nrr s r)
def rtD (m p s q r : Int) : Int := if bm m p s q r = 0 then 1 else if s = r then 0 else lwD (bm m p s q r) (nrr s r)
def rgN (m s r : Int) : Int := if s = r then 0 else lwN m (nrr s r)
def rgD (m s r : Int) : Int := if s = r then 0 else lwD m (nrr s r)
def crN (m p s q r t : Int) : Int := if nrr s r * t < bm m p s q r then 0 else (nrr s r * t - bm m p s q r) / m + 1
theorem bhd_bd {p s q r : Int} (h : wkOk p s = true) (k : wkOk q r = true) : -2000 ≤ bhd p s q r ∧ bhd p s q r ≤ 2000 := by
  have := wkOk_iff.1 h; have := wkOk_iff.1 k; unfold bhd; split <;> omega
theorem nrr_bd {p s q r : Int} (h : wkOk p s = true) (k : wkOk q r = true) : 0 ≤ nrr s r ∧ nrr s r ≤ 200 := by
  have := wkOk_iff.1 h; have := wkOk_iff.1 k; unfold nrr ab; split <;> omega
theorem nrr_zero {s r : Int} : nrr s r = 0 ↔ s = r := by unfold nrr ab; split <;> omega
theorem bhd_lt {p s q r : Int} (h : s < r) : bhd p s q r = p - q := by unfold bhd; rw [if_pos h]
theorem bhd_ge {p s q r : Int} (h : ¬ s < r) : bhd p s q r = q - p := by unfold bhd; rw [if_neg h]
theorem nrr_lt {s r : Int} (h : s < r) : nrr s r = r - s := by unfold nrr ab; split <;> omega
theorem nrr_ge {s r : Int} (h : ¬ s < r) : nrr s r = s - r := by unfold nrr ab; split <;> omega
theorem mt_bd {p s q r : Int} (h : wkOk p s = true) (k : wkOk q r = true) : -2000 ≤ meN p s q r ∧ meN p s q r ≤ 2000 ∧ 0 ≤ meD p s q r ∧ meD p s q r ≤ 200 ∧ (mtB p s q r = true → 1 ≤ meD p s q r) := by
  have b1 := bhd_bd h k
  have b2 := nrr_bd h k
  unfold meN meD
  cases hm : mtB p s q r
  · simp
  · simp only [if_true]
    unfold mtN mtD
    by_cases e : p = q
    · simp [e]
    · rw [if_neg e, if_neg e]
      have hz : nrr s r ≠ 0 := by
        intro e2
        rw [mtB_no e (.inr (nrr_zero.1 e2))] at hm; cases hm
      have l1 := lwN_bd (a := bhd p s q r) (b := nrr s r) (B := 2000) hz (by omega) (by omega)
      have l2 := lwD_pos (a := bhd p s q r) (b := nrr s r) (by omega)
      omega
def gapN (p s q r n d : Int) : Int := ab (plN p s n d - plN q r n d)
theorem gapN_eq (p s q r n d : Int) : gapN p s q r n d = ab ((p - q) * d + (s - r) * n) := by
  unfold gapN plN; congr 1; rw [Int.sub_mul, Int.sub_mul]; omega
end Go.Proofs.Ytlmbcbopahpagaa
