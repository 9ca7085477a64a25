/- Plain mathematics: where one is on legs at a time, as the program reckons it. -/
import Derived.Test.YtjgicbfgbcihoaaLegCalc
import Derived.Test.YtjgicbfgbcihoaaLegList
namespace Go.Proofs.Ytjgicbfgbcihoaa
open Go.RowKit
set_option linter.unusedVariables false
/-- the leg on which one is, the last one behind the end -/
def lgA (xs : List (Int × Int)) (u v : Int) : Nat := if lgOn xs u v xs.length 0 < xs.length then lgOn xs u v xs.length 0 else xs.length - 1
theorem lgA_lt (xs : List (Int × Int)) (u v : Int) (h : 1 ≤ xs.length) : lgA xs u v < xs.length := by unfold lgA; split <;> omega
theorem lgOn_stop (xs : List (Int × Int)) (u v : Int) : ∀ k n, lgOn xs u v k n < k + n → u * (lgT xs (lgOn xs u v k n + 1)).2 < (lgT xs (lgOn xs u v k n + 1)).1 * v
  | 0, n, h => by unfold lgOn at h; omega
  | k + 1, n, h => by
    unfold lgOn at h ⊢
    split
    · assumption
    · rename_i q
      rw [if_neg q] at h
      exact lgOn_stop xs u v k (n + 1) (by omega)
theorem lgOn_pass (xs : List (Int × Int)) (u v : Int) : ∀ k n j, n ≤ j → j < lgOn xs u v k n → (lgT xs (j + 1)).1 * v ≤ u * (lgT xs (j + 1)).2
  | 0, n, j, h1, h2 => by unfold lgOn at h2; omega
  | k + 1, n, j, h1, h2 => by
    unfold lgOn at h2
    split at h2
    · omega
    · rename_i q
      by_cases e : j = n
      · subst e; omega
      · exact lgOn_pass xs u v k (n + 1) j (by omega) h2
theorem lgA_ok (xs : List (Int × Int)) (u v : Int) (u1 : 0 ≤ u) : (lgT xs (lgA xs u v)).1 * v ≤ u * (lgT xs (lgA xs u v)).2 := by
  have hok := lgOn_ok xs u v xs.length 0 (by show (0 : Int) * v ≤ u * 1; omega)
  have hp := lgOn_pass xs u v xs.length 0
  unfold lgA
  split
  · exact hok
  · by_cases e : xs.length - 1 = 0
    · rw [e]; show (0 : Int) * v ≤ u * 1; omega
    · have := hp (xs.length - 2) (by omega) (by omega)
      rw [show xs.length - 2 + 1 = xs.length - 1 by omega] at this
      exact this
theorem lgL_mono {xs : List (Int × Int)} (ht : ∀ i, i < xs.length → lgOk (px xs i) (py xs i) = true) {j : Nat} : ∀ k, j + k ≤ xs.length → lgL xs j ≤ lgL xs (j + k)
  | 0, _ => Int.le_refl _
  | k + 1, h => by
    have ih := lgL_mono ht (j := j) k (by omega)
    have b := lgOk_iff.1 (ht (j + k) (by omega))
    show _ ≤ lgL xs (j + k) + px xs (j + k)
    omega
/-- the place as the program has it before it looks at the end -/
def plX (xs : List (Int × Int)) (u v : Int) (k : Nat) : Int := lwN (lgL xs k * plB xs u v k + py xs k * plA xs u v k) (plB xs u v k)
def plY (xs : List (Int × Int)) (u v : Int) (k : Nat) : Int := lwD (lgL xs k * plB xs u v k + py xs k * plA xs u v k) (plB xs u v k)
theorem place_fin {xs : List (Int × Int)} {u v : Int} (ht : ∀ i, i < xs.length → lgOk (px xs i) (py xs i) = true) (hl1 : 1 ≤ xs.length) (hl : xs.length ≤ 5) (u1 : 0 ≤ u) (v1 : 1 ≤ v) :
    (if lgL xs xs.length * plY xs u v (lgA xs u v) < plX xs u v (lgA xs u v) then lgL xs xs.length else plX xs u v (lgA xs u v)) = plcN xs u v (lgOn xs u v xs.length 0) ∧
    (if lgL xs xs.length * plY xs u v (lgA xs u v) < plX xs u v (lgA xs u v) then 1 else plY xs u v (lgA xs u v)) = plcD xs u v (lgOn xs u v xs.length 0) := by
  have hle := lgOn_le xs u v xs.length 0
  have hst := lgOn_stop xs u v xs.length 0
  have hok := lgOn_ok xs u v xs.length 0 (by show (0 : Int) * v ≤ u * 1; omega)
  have hA : lgA xs u v = if lgOn xs u v xs.length 0 < xs.length then lgOn xs u v xs.length 0 else xs.length - 1 := rfl
  have hAl := lgA_lt xs u v hl1
  generalize lgOn xs u v xs.length 0 = n at *
  generalize lgA xs u v = k at *
  have bt := lgT_num ht hl (j := k) (by omega)
  have bT := lgT_num ht hl (j := k + 1) (by omega)
  have bq := lgOk_iff.1 (ht k hAl)
  have hT : (lgT xs (k + 1)).1 * ((lgT xs k).2 * py xs k) = ((lgT xs k).1 * py xs k + px xs k * (lgT xs k).2) * (lgT xs (k + 1)).2 := lw_cross (by have := mul_pos1 bt.1 bq.2.2.1; omega)
  have pc := place_cross (s := lgL xs k) (l := px xs k) (f := py xs k) (u := u) (v := v) (p := (lgT xs k).1) (q := (lgT xs k).2) (T := (lgT xs (k + 1)).1) (Q := (lgT xs (k + 1)).2) bq.2.2.1 v1 bt.1 bT.1 hT
  have pX : (u * (lgT xs (k + 1)).2 < (lgT xs (k + 1)).1 * v ↔ plX xs u v k < lgL xs (k + 1) * plY xs u v k) ∧ ((lgT xs (k + 1)).1 * v < u * (lgT xs (k + 1)).2 ↔ lgL xs (k + 1) * plY xs u v k < plX xs u v k) := pc
  have hB : 1 ≤ plB xs u v k := (lwD_pos (by have := mul_pos1 v1 bt.1; omega)).1
  have hY : 1 ≤ plY xs u v k := (lwD_pos (by omega)).1
  have cX : plX xs u v k * plB xs u v k = (lgL xs k * plB xs u v k + py xs k * plA xs u v k) * plY xs u v k := lw_cross (by omega)
  by_cases hn : n < xs.length
  · rw [if_pos hn] at hA
    subst hA
    have h1 := pX.1.1 (hst (by omega))
    have h2 := lgL_mono ht (j := k + 1) (xs.length - (k + 1)) (by omega)
    rw [show k + 1 + (xs.length - (k + 1)) = xs.length by omega] at h2
    have h3 := Int.mul_le_mul_of_nonneg_right h2 (show 0 ≤ plY xs u v k by omega)
    have h4 : ¬ (lgL xs xs.length * plY xs u v k < plX xs u v k) := by omega
    rw [if_neg h4, if_neg h4]
    unfold plcN plcD
    rw [if_neg (by omega), if_neg (by omega)]
    exact ⟨rfl, rfl⟩
  · rw [if_neg hn] at hA
    have en : n = xs.length := by omega
    have ek : k + 1 = xs.length := by omega
    rw [ek] at pX
    rw [en] at hok ⊢
    unfold plcN plcD
    rw [if_pos rfl, if_pos rfl]
    by_cases q : lgL xs xs.length * plY xs u v k < plX xs u v k
    · rw [if_pos q, if_pos q]; exact ⟨rfl, rfl⟩
    · rw [if_neg q, if_neg q]
      have e : plX xs u v k = lgL xs xs.length * plY xs u v k := by
        have := pX.1
        omega
      have e2 : (lgL xs k * plB xs u v k + py xs k * plA xs u v k) * 1 = lgL xs xs.length * plB xs u v k := by
        have z : ((lgL xs k * plB xs u v k + py xs k * plA xs u v k) * 1) * plY xs u v k = (lgL xs xs.length * plB xs u v k) * plY xs u v k := by
          rw [Int.mul_one, ← cX, e]; ac_rfl
        exact Int.eq_of_mul_eq_mul_right (by omega) z
      have w := lw_same (a := lgL xs k * plB xs u v k + py xs k * plA xs u v k) (b := plB xs u v k) (c := lgL xs xs.length) (d := 1) hB (by omega) e2
      rw [(lw_one _).1, (lw_one _).2] at w
      exact w
/-- the program's sums -/
theorem place_sum {s f a b : Int} (hb : 1 ≤ b) : lwN (plN2 s 1 (lwN (a * f) b) (lwD (a * f) b)) (plD2 1 (lwD (a * f) b)) = lwN (s * b + f * a) b ∧ lwD (plN2 s 1 (lwN (a * f) b) (lwD (a * f) b)) (plD2 1 (lwD (a * f) b)) = lwD (s * b + f * a) b := by
  have p := lwD_pos (a := a * f) (b := b) (by omega)
  have c := lw_cross (a := a * f) (b := b) (by omega)
  have v := plus_val (n := s) (d := 1) (m := lwN (a * f) b) (e := lwD (a * f) b) (A := s) (B := 1) (C := a * f) (D := b) (by omega) p.1 (by omega) hb rfl c
  rw [Int.one_mul, Int.mul_one, Int.mul_comm a f] at v
  rw [Int.mul_comm a f]
  exact v
end Go.Proofs.Ytjgicbfgbcihoaa
