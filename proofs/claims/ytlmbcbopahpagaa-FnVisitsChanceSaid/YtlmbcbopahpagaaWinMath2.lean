/- Plain mathematics of chapter 8 (windows), the program's ways: no program is named here. -/
import Derived.Test.YtlmbcbopahpagaaWinMath
import Derived.Test.YtlmbcbopahpagaaCmpI
namespace Go.Proofs.Ytlmbcbopahpagaa
open Go.RowKit
set_option linter.unusedVariables false
theorem wtri_bd (k : Int) (h : k ≤ 200) : 0 ≤ wtri k ∧ wtri k ≤ 20100 := by
  unfold wtri
  split
  · omega
  · have := mul_bd k (k + 1) 200 201 (by omega) (by omega) (by omega) (by omega)
    omega
theorem caN_bd {m a : Int} (h : 0 ≤ m) (h2 : m ≤ 200) (h3 : 0 ≤ a) : 0 ≤ caN m a ∧ caN m a ≤ 400 := by
  unfold caN wps; (repeat' split) <;> omega
/-- the sum of how far pairs are apart, of the first distances -/
def maS (m : Int) : Nat → Int
  | 0 => 0
  | j + 1 => maS m j + (j : Int) * caN m (j : Int)
theorem maS_eq {m : Int} : ∀ j : Nat, (j : Int) ≤ m → 3 * maS m j = 3 * (m * ((j : Int) * ((j : Int) - 1))) - ((j : Int) - 1) * ((j : Int) * (2 * (j : Int) - 1))
  | 0, _ => by simp [maS]
  | j + 1, h => by
    have ih := maS_eq (m := m) j (by omega)
    have e : (j : Int) * caN m (j : Int) = 2 * ((j : Int) * (m - (j : Int))) := by
      by_cases h0 : j = 0
      · subst h0; simp
      · have : caN m (j : Int) = 2 * (m - (j : Int)) := by unfold caN wps; rw [if_neg (by omega), if_neg (by omega)]
        rw [this]; grind
    have e3 : maS m (j + 1) = maS m j + (j : Int) * caN m (j : Int) := rfl
    rw [e3, e]
    have e2 : ((j + 1 : Nat) : Int) = (j : Int) + 1 := by omega
    rw [e2]
    generalize (j : Int) = x at *
    generalize maS m j = y at *
    grind
theorem maS_low {m : Int} {M : Nat} (h : 1 ≤ m) (e : m = (M : Int)) : lwN (maS m M) (m * m) = lwN (m * m - 1) (3 * m) ∧ lwD (maS m M) (m * m) = lwD (m * m - 1) (3 * m) := by
  have q := maS_eq (m := m) M (by omega)
  rw [← e] at q
  have s : 1 * 1 ≤ m * m := Int.mul_le_mul h h (by omega) (by omega)
  refine lw_cross2 (by omega) (by omega) ?_
  generalize maS m M = y at *
  have e1 : y * (3 * m) = m * (3 * y) := by grind
  rw [e1, q]
  grind
theorem maS_bd {m : Int} (h : 0 ≤ m) (h2 : m ≤ 200) : ∀ j : Nat, (j : Int) ≤ m → 0 ≤ maS m j ∧ maS m j ≤ 80000 * (j : Int)
  | 0, _ => by simp [maS]
  | j + 1, hj => by
    have ih := maS_bd h h2 j (by omega)
    have c := caN_bd (m := m) (a := (j : Int)) h h2 (by omega)
    have c2 := mul_bd (j : Int) (caN m (j : Int)) 200 400 (by omega) (by omega) c.1 c.2
    unfold maS
    omega
theorem ls_low {u v : Int} {L j : Nat} (h : wlOk (L : Int) (j : Int) (j : Int) = true) :
    0 ≤ lwN (wsS (L : Int) (j : Int) (j : Int)) (2 * (L : Int) * (L : Int)) ∧ lwN (wsS (L : Int) (j : Int) (j : Int)) (2 * (L : Int) * (L : Int)) ≤ 80000 ∧ 1 ≤ lwD (wsS (L : Int) (j : Int) (j : Int)) (2 * (L : Int) * (L : Int)) ∧ lwD (wsS (L : Int) (j : Int) (j : Int)) (2 * (L : Int) * (L : Int)) ≤ 80000 ∧
    (lsB (L : Int) u v j = true ↔ 0 ≤ cmpI (lwN (wsS (L : Int) (j : Int) (j : Int)) (2 * (L : Int) * (L : Int)) * v) (u * lwD (wsS (L : Int) (j : Int) (j : Int)) (2 * (L : Int) * (L : Int)))) := by
  have b := wsS_bd h
  have d := lwD_pos (a := wsS (L : Int) (j : Int) (j : Int)) (b := 2 * (L : Int) * (L : Int)) (by omega)
  have n := lwN_bd (a := wsS (L : Int) (j : Int) (j : Int)) (b := 2 * (L : Int) * (L : Int)) (B := 80000) (by omega) (by omega) (by omega)
  have p := lw_parts (a := wsS (L : Int) (j : Int) (j : Int)) (b := 2 * (L : Int) * (L : Int)) (by omega)
  have hb : lsB (L : Int) u v j = true ↔ u * (2 * (L : Int) * (L : Int)) ≤ wsS (L : Int) (j : Int) (j : Int) * v := by
    unfold lsB
    rw [decide_eq_true_iff, show u * 2 * (L : Int) * (L : Int) = u * (2 * (L : Int) * (L : Int)) by grind]
  rw [hb]
  generalize wsS (L : Int) (j : Int) (j : Int) = W at *
  generalize 2 * (L : Int) * (L : Int) = D at *
  generalize lwN W D = x at *
  generalize lwD W D = y at *
  generalize gc W D = g at *
  have hg : 0 < g := by
    rcases Int.lt_trichotomy g 0 with q | q | q
    · have := Int.mul_neg_of_neg_of_pos q (show 0 < y by omega); omega
    · subst q; simp at p; omega
    · exact q
  have hx : 0 ≤ x := by
    rcases Int.lt_or_le x 0 with q | q
    · have := Int.mul_neg_of_pos_of_neg hg q; omega
    · exact q
  refine ⟨hx, by omega, d.1, by omega, ?_⟩
  have e1 : u * D = g * (u * y) := by rw [← p.2]; grind
  have e2 : W * v = g * (x * v) := by rw [← p.1]; grind
  rw [e1, e2]
  have e3 : 0 ≤ cmpI (x * v) (u * y) ↔ u * y ≤ x * v := by unfold cmpI; (repeat' split) <;> omega
  rw [e3]
  exact ⟨fun h => Int.le_of_mul_le_mul_left h hg, fun h => Int.mul_le_mul_of_nonneg_left h (by omega)⟩
end Go.Proofs.Ytlmbcbopahpagaa
