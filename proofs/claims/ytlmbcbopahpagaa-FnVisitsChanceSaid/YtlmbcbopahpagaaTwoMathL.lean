/- Plain mathematics of chapter 2's leaders: no program is named here. -/
import Derived.Test.YtlmbcbopahpagaaTwoMath
namespace Go.Proofs.Ytlmbcbopahpagaa
open Go.RowKit
set_option linter.unusedVariables false
theorem lw_cross {a b : Int} (h : 0 < b) : lwN a b * b = a * lwD a b := by
  have g1 := gc_pos (a := a) (b := b) (by omega)
  obtain ⟨x, hx⟩ := gc_dvd_l a b
  obtain ⟨y, hy⟩ := gc_dvd_r a b
  unfold lwN lwD
  generalize gc a b = g at *
  subst hx; subst hy
  rw [Int.mul_tdiv_cancel_left _ (by omega), Int.mul_tdiv_cancel_left _ (by omega)]
  simp only [Int.mul_comm, Int.mul_left_comm]
theorem cross1 {a TD N TN B b : Int} (e : TN * N = B * TD) (h : a * N < B * b) (hN : 0 < N) (hD : 0 < TD) : a * TD < TN * b := by
  have h1 : (a * N) * TD < (B * b) * TD := Int.mul_lt_mul_of_pos_right h hD
  have h2 : (a * TD) * N = (a * N) * TD := by simp only [Int.mul_comm, Int.mul_left_comm]
  have h3 : (TN * b) * N = (B * b) * TD := by
    have : (TN * b) * N = (TN * N) * b := by simp only [Int.mul_comm, Int.mul_left_comm]
    rw [this, e]; simp only [Int.mul_comm, Int.mul_left_comm]
  exact Int.lt_of_mul_lt_mul_right (by rw [h2, h3]; exact h1) (Int.le_of_lt hN)
theorem cross2 {N TNj TDj B TNk TDk : Int} (e : TNj * N = B * TDj) (h : TNk * TDj < TNj * TDk) (hN : 0 < N) (hD : 0 < TDj) : N * TNk < B * TDk := by
  have h1 : (TNk * TDj) * N < (TNj * TDk) * N := Int.mul_lt_mul_of_pos_right h hN
  have h2 : (N * TNk) * TDj = (TNk * TDj) * N := by simp only [Int.mul_comm, Int.mul_left_comm]
  have h3 : (B * TDk) * TDj = (TNj * TDk) * N := by
    have : (TNj * TDk) * N = (TNj * N) * TDk := by simp only [Int.mul_comm, Int.mul_left_comm]
    rw [this, e]; simp only [Int.mul_comm, Int.mul_left_comm]
  exact Int.lt_of_mul_lt_mul_right (by rw [h2, h3]; exact h1) (Int.le_of_lt hD)
section
variable (ps ss : Nat → Int)
/-- the first leader among the first walkers -/
def fl : Nat → Nat
  | 0 => 0
  | j + 1 => if ps (fl j) < ps j ∨ (ps j = ps (fl j) ∧ ss (fl j) < ss j) then j else fl j
def tN (l j : Nat) : Int := meN (ps l) (ss l) (ps j) (ss j)
def tD (l j : Nat) : Int := meD (ps l) (ss l) (ps j) (ss j)
/-- who of the first walkers passes the leader l first -/
def nx (l : Nat) : Nat → Option Nat
  | 0 => none
  | j + 1 => if ss j ≤ ss l then nx l j else match nx l j with
    | none => some j
    | some k => if tN ps ss l j * tD ps ss l k < tN ps ss l k * tD ps ss l j ∨ (tN ps ss l j * tD ps ss l k = tN ps ss l k * tD ps ss l j ∧ ss k < ss j) then some j else some k
/-- the leaders from l on -/
def ldF (n : Nat) : Nat → Nat → List Int
  | 0, _ => []
  | f + 1, l => (l : Int) :: (match nx ps ss l n with | none => [] | some k => ldF n f k)
/-- all that are faster are behind at the time a / b -/
def Beh (n l : Nat) (a b : Int) : Prop := ∀ j, j < n → ss l < ss j → ps j * b + ss j * a < ps l * b + ss l * a
end
variable {ps ss : Nat → Int}
theorem fl_lt {n : Nat} (hn : 0 < n) : ∀ j, j ≤ n → fl ps ss j < n
  | 0, _ => hn
  | j + 1, h => by
    have := fl_lt hn j (by omega)
    simp only [fl]; split <;> omega
theorem fl_best : ∀ j i, i < j → ps i < ps (fl ps ss j) ∨ (ps i = ps (fl ps ss j) ∧ ss i ≤ ss (fl ps ss j))
  | 0, i, h => by omega
  | j + 1, i, h => by
    simp only [fl]
    by_cases q : i = j
    · subst q; split <;> omega
    · have a := fl_best j i (by omega)
      split <;> omega
theorem beh_first {n : Nat} : Beh ps ss n (fl ps ss n) 0 1 := fun j hj hs => by
  have := fl_best (ps := ps) (ss := ss) n j hj
  omega
theorem nx_lt {l k : Nat} : ∀ {j}, nx ps ss l j = some k → k < j ∧ ss l < ss k
  | 0, h => by simp [nx] at h
  | j + 1, h => by
    simp only [nx] at h
    split at h
    · have := nx_lt h; omega
    · split at h
      · injection h with h; subst h; omega
      · rename_i k' hk'
        split at h
        · injection h with h; subst h; omega
        · injection h with h; subst h; have := nx_lt hk'; omega
theorem nx_none {l : Nat} : ∀ {j}, nx ps ss l j = none → ∀ i, i < j → ss i ≤ ss l
  | 0, _, i, hi => by omega
  | j + 1, h, i, hi => by
    simp only [nx] at h
    split at h
    · by_cases q : i = j
      · subst q; assumption
      · exact nx_none h i (by omega)
    · split at h <;> (try split at h) <;> cases h
theorem meet_cross {p s q r : Int} (h : wkOk p s = true) (k : wkOk q r = true) (hs : s < r) (hp : q < p) : mtB p s q r = true ∧ meN p s q r * (r - s) = (p - q) * meD p s q r ∧ 1 ≤ meD p s q r ∧ 0 ≤ meN p s q r ∧ meN p s q r ≤ 2000 ∧ meD p s q r ≤ 200 := by
  have hb : mtB p s q r = true := mtB_yes (.inr ⟨by unfold bhd; rw [if_pos hs]; omega, by omega⟩)
  have bd := mt_bd h k
  have e1 : meN p s q r = lwN (p - q) (r - s) := by unfold meN mtN; rw [hb, if_pos rfl, if_neg (by omega), bhd_lt hs, nrr_lt hs]
  have e2 : meD p s q r = lwD (p - q) (r - s) := by unfold meD mtD; rw [hb, if_pos rfl, if_neg (by omega), bhd_lt hs, nrr_lt hs]
  have c := lw_cross (a := p - q) (b := r - s) (by omega)
  rw [← e1, ← e2] at c
  have d := bd.2.2.2.2 hb
  refine ⟨hb, c, d, ?_, bd.2.1, bd.2.2.2.1⟩
  rcases Int.lt_or_le (meN p s q r) 0 with q1 | q1
  · have := Int.mul_neg_of_neg_of_pos q1 (show 0 < r - s by omega)
    have := Int.mul_pos (show 0 < p - q by omega) (show 0 < meD p s q r by omega)
    omega
  · exact q1
theorem meet_symm {p s q r : Int} (h : s ≠ r) : meN q r p s = meN p s q r ∧ meD q r p s = meD p s q r ∧ mtB q r p s = mtB p s q r := by
  have e1 : bhd q r p s = bhd p s q r := by unfold bhd; split <;> split <;> omega
  have e2 : nrr r s = nrr s r := by unfold nrr ab; split <;> split <;> omega
  have e3 : mtB q r p s = mtB p s q r := by
    unfold mtB; rw [e1]
    have : decide (q = p) = decide (p = q) := by rw [decide_eq_decide]; exact ⟨Eq.symm, Eq.symm⟩
    have : decide (r ≠ s) = decide (s ≠ r) := by rw [decide_eq_decide]; exact ⟨Ne.symm, Ne.symm⟩
    simp [*]
  refine ⟨?_, ?_, e3⟩
  · unfold meN mtN; rw [e3, e1, e2]; by_cases e : p = q
    · subst e; rfl
    · have e' : q ≠ p := fun h => e h.symm
      simp [e, e']
  · unfold meD mtD; rw [e3, e1, e2]; by_cases e : p = q
    · subst e; rfl
    · have e' : q ≠ p := fun h => e h.symm
      simp [e, e']
/-- One that is faster and behind at a / b meets the leader, and later. -/
theorem meet_of_beh {l j : Nat} {a b : Int} (hl : wkOk (ps l) (ss l) = true) (hj : wkOk (ps j) (ss j) = true) (a0 : 0 ≤ a) (b0 : 1 ≤ b) (hs : ss l < ss j) (h : ps j * b + ss j * a < ps l * b + ss l * a) :
    mtB (ps l) (ss l) (ps j) (ss j) = true ∧ a * tD ps ss l j < tN ps ss l j * b ∧ tN ps ss l j * (ss j - ss l) = (ps l - ps j) * tD ps ss l j ∧ 1 ≤ tD ps ss l j ∧ 0 ≤ tN ps ss l j ∧ tN ps ss l j ≤ 2000 ∧ tD ps ss l j ≤ 200 := by
  have h1 : a * (ss j - ss l) < (ps l - ps j) * b := by
    rw [Int.mul_sub, Int.sub_mul, Int.mul_comm a, Int.mul_comm a]; omega
  have hp : ps j < ps l := by
    rcases Int.lt_or_le (ps j) (ps l) with q | q
    · exact q
    · have := Int.mul_nonneg a0 (show 0 ≤ ss j - ss l by omega)
      have := Int.mul_nonneg (show 0 ≤ ps j - ps l by omega) (show 0 ≤ b by omega)
      have e : (ps l - ps j) * b = -((ps j - ps l) * b) := by rw [← Int.neg_mul]; congr 1; omega
      omega
  obtain ⟨c1, c2, c3, c4, c5, c6⟩ := meet_cross hl hj hs hp
  exact ⟨c1, cross1 c2 h1 (by omega) (by unfold tD at *; omega), c2, c3, c4, c5, c6⟩
/-- what the one that passes first is among those that pass -/
theorem nx_best {l k n : Nat} {a b : Int} (hw : ∀ i, i < n → wkOk (ps i) (ss i) = true) (hl : wkOk (ps l) (ss l) = true) (a0 : 0 ≤ a) (b0 : 1 ≤ b) (hB : Beh ps ss n l a b) :
    ∀ {j}, j ≤ n → nx ps ss l j = some k → ∀ i, i < j → ss l < ss i → tN ps ss l k * tD ps ss l i < tN ps ss l i * tD ps ss l k ∨ (tN ps ss l k * tD ps ss l i = tN ps ss l i * tD ps ss l k ∧ ss i ≤ ss k) := by
  intro j
  induction j generalizing k with
  | zero => intro _ h; simp [nx] at h
  | succ j ih =>
    intro hj h i hi hs
    simp only [nx] at h
    split at h
    · rename_i hle
      by_cases q : i = j
      · subst q; omega
      · exact ih (by omega) h i (by omega) hs
    · rename_i hgt
      split at h
      · rename_i hn
        injection h with h; subst h
        by_cases q : i = j
        · subst q; right; exact ⟨rfl, Int.le_refl _⟩
        · have := nx_none hn i (by omega); omega
      · rename_i k' hk'
        have hk'2 := nx_lt hk'
        have fk := meet_of_beh hl (hw k' (by omega)) a0 b0 hk'2.2 (hB k' (by omega) hk'2.2)
        have fj := meet_of_beh hl (hw j (by omega)) a0 b0 (by omega) (hB j (by omega) (by omega))
        split at h
        · rename_i hc
          injection h with h; subst h
          by_cases q : i = j
          · subst q; right; exact ⟨rfl, Int.le_refl _⟩
          · have fi := meet_of_beh hl (hw i (by omega)) a0 b0 hs (hB i (by omega) hs)
            have h1 := ih (by omega) hk' i (by omega) hs
            generalize tN ps ss l k' = A at *
            generalize tD ps ss l k' = B at *
            generalize tN ps ss l j = C at *
            generalize tD ps ss l j = D at *
            generalize tN ps ss l i = E at *
            generalize tD ps ss l i = F at *
            -- A/B vs E/F, C/D vs A/B
            have X1 : C * F * B = C * B * F := by simp only [Int.mul_comm, Int.mul_left_comm]
            have X2 : E * D * B = E * B * D := by simp only [Int.mul_comm, Int.mul_left_comm]
            have X3 : A * D * F = A * F * D := by simp only [Int.mul_comm, Int.mul_left_comm]
            have k1 : C * B ≤ A * D := by rcases hc with q | ⟨q, _⟩ <;> omega
            have k2 : A * F ≤ E * B := by rcases h1 with q | ⟨q, _⟩ <;> omega
            have k3 : C * B * F ≤ A * D * F := Int.mul_le_mul_of_nonneg_right k1 (by omega)
            have k4 : A * F * D ≤ E * B * D := Int.mul_le_mul_of_nonneg_right k2 (by omega)
            rcases Int.lt_or_le (C * F) (E * D) with q2 | q2
            · exact .inl q2
            · have k5 : E * D * B ≤ C * F * B := Int.mul_le_mul_of_nonneg_right q2 (by omega)
              have e1 : C * B * F = A * D * F := by omega
              have e2 : A * F * D = E * B * D := by omega
              have e3 : C * B = A * D := Int.eq_of_mul_eq_mul_right (by omega) e1
              have e4 : A * F = E * B := Int.eq_of_mul_eq_mul_right (by omega) e2
              have e5 : C * F * B = E * D * B := by omega
              have e6 : C * F = E * D := Int.eq_of_mul_eq_mul_right (by omega) e5
              refine .inr ⟨e6, ?_⟩
              rcases hc with q | ⟨_, q⟩
              · omega
              · rcases h1 with q3 | ⟨_, q3⟩ <;> omega
        · rename_i hc
          injection h with h; subst h
          by_cases q : i = j
          · subst q
            rcases Int.lt_trichotomy (tN ps ss l k' * tD ps ss l i) (tN ps ss l i * tD ps ss l k') with q | q | q
            · exact .inl q
            · refine .inr ⟨q, ?_⟩
              rcases Int.lt_or_le (ss k') (ss i) with q2 | q2
              · exact absurd (.inr ⟨q.symm, q2⟩) hc
              · exact q2
            · exact absurd (.inl q) hc
          · exact ih (by omega) hk' i (by omega) hs
theorem beh_next {l k n : Nat} {a b : Int} (hw : ∀ i, i < n → wkOk (ps i) (ss i) = true) (hl : wkOk (ps l) (ss l) = true) (a0 : 0 ≤ a) (b0 : 1 ≤ b) (hB : Beh ps ss n l a b) (hk : nx ps ss l n = some k) :
    Beh ps ss n k (tN ps ss l k) (tD ps ss l k) ∧ k < n ∧ ss l < ss k ∧ 1 ≤ tD ps ss l k ∧ 0 ≤ tN ps ss l k ∧ tN ps ss l k ≤ 2000 ∧ tD ps ss l k ≤ 200 := by
  obtain ⟨k1, k2⟩ := nx_lt hk
  have fk := meet_of_beh hl (hw k k1) a0 b0 k2 (hB k k1 k2)
  refine ⟨fun j hj hs => ?_, k1, k2, fk.2.2.2.1, fk.2.2.2.2.1, fk.2.2.2.2.2.1, fk.2.2.2.2.2.2⟩
  have fj := meet_of_beh hl (hw j hj) a0 b0 (by omega) (hB j hj (by omega))
  have best := nx_best hw hl a0 b0 hB (Nat.le_refl n) hk j hj (by omega)
  have hlt : tN ps ss l k * tD ps ss l j < tN ps ss l j * tD ps ss l k := by rcases best with q | ⟨_, q⟩ <;> omega
  have c := cross2 fj.2.2.1 hlt (by omega) (by omega)
  have e := fk.2.2.1
  have e1 : (ss j - ss l) * tN ps ss l k = ss j * tN ps ss l k - ss l * tN ps ss l k := Int.sub_mul ..
  have e2 : (ps l - ps j) * tD ps ss l k = ps l * tD ps ss l k - ps j * tD ps ss l k := Int.sub_mul ..
  have e3 : tN ps ss l k * (ss k - ss l) = ss k * tN ps ss l k - ss l * tN ps ss l k := by rw [Int.mul_sub, Int.mul_comm, Int.mul_comm (tN ps ss l k) (ss l)]
  have e4 : (ps l - ps k) * tD ps ss l k = ps l * tD ps ss l k - ps k * tD ps ss l k := Int.sub_mul ..
  omega
theorem ldF_len {n : Nat} : ∀ f l, (ldF ps ss n f l).length ≤ f
  | 0, _ => by simp [ldF]
  | f + 1, l => by
    simp only [ldF, List.length_cons]
    split
    · simp
    · rename_i k _; have := ldF_len (n := n) f k; omega
/-- how many of the first walkers are faster -/
def cnt (ss : Nat → Int) (l : Nat) : Nat → Nat
  | 0 => 0
  | j + 1 => cnt ss l j + (if ss l < ss j then 1 else 0)
theorem cnt_le (l : Nat) : ∀ j, cnt ss l j ≤ j
  | 0 => by simp [cnt]
  | j + 1 => by have := cnt_le l j; simp only [cnt]; split <;> omega
theorem cnt_mono {l k : Nat} (h : ss l < ss k) : ∀ j, cnt ss k j ≤ cnt ss l j
  | 0 => by simp [cnt]
  | j + 1 => by have := cnt_mono h j; simp only [cnt]; split <;> split <;> omega
theorem cnt_lt {l k : Nat} (h : ss l < ss k) : ∀ j, k < j → cnt ss k j < cnt ss l j
  | 0, hj => by omega
  | j + 1, hj => by
    by_cases q : k = j
    · subst q
      have := cnt_mono (ss := ss) h k
      simp only [cnt]; rw [if_neg (by omega), if_pos h]; omega
    · have := cnt_lt h j (by omega)
      simp only [cnt]; split <;> split <;> omega
end Go.Proofs.Ytlmbcbopahpagaa
