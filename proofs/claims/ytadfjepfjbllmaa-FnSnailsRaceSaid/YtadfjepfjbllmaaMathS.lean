/- Plain mathematics of chapter 1's day of a snail with changing slips: no program is named here. -/
import Derived.Test.YtadfjepfjbllmaaMathG
namespace Go.Proofs.Ytadfjepfjbllmaa
open Go.RowKit
set_option linter.unusedVariables false
/-- the evening of the day k + 1, if there is no top -/
def ev0 (up : Int) (xs : List Int) (k : Nat) : Int := po up xs 0 k + up
/-- the day on which a wall of n is climbed first, if it ever is -/
def Ans (up : Int) (xs : List Int) (n D : Int) (ok : Bool) : Prop :=
  (ok = true ∧ ∃ k : Nat, D = (k : Int) + 1 ∧ n ≤ ev0 up xs k ∧ ∀ j, j < k → ev0 up xs j < n) ∨ (ok = false ∧ D = 0 ∧ ∀ j, ev0 up xs j < n)
theorem ans_unique {up : Int} {xs : List Int} {n D D' : Int} {ok ok' : Bool} (h : Ans up xs n D ok) (h' : Ans up xs n D' ok') : D = D' ∧ ok = ok' := by
  rcases h with ⟨rfl, k, rfl, h1, h2⟩ | ⟨rfl, rfl, h1⟩ <;> rcases h' with ⟨rfl, k', rfl, g1, g2⟩ | ⟨rfl, rfl, g1⟩
  · have : k = k' := by
      rcases Nat.lt_trichotomy k k' with q | q | q
      · have := g2 k q; omega
      · exact q
      · have := h2 k' q; omega
    subst this; exact ⟨rfl, rfl⟩
  · have := g1 k; omega
  · have := h1 k'; omega
  · exact ⟨rfl, rfl⟩
theorem ev0_split (up : Int) (xs : List Int) (b i : Nat) : ev0 up xs (xs.length * b + i) = po up xs (mr up xs b) i + up := by
  unfold ev0 mr; rw [po_shift]
theorem mr_const {up : Int} {xs : List Int} {a : Nat} (h : mr up xs (a + 1) ≤ mr up xs a) (c : Nat) : mr up xs (a + c) = mr up xs a := by
  have e : mr up xs (a + 1) = mr up xs a := by have := (mr_lin up xs a).2.1; omega
  induction c with
  | zero => rfl
  | succ c ih => rw [← Nat.add_assoc, mr_succ, ih, ← mr_succ, e]
theorem never {up : Int} {xs : List Int} {n : Int} {a : Nat} (hL : 1 ≤ xs.length) (h : mr up xs (a + 1) ≤ mr up xs a) (k : ∀ j, j < xs.length * (a + 1) → ev0 up xs j < n) (j : Nat) : ev0 up xs j < n := by
  have e := Nat.div_add_mod j xs.length
  have m := Nat.mod_lt j (show 0 < xs.length by omega)
  by_cases q : j / xs.length ≤ a
  · refine k j ?_
    have : xs.length * (j / xs.length) ≤ xs.length * a := Nat.mul_le_mul_left _ q
    rw [Nat.mul_succ]; omega
  · obtain ⟨c, hc⟩ : ∃ c, j / xs.length = a + c := ⟨j / xs.length - a, by omega⟩
    rw [← e, hc, ev0_split, mr_const h c, ← ev0_split]
    refine k _ ?_
    rw [Nat.mul_succ]; omega
theorem mr_lt {up : Int} {xs : List Int} {n : Int} {a : Nat} (hs : slOk up xs = true) (hn : 1 ≤ n) (k : ∀ j, j < xs.length * a → ev0 up xs j < n) : mr up xs a < n := by
  obtain ⟨_, _, h3, _, h5⟩ := slOk_iff hs
  cases a with
  | zero => rw [mr_zero]; omega
  | succ a =>
    have hp : 0 < xs.length * (a + 1) := Nat.mul_pos (by omega) (by omega)
    obtain ⟨m, hm⟩ : ∃ m, xs.length * (a + 1) = m + 1 := ⟨xs.length * (a + 1) - 1, by omega⟩
    have := k m (by omega)
    unfold mr; rw [hm]; simp only [po]
    unfold ev0 at this
    have := hig_bd 0 (po up xs 0 m + up - slp xs m)
    have := h5 m
    omega
theorem po_lip {up : Int} {xs : List Int} {h x : Int} (hx : 0 ≤ x) (k : Nat) : po up xs (h + x) k ≤ po up xs h k + x := by
  induction k with
  | zero => simp only [po]; omega
  | succ k ih =>
    have a := hig_bd 0 (po up xs (h + x) k + up - slp xs k)
    have b := hig_bd 0 (po up xs h k + up - slp xs k)
    simp only [po]; omega
theorem tp_ge {up : Int} {xs : List Int} {h : Int} {i N : Nat} (hi : i < N) : po up xs h i + up ≤ tp up xs h N := by
  have a := tp_le (up := up) (xs := xs) (h := h) (i + 1) (N - (i + 1))
  rw [show i + 1 + (N - (i + 1)) = N from by omega] at a
  have b := hig_bd (tp up xs h i) (po up xs h i + up)
  simp only [tp] at a; omega
theorem mr_step {up : Int} {xs : List Int} {a : Nat} (ha : 1 ≤ a) (t : Nat) : mr up xs (a + t) = mr up xs a + (t : Int) * (mr up xs (a + 1) - mr up xs a) := by
  obtain ⟨c, rfl⟩ : ∃ c, a = c + 1 := ⟨a - 1, by omega⟩
  have l1 := (mr_lin up xs c).1
  have l2 := (mr_lin up xs (c + 1)).1
  have l3 := (mr_lin up xs (c + t)).1
  rw [show c + t + 1 = c + 1 + t from by omega] at l3
  generalize mr up xs 2 - mr up xs 1 = g at *
  have e : mr up xs (c + 1 + 1) - mr up xs (c + 1) = g := by
    rw [l2, l1]; have : ((c + 1 : Nat) : Int) = (c : Int) + 1 := by omega
    rw [this, Int.add_mul]; omega
  rw [e, l3, l1]
  have : ((c + t : Nat) : Int) = (c : Int) + (t : Int) := by omega
  rw [this, Int.add_mul]; omega
theorem skip_low {up : Int} {xs : List Int} {n : Int} {a : Nat} (ha : 1 ≤ a) {g H : Int} (hg : g = mr up xs (a + 1) - mr up xs a) (g1 : 1 ≤ g) (hH : H = tp up xs (mr up xs a) xs.length) {s : Int} (hs : s = (n - 1 - H) / g) (t i : Nat) (ht : (t : Int) ≤ s) (hi : i < xs.length) : ev0 up xs (xs.length * (a + t) + i) < n := by
  rw [ev0_split, mr_step ha t, ← hg]
  have p1 := po_lip (up := up) (xs := xs) (h := mr up xs a) (x := (t : Int) * g) (Int.mul_nonneg (by omega) (by omega)) i
  have p2 := tp_ge (up := up) (xs := xs) (h := mr up xs a) hi
  rw [← hH] at p2
  have p3 : (t : Int) * g ≤ s * g := Int.mul_le_mul_of_nonneg_right ht (by omega)
  have p4 : s * g ≤ n - 1 - H := by rw [hs]; exact Int.ediv_mul_le _ (by omega)
  omega
/-- the rounds that are left out are too low, and the one behind them begins where the program says -/
theorem skip_all {up : Int} {xs : List Int} {n : Int} {a : Nat} (ha : 1 ≤ a) {g H : Int} (hg : g = mr up xs (a + 1) - mr up xs a) (g1 : 1 ≤ g) (hH : H = tp up xs (mr up xs a) xs.length) (hHn : H < n) (k : ∀ j, j < xs.length * (a + 1) → ev0 up xs j < n) :
    ∃ s : Nat, (n - 1 - H) / g = (s : Int) ∧ mr up xs (a + 1) + (s : Int) * g = mr up xs (a + 1 + s) ∧ ∀ j, j < xs.length * (a + 1 + s) → ev0 up xs j < n := by
  have q : 0 ≤ (n - 1 - H) / g := Int.ediv_nonneg (by omega) (by omega)
  obtain ⟨s, hs⟩ := Int.eq_ofNat_of_zero_le q
  refine ⟨s, hs, ?_, fun j hj => ?_⟩
  · have e := mr_step (up := up) (xs := xs) ha (s + 1)
    rw [show a + (s + 1) = a + 1 + s from by omega, ← hg] at e
    rw [e]; have : ((s + 1 : Nat) : Int) = (s : Int) + 1 := by omega
    rw [this, Int.add_mul]; omega
  · by_cases q : j < xs.length * (a + 1)
    · exact k j q
    · have hL : 0 < xs.length := by
        rcases Nat.eq_zero_or_pos xs.length with e | e
        · rw [e, Nat.zero_mul] at hj; omega
        · exact e
      have e := Nat.div_add_mod j xs.length
      have m := Nat.mod_lt j hL
      have u1 : a + 1 ≤ j / xs.length := (Nat.le_div_iff_mul_le hL).2 (by rw [Nat.mul_comm]; omega)
      have u2 : j / xs.length < a + 1 + s := Nat.div_lt_of_lt_mul hj
      have := skip_low (n := n) ha hg g1 hH (s := (s : Int)) hs.symm (j / xs.length - a) (j % xs.length) (by omega) m
      rwa [show a + (j / xs.length - a) = j / xs.length from by omega, e] at this
theorem rounds_le {up : Int} {xs : List Int} {a : Nat} (h : (a : Int) ≤ mr up xs a) (k : mr up xs a < mr up xs (a + 1)) : ((a + 1 : Nat) : Int) ≤ mr up xs (a + 1) := by omega
theorem po_next (up : Int) (xs : List Int) (k : Nat) : po up xs 0 (k + 1) = if po up xs 0 k + up - slp xs k < 0 then 0 else po up xs 0 k + up - slp xs k := by
  simp only [po]; unfold hig; split <;> (first | rfl | omega)
end Go.Proofs.Ytadfjepfjbllmaa
