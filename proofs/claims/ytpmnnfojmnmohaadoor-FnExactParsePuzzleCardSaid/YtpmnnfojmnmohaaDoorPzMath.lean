/- Puzzles (chapter 9): plain mathematics of clues, values and solutions. -/
import Derived.Test.YtpmnnfojmnmohaaDoorMath
import Derived.Test.YtpmnnfojmnmohaaDoorTri0
namespace Go.Proofs.YtpmnnfojmnmohaaDoor
open Go.RowKit
set_option linter.unusedVariables false
set_option linter.unusedSimpArgs false
/-- what a clue of a kind tells of a snail -/
def pzV (k a u d : Int) : Int :=
  if k = 0 then (if fd1 u d a then fd0 u d a else 0) else if k = 1 then low 100 (far u d a) else if k = 2 then u + d else if k = 3 then (if u % a = 0 then 1 else 0) else u - d
/-- is it a clue -/
def clB (k a b : Int) : Bool :=
  if k = 0 then inB a 1 100 && inB b 0 100 else if k = 1 then inB a 1 100 && inB b 1 100 else if k = 2 then decide (a = 0) && inB b 0 24 else if k = 3 then inB a 2 9 && inB b 0 1 else if k = 4 then decide (a = 0) && inB b (-12) 12 else false
theorem clB_0 (a b : Int) : clB 0 a b = (inB a 1 100 && inB b 0 100) := rfl
theorem clB_1 (a b : Int) : clB 1 a b = (inB a 1 100 && inB b 1 100) := rfl
theorem clB_2 (a b : Int) : clB 2 a b = (decide (a = 0) && inB b 0 24) := rfl
theorem clB_3 (a b : Int) : clB 3 a b = (inB a 2 9 && inB b 0 1) := rfl
theorem clB_4 (a b : Int) : clB 4 a b = (decide (a = 0) && inB b (-12) 12) := rfl
theorem clB_no {k : Int} (a b : Int) (h0 : ¬ k = 0) (h1 : ¬ k = 1) (h2 : ¬ k = 2) (h3 : ¬ k = 3) (h4 : ¬ k = 4) : clB k a b = false := by
  unfold clB; rw [if_neg h0, if_neg h1, if_neg h2, if_neg h3, if_neg h4]
/-- a kind and an A that a clue may have -/
def kaB (k a : Int) : Prop := (k = 0 ∧ 1 ≤ a ∧ a ≤ 100) ∨ (k = 1 ∧ 1 ≤ a ∧ a ≤ 100) ∨ (k = 2 ∧ a = 0) ∨ (k = 3 ∧ 2 ≤ a ∧ a ≤ 9) ∨ (k = 4 ∧ a = 0)
theorem clB_ka {k a b : Int} (h : clB k a b = true) : kaB k a := by
  unfold kaB
  unfold clB at h
  split at h
  · rw [Bool.and_eq_true, inB_iff] at h; exact .inl ⟨by assumption, h.1⟩
  split at h
  · rw [Bool.and_eq_true, inB_iff] at h; exact .inr (.inl ⟨by assumption, h.1⟩)
  split at h
  · rw [Bool.and_eq_true, decide_eq_true_iff] at h; exact .inr (.inr (.inl ⟨by assumption, h.1⟩))
  split at h
  · rw [Bool.and_eq_true, inB_iff] at h; exact .inr (.inr (.inr (.inl ⟨by assumption, h.1⟩)))
  split at h
  · rw [Bool.and_eq_true, decide_eq_true_iff] at h; exact .inr (.inr (.inr (.inr ⟨by assumption, h.1⟩)))
  · cases h
theorem clB_bd {k a b : Int} (h : clB k a b = true) : 0 ≤ k ∧ k ≤ 4 ∧ 0 ≤ a ∧ a ≤ 100 ∧ -12 ≤ b ∧ b ≤ 100 := by
  unfold clB at h
  split at h
  · rw [Bool.and_eq_true, inB_iff, inB_iff] at h; omega
  split at h
  · rw [Bool.and_eq_true, inB_iff, inB_iff] at h; omega
  split at h
  · rw [Bool.and_eq_true, decide_eq_true_iff, inB_iff] at h; omega
  split at h
  · rw [Bool.and_eq_true, inB_iff, inB_iff] at h; omega
  split at h
  · rw [Bool.and_eq_true, decide_eq_true_iff, inB_iff] at h; omega
  · cases h
/-- is it a hidden snail -/
def hdB (u d : Int) : Bool := inB u 1 12 && inB d 0 12
theorem hdB_iff {u d : Int} : hdB u d = true ↔ 1 ≤ u ∧ u ≤ 12 ∧ 0 ≤ d ∧ d ≤ 12 := by
  unfold hdB; rw [Bool.and_eq_true, inB_iff, inB_iff]; omega
theorem hdB_ok {u d : Int} (h : hdB u d = true) : snOk u d = true := by
  have := hdB_iff.1 h; exact snOk_iff.2 (by omega)
/-- are all clues some -/
def clA (xs : List (Int × Int × Int)) : Bool := xs.all fun p => clB p.1 p.2.1 p.2.2
/-- is it a puzzle -/
def pzG (xs : List (Int × Int × Int)) : Bool := decide (xs.length ≤ 6) && clA xs
theorem clA_at {xs : List (Int × Int × Int)} (h : clA xs = true) {i : Nat} (hi : i < xs.length) : clB (tk xs i) (ta xs i) (tb xs i) = true := by
  unfold clA at h
  rw [List.all_eq_true] at h
  have := h xs[i] (List.getElem_mem hi)
  simpa [tk, ta, tb, List.getD, List.getElem?_eq_getElem hi] using this
theorem clA_no {xs : List (Int × Int × Int)} {i : Nat} (hi : i < xs.length) (h : clB (tk xs i) (ta xs i) (tb xs i) = false) : clA xs = false := by
  cases hw : clA xs
  · rfl
  · rw [clA_at hw hi] at h; cases h
theorem clA_of {xs : List (Int × Int × Int)} (h : ∀ i, i < xs.length → clB (tk xs i) (ta xs i) (tb xs i) = true) : clA xs = true := by
  unfold clA
  rw [List.all_eq_true]
  intro p hp
  obtain ⟨i, hi, rfl⟩ := List.getElem_of_mem hp
  have := h i hi
  simpa [tk, ta, tb, List.getD, List.getElem?_eq_getElem hi] using this
theorem clA_sub {xs ys : List (Int × Int × Int)} (h : clA xs = true) (hs : ∀ p ∈ ys, p ∈ xs) : clA ys = true := by
  unfold clA at h ⊢
  rw [List.all_eq_true] at h ⊢
  exact fun p hp => h p (hs p hp)
theorem pzG_iff {xs : List (Int × Int × Int)} : pzG xs = true ↔ xs.length ≤ 6 ∧ clA xs = true := by unfold pzG; rw [Bool.and_eq_true, decide_eq_true_iff]
/-- does a snail fit one clue -/
def fiB (p : Int × Int × Int) (u d : Int) : Bool := decide (pzV p.1 p.2.1 u d = p.2.2)
/-- does it fit all -/
def fiA (xs : List (Int × Int × Int)) (u d : Int) : Bool := xs.all fun p => fiB p u d
theorem fiA_at {xs : List (Int × Int × Int)} {u d : Int} (h : fiA xs u d = true) {i : Nat} (hi : i < xs.length) : pzV (tk xs i) (ta xs i) u d = tb xs i := by
  unfold fiA at h
  rw [List.all_eq_true] at h
  have := h xs[i] (List.getElem_mem hi)
  simpa [fiB, tk, ta, tb, List.getD, List.getElem?_eq_getElem hi] using this
theorem fiA_no {xs : List (Int × Int × Int)} {u d : Int} {i : Nat} (hi : i < xs.length) (h : ¬ pzV (tk xs i) (ta xs i) u d = tb xs i) : fiA xs u d = false := by
  cases hw : fiA xs u d
  · rfl
  · exact absurd (fiA_at hw hi) h
theorem fiA_of {xs : List (Int × Int × Int)} {u d : Int} (h : ∀ i, i < xs.length → pzV (tk xs i) (ta xs i) u d = tb xs i) : fiA xs u d = true := by
  unfold fiA
  rw [List.all_eq_true]
  intro p hp
  obtain ⟨i, hi, rfl⟩ := List.getElem_of_mem hp
  have := h i hi
  simpa [fiB, tk, ta, tb, List.getD, List.getElem?_eq_getElem hi] using this
/-- do the first j clues fit -/
def fiN (xs : List (Int × Int × Int)) (u d : Int) : Nat → Bool
  | 0 => true
  | j + 1 => fiN xs u d j && decide (pzV (tk xs j) (ta xs j) u d = tb xs j)
theorem fiN_iff (xs : List (Int × Int × Int)) (u d : Int) : ∀ j, fiN xs u d j = true ↔ ∀ i, i < j → pzV (tk xs i) (ta xs i) u d = tb xs i
  | 0 => by simp [fiN]
  | j + 1 => by
    simp only [fiN, Bool.and_eq_true, decide_eq_true_iff, fiN_iff xs u d j]
    constructor
    · intro ⟨h, k⟩ i hi
      by_cases q : i = j
      · subst q; exact k
      · exact h i (by omega)
    · exact fun h => ⟨fun i hi => h i (by omega), h j (by omega)⟩
theorem fiN_all (xs : List (Int × Int × Int)) (u d : Int) : fiN xs u d xs.length = fiA xs u d := by
  cases h : fiN xs u d xs.length
  · cases k : fiA xs u d
    · rfl
    · have := (fiN_iff xs u d xs.length).2 (fun i hi => fiA_at k hi); rw [h] at this; cases this
  · exact (fiA_of (fun i hi => (fiN_iff xs u d xs.length).1 h i hi)).symm
/-- the solutions among the first n hidden snails, in order -/
def slN (xs : List (Int × Int × Int)) : Nat → List (Int × Int)
  | 0 => []
  | n + 1 => slN xs n ++ (if fiA xs ((n / 13 : Nat) + 1 : Int) ((n % 13 : Nat) : Int) then [(((n / 13 : Nat) + 1 : Int), ((n % 13 : Nat) : Int))] else [])
def sol (xs : List (Int × Int × Int)) : List (Int × Int) := slN xs 156
theorem slN_len (xs : List (Int × Int × Int)) : ∀ n, (slN xs n).length ≤ n
  | 0 => Nat.le_refl _
  | n + 1 => by
    have := slN_len xs n
    simp only [slN, List.length_append]
    split <;> simp <;> omega
theorem sol_len (xs : List (Int × Int × Int)) : (sol xs).length ≤ 156 := slN_len xs 156
theorem slN_yes {xs : List (Int × Int × Int)} {i j : Nat} (hj : j < 13) (h : fiA xs ((i : Int) + 1) (j : Int) = true) : slN xs (13 * i + j + 1) = slN xs (13 * i + j) ++ [((i : Int) + 1, (j : Int))] := by
  have e1 : (13 * i + j) / 13 = i := by omega
  have e2 : (13 * i + j) % 13 = j := by omega
  simp only [slN, e1, e2, h, if_true]
theorem slN_no {xs : List (Int × Int × Int)} {i j : Nat} (hj : j < 13) (h : fiA xs ((i : Int) + 1) (j : Int) = false) : slN xs (13 * i + j + 1) = slN xs (13 * i + j) := by
  have e1 : (13 * i + j) / 13 = i := by omega
  have e2 : (13 * i + j) % 13 = j := by omega
  simp only [slN, e1, e2, h]; simp
/-- every solution is a hidden snail -/
theorem slN_mem {xs : List (Int × Int × Int)} : ∀ {n : Nat} {p : Int × Int}, n ≤ 156 → p ∈ slN xs n → hdB p.1 p.2 = true
  | 0, p, _, h => by cases h
  | n + 1, p, hn, h => by
    simp only [slN, List.mem_append] at h
    rcases h with h | h
    · exact slN_mem (by omega) h
    · split at h
      · simp at h; subst h; exact hdB_iff.2 (by simp; omega)
      · cases h
/-- the clues without one -/
def drp (xs : List (Int × Int × Int)) (k : Nat) : List (Int × Int × Int) := xs.take k ++ xs.drop (k + 1)
theorem drp_len {xs : List (Int × Int × Int)} {k : Nat} (h : k < xs.length) : (drp xs k).length = xs.length - 1 := by
  unfold drp; simp; omega
theorem drp_mem {xs : List (Int × Int × Int)} {k : Nat} {p : Int × Int × Int} (h : p ∈ drp xs k) : p ∈ xs := by
  unfold drp at h
  rcases List.mem_append.1 h with h | h
  · exact List.mem_of_mem_take h
  · exact List.mem_of_mem_drop h
theorem drp_cl {xs : List (Int × Int × Int)} (k : Nat) (h : clA xs = true) : clA (drp xs k) = true := clA_sub h fun _ hp => drp_mem hp
/-- a clue that some snail fits -/
def mkC (k a u d : Int) : Int × Int × Int := (k, a, pzV k a u d)
end Go.Proofs.YtpmnnfojmnmohaaDoor
