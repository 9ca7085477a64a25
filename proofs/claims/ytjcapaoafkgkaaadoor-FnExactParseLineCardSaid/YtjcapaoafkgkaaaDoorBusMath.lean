/- Chapter 7's mathematics: when three numbers and a list of minutes are a line. -/
import Derived.Test.YtjcapaoafkgkaaaDoorMath
namespace Go.Proofs.YtjcapaoafkgkaaaDoor
set_option linter.unusedVariables false
set_option linter.unusedSimpArgs false
/-- place i of a list lies within bounds and above the one ahead of it -/
def rsI (xs : List Int) (lo hi : Int) (i : Nat) : Bool := inB (xs.getD i 0) lo hi && (decide (i = 0) || decide (xs.getD (i - 1) 0 < xs.getD i 0))
/-- .. of the first k places -/
def rsK (xs : List Int) (lo hi : Int) (k : Nat) : Bool := (List.range k).all (rsI xs lo hi)
/-- place i lies above the one ahead of it -/
def upI (xs : List Int) (i : Nat) : Bool := decide (i = 0) || decide (xs.getD (i - 1) 0 < xs.getD i 0)
def upK (xs : List Int) (k : Nat) : Bool := (List.range k).all (upI xs)
theorem rsK_succ (xs : List Int) (lo hi : Int) (k : Nat) : rsK xs lo hi (k + 1) = (rsK xs lo hi k && rsI xs lo hi k) := by simp [rsK, List.range_succ]
theorem upK_succ (xs : List Int) (k : Nat) : upK xs (k + 1) = (upK xs k && upI xs k) := by simp [upK, List.range_succ]
theorem rsK_zero (xs : List Int) (lo hi : Int) : rsK xs lo hi 0 = true := rfl
theorem upK_one (xs : List Int) : upK xs 1 = true := by simp [upK, upI]
theorem rsK_false {xs : List Int} {lo hi : Int} {i k : Nat} (h : i < k) (hf : rsI xs lo hi i = false) : rsK xs lo hi k = false := by
  unfold rsK
  rw [List.all_eq_false]
  exact ⟨i, List.mem_range.2 h, by simp [hf]⟩
theorem upK_false {xs : List Int} {i k : Nat} (h : i < k) (hf : upI xs i = false) : upK xs k = false := by
  unfold upK
  rw [List.all_eq_false]
  exact ⟨i, List.mem_range.2 h, by simp [hf]⟩
theorem upK_iff {xs : List Int} {k : Nat} : upK xs k = true ↔ ∀ i, i < k → 0 < i → xs.getD (i - 1) 0 < xs.getD i 0 := by
  unfold upK upI
  rw [List.all_eq_true]
  simp only [List.mem_range, Bool.or_eq_true, decide_eq_true_eq]
  constructor
  · intro h i hi h0; rcases h i hi with q | q
    · omega
    · exact q
  · intro h i hi
    by_cases q : i = 0
    · exact .inl q
    · exact .inr (h i hi (by omega))
theorem rsK_iff {xs : List Int} {lo hi : Int} {k : Nat} : rsK xs lo hi k = true ↔ (∀ i, i < k → lo ≤ xs.getD i 0 ∧ xs.getD i 0 ≤ hi) ∧ upK xs k = true := by
  rw [upK_iff]
  unfold rsK rsI
  rw [List.all_eq_true]
  simp only [List.mem_range, Bool.and_eq_true, Bool.or_eq_true, decide_eq_true_eq, inB_iff]
  constructor
  · intro h
    refine ⟨fun i hi => (h i hi).1, fun i hi h0 => ?_⟩
    rcases (h i hi).2 with q | q
    · omega
    · exact q
  · intro h i hi
    refine ⟨h.1 i hi, ?_⟩
    by_cases q : i = 0
    · exact .inl q
    · exact .inr (h.2 i hi (by omega))
theorem up_le {xs : List Int} {k : Nat} (h : upK xs k = true) : ∀ j i, i ≤ j → j < k → xs.getD i 0 ≤ xs.getD j 0 := by
  rw [upK_iff] at h
  intro j
  induction j with
  | zero => intro i hi hj; have e : i = 0 := by omega
            subst e; exact Int.le_refl _
  | succ j ih =>
    intro i hi hj
    by_cases q : i = j + 1
    · subst q; exact Int.le_refl _
    · have h1 := ih i (by omega) (by omega)
      have h2 := h (j + 1) hj (by omega)
      simp only [Nat.add_sub_cancel] at h2
      omega
theorem up_lt {xs : List Int} {k : Nat} (h : upK xs k = true) (j i : Nat) (hi : i < j) (hj : j < k) : xs.getD i 0 < xs.getD j 0 := by
  have h1 := up_le h (j - 1) i (by omega) (by omega)
  have h2 := (upK_iff.1 h) j hj (by omega)
  omega
/-- the stops of a line -/
def stB (xs : List Int) : Bool := inB (xs.length : Int) 2 12 && decide (xs.getD 0 0 = 0) && rsK xs 0 500 xs.length
/-- .. as the program asks it -/
def stP (xs : List Int) : Bool := inB (xs.length : Int) 2 12 && decide (xs.getD 0 0 = 0) && decide (xs.getD (xs.length - 1) 0 ≤ 500) && upK xs xs.length
theorem st_eq (xs : List Int) : stP xs = stB xs := by
  unfold stP stB
  cases hn : inB (xs.length : Int) 2 12
  · rfl
  · have hn2 := inB_iff.1 hn
    simp only [Bool.true_and]
    by_cases h0 : xs.getD 0 0 = 0
    · simp only [h0, decide_true, Bool.true_and]
      rw [Bool.eq_iff_iff, Bool.and_eq_true, decide_eq_true_eq, rsK_iff]
      constructor
      · rintro ⟨hl, hu⟩
        refine ⟨fun i hi => ?_, hu⟩
        have h1 := up_le hu i 0 (by omega) hi
        have h2 := up_le hu (xs.length - 1) i (by omega) (by omega)
        omega
      · rintro ⟨hb, hu⟩
        exact ⟨(hb (xs.length - 1) (by omega)).2, hu⟩
    · rw [decide_eq_false h0]; rfl
/-- a line -/
def lnB (f e c : Int) (xs : List Int) : Bool := inB f 0 2000 && inB e 1 2000 && inB c 1 60 && decide (f + (c - 1) * e ≤ 2000) && stB xs
/-- what is known of a line -/
structure Lin (f e c : Int) (xs : List Int) : Prop where
  f0 : 0 ≤ f
  f1 : f ≤ 2000
  e0 : 1 ≤ e
  e1 : e ≤ 2000
  c0 : 1 ≤ c
  c1 : c ≤ 60
  last : f + (c - 1) * e ≤ 2000
  n0 : 2 ≤ xs.length
  n1 : xs.length ≤ 12
  z : xs.getD 0 0 = 0
  bd : ∀ i, i < xs.length → 0 ≤ xs.getD i 0 ∧ xs.getD i 0 ≤ 500
  up : upK xs xs.length = true
theorem lnB_iff {f e c : Int} {xs : List Int} : lnB f e c xs = true ↔ Lin f e c xs := by
  unfold lnB stB
  simp only [Bool.and_eq_true, decide_eq_true_eq, inB_iff, rsK_iff]
  constructor
  · rintro ⟨⟨⟨⟨⟨a1, a2⟩, a3, a4⟩, a5, a6⟩, a7⟩, ⟨⟨a8, a9⟩, a10⟩, a11, a12⟩
    exact ⟨a1, a2, a3, a4, a5, a6, a7, by omega, by omega, a10, a11, a12⟩
  · rintro ⟨a1, a2, a3, a4, a5, a6, a7, a8, a9, a10, a11, a12⟩
    exact ⟨⟨⟨⟨⟨a1, a2⟩, a3, a4⟩, a5, a6⟩, a7⟩, ⟨⟨by omega, by omega⟩, a10⟩, a11, a12⟩
/-- the minute of a bus at the first stop -/
theorem Lin.at0 {f e c : Int} {xs : List Int} (L : Lin f e c xs) {b : Int} (b0 : 0 ≤ b) (b1 : b < c) : 0 ≤ b * e ∧ b * e ≤ 2000 ∧ f + b * e ≤ 2000 := by
  have h1 : 0 ≤ b * e := Int.mul_nonneg b0 (by have := L.e0; omega)
  have h2 : b * e ≤ (c - 1) * e := Int.mul_le_mul_of_nonneg_right (by omega) (by have := L.e0; omega)
  have h3 := L.last
  have h4 := L.f0
  omega
/-- a bus of a line -/
def bsB (f e c : Int) (xs : List Int) (b : Int) : Bool := lnB f e c xs && inB b 0 (c - 1)
/-- a stop of a line -/
def spB (f e c : Int) (xs : List Int) (s : Int) : Bool := lnB f e c xs && inB s 0 ((xs.length : Int) - 1)
/-- a ride -/
def rdB (f e c : Int) (xs : List Int) (s t : Int) : Bool := spB f e c xs s && spB f e c xs t && decide (s < t)
/-- the time of a bus at a stop -/
def tmB (f e : Int) (xs : List Int) (b s : Int) : Int := f + b * e + xs.getD s.toNat 0
/-- a bus and a stop of a line -/
def taK (f e c : Int) (xs : List Int) (b s : Int) : Bool := spB f e c xs s && inB b 0 (c - 1)
theorem Lin.tm {f e c : Int} {xs : List Int} (L : Lin f e c xs) {b s : Int} (b0 : 0 ≤ b) (b1 : b < c) (s0 : 0 ≤ s) (s1 : s < xs.length) : 0 ≤ tmB f e xs b s ∧ tmB f e xs b s ≤ 2500 := by
  have h1 := L.at0 b0 b1
  have h2 := L.bd s.toNat (by omega)
  have h3 := L.f0
  unfold tmB; omega
end Go.Proofs.YtjcapaoafkgkaaaDoor
