/- Chapter 7's mathematics: where a bus is; the place of a number in an increasing list. -/
import Derived.Test.YtjcapaoafkgkaaaDoorBusMath
namespace Go.Proofs.YtjcapaoafkgkaaaDoor
set_option linter.unusedVariables false
set_option linter.unusedSimpArgs false
/-- the lesser of two numbers -/
def minI (x y : Int) : Int := if x < y then x else y
/-- a line and how many buses shall stay -/
def dpK (f e c : Int) (xs : List Int) (n : Int) : Bool := lnB f e c xs && inB n 1 60
/-- the last place up to j whose number is at most d, 0 if none -/
def dnI (xs : List Int) (d : Int) : Nat → Nat
  | 0 => 0
  | i + 1 => if xs.getD (i + 1) 0 ≤ d then i + 1 else dnI xs d i
theorem dnI_eq {xs : List Int} {d : Int} {k : Nat} (hk : k = 0 ∨ xs.getD k 0 ≤ d) : ∀ j, k ≤ j → (∀ i, k < i → i ≤ j → d < xs.getD i 0) → dnI xs d j = k
  | 0, h, _ => by have : k = 0 := by omega
                  subst this; rfl
  | j + 1, h, hi => by
    unfold dnI
    by_cases q : k = j + 1
    · rcases hk with hk | hk
      · omega
      · subst q; rw [if_pos hk]
    · have := hi (j + 1) (by omega) (Nat.le_refl _)
      rw [if_neg (by omega)]
      exact dnI_eq hk j (by omega) (fun i h1 h2 => hi i h1 (by omega))
theorem dnI_le (xs : List Int) (d : Int) : ∀ j, dnI xs d j ≤ j
  | 0 => Nat.le_refl _
  | j + 1 => by unfold dnI; split
                · exact Nat.le_refl _
                · have := dnI_le xs d j; omega
/-- where a bus is: whether it is on its way, its last stop, whether it is there just then -/
def whK (f e c : Int) (xs : List Int) (u m : Int) : Bool := bsB f e c xs u && inB m 0 2000 && decide (f + u * e ≤ m) && decide (m ≤ f + u * e + xs.getD (xs.length - 1) 0)
def whS (f e : Int) (xs : List Int) (u m : Int) : Nat := dnI xs (m - (f + u * e)) (xs.length - 1)
def whE (f e : Int) (xs : List Int) (u m : Int) : Bool := decide (f + u * e + xs.getD (whS f e xs u m) 0 = m)
/-- the number at place k is d -/
def hitB (xs : List Int) (d : Int) (k : Nat) : Bool := decide (k < xs.length ∧ xs.getD k 0 = d)
/-- k is the place at which d comes into the list -/
structure PosIn (xs : List Int) (d : Int) (k : Nat) : Prop where
  le : k ≤ xs.length
  lo : ∀ i, i < k → xs.getD i 0 < d
  hi : ∀ i, k ≤ i → i < xs.length → d ≤ xs.getD i 0
theorem wh_there {f e c : Int} {xs : List Int} {u m : Int} {k : Nat} (L : Lin f e c xs) (hu : bsB f e c xs u = true) (hm : inB m 0 2000 = true) (h : PosIn xs (m - (f + u * e)) k) (hk : k < xs.length) (hd : xs.getD k 0 = m - (f + u * e)) :
    whK f e c xs u m = true ∧ whS f e xs u m = k ∧ whE f e xs u m = true := by
  have hn := L.n0
  have b1 := L.bd k hk
  have b2 := up_le L.up (xs.length - 1) k (by omega) (by omega)
  have e1 : whS f e xs u m = k := by
    unfold whS
    refine dnI_eq (.inr (by omega)) _ (by omega) (fun i h1 h2 => ?_)
    have := up_lt L.up i k h1 (by omega)
    omega
  refine ⟨?_, e1, ?_⟩
  · unfold whK
    simp only [hu, hm, Bool.and_eq_true, decide_eq_true_eq, true_and]
    omega
  · unfold whE; rw [e1, decide_eq_true_eq]; omega
theorem wh_none {f e c : Int} {xs : List Int} {u m : Int} {k : Nat} (L : Lin f e c xs) (h : PosIn xs (m - (f + u * e)) k) (hk : k = 0 ∨ k = xs.length) (hd : ¬ (k < xs.length ∧ xs.getD k 0 = m - (f + u * e))) :
    whK f e c xs u m = false := by
  have hn := L.n0
  have hz := L.z
  cases q : whK f e c xs u m
  · rfl
  · exfalso
    unfold whK at q
    simp only [Bool.and_eq_true, decide_eq_true_eq] at q
    rcases hk with rfl | rfl
    · have := h.hi 0 (Nat.le_refl _) (by omega)
      rw [hz] at this
      exact hd ⟨by omega, by omega⟩
    · have := h.lo (xs.length - 1) (by omega)
      omega
theorem wh_mid {f e c : Int} {xs : List Int} {u m : Int} {k : Nat} (L : Lin f e c xs) (hu : bsB f e c xs u = true) (hm : inB m 0 2000 = true) (h : PosIn xs (m - (f + u * e)) (k + 1)) (hk : k + 1 < xs.length) (hd : ¬ xs.getD (k + 1) 0 = m - (f + u * e)) :
    whK f e c xs u m = true ∧ whS f e xs u m = k ∧ whE f e xs u m = false := by
  have hn := L.n0
  have b1 := h.lo k (by omega)
  have b2 := h.hi (k + 1) (Nat.le_refl _) hk
  have b3 := L.bd k (by omega)
  have b4 := up_le L.up (xs.length - 1) (k + 1) (by omega) (by omega)
  have e1 : whS f e xs u m = k := by
    unfold whS
    refine dnI_eq (.inr (by omega)) _ (by omega) (fun i h1 h2 => ?_)
    have := up_le L.up i (k + 1) h1 (by omega)
    omega
  refine ⟨?_, e1, ?_⟩
  · unfold whK
    simp only [hu, hm, Bool.and_eq_true, decide_eq_true_eq, true_and]
    omega
  · unfold whE; rw [e1, decide_eq_false_iff_not]; omega
end Go.Proofs.YtjcapaoafkgkaaaDoor
