/- Plain mathematics of the named laws of chapter 1's climbs: no program is named here. -/
import Derived.Test.YtalnellimbehoaaGreatDoorMathD
namespace Go.Proofs.YtalnellimbehoaaGreatDoor
open Go.RowKit
set_option linter.unusedVariables false

theorem far_next (u d y : Int) : far u d (y + 1) = far u d y + gain u d := by
  unfold far; rw [show (y + 1 - 1) = (y - 1) + 1 from by omega, Int.add_mul, Int.one_mul]; omega
theorem climb_facts {u d n y : Int} (hs : snOk u d = true) (hn : inB n 1 1000000 = true) (hy : inB y 1 1000000 = true) :
    0 ≤ mor u d n y ∧ mor u d n y ≤ low n (far u d y) ∧ low n (far u d y) ≤ n ∧ low n (far u d y) ≤ far u d y ∧
    (low n (far u d y) = n ↔ (fd1 u d n = true ∧ fd0 u d n ≤ y)) ∧ (mor u d n y < n → low n (far u d y) ≠ n → low n (far u d y) = mor u d n y + u) := by
  have s := snOk_iff.1 hs
  have b := inB_iff.1 hn
  have c := inB_iff.1 hy
  have l := low_bd n (far u d y)
  have top : low n (far u d y) = n ↔ (fd1 u d n = true ∧ fd0 u d n ≤ y) := by
    constructor
    · intro h
      have q : n ≤ far u d y := by omega
      have f : fd1 u d n = true := by
        cases hf : fd1 u d n
        · have := never_far (y := y) hs hf; omega
        · rfl
      refine ⟨f, ?_⟩
      by_cases hle : fd0 u d n ≤ y
      · exact hle
      · have := early_far (n := n) (e := 0) (y := y) hs (by omega) (fun _ => by omega); omega
    · intro ⟨f, h⟩
      exact low_ge (late_far hs (by omega) f h)
  by_cases h1 : y = 1
  · subst h1
    have f1 : far u d 1 = u := by unfold far; omega
    have m1 : mor u d n 1 = 0 := rfl
    rw [f1] at l top
    rw [m1, f1]
    exact ⟨by omega, by omega, by omega, by omega, top, by omega⟩
  · obtain ⟨x, rfl⟩ : ∃ x, y = x + 1 := ⟨y - 1, by omega⟩
    have fx := far_bd u d x hs (inB_true (by omega))
    have e := far_next u d x
    have m : mor u d n (x + 1) = mA (low n (far u d x)) d n := by unfold mor; rw [if_neg h1, show x + 1 - 1 = x from by omega]
    have lx := low_bd n (far u d x)
    have g := gain_bd u d hs
    have q : u ≤ far u d x := by
      have : 0 ≤ (x - 1) * gain u d := Int.mul_nonneg (by omega) g.1
      unfold far; omega
    have z : u ≤ d → far u d x = u := fun hu => by unfold far; rw [gain_zero hu]; omega
    have gp := @gain_pos u d
    have gz := @gain_zero u d
    rw [m]; unfold mA
    refine ⟨?_, ?_, by omega, by omega, top, ?_⟩
    · split
      · omega
      · split <;> omega
    · unfold low at *
      split
      · split at * <;> split at * <;> omega
      · split
        · split at * <;> split at * <;> omega
        · by_cases hd : d < u
          · have := gp hd; split at * <;> split at * <;> omega
          · have := gz (by omega); have := z (by omega); split at * <;> split at * <;> omega
    · intro h2 h3
      by_cases hd : d < u
      · have := gp hd; unfold low at *; split at * <;> (try split at *) <;> (try split at *) <;> (try split at *) <;> omega
      · have := gz (by omega); have := z (by omega); unfold low at *; split at * <;> (try split at *) <;> (try split at *) <;> (try split at *) <;> omega
theorem next_facts {u d n y : Int} (hs : snOk u d = true) (hn : inB n 1 1000000 = true) (hy : inB y 1 1000000 = true) :
    (low n (far u d y) = n → mor u d n (y + 1) = n) ∧ (low n (far u d y) < n → (mor u d n (y + 1) = low n (far u d y) - d ∨ mor u d n (y + 1) = 0) ∧ low n (far u d y) - d ≤ mor u d n (y + 1)) := by
  have s := snOk_iff.1 hs
  have c := inB_iff.1 hy
  have m : mor u d n (y + 1) = mA (low n (far u d y)) d n := by unfold mor; rw [if_neg (by omega), show y + 1 - 1 = y from by omega]
  rw [m]; unfold mA
  refine ⟨fun h => by rw [if_pos h], fun h => ?_⟩
  rw [if_neg (by omega)]
  split <;> omega
theorem day_facts {u d n h : Int} (hs : snOk u d = true) (hn : inB n 1 1000000 = true) (hh : inB h 0 n = true) (hf : fd1 u d h = true) :
    1 ≤ fd0 u d h ∧ fd0 u d h ≤ 1000000 ∧ h ≤ low n (far u d (fd0 u d h)) ∧ (1 < fd0 u d h → low n (far u d (fd0 u d h - 1)) < h) := by
  have s := snOk_iff.1 hs
  have b := inB_iff.1 hn
  have c := inB_iff.1 hh
  have p := fd0_pos hs hf
  have q := fd0_le (h := h) hs (by omega)
  have r := late_far hs p hf (Int.le_refl _)
  have l := low_bd n (far u d (fd0 u d h))
  refine ⟨p, q, by omega, fun h1 => ?_⟩
  have e := early_far (n := h) (e := 0) (y := fd0 u d h - 1) hs (by omega) (fun _ => by omega)
  have l2 := low_bd n (far u d (fd0 u d h - 1))
  omega
theorem times_facts {u d n h : Int} (hs : snOk u d = true) (hn : inB n 1 1000000 = true) (hh : inB h 1 n = true) (hf : fd1 u d h = true) (hg : fd1 u d n = true) :
    fd0 u d h ≤ lastLow u d n h := by
  have s := snOk_iff.1 hs
  have b := inB_iff.1 hn
  have c := inB_iff.1 hh
  have p := fd0_pos hs hf
  have pn := fd0_pos hs hg
  unfold lastLow
  by_cases hd : d < u
  · rw [if_pos hd]
    have r := late_far hs pn hg (Int.le_refl _)
    have a1 : fd0 u d h ≤ fd0 u d n := (far_reach hs hd pn).1 (by omega)
    have k0 : 0 ≤ (h - 1) / (u - d) := Int.ediv_nonneg (by omega) (by omega)
    have k1 : h - 1 < ((h - 1) / (u - d) + 1) * (u - d) := Int.lt_ediv_add_one_mul_self _ (by omega)
    have a2 : fd0 u d h ≤ (h - 1) / (u - d) + 1 := by
      refine (far_reach hs hd (by omega)).1 ?_
      unfold far; rw [gain_pos hd, show ((h - 1) / (u - d) + 1 - 1) = (h - 1) / (u - d) from by omega]
      rw [Int.add_mul, Int.one_mul] at k1
      omega
    have l := low_bd (fd0 u d n) ((h - 1) / (u - d) + 1)
    omega
  · rw [if_neg hd]
    have f := fd1_iff.1 hf
    have e : fd0 u d h = 1 := by unfold fd0; rw [if_pos (by omega)]
    omega
theorem reach_facts {u d n y : Int} (hs : snOk u d = true) (hy : 1 ≤ y) : n ≤ far u d y ↔ (fd1 u d n = true ∧ fd0 u d n ≤ y) := by
  constructor
  · intro q
    have f : fd1 u d n = true := by
      cases hf : fd1 u d n
      · have := never_far (y := y) hs hf; omega
      · rfl
    refine ⟨f, ?_⟩
    by_cases hle : fd0 u d n ≤ y
    · exact hle
    · have := early_far (n := n) (e := 0) (y := y) hs (by omega) (fun _ => by omega); omega
  · intro ⟨f, h⟩; exact late_far hs hy f h
theorem upF_facts {d n y : Int} (f : Nat) (up : Int) (h : (upF d n y f up).2 = true) :
    up ≤ (upF d n y f up).1 ∧ (upF d n y f up).1 < up + (f : Int) ∧ n ≤ far (upF d n y f up).1 d y ∧ ∀ x, up ≤ x → x < (upF d n y f up).1 → far x d y < n := by
  induction f generalizing up with
  | zero => simp [upF] at h
  | succ f ih =>
    by_cases q : n ≤ far up d y
    · rw [upF_yes q] at h ⊢
      exact ⟨Int.le_refl _, by simp only; omega, q, fun x a b => by simp only at b; omega⟩
    · rw [upF_no q] at h ⊢
      obtain ⟨a, b, c, e⟩ := ih (up + 1) h
      refine ⟨by omega, by omega, c, fun x x1 x2 => ?_⟩
      by_cases hx : x = up
      · subst hx; omega
      · exact e x (by omega) x2
theorem dnF_facts {u n y : Int} (f : Nat) (d : Int) (h : (dnF u n y f d).2 = true) :
    (dnF u n y f d).1 ≤ d ∧ d - (f : Int) < (dnF u n y f d).1 ∧ n ≤ far u (dnF u n y f d).1 y ∧ ∀ x, x ≤ d → (dnF u n y f d).1 < x → far u x y < n := by
  induction f generalizing d with
  | zero => simp [dnF] at h
  | succ f ih =>
    by_cases q : n ≤ far u d y
    · rw [dnF_yes q] at h ⊢
      exact ⟨Int.le_refl _, by simp only; omega, q, fun x a b => by simp only at b; omega⟩
    · rw [dnF_no q] at h ⊢
      obtain ⟨a, b, c, e⟩ := ih (d - 1) h
      refine ⟨by omega, by omega, c, fun x x1 x2 => ?_⟩
      by_cases hx : x = d
      · subst hx; omega
      · exact e x (by omega) x2
end Go.Proofs.YtalnellimbehoaaGreatDoor
