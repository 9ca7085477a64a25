/- Plain mathematics of chapter 1's changing slips: no program is named here. -/
import Derived.Test.YtadfjepfjbllmaaMathC
namespace Go.Proofs.Ytadfjepfjbllmaa
open Go.RowKit
set_option linter.unusedVariables false

def allB (xs : List Int) (lo hi : Int) : Bool := xs.all fun x => inB x lo hi
theorem allB_iff {xs : List Int} {lo hi : Int} : allB xs lo hi = true ↔ ∀ i, i < xs.length → lo ≤ xs.getD i 0 ∧ xs.getD i 0 ≤ hi := by
  unfold allB
  rw [List.all_eq_true]
  constructor
  · intro h i hi
    have := inB_iff.1 (h (xs[i]) (List.getElem_mem hi))
    simpa [List.getD, List.getElem?_eq_getElem hi] using this
  · intro h x hx
    obtain ⟨i, hi, rfl⟩ := List.getElem_of_mem hx
    have := h i hi
    exact inB_iff.2 (by simpa [List.getD, List.getElem?_eq_getElem hi] using this)
/-- is there an Up, and are there slips -/
def slOk (up : Int) (xs : List Int) : Bool := inB up 1 1000 && inB (xs.length : Int) 1 12 && allB xs 0 1000
/-- the slip of the night behind the day k + 1 -/
def slp (xs : List Int) (k : Nat) : Int := xs.getD (k % xs.length) 0
/-- the height on the morning of the day k + 1 -/
def moH (up n : Int) (xs : List Int) : Nat → Int
  | 0 => 0
  | k + 1 => mA (low n (moH up n xs k + up)) (slp xs k) n
def ev (up n : Int) (xs : List Int) (k : Nat) : Int := low n (moH up n xs k + up)
def evs (up n : Int) (xs : List Int) (N : Nat) : List Int := (List.range N).map (ev up n xs)
theorem evs_length (up n : Int) (xs : List Int) (N : Nat) : (evs up n xs N).length = N := by simp [evs]
theorem evs_succ (up n : Int) (xs : List Int) (N : Nat) : evs up n xs (N + 1) = evs up n xs N ++ [ev up n xs N] := by simp [evs, List.range_succ]
theorem slOk_iff {up : Int} {xs : List Int} (h : slOk up xs = true) : 1 ≤ up ∧ up ≤ 1000 ∧ 1 ≤ xs.length ∧ xs.length ≤ 12 ∧ ∀ k, 0 ≤ slp xs k ∧ slp xs k ≤ 1000 := by
  unfold slOk at h
  rw [Bool.and_eq_true, Bool.and_eq_true, inB_iff, inB_iff] at h
  obtain ⟨⟨h1, h2⟩, h3⟩ := h
  refine ⟨h1.1, h1.2, by omega, by omega, fun k => ?_⟩
  exact allB_iff.1 h3 (k % xs.length) (Nat.mod_lt _ (by omega))
theorem moH_bd {up n : Int} {xs : List Int} (h : slOk up xs = true) (hn : 1 ≤ n) (k : Nat) : 0 ≤ moH up n xs k ∧ moH up n xs k ≤ n ∧ 1 ≤ ev up n xs k ∧ ev up n xs k ≤ n := by
  obtain ⟨h1, h2, h3, h4, h5⟩ := slOk_iff h
  have key : ∀ k, 0 ≤ moH up n xs k ∧ moH up n xs k ≤ n := by
    intro k
    induction k with
    | zero => simp only [moH]; omega
    | succ k ih =>
      have s := h5 k
      simp only [moH]
      have l := low_bd n (moH up n xs k + up)
      unfold mA; split
      · omega
      · split <;> omega
  have a := key k
  have l := low_bd n (moH up n xs k + up)
  unfold ev; omega
theorem moH_top {up n : Int} {xs : List Int} {k : Nat} (h : low n (moH up n xs k + up) = n) : moH up n xs (k + 1) = n := by
  simp only [moH]; unfold mA; rw [if_pos h]
theorem moH_low {up n : Int} {xs : List Int} {k : Nat} (h : ¬ low n (moH up n xs k + up) = n) : moH up n xs (k + 1) = if low n (moH up n xs k + up) ≤ slp xs k then 0 else low n (moH up n xs k + up) - slp xs k := by
  simp only [moH]; unfold mA; rw [if_neg h]
theorem evs_ext {up n : Int} {xs : List Int} {N : Nat} {ys : List Value} (hl : ys.length = N) (h : ∀ i, i < N → ys[i]? = some (.int .i64 (ev up n xs i))) : ys = (evs up n xs N).map (Value.int .i64) := by
  apply List.ext_getElem?
  intro i
  by_cases q : i < N
  · rw [h i q, List.getElem?_map]; simp [evs, q]
  · rw [List.getElem?_eq_none (by omega), List.getElem?_eq_none (by simp [evs]; omega)]
end Go.Proofs.Ytadfjepfjbllmaa
