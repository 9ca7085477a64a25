/- The model's l1Has and l1Put (a number into an increasing list) by contracts. -/
import Derived.Test.YtlfjgggidoakaaaTwoOrd
namespace Go.Proofs.Ytlfjgggidoakaaa
open Go.RowKit
set_option linter.unusedVariables false
set_option linter.unusedSimpArgs false
/-- how many elements at the beginning are less -/
def lowI (xs : List Int) (v : Int) : Nat := (xs.takeWhile fun x => decide (x < v)).length
theorem low_eq (v : Int) : ∀ (xs : List Int) (j : Nat), j ≤ xs.length → (∀ i, i < j → xs.getD i 0 < v) → (j < xs.length → v ≤ xs.getD j 0) → lowI xs v = j
  | [], j, hj, _, _ => by simp at hj; subst hj; rfl
  | x :: r, 0, _, _, h => by
    have := h (by simp)
    simp at this
    unfold lowI
    rw [List.takeWhile_cons, if_neg (by simp; omega)]; rfl
  | x :: r, j + 1, hj, h1, h2 => by
    have hx := h1 0 (by omega)
    simp at hx
    have ih := low_eq v r j (by simp at hj; omega) (fun i hi => by have := h1 (i + 1) (by omega); simpa using this) (fun hjr => by have := h2 (by simp; omega); simpa using this)
    unfold lowI at *
    rw [List.takeWhile_cons, if_pos (by simpa using hx), List.length_cons, ih]
/-- is it there, where it would go -/
def putB (xs : List Int) (v : Int) : Bool := decide (lowI xs v < xs.length) && decide (xs.getD (lowI xs v) 0 = v)
/-- with it, where it goes -/
def putI (xs : List Int) (v : Int) : List Int := xs.take (lowI xs v) ++ [v] ++ xs.drop (lowI xs v)
theorem take_atP {xs : List Int} {t i : Nat} (h : i < t) : (xs.take t).getD i 0 = xs.getD i 0 := by
  simp [List.getD, List.getElem?_take, h]
theorem drop_atP {xs : List Int} {t i : Nat} : (xs.drop t).getD i 0 = xs.getD (t + i) 0 := by
  simp [List.getD, List.getElem?_drop]
theorem row_someP {w : World} {base e size n c : Nat} {a : Option Addr} {xs : List Value} (h : w.ownsRow base e size (.slice a n c) n xs) (hn : 0 < n) : ∃ g, a = some ⟨g, 0, none⟩ ∧ base ≤ g ∧ g < w.heap.size ∧ n ≤ c := by
  have h' := h
  rcases h.2 with ⟨q, _⟩ | ⟨g, c', _, q, _, _, hc, _⟩
  · injection q with q1 q2 q3; omega
  · injection q with q1 q2 q3
    subst q1
    have := h'.lt g rfl
    exact ⟨g, rfl, this.1, this.2, by omega⟩
set_option maxHeartbeats 1000000 in
theorem l1Has_any (a : Option Addr) (cap : Nat) (xs : List Int) (v : Int) (w : World) (h : Rd w a xs) (hn : xs.length ≤ 1048576) :
    Calls Try.prog 52 #[.slice a xs.length cap, .int .i64 v] w fun e w' => e = .returned (.bool (xs.contains v)) ∧ w = w' := by
  have hnI : (xs.length : Int) ≤ 1048576 := by omega
  go_enter Try.func52, Try.ntmps52
  go_wp2_with fail
  go_loopg [9] xs.length (fun k v9 wr => ∃ (j : Nat), v9 = .int .i64 (j : Int) ∧ j + k ≤ xs.length ∧ xs.length ≤ j + k ∧ Hid (∀ i, i < j → xs.getD i 0 ≠ v) ∧ w = wr)
  case atStart => exact ⟨0, rfl, by omega, by omega, fun i hi => absurd hi (Nat.not_lt_zero _), rfl⟩
  case round =>
    obtain ⟨j, rfl, q1, q2, hp, rfl⟩ := hrel
    by_cases hj : j < xs.length
    · rcases h with h | ⟨b, off, rfl, hlt, hc⟩
      · rw [h] at hj; exact absurd hj (Nat.not_lt_zero _)
      · have hcj := hc j hj
        have hjI : (j : Int) < (xs.length : Int) := by omega
        have hmem : xs.getD j 0 ∈ xs := by rw [List.getD, List.getElem?_eq_getElem hj]; exact List.getElem_mem hj
        clear hc
        by_cases hx : xs.getD j 0 = v
        · have HT := Lib.hid (show xs.contains v = true from by rw [List.contains_iff_mem, ← hx]; exact hmem)
          have hxe : (xs.getD j 0 == v) = true := by rw [hx]; simp
          clear hp hmem hx
          generalize xs.getD j 0 = x at *
          go_wp2_with fail
          go_ret
          rw [HT.out]
          exact ⟨rfl, rfl⟩
        · have hp2 : Hid (∀ i, i < j + 1 → xs.getD i 0 ≠ v) := by
            intro i hi
            by_cases q : i = j
            · rw [q]; exact hx
            · exact hp.out i (by omega)
          have hxe : (xs.getD j 0 == v) = false := by rw [beq_eq_false_iff_ne]; exact hx
          clear hp hmem hx
          generalize xs.getD j 0 = x at *
          go_wp2_with fail
          go_roundg (gk - 1)
          case rel => exact ⟨j + 1, by go_num, by omega, by omega, hp2, rfl⟩
          case measure => omega
    · have HT := Lib.hid (show xs.contains v = false from by
        rw [Bool.eq_false_iff]
        intro hm
        rw [List.contains_iff_mem] at hm
        obtain ⟨i, hi, e⟩ := List.getElem_of_mem hm
        exact hp.out i (by omega) (by rw [List.getD, List.getElem?_eq_getElem hi]; exact e))
      clear hp
      go_wp2_with fail
      go_ret
      rw [HT.out]
      exact ⟨rfl, rfl⟩
end Go.Proofs.Ytlfjgggidoakaaa
