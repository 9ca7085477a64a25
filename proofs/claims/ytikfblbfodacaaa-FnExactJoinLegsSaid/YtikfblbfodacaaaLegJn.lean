/- Neighbours of one speed joined one after another: plain mathematics for the program. -/
import Derived.Test.YtikfblbfodacaaaLegJoin
namespace Go.Proofs.Ytikfblbfodacaaa
open Go.RowKit
set_option linter.unusedVariables false
/-- the legs m and m + 1 as one -/
def mrg (ys : List (Int × Int)) (m : Nat) : List (Int × Int) := ys.take m ++ (px ys m + px ys (m + 1), py ys m) :: ys.drop (m + 2)
theorem mrg_len {ys : List (Int × Int)} {m : Nat} (h : m + 1 < ys.length) : (mrg ys m).length = ys.length - 1 := by
  simp [mrg]; omega
theorem mrg_get {ys : List (Int × Int)} {m : Nat} (h : m + 1 < ys.length) (i : Nat) : (mrg ys m).getD i (0, 0) = if i < m then ys.getD i (0, 0) else if i = m then (px ys m + px ys (m + 1), py ys m) else ys.getD (i + 1) (0, 0) := by
  have ht : (ys.take m).length = m := by simp; omega
  unfold mrg
  split
  · rename_i q
    rw [List.getD, List.getElem?_append_left (by omega), List.getElem?_take, if_pos q]; rfl
  · rename_i q
    rw [List.getD, List.getElem?_append_right (by omega), ht]
    split
    · rename_i e
      rw [show i - m = 0 by omega]; rfl
    · rename_i e
      rw [show i - m = (i - m - 1) + 1 by omega, List.getElem?_cons_succ, List.getElem?_drop, show m + 2 + (i - m - 1) = i + 1 by omega]; rfl
theorem mrg_px {ys : List (Int × Int)} {m : Nat} (h : m + 1 < ys.length) (i : Nat) : px (mrg ys m) i = if i < m then px ys i else if i = m then px ys m + px ys (m + 1) else px ys (i + 1) := by
  show ((mrg ys m).getD i (0, 0)).1 = _
  rw [mrg_get h]
  split
  · rfl
  · split <;> rfl
theorem mrg_py {ys : List (Int × Int)} {m : Nat} (h : m + 1 < ys.length) (i : Nat) : py (mrg ys m) i = if i < m then py ys i else if i = m then py ys m else py ys (i + 1) := by
  show ((mrg ys m).getD i (0, 0)).2 = _
  rw [mrg_get h]
  split
  · rfl
  · split <;> rfl
/-- joining as a fold -/
def jnG (o ys : List (Int × Int)) : List (Int × Int) := ys.foldl (fun o p => jnS o p.1 p.2) o
theorem jnL_fold (ys : List (Int × Int)) : ∀ j, j ≤ ys.length → jnL ys j = jnG [] (ys.take j)
  | 0, _ => by simp [jnL, jnG]
  | j + 1, hj => by
    have ih := jnL_fold ys j (by omega)
    rw [List.take_succ_eq_append_getElem (by omega)]
    unfold jnG at ih ⊢
    rw [List.foldl_append, ← ih]
    show jnS (jnL ys j) (px ys j) (py ys j) = jnS (jnL ys j) ys[j].1 ys[j].2
    simp [px, py, List.getD, List.getElem?_eq_getElem (show j < ys.length by omega)]
theorem jnL_all (ys : List (Int × Int)) : jnL ys ys.length = jnG [] ys := by
  rw [jnL_fold ys _ (Nat.le_refl _), List.take_length]
theorem getD_last_set {o : List (Int × Int)} (p : Int × Int) (h : 0 < o.length) : (o.set (o.length - 1) p).getD (o.length - 1) (0, 0) = p := by
  rw [List.getD, List.getElem?_set_self (by omega)]; rfl
theorem getD_last_app (o : List (Int × Int)) (p : Int × Int) : (o ++ [p]).getD o.length (0, 0) = p := by
  rw [List.getD, List.getElem?_append_right (Nat.le_refl _), Nat.sub_self]; rfl
theorem jnS_two (o : List (Int × Int)) (a b f : Int) : jnS (jnS o a f) b f = jnS o (a + b) f := by
  by_cases h : 0 < o.length ∧ py o (o.length - 1) = f
  · have e1 : jnS o a f = o.set (o.length - 1) (px o (o.length - 1) + a, f) := by unfold jnS; rw [if_pos h]
    have e2 : jnS o (a + b) f = o.set (o.length - 1) (px o (o.length - 1) + (a + b), f) := by unfold jnS; rw [if_pos h]
    rw [e1, e2]
    unfold jnS
    rw [List.length_set]
    have q : py (o.set (o.length - 1) (px o (o.length - 1) + a, f)) (o.length - 1) = f := by unfold py; rw [getD_last_set _ h.1]
    rw [if_pos ⟨h.1, q⟩]
    have q2 : px (o.set (o.length - 1) (px o (o.length - 1) + a, f)) (o.length - 1) = px o (o.length - 1) + a := by
      conv => lhs; unfold px
      rw [getD_last_set _ h.1]; rfl
    rw [q2, List.set_set, Int.add_assoc]
  · have e1 : jnS o a f = o ++ [(a, f)] := by unfold jnS; rw [if_neg h]
    have e2 : jnS o (a + b) f = o ++ [(a + b, f)] := by unfold jnS; rw [if_neg h]
    rw [e1, e2]
    unfold jnS
    rw [List.length_append, List.length_singleton, Nat.add_sub_cancel]
    have q : py (o ++ [(a, f)]) o.length = f := by unfold py; rw [getD_last_app]
    have q2 : px (o ++ [(a, f)]) o.length = a := by unfold px; rw [getD_last_app]
    rw [if_pos ⟨by omega, q⟩, q2, List.set_append_right _ _ (Nat.le_refl _), Nat.sub_self]; rfl
theorem jn_mrg {ys : List (Int × Int)} {m : Nat} (h : m + 1 < ys.length) (e : py ys m = py ys (m + 1)) : jnL (mrg ys m) (mrg ys m).length = jnL ys ys.length := by
  rw [jnL_all, jnL_all]
  have s : ys = ys.take m ++ (px ys m, py ys m) :: (px ys (m + 1), py ys (m + 1)) :: ys.drop (m + 2) := by
    conv => lhs; rw [← List.take_append_drop m ys]
    congr 1
    rw [List.drop_eq_getElem_cons (by omega), List.drop_eq_getElem_cons (i := m + 1) (by omega)]
    simp only [px, py, List.getD, List.getElem?_eq_getElem (show m < ys.length by omega), List.getElem?_eq_getElem h, Option.getD_some]
  conv => rhs; rw [s]
  unfold mrg jnG
  rw [List.foldl_append, List.foldl_append, List.foldl_cons, List.foldl_cons, List.foldl_cons]
  congr 1
  rw [← e]
  exact (jnS_two _ _ _ _).symm
theorem jn_done {ys : List (Int × Int)} (h : ∀ m, m + 1 < ys.length → py ys m ≠ py ys (m + 1)) : ∀ j, j ≤ ys.length → jnL ys j = ys.take j
  | 0, _ => rfl
  | j + 1, hj => by
    have ih := jn_done h j (by omega)
    have hl : (ys.take j).length = j := by simp; omega
    show jnS (jnL ys j) (px ys j) (py ys j) = _
    rw [ih, List.take_succ_eq_append_getElem (by omega)]
    unfold jnS
    have e : (px ys j, py ys j) = ys[j] := by simp [px, py, List.getD, List.getElem?_eq_getElem (show j < ys.length by omega)]
    rw [hl, if_neg, e]
    rintro ⟨h1, h2⟩
    have := h (j - 1) (by omega)
    rw [show j - 1 + 1 = j by omega] at this
    apply this
    rw [← h2]
    unfold py
    rw [List.getD, List.getD, List.getElem?_take, if_pos (by omega)]
theorem jn_all_done {ys : List (Int × Int)} (h : ∀ m, m + 1 < ys.length → py ys m ≠ py ys (m + 1)) : jnL ys ys.length = ys := by
  rw [jn_done h _ (Nat.le_refl _), List.take_length]
/-- the first two neighbours of one speed as one -/
def joF (ys : List (Int × Int)) : Nat → Nat → List (Int × Int)
  | 0, _ => ys
  | f + 1, m => if py ys m = py ys (m + 1) then (if m + 1 < ys.length then mrg ys m else ys) else joF ys f (m + 1)
def bdJ : Nat → Int
  | 1 => 16000
  | 2 => 8000
  | 3 => 4000
  | 4 => 2000
  | _ => 1000
theorem bdJ_up {n : Nat} (h1 : 2 ≤ n) (h2 : n ≤ 5) : 2 * bdJ n ≤ bdJ (n - 1) ∧ bdJ n ≤ bdJ (n - 1) ∧ 1000 ≤ bdJ n ∧ bdJ n ≤ 16000 := by
  match n, h1, h2 with
  | 2, _, _ => decide
  | 3, _, _ => decide
  | 4, _, _ => decide
  | 5, _, _ => decide
theorem bdJ_bd {n : Nat} (h1 : 1 ≤ n) (h2 : n ≤ 5) : 1000 ≤ bdJ n ∧ bdJ n ≤ 16000 := by
  match n, h1, h2 with
  | 1, _, _ => decide
  | 2, _, _ => decide
  | 3, _, _ => decide
  | 4, _, _ => decide
  | 5, _, _ => decide
/-- legs that may have grown -/
def jgOk (ys : List (Int × Int)) : Prop := 1 ≤ ys.length ∧ ys.length ≤ 5 ∧ ∀ i, i < ys.length → 1 ≤ px ys i ∧ px ys i ≤ bdJ ys.length ∧ 1 ≤ py ys i ∧ py ys i ≤ 100
theorem px_out {ys : List (Int × Int)} {i : Nat} (h : ys.length ≤ i) : px ys i = 0 ∧ py ys i = 0 := by
  unfold px py; rw [List.getD, List.getElem?_eq_none h]; exact ⟨rfl, rfl⟩
theorem jgOk_bd {ys : List (Int × Int)} (h : jgOk ys) (i : Nat) : 0 ≤ px ys i ∧ px ys i ≤ 16000 ∧ 0 ≤ py ys i ∧ py ys i ≤ 100 := by
  by_cases q : i < ys.length
  · have := h.2.2 i q
    have := bdJ_bd h.1 h.2.1
    omega
  · have := px_out (ys := ys) (i := i) (by omega)
    omega
theorem jgOk_of {xs : List (Int × Int)} (h : lgS xs = true) : jgOk xs := by
  obtain ⟨h1, h2, h3⟩ := lgS_at h
  refine ⟨h1, h2, fun i hi => ?_⟩
  have := lgOk_iff.1 (h3 i hi)
  have := bdJ_bd h1 h2
  omega
theorem jgOk_mrg {ys : List (Int × Int)} (h : jgOk ys) {m : Nat} (hm : m + 1 < ys.length) : jgOk (mrg ys m) := by
  have b := bdJ_up (n := ys.length) (by omega) h.2.1
  unfold jgOk
  rw [mrg_len hm]
  refine ⟨by omega, by have := h.2.1; omega, fun i hi => ?_⟩
  rw [mrg_px hm, mrg_py hm]
  have x := h.2.2 m (by omega)
  have y := h.2.2 (m + 1) hm
  by_cases q : i < m
  · rw [if_pos q, if_pos q]
    have := h.2.2 i (by omega); omega
  · rw [if_neg q, if_neg q]
    by_cases r : i = m
    · rw [if_pos r, if_pos r]; omega
    · rw [if_neg r, if_neg r]
      have := h.2.2 (i + 1) (by omega); omega
theorem joF_spec {ys : List (Int × Int)} (h : jgOk ys) : ∀ f m, m + f = 4 → (∀ i, i < m → i + 1 < ys.length → py ys i ≠ py ys (i + 1)) →
    (joF ys f m = ys ∧ ∀ i, i + 1 < ys.length → py ys i ≠ py ys (i + 1)) ∨ ∃ k, k + 1 < ys.length ∧ py ys k = py ys (k + 1) ∧ joF ys f m = mrg ys k
  | 0, m, hm, hall => .inl ⟨rfl, fun i hi => hall i (by have := h.2.1; omega) hi⟩
  | f + 1, m, hm, hall => by
    unfold joF
    by_cases e : py ys m = py ys (m + 1)
    · rw [if_pos e]
      by_cases q : m + 1 < ys.length
      · rw [if_pos q]; exact .inr ⟨m, q, e, rfl⟩
      · rw [if_neg q]
        refine .inl ⟨rfl, fun i hi => hall i ?_ hi⟩
        have o := (px_out (ys := ys) (i := m + 1) (by omega)).2
        by_cases r : m < ys.length
        · have := h.2.2 m r; omega
        · omega
    · rw [if_neg e]
      exact joF_spec h f (m + 1) (by omega) fun i hi hl => by
        by_cases q : i = m
        · rw [q]; exact e
        · exact hall i (by omega) hl
/-- the array once more: no other one if nothing was to join -/
theorem joF_cases {ys : List (Int × Int)} (h : jgOk ys) : (joF ys 4 0 = ys ∧ jnL ys ys.length = ys) ∨ (jgOk (joF ys 4 0) ∧ (joF ys 4 0).length + 1 = ys.length ∧ jnL (joF ys 4 0) (joF ys 4 0).length = jnL ys ys.length ∧ py (joF ys 4 0) (ys.length - 1) ≠ py ys (ys.length - 1)) := by
  rcases joF_spec h 4 0 rfl (fun i hi => absurd hi (Nat.not_lt_zero _)) with ⟨q, r⟩ | ⟨k, k1, k2, q⟩
  · exact .inl ⟨q, jn_all_done r⟩
  · rw [q]
    refine .inr ⟨jgOk_mrg h k1, by rw [mrg_len k1]; omega, jn_mrg k1 k2, ?_⟩
    have o := (px_out (ys := mrg ys k) (i := ys.length - 1) (by rw [mrg_len k1]; omega)).2
    have := h.2.2 (ys.length - 1) (by have := h.1; omega)
    omega
end Go.Proofs.Ytikfblbfodacaaa
