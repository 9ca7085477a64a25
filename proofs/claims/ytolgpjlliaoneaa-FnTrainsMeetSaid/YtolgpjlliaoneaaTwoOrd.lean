/- The model's stable order of keys, by contracts. -/
import Derived.Test.YtolgpjlliaoneaaProg
import Derived.Test.YtolgpjlliaoneaaSlices
import Derived.WalkKit
import Derived.WalkSpells
import Derived.WalkLawsBesides
import Derived.Lib.Hide
import Derived.Deep.LoopGhost
import Derived.Laws.AppendOwnNone
import Derived.Deep.QuietTactic
import Derived.Deep.RegionHeld3
import Derived.BigQuiet
namespace Go.Proofs.Ytolgpjlliaoneaa
open Go.RowKit
set_option linter.unusedVariables false
set_option linter.unusedSimpArgs false
/-- does a list come before another one -/
def lexB : List Int → List Int → Bool
  | x :: xs, y :: ys => if x = y then lexB xs ys else decide (x < y)
  | _, _ => false
theorem lexB_at : ∀ {xs ys : List Int} {j : Nat}, (∀ i, i < j → xs.getD i 0 = ys.getD i 0) → j < xs.length → j < ys.length → xs.getD j 0 ≠ ys.getD j 0 → lexB xs ys = decide (xs.getD j 0 < ys.getD j 0)
  | [], _, j, _, h, _, _ => absurd h (Nat.not_lt_zero _)
  | _ :: _, [], j, _, _, h, _ => absurd h (Nat.not_lt_zero _)
  | x :: xs, y :: ys, 0, _, _, _, hn => by
    have : ¬ x = y := by simpa using hn
    simp [lexB, this]
  | x :: xs, y :: ys, j + 1, h, h1, h2, hn => by
    have e : x = y := by simpa using h 0 (by omega)
    have := lexB_at (xs := xs) (ys := ys) (j := j) (fun i hi => by have := h (i + 1) (by omega); simpa using this) (by simpa using h1) (by simpa using h2) (by simpa using hn)
    simp only [lexB, if_pos e, this]; simp
theorem lexB_same : ∀ {xs ys : List Int}, xs.length = ys.length → (∀ i, i < xs.length → xs.getD i 0 = ys.getD i 0) → lexB xs ys = false
  | [], _, _, _ => by simp [lexB]
  | _ :: _, [], h, _ => by simp at h
  | x :: xs, y :: ys, hl, h => by
    have e : x = y := by simpa using h 0 (by simp)
    have := lexB_same (xs := xs) (ys := ys) (by simpa using hl) (fun i hi => by have := h (i + 1) (by simp; omega); simpa using this)
    simp only [lexB, if_pos e, this]
/-- what a slice of integers reads as, the nil slice told apart -/
def RdZ (w : World) (a : Option Addr) (cap : Nat) (xs : List Int) : Prop :=
  (a = none ∧ cap = 0 ∧ xs = []) ∨ ∃ b off, a = some ⟨b, off, none⟩ ∧ b < w.heap.size ∧ ∀ i, i < xs.length → w.cell? ⟨b, off + i, none⟩ = some (.int .i64 (xs.getD i 0))
theorem rowB {w w' : World} {base : Nat} {e : TypeId} {size : Nat} {v : Value} {n : Nat} {xs : List Value} (h : w.ownsRow base e size v n xs) (hb : Below w.heap.size w w') : w'.ownsRow base e size v n xs := by
  obtain ⟨hl, h⟩ := h
  refine ⟨hl, ?_⟩
  rcases h with h | ⟨g, c, cur, e, h1, h2, h3⟩
  · exact .inl h
  · have hg : g < w.heap.size := by
      rcases Nat.lt_or_ge g w.heap.size with q | q
      · exact q
      · rw [Array.getElem?_eq_none q] at h2; cases h2
    exact .inr ⟨g, c, cur, e, h1, by rw [hb.block g hg]; exact h2, h3⟩
theorem row_two {w : World} {base e size n c : Nat} {a : Option Addr} {xs : List Value} (h : w.ownsRow base e size (.slice a n c) n xs) : (a = none ∧ n = 0 ∧ c = 0) ∨ ∃ g, a = some ⟨g, 0, none⟩ ∧ base ≤ g ∧ g < w.heap.size := by
  have h' := h
  rcases h.2 with ⟨q, _⟩ | ⟨g, c', _, q, _⟩
  · injection q with q1 q2 q3; exact .inl ⟨q1, q2, q3⟩
  · injection q with q1 q2 q3
    subst q1
    have := h'.lt g rfl
    exact .inr ⟨g, rfl, this.1, this.2⟩
theorem row_base {w : World} {base base2 : Nat} {e : TypeId} {size : Nat} {v : Value} {n : Nat} {xs : List Value} (h : w.ownsRow base e size v n xs) (hb : base2 ≤ base) : w.ownsRow base2 e size v n xs := by
  obtain ⟨hl, h⟩ := h
  refine ⟨hl, ?_⟩
  rcases h with h | ⟨g, c, cur, e, h1, h2⟩
  · exact .inl h
  · exact .inr ⟨g, c, cur, e, Nat.le_trans hb h1, h2⟩
theorem ints_news {w : World} {b off : Nat} {xs : List Int} (hc : ∀ i, i < xs.length → w.cell? ⟨b, off + i, none⟩ = some (.int .i64 (xs.getD i 0))) : ∀ (j : Nat) u, (xs.map (Value.int .i64))[j]? = some u → w.cell? ((⟨b, off, none⟩ : Addr).add j) = some u := by
  intro j u hu
  have hj : j < xs.length := by
    rcases Nat.lt_or_ge j xs.length with q | q
    · exact q
    · rw [List.getElem?_eq_none (by simpa using q)] at hu; cases hu
  rw [List.getElem?_map, List.getElem?_eq_getElem hj] at hu
  simp at hu; subst hu
  have ea : (⟨b, off, none⟩ : Addr).add j = ⟨b, off + j, none⟩ := by unfold Addr.add; split <;> simp_all
  rw [ea, hc j hj]; simp [List.getD, List.getElem?_eq_getElem hj]
theorem ints_one {xs : List Int} : ∀ u ∈ xs.map (Value.int .i64), u.oneCell' = true := by
  intro u hu
  obtain ⟨y, _, rfl⟩ := List.mem_map.1 hu
  rfl
theorem row_form {w : World} {base e size n : Nat} {v : Value} {xs : List Value} (h : w.ownsRow base e size v n xs) : ∃ a c, v = .slice a n c := by
  rcases h.2 with ⟨rfl, rfl⟩ | ⟨g, c, _, rfl, _⟩
  · exact ⟨_, _, rfl⟩
  · exact ⟨_, _, rfl⟩
/-- where the next one goes -/
def insAt (ks : List (List Int)) (key : List Int) (out : List Nat) : Nat → Nat
  | 0 => 0
  | k + 1 => if lexB key (ks.getD (out.getD k 0) []) then insAt ks key out k else k + 1
/-- the order of the first ones -/
def ordK (ks : List (List Int)) : Nat → List Nat
  | 0 => []
  | k + 1 => let out := ordK ks k; let at_ := insAt ks (ks.getD k []) out out.length; out.take at_ ++ [k] ++ out.drop at_
theorem ints_at {w : World} {base j c g : Nat} {xs : List Int} (h : w.ownsRow base 3 1 (.slice (some ⟨g, 0, none⟩) j c) j (xs.map (Value.int .i64))) (hl : xs.length = j) : ∀ i, i < j → w.cell? ⟨g, i, none⟩ = some (.int .i64 (xs.getD i 0)) := by
  intro i hi
  rw [h.cellAt i (by omega), List.getElem?_map, List.getElem?_eq_getElem (by omega)]
  simp [List.getD, List.getElem?_eq_getElem (show i < xs.length by omega)]
theorem take_at {xs : List Int} {t i : Nat} (h : i < t) : (xs.take t).getD i 0 = xs.getD i 0 := by
  simp [List.getD, List.getElem?_take, h]
theorem drop_at {xs : List Int} {t i : Nat} : (xs.drop t).getD i 0 = xs.getD (t + i) 0 := by
  simp [List.getD, List.getElem?_drop]
theorem row_some {w : World} {base e size n c : Nat} {a : Option Addr} {xs : List Value} (h : w.ownsRow base e size (.slice a n c) n xs) (hn : 0 < n) : ∃ g, a = some ⟨g, 0, none⟩ ∧ base ≤ g ∧ g < w.heap.size ∧ n ≤ c := by
  have h' := h
  rcases h.2 with ⟨q, _⟩ | ⟨g, c', _, q, _, _, hc, _⟩
  · injection q with q1 q2 q3; omega
  · injection q with q1 q2 q3
    subst q1
    have := h'.lt g rfl
    exact ⟨g, rfl, this.1, this.2, by omega⟩
theorem insAt_le (ks : List (List Int)) (key : List Int) (out : List Nat) : ∀ k, insAt ks key out k ≤ k
  | 0 => Nat.le_refl _
  | k + 1 => by
    unfold insAt
    split
    · exact Nat.le_trans (insAt_le ks key out k) (by omega)
    · exact Nat.le_refl _
theorem ordK_length (ks : List (List Int)) : ∀ k, (ordK ks k).length = k
  | 0 => rfl
  | k + 1 => by
    have := ordK_length ks k
    have h := insAt_le ks (ks.getD k []) (ordK ks k) (ordK ks k).length
    simp only [ordK, List.length_append, List.length_take, List.length_drop, List.length_cons, List.length_nil]
    omega
theorem ordK_lt (ks : List (List Int)) : ∀ k, ∀ i ∈ ordK ks k, i < k
  | 0, i, h => by simp [ordK] at h
  | k + 1, i, h => by
    simp only [ordK, List.mem_append, List.mem_cons, List.not_mem_nil, or_false] at h
    rcases h with (h | h) | h
    · have := ordK_lt ks k i (List.mem_of_mem_take h); omega
    · omega
    · have := ordK_lt ks k i (List.mem_of_mem_drop h); omega
theorem ordK_at (ks : List (List Int)) {k j : Nat} (h : j < k) : (ordK ks k).getD j 0 < k := by
  have hj : j < (ordK ks k).length := by rw [ordK_length]; exact h
  rw [List.getD, List.getElem?_eq_getElem hj]
  exact ordK_lt ks k _ (List.getElem_mem hj)
def ordI (ks : List (List Int)) (k : Nat) : List Int := (ordK ks k).map fun (i : Nat) => (i : Int)
theorem ordI_length (ks : List (List Int)) (k : Nat) : (ordI ks k).length = k := by unfold ordI; rw [List.length_map, ordK_length]
theorem ordI_at (ks : List (List Int)) {k j : Nat} (h : j < k) : (ordI ks k).getD j 0 = (((ordK ks k).getD j 0 : Nat) : Int) := by
  have hj : j < (ordK ks k).length := by rw [ordK_length]; exact h
  simp [ordI, List.getD, List.getElem?_eq_getElem hj]
theorem ordI_succ (ks : List (List Int)) (k t : Nat) (h : insAt ks (ks.getD k []) (ordK ks k) k = t) : ordI ks (k + 1) = (ordI ks k).take t ++ [(k : Int)] ++ (ordI ks k).drop t := by
  unfold ordI
  simp only [ordK, ordK_length, h, List.map_append, List.map_take, List.map_drop, List.map_cons, List.map_nil]
end Go.Proofs.Ytolgpjlliaoneaa
