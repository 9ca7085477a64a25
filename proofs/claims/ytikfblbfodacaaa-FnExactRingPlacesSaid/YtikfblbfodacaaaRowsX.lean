/- A slice of slices of integers as it grows by appends: it ends in OwnSS. -/
import Derived.Test.YtikfblbfodacaaaSlicesS
import Derived.WalkKit
namespace Go.Proofs.Ytikfblbfodacaaa
open Go.RowKit
set_option linter.unusedVariables false
set_option linter.unusedSimpArgs false
theorem sliceInfoX : (Try.prog.info? 54).map (fun i => (i.zero, i.size, i.bytes)) = some (some (.slice none 0 0), 1, 24) := by kernel_rfl
theorem int_ne_slice : 3 ≠ 54 := by decide
/-- rows of elements of two types lie in two blocks -/
theorem own_neX {w : World} {b1 b2 n1 n2 s1 s2 : Nat} {e1 e2 : TypeId} {v1 v2 : Value} {l1 l2 : List Value} (h : w.ownsRow b1 e1 s1 v1 n1 l1) (k : w.ownsRow b2 e2 s2 v2 n2 l2) (ne : e1 ≠ e2) : v1.ownBlock = none ∨ v1.ownBlock ≠ v2.ownBlock := by
  rcases h.2 with ⟨rfl, _⟩ | ⟨g, c, cur, rfl, _, hg, _⟩
  · exact .inl rfl
  · right
    rcases k.2 with ⟨rfl, _⟩ | ⟨g', c', cur', rfl, _, hg', _⟩
    · simp [Value.ownBlock]
    · intro q
      have : g = g' := by simpa [Value.ownBlock] using q
      subst this
      rw [hg] at hg'
      injection hg' with hg'
      injection hg' with _ q2
      exact ne q2
theorem own_newX (w : World) {base : Nat} (hb : base ≤ w.heap.size) (e : TypeId) (cur : Array Value) (hm : cur.size ≤ maxLen) : (w.alloc (.cells cur e)).ownsRow base e 1 (.slice (some ⟨w.heap.size, 0, none⟩) cur.size cur.size) cur.size cur.toList :=
  ⟨by simp, .inr ⟨w.heap.size, cur.size, cur, rfl, hb, heap_alloc_new w _, Nat.le_refl _, hm, by omega, by rw [Nat.mul_one, ← Array.length_toList, List.take_length]⟩⟩
theorem own_twoX (w : World) {base : Nat} (hb : base ≤ w.heap.size) (p q : Int) : Own (w.alloc (.cells #[.int .i64 p, .int .i64 q] 3)) base (some ⟨w.heap.size, 0, none⟩) 2 [p, q] :=
  own_newX w hb 3 #[.int .i64 p, .int .i64 q] (by simp [maxLen])
theorem row_formX {w : World} {base e size n : Nat} {v : Value} {xs : List Value} (h : w.ownsRow base e size v n xs) : ∃ a c, v = .slice a n c := by
  rcases h.2 with ⟨rfl, rfl⟩ | ⟨g, c, _, rfl, _⟩
  · exact ⟨_, _, rfl⟩
  · exact ⟨_, _, rfl⟩
theorem cell_one_newX (w : World) (o1 : Obj) (v : Value) (e : TypeId) : ∀ (j : Nat) (u : Value), [v][j]? = some u → ((w.alloc o1).alloc (.cells #[v] e)).cell? ((⟨w.heap.size + 1, 0, none⟩ : Addr).add j) = some u := by
  have h := cell_one_new (w.alloc o1) v e
  have e1 : (w.alloc o1).heap.size = w.heap.size + 1 := by simp
  rw [e1] at h; exact h
/-- the values of the outer row -/
def valsX (β : Nat → Nat) (ks : List (List Int)) (j : Nat) : List Value := (List.range j).map fun i => .slice (some ⟨β i, 0, none⟩) (ks.getD i []).length (ks.getD i []).length
theorem valsX_get {β : Nat → Nat} {ks : List (List Int)} {i j : Nat} (h : i < j) : (valsX β ks j)[i]? = some (.slice (some ⟨β i, 0, none⟩) (ks.getD i []).length (ks.getD i []).length) := by simp [valsX, h]
theorem valsX_succ (β : Nat → Nat) (ks : List (List Int)) (j B : Nat) : valsX (fun i => if i = j then B else β i) ks (j + 1) = valsX β ks j ++ [.slice (some ⟨B, 0, none⟩) (ks.getD j []).length (ks.getD j []).length] := by
  unfold valsX
  rw [List.range_succ, List.map_append]
  congr 1
  · apply List.map_congr_left
    intro i hi
    have hlt : i < j := List.mem_range.1 hi
    have hne : ¬ i = j := by omega
    simp only [if_neg hne]
  · simp
/-- the first j slices of ks stand in the row at a -/
def RowsX (w : World) (base : Nat) (a : Option Addr) (cap j : Nat) (β : Nat → Nat) (ks : List (List Int)) : Prop :=
  w.ownsRow base 54 1 (.slice a j cap) j (valsX β ks j) ∧ (∀ i, i < j → Own w base (some ⟨β i, 0, none⟩) (ks.getD i []).length (ks.getD i [])) ∧ ∀ i k, i < k → k < j → β i < β k
theorem RowsX.below {w w' : World} {base : Nat} {a : Option Addr} {cap j : Nat} {β : Nat → Nat} {ks : List (List Int)} (h : RowsX w base a cap j β ks) (hb : Below w.heap.size w w') : RowsX w' base a cap j β ks :=
  ⟨rowB h.1 hb, fun i hi => (h.2.1 i hi).below hb, h.2.2⟩
theorem RowsX.lt {w : World} {base : Nat} {a : Option Addr} {cap j : Nat} {β : Nat → Nat} {ks : List (List Int)} (h : RowsX w base a cap j β ks) {i : Nat} (hi : i < j) : β i < w.heap.size := by
  have h1 := h.2.1 i hi
  unfold Own at h1
  exact (h1.lt (β i) rfl).2
theorem RowsX.nil (w : World) (base : Nat) (β : Nat → Nat) (ks : List (List Int)) : RowsX w base none 0 0 β ks :=
  ⟨World.ownsRow_nil _ _ _ _, fun i hi => absurd hi (Nat.not_lt_zero _), fun i k _ hk => absurd hk (Nat.not_lt_zero _)⟩
/-- behind an append of a new slice at block B -/
theorem RowsX.grown {w W w6 : World} {base : Nat} {a a6 : Option Addr} {cap c6 j B : Nat} {β : Nat → Nat} {ks : List (List Int)} (h : RowsX w base a cap j β ks) (hW : Below w.heap.size w W) (hB : w.heap.size ≤ B)
    (hN : Own W base (some ⟨B, 0, none⟩) (ks.getD j []).length (ks.getD j [])) (hg : W.grownBy w6 (Value.slice a j cap).ownBlock)
    (hO : w6.ownsRow base 54 1 (.slice a6 (j + 1) c6) (j + 1) (valsX β ks j ++ [.slice (some ⟨B, 0, none⟩) (ks.getD j []).length (ks.getD j []).length])) :
    RowsX w6 base a6 c6 (j + 1) (fun i => if i = j then B else β i) ks := by
  have hW' := h.below hW
  refine ⟨by rw [valsX_succ]; exact hO, fun i hi => ?_, fun i k hik hk => ?_⟩
  · by_cases q : i = j
    · subst q
      simp only [if_true]
      unfold Own at hN ⊢
      exact World.ownsRow.kept hN hg (own_neX hN hW'.1 int_ne_slice)
    · simp only [if_neg q]
      have hi' := hW'.2.1 i (by omega)
      unfold Own at hi' ⊢
      exact World.ownsRow.kept hi' hg (own_neX hi' hW'.1 int_ne_slice)
  · simp only [if_neg (show ¬ i = j by omega)]
    by_cases q : k = j
    · rw [if_pos q]
      exact Nat.lt_of_lt_of_le (h.lt (show i < j by omega)) hB
    · rw [if_neg q]
      exact h.2.2 i k hik (by omega)
theorem RowsX.own {w : World} {base : Nat} {a : Option Addr} {cap j : Nat} {β : Nat → Nat} {ks : List (List Int)} (h : RowsX w base a cap j β ks) (hj : ks.length = j) : OwnSS w base a cap ks := by
  subst hj
  refine ⟨fun i => some ⟨β i, 0, none⟩, fun i => (ks.getD i []).length, h.1, h.2.1, fun i k hi hk ne => .inr ?_, fun k hk => ?_⟩
  · simp only [Value.ownBlock]
    intro q
    have q2 : β i = β k := by simpa using q
    rcases Nat.lt_or_ge i k with c | c
    · have := h.2.2 i k c hk; omega
    · have := h.2.2 k i (by omega) hi; omega
  · have hk' := h.2.1 k hk
    unfold Own at hk'
    exact own_neX h.1 hk' (fun e => int_ne_slice e.symm)
end Go.Proofs.Ytikfblbfodacaaa
