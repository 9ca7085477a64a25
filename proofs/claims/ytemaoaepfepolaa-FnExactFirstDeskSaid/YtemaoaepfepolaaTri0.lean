/- Slices of structs of three integers: what a slice reads as. -/
import Derived.Test.YtemaoaepfepolaaProg
import Derived.Test.YtemaoaepfepolaaTwoWalks
import Derived.Test.YtemaoaepfepolaaPairs0
import Derived.WalkKit
import Derived.WalkSpells
import Derived.WalkLawsBesides
import Derived.Lib.Hide
namespace Go.Proofs.Ytemaoaepfepolaa
open Go.RowKit
set_option linter.unusedVariables false
set_option linter.unusedSimpArgs false

/-- the cells of a list of triples -/
def cs3 : List (Int × Int × Int) → List Value
  | [] => []
  | p :: t => .int .i64 p.1 :: .int .i64 p.2.1 :: .int .i64 p.2.2 :: cs3 t
theorem cs3_length : ∀ xs : List (Int × Int × Int), (cs3 xs).length = xs.length * 3
  | [] => rfl
  | p :: t => by simp only [cs3, List.length_cons, cs3_length t]; omega
theorem cs3_get0 : ∀ (xs : List (Int × Int × Int)) (i : Nat), (cs3 xs)[i * 3]? = xs[i]?.map fun p => Value.int .i64 p.1
  | [], i => by simp [cs3]
  | p :: t, 0 => by simp [cs3]
  | p :: t, i + 1 => by
    have := cs3_get0 t i
    rw [show (i + 1) * 3 = i * 3 + 1 + 1 + 1 from by omega]; simpa [cs3] using this
theorem cs3_get1 : ∀ (xs : List (Int × Int × Int)) (i : Nat), (cs3 xs)[i * 3 + 1]? = xs[i]?.map fun p => Value.int .i64 p.2.1
  | [], i => by simp [cs3]
  | p :: t, 0 => by simp [cs3]
  | p :: t, i + 1 => by
    have := cs3_get1 t i
    rw [show (i + 1) * 3 + 1 = (i * 3 + 1) + 1 + 1 + 1 from by omega]; simpa [cs3] using this
theorem cs3_get2 : ∀ (xs : List (Int × Int × Int)) (i : Nat), (cs3 xs)[i * 3 + 2]? = xs[i]?.map fun p => Value.int .i64 p.2.2
  | [], i => by simp [cs3]
  | p :: t, 0 => by simp [cs3]
  | p :: t, i + 1 => by
    have := cs3_get2 t i
    rw [show (i + 1) * 3 + 2 = (i * 3 + 2) + 1 + 1 + 1 from by omega]; simpa [cs3] using this
theorem cs3_append (xs ys : List (Int × Int × Int)) : cs3 (xs ++ ys) = cs3 xs ++ cs3 ys := by
  induction xs with
  | nil => rfl
  | cons p t ih => simp [cs3, ih]
theorem cs3_one (xs : List (Int × Int × Int)) : ∀ u ∈ cs3 xs, u.oneCell' = true := by
  induction xs with
  | nil => intro u hu; cases hu
  | cons p t ih =>
    intro u hu
    simp only [cs3, List.mem_cons] at hu
    rcases hu with rfl | rfl | rfl | hu
    · rfl
    · rfl
    · rfl
    · exact ih u hu
/-- the i-th triple -/
def tk (xs : List (Int × Int × Int)) (i : Nat) : Int := (xs.getD i (0, 0, 0)).1
def ta (xs : List (Int × Int × Int)) (i : Nat) : Int := (xs.getD i (0, 0, 0)).2.1
def tb (xs : List (Int × Int × Int)) (i : Nat) : Int := (xs.getD i (0, 0, 0)).2.2
theorem tri_get {xs : List (Int × Int × Int)} {i : Nat} (h : i < xs.length) : xs[i] = (tk xs i, ta xs i, tb xs i) := by
  simp [tk, ta, tb, List.getD, List.getElem?_eq_getElem h]
theorem tk_get {xs : List (Int × Int × Int)} {i : Nat} (h : i < xs.length) : (cs3 xs)[i * 3]? = some (.int .i64 (tk xs i)) := by
  rw [cs3_get0, List.getElem?_eq_getElem h]; simp [tk, List.getD, List.getElem?_eq_getElem h]
theorem ta_get {xs : List (Int × Int × Int)} {i : Nat} (h : i < xs.length) : (cs3 xs)[i * 3 + 1]? = some (.int .i64 (ta xs i)) := by
  rw [cs3_get1, List.getElem?_eq_getElem h]; simp [ta, List.getD, List.getElem?_eq_getElem h]
theorem tb_get {xs : List (Int × Int × Int)} {i : Nat} (h : i < xs.length) : (cs3 xs)[i * 3 + 2]? = some (.int .i64 (tb xs i)) := by
  rw [cs3_get2, List.getElem?_eq_getElem h]; simp [tb, List.getD, List.getElem?_eq_getElem h]
/-- any cell of a list of triples -/
theorem cs3_any {xs : List (Int × Int × Int)} {j : Nat} (h : j < xs.length * 3) : ∃ v, (cs3 xs)[j]? = some v := ⟨_, List.getElem?_eq_getElem (by rw [cs3_length]; exact h)⟩
/-- The elements of a slice at a read as xs: nothing is asked of its spare room. -/
def RdC (w : World) (a : Option Addr) (xs : List (Int × Int × Int)) : Prop :=
  xs = [] ∨ ∃ b off, a = some ⟨b, off, none⟩ ∧ b < w.heap.size ∧ ∀ i, i < xs.length → w.cell? ⟨b, off + i * 3, none⟩ = some (.int .i64 (tk xs i)) ∧ w.cell? ⟨b, off + i * 3 + 1, none⟩ = some (.int .i64 (ta xs i)) ∧ w.cell? ⟨b, off + i * 3 + 2, none⟩ = some (.int .i64 (tb xs i))
theorem RdC.below {w w' : World} {a : Option Addr} {xs : List (Int × Int × Int)} (h : RdC w a xs) (hb : Below w.heap.size w w') : RdC w' a xs := by
  rcases h with h | ⟨b, off, e, hlt, hc⟩
  · exact .inl h
  · exact .inr ⟨b, off, e, Nat.lt_of_lt_of_le hlt hb.size, fun i hi => by rw [(bcell hb).1 b _ hlt, (bcell hb).1 b _ hlt, (bcell hb).1 b _ hlt]; exact hc i hi⟩
theorem rowT_rd {w : World} {base n : Nat} {e : TypeId} {a : Option Addr} {cap : Nat} {xs : List (Int × Int × Int)} (hn : xs.length = n) (h : w.ownsRow base e 3 (.slice a n cap) n (cs3 xs)) : RdC w a xs := by
  subst hn
  have h' := h
  obtain ⟨hl, h⟩ := h
  rcases h with ⟨_, h0⟩ | ⟨g, c, cur, e, h1, h2, h3⟩
  · exact .inl (List.length_eq_zero_iff.1 h0)
  · have e1 : a = some ⟨g, 0, none⟩ ∧ cap = c := by injection e with x1 x2 x3; exact ⟨x1, x3⟩
    obtain ⟨rfl, rfl⟩ := e1
    refine .inr ⟨g, 0, rfl, ?_, fun i hi => ⟨?_, ?_, ?_⟩⟩
    · rcases Nat.lt_or_ge g w.heap.size with q | q
      · exact q
      · rw [Array.getElem?_eq_none q] at h2; cases h2
    · rw [Nat.zero_add, h'.cellAt (i * 3) (by omega)]; exact tk_get hi
    · rw [Nat.zero_add, h'.cellAt (i * 3 + 1) (by omega)]; exact ta_get hi
    · rw [Nat.zero_add, h'.cellAt (i * 3 + 2) (by omega)]; exact tb_get hi
/-- the cells behind the address of a slice that reads as xs -/
theorem RdC.cells {w : World} {b off : Nat} {xs : List (Int × Int × Int)} (h : ∀ i, i < xs.length → w.cell? ⟨b, off + i * 3, none⟩ = some (.int .i64 (tk xs i)) ∧ w.cell? ⟨b, off + i * 3 + 1, none⟩ = some (.int .i64 (ta xs i)) ∧ w.cell? ⟨b, off + i * 3 + 2, none⟩ = some (.int .i64 (tb xs i))) :
    ∀ (j : Nat) (u : Value), (cs3 xs)[j]? = some u → w.cell? ((⟨b, off, none⟩ : Addr).add j) = some u := by
  intro j u hu
  have ea : (⟨b, off, none⟩ : Addr).add j = ⟨b, off + j, none⟩ := by unfold Addr.add; split <;> simp_all
  rw [ea]
  have hj : j < xs.length * 3 := by
    rw [← cs3_length]
    exact (List.getElem?_eq_some_iff.1 hu).1
  have hi : j / 3 < xs.length := by omega
  obtain ⟨q0, q1, q2⟩ := h (j / 3) hi
  have m : j % 3 = 0 ∨ j % 3 = 1 ∨ j % 3 = 2 := by omega
  rcases m with m | m | m
  · have e : j = j / 3 * 3 := by omega
    rw [e, tk_get hi] at hu; rw [e, q0, ← hu]
  · have e : j = j / 3 * 3 + 1 := by omega
    rw [e, ta_get hi] at hu; rw [e, ← Nat.add_assoc, q1, ← hu]
  · have e : j = j / 3 * 3 + 2 := by omega
    rw [e, tb_get hi] at hu; rw [e, ← Nat.add_assoc, q2, ← hu]
/-- a part of a slice -/
theorem tri_part {w : World} {b off : Nat} {xs : List (Int × Int × Int)} (h : ∀ i, i < xs.length → w.cell? ⟨b, off + i * 3, none⟩ = some (.int .i64 (tk xs i)) ∧ w.cell? ⟨b, off + i * 3 + 1, none⟩ = some (.int .i64 (ta xs i)) ∧ w.cell? ⟨b, off + i * 3 + 2, none⟩ = some (.int .i64 (tb xs i))) (k m : Nat) :
    ∀ i, i < ((xs.drop k).take m).length → w.cell? ⟨b, off + k * 3 + i * 3, none⟩ = some (.int .i64 (tk ((xs.drop k).take m) i)) ∧ w.cell? ⟨b, off + k * 3 + i * 3 + 1, none⟩ = some (.int .i64 (ta ((xs.drop k).take m) i)) ∧ w.cell? ⟨b, off + k * 3 + i * 3 + 2, none⟩ = some (.int .i64 (tb ((xs.drop k).take m) i)) := by
  intro i hi
  have hi2 : i < m ∧ k + i < xs.length := by simp only [List.length_take, List.length_drop] at hi; omega
  have e : ((xs.drop k).take m).getD i (0, 0, 0) = xs.getD (k + i) (0, 0, 0) := by
    simp [List.getD, List.getElem?_take, hi2.1, List.getElem?_drop]
  have := h (k + i) hi2.2
  rw [show off + (k + i) * 3 = off + k * 3 + i * 3 from by omega] at this
  unfold tk ta tb at this ⊢
  rw [e]; exact this
theorem RdC.part {w : World} {b off : Nat} {xs : List (Int × Int × Int)} (hlt : b < w.heap.size) (h : ∀ i, i < xs.length → w.cell? ⟨b, off + i * 3, none⟩ = some (.int .i64 (tk xs i)) ∧ w.cell? ⟨b, off + i * 3 + 1, none⟩ = some (.int .i64 (ta xs i)) ∧ w.cell? ⟨b, off + i * 3 + 2, none⟩ = some (.int .i64 (tb xs i))) (k m : Nat) :
    RdC w (some ⟨b, off + k * 3, none⟩) ((xs.drop k).take m) := .inr ⟨b, off + k * 3, rfl, hlt, tri_part h k m⟩
theorem addr_block (A : Addr) (j : Nat) : (A.add j).block = A.block := by unfold Addr.add; split <;> rfl
theorem news_below {w W : World} {A : Addr} {L : List Value} (hN : ∀ (j : Nat) (u : Value), L[j]? = some u → w.cell? (A.add j) = some u) (hA : A.block < w.heap.size) (hb : Below w.heap.size w W) : ∀ (j : Nat) (u : Value), L[j]? = some u → W.cell? (A.add j) = some u :=
  fun j u hu => (hb.cell (by rw [addr_block]; exact hA)).trans (hN j u hu)
theorem RdC.newsAt {w W : World} {A : Addr} {xs : List (Int × Int × Int)} (h : RdC w (some A) xs) (hb : Below w.heap.size w W) : ∀ (j : Nat) (u : Value), (cs3 xs)[j]? = some u → W.cell? (A.add j) = some u := by
  rcases h with h | ⟨b, off, e, hlt, hc⟩
  · subst h; intro j u hu; simp [cs3] at hu
  · injection e with e
    subst e
    exact news_below (RdC.cells hc) hlt hb
theorem cell_three_new (w : World) (u v z : Value) (e : TypeId) : ∀ (j : Nat) (x : Value), [u, v, z][j]? = some x → (w.alloc (.cells #[u, v, z] e)).cell? ((⟨w.heap.size, 0, none⟩ : Addr).add j) = some x := by
  intro j x hx
  have ea : (⟨w.heap.size, 0, none⟩ : Addr).add j = ⟨w.heap.size, j, none⟩ := by unfold Addr.add; split <;> simp_all
  rw [ea]
  match j, hx with
  | 0, hx => simp at hx; subst hx; go_simp
  | 1, hx => simp at hx; subst hx; go_simp
  | 2, hx => simp at hx; subst hx; go_simp
  | j + 3, hx => simp at hx
/-- three cells at the beginning of a block -/
theorem cell_three_at {w : World} {g : Nat} {u v z : Value} (h0 : w.cell? ⟨g, 0, none⟩ = some u) (h1 : w.cell? ⟨g, 1, none⟩ = some v) (h2 : w.cell? ⟨g, 2, none⟩ = some z) : ∀ (j : Nat) (x : Value), [u, v, z][j]? = some x → w.cell? ((⟨g, 0, none⟩ : Addr).add j) = some x := by
  intro j x hx
  have ea : (⟨g, 0, none⟩ : Addr).add j = ⟨g, j, none⟩ := by unfold Addr.add; split <;> simp_all
  rw [ea]
  match j, hx with
  | 0, hx => simp at hx; subst hx; exact h0
  | 1, hx => simp at hx; subst hx; exact h1
  | 2, hx => simp at hx; subst hx; exact h2
  | j + 3, hx => simp at hx
/-- the two pieces around one element, as cells -/
theorem drop_news {w : World} {b off cap : Nat} {xs : List (Int × Int × Int)} (h : ∀ i, i < xs.length → w.cell? ⟨b, off + i * 3, none⟩ = some (.int .i64 (tk xs i)) ∧ w.cell? ⟨b, off + i * 3 + 1, none⟩ = some (.int .i64 (ta xs i)) ∧ w.cell? ⟨b, off + i * 3 + 2, none⟩ = some (.int .i64 (tb xs i))) (k : Nat) (hk : k < xs.length) (hcap : xs.length ≤ cap) :
    ∃ A : Addr, (if cap = k + 1 then some (⟨b, off, none⟩ : Addr) else some ⟨b, off + (k + 1) * 3, none⟩) = some A ∧ A.block = b ∧ (∀ (j : Nat) (u : Value), (cs3 (xs.drop (k + 1)))[j]? = some u → w.cell? (A.add j) = some u) := by
  by_cases e : cap = k + 1
  · refine ⟨⟨b, off, none⟩, by simp [e], rfl, fun j u hu => ?_⟩
    have h0 : (cs3 (xs.drop (k + 1))).length = 0 := by rw [cs3_length]; simp; omega
    rw [List.length_eq_zero_iff.1 h0] at hu
    simp at hu
  · refine ⟨⟨b, off + (k + 1) * 3, none⟩, by simp [e], rfl, fun j u hu => ?_⟩
    have := RdC.cells (tri_part h (k + 1) (xs.length - (k + 1)))
    rw [List.take_of_length_le (by simp)] at this
    exact this j u hu
theorem take_news {w : World} {b off : Nat} {xs : List (Int × Int × Int)} (h : ∀ i, i < xs.length → w.cell? ⟨b, off + i * 3, none⟩ = some (.int .i64 (tk xs i)) ∧ w.cell? ⟨b, off + i * 3 + 1, none⟩ = some (.int .i64 (ta xs i)) ∧ w.cell? ⟨b, off + i * 3 + 2, none⟩ = some (.int .i64 (tb xs i))) (k : Nat) :
    ∀ (j : Nat) (u : Value), (cs3 (xs.take k))[j]? = some u → w.cell? ((⟨b, off, none⟩ : Addr).add j) = some u := by
  have := RdC.cells (tri_part h 0 k)
  simpa using this
/-- the marks k, k + 1, .. -/
def sqT (k : Int) (n : Nat) : List (Int × Int × Int) := (List.range n).map fun (i : Nat) => (k + 3 * (i : Int), k + 3 * (i : Int) + 1, k + 3 * (i : Int) + 2)
theorem sqT_length (k : Int) (n : Nat) : (sqT k n).length = n := by simp [sqT]
theorem sqT_k (k : Int) (n i : Nat) (h : i < n) : tk (sqT k n) i = k + 3 * (i : Int) := by simp [tk, sqT, List.getD, h]
theorem sqT_a (k : Int) (n i : Nat) (h : i < n) : ta (sqT k n) i = k + 3 * (i : Int) + 1 := by simp [ta, sqT, List.getD, h]
theorem sqT_b (k : Int) (n i : Nat) (h : i < n) : tb (sqT k n) i = k + 3 * (i : Int) + 2 := by simp [tb, sqT, List.getD, h]
theorem row_setLow {w : World} {base n sz : Nat} {e : TypeId} {v : Value} {xs : List Value} (h : w.ownsRow base e sz v n xs) (p : Addr) (u : Value) (hp : p.block < base) : (w.setCell p u).ownsRow base e sz v n xs := by
  obtain ⟨hl, h⟩ := h
  refine ⟨hl, ?_⟩
  rcases h with h | ⟨g, c, cur, e, h1, h2, h3⟩
  · exact .inl h
  · refine .inr ⟨g, c, cur, e, h1, ?_, h3⟩
    unfold World.setCell
    simp only [Array.getElem?_modify]
    rw [if_neg (by omega)]; exact h2
theorem row_low {w : World} {base base' n sz : Nat} {e : TypeId} {v : Value} {xs : List Value} (h : w.ownsRow base e sz v n xs) (hb : base' ≤ base) : w.ownsRow base' e sz v n xs := by
  obtain ⟨hl, h⟩ := h
  refine ⟨hl, ?_⟩
  rcases h with h | ⟨g, c, cur, e, h1, h2⟩
  · exact .inl h
  · exact .inr ⟨g, c, cur, e, Nat.le_trans hb h1, h2⟩
end Go.Proofs.Ytemaoaepfepolaa
