/- Texts of lists of two numbers: the mathematics, and numbers as texts. -/
import Derived.Test.YtpmnnfojmnmohaaDoorProg
import Derived.Test.YtpmnnfojmnmohaaDoorPairs0
import Derived.Test.YtpmnnfojmnmohaaDoorTextWalks
import Derived.WalkKit
import Derived.WalkSpells
import Derived.WalkLawsBesides
import Derived.Lib.Hide
import Derived.Lib.Join
import Derived.Lib.ItoaNum
import Derived.Deep.LoopGhost
import Derived.Deep.QuietTactic
import Derived.Deep.RegionWith
import Derived.Deep.RegionHeld3
import Derived.BigQuiet
namespace Go.Proofs.YtpmnnfojmnmohaaDoor
open Go.RowKit
set_option linter.unusedVariables false
set_option linter.unusedSimpArgs false
/-- the text of a number -/
def itx (n : Int) : ByteArray := ⟨(Lib.itoa n).toArray⟩
/-- the text of two numbers -/
def gtx (c : UInt8) (x y : Int) : ByteArray := (itx x ++ ⟨#[c]⟩) ++ itx y
/-- the text of the first ones, as it grows -/
def gjt (c : UInt8) (xs : List (Int × Int)) : Nat → ByteArray
  | 0 => ⟨#[]⟩
  | 1 => ⟨#[]⟩ ++ gtx c (px xs 0) (py xs 0)
  | k + 2 => (gjt c xs (k + 1) ++ ⟨#[44]⟩) ++ gtx c (px xs (k + 1)) (py xs (k + 1))
/-- numbers that are not great -/
def bdX (xs : List (Int × Int)) : Prop := ∀ i, i < xs.length → -1000000 ≤ px xs i ∧ px xs i ≤ 1000000 ∧ -1000000 ≤ py xs i ∧ py xs i ≤ 1000000
theorem itx_size {n : Int} (h0 : -1000000 ≤ n) (h1 : n ≤ 1000000) : (itx n).size ≤ 8 := by
  unfold itx Lib.itoa
  split
  · have := decDigits_len 6 n.natAbs (by omega)
    simp [ByteArray.size]; omega
  · have := decDigits_len 6 n.toNat (by omega)
    simp [ByteArray.size]; omega
theorem gtx_size {c : UInt8} {x y : Int} (h : -1000000 ≤ x ∧ x ≤ 1000000 ∧ -1000000 ≤ y ∧ y ≤ 1000000) : (gtx c x y).size ≤ 17 := by
  have h1 := itx_size (n := x) (by omega) (by omega)
  have h2 := itx_size (n := y) (by omega) (by omega)
  have h3 : (⟨#[c]⟩ : ByteArray).size = 1 := rfl
  unfold gtx
  rw [ByteArray.size_append, ByteArray.size_append, h3]; omega
theorem gjt_size {c : UInt8} {xs : List (Int × Int)} (h : bdX xs) : ∀ k, k ≤ xs.length → (gjt c xs k).size ≤ 18 * k
  | 0, _ => by simp [gjt, ByteArray.size]
  | 1, hk => by
    have := gtx_size (c := c) (h 0 (by omega))
    have h3 : (⟨#[]⟩ : ByteArray).size = 0 := rfl
    simp only [gjt]
    rw [ByteArray.size_append, h3]; omega
  | k + 2, hk => by
    have h1 := gjt_size (c := c) h (k + 1) (by omega)
    have := gtx_size (c := c) (h (k + 1) (by omega))
    have h3 : (⟨#[44]⟩ : ByteArray).size = 1 := rfl
    simp only [gjt]
    rw [ByteArray.size_append, ByteArray.size_append, h3]; omega
theorem row_via {w W w' : World} {base : Nat} {e : TypeId} {size : Nat} {v : Value} {n : Nat} {xs : List Value} (h : w.ownsRow base e size v n xs) (eh : W.heap = w.heap) (hb : Below W.heap.size W w') : w'.ownsRow base e size v n xs := by
  obtain ⟨hl, h⟩ := h
  refine ⟨hl, ?_⟩
  rcases h with h | ⟨g, c, cur, e, h1, h2, h3⟩
  · exact .inl h
  · rw [← eh] at h2
    have hg : g < W.heap.size := by
      rcases Nat.lt_or_ge g W.heap.size with q | q
      · exact q
      · rw [Array.getElem?_eq_none q] at h2; cases h2
    exact .inr ⟨g, c, cur, e, h1, by rw [hb.block g hg]; exact h2, h3⟩
theorem join_snoc (l : List (List UInt8)) (y sep : List UInt8) (h : l ≠ []) : Lib.join (l ++ [y]) sep = Lib.join l sep ++ sep ++ y := by
  cases l with
  | nil => exact absurd rfl h
  | cons x r =>
    rw [List.cons_append, Lib.join_cons, Lib.join_cons]
    simp [Lib.joinTail]
theorem take_succ_xy (xs : List (Int × Int)) (k : Nat) (h : k < xs.length) : xs.take (k + 1) = xs.take k ++ [(px xs k, py xs k)] := by
  rw [List.take_add_one, List.getElem?_eq_getElem h]
  have e : xs.getD k (0, 0) = xs[k] := by simp [List.getD, List.getElem?_eq_getElem h]
  unfold px py
  rw [e]; rfl
theorem gjt_join (c : UInt8) (xs : List (Int × Int)) : ∀ k, k ≤ xs.length → (gjt c xs k).data.toList = Lib.join ((xs.take k).map fun p => (gtx c p.1 p.2).data.toList) [44]
  | 0, _ => by simp [gjt, Lib.join_nil]
  | 1, h => by
    rw [take_succ_xy xs 0 (by omega)]
    simp [gjt, Lib.join_one]
  | k + 2, h => by
    have ih := gjt_join c xs (k + 1) (by omega)
    rw [take_succ_xy xs (k + 1) (by omega), List.map_append, List.map_cons, List.map_nil, join_snoc _ _ _ (by
      intro e
      have := congrArg List.length e
      rw [List.length_map, List.length_take, List.length_nil] at this
      omega), ← ih]
    simp [gjt]
/-- the texts of all -/
def gts (c : UInt8) (xs : List (Int × Int)) : List ByteArray := xs.map fun p => gtx c p.1 p.2
theorem gts_length (c : UInt8) (xs : List (Int × Int)) : (gts c xs).length = xs.length := by simp [gts]
theorem gts_get {c : UInt8} {xs : List (Int × Int)} {i : Nat} {x : ByteArray} (h : (gts c xs)[i]? = some x) : i < xs.length ∧ x = gtx c (px xs i) (py xs i) := by
  have hi : i < xs.length := by
    rcases Nat.lt_or_ge i xs.length with q | q
    · exact q
    · rw [List.getElem?_eq_none (by rw [gts_length]; omega)] at h; cases h
  refine ⟨hi, ?_⟩
  simp [gts, List.getElem?_eq_getElem hi] at h
  rw [← h]; simp [px, py, List.getD, List.getElem?_eq_getElem hi]
theorem gjt_gts (c : UInt8) (xs : List (Int × Int)) : Lib.join ((gts c xs).map (·.data.toList)) (⟨#[44]⟩ : ByteArray).data.toList = (gjt c xs xs.length).data.toList := by
  rw [gjt_join c xs xs.length (Nat.le_refl _), List.take_length]
  simp [gts, Function.comp_def]
theorem l1Nat_any (n : Int) (h0 : 0 ≤ n) (h1 : n ≤ 1000000) (w : World) :
    Calls Tryd.prog 26 #[.int .i64 n] w fun e w' => e = .returned (.string (itx n)) ∧ Below w.heap.size w w' := by
  obtain ⟨m, rfl⟩ : ∃ m : Nat, n = (m : Int) := ⟨n.toNat, by omega⟩
  have e : itx (m : Int) = ⟨(Lib.decDigits m).toArray⟩ := by
    unfold itx Lib.itoa
    rw [if_neg (by omega), show (m : Int).toNat = m from by omega]
  rw [e]
  exact l1Num_any m (by omega) w
theorem itoa_int (n : Int) (h0 : -1000000 ≤ n) (h1 : n ≤ 1000000) (w : World) (ht : Lib.TabIs Tryd.prog w "internal/strconv.uint64pow10" .u64 Lib.pow10Tab) :
    Calls Tryd.prog 53 #[.int .i64 n] w fun e w' => e = .returned (.string (itx n)) ∧ Below w.heap.size w w' ∧ Lib.TabIs Tryd.prog w' "internal/strconv.uint64pow10" .u64 Lib.pow10Tab :=
  (Tryd.strconv_Itoa n (by omega) (by omega) w ht).mono fun e w' ⟨he, k, os, hw⟩ => ⟨he, by rw [hw]; exact below_grow w k os, by rw [hw]; exact tab_below pow10G (tab_lt pow10G ht) ht (below_grow w k os)⟩
theorem strInfoJ : (Tryd.prog.info? 9).map (fun i => (i.zero, i.size, i.bytes)) = some (some (.string ⟨#[]⟩), 1, 16) := by kernel_rfl
end Go.Proofs.YtpmnnfojmnmohaaDoor
