/- Texts of runners, taken apart: plain mathematics of bytes. -/
import Derived.Test.YtlfjgggidoakaaaDoorParseWalks
import Derived.Test.YtlfjgggidoakaaaDoorJoinRuns
import Derived.Lib.Split
namespace Go.Proofs.YtlfjgggidoakaaaDoor
open Go.RowKit
set_option linter.unusedVariables false
/-- pieces with commas between them -/
def jn : List (List UInt8) → List UInt8
  | [] => []
  | [x] => x
  | x :: y :: r => x ++ 44 :: jn (y :: r)
theorem jn_join : ∀ l : List (List UInt8), Lib.join l [44] = jn l
  | [] => by simp [jn, Lib.join_nil]
  | [x] => by simp [jn, Lib.join_one]
  | x :: y :: r => by
    have ih := jn_join (y :: r)
    rw [Lib.join_cons] at ih
    rw [Lib.join_cons]
    simp only [jn, Lib.joinTail] at *
    rw [← ih]; simp
theorem jn_len {N : Nat} : ∀ l : List (List UInt8), (∀ x ∈ l, x.length ≤ N) → (jn l).length ≤ (N + 1) * l.length
  | [], _ => by simp [jn]
  | [x], h => by
    have := h x (by simp)
    simp only [jn, List.length_cons, List.length_nil]; omega
  | x :: y :: r, h => by
    have ih := jn_len (y :: r) (fun z hz => h z (by simp [List.mem_cons] at hz ⊢; exact .inr hz))
    have hx := h x (by simp)
    simp only [jn, List.length_append, List.length_cons] at *
    have e : (N + 1) * (r.length + 1 + 1) = (N + 1) * (r.length + 1) + (N + 1) := by rw [Nat.mul_add (N + 1) (r.length + 1) 1, Nat.mul_one]
    rw [e]; omega
theorem spl_jn : ∀ l : List (List UInt8), l ≠ [] → (∀ x ∈ l, (44 : UInt8) ∉ x) → spl 44 (jn l) = l
  | [], h, _ => absurd rfl h
  | [x], _, h => by simp only [jn]; exact spl_free (h x (by simp))
  | x :: y :: r, _, h => by
    simp only [jn]
    rw [spl_cons (h x (by simp)), spl_jn (y :: r) (by simp) (fun z hz => h z (by simp [List.mem_cons] at hz ⊢; exact .inr hz))]
theorem index_free {u : List UInt8} (h : (44 : UInt8) ∉ u) : Lib.index u [44] = -1 := by
  rw [Lib.index_one]
  induction u with
  | nil => rfl
  | cons x r ih =>
    have h1 : (x == 44) = false := by rw [beq_eq_false_iff_ne]; exact fun q => h (by rw [q]; simp)
    have := ih (fun q => h (by simp [q]))
    simp [Lib.indexByte, h1, this]
theorem splitK_jn : ∀ (l : List (List UInt8)) (k : Nat), l ≠ [] → (∀ x ∈ l, (44 : UInt8) ∉ x) → l.length ≤ k + 1 → Lib.splitK [44] 0 k (jn l) = l
  | [], _, h, _, _ => absurd rfl h
  | [x], k, _, h, _ => by
    have hi := index_free (h x (by simp))
    cases k with
    | zero => rfl
    | succ k => simp only [jn, Lib.splitK, hi]; rfl
  | x :: y :: r, k, _, h, hk => by
    obtain ⟨k, rfl⟩ : ∃ q, k = q + 1 := ⟨k - 1, by simp at hk; omega⟩
    have ih := splitK_jn (y :: r) k (by simp) (fun z hz => h z (by simp [List.mem_cons] at hz ⊢; exact .inr hz)) (by simp at hk ⊢; omega)
    have hi : Lib.index (x ++ 44 :: jn (y :: r)) [44] = (x.length : Int) := by rw [Lib.index_one]; exact indexByte_here (h x (by simp))
    simp only [jn, Lib.splitK, hi]
    have hm : (((x.length : Nat) : Int) == -1) = false := by rw [beq_eq_false_iff_ne]; omega
    rw [hm]
    have e1 : List.drop (x.length + 1) x = [] := List.drop_of_length_le (by omega)
    simp [List.drop_append, e1, ih]
theorem itx_list {n : Int} (h : 0 ≤ n) : (itx n).data.toList = Lib.decDigits n.toNat := by
  unfold itx Lib.itoa
  rw [if_neg (by omega)]
theorem gtx_list {p s : Int} (hp : 0 ≤ p) (hs : 0 ≤ s) : (gtx 62 p s).data.toList = Lib.decDigits p.toNat ++ 62 :: Lib.decDigits s.toNat := by
  have e1 := itx_list hp
  have e2 := itx_list hs
  unfold gtx
  simp [ByteArray.data_append, e1, e2]
theorem free_digits {c : UInt8} (h : c.toNat < 48 ∨ 57 < c.toNat) (n : Nat) : c ∉ Lib.decDigits n := fun q => by
  have := decDigits_mem n c q; omega
theorem comma_free {p s : Int} (hp : 0 ≤ p) (hs : 0 ≤ s) : (44 : UInt8) ∉ (gtx 62 p s).data.toList := by
  rw [gtx_list hp hs]
  intro q
  rcases List.mem_append.1 q with q | q
  · exact free_digits (by decide) _ q
  · rcases List.mem_cons.1 q with q | q
    · exact absurd q (by decide)
    · exact free_digits (by decide) _ q
theorem spl_gtx {p s : Int} (hp : 0 ≤ p) (hs : 0 ≤ s) : spl 62 (gtx 62 p s).data.toList = [Lib.decDigits p.toNat, Lib.decDigits s.toNat] := by
  rw [gtx_list hp hs, spl_cons (free_digits (by decide) _), spl_free (free_digits (by decide) _)]
theorem cut_gtx {p s : Int} (hp : 0 ≤ p) (hs : 0 ≤ s) : Lib.cut (gtx 62 p s).data.toList [62] = (Lib.decDigits p.toNat, Lib.decDigits s.toNat, true) := by
  have : Lib.index (gtx 62 p s).data.toList [62] = ((Lib.decDigits p.toNat).length : Int) := by
    rw [Lib.index_one, gtx_list hp hs]; exact indexByte_here (free_digits (by decide) _)
  unfold Lib.cut
  rw [this, if_pos (by omega), gtx_list hp hs]
  simp [List.drop_append]
theorem rdL_int {n : Int} (h0 : 0 ≤ n) (h1 : n ≤ 999999) : rdL (Lib.decDigits n.toNat) = n := by
  rw [rdL_digits _ (by omega)]; omega
theorem atoi_int {n : Int} (h0 : 0 ≤ n) (h1 : n ≤ 999999) : Lib.atoiAll (Lib.decDigits n.toNat) = .ok n := by
  rw [atoi_digits _ (by omega), show ((n.toNat : Nat) : Int) = n from by omega]
/-- xs are the runners with the text t -/
def YR (t : ByteArray) (xs : List (Int × Int)) : Prop := rns 1000 xs = true ∧ gjt 62 xs xs.length = t
theorem YR.bd {t : ByteArray} {xs : List (Int × Int)} (h : YR t xs) : 1 ≤ xs.length ∧ xs.length ≤ 6 ∧ ∀ i, i < xs.length → 0 ≤ px xs i ∧ px xs i ≤ 999 ∧ 0 ≤ py xs i ∧ py xs i ≤ 100 := by
  have hr := rns_at h.1
  exact ⟨hr.1, hr.2.1, fun i hi => by have := rn1_iff.1 (hr.2.2 i hi); omega⟩
theorem YR.jn {t : ByteArray} {xs : List (Int × Int)} (h : YR t xs) : t.data.toList = jn ((gts 62 xs).map (·.data.toList)) := by
  rw [← jn_join, ← h.2, ← gjt_gts]
theorem gts_mem {xs : List (Int × Int)} {x : List UInt8} (hx : x ∈ (gts 62 xs).map (·.data.toList)) : ∃ i, i < xs.length ∧ x = (gtx 62 (px xs i) (py xs i)).data.toList := by
  obtain ⟨b, hb, rfl⟩ := List.mem_map.1 hx
  obtain ⟨i, hi, e⟩ := List.getElem_of_mem hb
  have := gts_get (c := 62) (xs := xs) (i := i) (x := b) (by rw [List.getElem?_eq_getElem hi, e])
  exact ⟨i, this.1, by rw [this.2]⟩
theorem YR.free {t : ByteArray} {xs : List (Int × Int)} (h : YR t xs) : ∀ x ∈ (gts 62 xs).map (·.data.toList), (44 : UInt8) ∉ x := by
  intro x hx
  obtain ⟨i, hi, rfl⟩ := gts_mem hx
  have := h.bd.2.2 i hi
  exact comma_free (by omega) (by omega)
theorem YR.ne {t : ByteArray} {xs : List (Int × Int)} (h : YR t xs) : (gts 62 xs).map (·.data.toList) ≠ [] := by
  intro e
  have q := congrArg List.length e
  rw [List.length_map, gts_length, List.length_nil] at q
  have := h.bd.1
  omega
theorem YR.spl {t : ByteArray} {xs : List (Int × Int)} (h : YR t xs) : spl 44 t.data.toList = (gts 62 xs).map (·.data.toList) := by
  rw [h.jn]; exact spl_jn _ h.ne h.free
theorem YR.size {t : ByteArray} {xs : List (Int × Int)} (h : YR t xs) : t.size ≤ 60 := by
  have hb := h.bd
  have e : t.size = t.data.toList.length := by simp
  rw [e, h.jn]
  have := jn_len (N := 7) ((gts 62 xs).map (·.data.toList)) (fun x hx => by
    obtain ⟨i, hi, rfl⟩ := gts_mem hx
    have b := hb.2.2 i hi
    rw [gtx_list (by omega) (by omega)]
    have d1 := decDigits_len 2 (px xs i).toNat (by omega)
    have d2 := decDigits_len 2 (py xs i).toNat (by omega)
    simp; omega)
  rw [List.length_map, gts_length] at this
  omega
theorem ba_ext {l m : List ByteArray} (h : l.map (·.data.toList) = m.map (·.data.toList)) : l = m := by
  exact (List.map_inj_right (fun a b e => ByteArray.ext (Array.toList_inj.1 e))).1 h
theorem YR.split {t : ByteArray} {xs : List (Int × Int)} (h : YR t xs) (k : Nat) (hk : xs.length ≤ k + 1) : Lib.splitB ⟨#[44]⟩ 0 k t = gts 62 xs := by
  apply ba_ext
  rw [Lib.splitB_data, h.jn]
  exact splitK_jn _ k h.ne h.free (by rw [List.length_map, gts_length]; exact hk)
end Go.Proofs.YtlfjgggidoakaaaDoor
