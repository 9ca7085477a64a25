/- The texts of lines, taken apart: plain mathematics of bytes. -/
import Derived.Test.YtjcapaoafkgkaaaDoorParseWalks
import Derived.Test.YtjcapaoafkgkaaaDoorBusT
import Derived.Lib.Split
namespace Go.Proofs.YtjcapaoafkgkaaaDoor
open Go.RowKit
set_option linter.unusedVariables false
set_option linter.unusedSimpArgs false
/-- pieces with commas between them -/
def jnB : List (List UInt8) → List UInt8
  | [] => []
  | [x] => x
  | x :: y :: r => x ++ 44 :: jnB (y :: r)
theorem jn_joinB : ∀ l : List (List UInt8), Lib.join l [44] = jnB l
  | [] => by simp [jnB, Lib.join_nil]
  | [x] => by simp [jnB, Lib.join_one]
  | x :: y :: r => by
    have ih := jn_joinB (y :: r)
    rw [Lib.join_cons] at ih
    rw [Lib.join_cons]
    simp only [jnB, Lib.joinTail] at *
    rw [← ih]; simp
theorem jn_lenB {N : Nat} : ∀ l : List (List UInt8), (∀ x ∈ l, x.length ≤ N) → (jnB l).length ≤ (N + 1) * l.length
  | [], _ => by simp [jnB]
  | [x], h => by
    have := h x (by simp)
    simp only [jnB, List.length_cons, List.length_nil]; omega
  | x :: y :: r, h => by
    have ih := jn_lenB (y :: r) (fun z hz => h z (by simp [List.mem_cons] at hz ⊢; exact .inr hz))
    have hx := h x (by simp)
    simp only [jnB, List.length_append, List.length_cons] at *
    have e : (N + 1) * (r.length + 1 + 1) = (N + 1) * (r.length + 1) + (N + 1) := by rw [Nat.mul_add (N + 1) (r.length + 1) 1, Nat.mul_one]
    rw [e]; omega
theorem spl_jnB : ∀ l : List (List UInt8), l ≠ [] → (∀ x ∈ l, (44 : UInt8) ∉ x) → spl 44 (jnB l) = l
  | [], h, _ => absurd rfl h
  | [x], _, h => by simp only [jnB]; exact spl_free (h x (by simp))
  | x :: y :: r, _, h => by
    simp only [jnB]
    rw [spl_cons (h x (by simp)), spl_jnB (y :: r) (by simp) (fun z hz => h z (by simp [List.mem_cons] at hz ⊢; exact .inr hz))]
theorem index_freeB {u : List UInt8} (h : (44 : UInt8) ∉ u) : Lib.index u [44] = -1 := by
  rw [Lib.index_one]
  induction u with
  | nil => rfl
  | cons x r ih =>
    have h1 : (x == 44) = false := by rw [beq_eq_false_iff_ne]; exact fun q => h (by rw [q]; simp)
    have := ih (fun q => h (by simp [q]))
    simp [Lib.indexByte, h1, this]
theorem splitK_jnB : ∀ (l : List (List UInt8)) (k : Nat), l ≠ [] → (∀ x ∈ l, (44 : UInt8) ∉ x) → l.length ≤ k + 1 → Lib.splitK [44] 0 k (jnB l) = l
  | [], _, h, _, _ => absurd rfl h
  | [x], k, _, h, _ => by
    have hi := index_freeB (h x (by simp))
    cases k with
    | zero => rfl
    | succ k => simp only [jnB, Lib.splitK, hi]; rfl
  | x :: y :: r, k, _, h, hk => by
    obtain ⟨k, rfl⟩ : ∃ q, k = q + 1 := ⟨k - 1, by simp at hk; omega⟩
    have ih := splitK_jnB (y :: r) k (by simp) (fun z hz => h z (by simp [List.mem_cons] at hz ⊢; exact .inr hz)) (by simp at hk ⊢; omega)
    have hi : Lib.index (x ++ 44 :: jnB (y :: r)) [44] = (x.length : Int) := by rw [Lib.index_one]; exact indexByte_here (h x (by simp))
    simp only [jnB, Lib.splitK, hi]
    have hm : (((x.length : Nat) : Int) == -1) = false := by rw [beq_eq_false_iff_ne]; omega
    rw [hm]
    have e1 : List.drop (x.length + 1) x = [] := List.drop_of_length_le (by omega)
    simp [List.drop_append, e1, ih]
theorem itx_listB {n : Int} (h : 0 ≤ n) : (itx n).data.toList = Lib.decDigits n.toNat := by
  unfold itx Lib.itoa
  rw [if_neg (by omega)]
theorem free_digitsB {c : UInt8} (h : c.toNat < 48 ∨ 57 < c.toNat) (n : Nat) : c ∉ Lib.decDigits n := fun q => by
  have := decDigits_mem n c q; omega
theorem rdL_intB {n : Int} (h0 : 0 ≤ n) (h1 : n ≤ 999999) : rdL (Lib.decDigits n.toNat) = n := by
  rw [rdL_digits _ (by omega)]; omega
theorem atoi_intB {n : Int} (h0 : 0 ≤ n) (h1 : n ≤ 999999) : Lib.atoiAll (Lib.decDigits n.toNat) = .ok n := by
  rw [atoi_digits _ (by omega), show ((n.toNat : Nat) : Int) = n from by omega]
theorem ba_extB {l m : List ByteArray} (h : l.map (·.data.toList) = m.map (·.data.toList)) : l = m :=
  (List.map_inj_right (fun a b e => ByteArray.ext (Array.toList_inj.1 e))).1 h
theorem cut_hereB {c : UInt8} {u d : List UInt8} (h : c ∉ u) : Lib.cut (u ++ c :: d) [c] = (u, d, true) := by
  have : Lib.index (u ++ c :: d) [c] = (u.length : Int) := by rw [Lib.index_one]; exact indexByte_here h
  unfold Lib.cut
  rw [this, if_pos (by omega)]
  simp [List.drop_append]
theorem stj_jnB {xs : List Int} : (stj ⟨#[]⟩ xs xs.length).data.toList = jnB ((sts xs).map (·.data.toList)) := by
  rw [← jn_joinB, ← stj_sts]
theorem sts_memB {xs : List Int} {x : List UInt8} (hx : x ∈ (sts xs).map (·.data.toList)) : ∃ i, i < xs.length ∧ x = (itx (xs.getD i 0)).data.toList := by
  obtain ⟨b, hb, rfl⟩ := List.mem_map.1 hx
  obtain ⟨i, hi, e⟩ := List.getElem_of_mem hb
  have := sts_get (xs := xs) (i := i) (x := b) (by rw [List.getElem?_eq_getElem hi, e])
  exact ⟨i, this.1, by rw [this.2]⟩
theorem sts_freeB {xs : List Int} (h : bdS xs) {c : UInt8} (hc : c.toNat < 48 ∨ 57 < c.toNat) : ∀ x ∈ (sts xs).map (·.data.toList), c ∉ x := by
  intro x hx
  obtain ⟨i, hi, rfl⟩ := sts_memB hx
  rw [itx_listB (h i hi).1]; exact free_digitsB hc _
theorem sts_neB {xs : List Int} (h : 1 ≤ xs.length) : (sts xs).map (·.data.toList) ≠ [] := by
  intro e
  have q := congrArg List.length e
  rw [List.length_map, sts_length, List.length_nil] at q
  omega
theorem jn_free (c : UInt8) (hc : c ≠ 44) : ∀ l : List (List UInt8), (∀ x ∈ l, c ∉ x) → c ∉ jnB l
  | [], _ => by simp [jnB]
  | [x], h => by simp only [jnB]; exact h x (by simp)
  | x :: y :: r, h => by
    have ih := jn_free c hc (y :: r) (fun z hz => h z (by simp [List.mem_cons] at hz ⊢; exact .inr hz))
    simp only [jnB]
    intro q
    rcases List.mem_append.1 q with q | q
    · exact h x (by simp) q
    · rcases List.mem_cons.1 q with q | q
      · exact hc q
      · exact ih q
/-- a line with the text t -/
def LT (t : ByteArray) (f e c : Int) (xs : List Int) : Prop := lnB f e c xs = true ∧ stj (lhd f e c) xs xs.length = t
/-- the pieces of a line's text -/
def hdB (f e c : Int) : List UInt8 := Lib.decDigits f.toNat ++ 43 :: (Lib.decDigits e.toNat ++ 120 :: Lib.decDigits c.toNat)
def tlB (e c : Int) : List UInt8 := Lib.decDigits e.toNat ++ 120 :: Lib.decDigits c.toNat
def spB2 (xs : List Int) : List UInt8 := jnB ((sts xs).map (·.data.toList))
theorem LT.lin {t : ByteArray} {f e c : Int} {xs : List Int} (h : LT t f e c xs) : Lin f e c xs := lnB_iff.1 h.1
theorem LT.bd {t : ByteArray} {f e c : Int} {xs : List Int} (h : LT t f e c xs) : bdS xs := fun i hi => by have := h.lin.bd i hi; omega
theorem LT.list {t : ByteArray} {f e c : Int} {xs : List Int} (h : LT t f e c xs) : t.data.toList = hdB f e c ++ 58 :: spB2 xs := by
  have L := h.lin
  have e1 := itx_listB L.f0
  have e2 := itx_listB (n := e) (by have := L.e0; omega)
  have e3 := itx_listB (n := c) (by have := L.c0; omega)
  rw [← h.2, stj_head _ _ _ (by have := L.n0; omega)]
  unfold spB2 hdB lhd
  rw [← stj_jnB]
  simp [e1, e2, e3]
theorem hd_free (f e c : Int) : (58 : UInt8) ∉ hdB f e c := by
  unfold hdB
  intro q
  rcases List.mem_append.1 q with q | q
  · exact free_digitsB (by decide) _ q
  · rcases List.mem_cons.1 q with q | q
    · exact absurd q (by decide)
    · rcases List.mem_append.1 q with q | q
      · exact free_digitsB (by decide) _ q
      · rcases List.mem_cons.1 q with q | q
        · exact absurd q (by decide)
        · exact free_digitsB (by decide) _ q
theorem tl_free (e c : Int) : (43 : UInt8) ∉ tlB e c := by
  unfold tlB
  intro q
  rcases List.mem_append.1 q with q | q
  · exact free_digitsB (by decide) _ q
  · rcases List.mem_cons.1 q with q | q
    · exact absurd q (by decide)
    · exact free_digitsB (by decide) _ q
theorem sp_free {xs : List Int} (h : bdS xs) : (58 : UInt8) ∉ spB2 xs := jn_free 58 (by decide) _ (sts_freeB h (by decide))
theorem LT.spl58 {t : ByteArray} {f e c : Int} {xs : List Int} (h : LT t f e c xs) : spl 58 t.data.toList = [hdB f e c, spB2 xs] := by
  rw [h.list, spl_cons (hd_free _ _ _), spl_free (sp_free h.bd)]
theorem spl_hd (f e c : Int) : spl 43 (hdB f e c) = [Lib.decDigits f.toNat, tlB e c] := by
  unfold hdB
  rw [spl_cons (free_digitsB (by decide) _)]
  exact congrArg _ (spl_free (tl_free e c))
theorem spl_tl (e c : Int) : spl 120 (tlB e c) = [Lib.decDigits e.toNat, Lib.decDigits c.toNat] := by
  unfold tlB
  rw [spl_cons (free_digitsB (by decide) _), spl_free (free_digitsB (by decide) _)]
theorem LT.spl44 {t : ByteArray} {f e c : Int} {xs : List Int} (h : LT t f e c xs) : spl 44 (spB2 xs) = (sts xs).map (·.data.toList) :=
  spl_jnB _ (sts_neB (by have := h.lin.n0; omega)) (sts_freeB h.bd (by decide))
theorem LT.cut58 {t : ByteArray} {f e c : Int} {xs : List Int} (h : LT t f e c xs) : Lib.cut t.data.toList [58] = (hdB f e c, spB2 xs, true) := by
  rw [h.list]; exact cut_hereB (hd_free _ _ _)
theorem cut_hd (f e c : Int) : Lib.cut (hdB f e c) [43] = (Lib.decDigits f.toNat, tlB e c, true) := cut_hereB (free_digitsB (by decide) _)
theorem cut_tl (e c : Int) : Lib.cut (tlB e c) [120] = (Lib.decDigits e.toNat, Lib.decDigits c.toNat, true) := cut_hereB (free_digitsB (by decide) _)
theorem LT.size {t : ByteArray} {f e c : Int} {xs : List Int} (h : LT t f e c xs) : t.size ≤ 80 := by
  have L := h.lin
  have hb := h.bd
  have n1 := L.n1
  have e0 : t.size = t.data.toList.length := by simp
  rw [e0, h.list]
  have d1 := decDigits_len 3 f.toNat (by have := L.f1; omega)
  have d2 := decDigits_len 3 e.toNat (by have := L.e1; omega)
  have d3 := decDigits_len 1 c.toNat (by have := L.c1; omega)
  have := jn_lenB (N := 3) ((sts xs).map (·.data.toList)) (fun x hx => by
    obtain ⟨i, hi, rfl⟩ := sts_memB hx
    have b := L.bd i hi
    rw [itx_listB b.1]
    have := decDigits_len 2 (xs.getD i 0).toNat (by omega)
    omega)
  rw [List.length_map, sts_length] at this
  unfold hdB spB2
  simp only [List.length_append, List.length_cons]
  omega
theorem LT.split {t : ByteArray} {f e c : Int} {xs : List Int} (h : LT t f e c xs) (k : Nat) (hk : xs.length ≤ k + 1) : Lib.splitB ⟨#[44]⟩ 0 k ⟨(spB2 xs).toArray⟩ = sts xs := by
  apply ba_extB
  rw [Lib.splitB_data]
  exact splitK_jnB _ k (sts_neB (by have := h.lin.n0; omega)) (sts_freeB h.bd (by decide)) (by rw [List.length_map, sts_length]; exact hk)
/-- either there is such a line, or there is none -/
def PHL (t : ByteArray) (F E C : Int) (ys : List Int) (ok : Bool) : Prop := (LT t F E C ys ∧ ok = true) ∨ ((∀ f e c xs, ¬ LT t f e c xs) ∧ F = 0 ∧ E = 0 ∧ C = 0 ∧ ys = [] ∧ ok = false)
end Go.Proofs.YtjcapaoafkgkaaaDoor
