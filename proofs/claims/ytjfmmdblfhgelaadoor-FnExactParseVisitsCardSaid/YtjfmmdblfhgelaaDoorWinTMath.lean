/- Texts of legs, taken apart: plain mathematics of bytes. -/
import Derived.Test.YtjfmmdblfhgelaaDoorParseWalks
import Derived.Test.YtjfmmdblfhgelaaDoorWinText
import Derived.Lib.Split
namespace Go.Proofs.YtjfmmdblfhgelaaDoor
open Go.RowKit
set_option linter.unusedVariables false
/-- pieces with commas between them -/
def jnP : List (List UInt8) → List UInt8
  | [] => []
  | [x] => x
  | x :: y :: r => x ++ 44 :: jnP (y :: r)
theorem jn_joinP : ∀ l : List (List UInt8), Lib.join l [44] = jnP l
  | [] => by simp [jnP, Lib.join_nil]
  | [x] => by simp [jnP, Lib.join_one]
  | x :: y :: r => by
    have ih := jn_joinP (y :: r)
    rw [Lib.join_cons] at ih
    rw [Lib.join_cons]
    simp only [jnP, Lib.joinTail] at *
    rw [← ih]; simp
theorem jn_lenP {N : Nat} : ∀ l : List (List UInt8), (∀ x ∈ l, x.length ≤ N) → (jnP l).length ≤ (N + 1) * l.length
  | [], _ => by simp [jnP]
  | [x], h => by
    have := h x (by simp)
    simp only [jnP, List.length_cons, List.length_nil]; omega
  | x :: y :: r, h => by
    have ih := jn_lenP (y :: r) (fun z hz => h z (by simp [List.mem_cons] at hz ⊢; exact .inr hz))
    have hx := h x (by simp)
    simp only [jnP, List.length_append, List.length_cons] at *
    have e : (N + 1) * (r.length + 1 + 1) = (N + 1) * (r.length + 1) + (N + 1) := by rw [Nat.mul_add (N + 1) (r.length + 1) 1, Nat.mul_one]
    rw [e]; omega
theorem spl_jnP : ∀ l : List (List UInt8), l ≠ [] → (∀ x ∈ l, (44 : UInt8) ∉ x) → spl 44 (jnP l) = l
  | [], h, _ => absurd rfl h
  | [x], _, h => by simp only [jnP]; exact spl_free (h x (by simp))
  | x :: y :: r, _, h => by
    simp only [jnP]
    rw [spl_cons (h x (by simp)), spl_jnP (y :: r) (by simp) (fun z hz => h z (by simp [List.mem_cons] at hz ⊢; exact .inr hz))]
theorem index_freeP {u : List UInt8} (h : (44 : UInt8) ∉ u) : Lib.index u [44] = -1 := by
  rw [Lib.index_one]
  induction u with
  | nil => rfl
  | cons x r ih =>
    have h1 : (x == 44) = false := by rw [beq_eq_false_iff_ne]; exact fun q => h (by rw [q]; simp)
    have := ih (fun q => h (by simp [q]))
    simp [Lib.indexByte, h1, this]
theorem splitK_jnP : ∀ (l : List (List UInt8)) (k : Nat), l ≠ [] → (∀ x ∈ l, (44 : UInt8) ∉ x) → l.length ≤ k + 1 → Lib.splitK [44] 0 k (jnP l) = l
  | [], _, h, _, _ => absurd rfl h
  | [x], k, _, h, _ => by
    have hi := index_freeP (h x (by simp))
    cases k with
    | zero => rfl
    | succ k => simp only [jnP, Lib.splitK, hi]; rfl
  | x :: y :: r, k, _, h, hk => by
    obtain ⟨k, rfl⟩ : ∃ q, k = q + 1 := ⟨k - 1, by simp at hk; omega⟩
    have ih := splitK_jnP (y :: r) k (by simp) (fun z hz => h z (by simp [List.mem_cons] at hz ⊢; exact .inr hz)) (by simp at hk ⊢; omega)
    have hi : Lib.index (x ++ 44 :: jnP (y :: r)) [44] = (x.length : Int) := by rw [Lib.index_one]; exact indexByte_here (h x (by simp))
    simp only [jnP, Lib.splitK, hi]
    have hm : (((x.length : Nat) : Int) == -1) = false := by rw [beq_eq_false_iff_ne]; omega
    rw [hm]
    have e1 : List.drop (x.length + 1) x = [] := List.drop_of_length_le (by omega)
    simp [List.drop_append, e1, ih]
theorem itx_listP {n : Int} (h : 0 ≤ n) : (itx n).data.toList = Lib.decDigits n.toNat := by
  unfold itx Lib.itoa
  rw [if_neg (by omega)]
theorem gtx_listP {p s : Int} (hp : 0 ≤ p) (hs : 0 ≤ s) : (gtx 43 p s).data.toList = Lib.decDigits p.toNat ++ 43 :: Lib.decDigits s.toNat := by
  have e1 := itx_listP hp
  have e2 := itx_listP hs
  unfold gtx
  simp [ByteArray.data_append, e1, e2]
theorem free_digitsP {c : UInt8} (h : c.toNat < 48 ∨ 57 < c.toNat) (n : Nat) : c ∉ Lib.decDigits n := fun q => by
  have := decDigits_mem n c q; omega
theorem comma_freeP {p s : Int} (hp : 0 ≤ p) (hs : 0 ≤ s) : (44 : UInt8) ∉ (gtx 43 p s).data.toList := by
  rw [gtx_listP hp hs]
  intro q
  rcases List.mem_append.1 q with q | q
  · exact free_digitsP (by decide) _ q
  · rcases List.mem_cons.1 q with q | q
    · exact absurd q (by decide)
    · exact free_digitsP (by decide) _ q
theorem spl_gtxP {p s : Int} (hp : 0 ≤ p) (hs : 0 ≤ s) : spl 43 (gtx 43 p s).data.toList = [Lib.decDigits p.toNat, Lib.decDigits s.toNat] := by
  rw [gtx_listP hp hs, spl_cons (free_digitsP (by decide) _), spl_free (free_digitsP (by decide) _)]
theorem cut_gtxP {p s : Int} (hp : 0 ≤ p) (hs : 0 ≤ s) : Lib.cut (gtx 43 p s).data.toList [43] = (Lib.decDigits p.toNat, Lib.decDigits s.toNat, true) := by
  have : Lib.index (gtx 43 p s).data.toList [43] = ((Lib.decDigits p.toNat).length : Int) := by
    rw [Lib.index_one, gtx_listP hp hs]; exact indexByte_here (free_digitsP (by decide) _)
  unfold Lib.cut
  rw [this, if_pos (by omega), gtx_listP hp hs]
  simp [List.drop_append]
theorem rdL_intP {n : Int} (h0 : 0 ≤ n) (h1 : n ≤ 999999) : rdL (Lib.decDigits n.toNat) = n := by
  rw [rdL_digits _ (by omega)]; omega
theorem atoi_intP {n : Int} (h0 : 0 ≤ n) (h1 : n ≤ 999999) : Lib.atoiAll (Lib.decDigits n.toNat) = .ok n := by
  rw [atoi_digits _ (by omega), show ((n.toNat : Nat) : Int) = n from by omega]
/-- xs are the runners with the text t -/
def YL (t : ByteArray) (xs : List (Int × Int)) : Prop := viS xs = true ∧ gjt 43 xs xs.length = t
theorem YL.bd {t : ByteArray} {xs : List (Int × Int)} (h : YL t xs) : 1 ≤ xs.length ∧ xs.length ≤ 6 ∧ ∀ i, i < xs.length → 0 ≤ px xs i ∧ px xs i ≤ 200 ∧ 0 ≤ py xs i ∧ py xs i ≤ 200 := by
  have hr := viS_at h.1
  exact ⟨hr.1, hr.2.1, fun i hi => by have := viOk_iff.1 (hr.2.2 i hi); omega⟩
theorem YL.jn {t : ByteArray} {xs : List (Int × Int)} (h : YL t xs) : t.data.toList = jnP ((gts 43 xs).map (·.data.toList)) := by
  rw [← jn_joinP, ← h.2, ← gjt_gts]
theorem gts_memP {xs : List (Int × Int)} {x : List UInt8} (hx : x ∈ (gts 43 xs).map (·.data.toList)) : ∃ i, i < xs.length ∧ x = (gtx 43 (px xs i) (py xs i)).data.toList := by
  obtain ⟨b, hb, rfl⟩ := List.mem_map.1 hx
  obtain ⟨i, hi, e⟩ := List.getElem_of_mem hb
  have := gts_get (c := 43) (xs := xs) (i := i) (x := b) (by rw [List.getElem?_eq_getElem hi, e])
  exact ⟨i, this.1, by rw [this.2]⟩
theorem YL.free {t : ByteArray} {xs : List (Int × Int)} (h : YL t xs) : ∀ x ∈ (gts 43 xs).map (·.data.toList), (44 : UInt8) ∉ x := by
  intro x hx
  obtain ⟨i, hi, rfl⟩ := gts_memP hx
  have := h.bd.2.2 i hi
  exact comma_freeP (by omega) (by omega)
theorem YL.ne {t : ByteArray} {xs : List (Int × Int)} (h : YL t xs) : (gts 43 xs).map (·.data.toList) ≠ [] := by
  intro e
  have q := congrArg List.length e
  rw [List.length_map, gts_length, List.length_nil] at q
  have := h.bd.1
  omega
theorem YL.spl {t : ByteArray} {xs : List (Int × Int)} (h : YL t xs) : spl 44 t.data.toList = (gts 43 xs).map (·.data.toList) := by
  rw [h.jn]; exact spl_jnP _ h.ne h.free
theorem YL.size {t : ByteArray} {xs : List (Int × Int)} (h : YL t xs) : t.size ≤ 60 := by
  have hb := h.bd
  have e : t.size = t.data.toList.length := by simp
  rw [e, h.jn]
  have := jn_lenP (N := 8) ((gts 43 xs).map (·.data.toList)) (fun x hx => by
    obtain ⟨i, hi, rfl⟩ := gts_memP hx
    have b := hb.2.2 i hi
    rw [gtx_listP (by omega) (by omega)]
    have d1 := decDigits_len 3 (px xs i).toNat (by omega)
    have d2 := decDigits_len 2 (py xs i).toNat (by omega)
    simp; omega)
  rw [List.length_map, gts_length] at this
  omega
theorem ba_extP {l m : List ByteArray} (h : l.map (·.data.toList) = m.map (·.data.toList)) : l = m := by
  exact (List.map_inj_right (fun a b e => ByteArray.ext (Array.toList_inj.1 e))).1 h
theorem YL.split {t : ByteArray} {xs : List (Int × Int)} (h : YL t xs) (k : Nat) (hk : xs.length ≤ k + 1) : Lib.splitB ⟨#[44]⟩ 0 k t = gts 43 xs := by
  apply ba_extP
  rw [Lib.splitB_data, h.jn]
  exact splitK_jnP _ k h.ne h.free (by rw [List.length_map, gts_length]; exact hk)
def jncP (c : UInt8) : List (List UInt8) → List UInt8
  | [] => []
  | [x] => x
  | x :: y :: r => x ++ c :: jncP c (y :: r)
theorem jnc_jnP : ∀ l, jncP 44 l = jnP l
  | [] => rfl
  | [x] => rfl
  | x :: y :: r => by simp only [jncP, jnP, jnc_jnP (y :: r)]
theorem spl_neP (c : UInt8) : ∀ l : List UInt8, spl c l ≠ []
  | [] => by simp [spl]
  | x :: r => by
    simp only [spl]
    split
    · simp
    · have := spl_neP c r
      cases hs : spl c r with
      | nil => exact absurd hs this
      | cons a zs => simp [prep]
theorem jnc_splP (c : UInt8) : ∀ l : List UInt8, jncP c (spl c l) = l
  | [] => rfl
  | x :: r => by
    have ih := jnc_splP c r
    have hn := spl_neP c r
    simp only [spl]
    cases hs : spl c r with
    | nil => exact absurd hs hn
    | cons a zs =>
      rw [hs] at ih
      split
      · rename_i hx
        subst hx
        simp only [jncP, List.nil_append, ih]
      · cases zs with
        | nil => simp only [jncP] at ih ⊢; simp [prep, jncP, ih]
        | cons b zs => simp only [jncP] at ih ⊢; simp [prep, jncP, ih]
theorem digit_invP {b : UInt8} {d : Nat} (h : Lib.digitVal b = some d) : d < 10 ∧ b = UInt8.ofNat (48 + d) := by
  unfold Lib.digitVal at h
  split at h
  · rename_i hb
    injection h with h
    refine ⟨by omega, ?_⟩
    apply UInt8.toNat_inj.1
    rw [UInt8.toNat_ofNat']; omega
  · cases h
theorem digits_invP : ∀ (k : Nat) (l : List UInt8) (n : Nat), l.length = k → 1 ≤ k → (l.head? = some 48 → l.length ≤ 1) → Lib.decFrom 0 l = some n → l = Lib.decDigits n
  | 0, _, _, _, h, _, _ => absurd h (by omega)
  | k + 1, l, n, hl, _, hh, hd => by
    have hne : l ≠ [] := by intro e; rw [e] at hl; simp at hl
    obtain ⟨l', b, rfl⟩ : ∃ l' b, l = l' ++ [b] := ⟨l.dropLast, l.getLast hne, (List.dropLast_concat_getLast hne).symm⟩
    cases hb : Lib.digitVal b with
    | none =>
      exfalso
      have : ∀ (l : List UInt8) acc, Lib.decFrom acc (l ++ [b]) = none := by
        intro l
        induction l with
        | nil => intro acc; simp [Lib.decFrom, hb]
        | cons x r ih =>
          intro acc
          simp only [List.cons_append, Lib.decFrom]
          cases Lib.digitVal x with
          | none => rfl
          | some e => exact ih _
      rw [this] at hd; cases hd
    | some d =>
      obtain ⟨hd10, rfl⟩ := digit_invP hb
      rw [decFrom_snoc _ _ _ hb] at hd
      by_cases hk : k = 0
      · have : l' = [] := by
          apply List.length_eq_zero_iff.1
          simp at hl; omega
        subst this
        simp [Lib.decFrom] at hd
        subst hd
        rw [decDigits_one hd10]; rfl
      · cases hm : Lib.decFrom 0 l' with
        | none => rw [hm] at hd; simp at hd
        | some m =>
          rw [hm] at hd
          simp at hd
          have hlk : l'.length = k := by simpa using hl
          have hne' : l' ≠ [] := by intro e; rw [e] at hlk; simp at hlk; omega
          have h48 : l'.head? ≠ some 48 := by
            intro q
            have : (l' ++ [UInt8.ofNat (48 + d)]).head? = some 48 := by
              cases l' with
              | nil => exact absurd rfl hne'
              | cons x r => simpa using q
            have q2 := hh this
            rw [List.length_append] at q2
            simp only [List.length_cons, List.length_nil] at q2
            omega
          have ih := digits_invP k l' m hlk (by omega) (fun q => absurd q h48) hm
          have hm1 : m ≠ 0 := by
            intro e
            rw [e, decDigits_one (by omega)] at ih
            exact h48 (by rw [ih]; rfl)
          have hn10 : ¬ n < 10 := by omega
          rw [decDigits_big hn10, show n / 10 = m from by omega, show n % 10 = d from by omega, ← ih]
theorem rdL_invP {l : List UInt8} {n : Int} (h : rdL l = n) (h0 : 0 ≤ n) : l = Lib.decDigits n.toNat := by
  unfold rdL at h
  split at h
  · rename_i hc
    cases hd : Lib.decFrom 0 l with
    | none => rw [hd] at h; simp at h; omega
    | some m =>
      rw [hd] at h
      simp only [] at h
      have := digits_invP l.length l m rfl hc.1 hc.2.2 hd
      rw [show n.toNat = m from by omega]; exact this
  · omega
theorem gjt_jnP (xs : List (Int × Int)) : (gjt 43 xs xs.length).data.toList = jnP ((gts 43 xs).map (·.data.toList)) := by
  rw [← jn_joinP, ← gjt_gts]
theorem px_appP {out : List (Int × Int)} {p : Int × Int} {i : Nat} (h : i < out.length) : px (out ++ [p]) i = px out i ∧ py (out ++ [p]) i = py out i := by
  unfold px py
  simp [List.getD, List.getElem?_append_left h]
theorem px_lastP (out : List (Int × Int)) (u v : Int) : px (out ++ [(u, v)]) out.length = u ∧ py (out ++ [(u, v)]) out.length = v := by
  unfold px py
  simp [List.getD]
theorem yw_ofP {t : ByteArray} {ss : List ByteArray} {out : List (Int × Int)} (hs : ss.map lst = spl 44 t.data.toList) (hl : out.length = ss.length) (hz : ∀ i, i < ss.length → (ss.getD i ⟨#[]⟩).data.toList = (gtx 43 (px out i) (py out i)).data.toList) (hw : viS out = true) : YL t out := by
  refine ⟨hw, ByteArray.ext (Array.toList_inj.1 ?_)⟩
  have e : ss.map lst = (gts 43 out).map (·.data.toList) := by
    apply List.ext_getElem?
    intro i
    by_cases hi : i < ss.length
    · have h1 := hz i hi
      rw [List.getD, List.getElem?_eq_getElem hi] at h1
      have hg : i < (gts 43 out).length := by rw [gts_length]; omega
      have g := gts_get (c := 43) (xs := out) (i := i) (x := (gts 43 out)[i]) (List.getElem?_eq_getElem hg)
      rw [List.getElem?_map, List.getElem?_map, List.getElem?_eq_getElem hi, List.getElem?_eq_getElem hg]
      simp only [Option.map_some, Option.getD_some] at h1 ⊢
      rw [g.2]
      exact congrArg some h1
    · rw [List.getElem?_eq_none (by rw [List.length_map]; omega), List.getElem?_eq_none (by rw [List.length_map, gts_length]; omega)]
  rw [gjt_jnP, ← e, hs, ← jnc_jnP, jnc_splP]
end Go.Proofs.YtjfmmdblfhgelaaDoor
