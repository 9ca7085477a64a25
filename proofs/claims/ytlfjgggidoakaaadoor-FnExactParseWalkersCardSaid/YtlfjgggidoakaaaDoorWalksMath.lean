/- Texts of walkers, taken apart: plain mathematics of bytes. -/
import Derived.Test.YtlfjgggidoakaaaDoorRunsMath
import Derived.Test.YtlfjgggidoakaaaDoorJoinWalks
namespace Go.Proofs.YtlfjgggidoakaaaDoor
open Go.RowKit
set_option linter.unusedVariables false
def jnc (c : UInt8) : List (List UInt8) → List UInt8
  | [] => []
  | [x] => x
  | x :: y :: r => x ++ c :: jnc c (y :: r)
theorem jnc_jn : ∀ l, jnc 44 l = jn l
  | [] => rfl
  | [x] => rfl
  | x :: y :: r => by simp only [jnc, jn, jnc_jn (y :: r)]
theorem spl_ne (c : UInt8) : ∀ l : List UInt8, spl c l ≠ []
  | [] => by simp [spl]
  | x :: r => by
    simp only [spl]
    split
    · simp
    · have := spl_ne c r
      cases hs : spl c r with
      | nil => exact absurd hs this
      | cons a zs => simp [prep]
theorem jnc_spl (c : UInt8) : ∀ l : List UInt8, jnc c (spl c l) = l
  | [] => rfl
  | x :: r => by
    have ih := jnc_spl c r
    have hn := spl_ne c r
    simp only [spl]
    cases hs : spl c r with
    | nil => exact absurd hs hn
    | cons a zs =>
      rw [hs] at ih
      split
      · rename_i hx
        subst hx
        simp only [jnc, List.nil_append, ih]
      · cases zs with
        | nil => simp only [jnc] at ih ⊢; simp [prep, jnc, ih]
        | cons b zs => simp only [jnc] at ih ⊢; simp [prep, jnc, ih]
theorem digit_inv {b : UInt8} {d : Nat} (h : Lib.digitVal b = some d) : d < 10 ∧ b = UInt8.ofNat (48 + d) := by
  unfold Lib.digitVal at h
  split at h
  · rename_i hb
    injection h with h
    refine ⟨by omega, ?_⟩
    apply UInt8.toNat_inj.1
    rw [UInt8.toNat_ofNat']; omega
  · cases h
theorem digits_inv : ∀ (k : Nat) (l : List UInt8) (n : Nat), l.length = k → 1 ≤ k → (l.head? = some 48 → l.length ≤ 1) → Lib.decFrom 0 l = some n → l = Lib.decDigits n
  | 0, _, _, _, h, _, _ => absurd h (by omega)
  | k + 1, l, n, hl, _, hh, hd => by
    have hne : l ≠ [] := by intro e; rw [e] at hl; simp at hl
    obtain ⟨l', b, rfl⟩ : ∃ l' b, l = l' ++ [b] := ⟨l.dropLast, l.getLast hne, (List.dropLast_concat_getLast hne).symm⟩
    cases hb : Lib.digitVal b with
    | none =>
      exfalso
      have : ∀ (l : List UInt8) acc, Lib.decFrom acc (l ++ [b]) = none := by
        intro l
        induction l with
        | nil => intro acc; simp [Lib.decFrom, hb]
        | cons x r ih =>
          intro acc
          simp only [List.cons_append, Lib.decFrom]
          cases Lib.digitVal x with
          | none => rfl
          | some e => exact ih _
      rw [this] at hd; cases hd
    | some d =>
      obtain ⟨hd10, rfl⟩ := digit_inv hb
      rw [decFrom_snoc _ _ _ hb] at hd
      by_cases hk : k = 0
      · have : l' = [] := by
          apply List.length_eq_zero_iff.1
          simp at hl; omega
        subst this
        simp [Lib.decFrom] at hd
        subst hd
        rw [decDigits_one hd10]; rfl
      · cases hm : Lib.decFrom 0 l' with
        | none => rw [hm] at hd; simp at hd
        | some m =>
          rw [hm] at hd
          simp at hd
          have hlk : l'.length = k := by simpa using hl
          have hne' : l' ≠ [] := by intro e; rw [e] at hlk; simp at hlk; omega
          have h48 : l'.head? ≠ some 48 := by
            intro q
            have : (l' ++ [UInt8.ofNat (48 + d)]).head? = some 48 := by
              cases l' with
              | nil => exact absurd rfl hne'
              | cons x r => simpa using q
            have q2 := hh this
            rw [List.length_append] at q2
            simp only [List.length_cons, List.length_nil] at q2
            omega
          have ih := digits_inv k l' m hlk (by omega) (fun q => absurd q h48) hm
          have hm1 : m ≠ 0 := by
            intro e
            rw [e, decDigits_one (by omega)] at ih
            exact h48 (by rw [ih]; rfl)
          have hn10 : ¬ n < 10 := by omega
          rw [decDigits_big hn10, show n / 10 = m from by omega, show n % 10 = d from by omega, ← ih]
theorem rdL_inv {l : List UInt8} {n : Int} (h : rdL l = n) (h0 : 0 ≤ n) : l = Lib.decDigits n.toNat := by
  unfold rdL at h
  split at h
  · rename_i hc
    cases hd : Lib.decFrom 0 l with
    | none => rw [hd] at h; simp at h; omega
    | some m =>
      rw [hd] at h
      simp only [] at h
      have := digits_inv l.length l m rfl hc.1 hc.2.2 hd
      rw [show n.toNat = m from by omega]; exact this
  · omega
/-- what meRead answers -/
def mRv (l : List UInt8) : Int := if 1 < l.length ∧ l.head? = some 45 then -(rdL l.tail) else rdL l
def mRb (l : List UInt8) : Bool := if 1 < l.length ∧ l.head? = some 45 then decide (0 < rdL l.tail) else decide (0 ≤ rdL l)
theorem itx_neg {n : Int} (h : n < 0) : (itx n).data.toList = 45 :: Lib.decDigits n.natAbs := by
  unfold itx Lib.itoa
  rw [if_pos h]
theorem mR_inv {l : List UInt8} (h : mRb l = true) : l = (itx (mRv l)).data.toList := by
  unfold mRb at h
  unfold mRv
  split at h
  · rename_i hc
    rw [if_pos hc]
    have hp : 0 < rdL l.tail := by simpa using h
    rw [itx_neg (by omega)]
    have := rdL_inv (l := l.tail) rfl (by omega)
    cases l with
    | nil => simp at hc
    | cons x r =>
      simp at hc
      rw [hc.2]
      simp only [List.tail_cons] at this hp ⊢
      congr 1
      rw [this]
      congr 1
      rw [← this]; omega
  · rename_i hc
    rw [if_neg hc]
    have hp : 0 ≤ rdL l := by simpa using h
    rw [itx_list hp]
    exact rdL_inv rfl hp
theorem mR_itx {n : Int} (h0 : -999999 ≤ n) (h1 : n ≤ 999999) : mRv (itx n).data.toList = n ∧ mRb (itx n).data.toList = true := by
  by_cases h : n < 0
  · rw [itx_neg h]
    have hr := rdL_digits n.natAbs (by omega)
    have hne := decDigits_ne n.natAbs
    have hl : 1 < (45 :: Lib.decDigits n.natAbs).length := by
      cases hd : Lib.decDigits n.natAbs with
      | nil => exact absurd hd hne
      | cons _ _ => simp
    unfold mRv mRb
    rw [if_pos ⟨hl, rfl⟩, if_pos ⟨hl, rfl⟩]
    simp only [List.tail_cons, hr]
    refine ⟨by omega, by simp; omega⟩
  · rw [itx_list (by omega)]
    have hr := rdL_int (n := n) (by omega) h1
    have hh : ¬ (1 < (Lib.decDigits n.toNat).length ∧ (Lib.decDigits n.toNat).head? = some 45) := by
      intro q
      have : (45 : UInt8) ∈ Lib.decDigits n.toNat := List.mem_of_mem_head? (by rw [q.2]; rfl)
      exact dash_free _ this
    unfold mRv mRb
    rw [if_neg hh, if_neg hh, hr]
    exact ⟨rfl, by simp; omega⟩
theorem itx_free {c : UInt8} (h : c.toNat < 45 ∨ 57 < c.toNat) (n : Int) : c ∉ (itx n).data.toList := by
  by_cases hn : n < 0
  · rw [itx_neg hn]
    intro q
    rcases List.mem_cons.1 q with q | q
    · have e : (45 : UInt8).toNat = 45 := rfl
      rw [q] at h; omega
    · have := decDigits_mem _ c q; omega
  · rw [itx_list (by omega)]
    intro q
    have := decDigits_mem _ c q; omega
theorem gtxW_list (p s : Int) : (gtx 58 p s).data.toList = (itx p).data.toList ++ 58 :: (itx s).data.toList := by
  unfold gtx
  simp [ByteArray.data_append]
theorem commaW_free (p s : Int) : (44 : UInt8) ∉ (gtx 58 p s).data.toList := by
  rw [gtxW_list]
  intro q
  rcases List.mem_append.1 q with q | q
  · exact itx_free (by decide) _ q
  · rcases List.mem_cons.1 q with q | q
    · exact absurd q (by decide)
    · exact itx_free (by decide) _ q
theorem spl_gtxW (p s : Int) : spl 58 (gtx 58 p s).data.toList = [(itx p).data.toList, (itx s).data.toList] := by
  rw [gtxW_list, spl_cons (itx_free (by decide) _), spl_free (itx_free (by decide) _)]
theorem cut_gtxW (p s : Int) : Lib.cut (gtx 58 p s).data.toList [58] = ((itx p).data.toList, (itx s).data.toList, true) := by
  have : Lib.index (gtx 58 p s).data.toList [58] = ((itx p).data.toList.length : Int) := by
    rw [Lib.index_one, gtxW_list]; exact indexByte_here (itx_free (by decide) _)
  unfold Lib.cut
  rw [this, if_pos (by omega), gtxW_list]
  simp [List.drop_append]
theorem atoi_itx {n : Int} (h0 : -999999 ≤ n) (h1 : n ≤ 999999) : Lib.atoiAll (itx n).data.toList = .ok n := by
  by_cases h : n < 0
  · rw [itx_neg h]
    have hl := decDigits_len 5 n.natAbs (by omega)
    rw [Lib.atoiAll_short _ (by simp; omega)]
    have hd := decFrom_digits n.natAbs
    cases he : Lib.decDigits n.natAbs with
    | nil => exact absurd he (decDigits_ne _)
    | cons b r =>
      rw [he] at hd
      simp [Lib.atoi, Lib.decNat, hd, Lib.NumEnd.ofOption]
      omega
  · rw [itx_list (by omega)]; exact atoi_int (by omega) h1
/-- xs are the walkers with the text t -/
def YW (t : ByteArray) (xs : List (Int × Int)) : Prop := wks xs = true ∧ gjt 58 xs xs.length = t
theorem YW.bd {t : ByteArray} {xs : List (Int × Int)} (h : YW t xs) : 1 ≤ xs.length ∧ xs.length ≤ 8 ∧ ∀ i, i < xs.length → -1000 ≤ px xs i ∧ px xs i ≤ 1000 ∧ -100 ≤ py xs i ∧ py xs i ≤ 100 := by
  have h1 := h.1
  unfold wks at h1
  rw [Bool.and_eq_true] at h1
  have := inB_iff.1 h1.1
  exact ⟨by omega, by omega, fun i hi => wkOk_iff.1 (allW_at h1.2 hi)⟩
theorem gts_memW {xs : List (Int × Int)} {x : List UInt8} (hx : x ∈ (gts 58 xs).map (·.data.toList)) : ∃ i, i < xs.length ∧ x = (gtx 58 (px xs i) (py xs i)).data.toList := by
  obtain ⟨b, hb, rfl⟩ := List.mem_map.1 hx
  obtain ⟨i, hi, e⟩ := List.getElem_of_mem hb
  have := gts_get (c := 58) (xs := xs) (i := i) (x := b) (by rw [List.getElem?_eq_getElem hi, e])
  exact ⟨i, this.1, by rw [this.2]⟩
theorem gjt_jnW (xs : List (Int × Int)) : (gjt 58 xs xs.length).data.toList = jn ((gts 58 xs).map (·.data.toList)) := by
  rw [← jn_join, ← gjt_gts]
theorem YW.jn {t : ByteArray} {xs : List (Int × Int)} (h : YW t xs) : t.data.toList = jn ((gts 58 xs).map (·.data.toList)) := by
  rw [← h.2, gjt_jnW]
theorem freeW (xs : List (Int × Int)) : ∀ x ∈ (gts 58 xs).map (·.data.toList), (44 : UInt8) ∉ x := by
  intro x hx
  obtain ⟨i, hi, rfl⟩ := gts_memW hx
  exact commaW_free _ _
theorem YW.ne {t : ByteArray} {xs : List (Int × Int)} (h : YW t xs) : (gts 58 xs).map (·.data.toList) ≠ [] := by
  intro e
  have q := congrArg List.length e
  rw [List.length_map, gts_length, List.length_nil] at q
  have := h.bd.1
  omega
theorem YW.spl {t : ByteArray} {xs : List (Int × Int)} (h : YW t xs) : spl 44 t.data.toList = (gts 58 xs).map (·.data.toList) := by
  rw [h.jn]; exact spl_jn _ h.ne (freeW xs)
theorem itx_len {n : Int} {k : Nat} (h0 : n.natAbs < 10 ^ (k + 1)) : (itx n).data.toList.length ≤ k + 2 := by
  by_cases h : n < 0
  · rw [itx_neg h]
    have := decDigits_len k n.natAbs h0
    simp; omega
  · rw [itx_list (by omega)]
    have := decDigits_len k n.toNat (by rw [show n.toNat = n.natAbs from by omega]; exact h0)
    omega
theorem itx_len2 {n : Int} {k : Nat} (h : 0 ≤ n) (h0 : n.natAbs < 10 ^ (k + 1)) : (itx n).data.toList.length ≤ k + 1 := by
  rw [itx_list h]
  exact decDigits_len k n.toNat (by rw [show n.toNat = n.natAbs from by omega]; exact h0)
theorem YW.size {t : ByteArray} {xs : List (Int × Int)} (h : YW t xs) : t.size ≤ 100 := by
  have hb := h.bd
  have e : t.size = t.data.toList.length := by simp
  rw [e, h.jn]
  have := jn_len (N := 10) ((gts 58 xs).map (·.data.toList)) (fun x hx => by
    obtain ⟨i, hi, rfl⟩ := gts_memW hx
    have b := hb.2.2 i hi
    rw [gtxW_list]
    have d1 := itx_len (n := px xs i) (k := 3) (by omega)
    have d2 := itx_len (n := py xs i) (k := 2) (by omega)
    simp only [List.length_append, List.length_cons]; omega)
  rw [List.length_map, gts_length] at this
  omega
theorem YW.split {t : ByteArray} {xs : List (Int × Int)} (h : YW t xs) (k : Nat) (hk : xs.length ≤ k + 1) : Lib.splitB ⟨#[44]⟩ 0 k t = gts 58 xs := by
  apply ba_ext
  rw [Lib.splitB_data, h.jn]
  exact splitK_jn _ k h.ne (freeW xs) (by rw [List.length_map, gts_length]; exact hk)
end Go.Proofs.YtlfjgggidoakaaaDoor
