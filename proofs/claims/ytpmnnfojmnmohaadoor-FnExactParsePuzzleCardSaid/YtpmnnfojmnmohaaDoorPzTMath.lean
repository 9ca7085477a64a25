/- Texts of clues: plain mathematics of bytes. -/
import Derived.Test.YtpmnnfojmnmohaaDoorParseWalks
import Derived.Test.YtpmnnfojmnmohaaDoorJoin0
import Derived.Test.YtpmnnfojmnmohaaDoorTri0
import Derived.Test.YtpmnnfojmnmohaaDoorPzMath
import Derived.Lib.Split
import Derived.Lib.AtoiTie
namespace Go.Proofs.YtpmnnfojmnmohaaDoor
open Go.RowKit
set_option linter.unusedVariables false
set_option linter.unusedSimpArgs false
/-- the text of a clue -/
def ctx (k a b : Int) : ByteArray := (((itx k ++ ⟨#[46]⟩) ++ itx a) ++ ⟨#[46]⟩) ++ itx b
/-- the text of the first ones, as it grows -/
def cjt (xs : List (Int × Int × Int)) : Nat → ByteArray
  | 0 => ⟨#[]⟩
  | 1 => ⟨#[]⟩ ++ ctx (tk xs 0) (ta xs 0) (tb xs 0)
  | k + 2 => (cjt xs (k + 1) ++ ⟨#[44]⟩) ++ ctx (tk xs (k + 1)) (ta xs (k + 1)) (tb xs (k + 1))
/-- numbers that are not great -/
def bdC (xs : List (Int × Int × Int)) : Prop := ∀ i, i < xs.length → -1000000 ≤ tk xs i ∧ tk xs i ≤ 1000000 ∧ -1000000 ≤ ta xs i ∧ ta xs i ≤ 1000000 ∧ -1000000 ≤ tb xs i ∧ tb xs i ≤ 1000000
theorem ctx_size {k a b : Int} (h : -1000000 ≤ k ∧ k ≤ 1000000 ∧ -1000000 ≤ a ∧ a ≤ 1000000 ∧ -1000000 ≤ b ∧ b ≤ 1000000) : (ctx k a b).size ≤ 26 := by
  have h1 := itx_size (n := k) (by omega) (by omega)
  have h2 := itx_size (n := a) (by omega) (by omega)
  have h4 := itx_size (n := b) (by omega) (by omega)
  have h3 : (⟨#[46]⟩ : ByteArray).size = 1 := rfl
  unfold ctx
  rw [ByteArray.size_append, ByteArray.size_append, ByteArray.size_append, ByteArray.size_append, h3]; omega
theorem cjt_size {xs : List (Int × Int × Int)} (h : bdC xs) : ∀ k, k ≤ xs.length → (cjt xs k).size ≤ 27 * k
  | 0, _ => by simp [cjt, ByteArray.size]
  | 1, hk => by
    have := ctx_size (h 0 (by omega))
    have h3 : (⟨#[]⟩ : ByteArray).size = 0 := rfl
    simp only [cjt]
    rw [ByteArray.size_append, h3]; omega
  | k + 2, hk => by
    have h1 := cjt_size h (k + 1) (by omega)
    have := ctx_size (h (k + 1) (by omega))
    have h3 : (⟨#[44]⟩ : ByteArray).size = 1 := rfl
    simp only [cjt]
    rw [ByteArray.size_append, ByteArray.size_append, h3]; omega
theorem take_succ_t (xs : List (Int × Int × Int)) (k : Nat) (h : k < xs.length) : xs.take (k + 1) = xs.take k ++ [(tk xs k, ta xs k, tb xs k)] := by
  rw [List.take_add_one, List.getElem?_eq_getElem h]
  have e : xs.getD k (0, 0, 0) = xs[k] := by simp [List.getD, List.getElem?_eq_getElem h]
  unfold tk ta tb
  rw [e]; rfl
theorem cjt_join (xs : List (Int × Int × Int)) : ∀ k, k ≤ xs.length → (cjt xs k).data.toList = Lib.join ((xs.take k).map fun p => (ctx p.1 p.2.1 p.2.2).data.toList) [44]
  | 0, _ => by simp [cjt, Lib.join_nil]
  | 1, h => by
    rw [take_succ_t xs 0 (by omega)]
    simp [cjt, Lib.join_one]
  | k + 2, h => by
    have ih := cjt_join xs (k + 1) (by omega)
    rw [take_succ_t xs (k + 1) (by omega), List.map_append, List.map_cons, List.map_nil, join_snoc _ _ _ (by
      intro e
      have := congrArg List.length e
      rw [List.length_map, List.length_take, List.length_nil] at this
      omega), ← ih]
    simp [cjt]
/-- the texts of all -/
def cts (xs : List (Int × Int × Int)) : List ByteArray := xs.map fun p => ctx p.1 p.2.1 p.2.2
theorem cts_length (xs : List (Int × Int × Int)) : (cts xs).length = xs.length := by simp [cts]
theorem cts_get {xs : List (Int × Int × Int)} {i : Nat} {x : ByteArray} (h : (cts xs)[i]? = some x) : i < xs.length ∧ x = ctx (tk xs i) (ta xs i) (tb xs i) := by
  have hi : i < xs.length := by
    rcases Nat.lt_or_ge i xs.length with q | q
    · exact q
    · rw [List.getElem?_eq_none (by rw [cts_length]; omega)] at h; cases h
  refine ⟨hi, ?_⟩
  simp [cts, List.getElem?_eq_getElem hi] at h
  rw [← h]; simp [tk, ta, tb, List.getD, List.getElem?_eq_getElem hi]
theorem cjt_cts (xs : List (Int × Int × Int)) : Lib.join ((cts xs).map (·.data.toList)) (⟨#[44]⟩ : ByteArray).data.toList = (cjt xs xs.length).data.toList := by
  rw [cjt_join xs xs.length (Nat.le_refl _), List.take_length]
  simp [cts, Function.comp_def]
/-- pieces with commas between them -/
def jnZ : List (List UInt8) → List UInt8
  | [] => []
  | [x] => x
  | x :: y :: r => x ++ 44 :: jnZ (y :: r)
theorem jn_joinZ : ∀ l : List (List UInt8), Lib.join l [44] = jnZ l
  | [] => by simp [jnZ, Lib.join_nil]
  | [x] => by simp [jnZ, Lib.join_one]
  | x :: y :: r => by
    have ih := jn_joinZ (y :: r)
    rw [Lib.join_cons] at ih
    rw [Lib.join_cons]
    simp only [jnZ, Lib.joinTail] at *
    rw [← ih]; simp
theorem jn_lenZ {N : Nat} : ∀ l : List (List UInt8), (∀ x ∈ l, x.length ≤ N) → (jnZ l).length ≤ (N + 1) * l.length
  | [], _ => by simp [jnZ]
  | [x], h => by
    have := h x (by simp)
    simp only [jnZ, List.length_cons, List.length_nil]; omega
  | x :: y :: r, h => by
    have ih := jn_lenZ (y :: r) (fun z hz => h z (by simp [List.mem_cons] at hz ⊢; exact .inr hz))
    have hx := h x (by simp)
    simp only [jnZ, List.length_append, List.length_cons] at *
    have e : (N + 1) * (r.length + 1 + 1) = (N + 1) * (r.length + 1) + (N + 1) := by rw [Nat.mul_add (N + 1) (r.length + 1) 1, Nat.mul_one]
    rw [e]; omega
theorem spl_jnZ : ∀ l : List (List UInt8), l ≠ [] → (∀ x ∈ l, (44 : UInt8) ∉ x) → spl 44 (jnZ l) = l
  | [], h, _ => absurd rfl h
  | [x], _, h => by simp only [jnZ]; exact spl_free (h x (by simp))
  | x :: y :: r, _, h => by
    simp only [jnZ]
    rw [spl_cons (h x (by simp)), spl_jnZ (y :: r) (by simp) (fun z hz => h z (by simp [List.mem_cons] at hz ⊢; exact .inr hz))]
theorem index_freeZ {u : List UInt8} (h : (44 : UInt8) ∉ u) : Lib.index u [44] = -1 := by
  rw [Lib.index_one]
  induction u with
  | nil => rfl
  | cons x r ih =>
    have h1 : (x == 44) = false := by rw [beq_eq_false_iff_ne]; exact fun q => h (by rw [q]; simp)
    have := ih (fun q => h (by simp [q]))
    simp [Lib.indexByte, h1, this]
theorem splitK_jnZ : ∀ (l : List (List UInt8)) (k : Nat), l ≠ [] → (∀ x ∈ l, (44 : UInt8) ∉ x) → l.length ≤ k + 1 → Lib.splitK [44] 0 k (jnZ l) = l
  | [], _, h, _, _ => absurd rfl h
  | [x], k, _, h, _ => by
    have hi := index_freeZ (h x (by simp))
    cases k with
    | zero => rfl
    | succ k => simp only [jnZ, Lib.splitK, hi]; rfl
  | x :: y :: r, k, _, h, hk => by
    obtain ⟨k, rfl⟩ : ∃ q, k = q + 1 := ⟨k - 1, by simp at hk; omega⟩
    have ih := splitK_jnZ (y :: r) k (by simp) (fun z hz => h z (by simp [List.mem_cons] at hz ⊢; exact .inr hz)) (by simp at hk ⊢; omega)
    have hi : Lib.index (x ++ 44 :: jnZ (y :: r)) [44] = (x.length : Int) := by rw [Lib.index_one]; exact indexByte_here (h x (by simp))
    simp only [jnZ, Lib.splitK, hi]
    have hm : (((x.length : Nat) : Int) == -1) = false := by rw [beq_eq_false_iff_ne]; omega
    rw [hm]
    have e1 : List.drop (x.length + 1) x = [] := List.drop_of_length_le (by omega)
    simp [List.drop_append, e1, ih]
theorem free_digitsZ {c : UInt8} (h : c.toNat < 48 ∨ 57 < c.toNat) (n : Nat) : c ∉ Lib.decDigits n := fun q => by
  have := decDigits_mem n c q; omega
theorem itx_listZ (n : Int) : (itx n).data.toList = Lib.itoa n := by unfold itx; simp
theorem itoa_pos {n : Int} (h : 0 ≤ n) : Lib.itoa n = Lib.decDigits n.toNat := by unfold Lib.itoa; rw [if_neg (by omega)]
theorem itoa_neg {n : Int} (h : n < 0) : Lib.itoa n = 45 :: Lib.decDigits n.natAbs := by unfold Lib.itoa; rw [if_pos h]
theorem itoa_free {c : UInt8} (h : c.toNat < 48 ∨ 57 < c.toNat) (h2 : c ≠ 45) (n : Int) : c ∉ Lib.itoa n := by
  by_cases q : n < 0
  · rw [itoa_neg q]
    intro m
    rcases List.mem_cons.1 m with m | m
    · exact h2 m
    · exact free_digitsZ h _ m
  · rw [itoa_pos (by omega)]; exact free_digitsZ h _
theorem ctx_listZ (k a b : Int) : (ctx k a b).data.toList = Lib.itoa k ++ 46 :: (Lib.itoa a ++ 46 :: Lib.itoa b) := by
  have e1 := itx_listZ k
  have e2 := itx_listZ a
  have e3 := itx_listZ b
  unfold ctx
  simp [ByteArray.data_append, e1, e2, e3]
theorem comma_freeZ (k a b : Int) : (44 : UInt8) ∉ (ctx k a b).data.toList := by
  rw [ctx_listZ]
  intro q
  rcases List.mem_append.1 q with q | q
  · exact itoa_free (by decide) (by decide) _ q
  · rcases List.mem_cons.1 q with q | q
    · exact absurd q (by decide)
    · rcases List.mem_append.1 q with q | q
      · exact itoa_free (by decide) (by decide) _ q
      · rcases List.mem_cons.1 q with q | q
        · exact absurd q (by decide)
        · exact itoa_free (by decide) (by decide) _ q
theorem spl_ctxZ (k a b : Int) : spl 46 (ctx k a b).data.toList = [Lib.itoa k, Lib.itoa a, Lib.itoa b] := by
  rw [ctx_listZ, spl_cons (itoa_free (by decide) (by decide) _), spl_cons (itoa_free (by decide) (by decide) _), spl_free (itoa_free (by decide) (by decide) _)]
theorem cut_hereZ {c : UInt8} {u d : List UInt8} (h : c ∉ u) : Lib.cut (u ++ c :: d) [c] = (u, d, true) := by
  have : Lib.index (u ++ c :: d) [c] = (u.length : Int) := by rw [Lib.index_one]; exact indexByte_here h
  unfold Lib.cut
  rw [this, if_pos (by omega)]
  simp [List.drop_append]
theorem cut_ctxZ (k a b : Int) : Lib.cut (ctx k a b).data.toList [46] = (Lib.itoa k, Lib.itoa a ++ 46 :: Lib.itoa b, true) := by
  rw [ctx_listZ]; exact cut_hereZ (itoa_free (by decide) (by decide) _)
theorem cut_abZ (a b : Int) : Lib.cut (Lib.itoa a ++ 46 :: Lib.itoa b) [46] = (Lib.itoa a, Lib.itoa b, true) := cut_hereZ (itoa_free (by decide) (by decide) _)
theorem rdL_intZ {n : Int} (h0 : 0 ≤ n) (h1 : n ≤ 999999) : rdL (Lib.decDigits n.toNat) = n := by
  rw [rdL_digits _ (by omega)]; omega
theorem atoi_intZ {n : Int} (h0 : 0 ≤ n) (h1 : n ≤ 999999) : Lib.atoiAll (Lib.decDigits n.toNat) = .ok n := by
  rw [atoi_digits _ (by omega), show ((n.toNat : Nat) : Int) = n from by omega]
theorem atoi_itoa {n : Int} (h0 : -999999 ≤ n) (h1 : n ≤ 999999) : Lib.atoiAll (Lib.itoa n) = .ok n := by
  by_cases q : n < 0
  · rw [itoa_neg q]
    have hl := decDigits_len 5 n.natAbs (by omega)
    rw [Lib.atoiAll_short _ (by simp; omega)]
    have hd := decFrom_digits n.natAbs
    have e : Lib.atoi (45 :: Lib.decDigits n.natAbs) = (Lib.decNat (Lib.decDigits n.natAbs)).map fun (m : Nat) => -(m : Int) := by simp [Lib.atoi]
    rw [e]
    cases he : Lib.decDigits n.natAbs with
    | nil => exact absurd he (decDigits_ne _)
    | cons b r =>
      rw [he] at hd
      simp [Lib.decNat, hd, Lib.NumEnd.ofOption]
      omega
  · rw [itoa_pos (by omega)]; exact atoi_intZ (by omega) h1
/-- the number that the model reads where a sign may be -/
def rdS (l : List UInt8) : Int := if 1 < l.length ∧ l.head? = some 45 then -(rdL l.tail) else rdL l
theorem rdS_itoa {n : Int} (h0 : -999999 ≤ n) (h1 : n ≤ 999999) : rdS (Lib.itoa n) = n := by
  by_cases q : n < 0
  · rw [itoa_neg q]
    unfold rdS
    have hne := decDigits_ne n.natAbs
    have hlen : 1 < (45 :: Lib.decDigits n.natAbs).length := by
      cases he : Lib.decDigits n.natAbs with
      | nil => exact absurd he hne
      | cons b r => simp
    rw [if_pos ⟨hlen, rfl⟩, List.tail_cons, rdL_digits _ (by omega)]; omega
  · rw [itoa_pos (by omega)]
    unfold rdS
    rw [if_neg (fun h => ?_)]
    · exact rdL_intZ (by omega) h1
    · have := List.mem_of_mem_head? h.2
      exact free_digitsZ (by decide) _ this
theorem rdS_bd (l : List UInt8) : -999999 ≤ rdS l ∧ rdS l ≤ 999999 := by
  unfold rdS
  split
  · have := rdL_bd l.tail; omega
  · have := rdL_bd l; omega
/-- xs are the clues with the text t -/
def YC (t : ByteArray) (xs : List (Int × Int × Int)) : Prop := pzG xs = true ∧ cjt xs xs.length = t
theorem YC.bd {t : ByteArray} {xs : List (Int × Int × Int)} (h : YC t xs) : xs.length ≤ 6 ∧ ∀ i, i < xs.length → 0 ≤ tk xs i ∧ tk xs i ≤ 4 ∧ 0 ≤ ta xs i ∧ ta xs i ≤ 100 ∧ -12 ≤ tb xs i ∧ tb xs i ≤ 100 := by
  have hr := pzG_iff.1 h.1
  exact ⟨hr.1, fun i hi => clB_bd (clA_at hr.2 hi)⟩
theorem cjt_jnZ (xs : List (Int × Int × Int)) : (cjt xs xs.length).data.toList = jnZ ((cts xs).map (·.data.toList)) := by
  rw [← jn_joinZ, ← cjt_cts]
theorem YC.jn {t : ByteArray} {xs : List (Int × Int × Int)} (h : YC t xs) : t.data.toList = jnZ ((cts xs).map (·.data.toList)) := by
  rw [← h.2]; exact cjt_jnZ xs
theorem cts_memZ {xs : List (Int × Int × Int)} {x : List UInt8} (hx : x ∈ (cts xs).map (·.data.toList)) : ∃ i, i < xs.length ∧ x = (ctx (tk xs i) (ta xs i) (tb xs i)).data.toList := by
  obtain ⟨b, hb, rfl⟩ := List.mem_map.1 hx
  obtain ⟨i, hi, e⟩ := List.getElem_of_mem hb
  have := cts_get (xs := xs) (i := i) (x := b) (by rw [List.getElem?_eq_getElem hi, e])
  exact ⟨i, this.1, by rw [this.2]⟩
theorem YC.free {t : ByteArray} {xs : List (Int × Int × Int)} (h : YC t xs) : ∀ x ∈ (cts xs).map (·.data.toList), (44 : UInt8) ∉ x := by
  intro x hx
  obtain ⟨i, hi, rfl⟩ := cts_memZ hx
  exact comma_freeZ _ _ _
theorem YC.pos {t : ByteArray} {xs : List (Int × Int × Int)} (h : YC t xs) (ht : 0 < t.size) : 1 ≤ xs.length := by
  cases xs with
  | nil =>
    have := h.2
    rw [← this] at ht
    exact absurd ht (by simp [cjt, ByteArray.size])
  | cons _ _ => simp
theorem YC.ne {t : ByteArray} {xs : List (Int × Int × Int)} (h : YC t xs) (ht : 0 < t.size) : (cts xs).map (·.data.toList) ≠ [] := by
  intro e
  have q := congrArg List.length e
  rw [List.length_map, cts_length, List.length_nil] at q
  have := h.pos ht
  omega
theorem YC.spl {t : ByteArray} {xs : List (Int × Int × Int)} (h : YC t xs) (ht : 0 < t.size) : spl 44 t.data.toList = (cts xs).map (·.data.toList) := by
  rw [h.jn]; exact spl_jnZ _ (h.ne ht) h.free
theorem itoa_len {n : Int} (h0 : -999 ≤ n) (h1 : n ≤ 999) : (Lib.itoa n).length ≤ 4 := by
  by_cases q : n < 0
  · rw [itoa_neg q]; have := decDigits_len 2 n.natAbs (by omega); simp; omega
  · rw [itoa_pos (by omega)]; have := decDigits_len 2 n.toNat (by omega); omega
theorem YC.size {t : ByteArray} {xs : List (Int × Int × Int)} (h : YC t xs) : t.size ≤ 100 := by
  have hb := h.bd
  have e : t.size = t.data.toList.length := by simp
  rw [e, h.jn]
  have := jn_lenZ (N := 14) ((cts xs).map (·.data.toList)) (fun x hx => by
    obtain ⟨i, hi, rfl⟩ := cts_memZ hx
    have b := hb.2 i hi
    rw [ctx_listZ]
    have d1 := itoa_len (n := tk xs i) (by omega) (by omega)
    have d2 := itoa_len (n := ta xs i) (by omega) (by omega)
    have d3 := itoa_len (n := tb xs i) (by omega) (by omega)
    simp; omega)
  rw [List.length_map, cts_length] at this
  omega
theorem ba_extZ {l m : List ByteArray} (h : l.map (·.data.toList) = m.map (·.data.toList)) : l = m := by
  exact (List.map_inj_right (fun a b e => ByteArray.ext (Array.toList_inj.1 e))).1 h
theorem YC.split {t : ByteArray} {xs : List (Int × Int × Int)} (h : YC t xs) (ht : 0 < t.size) (k : Nat) (hk : xs.length ≤ k + 1) : Lib.splitB ⟨#[44]⟩ 0 k t = cts xs := by
  apply ba_extZ
  rw [Lib.splitB_data, h.jn]
  exact splitK_jnZ _ k (h.ne ht) h.free (by rw [List.length_map, cts_length]; exact hk)
theorem spl_neZ (c : UInt8) : ∀ l : List UInt8, spl c l ≠ []
  | [] => by simp [spl]
  | x :: r => by
    simp only [spl]
    split
    · simp
    · have := spl_neZ c r
      cases hs : spl c r with
      | nil => exact absurd hs this
      | cons a zs => simp [prep]
theorem spl_countZ (c : UInt8) : ∀ l : List UInt8, (spl c l).length ≤ l.length + 1
  | [] => by simp [spl]
  | x :: r => by
    have ih := spl_countZ c r
    simp only [spl]
    split
    · simp; omega
    · cases hs : spl c r with
      | nil => simp [prep]
      | cons a zs => rw [hs] at ih; rw [prep_cons]; simp at ih ⊢; omega
theorem piece_atZ {t : ByteArray} {xs : List (Int × Int × Int)} {ss : List ByteArray} (ht : 0 < t.size) (hs : ss.map lst = spl 44 t.data.toList) (h : YC t xs) : ss.length = xs.length ∧ ∀ j, j < ss.length → (ss.getD j ⟨#[]⟩).data.toList = (ctx (tk xs j) (ta xs j) (tb xs j)).data.toList := by
  have e := hs.trans (h.spl ht)
  have el := congrArg List.length e
  rw [List.length_map, List.length_map, cts_length] at el
  refine ⟨el, fun j hj => ?_⟩
  have q := congrArg (fun l => l[j]?) e
  simp only [List.getElem?_map] at q
  rw [List.getElem?_eq_getElem hj, List.getElem?_eq_getElem (by rw [cts_length]; omega)] at q
  simp at q
  have g := cts_get (xs := xs) (i := j) (x := (cts xs)[j]'(by rw [cts_length]; omega)) (List.getElem?_eq_getElem _)
  rw [List.getD, List.getElem?_eq_getElem hj]
  rw [← g.2]; exact q
/-- either there are such clues, or there are none -/
def PHC (t : ByteArray) (R : List (Int × Int × Int)) (ok : Bool) : Prop := (YC t R ∧ ok = true) ∨ ((∀ xs, ¬ YC t xs) ∧ R = [] ∧ ok = false)
theorem PHC.no {t : ByteArray} {R : List (Int × Int × Int)} {ok : Bool} (h : PHC t R ok) (k : YC t R → False) : R = [] ∧ ok = false := by
  rcases h with ⟨h, _⟩ | ⟨_, h⟩
  · exact (k h).elim
  · exact h
theorem PHC.empty {t : ByteArray} {R : List (Int × Int × Int)} {ok : Bool} (h : PHC t R ok) (ht : t.size = 0) : R = [] ∧ ok = true := by
  have he : t = ⟨#[]⟩ := ByteArray.ext (Array.eq_empty_of_size_eq_zero ht)
  have hy : YC t [] := ⟨rfl, by rw [he]; rfl⟩
  rcases h with ⟨h, k⟩ | ⟨n, _⟩
  · refine ⟨?_, k⟩
    cases R with
    | nil => rfl
    | cons p r =>
      exfalso
      have := h.jn
      rw [he] at this
      have e2 := congrArg List.length this
      cases r with
      | nil =>
        simp only [cts, List.map_cons, List.map_nil, jnZ, ctx_listZ] at e2
        simp at e2
      | cons q r =>
        simp only [cts, List.map_cons, jnZ] at e2
        simp at e2
  · exact absurd hy (n [])
end Go.Proofs.YtpmnnfojmnmohaaDoor
