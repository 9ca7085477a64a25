/- Plain mathematics of the named law of chapter 5's meetings: which trains a siding is filled with. No program is named here but by the numbers of the translation. -/
import Derived.Test.YtolgpjlliaoneaaTrnMost
import Derived.Test.YtolgpjlliaoneaaTwoMathL
namespace Go.Proofs.Ytolgpjlliaoneaa
open Go.RowKit
set_option linter.unusedVariables false
theorem low_cons (x b : Int) (r : List Int) : lowI (x :: r) b = if x < b then lowI r b + 1 else 0 := by
  unfold lowI
  by_cases h : x < b
  · rw [if_pos h, List.takeWhile_cons_of_pos (by simpa using h)]; rfl
  · rw [if_neg h, List.takeWhile_cons_of_neg (by simpa using h)]; rfl
theorem putI_cons (x b : Int) (r : List Int) : putI (x :: r) b = if x < b then x :: putI r b else b :: x :: r := by
  unfold putI
  rw [low_cons]
  by_cases h : x < b
  · rw [if_pos h, if_pos h]; simp
  · rw [if_neg h, if_neg h]; simp
theorem mem_put (out : List Int) (b x : Int) : x ∈ putI out b ↔ x ∈ out ∨ x = b := by
  have h := put_mem out b x
  rw [Bool.eq_iff_iff] at h
  simpa [List.contains_iff_mem] using h
theorem put_inc {b : Int} : ∀ {out : List Int}, out.Pairwise (· < ·) → b ∉ out → (putI out b).Pairwise (· < ·)
  | [], _, _ => by simp [putI, lowI]
  | x :: r, h, hb => by
    rw [putI_cons]
    rw [List.pairwise_cons] at h
    by_cases q : x < b
    · rw [if_pos q, List.pairwise_cons]
      refine ⟨fun y hy => ?_, put_inc h.2 (fun e => hb (List.mem_cons_of_mem _ e))⟩
      rcases (mem_put r b y).1 hy with e | e
      · exact h.1 y e
      · subst e; exact q
    · rw [if_neg q, List.pairwise_cons]
      have hx : b < x := by
        have : b ≠ x := fun e => hb (by rw [e]; exact List.mem_cons_self)
        omega
      refine ⟨fun y hy => ?_, List.pairwise_cons.2 h⟩
      rcases List.mem_cons.1 hy with e | e
      · subst e; exact hx
      · have := h.1 y e; omega
/-- the lengths of chosen ones together -/
def smS (xs : List (Int × Int)) : List Int → Int
  | [] => 0
  | j :: r => px xs j.toNat + smS xs r
theorem smS_put (xs : List (Int × Int)) (b : Int) : ∀ out, smS xs (putI out b) = px xs b.toNat + smS xs out
  | [] => by simp [putI, lowI, smS]
  | x :: r => by
    rw [putI_cons]
    by_cases q : x < b
    · rw [if_pos q]
      have := smS_put xs b r
      simp only [smS]; omega
    · rw [if_neg q]; simp only [smS]
/-- the lengths of those among the first j that are chosen -/
def smN (xs : List (Int × Int)) (out : List Int) : Nat → Int
  | 0 => 0
  | j + 1 => smN xs out j + (if out.contains (j : Int) then px xs j else 0)
theorem smN_put (xs : List (Int × Int)) (out : List Int) (b : Nat) (hb : out.contains (b : Int) = false) : ∀ j, smN xs (putI out b) j = smN xs out j + (if b < j then px xs b else 0)
  | 0 => by simp [smN]
  | j + 1 => by
    have ih := smN_put xs out b hb j
    have pm := put_mem out (b : Int) (j : Int)
    simp only [smN, ih, pm]
    by_cases e : j = b
    · subst e; rw [hb]; simp
    · have hne : ((j : Int) = (b : Int)) ↔ False := ⟨fun h => e (by omega), fun h => h.elim⟩
      cases hc : out.contains (j : Int)
      · simp [hne]; by_cases q : b < j
        · rw [if_pos q, if_pos (by omega)]
        · rw [if_neg q, if_neg (by omega)]
      · simp [hne]; by_cases q : b < j
        · rw [if_pos q, if_pos (by omega)]; omega
        · rw [if_neg q, if_neg (by omega)]; omega
theorem nin_put (out : List Int) (b : Nat) (hb : out.contains (b : Int) = false) : ∀ j, nin (putI out b) j + (if b < j then 1 else 0) = nin out j
  | 0 => by simp [nin]
  | j + 1 => by
    have ih := nin_put out b hb j
    have pm := put_mem out (b : Int) (j : Int)
    simp only [nin, pm]
    by_cases e : j = b
    · subst e; rw [hb]; simp at ih ⊢; omega
    · have hne : ((j : Int) = (b : Int)) ↔ False := ⟨fun h => e (by omega), fun h => h.elim⟩
      cases hc : out.contains (j : Int)
      · simp [hne]; by_cases q : b < j
        · rw [if_pos q] at ih; rw [if_pos (by omega)]; omega
        · rw [if_neg q] at ih; rw [if_neg (by omega)]; omega
      · simp [hne]; by_cases q : b < j
        · rw [if_pos q] at ih; rw [if_pos (by omega)]; omega
        · rw [if_neg q] at ih; rw [if_neg (by omega)]; omega
theorem nin_all {out : List Int} : ∀ {j : Nat}, nin out j = 0 → ∀ i, i < j → out.contains (i : Int) = true
  | 0, _, i, hi => absurd hi (Nat.not_lt_zero _)
  | j + 1, h, i, hi => by
    simp only [nin] at h
    by_cases e : i = j
    · subst e
      cases hc : out.contains (i : Int)
      · rw [hc] at h; simp at h
      · rfl
    · exact nin_all (out := out) (j := j) (by omega) i (by omega)
theorem nin_none {out : List Int} : ∀ {j : Nat}, (∀ i, i < j → out.contains (i : Int) = true) → nin out j = 0
  | 0, _ => rfl
  | j + 1, h => by
    simp only [nin]; rw [nin_none (fun i hi => h i (by omega)), h j (by omega)]; rfl
/-- the best one is the shortest, the first one of several -/
theorem bstT_min (xs : List (Int × Int)) (out : List Int) : ∀ j, (bst xs out j < 0 → ∀ i, i < j → out.contains (i : Int) = true) ∧
    (0 ≤ bst xs out j → ∀ i : Nat, i < j → out.contains (i : Int) = false → px xs (bst xs out j).toNat < px xs i ∨ (px xs (bst xs out j).toNat = px xs i ∧ (bst xs out j).toNat ≤ i))
  | 0 => ⟨fun _ i hi => absurd hi (Nat.not_lt_zero _), fun _ i hi => absurd hi (Nat.not_lt_zero _)⟩
  | j + 1 => by
    obtain ⟨h1, h2⟩ := bstT_min xs out j
    have hb := bst_bd xs out j
    cases hc : out.contains (j : Int)
    · cases hq : btB xs (bst xs out j) j
      · have e : bst xs out (j + 1) = bst xs out j := bst_no (.inr hq)
        have hq' : ¬ bst xs out j < 0 ∧ ¬ px xs j < px xs (bst xs out j).toNat := by
          unfold btB at hq; rw [Bool.or_eq_false_iff, decide_eq_false_iff_not, decide_eq_false_iff_not] at hq; exact hq
        rw [e]
        refine ⟨fun q => absurd q hq'.1, fun q i hi hci => ?_⟩
        by_cases ei : i = j
        · subst ei
          have := hq'.2
          omega
        · exact h2 q i (by omega) hci
      · have e : bst xs out (j + 1) = (j : Int) := bst_yes hc hq
        have hq' : bst xs out j < 0 ∨ px xs j < px xs (bst xs out j).toNat := by
          unfold btB at hq; rw [Bool.or_eq_true, decide_eq_true_eq, decide_eq_true_eq] at hq; exact hq
        rw [e]
        refine ⟨fun q => by omega, fun _ i hi hci => ?_⟩
        simp only [Int.toNat_natCast]
        by_cases ei : i = j
        · subst ei; exact .inr ⟨rfl, Nat.le_refl _⟩
        · rcases hq' with q | q
          · have := h1 q i (by omega); rw [hci] at this; cases this
          · by_cases q0 : bst xs out j < 0
            · have := h1 q0 i (by omega); rw [hci] at this; cases this
            · have := h2 (by omega) i (by omega) hci; omega
    · have e : bst xs out (j + 1) = bst xs out j := bst_no (.inl hc)
      rw [e]
      refine ⟨fun q i hi => ?_, fun q i hi hci => ?_⟩
      · by_cases ei : i = j
        · subst ei; exact hc
        · exact h1 q i (by omega)
      · by_cases ei : i = j
        · subst ei; rw [hc] at hci; cases hci
        · exact h2 q i (by omega) hci
/-- what is known of the chosen ones on the way -/
structure MsI (xs : List (Int × Int)) (out : List Int) : Prop where
  inc : out.Pairwise (· < ·)
  bd : ∀ j ∈ out, 0 ≤ j ∧ j < (xs.length : Int)
  low : ∀ j ∈ out, ∀ i : Nat, i < xs.length → out.contains (i : Int) = false → px xs j.toNat < px xs i ∨ (px xs j.toNat = px xs i ∧ j.toNat ≤ i)
  sum : smS xs out = smN xs out xs.length
  len : out.length + nin out xs.length = xs.length
theorem nin_nilL (j : Nat) : nin [] j = j := nin_nil j
theorem smN_nil (xs : List (Int × Int)) : ∀ j, smN xs [] j = 0
  | 0 => rfl
  | j + 1 => by simp [smN, smN_nil xs j]
theorem msI_nil (xs : List (Int × Int)) : MsI xs [] :=
  ⟨List.Pairwise.nil, fun j h => (by cases h), fun j h => (by cases h), (by rw [smN_nil]; rfl), (by rw [nin_nilL]; simp)⟩
theorem ms_facts (xs : List (Int × Int)) (n : Int) : ∀ k out s, MsI xs out → s = n - smS xs out → 0 ≤ s → nin out xs.length < k →
    MsI xs (msF xs k out s) ∧ smS xs (msF xs k out s) ≤ n ∧ ∀ i, i < xs.length → (msF xs k out s).contains (i : Int) = false → n < smS xs (msF xs k out s) + px xs i
  | 0, out, s, h, hs, h0, hk => absurd hk (Nat.not_lt_zero _)
  | k + 1, out, s, h, hs, h0, hk => by
    have hb := bst_bd xs out xs.length
    obtain ⟨m1, m2⟩ := bstT_min xs out xs.length
    unfold msF
    by_cases q : bst xs out xs.length < 0 ∨ s < px xs (bst xs out xs.length).toNat
    · rw [if_pos q]
      refine ⟨h, by omega, fun i hi hci => ?_⟩
      rcases q with q | q
      · have := m1 q i hi; rw [hci] at this; cases this
      · by_cases q0 : bst xs out xs.length < 0
        · have := m1 q0 i hi; rw [hci] at this; cases this
        · have := m2 (by omega) i hi hci; omega
    · rw [if_neg q]
      have q0 : 0 ≤ bst xs out xs.length := by omega
      obtain ⟨b, hbe⟩ : ∃ b : Nat, bst xs out xs.length = (b : Int) := ⟨(bst xs out xs.length).toNat, by omega⟩
      have hnew := bst_new xs out xs.length q0
      have hm := m2 q0
      rw [hbe] at hnew hm q hb ⊢
      simp only [Int.toNat_natCast] at hm q ⊢
      have hbx : b < xs.length := by omega
      have nb : (b : Int) ∉ out := fun e => by have := List.contains_iff_mem.2 e; rw [hnew] at this; cases this
      have ns := nin_put out b hnew xs.length
      rw [if_pos hbx] at ns
      have hI : MsI xs (putI out b) := by
        refine ⟨put_inc h.inc nb, fun j hj => ?_, fun j hj i hi hci => ?_, ?_, ?_⟩
        · rcases (mem_put out b j).1 hj with e | e
          · exact h.bd j e
          · subst e; omega
        · rw [put_mem, Bool.or_eq_false_iff, decide_eq_false_iff_not] at hci
          rcases (mem_put out b j).1 hj with e | e
          · exact h.low j e i hi hci.1
          · subst e; simp only [Int.toNat_natCast]; exact hm i hi hci.1
        · rw [smS_put, smN_put xs out b hnew, if_pos hbx, h.sum]; simp; omega
        · rw [put_len]; have := h.len; omega
      exact ms_facts xs n k (putI out b) _ hI (by rw [smS_put]; simp; omega) (by omega) (by omega)
theorem smN_le {xs : List (Int × Int)} {out : List Int} (hp : ∀ i, i < xs.length → 1 ≤ px xs i) : ∀ j, j ≤ xs.length → smN xs out j ≤ sumL xs j ∧ (∀ i, i < j → out.contains (i : Int) = false → smN xs out j + px xs i ≤ sumL xs j)
  | 0, _ => ⟨Int.le_refl _, fun i hi => absurd hi (Nat.not_lt_zero _)⟩
  | j + 1, hj => by
    obtain ⟨h1, h2⟩ := smN_le (out := out) hp j (by omega)
    have := hp j (by omega)
    simp only [smN, sumL]
    refine ⟨by split <;> omega, fun i hi hci => ?_⟩
    by_cases e : i = j
    · subst e; rw [hci]; simp; omega
    · have := h2 i (by omega) hci
      split <;> omega
theorem smN_full {xs : List (Int × Int)} {out : List Int} : ∀ j : Nat, (∀ i : Nat, i < j → out.contains (i : Int) = true) → smN xs out j = sumL xs j
  | 0, _ => rfl
  | j + 1, h => by simp only [smN, sumL]; rw [smN_full j (fun i hi => h i (by omega)), h j (by omega)]; rfl
/-- what the law asks of the trains that are taken -/
structure TmS (xs : List (Int × Int)) (R : List Int) (n : Int) (fits : Bool) (SM : Nat → Int) : Prop where
  len : xs.length ≤ 12
  rl : R.length ≤ 12
  px1 : ∀ i, i < xs.length → 1 ≤ px xs i ∧ px xs i ≤ 1000
  n0 : 0 ≤ n ∧ n ≤ 100000
  bd : ∀ i, i < R.length → 0 ≤ R.getD i 0 ∧ R.getD i 0 < (xs.length : Int)
  inc : ∀ i, i + 1 < R.length → R.getD i 0 < R.getD (i + 1) 0
  s0 : SM 0 = 0
  ss : ∀ i, i < R.length → SM (i + 1) = SM i + px xs (R.getD i 0).toNat
  sb : ∀ i, i ≤ R.length → 0 ≤ SM i ∧ SM i ≤ 12000
  sle : SM R.length ≤ n
  fit : fits = decide (R.length = xs.length)
  out : ∀ i : Nat, i < xs.length → R.contains (i : Int) = false → n < SM R.length + px xs i
  low : ∀ i : Nat, i < xs.length → R.contains (i : Int) = false → ∀ j, j < R.length → px xs (R.getD j 0).toNat < px xs i ∨ (px xs (R.getD j 0).toNat = px xs i ∧ R.getD j 0 < (i : Int))
theorem getD_memI {xs : List Int} {i : Nat} (h : i < xs.length) : xs.getD i 0 ∈ xs := by
  have : xs.getD i 0 = xs[i] := by simp [List.getD, h]
  rw [this]; exact List.getElem_mem _
theorem smS_take (xs : List (Int × Int)) : ∀ (R : List Int) (i : Nat), i < R.length → smS xs (R.take (i + 1)) = smS xs (R.take i) + px xs (R.getD i 0).toNat
  | [], i, h => absurd h (Nat.not_lt_zero _)
  | x :: r, 0, _ => by simp [smS]
  | x :: r, i + 1, h => by
    have := smS_take xs r i (by simpa using h)
    simp only [List.take_succ_cons, smS]
    rw [this]
    simp [List.getD]
    omega
theorem smS_bd {xs : List (Int × Int)} (hp : ∀ i, i < xs.length → 1 ≤ px xs i ∧ px xs i ≤ 1000) : ∀ (R : List Int), (∀ j ∈ R, 0 ≤ j ∧ j < (xs.length : Int)) → 0 ≤ smS xs R ∧ smS xs R ≤ 1000 * (R.length : Int)
  | [], _ => by simp [smS]
  | x :: r, h => by
    have := smS_bd hp r (fun j hj => h j (List.mem_cons_of_mem _ hj))
    have hx := h x List.mem_cons_self
    have := hp x.toNat (by omega)
    simp only [smS, List.length_cons]; omega
theorem tmS_of {xs : List (Int × Int)} {n : Int} (h : tnS xs n = true) : TmS xs (msR xs n) n (decide (sumL xs xs.length ≤ n)) (fun i => smS xs ((msR xs n).take i)) := by
  have hR : msR xs n = msF xs (xs.length + 1) [] n := by unfold msR; rw [if_pos h]
  unfold tnS at h
  rw [Bool.and_eq_true, Bool.and_eq_true, inB_iff] at h
  obtain ⟨⟨h1, h2⟩, h3⟩ := h
  have w := wyOk_iff.1 h2
  have hp : ∀ i, i < xs.length → 1 ≤ px xs i ∧ px xs i ≤ 1000 := fun i hi => by
    have := tnOk_iff.1 (allT_at h3 hi); omega
  obtain ⟨I, hs, ho⟩ := ms_facts xs n (xs.length + 1) [] n (msI_nil xs) (by simp [smS]) w.1 (by rw [nin_nilL]; omega)
  rw [← hR] at I hs ho
  generalize msR xs n = R at *
  have rl := I.len
  have bdm : ∀ i, i < R.length → 0 ≤ R.getD i 0 ∧ R.getD i 0 < (xs.length : Int) := fun i hi => I.bd _ (getD_memI hi)
  refine ⟨by omega, by omega, hp, w, bdm, fun i hi => ?_, by simp [smS], fun i hi => smS_take xs R i hi, fun i hi => ?_, by simpa using hs, ?_, fun i hi hc => ?_, fun i hi hc j hj => ?_⟩
  · have hx := List.pairwise_iff_getElem.1 I.inc i (i + 1) (by omega) hi (by omega)
    simpa [List.getD, hi, show i < R.length from by omega] using hx
  · have := smS_bd hp (R.take i) (fun j hj => I.bd j (List.mem_of_mem_take hj))
    have hl : (R.take i).length ≤ i := by simp; omega
    omega
  · have e := I.sum
    rw [Bool.eq_iff_iff, decide_eq_true_eq, decide_eq_true_eq]
    constructor
    · intro hle
      have hz : nin R xs.length = 0 := nin_none fun i hi => by
        cases hc : R.contains (i : Int)
        · have a := ho i hi hc
          have b := (smN_le (out := R) (fun i hi => (hp i hi).1) xs.length (Nat.le_refl _)).2 i hi hc
          omega
        · rfl
      omega
    · intro hle
      have hz : nin R xs.length = 0 := by omega
      have := smN_full (xs := xs) (out := R) xs.length (fun i hi => nin_all hz i hi)
      omega
  · have := ho i hi hc
    simpa using this
  · have hm := getD_memI hj
    have b := bdm j hj
    have hne : R.getD j 0 ≠ (i : Int) := fun e => by
      rw [e] at hm
      have := List.contains_iff_mem.2 hm
      rw [hc] at this; cases this
    have := I.low _ hm i hi hc
    omega
/-! the numbers -/
theorem odd_cm {j e : Int} {g : Bool} (h : jyOk j e = true) : cmV j e g % 2 = 1 ∧ 1 ≤ cmV j e g ∧ cmV j e g ≤ 20001 := by
  have b := jyOk_iff.1 h
  have d0 : 0 ≤ j / e := Int.ediv_nonneg (by omega) (by omega)
  have d1 : j / e ≤ j := Int.ediv_le_self _ (by omega)
  have d2 : j % e = 0 → 1 ≤ j / e := fun hz => by
    have := Int.emod_add_mul_ediv j e
    by_cases q : j / e = 0
    · rw [q] at this; simp at this; omega
    · omega
  unfold cmV
  split
  · omega
  · split
    · have := d2 (by assumption); omega
    · omega
theorem other_cm {j e : Int} (h : jyOk j e = true) : cmV j e false ≤ cmV j e true ∧ cmV j e true - cmV j e false ≤ 2 := by
  unfold cmV
  simp only [if_true, Bool.false_eq_true, if_false]
  split <;> omega
theorem last_cm {j e : Int} {g : Bool} (h : jyOk j e = true) : 0 ≤ (cmV j e g - 1) / 2 ∧ e * ((cmV j e g - 1) / 2) ≤ j ∧ (g = false → e * ((cmV j e g - 1) / 2) < j) := by
  have b := jyOk_iff.1 h
  have o := odd_cm (g := g) h
  have d0 : 0 ≤ j / e := Int.ediv_nonneg (by omega) (by omega)
  have m := Int.emod_add_mul_ediv j e
  have m0 := Int.emod_nonneg j (show e ≠ 0 by omega)
  have key : ∀ q : Int, 1 + 2 * q - 1 = 2 * q := fun q => by omega
  have a1 : (1 + 2 * (j / e) - 1) / 2 = j / e := by omega
  have a2 : (1 + 2 * (j / e) - 2 - 1) / 2 = j / e - 1 := by omega
  cases g
  · have e1 : cmV j e false = if j % e = 0 then 1 + 2 * (j / e) - 2 else 1 + 2 * (j / e) := rfl
    by_cases hz : j % e = 0
    · rw [e1, if_pos hz, a2]
      have x : e * (j / e - 1) = e * (j / e) - e := by rw [Int.mul_sub, Int.mul_one]
      rw [e1, if_pos hz] at o
      refine ⟨by omega, by omega, fun _ => by omega⟩
    · rw [e1, if_neg hz, a1]
      refine ⟨d0, by omega, fun _ => by omega⟩
  · have e1 : cmV j e true = 1 + 2 * (j / e) := rfl
    rw [e1, a1]
    exact ⟨d0, by omega, fun q => by cases q⟩
theorem met_bd {j y : Int} (hj : 1 ≤ j) (h0 : 0 ≤ y) (h : y ≤ j) : lwN (j + y) 2 ≤ j * lwD (j + y) 2 ∧ (y < j → lwN (j + y) 2 ≠ j * lwD (j + y) 2) := by
  have c := lw_cross (a := j + y) (b := 2) (by omega)
  have d := lwD_pos (a := j + y) (b := 2) (by omega)
  have e : (j + y) * lwD (j + y) 2 = j * lwD (j + y) 2 + y * lwD (j + y) 2 := Int.add_mul _ _ _
  have m1 : y * lwD (j + y) 2 ≤ j * lwD (j + y) 2 := Int.mul_le_mul_of_nonneg_right h (by omega)
  refine ⟨by omega, fun hlt => ?_⟩
  have m2 : y * lwD (j + y) 2 < j * lwD (j + y) 2 := Int.mul_lt_mul_of_pos_right hlt (by omega)
  omega
end Go.Proofs.Ytolgpjlliaoneaa
