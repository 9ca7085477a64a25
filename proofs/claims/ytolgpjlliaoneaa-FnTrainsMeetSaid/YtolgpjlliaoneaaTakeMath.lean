/- MostInSiding: the program takes the first ones of the order by length, the model the shortest one again and again: plain mathematics. -/
import Derived.Test.YtolgpjlliaoneaaTrnMost
import Derived.Test.YtolgpjlliaoneaaTwoOrd
namespace Go.Proofs.Ytolgpjlliaoneaa
open Go.RowKit
set_option linter.unusedVariables false
set_option linter.unusedSimpArgs false
/-- the keys: how long each train is -/
def msK (xs : List (Int × Int)) : List (List Int) := xs.map fun p => [p.1]
theorem msK_at {xs : List (Int × Int)} {i : Nat} (h : i < xs.length) : (msK xs).getD i [] = [px xs i] := by
  unfold msK px
  simp [List.getD, List.getElem?_eq_getElem h]
theorem lexB_1 (a b : Int) : lexB [a] [b] = decide (a < b) := by
  unfold lexB lexB
  split
  · rename_i h; subst h; simp
  · rfl
/-- which of two is taken first -/
def bef (xs : List (Int × Int)) (i j : Nat) : Prop := px xs i < px xs j ∨ (px xs i = px xs j ∧ i < j)
theorem bef_trans {xs : List (Int × Int)} {i j k : Nat} (h : bef xs i j) (g : bef xs j k) : bef xs i k := by
  unfold bef at *; omega
theorem bef_irr {xs : List (Int × Int)} {i j : Nat} (h : bef xs i j) (g : bef xs j i) : False := by
  unfold bef at *; omega
theorem insAt_spec (ks : List (List Int)) (key : List Int) (out : List Nat) : ∀ m, (∀ i, insAt ks key out m ≤ i → i < m → lexB key (ks.getD (out.getD i 0) []) = true) ∧ (0 < insAt ks key out m → lexB key (ks.getD (out.getD (insAt ks key out m - 1) 0) []) = false)
  | 0 => ⟨fun i _ h => absurd h (Nat.not_lt_zero _), fun h => by simp [insAt] at h⟩
  | m + 1 => by
    have ih := insAt_spec ks key out m
    unfold insAt
    cases hc : lexB key (ks.getD (out.getD m 0) [])
    · simp only [Bool.false_eq_true, if_false]
      exact ⟨fun i h1 h2 => by omega, fun _ => by simpa using hc⟩
    · simp only [if_true]
      refine ⟨fun i h1 h2 => ?_, ih.2⟩
      by_cases q : i = m
      · subst q; exact hc
      · exact ih.1 i h1 (by omega)
theorem getD_mem_take {out : List Nat} {t : Nat} {a : Nat} (h : a ∈ out.take t) : ∃ i, i < t ∧ i < out.length ∧ out.getD i 0 = a := by
  obtain ⟨i, hi, rfl⟩ := List.getElem_of_mem h
  rw [List.length_take] at hi
  refine ⟨i, by omega, by omega, ?_⟩
  rw [List.getElem_take, List.getD, List.getElem?_eq_getElem (by omega)]; rfl
theorem getD_mem_drop {out : List Nat} {t : Nat} {a : Nat} (h : a ∈ out.drop t) : ∃ i, t ≤ i ∧ i < out.length ∧ out.getD i 0 = a := by
  obtain ⟨i, hi, rfl⟩ := List.getElem_of_mem h
  rw [List.length_drop] at hi
  refine ⟨t + i, by omega, by omega, ?_⟩
  rw [List.getElem_drop, List.getD, List.getElem?_eq_getElem (by omega)]; rfl
theorem getD_mem {out : List Nat} {i : Nat} (h : i < out.length) : out.getD i 0 ∈ out := by
  rw [List.getD, List.getElem?_eq_getElem h]; exact List.getElem_mem _
theorem pw_at {xs : List (Int × Int)} {out : List Nat} (hp : out.Pairwise (bef xs)) {i j : Nat} (h : i < j) (hj : j < out.length) : bef xs (out.getD i 0) (out.getD j 0) := by
  have := List.pairwise_iff_getElem.1 hp i j (by omega) hj h
  rw [List.getD, List.getD, List.getElem?_eq_getElem hj, List.getElem?_eq_getElem (show i < out.length by omega)]; exact this
/-- the order of the first ones is one by length, the first one of several first -/
theorem ordK_sorted (xs : List (Int × Int)) : ∀ k, k ≤ xs.length → (ordK (msK xs) k).Pairwise (bef xs) ∧ (ordK (msK xs) k).Perm (List.range k)
  | 0, _ => ⟨List.Pairwise.nil, List.Perm.nil⟩
  | k + 1, hk => by
    obtain ⟨hp, hq⟩ := ordK_sorted xs k (by omega)
    have hlen := ordK_length (msK xs) k
    have hlt := ordK_lt (msK xs) k
    have hs := insAt_spec (msK xs) ((msK xs).getD k []) (ordK (msK xs) k) (ordK (msK xs) k).length
    have hle := insAt_le (msK xs) ((msK xs).getD k []) (ordK (msK xs) k) (ordK (msK xs) k).length
    show ((ordK (msK xs) k).take _ ++ [k] ++ (ordK (msK xs) k).drop _).Pairwise (bef xs) ∧ ((ordK (msK xs) k).take _ ++ [k] ++ (ordK (msK xs) k).drop _).Perm (List.range (k + 1))
    generalize insAt (msK xs) ((msK xs).getD k []) (ordK (msK xs) k) (ordK (msK xs) k).length = t at *
    generalize ordK (msK xs) k = out at *
    rw [msK_at (by omega)] at hs
    have hA : ∀ a ∈ out.take t, bef xs a k := by
      intro a ha
      obtain ⟨i, h1, h2, rfl⟩ := getD_mem_take ha
      have f := hs.2 (by omega)
      have m1 := hlt _ (getD_mem (out := out) (i := t - 1) (by omega))
      have m2 := hlt _ (getD_mem (out := out) (i := i) (by omega))
      rw [msK_at (by omega), lexB_1] at f
      have f2 := of_decide_eq_false f
      by_cases q : i = t - 1
      · rw [q]; rw [q] at m2; unfold bef; omega
      · have := pw_at hp (i := i) (j := t - 1) (by omega) (by omega)
        unfold bef at *; omega
    have hB : ∀ b ∈ out.drop t, bef xs k b := by
      intro b hb
      obtain ⟨i, h1, h2, rfl⟩ := getD_mem_drop hb
      have f := hs.1 i h1 h2
      have m2 := hlt _ (getD_mem (out := out) (i := i) h2)
      rw [msK_at (by omega), lexB_1] at f
      have f2 := of_decide_eq_true f
      unfold bef; omega
    have hsplit : out = out.take t ++ out.drop t := (List.take_append_drop t out).symm
    have hpp : (out.take t ++ out.drop t).Pairwise (bef xs) := by rw [← hsplit]; exact hp
    rw [List.pairwise_append] at hpp
    constructor
    · rw [List.append_assoc, List.pairwise_append]
      refine ⟨hpp.1, List.pairwise_append.2 ⟨List.pairwise_singleton _ _, hpp.2.1, ?_⟩, ?_⟩
      · intro a ha b hb
        rw [List.mem_singleton] at ha; subst ha
        exact hB b hb
      · intro a ha b hb
        rw [List.mem_append, List.mem_singleton] at hb
        rcases hb with rfl | hb
        · exact hA a ha
        · exact hpp.2.2 a ha b hb
    · rw [List.append_assoc, List.range_succ]
      have h1 : (out.take t ++ ([k] ++ out.drop t)).Perm (k :: (out.take t ++ out.drop t)) := List.perm_middle
      rw [← hsplit] at h1
      exact h1.trans ((List.Perm.cons k hq).trans (by
        have : (List.range k ++ [k]).Perm (k :: List.range k) := by
          have := @List.perm_middle _ k (List.range k) []
          rw [List.append_nil] at this; exact this
        exact this.symm))
theorem ordK_nodup (xs : List (Int × Int)) : (ordK (msK xs) xs.length).Nodup := (ordK_sorted xs _ (Nat.le_refl _)).2.nodup_iff.2 List.nodup_range
theorem ordK_mem (xs : List (Int × Int)) (i : Nat) : i ∈ ordK (msK xs) xs.length ↔ i < xs.length := by
  rw [(ordK_sorted xs _ (Nat.le_refl _)).2.mem_iff, List.mem_range]
/-- the shortest one that is left -/
theorem bst_min (xs : List (Int × Int)) (out : List Int) : ∀ m, (bst xs out m = -1 ∧ ∀ i, i < m → out.contains (i : Int) = true) ∨ ∃ b : Nat, b < m ∧ bst xs out m = (b : Int) ∧ out.contains (b : Int) = false ∧ ∀ i, i < m → out.contains (i : Int) = false → b = i ∨ bef xs b i
  | 0 => .inl ⟨rfl, fun i h => absurd h (Nat.not_lt_zero _)⟩
  | m + 1 => by
    have ih := bst_min xs out m
    cases hc : out.contains (m : Int)
    · rcases ih with ⟨h1, h2⟩ | ⟨b, b1, b2, b3, b4⟩
      · right
        refine ⟨m, by omega, bst_yes hc (by unfold btB; rw [h1]; rfl), hc, fun i hi hn => ?_⟩
        by_cases q : i = m
        · exact .inl q.symm
        · rw [h2 i (by omega)] at hn; cases hn
      · right
        by_cases q : px xs m < px xs b
        · refine ⟨m, by omega, bst_yes hc (by unfold btB; rw [b2]; simp [q]), hc, fun i hi hn => ?_⟩
          by_cases e : i = m
          · exact .inl e.symm
          · right
            rcases b4 i (by omega) hn with rfl | h
            · unfold bef; omega
            · unfold bef at *; omega
        · refine ⟨b, by omega, by rw [bst_no (.inr (by unfold btB; rw [b2]; simp; omega)), b2], b3, fun i hi hn => ?_⟩
          by_cases e : i = m
          · subst e; right; unfold bef; omega
          · exact b4 i (by omega) hn
    · rw [bst_no (.inl hc)]
      rcases ih with ⟨h1, h2⟩ | ⟨b, b1, b2, b3, b4⟩
      · left
        refine ⟨h1, fun i hi => ?_⟩
        by_cases q : i = m
        · subst q; exact hc
        · exact h2 i (by omega)
      · right
        refine ⟨b, by omega, b2, b3, fun i hi hn => ?_⟩
        by_cases q : i = m
        · subst q; rw [hc] at hn; cases hn
        · exact b4 i (by omega) hn
/-- the order by length -/
def msO (xs : List (Int × Int)) : List Nat := ordK (msK xs) xs.length
theorem msO_length (xs : List (Int × Int)) : (msO xs).length = xs.length := ordK_length _ _
/-- how long the first ones of the order are -/
def sumO (xs : List (Int × Int)) : Nat → Int
  | 0 => 0
  | j + 1 => sumO xs j + px xs ((msO xs).getD j 0)
theorem msO_take (xs : List (Int × Int)) {j : Nat} (h : j < xs.length) : (msO xs).take (j + 1) = (msO xs).take j ++ [(msO xs).getD j 0] := by
  have hl := msO_length xs
  rw [List.take_add_one, List.getD, List.getElem?_eq_getElem (by omega)]; rfl
theorem msO_fresh (xs : List (Int × Int)) {j : Nat} (h : j < xs.length) : (msO xs).getD j 0 ∉ (msO xs).take j := by
  intro hm
  have hl := msO_length xs
  obtain ⟨i, h1, h2, e⟩ := getD_mem_take hm
  have hp := pw_at (ordK_sorted xs _ (Nat.le_refl _)).1 (i := i) (j := j) h1 (by rw [ordK_length]; omega)
  change bef xs ((msO xs).getD i 0) ((msO xs).getD j 0) at hp
  rw [e] at hp
  exact bef_irr hp hp
theorem put_cons (x : Int) (t : List Int) (v : Int) : putI (x :: t) v = if x < v then x :: putI t v else v :: x :: t := by
  unfold putI lowI
  by_cases h : x < v
  · rw [if_pos h, List.takeWhile_cons_of_pos (by simpa using h)]; simp
  · rw [if_neg h, List.takeWhile_cons_of_neg (by simpa using h)]; simp
theorem put_perm (out : List Int) (v : Int) : (putI out v).Perm (v :: out) := by
  unfold putI
  rw [List.append_assoc]
  have h := @List.perm_middle _ v (out.take (lowI out v)) (out.drop (lowI out v))
  rw [List.take_append_drop] at h
  exact h
theorem put_sorted (v : Int) : ∀ out : List Int, out.Pairwise (· < ·) → out.contains v = false → (putI out v).Pairwise (· < ·)
  | [], _, _ => by simp [putI]
  | x :: t, hp, hc => by
    rw [put_cons]
    rw [List.pairwise_cons] at hp
    have hx : x ≠ v ∧ t.contains v = false := by
      rw [List.contains_cons, Bool.or_eq_false_iff] at hc
      exact ⟨fun e => by rw [e] at hc; simp at hc, hc.2⟩
    split
    · rename_i h
      rw [List.pairwise_cons]
      refine ⟨fun a ha => ?_, put_sorted v t hp.2 hx.2⟩
      rcases List.mem_cons.1 ((put_perm t v).mem_iff.1 ha) with rfl | h2
      · exact h
      · exact hp.1 a h2
    · rename_i h
      have hv : v < x := by omega
      rw [List.pairwise_cons]
      refine ⟨fun a ha => ?_, List.pairwise_cons.2 hp⟩
      rcases List.mem_cons.1 ha with rfl | h2
      · exact hv
      · exact Int.lt_trans hv (hp.1 a h2)
/-- what the model takes: the first ones of the order, increasing -/
theorem msF_take (xs : List (Int × Int)) : ∀ (f j : Nat) (out : List Int) (s : Int), j ≤ xs.length → xs.length - j < f → 0 ≤ s →
    (∀ i : Nat, out.contains (i : Int) = decide (i ∈ (msO xs).take j)) → out.Pairwise (· < ·) → out.Perm (((msO xs).take j).map fun (i : Nat) => (i : Int)) →
    ∃ J, j ≤ J ∧ J ≤ xs.length ∧ (msF xs f out s).Pairwise (· < ·) ∧ (msF xs f out s).Perm (((msO xs).take J).map fun (i : Nat) => (i : Int)) ∧ sumO xs J ≤ s + sumO xs j ∧ (J < xs.length → s + sumO xs j < sumO xs (J + 1))
  | 0, j, out, s, _, hf, _, _, _, _ => absurd hf (Nat.not_lt_zero _)
  | f + 1, j, out, s, hj, hf, hs, hc, hp, hq => by
    have hl := msO_length xs
    unfold msF
    rcases bst_min xs out xs.length with ⟨b1, b2⟩ | ⟨b, b1, b2, b3, b4⟩
    · rw [if_pos (.inl (by rw [b1]; decide))]
      refine ⟨j, Nat.le_refl _, hj, hp, hq, by omega, fun h => ?_⟩
      exfalso
      have hm : (msO xs).getD j 0 < xs.length := (ordK_mem xs _).1 (getD_mem (by rw [ordK_length]; exact h))
      have := b2 _ hm
      rw [hc, decide_eq_true_eq] at this
      exact msO_fresh xs h this
    · have hbm : b ∈ msO xs := (ordK_mem xs b).2 b1
      have hbn : b ∉ (msO xs).take j := by rw [hc, decide_eq_false_iff_not] at b3; exact b3
      have hbd : b ∈ (msO xs).drop j := by
        rw [← List.take_append_drop j (msO xs), List.mem_append] at hbm
        rcases hbm with h | h
        · exact absurd h hbn
        · exact h
      obtain ⟨i, i1, i2, e⟩ := getD_mem_drop hbd
      have hjl : j < xs.length := by omega
      have heq : b = (msO xs).getD j 0 := by
        have hm : (msO xs).getD j 0 < xs.length := (ordK_mem xs _).1 (getD_mem (by rw [ordK_length]; exact hjl))
        have hfr : out.contains (((msO xs).getD j 0 : Nat) : Int) = false := by rw [hc, decide_eq_false_iff_not]; exact msO_fresh xs hjl
        rcases b4 _ hm hfr with h | h
        · exact h
        · exfalso
          by_cases q : i = j
          · rw [q] at e; rw [e] at h; exact bef_irr h h
          · have hp2 := pw_at (ordK_sorted xs _ (Nat.le_refl _)).1 (i := j) (j := i) (by omega) (by rw [ordK_length]; omega)
            change bef xs ((msO xs).getD j 0) ((msO xs).getD i 0) at hp2
            rw [e] at hp2
            exact bef_irr h hp2
      rw [b2]
      have hS : sumO xs (j + 1) = sumO xs j + px xs b := by show sumO xs j + px xs ((msO xs).getD j 0) = _; rw [← heq]
      by_cases hlt : s < px xs b
      · rw [if_pos (.inr (by simpa using hlt))]
        exact ⟨j, Nat.le_refl _, hj, hp, hq, by omega, fun h => by omega⟩
      · rw [if_neg (by rw [Int.toNat_natCast]; omega)]
        have ht : (msO xs).take (j + 1) = (msO xs).take j ++ [b] := by rw [msO_take xs hjl, ← heq]
        obtain ⟨J, j1, j2, j3, j4, j5, j6⟩ := msF_take xs f (j + 1) (putI out (b : Int)) (s - px xs b) (by omega) (by omega) (by omega)
          (fun i => by
            rw [put_mem, hc, ht, Bool.eq_iff_iff]
            simp only [Bool.or_eq_true, decide_eq_true_eq, List.mem_append, List.mem_singleton]
            constructor
            · rintro (h | h)
              · exact .inl h
              · right; omega
            · rintro (h | h)
              · exact .inl h
              · right; omega)
          (put_sorted _ _ hp b3)
          (by
            rw [ht, List.map_append]
            refine (put_perm out (b : Int)).trans ((List.Perm.cons _ hq).trans ?_)
            have := @List.perm_middle _ ((b : Nat) : Int) (((msO xs).take j).map fun (i : Nat) => (i : Int)) []
            rw [List.append_nil] at this
            exact this.symm)
        exact ⟨J, by omega, j2, by simpa using j3, by simpa using j4, by omega, fun h => by have := j6 h; omega⟩
theorem sumO_up {xs : List (Int × Int)} (hpos : ∀ i, i < xs.length → 1 ≤ px xs i) : ∀ {i j : Nat}, i < j → j ≤ xs.length → sumO xs (i + 1) ≤ sumO xs j
  | i, 0, h, _ => absurd h (Nat.not_lt_zero _)
  | i, j + 1, h, hj => by
    by_cases q : i = j
    · subst q; exact Int.le_refl _
    · have := sumO_up hpos (i := i) (j := j) (by omega) (by omega)
      have hm : (msO xs).getD j 0 < xs.length := (ordK_mem xs _).1 (getD_mem (by rw [ordK_length]; omega))
      have := hpos _ hm
      show sumO xs (i + 1) ≤ sumO xs j + px xs _
      omega
/-- the first ones, sorted, is what the model takes -/
theorem take_ms {xs : List (Int × Int)} {n : Int} (hs : tnS xs n = true) {m : Nat} (hm : m ≤ xs.length) (h1 : sumO xs m ≤ n) (h2 : m < xs.length → n < sumO xs (m + 1)) :
    (((ordI (msK xs) xs.length).take m).mergeSort fun x y => decide (x ≤ y)) = msR xs n := by
  have t := tnS_at hs
  have hpos : ∀ i, i < xs.length → 1 ≤ px xs i := fun i hi => (tnOk_iff.1 (t.2.2.2.2 i hi)).1
  obtain ⟨J, j1, j2, j3, j4, j5, j6⟩ := msF_take xs (xs.length + 1) 0 [] n (by omega) (by omega) t.2.2.1 (fun i => by simp) List.Pairwise.nil (by simp)
  have hJ : J = m := by
    rcases Nat.lt_trichotomy J m with q | q | q
    · have a := sumO_up hpos q hm
      have h6 := j6 (by omega)
      have z : sumO xs 0 = 0 := rfl
      omega
    · exact q
    · have a := sumO_up hpos q j2
      have h6 := h2 (by omega)
      have z : sumO xs 0 = 0 := rfl
      omega
  subst hJ
  have e : msR xs n = msF xs (xs.length + 1) [] n := by unfold msR; rw [hs]; rfl
  rw [e]
  have e2 : (ordI (msK xs) xs.length).take J = ((msO xs).take J).map fun (i : Nat) => (i : Int) := by unfold ordI msO; rw [List.map_take]
  rw [e2]
  refine List.Perm.eq_of_pairwise (le := fun (a b : Int) => decide (a ≤ b) = true) ?_ ?_ ?_ ?_
  · intro a b _ _ h1 h2
    have := of_decide_eq_true h1
    have := of_decide_eq_true h2
    omega
  · exact List.pairwise_mergeSort (by intro a b c h1 h2; have := of_decide_eq_true h1; have := of_decide_eq_true h2; exact decide_eq_true (by omega)) (by intro a b; rcases Int.le_total a b with h | h <;> simp [h]) _
  · exact j3.imp (fun h => decide_eq_true (Int.le_of_lt h))
  · exact (List.mergeSort_perm _ _).trans j4.symm
end Go.Proofs.Ytolgpjlliaoneaa
