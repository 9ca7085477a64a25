/- RingPlaces: plain mathematics. -/
import Derived.Test.YtikfblbfodacaaaTwoMathL
import Derived.Test.YtikfblbfodacaaaPut
namespace Go.Proofs.Ytikfblbfodacaaa
open Go.RowKit
set_option linter.unusedVariables false
set_option linter.unusedSimpArgs false
/-- the k-th meeting's place, as a part of the speeds' difference -/
def rgK (m p s q r : Int) (k : Nat) : Int := mo (plN p s (bm m p s q r + (k : Int) * m) (nrr s r)) (m * nrr s r)
def rgPut (xs : List Int) (v : Int) : List Int := if putB xs v then xs else putI xs v
/-- the first j of them, increasing, each once -/
def rgP (K : Nat → Int) : Nat → List Int
  | 0 => []
  | j + 1 => rgPut (rgP K j) (K j)
theorem rput_perm (out : List Int) (v : Int) : (putI out v).Perm (v :: out) := by
  unfold putI
  rw [List.append_assoc]
  have h := @List.perm_middle _ v (out.take (lowI out v)) (out.drop (lowI out v))
  rw [List.take_append_drop] at h
  exact h
theorem rput_cons (x : Int) (t : List Int) (v : Int) : putI (x :: t) v = if x < v then x :: putI t v else v :: x :: t := by
  unfold putI lowI
  by_cases h : x < v
  · rw [if_pos h, List.takeWhile_cons_of_pos (by simpa using h)]; simp
  · rw [if_neg h, List.takeWhile_cons_of_neg (by simpa using h)]; simp
theorem rput_sorted (v : Int) : ∀ out : List Int, out.Pairwise (· < ·) → v ∉ out → (putI out v).Pairwise (· < ·)
  | [], _, _ => by simp [putI]
  | x :: t, hp, hc => by
    rw [rput_cons]
    rw [List.pairwise_cons] at hp
    have hx : x ≠ v ∧ v ∉ t := by
      rw [List.mem_cons, not_or] at hc
      exact ⟨fun e => hc.1 e.symm, hc.2⟩
    split
    · rename_i h
      rw [List.pairwise_cons]
      refine ⟨fun a ha => ?_, rput_sorted v t hp.2 hx.2⟩
      rcases List.mem_cons.1 ((rput_perm t v).mem_iff.1 ha) with rfl | h2
      · exact h
      · exact hp.1 a h2
    · rename_i h
      have hv : v < x := by omega
      rw [List.pairwise_cons]
      refine ⟨fun a ha => ?_, List.pairwise_cons.2 hp⟩
      rcases List.mem_cons.1 ha with rfl | h2
      · exact hv
      · exact Int.lt_trans hv (hp.1 a h2)
theorem putB_mem {xs : List Int} (hp : xs.Pairwise (· < ·)) (v : Int) : putB xs v = true ↔ v ∈ xs := by
  constructor
  · intro h
    unfold putB at h
    rw [Bool.and_eq_true, decide_eq_true_eq, decide_eq_true_eq] at h
    have e := h.2
    rw [List.getD, List.getElem?_eq_getElem h.1] at e
    simp at e
    rw [← e]; exact List.getElem_mem h.1
  · intro h
    obtain ⟨i, hi, e⟩ := List.getElem_of_mem h
    have ei : xs.getD i 0 = v := by rw [List.getD, List.getElem?_eq_getElem hi]; exact e
    have hlow : lowI xs v = i := low_eq v xs i (by omega) (fun t ht => by
      rw [List.getD, List.getElem?_eq_getElem (by omega), ← e]
      exact (List.pairwise_iff_getElem.1 hp) t i (by omega) hi ht) (fun _ => by rw [ei]; exact Int.le_refl _)
    unfold putB
    rw [hlow, ei, decide_eq_true hi, decide_eq_true rfl]; rfl
theorem rgPut_spec {xs : List Int} (hp : xs.Pairwise (· < ·)) (v : Int) : (rgPut xs v).Pairwise (· < ·) ∧ ∀ x, x ∈ rgPut xs v ↔ x ∈ xs ∨ x = v := by
  unfold rgPut
  by_cases h : putB xs v = true
  · rw [if_pos h]
    have hm := (putB_mem hp v).1 h
    exact ⟨hp, fun x => ⟨.inl, fun q => by rcases q with q | rfl; exact q; exact hm⟩⟩
  · rw [if_neg h]
    have hm : v ∉ xs := fun q => h ((putB_mem hp v).2 q)
    refine ⟨rput_sorted v xs hp hm, fun x => ?_⟩
    rw [(rput_perm xs v).mem_iff, List.mem_cons]
    exact ⟨fun q => by rcases q with q | q; exact .inr q; exact .inl q, fun q => by rcases q with q | q; exact .inr q; exact .inl q⟩
theorem rgPut_len (xs : List Int) (v : Int) : (rgPut xs v).length ≤ xs.length + 1 := by
  unfold rgPut
  split
  · omega
  · rw [(rput_perm xs v).length_eq]; simp
theorem rgP_len (K : Nat → Int) : ∀ j, (rgP K j).length ≤ j
  | 0 => by simp [rgP]
  | j + 1 => by
    have := rgP_len K j
    have := rgPut_len (rgP K j) (K j)
    unfold rgP; omega
theorem rgP_spec (K : Nat → Int) : ∀ j, (rgP K j).Pairwise (· < ·) ∧ ∀ x, x ∈ rgP K j ↔ ∃ i, i < j ∧ K i = x
  | 0 => by simp [rgP]
  | j + 1 => by
    obtain ⟨h1, h2⟩ := rgP_spec K j
    obtain ⟨g1, g2⟩ := rgPut_spec h1 (K j)
    refine ⟨g1, fun x => ?_⟩
    show x ∈ rgPut (rgP K j) (K j) ↔ _
    rw [g2, h2]
    constructor
    · rintro (⟨i, hi, e⟩ | e)
      · exact ⟨i, by omega, e⟩
      · exact ⟨j, by omega, e.symm⟩
    · rintro ⟨i, hi, e⟩
      by_cases q : i = j
      · subst q; exact .inr e.symm
      · exact .inl ⟨i, by omega, e⟩
/-- the first j of z, each once where equals stand side by side -/
def cpU (z : Nat → Int) : Nat → List Int
  | 0 => []
  | j + 1 => if j = 0 ∨ z j ≠ z (j - 1) then cpU z j ++ [z j] else cpU z j
theorem cpU_len (z : Nat → Int) : ∀ j, (cpU z j).length ≤ j
  | 0 => by simp [cpU]
  | j + 1 => by
    have := cpU_len z j
    unfold cpU
    split
    · simp; omega
    · omega
theorem cpU_spec {z : Nat → Int} : ∀ {j}, (∀ i, i + 1 < j → z i ≤ z (i + 1)) → (cpU z j).Pairwise (· < ·) ∧ (∀ x, x ∈ cpU z j ↔ ∃ i, i < j ∧ z i = x) ∧ ∀ x, x ∈ cpU z j → x ≤ z (j - 1)
  | 0, _ => by simp [cpU]
  | j + 1, h => by
    obtain ⟨h1, h2, h3⟩ := cpU_spec (j := j) (fun i hi => h i (by omega))
    by_cases q : j = 0 ∨ z j ≠ z (j - 1)
    · have eU : cpU z (j + 1) = cpU z j ++ [z j] := by rw [cpU, if_pos q]
      have hlt : ∀ x, x ∈ cpU z j → x < z j := by
        intro x hx
        have a := h3 x hx
        rcases q with q | q
        · subst q; simp [cpU] at hx
        · have hj : j ≠ 0 := by rintro rfl; simp [cpU] at hx
          have b := h (j - 1) (by omega)
          rw [show j - 1 + 1 = j by omega] at b
          omega
      rw [eU]
      refine ⟨?_, fun x => ?_, fun x hx => ?_⟩
      · rw [List.pairwise_append]
        refine ⟨h1, by simp, fun a ha b hb => ?_⟩
        rw [List.mem_singleton] at hb
        rw [hb]; exact hlt a ha
      · rw [List.mem_append, h2, List.mem_singleton]
        constructor
        · rintro (⟨i, hi, e⟩ | e)
          · exact ⟨i, by omega, e⟩
          · exact ⟨j, by omega, e.symm⟩
        · rintro ⟨i, hi, e⟩
          by_cases q : i = j
          · subst q; exact .inr e.symm
          · exact .inl ⟨i, by omega, e⟩
      · rw [List.mem_append, List.mem_singleton] at hx
        rw [Nat.add_sub_cancel]
        rcases hx with hx | rfl
        · exact Int.le_of_lt (hlt x hx)
        · exact Int.le_refl _
    · have eU : cpU z (j + 1) = cpU z j := by rw [cpU, if_neg q]
      have q1 : j ≠ 0 := fun e => q (.inl e)
      have q2 : z j = z (j - 1) := Classical.byContradiction fun e => q (.inr e)
      rw [eU]
      refine ⟨h1, fun x => ?_, fun x hx => ?_⟩
      · rw [h2]
        constructor
        · rintro ⟨i, hi, e⟩; exact ⟨i, by omega, e⟩
        · rintro ⟨i, hi, e⟩
          by_cases q : i = j
          · subst q; exact ⟨i - 1, by omega, by rw [← q2]; exact e⟩
          · exact ⟨i, by omega, e⟩
      · rw [Nat.add_sub_cancel, q2]; exact h3 x hx
theorem cp_all {K z : Nat → Int} {n : Nat} (hs : ∀ i, i + 1 < n → z i ≤ z (i + 1)) (hm : ∀ x, (∃ i, i < n ∧ z i = x) ↔ ∃ i, i < n ∧ K i = x) : cpU z n = rgP K n := by
  obtain ⟨h1, h2, _⟩ := cpU_spec hs
  obtain ⟨g1, g2⟩ := rgP_spec K n
  have nd : ∀ {l : List Int}, l.Pairwise (· < ·) → l.Nodup := fun h => h.imp fun h => Int.ne_of_lt h
  refine List.Perm.eq_of_pairwise (le := fun a b : Int => a < b) (fun a b _ _ h k => by omega) h1 g1 ?_
  rw [List.perm_ext_iff_of_nodup (nd h1) (nd g1)]
  intro a
  rw [h2, g2, hm]
theorem gc_mo (a : Int) (m n : Int) : gc (mo a (m * n)) n = gc a n := by
  unfold gc mo
  rw [Int.emod_def, Int.mul_comm m n, Int.mul_assoc, Int.gcd_sub_mul_left_left]
/-- a place in lowest terms, brought onto the ring, is the place on the ring in lowest terms -/
theorem low_mo (a : Int) {m n : Int} (hm : 1 ≤ m) (hn : 1 ≤ n) : mo (lwN a n) (m * lwD a n) = lwN (mo a (m * n)) n ∧ lwD a n = lwD (mo a (m * n)) n := by
  have e := gc_mo a m n
  unfold lwN lwD
  rw [e]
  have g1 := gc_pos (a := a) (b := n) (by omega)
  obtain ⟨x, hx⟩ := gc_dvd_l a n
  obtain ⟨y, hy⟩ := gc_dvd_r a n
  generalize gc a n = g at *
  subst hx
  clear e
  have h1 : mo (g * x) (m * n) = g * (x % (m * y)) := by
    unfold mo
    rw [hy, show m * (g * y) = g * (m * y) by simp only [Int.mul_comm, Int.mul_left_comm], Int.mul_emod_mul_of_pos _ _ (by omega)]
  rw [h1, hy]
  rw [Int.mul_tdiv_cancel_left _ (by omega), Int.mul_tdiv_cancel_left _ (by omega), Int.mul_tdiv_cancel_left _ (by omega)]
  exact ⟨rfl, rfl⟩
/-- cross products compare as the places do -/
theorem low_cmp {a b n : Int} (hn : 1 ≤ n) : (lwN a n * lwD b n < lwN b n * lwD a n ↔ a < b) ∧ (lwN a n * lwD b n = lwN b n * lwD a n ↔ a = b) := by
  have ea := lw_cross (a := a) (b := n) (by omega)
  have eb := lw_cross (a := b) (b := n) (by omega)
  have da := (lwD_pos (a := a) (b := n) (by omega)).1
  have db := (lwD_pos (a := b) (b := n) (by omega)).1
  generalize lwN a n = x at *
  generalize lwD a n = c at *
  generalize lwN b n = y at *
  generalize lwD b n = d at *
  have hcd : 0 < c * d := Int.mul_pos (by omega) (by omega)
  have k1 : x * d * n = a * (c * d) := by
    have : x * d * n = x * n * d := by simp only [Int.mul_comm, Int.mul_left_comm]
    rw [this, ea, Int.mul_assoc]
  have k2 : y * c * n = b * (c * d) := by
    have : y * c * n = y * n * c := by simp only [Int.mul_comm, Int.mul_left_comm]
    rw [this, eb, Int.mul_assoc, Int.mul_comm d c]
  have up : ∀ {u v t : Int}, 0 < t → (u * t < v * t ↔ u < v) := fun h => ⟨fun q => Int.lt_of_mul_lt_mul_right q (Int.le_of_lt h), fun q => Int.mul_lt_mul_of_pos_right q h⟩
  have L : x * d < y * c ↔ a < b := by rw [← up (t := n) (by omega), k1, k2, up hcd]
  have R : y * c < x * d ↔ b < a := by rw [← up (t := n) (by omega), k1, k2, up hcd]
  refine ⟨L, ?_⟩
  constructor
  · intro h
    rcases Int.lt_trichotomy a b with q | q | q
    · have := L.2 q; omega
    · exact q
    · have := R.2 q; omega
  · rintro rfl
    rcases Int.lt_trichotomy (x * d) (y * c) with q | q | q
    · have := L.1 q; omega
    · exact q
    · have := R.1 q; omega
/-- the rows that are answered -/
def rgB (m p s q r : Int) : Bool := inB m 1 1000 && wkOk p s && wkOk q r && !decide (s = r)
def rgL (m p s q r : Int) : List (List Int) := (rgP (rgK m p s q r) (nrr s r).toNat).map fun k => [lwN k (nrr s r), lwD k (nrr s r)]
def rgR (m p s q r : Int) : List (List Int) := if rgB m p s q r then rgL m p s q r else []
theorem rgL_len (m p s q r : Int) : (rgL m p s q r).length = (rgP (rgK m p s q r) (nrr s r).toNat).length := by simp [rgL]
theorem rgL_at {m p s q r : Int} {j : Nat} (h : j < (rgP (rgK m p s q r) (nrr s r).toNat).length) : (rgL m p s q r).getD j [] = [lwN ((rgP (rgK m p s q r) (nrr s r).toNat).getD j 0) (nrr s r), lwD ((rgP (rgK m p s q r) (nrr s r).toNat).getD j 0) (nrr s r)] := by
  unfold rgL
  rw [List.getD, List.getElem?_map, List.getD, List.getElem?_eq_getElem h]
  rfl
end Go.Proofs.Ytikfblbfodacaaa
