/- Plain mathematics: rows of times at which nobody is there (chapter 8). -/
import Derived.Test.YtjfmmdblfhgelaaWinMost
import Derived.Test.YtjfmmdblfhgelaaWinPairs
namespace Go.Proofs.Ytjfmmdblfhgelaa
open Go.RowKit
set_option linter.unusedVariables false
/-- nobody is there just before a time -/
def emE (xs : List (Int × Int)) (t : Nat) : Bool := decide (0 < t) && decide (cnI xs ((t : Int) - 1) = 0)
/-- the last row ends at a time -/
def seL (l : List (Int × Int)) (v : Int) : List (Int × Int) := match l.getLast? with
  | none => l
  | some p => l.dropLast ++ [(p.1, v)]
theorem seL_snoc (F : List (Int × Int)) (p : Int × Int) (v : Int) : seL (F ++ [p]) v = F ++ [(p.1, v)] := by simp [seL]
/-- the rows among the first times -/
def emP (xs : List (Int × Int)) : Nat → List (Int × Int)
  | 0 => []
  | t + 1 => if cnI xs (t : Int) = 0 then (if emE xs t then seL (emP xs t) (t : Int) else emP xs t ++ [((t : Int), (t : Int))]) else emP xs t
theorem emP_len (xs : List (Int × Int)) : ∀ t, (emP xs t).length ≤ t
  | 0 => by simp [emP]
  | t + 1 => by
    have ih := emP_len xs t
    simp only [emP]
    split
    · split
      · unfold seL
        split
        · omega
        · rename_i p hp
          have : 0 < (emP xs t).length := by
            cases h : emP xs t
            · rw [h] at hp; simp at hp
            · simp
          simp; omega
      · simp; omega
    · omega
theorem emP_end (xs : List (Int × Int)) : ∀ t : Nat, cnI xs (t : Int) = 0 → ∃ F s, emP xs (t + 1) = F ++ [(s, (t : Int))]
  | 0, h => by
    refine ⟨[], 0, ?_⟩
    simp only [emP, emE]
    rw [if_pos h]; simp
  | t + 1, h => by
    simp only [emP]
    rw [if_pos h]
    by_cases q : emE xs (t + 1) = true
    · rw [if_pos q]
      unfold emE at q
      rw [Bool.and_eq_true, decide_eq_true_iff, decide_eq_true_iff, show (((t + 1 : Nat) : Int) - 1) = (t : Int) by omega] at q
      obtain ⟨F, s, e⟩ := emP_end xs t q.2
      have e' : (if cnI xs (t : Int) = 0 then (if emE xs t then seL (emP xs t) (t : Int) else emP xs t ++ [((t : Int), (t : Int))]) else emP xs t) = F ++ [(s, (t : Int))] := e
      rw [e', seL_snoc]
      exact ⟨F, s, rfl⟩
    · rw [if_neg q]
      exact ⟨_, _, rfl⟩
theorem emP_yes {xs : List (Int × Int)} {t : Nat} (h : emE xs t = true) : ∃ F s, emP xs t = F ++ [(s, (t : Int) - 1)] := by
  unfold emE at h
  rw [Bool.and_eq_true, decide_eq_true_iff, decide_eq_true_iff] at h
  obtain ⟨u, rfl⟩ : ∃ u, t = u + 1 := ⟨t - 1, by omega⟩
  have e : (((u + 1 : Nat) : Int) - 1) = (u : Int) := by omega
  rw [e] at h ⊢
  exact emP_end xs u h.2
theorem emP_lt (xs : List (Int × Int)) : ∀ t : Nat, ∀ p ∈ emP xs t, p.2 < (t : Int)
  | 0, p, h => by simp [emP] at h
  | t + 1, p, h => by
    have ih := emP_lt xs t
    by_cases c : cnI xs (t : Int) = 0
    · by_cases q : emE xs t = true
      · obtain ⟨F, s, e⟩ := emP_yes q
        simp only [emP] at h
        rw [if_pos c, if_pos q, e, seL_snoc] at h
        rw [List.mem_append] at h
        rcases h with h | h
        · have := ih p (by rw [e]; exact List.mem_append_left _ h); omega
        · simp at h; subst h; simp; omega
      · simp only [emP] at h
        rw [if_pos c, if_neg q, List.mem_append] at h
        rcases h with h | h
        · have := ih p h; omega
        · simp at h; subst h; simp; omega
    · simp only [emP] at h
      rw [if_neg c] at h
      have := ih p h; omega
theorem emP_no {xs : List (Int × Int)} {t : Nat} (h : emE xs t = false) : emP xs t = [] ∨ ∃ F s u, emP xs t = F ++ [(s, u)] ∧ u ≠ (t : Int) - 1 := by
  rcases List.eq_nil_or_concat (emP xs t) with e | ⟨F, p, e⟩
  · exact .inl e
  · right
    refine ⟨F, p.1, p.2, by rw [e, List.concat_eq_append], ?_⟩
    intro q
    have t0 : 0 < t := by
      rcases Nat.eq_zero_or_pos t with z | z
      · subst z; simp [emP] at e
      · exact z
    obtain ⟨u, rfl⟩ : ∃ u, t = u + 1 := ⟨t - 1, by omega⟩
    have eu : (((u + 1 : Nat) : Int) - 1) = (u : Int) := by omega
    rw [eu] at q
    have hc : ¬ cnI xs (u : Int) = 0 := fun c => by
      unfold emE at h
      rw [eu, c] at h
      simp at h
    have e2 : emP xs (u + 1) = emP xs u := by simp only [emP]; rw [if_neg hc]
    have := emP_lt xs u p (by rw [← e2, e, List.concat_eq_append]; simp)
    omega
/-- as slices of two -/
def emK (xs : List (Int × Int)) (t : Nat) : List (List Int) := (emP xs t).map fun p => [p.1, p.2]
theorem emK_len (xs : List (Int × Int)) (t : Nat) : (emK xs t).length ≤ t := by unfold emK; rw [List.length_map]; exact emP_len xs t
theorem emK_two (xs : List (Int × Int)) (t : Nat) : ∀ i, i < (emK xs t).length → ((emK xs t).getD i []).length ≤ 1048576 := by
  intro i hi
  unfold emK at hi ⊢
  rw [List.length_map] at hi
  simp [List.getD, List.getElem?_eq_getElem hi]
theorem emK_out {xs : List (Int × Int)} {t : Nat} (h : cnI xs (t : Int) ≠ 0) : emK xs (t + 1) = emK xs t := by unfold emK; simp only [emP]; rw [if_neg h]
theorem emK_app {xs : List (Int × Int)} {t : Nat} (h : cnI xs (t : Int) = 0) (e : emE xs t = false) : emK xs (t + 1) = emK xs t ++ [[(t : Int), (t : Int)]] := by
  unfold emK; simp only [emP]; rw [if_pos h, if_neg (by rw [e]; simp), List.map_append]; rfl
theorem emK_put {xs : List (Int × Int)} {t : Nat} (h : cnI xs (t : Int) = 0) (e : emE xs t = true) : ∃ F s, emK xs t = F ++ [[s, (t : Int) - 1]] ∧ emK xs (t + 1) = F ++ [[s, (t : Int)]] := by
  obtain ⟨F, s, q⟩ := emP_yes e
  refine ⟨F.map fun p => [p.1, p.2], s, ?_, ?_⟩
  · unfold emK; rw [q, List.map_append]; rfl
  · unfold emK; simp only [emP]; rw [if_pos h, if_pos e, q, seL_snoc, List.map_append]; rfl
theorem emK_no {xs : List (Int × Int)} {t : Nat} (h : emE xs t = false) : emK xs t = [] ∨ ∃ F s u, emK xs t = F ++ [[s, u]] ∧ u ≠ (t : Int) - 1 := by
  rcases emP_no h with e | ⟨F, s, u, e, ne⟩
  · left; unfold emK; rw [e]; rfl
  · right
    refine ⟨F.map fun p => [p.1, p.2], s, u, ?_, ne⟩
    unfold emK; rw [e, List.map_append]; rfl
theorem emE_next {xs : List (Int × Int)} {t : Nat} : emE xs (t + 1) = decide (cnI xs (t : Int) = 0) := by
  unfold emE
  rw [show (((t + 1 : Nat) : Int) - 1) = (t : Int) by omega]
  simp
def emB (xs : List (Int × Int)) (u : Int) : Bool := viS xs && inB u 0 1000
def emL (xs : List (Int × Int)) (u : Int) : List (List Int) := if emB xs u then emK xs (u.toNat + 1) else []
theorem emL_len (xs : List (Int × Int)) (u : Int) : (emL xs u).length ≤ 1001 := by
  unfold emL
  split
  · rename_i h
    unfold emB at h
    rw [Bool.and_eq_true, inB_iff] at h
    have := emK_len xs (u.toNat + 1)
    omega
  · simp
theorem emL_two (xs : List (Int × Int)) (u : Int) : ∀ i, i < (emL xs u).length → ((emL xs u).getD i []).length ≤ 1048576 := by
  unfold emL
  split
  · exact emK_two xs _
  · intro i hi; simp at hi
/-- the last row's second number is put -/
theorem RowsX.put {w : World} {base : Nat} {a : Option Addr} {cap j : Nat} {β : Nat → Nat} {F : List (List Int)} {s u : Int} (h : RowsX w base a cap (j + 1) β (F ++ [[s, u]])) (hF : F.length = j) (v : Int) :
    RowsX (w.setCell ⟨β j, 1, none⟩ (.int .i64 v)) base a cap (j + 1) β (F ++ [[s, v]]) := by
  have e1 : (F ++ [[s, u]]).getD j [] = [s, u] := by subst hF; exact snoc_last
  have e2 : (F ++ [[s, v]]).getD j [] = [s, v] := by subst hF; exact snoc_last
  have hj := h.2.1 j (by omega)
  rw [e1] at hj
  unfold Own at hj
  obtain ⟨hst, hg⟩ := World.ownsRow.stored hj 1 (.int .i64 v)
  have hv : valsX β (F ++ [[s, v]]) (j + 1) = valsX β (F ++ [[s, u]]) (j + 1) := by
    unfold valsX
    apply List.map_congr_left
    intro i hi
    have hi := List.mem_range.1 hi
    by_cases q : i = j
    · subst q; rw [e1, e2]; rfl
    · have : (F ++ [[s, v]]).getD i [] = (F ++ [[s, u]]).getD i [] := by rw [← snoc_at (by omega), ← snoc_at (by omega)]
      rw [this]
  refine ⟨by rw [hv]; exact World.ownsRow.kept h.1 hg (own_neX h.1 hj (fun e => int_ne_slice e.symm)), fun i hi => ?_, h.2.2⟩
  by_cases q : i = j
  · subst q
    rw [e2]
    unfold Own
    exact hst
  · have hi' := h.2.1 i hi
    have e3 : (F ++ [[s, v]]).getD i [] = (F ++ [[s, u]]).getD i [] := by rw [← snoc_at (by omega), ← snoc_at (by omega)]
    rw [e3]
    unfold Own at hi' ⊢
    refine World.ownsRow.kept hi' hg (.inr ?_)
    simp only [Value.ownBlock]
    intro e
    have e4 : β i = β j := by simpa using e
    have := h.2.2 i j (by omega) (by omega)
    omega
end Go.Proofs.Ytjfmmdblfhgelaa
