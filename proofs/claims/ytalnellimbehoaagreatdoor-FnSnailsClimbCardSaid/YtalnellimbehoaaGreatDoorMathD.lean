/- Plain mathematics of chapter 1's lead changes: no program is named here. -/
import Derived.Test.YtalnellimbehoaaGreatDoorMathC
namespace Go.Proofs.YtalnellimbehoaaGreatDoor
open Go.RowKit
set_option linter.unusedVariables false

def sg (x : Int) : Int := if 0 < x then 1 else if x < 0 then -1 else 0
def opp (a b : Int) : Int := if a < 0 ∧ 0 < b ∨ 0 < a ∧ b < 0 then 1 else 0
theorem sg_cases (x : Int) : (0 < x ∧ sg x = 1) ∨ (x < 0 ∧ sg x = -1) ∨ (x = 0 ∧ sg x = 0) := by
  unfold sg
  by_cases h : 0 < x
  · rw [if_pos h]; omega
  · rw [if_neg h]
    by_cases k : x < 0
    · rw [if_pos k]; omega
    · rw [if_neg k]; omega
theorem opp_cases (a b : Int) : ((a < 0 ∧ 0 < b ∨ 0 < a ∧ b < 0) ∧ opp a b = 1) ∨ (¬ (a < 0 ∧ 0 < b ∨ 0 < a ∧ b < 0) ∧ opp a b = 0) := by
  unfold opp
  by_cases h : a < 0 ∧ 0 < b ∨ 0 < a ∧ b < 0
  · rw [if_pos h]; exact .inl ⟨h, rfl⟩
  · rw [if_neg h]; exact .inr ⟨h, rfl⟩
/-- one evening: how many changes there were, who was higher last; l: who is higher now -/
def stp (s : Int × Int) (l : Int) : Int × Int := if l = 0 then s else (if s.2 ≠ 0 ∧ l ≠ s.2 then s.1 + 1 else s.1, l)
theorem stp_cases (c b l : Int) : (l = 0 ∧ stp (c, b) l = (c, b)) ∨ (l ≠ 0 ∧ b ≠ 0 ∧ l ≠ b ∧ stp (c, b) l = (c + 1, l)) ∨ (l ≠ 0 ∧ (b = 0 ∨ l = b) ∧ stp (c, b) l = (c, l)) := by
  unfold stp
  by_cases h : l = 0
  · rw [if_pos h]; exact .inl ⟨h, rfl⟩
  · rw [if_neg h]
    by_cases k : b ≠ 0 ∧ l ≠ b
    · rw [if_pos k]; exact .inr (.inl ⟨h, k.1, k.2, rfl⟩)
    · rw [if_neg k]; exact .inr (.inr ⟨h, by omega, rfl⟩)
/-- what is known behind evenings of a steady lead: a the first one, x the last one -/
def Inv (a x : Int) (s : Int × Int) : Prop := (x ≠ 0 → s.2 = sg x) ∧ (x = 0 → s.2 = sg a) ∧ s.1 = opp a x
theorem inv_step {a b t : Int} {s : Int × Int} (p1 : 0 < b → 0 ≤ t) (p2 : b < 0 → t ≤ 0) (p3 : b = 0 → t = 0) (p4 : t = 0 ∨ (0 < b → b ≤ t) ∧ (b < 0 → t ≤ b)) (h : Inv a (a + t) s) :
    Inv a (a + t + b) (stp s (sg (a + t + b))) := by
  obtain ⟨c, f⟩ := s
  obtain ⟨h1, h2, h3⟩ := h
  simp only at h1 h2 h3
  have q1 := sg_cases a
  have q2 := sg_cases (a + t)
  have q3 := sg_cases (a + t + b)
  have q4 := opp_cases a (a + t)
  have q5 := opp_cases a (a + t + b)
  have q6 := stp_cases c f (sg (a + t + b))
  unfold Inv
  generalize sg (a + t + b) = l at *
  generalize stp (c, f) l = r at *
  generalize opp a (a + t) = o at *
  generalize opp a (a + t + b) = o' at *
  generalize sg a = sa at *
  generalize sg (a + t) = st at *
  have hf : (a + t ≠ 0 ∧ f = st) ∨ (a + t = 0 ∧ f = sa) := by
    by_cases hx : a + t = 0
    · exact .inr ⟨hx, h2 hx⟩
    · exact .inl ⟨hx, h1 hx⟩
  clear h1 h2
  rcases q6 with ⟨e, rfl⟩ | ⟨e, e2, e3, rfl⟩ | ⟨e, e2, rfl⟩
  · refine ⟨fun _ => ?_, fun _ => ?_, ?_⟩ <;> simp only <;> omega
  · refine ⟨fun _ => rfl, fun _ => ?_, ?_⟩ <;> simp only <;> omega
  · refine ⟨fun _ => rfl, fun _ => ?_, ?_⟩ <;> simp only <;> omega

/-- the lead at the end of a day -/
def lead (u d v z n y : Int) : Int := low n (far u d y) - low n (far v z y)
def runL (u d v z n : Int) : Nat → Int × Int
  | 0 => (0, 0)
  | k + 1 => stp (runL u d v z n k) (sg (lead u d v z n ((k : Int) + 1)))
/-- the day on which the first of both is at the top -/
def endDay (u d v z n : Int) : Int := if fd1 v z n then low (if fd1 u d n then fd0 u d n else 1000000) (fd0 v z n) else fd0 u d n
def chg (u d v z n : Int) : Int := (runL u d v z n (endDay u d v z n).toNat).1
/-- the program's way -/
def chgI (u d v z n e : Int) : Int := opp (lead u d v z n 1) (if lead u d v z n e = 0 ∧ 1 < e then lead u d v z n (e - 1) else lead u d v z n e)

theorem never_far {u d n y : Int} (hs : snOk u d = true) (hf : fd1 u d n = false) : far u d y < n := by
  have s := snOk_iff.1 hs
  have f := fd1_not.1 hf
  unfold far; rw [gain_zero (by omega)]; omega
theorem early_far {u d n y e : Int} (hs : snOk u d = true) (hy : 1 ≤ y) (he : fd1 u d n = true → y < fd0 u d n) : far u d y < n := by
  cases hf : fd1 u d n
  · exact never_far hs hf
  · have s := snOk_iff.1 hs
    have f := fd1_iff.1 hf
    have q := he hf
    by_cases hg : d < u
    · have r := far_reach (h := n) hs hg hy; omega
    · exfalso
      have : fd0 u d n = 1 := by unfold fd0; rw [if_pos (by omega)]
      omega
theorem late_far {u d n y : Int} (hs : snOk u d = true) (hy : 1 ≤ y) (hf : fd1 u d n = true) (he : fd0 u d n ≤ y) : n ≤ far u d y := by
  have s := snOk_iff.1 hs
  have f := fd1_iff.1 hf
  by_cases hg : d < u
  · exact (far_reach hs hg hy).2 he
  · unfold far; rw [gain_zero (by omega)]; omega
theorem end_facts {u d v z n : Int} (hs : snOk u d = true) (ht : snOk v z = true) (hn : n ≤ 1000000) (hor : fd1 u d n = true ∨ fd1 v z n = true) :
    1 ≤ endDay u d v z n ∧ endDay u d v z n ≤ 1000000 ∧ (fd1 u d n = true → endDay u d v z n ≤ fd0 u d n) ∧ (fd1 v z n = true → endDay u d v z n ≤ fd0 v z n) ∧
    (fd1 u d n = true ∧ endDay u d v z n = fd0 u d n ∨ fd1 v z n = true ∧ endDay u d v z n = fd0 v z n) := by
  have a1 := fd0_le (h := n) hs hn
  have a2 := fd0_le (h := n) ht hn
  cases hf : fd1 u d n <;> cases hg : fd1 v z n
  · rw [hf, hg] at hor; simp at hor
  · have p := fd0_pos ht hg
    have hE : endDay u d v z n = fd0 v z n := by
      unfold endDay; rw [hf, hg]
      show low 1000000 (fd0 v z n) = fd0 v z n
      unfold low; split <;> omega
    rw [hE]; exact ⟨p, a2, (fun h => by cases h), fun _ => Int.le_refl _, .inr ⟨rfl, rfl⟩⟩
  · have p := fd0_pos hs hf
    have hE : endDay u d v z n = fd0 u d n := by unfold endDay; rw [hf, hg]; rfl
    rw [hE]; exact ⟨p, a1, fun _ => Int.le_refl _, (fun h => by cases h), .inl ⟨rfl, rfl⟩⟩
  · have p := fd0_pos ht hg
    have q := fd0_pos hs hf
    have hE : endDay u d v z n = low (fd0 u d n) (fd0 v z n) := by unfold endDay; rw [hf, hg]; rfl
    have l := low_bd (fd0 u d n) (fd0 v z n)
    rw [hE]
    refine ⟨by omega, by omega, fun _ => by omega, fun _ => by omega, ?_⟩
    rcases l.2.2 with e | e
    · exact .inl ⟨rfl, e⟩
    · exact .inr ⟨rfl, e⟩
theorem far_affine (u d v z : Int) (k : Nat) : far u d ((k : Int) + 1) - far v z ((k : Int) + 1) = (u - v) + (k : Int) * (gain u d - gain v z) := by
  unfold far
  rw [show ((k : Int) + 1 - 1) = (k : Int) from by omega, Int.mul_sub]; omega
theorem run_inv {u d v z n e : Int} (hs : snOk u d = true) (ht : snOk v z = true) (hu : fd1 u d n = true → e ≤ fd0 u d n) (hv : fd1 v z n = true → e ≤ fd0 v z n) (k : Nat) (hk : (k : Int) + 1 < e) :
    Inv (u - v) ((u - v) + (k : Int) * (gain u d - gain v z)) (runL u d v z n (k + 1)) := by
  have hl : ∀ j : Nat, (j : Int) + 1 < e → lead u d v z n ((j : Int) + 1) = (u - v) + (j : Int) * (gain u d - gain v z) := by
    intro j hj
    have f1 := early_far (e := e) (y := (j : Int) + 1) hs (by omega) (fun h => by have := hu h; omega)
    have f2 := early_far (e := e) (y := (j : Int) + 1) ht (by omega) (fun h => by have := hv h; omega)
    unfold lead; rw [low_lt f1, low_lt f2]; exact far_affine u d v z j
  induction k with
  | zero =>
    have h0 := hl 0 hk
    simp only [runL]
    rw [h0]
    simp only [Int.natCast_zero, Int.zero_mul, Int.add_zero]
    have q1 := sg_cases (u - v)
    have q2 := opp_cases (u - v) (u - v)
    have q6 := stp_cases 0 0 (sg (u - v))
    unfold Inv
    generalize sg (u - v) = l at *
    generalize opp (u - v) (u - v) = o at *
    rcases q6 with ⟨e1, e2⟩ | ⟨e1, e3, e4, e2⟩ | ⟨e1, e3, e2⟩ <;> rw [e2]
    · refine ⟨fun _ => ?_, fun _ => ?_, ?_⟩ <;> simp only <;> omega
    · omega
    · refine ⟨fun _ => rfl, fun _ => rfl, ?_⟩; simp only; omega
  | succ k ih =>
    have hI := ih (by omega)
    have h1 := hl (k + 1) hk
    rw [runL, h1]
    have em : ((k + 1 : Nat) : Int) * (gain u d - gain v z) = (k : Int) * (gain u d - gain v z) + (gain u d - gain v z) := by
      rw [show ((k + 1 : Nat) : Int) = (k : Int) + 1 from by omega, Int.add_mul, Int.one_mul]
    rw [em, ← Int.add_assoc]
    have k0 : (0 : Int) ≤ (k : Int) := by omega
    refine inv_step ?_ ?_ ?_ ?_ hI
    · intro hb; exact Int.mul_nonneg k0 (by omega)
    · intro hb
      have := Int.mul_nonneg k0 (show 0 ≤ -(gain u d - gain v z) by omega)
      rw [Int.mul_neg] at this; omega
    · intro hb; rw [hb, Int.mul_zero]
    · by_cases hk0 : k = 0
      · subst hk0; exact .inl (by simp)
      · refine .inr ⟨fun hb => ?_, fun hb => ?_⟩
        · have := Int.mul_le_mul_of_nonneg_right (show (1 : Int) ≤ (k : Int) by omega) (show 0 ≤ gain u d - gain v z by omega)
          omega
        · have := Int.mul_le_mul_of_nonneg_right (show (1 : Int) ≤ (k : Int) by omega) (show 0 ≤ -(gain u d - gain v z) by omega)
          rw [Int.mul_neg, Int.mul_neg] at this; omega
theorem lead_end {u d v z n e : Int} (hs : snOk u d = true) (ht : snOk v z = true) (he : 1 ≤ e)
    (hu : fd1 u d n = true → e ≤ fd0 u d n) (hv : fd1 v z n = true → e ≤ fd0 v z n) (hor : fd1 u d n = true ∧ e = fd0 u d n ∨ fd1 v z n = true ∧ e = fd0 v z n) :
    lead u d v z n e = 0 ∨ (0 < lead u d v z n e ∧ 0 < far u d e - far v z e) ∨ (lead u d v z n e < 0 ∧ far u d e - far v z e < 0) := by
  unfold lead
  by_cases h1 : n ≤ far u d e <;> by_cases h2 : n ≤ far v z e
  · rw [low_ge h1, low_ge h2]; omega
  · rw [low_ge h1, low_lt (by omega)]; omega
  · rw [low_ge h2, low_lt (by omega)]; omega
  · exfalso
    rcases hor with ⟨f, g⟩ | ⟨f, g⟩
    · exact h1 (late_far hs he f (by omega))
    · exact h2 (late_far ht he f (by omega))
theorem chg_eq {u d v z n : Int} (hs : snOk u d = true) (ht : snOk v z = true) (hn : n ≤ 1000000) (hor : fd1 u d n = true ∨ fd1 v z n = true) :
    chg u d v z n = chgI u d v z n (endDay u d v z n) := by
  obtain ⟨e1, e2, hu, hv, hx⟩ := end_facts hs ht hn hor
  have hl := lead_end hs ht e1 hu hv hx
  unfold chg chgI
  generalize endDay u d v z n = e at *
  obtain ⟨k, rfl⟩ : ∃ k : Nat, e = (k : Int) + 1 := ⟨(e - 1).toNat, by omega⟩
  rw [show ((k : Int) + 1).toNat = k + 1 from by omega, runL]
  cases k with
  | zero =>
    simp only [runL, Int.natCast_zero, Int.zero_add, Int.lt_irrefl, and_false, if_false]
    have q2 := opp_cases (lead u d v z n 1) (lead u d v z n 1)
    have q6 := stp_cases 0 0 (sg (lead u d v z n 1))
    rcases q6 with ⟨a1, a2⟩ | ⟨a1, a3, a4, a2⟩ | ⟨a1, a3, a2⟩ <;> rw [a2] <;> simp only <;> omega
  | succ k =>
    have hI := run_inv hs ht hu hv k (by omega)
    have f1 := early_far (e := ((k + 1 : Nat) : Int) + 1) (n := n) (y := 1) hs (by omega) (fun h => by have := hu h; omega)
    have f2 := early_far (e := ((k + 1 : Nat) : Int) + 1) (n := n) (y := 1) ht (by omega) (fun h => by have := hv h; omega)
    have hA1 : lead u d v z n 1 = u - v := by
      unfold lead; rw [low_lt f1, low_lt f2]; unfold far; omega
    have g1 := early_far (e := ((k + 1 : Nat) : Int) + 1) (n := n) (y := (k : Int) + 1) hs (by omega) (fun h => by have := hu h; omega)
    have g2 := early_far (e := ((k + 1 : Nat) : Int) + 1) (n := n) (y := (k : Int) + 1) ht (by omega) (fun h => by have := hv h; omega)
    have hA2 : lead u d v z n (((k + 1 : Nat) : Int) + 1 - 1) = (u - v) + (k : Int) * (gain u d - gain v z) := by
      rw [show ((k + 1 : Nat) : Int) + 1 - 1 = (k : Int) + 1 from by omega]
      unfold lead; rw [low_lt g1, low_lt g2]; exact far_affine u d v z k
    have hA3 := far_affine u d v z (k + 1)
    have em : ((k + 1 : Nat) : Int) * (gain u d - gain v z) = (k : Int) * (gain u d - gain v z) + (gain u d - gain v z) := by
      rw [show ((k + 1 : Nat) : Int) = (k : Int) + 1 from by omega, Int.add_mul, Int.one_mul]
    rw [em, ← Int.add_assoc] at hA3
    rw [hA3] at hl
    rw [hA1, hA2]
    have k0 : (0 : Int) ≤ (k : Int) := by omega
    have hst : Inv (u - v) ((u - v) + (k : Int) * (gain u d - gain v z) + (gain u d - gain v z)) (stp (runL u d v z n (k + 1)) (sg ((u - v) + (k : Int) * (gain u d - gain v z) + (gain u d - gain v z)))) := by
      refine inv_step ?_ ?_ ?_ ?_ hI
      · intro hb; exact Int.mul_nonneg k0 (by omega)
      · intro hb
        have := Int.mul_nonneg k0 (show 0 ≤ -(gain u d - gain v z) by omega)
        rw [Int.mul_neg] at this; omega
      · intro hb; rw [hb, Int.mul_zero]
      · by_cases hk0 : k = 0
        · subst hk0; exact .inl (by simp)
        · refine .inr ⟨fun hb => ?_, fun hb => ?_⟩
          · have := Int.mul_le_mul_of_nonneg_right (show (1 : Int) ≤ (k : Int) by omega) (show 0 ≤ gain u d - gain v z by omega)
            omega
          · have := Int.mul_le_mul_of_nonneg_right (show (1 : Int) ≤ (k : Int) by omega) (show 0 ≤ -(gain u d - gain v z) by omega)
            rw [Int.mul_neg, Int.mul_neg] at this; omega
    generalize runL u d v z n (k + 1) = st at *
    generalize (u - v) + (k : Int) * (gain u d - gain v z) = x at *
    generalize gain u d - gain v z = b at *
    generalize lead u d v z n (((k + 1 : Nat) : Int) + 1) = L at *
    obtain ⟨c, f⟩ := st
    by_cases hL : L = 0
    · rw [if_pos ⟨hL, by omega⟩, hL]
      have : stp (c, f) (sg 0) = (c, f) := by unfold sg stp; simp
      rw [this]; exact hI.2.2
    · rw [if_neg (by omega)]
      have hsg : sg L = sg (x + b) := by
        have p1 := sg_cases L
        have p2 := sg_cases (x + b)
        omega
      rw [hsg, hst.2.2]
      have p1 := opp_cases (u - v) (x + b)
      have p2 := opp_cases (u - v) L
      omega
end Go.Proofs.YtalnellimbehoaaGreatDoor
