/- BestRunners and WorstRunners: the model's functions by contracts. -/
import Derived.Test.YtlfjgggidoakaaaLegRunS
import Derived.WalkKit
import Derived.WalkSpells
import Derived.WalkLawsBesides
import Derived.Lib.Hide
import Derived.Deep.LoopGhost
import Derived.Deep.QuietTactic
import Derived.Deep.RegionHeld3
import Derived.BigQuiet
namespace Go.Proofs.Ytlfjgggidoakaaa
open Go.RowKit
set_option linter.unusedVariables false
set_option linter.unusedSimpArgs false
/-- a team: legs and speeds -/
def tmG (ls ss : List Int) : Bool := inB (ls.length : Int) 1 6 && ((ss.length : Int) == (ls.length : Int)) && allB ls 1 1000 && allB ss 1 100
theorem tmG_at {ls ss : List Int} (h : tmG ls ss = true) : 1 ≤ ls.length ∧ ls.length ≤ 6 ∧ ss.length = ls.length ∧ (∀ i, i < ls.length → 1 ≤ ls.getD i 0 ∧ ls.getD i 0 ≤ 1000) ∧ ∀ i, i < ss.length → 1 ≤ ss.getD i 0 ∧ ss.getD i 0 ≤ 100 := by
  unfold tmG at h
  simp only [Bool.and_eq_true] at h
  obtain ⟨⟨⟨a, b⟩, c⟩, d⟩ := h
  have a' := inB_iff.1 a
  have b' : (ss.length : Int) = (ls.length : Int) := by simpa using b
  exact ⟨by omega, by omega, by omega, fun i hi => allB_iff.1 c i hi, fun i hi => allB_iff.1 d i hi⟩
set_option maxHeartbeats 2000000 in
theorem reTeam_any (la sa : Option Addr) (lc sc : Nat) (ls ss : List Int) (w : World) (hL : Rd w la ls) (hS : Rd w sa ss) (hl : ls.length ≤ 1048576) (hs : ss.length ≤ 1048576) :
    Calls Try.prog 34 #[.slice la ls.length lc, .slice sa ss.length sc] w fun e w' => e = .returned (.bool (tmG ls ss)) ∧ w = w' := by
  have hlI : (ls.length : Int) ≤ 1048576 := by omega
  have hsI : (ss.length : Int) ≤ 1048576 := by omega
  have HI := Lib.hid (specIn (ls.length : Int) 1 6)
  have HA := Lib.hid (l1All_any 1 1000 la lc ls w hL (by omega))
  have HB := Lib.hid (l1All_any 1 100 sa sc ss w hS (by omega))
  have HT := Lib.hid (show tmG ls ss = (inB (ls.length : Int) 1 6 && ((ss.length : Int) == (ls.length : Int)) && allB ls 1 1000 && allB ss 1 100) from rfl)
  clear hL hS
  generalize tmG ls ss = R at *
  generalize inB (ls.length : Int) 1 6 = b1 at *
  generalize allB ls 1 1000 = b3 at *
  generalize allB ss 1 100 = b4 at *
  by_cases he : (ss.length : Int) = (ls.length : Int)
  · have heb : ((ss.length : Int) == (ls.length : Int)) = true := by rw [beq_iff_eq]; exact he
    rw [heb] at HT
    have HE := Lib.hid he
    have HR := Lib.hid (show (b1 && true && b3 && b4) = R from HT.out.symm)
    clear HT he
    cases b1 <;> cases b3 <;> cases b4 <;> (
      go_enter Try.func34, Try.ntmps34
      go_wp2_with (first | (go_at_call 41; refine (HI.out _).mono ?_; rintro e w1 ⟨rfl, rfl⟩) | (go_at_call_of 50 (Value.slice la ls.length lc); refine HA.out.mono ?_; rintro e w1 ⟨rfl, rfl⟩) | (go_at_call_of 50 (Value.slice sa ss.length sc); refine HB.out.mono ?_; rintro e w1 ⟨rfl, rfl⟩))
      go_ret
      rw [← HR.out]
      exact ⟨rfl, rfl⟩)
  · have heb : ((ss.length : Int) == (ls.length : Int)) = false := by rw [beq_eq_false_iff_ne]; exact he
    rw [heb] at HT
    have HR := Lib.hid (show false = R by rw [HT.out]; cases b1 <;> rfl)
    clear HT
    cases b1 <;> (
      go_enter Try.func34, Try.ntmps34
      go_wp2_with (first | (go_at_call 41; refine (HI.out _).mono ?_; rintro e w1 ⟨rfl, rfl⟩))
      go_ret
      rw [← HR.out]
      exact ⟨rfl, rfl⟩)
/-- the best order of all -/
def rrA (ls ss : List Int) (least : Bool) : List Int := if tmG ls ss then rrL ls ss least ls.length [] else []
set_option maxHeartbeats 2000000 in
theorem specBestRunners (la sa : Option Addr) (lc sc : Nat) (ls ss : List Int) (w : World) (hL : Rd w la ls) (hS : Rd w sa ss) (hl : ls.length ≤ 1048576) (hs : ss.length ≤ 1048576) :
    Calls Try.prog 16 #[.slice la ls.length lc, .slice sa ss.length sc] w (RetS w (rrA ls ss true) (tmG ls ss)) := by
  have HM := Lib.hid (reTeam_any la sa lc sc ls ss w hL hS hl hs)
  cases ht : tmG ls ss
  · have HR := Lib.hid (show rrA ls ss true = [] by unfold rrA; rw [ht]; rfl)
    rw [ht] at HM
    clear ht
    rw [HR.out]
    go_enter Try.func16, Try.ntmps16
    go_wp2_with fail
    refine HM.out.mono ?_; rintro e w1 ⟨rfl, rfl⟩
    go_wp2_with fail
    go_ret2
    exact ⟨none, 0, rfl, ⟨rfl, .inl ⟨rfl, rfl⟩⟩, Below.refl _ _⟩
  · have HR := Lib.hid (show rrA ls ss true = rrL ls ss true ls.length [] by unfold rrA; rw [ht]; rfl)
    have t := tmG_at ht
    have HC := Lib.hid (reRunners_any la sa lc sc ls ss true t.2.2.2.1 t.2.2.2.2 t.1 t.2.1 t.2.2.1 ls.length [] none 0 w hL hS (.inl ⟨rfl, rfl, rfl⟩) (by simp) (fun i hi => absurd hi (Nat.not_lt_zero _)))
    have HG := Lib.hid (rrL_good (least := true) t.1 t.2.2.1 ls.length [] (by simp) (fun i hi => absurd hi (Nat.not_lt_zero _))).1
    rw [ht] at HM
    clear ht t
    rw [HR.out]
    go_enter Try.func16, Try.ntmps16
    go_wp2_with fail
    refine HM.out.mono ?_; rintro e w1 ⟨rfl, rfl⟩
    go_wp2_with fail
    refine HC.out.mono ?_; rintro e w2 ⟨a2, c2, rfl, ho, hb⟩
    have HX := Lib.hid (And.intro ho hb)
    clear ho hb
    go_wp2_with fail
    go_ret2
    refine ⟨a2, c2, by rw [HG.out]; rfl, ?_, HX.out.2⟩
    unfold Own
    rw [HG.out]
    exact HX.out.1
set_option maxHeartbeats 2000000 in
theorem specWorstRunners (la sa : Option Addr) (lc sc : Nat) (ls ss : List Int) (w : World) (hL : Rd w la ls) (hS : Rd w sa ss) (hl : ls.length ≤ 1048576) (hs : ss.length ≤ 1048576) :
    Calls Try.prog 22 #[.slice la ls.length lc, .slice sa ss.length sc] w (RetS w (rrA ls ss false) (tmG ls ss)) := by
  have HM := Lib.hid (reTeam_any la sa lc sc ls ss w hL hS hl hs)
  cases ht : tmG ls ss
  · have HR := Lib.hid (show rrA ls ss false = [] by unfold rrA; rw [ht]; rfl)
    rw [ht] at HM
    clear ht
    rw [HR.out]
    go_enter Try.func22, Try.ntmps22
    go_wp2_with fail
    refine HM.out.mono ?_; rintro e w1 ⟨rfl, rfl⟩
    go_wp2_with fail
    go_ret2
    exact ⟨none, 0, rfl, ⟨rfl, .inl ⟨rfl, rfl⟩⟩, Below.refl _ _⟩
  · have HR := Lib.hid (show rrA ls ss false = rrL ls ss false ls.length [] by unfold rrA; rw [ht]; rfl)
    have t := tmG_at ht
    have HC := Lib.hid (reRunners_any la sa lc sc ls ss false t.2.2.2.1 t.2.2.2.2 t.1 t.2.1 t.2.2.1 ls.length [] none 0 w hL hS (.inl ⟨rfl, rfl, rfl⟩) (by simp) (fun i hi => absurd hi (Nat.not_lt_zero _)))
    have HG := Lib.hid (rrL_good (least := false) t.1 t.2.2.1 ls.length [] (by simp) (fun i hi => absurd hi (Nat.not_lt_zero _))).1
    rw [ht] at HM
    clear ht t
    rw [HR.out]
    go_enter Try.func22, Try.ntmps22
    go_wp2_with fail
    refine HM.out.mono ?_; rintro e w1 ⟨rfl, rfl⟩
    go_wp2_with fail
    refine HC.out.mono ?_; rintro e w2 ⟨a2, c2, rfl, ho, hb⟩
    have HX := Lib.hid (And.intro ho hb)
    clear ho hb
    go_wp2_with fail
    go_ret2
    refine ⟨a2, c2, by rw [HG.out]; rfl, ?_, HX.out.2⟩
    unfold Own
    rw [HG.out]
    exact HX.out.1
end Go.Proofs.Ytlfjgggidoakaaa
