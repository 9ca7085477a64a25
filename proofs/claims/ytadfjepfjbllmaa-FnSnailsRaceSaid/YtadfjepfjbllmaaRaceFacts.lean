/- What the named laws of snails' races want of their calls, by contracts. -/
import Derived.Test.YtadfjepfjbllmaaOneLead
import Derived.Test.YtadfjepfjbllmaaOneWho
import Derived.Test.YtadfjepfjbllmaaOneChg
import Derived.Test.YtadfjepfjbllmaaOneDays
import Derived.Test.YtadfjepfjbllmaaOneRnd
import Derived.Test.YtadfjepfjbllmaaRaceMath
import Derived.WalkKit
import Derived.Lib.Hide
namespace Go.Proofs.Ytadfjepfjbllmaa
open Go.RowKit
set_option linter.unusedVariables false
set_option linter.unusedSimpArgs false
set_option maxRecDepth 100000
def dueF (x y : Int) (p q : Bool) : Int := if p then (if q then (if x < y then 1 else if y < x then 2 else 0) else 1) else (if q then 2 else 0)
theorem evening_at {u d n y : Int} (h1 : snOk u d = true) (h2 : inB n 1 1000000 = true) (h3 : inB y 1 1000000 = true) : ∀ w : World, Calls Try.prog 12 #[.agg #[.int .i64 u, .int .i64 d], .int .i64 n, .int .i64 y] w fun e w' => e = .returned (.tuple #[.int .i64 (low n (far u d y)), .bool true]) ∧ Below w.heap.size w w' := fun w => by
  have := implEveningHeight u d n y w
  rw [h1, h2, h3] at this
  exact this
theorem days_at {u d n : Int} (h1 : snOk u d = true) (h2 : inB n 1 1000000 = true) : ∀ w : World, Calls Try.prog 13 #[.agg #[.int .i64 u, .int .i64 d], .int .i64 n] w fun e w' => e = .returned (.tuple #[.int .i64 (if fd1 u d n then fd0 u d n else 0), .bool (fd1 u d n)]) ∧ Below w.heap.size w w' := fun w => by
  have := implDaysToTop u d n w
  rw [h1, h2] at this
  simpa using this
set_option maxHeartbeats 4000000 in
theorem raceFacts1 (u d v z n y : Int) : ∃ (L W0 C : Int) (ok one : Bool), (∀ w : World, Calls Try.prog 6 #[.agg #[.int .i64 u, .int .i64 d], .agg #[.int .i64 v, .int .i64 z], .int .i64 n, .int .i64 y] w fun e w' => e = .returned (.tuple #[.int .i64 L, .bool ok]) ∧ Below w.heap.size w w') ∧ (∀ w : World, Calls Try.prog 7 #[.agg #[.int .i64 u, .int .i64 d], .agg #[.int .i64 v, .int .i64 z], .int .i64 n, .int .i64 y] w fun e w' => e = .returned (.tuple #[.int .i64 L, .bool ok]) ∧ Below w.heap.size w w') ∧ (∀ w : World, Calls Try.prog 8 #[.agg #[.int .i64 u, .int .i64 d], .agg #[.int .i64 v, .int .i64 z], .int .i64 n] w fun e w' => e = .returned (.tuple #[.int .i64 W0, .bool one]) ∧ Below w.heap.size w w') ∧ (∀ w : World, Calls Try.prog 9 #[.agg #[.int .i64 u, .int .i64 d], .agg #[.int .i64 v, .int .i64 z], .int .i64 n] w fun e w' => e = .returned (.tuple #[.int .i64 W0, .bool one]) ∧ Below w.heap.size w w') ∧ (∀ w : World, Calls Try.prog 10 #[.agg #[.int .i64 u, .int .i64 d], .agg #[.int .i64 v, .int .i64 z], .int .i64 n] w fun e w' => e = .returned (.tuple #[.int .i64 C, .bool one]) ∧ Below w.heap.size w w') ∧ (∀ w : World, Calls Try.prog 11 #[.agg #[.int .i64 u, .int .i64 d], .agg #[.int .i64 v, .int .i64 z], .int .i64 n] w fun e w' => e = .returned (.tuple #[.int .i64 C, .bool one]) ∧ Below w.heap.size w w') ∧ (ok = true → ∃ a b : Int, 0 ≤ a ∧ a ≤ 1000000 ∧ 0 ≤ b ∧ b ≤ 1000000 ∧ L = a - b ∧ (∀ w : World, Calls Try.prog 12 #[.agg #[.int .i64 u, .int .i64 d], .int .i64 n, .int .i64 y] w fun e w' => e = .returned (.tuple #[.int .i64 a, .bool true]) ∧ Below w.heap.size w w') ∧ (∀ w : World, Calls Try.prog 12 #[.agg #[.int .i64 v, .int .i64 z], .int .i64 n, .int .i64 y] w fun e w' => e = .returned (.tuple #[.int .i64 b, .bool true]) ∧ Below w.heap.size w w') ∧ (∀ w : World, Calls Try.prog 6 #[.agg #[.int .i64 v, .int .i64 z], .agg #[.int .i64 u, .int .i64 d], .int .i64 n, .int .i64 y] w fun e w' => e = .returned (.tuple #[.int .i64 (-(a - b)), .bool true]) ∧ Below w.heap.size w w')) ∧ (one = true → ∃ (x y' : Int) (p q : Bool) (W1 : Int), (p || q) = true ∧ W0 = dueF x y' p q ∧ W1 = dueF y' x q p ∧ 0 ≤ C ∧ C ≤ 1 ∧ (∀ w : World, Calls Try.prog 13 #[.agg #[.int .i64 u, .int .i64 d], .int .i64 n] w fun e w' => e = .returned (.tuple #[.int .i64 x, .bool p]) ∧ Below w.heap.size w w') ∧ (∀ w : World, Calls Try.prog 13 #[.agg #[.int .i64 v, .int .i64 z], .int .i64 n] w fun e w' => e = .returned (.tuple #[.int .i64 y', .bool q]) ∧ Below w.heap.size w w') ∧ (∀ w : World, Calls Try.prog 8 #[.agg #[.int .i64 v, .int .i64 z], .agg #[.int .i64 u, .int .i64 d], .int .i64 n] w fun e w' => e = .returned (.tuple #[.int .i64 W1, .bool true]) ∧ Below w.heap.size w w') ∧ (∀ w : World, Calls Try.prog 10 #[.agg #[.int .i64 v, .int .i64 z], .agg #[.int .i64 u, .int .i64 d], .int .i64 n] w fun e w' => e = .returned (.tuple #[.int .i64 C, .bool true]) ∧ Below w.heap.size w w')) := by
  refine ⟨_, _, _, _, _, fun w => implLeadOf u d v z n y w, fun w => specLeadOf u d v z n y w, fun w => implWhoWins u d v z n w, fun w => specWhoWins u d v z n w, fun w => implLeadChanges u d v z n w, fun w => specLeadChanges u d v z n w, ?_, ?_⟩
  · intro hk
    rw [if_pos hk]
    rw [Bool.and_eq_true, Bool.and_eq_true, Bool.and_eq_true] at hk
    obtain ⟨⟨⟨h1, h2⟩, h3⟩, h4⟩ := hk
    have a := climb_bd (u := u) (d := d) (n := n) (y := y) h1 h3 h4
    have b := climb_bd (u := v) (d := z) (n := n) (y := y) h2 h3 h4
    refine ⟨_, _, a.1, a.2, b.1, b.2, rfl, evening_at h1 h3 h4, evening_at h2 h3 h4, fun w => ?_⟩
    have := implLeadOf v z u d n y w
    rw [h1, h2, h3, h4] at this
    rw [show -(low n (far u d y) - low n (far v z y)) = low n (far v z y) - low n (far u d y) from by omega]
    exact this
  · intro hk
    rw [if_pos hk, if_pos hk]
    rw [Bool.and_eq_true, Bool.and_eq_true, Bool.and_eq_true] at hk
    obtain ⟨⟨⟨h1, h2⟩, h3⟩, h4⟩ := hk
    have b := inB_iff.1 h3
    have cs := chg_sym (u := u) (d := d) (v := v) (z := z) (n := n) h1 h2 b.2 (by simpa using h4)
    refine ⟨if fd1 u d n then fd0 u d n else 0, if fd1 v z n then fd0 v z n else 0, fd1 u d n, fd1 v z n, who0 v z u d n, h4, ?_, ?_, cs.2.1, cs.2.2, days_at h1 h3, days_at h2 h3, fun w => ?_, fun w => ?_⟩
    · unfold who0 dueF
      cases fd1 u d n <;> cases fd1 v z n <;> simp
    · unfold who0 dueF
      cases fd1 u d n <;> cases fd1 v z n <;> simp
    · have := implWhoWins v z u d n w
      rw [h1, h2, h3, Bool.or_comm, h4] at this
      exact this
    · have := implLeadChanges v z u d n w
      rw [h1, h2, h3, Bool.or_comm, h4] at this
      rw [← cs.1]
      exact this
set_option maxHeartbeats 4000000 in
theorem raceFacts2 (up nn yy : Int) (a0 : Option Addr) (cap0 : Nat) (xs : List Int) (hl : xs.length ≤ 4611686018427387904) : ∃ (D G : Int) (five seven nine : Bool) (hs : List Int), (∀ w, Rd w a0 xs → Calls Try.prog 15 #[.int .i64 up, .slice a0 xs.length cap0, .int .i64 nn, .int .i64 yy] w (RetS w hs five)) ∧ (∀ w, Rd w a0 xs → Calls Try.prog 16 #[.int .i64 up, .slice a0 xs.length cap0, .int .i64 nn, .int .i64 yy] w (RetS w hs five)) ∧ (hs.length ≤ 1000) ∧ (∀ w : World, Rd w a0 xs → Calls Try.prog 17 #[.int .i64 up, .slice a0 xs.length cap0, .int .i64 nn] w fun e w' => e = .returned (.tuple #[.int .i64 D, .bool seven]) ∧ Below w.heap.size w w') ∧ (∀ w : World, Rd w a0 xs → Calls Try.prog 18 #[.int .i64 up, .slice a0 xs.length cap0, .int .i64 nn] w fun e w' => e = .returned (.tuple #[.int .i64 D, .bool seven]) ∧ Below w.heap.size w w') ∧ (∀ w : World, Rd w a0 xs → Calls Try.prog 19 #[.int .i64 up, .slice a0 xs.length cap0, .int .i64 yy] w fun e w' => e = .returned (.tuple #[.int .i64 G, .bool nine]) ∧ Below w.heap.size w w') ∧ (∀ w : World, Rd w a0 xs → Calls Try.prog 20 #[.int .i64 up, .slice a0 xs.length cap0, .int .i64 yy] w fun e w' => e = .returned (.tuple #[.int .i64 G, .bool nine]) ∧ Below w.heap.size w w') ∧ (five = true → nine = true ∧ ∃ M, HF up nn yy xs hs D seven M G) ∧ (five = true → xs.length = 1 → ∃ T : Int, (seven = true → T = D) ∧ (∀ w : World, Calls Try.prog 12 #[.agg #[.int .i64 up, .int .i64 (xs.getD 0 0)], .int .i64 nn, .int .i64 yy] w fun e w' => e = .returned (.tuple #[.int .i64 (hs.getD (hs.length - 1) 0), .bool true]) ∧ Below w.heap.size w w') ∧ (∀ w : World, Calls Try.prog 13 #[.agg #[.int .i64 up, .int .i64 (xs.getD 0 0)], .int .i64 nn] w fun e w' => e = .returned (.tuple #[.int .i64 T, .bool seven]) ∧ Below w.heap.size w w')) := by
  obtain ⟨D, ok, hA, cDi, cDs⟩ : ∃ (D : Int) (ok : Bool), ((slOk up xs && inB nn 1 1000000) = true → Ans up xs nn D ok) ∧ (∀ w : World, Rd w a0 xs → Calls Try.prog 17 #[.int .i64 up, .slice a0 xs.length cap0, .int .i64 nn] w fun e w' => e = .returned (.tuple #[.int .i64 D, .bool ok]) ∧ Below w.heap.size w w') ∧ (∀ w : World, Rd w a0 xs → Calls Try.prog 18 #[.int .i64 up, .slice a0 xs.length cap0, .int .i64 nn] w fun e w' => e = .returned (.tuple #[.int .i64 D, .bool ok]) ∧ Below w.heap.size w w') := by
    cases hk : slOk up xs && inB nn 1 1000000
    · refine ⟨0, false, fun h => (by cases h), fun w h => (implDays up nn a0 cap0 xs w h hl).mono ?_, fun w h => (specDays up nn a0 cap0 xs w h hl).mono ?_⟩
      · rintro e w' ⟨D, ok, rfl, _, h2, hb⟩
        obtain ⟨rfl, rfl⟩ := h2 hk
        exact ⟨rfl, hb⟩
      · rintro e w' ⟨D, ok, rfl, _, h2, hb⟩
        obtain ⟨rfl, rfl⟩ := h2 hk
        exact ⟨rfl, hb⟩
    · obtain ⟨D, ok, hA⟩ := ans_exists up xs nn
      refine ⟨D, ok, fun _ => hA, fun w h => (implDays up nn a0 cap0 xs w h hl).mono ?_, fun w h => (specDays up nn a0 cap0 xs w h hl).mono ?_⟩
      · rintro e w' ⟨D', ok', rfl, h1, _, hb⟩
        obtain ⟨rfl, rfl⟩ := ans_unique (h1 hk) hA
        exact ⟨rfl, hb⟩
      · rintro e w' ⟨D', ok', rfl, h1, _, hb⟩
        obtain ⟨rfl, rfl⟩ := ans_unique (h1 hk) hA
        exact ⟨rfl, hb⟩
  refine ⟨D, _, _, ok, _, _, fun w h => implHeights up nn yy a0 cap0 xs w h hl, fun w h => specHeights up nn yy a0 cap0 xs w h hl, ?_, cDi, cDs, fun w h => implGreatest up yy a0 cap0 xs w h hl, fun w h => (specGreatest up yy a0 cap0 xs w h hl).mono fun e w' ⟨he, hw⟩ => ⟨he, hw ▸ Below.refl _ _⟩, ?_, ?_⟩
  · split
    · rename_i hk
      rw [Bool.and_eq_true, Bool.and_eq_true, inB_iff, inB_iff] at hk
      rw [evs_length]; omega
    · exact Nat.zero_le _
  · intro hk
    rw [if_pos hk]
    rw [Bool.and_eq_true, Bool.and_eq_true] at hk
    obtain ⟨⟨h1, h2⟩, h3⟩ := hk
    have c := inB_iff.1 h3
    have h4 : inB yy 1 1000000 = true := inB_true (by omega)
    have hF := hf_of h1 h2 h3 (hA (by rw [h1, h2]; rfl))
    rw [h1, h4]
    exact ⟨rfl, _, hF⟩
  · intro hk hx1
    rw [if_pos hk]
    rw [Bool.and_eq_true, Bool.and_eq_true] at hk
    obtain ⟨⟨h1, h2⟩, h3⟩ := hk
    have b := inB_iff.1 h2
    have c := inB_iff.1 h3
    have h4 : inB yy 1 1000000 = true := inB_true (by omega)
    have hA' := hA (by rw [h1, h2]; rfl)
    obtain ⟨x, rfl⟩ : ∃ x, xs = [x] := List.length_eq_one_iff.1 hx1
    have so := one_snOk h1
    have ao := ans_one h1 hA'
    have hl1 : (evs up nn [x] yy.toNat).length = yy.toNat := evs_length _ _ _ _
    refine ⟨if fd1 up x nn then fd0 up x nn else 0, fun q => ?_, fun w => ?_, fun w => ?_⟩
    · have := ao.2 q
      rw [if_pos (ao.1.trans q)]; exact this
    · have e := evening_at (u := up) (d := x) so h2 h4 w
      rw [hl1, evs_getD (show yy.toNat - 1 < yy.toNat by omega), ev_one h1 b.1, show ((yy.toNat - 1 : Nat) : Int) + 1 = yy from by omega]
      exact e
    · have e := days_at (u := up) (d := x) so h2 w
      rw [ao.1] at e ⊢
      exact e
end Go.Proofs.Ytadfjepfjbllmaa
