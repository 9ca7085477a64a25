/- The facts of snails that climb that the named law asks for: plain numbers, and the contracts at them. -/
import Derived.Test.YtalnellimbehoaaGreatDoorOneWalks
import Derived.Test.YtalnellimbehoaaGreatDoorOneMor
import Derived.Test.YtalnellimbehoaaGreatDoorOneSlow
import Derived.Test.YtalnellimbehoaaGreatDoorOneTimes
import Derived.Test.YtalnellimbehoaaGreatDoorTextWalks
import Derived.Test.YtalnellimbehoaaGreatDoorParseWalks
import Derived.Test.YtalnellimbehoaaGreatDoorParse2S
import Derived.Test.YtalnellimbehoaaGreatDoorClimbMath
namespace Go.Proofs.YtalnellimbehoaaGreatDoor
open Go.RowKit
set_option linter.unusedVariables false
set_option linter.unusedSimpArgs false
theorem evening_on {u d n y : Int} (h1 : snOk u d = true) (h2 : inB n 1 1000000 = true) (h3 : inB y 1 1000000 = true) : ∀ w : World, Calls Tryz.prog 8 #[.agg #[.int .i64 u, .int .i64 d], .int .i64 n, .int .i64 y] w fun e w' => e = .returned (.tuple #[.int .i64 (low n (far u d y)), .bool true]) ∧ Below w.heap.size w w' := fun w => by
  have := implEveningHeight u d n y w
  rw [h1, h2, h3] at this
  exact this
theorem days_on {u d n : Int} (h1 : snOk u d = true) (h2 : inB n 1 1000000 = true) : ∀ w : World, Calls Tryz.prog 10 #[.agg #[.int .i64 u, .int .i64 d], .int .i64 n] w fun e w' => e = .returned (.tuple #[.int .i64 (if fd1 u d n then fd0 u d n else 0), .bool (fd1 u d n)]) ∧ Below w.heap.size w w' := fun w => by
  have := implDaysToTop u d n w
  rw [h1, h2] at this
  simpa using this
theorem morning_on {u d n y : Int} (h1 : snOk u d = true) (h2 : inB n 1 1000000 = true) (h3 : inB y 1 1000000 = true) : ∀ w : World, Calls Tryz.prog 6 #[.agg #[.int .i64 u, .int .i64 d], .int .i64 n, .int .i64 y] w fun e w' => e = .returned (.tuple #[.int .i64 (mor u d n y), .bool true]) ∧ Below w.heap.size w w' := fun w => by
  have := implMorningHeight u d n y w
  rw [h1, h2, h3] at this
  exact this
/-- the text of a snail and what is read back -/
theorem scText (u d : Int) : ∃ (T : ByteArray), (∀ w, Lib.TabIs Tryz.prog w "internal/strconv.uint64pow10" .u64 Lib.pow10Tab → Calls Tryz.prog 16 #[.agg #[.int .i64 u, .int .i64 d]] w fun e w' => e = .returned (.tuple #[.string T, .bool (snOk u d)]) ∧ Below w.heap.size w w') ∧ (∀ w : World, Calls Tryz.prog 17 #[.agg #[.int .i64 u, .int .i64 d]] w fun e w' => e = .returned (.tuple #[.string T, .bool (snOk u d)]) ∧ Below w.heap.size w w') ∧
    (snOk u d = true → ∀ w, Env w → Calls Tryz.prog 20 #[.string T] w fun e w' => e = .returned (.tuple #[.agg #[.int .i64 u, .int .i64 d], .bool true]) ∧ Below w.heap.size w w') := by
  refine ⟨sxt u d, fun w ht => implSnailText u d w ht, fun w => specSnailText u d w, fun ok w E => ?_⟩
  have t := snOk_iff.1 ok
  obtain ⟨U, rfl⟩ := Int.eq_ofNat_of_zero_le (show 0 ≤ u by omega)
  obtain ⟨D, rfl⟩ := Int.eq_ofNat_of_zero_le (show 0 ≤ d by omega)
  have e : sxt (U : Int) (D : Int) = stx U D := by unfold sxt; rw [if_pos ok]; simp
  rw [e]
  exact implParse_yes U D ok w E
/-- a snail, a wall and a day -/
theorem scFactsA (u d n y : Int) : ∃ (M E Dy F : Int) (V ok three five seven nine : Bool),
    (∀ w : World, Calls Tryz.prog 6 #[.agg #[.int .i64 u, .int .i64 d], .int .i64 n, .int .i64 y] w fun e w' => e = .returned (.tuple #[.int .i64 M, .bool ok]) ∧ Below w.heap.size w w') ∧ (∀ w : World, Calls Tryz.prog 7 #[.agg #[.int .i64 u, .int .i64 d], .int .i64 n, .int .i64 y] w fun e w' => e = .returned (.tuple #[.int .i64 M, .bool ok]) ∧ Below w.heap.size w w') ∧
    (∀ w : World, Calls Tryz.prog 8 #[.agg #[.int .i64 u, .int .i64 d], .int .i64 n, .int .i64 y] w fun e w' => e = .returned (.tuple #[.int .i64 E, .bool ok]) ∧ Below w.heap.size w w') ∧ (∀ w : World, Calls Tryz.prog 9 #[.agg #[.int .i64 u, .int .i64 d], .int .i64 n, .int .i64 y] w fun e w' => e = .returned (.tuple #[.int .i64 E, .bool ok]) ∧ Below w.heap.size w w') ∧
    (∀ w : World, Calls Tryz.prog 10 #[.agg #[.int .i64 u, .int .i64 d], .int .i64 n] w fun e w' => e = .returned (.tuple #[.int .i64 Dy, .bool three]) ∧ Below w.heap.size w w') ∧ (∀ w : World, Calls Tryz.prog 11 #[.agg #[.int .i64 u, .int .i64 d], .int .i64 n] w fun e w' => e = .returned (.tuple #[.int .i64 Dy, .bool three]) ∧ Below w.heap.size w w') ∧
    (∀ w : World, Calls Tryz.prog 12 #[.agg #[.int .i64 u, .int .i64 d], .int .i64 n] w fun e w' => e = .returned (.tuple #[.bool V, .bool five]) ∧ Below w.heap.size w w') ∧ (∀ w : World, Calls Tryz.prog 13 #[.agg #[.int .i64 u, .int .i64 d], .int .i64 n] w fun e w' => e = .returned (.tuple #[.bool V, .bool five]) ∧ Below w.heap.size w w') ∧
    (∀ w : World, Calls Tryz.prog 14 #[.agg #[.int .i64 u, .int .i64 d], .int .i64 y] w fun e w' => e = .returned (.tuple #[.int .i64 F, .bool seven]) ∧ Below w.heap.size w w') ∧ (∀ w : World, Calls Tryz.prog 15 #[.agg #[.int .i64 u, .int .i64 d], .int .i64 y] w fun e w' => e = .returned (.tuple #[.int .i64 F, .bool seven]) ∧ Below w.heap.size w w') ∧
    (∀ w : World, Calls Tryz.prog 18 #[.agg #[.int .i64 u, .int .i64 d]] w fun e w' => e = .returned (.bool nine) ∧ Below w.heap.size w w') ∧ (∀ w : World, Calls Tryz.prog 19 #[.agg #[.int .i64 u, .int .i64 d]] w fun e w' => e = .returned (.bool nine) ∧ Below w.heap.size w w') ∧
    ((three = true ∧ five = true ∧ V = true) ∨ (three = false ∧ five = true ∧ V = false) ∨ (three = false ∧ five = false ∧ V = false)) ∧ (ok = true → five = true ∧ nine = true) ∧
    (ok = true → (1 ≤ u ∧ u ≤ 1000 ∧ 0 ≤ d ∧ d ≤ 1000 ∧ 1 ≤ n ∧ n ≤ 1000000 ∧ 1 ≤ y ∧ y ≤ 1000000) ∧ (0 ≤ M ∧ M ≤ E ∧ E ≤ n ∧ seven = true ∧ E ≤ F) ∧ (E = n ↔ (three = true ∧ Dy ≤ y)) ∧ (M < n → E ≠ n → E = M + u) ∧
      (y < 1000000 → ∃ N, (∀ w : World, Calls Tryz.prog 6 #[.agg #[.int .i64 u, .int .i64 d], .int .i64 n, .int .i64 (y + 1)] w fun e w' => e = .returned (.tuple #[.int .i64 N, .bool true]) ∧ Below w.heap.size w w') ∧ (E = n → N = n) ∧ (E < n → (N = E - d ∨ N = 0) ∧ E - d ≤ N))) ∧
    (∃ (T : ByteArray), (∀ w, Lib.TabIs Tryz.prog w "internal/strconv.uint64pow10" .u64 Lib.pow10Tab → Calls Tryz.prog 16 #[.agg #[.int .i64 u, .int .i64 d]] w fun e w' => e = .returned (.tuple #[.string T, .bool nine]) ∧ Below w.heap.size w w') ∧ (∀ w : World, Calls Tryz.prog 17 #[.agg #[.int .i64 u, .int .i64 d]] w fun e w' => e = .returned (.tuple #[.string T, .bool nine]) ∧ Below w.heap.size w w') ∧
    (nine = true → ∀ w, Env w → Calls Tryz.prog 20 #[.string T] w fun e w' => e = .returned (.tuple #[.agg #[.int .i64 u, .int .i64 d], .bool true]) ∧ Below w.heap.size w w')) := by
  refine ⟨_, _, _, _, _, _, _, _, _, _, fun w => implMorningHeight u d n y w, fun w => specMorningHeight u d n y w, fun w => implEveningHeight u d n y w, fun w => specEveningHeight u d n y w, fun w => implDaysToTop u d n w, fun w => specDaysToTop u d n w, fun w => implCanClimb u d n w, fun w => specCanClimb u d n w, fun w => implGreatestWall u d y w, fun w => specGreatestWall u d y w, fun w => implIsSnail u d w, fun w => specIsSnail u d w, ?_, fun h => ?_, fun h => ?_, scText u d⟩
  · cases snOk u d && inB n 1 1000000 <;> cases fd1 u d n <;> simp
  · rw [Bool.and_eq_true] at h
    refine ⟨h.1, ?_⟩
    have h1 := h.1
    rw [Bool.and_eq_true] at h1
    exact h1.1
  · have h' := h
    rw [Bool.and_eq_true, Bool.and_eq_true] at h'
    obtain ⟨⟨h1, h2⟩, h3⟩ := h'
    have s := snOk_iff.1 h1
    have b := inB_iff.1 h2
    have c := inB_iff.1 h3
    have k := climb_facts h1 h2 h3
    have m := next_facts h1 h2 h3
    rw [h1, h2, h3]
    simp only [Bool.and_self, Bool.true_and, if_true]
    obtain ⟨k1, k2, k3, k4, k5, k6⟩ := k
    refine ⟨by omega, ⟨k1, k2, k3, by trivial, k4⟩, ?_, k6, fun hy => ⟨_, morning_on h1 h2 (inB_true (by omega)), m.1, m.2⟩⟩
    rw [k5]
    constructor
    · intro ⟨f, g⟩; rw [f]; exact ⟨rfl, by simpa using g⟩
    · intro ⟨f, g⟩; rw [f] at g; exact ⟨f, by simpa using g⟩
/-- the first day of a height and how often it is passed -/
theorem scFactsB (u d n h : Int) : ∃ (P Q : Int) (eleven thirteen : Bool),
    (∀ w : World, Calls Tryz.prog 22 #[.agg #[.int .i64 u, .int .i64 d], .int .i64 n, .int .i64 h] w fun e w' => e = .returned (.tuple #[.int .i64 P, .bool eleven]) ∧ Below w.heap.size w w') ∧ (∀ w : World, Calls Tryz.prog 23 #[.agg #[.int .i64 u, .int .i64 d], .int .i64 n, .int .i64 h] w fun e w' => e = .returned (.tuple #[.int .i64 P, .bool eleven]) ∧ Below w.heap.size w w') ∧
    (∀ w : World, Calls Tryz.prog 24 #[.agg #[.int .i64 u, .int .i64 d], .int .i64 n, .int .i64 h] w fun e w' => e = .returned (.tuple #[.int .i64 Q, .bool thirteen]) ∧ Below w.heap.size w w') ∧ (∀ w : World, Calls Tryz.prog 25 #[.agg #[.int .i64 u, .int .i64 d], .int .i64 n, .int .i64 h] w fun e w' => e = .returned (.tuple #[.int .i64 Q, .bool thirteen]) ∧ Below w.heap.size w w') ∧
    (eleven = true → (1 ≤ P ∧ P ≤ 1000000) ∧ (∃ G, (∀ w : World, Calls Tryz.prog 8 #[.agg #[.int .i64 u, .int .i64 d], .int .i64 n, .int .i64 P] w fun e w' => e = .returned (.tuple #[.int .i64 G, .bool true]) ∧ Below w.heap.size w w') ∧ h ≤ G) ∧ (1 < P → ∃ G, (∀ w : World, Calls Tryz.prog 8 #[.agg #[.int .i64 u, .int .i64 d], .int .i64 n, .int .i64 (P - 1)] w fun e w' => e = .returned (.tuple #[.int .i64 G, .bool true]) ∧ Below w.heap.size w w') ∧ G < h) ∧ (0 < h → thirteen = true → 1 ≤ Q)) ∧
    (thirteen = true → eleven = false → Q = 0) := by
  refine ⟨_, _, _, _, fun w => implDayOfHeight u d n h w, fun w => specDayOfHeight u d n h w, fun w => implTimesPassed u d n h w, fun w => specTimesPassed u d n h w, fun hk => ?_, fun ht he => ?_⟩
  · rw [hk]
    rw [Bool.and_eq_true, Bool.and_eq_true, Bool.and_eq_true] at hk
    obtain ⟨⟨⟨h1, h2⟩, h3⟩, h4⟩ := hk
    obtain ⟨p1, p2, p3, p4⟩ := day_facts h1 h2 h3 h4
    have c := inB_iff.1 h3
    simp only [if_true]
    refine ⟨⟨p1, p2⟩, ⟨_, evening_on h1 h2 (inB_true ⟨p1, p2⟩), p3⟩, fun hp => ⟨_, evening_on h1 h2 (inB_true (by omega)), p4 hp⟩, fun h0 ht => ?_⟩
    rw [h4, Bool.not_true, Bool.false_or, Bool.and_eq_true] at ht
    have h5 := inB_true (n := h) (lo := 1) (hi := n) (by omega)
    rw [h1, h2, h5, h4, ht.2]
    have := times_facts h1 h2 h5 h4 ht.2
    simp only [Bool.and_self, if_true]
    omega
  · rw [if_neg]
    intro q
    rw [Bool.and_eq_true, Bool.and_eq_true, Bool.and_eq_true, Bool.and_eq_true] at q
    obtain ⟨⟨⟨⟨q1, q2⟩, q3⟩, q4⟩, q5⟩ := q
    have c := inB_iff.1 q3
    rw [q1, q2, q4, inB_true (n := h) (lo := 0) (hi := n) (by omega)] at he
    cases he
/-- the slowest snail upwards -/
theorem scFactsC (n y d : Int) : ∃ (S : Int) (ok : Bool), (∀ w : World, Calls Tryz.prog 27 #[.int .i64 n, .int .i64 y, .int .i64 d] w fun e w' => e = .returned (.tuple #[.int .i64 S, .bool ok]) ∧ Below w.heap.size w w') ∧ (∀ w : World, Calls Tryz.prog 28 #[.int .i64 n, .int .i64 y, .int .i64 d] w fun e w' => e = .returned (.tuple #[.int .i64 S, .bool ok]) ∧ Below w.heap.size w w') ∧
    (ok = true → (1 ≤ S ∧ S ≤ 1000) ∧ (∃ t, (∀ w : World, Calls Tryz.prog 10 #[.agg #[.int .i64 S, .int .i64 d], .int .i64 n] w fun e w' => e = .returned (.tuple #[.int .i64 t, .bool true]) ∧ Below w.heap.size w w') ∧ t ≤ y) ∧ (1 < S → ∃ t b, (∀ w : World, Calls Tryz.prog 10 #[.agg #[.int .i64 (S - 1), .int .i64 d], .int .i64 n] w fun e w' => e = .returned (.tuple #[.int .i64 t, .bool b]) ∧ Below w.heap.size w w') ∧ (b = true → y < t))) := by
  refine ⟨_, _, fun w => implSlowestUp n y d w, fun w => specSlowestUp n y d w, fun hk => ?_⟩
  rw [Bool.and_eq_true] at hk
  obtain ⟨hb, hf⟩ := hk
  rw [if_pos hb]
  rw [Bool.and_eq_true, Bool.and_eq_true] at hb
  obtain ⟨⟨h1, h2⟩, h3⟩ := hb
  obtain ⟨f1, f2, f3, f4⟩ := upF_facts 1000 1 hf
  have b2 := inB_iff.1 h2
  have b3 := inB_iff.1 h3
  generalize (upF d n y 1000 1).1 = S at *
  have s1 : snOk S d = true := snOk_iff.2 (by omega)
  obtain ⟨r1, r2⟩ := (reach_facts (n := n) s1 b2.1).1 f3
  refine ⟨by omega, ⟨_, fun w => by have := days_on s1 h1 w; rw [r1] at this; exact this, by simpa using r2⟩, fun hS => ⟨_, _, days_on (snOk_iff.2 (by omega)) h1, fun hb => ?_⟩⟩
  have g := f4 (S - 1) (by omega) (by omega)
  have s2 : snOk (S - 1) d = true := snOk_iff.2 (by omega)
  rw [hb]
  simp only [if_true]
  rcases Int.lt_or_le y (fd0 (S - 1) d n) with q | q
  · exact q
  · have := (reach_facts (n := n) s2 b2.1).2 ⟨hb, q⟩; omega
/-- the greatest slip -/
theorem scFactsD (n y u : Int) : ∃ (S : Int) (ok : Bool), (∀ w : World, Calls Tryz.prog 30 #[.int .i64 n, .int .i64 y, .int .i64 u] w fun e w' => e = .returned (.tuple #[.int .i64 S, .bool ok]) ∧ Below w.heap.size w w') ∧ (∀ w : World, Calls Tryz.prog 31 #[.int .i64 n, .int .i64 y, .int .i64 u] w fun e w' => e = .returned (.tuple #[.int .i64 S, .bool ok]) ∧ Below w.heap.size w w') ∧
    (ok = true → (0 ≤ S ∧ S ≤ 1000) ∧ (∃ t, (∀ w : World, Calls Tryz.prog 10 #[.agg #[.int .i64 u, .int .i64 S], .int .i64 n] w fun e w' => e = .returned (.tuple #[.int .i64 t, .bool true]) ∧ Below w.heap.size w w') ∧ t ≤ y) ∧ (S < 1000 → ∃ t b, (∀ w : World, Calls Tryz.prog 10 #[.agg #[.int .i64 u, .int .i64 (S + 1)], .int .i64 n] w fun e w' => e = .returned (.tuple #[.int .i64 t, .bool b]) ∧ Below w.heap.size w w') ∧ (b = true → y < t))) := by
  refine ⟨_, _, fun w => implMostDown n y u w, fun w => specMostDown n y u w, fun hk => ?_⟩
  rw [Bool.and_eq_true] at hk
  obtain ⟨hb, hf⟩ := hk
  rw [if_pos hb]
  rw [Bool.and_eq_true, Bool.and_eq_true] at hb
  obtain ⟨⟨h1, h2⟩, h3⟩ := hb
  obtain ⟨f1, f2, f3, f4⟩ := dnF_facts 1001 1000 hf
  have b2 := inB_iff.1 h2
  have b3 := inB_iff.1 h3
  generalize (dnF u n y 1001 1000).1 = S at *
  have s1 : snOk u S = true := snOk_iff.2 (by omega)
  obtain ⟨r1, r2⟩ := (reach_facts (n := n) s1 b2.1).1 f3
  refine ⟨by omega, ⟨_, fun w => by have := days_on s1 h1 w; rw [r1] at this; exact this, by simpa using r2⟩, fun hS => ⟨_, _, days_on (snOk_iff.2 (by omega)) h1, fun hb => ?_⟩⟩
  have g := f4 (S + 1) (by omega) (by omega)
  have s2 : snOk u (S + 1) = true := snOk_iff.2 (by omega)
  rw [hb]
  simp only [if_true]
  rcases Int.lt_or_le y (fd0 u (S + 1) n) with q | q
  · exact q
  · have := (reach_facts (n := n) s2 b2.1).2 ⟨hb, q⟩; omega
/-- what is read is told again -/
theorem scFactsE (t : ByteArray) (ht : t.size ≤ 1048576) : ∃ (u d : Int) (ok : Bool), (∀ w : World, Calls Tryz.prog 33 #[.string t] w fun e w' => e = .returned (.tuple #[.agg #[.int .i64 u, .int .i64 d], .bool ok]) ∧ Below w.heap.size w w') ∧ (∀ w, Env w → Calls Tryz.prog 20 #[.string t] w fun e w' => e = .returned (.tuple #[.agg #[.int .i64 u, .int .i64 d], .bool ok]) ∧ Below w.heap.size w w') ∧
    (ok = true → ∀ w, Lib.TabIs Tryz.prog w "internal/strconv.uint64pow10" .u64 Lib.pow10Tab → Calls Tryz.prog 16 #[.agg #[.int .i64 u, .int .i64 d]] w fun e w' => e = .returned (.tuple #[.string t, .bool true]) ∧ Below w.heap.size w w') := by
  by_cases h : ∃ U D : Nat, snOk U D = true ∧ stx U D = t
  · obtain ⟨U, D, ok, rfl⟩ := h
    refine ⟨U, D, true, fun w => specParse_yes U D ok w, fun w E => implParse_yes U D ok w E, fun _ w ht => ?_⟩
    have k := implSnailText U D w ht
    have e : sxt (U : Int) (D : Int) = stx U D := by unfold sxt; rw [if_pos ok]; simp
    rw [e, ok] at k
    exact k
  · have h' : ∀ U D : Nat, snOk U D = true → stx U D ≠ t := fun U D ok e => h ⟨U, D, ok, e⟩
    exact ⟨0, 0, false, fun w => specParse_no t ht h' w, fun w E => implParse_no t ht h' w E, fun h => by cases h⟩
end Go.Proofs.YtalnellimbehoaaGreatDoor
