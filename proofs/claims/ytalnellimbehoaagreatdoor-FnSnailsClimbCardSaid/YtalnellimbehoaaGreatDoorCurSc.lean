/- The draws of chapter 1 that the named law of snails that climb asks for, by contracts: they answer some numbers and one short text; nothing that was there is turned. -/
import Derived.Test.YtalnellimbehoaaGreatDoorProg
import Derived.Test.YtalnellimbehoaaGreatDoorCur
import Derived.Test.YtalnellimbehoaaGreatDoorCurOne
import Derived.Test.YtalnellimbehoaaGreatDoorSpoilt
import Derived.Test.YtalnellimbehoaaGreatDoorTextWalks
import Derived.Test.YtalnellimbehoaaGreatDoorParseWalks
import Derived.Test.YtalnellimbehoaaGreatDoorOneWalks
import Derived.Test.YtalnellimbehoaaGreatDoorTwoWalks
import Derived.WalkKit
import Derived.WalkSpells
import Derived.WalkLawsBesides
import Derived.Lib.Hide
import Derived.Deep.QuietTactic
import Derived.BigQuiet
namespace Go.Proofs.YtalnellimbehoaaGreatDoor
open Go.RowKit
set_option linter.unusedVariables false
set_option linter.unusedSimpArgs false
set_option maxHeartbeats 4000000 in
theorem sureSnail_bd (g : Nat) (a : Option Addr) (n cap : Nat) (B : Int) (w : World) (h : Cu g a n cap B w) (hB : B ≤ 700000000000) :
    Calls Tryz.prog 63 #[.pointer (some ⟨g, 0, none⟩)] w fun e w' => ∃ u d : Int, e = .returned (.agg #[.int .i64 u, .int .i64 d]) ∧ (0 ≤ u ∧ u ≤ 1000 ∧ 0 ≤ d ∧ d ≤ 1000) ∧ Cu g a n cap (B + 6) w' ∧ w.grownBy w' (some g) := by
  go_enter Tryz.func63, Tryz.ntmps63
  go_wp2_with fail
  have b0 : Below w.heap.size w (w.alloc (.cells #[.int .i64 0, .int .i64 0] 25)) := ((Below.refl _ _).alloc (Nat.le_refl _) _)
  have h0 := h.below b0
  have hgl := h.lt
  have hbg : some w.heap.size ≠ some g := fun e => by injection e with e; omega
  refine (one_any 6 g a n cap B _ h0 (by omega)).mono ?_; rintro e w1 ⟨r, rfl, hC1, hg1⟩
  have X1 := (BxF.made w 0 0 25).grown hg1 hbg
  have G1 : w.grownBy w1 (some g) := grown_trans (grown_below b0) hg1
  clear b0 h0 hg1
  cases r
  · go_wp2_with fail
    refine (pick_any 9 g a n cap _ _ hC1 (by omega)).mono ?_; rintro e w2 ⟨u, rfl, u0, u1, hC2, hg2⟩
    go_wp2_with fail
    refine (pick_any (1 + u + 1) g a n cap _ _ hC2 (by omega)).mono ?_; rintro e w3 ⟨d, rfl, d0, d1, hC3, hg3⟩
    have G3 : w1.grownBy w3 (some g) := grown_trans hg2 hg3
    obtain ⟨x1, x2, x3, x4⟩ := X1.grown G3 hbg
    have x40 := x4 0
    have x41 := x4 1
    go_wp2_with fail
    refine bodyPost_ret (v := .agg #[.int .i64 (1 + u), .int .i64 d]) (by simp [results, Tryz.results63, go_sem, x2, x3]) rfl ⟨_, _, rfl, by omega, ?_, ?_⟩
    · exact (hC3.mono (by omega)).grown (set2G _ _ _ _) (fun k hk => by injection hk with hk; omega)
    · exact grown_own (grown_trans G1 G3) (set2G _ _ _ _) (fun k hk => by injection hk with hk; omega)
  · go_wp2_with fail
    refine (amongL [1, 7, 1000] _ (by decide) (by decide) g a n cap _ _ hC1 (by omega)).mono ?_; rintro e w2 ⟨i, hi, rfl, hC2, hg2⟩
    have hu : 0 ≤ [1, 7, 1000].getD i (0 : Int) ∧ [1, 7, 1000].getD i (0 : Int) ≤ 1000 := by
      have : ∀ i, i < 3 → 0 ≤ [1, 7, 1000].getD i (0 : Int) ∧ [1, 7, 1000].getD i (0 : Int) ≤ 1000 := by decide
      exact this i hi
    generalize [1, 7, 1000].getD i (0 : Int) = u at *
    clear hi
    go_wp2_with fail
    refine (amongL [0, 1, 7, 999, 1000] _ (by decide) (by decide) g a n cap _ _ hC2 (by omega)).mono ?_; rintro e w3 ⟨j, hj, rfl, hC3, hg3⟩
    have hd : 0 ≤ [0, 1, 7, 999, 1000].getD j (0 : Int) ∧ [0, 1, 7, 999, 1000].getD j (0 : Int) ≤ 1000 := by
      have : ∀ j, j < 5 → 0 ≤ [0, 1, 7, 999, 1000].getD j (0 : Int) ∧ [0, 1, 7, 999, 1000].getD j (0 : Int) ≤ 1000 := by decide
      exact this j hj
    generalize [0, 1, 7, 999, 1000].getD j (0 : Int) = d at *
    clear hj
    have G3 : w1.grownBy w3 (some g) := grown_trans hg2 hg3
    obtain ⟨x1, x2, x3, x4⟩ := X1.grown G3 hbg
    have x40 := x4 0
    have x41 := x4 1
    go_wp2_with fail
    refine bodyPost_ret (v := .agg #[.int .i64 u, .int .i64 d]) (by simp [results, Tryz.results63, go_sem, x2, x3]) rfl ⟨_, _, rfl, by omega, ?_, ?_⟩
    · exact (hC3.mono (by omega)).grown (set2G _ _ _ _) (fun k hk => by injection hk with hk; omega)
    · exact grown_own (grown_trans G1 G3) (set2G _ _ _ _) (fun k hk => by injection hk with hk; omega)
set_option maxHeartbeats 8000000 in
theorem drawEveningHeight (a : Option Addr) (n cap : Nat) (w : World) (h : RdY w a n) :
    Calls Tryz.prog 34 #[.slice a n cap] w fun e w' => ∃ (u d : Int) (p q : Int), e = .returned (.tuple #[.agg #[.int .i64 u, .int .i64 d], .int .i64 p, .int .i64 q]) ∧ Below w.heap.size w w' := by
  go_enter Tryz.func34, Tryz.ntmps34
  go_wp2_with fail
  generalize hq : World.alloc w _ = w1
  have B1 : Below w.heap.size w w1 := by subst hq; exact Below.alloc (Below.refl _ _) (Nat.le_refl _) _
  have s1 : w1.heap.size = w.heap.size + 1 := by subst hq; simp
  have X0 : BxF w1 w.heap.size 0 0 := by subst hq; exact ⟨by simp, by go_simp, by go_simp, fun o => by go_simp⟩
  clear hq
  have hC := (h.below B1).cu cap 55
  have bc : w1.grownBy (w1.alloc (.cells #[.slice a n cap, .int .i64 0, .int .u64 0] 55)) (some w1.heap.size) := grown_below ((Below.refl _ _).alloc (Nat.le_refl _) _)
  have g0 : some w.heap.size ≠ some w1.heap.size := fun e => by injection e with e; omega
  have X0 := X0.grown bc g0
  rw [← s1]
  have S1 := Lib.hid s1
  clear s1
  refine (snail_any w1.heap.size a n cap 0 _ hC (by omega)).mono ?_; rintro e w2 ⟨u, d, rfl, hC2, hg2⟩
  go_wp2_with fail
  refine (wall_any w1.heap.size a n cap _ _ hC2 (by omega)).mono ?_; rintro e w3 ⟨p, rfl, hC3, hg3⟩
  go_wp2_with fail
  refine (day_any w1.heap.size a n cap _ _ hC3 (by omega)).mono ?_; rintro e w4 ⟨q, rfl, hC4, hg4⟩
  have G5 := grown_trans (grown_trans hg2 hg3) hg4
  have s1 := S1.out
  have G6 := grown_trans bc G5
  have B5 : Below w.heap.size w w4 := B1.grown G6 (by omega) (fun k hk => by injection hk with hk; omega)
  obtain ⟨x1, x2, x3, x4⟩ := X0.grown G5 g0
  have x40 := x4 0
  have x41 := x4 1
  clear s1 hC hC2 hg2 G5 G6 X0 bc g0
  go_wp2_with fail
  refine bodyPost_ret (v := .tuple #[.agg #[.int .i64 u, .int .i64 d], .int .i64 p, .int .i64 q]) (by simp [results, Tryz.results34, go_sem, x2, x3]) rfl ⟨u, d, p, q, rfl, ?_⟩
  exact (B5.setCell (by simp) _).setCell (by simp) _
theorem drawMorningHeight (a : Option Addr) (n cap : Nat) (w : World) (h : RdY w a n) :
    Calls Tryz.prog 5 #[.slice a n cap] w fun e w' => ∃ (u d : Int) (p q : Int), e = .returned (.tuple #[.agg #[.int .i64 u, .int .i64 d], .int .i64 p, .int .i64 q]) ∧ Below w.heap.size w w' := by
  go_enter Tryz.func5, Tryz.ntmps5
  go_wp2_with fail
  have B1 : Below w.heap.size w (w.alloc (.cells #[.int .i64 0, .int .i64 0] 25)) := ((Below.refl _ _).alloc (Nat.le_refl _) _)
  have X0 := BxF.made w 0 0 25
  refine (drawEveningHeight a n cap _ (h.below B1)).mono ?_; rintro e w4 ⟨u, d, p, q, rfl, hb⟩
  have B5 : Below w.heap.size w w4 := B1.trans (hb.mono B1.size)
  obtain ⟨x1, x2, x3, x4⟩ := X0.grown (grown_below (g := none) hb) (fun e => by cases e)
  have x40 := x4 0
  have x41 := x4 1
  clear hb X0 B1
  go_wp2_with fail
  refine bodyPost_ret (v := .tuple #[.agg #[.int .i64 u, .int .i64 d], .int .i64 p, .int .i64 q]) (by simp [results, Tryz.results5, go_sem, x2, x3]) rfl ⟨u, d, p, q, rfl, ?_⟩
  exact (B5.setCell (by simp) _).setCell (by simp) _
theorem leastSc (a b : Int) (w : World) : Calls Tryz.prog 42 #[.int .i64 a, .int .i64 b] w fun e w' => e = .returned (.int .i64 (if a < b then a else b)) ∧ w = w' := by
  by_cases h : a < b
  · go_enter Tryz.func42, Tryz.ntmps42
    go_wp2_with fail
    go_ret
    exact ⟨rfl, rfl⟩
  · go_enter Tryz.func42, Tryz.ntmps42
    go_wp2_with fail
    go_ret
    exact ⟨rfl, rfl⟩
theorem mostSc (a b : Int) (w : World) : Calls Tryz.prog 57 #[.int .i64 a, .int .i64 b] w fun e w' => e = .returned (.int .i64 (if b < a then a else b)) ∧ w = w' := by
  by_cases h : b < a
  · go_enter Tryz.func57, Tryz.ntmps57
    go_wp2_with fail
    go_ret
    exact ⟨rfl, rfl⟩
  · go_enter Tryz.func57, Tryz.ntmps57
    go_wp2_with fail
    go_ret
    exact ⟨rfl, rfl⟩
set_option maxHeartbeats 8000000 in
theorem drawDayOfHeight (a : Option Addr) (n cap : Nat) (w : World) (h : RdY w a n) :
    Calls Tryz.prog 21 #[.slice a n cap] w fun e w' => ∃ (u d : Int) (p q : Int), e = .returned (.tuple #[.agg #[.int .i64 u, .int .i64 d], .int .i64 p, .int .i64 q]) ∧ Below w.heap.size w w' := by
  go_enter Tryz.func21, Tryz.ntmps21
  go_wp2_with fail
  generalize hq : World.alloc w _ = w1
  have B1 : Below w.heap.size w w1 := by subst hq; exact Below.alloc (Below.refl _ _) (Nat.le_refl _) _
  have s1 : w1.heap.size = w.heap.size + 1 := by subst hq; simp
  have X0 : BxF w1 w.heap.size 0 0 := by subst hq; exact ⟨by simp, by go_simp, by go_simp, fun o => by go_simp⟩
  clear hq
  have hC := (h.below B1).cu cap 55
  have bc : w1.grownBy (w1.alloc (.cells #[.slice a n cap, .int .i64 0, .int .u64 0] 55)) (some w1.heap.size) := grown_below ((Below.refl _ _).alloc (Nat.le_refl _) _)
  have g0 : some w.heap.size ≠ some w1.heap.size := fun e => by injection e with e; omega
  have X0 := X0.grown bc g0
  rw [← s1]
  have S1 := Lib.hid s1
  clear s1
  refine (wall_any w1.heap.size a n cap 0 _ hC (by omega)).mono ?_; rintro e w2 ⟨p, rfl, hC2, hg2⟩
  go_wp2_with fail
  refine (snail_any w1.heap.size a n cap _ _ hC2 (by omega)).mono ?_; rintro e w3 ⟨u, d, rfl, hC3, hg3⟩
  go_wp2_with fail
  refine (mostSc _ _ _).mono ?_; rintro e w9 ⟨rfl, rfl⟩
  obtain ⟨A, hA, hA2⟩ : ∃ A, (if p < 1 then (1 : Int) else p) = A ∧ 1 ≤ A := ⟨_, rfl, by split <;> omega⟩
  rw [hA]
  clear hA
  go_wp2_with fail
  refine (leastSc _ _ _).mono ?_; rintro e w9 ⟨rfl, rfl⟩
  obtain ⟨M, hM, hM2⟩ : ∃ M, (if (1000 : Int) < A then (1000 : Int) else A) = M ∧ 1 ≤ M ∧ M ≤ 1000 := ⟨_, rfl, by split <;> omega⟩
  rw [hM]
  clear hM
  go_wp2_with fail
  refine (pick_any (M + 2) w1.heap.size a n cap _ _ hC3 (by omega)).mono ?_; rintro e w5 ⟨x, rfl, x0, x1, hC5, hg5⟩
  go_wp2_with fail
  refine (pick_any 9 w1.heap.size a n cap _ _ hC5 (by omega)).mono ?_; rintro e w4 ⟨y, rfl, y0, y1, hC4, hg4⟩
  have G5 := grown_trans (grown_trans (grown_trans hg2 hg3) hg5) hg4
  have d0 : 0 ≤ y / 8 := Int.ediv_nonneg (by omega) (by omega)
  have d1 : y / 8 ≤ 1 := by omega
  have s1 := S1.out
  have G6 := grown_trans bc G5
  have B5 : Below w.heap.size w w4 := B1.grown G6 (by omega) (fun k hk => by injection hk with hk; omega)
  obtain ⟨z1, z2, z3, z4⟩ := X0.grown G5 g0
  have z40 := z4 0
  have z41 := z4 1
  clear s1 hC hC2 hC3 hC4 hC5 hg2 hg3 hg4 hg5 G5 G6 X0 bc g0
  go_wp2_with fail
  refine bodyPost_ret (v := .tuple #[.agg #[.int .i64 u, .int .i64 d], .int .i64 p, .int .i64 (x - y / 8)]) (by simp [results, Tryz.results21, go_sem, z2, z3]) rfl ⟨u, d, p, _, rfl, ?_⟩
  exact (B5.setCell (by simp) _).setCell (by simp) _
set_option maxHeartbeats 8000000 in
theorem drawSlowestUp (a : Option Addr) (n cap : Nat) (w : World) (h : RdY w a n) :
    Calls Tryz.prog 26 #[.slice a n cap] w fun e w' => ∃ (f p y : Int), e = .returned (.tuple #[.int .i64 f, .int .i64 p, .int .i64 y]) ∧ Below w.heap.size w w' := by
  go_enter Tryz.func26, Tryz.ntmps26
  go_wp2_with fail
  have hC := h.cu cap 55
  have b0 : Below w.heap.size w (w.alloc (.cells #[.slice a n cap, .int .i64 0, .int .u64 0] 55)) := ((Below.refl _ _).alloc (Nat.le_refl _) _)
  have s1 : (w.alloc (.cells #[.slice a n cap, .int .i64 0, .int .u64 0] 55)).heap.size = w.heap.size + 1 := by simp
  generalize World.alloc w (.cells #[.slice a n cap, .int .i64 0, .int .u64 0] 55) = w1 at hC b0 s1 ⊢
  refine (wall_any w.heap.size a n cap _ _ hC (by omega)).mono ?_; rintro e w2 ⟨f, rfl, hC2, hg2⟩
  go_wp2_with fail
  refine (day_any w.heap.size a n cap _ _ hC2 (by omega)).mono ?_; rintro e w3 ⟨p, rfl, hC3, hg3⟩
  go_wp2_with fail
  refine (amongL [0, 1, 2, 3, 5, 1000, 1001, -1] _ (by decide) (by decide) w.heap.size a n cap _ _ hC3 (by omega)).mono ?_; rintro e w4 ⟨i, _, rfl, hC4, hg4⟩
  generalize [0, 1, 2, 3, 5, 1000, 1001, -1].getD i (0 : Int) = y
  have s0 := b0.size
  have B4 : Below w.heap.size w w4 := b0.grown (grown_trans (grown_trans hg2 hg3) hg4) s0 (fun k hk => by injection hk with hk; omega)
  clear hC hC2 hC3 hC4 hg2 hg3 hg4 b0
  go_wp2_with fail
  exact bodyPost_ret (v := .tuple #[.int .i64 f, .int .i64 p, .int .i64 y]) (by simp [results, Tryz.results26, go_sem]) rfl ⟨f, p, y, rfl, B4⟩
set_option maxHeartbeats 8000000 in
theorem drawMostDown (a : Option Addr) (n cap : Nat) (w : World) (h : RdY w a n) :
    Calls Tryz.prog 29 #[.slice a n cap] w fun e w' => ∃ (f p y : Int), e = .returned (.tuple #[.int .i64 f, .int .i64 p, .int .i64 y]) ∧ Below w.heap.size w w' := by
  go_enter Tryz.func29, Tryz.ntmps29
  go_wp2_with fail
  have hC := h.cu cap 55
  have b0 : Below w.heap.size w (w.alloc (.cells #[.slice a n cap, .int .i64 0, .int .u64 0] 55)) := ((Below.refl _ _).alloc (Nat.le_refl _) _)
  have s1 : (w.alloc (.cells #[.slice a n cap, .int .i64 0, .int .u64 0] 55)).heap.size = w.heap.size + 1 := by simp
  generalize World.alloc w (.cells #[.slice a n cap, .int .i64 0, .int .u64 0] 55) = w1 at hC b0 s1 ⊢
  refine (wall_any w.heap.size a n cap _ _ hC (by omega)).mono ?_; rintro e w2 ⟨f, rfl, hC2, hg2⟩
  go_wp2_with fail
  refine (day_any w.heap.size a n cap _ _ hC2 (by omega)).mono ?_; rintro e w3 ⟨p, rfl, hC3, hg3⟩
  go_wp2_with fail
  refine (amongL [1, 2, 3, 5, 9, 1000, 1001, 0] _ (by decide) (by decide) w.heap.size a n cap _ _ hC3 (by omega)).mono ?_; rintro e w4 ⟨i, _, rfl, hC4, hg4⟩
  generalize [1, 2, 3, 5, 9, 1000, 1001, 0].getD i (0 : Int) = y
  have s0 := b0.size
  have B4 : Below w.heap.size w w4 := b0.grown (grown_trans (grown_trans hg2 hg3) hg4) s0 (fun k hk => by injection hk with hk; omega)
  clear hC hC2 hC3 hC4 hg2 hg3 hg4 b0
  go_wp2_with fail
  exact bodyPost_ret (v := .tuple #[.int .i64 f, .int .i64 p, .int .i64 y]) (by simp [results, Tryz.results29, go_sem]) rfl ⟨f, p, y, rfl, B4⟩
set_option maxHeartbeats 8000000 in
theorem drawParseSnail (a : Option Addr) (n cap : Nat) (w : World) (h : RdY w a n) :
    Calls Tryz.prog 32 #[.slice a n cap] w fun e w' => ∃ t : ByteArray, e = .returned (.string t) ∧ t.size ≤ 11 ∧ Below w.heap.size w w' := by
  go_enter Tryz.func32, Tryz.ntmps32
  go_wp2_with fail
  have hC := h.cu cap 55
  have b0 : Below w.heap.size w (w.alloc (.cells #[.slice a n cap, .int .i64 0, .int .u64 0] 55)) := ((Below.refl _ _).alloc (Nat.le_refl _) _)
  have s1 : (w.alloc (.cells #[.slice a n cap, .int .i64 0, .int .u64 0] 55)).heap.size = w.heap.size + 1 := by simp
  generalize World.alloc w (.cells #[.slice a n cap, .int .i64 0, .int .u64 0] 55) = w1 at hC b0 s1 ⊢
  refine (sureSnail_bd w.heap.size a n cap _ _ hC (by omega)).mono ?_; rintro e w2 ⟨u, d, rfl, hud, hC2, hg2⟩
  obtain ⟨U, rfl⟩ := Int.eq_ofNat_of_zero_le (show 0 ≤ u by omega)
  obtain ⟨D, rfl⟩ := Int.eq_ofNat_of_zero_le (show 0 ≤ d by omega)
  have hz := stx_size U D (by omega) (by omega)
  have hT := Lib.hid (fun w => snText_any U D (by omega) (by omega) w)
  generalize stx U D = s at *
  go_wp2_with fail
  refine (hT.out _).mono ?_; rintro e w3 ⟨rfl, hb3⟩
  have hC3 := hC2.below hb3
  have G3 := grown_trans hg2 (grown_below hb3)
  go_wp2_with fail
  refine (one_any 3 w.heap.size a n cap _ _ hC3 (by omega)).mono ?_; rintro e w4 ⟨r, rfl, hC4, hg4⟩
  have s0 := b0.size
  have G4 := grown_trans G3 hg4
  clear hC hC2 hC3 hg2 hb3 G3 hg4
  cases r
  · have B4 : Below w.heap.size w w4 := b0.grown G4 s0 (fun k hk => by injection hk with hk; omega)
    go_wp2_with fail
    exact bodyPost_ret (v := .string s) (by simp [results, Tryz.results32, go_sem]) rfl ⟨s, rfl, by omega, B4⟩
  · go_wp2_with fail
    refine (spoilt_any s _ (by omega) (by decide) (by decide) w.heap.size a n cap _ _ hC4 (by omega)).mono ?_; rintro e w5 ⟨t, rfl, ht, hC5, hg5⟩
    have B5 : Below w.heap.size w w5 := b0.grown (grown_trans G4 hg5) s0 (fun k hk => by injection hk with hk; omega)
    go_wp2_with fail
    exact bodyPost_ret (v := .string t) (by simp [results, Tryz.results32, go_sem]) rfl ⟨t, rfl, by omega, B5⟩
end Go.Proofs.YtalnellimbehoaaGreatDoor
