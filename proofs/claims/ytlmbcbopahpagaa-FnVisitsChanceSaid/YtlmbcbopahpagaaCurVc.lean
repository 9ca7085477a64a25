/- The draws of chapter 8 that the named law of chances asks for, by contracts: they answer some numbers; nothing that was there is turned. -/
import Derived.Test.YtlmbcbopahpagaaProg
import Derived.Test.YtlmbcbopahpagaaCur
import Derived.Test.YtlmbcbopahpagaaCurOne
import Derived.WalkKit
import Derived.WalkSpells
import Derived.WalkLawsBesides
import Derived.Lib.Hide
import Derived.Deep.QuietTactic
import Derived.BigQuiet
namespace Go.Proofs.Ytlmbcbopahpagaa
open Go.RowKit
set_option linter.unusedVariables false
set_option linter.unusedSimpArgs false
theorem leastVc (a b : Int) (w : World) : Calls Try.prog 43 #[.int .i64 a, .int .i64 b] w fun e w' => e = .returned (.int .i64 (if a < b then a else b)) ∧ w = w' := by
  by_cases h : a < b
  · go_enter Try.func43, Try.ntmps43
    go_wp2_with fail
    go_ret
    exact ⟨rfl, rfl⟩
  · go_enter Try.func43, Try.ntmps43
    go_wp2_with fail
    go_ret
    exact ⟨rfl, rfl⟩
theorem mostVc (a b : Int) (w : World) : Calls Try.prog 42 #[.int .i64 a, .int .i64 b] w fun e w' => e = .returned (.int .i64 (if b < a then a else b)) ∧ w = w' := by
  by_cases h : b < a
  · go_enter Try.func42, Try.ntmps42
    go_wp2_with fail
    go_ret
    exact ⟨rfl, rfl⟩
  · go_enter Try.func42, Try.ntmps42
    go_wp2_with fail
    go_ret
    exact ⟨rfl, rfl⟩
set_option maxHeartbeats 4000000 in
theorem moments_any (g : Nat) (a : Option Addr) (n cap : Nat) (B : Int) (w : World) (h : Cu g a n cap B w) (hB : B ≤ 600000000000) :
    Calls Try.prog 29 #[.pointer (some ⟨g, 0, none⟩)] w fun e w' => ∃ u : Int, e = .returned (.int .i64 u) ∧ (-1 ≤ u ∧ u ≤ 4611686018427387904) ∧ Cu g a n cap (B + 4) w' ∧ w.grownBy w' (some g) := by
  go_enter Try.func29, Try.ntmps29
  go_wp2_with fail
  refine (one_any 10 g a n cap B _ h (by omega)).mono ?_; rintro e w1 ⟨r, rfl, hC1, hg1⟩
  cases r
  · go_wp2_with fail
    refine (pick_any 30 g a n cap _ _ hC1 (by omega)).mono ?_; rintro e w2 ⟨u, rfl, u0, u1, hC2, hg2⟩
    go_wp2_with fail
    go_ret
    exact ⟨_, rfl, by omega, hC2.mono (by omega), grown_trans hg1 hg2⟩
  · go_wp2_with fail
    refine (amongL [0, -1, 200, 201, 4611686018427387904] _ (by decide) (by decide) g a n cap _ _ hC1 (by omega)).mono ?_; rintro e w2 ⟨i, hi, rfl, hC2, hg2⟩
    have hu : -1 ≤ [0, -1, 200, 201, 4611686018427387904].getD i (0 : Int) ∧ [0, -1, 200, 201, 4611686018427387904].getD i (0 : Int) ≤ 4611686018427387904 := by
      have : ∀ i, i < 5 → -1 ≤ [0, -1, 200, 201, 4611686018427387904].getD i (0 : Int) ∧ [0, -1, 200, 201, 4611686018427387904].getD i (0 : Int) ≤ 4611686018427387904 := by decide
      exact this i hi
    go_wp2_with fail
    go_ret
    exact ⟨_, rfl, hu, hC2.mono (by omega), grown_trans hg1 hg2⟩
set_option maxHeartbeats 8000000 in
theorem drawCountTogether (a : Option Addr) (n cap : Nat) (w : World) (h : RdY w a n) :
    Calls Try.prog 5 #[.slice a n cap] w fun e w' => ∃ (f p y : Int), e = .returned (.tuple #[.int .i64 f, .int .i64 p, .int .i64 y]) ∧ Below w.heap.size w w' := by
  go_enter Try.func5, Try.ntmps5
  go_wp2_with fail
  have hC := h.cu cap 40
  have b0 : Below w.heap.size w (w.alloc (.cells #[.slice a n cap, .int .i64 0, .int .u64 0] 40)) := ((Below.refl _ _).alloc (Nat.le_refl _) _)
  have s1 : (w.alloc (.cells #[.slice a n cap, .int .i64 0, .int .u64 0] 40)).heap.size = w.heap.size + 1 := by simp
  generalize World.alloc w (.cells #[.slice a n cap, .int .i64 0, .int .u64 0] 40) = wc at hC b0 s1 ⊢
  have G := grown_refl (some w.heap.size) wc
  refine (moments_any w.heap.size a n cap _ _ hC (by omega)).mono ?_; rintro e w2 ⟨f, rfl, hm, hC2, hg⟩
  replace hC := hC2
  replace G := grown_trans G hg
  clear hC2 hg
  go_wp2_with fail
  refine (amongL [0, 1, 2, 5, 9, 30, 201, -1] _ (by decide) (by decide) w.heap.size a n cap _ _ hC (by omega)).mono ?_; rintro e w2 ⟨i, _, rfl, hC2, hg⟩
  replace hC := hC2
  replace G := grown_trans G hg
  clear hC2 hg
  generalize [0, 1, 2, 5, 9, 30, 201, -1].getD i (0 : Int) = p
  go_wp2_with fail
  refine (amongL [0, 1, 3, 5, 200] _ (by decide) (by decide) w.heap.size a n cap _ _ hC (by omega)).mono ?_; rintro e w2 ⟨i, _, rfl, hC2, hg⟩
  replace hC := hC2
  replace G := grown_trans G hg
  clear hC2 hg
  generalize [0, 1, 3, 5, 200].getD i (0 : Int) = y
  have B4 := b0.grown G b0.size (fun k hk => by injection hk with hk; omega)
  clear hC G b0 h
  go_wp2_with fail
  exact bodyPost_ret (v := .tuple #[.int .i64 f, .int .i64 p, .int .i64 y]) (by simp [results, Try.results5, go_sem]) rfl ⟨_, _, _, rfl, B4⟩
set_option maxHeartbeats 8000000 in
theorem drawEvenChance (a : Option Addr) (n cap : Nat) (w : World) (h : RdY w a n) :
    Calls Try.prog 13 #[.slice a n cap] w fun e w' => ∃ (f p : Int), e = .returned (.tuple #[.int .i64 f, .int .i64 p]) ∧ Below w.heap.size w w' := by
  go_enter Try.func13, Try.ntmps13
  go_wp2_with fail
  have hC := h.cu cap 40
  have b0 : Below w.heap.size w (w.alloc (.cells #[.slice a n cap, .int .i64 0, .int .u64 0] 40)) := ((Below.refl _ _).alloc (Nat.le_refl _) _)
  have s1 : (w.alloc (.cells #[.slice a n cap, .int .i64 0, .int .u64 0] 40)).heap.size = w.heap.size + 1 := by simp
  generalize World.alloc w (.cells #[.slice a n cap, .int .i64 0, .int .u64 0] 40) = wc at hC b0 s1 ⊢
  have G := grown_refl (some w.heap.size) wc
  refine (moments_any w.heap.size a n cap _ _ hC (by omega)).mono ?_; rintro e w2 ⟨f, rfl, hm, hC2, hg⟩
  replace hC := hC2
  replace G := grown_trans G hg
  clear hC2 hg
  go_wp2_with fail
  refine (leastVc _ _ _).mono ?_; rintro e w9 ⟨rfl, rfl⟩
  obtain ⟨A, hA, hA2⟩ : ∃ A, (if (40 : Int) < f + 2 then (40 : Int) else f + 2) = A ∧ 1 ≤ A ∧ A ≤ 40 := ⟨_, rfl, by split <;> omega⟩
  rw [hA]
  clear hA
  go_wp2_with fail
  refine (mostVc _ _ _).mono ?_; rintro e w9 ⟨rfl, rfl⟩
  obtain ⟨M, hM, hM2⟩ : ∃ M, (if A < 1 then (1 : Int) else A) = M ∧ 1 ≤ M ∧ M ≤ 40 := ⟨_, rfl, by split <;> omega⟩
  rw [hM]
  clear hM
  go_wp2_with fail
  refine (pick_any M w.heap.size a n cap _ _ hC (by omega)).mono ?_; rintro e w2 ⟨x, rfl, x0, x1, hC2, hg⟩
  replace hC := hC2
  replace G := grown_trans G hg
  clear hC2 hg
  go_wp2_with fail
  refine (pick_any 8 w.heap.size a n cap _ _ hC (by omega)).mono ?_; rintro e w2 ⟨z, rfl, z0, z1, hC2, hg⟩
  replace hC := hC2
  replace G := grown_trans G hg
  clear hC2 hg
  have d0 : 0 ≤ z / 7 := Int.ediv_nonneg (by omega) (by omega)
  have d1 : z / 7 ≤ 1 := by omega
  have B4 := b0.grown G b0.size (fun k hk => by injection hk with hk; omega)
  clear hC G b0 h
  go_wp2_with fail
  exact bodyPost_ret (v := .tuple #[.int .i64 f, .int .i64 (x - z / 7)]) (by simp [results, Try.results13, go_sem]) rfl ⟨_, _, rfl, B4⟩
set_option maxHeartbeats 8000000 in
theorem drawChanceOfStays (a : Option Addr) (n cap : Nat) (w : World) (h : RdY w a n) :
    Calls Try.prog 16 #[.slice a n cap] w fun e w' => ∃ (f p y : Int), e = .returned (.tuple #[.int .i64 f, .int .i64 p, .int .i64 y]) ∧ Below w.heap.size w w' := by
  go_enter Try.func16, Try.ntmps16
  go_wp2_with fail
  have hC := h.cu cap 40
  have b0 : Below w.heap.size w (w.alloc (.cells #[.slice a n cap, .int .i64 0, .int .u64 0] 40)) := ((Below.refl _ _).alloc (Nat.le_refl _) _)
  have s1 : (w.alloc (.cells #[.slice a n cap, .int .i64 0, .int .u64 0] 40)).heap.size = w.heap.size + 1 := by simp
  generalize World.alloc w (.cells #[.slice a n cap, .int .i64 0, .int .u64 0] 40) = wc at hC b0 s1 ⊢
  have G := grown_refl (some w.heap.size) wc
  refine (moments_any w.heap.size a n cap _ _ hC (by omega)).mono ?_; rintro e w2 ⟨f, rfl, hm, hC2, hg⟩
  replace hC := hC2
  replace G := grown_trans G hg
  clear hC2 hg
  go_wp2_with fail
  refine (leastVc _ _ _).mono ?_; rintro e w9 ⟨rfl, rfl⟩
  obtain ⟨A, hA, hA2⟩ : ∃ A, (if (40 : Int) < f + 2 then (40 : Int) else f + 2) = A ∧ 1 ≤ A ∧ A ≤ 40 := ⟨_, rfl, by split <;> omega⟩
  rw [hA]
  clear hA
  go_wp2_with fail
  refine (mostVc _ _ _).mono ?_; rintro e w9 ⟨rfl, rfl⟩
  obtain ⟨M, hM, hM2⟩ : ∃ M, (if A < 1 then (1 : Int) else A) = M ∧ 1 ≤ M ∧ M ≤ 40 := ⟨_, rfl, by split <;> omega⟩
  rw [hM]
  clear hM
  go_wp2_with fail
  refine (pick_any M w.heap.size a n cap _ _ hC (by omega)).mono ?_; rintro e w2 ⟨p, rfl, p0, p1, hC2, hg⟩
  replace hC := hC2
  replace G := grown_trans G hg
  clear hC2 hg
  go_wp2_with fail
  refine (pick_any 12 w.heap.size a n cap _ _ hC (by omega)).mono ?_; rintro e w2 ⟨y, rfl, y0, y1, hC2, hg⟩
  replace hC := hC2
  replace G := grown_trans G hg
  clear hC2 hg
  have B4 := b0.grown G b0.size (fun k hk => by injection hk with hk; omega)
  clear hC G b0 h
  go_wp2_with fail
  exact bodyPost_ret (v := .tuple #[.int .i64 f, .int .i64 p, .int .i64 y]) (by simp [results, Try.results16, go_sem]) rfl ⟨_, _, _, rfl, B4⟩
set_option maxHeartbeats 8000000 in
theorem drawLeastStay (a : Option Addr) (n cap : Nat) (w : World) (h : RdY w a n) :
    Calls Try.prog 19 #[.slice a n cap] w fun e w' => ∃ (f p y : Int), e = .returned (.tuple #[.int .i64 f, .int .i64 p, .int .i64 y]) ∧ Below w.heap.size w w' := by
  go_enter Try.func19, Try.ntmps19
  go_wp2_with fail
  have hC := h.cu cap 40
  have b0 : Below w.heap.size w (w.alloc (.cells #[.slice a n cap, .int .i64 0, .int .u64 0] 40)) := ((Below.refl _ _).alloc (Nat.le_refl _) _)
  have s1 : (w.alloc (.cells #[.slice a n cap, .int .i64 0, .int .u64 0] 40)).heap.size = w.heap.size + 1 := by simp
  generalize World.alloc w (.cells #[.slice a n cap, .int .i64 0, .int .u64 0] 40) = wc at hC b0 s1 ⊢
  have G := grown_refl (some w.heap.size) wc
  refine (moments_any w.heap.size a n cap _ _ hC (by omega)).mono ?_; rintro e w2 ⟨f, rfl, hm, hC2, hg⟩
  replace hC := hC2
  replace G := grown_trans G hg
  clear hC2 hg
  go_wp2_with fail
  refine (amongL [0, 1, 1, 2, 3, 5, 1001, -1] _ (by decide) (by decide) w.heap.size a n cap _ _ hC (by omega)).mono ?_; rintro e w2 ⟨i, _, rfl, hC2, hg⟩
  replace hC := hC2
  replace G := grown_trans G hg
  clear hC2 hg
  generalize [0, 1, 1, 2, 3, 5, 1001, -1].getD i (0 : Int) = p
  go_wp2_with fail
  refine (amongL [1, 2, 3, 4, 5, 1000, 0] _ (by decide) (by decide) w.heap.size a n cap _ _ hC (by omega)).mono ?_; rintro e w2 ⟨i, _, rfl, hC2, hg⟩
  replace hC := hC2
  replace G := grown_trans G hg
  clear hC2 hg
  generalize [1, 2, 3, 4, 5, 1000, 0].getD i (0 : Int) = y
  have B4 := b0.grown G b0.size (fun k hk => by injection hk with hk; omega)
  clear hC G b0 h
  go_wp2_with fail
  exact bodyPost_ret (v := .tuple #[.int .i64 f, .int .i64 p, .int .i64 y]) (by simp [results, Try.results19, go_sem]) rfl ⟨_, _, _, rfl, B4⟩
set_option maxHeartbeats 8000000 in
theorem drawCountAllWithin (a : Option Addr) (n cap : Nat) (w : World) (h : RdY w a n) :
    Calls Try.prog 22 #[.slice a n cap] w fun e w' => ∃ (f p y : Int), e = .returned (.tuple #[.int .i64 f, .int .i64 p, .int .i64 y]) ∧ Below w.heap.size w w' := by
  go_enter Try.func22, Try.ntmps22
  go_wp2_with fail
  have hC := h.cu cap 40
  have b0 : Below w.heap.size w (w.alloc (.cells #[.slice a n cap, .int .i64 0, .int .u64 0] 40)) := ((Below.refl _ _).alloc (Nat.le_refl _) _)
  have s1 : (w.alloc (.cells #[.slice a n cap, .int .i64 0, .int .u64 0] 40)).heap.size = w.heap.size + 1 := by simp
  generalize World.alloc w (.cells #[.slice a n cap, .int .i64 0, .int .u64 0] 40) = wc at hC b0 s1 ⊢
  have G := grown_refl (some w.heap.size) wc
  rw [← s1]
  refine (amongL [1, 2, 3, 5, 8, 50, 51, 0] _ (by decide) (by decide) w.heap.size a n cap _ _ hC (by omega)).mono ?_; rintro e w2 ⟨i, _, rfl, hC2, hg⟩
  replace hC := hC2
  replace G := grown_trans G hg
  clear hC2 hg
  generalize [1, 2, 3, 5, 8, 50, 51, 0].getD i (0 : Int) = f
  go_wp2_with fail
  refine (amongL [1, 2, 3, 4, 6, 7, 0] _ (by decide) (by decide) w.heap.size a n cap _ _ hC (by omega)).mono ?_; rintro e w2 ⟨i, _, rfl, hC2, hg⟩
  replace hC := hC2
  replace G := grown_trans G hg
  clear hC2 hg
  generalize [1, 2, 3, 4, 6, 7, 0].getD i (0 : Int) = p
  go_wp2_with fail
  refine (amongL [0, 1, 2, 3, 7, 50, 51, -1] _ (by decide) (by decide) w.heap.size a n cap _ _ hC (by omega)).mono ?_; rintro e w2 ⟨i, _, rfl, hC2, hg⟩
  replace hC := hC2
  replace G := grown_trans G hg
  clear hC2 hg
  generalize [0, 1, 2, 3, 7, 50, 51, -1].getD i (0 : Int) = y
  have B4 := b0.grown G b0.size (fun k hk => by injection hk with hk; omega)
  clear hC G b0 h
  go_wp2_with fail
  exact bodyPost_ret (v := .tuple #[.int .i64 f, .int .i64 p, .int .i64 y]) (by simp [results, Try.results22, go_sem]) rfl ⟨_, _, _, rfl, B4⟩
set_option maxHeartbeats 8000000 in
theorem drawMeanApart (a : Option Addr) (n cap : Nat) (w : World) (h : RdY w a n) :
    Calls Try.prog 24 #[.slice a n cap] w fun e w' => ∃ (f : Int), e = .returned (.int .i64 f) ∧ Below w.heap.size w w' := by
  go_enter Try.func24, Try.ntmps24
  go_wp2_with fail
  have hC := h.cu cap 40
  have b0 : Below w.heap.size w (w.alloc (.cells #[.slice a n cap, .int .i64 0, .int .u64 0] 40)) := ((Below.refl _ _).alloc (Nat.le_refl _) _)
  have s1 : (w.alloc (.cells #[.slice a n cap, .int .i64 0, .int .u64 0] 40)).heap.size = w.heap.size + 1 := by simp
  generalize World.alloc w (.cells #[.slice a n cap, .int .i64 0, .int .u64 0] 40) = wc at hC b0 s1 ⊢
  have G := grown_refl (some w.heap.size) wc
  refine (moments_any w.heap.size a n cap _ _ hC (by omega)).mono ?_; rintro e w2 ⟨f, rfl, hm, hC2, hg⟩
  replace hC := hC2
  replace G := grown_trans G hg
  clear hC2 hg
  have B4 := b0.grown G b0.size (fun k hk => by injection hk with hk; omega)
  clear hC G b0 h
  go_wp2_with fail
  exact bodyPost_ret (v := .int .i64 f) (by simp [results, Try.results24, go_sem]) rfl ⟨_, rfl, B4⟩
set_option maxHeartbeats 8000000 in
theorem drawCountApart (a : Option Addr) (n cap : Nat) (w : World) (h : RdY w a n) :
    Calls Try.prog 27 #[.slice a n cap] w fun e w' => ∃ (f p : Int), e = .returned (.tuple #[.int .i64 f, .int .i64 p]) ∧ Below w.heap.size w w' := by
  go_enter Try.func27, Try.ntmps27
  go_wp2_with fail
  have hC := h.cu cap 40
  have b0 : Below w.heap.size w (w.alloc (.cells #[.slice a n cap, .int .i64 0, .int .u64 0] 40)) := ((Below.refl _ _).alloc (Nat.le_refl _) _)
  have s1 : (w.alloc (.cells #[.slice a n cap, .int .i64 0, .int .u64 0] 40)).heap.size = w.heap.size + 1 := by simp
  generalize World.alloc w (.cells #[.slice a n cap, .int .i64 0, .int .u64 0] 40) = wc at hC b0 s1 ⊢
  have G := grown_refl (some w.heap.size) wc
  refine (moments_any w.heap.size a n cap _ _ hC (by omega)).mono ?_; rintro e w2 ⟨f, rfl, hm, hC2, hg⟩
  replace hC := hC2
  replace G := grown_trans G hg
  clear hC2 hg
  go_wp2_with fail
  refine (amongL [0, 1, 2, 5, 20, 200, 201, -1] _ (by decide) (by decide) w.heap.size a n cap _ _ hC (by omega)).mono ?_; rintro e w2 ⟨i, _, rfl, hC2, hg⟩
  replace hC := hC2
  replace G := grown_trans G hg
  clear hC2 hg
  generalize [0, 1, 2, 5, 20, 200, 201, -1].getD i (0 : Int) = p
  have B4 := b0.grown G b0.size (fun k hk => by injection hk with hk; omega)
  clear hC G b0 h
  go_wp2_with fail
  exact bodyPost_ret (v := .tuple #[.int .i64 f, .int .i64 p]) (by simp [results, Try.results27, go_sem]) rfl ⟨_, _, rfl, B4⟩
end Go.Proofs.Ytlmbcbopahpagaa
