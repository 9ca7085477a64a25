/- The draws of chapter 5 that the named law of trains that pass asks for, by contracts: they answer some numbers and one short text; nothing that was there is turned. -/
import Derived.Test.YtokjmhkdcgkcoaaGreatDoorProg
import Derived.Test.YtokjmhkdcgkcoaaGreatDoorCur
import Derived.Test.YtokjmhkdcgkcoaaGreatDoorCurOne
import Derived.Test.YtokjmhkdcgkcoaaGreatDoorCurTrn
import Derived.Test.YtokjmhkdcgkcoaaGreatDoorSpoilt
import Derived.Test.YtokjmhkdcgkcoaaGreatDoorTrnText
import Derived.WalkKit
import Derived.WalkSpells
import Derived.WalkLawsBesides
import Derived.Lib.Hide
import Derived.Deep.QuietTactic
import Derived.BigQuiet
namespace Go.Proofs.YtokjmhkdcgkcoaaGreatDoor
open Go.RowKit
set_option linter.unusedVariables false
set_option linter.unusedSimpArgs false
set_option maxHeartbeats 8000000 in
theorem drawBridgePassing (a : Option Addr) (n cap : Nat) (w : World) (h : RdY w a n) :
    Calls Tryz.prog 5 #[.slice a n cap] w fun e w' => ∃ (u d : Int) (p : Int), e = .returned (.tuple #[.agg #[.int .i64 u, .int .i64 d], .int .i64 p]) ∧ Below w.heap.size w w' := by
  go_enter Tryz.func5, Tryz.ntmps5
  go_wp2_with fail
  generalize hq : World.alloc w _ = w1
  have B1 : Below w.heap.size w w1 := by subst hq; exact Below.alloc (Below.refl _ _) (Nat.le_refl _) _
  have s1 : w1.heap.size = w.heap.size + 1 := by subst hq; simp
  have X0 : BxF w1 w.heap.size 0 0 := by subst hq; exact ⟨by simp, by go_simp, by go_simp, fun o => by go_simp⟩
  clear hq
  have hC := (h.below B1).cu cap 54
  have bc : w1.grownBy (w1.alloc (.cells #[.slice a n cap, .int .i64 0, .int .u64 0] 54)) (some w1.heap.size) := grown_below ((Below.refl _ _).alloc (Nat.le_refl _) _)
  have g0 : some w.heap.size ≠ some w1.heap.size := fun e => by injection e with e; omega
  have X0 := X0.grown bc g0
  rw [← s1]
  have S1 := Lib.hid s1
  clear s1
  refine (train_any w1.heap.size a n cap 0 _ hC (by omega)).mono ?_; rintro e w2 ⟨u, d, rfl, hC2, hg2⟩
  go_wp2_with fail
  refine (way_any w1.heap.size a n cap _ _ hC2 (by omega)).mono ?_; rintro e w4 ⟨p, rfl, hC4, hg4⟩
  have G5 := grown_trans hg2 hg4
  have s1 := S1.out
  have G6 := grown_trans bc G5
  have B5 : Below w.heap.size w w4 := B1.grown G6 (by omega) (fun k hk => by injection hk with hk; omega)
  obtain ⟨x1, x2, x3, x4⟩ := X0.grown G5 g0
  have x40 := x4 0
  have x41 := x4 1
  clear s1 hC hC2 hg2 G5 G6 X0 bc g0
  go_wp2_with fail
  refine bodyPost_ret (v := .tuple #[.agg #[.int .i64 u, .int .i64 d], .int .i64 p]) (by simp [results, Tryz.results5, go_sem, x2, x3]) rfl ⟨u, d, p, rfl, ?_⟩
  exact (B5.setCell (by simp) _).setCell (by simp) _
set_option maxHeartbeats 8000000 in
theorem drawPassEachOther (a : Option Addr) (n cap : Nat) (w : World) (h : RdY w a n) :
    Calls Tryz.prog 19 #[.slice a n cap] w fun e w' => ∃ (u d v z : Int), e = .returned (.tuple #[.agg #[.int .i64 u, .int .i64 d], .agg #[.int .i64 v, .int .i64 z]]) ∧ Below w.heap.size w w' := by
  go_enter Tryz.func19, Tryz.ntmps19
  go_wp2_with fail
  generalize hq : World.alloc (World.alloc w _) _ = w1
  have B1 : Below w.heap.size w w1 := by subst hq; exact (Below.alloc (Below.refl _ _) (Nat.le_refl _) _).alloc (by simp) _
  have s1 : w1.heap.size = w.heap.size + 1 + 1 := by subst hq; simp
  have X0 : BxF w1 w.heap.size 0 0 := by subst hq; exact ⟨by (simp; omega), by go_simp, by go_simp, fun o => by go_simp⟩
  have Y0 : BxF w1 (w.heap.size + 1) 0 0 := by subst hq; exact ⟨by simp, by go_simp, by go_simp, fun o => by go_simp⟩
  clear hq
  have hC := (h.below B1).cu cap 54
  have bc : w1.grownBy (w1.alloc (.cells #[.slice a n cap, .int .i64 0, .int .u64 0] 54)) (some w1.heap.size) := grown_below ((Below.refl _ _).alloc (Nat.le_refl _) _)
  have g0 : some w.heap.size ≠ some w1.heap.size := fun e => by injection e with e; omega
  have g1 : some (w.heap.size + 1) ≠ some w1.heap.size := fun e => by injection e with e; omega
  have X0 := X0.grown bc g0
  have Y0 := Y0.grown bc g1
  rw [← s1]
  have S1 := Lib.hid s1
  clear s1
  refine (train_any w1.heap.size a n cap 0 _ hC (by omega)).mono ?_; rintro e w2 ⟨u, d, rfl, hC2, hg2⟩
  go_wp2_with fail
  refine (train_any w1.heap.size a n cap _ _ hC2 (by omega)).mono ?_; rintro e w4 ⟨v, z, rfl, hC3, hg3⟩
  have G5 := grown_trans hg2 hg3
  have s1 := S1.out
  have G6 := grown_trans bc G5
  have B5 : Below w.heap.size w w4 := B1.grown G6 (by omega) (fun k hk => by injection hk with hk; omega)
  obtain ⟨x1, x2, x3, x4⟩ := X0.grown G5 g0
  obtain ⟨y1, y2, y3, y4⟩ := Y0.grown G5 g1
  have x40 := x4 0
  have x41 := x4 1
  have y40 := y4 0
  have y41 := y4 1
  clear s1 hC hC2 hC3 hg2 hg3 G5 G6 X0 Y0 bc g0 g1
  go_wp2_with fail
  refine bodyPost_ret (v := .tuple #[.agg #[.int .i64 u, .int .i64 d], .agg #[.int .i64 v, .int .i64 z]]) (by simp [results, Tryz.results19, go_sem, x2, x3, y2, y3]) rfl ⟨u, d, v, z, rfl, ?_⟩
  exact (((B5.setCell (by simp) _).setCell (by simp) _).setCell (by simp) _).setCell (by simp) _
set_option maxHeartbeats 8000000 in
theorem drawSeenFromTrain (a : Option Addr) (n cap : Nat) (w : World) (h : RdY w a n) :
    Calls Tryz.prog 24 #[.slice a n cap] w fun e w' => ∃ (u d v z : Int) (g : Bool), e = .returned (.tuple #[.agg #[.int .i64 u, .int .i64 d], .agg #[.int .i64 v, .int .i64 z], .bool g]) ∧ Below w.heap.size w w' := by
  go_enter Tryz.func24, Tryz.ntmps24
  go_wp2_with fail
  generalize hq : World.alloc (World.alloc w _) _ = w1
  have B1 : Below w.heap.size w w1 := by subst hq; exact (Below.alloc (Below.refl _ _) (Nat.le_refl _) _).alloc (by simp) _
  have s1 : w1.heap.size = w.heap.size + 1 + 1 := by subst hq; simp
  have X0 : BxF w1 w.heap.size 0 0 := by subst hq; exact ⟨by (simp; omega), by go_simp, by go_simp, fun o => by go_simp⟩
  have Y0 : BxF w1 (w.heap.size + 1) 0 0 := by subst hq; exact ⟨by simp, by go_simp, by go_simp, fun o => by go_simp⟩
  clear hq
  have hC := (h.below B1).cu cap 54
  have bc : w1.grownBy (w1.alloc (.cells #[.slice a n cap, .int .i64 0, .int .u64 0] 54)) (some w1.heap.size) := grown_below ((Below.refl _ _).alloc (Nat.le_refl _) _)
  have g0 : some w.heap.size ≠ some w1.heap.size := fun e => by injection e with e; omega
  have g1 : some (w.heap.size + 1) ≠ some w1.heap.size := fun e => by injection e with e; omega
  have X0 := X0.grown bc g0
  have Y0 := Y0.grown bc g1
  rw [← s1]
  have S1 := Lib.hid s1
  clear s1
  refine (train_any w1.heap.size a n cap 0 _ hC (by omega)).mono ?_; rintro e w2 ⟨u, d, rfl, hC2, hg2⟩
  go_wp2_with fail
  refine (train_any w1.heap.size a n cap _ _ hC2 (by omega)).mono ?_; rintro e w3 ⟨v, z, rfl, hC3, hg3⟩
  go_wp2_with fail
  refine (one_any 2 w1.heap.size a n cap _ _ hC3 (by omega)).mono ?_; rintro e w4 ⟨g, rfl, hC4, hg4⟩
  have G5 := grown_trans (grown_trans hg2 hg3) hg4
  have s1 := S1.out
  have G6 := grown_trans bc G5
  have B5 : Below w.heap.size w w4 := B1.grown G6 (by omega) (fun k hk => by injection hk with hk; omega)
  obtain ⟨x1, x2, x3, x4⟩ := X0.grown G5 g0
  obtain ⟨y1, y2, y3, y4⟩ := Y0.grown G5 g1
  have x40 := x4 0
  have x41 := x4 1
  have y40 := y4 0
  have y41 := y4 1
  clear s1 hC hC2 hC3 hg2 hg3 G5 G6 X0 Y0 bc g0 g1
  go_wp2_with fail
  refine bodyPost_ret (v := .tuple #[.agg #[.int .i64 u, .int .i64 d], .agg #[.int .i64 v, .int .i64 z], .bool g]) (by simp [results, Tryz.results24, go_sem, x2, x3, y2, y3]) rfl ⟨u, d, v, z, g, rfl, ?_⟩
  exact (((B5.setCell (by simp) _).setCell (by simp) _).setCell (by simp) _).setCell (by simp) _
set_option maxHeartbeats 8000000 in
theorem drawPassWalker (a : Option Addr) (n cap : Nat) (w : World) (h : RdY w a n) :
    Calls Tryz.prog 27 #[.slice a n cap] w fun e w' => ∃ (u d : Int) (k : Int) (g : Bool), e = .returned (.tuple #[.agg #[.int .i64 u, .int .i64 d], .int .i64 k, .bool g]) ∧ Below w.heap.size w w' := by
  go_enter Tryz.func27, Tryz.ntmps27
  go_wp2_with fail
  generalize hq : World.alloc w _ = w1
  have B1 : Below w.heap.size w w1 := by subst hq; exact Below.alloc (Below.refl _ _) (Nat.le_refl _) _
  have s1 : w1.heap.size = w.heap.size + 1 := by subst hq; simp
  have X0 : BxF w1 w.heap.size 0 0 := by subst hq; exact ⟨by simp, by go_simp, by go_simp, fun o => by go_simp⟩
  clear hq
  have hC := (h.below B1).cu cap 54
  have bc : w1.grownBy (w1.alloc (.cells #[.slice a n cap, .int .i64 0, .int .u64 0] 54)) (some w1.heap.size) := grown_below ((Below.refl _ _).alloc (Nat.le_refl _) _)
  have g0 : some w.heap.size ≠ some w1.heap.size := fun e => by injection e with e; omega
  have X0 := X0.grown bc g0
  rw [← s1]
  have S1 := Lib.hid s1
  clear s1
  refine (train_any w1.heap.size a n cap 0 _ hC (by omega)).mono ?_; rintro e w2 ⟨u, d, rfl, hC2, hg2⟩
  go_wp2_with fail
  refine (amongL [1, 2, 5, 6, 20, 100, 101, 0, -1] _ (by decide) (by decide) w1.heap.size a n cap _ _ hC2 (by omega)).mono ?_; rintro e w3 ⟨i, _, rfl, hC3, hg3⟩
  generalize [1, 2, 5, 6, 20, 100, 101, 0, -1].getD i (0 : Int) = k
  go_wp2_with fail
  refine (one_any 2 w1.heap.size a n cap _ _ hC3 (by omega)).mono ?_; rintro e w4 ⟨g, rfl, hC4, hg4⟩
  have G5 := grown_trans (grown_trans hg2 hg3) hg4
  have s1 := S1.out
  have G6 := grown_trans bc G5
  have B5 : Below w.heap.size w w4 := B1.grown G6 (by omega) (fun k hk => by injection hk with hk; omega)
  obtain ⟨x1, x2, x3, x4⟩ := X0.grown G5 g0
  have x40 := x4 0
  have x41 := x4 1
  clear s1 hC hC2 hg2 G5 G6 X0 bc g0
  go_wp2_with fail
  refine bodyPost_ret (v := .tuple #[.agg #[.int .i64 u, .int .i64 d], .int .i64 k, .bool g]) (by simp [results, Tryz.results27, go_sem, x2, x3]) rfl ⟨u, d, k, g, rfl, ?_⟩
  exact (B5.setCell (by simp) _).setCell (by simp) _
set_option maxHeartbeats 8000000 in
theorem drawTrainFromTimes (a : Option Addr) (n cap : Nat) (w : World) (h : RdY w a n) :
    Calls Tryz.prog 30 #[.slice a n cap] w fun e w' => ∃ (f p y : Int), e = .returned (.tuple #[.int .i64 f, .int .i64 p, .int .i64 y]) ∧ Below w.heap.size w w' := by
  go_enter Tryz.func30, Tryz.ntmps30
  go_wp2_with fail
  have hC := h.cu cap 54
  have b0 : Below w.heap.size w (w.alloc (.cells #[.slice a n cap, .int .i64 0, .int .u64 0] 54)) := ((Below.refl _ _).alloc (Nat.le_refl _) _)
  have s1 : (w.alloc (.cells #[.slice a n cap, .int .i64 0, .int .u64 0] 54)).heap.size = w.heap.size + 1 := by simp
  generalize World.alloc w (.cells #[.slice a n cap, .int .i64 0, .int .u64 0] 54) = w1 at hC b0 s1 ⊢
  rw [← s1]
  refine (amongL [1, 2, 4, 9, 100, 10000, 10001, 0] _ (by decide) (by decide) w.heap.size a n cap _ _ hC (by omega)).mono ?_; rintro e w2 ⟨i, hi, rfl, hC2, hg2⟩
  have hp : 0 ≤ [1, 2, 4, 9, 100, 10000, 10001, 0].getD i (0 : Int) ∧ [1, 2, 4, 9, 100, 10000, 10001, 0].getD i (0 : Int) ≤ 10001 := by
    have : ∀ i, i < 8 → 0 ≤ [1, 2, 4, 9, 100, 10000, 10001, 0].getD i (0 : Int) ∧ [1, 2, 4, 9, 100, 10000, 10001, 0].getD i (0 : Int) ≤ 10001 := by decide
    exact this i hi
  generalize [1, 2, 4, 9, 100, 10000, 10001, 0].getD i (0 : Int) = p at *
  clear hi
  go_wp2_with fail
  refine (way_any w.heap.size a n cap _ _ hC2 (by omega)).mono ?_; rintro e w3 ⟨f, rfl, hC3, hg3⟩
  go_wp2_with fail
  refine (pick_any 12 w.heap.size a n cap _ _ hC3 (by omega)).mono ?_; rintro e w4 ⟨r, rfl, r0, r1, hC4, hg4⟩
  have s0 := b0.size
  have B4 : Below w.heap.size w w4 := b0.grown (grown_trans (grown_trans hg2 hg3) hg4) s0 (fun k hk => by injection hk with hk; omega)
  clear hC hC2 hC3 hC4 hg2 hg3 hg4 b0
  go_wp2_with fail
  exact bodyPost_ret (v := .tuple #[.int .i64 f, .int .i64 p, .int .i64 (p + r - 2)]) (by simp [results, Tryz.results30, go_sem]) rfl ⟨f, p, _, rfl, B4⟩
set_option maxHeartbeats 8000000 in
theorem drawParseTrain (a : Option Addr) (n cap : Nat) (w : World) (h : RdY w a n) :
    Calls Tryz.prog 32 #[.slice a n cap] w fun e w' => ∃ t : ByteArray, e = .returned (.string t) ∧ t.size ≤ 10 ∧ Below w.heap.size w w' := by
  go_enter Tryz.func32, Tryz.ntmps32
  go_wp2_with fail
  have hC := h.cu cap 54
  have b0 : Below w.heap.size w (w.alloc (.cells #[.slice a n cap, .int .i64 0, .int .u64 0] 54)) := ((Below.refl _ _).alloc (Nat.le_refl _) _)
  have s1 : (w.alloc (.cells #[.slice a n cap, .int .i64 0, .int .u64 0] 54)).heap.size = w.heap.size + 1 := by simp
  generalize World.alloc w (.cells #[.slice a n cap, .int .i64 0, .int .u64 0] 54) = w1 at hC b0 s1 ⊢
  refine (sureTrain_any w.heap.size a n cap _ _ hC (by omega)).mono ?_; rintro e w2 ⟨u, d, rfl, hud, hC2, hg2⟩
  obtain ⟨U, rfl⟩ := Int.eq_ofNat_of_zero_le (show 0 ≤ u by omega)
  obtain ⟨D, rfl⟩ := Int.eq_ofNat_of_zero_le (show 0 ≤ d by omega)
  have hz := ttx_size U D (by omega) (by omega)
  have hT := Lib.hid (fun w => tiText_any U D (by omega) (by omega) w)
  generalize ttx U D = s at *
  go_wp2_with fail
  refine (hT.out _).mono ?_; rintro e w3 ⟨rfl, hb3⟩
  have hC3 := hC2.below hb3
  have G3 := grown_trans hg2 (grown_below hb3)
  go_wp2_with fail
  refine (one_any 3 w.heap.size a n cap _ _ hC3 (by omega)).mono ?_; rintro e w4 ⟨r, rfl, hC4, hg4⟩
  have s0 := b0.size
  have G4 := grown_trans G3 hg4
  clear hC hC2 hC3 hg2 hb3 G3 hg4
  cases r
  · have B4 : Below w.heap.size w w4 := b0.grown G4 s0 (fun k hk => by injection hk with hk; omega)
    go_wp2_with fail
    exact bodyPost_ret (v := .string s) (by simp [results, Tryz.results32, go_sem]) rfl ⟨s, rfl, by omega, B4⟩
  · go_wp2_with fail
    refine (spoilt_any s _ (by omega) (by decide) (by decide) w.heap.size a n cap _ _ hC4 (by omega)).mono ?_; rintro e w5 ⟨t, rfl, ht, hC5, hg5⟩
    have B5 : Below w.heap.size w w5 := b0.grown (grown_trans G4 hg5) s0 (fun k hk => by injection hk with hk; omega)
    go_wp2_with fail
    exact bodyPost_ret (v := .string t) (by simp [results, Tryz.results32, go_sem]) rfl ⟨t, rfl, by omega, B5⟩
end Go.Proofs.YtokjmhkdcgkcoaaGreatDoor
