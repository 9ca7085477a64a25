/- The draws of chapter 5, by contracts: they answer some numbers, some lists of few trains; nothing that was there is turned. -/
import Derived.Test.YtokjmhkdcgkcoaaGreatDoorProg
import Derived.Test.YtokjmhkdcgkcoaaGreatDoorCur
import Derived.Test.YtokjmhkdcgkcoaaGreatDoorCurOne
import Derived.Test.YtokjmhkdcgkcoaaGreatDoorPairsN
import Derived.WalkKit
import Derived.WalkSpells
import Derived.WalkLawsBesides
import Derived.Lib.Hide
import Derived.Deep.LoopGhost
import Derived.Deep.QuietTactic
import Derived.Laws.AppendOwn
import Derived.BigQuiet
namespace Go.Proofs.YtokjmhkdcgkcoaaGreatDoor
open Go.RowKit
set_option linter.unusedVariables false
set_option linter.unusedSimpArgs false
set_option maxHeartbeats 4000000 in
theorem sureTrain_any (g : Nat) (a : Option Addr) (n cap : Nat) (B : Int) (w : World) (h : Cu g a n cap B w) (hB : B ≤ 700000000000) :
    Calls Tryz.prog 59 #[.pointer (some ⟨g, 0, none⟩)] w fun e w' => ∃ u d : Int, e = .returned (.agg #[.int .i64 u, .int .i64 d]) ∧ (1 ≤ u ∧ u ≤ 1000 ∧ 1 ≤ d ∧ d ≤ 30) ∧ Cu g a n cap (B + 6) w' ∧ w.grownBy w' (some g) := by
  go_enter Tryz.func59, Tryz.ntmps59
  go_wp2_with fail
  have b0 : Below w.heap.size w (w.alloc (.cells #[.int .i64 0, .int .i64 0] 25)) := ((Below.refl _ _).alloc (Nat.le_refl _) _)
  have h0 := h.below b0
  have hgl := h.lt
  have hbg : some w.heap.size ≠ some g := fun e => by injection e with e; omega
  have s1 : (w.alloc (.cells #[.int .i64 0, .int .i64 0] 25)).heap.size = w.heap.size + 1 := by simp
  have X0 := BxF.made w 0 0 25
  generalize World.alloc w (.cells #[.int .i64 0, .int .i64 0] 25) = w0 at b0 h0 s1 X0 ⊢
  rw [← s1]
  refine (amongL [1, 10, 60, 80, 120, 1000] _ (by decide) (by decide) g a n cap B _ h0 (by omega)).mono ?_; rintro e w1 ⟨i, hi, rfl, hC1, hg1⟩
  have hu : 1 ≤ [1, 10, 60, 80, 120, 1000].getD i (0 : Int) ∧ [1, 10, 60, 80, 120, 1000].getD i (0 : Int) ≤ 1000 := by
    have : ∀ i, i < 6 → 1 ≤ [1, 10, 60, 80, 120, 1000].getD i (0 : Int) ∧ [1, 10, 60, 80, 120, 1000].getD i (0 : Int) ≤ 1000 := by decide
    exact this i hi
  generalize [1, 10, 60, 80, 120, 1000].getD i (0 : Int) = u at *
  have X1 := X0.grown hg1 hbg
  have G1 : w.grownBy w1 (some g) := grown_trans (grown_below b0) hg1
  clear b0 h0 hg1 hi s1 X0
  go_wp2_with fail
  refine (pick_any 1 g a n cap _ _ hC1 (by omega)).mono ?_; rintro e w2 ⟨x, rfl, x0, x1, hC2, hg2⟩
  obtain rfl : x = 0 := by omega
  go_wp2_with fail
  refine (pick_any 30 g a n cap _ _ hC2 (by omega)).mono ?_; rintro e w3 ⟨d, rfl, d0, d1, hC3, hg3⟩
  have G3 : w1.grownBy w3 (some g) := grown_trans hg2 hg3
  obtain ⟨x1, x2, x3, x4⟩ := X1.grown G3 hbg
  have x40 := x4 0
  have x41 := x4 1
  go_wp2_with fail
  refine bodyPost_ret (v := .agg #[.int .i64 u, .int .i64 (1 + d)]) (by simp [results, Tryz.results59, go_sem, x2, x3]) rfl ⟨_, _, rfl, by omega, ?_, ?_⟩
  · exact (hC3.mono (by omega)).grown (set2G _ _ _ _) (fun k hk => by injection hk with hk; omega)
  · exact grown_own (grown_trans G1 G3) (set2G _ _ _ _) (fun k hk => by injection hk with hk; omega)
set_option maxHeartbeats 4000000 in
theorem train_any (g : Nat) (a : Option Addr) (n cap : Nat) (B : Int) (w : World) (h : Cu g a n cap B w) (hB : B ≤ 600000000000) :
    Calls Tryz.prog 34 #[.pointer (some ⟨g, 0, none⟩)] w fun e w' => ∃ u d : Int, e = .returned (.agg #[.int .i64 u, .int .i64 d]) ∧ Cu g a n cap (B + 8) w' ∧ w.grownBy w' (some g) := by
  go_enter Tryz.func34, Tryz.ntmps34
  go_wp2_with fail
  have b0 : Below w.heap.size w (w.alloc (.cells #[.int .i64 0, .int .i64 0] 25)) := ((Below.refl _ _).alloc (Nat.le_refl _) _)
  have h0 := h.below b0
  have hgl := h.lt
  have hbg : some w.heap.size ≠ some g := fun e => by injection e with e; omega
  refine (one_any 14 g a n cap B _ h0 (by omega)).mono ?_; rintro e w1 ⟨r, rfl, hC1, hg1⟩
  have X1 := (BxF.made w 0 0 25).grown hg1 hbg
  have G1 : w.grownBy w1 (some g) := grown_trans (grown_below b0) hg1
  clear b0 h0 hg1
  cases r
  · go_wp2_with fail
    refine (sureTrain_any g a n cap _ _ hC1 (by omega)).mono ?_; rintro e w3 ⟨u, d, rfl, _, hC3, G3⟩
    obtain ⟨x1, x2, x3, x4⟩ := X1.grown G3 hbg
    have x40 := x4 0
    have x41 := x4 1
    go_wp2_with fail
    refine bodyPost_ret (v := .agg #[.int .i64 u, .int .i64 d]) (by simp [results, Tryz.results34, go_sem, x2, x3]) rfl ⟨_, _, rfl, ?_, ?_⟩
    · exact (hC3.mono (by omega)).grown (set2G _ _ _ _) (fun k hk => by injection hk with hk; omega)
    · exact grown_own (grown_trans G1 G3) (set2G _ _ _ _) (fun k hk => by injection hk with hk; omega)
  · go_wp2_with fail
    refine (amongL [-1, 0, 1, 1000, 1001, 4611686018427387904] _ (by decide) (by decide) g a n cap _ _ hC1 (by omega)).mono ?_; rintro e w2 ⟨i, _, rfl, hC2, hg2⟩
    generalize [-1, 0, 1, 1000, 1001, 4611686018427387904].getD i (0 : Int) = u
    go_wp2_with fail
    refine (amongL [-1, 0, 1, 100, 101, 4611686018427387904] _ (by decide) (by decide) g a n cap _ _ hC2 (by omega)).mono ?_; rintro e w3 ⟨j, _, rfl, hC3, hg3⟩
    generalize [-1, 0, 1, 100, 101, 4611686018427387904].getD j (0 : Int) = d
    have G3 : w1.grownBy w3 (some g) := grown_trans hg2 hg3
    obtain ⟨x1, x2, x3, x4⟩ := X1.grown G3 hbg
    have x40 := x4 0
    have x41 := x4 1
    go_wp2_with fail
    refine bodyPost_ret (v := .agg #[.int .i64 u, .int .i64 d]) (by simp [results, Tryz.results34, go_sem, x2, x3]) rfl ⟨_, _, rfl, ?_, ?_⟩
    · exact (hC3.mono (by omega)).grown (set2G _ _ _ _) (fun k hk => by injection hk with hk; omega)
    · exact grown_own (grown_trans G1 G3) (set2G _ _ _ _) (fun k hk => by injection hk with hk; omega)
set_option maxHeartbeats 4000000 in
theorem way_any (g : Nat) (a : Option Addr) (n cap : Nat) (B : Int) (w : World) (h : Cu g a n cap B w) (hB : B ≤ 600000000000) :
    Calls Tryz.prog 35 #[.pointer (some ⟨g, 0, none⟩)] w fun e w' => ∃ u : Int, e = .returned (.int .i64 u) ∧ Cu g a n cap (B + 2) w' ∧ w.grownBy w' (some g) := by
  go_enter Tryz.func35, Tryz.ntmps35
  go_wp2_with fail
  refine (amongL [0, 1, 7, 60, 120, 180, 999, 1000, 5000, 100000, 100001, -1] _ (by decide) (by decide) g a n cap B _ h (by omega)).mono ?_; rintro e w1 ⟨i, _, rfl, hC1, hg1⟩
  go_wp2_with fail
  go_ret
  exact ⟨_, rfl, hC1, hg1⟩
theorem cell_two_newT (w : World) (u v : Value) (e : TypeId) : ∀ (j : Nat) (x : Value), [u, v][j]? = some x → (w.alloc (.cells #[u, v] e)).cell? ((⟨w.heap.size, 0, none⟩ : Addr).add j) = some x := by
  intro j x hx
  have ea : (⟨w.heap.size, 0, none⟩ : Addr).add j = ⟨w.heap.size, j, none⟩ := by unfold Addr.add; split <;> simp_all
  rw [ea]
  match j, hx with
  | 0, hx => simp at hx; subst hx; go_simp
  | 1, hx => simp at hx; subst hx; go_simp
theorem cs2_snocT : ∀ (xs : List (Int × Int)) (u d : Int), cs2 (xs ++ [(u, d)]) = cs2 xs ++ [.int .i64 u, .int .i64 d]
  | [], u, d => rfl
  | p :: t, u, d => by simp only [List.cons_append, cs2, cs2_snocT t u d]
end Go.Proofs.YtokjmhkdcgkcoaaGreatDoor
