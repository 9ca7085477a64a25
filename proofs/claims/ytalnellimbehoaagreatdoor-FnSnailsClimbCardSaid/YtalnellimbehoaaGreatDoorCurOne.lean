/- The draws of chapter 1, by contracts: they answer some numbers, some lists of few numbers; nothing that was there is turned. -/
import Derived.Test.YtalnellimbehoaaGreatDoorProg
import Derived.Test.YtalnellimbehoaaGreatDoorCur
import Derived.WalkKit
import Derived.WalkSpells
import Derived.WalkLawsBesides
import Derived.Lib.Hide
import Derived.Deep.LoopGhost
import Derived.Deep.QuietTactic
import Derived.Laws.AppendOwn
import Derived.BigQuiet
namespace Go.Proofs.YtalnellimbehoaaGreatDoor
open Go.RowKit
set_option linter.unusedVariables false
set_option linter.unusedSimpArgs false
/-- a block that holds two numbers and may be written -/
def BxF (w : World) (b : Nat) (x y : Int) : Prop := b < w.heap.size ∧ w.cell? ⟨b, 0, none⟩ = some (.int .i64 x) ∧ w.cell? ⟨b, 1, none⟩ = some (.int .i64 y) ∧ ∀ o, w.frozen? ⟨b, o, none⟩ = false
theorem BxF.grown {w w' : World} {b : Nat} {x y : Int} {r : Option Nat} (h : BxF w b x y) (hg : w.grownBy w' r) (hr : some b ≠ r) : BxF w' b x y := by
  obtain ⟨h1, h2, h3, h4⟩ := h
  exact ⟨Nat.lt_of_lt_of_le h1 hg.size, hg.cell h2 hr, hg.cell h3 hr, fun o => by rw [hg.frozen_far _ h1 hr]; exact h4 o⟩
theorem BxF.made (w : World) (x y : Int) (e : TypeId) : BxF (w.alloc (.cells #[.int .i64 x, .int .i64 y] e)) w.heap.size x y := ⟨by simp, by go_simp, by go_simp, fun o => by go_simp⟩
theorem set2G (w : World) (b : Nat) (u v : Value) : w.grownBy ((w.setCell ⟨b, 0, none⟩ u).setCell ⟨b, 1, none⟩ v) (some b) := grown_trans (grown_set _ _ _) (grown_set _ _ _)
set_option maxHeartbeats 4000000 in
theorem sureSnail_any (g : Nat) (a : Option Addr) (n cap : Nat) (B : Int) (w : World) (h : Cu g a n cap B w) (hB : B ≤ 700000000000) :
    Calls Tryz.prog 63 #[.pointer (some ⟨g, 0, none⟩)] w fun e w' => ∃ u d : Int, e = .returned (.agg #[.int .i64 u, .int .i64 d]) ∧ Cu g a n cap (B + 6) w' ∧ w.grownBy w' (some g) := by
  go_enter Tryz.func63, Tryz.ntmps63
  go_wp2_with fail
  have b0 : Below w.heap.size w (w.alloc (.cells #[.int .i64 0, .int .i64 0] 25)) := ((Below.refl _ _).alloc (Nat.le_refl _) _)
  have h0 := h.below b0
  have hgl := h.lt
  have hbg : some w.heap.size ≠ some g := fun e => by injection e with e; omega
  refine (one_any 6 g a n cap B _ h0 (by omega)).mono ?_; rintro e w1 ⟨r, rfl, hC1, hg1⟩
  have X1 := (BxF.made w 0 0 25).grown hg1 hbg
  have G1 : w.grownBy w1 (some g) := grown_trans (grown_below b0) hg1
  clear b0 h0 hg1
  cases r
  · go_wp2_with fail
    refine (pick_any 9 g a n cap _ _ hC1 (by omega)).mono ?_; rintro e w2 ⟨u, rfl, u0, u1, hC2, hg2⟩
    go_wp2_with fail
    refine (pick_any (1 + u + 1) g a n cap _ _ hC2 (by omega)).mono ?_; rintro e w3 ⟨d, rfl, d0, d1, hC3, hg3⟩
    have G3 : w1.grownBy w3 (some g) := grown_trans hg2 hg3
    obtain ⟨x1, x2, x3, x4⟩ := X1.grown G3 hbg
    have x40 := x4 0
    have x41 := x4 1
    go_wp2_with fail
    refine bodyPost_ret (v := .agg #[.int .i64 (1 + u), .int .i64 d]) (by simp [results, Tryz.results63, go_sem, x2, x3]) rfl ⟨_, _, rfl, ?_, ?_⟩
    · exact (hC3.mono (by omega)).grown (set2G _ _ _ _) (fun k hk => by injection hk with hk; omega)
    · exact grown_own (grown_trans G1 G3) (set2G _ _ _ _) (fun k hk => by injection hk with hk; omega)
  · go_wp2_with fail
    refine (amongL [1, 7, 1000] _ (by decide) (by decide) g a n cap _ _ hC1 (by omega)).mono ?_; rintro e w2 ⟨i, _, rfl, hC2, hg2⟩
    generalize [1, 7, 1000].getD i (0 : Int) = u
    go_wp2_with fail
    refine (amongL [0, 1, 7, 999, 1000] _ (by decide) (by decide) g a n cap _ _ hC2 (by omega)).mono ?_; rintro e w3 ⟨j, _, rfl, hC3, hg3⟩
    generalize [0, 1, 7, 999, 1000].getD j (0 : Int) = d
    have G3 : w1.grownBy w3 (some g) := grown_trans hg2 hg3
    obtain ⟨x1, x2, x3, x4⟩ := X1.grown G3 hbg
    have x40 := x4 0
    have x41 := x4 1
    go_wp2_with fail
    refine bodyPost_ret (v := .agg #[.int .i64 u, .int .i64 d]) (by simp [results, Tryz.results63, go_sem, x2, x3]) rfl ⟨_, _, rfl, ?_, ?_⟩
    · exact (hC3.mono (by omega)).grown (set2G _ _ _ _) (fun k hk => by injection hk with hk; omega)
    · exact grown_own (grown_trans G1 G3) (set2G _ _ _ _) (fun k hk => by injection hk with hk; omega)
set_option maxHeartbeats 4000000 in
theorem snail_any (g : Nat) (a : Option Addr) (n cap : Nat) (B : Int) (w : World) (h : Cu g a n cap B w) (hB : B ≤ 600000000000) :
    Calls Tryz.prog 55 #[.pointer (some ⟨g, 0, none⟩)] w fun e w' => ∃ u d : Int, e = .returned (.agg #[.int .i64 u, .int .i64 d]) ∧ Cu g a n cap (B + 8) w' ∧ w.grownBy w' (some g) := by
  go_enter Tryz.func55, Tryz.ntmps55
  go_wp2_with fail
  have b0 : Below w.heap.size w (w.alloc (.cells #[.int .i64 0, .int .i64 0] 25)) := ((Below.refl _ _).alloc (Nat.le_refl _) _)
  have h0 := h.below b0
  have hgl := h.lt
  have hbg : some w.heap.size ≠ some g := fun e => by injection e with e; omega
  refine (one_any 14 g a n cap B _ h0 (by omega)).mono ?_; rintro e w1 ⟨r, rfl, hC1, hg1⟩
  have X1 := (BxF.made w 0 0 25).grown hg1 hbg
  have G1 : w.grownBy w1 (some g) := grown_trans (grown_below b0) hg1
  clear b0 h0 hg1
  cases r
  · go_wp2_with fail
    refine (sureSnail_any g a n cap _ _ hC1 (by omega)).mono ?_; rintro e w3 ⟨u, d, rfl, hC3, G3⟩
    obtain ⟨x1, x2, x3, x4⟩ := X1.grown G3 hbg
    have x40 := x4 0
    have x41 := x4 1
    go_wp2_with fail
    refine bodyPost_ret (v := .agg #[.int .i64 u, .int .i64 d]) (by simp [results, Tryz.results55, go_sem, x2, x3]) rfl ⟨_, _, rfl, ?_, ?_⟩
    · exact (hC3.mono (by omega)).grown (set2G _ _ _ _) (fun k hk => by injection hk with hk; omega)
    · exact grown_own (grown_trans G1 G3) (set2G _ _ _ _) (fun k hk => by injection hk with hk; omega)
  · go_wp2_with fail
    refine (amongL [-1, 0, 1, 1001, 4611686018427387904] _ (by decide) (by decide) g a n cap _ _ hC1 (by omega)).mono ?_; rintro e w2 ⟨i, _, rfl, hC2, hg2⟩
    generalize [-1, 0, 1, 1001, 4611686018427387904].getD i (0 : Int) = u
    go_wp2_with fail
    refine (amongL [-1, 0, 1, 1001, -9223372036854775808] _ (by decide) (by decide) g a n cap _ _ hC2 (by omega)).mono ?_; rintro e w3 ⟨j, _, rfl, hC3, hg3⟩
    generalize [-1, 0, 1, 1001, -9223372036854775808].getD j (0 : Int) = d
    have G3 : w1.grownBy w3 (some g) := grown_trans hg2 hg3
    obtain ⟨x1, x2, x3, x4⟩ := X1.grown G3 hbg
    have x40 := x4 0
    have x41 := x4 1
    go_wp2_with fail
    refine bodyPost_ret (v := .agg #[.int .i64 u, .int .i64 d]) (by simp [results, Tryz.results55, go_sem, x2, x3]) rfl ⟨_, _, rfl, ?_, ?_⟩
    · exact (hC3.mono (by omega)).grown (set2G _ _ _ _) (fun k hk => by injection hk with hk; omega)
    · exact grown_own (grown_trans G1 G3) (set2G _ _ _ _) (fun k hk => by injection hk with hk; omega)
set_option maxHeartbeats 4000000 in
theorem wall_any (g : Nat) (a : Option Addr) (n cap : Nat) (B : Int) (w : World) (h : Cu g a n cap B w) (hB : B ≤ 600000000000) :
    Calls Tryz.prog 54 #[.pointer (some ⟨g, 0, none⟩)] w fun e w' => ∃ u : Int, e = .returned (.int .i64 u) ∧ Cu g a n cap (B + 4) w' ∧ w.grownBy w' (some g) := by
  go_enter Tryz.func54, Tryz.ntmps54
  go_wp2_with fail
  refine (one_any 8 g a n cap B _ h (by omega)).mono ?_; rintro e w1 ⟨r, rfl, hC1, hg1⟩
  cases r
  · go_wp2_with fail
    refine (pick_any 60 g a n cap _ _ hC1 (by omega)).mono ?_; rintro e w2 ⟨u, rfl, u0, u1, hC2, hg2⟩
    go_wp2_with fail
    go_ret
    exact ⟨_, rfl, hC2.mono (by omega), grown_trans hg1 hg2⟩
  · go_wp2_with fail
    refine (amongL [-1, 0, 1, 1000, 1000000, 1000001, 4611686018427387904] _ (by decide) (by decide) g a n cap _ _ hC1 (by omega)).mono ?_; rintro e w2 ⟨i, _, rfl, hC2, hg2⟩
    go_wp2_with fail
    go_ret
    exact ⟨_, rfl, hC2.mono (by omega), grown_trans hg1 hg2⟩
set_option maxHeartbeats 4000000 in
theorem day_any (g : Nat) (a : Option Addr) (n cap : Nat) (B : Int) (w : World) (h : Cu g a n cap B w) (hB : B ≤ 600000000000) :
    Calls Tryz.prog 60 #[.pointer (some ⟨g, 0, none⟩)] w fun e w' => ∃ u : Int, e = .returned (.int .i64 u) ∧ Cu g a n cap (B + 4) w' ∧ w.grownBy w' (some g) := by
  go_enter Tryz.func60, Tryz.ntmps60
  go_wp2_with fail
  refine (one_any 8 g a n cap B _ h (by omega)).mono ?_; rintro e w1 ⟨r, rfl, hC1, hg1⟩
  cases r
  · go_wp2_with fail
    refine (pick_any 30 g a n cap _ _ hC1 (by omega)).mono ?_; rintro e w2 ⟨u, rfl, u0, u1, hC2, hg2⟩
    go_wp2_with fail
    go_ret
    exact ⟨_, rfl, hC2.mono (by omega), grown_trans hg1 hg2⟩
  · go_wp2_with fail
    refine (amongL [-1, 0, 1, 1000, 1001, 1000000, 1000001, 4611686018427387904] _ (by decide) (by decide) g a n cap _ _ hC1 (by omega)).mono ?_; rintro e w2 ⟨i, _, rfl, hC2, hg2⟩
    go_wp2_with fail
    go_ret
    exact ⟨_, rfl, hC2.mono (by omega), grown_trans hg1 hg2⟩
theorem slice_form {w : World} {base e size n : Nat} {v : Value} {xs : List Value} (h : w.ownsRow base e size v n xs) : ∃ a c, v = .slice a n c := by
  rcases h.2 with ⟨rfl, rfl⟩ | ⟨g, cap, cur, rfl, _⟩
  · exact ⟨none, 0, rfl⟩
  · exact ⟨_, _, rfl⟩
theorem Own.lowC {w : World} {base base' : Nat} {a : Option Addr} {cap : Nat} {xs : List Int} (h : Own w base a cap xs) (hb : base' ≤ base) : Own w base' a cap xs := by
  obtain ⟨hl, h⟩ := h
  refine ⟨hl, ?_⟩
  rcases h with h | ⟨g, c, cur, e, h1, h2⟩
  · exact .inl h
  · exact .inr ⟨g, c, cur, e, Nat.le_trans hb h1, h2⟩
/-- n bytes can be read at a -/
def RdY (w : World) (a : Option Addr) (n : Nat) : Prop :=
  n ≤ 1048576 ∧ (n = 0 ∨ ∃ b off, a = some ⟨b, off, none⟩ ∧ b < w.heap.size ∧ ∀ i, i < n → ∃ x : Int, 0 ≤ x ∧ x ≤ 255 ∧ w.cell? ⟨b, off + i, none⟩ = some (.int .u8 x))
theorem RdY.below {w w' : World} {a : Option Addr} {n : Nat} (h : RdY w a n) (hb : Below w.heap.size w w') : RdY w' a n := by
  refine ⟨h.1, ?_⟩
  rcases h.2 with h | ⟨b, off, h1, h2, h4⟩
  · exact .inl h
  · refine .inr ⟨b, off, h1, Nat.lt_of_lt_of_le h2 hb.size, fun i hi => ?_⟩
    obtain ⟨x, x1, x2, x3⟩ := h4 i hi
    exact ⟨x, x1, x2, by rw [(bcell hb).1 b _ h2]; exact x3⟩
theorem RdY.cu {w : World} {a : Option Addr} {n : Nat} (h : RdY w a n) (cap : Nat) (e : TypeId) : Cu w.heap.size a n cap 0 (w.alloc (.cells #[.slice a n cap, .int .i64 0, .int .u64 0] e)) := by
  refine ⟨?_, h.1, 0, 0, by omega, by omega, by omega, by omega, by simp, by go_simp, by go_simp, by go_simp, fun o => by go_simp⟩
  rcases h.2 with h | ⟨b, off, h1, h2, h4⟩
  · exact .inl h
  · refine .inr ⟨b, off, h1, h2, fun i hi => ?_⟩
    obtain ⟨x, x1, x2, x3⟩ := h4 i hi
    have hb : Below w.heap.size w (w.alloc (.cells #[.slice a n cap, .int .i64 0, .int .u64 0] e)) := ((Below.refl _ _).alloc (Nat.le_refl _) _)
    exact ⟨x, x1, x2, by rw [(bcell hb).1 b _ h2]; exact x3⟩
end Go.Proofs.YtalnellimbehoaaGreatDoor
