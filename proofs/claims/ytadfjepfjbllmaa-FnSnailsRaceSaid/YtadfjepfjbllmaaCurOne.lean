/- The draws of chapter 1, by contracts: they answer some numbers, some lists of few numbers; nothing that was there is turned. -/
import Derived.Test.YtadfjepfjbllmaaProg
import Derived.Test.YtadfjepfjbllmaaCur
import Derived.WalkKit
import Derived.WalkSpells
import Derived.WalkLawsBesides
import Derived.Lib.Hide
import Derived.Deep.LoopGhost
import Derived.Deep.QuietTactic
import Derived.Laws.AppendOwn
import Derived.BigQuiet
namespace Go.Proofs.Ytadfjepfjbllmaa
open Go.RowKit
set_option linter.unusedVariables false
set_option linter.unusedSimpArgs false
/-- a block that holds two numbers and may be written -/
def BxF (w : World) (b : Nat) (x y : Int) : Prop := b < w.heap.size ∧ w.cell? ⟨b, 0, none⟩ = some (.int .i64 x) ∧ w.cell? ⟨b, 1, none⟩ = some (.int .i64 y) ∧ ∀ o, w.frozen? ⟨b, o, none⟩ = false
theorem BxF.grown {w w' : World} {b : Nat} {x y : Int} {r : Option Nat} (h : BxF w b x y) (hg : w.grownBy w' r) (hr : some b ≠ r) : BxF w' b x y := by
  obtain ⟨h1, h2, h3, h4⟩ := h
  exact ⟨Nat.lt_of_lt_of_le h1 hg.size, hg.cell h2 hr, hg.cell h3 hr, fun o => by rw [hg.frozen_far _ h1 hr]; exact h4 o⟩
theorem BxF.made (w : World) (x y : Int) (e : TypeId) : BxF (w.alloc (.cells #[.int .i64 x, .int .i64 y] e)) w.heap.size x y := ⟨by simp, by go_simp, by go_simp, fun o => by go_simp⟩
theorem set2G (w : World) (b : Nat) (u v : Value) : w.grownBy ((w.setCell ⟨b, 0, none⟩ u).setCell ⟨b, 1, none⟩ v) (some b) := grown_trans (grown_set _ _ _) (grown_set _ _ _)
set_option maxHeartbeats 4000000 in
theorem sureSnail_any (g : Nat) (a : Option Addr) (n cap : Nat) (B : Int) (w : World) (h : Cu g a n cap B w) (hB : B ≤ 700000000000) :
    Calls Try.prog 51 #[.pointer (some ⟨g, 0, none⟩)] w fun e w' => ∃ u d : Int, e = .returned (.agg #[.int .i64 u, .int .i64 d]) ∧ Cu g a n cap (B + 6) w' ∧ w.grownBy w' (some g) := by
  go_enter Try.func51, Try.ntmps51
  go_wp2_with fail
  have b0 : Below w.heap.size w (w.alloc (.cells #[.int .i64 0, .int .i64 0] 25)) := ((Below.refl _ _).alloc (Nat.le_refl _) _)
  have h0 := h.below b0
  have hgl := h.lt
  have hbg : some w.heap.size ≠ some g := fun e => by injection e with e; omega
  refine (one_any 6 g a n cap B _ h0 (by omega)).mono ?_; rintro e w1 ⟨r, rfl, hC1, hg1⟩
  have X1 := (BxF.made w 0 0 25).grown hg1 hbg
  have G1 : w.grownBy w1 (some g) := grown_trans (grown_below b0) hg1
  clear b0 h0 hg1
  cases r
  · go_wp2_with fail
    refine (pick_any 9 g a n cap _ _ hC1 (by omega)).mono ?_; rintro e w2 ⟨u, rfl, u0, u1, hC2, hg2⟩
    go_wp2_with fail
    refine (pick_any (1 + u + 1) g a n cap _ _ hC2 (by omega)).mono ?_; rintro e w3 ⟨d, rfl, d0, d1, hC3, hg3⟩
    have G3 : w1.grownBy w3 (some g) := grown_trans hg2 hg3
    obtain ⟨x1, x2, x3, x4⟩ := X1.grown G3 hbg
    have x40 := x4 0
    have x41 := x4 1
    go_wp2_with fail
    refine bodyPost_ret (v := .agg #[.int .i64 (1 + u), .int .i64 d]) (by simp [results, Try.results51, go_sem, x2, x3]) rfl ⟨_, _, rfl, ?_, ?_⟩
    · exact (hC3.mono (by omega)).grown (set2G _ _ _ _) (fun k hk => by injection hk with hk; omega)
    · exact grown_own (grown_trans G1 G3) (set2G _ _ _ _) (fun k hk => by injection hk with hk; omega)
  · go_wp2_with fail
    refine (amongL [1, 7, 1000] _ (by decide) (by decide) g a n cap _ _ hC1 (by omega)).mono ?_; rintro e w2 ⟨i, _, rfl, hC2, hg2⟩
    generalize [1, 7, 1000].getD i (0 : Int) = u
    go_wp2_with fail
    refine (amongL [0, 1, 7, 999, 1000] _ (by decide) (by decide) g a n cap _ _ hC2 (by omega)).mono ?_; rintro e w3 ⟨j, _, rfl, hC3, hg3⟩
    generalize [0, 1, 7, 999, 1000].getD j (0 : Int) = d
    have G3 : w1.grownBy w3 (some g) := grown_trans hg2 hg3
    obtain ⟨x1, x2, x3, x4⟩ := X1.grown G3 hbg
    have x40 := x4 0
    have x41 := x4 1
    go_wp2_with fail
    refine bodyPost_ret (v := .agg #[.int .i64 u, .int .i64 d]) (by simp [results, Try.results51, go_sem, x2, x3]) rfl ⟨_, _, rfl, ?_, ?_⟩
    · exact (hC3.mono (by omega)).grown (set2G _ _ _ _) (fun k hk => by injection hk with hk; omega)
    · exact grown_own (grown_trans G1 G3) (set2G _ _ _ _) (fun k hk => by injection hk with hk; omega)
set_option maxHeartbeats 4000000 in
theorem snail_any (g : Nat) (a : Option Addr) (n cap : Nat) (B : Int) (w : World) (h : Cu g a n cap B w) (hB : B ≤ 600000000000) :
    Calls Try.prog 22 #[.pointer (some ⟨g, 0, none⟩)] w fun e w' => ∃ u d : Int, e = .returned (.agg #[.int .i64 u, .int .i64 d]) ∧ Cu g a n cap (B + 8) w' ∧ w.grownBy w' (some g) := by
  go_enter Try.func22, Try.ntmps22
  go_wp2_with fail
  have b0 : Below w.heap.size w (w.alloc (.cells #[.int .i64 0, .int .i64 0] 25)) := ((Below.refl _ _).alloc (Nat.le_refl _) _)
  have h0 := h.below b0
  have hgl := h.lt
  have hbg : some w.heap.size ≠ some g := fun e => by injection e with e; omega
  refine (one_any 14 g a n cap B _ h0 (by omega)).mono ?_; rintro e w1 ⟨r, rfl, hC1, hg1⟩
  have X1 := (BxF.made w 0 0 25).grown hg1 hbg
  have G1 : w.grownBy w1 (some g) := grown_trans (grown_below b0) hg1
  clear b0 h0 hg1
  cases r
  · go_wp2_with fail
    refine (sureSnail_any g a n cap _ _ hC1 (by omega)).mono ?_; rintro e w3 ⟨u, d, rfl, hC3, G3⟩
    obtain ⟨x1, x2, x3, x4⟩ := X1.grown G3 hbg
    have x40 := x4 0
    have x41 := x4 1
    go_wp2_with fail
    refine bodyPost_ret (v := .agg #[.int .i64 u, .int .i64 d]) (by simp [results, Try.results22, go_sem, x2, x3]) rfl ⟨_, _, rfl, ?_, ?_⟩
    · exact (hC3.mono (by omega)).grown (set2G _ _ _ _) (fun k hk => by injection hk with hk; omega)
    · exact grown_own (grown_trans G1 G3) (set2G _ _ _ _) (fun k hk => by injection hk with hk; omega)
  · go_wp2_with fail
    refine (amongL [-1, 0, 1, 1001, 4611686018427387904] _ (by decide) (by decide) g a n cap _ _ hC1 (by omega)).mono ?_; rintro e w2 ⟨i, _, rfl, hC2, hg2⟩
    generalize [-1, 0, 1, 1001, 4611686018427387904].getD i (0 : Int) = u
    go_wp2_with fail
    refine (amongL [-1, 0, 1, 1001, -9223372036854775808] _ (by decide) (by decide) g a n cap _ _ hC2 (by omega)).mono ?_; rintro e w3 ⟨j, _, rfl, hC3, hg3⟩
    generalize [-1, 0, 1, 1001, -9223372036854775808].getD j (0 : Int) = d
    have G3 : w1.grownBy w3 (some g) := grown_trans hg2 hg3
    obtain ⟨x1, x2, x3, x4⟩ := X1.grown G3 hbg
    have x40 := x4 0
    have x41 := x4 1
    go_wp2_with fail
    refine bodyPost_ret (v := .agg #[.int .i64 u, .int .i64 d]) (by simp [results, Try.results22, go_sem, x2, x3]) rfl ⟨_, _, rfl, ?_, ?_⟩
    · exact (hC3.mono (by omega)).grown (set2G _ _ _ _) (fun k hk => by injection hk with hk; omega)
    · exact grown_own (grown_trans G1 G3) (set2G _ _ _ _) (fun k hk => by injection hk with hk; omega)
set_option maxHeartbeats 4000000 in
theorem wall_any (g : Nat) (a : Option Addr) (n cap : Nat) (B : Int) (w : World) (h : Cu g a n cap B w) (hB : B ≤ 600000000000) :
    Calls Try.prog 23 #[.pointer (some ⟨g, 0, none⟩)] w fun e w' => ∃ u : Int, e = .returned (.int .i64 u) ∧ Cu g a n cap (B + 4) w' ∧ w.grownBy w' (some g) := by
  go_enter Try.func23, Try.ntmps23
  go_wp2_with fail
  refine (one_any 8 g a n cap B _ h (by omega)).mono ?_; rintro e w1 ⟨r, rfl, hC1, hg1⟩
  cases r
  · go_wp2_with fail
    refine (pick_any 60 g a n cap _ _ hC1 (by omega)).mono ?_; rintro e w2 ⟨u, rfl, u0, u1, hC2, hg2⟩
    go_wp2_with fail
    go_ret
    exact ⟨_, rfl, hC2.mono (by omega), grown_trans hg1 hg2⟩
  · go_wp2_with fail
    refine (amongL [-1, 0, 1, 1000, 1000000, 1000001, 4611686018427387904] _ (by decide) (by decide) g a n cap _ _ hC1 (by omega)).mono ?_; rintro e w2 ⟨i, _, rfl, hC2, hg2⟩
    go_wp2_with fail
    go_ret
    exact ⟨_, rfl, hC2.mono (by omega), grown_trans hg1 hg2⟩
set_option maxHeartbeats 4000000 in
theorem day_any (g : Nat) (a : Option Addr) (n cap : Nat) (B : Int) (w : World) (h : Cu g a n cap B w) (hB : B ≤ 600000000000) :
    Calls Try.prog 24 #[.pointer (some ⟨g, 0, none⟩)] w fun e w' => ∃ u : Int, e = .returned (.int .i64 u) ∧ Cu g a n cap (B + 4) w' ∧ w.grownBy w' (some g) := by
  go_enter Try.func24, Try.ntmps24
  go_wp2_with fail
  refine (one_any 8 g a n cap B _ h (by omega)).mono ?_; rintro e w1 ⟨r, rfl, hC1, hg1⟩
  cases r
  · go_wp2_with fail
    refine (pick_any 30 g a n cap _ _ hC1 (by omega)).mono ?_; rintro e w2 ⟨u, rfl, u0, u1, hC2, hg2⟩
    go_wp2_with fail
    go_ret
    exact ⟨_, rfl, hC2.mono (by omega), grown_trans hg1 hg2⟩
  · go_wp2_with fail
    refine (amongL [-1, 0, 1, 1000, 1001, 1000000, 1000001, 4611686018427387904] _ (by decide) (by decide) g a n cap _ _ hC1 (by omega)).mono ?_; rintro e w2 ⟨i, _, rfl, hC2, hg2⟩
    go_wp2_with fail
    go_ret
    exact ⟨_, rfl, hC2.mono (by omega), grown_trans hg1 hg2⟩
theorem slice_form {w : World} {base e size n : Nat} {v : Value} {xs : List Value} (h : w.ownsRow base e size v n xs) : ∃ a c, v = .slice a n c := by
  rcases h.2 with ⟨rfl, rfl⟩ | ⟨g, cap, cur, rfl, _⟩
  · exact ⟨none, 0, rfl⟩
  · exact ⟨_, _, rfl⟩
set_option maxHeartbeats 8000000 in
theorem slips_any (g : Nat) (a : Option Addr) (n cap : Nat) (B : Int) (w : World) (h : Cu g a n cap B w) (hB : B ≤ 600000000000) :
    Calls Try.prog 57 #[.pointer (some ⟨g, 0, none⟩)] w fun e w' => ∃ (a' : Option Addr) (c' : Nat) (xs : List Int), e = .returned (.slice a' xs.length c') ∧ xs.length ≤ 13 ∧ Own w' w.heap.size a' c' xs ∧ Cu g a n cap (B + 100) w' ∧ w.grownBy w' (some g) := by
  obtain ⟨i0, hi, hz0, hz1, hz2⟩ := info_parts intInfo
  have hgl := h.lt
  go_enter Try.func57, Try.ntmps57
  go_wp2_with fail
  refine (pick_any 4 g a n cap _ _ h (by omega)).mono ?_; rintro e w1 ⟨r, rfl, r0, r1, hC1, hg1⟩
  obtain ⟨m, rfl⟩ : ∃ m : Nat, r = (m : Int) := ⟨r.toNat, by omega⟩
  have hm : m ≤ 3 := by omega
  go_wp2_with fail
  go_loopg [4, 3] (m + 1) (fun k v4 v3 wr => ∃ (v : Value) (xs : List Int), v4 = .int .i64 (k : Int) ∧ v3 = v ∧ xs.length + k ≤ 4 ∧ wr.ownsRow w.heap.size 3 1 v xs.length (xs.map (Value.int .i64)) ∧ Cu g a n cap (B + 2 + 2 * (xs.length : Int)) wr ∧ w.grownBy wr (some g))
  case atStart => exact ⟨_, [], by simp [Int.add_comm], rfl, by simp; omega, World.ownsRow_nil _ _ _ _, by simpa using hC1, hg1⟩
  case round =>
    obtain ⟨v, xs, rfl, rfl, hlen, hown, hC, hG⟩ := hrel
    have hvg : u3.ownBlock = none ∨ u3.ownBlock ≠ some g := by
      cases hq : u3.ownBlock with
      | none => exact .inl rfl
      | some k => exact .inr fun e => by have := (hown.lt k hq).1; injection e with e; omega
    have hlt := hown.lt
    have hsw := hG.size
    by_cases hk : 0 < gk
    · obtain ⟨j, rfl⟩ : ∃ j, gk = j + 1 := ⟨gk - 1, by omega⟩
      have hjI : ¬ ((j : Int) + 1 ≤ 0) := by omega
      go_wp2_with fail
      refine (pick_any 6 g a n cap _ _ hC (by omega)).mono ?_; rintro e w2 ⟨x, rfl, x0, x1, hC2, hg2⟩
      have hown2 := hown.kept hg2 hvg
      have G2 := grown_trans hG hg2
      have hs2 := G2.size
      have B3 : Below w2.heap.size w2 (w2.alloc (.cells #[.int .i64 x] 3)) := ((Below.refl _ _).alloc (Nat.le_refl _) _)
      have C3 := hC2.below B3
      have G3 : w.grownBy (w2.alloc (.cells #[.int .i64 x] 3)) (some g) := grown_trans G2 (grown_below B3)
      have K1 := Lib.hid C3
      have K2 := Lib.hid G3
      clear hown hC hG hg2 hC2 G2 B3 C3 G3
      go_wp2_with (first | (at_builtin; refine wpList_append_own _ rfl _ _ 33 rfl w.heap.size 3 i0 (.int .i64 0) 1 8 Try.underlying33 hi hz0 hz1 hz2 rfl (by decide) _ _ _ rfl (hown2.alloc _) ⟨w2.heap.size, 0, none⟩ 1 1 [.int .i64 x] rfl rfl (cell_one_new _ _ _) (fun u hu => by simp at hu; subst hu; rfl) (by unfold maxLen; omega) (by omega) (by first | omega | (simp; omega)) ?_; intro v1 w9 hown9 hgrow9 hx9; clear hx9))
      have C9 := K1.out.grown hgrow9 (fun k hk => by have := (hlt k hk).1; omega)
      have G9 := grown_own K2.out hgrow9 (fun i hi => (hlt i hi).1)
      have O9 : w9.ownsRow w.heap.size 3 1 v1 (xs ++ [x]).length ((xs ++ [x]).map (Value.int .i64)) := by simpa using hown9
      clear K1 K2 hgrow9 hown2 hown9
      have HC := Lib.hid (C9.mono (C := B + 2 + 2 * ((xs ++ [x]).length : Int)) (by simp; omega))
      have HG := Lib.hid G9
      have HO := Lib.hid O9
      clear C9 G9 O9
      try go_wp2_with fail
      go_roundg j
      case rel => exact ⟨v1, xs ++ [x], by go_num, rfl, by simp; omega, HO.out, HC.out, HG.out⟩
      case measure => omega
    · obtain rfl : gk = 0 := by omega
      have hlen4 : xs.length ≤ 4 := by omega
      go_wp2_with fail
      refine (pick_any 16 g a n cap _ _ hC (by omega)).mono ?_; rintro e w2 ⟨r, rfl, r0, r1, hC2, hg2⟩
      have hown2 := hown.kept hg2 hvg
      have G2 := grown_trans hG hg2
      have hs2 := G2.size
      have C2 := hC2.mono (C := B + 12) (by omega)
      clear hown hC hG hg2 hC2
      obtain ⟨va, vc, hv⟩ := slice_form hown2
      subst hv
      have hlI : (xs.length : Int) ≤ 4 := by omega
      by_cases q0 : r = 0
      · subst q0
        have K1 := Lib.hid C2
        have K2 := Lib.hid G2
        clear C2 G2 hown2
        go_wp2_with fail
        go_ret
        refine ⟨none, 0, [], rfl, by simp, World.ownsRow_nil _ _ _ _, K1.out.mono (by omega), K2.out⟩
      by_cases q1 : r = 1
      · subst q1
        go_wp2_with fail
        refine (amongL [-1, 0, 1000, 1001, 4611686018427387904] _ (by decide) (by decide) g a n cap _ _ C2 (by omega)).mono ?_; rintro e w4 ⟨i, _, rfl, hC4, hg4⟩
        generalize [-1, 0, 1000, 1001, 4611686018427387904].getD i (0 : Int) = x
        have hown4 := hown2.kept hg4 hvg
        have G4 := grown_trans G2 hg4
        have hs4 := G4.size
        have B5 : Below w4.heap.size w4 (w4.alloc (.cells #[.int .i64 x] 3)) := ((Below.refl _ _).alloc (Nat.le_refl _) _)
        have K1 := Lib.hid (hC4.below B5)
        have K2 := Lib.hid (show w.grownBy (w4.alloc (.cells #[.int .i64 x] 3)) (some g) from grown_trans G4 (grown_below B5))
        clear hown2 C2 G2 hC4 hg4 G4 B5
        go_wp2_with (first | (at_builtin; refine wpList_append_own _ rfl _ _ 33 rfl w.heap.size 3 i0 (.int .i64 0) 1 8 Try.underlying33 hi hz0 hz1 hz2 rfl (by decide) _ _ _ rfl (hown4.alloc _) ⟨w4.heap.size, 0, none⟩ 1 1 [.int .i64 x] rfl rfl (cell_one_new _ _ _) (fun u hu => by simp at hu; subst hu; rfl) (by unfold maxLen; omega) (by omega) (by first | omega | (simp; omega)) ?_; intro v1 w9 hown9 hgrow9 hx9; clear hx9))
        have HC := Lib.hid (K1.out.grown hgrow9 (fun k hk => by have := (hlt k hk).1; omega))
        have HG := Lib.hid (grown_own K2.out hgrow9 (fun i hi => (hlt i hi).1))
        obtain ⟨va2, vc2, hv2⟩ := slice_form hown9
        subst hv2
        have HO := Lib.hid (show Own w9 w.heap.size va2 vc2 (xs ++ [x]) by unfold Own; simpa using hown9)
        clear K1 K2 hgrow9 hown4 hown9
        try go_wp2_with fail
        go_ret
        exact ⟨va2, vc2, xs ++ [x], by simp, by simp; omega, HO.out, HC.out.mono (by omega), HG.out⟩
      by_cases q2 : r = 2
      · subst q2
        go_wp2_with fail
        go_loopg [3] (13 - xs.length) (fun k v3 wr => ∃ (va : Option Addr) (vc : Nat) (ys : List Int), v3 = .slice va ys.length vc ∧ ys.length + k = 13 ∧ wr.ownsRow w.heap.size 3 1 (.slice va ys.length vc) ys.length (ys.map (Value.int .i64)) ∧ Cu g a n cap (B + 12 + 4 * (ys.length : Int)) wr ∧ w.grownBy wr (some g))
        case atStart => exact ⟨va, vc, xs, rfl, by omega, hown2, C2.mono (by omega), G2⟩
        case round =>
          obtain ⟨vb, vd, ys, rfl, hlen, hown, hC, hG⟩ := hrel
          clear hvg hlt hown2 C2 G2
          have hlt := hown.lt
          have hvg : (Value.slice vb ys.length vd).ownBlock = none ∨ (Value.slice vb ys.length vd).ownBlock ≠ some g := by
            cases hq : (Value.slice vb ys.length vd).ownBlock with
            | none => exact .inl rfl
            | some k => exact .inr fun e => by have := (hlt k hq).1; injection e with e; omega
          go_wp2_with fail
          refine (pick_any 2 g a n cap _ _ hC (by omega)).mono ?_; rintro e w3 ⟨s, rfl, s0, s1, hC3, hg3⟩
          have hown3 := hown.kept hg3 hvg
          have G3 := grown_trans hG hg3
          clear hown hC hG hg3
          by_cases hl : (ys.length : Int) < 12 + s
          · have hl2 : ys.length ≤ 12 := by omega
            go_wp2_with fail
            refine (pick_any 4 g a n cap _ _ hC3 (by omega)).mono ?_; rintro e w4 ⟨x, rfl, x0, x1, hC4, hg4⟩
            have hown4 := hown3.kept hg4 hvg
            have G4 := grown_trans G3 hg4
            have hs4 := G4.size
            have B5 : Below w4.heap.size w4 (w4.alloc (.cells #[.int .i64 x] 3)) := ((Below.refl _ _).alloc (Nat.le_refl _) _)
            have K1 := Lib.hid (hC4.below B5)
            have K2 := Lib.hid (show w.grownBy (w4.alloc (.cells #[.int .i64 x] 3)) (some g) from grown_trans G4 (grown_below B5))
            clear hown3 hC3 G3 hC4 hg4 G4 B5
            go_wp2_with (first | (at_builtin; refine wpList_append_own _ rfl _ _ 33 rfl w.heap.size 3 i0 (.int .i64 0) 1 8 Try.underlying33 hi hz0 hz1 hz2 rfl (by decide) _ _ _ rfl (hown4.alloc _) ⟨w4.heap.size, 0, none⟩ 1 1 [.int .i64 x] rfl rfl (cell_one_new _ _ _) (fun u hu => by simp at hu; subst hu; rfl) (by unfold maxLen; omega) (by omega) (by first | omega | (simp; omega)) ?_; intro v1 w9 hown9 hgrow9 hx9; clear hx9))
            have C9 := K1.out.grown hgrow9 (fun k hk => by have := (hlt k hk).1; omega)
            have HG := Lib.hid (grown_own K2.out hgrow9 (fun i hi => (hlt i hi).1))
            obtain ⟨va2, vc2, hv2⟩ := slice_form hown9
            subst hv2
            have HO := Lib.hid (show w9.ownsRow w.heap.size 3 1 (.slice va2 (ys ++ [x]).length vc2) (ys ++ [x]).length ((ys ++ [x]).map (Value.int .i64)) by simpa using hown9)
            have HC := Lib.hid (C9.mono (C := B + 12 + 4 * ((ys ++ [x]).length : Int)) (by simp; omega))
            clear K1 K2 hgrow9 hown4 hown9 C9
            try go_wp2_with fail
            go_roundg (gk - 1)
            case rel => exact ⟨va2, vc2, ys ++ [x], by simp, by simp; omega, HO.out, HC.out, HG.out⟩
            case measure => omega
          · have K1 := Lib.hid hC3
            have K2 := Lib.hid G3
            have K3 := Lib.hid hown3
            clear hC3 G3 hown3
            go_wp2_with fail
            go_ret
            exact ⟨vb, vd, ys, rfl, by omega, K3.out, K1.out.mono (by omega), K2.out⟩
      · have K1 := Lib.hid C2
        have K2 := Lib.hid G2
        have K3 := Lib.hid hown2
        clear C2 G2 hown2
        go_wp2_with fail
        go_ret
        refine ⟨va, vc, xs, rfl, by omega, K3.out, K1.out.mono (by omega), K2.out⟩
theorem Own.lowC {w : World} {base base' : Nat} {a : Option Addr} {cap : Nat} {xs : List Int} (h : Own w base a cap xs) (hb : base' ≤ base) : Own w base' a cap xs := by
  obtain ⟨hl, h⟩ := h
  refine ⟨hl, ?_⟩
  rcases h with h | ⟨g, c, cur, e, h1, h2⟩
  · exact .inl h
  · exact .inr ⟨g, c, cur, e, Nat.le_trans hb h1, h2⟩
/-- n bytes can be read at a -/
def RdY (w : World) (a : Option Addr) (n : Nat) : Prop :=
  n ≤ 1048576 ∧ (n = 0 ∨ ∃ b off, a = some ⟨b, off, none⟩ ∧ b < w.heap.size ∧ ∀ i, i < n → ∃ x : Int, 0 ≤ x ∧ x ≤ 255 ∧ w.cell? ⟨b, off + i, none⟩ = some (.int .u8 x))
theorem RdY.below {w w' : World} {a : Option Addr} {n : Nat} (h : RdY w a n) (hb : Below w.heap.size w w') : RdY w' a n := by
  refine ⟨h.1, ?_⟩
  rcases h.2 with h | ⟨b, off, h1, h2, h4⟩
  · exact .inl h
  · refine .inr ⟨b, off, h1, Nat.lt_of_lt_of_le h2 hb.size, fun i hi => ?_⟩
    obtain ⟨x, x1, x2, x3⟩ := h4 i hi
    exact ⟨x, x1, x2, by rw [(bcell hb).1 b _ h2]; exact x3⟩
theorem RdY.cu {w : World} {a : Option Addr} {n : Nat} (h : RdY w a n) (cap : Nat) (e : TypeId) : Cu w.heap.size a n cap 0 (w.alloc (.cells #[.slice a n cap, .int .i64 0, .int .u64 0] e)) := by
  refine ⟨?_, h.1, 0, 0, by omega, by omega, by omega, by omega, by simp, by go_simp, by go_simp, by go_simp, fun o => by go_simp⟩
  rcases h.2 with h | ⟨b, off, h1, h2, h4⟩
  · exact .inl h
  · refine .inr ⟨b, off, h1, h2, fun i hi => ?_⟩
    obtain ⟨x, x1, x2, x3⟩ := h4 i hi
    have hb : Below w.heap.size w (w.alloc (.cells #[.slice a n cap, .int .i64 0, .int .u64 0] e)) := ((Below.refl _ _).alloc (Nat.le_refl _) _)
    exact ⟨x, x1, x2, by rw [(bcell hb).1 b _ h2]; exact x3⟩
set_option maxHeartbeats 8000000 in
theorem drawLeadOf (a : Option Addr) (n cap : Nat) (w : World) (h : RdY w a n) :
    Calls Try.prog 5 #[.slice a n cap] w fun e w' => ∃ u d v z p q : Int, e = .returned (.tuple #[.agg #[.int .i64 u, .int .i64 d], .agg #[.int .i64 v, .int .i64 z], .int .i64 p, .int .i64 q]) ∧ Below w.heap.size w w' := by
  go_enter Try.func5, Try.ntmps5
  go_wp2_with fail
  generalize hq : World.alloc (World.alloc w _) _ = w1
  have B1 : Below w.heap.size w w1 := by subst hq; exact (Below.alloc (Below.refl _ _) (Nat.le_refl _) _).alloc (by simp) _
  have s1 : w1.heap.size = w.heap.size + 1 + 1 := by subst hq; simp
  have X0 : BxF w1 w.heap.size 0 0 := by subst hq; exact ⟨by (simp; omega), by go_simp, by go_simp, fun o => by go_simp⟩
  have Y0 : BxF w1 (w.heap.size + 1) 0 0 := by subst hq; exact ⟨by simp, by go_simp, by go_simp, fun o => by go_simp⟩
  clear hq
  have hC := (h.below B1).cu cap 43
  have bc : w1.grownBy (w1.alloc (.cells #[.slice a n cap, .int .i64 0, .int .u64 0] 43)) (some w1.heap.size) := grown_below ((Below.refl _ _).alloc (Nat.le_refl _) _)
  have g0 : some w.heap.size ≠ some w1.heap.size := fun e => by injection e with e; omega
  have g1 : some (w.heap.size + 1) ≠ some w1.heap.size := fun e => by injection e with e; omega
  have X0 := X0.grown bc g0
  have Y0 := Y0.grown bc g1
  rw [← s1]
  have S1 := Lib.hid s1
  clear s1
  refine (snail_any w1.heap.size a n cap 0 _ hC (by omega)).mono ?_; rintro e w2 ⟨u, d, rfl, hC2, hg2⟩
  go_wp2_with fail
  refine (snail_any w1.heap.size a n cap _ _ hC2 (by omega)).mono ?_; rintro e w3 ⟨v, z, rfl, hC3, hg3⟩
  go_wp2_with fail
  refine (wall_any w1.heap.size a n cap _ _ hC3 (by omega)).mono ?_; rintro e w4 ⟨p, rfl, hC4, hg4⟩
  go_wp2_with fail
  refine (day_any w1.heap.size a n cap _ _ hC4 (by omega)).mono ?_; rintro e w5 ⟨q, rfl, hC5, hg5⟩
  have s1 := S1.out
  have G5 := grown_trans (grown_trans (grown_trans hg2 hg3) hg4) hg5
  have G6 := grown_trans bc G5
  have B5 : Below w.heap.size w w5 := B1.grown G6 (by omega) (fun k hk => by injection hk with hk; omega)
  obtain ⟨x1, x2, x3, x4⟩ := X0.grown G5 g0
  obtain ⟨y1, y2, y3, y4⟩ := Y0.grown G5 g1
  have x40 := x4 0
  have x41 := x4 1
  have y40 := y4 0
  have y41 := y4 1
  clear s1 hC hC2 hC3 hC4 hC5 hg2 hg3 hg4 hg5 G5 G6 X0 Y0 bc g0 g1
  go_wp2_with fail
  refine bodyPost_ret (v := .tuple #[.agg #[.int .i64 u, .int .i64 d], .agg #[.int .i64 v, .int .i64 z], .int .i64 p, .int .i64 q]) (by simp [results, Try.results5, go_sem, x2, x3, y2, y3]) rfl ⟨u, d, v, z, p, q, rfl, ?_⟩
  exact (((B5.setCell (by simp) _).setCell (by simp) _).setCell (by simp) _).setCell (by simp) _
set_option maxHeartbeats 8000000 in
theorem drawDaysWithSlips (a : Option Addr) (n cap : Nat) (w : World) (h : RdY w a n) :
    Calls Try.prog 39 #[.slice a n cap] w fun e w' => ∃ (up p : Int) (xs : List Int) (a' : Option Addr) (c' : Nat), e = .returned (.tuple #[.int .i64 up, .slice a' xs.length c', .int .i64 p]) ∧ xs.length ≤ 13 ∧ Own w' w.heap.size a' c' xs ∧ Below w.heap.size w w' := by
  go_enter Try.func39, Try.ntmps39
  go_wp2_with fail
  have hC := h.cu cap 43
  have b0 : Below w.heap.size w (w.alloc (.cells #[.slice a n cap, .int .i64 0, .int .u64 0] 43)) := ((Below.refl _ _).alloc (Nat.le_refl _) _)
  have s1 : (w.alloc (.cells #[.slice a n cap, .int .i64 0, .int .u64 0] 43)).heap.size = w.heap.size + 1 := by simp
  generalize World.alloc w (.cells #[.slice a n cap, .int .i64 0, .int .u64 0] 43) = w1 at hC b0 s1 ⊢
  rw [← s1]
  refine (amongL [1, 2, 3, 4, 5, 7, 1000, 1001, 0] _ (by decide) (by decide) w.heap.size a n cap _ _ hC (by omega)).mono ?_; rintro e w2 ⟨i, _, rfl, hC2, hg2⟩
  generalize [1, 2, 3, 4, 5, 7, 1000, 1001, 0].getD i (0 : Int) = up
  go_wp2_with fail
  refine (slips_any w.heap.size a n cap _ _ hC2 (by omega)).mono ?_; rintro e w3 ⟨a', c', xs, rfl, hxl, hO, hC3, hg3⟩
  go_wp2_with fail
  refine (wall_any w.heap.size a n cap _ _ hC3 (by omega)).mono ?_; rintro e w4 ⟨p, rfl, hC4, hg4⟩
  have s2 := hg2.size
  have s0 := b0.size
  have hgl := hC2.lt
  have G4 := grown_trans (grown_trans hg2 hg3) hg4
  have B4 : Below w.heap.size w w4 := b0.grown G4 s0 (fun k hk => by injection hk with hk; omega)
  have hlt := hO.lt
  have hO4 : w4.ownsRow w2.heap.size 3 1 (.slice a' xs.length c') xs.length (xs.map (Value.int .i64)) := World.ownsRow.kept hO hg4 (by
    cases hq : (Value.slice a' xs.length c').ownBlock with
    | none => exact .inl rfl
    | some k => exact .inr fun e => by have := (hlt k hq).1; injection e with e; omega)
  clear hC hC2 hC3 hC4 hg2 hg3 hg4 G4 b0 hO
  go_wp2_with fail
  exact bodyPost_ret (v := .tuple #[.int .i64 up, .slice a' xs.length c', .int .i64 p]) (by simp [results, Try.results39, go_sem]) rfl ⟨up, p, xs, a', c', rfl, hxl, Own.lowC hO4 (by omega), B4⟩
set_option maxHeartbeats 8000000 in
theorem drawHeightsWithSlips (a : Option Addr) (n cap : Nat) (w : World) (h : RdY w a n) :
    Calls Try.prog 14 #[.slice a n cap] w fun e w' => ∃ (up p q : Int) (xs : List Int) (a' : Option Addr) (c' : Nat), e = .returned (.tuple #[.int .i64 up, .slice a' xs.length c', .int .i64 p, .int .i64 q]) ∧ xs.length ≤ 13 ∧ Own w' w.heap.size a' c' xs ∧ Below w.heap.size w w' := by
  go_enter Try.func14, Try.ntmps14
  go_wp2_with fail
  have hC := h.cu cap 43
  have b0 : Below w.heap.size w (w.alloc (.cells #[.slice a n cap, .int .i64 0, .int .u64 0] 43)) := ((Below.refl _ _).alloc (Nat.le_refl _) _)
  have s0 := b0.size
  refine (drawDaysWithSlips a n cap _ (h.below b0)).mono ?_; rintro e w2 ⟨up, p, xs, a', c', rfl, hxl, hO, hb2⟩
  have hC2 := hC.below hb2
  have B2 := b0.trans (hb2.mono s0)
  go_wp2_with fail
  refine (day_any w.heap.size a n cap _ _ hC2 (by omega)).mono ?_; rintro e w3 ⟨q, rfl, hC3, hg3⟩
  have B3 : Below w.heap.size w w3 := B2.grown hg3 B2.size (fun k hk => by injection hk with hk; omega)
  have hlt := hO.lt
  have hO3 := World.ownsRow.kept hO hg3 (by
    cases hq : (Value.slice a' xs.length c').ownBlock with
    | none => exact .inl rfl
    | some k => exact .inr fun e => by have := (hlt k hq).1; injection e with e; simp at this; omega)
  clear hC hC2 hC3 hg3 b0 hO B2 hb2
  go_wp2_with fail
  exact bodyPost_ret (v := .tuple #[.int .i64 up, .slice a' xs.length c', .int .i64 p, .int .i64 q]) (by simp [results, Try.results14, go_sem]) rfl ⟨up, p, q, xs, a', c', rfl, hxl, Own.lowC hO3 (by simp), B3⟩
end Go.Proofs.Ytadfjepfjbllmaa
