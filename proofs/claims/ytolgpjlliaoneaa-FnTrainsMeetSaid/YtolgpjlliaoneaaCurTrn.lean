/- The draws of chapter 5, by contracts: they answer some numbers, some lists of few trains; nothing that was there is turned. -/
import Derived.Test.YtolgpjlliaoneaaProg
import Derived.Test.YtolgpjlliaoneaaCur
import Derived.Test.YtolgpjlliaoneaaCurOne
import Derived.Test.YtolgpjlliaoneaaPairsN
import Derived.WalkKit
import Derived.WalkSpells
import Derived.WalkLawsBesides
import Derived.Lib.Hide
import Derived.Deep.LoopGhost
import Derived.Deep.QuietTactic
import Derived.Laws.AppendOwn
import Derived.BigQuiet
namespace Go.Proofs.Ytolgpjlliaoneaa
open Go.RowKit
set_option linter.unusedVariables false
set_option linter.unusedSimpArgs false
set_option maxHeartbeats 4000000 in
theorem sureTrain_any (g : Nat) (a : Option Addr) (n cap : Nat) (B : Int) (w : World) (h : Cu g a n cap B w) (hB : B ≤ 700000000000) :
    Calls Try.prog 62 #[.pointer (some ⟨g, 0, none⟩)] w fun e w' => ∃ u d : Int, e = .returned (.agg #[.int .i64 u, .int .i64 d]) ∧ (1 ≤ u ∧ u ≤ 1000 ∧ 1 ≤ d ∧ d ≤ 30) ∧ Cu g a n cap (B + 6) w' ∧ w.grownBy w' (some g) := by
  go_enter Try.func62, Try.ntmps62
  go_wp2_with fail
  have b0 : Below w.heap.size w (w.alloc (.cells #[.int .i64 0, .int .i64 0] 25)) := ((Below.refl _ _).alloc (Nat.le_refl _) _)
  have h0 := h.below b0
  have hgl := h.lt
  have hbg : some w.heap.size ≠ some g := fun e => by injection e with e; omega
  have s1 : (w.alloc (.cells #[.int .i64 0, .int .i64 0] 25)).heap.size = w.heap.size + 1 := by simp
  have X0 := BxF.made w 0 0 25
  generalize World.alloc w (.cells #[.int .i64 0, .int .i64 0] 25) = w0 at b0 h0 s1 X0 ⊢
  rw [← s1]
  refine (amongL [1, 10, 60, 80, 120, 1000] _ (by decide) (by decide) g a n cap B _ h0 (by omega)).mono ?_; rintro e w1 ⟨i, hi, rfl, hC1, hg1⟩
  have hu : 1 ≤ [1, 10, 60, 80, 120, 1000].getD i (0 : Int) ∧ [1, 10, 60, 80, 120, 1000].getD i (0 : Int) ≤ 1000 := by
    have : ∀ i, i < 6 → 1 ≤ [1, 10, 60, 80, 120, 1000].getD i (0 : Int) ∧ [1, 10, 60, 80, 120, 1000].getD i (0 : Int) ≤ 1000 := by decide
    exact this i hi
  generalize [1, 10, 60, 80, 120, 1000].getD i (0 : Int) = u at *
  have X1 := X0.grown hg1 hbg
  have G1 : w.grownBy w1 (some g) := grown_trans (grown_below b0) hg1
  clear b0 h0 hg1 hi s1 X0
  go_wp2_with fail
  refine (pick_any 1 g a n cap _ _ hC1 (by omega)).mono ?_; rintro e w2 ⟨x, rfl, x0, x1, hC2, hg2⟩
  obtain rfl : x = 0 := by omega
  go_wp2_with fail
  refine (pick_any 30 g a n cap _ _ hC2 (by omega)).mono ?_; rintro e w3 ⟨d, rfl, d0, d1, hC3, hg3⟩
  have G3 : w1.grownBy w3 (some g) := grown_trans hg2 hg3
  obtain ⟨x1, x2, x3, x4⟩ := X1.grown G3 hbg
  have x40 := x4 0
  have x41 := x4 1
  go_wp2_with fail
  refine bodyPost_ret (v := .agg #[.int .i64 u, .int .i64 (1 + d)]) (by simp [results, Try.results62, go_sem, x2, x3]) rfl ⟨_, _, rfl, by omega, ?_, ?_⟩
  · exact (hC3.mono (by omega)).grown (set2G _ _ _ _) (fun k hk => by injection hk with hk; omega)
  · exact grown_own (grown_trans G1 G3) (set2G _ _ _ _) (fun k hk => by injection hk with hk; omega)
set_option maxHeartbeats 4000000 in
theorem train_any (g : Nat) (a : Option Addr) (n cap : Nat) (B : Int) (w : World) (h : Cu g a n cap B w) (hB : B ≤ 600000000000) :
    Calls Try.prog 28 #[.pointer (some ⟨g, 0, none⟩)] w fun e w' => ∃ u d : Int, e = .returned (.agg #[.int .i64 u, .int .i64 d]) ∧ Cu g a n cap (B + 8) w' ∧ w.grownBy w' (some g) := by
  go_enter Try.func28, Try.ntmps28
  go_wp2_with fail
  have b0 : Below w.heap.size w (w.alloc (.cells #[.int .i64 0, .int .i64 0] 25)) := ((Below.refl _ _).alloc (Nat.le_refl _) _)
  have h0 := h.below b0
  have hgl := h.lt
  have hbg : some w.heap.size ≠ some g := fun e => by injection e with e; omega
  refine (one_any 14 g a n cap B _ h0 (by omega)).mono ?_; rintro e w1 ⟨r, rfl, hC1, hg1⟩
  have X1 := (BxF.made w 0 0 25).grown hg1 hbg
  have G1 : w.grownBy w1 (some g) := grown_trans (grown_below b0) hg1
  clear b0 h0 hg1
  cases r
  · go_wp2_with fail
    refine (sureTrain_any g a n cap _ _ hC1 (by omega)).mono ?_; rintro e w3 ⟨u, d, rfl, _, hC3, G3⟩
    obtain ⟨x1, x2, x3, x4⟩ := X1.grown G3 hbg
    have x40 := x4 0
    have x41 := x4 1
    go_wp2_with fail
    refine bodyPost_ret (v := .agg #[.int .i64 u, .int .i64 d]) (by simp [results, Try.results28, go_sem, x2, x3]) rfl ⟨_, _, rfl, ?_, ?_⟩
    · exact (hC3.mono (by omega)).grown (set2G _ _ _ _) (fun k hk => by injection hk with hk; omega)
    · exact grown_own (grown_trans G1 G3) (set2G _ _ _ _) (fun k hk => by injection hk with hk; omega)
  · go_wp2_with fail
    refine (amongL [-1, 0, 1, 1000, 1001, 4611686018427387904] _ (by decide) (by decide) g a n cap _ _ hC1 (by omega)).mono ?_; rintro e w2 ⟨i, _, rfl, hC2, hg2⟩
    generalize [-1, 0, 1, 1000, 1001, 4611686018427387904].getD i (0 : Int) = u
    go_wp2_with fail
    refine (amongL [-1, 0, 1, 100, 101, 4611686018427387904] _ (by decide) (by decide) g a n cap _ _ hC2 (by omega)).mono ?_; rintro e w3 ⟨j, _, rfl, hC3, hg3⟩
    generalize [-1, 0, 1, 100, 101, 4611686018427387904].getD j (0 : Int) = d
    have G3 : w1.grownBy w3 (some g) := grown_trans hg2 hg3
    obtain ⟨x1, x2, x3, x4⟩ := X1.grown G3 hbg
    have x40 := x4 0
    have x41 := x4 1
    go_wp2_with fail
    refine bodyPost_ret (v := .agg #[.int .i64 u, .int .i64 d]) (by simp [results, Try.results28, go_sem, x2, x3]) rfl ⟨_, _, rfl, ?_, ?_⟩
    · exact (hC3.mono (by omega)).grown (set2G _ _ _ _) (fun k hk => by injection hk with hk; omega)
    · exact grown_own (grown_trans G1 G3) (set2G _ _ _ _) (fun k hk => by injection hk with hk; omega)
set_option maxHeartbeats 4000000 in
theorem way_any (g : Nat) (a : Option Addr) (n cap : Nat) (B : Int) (w : World) (h : Cu g a n cap B w) (hB : B ≤ 600000000000) :
    Calls Try.prog 29 #[.pointer (some ⟨g, 0, none⟩)] w fun e w' => ∃ u : Int, e = .returned (.int .i64 u) ∧ Cu g a n cap (B + 2) w' ∧ w.grownBy w' (some g) := by
  go_enter Try.func29, Try.ntmps29
  go_wp2_with fail
  refine (amongL [0, 1, 7, 60, 120, 180, 999, 1000, 5000, 100000, 100001, -1] _ (by decide) (by decide) g a n cap B _ h (by omega)).mono ?_; rintro e w1 ⟨i, _, rfl, hC1, hg1⟩
  go_wp2_with fail
  go_ret
  exact ⟨_, rfl, hC1, hg1⟩
theorem cell_two_newT (w : World) (u v : Value) (e : TypeId) : ∀ (j : Nat) (x : Value), [u, v][j]? = some x → (w.alloc (.cells #[u, v] e)).cell? ((⟨w.heap.size, 0, none⟩ : Addr).add j) = some x := by
  intro j x hx
  have ea : (⟨w.heap.size, 0, none⟩ : Addr).add j = ⟨w.heap.size, j, none⟩ := by unfold Addr.add; split <;> simp_all
  rw [ea]
  match j, hx with
  | 0, hx => simp at hx; subst hx; go_simp
  | 1, hx => simp at hx; subst hx; go_simp
theorem cs2_snocT : ∀ (xs : List (Int × Int)) (u d : Int), cs2 (xs ++ [(u, d)]) = cs2 xs ++ [.int .i64 u, .int .i64 d]
  | [], u, d => rfl
  | p :: t, u, d => by simp only [List.cons_append, cs2, cs2_snocT t u d]
set_option maxHeartbeats 8000000 in
set_option maxRecDepth 100000 in
theorem trains_any (g : Nat) (a : Option Addr) (n cap : Nat) (B : Int) (w : World) (h : Cu g a n cap B w) (hB : B ≤ 500000000000) :
    Calls Try.prog 72 #[.pointer (some ⟨g, 0, none⟩)] w fun e w' => ∃ (a' : Option Addr) (c' : Nat) (xs : List (Int × Int)), e = .returned (.slice a' xs.length c') ∧ xs.length ≤ 13 ∧ OwnN w' w.heap.size a' c' xs ∧ Cu g a n cap (B + 200) w' ∧ w.grownBy w' (some g) := by
  obtain ⟨i0, hi, hz0, hz1, hz2⟩ := info_parts pairInfoN
  have hgl := h.lt
  go_enter Try.func72, Try.ntmps72
  go_wp2_with fail
  refine (pick_any 6 g a n cap _ _ h (by omega)).mono ?_; rintro e w1 ⟨r, rfl, r0, r1, hC1, hg1⟩
  obtain ⟨m, rfl⟩ : ∃ m : Nat, r = (m : Int) := ⟨r.toNat, by omega⟩
  have hm : m ≤ 5 := by omega
  go_wp2_with fail
  go_loopg [4, 3] m (fun k v4 v3 wr => ∃ (v : Value) (xs : List (Int × Int)), v4 = .int .i64 (k : Int) ∧ v3 = v ∧ xs.length + k ≤ 5 ∧ wr.ownsRow w.heap.size 25 2 v xs.length (cs2 xs) ∧ Cu g a n cap (B + 2 + 8 * (xs.length : Int)) wr ∧ w.grownBy wr (some g))
  case atStart => exact ⟨_, [], rfl, rfl, by simp; omega, World.ownsRow_nil _ _ _ _, by simpa using hC1, hg1⟩
  case round =>
    obtain ⟨v, xs, rfl, rfl, hlen, hown, hC, hG⟩ := hrel
    have hvg : u3.ownBlock = none ∨ u3.ownBlock ≠ some g := by
      cases hq : u3.ownBlock with
      | none => exact .inl rfl
      | some k => exact .inr fun e => by have := (hown.lt k hq).1; injection e with e; omega
    have hlt := hown.lt
    have hsw := hG.size
    by_cases hk : 0 < gk
    · obtain ⟨j, rfl⟩ : ∃ j, gk = j + 1 := ⟨gk - 1, by omega⟩
      have hjI : ¬ ((j : Int) + 1 ≤ 0) := by omega
      go_wp2_with fail
      refine (train_any g a n cap _ _ hC (by omega)).mono ?_; rintro e w2 ⟨x, y, rfl, hC2, hg2⟩
      have hown2 := hown.kept hg2 hvg
      have G2 := grown_trans hG hg2
      have hs2 := G2.size
      have B3 : Below w2.heap.size w2 (w2.alloc (.cells #[.int .i64 x, .int .i64 y] 25)) := ((Below.refl _ _).alloc (Nat.le_refl _) _)
      have C3 := hC2.below B3
      have G3 : w.grownBy (w2.alloc (.cells #[.int .i64 x, .int .i64 y] 25)) (some g) := grown_trans G2 (grown_below B3)
      have K1 := Lib.hid C3
      have K2 := Lib.hid G3
      clear hown hC hG hg2 hC2 G2 B3 C3 G3
      go_wp2_with (first | (at_builtin; refine wpList_append_own _ rfl _ _ 41 rfl w.heap.size 25 i0 (.agg #[.int .i64 0, .int .i64 0]) 2 16 Try.underlying41 hi hz0 hz1 hz2 rfl (by decide) _ _ _ rfl (hown2.alloc _) ⟨w2.heap.size, 0, none⟩ 1 1 [.int .i64 x, .int .i64 y] rfl rfl (cell_two_newT _ _ _ _) (fun u hu => by simp at hu; rcases hu with rfl | rfl <;> rfl) (by unfold maxLen; omega) (by omega) (by first | omega | (simp; omega)) ?_; intro v1 w9 hown9 hgrow9 hx9; clear hx9))
      have C9 := K1.out.grown hgrow9 (fun k hk => by have := (hlt k hk).1; omega)
      have G9 := grown_own K2.out hgrow9 (fun i hi => (hlt i hi).1)
      have O9 : w9.ownsRow w.heap.size 25 2 v1 (xs ++ [(x, y)]).length (cs2 (xs ++ [(x, y)])) := by rw [cs2_snocT]; simpa using hown9
      clear K1 K2 hgrow9 hown2 hown9
      have HC := Lib.hid (C9.mono (C := B + 2 + 8 * ((xs ++ [(x, y)]).length : Int)) (by simp; omega))
      have HG := Lib.hid G9
      have HO := Lib.hid O9
      clear C9 G9 O9
      try go_wp2_with fail
      go_roundg j
      case rel => exact ⟨v1, xs ++ [(x, y)], by go_num, rfl, by simp; omega, HO.out, HC.out, HG.out⟩
      case measure => omega
    · obtain rfl : gk = 0 := by omega
      have hlen4 : xs.length ≤ 5 := by omega
      go_wp2_with fail
      refine (one_any 14 g a n cap _ _ hC (by omega)).mono ?_; rintro e w2 ⟨r, rfl, hC2, hg2⟩
      have hown2 := hown.kept hg2 hvg
      have G2 := grown_trans hG hg2
      have hs2 := G2.size
      have C2 := hC2.mono (C := B + 50) (by omega)
      clear hown hC hG hg2 hC2
      obtain ⟨va, vc, hv⟩ := slice_form hown2
      subst hv
      have hlI : (xs.length : Int) ≤ 5 := by omega
      cases r
      · have K1 := Lib.hid C2
        have K2 := Lib.hid G2
        have K3 := Lib.hid hown2
        clear C2 G2 hown2
        go_wp2_with fail
        go_ret
        refine ⟨va, vc, xs, rfl, by omega, K3.out, K1.out.mono (by omega), K2.out⟩
      · go_wp2_with fail
        go_loopg [3] (13 - xs.length) (fun k v3 wr => ∃ (va : Option Addr) (vc : Nat) (ys : List (Int × Int)), v3 = .slice va ys.length vc ∧ ys.length + k = 13 ∧ wr.ownsRow w.heap.size 25 2 (.slice va ys.length vc) ys.length (cs2 ys) ∧ Cu g a n cap (B + 50 + 4 * (ys.length : Int)) wr ∧ w.grownBy wr (some g))
        case atStart => exact ⟨va, vc, xs, rfl, by omega, hown2, C2.mono (by omega), G2⟩
        case round =>
          obtain ⟨vb, vd, ys, rfl, hlen, hown, hC, hG⟩ := hrel
          clear hvg hlt hown2 C2 G2
          have hlt := hown.lt
          have hvg : (Value.slice vb ys.length vd).ownBlock = none ∨ (Value.slice vb ys.length vd).ownBlock ≠ some g := by
            cases hq : (Value.slice vb ys.length vd).ownBlock with
            | none => exact .inl rfl
            | some k => exact .inr fun e => by have := (hlt k hq).1; injection e with e; omega
          go_wp2_with fail
          refine (pick_any 2 g a n cap _ _ hC (by omega)).mono ?_; rintro e w3 ⟨s, rfl, s0, s1, hC3, hg3⟩
          have hown3 := hown.kept hg3 hvg
          have G3 := grown_trans hG hg3
          clear hown hC hG hg3
          by_cases hl : (ys.length : Int) < 12 + s
          · have hl2 : ys.length ≤ 12 := by omega
            have hs3 := G3.size
            have B5 : Below w3.heap.size w3 (w3.alloc (.cells #[.int .i64 10, .int .i64 3] 25)) := ((Below.refl _ _).alloc (Nat.le_refl _) _)
            have K1 := Lib.hid (hC3.below B5)
            have K2 := Lib.hid (show w.grownBy (w3.alloc (.cells #[.int .i64 10, .int .i64 3] 25)) (some g) from grown_trans G3 (grown_below B5))
            clear hC3 G3 B5
            go_wp2_with (first | (at_builtin; refine wpList_append_own _ rfl _ _ 41 rfl w.heap.size 25 i0 (.agg #[.int .i64 0, .int .i64 0]) 2 16 Try.underlying41 hi hz0 hz1 hz2 rfl (by decide) _ _ _ rfl (hown3.alloc _) ⟨w3.heap.size, 0, none⟩ 1 1 [.int .i64 10, .int .i64 3] rfl rfl (cell_two_newT _ _ _ _) (fun u hu => by simp at hu; rcases hu with rfl | rfl <;> rfl) (by unfold maxLen; omega) (by omega) (by first | omega | (simp; omega)) ?_; intro v1 w9 hown9 hgrow9 hx9; clear hx9))
            have C9 := K1.out.grown hgrow9 (fun k hk => by have := (hlt k hk).1; omega)
            have HG := Lib.hid (grown_own K2.out hgrow9 (fun i hi => (hlt i hi).1))
            obtain ⟨va2, vc2, hv2⟩ := slice_form hown9
            subst hv2
            have HO := Lib.hid (show w9.ownsRow w.heap.size 25 2 (.slice va2 (ys ++ [(10, 3)]).length vc2) (ys ++ [(10, 3)]).length (cs2 (ys ++ [(10, 3)])) by rw [cs2_snocT]; simpa using hown9)
            have HC := Lib.hid (C9.mono (C := B + 50 + 4 * ((ys ++ [((10 : Int), (3 : Int))]).length : Int)) (by simp; omega))
            clear K1 K2 hgrow9 hown3 hown9 C9
            try go_wp2_with fail
            go_roundg (gk - 1)
            case rel => exact ⟨va2, vc2, ys ++ [(10, 3)], by simp, by simp; omega, HO.out, HC.out, HG.out⟩
            case measure => omega
          · have K1 := Lib.hid hC3
            have K2 := Lib.hid G3
            have K3 := Lib.hid hown3
            clear hC3 G3 hown3
            go_wp2_with fail
            go_ret
            exact ⟨vb, vd, ys, rfl, by omega, K3.out, K1.out.mono (by omega), K2.out⟩
set_option maxHeartbeats 8000000 in
theorem drawMeetAfter (a : Option Addr) (n cap : Nat) (w : World) (h : RdY w a n) :
    Calls Try.prog 5 #[.slice a n cap] w fun e w' => ∃ u d v z p : Int, e = .returned (.tuple #[.agg #[.int .i64 u, .int .i64 d], .agg #[.int .i64 v, .int .i64 z], .int .i64 p]) ∧ Below w.heap.size w w' := by
  go_enter Try.func5, Try.ntmps5
  go_wp2_with fail
  generalize hq : World.alloc (World.alloc w _) _ = w1
  have B1 : Below w.heap.size w w1 := by subst hq; exact (Below.alloc (Below.refl _ _) (Nat.le_refl _) _).alloc (by simp) _
  have s1 : w1.heap.size = w.heap.size + 1 + 1 := by subst hq; simp
  have X0 : BxF w1 w.heap.size 0 0 := by subst hq; exact ⟨by (simp; omega), by go_simp, by go_simp, fun o => by go_simp⟩
  have Y0 : BxF w1 (w.heap.size + 1) 0 0 := by subst hq; exact ⟨by simp, by go_simp, by go_simp, fun o => by go_simp⟩
  clear hq
  have hC := (h.below B1).cu cap 54
  have bc : w1.grownBy (w1.alloc (.cells #[.slice a n cap, .int .i64 0, .int .u64 0] 54)) (some w1.heap.size) := grown_below ((Below.refl _ _).alloc (Nat.le_refl _) _)
  have g0 : some w.heap.size ≠ some w1.heap.size := fun e => by injection e with e; omega
  have g1 : some (w.heap.size + 1) ≠ some w1.heap.size := fun e => by injection e with e; omega
  have X0 := X0.grown bc g0
  have Y0 := Y0.grown bc g1
  rw [← s1]
  have S1 := Lib.hid s1
  clear s1
  refine (train_any w1.heap.size a n cap 0 _ hC (by omega)).mono ?_; rintro e w2 ⟨u, d, rfl, hC2, hg2⟩
  go_wp2_with fail
  refine (train_any w1.heap.size a n cap _ _ hC2 (by omega)).mono ?_; rintro e w3 ⟨v, z, rfl, hC3, hg3⟩
  go_wp2_with fail
  refine (way_any w1.heap.size a n cap _ _ hC3 (by omega)).mono ?_; rintro e w4 ⟨p, rfl, hC4, hg4⟩
  have s1 := S1.out
  have G5 := grown_trans (grown_trans hg2 hg3) hg4
  have G6 := grown_trans bc G5
  have B5 : Below w.heap.size w w4 := B1.grown G6 (by omega) (fun k hk => by injection hk with hk; omega)
  obtain ⟨x1, x2, x3, x4⟩ := X0.grown G5 g0
  obtain ⟨y1, y2, y3, y4⟩ := Y0.grown G5 g1
  have x40 := x4 0
  have x41 := x4 1
  have y40 := y4 0
  have y41 := y4 1
  clear s1 hC hC2 hC3 hC4 hg2 hg3 hg4 G5 G6 X0 Y0 bc g0 g1
  go_wp2_with fail
  refine bodyPost_ret (v := .tuple #[.agg #[.int .i64 u, .int .i64 d], .agg #[.int .i64 v, .int .i64 z], .int .i64 p]) (by simp [results, Try.results5, go_sem, x2, x3, y2, y3]) rfl ⟨u, d, v, z, p, rfl, ?_⟩
  exact (((B5.setCell (by simp) _).setCell (by simp) _).setCell (by simp) _).setCell (by simp) _
set_option maxHeartbeats 8000000 in
theorem drawCountTrainsMet (a : Option Addr) (n cap : Nat) (w : World) (h : RdY w a n) :
    Calls Try.prog 15 #[.slice a n cap] w fun e w' => ∃ (j k : Int) (g : Bool), e = .returned (.tuple #[.int .i64 j, .int .i64 k, .bool g]) ∧ Below w.heap.size w w' := by
  go_enter Try.func15, Try.ntmps15
  go_wp2_with fail
  have hC := h.cu cap 54
  have b0 : Below w.heap.size w (w.alloc (.cells #[.slice a n cap, .int .i64 0, .int .u64 0] 54)) := ((Below.refl _ _).alloc (Nat.le_refl _) _)
  have s1 : (w.alloc (.cells #[.slice a n cap, .int .i64 0, .int .u64 0] 54)).heap.size = w.heap.size + 1 := by simp
  generalize World.alloc w (.cells #[.slice a n cap, .int .i64 0, .int .u64 0] 54) = w1 at hC b0 s1 ⊢
  rw [← s1]
  refine (amongL [1, 2, 3, 7, 12, 60, 10000, 10001, 0] _ (by decide) (by decide) w.heap.size a n cap _ _ hC (by omega)).mono ?_; rintro e w2 ⟨i, _, rfl, hC2, hg2⟩
  generalize [1, 2, 3, 7, 12, 60, 10000, 10001, 0].getD i (0 : Int) = u
  go_wp2_with fail
  refine (amongL [1, 2, 3, 5, 12, 60, 10000, 10001, 0] _ (by decide) (by decide) w.heap.size a n cap _ _ hC2 (by omega)).mono ?_; rintro e w3 ⟨k, _, rfl, hC3, hg3⟩
  generalize [1, 2, 3, 5, 12, 60, 10000, 10001, 0].getD k (0 : Int) = d
  go_wp2_with fail
  refine (one_any 2 w.heap.size a n cap _ _ hC3 (by omega)).mono ?_; rintro e w4 ⟨r, rfl, hC4, hg4⟩
  have s0 := b0.size
  have B4 : Below w.heap.size w w4 := b0.grown (grown_trans (grown_trans hg2 hg3) hg4) s0 (fun k hk => by injection hk with hk; omega)
  clear hC hC2 hC3 hC4 hg2 hg3 hg4 b0
  go_wp2_with fail
  exact bodyPost_ret (v := .tuple #[.int .i64 u, .int .i64 d, .bool r]) (by simp [results, Try.results15, go_sem]) rfl ⟨u, d, r, rfl, B4⟩
set_option maxHeartbeats 8000000 in
theorem drawMetAt (a : Option Addr) (n cap : Nat) (w : World) (h : RdY w a n) :
    Calls Try.prog 18 #[.slice a n cap] w fun e w' => ∃ (j k x : Int), e = .returned (.tuple #[.int .i64 j, .int .i64 k, .int .i64 x]) ∧ Below w.heap.size w w' := by
  go_enter Try.func18, Try.ntmps18
  go_wp2_with fail
  have hC := h.cu cap 54
  have b0 : Below w.heap.size w (w.alloc (.cells #[.slice a n cap, .int .i64 0, .int .u64 0] 54)) := ((Below.refl _ _).alloc (Nat.le_refl _) _)
  have s0 := b0.size
  refine (drawCountTrainsMet a n cap _ (h.below b0)).mono ?_; rintro e w2 ⟨j, k, g0, rfl, hb2⟩
  have hC2 := hC.below hb2
  have B2 := b0.trans (hb2.mono s0)
  go_wp2_with fail
  refine (pick_any 9 w.heap.size a n cap _ _ hC2 (by omega)).mono ?_; rintro e w3 ⟨p, rfl, p0, p1, hC3, hg3⟩
  go_wp2_with fail
  refine (pick_any 9 w.heap.size a n cap _ _ hC3 (by omega)).mono ?_; rintro e w4 ⟨q, rfl, q0, q1, hC4, hg4⟩
  have B4 : Below w.heap.size w w4 := B2.grown (grown_trans hg3 hg4) B2.size (fun k hk => by injection hk with hk; omega)
  have d0 : 0 ≤ q / 8 := Int.ediv_nonneg (by omega) (by omega)
  have d1 : q / 8 ≤ 1 := by omega
  clear hC hC2 hC3 hC4 hg3 hg4 b0 B2 hb2
  go_wp2_with fail
  exact bodyPost_ret (v := .tuple #[.int .i64 j, .int .i64 k, .int .i64 (p - q / 8)]) (by simp [results, Try.results18, go_sem]) rfl ⟨j, k, _, rfl, B4⟩
set_option maxHeartbeats 8000000 in
theorem drawFitsSiding (a : Option Addr) (n cap : Nat) (w : World) (h : RdY w a n) :
    Calls Try.prog 49 #[.slice a n cap] w fun e w' => ∃ (xs : List (Int × Int)) (a' : Option Addr) (c' : Nat) (p : Int), e = .returned (.tuple #[.slice a' xs.length c', .int .i64 p]) ∧ xs.length ≤ 13 ∧ RdP w' a' xs ∧ Below w.heap.size w w' := by
  go_enter Try.func49, Try.ntmps49
  go_wp2_with fail
  have hC := h.cu cap 54
  have b0 : Below w.heap.size w (w.alloc (.cells #[.slice a n cap, .int .i64 0, .int .u64 0] 54)) := ((Below.refl _ _).alloc (Nat.le_refl _) _)
  have s0 := b0.size
  have s1 : (w.alloc (.cells #[.slice a n cap, .int .i64 0, .int .u64 0] 54)).heap.size = w.heap.size + 1 := by simp
  generalize World.alloc w (.cells #[.slice a n cap, .int .i64 0, .int .u64 0] 54) = w1 at hC b0 s0 s1 ⊢
  refine (trains_any w.heap.size a n cap _ _ hC (by omega)).mono ?_; rintro e w2 ⟨a', c', xs, rfl, hxl, hO, hC2, hg2⟩
  go_wp2_with fail
  refine (way_any w.heap.size a n cap _ _ hC2 (by omega)).mono ?_; rintro e w3 ⟨p, rfl, hC3, hg3⟩
  have B3 : Below w.heap.size w w3 := b0.grown (grown_trans hg2 hg3) s0 (fun k hk => by injection hk with hk; omega)
  have hlt := hO.lt
  have hO3 := World.ownsRow.kept hO hg3 (by
    cases hq : (Value.slice a' xs.length c').ownBlock with
    | none => exact .inl rfl
    | some k => exact .inr fun e => by have := (hlt k hq).1; injection e with e; omega)
  have hR : RdP w3 a' xs := rowP_rd rfl hO3
  clear hC hC2 hC3 hg2 hg3 b0 hO hO3
  go_wp2_with fail
  exact bodyPost_ret (v := .tuple #[.slice a' xs.length c', .int .i64 p]) (by simp [results, Try.results49, go_sem]) rfl ⟨xs, a', c', p, rfl, hxl, hR, B3⟩
set_option maxHeartbeats 8000000 in
theorem drawMostInSiding (a : Option Addr) (n cap : Nat) (w : World) (h : RdY w a n) :
    Calls Try.prog 21 #[.slice a n cap] w fun e w' => ∃ (xs : List (Int × Int)) (a' : Option Addr) (c' : Nat) (p : Int), e = .returned (.tuple #[.slice a' xs.length c', .int .i64 p]) ∧ xs.length ≤ 13 ∧ RdP w' a' xs ∧ Below w.heap.size w w' := by
  go_enter Try.func21, Try.ntmps21
  go_wp2_with fail
  refine (drawFitsSiding a n cap _ h).mono ?_; rintro e w2 ⟨xs, a', c', p, rfl, hxl, hR, hb2⟩
  have HR := Lib.hid hR
  have HB := Lib.hid hb2
  clear hR hb2
  go_wp2_with fail
  exact bodyPost_ret (v := .tuple #[.slice a' xs.length c', .int .i64 p]) (by simp [results, Try.results21, go_sem]) rfl ⟨xs, a', c', p, rfl, hxl, HR.out, HB.out⟩
end Go.Proofs.Ytolgpjlliaoneaa
