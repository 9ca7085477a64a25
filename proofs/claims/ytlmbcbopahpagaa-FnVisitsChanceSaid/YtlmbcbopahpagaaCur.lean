/- The drawing cursor of the model (l1Cur): what its methods answer, by contracts: some value of the told bounds; nothing but the cursor's own cells is turned. -/
import Derived.Test.YtlmbcbopahpagaaProg
import Derived.Test.YtlmbcbopahpagaaSlices
import Derived.WalkKit
import Derived.WalkSpells
import Derived.WalkLawsBesides
import Derived.Lib.Hide
import Derived.Deep.LoopGhost
import Derived.Deep.QuietTactic
import Derived.Deep.AppendLies
import Derived.Laws.Bits64
import Derived.Laws.BitsLemmas
import Derived.BigQuiet
namespace Go.Proofs.Ytlmbcbopahpagaa
open Go.RowKit
set_option linter.unusedVariables false
set_option linter.unusedSimpArgs false
/-- n bytes can be read at a, in a block below g -/
def RdB (g : Nat) (w : World) (a : Option Addr) (n : Nat) : Prop :=
  n = 0 ∨ ∃ b off, a = some ⟨b, off, none⟩ ∧ b < g ∧ ∀ i, i < n → ∃ x : Int, 0 ≤ x ∧ x ≤ 255 ∧ w.cell? ⟨b, off + i, none⟩ = some (.int .u8 x)
/-- the cursor in the block g: how far it is at most -/
def Cu (g : Nat) (a : Option Addr) (n cap : Nat) (B : Int) (w : World) : Prop :=
  RdB g w a n ∧ n ≤ 1048576 ∧ ∃ A s : Int, 0 ≤ A ∧ A ≤ B ∧ 0 ≤ s ∧ s < 18446744073709551616 ∧ g < w.heap.size ∧ w.cell? ⟨g, 0, none⟩ = some (.slice a n cap) ∧ w.cell? ⟨g, 1, none⟩ = some (.int .i64 A) ∧ w.cell? ⟨g, 2, none⟩ = some (.int .u64 s) ∧ ∀ o, w.frozen? ⟨g, o, none⟩ = false
theorem RdB.grown {g : Nat} {w w' : World} {a : Option Addr} {n : Nat} {r : Option Nat} (h : RdB g w a n) (hg : w.grownBy w' r) (hr : ∀ k, r = some k → g ≤ k) : RdB g w' a n := by
  rcases h with h | ⟨b, off, h1, h3, h4⟩
  · exact .inl h
  · refine .inr ⟨b, off, h1, h3, fun i hi => ?_⟩
    obtain ⟨x, x1, x2, x3⟩ := h4 i hi
    exact ⟨x, x1, x2, hg.cell x3 (fun e => by have := hr b e.symm; omega)⟩
theorem Cu.grown {g : Nat} {a : Option Addr} {n cap : Nat} {B : Int} {w w' : World} {r : Option Nat} (h : Cu g a n cap B w) (hg : w.grownBy w' r) (hr : ∀ k, r = some k → g < k) : Cu g a n cap B w' := by
  obtain ⟨h1, h2, A, s, k1, k2, k3, k4, k5, k6, k7, k8, k9⟩ := h
  have hne : ∀ o, some (⟨g, o, none⟩ : Addr).block ≠ r := fun o e => by have := hr g e.symm; omega
  exact ⟨h1.grown hg (fun k hk => Nat.le_of_lt (hr k hk)), h2, A, s, k1, k2, k3, k4, Nat.lt_of_lt_of_le k5 hg.size, hg.cell k6 (hne 0), hg.cell k7 (hne 1), hg.cell k8 (hne 2), fun o => by rw [hg.frozen_far _ k5 (hne o)]; exact k9 o⟩
theorem grown_below {g : Option Nat} {w w' : World} (h : Below w.heap.size w w') : w.grownBy w' g := ⟨h.os, h.tape, h.output, h.size, fun i hi _ => h.block i hi⟩
theorem Cu.below {g : Nat} {a : Option Addr} {n cap : Nat} {B : Int} {w w' : World} (h : Cu g a n cap B w) (hb : Below w.heap.size w w') : Cu g a n cap B w' :=
  h.grown (r := none) (grown_below hb) (fun k hk => by cases hk)
/-- a row of the call's own that lies behind the call's beginning is turned -/
theorem grown_own {g : Option Nat} {r : Option Nat} {w a b : World} (h : w.grownBy a g) (k : a.grownBy b r) (hr : ∀ i, r = some i → w.heap.size ≤ i) : w.grownBy b g :=
  ⟨k.os.trans h.os, k.tape.trans h.tape, k.output.trans h.output, Nat.le_trans h.size k.size, fun i hi hne => (k.block i (Nat.lt_of_lt_of_le hi h.size) (fun e => by have := hr i e.symm; omega)).trans (h.block i hi hne)⟩
theorem Cu.mono {g : Nat} {a : Option Addr} {n cap : Nat} {B C : Int} {w : World} (h : Cu g a n cap B w) (hc : B ≤ C) : Cu g a n cap C w := by
  obtain ⟨h1, h2, A, s, k1, k2, k3⟩ := h
  exact ⟨h1, h2, A, s, k1, by omega, k3⟩
theorem Cu.lt {g : Nat} {a : Option Addr} {n cap : Nat} {B : Int} {w : World} (h : Cu g a n cap B w) : g < w.heap.size := by
  obtain ⟨h1, h2, A, s, k1, k2, k3, k4, k5, _⟩ := h; exact k5
theorem grown_trans {g : Option Nat} {A B C : World} (p : A.grownBy B g) (q : B.grownBy C g) : A.grownBy C g :=
  ⟨q.os.trans p.os, q.tape.trans p.tape, q.output.trans p.output, Nat.le_trans p.size q.size, fun i hi hne => (q.block i (Nat.lt_of_lt_of_le hi p.size) hne).trans (p.block i hi hne)⟩
theorem grown_refl (g : Option Nat) (w : World) : w.grownBy w g := ⟨rfl, rfl, rfl, Nat.le_refl _, fun _ _ _ => rfl⟩
theorem grown_set {g : Nat} (w : World) (o : Nat) (v : Value) : w.grownBy (w.setCell ⟨g, o, none⟩ v) (some g) := by
  refine ⟨rfl, rfl, rfl, by simp, fun i hi hne => ?_⟩
  have hne' : i ≠ g := fun q => hne (by rw [q])
  unfold World.setCell
  simp only [Array.getElem?_modify]
  rw [if_neg (by simpa using hne'.symm)]
theorem grown_drewN {g : Option Nat} (w : World) (q : Nat) : w.grownBy (w.drewN q) g := grown_below (below_drewN (Below.refl _ _) _)
theorem nextG (w : World) (g q1 q2 : Nat) (v1 v2 : Value) : w.grownBy ((((w.drewN q1).setCell ⟨g, 1, none⟩ v1).setCell ⟨g, 2, none⟩ v2).drewN q2) (some g) :=
  grown_trans (grown_trans (grown_trans (grown_drewN _ _) (grown_set _ _ _)) (grown_set _ _ _)) (grown_drewN _ _)
theorem nextC {w : World} {g n cap : Nat} {a : Option Addr} {A S B : Int} (q1 q2 : Nat) (hR : RdB g w a n) (hn : n ≤ 1048576) (hA : 0 ≤ A) (hAB : A ≤ B) (S0 : 0 ≤ S ∧ S < 18446744073709551616) (hg : g < w.heap.size) (c0 : w.cell? ⟨g, 0, none⟩ = some (.slice a n cap)) {t u : Value} (c1 : w.cell? ⟨g, 1, none⟩ = some t) (c2 : w.cell? ⟨g, 2, none⟩ = some u) (hf : ∀ o, w.frozen? ⟨g, o, none⟩ = false) :
    Cu g a n cap B ((((w.drewN q1).setCell ⟨g, 1, none⟩ (.int .i64 A)).setCell ⟨g, 2, none⟩ (.int .u64 S)).drewN q2) := by
  refine ⟨hR.grown (nextG w g q1 q2 _ _) (fun k hk => by injection hk with hk; omega), hn, A, S, hA, hAB, S0.1, S0.2, by simpa using hg, ?_, ?_, ?_, fun o => ?_⟩
  · go_simp
  · go_simp
  · go_simp
  · have := hf o; go_simp
set_option maxHeartbeats 4000000 in
theorem next_any (g : Nat) (a : Option Addr) (n cap : Nat) (B : Int) (w : World) (h : Cu g a n cap B w) (hB : B ≤ 1000000000000) :
    Calls Try.prog 53 #[.pointer (some ⟨g, 0, none⟩)] w fun e w' => ∃ r : Int, e = .returned (.int .i64 r) ∧ 0 ≤ r ∧ r ≤ 255 ∧ Cu g a n cap (B + 1) w' ∧ w.grownBy w' (some g) := by
  obtain ⟨hR, hn, A, s, hA0, hAB, hs0, hs1, hg, c0, c1, c2, hf⟩ := h
  have hf1 := hf 1
  have hf2 := hf 2
  have hnI : (n : Int) ≤ 1048576 := by omega
  by_cases hlt : A < (n : Int)
  · obtain ⟨i, rfl⟩ : ∃ i : Nat, A = (i : Int) := ⟨A.toNat, by omega⟩
    rcases id hR with h0 | ⟨b, off, rfl, hbl, hbytes⟩
    · omega
    · obtain ⟨x, x0, x1, hx⟩ := hbytes i (by omega)
      have hbg : b ≠ g := Nat.ne_of_lt hbl
      have hle : (i : Int) + 1 ≤ (n : Int) := by omega
      go_enter Try.func53, Try.ntmps53
      go_wp2_with fail
      go_quiet (fail)
      go_wp2_with fail
      go_quiet (fail)
      go_wp2_with fail
      generalize hS : IntKind.u64.wrap (IntKind.u64.wrap (IntKind.u64.wrap (s * 6364136223846793005) + x) + 1442695040888963407) = S
      have S0 : 0 ≤ S ∧ S < 18446744073709551616 := by rw [← hS, IntKind.wrap_u64]; omega
      clear hS
      go_quiet (fail)
      go_wp2_with fail
      go_ret
      exact ⟨x, rfl, x0, x1, nextC _ _ hR hn (by omega) (by omega) S0 hg c0 c1 c2 hf, nextG _ _ _ _ _ _⟩
  · have hle : ¬ A + 1 ≤ (n : Int) := by omega
    go_enter Try.func53, Try.ntmps53
    go_wp2_with fail
    go_quiet (fail)
    go_wp2_with fail
    generalize hS : IntKind.u64.wrap (IntKind.u64.wrap (IntKind.u64.wrap (s * 6364136223846793005)) + 1442695040888963407) = S
    have S0 : 0 ≤ S ∧ S < 18446744073709551616 := by rw [← hS, IntKind.wrap_u64]; omega
    clear hS
    have hand : ∀ y : Int, 0 ≤ y → y < 18446744073709551616 → bits .and .u64 y 255 = y % 256 := fun y h0 h1 => bits_mask .u64 64 (by decide) (fun n h0 h1 => by rw [IntKind.wrap_u64]; omega) 8 (by decide) y h0 h1
    go_quiet (fail)
    go_wp2_with fail
    go_ret
    have hv : wrap64 (bits .and .u64 (S / 1099511627776) 255) = S / 1099511627776 % 256 := by
      rw [hand _ (by omega) (by omega)]; unfold wrap64; omega
    exact ⟨S / 1099511627776 % 256, congrArg (fun z => Ending.returned (Value.int .i64 z)) hv, by omega, by omega, nextC _ _ hR hn (by omega) (by omega) S0 hg c0 c1 c2 hf, nextG _ _ _ _ _ _⟩
set_option maxHeartbeats 4000000 in
theorem pick_any (N : Int) (g : Nat) (a : Option Addr) (n cap : Nat) (B : Int) (w : World) (h : Cu g a n cap B w) (hB : B ≤ 900000000000) :
    Calls Try.prog 41 #[.pointer (some ⟨g, 0, none⟩), .int .i64 N] w fun e w' => ∃ r : Int, e = .returned (.int .i64 r) ∧ 0 ≤ r ∧ (r < N ∨ r = 0) ∧ Cu g a n cap (B + 2) w' ∧ w.grownBy w' (some g) := by
  by_cases h1 : N ≤ 1
  · go_enter Try.func41, Try.ntmps41
    go_wp2_with fail
    go_ret
    exact ⟨0, rfl, by omega, .inr rfl, h.mono (by omega), grown_refl _ _⟩
  · by_cases h2 : 200 < N
    · go_enter Try.func41, Try.ntmps41
      go_wp2_with fail
      refine (next_any g a n cap B _ h (by omega)).mono ?_; rintro e w1 ⟨x, rfl, x0, x1, hC1, hg1⟩
      go_wp2_with fail
      refine (next_any g a n cap (B + 1) _ hC1 (by omega)).mono ?_; rintro e w2 ⟨y, rfl, y0, y1, hC2, hg2⟩
      have hz : 0 ≤ x * 256 + y ∧ x * 256 + y ≤ 65535 := by omega
      have m0 := Int.emod_nonneg (x * 256 + y) (show N ≠ 0 by omega)
      have m1 := Int.emod_lt_of_pos (x * 256 + y) (show 0 < N by omega)
      go_wp2_with fail
      go_ret
      exact ⟨(x * 256 + y) % N, rfl, m0, .inl m1, by rw [show B + 2 = B + 1 + 1 from by omega]; exact hC2, grown_trans hg1 hg2⟩
    · go_enter Try.func41, Try.ntmps41
      go_wp2_with fail
      refine (next_any g a n cap B _ h (by omega)).mono ?_; rintro e w1 ⟨x, rfl, x0, x1, hC1, hg1⟩
      have m0 := Int.emod_nonneg x (show N ≠ 0 by omega)
      have m1 := Int.emod_lt_of_pos x (show 0 < N by omega)
      go_wp2_with fail
      go_ret
      exact ⟨x % N, rfl, m0, .inl m1, hC1.mono (by omega), hg1⟩
set_option maxHeartbeats 4000000 in
theorem one_any (N : Int) (g : Nat) (a : Option Addr) (n cap : Nat) (B : Int) (w : World) (h : Cu g a n cap B w) (hB : B ≤ 800000000000) :
    Calls Try.prog 49 #[.pointer (some ⟨g, 0, none⟩), .int .i64 N] w fun e w' => ∃ r : Bool, e = .returned (.bool r) ∧ Cu g a n cap (B + 2) w' ∧ w.grownBy w' (some g) := by
  go_enter Try.func49, Try.ntmps49
  go_wp2_with fail
  refine (pick_any N g a n cap B _ h (by omega)).mono ?_; rintro e w1 ⟨x, rfl, x0, x1, hC1, hg1⟩
  go_wp2_with fail
  go_ret
  exact ⟨_, rfl, hC1, hg1⟩
set_option maxHeartbeats 4000000 in
theorem among_any (b : Option Addr) (c : Nat) (xs : List Int) (hx : 0 < xs.length) (hx2 : xs.length ≤ 1048576) (g : Nat) (a : Option Addr) (n cap : Nat) (B : Int) (w : World) (h : Cu g a n cap B w) (hB : B ≤ 800000000000) (hR : Rd w b xs) (hne : ∀ x, b = some x → x.block ≠ g) :
    Calls Try.prog 30 #[.pointer (some ⟨g, 0, none⟩), .slice b xs.length c] w fun e w' => ∃ i : Nat, i < xs.length ∧ e = .returned (.int .i64 (xs.getD i 0)) ∧ Cu g a n cap (B + 2) w' ∧ w.grownBy w' (some g) := by
  rcases hR with hR | ⟨b, off, rfl, hlt, hc⟩
  · rw [hR] at hx; cases hx
  have hbg : b ≠ g := hne _ rfl
  have hxI : (xs.length : Int) ≤ 1048576 := by omega
  go_enter Try.func30, Try.ntmps30
  go_wp2_with fail
  refine (pick_any xs.length g a n cap B _ h (by omega)).mono ?_; rintro e w1 ⟨x, rfl, x0, x1, hC1, hg1⟩
  obtain ⟨i, rfl⟩ : ∃ i : Nat, x = (i : Int) := ⟨x.toNat, by omega⟩
  have hi : i < xs.length := by omega
  have hiI : (i : Int) < (xs.length : Int) := by omega
  have hci : w1.cell? ⟨b, off + i, none⟩ = some (.int .i64 (xs.getD i 0)) := hg1.cell (hc i hi) (by simpa using hbg)
  generalize hv : xs.getD i 0 = v at *
  clear hc
  go_wp2_with fail
  go_ret
  exact ⟨i, hi, by rw [hv]; rfl, hC1, hg1⟩
/-- a literal of numbers and a choice from it -/
theorem lit_rd (W : World) (xs : List Int) (e : TypeId) : Rd (W.alloc (.cells (xs.map (Value.int .i64)).toArray e)) (some ⟨W.heap.size, 0, none⟩) xs := by
  refine .inr ⟨W.heap.size, 0, rfl, by simp, fun i hi => ?_⟩
  have e1 := heap_alloc_new W (.cells (xs.map (Value.int .i64)).toArray e)
  unfold World.cell?
  simp only [e1]
  simp [hi, List.getD]
theorem amongL (xs : List Int) (e : TypeId) (hx : 0 < xs.length) (hx2 : xs.length ≤ 1048576) (g : Nat) (a : Option Addr) (n cap : Nat) (B : Int) (W : World) (h : Cu g a n cap B W) (hB : B ≤ 800000000000) :
    Calls Try.prog 30 #[.pointer (some ⟨g, 0, none⟩), .slice (some ⟨W.heap.size, 0, none⟩) xs.length xs.length] (W.alloc (.cells (xs.map (Value.int .i64)).toArray e)) fun e' w' => ∃ i : Nat, i < xs.length ∧ e' = .returned (.int .i64 (xs.getD i 0)) ∧ Cu g a n cap (B + 2) w' ∧ W.grownBy w' (some g) := by
  have hb : Below W.heap.size W (W.alloc (.cells (xs.map (Value.int .i64)).toArray e)) := (Below.refl _ _).alloc (Nat.le_refl _) _
  refine (among_any (some ⟨W.heap.size, 0, none⟩) xs.length xs hx hx2 g a n cap B _ (h.below hb) hB (lit_rd W xs e) (fun x hx => ?_)).mono ?_
  · injection hx with hx; subst hx
    obtain ⟨_, _, _, _, _, _, _, _, k5, _⟩ := h
    exact Nat.ne_of_gt k5
  · rintro e' w' ⟨i, h1, h2, h3, h4⟩
    exact ⟨i, h1, h2, h3, grown_trans (grown_below hb) h4⟩
end Go.Proofs.Ytlmbcbopahpagaa
