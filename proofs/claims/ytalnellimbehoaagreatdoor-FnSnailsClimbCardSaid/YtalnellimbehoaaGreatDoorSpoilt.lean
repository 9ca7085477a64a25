/- A text that is spoilt: some text that is at most two bytes longer. -/
import Derived.Test.YtalnellimbehoaaGreatDoorProg
import Derived.Test.YtalnellimbehoaaGreatDoorCur
import Derived.WalkKit
import Derived.WalkSpells
import Derived.WalkLawsBesides
import Derived.Lib.Hide
import Derived.Deep.LoopGhost
import Derived.Deep.QuietTactic
import Derived.BigQuiet
namespace Go.Proofs.YtalnellimbehoaaGreatDoor
open Go.RowKit
set_option linter.unusedVariables false
set_option linter.unusedSimpArgs false
theorem conv_oneS (src dst e : TypeId) (hs : Tryz.prog.underlying src = some (.slice e)) (he : Tryz.prog.underlying e = some (.int .u8)) (hd : Tryz.prog.underlying dst = some .string) (W : World) (A : Nat) (m : Int) (m0 : 0 ≤ m) (m1 : m < 256) (hc : W.cell? ⟨A, 0, none⟩ = some (.int .u8 m)) :
    (convert src dst (.slice (some ⟨A, 0, none⟩) 1 1)).run Tryz.prog W = .ok (.string ⟨#[UInt8.ofNat m.toNat]⟩) W := by
  have hm : ((UInt8.ofNat m.toNat).toNat : Int) = m := by
    rw [UInt8.toNat_ofNat']; omega
  have := run_convert_bytes_back (P := Tryz.prog) W src dst e ⟨A, 0, none⟩ 1 [UInt8.ofNat m.toNat] hs he hd (fun j hj => by
    have : j = 0 := by simpa using hj
    subst this
    have e2 : (⟨A, 0, none⟩ : Addr).add 0 = ⟨A, 0, none⟩ := by unfold Addr.add; simp
    rw [e2, hc]; simp; omega)
  simpa using this
set_option maxHeartbeats 8000000 in
set_option maxRecDepth 100000 in
theorem spoilt_any (s v : ByteArray) (hs : s.size ≤ 1000000) (hv : 0 < v.size) (hv2 : v.size ≤ 200) (g : Nat) (a : Option Addr) (n cap : Nat) (B : Int) (w : World) (h : Cu g a n cap B w) (hB : B ≤ 700000000000) :
    Calls Tryz.prog 65 #[.pointer (some ⟨g, 0, none⟩), .string s, .string v] w fun e w' => ∃ t : ByteArray, e = .returned (.string t) ∧ t.size ≤ s.size + 2 ∧ Cu g a n cap (B + 20) w' ∧ w.grownBy w' (some g) := by
  have hgl := h.lt
  go_enter Tryz.func65, Tryz.ntmps65
  go_wp2_with fail
  refine (pick_any 2 g a n cap _ _ h (by omega)).mono ?_; rintro e w1 ⟨r, rfl, r0, r1, hC1, hg1⟩
  obtain ⟨m, rfl⟩ : ∃ m : Nat, r = (m : Int) := ⟨r.toNat, by omega⟩
  have hm : m ≤ 1 := by omega
  go_wp2_with fail
  go_loopg [7, 1] (m + 1) (fun k v7 v1 wr => ∃ t : ByteArray, v7 = .int .i64 (k : Int) ∧ v1 = .string t ∧ t.size + k ≤ s.size + 2 ∧ k ≤ 2 ∧ Cu g a n cap (B + 20 - 8 * (k : Int)) wr ∧ w.grownBy wr (some g))
  case atStart => exact ⟨s, by go_num, rfl, by omega, by omega, hC1.mono (by omega), hg1⟩
  case round =>
    obtain ⟨t, rfl, rfl, hts, hk2, hC, hG⟩ := hrel
    clear hC1 hg1 h
    by_cases hk : 0 < gk
    · obtain ⟨j, rfl⟩ : ∃ j, gk = j + 1 := ⟨gk - 1, by omega⟩
      by_cases ht : 0 < t.size
      · have hjI : ¬ ((j : Int) + 1 ≤ 0) := by omega
        have htI : ¬ ((t.size : Int) ≤ 0) := by omega
        have htB : (t.size : Int) ≤ 1000002 := by omega
        go_wp2_with fail
        refine (pick_any t.size g a n cap _ _ hC (by omega)).mono ?_; rintro e w2 ⟨i, rfl, i0, i1, hC2, hg2⟩
        go_wp2_with fail
        refine (pick_any v.size g a n cap _ _ hC2 (by omega)).mono ?_; rintro e w3 ⟨q, rfl, q0, q1, hC3, hg3⟩
        have G3 := grown_trans hG (grown_trans hg2 hg3)
        obtain ⟨i, rfl⟩ : ∃ i' : Nat, i = (i' : Int) := ⟨i.toNat, by omega⟩
        obtain ⟨q, rfl⟩ : ∃ q' : Nat, q = (q' : Int) := ⟨q.toNat, by omega⟩
        have hi : i < t.size := by omega
        have hq : q < v.size := by omega
        have hb0 := (v[q]'hq).toNat_lt
        have hcv := fun W A => conv_oneS 22 9 5 Tryz.underlying22 Tryz.underlying5 Tryz.underlying9 W A ((v[q]'hq).toNat : Int) (by omega) (by omega)
        clear hC hG hg2 hC2 hg3 i1 q1 i0 q0
        go_wp2_with fail
        have B4 : Below w3.heap.size w3 (w3.alloc (.cells #[.int .u8 ((v[q]'hq).toNat : Int)] 5)) := (Below.refl _ _).alloc (Nat.le_refl _) _
        refine (pick_any 3 g a n cap _ _ (hC3.below B4) (by omega)).mono ?_; rintro e w5 ⟨x, rfl, x0, x1, hC5, hg5⟩
        have HG := Lib.hid (grown_trans G3 (grown_trans (grown_below B4) hg5))
        have HC := Lib.hid (hC5.mono (C := B + 20 - 8 * (j : Int)) (by omega))
        clear hcv hC3 G3 B4 hC5 hg5
        generalize v[q]'hq = c at *
        have hiI : (i : Int) < (t.size : Int) := by omega
        have hi0 : (i : Int) ≤ (t.size : Int) := by omega
        have hi1 : (i : Int) + 1 ≤ (t.size : Int) := by omega
        obtain rfl | rfl | rfl : x = 0 ∨ x = 1 ∨ x = 2 := by omega
        all_goals
          go_wp2_with fail
          go_quiet (fail)
          go_wp2_with fail
          go_roundg j
          case rel => exact ⟨_, by go_num, rfl, by (have e1 : ({ data := #[c] } : ByteArray).size = 1 := rfl); simp only [ByteArray.size_append, ByteArray.size_extract, e1]; omega, by omega, HC.out.grown (grown_drewN (g := none) _ _) (fun k hk => by cases hk), grown_trans HG.out (grown_drewN _ _)⟩
          case measure => omega
      · obtain ht0 : (t.size : Int) = 0 := by omega
        go_wp2_with fail
        go_ret
        exact ⟨t, rfl, by omega, hC.mono (by omega), hG⟩
    · obtain rfl : gk = 0 := by omega
      go_wp2_with fail
      go_ret
      exact ⟨t, rfl, by omega, hC.mono (by omega), hG⟩
end Go.Proofs.YtalnellimbehoaaGreatDoor
