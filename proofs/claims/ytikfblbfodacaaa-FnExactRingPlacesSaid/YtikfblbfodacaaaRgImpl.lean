/- RingPlaces: the program by contracts. -/
import Derived.Test.YtikfblbfodacaaaRgPl
import Derived.Test.YtikfblbfodacaaaMadeR
import Derived.WalkKit
import Derived.WalkSpells
import Derived.WalkLawsBesides
import Derived.Lib.Hide
import Derived.Deep.LoopGhost
import Derived.Deep.QuietTactic
import Derived.Deep.RegionHeld3
import Derived.BigQuiet
namespace Go.Proofs.Ytikfblbfodacaaa
open Go.RowKit
set_option linter.unusedVariables false
set_option linter.unusedSimpArgs false
theorem low_pairs {xs : List Int} {N : Int} {i : Nat} (hi : i < xs.length) : px (xs.map fun k => (lwN k N, lwD k N)) i = lwN (xs.getD i 0) N ∧ py (xs.map fun k => (lwN k N, lwD k N)) i = lwD (xs.getD i 0) N := by
  unfold px py
  rw [List.getD, List.getElem?_map, List.getD, List.getElem?_eq_getElem hi]
  exact ⟨rfl, rfl⟩
set_option maxHeartbeats 4000000 in
set_option maxRecDepth 100000 in
theorem implRingPlaces (m p s q r : Int) (w : World) :
    Calls Try.prog 14 #[.int .i64 m, .agg #[.int .i64 p, .int .i64 s], .agg #[.int .i64 q, .int .i64 r]] w (RetSSR w (rgR m p s q r) (rgB m p s q r)) := by
  obtain ⟨i0, hi, hz0, hz1, hz2⟩ := info_parts sliceInfoX
  have B0 : Below w.heap.size w ((w.alloc (.cells #[.int .i64 p, .int .i64 s] 36)).alloc (.cells #[.int .i64 q, .int .i64 r] 36)) := by (repeat (first | exact Below.refl _ _ | refine Below.drew ?_ | refine below_drewN ?_ _ | refine Below.setCell ?_ (by first | omega | (simp; done) | (simp; omega)) _ | refine Below.alloc ?_ (by first | omega | (simp; done) | (simp; omega)) _ | refine bchain ?_ (by assumption) (by first | omega | (simp; done) | (simp; omega))))
  cases hg : (inB m 1 1000 && wkOk p s && wkOk q r)
  · have HR := Lib.hid (show rgR m p s q r = [] ∧ rgB m p s q r = false by unfold rgR rgB; rw [hg]; exact ⟨rfl, rfl⟩)
    have HG := Lib.hid hg
    clear hg
    rw [HR.out.1, HR.out.2]
    go_enter Try.func14, Try.ntmps14
    go_wp2_with (first | (go_at_call 29; refine (isRing_any m p s q r _).mono ?_; rw [HG.out]; rintro e w1 ⟨rfl, hb⟩) | fail)
    go_ret2
    exact retSSR_none (B0.trans (hb.mono (by simp; omega))) rfl
  · have hg' := hg
    rw [Bool.and_eq_true, Bool.and_eq_true] at hg
    obtain ⟨⟨hm, hv⟩, hw⟩ := hg
    have HG := Lib.hid hg'
    clear hg'
    have h1 := (inB_iff.1 hm).1
    have h2 := (inB_iff.1 hm).2
    have b3 := nrr_bd hv hw
    have HV := Lib.hid hv
    have HW := Lib.hid hw
    clear hm hv hw
    by_cases f : s = r
    · have HR := Lib.hid (show rgR m p s q r = [] ∧ rgB m p s q r = false by unfold rgR rgB; simp [f])
      have x1 : (s == r) = true := by simp [f]
      clear f
      rw [HR.out.1, HR.out.2]
      go_enter Try.func14, Try.ntmps14
      go_wp2_with fail
      refine (isRing_any m p s q r _).mono ?_; rw [HG.out]; rintro e w1 ⟨rfl, hb⟩
      have hc := (bcell hb).1
      have e0 : w1.cell? ⟨w.heap.size, 1, none⟩ = some (.int .i64 s) := by rw [hc _ _ (by simp; omega)]; go_simp
      have e1 : w1.cell? ⟨w.heap.size + 1, 1, none⟩ = some (.int .i64 r) := by rw [hc _ _ (by simp)]; go_simp
      clear hc
      go_wp2_with fail
      go_ret2
      exact retSSR_none (B0.trans (hb.mono (by simp; omega))) rfl
    · have HB := Lib.hid (show rgB m p s q r = true by unfold rgB; rw [HG.out]; simp [f])
      have HR := Lib.hid (show rgR m p s q r = rgL m p s q r by unfold rgR; rw [HB.out]; rfl)
      have x1 : (s == r) = false := by simp [f]
      have HPC := Lib.hid (fun w => places_any m p s q r h1 h2 HV.out HW.out f w)
      clear f
      rw [HR.out, HB.out]
      have HKL := Lib.hid (rgL_len m p s q r)
      have HKA := Lib.hid (fun j h => rgL_at (m := m) (p := p) (s := s) (q := q) (r := r) (j := j) h)
      have hPL := rgP_len (rgK m p s q r) (nrr s r).toNat
      have HMR := Lib.hid (fun w => isRing_any m p s q r w)
      rw [HG.out] at HMR
      have HNR := Lib.hid (fun w => newRing_any m p s q r w)
      obtain ⟨ks, hks⟩ : ∃ ks, ks = rgL m p s q r := ⟨_, rfl⟩
      rw [← hks] at HKL HKA ⊢
      clear hks
      have hl : (rgP (rgK m p s q r) (nrr s r).toNat).length ≤ 200 := by omega
      clear hPL b3
      generalize rgP (rgK m p s q r) (nrr s r).toNat = xs at *
      generalize nrr s r = N at *
      go_enter Try.func14, Try.ntmps14
      go_wp2_with fail
      refine (HMR.out _).mono ?_; rintro e w1 ⟨rfl, hb⟩
      have hc := (bcell hb).1
      have e0 : w1.cell? ⟨w.heap.size, 0, none⟩ = some (.int .i64 p) := by rw [hc _ _ (by simp; omega)]; go_simp
      have e1 : w1.cell? ⟨w.heap.size, 1, none⟩ = some (.int .i64 s) := by rw [hc _ _ (by simp; omega)]; go_simp
      have e2 : w1.cell? ⟨w.heap.size + 1, 0, none⟩ = some (.int .i64 q) := by rw [hc _ _ (by simp)]; go_simp
      have e3 : w1.cell? ⟨w.heap.size + 1, 1, none⟩ = some (.int .i64 r) := by rw [hc _ _ (by simp)]; go_simp
      have z1 := hb.size
      have B1 := Lib.hid (B0.trans (hb.mono (by simp; omega)))
      rw [World.size_alloc, World.size_alloc] at z1
      clear hc hb B0
      go_wp2_with fail
      refine (HNR.out _).mono ?_; rintro e w2 ⟨rfl, hb⟩
      have z2 := hb.size
      have B2 := Lib.hid (B1.out.trans (hb.mono (by omega)))
      clear hb e0 e1 e2 e3 B1
      go_wp2_with fail
      refine (HPC.out _).mono ?_; rintro e w3 ⟨G, cp, rfl, hG, hR, hb⟩
      have z3 := hb.size
      have B3 := Lib.hid (B2.out.trans (hb.mono (by omega)))
      have HRd := Lib.hid hR
      clear hb hR B2
      obtain ⟨w4, hrun, hown0, hgr0⟩ := run_make_full (P := Try.prog) w3 w3.heap.size 33 54 i0 (.slice none 0 0) 1 Try.underlying33 hi hz0 hz1 .i64 .i64 xs.length (by rw [hz2]; omega) (by unfold maxLen; omega) (Nat.le_refl _)
      have hbel0 : Below w3.heap.size w3 w4 := (Below.refl _ _).grown hgr0 (Nat.le_refl _) (fun k hk => by cases hk)
      have M0 : MadeR w4 w.heap.size w3.heap.size xs.length 0 (fun _ => 0) ks := ⟨_, row_base hown0 (by omega), fun i hi => absurd hi (Nat.not_lt_zero _), fun i hi => absurd hi (Nat.not_lt_zero _), fun i k _ hk => absurd hk (Nat.not_lt_zero _)⟩
      clear hgr0 hown0
      go_wp2_with fail
      clear hrun
      go_loopg [34] xs.length (fun f vc wr => ∃ (j : Nat) (β : Nat → Nat), vc = .int .i64 (j : Int) ∧ j + f ≤ xs.length ∧ xs.length ≤ j + f ∧ MadeR wr w.heap.size w3.heap.size xs.length j β ks ∧ Below w3.heap.size w3 wr)
      case atStart => exact ⟨0, fun _ => 0, rfl, by omega, by omega, M0, hbel0⟩
      case round =>
        clear M0 hbel0
        obtain ⟨j, β, rfl, g1, g2, hX, hbel⟩ := hrel
        have hsz := hbel.size
        by_cases hj : j < xs.length
        · have hjI : (j : Int) < (xs.length : Int) := by omega
          have HA := Lib.hid (HKA.out j hj)
          have hlp := low_pairs (N := N) hj
          rcases HRd.out with hR | ⟨b, off, hab, hlt, hc⟩
          · rw [List.map_eq_nil_iff] at hR; rw [hR] at hj; exact absurd hj (Nat.not_lt_zero _)
          · have hcj := hc j (by rw [List.length_map]; exact hj)
            rw [hlp.1, hlp.2] at hcj
            rw [← (bcell hbel).1 b _ hlt, ← (bcell hbel).1 b _ hlt] at hcj
            obtain ⟨rfl, rfl⟩ : b = G ∧ off = 0 := by injection hab with q; injection q with q1 q2; exact ⟨q1.symm, q2.symm⟩
            rw [Nat.zero_add] at hcj
            have k0 := hcj.1
            have k1 := hcj.2
            clear hcj hc hlp hab
            have HX := Lib.hid hX
            have HB5 := Lib.hid hbel
            clear hX hbel
            generalize lwN (xs.getD j 0) N = pN at *
            generalize lwD (xs.getD j 0) N = qN at *
            have hbA : Below wr.heap.size wr ((wr.alloc (.cells #[.int .i64 pN, .int .i64 qN] 66)).alloc (.cells #[.int .i64 pN, .int .i64 qN] 3)) := ((Below.refl _ _).alloc (Nat.le_refl _) _).alloc (by simp) _
            have hN : Own ((wr.alloc (.cells #[.int .i64 pN, .int .i64 qN] 66)).alloc (.cells #[.int .i64 pN, .int .i64 qN] 3)) w.heap.size (some ⟨wr.heap.size + 1, 0, none⟩) 2 [pN, qN] := by
              have := own_twoX (wr.alloc (.cells #[.int .i64 pN, .int .i64 qN] 66)) (base := w.heap.size) (by simp; omega) pN qN
              simpa using this
            have hX5 := MadeR.step (B := wr.heap.size + 1) HX.out hbA (by omega) hj (by rw [HA.out]; exact hN)
            rw [HA.out] at hX5
            obtain ⟨⟨v0, hv0⟩, hf0, hg0, hg1⟩ := (HX.out.below hbA).at hj
            have HX5 := Lib.hid hX5
            have HB6 := Lib.hid ((HB5.out.trans (hbA.mono hsz)).setCell (p := ⟨w3.heap.size, j, none⟩) (Nat.le_refl _) (.slice (some ⟨wr.heap.size + 1, 0, none⟩) 2 2))
            clear hX5 hN hbA
            go_wp2_with fail
            go_roundg (gk - 1)
            case rel => exact ⟨j + 1, _, by go_num, by omega, by omega, HX5.out, HB6.out⟩
            case measure => omega
        · obtain rfl : j = xs.length := by omega
          have HF := Lib.hid (hX.own HKL.out)
          have HBl := Lib.hid (B3.out.trans (hbel.mono (by omega)))
          clear hX hbel
          go_wp2_with fail
          go_ret2
          exact ⟨_, _, by rw [HKL.out]; rfl, HF.out, HBl.out⟩
end Go.Proofs.Ytikfblbfodacaaa
