/- AllAtStart of chapter 2, the program's and the model's. -/
import Derived.Test.YteaefmngfomhgaaProg
import Derived.Test.YteaefmngfomhgaaPairs
import Derived.Test.YteaefmngfomhgaaTwoMathC
import Derived.WalkKit
import Derived.WalkSpells
import Derived.WalkLawsBesides
import Derived.Lib.Hide
import Derived.Deep.LoopGhost
import Derived.Deep.QuietTactic
import Derived.BigQuiet
namespace Go.Proofs.Yteaefmngfomhgaa
open Go.RowKit
set_option linter.unusedVariables false
set_option linter.unusedSimpArgs false
set_option maxHeartbeats 1000000 in
theorem isAround_any2 (m : Int) (w : World) :
    Calls Try.prog 83 #[.int .i64 m] w fun e w' => e = .returned (.bool (inB m 1 1000)) ∧ w = w' := by
  go_enter Try.func83, Try.ntmps83
  go_wp2_with (first | (go_at_call 60; refine (implIn _ _ _ _).mono ?_; rintro e w1 ⟨rfl, rfl⟩))
  go_ret
  exact ⟨rfl, rfl⟩
set_option maxHeartbeats 2000000 in
theorem specAllAtStart (m : Int) (a : Option Addr) (cap : Nat) (xs : List (Int × Int)) (w : World) (h : RdP w a xs) (hn : xs.length ≤ 1048576) :
    Calls Try.prog 37 #[.int .i64 m, .slice a xs.length cap] w fun e w' => e = .returned (.tuple #[.int .i64 (saN m (wks xs) (gdk (py xs) xs.length)), .int .i64 (saD m (wks xs) (gdk (py xs) xs.length)), .bool (saB m (wks xs) (gdk (py xs) xs.length))]) ∧ Below w.heap.size w w' := by
  cases hm : inB m 1 1000
  · have HM := Lib.hid hm
    have HX := Lib.hid (sa_no (m := m) (ok := wks xs) (g := gdk (py xs) xs.length) (by unfold saB; simp [hm]))
    have HY := Lib.hid (show saB m (wks xs) (gdk (py xs) xs.length) = false by unfold saB; simp [hm])
    clear hm
    go_enter Try.func37, Try.ntmps37
    go_wp2_with (first | (go_at_call 58; refine (specIn _ _ _ _).mono ?_; rw [HM.out]; rintro e w1 ⟨rfl, rfl⟩) | (go_at_call 65; refine (meAll_any a cap xs _ h hn).mono ?_; rintro e w0 ⟨rfl, hb0⟩))
    rw [HX.out.1, HX.out.2, HY.out]
    go_ret3
    refine ⟨rfl, ?_⟩
    exact Below.refl _ _
  cases hk : wks xs
  · have HM := Lib.hid hm
    have HK := Lib.hid hk
    have HX := Lib.hid (sa_no (m := m) (ok := false) (g := gdk (py xs) xs.length) (by unfold saB; simp))
    have HY := Lib.hid (show saB m (false) (gdk (py xs) xs.length) = false by unfold saB; simp)
    clear hm hk
    go_enter Try.func37, Try.ntmps37
    go_wp2_with (first | (go_at_call 58; refine (specIn _ _ _ _).mono ?_; rw [HM.out]; rintro e w1 ⟨rfl, rfl⟩) | (go_at_call 65; refine (meAll_any a cap xs _ h hn).mono ?_; rw [HK.out]; rintro e w0 ⟨rfl, hb0⟩))
    rw [HX.out.1, HX.out.2, HY.out]
    go_ret3
    refine ⟨rfl, ?_⟩
    exact hb0
  · have HM := Lib.hid hm
    have HK := Lib.hid hk
    have m1 := (inB_iff.1 hm).1
    have m2 := (inB_iff.1 hm).2
    have hk2 : inB (xs.length : Int) 1 8 = true ∧ allW xs = true := by unfold wks at hk; rwa [Bool.and_eq_true] at hk
    have n1 := (inB_iff.1 hk2.1).2
    have hsp : ∀ i, i < xs.length → -100 ≤ py xs i ∧ py xs i ≤ 100 := fun i hi => by have := wkOk_iff.1 (allW_at hk2.2 hi); omega
    have HG := Lib.hid (fun j hj => gdk_bd hsp j hj)
    have HS := Lib.hid hsp
    clear hm hk hk2 hsp
    obtain ⟨G, hG⟩ : ∃ G, G = gdk (py xs) xs.length := ⟨_, rfl⟩
    rw [← hG]
    have HGe := Lib.hid hG
    clear hG
    go_enter Try.func37, Try.ntmps37
    go_wp2_with (first | (go_at_call 58; refine (specIn _ _ _ _).mono ?_; rw [HM.out]; rintro e w1 ⟨rfl, rfl⟩) | (go_at_call 65; refine (meAll_any a cap xs _ h hn).mono ?_; rw [HK.out]; rintro e w0 ⟨rfl, hb0⟩))
    go_loopg [7, 24] xs.length (fun k v7 v24 wr => ∃ (j : Nat), v7 = .int .i64 (gdk (py xs) j) ∧ v24 = .int .i64 (j : Int) ∧ j + k ≤ xs.length ∧ xs.length ≤ j + k ∧ Below w.heap.size w wr)
    case atStart => exact ⟨0, rfl, rfl, by omega, by omega, hb0⟩
    case round =>
      clear hb0
      obtain ⟨j, rfl, rfl, h1, h2, hbel⟩ := hrel
      have hsz := hbel.size
      by_cases hj : j < xs.length
      · rcases h with h | ⟨b, off, rfl, hlt, hc⟩
        · rw [h] at hj; exact absurd hj (Nat.not_lt_zero _)
        · have hcj : wr.cell? ⟨b, off + j * 2, none⟩ = some (.int .i64 (px xs j)) := by rw [(bcell hbel).1 b _ hlt]; exact (hc j hj).1
          have hck : wr.cell? ⟨b, off + j * 2 + 1, none⟩ = some (.int .i64 (py xs j)) := by rw [(bcell hbel).1 b _ hlt]; exact (hc j hj).2
          have hjI : (j : Int) < (xs.length : Int) := by omega
          have HB := Lib.hid hbel
          have g1 := HG.out j (by omega)
          have g2 := HS.out j hj
          have HN := Lib.hid (show gdk (py xs) (j + 1) = gc (gdk (py xs) j) (py xs j) from rfl)
          clear hbel hc
          generalize px xs j = x at *
          generalize py xs j = y at *
          generalize gdk (py xs) j = c at *
          have z1 := ab_nonneg y
          have z2 := ab_le g2.1 g2.2
          have z3 := gc_bd g1.1 g1.2 g2.1 g2.2
          go_wp2_with (first | (go_at_call 81; refine (l1Abs_any y (by omega) (by omega) _).mono ?_; rintro e w1 ⟨rfl, rfl⟩))
          go_loopw [10, 11] (fun v10 v11 w2 => ∃ p q : Int, v10 = .int .i64 p ∧ v11 = .int .i64 q ∧ 0 ≤ p ∧ p ≤ 100 ∧ 0 ≤ q ∧ q ≤ 100 ∧ Hid (gc p q = gc c y) ∧ Below wr.heap.size wr w2) (fun _ v11 _ => (intOf v11).toNat)
          case atStart => exact ⟨c, ab y, rfl, rfl, by omega, by omega, by omega, by omega, gc_ab' c y, (Below.refl _ _).alloc (Nat.le_refl _) _⟩
          case round =>
            obtain ⟨p, q, rfl, rfl, p1, p2, q1, q2, HE, hbel2⟩ := hrel
            have HB2 := Lib.hid hbel2
            clear hbel2
            by_cases hq : q = 0
            · have HR := Lib.hid (show p = gc c y by rw [← HE.out, hq, gc_zero p p1])
              clear HE
              subst hq
              go_wp2_with fail
              go_roundg (gk - 1)
              case rel => exact ⟨j + 1, by rw [HN.out, ← HR.out], by go_num, by omega, by omega, HB.out.trans (HB2.out.mono HB.out.size)⟩
              case measure => omega
            · have e1 := Int.emod_nonneg p hq
              have e2 := Int.emod_lt_of_pos p (show 0 < q by omega)
              have HR := Lib.hid (show gc q (p % q) = gc c y by rw [gc_step p q p1 (by omega)]; exact HE.out)
              clear HE
              go_wp2_with fail
              have eM : p.tmod q = p % q := Int.tmod_eq_emod_of_nonneg p1
              have eW : IntKind.i64.wrap (p % q) = p % q := IntWalk.i64_in _ (by omega)
              go_quiet (fail)
              clear eM eW
              go_wp2_with fail
              go_roundw
              case rel => exact ⟨q, p % q, rfl, rfl, by omega, by omega, by omega, by omega, HR.out, below_drewN HB2.out _⟩
              case measure => simp [intOf]; omega
      · have e : j = xs.length := by omega
        subst e
        have g1 := HG.out xs.length (by omega)
        rw [← HGe.out] at g1 ⊢
        have HB := Lib.hid hbel
        clear hbel
        by_cases hz : G = 0
        · have x0 : (G == 0) = true := by simp [hz]
          have HX := Lib.hid (sa_no (m := m) (ok := true) (g := G) (by unfold saB; simp [hz]))
          have HY := Lib.hid (show saB m true G = false by unfold saB; simp [hz])
          clear hz
          go_wp2_with fail
          rw [HX.out.1, HX.out.2, HY.out]
          go_ret3
          exact ⟨rfl, HB.out⟩
        · have x0 : (G == 0) = false := by simp [hz]
          have HY := Lib.hid (show saB m true G = true by unfold saB; rw [HM.out]; simp [hz])
          have HX := Lib.hid (sa_yes HY.out)
          have x1 : 1 ≤ G := by omega
          clear hz
          go_wp2_with (first | (go_at_call 82; refine (meLow_pos m G (by omega) (by omega) (by omega) (by omega) _).mono ?_; rintro e w1 ⟨rfl, hb⟩))
          all_goals try (go_quiet (fail); go_wp2_with fail)
          rw [HX.out.1, HX.out.2, HY.out]
          go_ret3
          exact ⟨rfl, HB.out.trans (hb.mono HB.out.size)⟩
set_option maxHeartbeats 2000000 in
theorem implAllAtStart (m : Int) (a : Option Addr) (cap : Nat) (xs : List (Int × Int)) (w : World) (h : RdP w a xs) (hn : xs.length ≤ 1048576) :
    Calls Try.prog 38 #[.int .i64 m, .slice a xs.length cap] w fun e w' => e = .returned (.tuple #[.int .i64 (saN m (wks xs) (gdk (py xs) xs.length)), .int .i64 (saD m (wks xs) (gdk (py xs) xs.length)), .bool (saB m (wks xs) (gdk (py xs) xs.length))]) ∧ Below w.heap.size w w' := by
  cases hm : inB m 1 1000
  · have HM := Lib.hid hm
    have HX := Lib.hid (sa_no (m := m) (ok := wks xs) (g := gdk (py xs) xs.length) (by unfold saB; simp [hm]))
    have HY := Lib.hid (show saB m (wks xs) (gdk (py xs) xs.length) = false by unfold saB; simp [hm])
    clear hm
    go_enter Try.func38, Try.ntmps38
    go_wp2_with (first | (go_at_call 83; refine (isAround_any2 _ _).mono ?_; rw [HM.out]; rintro e w1 ⟨rfl, rfl⟩) | (go_at_call 28; refine (implAreWalkers a cap xs _ h hn).mono ?_; rintro e w0 ⟨rfl, hb0⟩))
    rw [HX.out.1, HX.out.2, HY.out]
    go_ret3
    refine ⟨rfl, ?_⟩
    exact Below.refl _ _
  cases hk : wks xs
  · have HM := Lib.hid hm
    have HK := Lib.hid hk
    have HX := Lib.hid (sa_no (m := m) (ok := false) (g := gdk (py xs) xs.length) (by unfold saB; simp))
    have HY := Lib.hid (show saB m (false) (gdk (py xs) xs.length) = false by unfold saB; simp)
    clear hm hk
    go_enter Try.func38, Try.ntmps38
    go_wp2_with (first | (go_at_call 83; refine (isAround_any2 _ _).mono ?_; rw [HM.out]; rintro e w1 ⟨rfl, rfl⟩) | (go_at_call 28; refine (implAreWalkers a cap xs _ h hn).mono ?_; rw [HK.out]; rintro e w0 ⟨rfl, hb0⟩))
    rw [HX.out.1, HX.out.2, HY.out]
    go_ret3
    refine ⟨rfl, ?_⟩
    exact hb0
  · have HM := Lib.hid hm
    have HK := Lib.hid hk
    have m1 := (inB_iff.1 hm).1
    have m2 := (inB_iff.1 hm).2
    have hk2 : inB (xs.length : Int) 1 8 = true ∧ allW xs = true := by unfold wks at hk; rwa [Bool.and_eq_true] at hk
    have n1 := (inB_iff.1 hk2.1).2
    have hsp : ∀ i, i < xs.length → -100 ≤ py xs i ∧ py xs i ≤ 100 := fun i hi => by have := wkOk_iff.1 (allW_at hk2.2 hi); omega
    have HG := Lib.hid (fun j hj => gdk_bd hsp j hj)
    have HS := Lib.hid hsp
    clear hm hk hk2 hsp
    obtain ⟨G, hG⟩ : ∃ G, G = gdk (py xs) xs.length := ⟨_, rfl⟩
    rw [← hG]
    have HGe := Lib.hid hG
    clear hG
    go_enter Try.func38, Try.ntmps38
    go_wp2_with (first | (go_at_call 83; refine (isAround_any2 _ _).mono ?_; rw [HM.out]; rintro e w1 ⟨rfl, rfl⟩) | (go_at_call 28; refine (implAreWalkers a cap xs _ h hn).mono ?_; rw [HK.out]; rintro e w0 ⟨rfl, hb0⟩))
    go_loopg [7, 21] xs.length (fun k v7 v21 wr => ∃ (j : Nat), v7 = .int .i64 (gdk (py xs) j) ∧ v21 = .int .i64 (j : Int) ∧ j + k ≤ xs.length ∧ xs.length ≤ j + k ∧ Below w.heap.size w wr)
    case atStart => exact ⟨0, rfl, rfl, by omega, by omega, hb0⟩
    case round =>
      clear hb0
      obtain ⟨j, rfl, rfl, h1, h2, hbel⟩ := hrel
      have hsz := hbel.size
      by_cases hj : j < xs.length
      · rcases h with h | ⟨b, off, rfl, hlt, hc⟩
        · rw [h] at hj; exact absurd hj (Nat.not_lt_zero _)
        · have hcj : wr.cell? ⟨b, off + j * 2, none⟩ = some (.int .i64 (px xs j)) := by rw [(bcell hbel).1 b _ hlt]; exact (hc j hj).1
          have hck : wr.cell? ⟨b, off + j * 2 + 1, none⟩ = some (.int .i64 (py xs j)) := by rw [(bcell hbel).1 b _ hlt]; exact (hc j hj).2
          have hjI : (j : Int) < (xs.length : Int) := by omega
          have HB := Lib.hid hbel
          have g1 := HG.out j (by omega)
          have g2 := HS.out j hj
          have HN := Lib.hid (show gdk (py xs) (j + 1) = gc (gdk (py xs) j) (py xs j) from rfl)
          clear hbel hc
          generalize px xs j = x at *
          generalize py xs j = y at *
          generalize gdk (py xs) j = c at *
          have z1 := ab_nonneg y
          have z2 := ab_le g2.1 g2.2
          have z3 := gc_bd g1.1 g1.2 g2.1 g2.2
          go_wp2_with (first | (go_at_call 85; refine (distance_any y 0 (by omega) (by omega) (by omega) (by omega) _).mono ?_; rw [Int.sub_zero]; rintro e w1 ⟨rfl, rfl⟩) | (go_at_call 84; refine (gcd_any c (ab y) (by omega) (by omega) (by omega) (by omega) _).mono ?_; rw [gc_ab']; rintro e w1 ⟨rfl, hb⟩))
          go_roundg (gk - 1)
          case rel => exact ⟨j + 1, by rw [HN.out], by go_num, by omega, by omega, bchain (HB.out.alloc (by omega) _) hb (by simp; omega)⟩
          case measure => omega
      · have e : j = xs.length := by omega
        subst e
        have g1 := HG.out xs.length (by omega)
        rw [← HGe.out] at g1 ⊢
        have HB := Lib.hid hbel
        clear hbel
        by_cases hz : G = 0
        · have x0 : (G == 0) = true := by simp [hz]
          have HX := Lib.hid (sa_no (m := m) (ok := true) (g := G) (by unfold saB; simp [hz]))
          have HY := Lib.hid (show saB m true G = false by unfold saB; simp [hz])
          clear hz
          go_wp2_with fail
          rw [HX.out.1, HX.out.2, HY.out]
          go_ret3
          exact ⟨rfl, HB.out⟩
        · have x0 : (G == 0) = false := by simp [hz]
          have HY := Lib.hid (show saB m true G = true by unfold saB; rw [HM.out]; simp [hz])
          have HX := Lib.hid (sa_yes HY.out)
          have x1 : 1 ≤ G := by omega
          clear hz
          go_wp2_with (first | (go_at_call 86; refine (lowest_any m G (by omega) (by omega) (by omega) (by omega) _).mono ?_; rintro e w1 ⟨rfl, hb⟩))
          all_goals try (go_quiet (fail); go_wp2_with fail)
          rw [HX.out.1, HX.out.2, HY.out]
          go_ret3
          refine ⟨rfl, ?_⟩
          have hz := hb.size
          have hz2 := HB.out.size
          exact below_drewN ((HB.out.trans (hb.mono HB.out.size)).alloc (by omega) _) _
end Go.Proofs.Yteaefmngfomhgaa
