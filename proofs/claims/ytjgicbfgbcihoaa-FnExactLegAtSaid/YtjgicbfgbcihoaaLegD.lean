/- Chapter 6's program: on which leg one is at a time, and where, by contracts. -/
import Derived.Test.YtjgicbfgbcihoaaLegA
import Derived.Test.YtjgicbfgbcihoaaLegPl
import Derived.WalkKit
import Derived.WalkSpells
import Derived.WalkLawsBesides
import Derived.Lib.Hide
import Derived.Deep.LoopGhost
import Derived.Deep.QuietTactic
import Derived.Deep.RegionWith
import Derived.Deep.RegionHeld3
import Derived.BigQuiet
import Derived.Shelf.Abstract
namespace Go.Proofs.Ytjgicbfgbcihoaa
open Go.RowKit
set_option linter.unusedVariables false
set_option linter.unusedSimpArgs false
set_option maxHeartbeats 4000000 in
set_option maxRecDepth 100000 in
theorem legAt_any (a : Option Addr) (cap : Nat) (xs : List (Int × Int)) (u v : Int) (w : World) (h : RdP w a xs) (hl1 : 1 ≤ xs.length) (hl : xs.length ≤ 5) (ht : ∀ i, i < xs.length → lgOk (px xs i) (py xs i) = true) (u1 : 0 ≤ u) (u2 : u ≤ 100000) (v1 : 1 ≤ v) (v2 : v ≤ 1000) (hcap : xs.length ≤ cap) :
    Calls Try.prog 66 #[.slice a xs.length cap, .agg #[.int .i64 u, .int .i64 v]] w fun e w' => e = .returned (.int .i64 ((lgA xs u v : Nat) : Int)) ∧ Below w.heap.size w w' := by
  have HT := Lib.hid ht
  have hbd := Lib.hid (fun (j : Nat) (hj : j ≤ xs.length) => lgT_num ht hl hj)
  clear ht
  go_enter Try.func66, Try.ntmps66
  go_wp2_with fail
  refine (sumOver_any 55 #[] _).mono ?_; rintro e w1 ⟨rfl, hb1, hz1, hk1⟩
  (try simp only [World.size_alloc, World.size_drew, World.size_setCell] at hz1 hk1)
  have hs1 := hb1.size
  (try simp only [World.size_alloc] at hs1)
  have c0 : w1.cell? ⟨w.heap.size, 0, none⟩ = some (.int .i64 u) := by rw [(bcell hb1).1 w.heap.size 0 (by simp)]; go_simp
  have c1 : w1.cell? ⟨w.heap.size, 1, none⟩ = some (.int .i64 v) := by rw [(bcell hb1).1 w.heap.size 1 (by simp)]; go_simp
  have HB1 : Hid (Below w.heap.size w w1) := bchain (by (repeat (first | exact Below.refl _ _ | refine Below.drew ?_ | refine below_drewN ?_ _ | refine Below.setCell ?_ (by first | exact Nat.le_refl _ | omega | (simp; done) | (simp; omega)) _ | refine Below.alloc ?_ (by first | exact Nat.le_refl _ | omega | (simp; done) | (simp; omega)) _ | refine bchain ?_ (by assumption) (by first | exact Nat.le_refl _ | omega | (simp; done) | (simp; omega))))) hb1 (by simp)
  clear hb1
  have lI : (1 : Int) ≤ (xs.length : Int) := by omega
  have lI5 : (xs.length : Int) ≤ 5 := by omega
  go_wp2_with fail
  go_loopg [13] (xs.length - 1) (fun k v13 wr => ∃ (j : Nat), v13 = .int .i64 (j : Int) ∧ j + k + 1 = xs.length ∧ Hid (lgOn xs u v (k + 1) j = lgOn xs u v xs.length 0) ∧ Below w1.heap.size w1 wr)
  case atStart => exact ⟨0, rfl, by omega, by unfold Hid; congr 1; omega, Below.refl _ _⟩
  case round =>
    obtain ⟨j, rfl, g1, hon, hbel⟩ := hrel
    by_cases hj : j + 1 < xs.length
    · obtain ⟨k', rfl⟩ : ∃ k', gk = k' + 1 := ⟨gk - 1, by omega⟩
      have hjI : (j : Int) < (xs.length : Int) - 1 := by omega
      have hjc : (j : Int) + 1 ≤ (cap : Int) := by omega
      have hjc2 : j + 1 ≤ cap := by omega
      have j0 : (0 : Int) ≤ (j : Int) + 1 := by omega
      have wj : IntKind.i64.wrap ((j : Int) + 1) = (j : Int) + 1 := IntWalk.i64_in _ (by omega)
      have ej : ((j : Int) + 1).toNat = j + 1 := by omega
      have HBl := Lib.hid hbel
      have hsz := hbel.size
      have d0 : wr.cell? ⟨w.heap.size, 0, none⟩ = some (.int .i64 u) := by rw [(bcell hbel).1 _ _ (by omega)]; exact c0
      have d1 : wr.cell? ⟨w.heap.size, 1, none⟩ = some (.int .i64 v) := by rw [(bcell hbel).1 _ _ (by omega)]; exact c1
      have dk : wr.cell? ⟨w.heap.size + 1, 0, none⟩ = some (.func (.func 55) #[] #[]) := by rw [(bcell hbel).1 _ _ (by omega)]; exact hk1
      have hR := Lib.hid (h.below (HB1.out.trans (hbel.mono HB1.out.size)))
      have HS := Lib.hid (fun (cp : Nat) (w : World) h h1 h2 => sumTk_any (j + 1) (w1.heap.size + 0) a cp xs w h hl (by omega) HT.out h1 h2)
      have bs := hbd.out (j + 1) (by omega)
      have hon2 : Hid ((if u * (lgT xs (j + 1)).2 < (lgT xs (j + 1)).1 * v then j else lgOn xs u v (k' + 1) (j + 1)) = lgOn xs u v xs.length 0) := hon.out
      have HST := Lib.hid (fun (B : Nat) (cp : Nat) (w : World) h h1 h2 => sumTk_any (j + 1) B a cp xs w h hl (by omega) HT.out h1 h2)
      have b1 := bs.1
      have b2 := bs.2.1
      have b3 := bs.2.2.1
      have b4 := bs.2.2.2.1
      clear hbel hon bs HS
      generalize (lgT xs (j + 1)).1 = p at *
      generalize (lgT xs (j + 1)).2 = q at *
      have HM := Lib.hid (fun w => fcompareW u v p q 100000 1000 50000000000000 10000000000 (by omega) (by omega) (by omega) (by omega) (by omega) (by omega) (by omega) (by omega) (by omega) (by omega) w)
      have hiff : cmpI (u * q) (p * v) < 0 ↔ u * q < p * v := by
        unfold cmpI
        split
        · omega
        · split <;> omega
      generalize cmpI (u * q) (p * v) = c at *
      by_cases hlt : u * q < p * v
      · have hc : c < 0 := hiff.2 hlt
        have HE := Lib.hid ((if_pos hlt).symm.trans hon2.out)
        have hA : lgA xs u v = j := by unfold lgA; rw [← HE.out, if_pos (by omega)]
        have HA := Lib.hid hA
        clear hon2 hiff hA
        go_wp2_with fail
        go_region_held3 (fun w' => Below wr.heap.size wr w' ∧ w'.cell? ⟨w.heap.size, 0, none⟩ = some (.int .i64 u) ∧ w'.cell? ⟨w.heap.size, 1, none⟩ = some (.int .i64 v) ∧ w'.cell? ⟨w.heap.size + 1, 0, none⟩ = some (.func (.func 55) #[] #[]))
          (refine ⟨?_, ?_, ?_, ?_⟩ <;> first | assumption | ((repeat (first | exact Below.refl _ _ | refine Below.drew ?_ | refine below_drewN ?_ _ | refine Below.setCell ?_ (by first | exact Nat.le_refl _ | omega | (simp; done) | (simp; omega)) _ | refine Below.alloc ?_ (by first | exact Nat.le_refl _ | omega | (simp; done) | (simp; omega)) _ | refine bchain ?_ (by assumption) (by first | exact Nat.le_refl _ | omega | (simp; done) | (simp; omega)))); done) | omega | (simp; done) | (simp; omega) | (go_simp; done))
          (first | (go_at_call 74; refine (HST.out _ _ _ (hR.out.below (And.left (by assumption))) (by first | assumption | (go_simp; done)) (by first | omega | (simp; done) | (simp; omega))).mono ?_; rintro e x1 ⟨rfl, hb1⟩; have hs1 := hb1.size; (try simp only [World.size_alloc, World.size_drew, World.size_setCell] at hs1); (try (have hl1_0 : w.heap.size < x1.heap.size := (by first | omega | (simp; done) | (simp; omega)))); (try (have hc1_0 := fun o => (bcell hb1).1 (w.heap.size) o (by first | omega | (simp; done) | (simp; omega)))); (try (have hf1_0 := fun o => (bcell hb1).2 (w.heap.size) o (by first | omega | (simp; done) | (simp; omega)))); (try (have hl1_1 : w.heap.size + 1 < x1.heap.size := (by first | omega | (simp; done) | (simp; omega)))); (try (have hc1_1 := fun o => (bcell hb1).1 (w.heap.size + 1) o (by first | omega | (simp; done) | (simp; omega)))); (try (have hf1_1 := fun o => (bcell hb1).2 (w.heap.size + 1) o (by first | omega | (simp; done) | (simp; omega))))) | (go_at_call 70; refine (HM.out _).mono ?_; rintro e x2 ⟨rfl, hb2⟩; have hs2 := hb2.size; (try simp only [World.size_alloc, World.size_drew, World.size_setCell] at hs2); (try (have hl2_0 : w.heap.size < x2.heap.size := (by first | omega | (simp; done) | (simp; omega)))); (try (have hc2_0 := fun o => (bcell hb2).1 (w.heap.size) o (by first | omega | (simp; done) | (simp; omega)))); (try (have hf2_0 := fun o => (bcell hb2).2 (w.heap.size) o (by first | omega | (simp; done) | (simp; omega)))); (try (have hl2_1 : w.heap.size + 1 < x2.heap.size := (by first | omega | (simp; done) | (simp; omega)))); (try (have hc2_1 := fun o => (bcell hb2).1 (w.heap.size + 1) o (by first | omega | (simp; done) | (simp; omega)))); (try (have hf2_1 := fun o => (bcell hb2).2 (w.heap.size + 1) o (by first | omega | (simp; done) | (simp; omega))))))
        all_goals rename_i hHeld
        all_goals go_wp2_with fail
        go_ret
        rw [HA.out]
        exact ⟨rfl, HB1.out.trans ((HBl.out.trans (hHeld.1.mono hsz)).mono HB1.out.size)⟩
      · have hc : ¬ c < 0 := fun q => hlt (hiff.1 q)
        have HE := Lib.hid ((if_neg hlt).symm.trans hon2.out)
        clear hon2 hiff
        go_wp2_with fail
        go_region_held3 (fun w' => Below wr.heap.size wr w' ∧ w'.cell? ⟨w.heap.size, 0, none⟩ = some (.int .i64 u) ∧ w'.cell? ⟨w.heap.size, 1, none⟩ = some (.int .i64 v) ∧ w'.cell? ⟨w.heap.size + 1, 0, none⟩ = some (.func (.func 55) #[] #[]))
          (refine ⟨?_, ?_, ?_, ?_⟩ <;> first | assumption | ((repeat (first | exact Below.refl _ _ | refine Below.drew ?_ | refine below_drewN ?_ _ | refine Below.setCell ?_ (by first | exact Nat.le_refl _ | omega | (simp; done) | (simp; omega)) _ | refine Below.alloc ?_ (by first | exact Nat.le_refl _ | omega | (simp; done) | (simp; omega)) _ | refine bchain ?_ (by assumption) (by first | exact Nat.le_refl _ | omega | (simp; done) | (simp; omega)))); done) | omega | (simp; done) | (simp; omega) | (go_simp; done))
          (first | (go_at_call 74; refine (HST.out _ _ _ (hR.out.below (And.left (by assumption))) (by first | assumption | (go_simp; done)) (by first | omega | (simp; done) | (simp; omega))).mono ?_; rintro e x1 ⟨rfl, hb1⟩; have hs1 := hb1.size; (try simp only [World.size_alloc, World.size_drew, World.size_setCell] at hs1); (try (have hl1_0 : w.heap.size < x1.heap.size := (by first | omega | (simp; done) | (simp; omega)))); (try (have hc1_0 := fun o => (bcell hb1).1 (w.heap.size) o (by first | omega | (simp; done) | (simp; omega)))); (try (have hf1_0 := fun o => (bcell hb1).2 (w.heap.size) o (by first | omega | (simp; done) | (simp; omega)))); (try (have hl1_1 : w.heap.size + 1 < x1.heap.size := (by first | omega | (simp; done) | (simp; omega)))); (try (have hc1_1 := fun o => (bcell hb1).1 (w.heap.size + 1) o (by first | omega | (simp; done) | (simp; omega)))); (try (have hf1_1 := fun o => (bcell hb1).2 (w.heap.size + 1) o (by first | omega | (simp; done) | (simp; omega))))) | (go_at_call 70; refine (HM.out _).mono ?_; rintro e x2 ⟨rfl, hb2⟩; have hs2 := hb2.size; (try simp only [World.size_alloc, World.size_drew, World.size_setCell] at hs2); (try (have hl2_0 : w.heap.size < x2.heap.size := (by first | omega | (simp; done) | (simp; omega)))); (try (have hc2_0 := fun o => (bcell hb2).1 (w.heap.size) o (by first | omega | (simp; done) | (simp; omega)))); (try (have hf2_0 := fun o => (bcell hb2).2 (w.heap.size) o (by first | omega | (simp; done) | (simp; omega)))); (try (have hl2_1 : w.heap.size + 1 < x2.heap.size := (by first | omega | (simp; done) | (simp; omega)))); (try (have hc2_1 := fun o => (bcell hb2).1 (w.heap.size + 1) o (by first | omega | (simp; done) | (simp; omega)))); (try (have hf2_1 := fun o => (bcell hb2).2 (w.heap.size + 1) o (by first | omega | (simp; done) | (simp; omega))))))
        all_goals rename_i hHeld
        all_goals go_wp2_with fail
        go_roundg k'
        case rel => exact ⟨j + 1, by go_num, by omega, HE.out, HBl.out.trans (hHeld.1.mono hsz)⟩
        case measure => omega
    · obtain rfl : gk = 0 := by omega
      have hA : ((lgA xs u v : Nat) : Int) = (xs.length : Int) - 1 := by
        have e := hon.out
        unfold lgA
        rw [← e]
        unfold lgOn
        split
        · split <;> omega
        · unfold lgOn
          split <;> omega
      have HA := Lib.hid hA
      have HBl := Lib.hid hbel
      have hjl : ¬ (j : Int) < (xs.length : Int) - 1 := by omega
      clear hon hA hbel
      go_wp2_with fail
      go_ret
      rw [HA.out]
      exact ⟨rfl, HB1.out.trans (HBl.out.mono HB1.out.size)⟩
theorem lgA_mn (xs : List (Int × Int)) (u v : Int) (h : 1 ≤ xs.length) : mnG ((lgOn xs u v xs.length 0 : Nat) : Int) ((xs.length : Int) - 1) = ((lgA xs u v : Nat) : Int) := by
  have := lgOn_le xs u v xs.length 0
  unfold mnG lgA
  split <;> split <;> omega
set_option maxHeartbeats 4000000 in
theorem implLegAt (a : Option Addr) (cap : Nat) (xs : List (Int × Int)) (u v : Int) (w : World) (h : RdP w a xs) (hn : xs.length ≤ 1048576) (hcap : xs.length ≤ cap) :
    Calls Try.prog 35 #[.slice a xs.length cap, .int .i64 u, .int .i64 v] w fun e w' => e = .returned (.tuple #[.int .i64 (ifI (lgS xs && gmOk u v) (mnG ((lgOn xs u v xs.length 0 : Nat) : Int) ((xs.length : Int) - 1))), .bool (lgS xs && gmOk u v)]) ∧ Below w.heap.size w w' := by
  cases hs : lgS xs
  · have HS := Lib.hid hs
    clear hs
    go_enter Try.func35, Try.ntmps35
    go_wp2_with (first | (go_at_call 18; refine (implAreLegs a cap xs _ h hn).mono ?_; rw [HS.out]; rintro e w1 ⟨rfl, hb⟩))
    go_ret2
    exact ⟨rfl, hb⟩
  · have t := lgS_at hs
    have HS := Lib.hid hs
    have hl := t.2.1
    have hl1 := t.1
    have HT := Lib.hid t.2.2
    clear hs t
    cases k1 : gmOk u v
    · have M1 := Lib.hid k1
      clear k1
      go_enter Try.func35, Try.ntmps35
      go_wp2_with (first | (go_at_call 18; refine (implAreLegs a cap xs _ h hn).mono ?_; rw [HS.out]; rintro e w1 ⟨rfl, hb⟩) | (go_at_call 65; refine (isLegTime_any _ _ _).mono ?_; rw [M1.out]; rintro e w2 ⟨rfl, rfl⟩))
      go_ret2
      exact ⟨rfl, hb⟩
    have M1 := Lib.hid k1
    have gm := gmOk_iff.1 k1
    simp only [Bool.true_and]
    rw [lgA_mn xs u v hl1]
    have HA := Lib.hid (fun w h => legAt_any a cap xs u v w h hl1 hl HT.out gm.1 gm.2.1 gm.2.2.1 gm.2.2.2 hcap)
    clear gm k1
    generalize lgA xs u v = r at *
    go_enter Try.func35, Try.ntmps35
    go_wp2_with (first | (go_at_call 18; refine (implAreLegs a cap xs _ h hn).mono ?_; rw [HS.out]; rintro e w1 ⟨rfl, hb⟩) | (go_at_call 65; refine (isLegTime_any _ _ _).mono ?_; rw [M1.out]; rintro e w2 ⟨rfl, rfl⟩))
    have HB := Lib.hid hb
    have h1 := Lib.hid (h.below hb)
    clear hb
    refine (HA.out _ h1.out).mono ?_; rintro e w3 ⟨rfl, hb3⟩
    have HB3 := Lib.hid (HB.out.trans (hb3.mono HB.out.size))
    clear hb3
    go_wp2_with fail
    go_ret2
    exact ⟨rfl, HB3.out⟩
set_option maxHeartbeats 16000000 in
set_option maxRecDepth 100000 in
theorem implPlaceOnLegs (a : Option Addr) (cap : Nat) (xs : List (Int × Int)) (u v : Int) (w : World) (h : RdP w a xs) (hn : xs.length ≤ 1048576) (hcap : xs.length ≤ cap) :
    Calls Try.prog 33 #[.slice a xs.length cap, .int .i64 u, .int .i64 v] w fun e w' => e = .returned (.tuple #[.int .i64 (ifI (lgS xs && gmOk u v) (plcN xs u v (lgOn xs u v xs.length 0))), .int .i64 (ifI (lgS xs && gmOk u v) (plcD xs u v (lgOn xs u v xs.length 0))), .bool (lgS xs && gmOk u v)]) ∧ Below w.heap.size w w' := by
  cases hs : lgS xs
  · have HS := Lib.hid hs
    clear hs
    go_enter Try.func33, Try.ntmps33
    go_wp2_with (first | (go_at_call 18; refine (implAreLegs a cap xs _ h hn).mono ?_; rw [HS.out]; rintro e w1 ⟨rfl, hb⟩))
    go_ret3
    exact ⟨rfl, hb⟩
  · have t := lgS_at hs
    have HS := Lib.hid hs
    have hl := t.2.1
    have hl1 := t.1
    have HT := Lib.hid t.2.2
    clear hs t
    cases k1 : gmOk u v
    · have M1 := Lib.hid k1
      clear k1
      go_enter Try.func33, Try.ntmps33
      go_wp2_with (first | (go_at_call 18; refine (implAreLegs a cap xs _ h hn).mono ?_; rw [HS.out]; rintro e w1 ⟨rfl, hb⟩) | (go_at_call 65; refine (isLegTime_any _ _ _).mono ?_; rw [M1.out]; rintro e w2 ⟨rfl, rfl⟩))
      go_ret3
      exact ⟨rfl, hb⟩
    have M1 := Lib.hid k1
    have gm := gmOk_iff.1 k1
    simp only [Bool.true_and]
    have HA := Lib.hid (fun w h => legAt_any a cap xs u v w h hl1 hl HT.out gm.1 gm.2.1 gm.2.2.1 gm.2.2.2 hcap)
    have pf := place_fin (u := u) (v := v) HT.out hl1 hl gm.1 gm.2.2.1
    have hkl := lgA_lt xs u v hl1
    have hok := lgA_ok xs u v gm.1
    rw [← pf.1, ← pf.2]
    clear pf k1
    generalize lgA xs u v = k at *
    have u1 := gm.1
    have u2 := gm.2.1
    have v1 := gm.2.2.1
    have v2 := gm.2.2.2
    have bt := lgT_num HT.out hl (j := k) (by omega)
    have bl := lgL_bd HT.out k (by omega)
    have bL := lgL_bd HT.out xs.length (by omega)
    have bf := lgOk_iff.1 (HT.out k hkl)
    have HTk := Lib.hid (fun (B cp : Nat) (w : World) h h1 h2 => sumTk_any k B a cp xs w h hl (by omega) HT.out h1 h2)
    have HWk := Lib.hid (fun (B cp : Nat) (w : World) h h1 h2 => sumWk_any k B a cp xs w h hl (by omega) HT.out h1 h2)
    have HWa := Lib.hid (fun (B cp : Nat) (w : World) h h1 h2 => sumW_any B a cp xs w h hl HT.out h1 h2)
    have b1 := bt.1
    have b2 := bt.2.1
    have b3 := bt.2.2.1
    have b4 := bt.2.2.2.1
    unfold plX plY plA plB
    clear bt gm
    generalize (lgT xs k).1 = p at *
    generalize (lgT xs k).2 = q at *
    generalize lgL xs k = s at *
    generalize lgL xs xs.length = L at *
    obtain ⟨f, hf⟩ : ∃ f, f = py xs k := ⟨_, rfl⟩
    rw [← hf] at bf ⊢
    have m1 := mul_bd u q 100000 10000000000 (by omega) (by omega) (by omega) (by omega)
    have m2 := mul_bd p v 50000000000000 1000 (by omega) (by omega) (by omega) (by omega)
    have m3 := mul_bd v q 1000 10000000000 (by omega) (by omega) (by omega) (by omega)
    have m4 := mul_pos1 v1 b1
    have mv := minus_val (n := u) (d := v) (m := p) (e := q) (A := u) (B := v) (C := p) (D := q) v1 b1 v1 b1 rfl rfl
    have HM := Lib.hid (fun w => minusW u v p q 100000 1000 50000000000000 10000000000 (by omega) (by omega) (by omega) (by omega) (by omega) (by omega) (by omega) (by omega) (by omega) (by omega) (by omega) (by omega) (by omega) (by omega) w)
    rw [mv.1, mv.2] at HM
    have x1 := lwN_bd (a := u * q - p * v) (b := v * q) (B := 1000000000000000) (by omega) (by omega) (by omega)
    have x2 := lwD_pos (a := u * q - p * v) (b := v * q) (by omega)
    generalize lwN (u * q - p * v) (v * q) = aN at *
    generalize lwD (u * q - p * v) (v * q) = aD at *
    have HTi := Lib.hid (fun w => timesW aN aD f 1000000000000000 100 (by omega) (by omega) (by omega) (by omega) (by omega) (by omega) (by omega) w)
    have m5 := mul_ab aN f 1000000000000000 100 (by omega) (by omega) (by omega) (by omega)
    have y1 := lwN_bd (a := aN * f) (b := aD) (B := 100000000000000000) (by omega) (by omega) (by omega)
    have y2 := lwD_pos (a := aN * f) (b := aD) (by omega)
    have HPl := Lib.hid (fun w => plusW s 1 (lwN (aN * f) aD) (lwD (aN * f) aD) 5000 1 100000000000000000 10000000000000 (by omega) (by omega) (by omega) (by omega) (by omega) (by omega) (by omega) (by omega) (by omega) (by omega) (by omega) (by omega) (by omega) w)
    have ps := place_sum (s := s) (f := f) (a := aN) (b := aD) x2.1
    rw [ps.1, ps.2] at HPl
    have m6 := mul_bd s aD 5000 10000000000000 (by omega) (by omega) (by omega) (by omega)
    have m7 : f * aN = aN * f := Int.mul_comm _ _
    have g1 := lwN_bd (a := s * aD + f * aN) (b := aD) (B := 150000000000000000) (by omega) (by omega) (by omega)
    have g2 := lwD_pos (a := s * aD + f * aN) (b := aD) (by omega)
    clear ps mv m7
    generalize lwN (s * aD + f * aN) aD = X at *
    generalize lwD (s * aD + f * aN) aD = Y at *
    generalize lwN (aN * f) aD = cN at *
    generalize lwD (aN * f) aD = cD at *
    have HC := Lib.hid (fun w => fcompareW X Y L 1 200000000000000000 10000000000000 5000 1 (by omega) (by omega) (by omega) (by omega) (by omega) (by omega) (by omega) (by omega) (by omega) (by omega) w)
    have hiff : 0 < cmpI (X * 1) (L * Y) ↔ L * Y < X := by
      unfold cmpI
      rw [Int.mul_one]
      split
      · omega
      · split <;> omega
    rw [Int.mul_one] at HC hiff
    generalize cmpI X (L * Y) = c at *
    have hkc : k ≤ cap := by omega
    have hkI : (k : Int) < (xs.length : Int) := by omega
    obtain ⟨RN, hRN⟩ : ∃ r, r = (if L * Y < X then L else X) := ⟨_, rfl⟩
    obtain ⟨RD, hRD⟩ : ∃ r, r = (if L * Y < X then 1 else Y) := ⟨_, rfl⟩
    rw [← hRN, ← hRD]
    have HRN := Lib.hid hRN
    have HRD := Lib.hid hRD
    have HIFF := Lib.hid hiff
    have HF := Lib.hid hf
    clear hRN hRD hiff hf m1 m2 m3 m4 m5 m6 x1 x2 y1 y2 g1 g2 bl bL b1 b2 b3 b4 bf u1 u2 v1 v2 hok
    go_enter Try.func33, Try.ntmps33
    go_wp2_with (first | (go_at_call 18; refine (implAreLegs a cap xs _ h hn).mono ?_; rw [HS.out]; rintro e w1 ⟨rfl, hb⟩) | (go_at_call 65; refine (isLegTime_any _ _ _).mono ?_; rw [M1.out]; rintro e w2 ⟨rfl, rfl⟩))
    have HB := Lib.hid hb
    have h1 := Lib.hid (h.below hb)
    have zb := hb.size
    clear hb
    refine (sumOver_any 53 #[] _).mono ?_; rintro e s1 ⟨rfl, hb1, hz1, hk1⟩
    have S1 := Lib.hid (HB.out.trans (hb1.mono HB.out.size))
    clear hb1
    go_wp2_with fail
    refine (sumOver_any 55 #[] _).mono ?_; rintro e s2 ⟨rfl, hb2, hz2, hk2⟩
    have k1' : s2.cell? ⟨w1.heap.size, 0, none⟩ = some (.func (.func 53) #[] #[]) := by rw [(bcell hb2).1 _ _ (by omega)]; exact hk1
    have S2 := Lib.hid (S1.out.trans (hb2.mono S1.out.size))
    clear hb2 hk1
    go_wp2_with fail
    refine (HA.out _ (h.below (S2.out.alloc (by have := S2.out.size; omega) _))).mono ?_; rintro e s3 ⟨rfl, hb3⟩
    have zs3 := hb3.size
    (try simp only [World.size_alloc] at zs3)
    have z12 : w1.heap.size < s2.heap.size := by omega
    have z11 : s1.heap.size < s2.heap.size := hz2
    have d1 : s3.cell? ⟨w1.heap.size, 0, none⟩ = some (.func (.func 53) #[] #[]) := by rw [(bcell hb3).1 _ _ (by simp; omega)]; go_simp
    have d2 : s3.cell? ⟨s1.heap.size, 0, none⟩ = some (.func (.func 55) #[] #[]) := by rw [(bcell hb3).1 _ _ (by simp; omega)]; go_simp
    have d3 : s3.cell? ⟨s2.heap.size, 0, none⟩ = some (.int .i64 u) := by rw [(bcell hb3).1 _ _ (by simp)]; go_simp
    have d4 : s3.cell? ⟨s2.heap.size, 1, none⟩ = some (.int .i64 v) := by rw [(bcell hb3).1 _ _ (by simp)]; go_simp
    have S3 : Hid (Below w.heap.size w s3) := bchain (S2.out.alloc (by have := S2.out.size; omega) _) hb3 (by have := S2.out.size; simp; omega)
    have hR := Lib.hid (h.below S3.out)
    have zz1 : w1.heap.size < s3.heap.size := by omega
    have zz2 : s1.heap.size < s3.heap.size := by omega
    have zz3 : s2.heap.size < s3.heap.size := by omega
    clear hb3
    go_wp2_with fail
    refine wp_uni [14, 38, 39, 40, 41, 42] (fun vs X7 => ∃ (k7 : Nat) (v1 v2 v3 v4 v5 : Value), vs = [.pointer (some ⟨k7, 0, none⟩), v1, v2, v3, v4, v5] ∧ Below s3.heap.size s3 X7 ∧ k7 < X7.heap.size ∧ X7.cell? ⟨w1.heap.size, 0, none⟩ = some (.func (.func 53) #[] #[]) ∧ X7.cell? ⟨k7, 0, none⟩ = some (.int .i64 aN) ∧ X7.cell? ⟨k7, 1, none⟩ = some (.int .i64 aD)) ?_ ?_
    · go_region_held3 (fun w' => Below s3.heap.size s3 w' ∧ w'.cell? ⟨w1.heap.size, 0, none⟩ = some (.func (.func 53) #[] #[]) ∧ w'.cell? ⟨s1.heap.size, 0, none⟩ = some (.func (.func 55) #[] #[]) ∧ w'.cell? ⟨s2.heap.size, 0, none⟩ = some (.int .i64 u) ∧ w'.cell? ⟨s2.heap.size, 1, none⟩ = some (.int .i64 v))
        (refine ⟨?_, ?_, ?_, ?_, ?_⟩ <;> first | assumption | ((repeat (first | exact Below.refl _ _ | refine Below.drew ?_ | refine below_drewN ?_ _ | refine Below.setCell ?_ (by first | exact Nat.le_refl _ | omega | (simp; done) | (simp; omega)) _ | refine Below.alloc ?_ (by first | exact Nat.le_refl _ | omega | (simp; done) | (simp; omega)) _ | refine bchain ?_ (by assumption) (by first | exact Nat.le_refl _ | omega | (simp; done) | (simp; omega)))); done) | omega | (simp; done) | (simp; omega) | (go_simp; done))
        (first | (go_at_call 74; refine (HTk.out _ _ _ (hR.out.below (And.left (by assumption))) (by first | assumption | (go_simp; done)) (by first | omega | (simp; done) | (simp; omega))).mono ?_; rintro e x1 ⟨rfl, hb1⟩; have hs1 := hb1.size; (try simp only [World.size_alloc, World.size_drew, World.size_setCell] at hs1); (try (have hl1_0 : w1.heap.size < x1.heap.size := (by first | omega | (simp; done) | (simp; omega)))); (try (have hc1_0 := fun o => (bcell hb1).1 (w1.heap.size) o (by first | omega | (simp; done) | (simp; omega)))); (try (have hf1_0 := fun o => (bcell hb1).2 (w1.heap.size) o (by first | omega | (simp; done) | (simp; omega)))); (try (have hl1_1 : s1.heap.size < x1.heap.size := (by first | omega | (simp; done) | (simp; omega)))); (try (have hc1_1 := fun o => (bcell hb1).1 (s1.heap.size) o (by first | omega | (simp; done) | (simp; omega)))); (try (have hf1_1 := fun o => (bcell hb1).2 (s1.heap.size) o (by first | omega | (simp; done) | (simp; omega)))); (try (have hl1_2 : s2.heap.size < x1.heap.size := (by first | omega | (simp; done) | (simp; omega)))); (try (have hc1_2 := fun o => (bcell hb1).1 (s2.heap.size) o (by first | omega | (simp; done) | (simp; omega)))); (try (have hf1_2 := fun o => (bcell hb1).2 (s2.heap.size) o (by first | omega | (simp; done) | (simp; omega)))); (try (have hl1_3 : s3.heap.size < x1.heap.size := (by first | omega | (simp; done) | (simp; omega)))); (try (have hc1_3 := fun o => (bcell hb1).1 (s3.heap.size) o (by first | omega | (simp; done) | (simp; omega)))); (try (have hf1_3 := fun o => (bcell hb1).2 (s3.heap.size) o (by first | omega | (simp; done) | (simp; omega))))) | (go_at_call 67; refine (HM.out _).mono ?_; rintro e x2 ⟨rfl, hb2⟩; have hs2 := hb2.size; (try simp only [World.size_alloc, World.size_drew, World.size_setCell] at hs2); (try (have hl2_0 : w1.heap.size < x2.heap.size := (by first | omega | (simp; done) | (simp; omega)))); (try (have hc2_0 := fun o => (bcell hb2).1 (w1.heap.size) o (by first | omega | (simp; done) | (simp; omega)))); (try (have hf2_0 := fun o => (bcell hb2).2 (w1.heap.size) o (by first | omega | (simp; done) | (simp; omega)))); (try (have hl2_1 : s1.heap.size < x2.heap.size := (by first | omega | (simp; done) | (simp; omega)))); (try (have hc2_1 := fun o => (bcell hb2).1 (s1.heap.size) o (by first | omega | (simp; done) | (simp; omega)))); (try (have hf2_1 := fun o => (bcell hb2).2 (s1.heap.size) o (by first | omega | (simp; done) | (simp; omega)))); (try (have hl2_2 : s2.heap.size < x2.heap.size := (by first | omega | (simp; done) | (simp; omega)))); (try (have hc2_2 := fun o => (bcell hb2).1 (s2.heap.size) o (by first | omega | (simp; done) | (simp; omega)))); (try (have hf2_2 := fun o => (bcell hb2).2 (s2.heap.size) o (by first | omega | (simp; done) | (simp; omega)))); (try (have hl2_3 : s3.heap.size < x2.heap.size := (by first | omega | (simp; done) | (simp; omega)))); (try (have hc2_3 := fun o => (bcell hb2).1 (s3.heap.size) o (by first | omega | (simp; done) | (simp; omega)))); (try (have hf2_3 := fun o => (bcell hb2).2 (s3.heap.size) o (by first | omega | (simp; done) | (simp; omega)))); (try (have hl2_4 : x1.heap.size < x2.heap.size := (by first | omega | (simp; done) | (simp; omega)))); (try (have hc2_4 := fun o => (bcell hb2).1 (x1.heap.size) o (by first | omega | (simp; done) | (simp; omega)))); (try (have hf2_4 := fun o => (bcell hb2).2 (x1.heap.size) o (by first | omega | (simp; done) | (simp; omega))))))
      all_goals rename_i hHeld
      all_goals (refine' ⟨rfl, [_, _, _, _, _, _], ?_, ?_⟩; rotate_left 6; (simp only [List.zip_cons_cons, List.zip_nil_left, putsU, Act.put, List.setIfInBounds_toArray, List.set_cons_zero, List.set_cons_succ]; first | done | rfl); exact ⟨_, _, _, _, _, _, rfl, hHeld.1, (by first | omega | (simp only [World.size_setCell, World.size_alloc]; omega) | (simp; done) | (simp; omega)), hHeld.2.1, (by first | exact (new2U _ _ _ _).1 | exact (set2U (by rw [hc2_3, hc1_3]; exact (new2U _ _ _ _).1) (by rw [hc2_3, hc1_3]; exact (new2U _ _ _ _).2.1)).1 | exact (set2U (by rw [hc2_4]; exact (new2U _ _ _ _).1) (by rw [hc2_4]; exact (new2U _ _ _ _).2.1)).1 | (go_simp; done)), (by first | exact (new2U _ _ _ _).2.1 | exact (set2U (by rw [hc2_3, hc1_3]; exact (new2U _ _ _ _).1) (by rw [hc2_3, hc1_3]; exact (new2U _ _ _ _).2.1)).2 | exact (set2U (by rw [hc2_4]; exact (new2U _ _ _ _).1) (by rw [hc2_4]; exact (new2U _ _ _ _).2.1)).2 | (go_simp; done))⟩)
    · rintro vs X7 ⟨k7, v1, v2, v3, v4, v5, rfl, hX7, zk7, e1, e2, e3⟩
      simp only [List.zip_cons_cons, List.zip_nil_left, putsU, Act.put, List.setIfInBounds_toArray, List.set_cons_zero, List.set_cons_succ]
      have Z7 := Lib.hid (S3.out.trans (hX7.mono S3.out.size))
      have zz7 := hX7.size
      clear hX7
      have hR7 := Lib.hid (h.below Z7.out)
      obtain ⟨b, off, rfl, hlt, hcl⟩ : ∃ b off, a = some ⟨b, off, none⟩ ∧ b < X7.heap.size ∧ X7.cell? ⟨b, off + k * 2 + 1, none⟩ = some (.int .i64 f) := by
        rcases hR7.out with e | ⟨b, off, e, e2, e3⟩
        · rw [e] at hkl; exact absurd hkl (Nat.not_lt_zero _)
        · exact ⟨b, off, e, e2, by rw [HF.out]; exact (e3 k hkl).2⟩
      go_wp2_with fail
      have zw7 : w1.heap.size < X7.heap.size := by omega
      refine wp_uni [15, 43, 44, 45, 46, 47, 48, 49, 50, 51, 52, 53] (fun vs X8 => ∃ (k8 : Nat) (v1 v2 v3 v4 v5 v6 v7 v8 v9 v10 v11 : Value), vs = [.pointer (some ⟨k8, 0, none⟩), v1, v2, v3, v4, v5, v6, v7, v8, v9, v10, v11] ∧ Below X7.heap.size X7 X8 ∧ k8 < X8.heap.size ∧ X8.cell? ⟨w1.heap.size, 0, none⟩ = some (.func (.func 53) #[] #[]) ∧ X8.cell? ⟨k8, 0, none⟩ = some (.int .i64 X) ∧ X8.cell? ⟨k8, 1, none⟩ = some (.int .i64 Y) ∧ X8.frozen? ⟨k8, 0, none⟩ = false ∧ X8.frozen? ⟨k8, 1, none⟩ = false ∧ X7.heap.size ≤ k8) ?_ ?_
      · go_region_held3 (fun w' => Below X7.heap.size X7 w' ∧ w'.cell? ⟨w1.heap.size, 0, none⟩ = some (.func (.func 53) #[] #[]) ∧ w'.cell? ⟨k7, 0, none⟩ = some (.int .i64 aN) ∧ w'.cell? ⟨k7, 1, none⟩ = some (.int .i64 aD) ∧ w'.cell? ⟨b, off + k * 2 + 1, none⟩ = some (.int .i64 f))
          (refine ⟨?_, ?_, ?_, ?_, ?_⟩ <;> first | assumption | ((repeat (first | exact Below.refl _ _ | refine Below.drew ?_ | refine below_drewN ?_ _ | refine Below.setCell ?_ (by first | exact Nat.le_refl _ | omega | (simp; done) | (simp; omega)) _ | refine Below.alloc ?_ (by first | exact Nat.le_refl _ | omega | (simp; done) | (simp; omega)) _ | refine bchain ?_ (by assumption) (by first | exact Nat.le_refl _ | omega | (simp; done) | (simp; omega)))); done) | omega | (simp; done) | (simp; omega) | (go_simp; done))
          (first | (go_at_call 74; refine (HWk.out _ _ _ (hR7.out.below (And.left (by assumption))) (by first | assumption | (go_simp; done)) (by first | omega | (simp; done) | (simp; omega))).mono ?_; rintro e x1 ⟨rfl, hb1⟩; have hs1 := hb1.size; (try simp only [World.size_alloc, World.size_drew, World.size_setCell] at hs1); (try (have hl1_0 : w1.heap.size < x1.heap.size := (by first | omega | (simp; done) | (simp; omega)))); (try (have hc1_0 := fun o => (bcell hb1).1 (w1.heap.size) o (by first | omega | (simp; done) | (simp; omega)))); (try (have hf1_0 := fun o => (bcell hb1).2 (w1.heap.size) o (by first | omega | (simp; done) | (simp; omega)))); (try (have hl1_1 : k7 < x1.heap.size := (by first | omega | (simp; done) | (simp; omega)))); (try (have hc1_1 := fun o => (bcell hb1).1 (k7) o (by first | omega | (simp; done) | (simp; omega)))); (try (have hf1_1 := fun o => (bcell hb1).2 (k7) o (by first | omega | (simp; done) | (simp; omega)))); (try (have hl1_2 : b < x1.heap.size := (by first | omega | (simp; done) | (simp; omega)))); (try (have hc1_2 := fun o => (bcell hb1).1 (b) o (by first | omega | (simp; done) | (simp; omega)))); (try (have hf1_2 := fun o => (bcell hb1).2 (b) o (by first | omega | (simp; done) | (simp; omega)))); (try (have hl1_3 : X7.heap.size < x1.heap.size := (by first | omega | (simp; done) | (simp; omega)))); (try (have hc1_3 := fun o => (bcell hb1).1 (X7.heap.size) o (by first | omega | (simp; done) | (simp; omega)))); (try (have hf1_3 := fun o => (bcell hb1).2 (X7.heap.size) o (by first | omega | (simp; done) | (simp; omega)))); (try (have hl1_4 : x1.heap.size < x1.heap.size := (by first | omega | (simp; done) | (simp; omega)))); (try (have hc1_4 := fun o => (bcell hb1).1 (x1.heap.size) o (by first | omega | (simp; done) | (simp; omega)))); (try (have hf1_4 := fun o => (bcell hb1).2 (x1.heap.size) o (by first | omega | (simp; done) | (simp; omega)))); (try (have hl1_5 : x2.heap.size < x1.heap.size := (by first | omega | (simp; done) | (simp; omega)))); (try (have hc1_5 := fun o => (bcell hb1).1 (x2.heap.size) o (by first | omega | (simp; done) | (simp; omega)))); (try (have hf1_5 := fun o => (bcell hb1).2 (x2.heap.size) o (by first | omega | (simp; done) | (simp; omega))))) | (go_at_call 69; refine (HTi.out _).mono ?_; rintro e x2 ⟨rfl, hb2⟩; have hs2 := hb2.size; (try simp only [World.size_alloc, World.size_drew, World.size_setCell] at hs2); (try (have hl2_0 : w1.heap.size < x2.heap.size := (by first | omega | (simp; done) | (simp; omega)))); (try (have hc2_0 := fun o => (bcell hb2).1 (w1.heap.size) o (by first | omega | (simp; done) | (simp; omega)))); (try (have hf2_0 := fun o => (bcell hb2).2 (w1.heap.size) o (by first | omega | (simp; done) | (simp; omega)))); (try (have hl2_1 : k7 < x2.heap.size := (by first | omega | (simp; done) | (simp; omega)))); (try (have hc2_1 := fun o => (bcell hb2).1 (k7) o (by first | omega | (simp; done) | (simp; omega)))); (try (have hf2_1 := fun o => (bcell hb2).2 (k7) o (by first | omega | (simp; done) | (simp; omega)))); (try (have hl2_2 : b < x2.heap.size := (by first | omega | (simp; done) | (simp; omega)))); (try (have hc2_2 := fun o => (bcell hb2).1 (b) o (by first | omega | (simp; done) | (simp; omega)))); (try (have hf2_2 := fun o => (bcell hb2).2 (b) o (by first | omega | (simp; done) | (simp; omega)))); (try (have hl2_3 : X7.heap.size < x2.heap.size := (by first | omega | (simp; done) | (simp; omega)))); (try (have hc2_3 := fun o => (bcell hb2).1 (X7.heap.size) o (by first | omega | (simp; done) | (simp; omega)))); (try (have hf2_3 := fun o => (bcell hb2).2 (X7.heap.size) o (by first | omega | (simp; done) | (simp; omega)))); (try (have hl2_4 : x1.heap.size < x2.heap.size := (by first | omega | (simp; done) | (simp; omega)))); (try (have hc2_4 := fun o => (bcell hb2).1 (x1.heap.size) o (by first | omega | (simp; done) | (simp; omega)))); (try (have hf2_4 := fun o => (bcell hb2).2 (x1.heap.size) o (by first | omega | (simp; done) | (simp; omega)))); (try (have hl2_5 : x2.heap.size < x2.heap.size := (by first | omega | (simp; done) | (simp; omega)))); (try (have hc2_5 := fun o => (bcell hb2).1 (x2.heap.size) o (by first | omega | (simp; done) | (simp; omega)))); (try (have hf2_5 := fun o => (bcell hb2).2 (x2.heap.size) o (by first | omega | (simp; done) | (simp; omega))))) | (go_at_call 68; refine (HPl.out _).mono ?_; rintro e x3 ⟨rfl, hb3⟩; have hs3 := hb3.size; (try simp only [World.size_alloc, World.size_drew, World.size_setCell] at hs3); (try (have hl3_0 : w1.heap.size < x3.heap.size := (by first | omega | (simp; done) | (simp; omega)))); (try (have hc3_0 := fun o => (bcell hb3).1 (w1.heap.size) o (by first | omega | (simp; done) | (simp; omega)))); (try (have hf3_0 := fun o => (bcell hb3).2 (w1.heap.size) o (by first | omega | (simp; done) | (simp; omega)))); (try (have hl3_1 : k7 < x3.heap.size := (by first | omega | (simp; done) | (simp; omega)))); (try (have hc3_1 := fun o => (bcell hb3).1 (k7) o (by first | omega | (simp; done) | (simp; omega)))); (try (have hf3_1 := fun o => (bcell hb3).2 (k7) o (by first | omega | (simp; done) | (simp; omega)))); (try (have hl3_2 : b < x3.heap.size := (by first | omega | (simp; done) | (simp; omega)))); (try (have hc3_2 := fun o => (bcell hb3).1 (b) o (by first | omega | (simp; done) | (simp; omega)))); (try (have hf3_2 := fun o => (bcell hb3).2 (b) o (by first | omega | (simp; done) | (simp; omega)))); (try (have hl3_3 : X7.heap.size < x3.heap.size := (by first | omega | (simp; done) | (simp; omega)))); (try (have hc3_3 := fun o => (bcell hb3).1 (X7.heap.size) o (by first | omega | (simp; done) | (simp; omega)))); (try (have hf3_3 := fun o => (bcell hb3).2 (X7.heap.size) o (by first | omega | (simp; done) | (simp; omega)))); (try (have hl3_4 : x1.heap.size < x3.heap.size := (by first | omega | (simp; done) | (simp; omega)))); (try (have hc3_4 := fun o => (bcell hb3).1 (x1.heap.size) o (by first | omega | (simp; done) | (simp; omega)))); (try (have hf3_4 := fun o => (bcell hb3).2 (x1.heap.size) o (by first | omega | (simp; done) | (simp; omega)))); (try (have hl3_5 : x2.heap.size < x3.heap.size := (by first | omega | (simp; done) | (simp; omega)))); (try (have hc3_5 := fun o => (bcell hb3).1 (x2.heap.size) o (by first | omega | (simp; done) | (simp; omega)))); (try (have hf3_5 := fun o => (bcell hb3).2 (x2.heap.size) o (by first | omega | (simp; done) | (simp; omega))))))
        all_goals rename_i hHeld
        all_goals (refine' ⟨rfl, [_, _, _, _, _, _, _, _, _, _, _, _], ?_, ?_⟩; rotate_left 12; (simp only [List.zip_cons_cons, List.zip_nil_left, putsU, Act.put, List.setIfInBounds_toArray, List.set_cons_zero, List.set_cons_succ]; first | done | rfl); exact ⟨_, _, _, _, _, _, _, _, _, _, _, _, rfl, hHeld.1, (by first | omega | (simp only [World.size_setCell, World.size_alloc]; omega) | (simp; done) | (simp; omega)), hHeld.2.1, (by first | exact (new2U _ _ _ _).1 | exact (set2U (by rw [hc3_3, hc2_3, hc1_3]; exact (new2U _ _ _ _).1) (by rw [hc3_3, hc2_3, hc1_3]; exact (new2U _ _ _ _).2.1)).1 | exact (set2U (by rw [hc3_4, hc2_4]; exact (new2U _ _ _ _).1) (by rw [hc3_4, hc2_4]; exact (new2U _ _ _ _).2.1)).1 | exact (set2U (by rw [hc3_5]; exact (new2U _ _ _ _).1) (by rw [hc3_5]; exact (new2U _ _ _ _).2.1)).1 | (go_simp; done)), (by first | exact (new2U _ _ _ _).2.1 | exact (set2U (by rw [hc3_3, hc2_3, hc1_3]; exact (new2U _ _ _ _).1) (by rw [hc3_3, hc2_3, hc1_3]; exact (new2U _ _ _ _).2.1)).2 | exact (set2U (by rw [hc3_4, hc2_4]; exact (new2U _ _ _ _).1) (by rw [hc3_4, hc2_4]; exact (new2U _ _ _ _).2.1)).2 | exact (set2U (by rw [hc3_5]; exact (new2U _ _ _ _).1) (by rw [hc3_5]; exact (new2U _ _ _ _).2.1)).2 | (go_simp; done)), (by first | exact (new2U _ _ _ _).2.2.1 | exact set2F (by rw [hf3_3, hf2_3, hf1_3]; exact (new2U _ _ _ _).2.2.1) | exact set2F (by rw [hf3_4, hf2_4]; exact (new2U _ _ _ _).2.2.1) | exact set2F (by rw [hf3_5]; exact (new2U _ _ _ _).2.2.1) | (go_simp; done)), (by first | exact (new2U _ _ _ _).2.2.2 | exact set2F (by rw [hf3_3, hf2_3, hf1_3]; exact (new2U _ _ _ _).2.2.2) | exact set2F (by rw [hf3_4, hf2_4]; exact (new2U _ _ _ _).2.2.2) | exact set2F (by rw [hf3_5]; exact (new2U _ _ _ _).2.2.2) | (go_simp; done)), (by first | exact Nat.le_refl _ | omega)⟩)
      · rintro vs X8 ⟨k8, v1, v2, v3, v4, v5, v6, v7, v8, v9, v10, v11, rfl, hX8, zk8, f1, f2, f3, f4, f5, f6⟩
        simp only [List.zip_cons_cons, List.zip_nil_left, putsU, Act.put, List.setIfInBounds_toArray, List.set_cons_zero, List.set_cons_succ]
        have Z8 := Lib.hid (Z7.out.trans (hX8.mono Z7.out.size))
        have zz8 := hX8.size
        have zw8 : w1.heap.size < X8.heap.size := by omega
        have zwk : w.heap.size ≤ k8 := by have := Z7.out.size; omega
        clear hX8
        go_wp2_with fail
        refine (HWa.out _ _ _ (h.below Z8.out) f1 zw8).mono ?_; rintro e s9 ⟨rfl, hb9⟩
        have Z9 := Lib.hid (Z8.out.trans (hb9.mono Z8.out.size))
        have zz9 := hb9.size
        have zk9 : k8 < s9.heap.size := by omega
        have g2 : s9.cell? ⟨k8, 0, none⟩ = some (.int .i64 X) := by rw [(bcell hb9).1 _ _ zk8]; exact f2
        have g3 : s9.cell? ⟨k8, 1, none⟩ = some (.int .i64 Y) := by rw [(bcell hb9).1 _ _ zk8]; exact f3
        have g4 : s9.frozen? ⟨k8, 0, none⟩ = false := by rw [(bcell hb9).2 _ _ zk8]; exact f4
        have g5 : s9.frozen? ⟨k8, 1, none⟩ = false := by rw [(bcell hb9).2 _ _ zk8]; exact f5
        have zw9 := Z9.out.size
        clear hb9 f1 f2 f3 f4 f5
        go_wp2_with fail
        refine (HC.out _).mono ?_; rintro e s10 ⟨rfl, hb10⟩
        have zz10 := hb10.size
        simp only [World.size_alloc] at zz10
        have i2 : s10.cell? ⟨k8, 0, none⟩ = some (.int .i64 X) := by rw [(bcell hb10).1 _ _ (by simp; omega)]; go_simp
        have i3 : s10.cell? ⟨k8, 1, none⟩ = some (.int .i64 Y) := by rw [(bcell hb10).1 _ _ (by simp; omega)]; go_simp
        have i4 : s10.frozen? ⟨k8, 0, none⟩ = false := by rw [(bcell hb10).2 _ _ (by simp; omega)]; go_simp
        have i5 : s10.frozen? ⟨k8, 1, none⟩ = false := by rw [(bcell hb10).2 _ _ (by simp; omega)]; go_simp
        have j2 : s10.cell? ⟨s9.heap.size, 0, none⟩ = some (.int .i64 L) := by rw [(bcell hb10).1 _ _ (by simp)]; go_simp
        have j3 : s10.cell? ⟨s9.heap.size, 1, none⟩ = some (.int .i64 1) := by rw [(bcell hb10).1 _ _ (by simp)]; go_simp
        have Z10 : Hid (Below w.heap.size w s10) := bchain (Z9.out.alloc (by omega) _) hb10 (by simp; omega)
        clear hb10
        by_cases hcx : 0 < c
        · have r1 : RN = L := by rw [HRN.out, if_pos (HIFF.out.1 hcx)]
          have r2 : RD = 1 := by rw [HRD.out, if_pos (HIFF.out.1 hcx)]
          have R12 := Lib.hid (And.intro r1 r2)
          clear r1 r2
          go_wp2_with fail
          all_goals try (go_quiet (fail); go_wp2_with fail)
          go_ret3
          rw [R12.out.1, R12.out.2]
          exact ⟨rfl, by first | exact below_drewN ((Z10.out.setCell (by exact zwk) _).setCell (by exact zwk) _) _ | exact ((Z10.out.setCell (by exact zwk) _).setCell (by exact zwk) _).drew | exact (Z10.out.setCell (by exact zwk) _).setCell (by exact zwk) _⟩
        · have r1 : RN = X := by rw [HRN.out, if_neg (fun q => hcx (HIFF.out.2 q))]
          have r2 : RD = Y := by rw [HRD.out, if_neg (fun q => hcx (HIFF.out.2 q))]
          have R12 := Lib.hid (And.intro r1 r2)
          clear r1 r2
          go_wp2_with fail
          all_goals try (go_quiet (fail); go_wp2_with fail)
          go_ret3
          rw [R12.out.1, R12.out.2]
          exact ⟨rfl, by first | exact below_drewN Z10.out _ | exact Z10.out.drew | exact Z10.out⟩
end Go.Proofs.Ytjgicbfgbcihoaa
