/- Chapter 6's program: the slowest leg and the speed that is needed, by contracts. -/
import Derived.Test.YtjgicbfgbcihoaaLegA
import Derived.WalkKit
import Derived.WalkSpells
import Derived.WalkLawsBesides
import Derived.Lib.Hide
import Derived.Deep.LoopGhost
import Derived.Deep.QuietTactic
import Derived.Deep.RegionWith
import Derived.Deep.RegionHeld3
import Derived.BigQuiet
import Derived.Shelf.Abstract
namespace Go.Proofs.Ytjgicbfgbcihoaa
open Go.RowKit
set_option linter.unusedVariables false
set_option linter.unusedSimpArgs false
theorem tim_cmp {l f m q : Int} (h1 : lgOk l f = true) (h2 : lgOk m q = true) : decide (0 < cmpI (lwN l f * lwD m q) (lwN m q * lwD l f)) = decide (m * f < l * q) := by
  have b := lgOk_iff.1 h1
  have d := lgOk_iff.1 h2
  congr 1
  exact propext (lw_cmp (by omega) (by omega))
set_option maxHeartbeats 4000000 in
theorem implSlowestLeg (a : Option Addr) (cap : Nat) (xs : List (Int × Int))  (w : World) (h : RdP w a xs) (hn : xs.length ≤ 1048576) :
    Calls Try.prog 39 #[.slice a xs.length cap] w fun e w' => e = .returned (.tuple #[.int .i64 (ifI (lgS xs) ((slw xs xs.length : Nat) : Int)), .bool (lgS xs)]) ∧ Below w.heap.size w w' := by
  cases hs : lgS xs
  · have HS := Lib.hid hs
    clear hs
    go_enter Try.func39, Try.ntmps39
    go_wp2_with (first | (go_at_call 18; refine (implAreLegs a cap xs _ h hn).mono ?_; rw [HS.out]; rintro e w1 ⟨rfl, hb⟩))
    go_ret2
    exact ⟨rfl, hb⟩
  · have t := lgS_at hs
    have HS := Lib.hid hs
    have hl := t.2.1
    have hl1 := t.1
    have HT := Lib.hid t.2.2
    clear hs t
    have hsl := Lib.hid (slw_lt (xs := xs) hl1)
    go_enter Try.func39, Try.ntmps39
    go_wp2_with (first | (go_at_call 18; refine (implAreLegs a cap xs _ h hn).mono ?_; rw [HS.out]; rintro e w1 ⟨rfl, hb⟩))
    have B0 := Lib.hid hb
    clear hb
    go_loopg [4, 12] xs.length (fun k v4 v12 wr => ∃ (j s : Nat), v4 = .int .i64 (s : Int) ∧ v12 = .int .i64 (j : Int) ∧ j + k ≤ xs.length ∧ xs.length ≤ j + k ∧ Hid (slw xs j = s) ∧ Below w.heap.size w wr)
    case atStart => exact ⟨0, 0, rfl, rfl, by omega, by omega, rfl, B0.out⟩
    case round =>
      obtain ⟨j, s, rfl, rfl, g1, g2, hse, hbel⟩ := hrel
      have hs2 := hsl.out j (by omega)
      rw [hse.out] at hs2
      by_cases hj : j < xs.length
      · have h' := h.below hbel
        rcases h' with h' | ⟨b, off, rfl, hlt, hc⟩
        · rw [h'] at hj; exact absurd hj (Nat.not_lt_zero _)
        · have hcj : wr.cell? ⟨b, off + j * 2, none⟩ = some (.int .i64 (px xs j)) := (hc j hj).1
          have hck : wr.cell? ⟨b, off + j * 2 + 1, none⟩ = some (.int .i64 (py xs j)) := (hc j hj).2
          have hjI : (j : Int) < (xs.length : Int) := by omega
          have HBl := Lib.hid hbel
          have hsz := hbel.size
          obtain ⟨q, hqs⟩ : ∃ q, q = s := ⟨_, rfl⟩
          rw [← hqs] at hs2 hse ⊢
          clear hqs
          have hcq : wr.cell? ⟨b, off + q * 2, none⟩ = some (.int .i64 (px xs q)) := (hc q hs2).1
          have hcr : wr.cell? ⟨b, off + q * 2 + 1, none⟩ = some (.int .i64 (py xs q)) := (hc q hs2).2
          have hqI : (q : Int) < (xs.length : Int) := by omega
          have t1 := HT.out j hj
          have t2 := HT.out q hs2
          have hsum2 : Hid (slw xs (j + 1) = if px xs q * py xs j < px xs j * py xs q then j else q) := by unfold Hid; show (if px xs (slw xs j) * py xs j < px xs j * py xs (slw xs j) then j else slw xs j) = _; rw [hse.out]
          clear hbel hc hse
          generalize px xs j = x at *
          generalize py xs j = y at *
          generalize px xs q = u at *
          generalize py xs q = v at *
          have bt := lgOk_iff.1 t1
          have bq := lgOk_iff.1 t2
          have f1 := timF_bd t1
          have f2 := timF_bd t2
          have hiff : 0 < cmpI (lwN x y * lwD u v) (lwN u v * lwD x y) ↔ u * y < x * v := lw_cmp (by omega) (by omega)
          have HX := Lib.hid (fun w => legTime_any x y t1 w)
          have HU := Lib.hid (fun w => legTime_any u v t2 w)
          simp only [timF] at f1 f2
          have HM := Lib.hid (fun w => fcompareW (lwN x y) (lwD x y) (lwN u v) (lwD u v) 1000 100 1000 100 (by omega) (by omega) (by omega) (by omega) (by omega) (by omega) (by omega) (by omega) (by omega) (by omega) w)
          generalize cmpI (lwN x y * lwD u v) (lwN u v * lwD x y) = c at *
          generalize lwN x y = p1 at *
          generalize lwD x y = p2 at *
          generalize lwN u v = r1 at *
          generalize lwD u v = r2 at *
          clear f1 f2 bt bq t1 t2
          by_cases hlt2 : u * y < x * v
          · skip
            have hE := Lib.hid (hsum2.out.trans (if_pos hlt2))
            have hcc : 0 < c := hiff.2 hlt2
            clear hsum2 hiff
            go_wp2_with fail
            go_region_held3 (fun w' => Below w.heap.size w w' ∧ wr.heap.size < w'.heap.size ∧ w'.cell? ⟨wr.heap.size, 0, none⟩ = some (.int .i64 x) ∧ w'.cell? ⟨wr.heap.size, 1, none⟩ = some (.int .i64 y) ∧ w'.cell? ⟨b, off + q * 2, none⟩ = some (.int .i64 u) ∧ w'.cell? ⟨b, off + q * 2 + 1, none⟩ = some (.int .i64 v))
              (refine ⟨?_, ?_, ?_, ?_, ?_, ?_⟩ <;> first | assumption | omega | (simp; done) | (simp; omega) | (go_simp; done) | (have hBB := HBl.out; (repeat (first | exact Below.refl _ _ | refine Below.drew ?_ | refine below_drewN ?_ _ | refine Below.setCell ?_ (by first | omega | (simp; done) | (simp; omega)) _ | refine Below.alloc ?_ (by first | omega | (simp; done) | (simp; omega)) _ | refine bchain ?_ (by assumption) (by first | omega | (simp; done) | (simp; omega))))))
              (first | (go_at_call_of 55 (Value.agg #[.int .i64 x, .int .i64 y]); refine (HX.out _).mono ?_; rintro e w1 ⟨rfl, hb⟩; have hz := hb.size; (try simp at hz); have qB := fun o => (bcell hb).1 b o (by first | omega | (simp; done) | (simp; omega)); have qL := fun o => (bcell hb).1 wr.heap.size o (by first | omega | (simp; done) | (simp; omega))) | (go_at_call_of 55 (Value.agg #[.int .i64 u, .int .i64 v]); refine (HU.out _).mono ?_; rintro e w1 ⟨rfl, hb⟩; have hz := hb.size; (try simp at hz); have qB := fun o => (bcell hb).1 b o (by first | omega | (simp; done) | (simp; omega)); have qL := fun o => (bcell hb).1 wr.heap.size o (by first | omega | (simp; done) | (simp; omega))) | (go_at_call 70; refine (HM.out _).mono ?_; rintro e w1 ⟨rfl, hb⟩; have hz := hb.size; (try simp at hz); have qB := fun o => (bcell hb).1 b o (by first | omega | (simp; done) | (simp; omega)); have qL := fun o => (bcell hb).1 wr.heap.size o (by first | omega | (simp; done) | (simp; omega))))
            all_goals rename_i hHeld
            all_goals go_wp2_with fail
            all_goals go_roundg (gk - 1)
            all_goals first
              | exact ⟨j + 1, j, by go_num, by go_num, by omega, by omega, hE, hHeld.1⟩
              | omega
          · skip
            have hE := Lib.hid (hsum2.out.trans (if_neg hlt2))
            have hcc : ¬ 0 < c := fun q => hlt2 (hiff.1 q)
            clear hsum2 hiff
            go_wp2_with fail
            go_region_held3 (fun w' => Below w.heap.size w w' ∧ wr.heap.size < w'.heap.size ∧ w'.cell? ⟨wr.heap.size, 0, none⟩ = some (.int .i64 x) ∧ w'.cell? ⟨wr.heap.size, 1, none⟩ = some (.int .i64 y) ∧ w'.cell? ⟨b, off + q * 2, none⟩ = some (.int .i64 u) ∧ w'.cell? ⟨b, off + q * 2 + 1, none⟩ = some (.int .i64 v))
              (refine ⟨?_, ?_, ?_, ?_, ?_, ?_⟩ <;> first | assumption | omega | (simp; done) | (simp; omega) | (go_simp; done) | (have hBB := HBl.out; (repeat (first | exact Below.refl _ _ | refine Below.drew ?_ | refine below_drewN ?_ _ | refine Below.setCell ?_ (by first | omega | (simp; done) | (simp; omega)) _ | refine Below.alloc ?_ (by first | omega | (simp; done) | (simp; omega)) _ | refine bchain ?_ (by assumption) (by first | omega | (simp; done) | (simp; omega))))))
              (first | (go_at_call_of 55 (Value.agg #[.int .i64 x, .int .i64 y]); refine (HX.out _).mono ?_; rintro e w1 ⟨rfl, hb⟩; have hz := hb.size; (try simp at hz); have qB := fun o => (bcell hb).1 b o (by first | omega | (simp; done) | (simp; omega)); have qL := fun o => (bcell hb).1 wr.heap.size o (by first | omega | (simp; done) | (simp; omega))) | (go_at_call_of 55 (Value.agg #[.int .i64 u, .int .i64 v]); refine (HU.out _).mono ?_; rintro e w1 ⟨rfl, hb⟩; have hz := hb.size; (try simp at hz); have qB := fun o => (bcell hb).1 b o (by first | omega | (simp; done) | (simp; omega)); have qL := fun o => (bcell hb).1 wr.heap.size o (by first | omega | (simp; done) | (simp; omega))) | (go_at_call 70; refine (HM.out _).mono ?_; rintro e w1 ⟨rfl, hb⟩; have hz := hb.size; (try simp at hz); have qB := fun o => (bcell hb).1 b o (by first | omega | (simp; done) | (simp; omega)); have qL := fun o => (bcell hb).1 wr.heap.size o (by first | omega | (simp; done) | (simp; omega))))
            all_goals rename_i hHeld
            all_goals go_wp2_with fail
            all_goals go_roundg (gk - 1)
            all_goals first
              | exact ⟨j + 1, q, by go_num, by go_num, by omega, by omega, hE, hHeld.1⟩
              | omega
      · obtain rfl : j = xs.length := by omega
        have HBl := Lib.hid hbel
        have HF := Lib.hid hse
        clear hbel hse
        go_wp2_with fail
        go_ret2
        rw [HF.out]
        exact ⟨rfl, HBl.out⟩
set_option maxHeartbeats 8000000 in
set_option maxRecDepth 100000 in
theorem implNeededSpeed (a : Option Addr) (cap : Nat) (xs : List (Int × Int)) (n m : Int) (w : World) (h : RdP w a xs) (hn : xs.length ≤ 1048576) :
    Calls Try.prog 37 #[.slice a xs.length cap, .int .i64 n, .int .i64 m] w fun e w' => e = .returned (.tuple #[.int .i64 (ifI (lgS xs && inB n 1 1000 && inB m 1 100 && decide (0 < nsL xs n m)) (lwN (n * m * (lgT xs xs.length).2) (nsL xs n m))), .int .i64 (ifI (lgS xs && inB n 1 1000 && inB m 1 100 && decide (0 < nsL xs n m)) (lwD (n * m * (lgT xs xs.length).2) (nsL xs n m))), .bool (lgS xs && inB n 1 1000 && inB m 1 100 && decide (0 < nsL xs n m))]) ∧ Below w.heap.size w w' := by
  cases hs : lgS xs
  · have HS := Lib.hid hs
    clear hs
    go_enter Try.func37, Try.ntmps37
    go_wp2_with (first | (go_at_call 18; refine (implAreLegs a cap xs _ h hn).mono ?_; rw [HS.out]; rintro e w1 ⟨rfl, hb⟩))
    go_ret3
    exact ⟨rfl, hb⟩
  · have t := lgS_at hs
    have HS := Lib.hid hs
    have hl := t.2.1
    have hl1 := t.1
    have HT := Lib.hid t.2.2
    clear hs t
    cases k1 : inB n 1 1000
    · have K1 := Lib.hid k1
      clear k1
      go_enter Try.func37, Try.ntmps37
      go_wp2_with (first | (go_at_call 18; refine (implAreLegs a cap xs _ h hn).mono ?_; rw [HS.out]; rintro e w1 ⟨rfl, hb⟩) | (go_at_call 48; refine (isLong_any _ _).mono ?_; rw [K1.out]; rintro e w2 ⟨rfl, rfl⟩))
      go_ret3
      exact ⟨rfl, hb⟩
    cases k2 : inB m 1 100
    · have K1 := Lib.hid k1
      have K2 := Lib.hid k2
      clear k1 k2
      go_enter Try.func37, Try.ntmps37
      go_wp2_with (first | (go_at_call 18; refine (implAreLegs a cap xs _ h hn).mono ?_; rw [HS.out]; rintro e w1 ⟨rfl, hb⟩) | (go_at_call 48; refine (isLong_any _ _).mono ?_; rw [K1.out]; rintro e w2 ⟨rfl, rfl⟩) | (go_at_call 49; refine (isFast_any _ _).mono ?_; rw [K2.out]; rintro e w2 ⟨rfl, rfl⟩))
      go_ret3
      exact ⟨rfl, hb⟩
    have K1 := Lib.hid k1
    have K2 := Lib.hid k2
    have n1 := (inB_iff.1 k1).1
    have n2 := (inB_iff.1 k1).2
    have q1 := (inB_iff.1 k2).1
    have q2 := (inB_iff.1 k2).2
    have bt := lgT_num HT.out hl (Nat.le_refl _)
    have bl := lgL_bd HT.out _ (Nat.le_refl _)
    have b1 := bt.1
    have b2 := bt.2.1
    have b3 := bt.2.2.1
    have b4 := bt.2.2.2.1
    simp only [Bool.true_and]
    clear bt k1 k2
    have eL : nsL xs n m = (lgL xs xs.length + n) * (lgT xs xs.length).2 - (lgT xs xs.length).1 * m := rfl
    have HSW := Lib.hid (fun (B : Nat) (w : World) h h1 h2 => sumW_any B a cap xs w h hl HT.out h1 h2)
    have HST := Lib.hid (fun (B : Nat) (w : World) h h1 h2 => sumT_any B a cap xs w h hl HT.out h1 h2)
    rw [eL]
    clear eL
    obtain ⟨D, hD⟩ : ∃ D, D = decide (0 < (lgL xs xs.length + n) * (lgT xs xs.length).2 - (lgT xs xs.length).1 * m) := ⟨_, rfl⟩
    rw [← hD]
    have HD := Lib.hid hD
    clear hD
    generalize (lgT xs xs.length).1 = p at *
    generalize (lgT xs xs.length).2 = q at *
    generalize lgL xs xs.length = s at *
    have m1 := mul_bd (s + n) q 6000 10000000000 (by omega) (by omega) (by omega) (by omega)
    have m2 := mul_bd p m 50000000000000 100 (by omega) (by omega) (by omega) (by omega)
    have m3 := mul_bd n m 1000 100 (by omega) (by omega) (by omega) (by omega)
    have m4 := mul_bd m q 100 10000000000 (by omega) (by omega) (by omega) (by omega)
    have m5 := mul_pos1 q1 b1
    -- whole
    have e1 := plus_val (n := s) (d := 1) (m := n) (e := 1) (A := s) (B := 1) (C := n) (D := 1) (by omega) (by omega) (by omega) (by omega) rfl rfl
    simp only [Int.mul_one] at e1
    rw [(lw_one _).1, (lw_one _).2] at e1
    have HP := Lib.hid (fun w => plusW s 1 n 1 5000 1 1000 1 (by omega) (by omega) (by omega) (by omega) (by omega) (by omega) (by omega) (by omega) (by omega) (by omega) (by omega) (by omega) (by omega) w)
    rw [e1.1, e1.2] at HP
    have HO := Lib.hid (fun w => overW (s + n) 1 m 1 6000 1 100 1 (by omega) (by omega) (by omega) (by omega) (by omega) (by omega) (by omega) (by omega) (by omega) (by omega) w)
    have o1 := lwN_bd (a := (s + n) * 1) (b := 1 * m) (B := 6000) (by omega) (by omega) (by omega)
    have o2 := lwD_pos (a := (s + n) * 1) (b := 1 * m) (by omega)
    have nv := need_val (s := s) (n := n) (m := m) (p := p) (q := q) b1 q1
    have HM := Lib.hid (fun w => minusW (lwN ((s + n) * 1) (1 * m)) (lwD ((s + n) * 1) (1 * m)) p q 6000 100 50000000000000 10000000000 (by omega) (by omega) (by omega) (by omega) (by omega) (by omega) (by omega) (by omega) (by omega) (by omega) (by omega) (by omega) (by omega) (by omega) w)
    simp only [] at nv
    rw [nv.1, nv.2] at HM
    have u1 := lwN_bd (a := (s + n) * q - p * m) (b := m * q) (B := 6000000000000000) (by omega) (by omega) (by omega)
    have u2 := lwD_pos (a := (s + n) * q - p * m) (b := m * q) (by omega)
    have sg := lw_sign (a := (s + n) * q - p * m) (b := m * q) (by omega)
    have nov := fun hx => need_over (n := n) (x := (s + n) * q - p * m) (y := m * q) hx m5
    have HOV := fun (hx : 0 < (s + n) * q - p * m) => Lib.hid (fun w => overW n 1 (lwN ((s + n) * q - p * m) (m * q)) (lwD ((s + n) * q - p * m) (m * q)) 1000 1 6000000000000000 1000000000000 (by omega) (by omega) (by omega) (by omega) (by have := sg.2 hx; omega) (by omega) (by omega) (by omega) (by omega) (by omega) w)
    have em : n * (m * q) = n * m * q := by ac_rfl
    simp only [Int.mul_one] at HO HM o1 o2
    generalize lwN (s + n) (1 * m) = g1 at *
    generalize lwD (s + n) (1 * m) = g2 at *
    clear e1 nv o1 o2
    go_enter Try.func37, Try.ntmps37
    go_wp2_with (first | (go_at_call 18; refine (implAreLegs a cap xs _ h hn).mono ?_; rw [HS.out]; rintro e w1 ⟨rfl, hb⟩) | (go_at_call 48; refine (isLong_any _ _).mono ?_; rw [K1.out]; rintro e w2 ⟨rfl, rfl⟩) | (go_at_call 49; refine (isFast_any _ _).mono ?_; rw [K2.out]; rintro e w2 ⟨rfl, rfl⟩))
    have HB := Lib.hid hb
    have hR := Lib.hid (h.below hb)
    clear hb
    refine wp_uni [10, 28, 29, 30, 31, 32] (fun vs X => ∃ (k : Nat) (v1 v2 v3 v4 v5 : Value), vs = [.pointer (some ⟨k, 0, none⟩), v1, v2, v3, v4, v5] ∧ Below w1.heap.size w1 X ∧ w1.heap.size < X.heap.size ∧ k < X.heap.size ∧ X.cell? ⟨w1.heap.size, 0, none⟩ = some (.int .i64 n) ∧ X.cell? ⟨w1.heap.size, 1, none⟩ = some (.int .i64 1) ∧ X.cell? ⟨k, 0, none⟩ = some (.int .i64 (s + n)) ∧ X.cell? ⟨k, 1, none⟩ = some (.int .i64 1)) ?_ ?_
    · go_region_held3 (fun w' => Below w1.heap.size w1 w' ∧ w1.heap.size < w'.heap.size ∧ w'.cell? ⟨w1.heap.size, 0, none⟩ = some (.int .i64 n) ∧ w'.cell? ⟨w1.heap.size, 1, none⟩ = some (.int .i64 1))
        (refine ⟨?_, ?_, ?_, ?_⟩ <;> first | assumption | omega | (simp; done) | (simp; omega) | (go_simp; done) | (repeat (first | exact Below.refl _ _ | refine Below.drew ?_ | refine below_drewN ?_ _ | refine Below.setCell ?_ (by first | omega | (simp; done) | (simp; omega)) _ | refine Below.alloc ?_ (by first | omega | (simp; done) | (simp; omega)) _ | refine bchain ?_ (by assumption) (by first | omega | (simp; done) | (simp; omega)))))
        (first | (go_at_call 52; refine (sumOver_any 53 #[] _).mono ?_; rintro e x1 ⟨rfl, hb1, hz1, hk1⟩; (try simp only [World.size_alloc, World.size_drew, World.size_setCell] at hz1 hk1); have hs1 := hb1.size; (try simp only [World.size_alloc, World.size_drew, World.size_setCell] at hs1); (try (have hl1_0 : w1.heap.size < x1.heap.size := (by first | omega | (simp; done) | (simp; omega)))); (try (have hc1_0 := fun o => (bcell hb1).1 (w1.heap.size) o (by first | omega | (simp; done) | (simp; omega)))); (try (have hf1_0 := fun o => (bcell hb1).2 (w1.heap.size) o (by first | omega | (simp; done) | (simp; omega)))); (try (have hl1_1 : w1.heap.size + 1 < x1.heap.size := (by first | omega | (simp; done) | (simp; omega)))); (try (have hc1_1 := fun o => (bcell hb1).1 (w1.heap.size + 1) o (by first | omega | (simp; done) | (simp; omega)))); (try (have hf1_1 := fun o => (bcell hb1).2 (w1.heap.size + 1) o (by first | omega | (simp; done) | (simp; omega)))); (try (have hl1_2 : x1.heap.size < x1.heap.size := (by first | omega | (simp; done) | (simp; omega)))); (try (have hc1_2 := fun o => (bcell hb1).1 (x1.heap.size) o (by first | omega | (simp; done) | (simp; omega)))); (try (have hf1_2 := fun o => (bcell hb1).2 (x1.heap.size) o (by first | omega | (simp; done) | (simp; omega)))); (try (have hl1_3 : x2.heap.size < x1.heap.size := (by first | omega | (simp; done) | (simp; omega)))); (try (have hc1_3 := fun o => (bcell hb1).1 (x2.heap.size) o (by first | omega | (simp; done) | (simp; omega)))); (try (have hf1_3 := fun o => (bcell hb1).2 (x2.heap.size) o (by first | omega | (simp; done) | (simp; omega))))) | (go_at_call 74; refine (HSW.out _ _ (hR.out.below (And.left (by assumption))) (by first | assumption | (go_simp; done)) (by first | omega | (simp; done) | (simp; omega))).mono ?_; rintro e x2 ⟨rfl, hb2⟩; have hs2 := hb2.size; (try simp only [World.size_alloc, World.size_drew, World.size_setCell] at hs2); (try (have hl2_0 : w1.heap.size < x2.heap.size := (by first | omega | (simp; done) | (simp; omega)))); (try (have hc2_0 := fun o => (bcell hb2).1 (w1.heap.size) o (by first | omega | (simp; done) | (simp; omega)))); (try (have hf2_0 := fun o => (bcell hb2).2 (w1.heap.size) o (by first | omega | (simp; done) | (simp; omega)))); (try (have hl2_1 : w1.heap.size + 1 < x2.heap.size := (by first | omega | (simp; done) | (simp; omega)))); (try (have hc2_1 := fun o => (bcell hb2).1 (w1.heap.size + 1) o (by first | omega | (simp; done) | (simp; omega)))); (try (have hf2_1 := fun o => (bcell hb2).2 (w1.heap.size + 1) o (by first | omega | (simp; done) | (simp; omega)))); (try (have hl2_2 : x1.heap.size < x2.heap.size := (by first | omega | (simp; done) | (simp; omega)))); (try (have hc2_2 := fun o => (bcell hb2).1 (x1.heap.size) o (by first | omega | (simp; done) | (simp; omega)))); (try (have hf2_2 := fun o => (bcell hb2).2 (x1.heap.size) o (by first | omega | (simp; done) | (simp; omega)))); (try (have hl2_3 : x2.heap.size < x2.heap.size := (by first | omega | (simp; done) | (simp; omega)))); (try (have hc2_3 := fun o => (bcell hb2).1 (x2.heap.size) o (by first | omega | (simp; done) | (simp; omega)))); (try (have hf2_3 := fun o => (bcell hb2).2 (x2.heap.size) o (by first | omega | (simp; done) | (simp; omega))))) | (go_at_call 68; refine (HP.out _).mono ?_; rintro e x3 ⟨rfl, hb3⟩; have hs3 := hb3.size; (try simp only [World.size_alloc, World.size_drew, World.size_setCell] at hs3); (try (have hl3_0 : w1.heap.size < x3.heap.size := (by first | omega | (simp; done) | (simp; omega)))); (try (have hc3_0 := fun o => (bcell hb3).1 (w1.heap.size) o (by first | omega | (simp; done) | (simp; omega)))); (try (have hf3_0 := fun o => (bcell hb3).2 (w1.heap.size) o (by first | omega | (simp; done) | (simp; omega)))); (try (have hl3_1 : w1.heap.size + 1 < x3.heap.size := (by first | omega | (simp; done) | (simp; omega)))); (try (have hc3_1 := fun o => (bcell hb3).1 (w1.heap.size + 1) o (by first | omega | (simp; done) | (simp; omega)))); (try (have hf3_1 := fun o => (bcell hb3).2 (w1.heap.size + 1) o (by first | omega | (simp; done) | (simp; omega)))); (try (have hl3_2 : x1.heap.size < x3.heap.size := (by first | omega | (simp; done) | (simp; omega)))); (try (have hc3_2 := fun o => (bcell hb3).1 (x1.heap.size) o (by first | omega | (simp; done) | (simp; omega)))); (try (have hf3_2 := fun o => (bcell hb3).2 (x1.heap.size) o (by first | omega | (simp; done) | (simp; omega)))); (try (have hl3_3 : x2.heap.size < x3.heap.size := (by first | omega | (simp; done) | (simp; omega)))); (try (have hc3_3 := fun o => (bcell hb3).1 (x2.heap.size) o (by first | omega | (simp; done) | (simp; omega)))); (try (have hf3_3 := fun o => (bcell hb3).2 (x2.heap.size) o (by first | omega | (simp; done) | (simp; omega))))))
      all_goals rename_i hHeld
      all_goals exact ⟨rfl, [_, _, _, _, _, _], rfl, _, _, _, _, _, _, rfl, hHeld.1, hHeld.2.1, (by first | omega | (simp; done) | (simp; omega)), hHeld.2.2.1, hHeld.2.2.2, by go_simp, by go_simp⟩
    · rintro vs X ⟨k, v1, v2, v3, v4, v5, rfl, hX, zX, zk, cm0, cm1, ck0, ck1⟩
      simp only [List.zip_cons_cons, List.zip_nil_left, putsU, Act.put, List.setIfInBounds_toArray, List.set_cons_zero, List.set_cons_succ]
      have HX := Lib.hid (HB.out.trans (hX.mono HB.out.size))
      have hRX := Lib.hid (h.below HX.out)
      have z0 := HB.out.size
      have z00 := HX.out.size
      clear hX
      go_wp2_with fail
      refine (HO.out _).mono ?_; rintro e y1 ⟨rfl, hb1⟩
      have hs1 := hb1.size; (try simp only [World.size_alloc, World.size_drew, World.size_setCell] at hs1); (try (have hl1_0 : w1.heap.size < y1.heap.size := (by first | omega | (simp; done) | (simp; omega)))); (try (have hc1_0 := fun o => (bcell hb1).1 (w1.heap.size) o (by first | omega | (simp; done) | (simp; omega)))); (try (have hf1_0 := fun o => (bcell hb1).2 (w1.heap.size) o (by first | omega | (simp; done) | (simp; omega))))
      have Y1 := Lib.hid (HX.out.trans (hb1.mono HX.out.size))
      clear hb1
      go_wp2_with fail
      refine (sumOver_any 55 #[] _).mono ?_; rintro e y2 ⟨rfl, hb2, hz2, hk2⟩
      have hs2 := hb2.size; (try simp only [World.size_alloc, World.size_drew, World.size_setCell] at hs2); (try (have hl2_0 : w1.heap.size < y2.heap.size := (by first | omega | (simp; done) | (simp; omega)))); (try (have hc2_0 := fun o => (bcell hb2).1 (w1.heap.size) o (by first | omega | (simp; done) | (simp; omega)))); (try (have hf2_0 := fun o => (bcell hb2).2 (w1.heap.size) o (by first | omega | (simp; done) | (simp; omega))))
      have Y2 := Lib.hid (Y1.out.trans (hb2.mono Y1.out.size))
      clear hb2
      go_wp2_with fail
      refine (HST.out _ _ (h.below Y2.out) hk2 hz2).mono ?_; rintro e y3 ⟨rfl, hb3⟩
      have hs3 := hb3.size; (try simp only [World.size_alloc, World.size_drew, World.size_setCell] at hs3); (try (have hl3_0 : w1.heap.size < y3.heap.size := (by first | omega | (simp; done) | (simp; omega)))); (try (have hc3_0 := fun o => (bcell hb3).1 (w1.heap.size) o (by first | omega | (simp; done) | (simp; omega)))); (try (have hf3_0 := fun o => (bcell hb3).2 (w1.heap.size) o (by first | omega | (simp; done) | (simp; omega))))
      have Y3 := Lib.hid (Y2.out.trans (hb3.mono Y2.out.size))
      clear hb3 hk2
      go_wp2_with fail
      refine (HM.out _).mono ?_; rintro e y4 ⟨rfl, hb4⟩
      have hs4 := hb4.size; (try simp only [World.size_alloc, World.size_drew, World.size_setCell] at hs4); (try (have hl4_0 : w1.heap.size < y4.heap.size := (by first | omega | (simp; done) | (simp; omega)))); (try (have hc4_0 := fun o => (bcell hb4).1 (w1.heap.size) o (by first | omega | (simp; done) | (simp; omega)))); (try (have hf4_0 := fun o => (bcell hb4).2 (w1.heap.size) o (by first | omega | (simp; done) | (simp; omega))))
      have Y4 := Lib.hid (Y3.out.trans (hb4.mono Y3.out.size))
      clear hb4
      have c0 : y4.cell? ⟨w1.heap.size, 0, none⟩ = some (.int .i64 n) := by rw [hc4_0, hc3_0, hc2_0, hc1_0]; exact cm0
      have c1 : y4.cell? ⟨w1.heap.size, 1, none⟩ = some (.int .i64 1) := by rw [hc4_0, hc3_0, hc2_0, hc1_0]; exact cm1
      have z4 := Y4.out.size
      clear hc1_0 hc2_0 hc3_0 hc4_0 hf1_0 hf2_0 hf3_0 hf4_0
      by_cases hx : 0 < (s + n) * q - p * m
      · have HV := HOV hx
        rw [(nov hx).1, (nov hx).2, em] at HV
        have sx := sg.2 hx
        have sx2 : ¬ lwN ((s + n) * q - p * m) (m * q) ≤ 0 := by omega
        have hD2 : D = true := HD.out.trans (decide_eq_true hx)
        subst hD2
        clear HD
        clear HOV nov
        generalize lwN ((s + n) * q - p * m) (m * q) = l1 at *
        generalize lwD ((s + n) * q - p * m) (m * q) = l2 at *
        go_wp2_with fail
        refine (HV.out _).mono ?_; rintro e y5 ⟨rfl, hb5⟩
        have Y5 := Lib.hid ((Y4.out.alloc (by omega) _).trans (hb5.mono (by simp; omega)))
        have z5 := hb5.size
        simp only [World.size_alloc] at z5
        clear hb5
        go_wp2_with fail
        all_goals try (go_quiet (fail); go_wp2_with fail)
        go_ret3
        exact ⟨rfl, by first | exact below_drewN (Y5.out.alloc (by omega) _) _ | exact (Y5.out.alloc (by omega) _).drew | exact Y5.out.alloc (by omega) _⟩
      · have sx2 : lwN ((s + n) * q - p * m) (m * q) ≤ 0 := by
          rcases Int.lt_or_le 0 (lwN ((s + n) * q - p * m) (m * q)) with g | g
          · exact absurd (sg.1 g) hx
          · exact g
        have hD2 : D = false := HD.out.trans (decide_eq_false hx)
        subst hD2
        clear HD
        clear HOV nov
        generalize lwN ((s + n) * q - p * m) (m * q) = l1 at *
        generalize lwD ((s + n) * q - p * m) (m * q) = l2 at *
        go_wp2_with fail
        go_ret3
        exact ⟨rfl, Y4.out.alloc (by omega) _⟩
end Go.Proofs.Ytjgicbfgbcihoaa
