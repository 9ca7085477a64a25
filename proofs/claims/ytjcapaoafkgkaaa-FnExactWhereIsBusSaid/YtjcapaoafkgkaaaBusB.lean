/- Contracts: slices.BinarySearch at []int, WhereIsBus of the model and of the program, over one translation. -/
import Derived.Test.YtjcapaoafkgkaaaBusA
import Derived.Test.YtjcapaoafkgkaaaBusMathB
namespace Go.Proofs.Ytjcapaoafkgkaaa
open Go.RowKit
set_option linter.unusedVariables false
set_option linter.unusedSimpArgs false
theorem slNaN (x : Int) (w : World) :
    Calls Try.prog 48 #[.int .i64 x] w fun e w' => e = .returned (.bool false) ∧ w = w' := by
  go_enter Try.func48, Try.ntmps48
  go_wp2
  go_ret
  exact ⟨rfl, rfl⟩
theorem cmNaN (x : Int) (w : World) :
    Calls Try.prog 49 #[.int .i64 x] w fun e w' => e = .returned (.bool false) ∧ w = w' := by
  go_enter Try.func49, Try.ntmps49
  go_wp2
  go_ret
  exact ⟨rfl, rfl⟩
theorem cmLess (x y : Int) (w : World) :
    Calls Try.prog 47 #[.int .i64 x, .int .i64 y] w fun e w' => e = .returned (.bool (decide (x < y))) ∧ w = w' := by
  go_enter Try.func47, Try.ntmps47
  go_wp2_with (first | (go_at_call 49; refine (cmNaN _ _).mono ?_; rintro e w1 ⟨rfl, rfl⟩) | go_in)
  go_ret
  exact ⟨rfl, rfl⟩
set_option maxHeartbeats 4000000 in
theorem binSearch_any (a : Option Addr) (cap : Nat) (xs : List Int) (d : Int) (up : upK xs xs.length = true) (w : World) (h : Rd w a xs) (hx : xs.length ≤ 1048576) :
    Calls Try.prog 40 #[.slice a xs.length cap, .int .i64 d] w fun r w' => ∃ k : Nat, r = .returned (.tuple #[.int .i64 (k : Int), .bool (hitB xs d k)]) ∧ PosIn xs d k ∧ Below w.heap.size w w' := by
  have HU := Lib.hid up
  clear up
  go_enter Try.func40, Try.ntmps40
  go_wp2_with fail
  go_loopg [7, 8] xs.length (fun k v7 v8 wr => ∃ (i j : Nat), v7 = .int .i64 (i : Int) ∧ v8 = .int .i64 (j : Int) ∧ j ≤ i + k ∧ i ≤ j ∧ j ≤ xs.length ∧ Hid ((∀ p, p < i → xs.getD p 0 < d) ∧ (∀ p, j ≤ p → p < xs.length → d ≤ xs.getD p 0)) ∧ Below w.heap.size w wr)
  case atStart => exact ⟨0, xs.length, rfl, rfl, by omega, by omega, by omega, ⟨fun p hp => absurd hp (Nat.not_lt_zero _), fun p h1 h2 => absurd h2 (by omega)⟩, Below.refl _ _⟩
  case round =>
    obtain ⟨i, j, rfl, rfl, h1, h2, h3, hp, hbel⟩ := hrel
    by_cases hij : i < j
    · have hijI : (i : Int) < (j : Int) := by omega
      obtain ⟨q, hq, q1, q2⟩ : ∃ q : Nat, ((i : Int) + (j : Int)) / 2 = (q : Int) ∧ i ≤ q ∧ q < j := ⟨(i + j) / 2, by omega, by omega, by omega⟩
      rcases h with h | ⟨b, off, rfl, hlt, hc⟩
      · rw [h] at h3; simp at h3; omega
      have hqI : (q : Int) < (xs.length : Int) := by omega
      have hcq := Rd.cellAt hc hlt hbel (i := q) (by omega)
      by_cases hd : xs.getD q 0 < d
      · have hpost : Hid ((∀ p, p < q + 1 → xs.getD p 0 < d) ∧ (∀ p, j ≤ p → p < xs.length → d ≤ xs.getD p 0)) := by
          refine ⟨fun p hp1 => ?_, hp.out.2⟩
          have := up_le HU.out q p (by omega) (by omega)
          omega
        have HB := Lib.hid hbel
        clear hbel hc hp
        generalize xs.getD q 0 = x at *
        have hdd : decide (x < d) = true := decide_eq_true hd
        go_wp2_with (first | (go_at_call 47; refine (cmLess _ _ _).mono ?_; rw [hdd]; rintro e w1 ⟨rfl, rfl⟩) | go_in)
        go_roundg (gk - 1)
        case rel => exact ⟨q + 1, j, by go_num, rfl, by omega, by omega, by omega, hpost, HB.out⟩
        case measure => omega
      · have hpost : Hid ((∀ p, p < i → xs.getD p 0 < d) ∧ (∀ p, q ≤ p → p < xs.length → d ≤ xs.getD p 0)) := by
          refine ⟨hp.out.1, fun p hp1 hp2 => ?_⟩
          have := up_le HU.out p q (by omega) (by omega)
          omega
        have HB := Lib.hid hbel
        clear hbel hc hp
        generalize xs.getD q 0 = x at *
        have hdd : decide (x < d) = false := decide_eq_false hd
        go_wp2_with (first | (go_at_call 47; refine (cmLess _ _ _).mono ?_; rw [hdd]; rintro e w1 ⟨rfl, rfl⟩) | go_in)
        go_roundg (gk - 1)
        case rel => exact ⟨i, q, rfl, rfl, by omega, by omega, by omega, hpost, HB.out⟩
        case measure => omega
    · obtain rfl : i = j := by omega
      have hP : Hid (PosIn xs d i) := ⟨h3, hp.out.1, hp.out.2⟩
      by_cases hi : i < xs.length
      · rcases h with h | ⟨b, off, rfl, hlt, hc⟩
        · rw [h] at hi; simp at hi
        have hiI : (i : Int) < (xs.length : Int) := by omega
        have hci := Rd.cellAt hc hlt hbel hi
        have HB := Lib.hid hbel
        clear hbel hc hp
        by_cases hd : xs.getD i 0 = d
        · have hr : Hid (hitB xs d i = true) := decide_eq_true ⟨hi, hd⟩
          rw [hd] at hci
          clear hd
          go_wp2_with (first | (go_at_call 48; refine (slNaN _ _).mono ?_; rintro e w1 ⟨rfl, rfl⟩) | go_in)
          go_ret2
          exact ⟨i, rIB rfl hr.out.symm, hP.out, HB.out⟩
        · have hr : Hid (hitB xs d i = false) := decide_eq_false (fun x => hd x.2)
          generalize xs.getD i 0 = x at hci hd
          go_wp2_with (first | (go_at_call 48; refine (slNaN _ _).mono ?_; rintro e w1 ⟨rfl, rfl⟩) | go_in)
          go_ret2
          exact ⟨i, rIB rfl (by rw [hr.out]; simp [hd]), hP.out, HB.out⟩
      · have hr : Hid (hitB xs d i = false) := decide_eq_false (fun x => hi x.1)
        have hiI : ¬ (i : Int) < (xs.length : Int) := by omega
        have HB := Lib.hid hbel
        clear hbel hp
        go_wp2_with (first | (go_at_call 48; refine (slNaN _ _).mono ?_; rintro e w1 ⟨rfl, rfl⟩) | go_in)
        go_ret2
        exact ⟨i, rIB rfl hr.out.symm, hP.out, HB.out⟩
theorem whK_bus {f e c : Int} {xs : List Int} {u m : Int} (h : bsB f e c xs u = false) : whK f e c xs u m = false := by unfold whK; rw [h]; rfl
theorem whK_min {f e c : Int} {xs : List Int} {u m : Int} (h : inB m 0 2000 = false) : whK f e c xs u m = false := by unfold whK; rw [h]; simp
def hitOf (w' : World) (w : World) (r : Ending) (f e c : Int) (xs : List Int) (u m : Int) : Prop := r = .returned (.tuple #[.int .i64 (ifI (whK f e c xs u m) (whS f e xs u m : Int)), .bool (whK f e c xs u m && whE f e xs u m), .bool (whK f e c xs u m)]) ∧ Below w.heap.size w w'
theorem hit_none {w' w : World} {f e c : Int} {xs : List Int} {u m : Int} (h : whK f e c xs u m = false) (b : Below w.heap.size w w') : hitOf w' w (.returned (.tuple #[.int .i64 0, .bool false, .bool false])) f e c xs u m := by
  unfold hitOf; rw [h]; exact ⟨rfl, b⟩
theorem hit_at {w' w : World} {f e c : Int} {xs : List Int} {u m : Int} {k : Nat} {x : Bool} (h : whK f e c xs u m = true ∧ whS f e xs u m = k ∧ whE f e xs u m = x) (b : Below w.heap.size w w') : hitOf w' w (.returned (.tuple #[.int .i64 (k : Int), .bool x, .bool true])) f e c xs u m := by
  unfold hitOf; rw [h.1, h.2.1, h.2.2]; exact ⟨by simp [ifI], b⟩
set_option maxHeartbeats 8000000 in
theorem implWhere0 (f e c : Int) (a : Option Addr) (cap : Nat) (xs : List Int) (u m : Int) (w : World) (h : Rd w a xs) (hx : xs.length ≤ 1048576) :
    Calls Try.prog 18 #[.agg #[.int .i64 f, .int .i64 e, .int .i64 c, .slice a xs.length cap], .int .i64 u, .int .i64 m] w fun r w' => hitOf w' w r f e c xs u m := by
  cases g1 : bsB f e c xs u
  · have hpost := whK_bus (m := m) g1
    have hpost := Lib.hid hpost
    go_enter Try.func18, Try.ntmps18
    go_wp2_with (first | (go_at_call 34; refine (hasBus_any f e c a cap xs u _ (h.below (by (repeat (first | exact Below.refl _ _ | refine Below.drew ?_ | refine below_drewN ?_ _ | refine Below.setCell ?_ (by first | omega | (simp; done) | (simp; omega)) _ | refine Below.alloc ?_ (by first | omega | (simp; done) | (simp; omega)) _ | refine bchain ?_ (by assumption) (by first | omega | (simp; done) | (simp; omega)))))) hx).mono ?_; rw [g1]; rintro e w1 ⟨rfl, hb1⟩; have hs1 := hb1.size; (try simp only [World.size_alloc, World.size_drew, World.size_setCell] at hs1); (try (have hl1_0 : w.heap.size < w1.heap.size := (by first | omega | (simp; done) | (simp; omega)))); (try (have hc1_0 := fun o => (bcell hb1).1 (w.heap.size) o (by first | omega | (simp; done) | (simp; omega))))) | go_in)
    (((try simp only [Exit.inBlock, Exit.then]); refine bodyPost_ret (results_tmp3 rfl _ _ _) rfl ?_))
    exact hit_none hpost.out (by (repeat (first | exact Below.refl _ _ | refine Below.drew ?_ | refine below_drewN ?_ _ | refine Below.setCell ?_ (by first | omega | (simp; done) | (simp; omega)) _ | refine Below.alloc ?_ (by first | omega | (simp; done) | (simp; omega)) _ | refine bchain ?_ (by assumption) (by first | omega | (simp; done) | (simp; omega)))))
  · cases g2 : inB m 0 2000
    · have hpost := Lib.hid (whK_min (f := f) (e := e) (c := c) (xs := xs) (u := u) g2)
      go_enter Try.func18, Try.ntmps18
      go_wp2_with (first | (go_at_call 34; refine (hasBus_any f e c a cap xs u _ (h.below (by (repeat (first | exact Below.refl _ _ | refine Below.drew ?_ | refine below_drewN ?_ _ | refine Below.setCell ?_ (by first | omega | (simp; done) | (simp; omega)) _ | refine Below.alloc ?_ (by first | omega | (simp; done) | (simp; omega)) _ | refine bchain ?_ (by assumption) (by first | omega | (simp; done) | (simp; omega)))))) hx).mono ?_; rw [g1]; rintro e w1 ⟨rfl, hb1⟩; have hs1 := hb1.size; (try simp only [World.size_alloc, World.size_drew, World.size_setCell] at hs1); (try (have hl1_0 : w.heap.size < w1.heap.size := (by first | omega | (simp; done) | (simp; omega)))); (try (have hc1_0 := fun o => (bcell hb1).1 (w.heap.size) o (by first | omega | (simp; done) | (simp; omega))))) | (go_at_call 26; refine (isMinute_any _ _).mono ?_; rw [g2]; rintro e w1 ⟨rfl, rfl⟩) | go_in)
      (((try simp only [Exit.inBlock, Exit.then]); refine bodyPost_ret (results_tmp3 rfl _ _ _) rfl ?_))
      exact hit_none hpost.out (by (repeat (first | exact Below.refl _ _ | refine Below.drew ?_ | refine below_drewN ?_ _ | refine Below.setCell ?_ (by first | omega | (simp; done) | (simp; omega)) _ | refine Below.alloc ?_ (by first | omega | (simp; done) | (simp; omega)) _ | refine bchain ?_ (by assumption) (by first | omega | (simp; done) | (simp; omega)))))
    · have m2 := inB_iff.1 g2
      have g1' := g1
      unfold bsB at g1'
      rw [Bool.and_eq_true, inB_iff] at g1'
      have L := lnB_iff.1 g1'.1
      have u2 := g1'.2
      have q1 := L.at0 u2.1 (by omega)
      have q2 := L.f0
      have n0 := L.n0
      obtain ⟨T, hT⟩ : ∃ T, Hid (f + u * e = T) := ⟨_, rfl⟩
      have ht : tmB f e xs u 0 = T := by unfold tmB; rw [show (0 : Int).toNat = 0 from rfl, L.z, ← hT.out]; omega
      have t2 : 0 ≤ T ∧ T ≤ 2000 := by rw [← hT.out]; omega
      have HL := Lib.hid L
      have hUp := Lib.hid L.up
      clear L g1' q1 q2
      go_enter Try.func18, Try.ntmps18
      go_wp2_with (first | (go_at_call 34; refine (hasBus_any f e c a cap xs u _ (h.below (by (repeat (first | exact Below.refl _ _ | refine Below.drew ?_ | refine below_drewN ?_ _ | refine Below.setCell ?_ (by first | omega | (simp; done) | (simp; omega)) _ | refine Below.alloc ?_ (by first | omega | (simp; done) | (simp; omega)) _ | refine bchain ?_ (by assumption) (by first | omega | (simp; done) | (simp; omega)))))) hx).mono ?_; rw [g1]; rintro e w1 ⟨rfl, hb1⟩; have hs1 := hb1.size; (try simp only [World.size_alloc, World.size_drew, World.size_setCell] at hs1); (try (have hl1_0 : w.heap.size < w1.heap.size := (by first | omega | (simp; done) | (simp; omega)))); (try (have hc1_0 := fun o => (bcell hb1).1 (w.heap.size) o (by first | omega | (simp; done) | (simp; omega))))) | (go_at_call 26; refine (isMinute_any _ _).mono ?_; rw [g2]; rintro e w1 ⟨rfl, rfl⟩) | (go_at_call 35; refine (minuteOf_any f e c a cap xs u 0 HL.out (by omega) (by omega) (by omega) (by omega) _ (h.below (by (repeat (first | exact Below.refl _ _ | refine Below.drew ?_ | refine below_drewN ?_ _ | refine Below.setCell ?_ (by first | omega | (simp; done) | (simp; omega)) _ | refine Below.alloc ?_ (by first | omega | (simp; done) | (simp; omega)) _ | refine bchain ?_ (by assumption) (by first | omega | (simp; done) | (simp; omega))))))).mono ?_; rw [ht]; rintro e w3 ⟨rfl, hb3⟩; have hs3 := hb3.size; (try simp only [World.size_alloc, World.size_drew, World.size_setCell] at hs3); (try (have hl3_0 : w.heap.size < w3.heap.size := (by first | omega | (simp; done) | (simp; omega)))); (try (have hc3_0 := fun o => (bcell hb3).1 (w.heap.size) o (by first | omega | (simp; done) | (simp; omega))))))
      refine (binSearch_any a cap xs (m - T) hUp.out _ (h.below (by (repeat (first | exact Below.refl _ _ | refine Below.drew ?_ | refine below_drewN ?_ _ | refine Below.setCell ?_ (by first | omega | (simp; done) | (simp; omega)) _ | refine Below.alloc ?_ (by first | omega | (simp; done) | (simp; omega)) _ | refine bchain ?_ (by assumption) (by first | omega | (simp; done) | (simp; omega)))))) hx).mono ?_; rintro r w4 ⟨k, rfl, hP, hb4⟩
      have hs4 := hb4.size; (try simp only [World.size_alloc, World.size_drew, World.size_setCell] at hs4); (try (have hl4_0 : w.heap.size < w4.heap.size := (by first | omega | (simp; done) | (simp; omega)))); (try (have hc4_0 := fun o => (bcell hb4).1 (w.heap.size) o (by first | omega | (simp; done) | (simp; omega))))
      have B4 := Lib.hid (show Below w.heap.size w w4 by (repeat (first | exact Below.refl _ _ | refine Below.drew ?_ | refine below_drewN ?_ _ | refine Below.setCell ?_ (by first | omega | (simp; done) | (simp; omega)) _ | refine Below.alloc ?_ (by first | omega | (simp; done) | (simp; omega)) _ | refine bchain ?_ (by assumption) (by first | omega | (simp; done) | (simp; omega)))))
      have hk := hP.le
      have hPd := Lib.hid hP
      clear hP
      have kI : (k : Int) ≤ (xs.length : Int) := by omega
      clear hb1 hb3 hb4
      cases hh : hitB xs (m - T) k
      · have hno0 : ¬ (k < xs.length ∧ xs.getD k 0 = m - T) := by unfold hitB at hh; exact of_decide_eq_false hh
        have hno := Lib.hid hno0
        clear hno0
        by_cases k0 : k = 0
        · subst k0
          have hpost : Hid (whK f e c xs u m = false) := wh_none HL.out (by rw [hT.out]; exact hPd.out) (.inl rfl) (by rw [hT.out]; exact hno.out)
          go_wp2_with fail
          (((try simp only [Exit.inBlock, Exit.then]); refine bodyPost_ret (results_tmp3 rfl _ _ _) rfl ?_))
          exact hit_none hpost.out B4.out
        · by_cases k1 : k = xs.length
          · subst k1
            have hpost : Hid (whK f e c xs u m = false) := wh_none HL.out (by rw [hT.out]; exact hPd.out) (.inr rfl) (by rw [hT.out]; exact hno.out)
            have kp : 0 < (xs.length : Int) := by omega
            go_wp2_with fail
            (((try simp only [Exit.inBlock, Exit.then]); refine bodyPost_ret (results_tmp3 rfl _ _ _) rfl ?_))
            exact hit_none hpost.out B4.out
          · obtain ⟨p, hp⟩ : ∃ p, k = p + 1 := ⟨k - 1, by omega⟩
            have hpost := Lib.hid (wh_mid (k := p) HL.out g1 g2 (by rw [hT.out, ← hp]; exact hPd.out) (by omega) (by rw [hT.out, ← hp]; exact fun x => hno.out ⟨by omega, x⟩))
            have kp : ((k : Int) == 0) = false := beq_false_of_ne (by omega)
            have kq : ((k : Int) == (xs.length : Int)) = false := beq_false_of_ne (by omega)
            have hkp : Hid ((k : Int) - 1 = (p : Int)) := by unfold Hid; omega
            clear k0 k1 hp hk
            go_wp2_with fail
            (((try simp only [Exit.inBlock, Exit.then]); refine bodyPost_ret (results_tmp3 rfl _ _ _) rfl ?_))
            have hfin := hit_at hpost.out B4.out
            rw [← hkp.out] at hfin
            exact hfin
      · have hyes0 : k < xs.length ∧ xs.getD k 0 = m - T := by unfold hitB at hh; exact of_decide_eq_true hh
        have hyes := Lib.hid hyes0
        clear hyes0
        have hpost := Lib.hid (wh_there HL.out g1 g2 (by rw [hT.out]; exact hPd.out) hyes.out.1 (by rw [hT.out]; exact hyes.out.2))
        go_wp2_with fail
        (((try simp only [Exit.inBlock, Exit.then]); refine bodyPost_ret (results_tmp3 rfl _ _ _) rfl ?_))
        exact hit_at hpost.out B4.out
theorem tm_at {f e : Int} {xs : List Int} {u T : Int} (hT : f + u * e = T) (i : Nat) : tmB f e xs u (i : Int) = T + xs.getD i 0 := by unfold tmB; rw [Int.toNat_natCast, hT]
set_option maxHeartbeats 8000000 in
theorem specWhere0 (f e c : Int) (a : Option Addr) (cap : Nat) (xs : List Int) (u m : Int) (w : World) (h : Rd w a xs) (hx : xs.length ≤ 1048576) :
    Calls Try.prog 17 #[.agg #[.int .i64 f, .int .i64 e, .int .i64 c, .slice a xs.length cap], .int .i64 u, .int .i64 m] w fun r w' => hitOf w' w r f e c xs u m := by
  cases g1 : lnB f e c xs
  · have hpost := Lib.hid (whK_bus (m := m) (show bsB f e c xs u = false by unfold bsB; rw [g1]; rfl))
    go_enter Try.func17, Try.ntmps17
    go_wp2_with (first | (go_at_call 24; refine (buGood_any f e c a cap xs _ (h.below (by (repeat (first | exact Below.refl _ _ | refine Below.drew ?_ | refine below_drewN ?_ _ | refine Below.setCell ?_ (by first | omega | (simp; done) | (simp; omega)) _ | refine Below.alloc ?_ (by first | omega | (simp; done) | (simp; omega)) _ | refine bchain ?_ (by assumption) (by first | omega | (simp; done) | (simp; omega)))))) hx).mono ?_; rw [g1]; rintro e w1 ⟨rfl, hb1⟩; have hs1 := hb1.size; (try simp only [World.size_alloc, World.size_drew, World.size_setCell] at hs1); (try (have hl1_0 : w.heap.size < w1.heap.size := (by first | omega | (simp; done) | (simp; omega)))); (try (have hc1_0 := fun o => (bcell hb1).1 (w.heap.size) o (by first | omega | (simp; done) | (simp; omega))))) | go_in)
    (((try simp only [Exit.inBlock, Exit.then]); refine bodyPost_ret (results_tmp3 rfl _ _ _) rfl ?_))
    exact hit_none hpost.out (by (repeat (first | exact Below.refl _ _ | refine Below.drew ?_ | refine below_drewN ?_ _ | refine Below.setCell ?_ (by first | omega | (simp; done) | (simp; omega)) _ | refine Below.alloc ?_ (by first | omega | (simp; done) | (simp; omega)) _ | refine bchain ?_ (by assumption) (by first | omega | (simp; done) | (simp; omega)))))
  · have L := lnB_iff.1 g1
    have L0 := L.c0
    have L1 := L.c1
    cases g2 : inB u 0 (c - 1)
    · have hpost := Lib.hid (whK_bus (m := m) (show bsB f e c xs u = false by unfold bsB; rw [g2]; simp))
      clear L
      go_enter Try.func17, Try.ntmps17
      go_wp2_with (first | (go_at_call 24; refine (buGood_any f e c a cap xs _ (h.below (by (repeat (first | exact Below.refl _ _ | refine Below.drew ?_ | refine below_drewN ?_ _ | refine Below.setCell ?_ (by first | omega | (simp; done) | (simp; omega)) _ | refine Below.alloc ?_ (by first | omega | (simp; done) | (simp; omega)) _ | refine bchain ?_ (by assumption) (by first | omega | (simp; done) | (simp; omega)))))) hx).mono ?_; rw [g1]; rintro e w1 ⟨rfl, hb1⟩; have hs1 := hb1.size; (try simp only [World.size_alloc, World.size_drew, World.size_setCell] at hs1); (try (have hl1_0 : w.heap.size < w1.heap.size := (by first | omega | (simp; done) | (simp; omega)))); (try (have hc1_0 := fun o => (bcell hb1).1 (w.heap.size) o (by first | omega | (simp; done) | (simp; omega))))) | (go_at_call 31; refine (specIn u _ _ _).mono ?_; rw [g2]; rintro e w1 ⟨rfl, rfl⟩) | go_in)
      (((try simp only [Exit.inBlock, Exit.then]); refine bodyPost_ret (results_tmp3 rfl _ _ _) rfl ?_))
      exact hit_none hpost.out (by (repeat (first | exact Below.refl _ _ | refine Below.drew ?_ | refine below_drewN ?_ _ | refine Below.setCell ?_ (by first | omega | (simp; done) | (simp; omega)) _ | refine Below.alloc ?_ (by first | omega | (simp; done) | (simp; omega)) _ | refine bchain ?_ (by assumption) (by first | omega | (simp; done) | (simp; omega)))))
    · have hbs : bsB f e c xs u = true := by unfold bsB; rw [g1, g2]; rfl
      cases g3 : inB m 0 2000
      · have hpost := Lib.hid (whK_min (f := f) (e := e) (c := c) (xs := xs) (u := u) g3)
        clear L
        go_enter Try.func17, Try.ntmps17
        go_wp2_with (first | (go_at_call 24; refine (buGood_any f e c a cap xs _ (h.below (by (repeat (first | exact Below.refl _ _ | refine Below.drew ?_ | refine below_drewN ?_ _ | refine Below.setCell ?_ (by first | omega | (simp; done) | (simp; omega)) _ | refine Below.alloc ?_ (by first | omega | (simp; done) | (simp; omega)) _ | refine bchain ?_ (by assumption) (by first | omega | (simp; done) | (simp; omega)))))) hx).mono ?_; rw [g1]; rintro e w1 ⟨rfl, hb1⟩; have hs1 := hb1.size; (try simp only [World.size_alloc, World.size_drew, World.size_setCell] at hs1); (try (have hl1_0 : w.heap.size < w1.heap.size := (by first | omega | (simp; done) | (simp; omega)))); (try (have hc1_0 := fun o => (bcell hb1).1 (w.heap.size) o (by first | omega | (simp; done) | (simp; omega))))) | (go_at_call 31; refine (specIn u _ _ _).mono ?_; rw [g2]; rintro e w1 ⟨rfl, rfl⟩) | (go_at_call 39; refine (buMinute_any _ _).mono ?_; rw [g3]; rintro e w1 ⟨rfl, rfl⟩) | go_in)
        (((try simp only [Exit.inBlock, Exit.then]); refine bodyPost_ret (results_tmp3 rfl _ _ _) rfl ?_))
        exact hit_none hpost.out (by (repeat (first | exact Below.refl _ _ | refine Below.drew ?_ | refine below_drewN ?_ _ | refine Below.setCell ?_ (by first | omega | (simp; done) | (simp; omega)) _ | refine Below.alloc ?_ (by first | omega | (simp; done) | (simp; omega)) _ | refine bchain ?_ (by assumption) (by first | omega | (simp; done) | (simp; omega)))))
      · have m2 := inB_iff.1 g3
        have u2 := inB_iff.1 g2
        have q1 := L.at0 u2.1 (by omega)
        have q2 := L.f0
        have n0 := L.n0
        have n1 := L.n1
        obtain ⟨T, hT⟩ : ∃ T, Hid (f + u * e = T) := ⟨_, rfl⟩
        have t2 : 0 ≤ T ∧ T ≤ 2000 := by rw [← hT.out]; omega
        obtain ⟨l, hl⟩ : ∃ l, xs.length = l + 1 := ⟨xs.length - 1, by omega⟩
        have hlI : (xs.length : Int) - 1 = (l : Int) := by omega
        have hl1 : Hid (xs.length - 1 = l) := by unfold Hid; omega
        have hlb : 1 ≤ l ∧ l ≤ 11 := by omega
        have hln : l < xs.length := by omega
        have z0 := L.z
        have HB := Lib.hid hbs
        have hD : Hid (∀ i, i < xs.length → 0 ≤ xs.getD i 0 ∧ xs.getD i 0 ≤ 500) := L.bd
        obtain ⟨x, hX⟩ : ∃ x, Hid (xs.getD l 0 = x) := ⟨_, rfl⟩
        have x2 : 0 ≤ x ∧ x ≤ 500 := by rw [← hX.out]; exact hD.out l hln
        have hbt : ∀ i : Nat, i < xs.length → ∀ v, Rd v a xs → Calls Try.prog 32 #[.agg #[.int .i64 f, .int .i64 e, .int .i64 c, .slice a xs.length cap], .int .i64 u, .int .i64 (i : Int)] v fun r w' => r = .returned (.int .i64 (T + xs.getD i 0)) ∧ Below v.heap.size v w' := fun i hi v hv => by
          rw [← tm_at hT.out i]; exact buTime_any f e c a cap xs u i L (by omega) (by omega) (by omega) (by omega) v hv
        have h0 : ∀ v, Rd v a xs → Calls Try.prog 32 #[.agg #[.int .i64 f, .int .i64 e, .int .i64 c, .slice a xs.length cap], .int .i64 u, .int .i64 0] v fun r w' => r = .returned (.int .i64 T) ∧ Below v.heap.size v w' := fun v hv => by
          have := hbt 0 (by omega) v hv
          rw [z0, Int.add_zero] at this; exact this
        have hL : ∀ v, Rd v a xs → Calls Try.prog 32 #[.agg #[.int .i64 f, .int .i64 e, .int .i64 c, .slice a xs.length cap], .int .i64 u, .int .i64 (l : Int)] v fun r w' => r = .returned (.int .i64 (T + x)) ∧ Below v.heap.size v w' := fun v hv => by
          have := hbt l hln v hv
          rw [hX.out] at this; exact this
        have hbt := Lib.hid hbt
        have h0 := Lib.hid h0
        have hL := Lib.hid hL
        have hz := Lib.hid z0
        clear L q1 q2 z0 hl hbs
        by_cases k1 : m < T
        · have hpost : Hid (whK f e c xs u m = false) := by unfold Hid whK; rw [hT.out, decide_eq_false (by omega)]; simp
          go_enter Try.func17, Try.ntmps17
          go_wp2_with (first | (go_at_call 24; refine (buGood_any f e c a cap xs _ (h.below (by (repeat (first | exact Below.refl _ _ | refine Below.drew ?_ | refine below_drewN ?_ _ | refine Below.setCell ?_ (by first | omega | (simp; done) | (simp; omega)) _ | refine Below.alloc ?_ (by first | omega | (simp; done) | (simp; omega)) _ | refine bchain ?_ (by assumption) (by first | omega | (simp; done) | (simp; omega)))))) hx).mono ?_; rw [g1]; rintro e w1 ⟨rfl, hb1⟩; have hs1 := hb1.size; (try simp only [World.size_alloc, World.size_drew, World.size_setCell] at hs1); (try (have hl1_0 : w.heap.size < w1.heap.size := (by first | omega | (simp; done) | (simp; omega)))); (try (have hc1_0 := fun o => (bcell hb1).1 (w.heap.size) o (by first | omega | (simp; done) | (simp; omega))))) | (go_at_call 31; refine (specIn u _ _ _).mono ?_; rw [g2]; rintro e w1 ⟨rfl, rfl⟩) | (go_at_call 39; refine (buMinute_any _ _).mono ?_; rw [g3]; rintro e w1 ⟨rfl, rfl⟩) | (go_at_call_of 32 (Value.int .i64 0); refine (h0.out _ (h.below (by (repeat (first | exact Below.refl _ _ | refine Below.drew ?_ | refine below_drewN ?_ _ | refine Below.setCell ?_ (by first | omega | (simp; done) | (simp; omega)) _ | refine Below.alloc ?_ (by first | omega | (simp; done) | (simp; omega)) _ | refine bchain ?_ (by assumption) (by first | omega | (simp; done) | (simp; omega))))))).mono ?_; rintro e w2 ⟨rfl, hb2⟩; have hs2 := hb2.size; (try simp only [World.size_alloc, World.size_drew, World.size_setCell] at hs2); (try (have hl2_0 : w.heap.size < w2.heap.size := (by first | omega | (simp; done) | (simp; omega)))); (try (have hc2_0 := fun o => (bcell hb2).1 (w.heap.size) o (by first | omega | (simp; done) | (simp; omega))))) | (go_at_call_of 32 (Value.int .i64 (l : Int)); refine (hL.out _ (h.below (by (repeat (first | exact Below.refl _ _ | refine Below.drew ?_ | refine below_drewN ?_ _ | refine Below.setCell ?_ (by first | omega | (simp; done) | (simp; omega)) _ | refine Below.alloc ?_ (by first | omega | (simp; done) | (simp; omega)) _ | refine bchain ?_ (by assumption) (by first | omega | (simp; done) | (simp; omega))))))).mono ?_; rintro e w3 ⟨rfl, hb3⟩; have hs3 := hb3.size; (try simp only [World.size_alloc, World.size_drew, World.size_setCell] at hs3); (try (have hl3_0 : w.heap.size < w3.heap.size := (by first | omega | (simp; done) | (simp; omega)))); (try (have hc3_0 := fun o => (bcell hb3).1 (w.heap.size) o (by first | omega | (simp; done) | (simp; omega))))) | go_in)
          (((try simp only [Exit.inBlock, Exit.then]); refine bodyPost_ret (results_tmp3 rfl _ _ _) rfl ?_))
          exact hit_none hpost.out (by (repeat (first | exact Below.refl _ _ | refine Below.drew ?_ | refine below_drewN ?_ _ | refine Below.setCell ?_ (by first | omega | (simp; done) | (simp; omega)) _ | refine Below.alloc ?_ (by first | omega | (simp; done) | (simp; omega)) _ | refine bchain ?_ (by assumption) (by first | omega | (simp; done) | (simp; omega)))))
        · by_cases k2 : T + x < m
          · have hpost : Hid (whK f e c xs u m = false) := by unfold Hid whK; rw [hT.out, hl1.out, hX.out, decide_eq_false (p := m ≤ T + x) (by omega)]; simp
            go_enter Try.func17, Try.ntmps17
            go_wp2_with (first | (go_at_call 24; refine (buGood_any f e c a cap xs _ (h.below (by (repeat (first | exact Below.refl _ _ | refine Below.drew ?_ | refine below_drewN ?_ _ | refine Below.setCell ?_ (by first | omega | (simp; done) | (simp; omega)) _ | refine Below.alloc ?_ (by first | omega | (simp; done) | (simp; omega)) _ | refine bchain ?_ (by assumption) (by first | omega | (simp; done) | (simp; omega)))))) hx).mono ?_; rw [g1]; rintro e w1 ⟨rfl, hb1⟩; have hs1 := hb1.size; (try simp only [World.size_alloc, World.size_drew, World.size_setCell] at hs1); (try (have hl1_0 : w.heap.size < w1.heap.size := (by first | omega | (simp; done) | (simp; omega)))); (try (have hc1_0 := fun o => (bcell hb1).1 (w.heap.size) o (by first | omega | (simp; done) | (simp; omega))))) | (go_at_call 31; refine (specIn u _ _ _).mono ?_; rw [g2]; rintro e w1 ⟨rfl, rfl⟩) | (go_at_call 39; refine (buMinute_any _ _).mono ?_; rw [g3]; rintro e w1 ⟨rfl, rfl⟩) | (go_at_call_of 32 (Value.int .i64 0); refine (h0.out _ (h.below (by (repeat (first | exact Below.refl _ _ | refine Below.drew ?_ | refine below_drewN ?_ _ | refine Below.setCell ?_ (by first | omega | (simp; done) | (simp; omega)) _ | refine Below.alloc ?_ (by first | omega | (simp; done) | (simp; omega)) _ | refine bchain ?_ (by assumption) (by first | omega | (simp; done) | (simp; omega))))))).mono ?_; rintro e w2 ⟨rfl, hb2⟩; have hs2 := hb2.size; (try simp only [World.size_alloc, World.size_drew, World.size_setCell] at hs2); (try (have hl2_0 : w.heap.size < w2.heap.size := (by first | omega | (simp; done) | (simp; omega)))); (try (have hc2_0 := fun o => (bcell hb2).1 (w.heap.size) o (by first | omega | (simp; done) | (simp; omega))))) | (go_at_call_of 32 (Value.int .i64 (l : Int)); refine (hL.out _ (h.below (by (repeat (first | exact Below.refl _ _ | refine Below.drew ?_ | refine below_drewN ?_ _ | refine Below.setCell ?_ (by first | omega | (simp; done) | (simp; omega)) _ | refine Below.alloc ?_ (by first | omega | (simp; done) | (simp; omega)) _ | refine bchain ?_ (by assumption) (by first | omega | (simp; done) | (simp; omega))))))).mono ?_; rintro e w3 ⟨rfl, hb3⟩; have hs3 := hb3.size; (try simp only [World.size_alloc, World.size_drew, World.size_setCell] at hs3); (try (have hl3_0 : w.heap.size < w3.heap.size := (by first | omega | (simp; done) | (simp; omega)))); (try (have hc3_0 := fun o => (bcell hb3).1 (w.heap.size) o (by first | omega | (simp; done) | (simp; omega))))) | go_in)
            (((try simp only [Exit.inBlock, Exit.then]); refine bodyPost_ret (results_tmp3 rfl _ _ _) rfl ?_))
            exact hit_none hpost.out (by (repeat (first | exact Below.refl _ _ | refine Below.drew ?_ | refine below_drewN ?_ _ | refine Below.setCell ?_ (by first | omega | (simp; done) | (simp; omega)) _ | refine Below.alloc ?_ (by first | omega | (simp; done) | (simp; omega)) _ | refine bchain ?_ (by assumption) (by first | omega | (simp; done) | (simp; omega)))))
          · have hK : Hid (whK f e c xs u m = true) := by unfold Hid whK; rw [hT.out, hl1.out, hX.out, HB.out, g3, decide_eq_true (p := m ≤ T + x) (by omega), decide_eq_true (p := T ≤ m) (by omega)]; rfl
            have hfin : Hid (∀ k, k < xs.length → dnI xs (m - T) l = k → ∀ b, decide (T + xs.getD k 0 = m) = b → whK f e c xs u m = true ∧ whS f e xs u m = k ∧ whE f e xs u m = b) := fun k hk hd b hb => by
              have e1 : whS f e xs u m = k := by unfold whS; rw [hT.out, hl1.out]; exact hd
              exact ⟨hK.out, e1, by unfold whE; rw [e1, hT.out]; exact hb⟩
            go_enter Try.func17, Try.ntmps17
            go_wp2_with (first | (go_at_call 24; refine (buGood_any f e c a cap xs _ (h.below (by (repeat (first | exact Below.refl _ _ | refine Below.drew ?_ | refine below_drewN ?_ _ | refine Below.setCell ?_ (by first | omega | (simp; done) | (simp; omega)) _ | refine Below.alloc ?_ (by first | omega | (simp; done) | (simp; omega)) _ | refine bchain ?_ (by assumption) (by first | omega | (simp; done) | (simp; omega)))))) hx).mono ?_; rw [g1]; rintro e w1 ⟨rfl, hb1⟩; have hs1 := hb1.size; (try simp only [World.size_alloc, World.size_drew, World.size_setCell] at hs1); (try (have hl1_0 : w.heap.size < w1.heap.size := (by first | omega | (simp; done) | (simp; omega)))); (try (have hc1_0 := fun o => (bcell hb1).1 (w.heap.size) o (by first | omega | (simp; done) | (simp; omega))))) | (go_at_call 31; refine (specIn u _ _ _).mono ?_; rw [g2]; rintro e w1 ⟨rfl, rfl⟩) | (go_at_call 39; refine (buMinute_any _ _).mono ?_; rw [g3]; rintro e w1 ⟨rfl, rfl⟩) | (go_at_call_of 32 (Value.int .i64 0); refine (h0.out _ (h.below (by (repeat (first | exact Below.refl _ _ | refine Below.drew ?_ | refine below_drewN ?_ _ | refine Below.setCell ?_ (by first | omega | (simp; done) | (simp; omega)) _ | refine Below.alloc ?_ (by first | omega | (simp; done) | (simp; omega)) _ | refine bchain ?_ (by assumption) (by first | omega | (simp; done) | (simp; omega))))))).mono ?_; rintro e w2 ⟨rfl, hb2⟩; have hs2 := hb2.size; (try simp only [World.size_alloc, World.size_drew, World.size_setCell] at hs2); (try (have hl2_0 : w.heap.size < w2.heap.size := (by first | omega | (simp; done) | (simp; omega)))); (try (have hc2_0 := fun o => (bcell hb2).1 (w.heap.size) o (by first | omega | (simp; done) | (simp; omega))))) | (go_at_call_of 32 (Value.int .i64 (l : Int)); refine (hL.out _ (h.below (by (repeat (first | exact Below.refl _ _ | refine Below.drew ?_ | refine below_drewN ?_ _ | refine Below.setCell ?_ (by first | omega | (simp; done) | (simp; omega)) _ | refine Below.alloc ?_ (by first | omega | (simp; done) | (simp; omega)) _ | refine bchain ?_ (by assumption) (by first | omega | (simp; done) | (simp; omega))))))).mono ?_; rintro e w3 ⟨rfl, hb3⟩; have hs3 := hb3.size; (try simp only [World.size_alloc, World.size_drew, World.size_setCell] at hs3); (try (have hl3_0 : w.heap.size < w3.heap.size := (by first | omega | (simp; done) | (simp; omega)))); (try (have hc3_0 := fun o => (bcell hb3).1 (w.heap.size) o (by first | omega | (simp; done) | (simp; omega))))) | go_in)
            have d0 : w3.cell? ⟨w.heap.size, 0, none⟩ = some (.int .i64 f) := by rw [hc3_0, hc2_0, hc1_0]; go_simp
            have d1 : w3.cell? ⟨w.heap.size, 1, none⟩ = some (.int .i64 e) := by rw [hc3_0, hc2_0, hc1_0]; go_simp
            have d2 : w3.cell? ⟨w.heap.size, 2, none⟩ = some (.int .i64 c) := by rw [hc3_0, hc2_0, hc1_0]; go_simp
            have d3 : w3.cell? ⟨w.heap.size, 3, none⟩ = some (.slice a xs.length cap) := by rw [hc3_0, hc2_0, hc1_0]; go_simp
            have B3 : Below w.heap.size w w3 := by (repeat (first | exact Below.refl _ _ | refine Below.drew ?_ | refine below_drewN ?_ _ | refine Below.setCell ?_ (by first | omega | (simp; done) | (simp; omega)) _ | refine Below.alloc ?_ (by first | omega | (simp; done) | (simp; omega)) _ | refine bchain ?_ (by assumption) (by first | omega | (simp; done) | (simp; omega))))
            clear hc1_0 hc2_0 hc3_0 hb1 hb2 hb3
            go_loopg [10] l (fun k v10 wr => ∃ j : Nat, v10 = .int .i64 (j : Int) ∧ j ≤ k ∧ j ≤ l ∧ Hid (dnI xs (m - T) l = dnI xs (m - T) j) ∧ w.heap.size < wr.heap.size ∧ (wr.cell? ⟨w.heap.size, 0, none⟩ = some (.int .i64 f) ∧ wr.cell? ⟨w.heap.size, 1, none⟩ = some (.int .i64 e) ∧ wr.cell? ⟨w.heap.size, 2, none⟩ = some (.int .i64 c) ∧ wr.cell? ⟨w.heap.size, 3, none⟩ = some (.slice a xs.length cap)) ∧ Below w.heap.size w wr)
            case atStart => exact ⟨l, rfl, by omega, by omega, rfl, by omega, ⟨d0, d1, d2, d3⟩, B3⟩
            case round =>
              clear d0 d1 d2 d3 B3
              obtain ⟨j, rfl, j1, j2, hd, hz1, ⟨d0, d1, d2, d3⟩, hbel⟩ := hrel
              rcases j with _ | i
              · have hp := Lib.hid (hfin.out 0 (by omega) hd.out _ rfl)
                rw [hz.out, Int.add_zero] at hp
                go_wp2_with (first | (go_at_call_of 32 (Value.int .i64 0); refine (h0.out _ (h.below (by (repeat (first | exact Below.refl _ _ | refine Below.drew ?_ | refine below_drewN ?_ _ | refine Below.setCell ?_ (by first | omega | (simp; done) | (simp; omega)) _ | refine Below.alloc ?_ (by first | omega | (simp; done) | (simp; omega)) _ | refine bchain ?_ (by assumption) (by first | omega | (simp; done) | (simp; omega))))))).mono ?_; rintro e w4 ⟨rfl, hb4⟩; have hs4 := hb4.size; (try simp only [World.size_alloc, World.size_drew, World.size_setCell] at hs4); (try (have hl4_0 : w.heap.size < w4.heap.size := (by first | omega | (simp; done) | (simp; omega)))); (try (have hc4_0 := fun o => (bcell hb4).1 (w.heap.size) o (by first | omega | (simp; done) | (simp; omega))))) | go_in)
                (((try simp only [Exit.inBlock, Exit.then]); refine bodyPost_ret (results_tmp3 rfl _ _ _) rfl ?_))
                exact hit_at hp.out (by (repeat (first | exact Below.refl _ _ | refine Below.drew ?_ | refine below_drewN ?_ _ | refine Below.setCell ?_ (by first | omega | (simp; done) | (simp; omega)) _ | refine Below.alloc ?_ (by first | omega | (simp; done) | (simp; omega)) _ | refine bchain ?_ (by assumption) (by first | omega | (simp; done) | (simp; omega)))))
              · have hbi : ∀ v, Rd v a xs → Calls Try.prog 32 #[.agg #[.int .i64 f, .int .i64 e, .int .i64 c, .slice a xs.length cap], .int .i64 u, .int .i64 ((i : Int) + 1)] v fun r w' => r = .returned (.int .i64 (T + xs.getD (i + 1) 0)) ∧ Below v.heap.size v w' := fun v hv => hbt.out (i + 1) (by omega) v hv
                have hbi := Lib.hid hbi
                have hyb := hD.out (i + 1) (by omega)
                by_cases k3 : T + xs.getD (i + 1) 0 ≤ m
                · have hd2 : dnI xs (m - T) l = i + 1 := by
                    rw [hd.out]; unfold dnI; rw [if_pos (by omega)]
                  have hp := Lib.hid (hfin.out (i + 1) (by omega) hd2 _ rfl)
                  clear hd2
                  generalize xs.getD (i + 1) 0 = y at *
                  go_wp2_with (first | (go_at_call 32; refine (hbi.out _ (h.below (by (repeat (first | exact Below.refl _ _ | refine Below.drew ?_ | refine below_drewN ?_ _ | refine Below.setCell ?_ (by first | omega | (simp; done) | (simp; omega)) _ | refine Below.alloc ?_ (by first | omega | (simp; done) | (simp; omega)) _ | refine bchain ?_ (by assumption) (by first | omega | (simp; done) | (simp; omega))))))).mono ?_; rintro e w4 ⟨rfl, hb4⟩; have hs4 := hb4.size; (try simp only [World.size_alloc, World.size_drew, World.size_setCell] at hs4); (try (have hl4_0 : w.heap.size < w4.heap.size := (by first | omega | (simp; done) | (simp; omega)))); (try (have hc4_0 := fun o => (bcell hb4).1 (w.heap.size) o (by first | omega | (simp; done) | (simp; omega))))) | go_in)
                  (((try simp only [Exit.inBlock, Exit.then]); refine bodyPost_ret (results_tmp3 rfl _ _ _) rfl ?_))
                  exact hit_at hp.out (by (repeat (first | exact Below.refl _ _ | refine Below.drew ?_ | refine below_drewN ?_ _ | refine Below.setCell ?_ (by first | omega | (simp; done) | (simp; omega)) _ | refine Below.alloc ?_ (by first | omega | (simp; done) | (simp; omega)) _ | refine bchain ?_ (by assumption) (by first | omega | (simp; done) | (simp; omega)))))
                · have hd2 : Hid (dnI xs (m - T) l = dnI xs (m - T) i) := by
                    unfold Hid; rw [hd.out]; conv => lhs; unfold dnI
                    rw [if_neg (by omega)]
                  generalize xs.getD (i + 1) 0 = y at *
                  go_wp2_with (first | (go_at_call 32; refine (hbi.out _ (h.below (by (repeat (first | exact Below.refl _ _ | refine Below.drew ?_ | refine below_drewN ?_ _ | refine Below.setCell ?_ (by first | omega | (simp; done) | (simp; omega)) _ | refine Below.alloc ?_ (by first | omega | (simp; done) | (simp; omega)) _ | refine bchain ?_ (by assumption) (by first | omega | (simp; done) | (simp; omega))))))).mono ?_; rintro e w4 ⟨rfl, hb4⟩; have hs4 := hb4.size; (try simp only [World.size_alloc, World.size_drew, World.size_setCell] at hs4); (try (have hl4_0 : w.heap.size < w4.heap.size := (by first | omega | (simp; done) | (simp; omega)))); (try (have hc4_0 := fun o => (bcell hb4).1 (w.heap.size) o (by first | omega | (simp; done) | (simp; omega))))) | go_in)
                  go_roundg (gk - 1)
                  case rel => exact ⟨i, by go_num, by omega, by omega, hd2, by omega, ⟨by rw [hc4_0]; exact d0, by rw [hc4_0]; exact d1, by rw [hc4_0]; exact d2, by rw [hc4_0]; exact d3⟩, by (repeat (first | exact Below.refl _ _ | refine Below.drew ?_ | refine below_drewN ?_ _ | refine Below.setCell ?_ (by first | omega | (simp; done) | (simp; omega)) _ | refine Below.alloc ?_ (by first | omega | (simp; done) | (simp; omega)) _ | refine bchain ?_ (by assumption) (by first | omega | (simp; done) | (simp; omega))))⟩
                  case measure => omega
theorem specWhereIsBus (f e c : Int) (a : Option Addr) (cap : Nat) (xs : List Int) (u m : Int) (w : World) (h : Rd w a xs) (hx : xs.length ≤ 1048576) :
    Calls Try.prog 17 #[.agg #[.int .i64 f, .int .i64 e, .int .i64 c, .slice a xs.length cap], .int .i64 u, .int .i64 m] w fun r w' => r = .returned (.tuple #[.int .i64 (ifI (whK f e c xs u m) (whS f e xs u m : Int)), .bool (whK f e c xs u m && whE f e xs u m), .bool (whK f e c xs u m)]) ∧ Below w.heap.size w w' :=
  specWhere0 f e c a cap xs u m w h hx
theorem implWhereIsBus (f e c : Int) (a : Option Addr) (cap : Nat) (xs : List Int) (u m : Int) (w : World) (h : Rd w a xs) (hx : xs.length ≤ 1048576) :
    Calls Try.prog 18 #[.agg #[.int .i64 f, .int .i64 e, .int .i64 c, .slice a xs.length cap], .int .i64 u, .int .i64 m] w fun r w' => r = .returned (.tuple #[.int .i64 (ifI (whK f e c xs u m) (whS f e xs u m : Int)), .bool (whK f e c xs u m && whE f e xs u m), .bool (whK f e c xs u m)]) ∧ Below w.heap.size w w' :=
  implWhere0 f e c a cap xs u m w h hx
end Go.Proofs.Ytjcapaoafkgkaaa
