/- Contracts of chapter 7's plain functions on lines (three numbers and a list of stops), over one translation. -/
import Derived.Test.YtjcapaoafkgkaaaDoorProg
import Derived.Test.YtjcapaoafkgkaaaDoorBusMath
import Derived.Test.YtjcapaoafkgkaaaDoorTwoWalks
import Derived.Test.YtjcapaoafkgkaaaDoorSlices
import Derived.WalkKit
import Derived.WalkSpells
import Derived.WalkLawsBesides
import Derived.Lib.Hide
import Derived.Deep.RegionWith
import Derived.Deep.RegionHeld3
import Derived.Deep.QuietTactic
import Derived.BigQuiet
namespace Go.Proofs.YtjcapaoafkgkaaaDoor
open Go.RowKit
set_option linter.unusedVariables false
set_option linter.unusedSimpArgs false
theorem Rd.cellAt {w : World} {b off : Nat} {xs : List Int} (hc : ∀ i, i < xs.length → w.cell? ⟨b, off + i, none⟩ = some (.int .i64 (xs.getD i 0))) {wr : World} (hlt : b < w.heap.size) (hb : Below w.heap.size w wr) {i : Nat} (hi : i < xs.length) : wr.cell? ⟨b, off + i, none⟩ = some (.int .i64 (xs.getD i 0)) := by
  rw [(bcell hb).1 b _ hlt]; exact hc i hi
theorem Own.setLow {w : World} {base : Nat} {a : Option Addr} {cap : Nat} {xs : List Int} (h : Own w base a cap xs) (p : Addr) (v : Value) (hp : p.block < base) : Own (w.setCell p v) base a cap xs := by
  obtain ⟨hl, h⟩ := h
  refine ⟨hl, ?_⟩
  rcases h with h | ⟨g, c, cur, e, h1, h2, h3⟩
  · exact .inl h
  · refine .inr ⟨g, c, cur, e, h1, ?_, h3⟩
    unfold World.setCell
    simp only [Array.getElem?_modify]
    rw [if_neg (by omega)]; exact h2
theorem Own.low {w : World} {base base' : Nat} {a : Option Addr} {cap : Nat} {xs : List Int} (h : Own w base a cap xs) (hb : base' ≤ base) : Own w base' a cap xs := by
  obtain ⟨hl, h⟩ := h
  refine ⟨hl, ?_⟩
  rcases h with h | ⟨g, c, cur, e, h1, h2⟩
  · exact .inl h
  · exact .inr ⟨g, c, cur, e, Nat.le_trans hb h1, h2⟩
set_option maxHeartbeats 2000000 in
theorem szIntS_ok (a : Option Addr) (n cap : Nat) (h : n ≤ 1048576) (w : World) :
    Calls Tryd.prog 14 #[.slice a n cap, .int .i64 1048576] w fun e w' => e = .returned (.int .i64 (1048576 - (n : Int))) ∧ w = w' := by
  have h0 : ¬ (1048576 - (n : Int) < 0) := by omega
  go_enter Tryd.func14, Tryd.ntmps14
  go_wp2
  go_ret
  exact ⟨rfl, rfl⟩
set_option maxHeartbeats 2000000 in
theorem szIntS_big (a : Option Addr) (n cap : Nat) (h : 1048576 < n) (hm : n ≤ 9223372036854775807) (w : World) :
    Calls Tryd.prog 14 #[.slice a n cap, .int .i64 1048576] w fun e w' => e = .returned (.int .i64 (-1)) ∧ w = w' := by
  have h0 : 1048576 - (n : Int) < 0 := by omega
  go_enter Tryd.func14, Tryd.ntmps14
  go_wp2
  go_ret
  exact ⟨rfl, rfl⟩
set_option maxHeartbeats 2000000 in
theorem szLine_ok (f e c : Int) (a : Option Addr) (n cap : Nat) (h : n ≤ 1048576) (w : World) :
    Calls Tryd.prog 5 #[.agg #[.int .i64 f, .int .i64 e, .int .i64 c, .slice a n cap], .int .i64 1048576] w fun e w' => e = .returned (.int .i64 (1048576 - (n : Int))) ∧ Below w.heap.size w w' := by
  have h0 : ¬ (1048576 - (n : Int) < 0) := by omega
  go_enter Tryd.func5, Tryd.ntmps5
  go_wp2_with (first | (go_at_call 14; refine (szIntS_ok a n cap h _).mono ?_; rintro e w1 ⟨rfl, rfl⟩) | go_in)
  go_ret
  exact ⟨rfl, by (repeat (first | exact Below.refl _ _ | refine Below.drew ?_ | refine below_drewN ?_ _ | refine Below.setCell ?_ (by first | omega | (simp; done) | (simp; omega)) _ | refine Below.alloc ?_ (by first | omega | (simp; done) | (simp; omega)) _ | refine bchain ?_ (by assumption) (by first | omega | (simp; done) | (simp; omega))))⟩
set_option maxHeartbeats 2000000 in
theorem szLine_big (f e c : Int) (a : Option Addr) (n cap : Nat) (h : 1048576 < n) (hm : n ≤ 9223372036854775807) (w : World) :
    Calls Tryd.prog 5 #[.agg #[.int .i64 f, .int .i64 e, .int .i64 c, .slice a n cap], .int .i64 1048576] w fun e w' => e = .returned (.int .i64 (-1)) ∧ Below w.heap.size w w' := by
  go_enter Tryd.func5, Tryd.ntmps5
  go_wp2_with (first | (go_at_call 14; refine (szIntS_big a n cap h hm _).mono ?_; rintro e w1 ⟨rfl, rfl⟩) | go_in)
  go_ret
  exact ⟨rfl, by (repeat (first | exact Below.refl _ _ | refine Below.drew ?_ | refine below_drewN ?_ _ | refine Below.setCell ?_ (by first | omega | (simp; done) | (simp; omega)) _ | refine Below.alloc ?_ (by first | omega | (simp; done) | (simp; omega)) _ | refine bchain ?_ (by assumption) (by first | omega | (simp; done) | (simp; omega))))⟩
set_option maxHeartbeats 4000000 in
theorem toLine_any (f e c : Int) (a : Option Addr) (cap : Nat) (xs : List Int) (w : World) (h : Rd w a xs) (hx : xs.length ≤ 1048576) :
    Calls Tryd.prog 7 #[.agg #[.int .i64 f, .int .i64 e, .int .i64 c, .slice a xs.length cap]] w fun e1 w' => ∃ a', e1 = .returned (.agg #[.int .i64 f, .int .i64 e, .int .i64 c, .slice a' xs.length xs.length]) ∧ Own w' w.heap.size a' xs.length xs ∧ Below w.heap.size w w' := by
  go_enter Tryd.func7, Tryd.ntmps7
  go_wp2_with fail
  generalize hw3 : World.alloc (World.alloc (World.alloc w _) _) _ = w3
  have B3 : Below w.heap.size w w3 := by subst hw3; (repeat (first | exact Below.refl _ _ | refine Below.drew ?_ | refine below_drewN ?_ _ | refine Below.setCell ?_ (by first | omega | (simp; done) | (simp; omega)) _ | refine Below.alloc ?_ (by first | omega | (simp; done) | (simp; omega)) _ | refine bchain ?_ (by assumption) (by first | omega | (simp; done) | (simp; omega))))
  have hz3 : w3.heap.size = w.heap.size + 3 := by subst hw3; simp
  have c10 : w3.cell? ⟨w.heap.size + 1, 0, none⟩ = some (.int .i64 0) := by subst hw3; go_simp
  have c11 : w3.cell? ⟨w.heap.size + 1, 1, none⟩ = some (.int .i64 0) := by subst hw3; go_simp
  have c12 : w3.cell? ⟨w.heap.size + 1, 2, none⟩ = some (.int .i64 0) := by subst hw3; go_simp
  have c13 : w3.cell? ⟨w.heap.size + 1, 3, none⟩ = some (.slice none 0 0) := by subst hw3; go_simp
  have c20 : w3.cell? ⟨w.heap.size + 1 + 1, 0, none⟩ = some (.int .i64 f) := by subst hw3; go_simp
  have c21 : w3.cell? ⟨w.heap.size + 1 + 1, 1, none⟩ = some (.int .i64 e) := by subst hw3; go_simp
  have c22 : w3.cell? ⟨w.heap.size + 1 + 1, 2, none⟩ = some (.int .i64 c) := by subst hw3; go_simp
  have c23 : w3.cell? ⟨w.heap.size + 1 + 1, 3, none⟩ = some (.slice none 0 0) := by subst hw3; go_simp
  have f1 : ∀ o, w3.frozen? ⟨w.heap.size + 1, o, none⟩ = false := by intro o; subst hw3; go_simp
  have f2 : ∀ o, w3.frozen? ⟨w.heap.size + 1 + 1, o, none⟩ = false := by intro o; subst hw3; go_simp
  clear hw3
  refine (toIntS_any a cap xs _ (h.below B3) hx).mono ?_; rintro e1 w4 ⟨rfl, hO, hb4⟩
  have hz4 := hb4.size
  have d1 : ∀ o, w4.cell? ⟨w.heap.size + 1, o, none⟩ = w3.cell? ⟨w.heap.size + 1, o, none⟩ := fun o => (bcell hb4).1 _ o (by omega)
  have d2 : ∀ o, w4.cell? ⟨w.heap.size + 1 + 1, o, none⟩ = w3.cell? ⟨w.heap.size + 1 + 1, o, none⟩ := fun o => (bcell hb4).1 _ o (by omega)
  have g1 : ∀ o, w4.frozen? ⟨w.heap.size + 1, o, none⟩ = false := fun o => by rw [(bcell hb4).2 _ o (by omega)]; exact f1 o
  have g2 : ∀ o, w4.frozen? ⟨w.heap.size + 1 + 1, o, none⟩ = false := fun o => by rw [(bcell hb4).2 _ o (by omega)]; exact f2 o
  rw [hz3] at hO
  have B4 : Below w.heap.size w w4 := B3.trans (hb4.mono (by omega))
  rw [hz3]
  go_wp2_with fail
  have e10 : w4.cell? ⟨w.heap.size + 1, 0, none⟩ = some (.int .i64 0) := by rw [d1]; exact c10
  have e11 : w4.cell? ⟨w.heap.size + 1, 1, none⟩ = some (.int .i64 0) := by rw [d1]; exact c11
  have e12 : w4.cell? ⟨w.heap.size + 1, 2, none⟩ = some (.int .i64 0) := by rw [d1]; exact c12
  have e13 : w4.cell? ⟨w.heap.size + 1, 3, none⟩ = some (.slice none 0 0) := by rw [d1]; exact c13
  refine bodyPost_ret (v := .agg #[.int .i64 f, .int .i64 e, .int .i64 c, .slice (some ⟨w.heap.size + 3, 0, none⟩) xs.length xs.length]) (by simp [results, Tryd.results7, go_sem, e10, e11, e12, e13]) rfl ⟨_, rfl, ?_, ?_⟩
  · exact (((((hO.setLow _ _ (by simp)).setLow _ _ (by simp)).setLow _ _ (by simp)).setLow _ _ (by simp)).setLow _ _ (by simp)).low (by omega)
  · exact ((((B4.setCell (by simp; omega) _).setCell (by simp) _).setCell (by simp) _).setCell (by simp) _).setCell (by simp) _
set_option maxHeartbeats 2000000 in
theorem eqLine_eq (f e c : Int) (a a2 : Option Addr) (cap cap2 : Nat) (xs : List Int) (w : World) (h : Rd w a xs) (g : Rd w a2 xs) (hx : xs.length ≤ 4611686018427387904) :
    Calls Tryd.prog 9 #[.agg #[.int .i64 f, .int .i64 e, .int .i64 c, .slice a xs.length cap], .agg #[.int .i64 f, .int .i64 e, .int .i64 c, .slice a2 xs.length cap2]] w fun e w' => e = .returned (.bool true) ∧ Below w.heap.size w w' := by
  go_enter Tryd.func9, Tryd.ntmps9
  go_wp2_with (first | (go_at_call 21; refine (eqIntS_eq a a2 cap cap2 xs _ (h.below (by (repeat (first | exact Below.refl _ _ | refine Below.drew ?_ | refine below_drewN ?_ _ | refine Below.setCell ?_ (by first | omega | (simp; done) | (simp; omega)) _ | refine Below.alloc ?_ (by first | omega | (simp; done) | (simp; omega)) _ | refine bchain ?_ (by assumption) (by first | omega | (simp; done) | (simp; omega)))))) (g.below (by (repeat (first | exact Below.refl _ _ | refine Below.drew ?_ | refine below_drewN ?_ _ | refine Below.setCell ?_ (by first | omega | (simp; done) | (simp; omega)) _ | refine Below.alloc ?_ (by first | omega | (simp; done) | (simp; omega)) _ | refine bchain ?_ (by assumption) (by first | omega | (simp; done) | (simp; omega)))))) hx).mono ?_; rintro e w1 ⟨rfl, hb1⟩; have hs1 := hb1.size; (try simp only [World.size_alloc, World.size_drew, World.size_setCell] at hs1)) | go_in)
  go_ret
  exact ⟨rfl, by (repeat (first | exact Below.refl _ _ | refine Below.drew ?_ | refine below_drewN ?_ _ | refine Below.setCell ?_ (by first | omega | (simp; done) | (simp; omega)) _ | refine Below.alloc ?_ (by first | omega | (simp; done) | (simp; omega)) _ | refine bchain ?_ (by assumption) (by first | omega | (simp; done) | (simp; omega))))⟩
set_option maxHeartbeats 2000000 in
theorem l1Rising_any (a : Option Addr) (cap : Nat) (xs : List Int) (lo hi : Int) (w : World) (h : Rd w a xs) (hx : xs.length ≤ 1048576) :
    Calls Tryd.prog 28 #[.slice a xs.length cap, .int .i64 lo, .int .i64 hi] w fun e w' => e = .returned (.bool (rsK xs lo hi xs.length)) ∧ Below w.heap.size w w' := by
  go_enter Tryd.func28, Tryd.ntmps28
  go_wp2
  go_loopg [11] xs.length (fun k v11 wr => ∃ (j : Nat), v11 = .int .i64 (j : Int) ∧ j + k ≤ xs.length ∧ xs.length ≤ j + k ∧ Hid (rsK xs lo hi j = true) ∧ Below w.heap.size w wr)
  case atStart => exact ⟨0, rfl, by omega, by omega, rfl, Below.refl _ _⟩
  case round =>
    obtain ⟨j, rfl, h1, h2, hr, hbel⟩ := hrel
    by_cases hj : j < xs.length
    · rcases h with h | ⟨b, off, rfl, hlt, hc⟩
      · rw [h] at hj; exact absurd hj (Nat.not_lt_zero _)
      · have hjI : (j : Int) < (xs.length : Int) := by omega
        have hcj := Rd.cellAt hc hlt hbel hj
        cases hin : inB (xs.getD j 0) lo hi
        · have hpost : Hid (rsK xs lo hi xs.length = false) := rsK_false hj (by simp only [rsI, hin, Bool.false_and])
          have HB := Lib.hid hbel
          clear hbel hc
          generalize xs.getD j 0 = x at *
          go_wp2_with (first | (go_at_call 27; refine (specIn x lo hi _).mono ?_; rw [hin]; rintro e w1 ⟨rfl, rfl⟩) | go_in)
          go_ret
          exact ⟨rB hpost.out.symm, HB.out⟩
        · rcases j with _ | i
          · have hpost : Hid (rsK xs lo hi (0 + 1) = true) := by unfold Hid; rw [rsK_succ, hr.out]; simp only [rsI, hin, decide_true, Bool.true_or, Bool.and_self]
            have HB := Lib.hid hbel
            have hcj0 : wr.cell? ⟨b, off, none⟩ = some (.int .i64 (xs.getD 0 0)) := hcj
            clear hbel hc
            generalize xs.getD 0 0 = x at *
            go_wp2_with (first | (go_at_call 27; refine (specIn x lo hi _).mono ?_; rw [hin]; rintro e w1 ⟨rfl, rfl⟩) | go_in)
            go_roundg (gk - 1)
            case rel => exact ⟨1, rfl, by omega, by omega, hpost, HB.out⟩
            case measure => omega
          · have hci := Rd.cellAt hc hlt hbel (i := i) (by omega)
            by_cases hup : xs.getD i 0 < xs.getD (i + 1) 0
            · have hpost : Hid (rsK xs lo hi (i + 1 + 1) = true) := by unfold Hid; rw [rsK_succ, hr.out]; simp only [rsI, hin, Nat.add_sub_cancel, hup, decide_true, Bool.or_true, Bool.and_self]
              have HB := Lib.hid hbel
              clear hbel hc
              generalize xs.getD (i + 1) 0 = x at *
              generalize xs.getD i 0 = y at *
              go_wp2_with (first | (go_at_call 27; refine (specIn x lo hi _).mono ?_; rw [hin]; rintro e w1 ⟨rfl, rfl⟩) | go_in)
              go_roundg (gk - 1)
              case rel => exact ⟨i + 1 + 1, by go_num, by omega, by omega, hpost, HB.out⟩
              case measure => omega
            · have hpost : Hid (rsK xs lo hi xs.length = false) := rsK_false hj (by simp only [rsI, Nat.add_sub_cancel, hup, decide_false, Bool.or_false]; rw [decide_eq_false (by omega)]; simp)
              have HB := Lib.hid hbel
              clear hbel hc
              generalize xs.getD (i + 1) 0 = x at *
              generalize xs.getD i 0 = y at *
              go_wp2_with (first | (go_at_call 27; refine (specIn x lo hi _).mono ?_; rw [hin]; rintro e w1 ⟨rfl, rfl⟩) | go_in)
              go_ret
              exact ⟨rB hpost.out.symm, HB.out⟩
    · have e : j = xs.length := by omega
      subst e
      have HB := Lib.hid hbel
      clear hbel
      go_wp2
      go_ret
      exact ⟨rB hr.out.symm, HB.out⟩
set_option maxHeartbeats 2000000 in
theorem areStops_any (a : Option Addr) (cap : Nat) (xs : List Int) (w : World) (h : Rd w a xs) (hx : xs.length ≤ 1048576) :
    Calls Tryd.prog 32 #[.slice a xs.length cap] w fun e w' => e = .returned (.bool (stP xs)) ∧ Below w.heap.size w w' := by
  cases hn : inB (xs.length : Int) 2 12
  · have hpost : Hid (stP xs = false) := by unfold Hid stP; simp only [hn, Bool.false_and]
    go_enter Tryd.func32, Tryd.ntmps32
    go_wp2_with (first | (go_at_call 31; refine (implIn _ _ _ _).mono ?_; rw [hn]; rintro e w1 ⟨rfl, rfl⟩) | go_in)
    go_ret
    exact ⟨rB hpost.out.symm, Below.refl _ _⟩
  · have hn2 := inB_iff.1 hn
    rcases h with h | ⟨b, off, rfl, hlt, hc⟩
    · rw [h] at hn2; simp at hn2
    have c0 := hc 0 (by omega)
    have c0' : w.cell? ⟨b, off, none⟩ = some (.int .i64 (xs.getD 0 0)) := c0
    obtain ⟨m, hm⟩ : ∃ m, xs.length = m + 1 := ⟨xs.length - 1, by omega⟩
    have cl := hc m (by omega)
    have hlast : xs.length - 1 = m := by omega
    have i0 : (0 : Int) < (xs.length : Int) := by omega
    have hlI : (xs.length : Int) - 1 = (m : Int) := by omega
    have hmI : (m : Int) < (xs.length : Int) := by omega
    clear hm
    obtain ⟨x0, hx0⟩ : ∃ x, Hid (xs.getD 0 0 = x) := ⟨_, rfl⟩
    obtain ⟨xm, hxm⟩ : ∃ x, Hid (xs.getD m 0 = x) := ⟨_, rfl⟩
    rw [hx0.out] at c0 c0'
    rw [hxm.out] at cl
    have HS : Hid (stP xs = (decide (x0 = 0) && decide (xm ≤ 500) && upK xs xs.length)) := by unfold Hid stP; rw [hlast, hx0.out, hxm.out, hn, Bool.true_and]
    have HC := Lib.hid hc
    clear hc hlast
    by_cases h0 : x0 = 0
    · by_cases h5 : xm ≤ 500
      · have hH : Hid (∀ b, upK xs xs.length = b → stP xs = b) := fun b hb => by rw [HS.out, h0, hb]; simp [h5]
        go_enter Tryd.func32, Tryd.ntmps32
        subst h0
        go_wp2_with (first | (go_at_call 31; refine (implIn _ _ _ _).mono ?_; rw [hn]; rintro e w1 ⟨rfl, rfl⟩) | go_in)
        clear c0 c0' cl
        go_loopg [3] (xs.length - 1) (fun k v3 wr => ∃ (j : Nat), v3 = .int .i64 (j : Int) ∧ 1 ≤ j ∧ j + k ≤ xs.length ∧ xs.length ≤ j + k ∧ Hid (upK xs j = true) ∧ Below w.heap.size w wr)
        case atStart => exact ⟨1, rfl, by omega, by omega, by omega, upK_one xs, Below.refl _ _⟩
        case round =>
          obtain ⟨j, rfl, j1, h1, h2, hr, hbel⟩ := hrel
          by_cases hj : j < xs.length
          · have hjI : (j : Int) < (xs.length : Int) := by omega
            obtain ⟨i, rfl⟩ : ∃ i, j = i + 1 := ⟨j - 1, by omega⟩
            have hcj := Rd.cellAt HC.out hlt hbel hj
            have hci := Rd.cellAt HC.out hlt hbel (i := i) (by omega)
            by_cases hup : xs.getD i 0 < xs.getD (i + 1) 0
            · have hpost : Hid (upK xs (i + 1 + 1) = true) := by unfold Hid; rw [upK_succ, hr.out]; simp only [upI, Nat.add_sub_cancel, hup, decide_true, Bool.or_true, Bool.and_self]
              have HB := Lib.hid hbel
              clear hbel
              generalize xs.getD (i + 1) 0 = x at *
              generalize xs.getD i 0 = y at *
              go_wp2_with fail
              go_quiet (fail)
              go_wp2_with fail
              go_roundg (gk - 1)
              case rel => exact ⟨i + 1 + 1, by go_num, by omega, by omega, by omega, hpost, below_drewN HB.out _⟩
              case measure => omega
            · have hpost : Hid (upK xs xs.length = false) := upK_false hj (by simp only [upI, Nat.add_sub_cancel, hup, decide_false, Bool.or_false]; rw [decide_eq_false (by omega)])
              have HB := Lib.hid hbel
              clear hbel
              generalize xs.getD (i + 1) 0 = x at *
              generalize xs.getD i 0 = y at *
              go_wp2_with fail
              go_quiet (fail)
              go_wp2_with fail
              go_ret
              exact ⟨rB (hH.out _ hpost.out).symm, below_drewN HB.out _⟩
          · have e : j = xs.length := by omega
            subst e
            have HB := Lib.hid hbel
            clear hbel
            go_wp2
            go_ret
            exact ⟨rB (hH.out _ hr.out).symm, HB.out⟩
      · have hpost : Hid (stP xs = false) := by unfold Hid; rw [HS.out]; simp [h5]
        subst h0
        have h5' : (500 : Int) < xm := by omega
        go_enter Tryd.func32, Tryd.ntmps32
        go_wp2_with (first | (go_at_call 31; refine (implIn _ _ _ _).mono ?_; rw [hn]; rintro e w1 ⟨rfl, rfl⟩) | go_in)
        go_ret
        exact ⟨rB hpost.out.symm, Below.refl _ _⟩
    · have hpost : Hid (stP xs = false) := by unfold Hid; rw [HS.out]; simp [h0]
      go_enter Tryd.func32, Tryd.ntmps32
      go_wp2_with (first | (go_at_call 31; refine (implIn _ _ _ _).mono ?_; rw [hn]; rintro e w1 ⟨rfl, rfl⟩) | go_in)
      go_ret
      exact ⟨rB hpost.out.symm, Below.refl _ _⟩
set_option maxHeartbeats 4000000 in
theorem buGood_any (f e c : Int) (a : Option Addr) (cap : Nat) (xs : List Int) (w : World) (h : Rd w a xs) (hx : xs.length ≤ 1048576) :
    Calls Tryd.prog 15 #[.agg #[.int .i64 f, .int .i64 e, .int .i64 c, .slice a xs.length cap]] w fun r w' => r = .returned (.bool (lnB f e c xs)) ∧ Below w.heap.size w w' := by
  cases h1 : inB f 0 2000 <;> cases h2 : inB e 1 2000 <;> cases h3 : inB c 1 60
  case true.true.true =>
    have k1 := inB_iff.1 h1
    have k2 := inB_iff.1 h2
    have k3 := inB_iff.1 h3
    have m := mul_bd (c - 1) e 59 2000 (by omega) (by omega) (by omega) (by omega)
    by_cases h4 : f + (c - 1) * e ≤ 2000
    · cases h5 : inB (xs.length : Int) 2 12
      · have hpost : Hid (lnB f e c xs = false) := by unfold Hid lnB stB; simp only [h5, Bool.and_false, Bool.false_and]
        go_enter Tryd.func15, Tryd.ntmps15
        go_wp2_with (first | (go_at_call_of 27 (Value.int .i64 f); refine (specIn _ _ _ _).mono ?_; rw [h1]; rintro e w1 ⟨rfl, rfl⟩) | (go_at_call_of 27 (Value.int .i64 e); refine (specIn _ _ _ _).mono ?_; rw [h2]; rintro e w1 ⟨rfl, rfl⟩) | (go_at_call_of 27 (Value.int .i64 c); refine (specIn _ _ _ _).mono ?_; rw [h3]; rintro e w1 ⟨rfl, rfl⟩) | (go_at_call 27; refine (specIn _ _ _ _).mono ?_; rw [h5]; rintro e w1 ⟨rfl, rfl⟩) | go_in)
        go_ret
        exact ⟨rB hpost.out.symm, by (repeat (first | exact Below.refl _ _ | refine Below.drew ?_ | refine below_drewN ?_ _ | refine Below.setCell ?_ (by first | omega | (simp; done) | (simp; omega)) _ | refine Below.alloc ?_ (by first | omega | (simp; done) | (simp; omega)) _ | refine bchain ?_ (by assumption) (by first | omega | (simp; done) | (simp; omega))))⟩
      · have n2 := inB_iff.1 h5
        have hh := h
        rcases h with h | ⟨b, off, rfl, hlt, hc⟩
        · rw [h] at n2; simp at n2
        have b0 : Below w.heap.size w (w.alloc (.cells #[.int .i64 f, .int .i64 e, .int .i64 c, .slice (some ⟨b, off, none⟩) xs.length cap] 28)) := (Below.refl _ _).alloc (Nat.le_refl _) _
        have c0 := Rd.cellAt hc hlt b0 (i := 0) (by omega)
        have c0' : (w.alloc (.cells #[.int .i64 f, .int .i64 e, .int .i64 c, .slice (some ⟨b, off, none⟩) xs.length cap] 28)).cell? ⟨b, off, none⟩ = some (.int .i64 (xs.getD 0 0)) := c0
        have i0 : (0 : Int) < (xs.length : Int) := by omega
        clear hc
        obtain ⟨x0, hx0⟩ : ∃ x, Hid (xs.getD 0 0 = x) := ⟨_, rfl⟩
        rw [hx0.out] at c0 c0'
        have HS : Hid (lnB f e c xs = (decide (x0 = 0) && rsK xs 0 500 xs.length)) := by unfold Hid lnB stB; rw [hx0.out]; simp only [h1, h2, h3, h4, h5, decide_true, Bool.true_and, Bool.and_true]
        by_cases h0 : x0 = 0
        · subst h0
          have hh0 := hh.below b0
          go_enter Tryd.func15, Tryd.ntmps15
          go_wp2_with (first | (go_at_call_of 27 (Value.int .i64 f); refine (specIn _ _ _ _).mono ?_; rw [h1]; rintro e w1 ⟨rfl, rfl⟩) | (go_at_call_of 27 (Value.int .i64 e); refine (specIn _ _ _ _).mono ?_; rw [h2]; rintro e w1 ⟨rfl, rfl⟩) | (go_at_call_of 27 (Value.int .i64 c); refine (specIn _ _ _ _).mono ?_; rw [h3]; rintro e w1 ⟨rfl, rfl⟩) | (go_at_call 27; refine (specIn _ _ _ _).mono ?_; rw [h5]; rintro e w1 ⟨rfl, rfl⟩) | (go_at_call 28; refine (l1Rising_any _ cap xs 0 500 _ hh0 hx).mono ?_; rintro e w1 ⟨rfl, hb1⟩; have hs1 := hb1.size; (try simp only [World.size_alloc, World.size_drew, World.size_setCell] at hs1)) | go_in)
          go_ret
          exact ⟨rB (by rw [HS.out]; rfl), by (repeat (first | exact Below.refl _ _ | refine Below.drew ?_ | refine below_drewN ?_ _ | refine Below.setCell ?_ (by first | omega | (simp; done) | (simp; omega)) _ | refine Below.alloc ?_ (by first | omega | (simp; done) | (simp; omega)) _ | refine bchain ?_ (by assumption) (by first | omega | (simp; done) | (simp; omega))))⟩
        · have hpost : Hid (lnB f e c xs = false) := by unfold Hid; rw [HS.out]; simp [h0]
          go_enter Tryd.func15, Tryd.ntmps15
          go_wp2_with (first | (go_at_call_of 27 (Value.int .i64 f); refine (specIn _ _ _ _).mono ?_; rw [h1]; rintro e w1 ⟨rfl, rfl⟩) | (go_at_call_of 27 (Value.int .i64 e); refine (specIn _ _ _ _).mono ?_; rw [h2]; rintro e w1 ⟨rfl, rfl⟩) | (go_at_call_of 27 (Value.int .i64 c); refine (specIn _ _ _ _).mono ?_; rw [h3]; rintro e w1 ⟨rfl, rfl⟩) | (go_at_call 27; refine (specIn _ _ _ _).mono ?_; rw [h5]; rintro e w1 ⟨rfl, rfl⟩) | go_in)
          go_ret
          exact ⟨rB hpost.out.symm, by (repeat (first | exact Below.refl _ _ | refine Below.drew ?_ | refine below_drewN ?_ _ | refine Below.setCell ?_ (by first | omega | (simp; done) | (simp; omega)) _ | refine Below.alloc ?_ (by first | omega | (simp; done) | (simp; omega)) _ | refine bchain ?_ (by assumption) (by first | omega | (simp; done) | (simp; omega))))⟩
    · have hpost : Hid (lnB f e c xs = false) := by unfold Hid lnB; simp only [h4, decide_false, Bool.and_false, Bool.false_and]
      go_enter Tryd.func15, Tryd.ntmps15
      go_wp2_with (first | (go_at_call_of 27 (Value.int .i64 f); refine (specIn _ _ _ _).mono ?_; rw [h1]; rintro e w1 ⟨rfl, rfl⟩) | (go_at_call_of 27 (Value.int .i64 e); refine (specIn _ _ _ _).mono ?_; rw [h2]; rintro e w1 ⟨rfl, rfl⟩) | (go_at_call_of 27 (Value.int .i64 c); refine (specIn _ _ _ _).mono ?_; rw [h3]; rintro e w1 ⟨rfl, rfl⟩) | go_in)
      go_ret
      exact ⟨rB hpost.out.symm, by (repeat (first | exact Below.refl _ _ | refine Below.drew ?_ | refine below_drewN ?_ _ | refine Below.setCell ?_ (by first | omega | (simp; done) | (simp; omega)) _ | refine Below.alloc ?_ (by first | omega | (simp; done) | (simp; omega)) _ | refine bchain ?_ (by assumption) (by first | omega | (simp; done) | (simp; omega))))⟩
  all_goals
    have hpost : Hid (lnB f e c xs = false) := by unfold Hid lnB; simp only [h1, h2, h3, Bool.and_false, Bool.false_and]
    go_enter Tryd.func15, Tryd.ntmps15
    go_wp2_with (first | (go_at_call_of 27 (Value.int .i64 f); refine (specIn _ _ _ _).mono ?_; rw [h1]; rintro e w1 ⟨rfl, rfl⟩) | (go_at_call_of 27 (Value.int .i64 e); refine (specIn _ _ _ _).mono ?_; rw [h2]; rintro e w1 ⟨rfl, rfl⟩) | (go_at_call_of 27 (Value.int .i64 c); refine (specIn _ _ _ _).mono ?_; rw [h3]; rintro e w1 ⟨rfl, rfl⟩) | go_in)
    go_ret
    exact ⟨rB hpost.out.symm, by (repeat (first | exact Below.refl _ _ | refine Below.drew ?_ | refine below_drewN ?_ _ | refine Below.setCell ?_ (by first | omega | (simp; done) | (simp; omega)) _ | refine Below.alloc ?_ (by first | omega | (simp; done) | (simp; omega)) _ | refine bchain ?_ (by assumption) (by first | omega | (simp; done) | (simp; omega))))⟩
set_option maxHeartbeats 2000000 in
theorem isMinute_any (n : Int) (w : World) :
    Calls Tryd.prog 30 #[.int .i64 n] w fun e w' => e = .returned (.bool (inB n 0 2000)) ∧ w = w' := by
  go_enter Tryd.func30, Tryd.ntmps30
  go_wp2_with (first | (go_at_call 31; refine (implIn _ _ _ _).mono ?_; rintro e w1 ⟨rfl, rfl⟩) | go_in)
  go_ret
  exact ⟨rfl, rfl⟩
set_option maxHeartbeats 4000000 in
theorem implIsLine (f e c : Int) (a : Option Addr) (cap : Nat) (xs : List Int) (w : World) (h : Rd w a xs) (hx : xs.length ≤ 1048576) :
    Calls Tryd.prog 18 #[.agg #[.int .i64 f, .int .i64 e, .int .i64 c, .slice a xs.length cap]] w fun r w' => r = .returned (.bool (lnB f e c xs)) ∧ Below w.heap.size w w' := by
  cases h1 : inB f 0 2000 <;> cases h2 : inB e 1 2000 <;> cases h3 : inB c 1 60
  case true.true.true =>
    have k1 := inB_iff.1 h1
    have k2 := inB_iff.1 h2
    have k3 := inB_iff.1 h3
    have m := mul_bd (c - 1) e 59 2000 (by omega) (by omega) (by omega) (by omega)
    cases h4 : inB (f + (c - 1) * e) 0 2000
    · have k4 : ¬ (f + (c - 1) * e ≤ 2000) := fun q => by rw [inB_true ⟨by omega, q⟩] at h4; cases h4
      have hpost : Hid (lnB f e c xs = false) := by unfold Hid lnB; simp only [k4, decide_false, Bool.and_false, Bool.false_and]
      clear k4
      go_enter Tryd.func18, Tryd.ntmps18
      go_wp2_with (first | (go_at_call_of 30 (Value.int .i64 f); refine (isMinute_any f _).mono ?_; rw [h1]; rintro e w1 ⟨rfl, rfl⟩) | (go_at_call_of 31 (Value.int .i64 e); refine (implIn e 1 2000 _).mono ?_; rw [h2]; rintro e w1 ⟨rfl, rfl⟩) | (go_at_call_of 31 (Value.int .i64 c); refine (implIn c 1 60 _).mono ?_; rw [h3]; rintro e w1 ⟨rfl, rfl⟩) | (go_at_call 30; refine (isMinute_any (f + (c - 1) * e) _).mono ?_; rw [h4]; rintro e w1 ⟨rfl, rfl⟩) | go_in)
      go_ret
      exact ⟨rB hpost.out.symm, by (repeat (first | exact Below.refl _ _ | refine Below.drew ?_ | refine below_drewN ?_ _ | refine Below.setCell ?_ (by first | omega | (simp; done) | (simp; omega)) _ | refine Below.alloc ?_ (by first | omega | (simp; done) | (simp; omega)) _ | refine bchain ?_ (by assumption) (by first | omega | (simp; done) | (simp; omega))))⟩
    · have k4 : f + (c - 1) * e ≤ 2000 := (inB_iff.1 h4).2
      have hpost : Hid (lnB f e c xs = stP xs) := by unfold Hid lnB; rw [st_eq]; simp only [h1, h2, h3, k4, decide_true, Bool.true_and, Bool.and_true]
      go_enter Tryd.func18, Tryd.ntmps18
      go_wp2_with (first | (go_at_call_of 30 (Value.int .i64 f); refine (isMinute_any f _).mono ?_; rw [h1]; rintro e w1 ⟨rfl, rfl⟩) | (go_at_call_of 31 (Value.int .i64 e); refine (implIn e 1 2000 _).mono ?_; rw [h2]; rintro e w1 ⟨rfl, rfl⟩) | (go_at_call_of 31 (Value.int .i64 c); refine (implIn c 1 60 _).mono ?_; rw [h3]; rintro e w1 ⟨rfl, rfl⟩) | (go_at_call 30; refine (isMinute_any (f + (c - 1) * e) _).mono ?_; rw [h4]; rintro e w1 ⟨rfl, rfl⟩) | (go_at_call 32; refine (areStops_any a cap xs _ (h.below (by (repeat (first | exact Below.refl _ _ | refine Below.drew ?_ | refine below_drewN ?_ _ | refine Below.setCell ?_ (by first | omega | (simp; done) | (simp; omega)) _ | refine Below.alloc ?_ (by first | omega | (simp; done) | (simp; omega)) _ | refine bchain ?_ (by assumption) (by first | omega | (simp; done) | (simp; omega)))))) hx).mono ?_; rintro e w1 ⟨rfl, hb1⟩; have hs1 := hb1.size; (try simp only [World.size_alloc, World.size_drew, World.size_setCell] at hs1)) | go_in)
      go_ret
      exact ⟨rB hpost.out.symm, by (repeat (first | exact Below.refl _ _ | refine Below.drew ?_ | refine below_drewN ?_ _ | refine Below.setCell ?_ (by first | omega | (simp; done) | (simp; omega)) _ | refine Below.alloc ?_ (by first | omega | (simp; done) | (simp; omega)) _ | refine bchain ?_ (by assumption) (by first | omega | (simp; done) | (simp; omega))))⟩
  all_goals
    have hpost : Hid (lnB f e c xs = false) := by unfold Hid lnB; simp only [h1, h2, h3, Bool.and_false, Bool.false_and]
    go_enter Tryd.func18, Tryd.ntmps18
    go_wp2_with (first | (go_at_call_of 30 (Value.int .i64 f); refine (isMinute_any f _).mono ?_; rw [h1]; rintro e w1 ⟨rfl, rfl⟩) | (go_at_call_of 31 (Value.int .i64 e); refine (implIn e 1 2000 _).mono ?_; rw [h2]; rintro e w1 ⟨rfl, rfl⟩) | (go_at_call_of 31 (Value.int .i64 c); refine (implIn c 1 60 _).mono ?_; rw [h3]; rintro e w1 ⟨rfl, rfl⟩) | go_in)
    go_ret
    exact ⟨rB hpost.out.symm, by (repeat (first | exact Below.refl _ _ | refine Below.drew ?_ | refine below_drewN ?_ _ | refine Below.setCell ?_ (by first | omega | (simp; done) | (simp; omega)) _ | refine Below.alloc ?_ (by first | omega | (simp; done) | (simp; omega)) _ | refine bchain ?_ (by assumption) (by first | omega | (simp; done) | (simp; omega))))⟩
end Go.Proofs.YtjcapaoafkgkaaaDoor
