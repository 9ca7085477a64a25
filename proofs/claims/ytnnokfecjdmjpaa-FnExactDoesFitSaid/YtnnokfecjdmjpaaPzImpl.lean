/- Puzzles (chapter 9): the program's functions on riddles by contracts. -/
import Derived.Test.YtnnokfecjdmjpaaPzSpec3
import Derived.Test.YtnnokfecjdmjpaaPzApp
import Derived.WalkKit
import Derived.WalkSpells
import Derived.WalkLawsBesides
import Derived.Lib.Hide
import Derived.Lib.SliceRun
import Derived.Deep.LoopGhost
import Derived.Deep.QuietTactic
import Derived.Deep.RegionWith
import Derived.Deep.RegionLaw
import Derived.Deep.RegionHeld3
import Derived.BigQuiet
namespace Go.Proofs.Ytnnokfecjdmjpaa
open Go.RowKit
set_option linter.unusedVariables false
set_option linter.unusedSimpArgs false
set_option maxHeartbeats 4000000 in
set_option maxRecDepth 100000 in
theorem fits_any (a : Option Addr) (cap : Nat) (xs : List (Int × Int × Int)) (u d : Int) (w : World) (h : RdT w a xs) (hn : xs.length ≤ 1048576) (hcl : clA xs = true) (hh : hdB u d = true) :
    Calls Try.prog 68 #[.slice a xs.length cap, .agg #[.int .i64 u, .int .i64 d]] w fun e w' => e = .returned (.bool (fiA xs u d)) ∧ Below w.heap.size w w' := by
  have HK := Lib.hid (fun i (hi : i < xs.length) => clB_ka (clA_at hcl hi))
  have HF := Lib.hid (fiN_all xs u d)
  have HFT := Lib.hid (show ∀ (hx : ∀ i, i < xs.length → pzV (tk xs i) (ta xs i) u d = tb xs i), fiA xs u d = true from fun hx => fiA_of hx)
  have HFN := Lib.hid (fun i (hi : i < xs.length) (hx : ¬ pzV (tk xs i) (ta xs i) u d = tb xs i) => fiA_no hi hx)
  generalize fiA xs u d = R at *
  have HH := Lib.hid hh
  have HX0 := Lib.hid (Bx2.new w u d 43)
  have HB0 := Lib.hid (show Below w.heap.size w (w.alloc (.cells #[.int .i64 u, .int .i64 d] 43)) from (Below.refl _ _).alloc (Nat.le_refl _) _)
  clear hcl hh
  go_enter Try.func68, Try.ntmps68
  go_wp2_with fail
  obtain ⟨V, hV⟩ : ∃ V, V = w.heap.size := ⟨_, rfl⟩
  rw [← hV] at HX0 ⊢
  generalize w.alloc (.cells #[.int .i64 u, .int .i64 d] 43) = W1 at *
  clear hV
  go_loopg [9] xs.length (fun k v9 wr => ∃ (j : Nat), v9 = .int .i64 (j : Int) ∧ j + k = xs.length ∧ Hid (∀ i, i < j → pzV (tk xs i) (ta xs i) u d = tb xs i) ∧ Bx2 wr V u d ∧ Below w.heap.size w wr)
  case atStart => exact ⟨0, rfl, by omega, fun i hi => absurd hi (Nat.not_lt_zero _), HX0.out, HB0.out⟩
  case round =>
    obtain ⟨j, rfl, q1, hall, hx, hbel⟩ := hrel
    have hsz := hbel.size
    by_cases hj : j < xs.length
    · have hjI : (j : Int) < (xs.length : Int) := by omega
      rcases h.below hbel with h' | ⟨b, off, rfl, hlt, hc⟩
      · rw [h'] at hj; exact absurd hj (Nat.not_lt_zero _)
      · obtain ⟨c0, c1, c2⟩ := hc j hj
        have HFC := Lib.hid (fun w => fittingClue_any (tk xs j) (ta xs j) u d (HK.out j hj) HH.out w)
        have HNo := Lib.hid (HFN.out j hj)
        have Hall := Lib.hid (show ∀ (hx : pzV (tk xs j) (ta xs j) u d = tb xs j), Hid (∀ i, i < j + 1 → pzV (tk xs i) (ta xs i) u d = tb xs i) from fun hx i hi => by
          by_cases q : i = j
          · subst q; exact hx
          · exact hall.out i (by omega))
        have HX := Lib.hid hx
        obtain ⟨hVl, hx0, hx1⟩ := hx
        have HB := Lib.hid hbel
        have Q1 := Lib.hid q1
        clear hbel hc q1 hall
        by_cases hv : pzV (tk xs j) (ta xs j) u d = tb xs j
        · have HA1 := Hall.out hv
          rw [hv] at HFC
          clear hv Hall HNo
          generalize tk xs j = x at *
          generalize ta xs j = y at *
          generalize tb xs j = z at *
          go_wp2_with fail
          go_region_held3 (fun W => Below wr.heap.size wr W ∧ wr.heap.size < W.heap.size ∧ W.cell? ⟨V, 0, none⟩ = some (.int .i64 u) ∧ W.cell? ⟨V, 1, none⟩ = some (.int .i64 d) ∧ W.cell? ⟨wr.heap.size, 0, none⟩ = some (.int .i64 x) ∧ W.cell? ⟨wr.heap.size, 1, none⟩ = some (.int .i64 y) ∧ W.cell? ⟨wr.heap.size, 2, none⟩ = some (.int .i64 z))
            (refine ⟨?_, ?_, ?_, ?_, ?_, ?_, ?_⟩ <;> first | assumption | omega | (go_simp; done) | (repeat (first | assumption | exact Below.refl _ _ | refine Below.drew ?_ | refine below_drewN ?_ _ | refine Below.setCell ?_ (by first | omega | (simp; done) | (simp; omega)) _ | refine Below.alloc ?_ (by first | omega | (simp; done) | (simp; omega)) _ | refine bchain ?_ (by assumption) (by first | omega | (simp; done) | (simp; omega)))))
            (first | (go_at_call 101; refine (HFC.out _).mono ?_; rintro e w2 ⟨rfl, hb2⟩; have hz2 : wr.heap.size < w2.heap.size := (by have := hb2.size; (try simp at this); omega); have hcA := fun o => (bcell hb2).1 V o (by first | omega | (simp; done) | (simp; omega)); have hcB := fun o => (bcell hb2).1 wr.heap.size o (by first | omega | (simp; done) | (simp; omega))))
          all_goals
            rename_i hS
            go_wp2_with fail
            go_roundg (gk - 1)
            case rel => exact ⟨j + 1, by go_num, by have := Q1.out; omega, HA1, HX.out.below hS.1, HB.out.trans (hS.1.mono HB.out.size)⟩
            case measure => have := Q1.out; omega
        · have HR := Lib.hid (HNo.out hv)
          have hv' : ¬ tb xs j = pzV (tk xs j) (ta xs j) u d := fun e => hv e.symm
          have e1 : (tb xs j == pzV (tk xs j) (ta xs j) u d) = false := by rw [beq_eq_false_iff_ne]; exact hv'
          have e2 : (pzV (tk xs j) (ta xs j) u d == tb xs j) = false := by rw [beq_eq_false_iff_ne]; exact hv
          clear Hall HNo hv hv'
          generalize pzV (tk xs j) (ta xs j) u d = v at *
          generalize tk xs j = x at *
          generalize ta xs j = y at *
          generalize tb xs j = z at *
          go_wp2_with fail
          go_region_held3 (fun W => Below wr.heap.size wr W ∧ wr.heap.size < W.heap.size ∧ W.cell? ⟨V, 0, none⟩ = some (.int .i64 u) ∧ W.cell? ⟨V, 1, none⟩ = some (.int .i64 d) ∧ W.cell? ⟨wr.heap.size, 0, none⟩ = some (.int .i64 x) ∧ W.cell? ⟨wr.heap.size, 1, none⟩ = some (.int .i64 y) ∧ W.cell? ⟨wr.heap.size, 2, none⟩ = some (.int .i64 z))
            (refine ⟨?_, ?_, ?_, ?_, ?_, ?_, ?_⟩ <;> first | assumption | omega | (go_simp; done) | (repeat (first | assumption | exact Below.refl _ _ | refine Below.drew ?_ | refine below_drewN ?_ _ | refine Below.setCell ?_ (by first | omega | (simp; done) | (simp; omega)) _ | refine Below.alloc ?_ (by first | omega | (simp; done) | (simp; omega)) _ | refine bchain ?_ (by assumption) (by first | omega | (simp; done) | (simp; omega)))))
            (first | (go_at_call 101; refine (HFC.out _).mono ?_; rintro e w2 ⟨rfl, hb2⟩; have hz2 : wr.heap.size < w2.heap.size := (by have := hb2.size; (try simp at this); omega); have hcA := fun o => (bcell hb2).1 V o (by first | omega | (simp; done) | (simp; omega)); have hcB := fun o => (bcell hb2).1 wr.heap.size o (by first | omega | (simp; done) | (simp; omega))))
          all_goals
            rename_i hS
            go_wp2_with fail
            go_ret
            rw [HR.out]
            exact ⟨rfl, HB.out.trans (hS.1.mono HB.out.size)⟩
    · have HR := Lib.hid (HFT.out (fun i hi => hall.out i (by omega)))
      have HB := Lib.hid hbel
      clear hbel q1 hall
      have hjI : ¬ ((j : Int) < (xs.length : Int)) := by omega
      go_wp2_with fail
      go_ret
      rw [HR.out]
      exact ⟨rfl, HB.out⟩
set_option maxHeartbeats 8000000 in
set_option maxRecDepth 100000 in
theorem solutions_any (a : Option Addr) (cap : Nat) (xs : List (Int × Int × Int)) (w : World) (h : RdT w a xs) (hn : xs.length ≤ 1048576) (hcl : clA xs = true) :
    Calls Try.prog 72 #[.slice a xs.length cap] w fun e w' => ∃ a' c', e = .returned (.slice a' (sol xs).length c') ∧ OwnK w' w.heap.size a' c' (sol xs) ∧ Below w.heap.size w w' := by
  obtain ⟨i0, hi, hz0, hz1, hz2⟩ := info_parts pairInfoK
  have HL := Lib.hid (fun n => slN_len xs n)
  have HR := Lib.hid h
  have HFI := Lib.hid (fun u d (hh : hdB u d = true) w h => fits_any a cap xs u d w h hn hcl hh)
  have HO0 := Lib.hid (show OwnK (w.alloc (.cells #[] 43)) w.heap.size (some ⟨w.heap.size, 0, none⟩) 0 (slN xs 0) from World.ownsRow_lit w #[] 0 (Nat.le_refl _) (by decide) rfl)
  have HB0 := Lib.hid (show Below w.heap.size w (w.alloc (.cells #[] 43)) from (Below.refl _ _).alloc (Nat.le_refl _) _)
  clear hcl h
  go_enter Try.func72, Try.ntmps72
  go_wp2_with fail
  go_loopg [3, 4] 12 (fun k v3 v4 wr => ∃ (i : Nat) (ao : Option Addr) (co : Nat), v3 = .slice ao (slN xs (13 * i)).length co ∧ v4 = .int .i64 ((i : Int) + 1) ∧ i + k = 12 ∧ OwnK wr w.heap.size ao co (slN xs (13 * i)) ∧ Below w.heap.size w wr)
  case atStart => exact ⟨0, _, _, rfl, rfl, rfl, HO0.out, HB0.out⟩
  case round =>
    obtain ⟨i, ao, co, rfl, rfl, hk, hown, hbel⟩ := hrel
    by_cases hi12 : i < 12
    · have hiI : (i : Int) + 1 ≤ 12 := by omega
      have HO := Lib.hid hown
      have HB := Lib.hid hbel
      have HE := Lib.hid (show 13 * (i + 1) = 13 * i + 13 by omega)
      obtain ⟨G, rfl⟩ : ∃ G, gk = G + 1 := ⟨gk - 1, by omega⟩
      clear hown hbel
      go_wp2_with fail
      go_loopg [3, 12] 13 (fun k v3 v12 wq => ∃ (j : Nat) (ap : Option Addr) (cp : Nat), v3 = .slice ap (slN xs (13 * i + j)).length cp ∧ v12 = .int .i64 (j : Int) ∧ j + k = 13 ∧ OwnK wq w.heap.size ap cp (slN xs (13 * i + j)) ∧ Below w.heap.size w wq)
      case atStart => exact ⟨0, ao, co, rfl, rfl, rfl, HO.out, HB.out⟩
      case round =>
        obtain ⟨j, ap, cp, rfl, rfl, hk2, hown, hbel⟩ := hrel
        by_cases hj13 : j < 13
        · have hjI : (j : Int) < 13 := by omega
          have hh : hdB ((i : Int) + 1) (j : Int) = true := hdB_iff.2 (by omega)
          have HO2 := Lib.hid hown
          have HB2 := Lib.hid hbel
          have hszq := hbel.size
          have hlen := HL.out (13 * i + j)
          have HFI2 := Lib.hid (HFI.out _ _ hh)
          have HRq := Lib.hid (HR.out.below hbel)
          obtain ⟨G2, rfl⟩ : ∃ G2, gk = G2 + 1 := ⟨gk - 1, by omega⟩
          clear hown hbel hh
          cases hf : fiA xs ((i : Int) + 1) (j : Int)
          · have HE2 := Lib.hid (slN_no (xs := xs) hj13 hf)
            rw [hf] at HFI2
            clear hf
            go_wp2_with (first | (go_at_call 68; refine (HFI2.out _ (HRq.out.below (by (repeat (first | assumption | exact Below.refl _ _ | refine Below.drew ?_ | refine below_drewN ?_ _ | refine Below.setCell ?_ (by first | omega | (simp; done) | (simp; omega)) _ | refine Below.alloc ?_ (by first | omega | (simp; done) | (simp; omega)) _ | refine bchain ?_ (by assumption) (by first | omega | (simp; done) | (simp; omega))))))).mono ?_; rintro e w2 ⟨rfl, hb2⟩))
            go_roundg G2
            case rel => exact ⟨j + 1, ap, cp, by rw [← Nat.add_assoc, HE2.out], by go_num, by omega, by rw [← Nat.add_assoc, HE2.out]; exact HO2.out.below (by (repeat (first | assumption | exact Below.refl _ _ | refine Below.drew ?_ | refine below_drewN ?_ _ | refine Below.setCell ?_ (by first | omega | (simp; done) | (simp; omega)) _ | refine Below.alloc ?_ (by first | omega | (simp; done) | (simp; omega)) _ | refine bchain ?_ (by assumption) (by first | omega | (simp; done) | (simp; omega))))), by (repeat (first | assumption | exact HB2.out | exact Below.refl _ _ | refine Below.drew ?_ | refine below_drewN ?_ _ | refine Below.setCell ?_ (by first | omega | (simp; done) | (simp; omega)) _ | refine Below.alloc ?_ (by first | omega | (simp; done) | (simp; omega)) _ | refine bchain ?_ (by assumption) (by first | omega | (simp; done) | (simp; omega))))⟩
            case measure => omega
          · have HE2 := Lib.hid (slN_yes (xs := xs) hj13 hf)
            have hle : (slN xs (13 * i + j)).length ≤ 156 := by omega
            rw [hf] at HFI2
            clear hf
            generalize slN xs (13 * i + j) = L at *
            go_wp2_with (first | (go_at_call 68; refine (HFI2.out _ (HRq.out.below (by (repeat (first | assumption | exact Below.refl _ _ | refine Below.drew ?_ | refine below_drewN ?_ _ | refine Below.setCell ?_ (by first | omega | (simp; done) | (simp; omega)) _ | refine Below.alloc ?_ (by first | omega | (simp; done) | (simp; omega)) _ | refine bchain ?_ (by assumption) (by first | omega | (simp; done) | (simp; omega))))))).mono ?_; rintro e w2 ⟨rfl, hb2⟩; have hzw : wr.heap.size < w2.heap.size := (by have := hb2.size; (try simp at this); omega); have hcA := fun o => (bcell hb2).1 wr.heap.size o (by first | omega | (simp; done) | (simp; omega)); have B2 : Below wr.heap.size wr w2 := (by (repeat (first | assumption | exact Below.refl _ _ | refine Below.drew ?_ | refine below_drewN ?_ _ | refine Below.setCell ?_ (by first | omega | (simp; done) | (simp; omega)) _ | refine Below.alloc ?_ (by first | omega | (simp; done) | (simp; omega)) _ | refine bchain ?_ (by assumption) (by first | omega | (simp; done) | (simp; omega))))); have HO3 := Lib.hid (row_below HO2.out B2); have HB3 := Lib.hid (HB2.out.trans (B2.mono HB2.out.size)); clear hb2) | (at_builtin; refine wpList_append_own _ rfl _ _ 46 rfl w.heap.size 43 i0 (.agg #[.int .i64 0, .int .i64 0]) 2 16 Try.underlying46 hi hz0 hz1 hz2 rfl (by decide) _ _ _ rfl (HO3.out.alloc _) ⟨w2.heap.size, 0, none⟩ 1 1 [.int .i64 ((i : Int) + 1), .int .i64 (j : Int)] rfl rfl (cell_two_newP _ _ _ _) (fun x hx => by simp at hx; rcases hx with rfl | rfl <;> rfl) (by unfold maxLen; omega) (by omega) (by first | omega | (simp; omega)) ?_; intro v1 w6 hO6 hgrow hx; clear hx; have HO6 := Lib.hid hO6; have HG6 := Lib.hid hgrow; clear hgrow hO6))
            obtain ⟨a4, c4, rfl⟩ := own_formP HO6.out
            have hB6 := (HB3.out.alloc HB3.out.size _).grown HG6.out (by simp; omega) (fun k hk => (HO3.out.lt k hk).1)
            have hln : (L ++ [((i : Int) + 1, (j : Int))]).length = L.length + 1 := by simp
            go_roundg G2
            case rel => exact ⟨j + 1, a4, c4, by rw [← Nat.add_assoc, HE2.out, hln], by go_num, by omega, by rw [← Nat.add_assoc, HE2.out]; unfold OwnK; rw [hln, cs2_snocP]; exact HO6.out, hB6⟩
            case measure => omega
        · obtain rfl : j = 13 := by omega
          have HO := Lib.hid hown
          have HB := Lib.hid hbel
          clear hown hbel
          go_wp2_with fail
          go_roundg G
          case rel => exact ⟨i + 1, ap, cp, by rw [HE.out], by go_num, by omega, by rw [HE.out]; exact HO.out, HB.out⟩
          case measure => omega
    · obtain rfl : i = 12 := by omega
      have HO := Lib.hid (show OwnK wr w.heap.size ao co (sol xs) from hown)
      have HB := Lib.hid hbel
      clear hown hbel
      go_wp2_with fail
      go_ret
      exact ⟨ao, co, rfl, HO.out, HB.out⟩
set_option maxHeartbeats 2000000 in
theorem count_any (a : Option Addr) (cap : Nat) (xs : List (Int × Int × Int)) (w : World) (h : RdT w a xs) (hn : xs.length ≤ 1048576) (hcl : clA xs = true) :
    Calls Try.prog 76 #[.slice a xs.length cap] w fun e w' => e = .returned (.int .i64 ((sol xs).length : Int)) ∧ Below w.heap.size w w' := by
  have HA := Lib.hid (solutions_any a cap xs w h hn hcl)
  generalize sol xs = L at *
  go_enter Try.func76, Try.ntmps76
  go_wp2_with (first | (go_at_call 72; refine HA.out.mono ?_; rintro e w1 ⟨a', c', rfl, hO, hb⟩))
  go_ret
  exact ⟨rfl, hb⟩
set_option maxHeartbeats 2000000 in
theorem isSolved_any (a : Option Addr) (cap : Nat) (xs : List (Int × Int × Int)) (w : World) (h : RdT w a xs) (hn : xs.length ≤ 1048576) (hcl : clA xs = true) :
    Calls Try.prog 81 #[.slice a xs.length cap] w fun e w' => e = .returned (.bool (decide ((sol xs).length = 1))) ∧ Below w.heap.size w w' := by
  have HA := Lib.hid (count_any a cap xs w h hn hcl)
  generalize sol xs = L at *
  go_enter Try.func81, Try.ntmps81
  go_wp2_with (first | (go_at_call 76; refine HA.out.mono ?_; rintro e w1 ⟨rfl, hb⟩))
  go_ret
  refine ⟨rB ?_, hb⟩
  by_cases q : L.length = 1
  · rw [q]; rfl
  · rw [decide_eq_false q]; simp; omega
/-- the first one, or nothing -/
def fsU (xs : List (Int × Int × Int)) : Int := if 0 < (sol xs).length then px (sol xs) 0 else 0
def fsD (xs : List (Int × Int × Int)) : Int := if 0 < (sol xs).length then py (sol xs) 0 else 0
set_option maxHeartbeats 2000000 in
theorem first_any (a : Option Addr) (cap : Nat) (xs : List (Int × Int × Int)) (w : World) (h : RdT w a xs) (hn : xs.length ≤ 1048576) (hcl : clA xs = true) :
    Calls Try.prog 78 #[.slice a xs.length cap] w fun e w' => e = .returned (.tuple #[.agg #[.int .i64 (fsU xs), .int .i64 (fsD xs)], .bool (decide (0 < (sol xs).length))]) ∧ Below w.heap.size w w' := by
  have HA := Lib.hid (fun w h => solutions_any a cap xs w h hn hcl)
  by_cases hl : 0 < (sol xs).length
  · rw [show fsU xs = px (sol xs) 0 by simp [fsU, hl], show fsD xs = py (sol xs) 0 by simp [fsD, hl], decide_eq_true hl]
    have hlI : (0 : Int) < ((sol xs).length : Int) := by omega
    have hlN : ¬ ((sol xs).length = 0) := by omega
    generalize sol xs = L at *
    go_enter Try.func78, Try.ntmps78
    go_wp2_with (first | (go_at_call 72; refine (HA.out _ (h.below (by (repeat (first | assumption | exact Below.refl _ _ | refine Below.drew ?_ | refine below_drewN ?_ _ | refine Below.setCell ?_ (by first | omega | (simp; done) | (simp; omega)) _ | refine Below.alloc ?_ (by first | omega | (simp; done) | (simp; omega)) _ | refine bchain ?_ (by assumption) (by first | omega | (simp; done) | (simp; omega))))))).mono ?_; rintro e w1 ⟨a1, c1, rfl, hO1, hb1⟩; have hs1 := hb1.size; (try simp only [World.size_alloc] at hs1); have hy0 : w1.cell? ⟨w.heap.size, 0, none⟩ = some (.int .i64 0) := (by rw [(bcell hb1).1 _ _ (by first | omega | (simp; done) | (simp; omega))]; go_simp); have hy1 : w1.cell? ⟨w.heap.size, 1, none⟩ = some (.int .i64 0) := (by rw [(bcell hb1).1 _ _ (by first | omega | (simp; done) | (simp; omega))]; go_simp); have hfy : ∀ o, w1.frozen? ⟨w.heap.size, o, none⟩ = false := (fun o => by rw [(bcell hb1).2 _ _ (by first | omega | (simp; done) | (simp; omega))]; go_simp); obtain ⟨g, hg1, hg2, hg3⟩ := row_ptr hO1 hl; obtain ⟨rfl, hz0, hz1⟩ := hg1))
    refine bodyPost_ret (v := .tuple #[.agg #[.int .i64 (px L 0), .int .i64 (py L 0)], .bool true]) (by simp [results, Try.results78, go_sem, hy0, hy1]) rfl ⟨rfl, by (repeat (first | assumption | exact Below.refl _ _ | refine Below.drew ?_ | refine below_drewN ?_ _ | refine Below.setCell ?_ (by first | omega | (simp; done) | (simp; omega)) _ | refine Below.alloc ?_ (by first | omega | (simp; done) | (simp; omega)) _ | refine bchain ?_ (by assumption) (by first | omega | (simp; done) | (simp; omega))))⟩
  · rw [show fsU xs = 0 by simp [fsU, hl], show fsD xs = 0 by simp [fsD, hl], decide_eq_false hl]
    have hlN : (sol xs).length = 0 := by omega
    generalize sol xs = L at *
    obtain rfl := List.length_eq_zero_iff.1 hlN
    clear hlN hl
    go_enter Try.func78, Try.ntmps78
    go_wp2_with (first | (go_at_call 72; refine (HA.out _ (h.below (by (repeat (first | assumption | exact Below.refl _ _ | refine Below.drew ?_ | refine below_drewN ?_ _ | refine Below.setCell ?_ (by first | omega | (simp; done) | (simp; omega)) _ | refine Below.alloc ?_ (by first | omega | (simp; done) | (simp; omega)) _ | refine bchain ?_ (by assumption) (by first | omega | (simp; done) | (simp; omega))))))).mono ?_; rintro e w1 ⟨a1, c1, rfl, hO1, hb1⟩; have hs1 := hb1.size; (try simp only [World.size_alloc] at hs1); have hy0 : w1.cell? ⟨w.heap.size, 0, none⟩ = some (.int .i64 0) := (by rw [(bcell hb1).1 _ _ (by first | omega | (simp; done) | (simp; omega))]; go_simp); have hy1 : w1.cell? ⟨w.heap.size, 1, none⟩ = some (.int .i64 0) := (by rw [(bcell hb1).1 _ _ (by first | omega | (simp; done) | (simp; omega))]; go_simp); have hfy : ∀ o, w1.frozen? ⟨w.heap.size, o, none⟩ = false := (fun o => by rw [(bcell hb1).2 _ _ (by first | omega | (simp; done) | (simp; omega))]; go_simp)))
    refine bodyPost_ret (v := .tuple #[.agg #[.int .i64 0, .int .i64 0], .bool false]) (by simp [results, Try.results78, go_sem, hy0, hy1]) rfl ⟨rfl, by (repeat (first | assumption | exact Below.refl _ _ | refine Below.drew ?_ | refine below_drewN ?_ _ | refine Below.setCell ?_ (by first | omega | (simp; done) | (simp; omega)) _ | refine Below.alloc ?_ (by first | omega | (simp; done) | (simp; omega)) _ | refine bchain ?_ (by assumption) (by first | omega | (simp; done) | (simp; omega))))⟩
/-- the number of all of the first ones, or -1; 0 if there are none -/
def sgU (L : List (Int × Int)) (j : Nat) : Int := if 0 < L.length then suN (px L) j else 0
def sgD (L : List (Int × Int)) (j : Nat) : Int := if 0 < L.length then suN (py L) j else 0
set_option maxHeartbeats 4000000 in
set_option maxRecDepth 100000 in
theorem sure_any (a : Option Addr) (cap : Nat) (xs : List (Int × Int × Int)) (w : World) (h : RdT w a xs) (hn : xs.length ≤ 1048576) (hcl : clA xs = true) :
    Calls Try.prog 79 #[.slice a xs.length cap] w fun e w' => e = .returned (.tuple #[.agg #[.int .i64 (sgU (sol xs) (sol xs).length), .int .i64 (sgD (sol xs) (sol xs).length)], .bool (decide (0 < (sol xs).length))]) ∧ Below w.heap.size w w' := by
  have HA := Lib.hid (fun w h => solutions_any a cap xs w h hn hcl)
  have HF := Lib.hid (fun w h => first_any a cap xs w h hn hcl)
  have hle := sol_len xs
  rw [show fsU xs = sgU (sol xs) 0 from rfl, show fsD xs = sgD (sol xs) 0 from rfl] at HF
  generalize sol xs = L at *
  have HU := Lib.hid (fun (j : Nat) (hl : 0 < L.length) => (show sgU L (j + 1) = if px L j = sgU L j then sgU L j else -1 by unfold sgU; rw [if_pos hl, if_pos hl]; rfl))
  have HD := Lib.hid (fun (j : Nat) (hl : 0 < L.length) => (show sgD L (j + 1) = if py L j = sgD L j then sgD L j else -1 by unfold sgD; rw [if_pos hl, if_pos hl]; rfl))
  clear hcl
  generalize decide (0 < L.length) = ok at *
  go_enter Try.func79, Try.ntmps79
  go_wp2_with (first | (go_at_call 78; refine (HF.out _ (h.below (by (repeat (first | assumption | exact Below.refl _ _ | refine Below.drew ?_ | refine below_drewN ?_ _ | refine Below.setCell ?_ (by first | omega | (simp; done) | (simp; omega)) _ | refine Below.alloc ?_ (by first | omega | (simp; done) | (simp; omega)) _ | refine bchain ?_ (by assumption) (by first | omega | (simp; done) | (simp; omega))))))).mono ?_; rintro e w1 ⟨rfl, hb1⟩; have hs1 := hb1.size; (try simp only [World.size_alloc] at hs1); have hy0 : w1.cell? ⟨w.heap.size, 0, none⟩ = some (.int .i64 0) := (by rw [(bcell hb1).1 _ _ (by first | omega | (simp; done) | (simp; omega))]; go_simp); have hy1 : w1.cell? ⟨w.heap.size, 1, none⟩ = some (.int .i64 0) := (by rw [(bcell hb1).1 _ _ (by first | omega | (simp; done) | (simp; omega))]; go_simp); have hfy : ∀ o, w1.frozen? ⟨w.heap.size, o, none⟩ = false := (fun o => by rw [(bcell hb1).2 _ _ (by first | omega | (simp; done) | (simp; omega))]; go_simp); have B1 : Below w.heap.size w w1 := (by (repeat (first | assumption | exact Below.refl _ _ | refine Below.drew ?_ | refine below_drewN ?_ _ | refine Below.setCell ?_ (by first | omega | (simp; done) | (simp; omega)) _ | refine Below.alloc ?_ (by first | omega | (simp; done) | (simp; omega)) _ | refine bchain ?_ (by assumption) (by first | omega | (simp; done) | (simp; omega))))); clear hb1) | (go_at_call 72; refine (HA.out _ (h.below (by (repeat (first | assumption | exact Below.refl _ _ | refine Below.drew ?_ | refine below_drewN ?_ _ | refine Below.setCell ?_ (by first | omega | (simp; done) | (simp; omega)) _ | refine Below.alloc ?_ (by first | omega | (simp; done) | (simp; omega)) _ | refine bchain ?_ (by assumption) (by first | omega | (simp; done) | (simp; omega))))))).mono ?_; rintro e w2 ⟨a2, c2, rfl, hO2, hb2⟩; have hs2 := hb2.size; (try simp only [World.size_alloc] at hs2); have hw1 : w.heap.size < w1.heap.size := (by omega); have hz0 : w2.cell? ⟨w1.heap.size, 0, none⟩ = some (.int .i64 (sgU L 0)) := (by rw [(bcell hb2).1 _ _ (by first | omega | (simp; done) | (simp; omega))]; go_simp); have hz1 : w2.cell? ⟨w1.heap.size, 1, none⟩ = some (.int .i64 (sgD L 0)) := (by rw [(bcell hb2).1 _ _ (by first | omega | (simp; done) | (simp; omega))]; go_simp); have hfz : ∀ o, w2.frozen? ⟨w1.heap.size, o, none⟩ = false := (fun o => by rw [(bcell hb2).2 _ _ (by first | omega | (simp; done) | (simp; omega))]; go_simp); have hy2 : w2.cell? ⟨w.heap.size, 0, none⟩ = some (.int .i64 0) := (by rw [(bcell hb2).1 _ _ (by first | omega | (simp; done) | (simp; omega))]; go_simp); have hy3 : w2.cell? ⟨w.heap.size, 1, none⟩ = some (.int .i64 0) := (by rw [(bcell hb2).1 _ _ (by first | omega | (simp; done) | (simp; omega))]; go_simp); have hfy2 : ∀ o, w2.frozen? ⟨w.heap.size, o, none⟩ = false := (fun o => by rw [(bcell hb2).2 _ _ (by first | omega | (simp; done) | (simp; omega))]; first | (go_simp; done) | (go_simp; exact hfy o)); have B2 : Below w.heap.size w w2 := (by (repeat (first | assumption | exact Below.refl _ _ | refine Below.drew ?_ | refine below_drewN ?_ _ | refine Below.setCell ?_ (by first | omega | (simp; done) | (simp; omega)) _ | refine Below.alloc ?_ (by first | omega | (simp; done) | (simp; omega)) _ | refine bchain ?_ (by assumption) (by first | omega | (simp; done) | (simp; omega))))); clear hb2))
  obtain ⟨S, hS⟩ : ∃ S, S = w1.heap.size := ⟨_, rfl⟩
  simp only [World.size_alloc] at hO2
  rw [← hS] at hs2 hz0 hz1 hfz hO2 hw1 ⊢
  have HO2 := Lib.hid hO2
  have HB2 := Lib.hid B2
  have HZ := Lib.hid (And.intro (show S < w2.heap.size by omega) (And.intro hz0 (And.intro hz1 hfz)))
  have HY := Lib.hid (And.intro hy2 (And.intro hy3 hfy2))
  clear hO2 B2 B1 hz0 hz1 hfz hy2 hy3 hfy2 hy0 hy1 hfy hS
  go_loopg [16] L.length (fun k v16 wr => ∃ (j : Nat), v16 = .int .i64 (j : Int) ∧ j + k = L.length ∧ (S < wr.heap.size ∧ wr.cell? ⟨S, 0, none⟩ = some (.int .i64 (sgU L j)) ∧ wr.cell? ⟨S, 1, none⟩ = some (.int .i64 (sgD L j)) ∧ ∀ o, wr.frozen? ⟨S, o, none⟩ = false) ∧ (wr.cell? ⟨w.heap.size, 0, none⟩ = some (.int .i64 0) ∧ wr.cell? ⟨w.heap.size, 1, none⟩ = some (.int .i64 0) ∧ ∀ o, wr.frozen? ⟨w.heap.size, o, none⟩ = false) ∧ OwnK wr (S + 1) a2 c2 L ∧ Below w.heap.size w wr)
  case atStart => exact ⟨0, rfl, by omega, HZ.out, HY.out, HO2.out, HB2.out⟩
  case round =>
    obtain ⟨j, rfl, q1, ⟨hSl, hz0, hz1, hfz⟩, ⟨hy0, hy1, hfy⟩, hO, hbel⟩ := hrel
    have hsz := hbel.size
    have hlw : w.heap.size < wr.heap.size := by omega
    by_cases hj : j < L.length
    · have hjI : (j : Int) < (L.length : Int) := by omega
      have HUj := Lib.hid (HU.out j (by omega))
      have HDj := Lib.hid (HD.out j (by omega))
      rcases hO.rd with h' | ⟨b, off, e0, hlt, hc⟩
      · rw [h'] at hj; exact absurd hj (Nat.not_lt_zero _)
      · obtain ⟨c0, c1⟩ := hc j hj
        subst e0
        have HO := Lib.hid hO
        have HB := Lib.hid hbel
        have Q1 := Lib.hid q1
        clear hO hbel q1 hc
        obtain ⟨SU, hSU⟩ : ∃ x, sgU L (j + 1) = x := ⟨_, rfl⟩
        obtain ⟨SD, hSD⟩ : ∃ x, sgD L (j + 1) = x := ⟨_, rfl⟩
        rw [hSU] at HUj
        rw [hSD] at HDj
        have HSU := Lib.hid hSU
        have HSD := Lib.hid hSD
        clear hSU hSD
        generalize sgU L j = X at *
        generalize sgD L j = Y at *
        generalize px L j = x at *
        generalize py L j = y at *
        by_cases hx : x = X <;> by_cases hy : y = Y
        all_goals
          first
          | (have HU1 := HUj.out.trans (if_pos hx))
          | (have HU1 := HUj.out.trans (if_neg hx))
          first
          | (have HD1 := HDj.out.trans (if_pos hy))
          | (have HD1 := HDj.out.trans (if_neg hy))
          first
          | (have ex : (x != X) = false := by rw [bne_eq_false_iff_eq]; exact hx)
          | (have ex : (x != X) = true := by rw [bne_iff_ne]; exact hx)
          first
          | (have ey : (y != Y) = false := by rw [bne_eq_false_iff_eq]; exact hy)
          | (have ey : (y != Y) = true := by rw [bne_iff_ne]; exact hy)
          subst HU1 HD1
          clear hx hy HUj HDj
          go_wp2_with fail
          go_roundg (gk - 1)
          case rel => exact ⟨j + 1, by go_num, by have := Q1.out; omega, ⟨by simp; omega, by rw [HSU.out]; go_simp, by rw [HSD.out]; go_simp, fun o => by go_simp⟩, ⟨by go_simp, by go_simp, fun o => by go_simp⟩, by first | exact World.ownsRow.alloc HO.out _ | exact World.ownsRow.alloc (row_setLow HO.out _ _ (by simp)) _ | exact World.ownsRow.alloc (row_setLow (row_setLow HO.out _ _ (by simp)) _ _ (by simp)) _, by (repeat (first | assumption | exact HB.out | exact Below.refl _ _ | refine Below.drew ?_ | refine below_drewN ?_ _ | refine Below.setCell ?_ (by first | omega | (simp; done) | (simp; omega)) _ | refine Below.alloc ?_ (by first | omega | (simp; done) | (simp; omega)) _ | refine bchain ?_ (by assumption) (by first | omega | (simp; done) | (simp; omega))))⟩
          case measure => have := Q1.out; omega
    · obtain rfl : j = L.length := by omega
      have HB := Lib.hid hbel
      clear hO hbel q1 hj
      go_wp2_with fail
      refine bodyPost_ret (v := .tuple #[.agg #[.int .i64 (sgU L L.length), .int .i64 (sgD L L.length)], .bool ok]) (by simp [results, Try.results79, go_sem, hy0, hy1]) rfl ⟨rfl, by (repeat (first | assumption | exact HB.out | exact Below.refl _ _ | refine Below.drew ?_ | refine below_drewN ?_ _ | refine Below.setCell ?_ (by first | omega | (simp; done) | (simp; omega)) _ | refine Below.alloc ?_ (by first | omega | (simp; done) | (simp; omega)) _ | refine bchain ?_ (by assumption) (by first | omega | (simp; done) | (simp; omega))))⟩
end Go.Proofs.Ytnnokfecjdmjpaa
