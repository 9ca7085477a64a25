/- Puzzles (chapter 9): how a puzzle is made, the program's way. -/
import Derived.Test.YtnnokfecjdmjpabPzMake
import Derived.WalkKit
import Derived.WalkSpells
import Derived.WalkLawsBesides
import Derived.Lib.Hide
import Derived.Deep.LoopGhost
import Derived.Deep.QuietTactic
import Derived.Deep.RegionWith
import Derived.Deep.RegionLaw
import Derived.Deep.RegionHeld3
import Derived.BigQuiet
namespace Go.Proofs.Ytnnokfecjdmjpab
open Go.RowKit
set_option linter.unusedVariables false
set_option linter.unusedSimpArgs false
set_option maxHeartbeats 1000000 in
theorem nextMade_any (z : Int) (h0 : 0 ≤ z) (h1 : z ≤ 10006) (w : World) :
    Calls Try.prog 37 #[.int .i64 z] w fun e w' => e = .returned (.int .i64 (nxz z)) ∧ w = w' := by
  go_enter Try.func37, Try.ntmps37
  go_wp2
  go_ret
  exact ⟨rI (by unfold nxz; rw [Int.mul_comm 227 z]), rfl⟩
set_option maxHeartbeats 1000000 in
theorem madeA_any (k y : Int) (h0 : 0 ≤ k) (h4 : k ≤ 4) (hy0 : 0 ≤ y) (hy1 : y ≤ 10006) (w : World) :
    Calls Try.prog 39 #[.int .i64 k, .int .i64 y] w fun e w' => e = .returned (.int .i64 (mdA k y)) ∧ w = w' := by
  have hk : k = 0 ∨ k = 1 ∨ k = 2 ∨ k = 3 ∨ k = 4 := by omega
  clear h0 h4
  rcases hk with rfl | rfl | rfl | rfl | rfl
  all_goals
    first
    | (rw [show mdA 0 y = y % 100 + 1 from rfl])
    | (rw [show mdA 1 y = y % 100 + 1 from rfl])
    | (rw [show mdA 2 y = 0 from rfl])
    | (rw [show mdA 3 y = y % 8 + 2 from rfl])
    | (rw [show mdA 4 y = 0 from rfl])
    go_enter Try.func39, Try.ntmps39
    go_wp2
    go_ret
    exact ⟨rfl, rfl⟩
set_option maxHeartbeats 8000000 in
set_option maxRecDepth 100000 in
theorem implMakePuzzle (u d n z : Int) (w : World) :
    Calls Try.prog 17 #[.agg #[.int .i64 u, .int .i64 d], .int .i64 n, .int .i64 z] w (RetP9 w (mkP u d n z) (mkO u d n z)) := by
  cases hh : hdB u d
  · rw [show mkO u d n z = false by simp [mkO, hh], show mkP u d n z = [] by simp [mkP, mkO, hh]]
    have HH := Lib.hid hh
    clear hh
    go_enter Try.func17, Try.ntmps17
    go_wp2_with (first | (go_at_call 35; refine (isHidden_any u d _).mono ?_; rw [HH.out]; rintro e w0 ⟨rfl, hb0⟩; have hs0 := hb0.size; (try simp only [World.size_alloc] at hs0); have hk0 : w0.cell? ⟨w.heap.size, 0, none⟩ = some (.int .i64 u) := (by rw [(bcell hb0).1 _ _ (by first | omega | (simp; done) | (simp; omega))]; go_simp); have hk1 : w0.cell? ⟨w.heap.size, 1, none⟩ = some (.int .i64 d) := (by rw [(bcell hb0).1 _ _ (by first | omega | (simp; done) | (simp; omega))]; go_simp); have hx0 : w0.cell? ⟨w.heap.size + 1, 0, none⟩ = some (.slice none 0 0) := (by rw [(bcell hb0).1 _ _ (by first | omega | (simp; done) | (simp; omega))]; go_simp); have hfx : ∀ o, w0.frozen? ⟨w.heap.size + 1, o, none⟩ = false := (fun o => by rw [(bcell hb0).2 _ _ (by first | omega | (simp; done) | (simp; omega))]; go_simp); have B0 : Below w.heap.size w w0 := (by (repeat (first | assumption | exact Below.refl _ _ | refine Below.drew ?_ | refine below_drewN ?_ _ | refine Below.setCell ?_ (by first | omega | (simp; done) | (simp; omega)) _ | refine Below.alloc ?_ (by first | omega | (simp; done) | (simp; omega)) _ | refine bchain ?_ (by assumption) (by first | omega | (simp; done) | (simp; omega)))))))
    refine bodyPost_ret (v := .tuple #[.agg #[.slice none 0 0], .bool false]) (by simp [results, Try.results17, go_sem, hx0]) rfl ⟨none, 0, rfl, World.ownsRow_nil _ _ _ _, by (repeat (first | assumption | exact Below.refl _ _ | refine Below.drew ?_ | refine below_drewN ?_ _ | refine Below.setCell ?_ (by first | omega | (simp; done) | (simp; omega)) _ | refine Below.alloc ?_ (by first | omega | (simp; done) | (simp; omega)) _ | refine bchain ?_ (by assumption) (by first | omega | (simp; done) | (simp; omega))))⟩
  cases h1 : inB n 0 6
  · rw [show mkO u d n z = false by simp [mkO, h1], show mkP u d n z = [] by simp [mkP, mkO, h1]]
    have HH := Lib.hid hh
    have HI := Lib.hid h1
    clear hh h1
    go_enter Try.func17, Try.ntmps17
    go_wp2_with (first | (go_at_call 35; refine (isHidden_any u d _).mono ?_; rw [HH.out]; rintro e w0 ⟨rfl, hb0⟩; have hs0 := hb0.size; (try simp only [World.size_alloc] at hs0); have hk0 : w0.cell? ⟨w.heap.size, 0, none⟩ = some (.int .i64 u) := (by rw [(bcell hb0).1 _ _ (by first | omega | (simp; done) | (simp; omega))]; go_simp); have hk1 : w0.cell? ⟨w.heap.size, 1, none⟩ = some (.int .i64 d) := (by rw [(bcell hb0).1 _ _ (by first | omega | (simp; done) | (simp; omega))]; go_simp); have hx0 : w0.cell? ⟨w.heap.size + 1, 0, none⟩ = some (.slice none 0 0) := (by rw [(bcell hb0).1 _ _ (by first | omega | (simp; done) | (simp; omega))]; go_simp); have hfx : ∀ o, w0.frozen? ⟨w.heap.size + 1, o, none⟩ = false := (fun o => by rw [(bcell hb0).2 _ _ (by first | omega | (simp; done) | (simp; omega))]; go_simp); have B0 : Below w.heap.size w w0 := (by (repeat (first | assumption | exact Below.refl _ _ | refine Below.drew ?_ | refine below_drewN ?_ _ | refine Below.setCell ?_ (by first | omega | (simp; done) | (simp; omega)) _ | refine Below.alloc ?_ (by first | omega | (simp; done) | (simp; omega)) _ | refine bchain ?_ (by assumption) (by first | omega | (simp; done) | (simp; omega)))))) | (go_at_call 36; refine (implIn _ _ _ _).mono ?_; (first | rw [HI.out] | rw [HJ.out]); rintro e w1 ⟨rfl, rfl⟩))
    refine bodyPost_ret (v := .tuple #[.agg #[.slice none 0 0], .bool false]) (by simp [results, Try.results17, go_sem, hx0]) rfl ⟨none, 0, rfl, World.ownsRow_nil _ _ _ _, by (repeat (first | assumption | exact Below.refl _ _ | refine Below.drew ?_ | refine below_drewN ?_ _ | refine Below.setCell ?_ (by first | omega | (simp; done) | (simp; omega)) _ | refine Below.alloc ?_ (by first | omega | (simp; done) | (simp; omega)) _ | refine bchain ?_ (by assumption) (by first | omega | (simp; done) | (simp; omega))))⟩
  cases h2 : inB z 0 9999
  · rw [show mkO u d n z = false by simp [mkO, h2], show mkP u d n z = [] by simp [mkP, mkO, h2]]
    have HH := Lib.hid hh
    have HI := Lib.hid h1
    have HJ := Lib.hid h2
    clear hh h1 h2
    go_enter Try.func17, Try.ntmps17
    go_wp2_with (first | (go_at_call 35; refine (isHidden_any u d _).mono ?_; rw [HH.out]; rintro e w0 ⟨rfl, hb0⟩; have hs0 := hb0.size; (try simp only [World.size_alloc] at hs0); have hk0 : w0.cell? ⟨w.heap.size, 0, none⟩ = some (.int .i64 u) := (by rw [(bcell hb0).1 _ _ (by first | omega | (simp; done) | (simp; omega))]; go_simp); have hk1 : w0.cell? ⟨w.heap.size, 1, none⟩ = some (.int .i64 d) := (by rw [(bcell hb0).1 _ _ (by first | omega | (simp; done) | (simp; omega))]; go_simp); have hx0 : w0.cell? ⟨w.heap.size + 1, 0, none⟩ = some (.slice none 0 0) := (by rw [(bcell hb0).1 _ _ (by first | omega | (simp; done) | (simp; omega))]; go_simp); have hfx : ∀ o, w0.frozen? ⟨w.heap.size + 1, o, none⟩ = false := (fun o => by rw [(bcell hb0).2 _ _ (by first | omega | (simp; done) | (simp; omega))]; go_simp); have B0 : Below w.heap.size w w0 := (by (repeat (first | assumption | exact Below.refl _ _ | refine Below.drew ?_ | refine below_drewN ?_ _ | refine Below.setCell ?_ (by first | omega | (simp; done) | (simp; omega)) _ | refine Below.alloc ?_ (by first | omega | (simp; done) | (simp; omega)) _ | refine bchain ?_ (by assumption) (by first | omega | (simp; done) | (simp; omega)))))) | (go_at_call 36; refine (implIn _ _ _ _).mono ?_; (first | rw [HI.out] | rw [HJ.out]); rintro e w1 ⟨rfl, rfl⟩))
    refine bodyPost_ret (v := .tuple #[.agg #[.slice none 0 0], .bool false]) (by simp [results, Try.results17, go_sem, hx0]) rfl ⟨none, 0, rfl, World.ownsRow_nil _ _ _ _, by (repeat (first | assumption | exact Below.refl _ _ | refine Below.drew ?_ | refine below_drewN ?_ _ | refine Below.setCell ?_ (by first | omega | (simp; done) | (simp; omega)) _ | refine Below.alloc ?_ (by first | omega | (simp; done) | (simp; omega)) _ | refine bchain ?_ (by assumption) (by first | omega | (simp; done) | (simp; omega))))⟩
  · have bn := inB_iff.1 h1
    have bz := inB_iff.1 h2
    obtain ⟨m, rfl⟩ : ∃ m : Nat, n = (m : Int) := ⟨n.toNat, by omega⟩
    rw [show mkO u d (m : Int) z = true by simp [mkO, hh, h1, h2], show mkP u d (m : Int) z = mkN u d z m by simp [mkP, mkO, hh, h1, h2]]
    have HHd := Lib.hid hh
    have HH := Lib.hid hh
    have HI := Lib.hid h1
    have HJ := Lib.hid h2
    have HZ := Lib.hid (fun j => mkZ_bd z bz.1 (by omega) j)
    have HK := Lib.hid (fun j => mkK_bd z j)
    have HLN := Lib.hid (fun j => mkN_len u d z j)
    have hm6 : m ≤ 6 := by omega
    obtain ⟨i0, hi, hz0', hz1', hz2'⟩ := info_parts cluesInfo
    clear hh h1 h2 bz bn
    go_enter Try.func17, Try.ntmps17
    go_wp2_with (first | (go_at_call 35; refine (isHidden_any u d _).mono ?_; rw [HH.out]; rintro e w0 ⟨rfl, hb0⟩; have hs0 := hb0.size; (try simp only [World.size_alloc] at hs0); have hk0 : w0.cell? ⟨w.heap.size, 0, none⟩ = some (.int .i64 u) := (by rw [(bcell hb0).1 _ _ (by first | omega | (simp; done) | (simp; omega))]; go_simp); have hk1 : w0.cell? ⟨w.heap.size, 1, none⟩ = some (.int .i64 d) := (by rw [(bcell hb0).1 _ _ (by first | omega | (simp; done) | (simp; omega))]; go_simp); have hx0 : w0.cell? ⟨w.heap.size + 1, 0, none⟩ = some (.slice none 0 0) := (by rw [(bcell hb0).1 _ _ (by first | omega | (simp; done) | (simp; omega))]; go_simp); have hfx : ∀ o, w0.frozen? ⟨w.heap.size + 1, o, none⟩ = false := (fun o => by rw [(bcell hb0).2 _ _ (by first | omega | (simp; done) | (simp; omega))]; go_simp); have B0 : Below w.heap.size w w0 := (by (repeat (first | assumption | exact Below.refl _ _ | refine Below.drew ?_ | refine below_drewN ?_ _ | refine Below.setCell ?_ (by first | omega | (simp; done) | (simp; omega)) _ | refine Below.alloc ?_ (by first | omega | (simp; done) | (simp; omega)) _ | refine bchain ?_ (by assumption) (by first | omega | (simp; done) | (simp; omega)))))) | (go_at_call 36; refine (implIn _ _ _ _).mono ?_; rw [HI.out]; rintro e w1' ⟨rfl, rfl⟩) | (go_at_call 36; refine (implIn _ _ _ _).mono ?_; rw [HJ.out]; rintro e w1' ⟨rfl, rfl⟩; obtain ⟨w1, hrun, hown1, hgr1⟩ := run_make_full (P := Try.prog) w0 w0.heap.size 28 63 i0 (.agg #[.int .i64 0, .int .i64 0, .int .i64 0]) 3 Try.underlying28 hi hz0' hz1' .i64 .i64 m (by rw [hz2']; omega) (by unfold maxLen; omega) (Nat.le_refl _)))
    have hbel1 : Below w0.heap.size w0 w1 := (Below.refl _ _).grown hgr1 (Nat.le_refl _) (fun k hk => by cases hk)
    obtain ⟨ys0, hy0⟩ : ∃ ys, ys = (madeCells (Value.agg #[.int .i64 0, .int .i64 0, .int .i64 0]).cells (m * 3)).toList := ⟨_, rfl⟩
    rw [← hy0] at hown1
    clear hy0 hgr1
    have hsz1 := hbel1.size
    obtain ⟨g, hg⟩ : ∃ g, g = w0.heap.size := ⟨_, rfl⟩
    have HB1 := Lib.hid (B0.trans (hbel1.mono B0.size))
    have HS1 := Lib.hid (And.intro (((bcell hbel1).1 w.heap.size 0 (by omega)).trans hk0) (((bcell hbel1).1 w.heap.size 1 (by omega)).trans hk1))
    have HX1 := Lib.hid (And.intro (((bcell hbel1).1 (w.heap.size + 1) 0 (by omega)).trans hx0) (fun o => ((bcell hbel1).2 (w.heap.size + 1) o (by omega)).trans (hfx o)))
    rw [← hg] at hown1 ⊢
    have hgl : w.heap.size + 1 < g := by omega
    have HO1 := Lib.hid hown1
    have hgz := (hown1.lt g rfl).2
    clear hk0 hk1 hx0 hfx hb0 B0 hrun hbel1 hown1 hg
    go_loopg [9, 31] m (fun f v9 v31 wr => ∃ (j : Nat) (ys : List Value), v9 = .int .i64 (mkZ z j) ∧ v31 = .int .i64 (j : Int) ∧ j + f = m ∧ g < wr.heap.size ∧ wr.ownsRow g 63 3 (.slice (some ⟨g, 0, none⟩) m m) m ys ∧ Hid (∀ i, i < j * 3 → ys[i]? = (cs3 (mkN u d z j))[i]?) ∧ (wr.cell? ⟨w.heap.size, 0, none⟩ = some (.int .i64 u) ∧ wr.cell? ⟨w.heap.size, 1, none⟩ = some (.int .i64 d)) ∧ (wr.cell? ⟨w.heap.size + 1, 0, none⟩ = some (.slice none 0 0) ∧ ∀ o, wr.frozen? ⟨w.heap.size + 1, o, none⟩ = false) ∧ Below w.heap.size w wr)
    case atStart => exact ⟨0, ys0, rfl, rfl, by omega, hgz, HO1.out, fun i hi => absurd hi (Nat.not_lt_zero _), HS1.out, HX1.out, HB1.out⟩
    case round =>
      obtain ⟨j, ys, rfl, rfl, q1, hgs, hown, hys, ⟨hs0', hs1'⟩, ⟨hr0, hr1⟩, hbel⟩ := hrel
      have hsz := hbel.size
      have hlen : ys.length = m * 3 := hown.1
      by_cases hj : j < m
      · have hjI : (j : Int) < (m : Int) := by omega
        have hj6 : j ≤ 6 := by omega
        have Q1 := Lib.hid (And.intro q1 hlen)
        have bZ := HZ.out j
        have bY1 := nxz_bd (mkZ z j)
        have bK := HK.out j
        have bY2 := HZ.out (j + 1)
        have eK := Lib.hid (show nxz (mkZ z j) % 5 = mkK z j from rfl)
        have eY := Lib.hid (show mkZ z (j + 1) = nxz (nxz (mkZ z j)) from rfl)
        obtain ⟨Y, hY⟩ : ∃ Y, mkZ z (j + 1) = Y := ⟨_, rfl⟩
        have HY := Lib.hid hY
        rw [hY] at bY2 eY
        clear hY
        have HNX := Lib.hid (fun w => nextMade_any (mkZ z j) bZ.1 bZ.2 w)
        have HNX2 := Lib.hid (fun w => nextMade_any (nxz (mkZ z j)) bY1.1 bY1.2 w)
        have HMA := Lib.hid (fun w => madeA_any (mkK z j) Y bK.1 bK.2 bY2.1 bY2.2 w)
        have HOF := Lib.hid (fun w => fittingClue_any (mkK z j) (mdA (mkK z j) Y) u d (mdA_ka bK.1 bK.2) HHd.out w)
        have HNJ := Lib.hid (show mkN u d z (j + 1) = mkN u d z j ++ [(mkK z j, mdA (mkK z j) (mkZ z (j + 1)), pzV (mkK z j) (mdA (mkK z j) (mkZ z (j + 1))) u d)] from rfl)
        rw [← eY.out] at HNX2
        have HYE := Lib.hid (show Value.int .i64 Y = .int .i64 (mkZ z (j + 1)) by rw [HY.out])
        rw [HY.out] at HNJ
        generalize pzV (mkK z j) (mdA (mkK z j) Y) u d = V at *
        generalize mdA (mkK z j) Y = M at *
        clear HY eY
        generalize mkZ z j = Z at *
        generalize nxz Z = Y1 at *
        have hYK := eK.out
        generalize mkK z j = K at *
        have HO := Lib.hid hown
        have HB := Lib.hid hbel
        have hlw0 : w.heap.size < wr.heap.size := by omega
        have hlw1 : w.heap.size + 1 < wr.heap.size := by omega
        clear hown hbel q1 eK hlen
        go_wp2_with (first | (go_at_call 37; refine (HNX.out _).mono ?_; rintro e w2 ⟨rfl, rfl⟩) | (go_at_call 37; refine (HNX2.out _).mono ?_; rintro e w2 ⟨rfl, rfl⟩))
        go_region_law (first
          | (go_simp; go_at_call_of 39 (Value.int .i64 K); refine (HMA.out _).mono ?_; rintro e w3 ⟨rfl, rfl⟩)
          | (go_simp; go_at_call_of 38 (Value.int .i64 K); refine (HOF.out _).mono ?_; rintro e w3 ⟨rfl, hb3⟩; have B3 : Below wr.heap.size wr w3 := bchain (by (repeat (first | exact Below.refl _ _ | refine Below.drew ?_))) hb3 (by first | exact Nat.le_refl _ | (simp; done)); have z3 := B3.size; have hO3 := row_below HO.out B3; have hcy0 := hO3.cellAt (j * 3) (by omega); have hcy1 := hO3.cellAt (j * 3 + 1) (by omega); have hcy2 := hO3.cellAt (j * 3 + 2) (by omega); have hfy0 := hO3.frozenAt (j * 3); have hfy1 := hO3.frozenAt (j * 3 + 1); have hfy2 := hO3.frozenAt (j * 3 + 2); rw [List.getElem?_eq_getElem (by rw [Q1.out.2]; omega)] at hcy0 hcy1 hcy2; have ht0 : w3.cell? ⟨w.heap.size, 0, none⟩ = some (.int .i64 u) := ((bcell B3).1 _ _ hlw0).trans hs0'; have ht1 : w3.cell? ⟨w.heap.size, 1, none⟩ = some (.int .i64 d) := ((bcell B3).1 _ _ hlw0).trans hs1'; have hR3 : w3.cell? ⟨w.heap.size + 1, 0, none⟩ = some (.slice none 0 0) := ((bcell B3).1 _ _ hlw1).trans hr0; have hRf3 : ∀ o, w3.frozen? ⟨w.heap.size + 1, o, none⟩ = false := (fun o => ((bcell B3).2 _ _ hlw1).trans (hr1 o)); have D3 := Lib.hid (HB.out.trans (B3.mono HB.out.size)); have HO3 := Lib.hid hO3; clear hO3 hb3 B3))
        all_goals
          go_wp2_with fail
          obtain ⟨hst, hst0⟩ := HO3.out.stored (j * 3) (.int .i64 K)
          obtain ⟨hsu, hsu0⟩ := hst.stored (j * 3 + 1) (.int .i64 M)
          obtain ⟨hsv, hsv0⟩ := hsu.stored (j * 3 + 2) (.int .i64 V)
          have hcs : cs3 (mkN u d z (j + 1)) = cs3 (mkN u d z j) ++ [.int .i64 K, .int .i64 M, .int .i64 V] := by rw [HNJ.out, cs3_append]; rfl
          have hcl : (cs3 (mkN u d z j)).length = j * 3 := by rw [cs3_length, HLN.out j]
          have hyl := Q1.out.2
          have hys2 : Hid (∀ i, i < (j + 1) * 3 → (((ys.set (j * 3) (.int .i64 K)).set (j * 3 + 1) (.int .i64 M)).set (j * 3 + 2) (.int .i64 V))[i]? = (cs3 (mkN u d z (j + 1)))[i]?) := by
            intro i hi
            rw [hcs]
            by_cases q2 : i = j * 3 + 2
            · subst q2; rw [List.getElem?_set_self (by rw [List.length_set, List.length_set]; omega), List.getElem?_append_right (by omega), show j * 3 + 2 - (cs3 (mkN u d z j)).length = 2 from by omega]; rfl
            rw [List.getElem?_set_ne (by omega)]
            by_cases q : i = j * 3 + 1
            · subst q; rw [List.getElem?_set_self (by rw [List.length_set]; omega), List.getElem?_append_right (by omega), show j * 3 + 1 - (cs3 (mkN u d z j)).length = 1 from by omega]; rfl
            · rw [List.getElem?_set_ne (by omega)]
              by_cases q' : i = j * 3
              · subst q'; rw [List.getElem?_set_self (by omega), List.getElem?_append_right (by omega), show j * 3 - (cs3 (mkN u d z j)).length = 0 from by omega]; rfl
              · rw [List.getElem?_set_ne (by omega), List.getElem?_append_left (by omega)]; exact hys.out i (by omega)
          go_roundg (gk - 1)
          case rel => exact ⟨j + 1, _, HYE.out, by go_num, by have := Q1.out.1; omega, by simp; omega, hsv, hys2, ⟨by go_simp, by go_simp⟩, ⟨by go_simp, fun o => by go_simp⟩, ((D3.out.setCell (by simp; omega) _).setCell (by simp; omega) _).setCell (by simp; omega) _⟩
          case measure => have := Q1.out.1; omega
      · obtain rfl : j = m := by omega
        have hyx : ys = cs3 (mkN u d z j) := by
          apply List.ext_getElem?
          intro i
          by_cases q : i < j * 3
          · exact hys.out i q
          · rw [List.getElem?_eq_none (by omega), List.getElem?_eq_none (by rw [cs3_length, HLN.out j]; omega)]
        subst hyx
        have HO := Lib.hid hown
        have HB := Lib.hid hbel
        have hl := Lib.hid (HLN.out j)
        have hjI : ¬ ((j : Int) < (j : Int)) := by omega
        clear hown hbel q1 hlen hys hj
        go_wp2_with fail
        refine bodyPost_ret (v := .tuple #[.agg #[.slice (some ⟨g, 0, none⟩) j j], .bool true]) (by simp [results, Try.results17, go_sem, hr0]) rfl ⟨some ⟨g, 0, none⟩, j, by rw [hl.out], ?_, HB.out.setCell (by simp) _⟩
        unfold OwnC
        rw [hl.out]
        exact row_low (row_setLow HO.out _ _ (by simpa using hgl)) (by omega)
end Go.Proofs.Ytnnokfecjdmjpab
