/- Puzzles (chapter 9): how a puzzle is made: mathematics, and the model's way by contracts. -/
import Derived.Test.YtnnokfecjdmjpabPzSpec5
import Derived.WalkKit
import Derived.WalkSpells
import Derived.WalkLawsBesides
import Derived.Lib.Hide
import Derived.Deep.LoopGhost
import Derived.Deep.QuietTactic
import Derived.Deep.RegionWith
import Derived.Deep.RegionLaw
import Derived.Deep.RegionHeld3
import Derived.Deep.RegionHeldLaw
import Derived.BigQuiet
namespace Go.Proofs.Ytnnokfecjdmjpab
open Go.RowKit
set_option linter.unusedVariables false
set_option linter.unusedSimpArgs false
/-- the next number -/
def nxz (z : Int) : Int := (227 * z + 2027) % 10007
theorem nxz_bd (z : Int) : 0 ≤ nxz z ∧ nxz z ≤ 10006 := by unfold nxz; omega
/-- the A of a clue of a kind that is made from a number -/
def mdA (k y : Int) : Int := if k = 0 ∨ k = 1 then y % 100 + 1 else if k = 3 then y % 8 + 2 else 0
theorem mdA_ka {k y : Int} (h0 : 0 ≤ k) (h4 : k ≤ 4) : kaB k (mdA k y) := by
  have hk : k = 0 ∨ k = 1 ∨ k = 2 ∨ k = 3 ∨ k = 4 := by omega
  unfold kaB mdA
  rcases hk with rfl | rfl | rfl | rfl | rfl <;> simp <;> omega
/-- the number behind the first clues -/
def mkZ (z : Int) : Nat → Int
  | 0 => z
  | j + 1 => nxz (nxz (mkZ z j))
/-- the first clues -/
def mkK (z : Int) (j : Nat) : Int := nxz (mkZ z j) % 5
def mkN (u d z : Int) : Nat → List (Int × Int × Int)
  | 0 => []
  | j + 1 => mkN u d z j ++ [(mkK z j, mdA (mkK z j) (mkZ z (j + 1)), pzV (mkK z j) (mdA (mkK z j) (mkZ z (j + 1))) u d)]
theorem mkN_len (u d z : Int) : ∀ j, (mkN u d z j).length = j
  | 0 => rfl
  | j + 1 => by simp [mkN, mkN_len u d z j]
theorem mkZ_bd (z : Int) (h0 : 0 ≤ z) (h1 : z ≤ 10006) : ∀ j, 0 ≤ mkZ z j ∧ mkZ z j ≤ 10006
  | 0 => ⟨h0, h1⟩
  | j + 1 => nxz_bd _
theorem mkK_bd (z : Int) (j : Nat) : 0 ≤ mkK z j ∧ mkK z j ≤ 4 := by unfold mkK; omega
def mkO (u d n z : Int) : Bool := hdB u d && inB n 0 6 && inB z 0 9999
def mkP (u d n z : Int) : List (Int × Int × Int) := if mkO u d n z then mkN u d z n.toNat else []
set_option maxHeartbeats 1000000 in
theorem pzNext_any (z : Int) (h0 : 0 ≤ z) (h1 : z ≤ 10006) (w : World) :
    Calls Try.prog 33 #[.int .i64 z] w fun e w' => e = .returned (.int .i64 (nxz z)) ∧ w = w' := by
  go_enter Try.func33, Try.ntmps33
  go_wp2
  go_ret
  exact ⟨rI (by unfold nxz; rfl), rfl⟩
set_option maxHeartbeats 4000000 in
theorem pzOf_any (k y u d : Int) (h0 : 0 ≤ k) (h4 : k ≤ 4) (hy0 : 0 ≤ y) (hy1 : y ≤ 10006) (hh : hdB u d = true) (w : World) :
    Calls Try.prog 34 #[.int .i64 k, .int .i64 y, .agg #[.int .i64 u, .int .i64 d]] w fun e w' => e = .returned (.agg #[.int .i64 k, .int .i64 (mdA k y), .int .i64 (pzV k (mdA k y) u d)]) ∧ Below w.heap.size w w' := by
  have hk : k = 0 ∨ k = 1 ∨ k = 2 ∨ k = 3 ∨ k = 4 := by omega
  have HV := Lib.hid (fun w => pzValue_any k (mdA k y) u d (mdA_ka h0 h4) hh w)
  generalize pzV k (mdA k y) u d = V at *
  clear hh h0 h4
  rcases hk with rfl | rfl | rfl | rfl | rfl
  all_goals
    first
    | (rw [show mdA 0 y = y % 100 + 1 from rfl] at HV ⊢)
    | (rw [show mdA 1 y = y % 100 + 1 from rfl] at HV ⊢)
    | (rw [show mdA 2 y = 0 from rfl] at HV ⊢)
    | (rw [show mdA 3 y = y % 8 + 2 from rfl] at HV ⊢)
    | (rw [show mdA 4 y = 0 from rfl] at HV ⊢)
    go_enter Try.func34, Try.ntmps34
    go_wp2_with (first | (go_at_call 52; refine (HV.out _).mono ?_; rintro e w1 ⟨rfl, hb⟩; have hz := hb.size; (try simp only [World.size_alloc] at hz); have hcB := fun o => (bcell hb).1 (w.heap.size + 1) o (by first | omega | (simp; done) | (simp; omega)); have hfB := fun o => (bcell hb).2 (w.heap.size + 1) o (by first | omega | (simp; done) | (simp; omega))))
    have z0 : w1.cell? ⟨w.heap.size + 1, 0, none⟩ = some (.int .i64 0) := by rw [hcB]; go_simp
    have z1 : w1.cell? ⟨w.heap.size + 1, 1, none⟩ = some (.int .i64 0) := by rw [hcB]; go_simp
    have z2 : w1.cell? ⟨w.heap.size + 1, 2, none⟩ = some (.int .i64 0) := by rw [hcB]; go_simp
    refine bodyPost_ret (v := .agg #[_, _, .int .i64 V]) (by simp [results, Try.results34, go_sem, z0, z1, z2]) rfl ⟨rfl, by (repeat (first | assumption | exact Below.refl _ _ | refine Below.drew ?_ | refine below_drewN ?_ _ | refine Below.setCell ?_ (by first | omega | (simp; done) | (simp; omega)) _ | refine Below.alloc ?_ (by first | omega | (simp; done) | (simp; omega)) _ | refine bchain ?_ (by assumption) (by first | omega | (simp; done) | (simp; omega))))⟩
theorem far_cell {wr X w4 : World} {r : Option Nat} {b o : Nat} (hB : Below wr.heap.size wr X) (hg : X.grownBy w4 r) (hr : ∀ k, r = some k → b < k) (hb : b < wr.heap.size) : w4.cell? ⟨b, o, none⟩ = wr.cell? ⟨b, o, none⟩ ∧ w4.frozen? ⟨b, o, none⟩ = wr.frozen? ⟨b, o, none⟩ :=
  have hne : some b ≠ r := fun e => by have := hr b e.symm; omega
  have hlt : b < X.heap.size := Nat.lt_of_lt_of_le hb hB.size
  ⟨(hg.cell_far ⟨b, o, none⟩ hlt hne).trans ((bcell hB).1 b o hb), (hg.frozen_far ⟨b, o, none⟩ hlt hne).trans ((bcell hB).2 b o hb)⟩
set_option maxHeartbeats 8000000 in
set_option maxRecDepth 100000 in
theorem specMakePuzzle (u d n z : Int) (w : World) :
    Calls Try.prog 15 #[.agg #[.int .i64 u, .int .i64 d], .int .i64 n, .int .i64 z] w (RetP9 w (mkP u d n z) (mkO u d n z)) := by
  cases hh : hdB u d
  · rw [show mkO u d n z = false by simp [mkO, hh], show mkP u d n z = [] by simp [mkP, mkO, hh]]
    have HH := Lib.hid hh
    clear hh
    go_enter Try.func15, Try.ntmps15
    go_wp2_with (first | (go_at_call 31; refine (pzHidden_any u d _).mono ?_; rw [HH.out]; rintro e w0 ⟨rfl, hb0⟩; have hs0 := hb0.size; (try simp only [World.size_alloc] at hs0); have hk0 : w0.cell? ⟨w.heap.size, 0, none⟩ = some (.int .i64 u) := (by rw [(bcell hb0).1 _ _ (by first | omega | (simp; done) | (simp; omega))]; go_simp); have hk1 : w0.cell? ⟨w.heap.size, 1, none⟩ = some (.int .i64 d) := (by rw [(bcell hb0).1 _ _ (by first | omega | (simp; done) | (simp; omega))]; go_simp); have hx0 : w0.cell? ⟨w.heap.size + 1, 0, none⟩ = some (.slice none 0 0) := (by rw [(bcell hb0).1 _ _ (by first | omega | (simp; done) | (simp; omega))]; go_simp); have hfx : ∀ o, w0.frozen? ⟨w.heap.size + 1, o, none⟩ = false := (fun o => by rw [(bcell hb0).2 _ _ (by first | omega | (simp; done) | (simp; omega))]; go_simp); have B0 : Below w.heap.size w w0 := (by (repeat (first | assumption | exact Below.refl _ _ | refine Below.drew ?_ | refine below_drewN ?_ _ | refine Below.setCell ?_ (by first | omega | (simp; done) | (simp; omega)) _ | refine Below.alloc ?_ (by first | omega | (simp; done) | (simp; omega)) _ | refine bchain ?_ (by assumption) (by first | omega | (simp; done) | (simp; omega)))))))
    refine bodyPost_ret (v := .tuple #[.agg #[.slice none 0 0], .bool false]) (by simp [results, Try.results15, go_sem, hx0]) rfl ⟨none, 0, rfl, World.ownsRow_nil _ _ _ _, by (repeat (first | assumption | exact Below.refl _ _ | refine Below.drew ?_ | refine below_drewN ?_ _ | refine Below.setCell ?_ (by first | omega | (simp; done) | (simp; omega)) _ | refine Below.alloc ?_ (by first | omega | (simp; done) | (simp; omega)) _ | refine bchain ?_ (by assumption) (by first | omega | (simp; done) | (simp; omega))))⟩
  cases h1 : inB n 0 6
  · rw [show mkO u d n z = false by simp [mkO, h1], show mkP u d n z = [] by simp [mkP, mkO, h1]]
    have HH := Lib.hid hh
    have HI := Lib.hid h1
    clear hh h1
    go_enter Try.func15, Try.ntmps15
    go_wp2_with (first | (go_at_call 31; refine (pzHidden_any u d _).mono ?_; rw [HH.out]; rintro e w0 ⟨rfl, hb0⟩; have hs0 := hb0.size; (try simp only [World.size_alloc] at hs0); have hk0 : w0.cell? ⟨w.heap.size, 0, none⟩ = some (.int .i64 u) := (by rw [(bcell hb0).1 _ _ (by first | omega | (simp; done) | (simp; omega))]; go_simp); have hk1 : w0.cell? ⟨w.heap.size, 1, none⟩ = some (.int .i64 d) := (by rw [(bcell hb0).1 _ _ (by first | omega | (simp; done) | (simp; omega))]; go_simp); have hx0 : w0.cell? ⟨w.heap.size + 1, 0, none⟩ = some (.slice none 0 0) := (by rw [(bcell hb0).1 _ _ (by first | omega | (simp; done) | (simp; omega))]; go_simp); have hfx : ∀ o, w0.frozen? ⟨w.heap.size + 1, o, none⟩ = false := (fun o => by rw [(bcell hb0).2 _ _ (by first | omega | (simp; done) | (simp; omega))]; go_simp); have B0 : Below w.heap.size w w0 := (by (repeat (first | assumption | exact Below.refl _ _ | refine Below.drew ?_ | refine below_drewN ?_ _ | refine Below.setCell ?_ (by first | omega | (simp; done) | (simp; omega)) _ | refine Below.alloc ?_ (by first | omega | (simp; done) | (simp; omega)) _ | refine bchain ?_ (by assumption) (by first | omega | (simp; done) | (simp; omega)))))) | (go_at_call 32; refine (specIn _ _ _ _).mono ?_; rw [HI.out]; rintro e w1 ⟨rfl, rfl⟩))
    refine bodyPost_ret (v := .tuple #[.agg #[.slice none 0 0], .bool false]) (by simp [results, Try.results15, go_sem, hx0]) rfl ⟨none, 0, rfl, World.ownsRow_nil _ _ _ _, by (repeat (first | assumption | exact Below.refl _ _ | refine Below.drew ?_ | refine below_drewN ?_ _ | refine Below.setCell ?_ (by first | omega | (simp; done) | (simp; omega)) _ | refine Below.alloc ?_ (by first | omega | (simp; done) | (simp; omega)) _ | refine bchain ?_ (by assumption) (by first | omega | (simp; done) | (simp; omega))))⟩
  cases h2 : inB z 0 9999
  · rw [show mkO u d n z = false by simp [mkO, h2], show mkP u d n z = [] by simp [mkP, mkO, h2]]
    have HH := Lib.hid hh
    have HI := Lib.hid h1
    have HJ := Lib.hid h2
    clear hh h1 h2
    go_enter Try.func15, Try.ntmps15
    go_wp2_with (first | (go_at_call 31; refine (pzHidden_any u d _).mono ?_; rw [HH.out]; rintro e w0 ⟨rfl, hb0⟩; have hs0 := hb0.size; (try simp only [World.size_alloc] at hs0); have hk0 : w0.cell? ⟨w.heap.size, 0, none⟩ = some (.int .i64 u) := (by rw [(bcell hb0).1 _ _ (by first | omega | (simp; done) | (simp; omega))]; go_simp); have hk1 : w0.cell? ⟨w.heap.size, 1, none⟩ = some (.int .i64 d) := (by rw [(bcell hb0).1 _ _ (by first | omega | (simp; done) | (simp; omega))]; go_simp); have hx0 : w0.cell? ⟨w.heap.size + 1, 0, none⟩ = some (.slice none 0 0) := (by rw [(bcell hb0).1 _ _ (by first | omega | (simp; done) | (simp; omega))]; go_simp); have hfx : ∀ o, w0.frozen? ⟨w.heap.size + 1, o, none⟩ = false := (fun o => by rw [(bcell hb0).2 _ _ (by first | omega | (simp; done) | (simp; omega))]; go_simp); have B0 : Below w.heap.size w w0 := (by (repeat (first | assumption | exact Below.refl _ _ | refine Below.drew ?_ | refine below_drewN ?_ _ | refine Below.setCell ?_ (by first | omega | (simp; done) | (simp; omega)) _ | refine Below.alloc ?_ (by first | omega | (simp; done) | (simp; omega)) _ | refine bchain ?_ (by assumption) (by first | omega | (simp; done) | (simp; omega)))))) | (go_at_call 32; refine (specIn _ _ _ _).mono ?_; (first | rw [HI.out] | rw [HJ.out]); rintro e w1 ⟨rfl, rfl⟩))
    refine bodyPost_ret (v := .tuple #[.agg #[.slice none 0 0], .bool false]) (by simp [results, Try.results15, go_sem, hx0]) rfl ⟨none, 0, rfl, World.ownsRow_nil _ _ _ _, by (repeat (first | assumption | exact Below.refl _ _ | refine Below.drew ?_ | refine below_drewN ?_ _ | refine Below.setCell ?_ (by first | omega | (simp; done) | (simp; omega)) _ | refine Below.alloc ?_ (by first | omega | (simp; done) | (simp; omega)) _ | refine bchain ?_ (by assumption) (by first | omega | (simp; done) | (simp; omega))))⟩
  · have bn := inB_iff.1 h1
    have bz := inB_iff.1 h2
    obtain ⟨m, rfl⟩ : ∃ m : Nat, n = (m : Int) := ⟨n.toNat, by omega⟩
    rw [show mkO u d (m : Int) z = true by simp [mkO, hh, h1, h2], show mkP u d (m : Int) z = mkN u d z m by simp [mkP, mkO, hh, h1, h2]]
    have HHd := Lib.hid hh
    have HH := Lib.hid hh
    have HI := Lib.hid h1
    have HJ := Lib.hid h2
    have HZ := Lib.hid (fun j => mkZ_bd z bz.1 (by omega) j)
    have HK := Lib.hid (fun j => mkK_bd z j)
    have HLN := Lib.hid (fun j => mkN_len u d z j)
    have hm6 : m ≤ 6 := by omega
    obtain ⟨i0, hi, hz0', hz1', hz2'⟩ := info_parts cluesInfo
    clear hh h1 h2 bz bn
    go_enter Try.func15, Try.ntmps15
    go_wp2_with (first | (go_at_call 31; refine (pzHidden_any u d _).mono ?_; rw [HH.out]; rintro e w0 ⟨rfl, hb0⟩; have hs0 := hb0.size; (try simp only [World.size_alloc] at hs0); have hk0 : w0.cell? ⟨w.heap.size, 0, none⟩ = some (.int .i64 u) := (by rw [(bcell hb0).1 _ _ (by first | omega | (simp; done) | (simp; omega))]; go_simp); have hk1 : w0.cell? ⟨w.heap.size, 1, none⟩ = some (.int .i64 d) := (by rw [(bcell hb0).1 _ _ (by first | omega | (simp; done) | (simp; omega))]; go_simp); have hx0 : w0.cell? ⟨w.heap.size + 1, 0, none⟩ = some (.slice none 0 0) := (by rw [(bcell hb0).1 _ _ (by first | omega | (simp; done) | (simp; omega))]; go_simp); have hfx : ∀ o, w0.frozen? ⟨w.heap.size + 1, o, none⟩ = false := (fun o => by rw [(bcell hb0).2 _ _ (by first | omega | (simp; done) | (simp; omega))]; go_simp); have B0 : Below w.heap.size w w0 := (by (repeat (first | assumption | exact Below.refl _ _ | refine Below.drew ?_ | refine below_drewN ?_ _ | refine Below.setCell ?_ (by first | omega | (simp; done) | (simp; omega)) _ | refine Below.alloc ?_ (by first | omega | (simp; done) | (simp; omega)) _ | refine bchain ?_ (by assumption) (by first | omega | (simp; done) | (simp; omega)))))) | (go_at_call 32; refine (specIn _ _ _ _).mono ?_; (first | rw [HI.out] | rw [HJ.out]); rintro e w1 ⟨rfl, rfl⟩))
    have HB0 := Lib.hid (show Below w.heap.size w (w0.alloc (.cells #[.slice none 0 0] 30)) from B0.alloc B0.size _)
    have HS0 := Lib.hid (show w.heap.size + 1 < w0.heap.size + 1 ∧ (w0.alloc (.cells #[.slice none 0 0] 30)).cell? ⟨w.heap.size, 0, none⟩ = some (.int .i64 u) ∧ (w0.alloc (.cells #[.slice none 0 0] 30)).cell? ⟨w.heap.size, 1, none⟩ = some (.int .i64 d) from ⟨by omega, (World.cell?_alloc_past _ _ _ (by omega)).trans hk0, (World.cell?_alloc_past _ _ _ (by omega)).trans hk1⟩)
    have HX0 := Lib.hid (show (w0.alloc (.cells #[.slice none 0 0] 30)).cell? ⟨w.heap.size + 1, 0, none⟩ = some (.slice none 0 0) ∧ ∀ o, (w0.alloc (.cells #[.slice none 0 0] 30)).frozen? ⟨w.heap.size + 1, o, none⟩ = false from ⟨(World.cell?_alloc_past _ _ _ (by omega)).trans hx0, fun o => (World.frozen?_alloc_past _ _ _ (by omega)).trans (hfx o)⟩)
    have HP0 := Lib.hid (show (w0.alloc (.cells #[.slice none 0 0] 30)).cell? ⟨w0.heap.size, 0, none⟩ = some (.slice none 0 0) ∧ ∀ o, (w0.alloc (.cells #[.slice none 0 0] 30)).frozen? ⟨w0.heap.size, o, none⟩ = false from ⟨by go_simp, fun o => by go_simp⟩)
    have hzW : (w0.alloc (.cells #[.slice none 0 0] 30)).heap.size = w0.heap.size + 1 := by simp
    obtain ⟨P, hP⟩ : ∃ P, P = w0.heap.size := ⟨_, rfl⟩
    rw [← hP] at HP0 hzW ⊢
    have hPl : w.heap.size + 1 < P := by omega
    generalize (w0.alloc (.cells #[.slice none 0 0] 30)) = W1 at *
    clear hk0 hk1 hx0 hfx hb0 B0 hP
    go_loopg [1, 9] m (fun f v1 v9 wr => ∃ (j : Nat) (ao : Option Addr) (co : Nat), v1 = .int .i64 (f : Int) ∧ v9 = .int .i64 (mkZ z j) ∧ j + f = m ∧ (P < wr.heap.size ∧ wr.cell? ⟨P, 0, none⟩ = some (.slice ao j co) ∧ ∀ o, wr.frozen? ⟨P, o, none⟩ = false) ∧ wr.ownsRow (P + 1) 63 3 (.slice ao j co) j (cs3 (mkN u d z j)) ∧ (wr.cell? ⟨w.heap.size, 0, none⟩ = some (.int .i64 u) ∧ wr.cell? ⟨w.heap.size, 1, none⟩ = some (.int .i64 d)) ∧ (wr.cell? ⟨w.heap.size + 1, 0, none⟩ = some (.slice none 0 0) ∧ ∀ o, wr.frozen? ⟨w.heap.size + 1, o, none⟩ = false) ∧ Below w.heap.size w wr)
    case atStart => exact ⟨0, none, 0, rfl, rfl, by omega, ⟨by omega, HP0.out⟩, World.ownsRow_nil _ _ _ _, HS0.out.2, HX0.out, HB0.out⟩
    case round =>
      obtain ⟨j, ao, co, rfl, rfl, q1, ⟨hPs, hPc, hPf⟩, hO, ⟨hs0', hs1'⟩, ⟨hr0, hr1⟩, hbel⟩ := hrel
      have hsz := hbel.size
      by_cases hj : 0 < gk
      · have hjI : (0 : Int) < (gk : Int) := by omega
        obtain ⟨G, rfl⟩ : ∃ G, gk = G + 1 := ⟨gk - 1, by omega⟩
        have hsub : ((G + 1 : Nat) : Int) - 1 = (G : Int) := by omega
        have hj6 : j ≤ 6 := by omega
        have hG6 : G ≤ 6 := by omega
        have Q1 := Lib.hid q1
        have bZ := HZ.out j
        have bY1 := nxz_bd (mkZ z j)
        have bK := HK.out j
        have bY2 := HZ.out (j + 1)
        have eK := Lib.hid (show nxz (mkZ z j) % 5 = mkK z j from rfl)
        have eY := Lib.hid (show mkZ z (j + 1) = nxz (nxz (mkZ z j)) from rfl)
        obtain ⟨Y, hY⟩ : ∃ Y, mkZ z (j + 1) = Y := ⟨_, rfl⟩
        have HY := Lib.hid hY
        rw [hY] at bY2 eY
        clear hY
        have HNX := Lib.hid (fun w => pzNext_any (mkZ z j) bZ.1 bZ.2 w)
        have HNX2 := Lib.hid (fun w => pzNext_any (nxz (mkZ z j)) bY1.1 bY1.2 w)
        have HOF := Lib.hid (fun w => pzOf_any (mkK z j) (mkZ z (j + 1)) u d bK.1 bK.2 (HY.out ▸ bY2.1) (HY.out ▸ bY2.2) HHd.out w)
        have HNJ := Lib.hid (show mkN u d z (j + 1) = mkN u d z j ++ [(mkK z j, mdA (mkK z j) (mkZ z (j + 1)), pzV (mkK z j) (mdA (mkK z j) (mkZ z (j + 1))) u d)] from rfl)
        rw [← eY.out] at HNX2
        have HYE := Lib.hid (show Value.int .i64 Y = .int .i64 (mkZ z (j + 1)) by rw [HY.out])
        rw [HY.out] at HOF HNJ
        generalize pzV (mkK z j) (mdA (mkK z j) Y) u d = V at *
        generalize mdA (mkK z j) Y = M at *
        clear HY
        clear eY
        generalize mkZ z j = Z at *
        generalize nxz Z = Y1 at *
        have hYK := eK.out
        generalize mkK z j = K at *
        have HO := Lib.hid hO
        have HB := Lib.hid hbel
        clear hO hbel q1 eK
        go_wp2_with (first | (go_at_call 33; refine (HNX.out _).mono ?_; rintro e w2 ⟨rfl, rfl⟩) | (go_at_call 33; refine (HNX2.out _).mono ?_; rintro e w2 ⟨rfl, rfl⟩))
        have hlw0 : w.heap.size < wr.heap.size := by omega
        have hlw1 : w.heap.size + 1 < wr.heap.size := by omega
        go_region_law (first
            | (go_simp; go_at_call_of 34 (Value.int .i64 K); refine (HOF.out _).mono ?_; rintro e w3 ⟨rfl, hb3⟩; have B3 : Below wr.heap.size wr w3 := (by (repeat (first | assumption | exact Below.refl _ _ | refine Below.drew ?_ | refine below_drewN ?_ _ | refine Below.setCell ?_ (by first | omega | (simp; done) | (simp; omega)) _ | refine Below.alloc ?_ (by first | omega | (simp; done) | (simp; omega)) _ | refine bchain ?_ (by assumption) (by first | omega | (simp; done) | (simp; omega))))); have z3 := B3.size; have D3 : Below w.heap.size w w3 := HB.out.trans (B3.mono HB.out.size); have ht0 : w3.cell? ⟨w.heap.size, 0, none⟩ = some (.int .i64 u) := ((bcell B3).1 _ _ hlw0).trans hs0'; have ht1 : w3.cell? ⟨w.heap.size, 1, none⟩ = some (.int .i64 d) := ((bcell B3).1 _ _ hlw0).trans hs1'; have hPc3 : w3.cell? ⟨P, 0, none⟩ = some (.slice ao j co) := ((bcell B3).1 _ _ hPs).trans hPc; have HO3 := Lib.hid (row_below HO.out B3); have hlw3 : w.heap.size < w3.heap.size := (by omega); have hPs3 : P < w3.heap.size := (by omega); clear hb3)
            | (refine step_append_anyN _ rfl _ _ 28 rfl (P + 1) 63 i0 (.agg #[.int .i64 0, .int .i64 0, .int .i64 0]) 3 24 Try.underlying28 hi hz0' hz1' hz2' rfl (by decide) _ _ _ rfl (row_below (w := w3) HO3.out (by (repeat (first | assumption | exact Below.refl _ _ | refine Below.drew ?_ | refine below_drewN ?_ _ | refine Below.setCell ?_ (by first | omega | (simp; done) | (simp; omega)) _ | refine Below.alloc ?_ (by first | omega | (simp; done) | (simp; omega)) _ | refine bchain ?_ (by assumption) (by first | omega | (simp; done) | (simp; omega)))))) ⟨w3.heap.size, 0, none⟩ 1 1 [.int .i64 K, .int .i64 M, .int .i64 V] rfl rfl (cell_three_new _ _ _ _ _) (fun u hu => by simp at hu; rcases hu with rfl | rfl | rfl <;> rfl) (by unfold maxLen; omega) (by omega) (by first | omega | (simp; done) | (simp; omega)) (j + 1) rfl ?_; intro a4 c4 w4 hO4 hg4; have hfar := fun b o (hb : b < wr.heap.size) (hP : b ≤ P) => far_cell (o := o) (show Below wr.heap.size wr _ from by (repeat (first | assumption | exact Below.refl _ _ | refine Below.drew ?_ | refine below_drewN ?_ _ | refine Below.setCell ?_ (by first | omega | (simp; done) | (simp; omega)) _ | refine Below.alloc ?_ (by first | omega | (simp; done) | (simp; omega)) _ | refine bchain ?_ (by assumption) (by first | omega | (simp; done) | (simp; omega))))) hg4 (fun x hx => by have := (HO3.out.lt x hx).1; omega) hb; have z4 := hg4.size; (try simp only [World.size_alloc, World.size_drew] at z4); have D4 : Below w.heap.size w w4 := Below.grown (show Below w.heap.size w _ from by (repeat (first | assumption | exact Below.refl _ _ | refine Below.drew ?_ | refine below_drewN ?_ _ | refine Below.setCell ?_ (by first | omega | (simp; done) | (simp; omega)) _ | refine Below.alloc ?_ (by first | omega | (simp; done) | (simp; omega)) _ | refine bchain ?_ (by assumption) (by first | omega | (simp; done) | (simp; omega))))) hg4 (by first | omega | (simp; done) | (simp; omega)) (fun x hx => by have := (HO3.out.lt x hx).1; omega); have hv0 : w4.cell? ⟨w.heap.size, 0, none⟩ = some (.int .i64 u) := (hfar _ 0 hlw0 (by omega)).1.trans hs0'; have hv1 : w4.cell? ⟨w.heap.size, 1, none⟩ = some (.int .i64 d) := (hfar _ 1 hlw0 (by omega)).1.trans hs1'; have hPc4 : w4.cell? ⟨P, 0, none⟩ = some (.slice ao j co) := (hfar _ 0 hPs (by omega)).1.trans hPc; have hPf4 : ∀ o, w4.frozen? ⟨P, o, none⟩ = false := (fun o => (hfar _ o hPs (by omega)).2.trans (hPf o)); have hR4 : w4.cell? ⟨w.heap.size + 1, 0, none⟩ = some (.slice none 0 0) := (hfar _ 0 hlw1 (by omega)).1.trans hr0; have hRf4 : ∀ o, w4.frozen? ⟨w.heap.size + 1, o, none⟩ = false := (fun o => (hfar _ o hlw1 (by omega)).2.trans (hr1 o)); have HO4 := Lib.hid hO4; clear hg4 hfar))
        all_goals
          go_wp2_with fail
          have hcs : cs3 (mkN u d z (j + 1)) = cs3 (mkN u d z j) ++ [.int .i64 K, .int .i64 M, .int .i64 V] := by rw [HNJ.out, cs3_append]; rfl
          go_roundg G
          case rel => exact ⟨j + 1, a4, c4, rfl, HYE.out, by have := Q1.out; omega, ⟨by simp; omega, by go_simp, fun o => by go_simp⟩, by rw [hcs]; exact row_setLow HO4.out _ _ (by simp), ⟨by go_simp, by go_simp⟩, ⟨by go_simp, fun o => by go_simp⟩, D4.setCell (by simp; omega) _⟩
          case measure => omega
      · obtain rfl : gk = 0 := by omega
        obtain rfl : j = m := by omega
        have HO := Lib.hid hO
        have HB := Lib.hid hbel
        have hl := HLN.out j
        clear hO hbel q1 hj
        go_wp2_with fail
        refine bodyPost_ret (v := .tuple #[.agg #[.slice ao j co], .bool true]) (by simp [results, Try.results15, go_sem, hr0]) rfl ⟨ao, co, by rw [hl], ?_, HB.out.setCell (by simp) _⟩
        unfold OwnC
        rw [hl]
        exact row_low (row_setLow HO.out _ _ (by simp; omega)) (by omega)
end Go.Proofs.Ytnnokfecjdmjpab
