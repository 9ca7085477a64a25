/- Puzzles (chapter 9): the model's functions that answer lists and puzzles by contracts. -/
import Derived.Test.YtnnokfecjdmjpaaPzSpec3
import Derived.Test.YtnnokfecjdmjpaaSlices
import Derived.WalkKit
import Derived.WalkSpells
import Derived.WalkLawsBesides
import Derived.Lib.Hide
import Derived.Deep.LoopGhost
import Derived.Deep.QuietTactic
import Derived.Deep.RegionWith
import Derived.Deep.RegionHeld3
import Derived.Deep.RegionHeldLaw
import Derived.BigQuiet
namespace Go.Proofs.Ytnnokfecjdmjpaa
open Go.RowKit
set_option linter.unusedVariables false
set_option linter.unusedSimpArgs false
theorem own_lit_at (w : World) (base g : Nat) (e : TypeId) (hg : w.heap.size = g) (hb : base ≤ g) : (w.alloc (.cells #[] e)).ownsRow base e 3 (.slice (some ⟨g, 0, none⟩) 0 0) 0 [] := by
  subst hg
  exact World.ownsRow_lit w #[] 0 hb (by decide) rfl
theorem three_kept {X w2 : World} {r : Option Nat} {g : Nat} {u v z : Value} (hg : X.grownBy w2 r) (hr : some g ≠ r) (hlt : g < X.heap.size) (h0 : X.cell? ⟨g, 0, none⟩ = some u) (h1 : X.cell? ⟨g, 1, none⟩ = some v) (h2 : X.cell? ⟨g, 2, none⟩ = some z) : ∀ (j : Nat) (x : Value), [u, v, z][j]? = some x → w2.cell? ((⟨g, 0, none⟩ : Addr).add j) = some x :=
  cell_three_at ((hg.cell_far ⟨g, 0, none⟩ hlt hr).trans h0) ((hg.cell_far ⟨g, 1, none⟩ hlt hr).trans h1) ((hg.cell_far ⟨g, 2, none⟩ hlt hr).trans h2)
/-- a cell of a block before all that a row may lie in -/
theorem box_far {w w' : World} {r : Option Nat} {B o : Nat} (hg : w.grownBy w' r) (hr : ∀ k, r = some k → B < k) (hlt : B < w.heap.size) : w'.cell? ⟨B, o, none⟩ = w.cell? ⟨B, o, none⟩ :=
  hg.cell_far ⟨B, o, none⟩ hlt (fun e => by have := hr B e.symm; omega)
/-- the needless ones among the first -/
def ndN (xs : List (Int × Int × Int)) : Nat → List Int
  | 0 => []
  | k + 1 => ndN xs k ++ (if (sol (drp xs k)).length = (sol xs).length then [(k : Int)] else [])
theorem ndN_len (xs : List (Int × Int × Int)) : ∀ k, (ndN xs k).length ≤ k
  | 0 => Nat.le_refl _
  | k + 1 => by
    have := ndN_len xs k
    simp only [ndN, List.length_append]
    split <;> simp <;> omega
def ndL (xs : List (Int × Int × Int)) : List Int := if pzG xs then ndN xs xs.length else []
/-- how many are left by the first ones -/
def lfN (xs : List (Int × Int × Int)) : Nat → List Int
  | 0 => []
  | k + 1 => lfN xs k ++ [((sol (xs.take k)).length : Int)]
theorem lfN_len (xs : List (Int × Int × Int)) : ∀ k, (lfN xs k).length = k
  | 0 => rfl
  | k + 1 => by simp [lfN, lfN_len xs k]
def lfL (xs : List (Int × Int × Int)) : List Int := if pzG xs then lfN xs (xs.length + 1) else []
theorem clA_take {xs : List (Int × Int × Int)} (k : Nat) (h : clA xs = true) : clA (xs.take k) = true := clA_sub h fun _ hp => List.mem_of_mem_take hp
/-- the first ones of a slice -/
theorem RdT.first {w : World} {a : Option Addr} {xs : List (Int × Int × Int)} (h : RdT w a xs) (k : Nat) : RdT w a (xs.take k) := by
  rcases h with h | ⟨b, off, rfl, hlt, hc⟩
  · exact .inl (by rw [h]; simp)
  · have := RdT.part hlt hc 0 k
    simpa using this
/-- without the one with an index -/
def dpB (xs : List (Int × Int × Int)) (k : Int) : Bool := pzG xs && inB k 0 ((xs.length : Int) - 1)
def dpL (xs : List (Int × Int × Int)) (k : Int) : List (Int × Int × Int) := if dpB xs k then drp xs k.toNat else []
/-- with one more -/
def adB (xs : List (Int × Int × Int)) (k a b : Int) : Bool := pzG xs && clB k a b && !decide (xs.length = 6)
def adL (xs : List (Int × Int × Int)) (k a b : Int) : List (Int × Int × Int) := if adB xs k a b then xs ++ [(k, a, b)] else []
set_option maxHeartbeats 4000000 in
theorem specLeftByClues (a : Option Addr) (cap : Nat) (xs : List (Int × Int × Int)) (w : World) (h : RdT w a xs) (hn : xs.length ≤ 1048576) (hcap : xs.length ≤ cap) :
    Calls Try.prog 51 #[.agg #[.slice a xs.length cap]] w (RetI9 w (lfL xs) (pzG xs)) := by
  cases hg : pzG xs
  · have HL := Lib.hid (show lfL xs = [] by simp [lfL, hg])
    have HG := Lib.hid hg
    clear hg
    go_enter Try.func51, Try.ntmps51
    go_wp2_with (first | (go_at_call 56; refine (pzGood_any a cap xs _ (h.below (by (repeat (first | assumption | exact Below.refl _ _ | refine Below.drew ?_ | refine below_drewN ?_ _ | refine Below.setCell ?_ (by first | omega | (simp; done) | (simp; omega)) _ | refine Below.alloc ?_ (by first | omega | (simp; done) | (simp; omega)) _ | refine bchain ?_ (by assumption) (by first | omega | (simp; done) | (simp; omega)))))) hn).mono ?_; rw [HG.out]; rintro e w0 ⟨rfl, hb0⟩; have hs0 := hb0.size; (try simp only [World.size_alloc] at hs0); have hc0 : w0.cell? ⟨w.heap.size, 0, none⟩ = some (.slice a xs.length cap) := (by rw [(bcell hb0).1 _ _ (by first | omega | (simp; done) | (simp; omega))]; go_simp); have B0 : Below w.heap.size w w0 := (by (repeat (first | assumption | exact Below.refl _ _ | refine Below.drew ?_ | refine below_drewN ?_ _ | refine Below.setCell ?_ (by first | omega | (simp; done) | (simp; omega)) _ | refine Below.alloc ?_ (by first | omega | (simp; done) | (simp; omega)) _ | refine bchain ?_ (by assumption) (by first | omega | (simp; done) | (simp; omega)))))))
    go_ret2
    rw [HL.out]
    exact ⟨none, 0, rfl, World.ownsRow_nil _ _ _ _, B0⟩
  · obtain ⟨i0, hi, hz0, hz1, hz2⟩ := info_parts intInfo
    have HL := Lib.hid (show lfL xs = lfN xs (xs.length + 1) by simp [lfL, hg])
    have HCL := Lib.hid (pzG_iff.1 hg).2
    have h6 := (pzG_iff.1 hg).1
    have HG := Lib.hid hg
    have HN := Lib.hid (fun k => lfN_len xs k)
    have HT := Lib.hid (fun k => clA_take k HCL.out)
    clear hg
    go_enter Try.func51, Try.ntmps51
    go_wp2_with (first | (go_at_call 56; refine (pzGood_any a cap xs _ (h.below (by (repeat (first | assumption | exact Below.refl _ _ | refine Below.drew ?_ | refine below_drewN ?_ _ | refine Below.setCell ?_ (by first | omega | (simp; done) | (simp; omega)) _ | refine Below.alloc ?_ (by first | omega | (simp; done) | (simp; omega)) _ | refine bchain ?_ (by assumption) (by first | omega | (simp; done) | (simp; omega)))))) hn).mono ?_; rw [HG.out]; rintro e w0 ⟨rfl, hb0⟩; have hs0 := hb0.size; (try simp only [World.size_alloc] at hs0); have hc0 : w0.cell? ⟨w.heap.size, 0, none⟩ = some (.slice a xs.length cap) := (by rw [(bcell hb0).1 _ _ (by first | omega | (simp; done) | (simp; omega))]; go_simp); have B0 : Below w.heap.size w w0 := (by (repeat (first | assumption | exact Below.refl _ _ | refine Below.drew ?_ | refine below_drewN ?_ _ | refine Below.setCell ?_ (by first | omega | (simp; done) | (simp; omega)) _ | refine Below.alloc ?_ (by first | omega | (simp; done) | (simp; omega)) _ | refine bchain ?_ (by assumption) (by first | omega | (simp; done) | (simp; omega)))))))
    have HB0 := Lib.hid B0
    have HX := Lib.hid (And.intro (show w.heap.size < w0.heap.size by omega) hc0)
    clear B0 hb0 hc0
    go_loopg [4, 5] (xs.length + 1) (fun f v4 v5 wr => ∃ (k : Nat) (ao : Option Addr) (co : Nat), v4 = .slice ao k co ∧ v5 = .int .i64 (k : Int) ∧ k + f = xs.length + 1 ∧ wr.ownsRow (w.heap.size + 1) 3 1 (.slice ao k co) k ((lfN xs k).map (Value.int .i64)) ∧ (w.heap.size < wr.heap.size ∧ wr.cell? ⟨w.heap.size, 0, none⟩ = some (.slice a xs.length cap)) ∧ Below w.heap.size w wr)
    case atStart => exact ⟨0, none, 0, rfl, rfl, by omega, World.ownsRow_nil _ _ _ _, HX.out, HB0.out⟩
    case round =>
      obtain ⟨k, ao, co, rfl, rfl, q1, hO, ⟨hlt, hcx⟩, hbel⟩ := hrel
      have hsz := hbel.size
      by_cases hk : k ≤ xs.length
      · have hkI : (k : Int) ≤ (xs.length : Int) := by omega
        have hkc : k ≤ cap := by omega
        have hkcI : (k : Int) ≤ (cap : Int) := by omega
        have HTk := HT.out k
        have hlk : (xs.take k).length = k := by rw [List.length_take]; omega
        have HA := Lib.hid (pzAll_any a cap (xs.take k) wr ((h.below hbel).first k) (by omega) HTk)
        have HNK := Lib.hid (show lfN xs (k + 1) = lfN xs k ++ [((sol (xs.take k)).length : Int)] from rfl)
        have HSL := sol_len (xs.take k)
        rw [hlk] at HA
        have HO := Lib.hid hO
        have HB := Lib.hid hbel
        clear hO hbel HTk hlk
        generalize sol (xs.take k) = S at *
        go_wp2_with (first | (go_at_call 69; refine HA.out.mono ?_; rintro e w1 ⟨a1, c1, rfl, hO1, hb1⟩; have hs1 := hb1.size; have hcx1 : w1.cell? ⟨w.heap.size, 0, none⟩ = some (.slice a xs.length cap) := (by rw [(bcell hb1).1 _ _ hlt]; exact hcx); have HO1 := Lib.hid (row_below HO.out hb1); have HB1 := Lib.hid (HB.out.trans (hb1.mono HB.out.size)); clear hO1 hb1) | (at_builtin; refine wpList_append_own _ rfl _ _ 60 rfl (w.heap.size + 1) 3 i0 (.int .i64 0) 1 8 Try.underlying60 hi hz0 hz1 hz2 rfl (by decide) _ _ _ rfl (HO1.out.alloc _) ⟨w1.heap.size, 0, none⟩ 1 1 [.int .i64 (S.length : Int)] rfl rfl (cell_one_new _ _ _) (fun u hu => by simp at hu; subst hu; rfl) (by unfold maxLen; omega) (by omega) (by simp; omega) ?_; intro v1 w3 hO3 hgrow hx; clear hx; have HG3 := Lib.hid hgrow; have HO3 := Lib.hid hO3; clear hgrow hO3))
        obtain ⟨a3, c3, rfl⟩ := own_formP HO3.out
        have hB3 := (HB1.out.alloc HB1.out.size _).grown HG3.out (by simp; omega) (fun x hx => by have := (HO1.out.lt x hx).1; omega)
        have hX3 := (box_far (o := 0) HG3.out (fun x hx => (HO1.out.lt x hx).1) (by simp; omega)).trans ((World.cell?_alloc_past _ _ _ (by omega)).trans hcx1)
        have hz3 : w.heap.size < w3.heap.size := by have := HG3.out.size; simp at this; omega
        have hcs : (lfN xs (k + 1)).map (Value.int .i64) = (lfN xs k).map (Value.int .i64) ++ [.int .i64 (S.length : Int)] := by rw [HNK.out, List.map_append]; rfl
        go_roundg (gk - 1)
        case rel => exact ⟨k + 1, a3, c3, rfl, by go_num, by omega, by rw [hcs]; exact HO3.out, ⟨hz3, hX3⟩, hB3⟩
        case measure => omega
      · have HK := Lib.hid (show xs.length + 1 = k by omega)
        have HO := Lib.hid (row_low (base' := w.heap.size) hO (by omega))
        have HB := Lib.hid hbel
        have hkI : ¬ ((k : Int) ≤ (xs.length : Int)) := by omega
        clear hO hbel q1
        go_wp2_with fail
        go_ret2
        have hl := HN.out k
        exact ⟨ao, co, by rw [HL.out, HK.out, hl]; rfl, by unfold Own; rw [HL.out, HK.out, hl]; exact HO.out, HB.out⟩
set_option maxHeartbeats 4000000 in
theorem specNeedlessClues (a : Option Addr) (cap : Nat) (xs : List (Int × Int × Int)) (w : World) (h : RdT w a xs) (hn : xs.length ≤ 1048576) (hcap : xs.length ≤ cap) :
    Calls Try.prog 41 #[.agg #[.slice a xs.length cap]] w (RetI9 w (ndL xs) (pzG xs)) := by
  cases hg : pzG xs
  · have HL := Lib.hid (show ndL xs = [] by simp [ndL, hg])
    have HG := Lib.hid hg
    clear hg
    go_enter Try.func41, Try.ntmps41
    go_wp2_with (first | (go_at_call 56; refine (pzGood_any a cap xs _ (h.below (by (repeat (first | assumption | exact Below.refl _ _ | refine Below.drew ?_ | refine below_drewN ?_ _ | refine Below.setCell ?_ (by first | omega | (simp; done) | (simp; omega)) _ | refine Below.alloc ?_ (by first | omega | (simp; done) | (simp; omega)) _ | refine bchain ?_ (by assumption) (by first | omega | (simp; done) | (simp; omega)))))) hn).mono ?_; rw [HG.out]; rintro e w0 ⟨rfl, hb0⟩; have hs0 := hb0.size; (try simp only [World.size_alloc] at hs0); have hc0 : w0.cell? ⟨w.heap.size, 0, none⟩ = some (.slice a xs.length cap) := (by rw [(bcell hb0).1 _ _ (by first | omega | (simp; done) | (simp; omega))]; go_simp); have B0 : Below w.heap.size w w0 := (by (repeat (first | assumption | exact Below.refl _ _ | refine Below.drew ?_ | refine below_drewN ?_ _ | refine Below.setCell ?_ (by first | omega | (simp; done) | (simp; omega)) _ | refine Below.alloc ?_ (by first | omega | (simp; done) | (simp; omega)) _ | refine bchain ?_ (by assumption) (by first | omega | (simp; done) | (simp; omega)))))))
    go_ret2
    rw [HL.out]
    exact ⟨none, 0, rfl, World.ownsRow_nil _ _ _ _, B0⟩
  · obtain ⟨i0, hi, hz0, hz1, hz2⟩ := info_parts intInfo
    have HL := Lib.hid (show ndL xs = ndN xs xs.length by simp [ndL, hg])
    have HCL := Lib.hid (pzG_iff.1 hg).2
    have h6 := (pzG_iff.1 hg).1
    have HG := Lib.hid hg
    have HN := Lib.hid (fun k => ndN_len xs k)
    have HT := Lib.hid (fun k => drp_cl k HCL.out)
    have HDL := Lib.hid (fun k (hk : k < xs.length) => drp_len hk)
    clear hg
    obtain ⟨N, hN⟩ : ∃ N, N = (sol xs).length := ⟨_, rfl⟩
    have hN2 : N ≤ 156 := by rw [hN]; exact sol_len xs
    have HNK := Lib.hid (fun k => (show ndN xs (k + 1) = ndN xs k ++ (if (sol (drp xs k)).length = N then [(k : Int)] else []) by rw [hN]; rfl))
    have HA := Lib.hid (fun w h => pzAll_any a cap xs w h hn HCL.out)
    rw [← hN] at HA
    clear hN
    go_enter Try.func41, Try.ntmps41
    go_wp2_with (first | (go_at_call 56; refine (pzGood_any a cap xs _ (h.below (by (repeat (first | assumption | exact Below.refl _ _ | refine Below.drew ?_ | refine below_drewN ?_ _ | refine Below.setCell ?_ (by first | omega | (simp; done) | (simp; omega)) _ | refine Below.alloc ?_ (by first | omega | (simp; done) | (simp; omega)) _ | refine bchain ?_ (by assumption) (by first | omega | (simp; done) | (simp; omega)))))) hn).mono ?_; rw [HG.out]; rintro e w0 ⟨rfl, hb0⟩; have hs0 := hb0.size; (try simp only [World.size_alloc] at hs0); have hc0 : w0.cell? ⟨w.heap.size, 0, none⟩ = some (.slice a xs.length cap) := (by rw [(bcell hb0).1 _ _ (by first | omega | (simp; done) | (simp; omega))]; go_simp); have B0 : Below w.heap.size w w0 := (by (repeat (first | assumption | exact Below.refl _ _ | refine Below.drew ?_ | refine below_drewN ?_ _ | refine Below.setCell ?_ (by first | omega | (simp; done) | (simp; omega)) _ | refine Below.alloc ?_ (by first | omega | (simp; done) | (simp; omega)) _ | refine bchain ?_ (by assumption) (by first | omega | (simp; done) | (simp; omega)))))) | (go_at_call 69; refine (HA.out _ (h.below B0)).mono ?_; rintro e w1 ⟨a1, c1, rfl, hO1, hb1⟩; have hs1 := hb1.size; have hc1 : w1.cell? ⟨w.heap.size, 0, none⟩ = some (.slice a xs.length cap) := (by rw [(bcell hb1).1 _ _ (by omega)]; exact hc0)))
    have HB0 := Lib.hid (B0.trans (hb1.mono B0.size))
    have HX := Lib.hid (And.intro (show w.heap.size < w1.heap.size by omega) hc1)
    clear B0 hb0 hc0 hb1 hO1 hc1
    go_loopg [4, 17] xs.length (fun f v4 v17 wr => ∃ (k : Nat) (ao : Option Addr) (co : Nat), v4 = .slice ao (ndN xs k).length co ∧ v17 = .int .i64 (k : Int) ∧ k + f = xs.length ∧ wr.ownsRow (w.heap.size + 1) 3 1 (.slice ao (ndN xs k).length co) (ndN xs k).length ((ndN xs k).map (Value.int .i64)) ∧ (w.heap.size < wr.heap.size ∧ wr.cell? ⟨w.heap.size, 0, none⟩ = some (.slice a xs.length cap)) ∧ Below w.heap.size w wr)
    case atStart => exact ⟨0, none, 0, rfl, rfl, by omega, World.ownsRow_nil _ _ _ _, HX.out, HB0.out⟩
    case round =>
      obtain ⟨k, ao, co, rfl, rfl, q1, hO, ⟨hlt, hcx⟩, hbel⟩ := hrel
      have hsz := hbel.size
      by_cases hk : k < xs.length
      · have hkI : (k : Int) < (xs.length : Int) := by omega
        have HW := Lib.hid (fun w h => pzWithout_any a cap xs k w h hn hcap hk)
        have HD := Lib.hid (fun a c w h => pzAll_any a c (drp xs k) w h (by rw [HDL.out k hk]; omega) (HT.out k))
        have HDn := Lib.hid (HNK.out k)
        have hll := HN.out k
        have HO := Lib.hid hO
        have HB := Lib.hid hbel
        clear hO hbel
        generalize hDD : drp xs k = Dr at *
        clear hDD
        generalize hS : (sol Dr).length = S at *
        have hS2 : S ≤ 156 := by rw [← hS]; exact sol_len Dr
        clear hS
        generalize ndN xs k = L at *
        by_cases hq : S = N
        · have HE := Lib.hid (HDn.out.trans (by rw [if_pos hq]))
          have ex : ((S : Int) == (N : Int)) = true := by rw [hq]; simp
          clear hq HDn
          go_wp2_with (first | (go_at_call 82; refine (HW.out _ (h.below HB.out)).mono ?_; rintro e w2 ⟨a2, c2, rfl, hO2, hb2⟩; have hs2 := hb2.size; have hc2 : w2.cell? ⟨w.heap.size, 0, none⟩ = some (.slice a xs.length cap) := (by rw [(bcell hb2).1 _ _ hlt]; exact hcx); have HO2 := Lib.hid hO2; have HP2 := Lib.hid (row_below HO.out hb2); have HB2 := Lib.hid (HB.out.trans (hb2.mono HB.out.size)); clear hO2 hb2) | (go_at_call 69; refine (HD.out _ _ _ HO2.out.rd).mono ?_; rintro e w3 ⟨a3, c3, rfl, hO3, hb3⟩; have hs3 := hb3.size; have hc3 : w3.cell? ⟨w.heap.size, 0, none⟩ = some (.slice a xs.length cap) := (by rw [(bcell hb3).1 _ _ (by omega)]; exact hc2); have HP3 := Lib.hid (row_below HP2.out hb3); have HB3 := Lib.hid (HB2.out.trans (hb3.mono HB2.out.size)); clear hO3 hb3) | (at_builtin; refine wpList_append_own _ rfl _ _ 60 rfl (w.heap.size + 1) 3 i0 (.int .i64 0) 1 8 Try.underlying60 hi hz0 hz1 hz2 rfl (by decide) _ _ _ rfl (HP3.out.alloc _) ⟨w3.heap.size, 0, none⟩ 1 1 [.int .i64 (k : Int)] rfl rfl (cell_one_new _ _ _) (fun u hu => by simp at hu; subst hu; rfl) (by unfold maxLen; omega) (by omega) (by simp; omega) ?_; intro v1 w4 hO4 hgrow hx; clear hx; have HG4 := Lib.hid hgrow; have HO4 := Lib.hid hO4; clear hgrow hO4))
          obtain ⟨a4, c4, rfl⟩ := own_formP HO4.out
          have hB4 := (HB3.out.alloc HB3.out.size _).grown HG4.out (by simp; omega) (fun x hx => by have := (HP3.out.lt x hx).1; omega)
          have hX4 := (box_far (o := 0) HG4.out (fun x hx => (HP3.out.lt x hx).1) (by simp; omega)).trans ((World.cell?_alloc_past _ _ _ (by omega)).trans hc3)
          have hz4 : w.heap.size < w4.heap.size := by have := HG4.out.size; simp at this; omega
          have hcs : (L ++ [(k : Int)]).map (Value.int .i64) = L.map (Value.int .i64) ++ [.int .i64 (k : Int)] := by rw [List.map_append]; rfl
          have hln : (L ++ [(k : Int)]).length = L.length + 1 := by simp
          go_roundg (gk - 1)
          case rel => exact ⟨k + 1, a4, c4, by rw [HE.out, hln], by go_num, by omega, by rw [HE.out, hcs, hln]; exact HO4.out, ⟨hz4, hX4⟩, hB4⟩
          case measure => omega
        · have HE := Lib.hid (HDn.out.trans (by rw [if_neg hq, List.append_nil]))
          have ex : ((S : Int) == (N : Int)) = false := by rw [beq_eq_false_iff_ne]; omega
          clear hq HDn
          go_wp2_with (first | (go_at_call 82; refine (HW.out _ (h.below HB.out)).mono ?_; rintro e w2 ⟨a2, c2, rfl, hO2, hb2⟩; have hs2 := hb2.size; have hc2 : w2.cell? ⟨w.heap.size, 0, none⟩ = some (.slice a xs.length cap) := (by rw [(bcell hb2).1 _ _ hlt]; exact hcx); have HO2 := Lib.hid hO2; have HP2 := Lib.hid (row_below HO.out hb2); have HB2 := Lib.hid (HB.out.trans (hb2.mono HB.out.size)); clear hO2 hb2) | (go_at_call 69; refine (HD.out _ _ _ HO2.out.rd).mono ?_; rintro e w3 ⟨a3, c3, rfl, hO3, hb3⟩; have hs3 := hb3.size; have hc3 : w3.cell? ⟨w.heap.size, 0, none⟩ = some (.slice a xs.length cap) := (by rw [(bcell hb3).1 _ _ (by omega)]; exact hc2); have HP3 := Lib.hid (row_below HP2.out hb3); have HB3 := Lib.hid (HB2.out.trans (hb3.mono HB2.out.size)); clear hO3 hb3))
          go_roundg (gk - 1)
          case rel => exact ⟨k + 1, ao, co, by rw [HE.out], by go_num, by omega, by rw [HE.out]; exact HP3.out, ⟨by omega, hc3⟩, HB3.out⟩
          case measure => omega
      · have HK := Lib.hid (show xs.length = k by omega)
        have HO := Lib.hid (row_low (base' := w.heap.size) hO (by omega))
        have HB := Lib.hid hbel
        have hkI : ¬ ((k : Int) < (xs.length : Int)) := by omega
        clear hO hbel q1
        go_wp2_with fail
        go_ret2
        exact ⟨ao, co, by rw [HL.out, HK.out]; rfl, by unfold Own; rw [HL.out, HK.out]; exact HO.out, HB.out⟩
set_option maxHeartbeats 4000000 in
theorem specDropClue (a : Option Addr) (cap : Nat) (xs : List (Int × Int × Int)) (k : Int) (w : World) (h : RdT w a xs) (hn : xs.length ≤ 1048576) (hcap : xs.length ≤ cap) :
    Calls Try.prog 46 #[.agg #[.slice a xs.length cap], .int .i64 k] w (RetP9 w (dpL xs k) (dpB xs k)) := by
  cases hg : pzG xs
  · rw [show dpB xs k = false by simp [dpB, hg], show dpL xs k = [] by simp [dpL, dpB, hg]]
    have HG := Lib.hid hg
    clear hg
    go_enter Try.func46, Try.ntmps46
    go_wp2_with (first | (go_at_call 56; refine (pzGood_any a cap xs _ (h.below (by (repeat (first | assumption | exact Below.refl _ _ | refine Below.drew ?_ | refine below_drewN ?_ _ | refine Below.setCell ?_ (by first | omega | (simp; done) | (simp; omega)) _ | refine Below.alloc ?_ (by first | omega | (simp; done) | (simp; omega)) _ | refine bchain ?_ (by assumption) (by first | omega | (simp; done) | (simp; omega)))))) hn).mono ?_; rw [HG.out]; rintro e w0 ⟨rfl, hb0⟩; have hs0 := hb0.size; (try simp only [World.size_alloc] at hs0); have hc0 : w0.cell? ⟨w.heap.size, 0, none⟩ = some (.slice a xs.length cap) := (by rw [(bcell hb0).1 _ _ (by first | omega | (simp; done) | (simp; omega))]; go_simp); have hx0 : w0.cell? ⟨w.heap.size + 1, 0, none⟩ = some (.slice none 0 0) := (by rw [(bcell hb0).1 _ _ (by first | omega | (simp; done) | (simp; omega))]; go_simp); have hfx : ∀ o, w0.frozen? ⟨w.heap.size + 1, o, none⟩ = false := (fun o => by rw [(bcell hb0).2 _ _ (by first | omega | (simp; done) | (simp; omega))]; go_simp); have B0 : Below w.heap.size w w0 := (by (repeat (first | assumption | exact Below.refl _ _ | refine Below.drew ?_ | refine below_drewN ?_ _ | refine Below.setCell ?_ (by first | omega | (simp; done) | (simp; omega)) _ | refine Below.alloc ?_ (by first | omega | (simp; done) | (simp; omega)) _ | refine bchain ?_ (by assumption) (by first | omega | (simp; done) | (simp; omega)))))))
    refine bodyPost_ret (v := .tuple #[.agg #[.slice none 0 0], .bool false]) (by simp [results, Try.results46, go_sem, hx0]) rfl ⟨none, 0, rfl, World.ownsRow_nil _ _ _ _, by (repeat (first | assumption | exact Below.refl _ _ | refine Below.drew ?_ | refine below_drewN ?_ _ | refine Below.setCell ?_ (by first | omega | (simp; done) | (simp; omega)) _ | refine Below.alloc ?_ (by first | omega | (simp; done) | (simp; omega)) _ | refine bchain ?_ (by assumption) (by first | omega | (simp; done) | (simp; omega))))⟩
  · have h6 := (pzG_iff.1 hg).1
    cases hi0 : inB k 0 ((xs.length : Int) - 1)
    · rw [show dpB xs k = false by simp [dpB, hi0], show dpL xs k = [] by simp [dpL, dpB, hi0]]
      have HG := Lib.hid hg
      have HI := Lib.hid (fun w => hi0 ▸ specIn k 0 ((xs.length : Int) - 1) w)
      clear hg hi0
      go_enter Try.func46, Try.ntmps46
      go_wp2_with (first | (go_at_call 56; refine (pzGood_any a cap xs _ (h.below (by (repeat (first | assumption | exact Below.refl _ _ | refine Below.drew ?_ | refine below_drewN ?_ _ | refine Below.setCell ?_ (by first | omega | (simp; done) | (simp; omega)) _ | refine Below.alloc ?_ (by first | omega | (simp; done) | (simp; omega)) _ | refine bchain ?_ (by assumption) (by first | omega | (simp; done) | (simp; omega)))))) hn).mono ?_; rw [HG.out]; rintro e w0 ⟨rfl, hb0⟩; have hs0 := hb0.size; (try simp only [World.size_alloc] at hs0); have hc0 : w0.cell? ⟨w.heap.size, 0, none⟩ = some (.slice a xs.length cap) := (by rw [(bcell hb0).1 _ _ (by first | omega | (simp; done) | (simp; omega))]; go_simp); have hx0 : w0.cell? ⟨w.heap.size + 1, 0, none⟩ = some (.slice none 0 0) := (by rw [(bcell hb0).1 _ _ (by first | omega | (simp; done) | (simp; omega))]; go_simp); have hfx : ∀ o, w0.frozen? ⟨w.heap.size + 1, o, none⟩ = false := (fun o => by rw [(bcell hb0).2 _ _ (by first | omega | (simp; done) | (simp; omega))]; go_simp); have B0 : Below w.heap.size w w0 := (by (repeat (first | assumption | exact Below.refl _ _ | refine Below.drew ?_ | refine below_drewN ?_ _ | refine Below.setCell ?_ (by first | omega | (simp; done) | (simp; omega)) _ | refine Below.alloc ?_ (by first | omega | (simp; done) | (simp; omega)) _ | refine bchain ?_ (by assumption) (by first | omega | (simp; done) | (simp; omega)))))) | (go_at_call 86; refine (HI.out _).mono ?_; rintro e w1 ⟨rfl, rfl⟩))
      refine bodyPost_ret (v := .tuple #[.agg #[.slice none 0 0], .bool false]) (by simp [results, Try.results46, go_sem, hx0]) rfl ⟨none, 0, rfl, World.ownsRow_nil _ _ _ _, by (repeat (first | assumption | exact Below.refl _ _ | refine Below.drew ?_ | refine below_drewN ?_ _ | refine Below.setCell ?_ (by first | omega | (simp; done) | (simp; omega)) _ | refine Below.alloc ?_ (by first | omega | (simp; done) | (simp; omega)) _ | refine bchain ?_ (by assumption) (by first | omega | (simp; done) | (simp; omega))))⟩
    · have hb := inB_iff.1 hi0
      obtain ⟨m, rfl⟩ : ∃ m : Nat, k = (m : Int) := ⟨k.toNat, by omega⟩
      have hm : m < xs.length := by omega
      rw [show dpB xs (m : Int) = true by simp [dpB, hg, hi0], show dpL xs (m : Int) = drp xs m by simp [dpL, dpB, hg, hi0]]
      have HG := Lib.hid hg
      have HI := Lib.hid (fun w => hi0 ▸ specIn (m : Int) 0 ((xs.length : Int) - 1) w)
      have HW := Lib.hid (fun w h => pzWithout_any a cap xs m w h hn hcap hm)
      clear hg hi0
      generalize drp xs m = D at *
      go_enter Try.func46, Try.ntmps46
      go_wp2_with (first | (go_at_call 56; refine (pzGood_any a cap xs _ (h.below (by (repeat (first | assumption | exact Below.refl _ _ | refine Below.drew ?_ | refine below_drewN ?_ _ | refine Below.setCell ?_ (by first | omega | (simp; done) | (simp; omega)) _ | refine Below.alloc ?_ (by first | omega | (simp; done) | (simp; omega)) _ | refine bchain ?_ (by assumption) (by first | omega | (simp; done) | (simp; omega)))))) hn).mono ?_; rw [HG.out]; rintro e w0 ⟨rfl, hb0⟩; have hs0 := hb0.size; (try simp only [World.size_alloc] at hs0); have hc0 : w0.cell? ⟨w.heap.size, 0, none⟩ = some (.slice a xs.length cap) := (by rw [(bcell hb0).1 _ _ (by first | omega | (simp; done) | (simp; omega))]; go_simp); have hx0 : w0.cell? ⟨w.heap.size + 1, 0, none⟩ = some (.slice none 0 0) := (by rw [(bcell hb0).1 _ _ (by first | omega | (simp; done) | (simp; omega))]; go_simp); have hfx : ∀ o, w0.frozen? ⟨w.heap.size + 1, o, none⟩ = false := (fun o => by rw [(bcell hb0).2 _ _ (by first | omega | (simp; done) | (simp; omega))]; go_simp); have B0 : Below w.heap.size w w0 := (by (repeat (first | assumption | exact Below.refl _ _ | refine Below.drew ?_ | refine below_drewN ?_ _ | refine Below.setCell ?_ (by first | omega | (simp; done) | (simp; omega)) _ | refine Below.alloc ?_ (by first | omega | (simp; done) | (simp; omega)) _ | refine bchain ?_ (by assumption) (by first | omega | (simp; done) | (simp; omega)))))) | (go_at_call 86; refine (HI.out _).mono ?_; rintro e w1 ⟨rfl, rfl⟩) | (go_at_call 82; refine (HW.out _ (h.below B0)).mono ?_; rintro e w2 ⟨a2, c2, rfl, hO2, hb2⟩; have hs2 := hb2.size; have hx2 : w2.cell? ⟨w.heap.size + 1, 0, none⟩ = some (.slice none 0 0) := (by rw [(bcell hb2).1 _ _ (by omega)]; exact hx0); have hf2 : ∀ o, w2.frozen? ⟨w.heap.size + 1, o, none⟩ = false := (fun o => by rw [(bcell hb2).2 _ _ (by omega)]; exact hfx o)))
      refine bodyPost_ret (v := .tuple #[.agg #[.slice a2 D.length c2], .bool true]) (by simp [results, Try.results46, go_sem, hx2]) rfl ⟨a2, c2, rfl, ?_, by (repeat (first | assumption | exact Below.refl _ _ | refine Below.drew ?_ | refine below_drewN ?_ _ | refine Below.setCell ?_ (by first | omega | (simp; done) | (simp; omega)) _ | refine Below.alloc ?_ (by first | omega | (simp; done) | (simp; omega)) _ | refine bchain ?_ (by assumption) (by first | omega | (simp; done) | (simp; omega))))⟩
      exact row_low (row_setLow hO2 _ _ (by simp; omega)) (by omega)
set_option maxHeartbeats 8000000 in
set_option maxRecDepth 100000 in
theorem specAddClue (A : Addr) (cap : Nat) (xs : List (Int × Int × Int)) (k x y : Int) (w : World) (h : RdT w (some A) xs) (hn : xs.length ≤ 1048576) (hcap : xs.length ≤ cap) :
    Calls Try.prog 49 #[.agg #[.slice (some A) xs.length cap], .agg #[.int .i64 k, .int .i64 x, .int .i64 y]] w (RetP9 w (adL xs k x y) (adB xs k x y)) := by
  cases hg : pzG xs
  · rw [show adB xs k x y = false by simp [adB, hg], show adL xs k x y = [] by simp [adL, adB, hg]]
    have HG := Lib.hid hg
    clear hg
    go_enter Try.func49, Try.ntmps49
    go_wp2_with (first | (go_at_call 56; refine (pzGood_any (some A) cap xs _ (h.below (by (repeat (first | assumption | exact Below.refl _ _ | refine Below.drew ?_ | refine below_drewN ?_ _ | refine Below.setCell ?_ (by first | omega | (simp; done) | (simp; omega)) _ | refine Below.alloc ?_ (by first | omega | (simp; done) | (simp; omega)) _ | refine bchain ?_ (by assumption) (by first | omega | (simp; done) | (simp; omega)))))) hn).mono ?_; rw [HG.out]; rintro e w0 ⟨rfl, hb0⟩; have hs0 := hb0.size; (try simp only [World.size_alloc] at hs0); have hc0 : w0.cell? ⟨w.heap.size, 0, none⟩ = some (.slice (some A) xs.length cap) := (by rw [(bcell hb0).1 _ _ (by first | omega | (simp; done) | (simp; omega))]; go_simp); have hk0 : w0.cell? ⟨w.heap.size + 1, 0, none⟩ = some (.int .i64 k) := (by rw [(bcell hb0).1 _ _ (by first | omega | (simp; done) | (simp; omega))]; go_simp); have hk1 : w0.cell? ⟨w.heap.size + 1, 1, none⟩ = some (.int .i64 x) := (by rw [(bcell hb0).1 _ _ (by first | omega | (simp; done) | (simp; omega))]; go_simp); have hk2 : w0.cell? ⟨w.heap.size + 1, 2, none⟩ = some (.int .i64 y) := (by rw [(bcell hb0).1 _ _ (by first | omega | (simp; done) | (simp; omega))]; go_simp); have hx0 : w0.cell? ⟨w.heap.size + 1 + 1, 0, none⟩ = some (.slice none 0 0) := (by rw [(bcell hb0).1 _ _ (by first | omega | (simp; done) | (simp; omega))]; go_simp); have hfx : ∀ o, w0.frozen? ⟨w.heap.size + 1 + 1, o, none⟩ = false := (fun o => by rw [(bcell hb0).2 _ _ (by first | omega | (simp; done) | (simp; omega))]; go_simp); have B0 : Below w.heap.size w w0 := (by (repeat (first | assumption | exact Below.refl _ _ | refine Below.drew ?_ | refine below_drewN ?_ _ | refine Below.setCell ?_ (by first | omega | (simp; done) | (simp; omega)) _ | refine Below.alloc ?_ (by first | omega | (simp; done) | (simp; omega)) _ | refine bchain ?_ (by assumption) (by first | omega | (simp; done) | (simp; omega)))))))
    refine bodyPost_ret (v := .tuple #[.agg #[.slice none 0 0], .bool false]) (by simp [results, Try.results49, go_sem, hx0]) rfl ⟨none, 0, rfl, World.ownsRow_nil _ _ _ _, by (repeat (first | assumption | exact Below.refl _ _ | refine Below.drew ?_ | refine below_drewN ?_ _ | refine Below.setCell ?_ (by first | omega | (simp; done) | (simp; omega)) _ | refine Below.alloc ?_ (by first | omega | (simp; done) | (simp; omega)) _ | refine bchain ?_ (by assumption) (by first | omega | (simp; done) | (simp; omega))))⟩
  have h6 := (pzG_iff.1 hg).1
  cases hcl : clB k x y
  · rw [show adB xs k x y = false by simp [adB, hcl], show adL xs k x y = [] by simp [adL, adB, hcl]]
    have HG := Lib.hid hg
    have HC := Lib.hid hcl
    clear hg hcl
    go_enter Try.func49, Try.ntmps49
    go_wp2_with (first | (go_at_call 56; refine (pzGood_any (some A) cap xs _ (h.below (by (repeat (first | assumption | exact Below.refl _ _ | refine Below.drew ?_ | refine below_drewN ?_ _ | refine Below.setCell ?_ (by first | omega | (simp; done) | (simp; omega)) _ | refine Below.alloc ?_ (by first | omega | (simp; done) | (simp; omega)) _ | refine bchain ?_ (by assumption) (by first | omega | (simp; done) | (simp; omega)))))) hn).mono ?_; rw [HG.out]; rintro e w0 ⟨rfl, hb0⟩; have hs0 := hb0.size; (try simp only [World.size_alloc] at hs0); have hc0 : w0.cell? ⟨w.heap.size, 0, none⟩ = some (.slice (some A) xs.length cap) := (by rw [(bcell hb0).1 _ _ (by first | omega | (simp; done) | (simp; omega))]; go_simp); have hk0 : w0.cell? ⟨w.heap.size + 1, 0, none⟩ = some (.int .i64 k) := (by rw [(bcell hb0).1 _ _ (by first | omega | (simp; done) | (simp; omega))]; go_simp); have hk1 : w0.cell? ⟨w.heap.size + 1, 1, none⟩ = some (.int .i64 x) := (by rw [(bcell hb0).1 _ _ (by first | omega | (simp; done) | (simp; omega))]; go_simp); have hk2 : w0.cell? ⟨w.heap.size + 1, 2, none⟩ = some (.int .i64 y) := (by rw [(bcell hb0).1 _ _ (by first | omega | (simp; done) | (simp; omega))]; go_simp); have hx0 : w0.cell? ⟨w.heap.size + 1 + 1, 0, none⟩ = some (.slice none 0 0) := (by rw [(bcell hb0).1 _ _ (by first | omega | (simp; done) | (simp; omega))]; go_simp); have hfx : ∀ o, w0.frozen? ⟨w.heap.size + 1 + 1, o, none⟩ = false := (fun o => by rw [(bcell hb0).2 _ _ (by first | omega | (simp; done) | (simp; omega))]; go_simp); have B0 : Below w.heap.size w w0 := (by (repeat (first | assumption | exact Below.refl _ _ | refine Below.drew ?_ | refine below_drewN ?_ _ | refine Below.setCell ?_ (by first | omega | (simp; done) | (simp; omega)) _ | refine Below.alloc ?_ (by first | omega | (simp; done) | (simp; omega)) _ | refine bchain ?_ (by assumption) (by first | omega | (simp; done) | (simp; omega)))))) | (go_at_call 53; refine (pzClue_any k x y _).mono ?_; rw [HC.out]; rintro e w1 ⟨rfl, hb1⟩; have hs1 := hb1.size; have hd0 : w1.cell? ⟨w.heap.size, 0, none⟩ = some (.slice (some A) xs.length cap) := (by rw [(bcell hb1).1 _ _ (by omega)]; exact hc0); have hl0 : w1.cell? ⟨w.heap.size + 1, 0, none⟩ = some (.int .i64 k) := (by rw [(bcell hb1).1 _ _ (by omega)]; exact hk0); have hl1 : w1.cell? ⟨w.heap.size + 1, 1, none⟩ = some (.int .i64 x) := (by rw [(bcell hb1).1 _ _ (by omega)]; exact hk1); have hl2 : w1.cell? ⟨w.heap.size + 1, 2, none⟩ = some (.int .i64 y) := (by rw [(bcell hb1).1 _ _ (by omega)]; exact hk2); have hy0 : w1.cell? ⟨w.heap.size + 1 + 1, 0, none⟩ = some (.slice none 0 0) := (by rw [(bcell hb1).1 _ _ (by omega)]; exact hx0); have hfy : ∀ o, w1.frozen? ⟨w.heap.size + 1 + 1, o, none⟩ = false := (fun o => by rw [(bcell hb1).2 _ _ (by omega)]; exact hfx o); have B1 : Below w.heap.size w w1 := B0.trans (hb1.mono B0.size)))
    refine bodyPost_ret (v := .tuple #[.agg #[.slice none 0 0], .bool false]) (by simp [results, Try.results49, go_sem, hy0]) rfl ⟨none, 0, rfl, World.ownsRow_nil _ _ _ _, by (repeat (first | assumption | exact Below.refl _ _ | refine Below.drew ?_ | refine below_drewN ?_ _ | refine Below.setCell ?_ (by first | omega | (simp; done) | (simp; omega)) _ | refine Below.alloc ?_ (by first | omega | (simp; done) | (simp; omega)) _ | refine bchain ?_ (by assumption) (by first | omega | (simp; done) | (simp; omega))))⟩
  by_cases h66 : xs.length = 6
  · rw [show adB xs k x y = false by simp [adB, h66], show adL xs k x y = [] by simp [adL, adB, h66]]
    have HG := Lib.hid hg
    have HC := Lib.hid hcl
    have e6 : ((xs.length : Int) == 6) = true := by rw [h66]; rfl
    clear hg hcl h66
    go_enter Try.func49, Try.ntmps49
    go_wp2_with (first | (go_at_call 56; refine (pzGood_any (some A) cap xs _ (h.below (by (repeat (first | assumption | exact Below.refl _ _ | refine Below.drew ?_ | refine below_drewN ?_ _ | refine Below.setCell ?_ (by first | omega | (simp; done) | (simp; omega)) _ | refine Below.alloc ?_ (by first | omega | (simp; done) | (simp; omega)) _ | refine bchain ?_ (by assumption) (by first | omega | (simp; done) | (simp; omega)))))) hn).mono ?_; rw [HG.out]; rintro e w0 ⟨rfl, hb0⟩; have hs0 := hb0.size; (try simp only [World.size_alloc] at hs0); have hc0 : w0.cell? ⟨w.heap.size, 0, none⟩ = some (.slice (some A) xs.length cap) := (by rw [(bcell hb0).1 _ _ (by first | omega | (simp; done) | (simp; omega))]; go_simp); have hk0 : w0.cell? ⟨w.heap.size + 1, 0, none⟩ = some (.int .i64 k) := (by rw [(bcell hb0).1 _ _ (by first | omega | (simp; done) | (simp; omega))]; go_simp); have hk1 : w0.cell? ⟨w.heap.size + 1, 1, none⟩ = some (.int .i64 x) := (by rw [(bcell hb0).1 _ _ (by first | omega | (simp; done) | (simp; omega))]; go_simp); have hk2 : w0.cell? ⟨w.heap.size + 1, 2, none⟩ = some (.int .i64 y) := (by rw [(bcell hb0).1 _ _ (by first | omega | (simp; done) | (simp; omega))]; go_simp); have hx0 : w0.cell? ⟨w.heap.size + 1 + 1, 0, none⟩ = some (.slice none 0 0) := (by rw [(bcell hb0).1 _ _ (by first | omega | (simp; done) | (simp; omega))]; go_simp); have hfx : ∀ o, w0.frozen? ⟨w.heap.size + 1 + 1, o, none⟩ = false := (fun o => by rw [(bcell hb0).2 _ _ (by first | omega | (simp; done) | (simp; omega))]; go_simp); have B0 : Below w.heap.size w w0 := (by (repeat (first | assumption | exact Below.refl _ _ | refine Below.drew ?_ | refine below_drewN ?_ _ | refine Below.setCell ?_ (by first | omega | (simp; done) | (simp; omega)) _ | refine Below.alloc ?_ (by first | omega | (simp; done) | (simp; omega)) _ | refine bchain ?_ (by assumption) (by first | omega | (simp; done) | (simp; omega)))))) | (go_at_call 53; refine (pzClue_any k x y _).mono ?_; rw [HC.out]; rintro e w1 ⟨rfl, hb1⟩; have hs1 := hb1.size; have hd0 : w1.cell? ⟨w.heap.size, 0, none⟩ = some (.slice (some A) xs.length cap) := (by rw [(bcell hb1).1 _ _ (by omega)]; exact hc0); have hl0 : w1.cell? ⟨w.heap.size + 1, 0, none⟩ = some (.int .i64 k) := (by rw [(bcell hb1).1 _ _ (by omega)]; exact hk0); have hl1 : w1.cell? ⟨w.heap.size + 1, 1, none⟩ = some (.int .i64 x) := (by rw [(bcell hb1).1 _ _ (by omega)]; exact hk1); have hl2 : w1.cell? ⟨w.heap.size + 1, 2, none⟩ = some (.int .i64 y) := (by rw [(bcell hb1).1 _ _ (by omega)]; exact hk2); have hy0 : w1.cell? ⟨w.heap.size + 1 + 1, 0, none⟩ = some (.slice none 0 0) := (by rw [(bcell hb1).1 _ _ (by omega)]; exact hx0); have hfy : ∀ o, w1.frozen? ⟨w.heap.size + 1 + 1, o, none⟩ = false := (fun o => by rw [(bcell hb1).2 _ _ (by omega)]; exact hfx o); have B1 : Below w.heap.size w w1 := B0.trans (hb1.mono B0.size)))
    refine bodyPost_ret (v := .tuple #[.agg #[.slice none 0 0], .bool false]) (by simp [results, Try.results49, go_sem, hy0]) rfl ⟨none, 0, rfl, World.ownsRow_nil _ _ _ _, by (repeat (first | assumption | exact Below.refl _ _ | refine Below.drew ?_ | refine below_drewN ?_ _ | refine Below.setCell ?_ (by first | omega | (simp; done) | (simp; omega)) _ | refine Below.alloc ?_ (by first | omega | (simp; done) | (simp; omega)) _ | refine bchain ?_ (by assumption) (by first | omega | (simp; done) | (simp; omega))))⟩
  · rw [show adB xs k x y = true by simp [adB, hg, hcl, h66], show adL xs k x y = xs ++ [(k, x, y)] by simp [adL, adB, hg, hcl, h66]]
    have HG := Lib.hid hg
    have HC := Lib.hid hcl
    have e6 : ((xs.length : Int) == 6) = false := by rw [beq_eq_false_iff_ne]; omega
    clear hg hcl h66
    go_enter Try.func49, Try.ntmps49
    go_wp2_with (first | (go_at_call 56; refine (pzGood_any (some A) cap xs _ (h.below (by (repeat (first | assumption | exact Below.refl _ _ | refine Below.drew ?_ | refine below_drewN ?_ _ | refine Below.setCell ?_ (by first | omega | (simp; done) | (simp; omega)) _ | refine Below.alloc ?_ (by first | omega | (simp; done) | (simp; omega)) _ | refine bchain ?_ (by assumption) (by first | omega | (simp; done) | (simp; omega)))))) hn).mono ?_; rw [HG.out]; rintro e w0 ⟨rfl, hb0⟩; have hs0 := hb0.size; (try simp only [World.size_alloc] at hs0); have hc0 : w0.cell? ⟨w.heap.size, 0, none⟩ = some (.slice (some A) xs.length cap) := (by rw [(bcell hb0).1 _ _ (by first | omega | (simp; done) | (simp; omega))]; go_simp); have hk0 : w0.cell? ⟨w.heap.size + 1, 0, none⟩ = some (.int .i64 k) := (by rw [(bcell hb0).1 _ _ (by first | omega | (simp; done) | (simp; omega))]; go_simp); have hk1 : w0.cell? ⟨w.heap.size + 1, 1, none⟩ = some (.int .i64 x) := (by rw [(bcell hb0).1 _ _ (by first | omega | (simp; done) | (simp; omega))]; go_simp); have hk2 : w0.cell? ⟨w.heap.size + 1, 2, none⟩ = some (.int .i64 y) := (by rw [(bcell hb0).1 _ _ (by first | omega | (simp; done) | (simp; omega))]; go_simp); have hx0 : w0.cell? ⟨w.heap.size + 1 + 1, 0, none⟩ = some (.slice none 0 0) := (by rw [(bcell hb0).1 _ _ (by first | omega | (simp; done) | (simp; omega))]; go_simp); have hfx : ∀ o, w0.frozen? ⟨w.heap.size + 1 + 1, o, none⟩ = false := (fun o => by rw [(bcell hb0).2 _ _ (by first | omega | (simp; done) | (simp; omega))]; go_simp); have B0 : Below w.heap.size w w0 := (by (repeat (first | assumption | exact Below.refl _ _ | refine Below.drew ?_ | refine below_drewN ?_ _ | refine Below.setCell ?_ (by first | omega | (simp; done) | (simp; omega)) _ | refine Below.alloc ?_ (by first | omega | (simp; done) | (simp; omega)) _ | refine bchain ?_ (by assumption) (by first | omega | (simp; done) | (simp; omega)))))) | (go_at_call 53; refine (pzClue_any k x y _).mono ?_; rw [HC.out]; rintro e w1 ⟨rfl, hb1⟩; have hs1 := hb1.size; have hd0 : w1.cell? ⟨w.heap.size, 0, none⟩ = some (.slice (some A) xs.length cap) := (by rw [(bcell hb1).1 _ _ (by omega)]; exact hc0); have hl0 : w1.cell? ⟨w.heap.size + 1, 0, none⟩ = some (.int .i64 k) := (by rw [(bcell hb1).1 _ _ (by omega)]; exact hk0); have hl1 : w1.cell? ⟨w.heap.size + 1, 1, none⟩ = some (.int .i64 x) := (by rw [(bcell hb1).1 _ _ (by omega)]; exact hk1); have hl2 : w1.cell? ⟨w.heap.size + 1, 2, none⟩ = some (.int .i64 y) := (by rw [(bcell hb1).1 _ _ (by omega)]; exact hk2); have hy0 : w1.cell? ⟨w.heap.size + 1 + 1, 0, none⟩ = some (.slice none 0 0) := (by rw [(bcell hb1).1 _ _ (by omega)]; exact hx0); have hfy : ∀ o, w1.frozen? ⟨w.heap.size + 1 + 1, o, none⟩ = false := (fun o => by rw [(bcell hb1).2 _ _ (by omega)]; exact hfx o); have B1 : Below w.heap.size w w1 := B0.trans (hb1.mono B0.size)))
    have hz0 : w.heap.size < w1.heap.size := by omega
    have hz1 : w.heap.size + 1 < w1.heap.size := by omega
    have hz2 : w.heap.size + 1 + 1 < w1.heap.size := by omega
    have hz3 : w.heap.size + 1 + 1 + 1 ≤ w1.heap.size := by omega
    have HN := Lib.hid (fun (W : World) (hb : Below w1.heap.size w1 W) => (h.below B1).newsAt hb)
    obtain ⟨i0, hi, hz0', hz1', hz2'⟩ := info_parts cluesInfo
    go_region_held_law (fun W => Below w.heap.size w W ∧ w1.heap.size ≤ W.heap.size ∧ W.cell? ⟨w.heap.size, 0, none⟩ = some (.slice (some A) xs.length cap) ∧ W.cell? ⟨w.heap.size + 1, 0, none⟩ = some (.int .i64 k) ∧ W.cell? ⟨w.heap.size + 1, 1, none⟩ = some (.int .i64 x) ∧ W.cell? ⟨w.heap.size + 1, 2, none⟩ = some (.int .i64 y))
      (refine ⟨?_, ?_, ?_, ?_, ?_, ?_⟩ <;> first | assumption | exact Nat.le_refl _ | omega | (simp; done) | (simp; omega) | ((repeat (first | assumption | exact Below.refl _ _ | refine Below.drew ?_ | refine below_drewN ?_ _ | refine Below.setCell ?_ (by first | omega | (simp; done) | (simp; omega)) _ | refine Below.alloc ?_ (by first | omega | (simp; done) | (simp; omega)) _ | refine bchain ?_ (by assumption) (by first | omega | (simp; done) | (simp; omega)))); done) | (refine B1.trans (Below.mono (B := w1.heap.size) ?_ B1.size); ((repeat (first | assumption | exact Below.refl _ _ | refine Below.drew ?_ | refine below_drewN ?_ _ | refine Below.setCell ?_ (by first | omega | (simp; done) | (simp; omega)) _ | refine Below.alloc ?_ (by first | omega | (simp; done) | (simp; omega)) _ | refine bchain ?_ (by assumption) (by first | omega | (simp; done) | (simp; omega)))); done)) | (refine ((bcell (W := w1) ?_).1 _ _ (by omega)).trans (by assumption); ((repeat (first | assumption | exact Below.refl _ _ | refine Below.drew ?_ | refine below_drewN ?_ _ | refine Below.setCell ?_ (by first | omega | (simp; done) | (simp; omega)) _ | refine Below.alloc ?_ (by first | omega | (simp; done) | (simp; omega)) _ | refine bchain ?_ (by assumption) (by first | omega | (simp; done) | (simp; omega)))); done)) | (go_simp; done))
      (first
        | (refine step_append_anyN _ rfl _ _ 33 rfl w1.heap.size 25 i0 (.agg #[.int .i64 0, .int .i64 0, .int .i64 0]) 3 24 Try.underlying33 hi hz0' hz1' hz2' rfl (by decide) _ _ _ rfl (row_below (own_lit_at w1 w1.heap.size w1.heap.size 25 rfl (Nat.le_refl _)) (by (repeat (first | assumption | exact Below.refl _ _ | refine Below.drew ?_ | refine below_drewN ?_ _ | refine Below.setCell ?_ (by first | omega | (simp; done) | (simp; omega)) _ | refine Below.alloc ?_ (by first | omega | (simp; done) | (simp; omega)) _ | refine bchain ?_ (by assumption) (by first | omega | (simp; done) | (simp; omega)))))) A xs.length cap (cs3 xs) rfl (cs3_length xs) (HN.out _ (by (repeat (first | assumption | exact Below.refl _ _ | refine Below.drew ?_ | refine below_drewN ?_ _ | refine Below.setCell ?_ (by first | omega | (simp; done) | (simp; omega)) _ | refine Below.alloc ?_ (by first | omega | (simp; done) | (simp; omega)) _ | refine bchain ?_ (by assumption) (by first | omega | (simp; done) | (simp; omega)))))) (cs3_one _) (by unfold maxLen; omega) (by omega) (by first | omega | (simp; done) | (simp; omega)) xs.length (Nat.zero_add _) ?_; intro a2 c2 w2 hO2 hg2; have hT := fun hlt h0 h1 h2 => three_kept (g := w1.heap.size + 1) (u := .int .i64 k) (v := .int .i64 x) (z := .int .i64 y) hg2 (fun e => by have e : w1.heap.size + 1 = w1.heap.size := Option.some.inj e; omega) hlt h0 h1 h2; have B2 : Below w1.heap.size w1 w2 := Below.grown (show Below w1.heap.size w1 _ from by (repeat (first | assumption | exact Below.refl _ _ | refine Below.drew ?_ | refine below_drewN ?_ _ | refine Below.setCell ?_ (by first | omega | (simp; done) | (simp; omega)) _ | refine Below.alloc ?_ (by first | omega | (simp; done) | (simp; omega)) _ | refine bchain ?_ (by assumption) (by first | omega | (simp; done) | (simp; omega))))) hg2 (by first | omega | (simp; done) | (simp; omega)) (fun x hx => by have e : w1.heap.size = x := Option.some.inj hx; omega); have z2 := B2.size; have zg := hg2.size; (try simp only [World.size_alloc, World.size_drew] at zg); have HO2 := Lib.hid hO2; clear hg2)
        | (refine step_append_anyN _ rfl _ _ 33 rfl w1.heap.size 25 i0 (.agg #[.int .i64 0, .int .i64 0, .int .i64 0]) 3 24 Try.underlying33 hi hz0' hz1' hz2' rfl (by decide) _ _ _ rfl (row_below (own_lit_at (w1.alloc (.cells #[.int .i64 k, .int .i64 x, .int .i64 y] 25)) w1.heap.size (w1.heap.size + 1) 25 (by simp) (by omega)) (by (repeat (first | assumption | exact Below.refl _ _ | refine Below.drew ?_ | refine below_drewN ?_ _ | refine Below.setCell ?_ (by first | omega | (simp; done) | (simp; omega)) _ | refine Below.alloc ?_ (by first | omega | (simp; done) | (simp; omega)) _ | refine bchain ?_ (by assumption) (by first | omega | (simp; done) | (simp; omega)))))) A xs.length cap (cs3 xs) rfl (cs3_length xs) (HN.out _ (by (repeat (first | assumption | exact Below.refl _ _ | refine Below.drew ?_ | refine below_drewN ?_ _ | refine Below.setCell ?_ (by first | omega | (simp; done) | (simp; omega)) _ | refine Below.alloc ?_ (by first | omega | (simp; done) | (simp; omega)) _ | refine bchain ?_ (by assumption) (by first | omega | (simp; done) | (simp; omega)))))) (cs3_one _) (by unfold maxLen; omega) (by omega) (by first | omega | (simp; done) | (simp; omega)) xs.length (Nat.zero_add _) ?_; intro a2 c2 w2 hO2 hg2; have hT := fun hlt h0 h1 h2 => three_kept (g := w1.heap.size) (u := .int .i64 k) (v := .int .i64 x) (z := .int .i64 y) hg2 (fun e => by have e : w1.heap.size = w1.heap.size + 1 := Option.some.inj e; omega) hlt h0 h1 h2; have B2 : Below w1.heap.size w1 w2 := Below.grown (show Below w1.heap.size w1 _ from by (repeat (first | assumption | exact Below.refl _ _ | refine Below.drew ?_ | refine below_drewN ?_ _ | refine Below.setCell ?_ (by first | omega | (simp; done) | (simp; omega)) _ | refine Below.alloc ?_ (by first | omega | (simp; done) | (simp; omega)) _ | refine bchain ?_ (by assumption) (by first | omega | (simp; done) | (simp; omega))))) hg2 (by first | omega | (simp; done) | (simp; omega)) (fun x hx => by have e : w1.heap.size + 1 = x := Option.some.inj hx; omega); have z2 := B2.size; have zg := hg2.size; (try simp only [World.size_alloc, World.size_drew] at zg); have HO2 := Lib.hid hO2; clear hg2)
        | (refine step_append_anyN _ rfl _ _ 33 rfl w1.heap.size 25 i0 (.agg #[.int .i64 0, .int .i64 0, .int .i64 0]) 3 24 Try.underlying33 hi hz0' hz1' hz2' rfl (by decide) _ _ _ rfl (row_below (w := w2) HO2.out (by (repeat (first | assumption | exact Below.refl _ _ | refine Below.drew ?_ | refine below_drewN ?_ _ | refine Below.setCell ?_ (by first | omega | (simp; done) | (simp; omega)) _ | refine Below.alloc ?_ (by first | omega | (simp; done) | (simp; omega)) _ | refine bchain ?_ (by assumption) (by first | omega | (simp; done) | (simp; omega)))))) ⟨w2.heap.size, 0, none⟩ 1 1 [.int .i64 k, .int .i64 x, .int .i64 y] rfl rfl (cell_three_new _ _ _ _ _) (fun u hu => by simp at hu; rcases hu with rfl | rfl | rfl <;> rfl) (by unfold maxLen; omega) (by omega) (by first | omega | (simp; done) | (simp; omega)) (xs.length + 1) rfl ?_; intro a3 c3 w3 hO3 hg3; have B3 : Below w1.heap.size w1 w3 := Below.grown (show Below w1.heap.size w1 _ from by (repeat (first | assumption | exact Below.refl _ _ | refine Below.drew ?_ | refine below_drewN ?_ _ | refine Below.setCell ?_ (by first | omega | (simp; done) | (simp; omega)) _ | refine Below.alloc ?_ (by first | omega | (simp; done) | (simp; omega)) _ | refine bchain ?_ (by assumption) (by first | omega | (simp; done) | (simp; omega))))) hg3 (by first | omega | (simp; done) | (simp; omega)) (fun x hx => (HO2.out.lt x hx).1); have z3 := B3.size; have D3 : Below w.heap.size w w3 := B1.trans (B3.mono B1.size); have hq0 : w3.cell? ⟨w.heap.size, 0, none⟩ = some (.slice (some A) xs.length cap) := ((bcell B3).1 _ _ (by omega)).trans hd0; have hq1 : w3.cell? ⟨w.heap.size + 1, 0, none⟩ = some (.int .i64 k) := ((bcell B3).1 _ _ (by omega)).trans hl0; have hq2 : w3.cell? ⟨w.heap.size + 1, 1, none⟩ = some (.int .i64 x) := ((bcell B3).1 _ _ (by omega)).trans hl1; have hq3 : w3.cell? ⟨w.heap.size + 1, 2, none⟩ = some (.int .i64 y) := ((bcell B3).1 _ _ (by omega)).trans hl2; have hq4 : w3.cell? ⟨w.heap.size + 1 + 1, 0, none⟩ = some (.slice none 0 0) := ((bcell B3).1 _ _ (by omega)).trans hy0; have hq5 : ∀ o, w3.frozen? ⟨w.heap.size + 1 + 1, o, none⟩ = false := fun o => ((bcell B3).2 _ _ (by omega)).trans (hfy o); have HO3 := Lib.hid hO3; clear hg3)
        | (refine step_append_anyN _ rfl _ _ 33 rfl w1.heap.size 25 i0 (.agg #[.int .i64 0, .int .i64 0, .int .i64 0]) 3 24 Try.underlying33 hi hz0' hz1' hz2' rfl (by decide) _ _ _ rfl (row_below (w := w2) HO2.out (by (repeat (first | assumption | exact Below.refl _ _ | refine Below.drew ?_ | refine below_drewN ?_ _ | refine Below.setCell ?_ (by first | omega | (simp; done) | (simp; omega)) _ | refine Below.alloc ?_ (by first | omega | (simp; done) | (simp; omega)) _ | refine bchain ?_ (by assumption) (by first | omega | (simp; done) | (simp; omega)))))) ⟨w1.heap.size, 0, none⟩ 1 1 [.int .i64 k, .int .i64 x, .int .i64 y] rfl rfl (hT (by first | (simp; done) | (simp; omega)) (by go_simp) (by go_simp) (by go_simp)) (fun u hu => by simp at hu; rcases hu with rfl | rfl | rfl <;> rfl) (by unfold maxLen; omega) (by omega) (by first | omega | (simp; done) | (simp; omega)) (xs.length + 1) rfl ?_; intro a3 c3 w3 hO3 hg3; have B3 : Below w1.heap.size w1 w3 := Below.grown (show Below w1.heap.size w1 _ from by (repeat (first | assumption | exact Below.refl _ _ | refine Below.drew ?_ | refine below_drewN ?_ _ | refine Below.setCell ?_ (by first | omega | (simp; done) | (simp; omega)) _ | refine Below.alloc ?_ (by first | omega | (simp; done) | (simp; omega)) _ | refine bchain ?_ (by assumption) (by first | omega | (simp; done) | (simp; omega))))) hg3 (by first | omega | (simp; done) | (simp; omega)) (fun x hx => (HO2.out.lt x hx).1); have z3 := B3.size; have D3 : Below w.heap.size w w3 := B1.trans (B3.mono B1.size); have hq0 : w3.cell? ⟨w.heap.size, 0, none⟩ = some (.slice (some A) xs.length cap) := ((bcell B3).1 _ _ (by omega)).trans hd0; have hq1 : w3.cell? ⟨w.heap.size + 1, 0, none⟩ = some (.int .i64 k) := ((bcell B3).1 _ _ (by omega)).trans hl0; have hq2 : w3.cell? ⟨w.heap.size + 1, 1, none⟩ = some (.int .i64 x) := ((bcell B3).1 _ _ (by omega)).trans hl1; have hq3 : w3.cell? ⟨w.heap.size + 1, 2, none⟩ = some (.int .i64 y) := ((bcell B3).1 _ _ (by omega)).trans hl2; have hq4 : w3.cell? ⟨w.heap.size + 1 + 1, 0, none⟩ = some (.slice none 0 0) := ((bcell B3).1 _ _ (by omega)).trans hy0; have hq5 : ∀ o, w3.frozen? ⟨w.heap.size + 1 + 1, o, none⟩ = false := fun o => ((bcell B3).2 _ _ (by omega)).trans (hfy o); have HO3 := Lib.hid hO3; clear hg3)
        | (refine step_append_anyN _ rfl _ _ 33 rfl w1.heap.size 25 i0 (.agg #[.int .i64 0, .int .i64 0, .int .i64 0]) 3 24 Try.underlying33 hi hz0' hz1' hz2' rfl (by decide) _ _ _ rfl (row_below (w := w2) HO2.out (by (repeat (first | assumption | exact Below.refl _ _ | refine Below.drew ?_ | refine below_drewN ?_ _ | refine Below.setCell ?_ (by first | omega | (simp; done) | (simp; omega)) _ | refine Below.alloc ?_ (by first | omega | (simp; done) | (simp; omega)) _ | refine bchain ?_ (by assumption) (by first | omega | (simp; done) | (simp; omega)))))) ⟨w1.heap.size + 1, 0, none⟩ 1 1 [.int .i64 k, .int .i64 x, .int .i64 y] rfl rfl (hT (by first | (simp; done) | (simp; omega)) (by go_simp) (by go_simp) (by go_simp)) (fun u hu => by simp at hu; rcases hu with rfl | rfl | rfl <;> rfl) (by unfold maxLen; omega) (by omega) (by first | omega | (simp; done) | (simp; omega)) (xs.length + 1) rfl ?_; intro a3 c3 w3 hO3 hg3; have B3 : Below w1.heap.size w1 w3 := Below.grown (show Below w1.heap.size w1 _ from by (repeat (first | assumption | exact Below.refl _ _ | refine Below.drew ?_ | refine below_drewN ?_ _ | refine Below.setCell ?_ (by first | omega | (simp; done) | (simp; omega)) _ | refine Below.alloc ?_ (by first | omega | (simp; done) | (simp; omega)) _ | refine bchain ?_ (by assumption) (by first | omega | (simp; done) | (simp; omega))))) hg3 (by first | omega | (simp; done) | (simp; omega)) (fun x hx => (HO2.out.lt x hx).1); have z3 := B3.size; have D3 : Below w.heap.size w w3 := B1.trans (B3.mono B1.size); have hq0 : w3.cell? ⟨w.heap.size, 0, none⟩ = some (.slice (some A) xs.length cap) := ((bcell B3).1 _ _ (by omega)).trans hd0; have hq1 : w3.cell? ⟨w.heap.size + 1, 0, none⟩ = some (.int .i64 k) := ((bcell B3).1 _ _ (by omega)).trans hl0; have hq2 : w3.cell? ⟨w.heap.size + 1, 1, none⟩ = some (.int .i64 x) := ((bcell B3).1 _ _ (by omega)).trans hl1; have hq3 : w3.cell? ⟨w.heap.size + 1, 2, none⟩ = some (.int .i64 y) := ((bcell B3).1 _ _ (by omega)).trans hl2; have hq4 : w3.cell? ⟨w.heap.size + 1 + 1, 0, none⟩ = some (.slice none 0 0) := ((bcell B3).1 _ _ (by omega)).trans hy0; have hq5 : ∀ o, w3.frozen? ⟨w.heap.size + 1 + 1, o, none⟩ = false := fun o => ((bcell B3).2 _ _ (by omega)).trans (hfy o); have HO3 := Lib.hid hO3; clear hg3))
    all_goals
      rename_i hS
      go_wp2_with fail
      have hln : (xs ++ [(k, x, y)]).length = xs.length + 1 := by simp
      have hcs : cs3 (xs ++ [(k, x, y)]) = [] ++ cs3 xs ++ [.int .i64 k, .int .i64 x, .int .i64 y] := by rw [cs3_append]; rfl
      refine bodyPost_ret (v := .tuple #[.agg #[.slice a3 (xs.length + 1) c3], .bool true]) (by simp [results, Try.results49, go_sem, hq4]) rfl ⟨a3, c3, by rw [hln], ?_, by (repeat (first | assumption | exact Below.refl _ _ | refine Below.drew ?_ | refine below_drewN ?_ _ | refine Below.setCell ?_ (by first | omega | (simp; done) | (simp; omega)) _ | refine Below.alloc ?_ (by first | omega | (simp; done) | (simp; omega)) _ | refine bchain ?_ (by assumption) (by first | omega | (simp; done) | (simp; omega))))⟩
      unfold OwnC
      rw [hln, hcs]
      exact row_low (row_setLow HO3.out _ _ (by simp; omega)) (by omega)
end Go.Proofs.Ytnnokfecjdmjpaa
