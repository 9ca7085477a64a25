/- The text of a puzzle: the program's pieces joined by the library, behind the door for clues; by contracts. -/
import Derived.Test.YtpmnnfojmnmohaaDoorPzText
import Derived.Test.YtpmnnfojmnmohaaDoorPzAlw
import Derived.Test.YtpmnnfojmnmohaaDoorJoin0
import Derived.Test.YtpmnnfojmnmohaaDoorTextWalks
import Derived.WalkKit
import Derived.WalkSpells
import Derived.WalkLawsBesides
import Derived.Lib.Hide
import Derived.Lib.Join
import Derived.Lib.ItoaNum
import Derived.Deep.LoopGhost
import Derived.Deep.QuietTactic
import Derived.Deep.RegionWith
import Derived.Deep.RegionHeld3
import Derived.BigQuiet
namespace Go.Proofs.YtpmnnfojmnmohaaDoor
open Go.RowKit
set_option linter.unusedVariables false
set_option linter.unusedSimpArgs false
set_option maxHeartbeats 4000000 in
theorem clText_any (x y z : Int) (h : -1000000 ≤ x ∧ x ≤ 1000000 ∧ -1000000 ≤ y ∧ y ≤ 1000000 ∧ -1000000 ≤ z ∧ z ≤ 1000000) (w : World) (ht : Lib.TabIs Tryd.prog w "internal/strconv.uint64pow10" .u64 Lib.pow10Tab) :
    Calls Tryd.prog 46 #[.agg #[.int .i64 x, .int .i64 y, .int .i64 z]] w fun e w' => e = .returned (.string (ctx x y z)) ∧ Below w.heap.size w w' := by
  have hX := itx_size (n := x) (by omega) (by omega)
  have hY := itx_size (n := y) (by omega) (by omega)
  have hZ := itx_size (n := z) (by omega) (by omega)
  have hcX := Lib.hid (fun w ht => itoa_int x (by omega) (by omega) w ht)
  have hcY := Lib.hid (fun w ht => itoa_int y (by omega) (by omega) w ht)
  have hcZ := Lib.hid (fun w ht => itoa_int z (by omega) (by omega) w ht)
  have HE : Hid (ctx x y z = (((itx x ++ ⟨#[46]⟩) ++ itx y) ++ ⟨#[46]⟩) ++ itx z) := rfl
  have HT := Lib.hid (tab_below pow10G (tab_lt pow10G ht) ht ((Below.refl w.heap.size w).alloc (Nat.le_refl _) (.cells #[.int .i64 x, .int .i64 y, .int .i64 z] 47)))
  clear ht
  generalize hG : ctx x y z = G at *
  clear hG
  generalize hXX : itx x = X at *
  generalize hYY : itx y = Y at *
  generalize hZZ : itx z = Z at *
  clear hXX hYY hZZ h
  have f1 : ¬ (9223372036854775807 < X.size + 1) := by omega
  have f2 : ¬ (9223372036854775807 < X.size + 1 + Y.size) := by omega
  have f3 : ¬ (9223372036854775807 < X.size + 1 + Y.size + 1) := by omega
  have f4 : ¬ (9223372036854775807 < X.size + 1 + Y.size + 1 + Z.size) := by omega
  clear hX hY hZ
  go_enter Tryd.func46, Tryd.ntmps46
  go_wp2_with fail
  go_region_held3 (fun W => Below w.heap.size w W ∧ w.heap.size < W.heap.size ∧ W.cell? ⟨w.heap.size, 0, none⟩ = some (.int .i64 x) ∧ W.cell? ⟨w.heap.size, 1, none⟩ = some (.int .i64 y) ∧ W.cell? ⟨w.heap.size, 2, none⟩ = some (.int .i64 z))
    (refine ⟨?_, ?_, ?_, ?_, ?_⟩ <;> first | assumption | omega | (go_simp; done) | (repeat (first | assumption | exact Below.refl _ _ | refine Below.drew ?_ | refine below_drewN ?_ _ | refine Below.setCell ?_ (by first | omega | (simp; done) | (simp; omega)) _ | refine Below.alloc ?_ (by first | omega | (simp; done) | (simp; omega)) _ | refine bchain ?_ (by assumption) (by first | omega | (simp; done) | (simp; omega)))))
    (first | (go_at_call_of 53 (Value.int .i64 x); (refine (hcX.out _ (by exact HT.out)).mono ?_; rintro e w3 ⟨rfl, hb3, ht3⟩; have hz3 := hb3.size; (try simp only [World.size_alloc, World.size_drew] at hz3); have hlw3 : w.heap.size < w3.heap.size := (by omega); have hcA := fun o => (bcell hb3).1 w.heap.size o (by first | omega | (simp; done) | (simp; omega)))) | (go_at_call_of 53 (Value.int .i64 y); (refine (hcY.out _ (by exact ht3)).mono ?_; rintro e w4 ⟨rfl, hb4, ht4⟩; have hz4 := hb4.size; (try simp only [World.size_alloc, World.size_drew] at hz4); have hlw4 : w.heap.size < w4.heap.size := (by omega); have hcB := fun o => (bcell hb4).1 w.heap.size o (by first | omega | (simp; done) | (simp; omega)))) | (go_at_call_of 53 (Value.int .i64 z); (refine (hcZ.out _ (by exact ht4)).mono ?_; rintro e w5 ⟨rfl, hb5, ht5⟩; have hz5 := hb5.size; (try simp only [World.size_alloc, World.size_drew] at hz5); have hlw5 : w.heap.size < w5.heap.size := (by omega); have hcC := fun o => (bcell hb5).1 w.heap.size o (by first | omega | (simp; done) | (simp; omega)))))
  all_goals
    rename_i hS
    go_wp2_with fail
    go_ret
    exact ⟨by rw [HE.out]; rfl, hS.1⟩
set_option maxHeartbeats 4000000 in
theorem clList_any (a : Option Addr) (cap : Nat) (xs : List (Int × Int × Int)) (w : World) (h : RdC w a xs) (hbd : bdC xs) (hn : xs.length ≤ 8) (ht : Lib.TabIs Tryd.prog w "internal/strconv.uint64pow10" .u64 Lib.pow10Tab) :
    Calls Tryd.prog 45 #[.slice a xs.length cap, .string ⟨#[44]⟩, .func (.func 46) #[] #[]] w fun e w' => e = .returned (.string (cjt xs xs.length)) ∧ Below w.heap.size w w' := by
  have hnI : (xs.length : Int) ≤ 8 := by omega
  obtain ⟨i0, hi, hz0, hz1, hz2⟩ := info_parts strInfoJ
  obtain ⟨w2, hrun, hown0, hgr0⟩ := run_make_full (P := Tryd.prog) w w.heap.size 62 9 i0 (.string ⟨#[]⟩) 1 Tryd.underlying62 hi hz0 hz1 .i64 .i64 xs.length (by rw [hz2]; omega) (by unfold maxLen; omega) (Nat.le_refl _)
  have B2 : Below w.heap.size w w2 := (Below.refl _ _).grown hgr0 (Nat.le_refl _) (fun k hk => by cases hk)
  obtain ⟨ys0, hy0⟩ : ∃ ys, ys = (madeCells (Value.string ⟨#[]⟩).cells (xs.length * 1)).toList := ⟨_, rfl⟩
  rw [← hy0] at hown0
  clear hy0 hgr0
  have hsz2 := B2.size
  go_enter Tryd.func45, Tryd.ntmps45
  go_wp2_with fail
  clear hrun
  go_loopg [15] xs.length (fun k v15 wr => ∃ (j : Nat) (ys : List Value), v15 = .int .i64 (j : Int) ∧ j + k ≤ xs.length ∧ xs.length ≤ j + k ∧ wr.ownsRow w.heap.size 9 1 (.slice (some ⟨w.heap.size, 0, none⟩) xs.length xs.length) xs.length ys ∧ Hid (∀ i, i < j → ys[i]? = some (.string (ctx (tk xs i) (ta xs i) (tb xs i)))) ∧ Below w.heap.size w wr)
  case atStart => exact ⟨0, ys0, rfl, by omega, by omega, hown0, fun i hi => absurd hi (Nat.not_lt_zero _), B2⟩
  case round =>
    obtain ⟨j, ys, rfl, h1, h2, hown, hys, hbel⟩ := hrel
    have hg0 := (hown.lt w.heap.size rfl).2
    have hlen : ys.length = xs.length * 1 := hown.1
    by_cases hj : j < xs.length
    · rcases h with h | ⟨b, off, rfl, hlt, hc⟩
      · rw [h] at hj; exact absurd hj (Nat.not_lt_zero _)
      · have hcj : wr.cell? ⟨b, off + j * 3, none⟩ = some (.int .i64 (tk xs j)) := by rw [(bcell hbel).1 b _ hlt]; exact (hc j hj).1
        have hck : wr.cell? ⟨b, off + j * 3 + 1, none⟩ = some (.int .i64 (ta xs j)) := by rw [(bcell hbel).1 b _ hlt]; exact (hc j hj).2.1
        have hcl : wr.cell? ⟨b, off + j * 3 + 2, none⟩ = some (.int .i64 (tb xs j)) := by rw [(bcell hbel).1 b _ hlt]; exact (hc j hj).2.2
        have hjI : (j : Int) < (xs.length : Int) := by omega
        have hsz := hbel.size
        have HQ := Lib.hid (clText_any (tk xs j) (ta xs j) (tb xs j) (hbd j hj))
        have hBA := (Below.refl wr.heap.size wr).alloc (Nat.le_refl _) (.cells #[.int .i64 (tk xs j), .int .i64 (ta xs j), .int .i64 (tb xs j)] 47)
        have HA := Lib.hid (row_below hown hBA)
        have hBB := hbel.trans (hBA.mono hbel.size)
        have HT := Lib.hid (tab_below pow10G (tab_lt pow10G ht) ht hBB)
        have HBl := Lib.hid hBB
        have HJ := Lib.hid (And.intro h1 h2)
        clear hbel hc hown h1 h2 ht B2 hown0 hBA hBB
        generalize hxx : tk xs j = x at *
        generalize hyy : ta xs j = y at *
        generalize hzz : tb xs j = z at *
        have HXY := Lib.hid (And.intro hxx (And.intro hyy hzz))
        clear hxx hyy hzz
        generalize hWT : ctx x y z = WT at *
        have HWT := Lib.hid hWT
        clear hWT
        have HW := Lib.hid (HQ.out (wr.alloc (.cells #[.int .i64 x, .int .i64 y, .int .i64 z] 47)) HT.out)
        go_wp2_with fail
        refine HW.out.mono ?_; rintro e w3 ⟨rfl, hb3⟩
        have hO3 := row_below HA.out hb3
        obtain ⟨hst1, hst2⟩ := hO3.stored j (.string WT)
        have hcy0 := hO3.cellAt j (by omega)
        have hfy0 := hO3.frozenAt j
        rw [List.getElem?_eq_getElem (by omega)] at hcy0
        have HF := Lib.hid hst1
        have hs3 := HBl.out.size
        have HB3 := Lib.hid (bchain HBl.out hb3 hs3)
        clear hst1 hst2 hO3 hb3
        go_wp2_with fail
        go_roundg (gk - 1)
        case rel =>
          refine ⟨j + 1, _, by go_num, by have := HJ.out; omega, by have := HJ.out; omega, HF.out, ?_, HB3.out.setCell (Nat.le_refl _) _⟩
          intro i hi
          by_cases q : i = j
          · subst q; rw [List.getElem?_set_self (by omega), HXY.out.1, HXY.out.2.1, HXY.out.2.2, HWT.out]
          · rw [List.getElem?_set_ne (by omega)]; exact hys.out i (by omega)
        case measure => have := HJ.out; omega
    · have e : j = xs.length := by omega
      have hjn := Tryd.strings_Join w.heap.size 0 xs.length (cts xs) ⟨#[44]⟩ wr (fun i x hx => by obtain ⟨hi, rfl⟩ := cts_get hx; rw [Nat.zero_add, hown.cellAt i (by omega)]; exact hys.out i (by omega)) hg0 (by rw [cts_length]; omega) (by rw [cts_length]; exact Nat.le_refl _)
        (by rw [cjt_cts, Array.length_toList]; have := cjt_size hbd xs.length (Nat.le_refl _); have e2 : (cjt xs xs.length).data.size = (cjt xs xs.length).size := rfl; omega)
      rw [cts_length, cjt_cts, Array.toArray_toList] at hjn
      have HBl := Lib.hid hbel
      have HJN := Lib.hid hjn
      clear hbel hown hjn ht B2 hown0 h
      go_wp2_with fail
      refine HJN.out.mono ?_; rintro e w5 ⟨rfl, hb5⟩
      go_wp2_with fail
      go_ret
      exact ⟨rfl, HBl.out.trans (hb5.mono HBl.out.size)⟩
set_option maxHeartbeats 1000000 in
theorem rdText_any (a : Option Addr) (cap : Nat) (xs : List (Int × Int × Int)) (w : World) (h : RdC w a xs) (hbd : bdC xs) (hn : xs.length ≤ 8) (ht : Lib.TabIs Tryd.prog w "internal/strconv.uint64pow10" .u64 Lib.pow10Tab) :
    Calls Tryd.prog 31 #[.slice a xs.length cap] w fun e w' => e = .returned (.string (cjt xs xs.length)) ∧ Below w.heap.size w w' := by
  have H := Lib.hid (clList_any a cap xs w h hbd hn ht)
  clear h hbd ht
  generalize cjt xs xs.length = T at *
  go_enter Tryd.func31, Tryd.ntmps31
  go_wp2_with fail
  refine H.out.mono ?_; rintro e w1 ⟨rfl, hb1⟩
  go_wp2_with fail
  go_ret
  exact ⟨rfl, hb1⟩
theorem pz_bdC {xs : List (Int × Int × Int)} (h : pzG xs = true) : bdC xs := fun i hi => by have := clB_bd (clA_at (pzG_iff.1 h).2 hi); omega
set_option maxHeartbeats 4000000 in
theorem cluesText_any (A : Addr) (cap : Nat) (xs : List (Int × Int × Int)) (w : World) (h : RdC w (some A) xs) (hn : xs.length ≤ 1048576) (hcap : xs.length ≤ cap) (ht : Lib.TabIs Tryd.prog w "internal/strconv.uint64pow10" .u64 Lib.pow10Tab) :
    Calls Tryd.prog 18 #[.slice (some A) xs.length cap] w fun e w' => e = .returned (.tuple #[.string (pcx xs), .bool (pzG xs)]) ∧ Below w.heap.size w w' := by
  have hQ : Hid (∀ (p : Nat) (W : World), Below w.heap.size w W → p < W.heap.size → W.cell? ⟨p, 0, none⟩ = some (.func (.func 31) #[] #[]) → Calls Tryd.prog 29 #[.slice (some A) xs.length cap, .func (.func 44) #[] #[.pointer (some ⟨p, 0, none⟩)]] W fun e w' => e = .returned (.tuple #[.string (pcx xs), .bool (pzG xs)]) ∧ Below W.heap.size W w') := by
    intro p W hw hp hc
    cases hg : pzG xs
    · rw [show pcx xs = ⟨#[]⟩ by unfold pcx; rw [hg]; rfl]
      exact askT_no _ A cap xs W (h.below hw) hn hg
    · rw [show pcx xs = cjt xs xs.length by unfold pcx; rw [hg]; rfl]
      have h6 := (pzG_iff.1 hg).1
      have eg : ∀ args w, (callFunc 31 args).run Tryd.prog w = .ok (.enter 31 args) w := enters_of Tryd.func31 (by kernel_rfl) rfl
      have eg2 : ∀ args w, (callFunc 44 args).run Tryd.prog w = .ok (.enter 44 args) w := enters_of Tryd.func44 (by kernel_rfl) rfl
      exact askT_yes 44 #[.pointer (some ⟨p, 0, none⟩)] A cap xs (cjt xs xs.length) true W (h.below hw) hn hcap hg eg2
        (fun W1 hb1 => alwaysCT_any 31 #[] p A xs.length (cjt xs xs.length) W1 (Nat.lt_of_lt_of_le hp hb1.size) (((bcell hb1).1 p 0 hp).trans hc) eg
          (fun W2 hb2 => rdText_any (some A) xs.length xs W2 (((h.below hw).below hb1).below hb2) (pz_bdC hg) (by omega) (tab_below pow10G (tab_lt pow10G (tab_below pow10G (tab_lt pow10G (tab_below pow10G (tab_lt pow10G ht) ht hw)) (tab_below pow10G (tab_lt pow10G ht) ht hw) hb1)) (tab_below pow10G (tab_lt pow10G (tab_below pow10G (tab_lt pow10G ht) ht hw)) (tab_below pow10G (tab_lt pow10G ht) ht hw) hb1) hb2)))
  clear h ht
  generalize pcx xs = T at *
  generalize pzG xs = g at *
  go_enter Tryd.func18, Tryd.ntmps18
  go_wp2_with (first | (go_at_call 30; refine (alwaysT_any _ _ _).mono ?_; rintro e w1 ⟨rfl, hp1, hl1, hb1⟩) | (go_at_call 29; refine (hQ.out _ _ (by (repeat (first | assumption | exact Below.refl _ _ | refine Below.drew ?_ | refine below_drewN ?_ _ | refine Below.setCell ?_ (by first | omega | (simp; done) | (simp; omega)) _ | refine Below.alloc ?_ (by first | omega | (simp; done) | (simp; omega)) _ | refine bchain ?_ (by assumption) (by first | omega | (simp; done) | (simp; omega))))) (by first | assumption | omega) (by assumption)).mono ?_; rintro e w2 ⟨rfl, hb2⟩))
  go_ret2
  exact ⟨rfl, by (repeat (first | assumption | exact Below.refl _ _ | refine Below.drew ?_ | refine below_drewN ?_ _ | refine Below.setCell ?_ (by first | omega | (simp; done) | (simp; omega)) _ | refine Below.alloc ?_ (by first | omega | (simp; done) | (simp; omega)) _ | refine bchain ?_ (by assumption) (by first | omega | (simp; done) | (simp; omega))))⟩
set_option maxHeartbeats 2000000 in
theorem implPuzzleText (A : Addr) (cap : Nat) (xs : List (Int × Int × Int)) (w : World) (h : RdC w (some A) xs) (hn : xs.length ≤ 1048576) (hcap : xs.length ≤ cap) (ht : Lib.TabIs Tryd.prog w "internal/strconv.uint64pow10" .u64 Lib.pow10Tab) :
    Calls Tryd.prog 8 #[.agg #[.slice (some A) xs.length cap]] w fun e w' => e = .returned (.tuple #[.string (pcx xs), .bool (pzG xs)]) ∧ Below w.heap.size w w' := by
  have H := Lib.hid (fun (W : World) (hw : Below w.heap.size w W) => cluesText_any A cap xs W (h.below hw) hn hcap (tab_below pow10G (tab_lt pow10G ht) ht hw))
  clear h ht
  generalize pcx xs = T at *
  generalize pzG xs = g at *
  go_enter Tryd.func8, Tryd.ntmps8
  go_wp2_with (first | (go_at_call 18; refine (H.out _ (by (repeat (first | assumption | exact Below.refl _ _ | refine Below.drew ?_ | refine below_drewN ?_ _ | refine Below.setCell ?_ (by first | omega | (simp; done) | (simp; omega)) _ | refine Below.alloc ?_ (by first | omega | (simp; done) | (simp; omega)) _ | refine bchain ?_ (by assumption) (by first | omega | (simp; done) | (simp; omega)))))).mono ?_; rintro e w1 ⟨rfl, hb1⟩))
  go_ret2
  exact ⟨rfl, by (repeat (first | assumption | exact Below.refl _ _ | refine Below.drew ?_ | refine below_drewN ?_ _ | refine Below.setCell ?_ (by first | omega | (simp; done) | (simp; omega)) _ | refine Below.alloc ?_ (by first | omega | (simp; done) | (simp; omega)) _ | refine bchain ?_ (by assumption) (by first | omega | (simp; done) | (simp; omega))))⟩
end Go.Proofs.YtpmnnfojmnmohaaDoor
