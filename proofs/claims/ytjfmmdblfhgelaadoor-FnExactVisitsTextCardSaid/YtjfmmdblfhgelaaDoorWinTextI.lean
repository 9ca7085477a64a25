/- The text of visits: the program's pieces joined by the library, by contracts. -/
import Derived.Test.YtjfmmdblfhgelaaDoorProg
import Derived.Test.YtjfmmdblfhgelaaDoorWinText
import Derived.Test.YtjfmmdblfhgelaaDoorWinLI
import Derived.Test.YtjfmmdblfhgelaaDoorJoin0
import Derived.Test.YtjfmmdblfhgelaaDoorTextWalks
import Derived.WalkKit
import Derived.WalkSpells
import Derived.WalkLawsBesides
import Derived.Lib.Hide
import Derived.Lib.Join
import Derived.Lib.ItoaNum
import Derived.Deep.LoopGhost
import Derived.Deep.QuietTactic
import Derived.Deep.RegionWith
import Derived.Deep.RegionHeld3
import Derived.BigQuiet
namespace Go.Proofs.YtjfmmdblfhgelaaDoor
open Go.RowKit
set_option linter.unusedVariables false
set_option linter.unusedSimpArgs false
set_option maxHeartbeats 2000000 in
theorem viElt_any (x y : Int) (h : -1000000 ≤ x ∧ x ≤ 1000000 ∧ -1000000 ≤ y ∧ y ≤ 1000000) (w : World) (ht : Lib.TabIs Tryd.prog w "internal/strconv.uint64pow10" .u64 Lib.pow10Tab) :
    Calls Tryd.prog 19 #[.agg #[.int .i64 x, .int .i64 y]] w fun e w' => e = .returned (.string (gtx 43 x y)) ∧ Below w.heap.size w w' := by
  have hX := itx_size (n := x) (by omega) (by omega)
  have hY := itx_size (n := y) (by omega) (by omega)
  have hcX := Lib.hid (fun w ht => itoa_int x (by omega) (by omega) w ht)
  have hcY := Lib.hid (fun w ht => itoa_int y (by omega) (by omega) w ht)
  have HE : Hid (gtx 43 x y = (itx x ++ ⟨#[43]⟩) ++ itx y) := rfl
  have HT := Lib.hid (tab_below pow10G (tab_lt pow10G ht) ht ((Below.refl w.heap.size w).alloc (Nat.le_refl _) (.cells #[.int .i64 x, .int .i64 y] 37)))
  clear ht
  generalize hG : gtx 43 x y = G at *
  clear hG
  generalize hXX : itx x = X at *
  generalize hYY : itx y = Y at *
  clear hXX hYY h
  have f1 : ¬ (9223372036854775807 < X.size + 1) := by omega
  have f2 : ¬ (9223372036854775807 < X.size + 1 + Y.size) := by omega
  clear hX hY
  go_enter Tryd.func19, Tryd.ntmps19
  go_wp2_with fail
  go_region_with (first | (go_at_call_of 20 (Value.int .i64 x); (refine (hcX.out _ (by exact HT.out)).mono ?_; rintro e w3 ⟨rfl, hb3, ht3⟩; have hz3 := hb3.size; have hcA := fun o => (bcell hb3).1 w.heap.size o (by first | omega | (simp; done) | (simp; omega)))) | (go_at_call_of 20 (Value.int .i64 y); (refine (hcY.out _ (by exact ht3)).mono ?_; rintro e w4 ⟨rfl, hb4, ht4⟩; have hz4 := hb4.size)))
  all_goals go_wp2_with fail
  all_goals (go_ret; refine ⟨by rw [HE.out]; rfl, ?_⟩)
  all_goals (have hz5 := hz3; simp at hz5)
  all_goals (repeat (first | exact Below.refl _ _ | refine Below.drew ?_ | refine Below.alloc ?_ (by first | omega | (simp; done)) _ | refine bchain ?_ (by assumption) (by first | omega | (simp; done) | (simp; omega))))
set_option maxHeartbeats 2000000 in
theorem viList_any (a : Option Addr) (cap : Nat) (xs : List (Int × Int)) (w : World) (h : RdP w a xs) (hbd : bdX xs) (hn : xs.length ≤ 8) (ht : Lib.TabIs Tryd.prog w "internal/strconv.uint64pow10" .u64 Lib.pow10Tab) :
    Calls Tryd.prog 18 #[.slice a xs.length cap, .string ⟨#[44]⟩, .func (.func 19) #[] #[]] w fun e w' => e = .returned (.string (gjt 43 xs xs.length)) ∧ Below w.heap.size w w' := by
  have hnI : (xs.length : Int) ≤ 8 := by omega
  obtain ⟨i0, hi, hz0, hz1, hz2⟩ := info_parts strInfoJ
  obtain ⟨w2, hrun, hown0, hgr0⟩ := run_make_full (P := Tryd.prog) w w.heap.size 50 9 i0 (.string ⟨#[]⟩) 1 Tryd.underlying50 hi hz0 hz1 .i64 .i64 xs.length (by rw [hz2]; omega) (by unfold maxLen; omega) (Nat.le_refl _)
  have B2 : Below w.heap.size w w2 := (Below.refl _ _).grown hgr0 (Nat.le_refl _) (fun k hk => by cases hk)
  obtain ⟨ys0, hy0⟩ : ∃ ys, ys = (madeCells (Value.string ⟨#[]⟩).cells (xs.length * 1)).toList := ⟨_, rfl⟩
  rw [← hy0] at hown0
  clear hy0 hgr0
  have hsz2 := B2.size
  go_enter Tryd.func18, Tryd.ntmps18
  go_wp2_with fail
  clear hrun
  go_loopg [15] xs.length (fun k v15 wr => ∃ (j : Nat) (ys : List Value), v15 = .int .i64 (j : Int) ∧ j + k ≤ xs.length ∧ xs.length ≤ j + k ∧ wr.ownsRow w.heap.size 9 1 (.slice (some ⟨w.heap.size, 0, none⟩) xs.length xs.length) xs.length ys ∧ Hid (∀ i, i < j → ys[i]? = some (.string (gtx 43 (px xs i) (py xs i)))) ∧ Below w.heap.size w wr)
  case atStart => exact ⟨0, ys0, rfl, by omega, by omega, hown0, fun i hi => absurd hi (Nat.not_lt_zero _), B2⟩
  case round =>
    obtain ⟨j, ys, rfl, h1, h2, hown, hys, hbel⟩ := hrel
    have hg0 := (hown.lt w.heap.size rfl).2
    have hlen : ys.length = xs.length * 1 := hown.1
    by_cases hj : j < xs.length
    · rcases h with h | ⟨b, off, rfl, hlt, hc⟩
      · rw [h] at hj; exact absurd hj (Nat.not_lt_zero _)
      · have hcj : wr.cell? ⟨b, off + j * 2, none⟩ = some (.int .i64 (px xs j)) := by rw [(bcell hbel).1 b _ hlt]; exact (hc j hj).1
        have hck : wr.cell? ⟨b, off + j * 2 + 1, none⟩ = some (.int .i64 (py xs j)) := by rw [(bcell hbel).1 b _ hlt]; exact (hc j hj).2
        have hjI : (j : Int) < (xs.length : Int) := by omega
        have hsz := hbel.size
        have HQ := Lib.hid (viElt_any (px xs j) (py xs j) (hbd j hj))
        have hBA := (Below.refl wr.heap.size wr).alloc (Nat.le_refl _) (.cells #[.int .i64 (px xs j), .int .i64 (py xs j)] 37)
        have HA := Lib.hid (row_below hown hBA)
        have hBB := hbel.trans (hBA.mono hbel.size)
        have HT := Lib.hid (tab_below pow10G (tab_lt pow10G ht) ht hBB)
        have HBl := Lib.hid hBB
        have HJ := Lib.hid (And.intro h1 h2)
        clear hbel hc hown h1 h2 ht B2 hown0 hBA hBB
        generalize hxx : px xs j = x at *
        generalize hyy : py xs j = y at *
        have HXY := Lib.hid (And.intro hxx hyy)
        clear hxx hyy
        generalize hWT : gtx 43 x y = WT at *
        have HWT := Lib.hid hWT
        clear hWT
        have HW := Lib.hid (HQ.out (wr.alloc (.cells #[.int .i64 x, .int .i64 y] 37)) HT.out)
        go_wp2_with fail
        refine HW.out.mono ?_; rintro e w3 ⟨rfl, hb3⟩
        have hO3 := row_below HA.out hb3
        obtain ⟨hst1, hst2⟩ := hO3.stored j (.string WT)
        have hcy0 := hO3.cellAt j (by omega)
        have hfy0 := hO3.frozenAt j
        rw [List.getElem?_eq_getElem (by omega)] at hcy0
        have HF := Lib.hid hst1
        have hs3 := HBl.out.size
        have HB3 := Lib.hid (bchain HBl.out hb3 hs3)
        clear hst1 hst2 hO3 hb3
        go_wp2_with fail
        go_roundg (gk - 1)
        case rel =>
          refine ⟨j + 1, _, by go_num, by have := HJ.out; omega, by have := HJ.out; omega, HF.out, ?_, HB3.out.setCell (Nat.le_refl _) _⟩
          intro i hi
          by_cases q : i = j
          · subst q; rw [List.getElem?_set_self (by omega), HXY.out.1, HXY.out.2, HWT.out]
          · rw [List.getElem?_set_ne (by omega)]; exact hys.out i (by omega)
        case measure => have := HJ.out; omega
    · have e : j = xs.length := by omega
      have hjn := Tryd.strings_Join w.heap.size 0 xs.length (gts 43 xs) ⟨#[44]⟩ wr (fun i x hx => by obtain ⟨hi, rfl⟩ := gts_get hx; rw [Nat.zero_add, hown.cellAt i (by omega)]; exact hys.out i (by omega)) hg0 (by rw [gts_length]; omega) (by rw [gts_length]; exact Nat.le_refl _)
        (by rw [gjt_gts, Array.length_toList]; have := gjt_size (c := 43) hbd xs.length (Nat.le_refl _); have e2 : (gjt 43 xs xs.length).data.size = (gjt 43 xs xs.length).size := rfl; omega)
      rw [gts_length, gjt_gts, Array.toArray_toList] at hjn
      have HBl := Lib.hid hbel
      have HJN := Lib.hid hjn
      clear hbel hown hjn ht B2 hown0 h
      go_wp2_with fail
      refine HJN.out.mono ?_; rintro e w5 ⟨rfl, hb5⟩
      go_wp2_with fail
      go_ret
      exact ⟨rfl, HBl.out.trans (hb5.mono HBl.out.size)⟩
set_option maxHeartbeats 2000000 in
theorem implVisitsText (a : Option Addr) (cap : Nat) (xs : List (Int × Int)) (w : World) (h : RdP w a xs) (hn : xs.length ≤ 1048576) (ht : Lib.TabIs Tryd.prog w "internal/strconv.uint64pow10" .u64 Lib.pow10Tab) :
    Calls Tryd.prog 8 #[.slice a xs.length cap] w fun e w' => e = .returned (.tuple #[.string (vijx xs), .bool (viS xs)]) ∧ Below w.heap.size w w' := by
  have hmf : ∀ (fn : Fn) (first cap : Array Value) (w : World), (Instr.makeFunc fn first cap).run Tryd.prog w = .ok (.func fn first cap) w := fun _ _ _ _ => rfl
  cases hs : viS xs
  · have hx : Hid (vijx xs = ⟨#[]⟩) := by unfold Hid vijx; rw [hs]; rfl
    have HS := Lib.hid hs
    clear hs
    go_enter Tryd.func8, Tryd.ntmps8
    go_wp2_with fail
    refine (implAreVisits a cap xs _ h hn).mono ?_; rw [HS.out]; rintro e w1 ⟨rfl, hb⟩
    go_wp2_with fail
    go_ret2
    exact ⟨by rw [hx.out]; rfl, by assumption⟩
  · have hx : Hid (vijx xs = gjt 43 xs xs.length) := by unfold Hid vijx; rw [hs]; rfl
    have hp := vi_parts hs
    have HS := Lib.hid hs
    clear hs
    go_enter Tryd.func8, Tryd.ntmps8
    go_wp2_with fail
    refine (implAreVisits a cap xs _ h hn).mono ?_; rw [HS.out]; rintro e w1 ⟨rfl, hb1⟩
    go_wp2_with fail
    refine (viList_any a cap xs _ (h.below hb1) hp.1 hp.2 (tab_below pow10G (tab_lt pow10G ht) ht hb1)).mono ?_; rintro e w2 ⟨rfl, hb2⟩
    go_wp2_with fail
    go_ret2
    exact ⟨by rw [hx.out]; rfl, hb1.trans (hb2.mono hb1.size)⟩
end Go.Proofs.YtjfmmdblfhgelaaDoor
