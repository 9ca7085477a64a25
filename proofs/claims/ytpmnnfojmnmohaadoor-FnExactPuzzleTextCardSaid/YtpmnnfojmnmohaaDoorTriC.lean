/- Slices of clues (structs of three integers): what a slice owns; the laws' own helpers on them and on puzzles by contracts. -/
import Derived.Test.YtpmnnfojmnmohaaDoorProg
import Derived.Test.YtpmnnfojmnmohaaDoorTwoWalks
import Derived.Test.YtpmnnfojmnmohaaDoorPzNum
import Derived.Test.YtpmnnfojmnmohaaDoorTri0
import Derived.WalkKit
import Derived.WalkSpells
import Derived.WalkLawsBesides
import Derived.Lib.Hide
import Derived.Deep.LoopGhost
import Derived.Deep.QuietTactic
import Derived.Deep.RegionHeld3
import Derived.BigQuiet
namespace Go.Proofs.YtpmnnfojmnmohaaDoor
open Go.RowKit
set_option linter.unusedVariables false
set_option linter.unusedSimpArgs false

/-- The slice of clues at a is the call's own, from block base on, and reads as xs. -/
def OwnC (w : World) (base : Nat) (a : Option Addr) (cap : Nat) (xs : List (Int × Int × Int)) : Prop :=
  w.ownsRow base 47 3 (.slice a xs.length cap) xs.length (cs3 xs)
theorem OwnC.below {w w' : World} {base : Nat} {a : Option Addr} {cap : Nat} {xs : List (Int × Int × Int)} (h : OwnC w base a cap xs) (hb : Below w.heap.size w w') : OwnC w' base a cap xs := row_below h hb
theorem OwnC.rd {w : World} {base : Nat} {a : Option Addr} {cap : Nat} {xs : List (Int × Int × Int)} (h : OwnC w base a cap xs) : RdC w a xs := rowT_rd rfl h
theorem OwnC.grown {w w' : World} {base X : Nat} {a : Option Addr} {cap : Nat} {ks : List (Int × Int × Int)} (h : OwnC w base a cap ks) (hg : w.grownBy w' (some X)) (hX : X < base) : OwnC w' base a cap ks := by
  unfold OwnC at h ⊢
  refine World.ownsRow.kept h hg ?_
  rcases hb : (Value.slice a ks.length cap).ownBlock with _ | k
  · exact .inl rfl
  · refine .inr fun q => ?_
    have := (h.lt k hb).1
    have e := Option.some.inj q
    omega
theorem OwnC.apart {w w' : World} {base : Nat} {a : Option Addr} {cap : Nat} {ks : List (Int × Int × Int)} {r : Option Nat} (h : OwnC w base a cap ks) (hg : w.grownBy w' r) (hr : (Value.slice a ks.length cap).ownBlock = none ∨ (Value.slice a ks.length cap).ownBlock ≠ r) : OwnC w' base a cap ks := World.ownsRow.kept h hg hr
theorem cluesInfo : (Tryd.prog.info? 47).map (fun i => (i.zero, i.size, i.bytes)) = some (some (.agg #[.int .i64 0, .int .i64 0, .int .i64 0]), 3, 24) := by kernel_rfl

set_option maxHeartbeats 1000000 in
theorem szClueS_any (a : Option Addr) (n cap : Nat) (w : World) (hn : n ≤ 9223372036854775807) :
    Calls Tryd.prog 14 #[.slice a n cap, .int .i64 1048576] w fun e w' => e = .returned (.int .i64 (if 1048576 < (n : Int) then -1 else 1048576 - (n : Int))) ∧ w = w' := by
  by_cases h : (1048576 : Int) < (n : Int)
  · rw [if_pos h]
    go_enter Tryd.func14, Tryd.ntmps14
    go_wp2
    go_ret
    exact ⟨rfl, rfl⟩
  · rw [if_neg h]
    go_enter Tryd.func14, Tryd.ntmps14
    go_wp2
    go_ret
    exact ⟨rfl, rfl⟩
set_option maxHeartbeats 1000000 in
theorem szPuzzle_big (a : Option Addr) (n cap : Nat) (w : World) (hn : n ≤ 9223372036854775807) (h : (1048576 : Int) < (n : Int)) :
    Calls Tryd.prog 5 #[.agg #[.slice a n cap], .int .i64 1048576] w fun e w' => e = .returned (.int .i64 (-1)) ∧ Below w.heap.size w w' := by
  go_enter Tryd.func5, Tryd.ntmps5
  go_wp2_with (first | (go_at_call 14; refine (szClueS_any a n cap _ hn).mono ?_; rw [if_pos h]; rintro e w1 ⟨rfl, rfl⟩))
  go_ret
  exact ⟨rfl, by (repeat (first | assumption | exact Below.refl _ _ | refine Below.drew ?_ | refine below_drewN ?_ _ | refine Below.setCell ?_ (by first | omega | (simp; done) | (simp; omega)) _ | refine Below.alloc ?_ (by first | omega | (simp; done) | (simp; omega)) _ | refine bchain ?_ (by assumption) (by first | omega | (simp; done) | (simp; omega))))⟩
set_option maxHeartbeats 1000000 in
theorem szPuzzle_ok (a : Option Addr) (n cap : Nat) (w : World) (hn : n ≤ 1048576) :
    Calls Tryd.prog 5 #[.agg #[.slice a n cap], .int .i64 1048576] w fun e w' => e = .returned (.int .i64 (1048576 - (n : Int))) ∧ Below w.heap.size w w' := by
  have h : ¬ (1048576 : Int) < (n : Int) := by omega
  have h0 : (0 : Int) ≤ 1048576 - (n : Int) := by omega
  go_enter Tryd.func5, Tryd.ntmps5
  go_wp2_with (first | (go_at_call 14; refine (szClueS_any a n cap _ (by omega)).mono ?_; rw [if_neg h]; rintro e w1 ⟨rfl, rfl⟩))
  go_ret
  exact ⟨rfl, by (repeat (first | assumption | exact Below.refl _ _ | refine Below.drew ?_ | refine below_drewN ?_ _ | refine Below.setCell ?_ (by first | omega | (simp; done) | (simp; omega)) _ | refine Below.alloc ?_ (by first | omega | (simp; done) | (simp; omega)) _ | refine bchain ?_ (by assumption) (by first | omega | (simp; done) | (simp; omega))))⟩
set_option maxHeartbeats 1000000 in
/-- toClueS makes a copy in a new block. -/
theorem toClueS_any (a : Option Addr) (cap : Nat) (xs : List (Int × Int × Int)) (w : World) (h : RdC w a xs) (hn : xs.length ≤ 1048576) :
    Calls Tryd.prog 17 #[.slice a xs.length cap] w fun e w' => e = .returned (.slice (some ⟨w.heap.size, 0, none⟩) xs.length xs.length) ∧ OwnC w' w.heap.size (some ⟨w.heap.size, 0, none⟩) xs.length xs ∧ Below w.heap.size w w' := by
  obtain ⟨i0, hi, hz0, hz1, hz2⟩ := info_parts cluesInfo
  obtain ⟨w0, hrun, hown0, hgr0⟩ := run_make_full (P := Tryd.prog) w w.heap.size 28 47 i0 (.agg #[.int .i64 0, .int .i64 0, .int .i64 0]) 3 Tryd.underlying28 hi hz0 hz1 .i64 .i64 xs.length (by rw [hz2]; omega) (by unfold maxLen; omega) (Nat.le_refl _)
  have hbel0 : Below w.heap.size w w0 := (Below.refl _ _).grown hgr0 (Nat.le_refl _) (fun k hk => by cases hk)
  obtain ⟨ys0, hy0⟩ : ∃ ys, ys = (madeCells (Value.cells (.agg #[.int .i64 0, .int .i64 0, .int .i64 0])) (xs.length * 3)).toList := ⟨_, rfl⟩
  rw [← hy0] at hown0
  clear hy0 hgr0
  have hsz0 := hbel0.size
  go_enter Tryd.func17, Tryd.ntmps17
  go_wp2_with fail
  clear hrun
  go_loopg [4] xs.length (fun k v4 wr => ∃ (j : Nat) (ys : List Value), v4 = .int .i64 (j : Int) ∧ j + k ≤ xs.length ∧ xs.length ≤ j + k ∧ wr.ownsRow w.heap.size 47 3 (.slice (some ⟨w.heap.size, 0, none⟩) xs.length xs.length) xs.length ys ∧ Hid (∀ i, i < j * 3 → ys[i]? = (cs3 xs)[i]?) ∧ Below w.heap.size w wr)
  case atStart => exact ⟨0, ys0, rfl, by omega, by omega, hown0, fun i hi => absurd hi (Nat.not_lt_zero _), hbel0⟩
  case round =>
    obtain ⟨j, ys, rfl, h1, h2, hown, hys, hbel⟩ := hrel
    by_cases hj : j < xs.length
    · rcases h with h | ⟨b, off, rfl, hlt, hc⟩
      · rw [h] at hj; exact absurd hj (Nat.not_lt_zero _)
      · have hcj : wr.cell? ⟨b, off + j * 3, none⟩ = some (.int .i64 (tk xs j)) := by rw [(bcell hbel).1 b _ hlt]; exact (hc j hj).1
        have hck : wr.cell? ⟨b, off + j * 3 + 1, none⟩ = some (.int .i64 (ta xs j)) := by rw [(bcell hbel).1 b _ hlt]; exact (hc j hj).2.1
        have hcl : wr.cell? ⟨b, off + j * 3 + 2, none⟩ = some (.int .i64 (tb xs j)) := by rw [(bcell hbel).1 b _ hlt]; exact (hc j hj).2.2
        have hlen : ys.length = xs.length * 3 := hown.1
        have hg0 := (hown.lt w.heap.size rfl).2
        have hjI : (j : Int) < (xs.length : Int) := by omega
        have HO := Lib.hid hown
        have HB := Lib.hid hbel
        have hp0 := tk_get hj
        have hp1 := ta_get hj
        have hp2 := tb_get hj
        have HP := Lib.hid (And.intro hp0 (And.intro hp1 hp2))
        clear hown hbel hc hp0 hp1 hp2
        generalize tk xs j = x at *
        generalize ta xs j = y at *
        generalize tb xs j = z at *
        go_wp2_with (first | (go_at_call 28; refine (toClue_any x y z _).mono ?_; rintro e w1 ⟨rfl, hb⟩; have hO1 := row_below HO.out hb; have hcy0 := hO1.cellAt (j * 3) (by omega); have hcy1 := hO1.cellAt (j * 3 + 1) (by omega); have hcy2 := hO1.cellAt (j * 3 + 2) (by omega); have hfy0 := hO1.frozenAt (j * 3); have hfy1 := hO1.frozenAt (j * 3 + 1); have hfy2 := hO1.frozenAt (j * 3 + 2); rw [List.getElem?_eq_getElem (by omega)] at hcy0 hcy1 hcy2; have hO1' := Lib.hid hO1; clear hO1; have hb' := Lib.hid hb; clear hb))
        go_roundg (gk - 1)
        case rel =>
          obtain ⟨hst, hst0⟩ := hO1'.out.stored (j * 3) (.int .i64 x)
          obtain ⟨hst2, hst1⟩ := hst.stored (j * 3 + 1) (.int .i64 y)
          obtain ⟨hst4, hst3⟩ := hst2.stored (j * 3 + 2) (.int .i64 z)
          refine ⟨j + 1, _, by go_num, by omega, by omega, hst4, ?_, ?_⟩
          · intro i hi
            by_cases q2 : i = j * 3 + 2
            · subst q2; rw [List.getElem?_set_self (by rw [List.length_set, List.length_set]; omega), HP.out.2.2]
            rw [List.getElem?_set_ne (by omega)]
            by_cases q : i = j * 3 + 1
            · subst q; rw [List.getElem?_set_self (by rw [List.length_set]; omega), HP.out.2.1]
            · rw [List.getElem?_set_ne (by omega)]
              by_cases q' : i = j * 3
              · subst q'; rw [List.getElem?_set_self (by omega), HP.out.1]
              · rw [List.getElem?_set_ne (by omega)]; exact hys.out i (by omega)
          · exact (((HB.out.trans (hb'.out.mono HB.out.size)).setCell (Nat.le_refl _) _).setCell (Nat.le_refl _) _).setCell (Nat.le_refl _) _
        case measure => omega
    · have e : j = xs.length := by omega
      have hlen : ys.length = xs.length * 3 := hown.1
      have hyx : ys = cs3 xs := by
        apply List.ext_getElem?
        intro i
        by_cases q : i < xs.length * 3
        · exact hys.out i (by omega)
        · rw [List.getElem?_eq_none (by omega), List.getElem?_eq_none (by rw [cs3_length]; omega)]
      subst hyx
      have HP := Lib.hid (And.intro hown hbel)
      clear hown hys e hlen
      go_wp2_with fail
      go_ret
      exact ⟨rfl, HP.out.1, HP.out.2⟩
set_option maxHeartbeats 1000000 in
theorem toPuzzle_any (a : Option Addr) (cap : Nat) (xs : List (Int × Int × Int)) (w : World) (h : RdC w a xs) (hn : xs.length ≤ 1048576) :
    Calls Tryd.prog 7 #[.agg #[.slice a xs.length cap]] w fun e w' => ∃ a' c', e = .returned (.agg #[.slice a' xs.length c']) ∧ OwnC w' w.heap.size a' c' xs ∧ Below w.heap.size w w' := by
  go_enter Tryd.func7, Tryd.ntmps7
  go_wp2_with (first | (go_at_call 17; refine (toClueS_any a cap xs _ (h.below (by (repeat (first | assumption | exact Below.refl _ _ | refine Below.drew ?_ | refine below_drewN ?_ _ | refine Below.setCell ?_ (by first | omega | (simp; done) | (simp; omega)) _ | refine Below.alloc ?_ (by first | omega | (simp; done) | (simp; omega)) _ | refine bchain ?_ (by assumption) (by first | omega | (simp; done) | (simp; omega)))))) hn).mono ?_; rintro e w1 ⟨rfl, hO, hb⟩; have hs := hb.size; (try simp only [World.size_alloc] at hs); have hcA := fun o => (bcell hb).1 (w.heap.size + 1) o (by first | omega | (simp; done) | (simp; omega)); have hcB := fun o => (bcell hb).1 (w.heap.size + 1 + 1) o (by first | omega | (simp; done) | (simp; omega)); have hfA := fun o => (bcell hb).2 (w.heap.size + 1) o (by first | omega | (simp; done) | (simp; omega)); have hfB := fun o => (bcell hb).2 (w.heap.size + 1 + 1) o (by first | omega | (simp; done) | (simp; omega))))
  have z0 : w1.cell? ⟨w.heap.size + 1, 0, none⟩ = some (.slice none 0 0) := by rw [hcA]; go_simp
  refine bodyPost_ret (v := .agg #[.slice (some ⟨w.heap.size + 1 + 1 + 1, 0, none⟩) xs.length xs.length]) (by simp [results, Tryd.results7, go_sem, z0]) rfl ⟨_, _, rfl, ?_, ?_⟩
  · unfold OwnC at hO
    simp only [World.size_alloc] at hO
    refine row_low (row_setLow (row_setLow hO _ _ ?_) _ _ ?_) ?_
    all_goals first | omega | (simp; done) | (simp; omega)
  · (repeat (first | assumption | exact Below.refl _ _ | refine Below.drew ?_ | refine below_drewN ?_ _ | refine Below.setCell ?_ (by first | omega | (simp; done) | (simp; omega)) _ | refine Below.alloc ?_ (by first | omega | (simp; done) | (simp; omega)) _ | refine bchain ?_ (by assumption) (by first | omega | (simp; done) | (simp; omega))))
set_option maxHeartbeats 1000000 in
/-- eqClueS answers true of two slices that read alike. -/
theorem eqClueS_eq (a a2 : Option Addr) (cap cap2 : Nat) (xs : List (Int × Int × Int)) (w : World) (h : RdC w a xs) (g : RdC w a2 xs) (hn : xs.length ≤ 1048576) :
    Calls Tryd.prog 19 #[.slice a xs.length cap, .slice a2 xs.length cap2] w fun e w' => e = .returned (.bool true) ∧ Below w.heap.size w w' := by
  go_enter Tryd.func19, Tryd.ntmps19
  go_wp2_with fail
  go_loopg [5] xs.length (fun k v5 wr => ∃ (j : Nat), v5 = .int .i64 (j : Int) ∧ j + k ≤ xs.length ∧ xs.length ≤ j + k ∧ Below w.heap.size w wr)
  case atStart => exact ⟨0, rfl, by omega, by omega, Below.refl _ _⟩
  case round =>
    obtain ⟨j, rfl, h1, h2, hbel⟩ := hrel
    by_cases hj : j < xs.length
    · rcases h with h | ⟨b, off, rfl, hlt, hc⟩
      · rw [h] at hj; exact absurd hj (Nat.not_lt_zero _)
      · rcases g with g | ⟨b2, off2, rfl, hlt2, hc2⟩
        · rw [g] at hj; exact absurd hj (Nat.not_lt_zero _)
        · have hcj : wr.cell? ⟨b, off + j * 3, none⟩ = some (.int .i64 (tk xs j)) := by rw [(bcell hbel).1 b _ hlt]; exact (hc j hj).1
          have hck : wr.cell? ⟨b, off + j * 3 + 1, none⟩ = some (.int .i64 (ta xs j)) := by rw [(bcell hbel).1 b _ hlt]; exact (hc j hj).2.1
          have hcl : wr.cell? ⟨b, off + j * 3 + 2, none⟩ = some (.int .i64 (tb xs j)) := by rw [(bcell hbel).1 b _ hlt]; exact (hc j hj).2.2
          have hdj : wr.cell? ⟨b2, off2 + j * 3, none⟩ = some (.int .i64 (tk xs j)) := by rw [(bcell hbel).1 b2 _ hlt2]; exact (hc2 j hj).1
          have hdk : wr.cell? ⟨b2, off2 + j * 3 + 1, none⟩ = some (.int .i64 (ta xs j)) := by rw [(bcell hbel).1 b2 _ hlt2]; exact (hc2 j hj).2.1
          have hdl : wr.cell? ⟨b2, off2 + j * 3 + 2, none⟩ = some (.int .i64 (tb xs j)) := by rw [(bcell hbel).1 b2 _ hlt2]; exact (hc2 j hj).2.2
          have hjI : (j : Int) < (xs.length : Int) := by omega
          have HB := Lib.hid hbel
          have hs1 : b < wr.heap.size := Nat.lt_of_lt_of_le hlt hbel.size
          have hs2 : b2 < wr.heap.size := Nat.lt_of_lt_of_le hlt2 hbel.size
          clear hbel hc hc2
          generalize tk xs j = x at *
          generalize ta xs j = y at *
          generalize tb xs j = z at *
          go_wp2_with fail
          go_region_held3 (fun w' => Below wr.heap.size wr w' ∧ w'.cell? ⟨b, off + j * 3, none⟩ = some (.int .i64 x) ∧ w'.cell? ⟨b, off + j * 3 + 1, none⟩ = some (.int .i64 y) ∧ w'.cell? ⟨b, off + j * 3 + 2, none⟩ = some (.int .i64 z) ∧ w'.cell? ⟨b2, off2 + j * 3, none⟩ = some (.int .i64 x) ∧ w'.cell? ⟨b2, off2 + j * 3 + 1, none⟩ = some (.int .i64 y) ∧ w'.cell? ⟨b2, off2 + j * 3 + 2, none⟩ = some (.int .i64 z))
            (refine ⟨?_, ?_, ?_, ?_, ?_, ?_, ?_⟩ <;> first | assumption | (go_simp; done) | (repeat (first | exact Below.refl _ _ | refine Below.drew ?_ | refine bchain ?_ (by assumption) (by first | omega | (simp; done) | (simp; omega)))))
            (first | (go_at_call 32; refine (eqClue_same x y z _).mono ?_; rintro e w1 ⟨rfl, hb⟩; have q1 := fun o => (bcell hb).1 b o (by first | omega | (simp; omega)); have q2 := fun o => (bcell hb).1 b2 o (by first | omega | (simp; omega))))
          all_goals go_wp2_with fail
          rename_i hHeld
          go_roundg (gk - 1)
          case rel => exact ⟨j + 1, by go_num, by omega, by omega, HB.out.trans (hHeld.1.mono HB.out.size)⟩
          case measure => omega
    · have HB := Lib.hid hbel
      clear hbel
      go_wp2_with fail
      go_ret
      exact ⟨rfl, HB.out⟩
set_option maxHeartbeats 1000000 in
theorem eqPuzzle_eq (a a2 : Option Addr) (cap cap2 : Nat) (xs : List (Int × Int × Int)) (w : World) (h : RdC w a xs) (g : RdC w a2 xs) (hn : xs.length ≤ 1048576) :
    Calls Tryd.prog 9 #[.agg #[.slice a xs.length cap], .agg #[.slice a2 xs.length cap2]] w fun e w' => e = .returned (.bool true) ∧ Below w.heap.size w w' := by
  go_enter Tryd.func9, Tryd.ntmps9
  go_wp2_with fail
  refine (eqClueS_eq a a2 cap cap2 xs _ (h.below (by (repeat (first | assumption | exact Below.refl _ _ | refine Below.drew ?_ | refine below_drewN ?_ _ | refine Below.setCell ?_ (by first | omega | (simp; done) | (simp; omega)) _ | refine Below.alloc ?_ (by first | omega | (simp; done) | (simp; omega)) _ | refine bchain ?_ (by assumption) (by first | omega | (simp; done) | (simp; omega)))))) (g.below (by (repeat (first | assumption | exact Below.refl _ _ | refine Below.drew ?_ | refine below_drewN ?_ _ | refine Below.setCell ?_ (by first | omega | (simp; done) | (simp; omega)) _ | refine Below.alloc ?_ (by first | omega | (simp; done) | (simp; omega)) _ | refine bchain ?_ (by assumption) (by first | omega | (simp; done) | (simp; omega)))))) hn).mono ?_
  rintro e w1 ⟨rfl, hb⟩
  go_wp2_with fail
  go_ret
  exact ⟨rfl, by (repeat (first | assumption | exact Below.refl _ _ | refine Below.drew ?_ | refine below_drewN ?_ _ | refine Below.setCell ?_ (by first | omega | (simp; done) | (simp; omega)) _ | refine Below.alloc ?_ (by first | omega | (simp; done) | (simp; omega)) _ | refine bchain ?_ (by assumption) (by first | omega | (simp; done) | (simp; omega))))⟩
set_option maxHeartbeats 2000000 in
/-- markClueS writes the marks k, k + 1, .. into a slice of the call's own, and nothing else. -/
theorem markClueS_own (base : Nat) (a : Option Addr) (cap : Nat) (xs : List (Int × Int × Int)) (k : Int) (w : World) (h : OwnC w base a cap xs) (k0 : 0 ≤ k) (k1 : k + 3 * (xs.length : Int) ≤ 4611686018427387904) :
    Calls Tryd.prog 23 #[.slice a xs.length cap, .int .i64 k] w fun e w' => e = .returned (.int .i64 (k + 3 * (xs.length : Int))) ∧ w'.ownsRow base 47 3 (.slice a xs.length cap) xs.length (cs3 (sqT k xs.length)) ∧ w.grownBy w' (Value.slice a xs.length cap).ownBlock := by
  generalize hn : xs.length = n at *
  have hown : w.ownsRow base 47 3 (.slice a n cap) n (cs3 xs) := by rw [← hn]; exact h
  clear h
  obtain ⟨hl, hh⟩ := hown
  rcases hh with ⟨e0, hn0⟩ | ⟨g, c, cur, e, q1, q2, q3, q4, q5, q6⟩
  · have e1 : a = none ∧ cap = 0 := by injection e0 with x1 x2 x3; exact ⟨x1, x3⟩
    obtain ⟨rfl, rfl⟩ := e1
    clear hl e0
    subst hn0
    clear hn
    go_enter Tryd.func23, Tryd.ntmps23
    go_wp2_with fail
    go_loopg [1, 5] 0 (fun f v1 v5 wr => v1 = .int .i64 k ∧ v5 = .int .i64 0 ∧ w = wr)
    case atStart => exact ⟨rfl, rfl, rfl⟩
    case round =>
      obtain ⟨rfl, rfl, rfl⟩ := hrel
      go_wp2_with fail
      go_ret
      refine ⟨by simp, ⟨by simp [sqT, cs3], .inl ⟨rfl, rfl⟩⟩, ⟨rfl, rfl, rfl, Nat.le_refl _, fun _ _ _ => rfl⟩⟩
  · have e1 : a = some ⟨g, 0, none⟩ ∧ cap = c := by injection e with x1 x2 x3; exact ⟨x1, x3⟩
    obtain ⟨rfl, rfl⟩ := e1
    have hown : w.ownsRow base 47 3 (.slice (some ⟨g, 0, none⟩) n cap) n (cs3 xs) := ⟨hl, .inr ⟨g, cap, cur, rfl, q1, q2, q3, q4, q5, q6⟩⟩
    have hgs : g < w.heap.size := (hown.lt g rfl).2
    clear q2 q3 q4 q5 q6 hl e hn
    go_enter Tryd.func23, Tryd.ntmps23
    go_wp2_with fail
    go_loopg [1, 5] n (fun f v1 v5 wr => ∃ (j : Nat) (ys : List Value), v1 = .int .i64 (k + 3 * (j : Int)) ∧ v5 = .int .i64 (j : Int) ∧ j + f ≤ n ∧ n ≤ j + f ∧ wr.ownsRow base 47 3 (.slice (some ⟨g, 0, none⟩) n cap) n ys ∧ Hid (∀ i, i < j * 3 → ys[i]? = some (.int .i64 (k + (i : Int)))) ∧ w.grownBy wr (some g))
    case atStart => exact ⟨0, _, by simp, rfl, by omega, by omega, hown, fun i hi => absurd hi (by omega), ⟨rfl, rfl, rfl, Nat.le_refl _, fun _ _ _ => rfl⟩⟩
    case round =>
      clear hown
      obtain ⟨j, ys, rfl, rfl, h1, h2, hown, hys, hgr⟩ := hrel
      have hlen : ys.length = n * 3 := hown.1
      by_cases hj : j < n
      · obtain ⟨z0, hcy0⟩ : ∃ z, wr.cell? ⟨g, j * 3, none⟩ = some z := ⟨ys[j * 3]'(by omega), by rw [hown.cellAt (j * 3) (by omega)]; exact List.getElem?_eq_getElem _⟩
        obtain ⟨z1, hcy1⟩ : ∃ z, wr.cell? ⟨g, j * 3 + 1, none⟩ = some z := ⟨ys[j * 3 + 1]'(by omega), by rw [hown.cellAt (j * 3 + 1) (by omega)]; exact List.getElem?_eq_getElem _⟩
        obtain ⟨z2, hcy2⟩ : ∃ z, wr.cell? ⟨g, j * 3 + 2, none⟩ = some z := ⟨ys[j * 3 + 2]'(by omega), by rw [hown.cellAt (j * 3 + 2) (by omega)]; exact List.getElem?_eq_getElem _⟩
        have hfy0 := hown.frozenAt (j * 3)
        have hfy1 := hown.frozenAt (j * 3 + 1)
        have hfy2 := hown.frozenAt (j * 3 + 2)
        obtain ⟨hst, hst2⟩ := hown.stored (j * 3) (.int .i64 (k + 3 * (j : Int)))
        obtain ⟨hsu, hsu2⟩ := hst.stored (j * 3 + 1) (.int .i64 (k + 3 * (j : Int) + 1))
        obtain ⟨hsv, hsv2⟩ := hsu.stored (j * 3 + 2) (.int .i64 (k + 3 * (j : Int) + 1 + 1))
        have hys2 : Hid (∀ i, i < (j + 1) * 3 → (((ys.set (j * 3) (.int .i64 (k + 3 * (j : Int)))).set (j * 3 + 1) (.int .i64 (k + 3 * (j : Int) + 1))).set (j * 3 + 2) (.int .i64 (k + 3 * (j : Int) + 1 + 1)))[i]? = some (.int .i64 (k + (i : Int)))) := by
          intro i hi
          by_cases q2 : i = j * 3 + 2
          · subst q2; rw [List.getElem?_set_self (by rw [List.length_set, List.length_set]; omega)]; rw [show k + ((j * 3 + 2 : Nat) : Int) = k + 3 * (j : Int) + 1 + 1 from by omega]
          rw [List.getElem?_set_ne (by omega)]
          by_cases q : i = j * 3 + 1
          · subst q; rw [List.getElem?_set_self (by rw [List.length_set]; omega)]; rw [show k + ((j * 3 + 1 : Nat) : Int) = k + 3 * (j : Int) + 1 from by omega]
          · rw [List.getElem?_set_ne (by omega)]
            by_cases q' : i = j * 3
            · subst q'; rw [List.getElem?_set_self (by omega)]; rw [show k + ((j * 3 : Nat) : Int) = k + 3 * (j : Int) from by omega]
            · rw [List.getElem?_set_ne (by omega)]; exact hys.out i (by omega)
        have hjI : (j : Int) < (n : Int) := by omega
        have G : ∀ {A B C : World}, A.grownBy B (some g) → B.grownBy C (some g) → A.grownBy C (some g) := fun p q =>
          ⟨q.os.trans p.os, q.tape.trans p.tape, q.output.trans p.output, Nat.le_trans p.size q.size, fun i hi hne => (q.block i (Nat.lt_of_lt_of_le hi p.size) hne).trans (p.block i hi hne)⟩
        have HP := Lib.hid (And.intro hsv (G hgr (G hst2 (G hsu2 hsv2))))
        clear hst hst2 hsu hsu2 hsv hsv2 hgr hys hown hlen G
        go_wp2_with fail
        go_roundg (gk - 1)
        case rel => exact ⟨j + 1, _, by rw [show k + 3 * ((j + 1 : Nat) : Int) = k + 3 * (j : Int) + 1 + 1 + 1 from by omega], by go_num, by omega, by omega, HP.out.1, hys2, HP.out.2⟩
        case measure => omega
      · have e : j = n := by omega
        have hyx : ys = cs3 (sqT k n) := by
          apply List.ext_getElem?
          intro i
          by_cases q : i < n * 3
          · rw [hys.out i (by omega)]
            have m : i % 3 = 0 ∨ i % 3 = 1 ∨ i % 3 = 2 := by omega
            rcases m with m | m | m
            · rw [show i = i / 3 * 3 from by omega, tk_get (by rw [sqT_length]; omega), sqT_k k n _ (by omega)]
              congr 2; omega
            · rw [show i = i / 3 * 3 + 1 from by omega, ta_get (by rw [sqT_length]; omega), sqT_a k n _ (by omega)]
              congr 2; omega
            · rw [show i = i / 3 * 3 + 2 from by omega, tb_get (by rw [sqT_length]; omega), sqT_b k n _ (by omega)]
              congr 2; omega
          · rw [List.getElem?_eq_none (by omega), List.getElem?_eq_none (by rw [cs3_length, sqT_length]; omega)]
        subst hyx
        have HP := Lib.hid (And.intro hown hgr)
        clear hown hys hlen hgr
        subst e
        go_wp2_with fail
        go_ret
        exact ⟨rfl, HP.out.1, HP.out.2⟩
set_option maxHeartbeats 1000000 in
theorem markPuzzle_own (base : Nat) (a : Option Addr) (cap : Nat) (xs : List (Int × Int × Int)) (k : Int) (w : World) (h : OwnC w base a cap xs) (k0 : 0 ≤ k) (k1 : k + 3 * (xs.length : Int) ≤ 4611686018427387904) :
    Calls Tryd.prog 12 #[.agg #[.slice a xs.length cap], .int .i64 k] w fun e w' => e = .returned (.int .i64 (k + 3 * (xs.length : Int))) ∧ w'.ownsRow base 47 3 (.slice a xs.length cap) xs.length (cs3 (sqT k xs.length)) ∧ w.grownBy w' (Value.slice a xs.length cap).ownBlock := by
  have hne : ∀ x, (Value.slice a xs.length cap).ownBlock = some x → x < w.heap.size := fun x hx => (h.lt x hx).2
  go_enter Tryd.func12, Tryd.ntmps12
  go_wp2_with fail
  refine (markClueS_own base a cap xs k _ (h.below (by (repeat (first | assumption | exact Below.refl _ _ | refine Below.drew ?_ | refine below_drewN ?_ _ | refine Below.setCell ?_ (by first | omega | (simp; done) | (simp; omega)) _ | refine Below.alloc ?_ (by first | omega | (simp; done) | (simp; omega)) _ | refine bchain ?_ (by assumption) (by first | omega | (simp; done) | (simp; omega)))))) k0 k1).mono ?_
  rintro e w1 ⟨rfl, hO, hg⟩
  go_wp2_with fail
  go_ret
  exact ⟨rfl, hO, (World.grownBy_alloc w _ _).trans hg⟩
set_option maxHeartbeats 1000000 in
theorem heldClueS_ok (a : Option Addr) (n cap : Nat) (k : Int) (w : World) (h : RdC w a (sqT k n)) (k0 : 0 ≤ k) (k1 : k + 3 * (n : Int) ≤ 4611686018427387904) :
    Calls Tryd.prog 24 #[.slice a n cap, .int .i64 k] w fun e w' => e = .returned (.int .i64 (k + 3 * (n : Int))) ∧ Below w.heap.size w w' := by
  go_enter Tryd.func24, Tryd.ntmps24
  go_wp2_with fail
  go_loopg [1, 5] n (fun f v1 v5 wr => ∃ (j : Nat), v1 = .int .i64 (k + 3 * (j : Int)) ∧ v5 = .int .i64 (j : Int) ∧ j + f ≤ n ∧ n ≤ j + f ∧ Below w.heap.size w wr)
  case atStart => exact ⟨0, by simp, rfl, by omega, by omega, Below.refl _ _⟩
  case round =>
    obtain ⟨j, rfl, rfl, h1, h2, hbel⟩ := hrel
    by_cases hj : j < n
    · rcases h with h | ⟨b, off, rfl, hlt, hc⟩
      · have := congrArg List.length h; rw [sqT_length] at this; simp at this; omega
      · have hcj := (hc j (by rw [sqT_length]; exact hj)).1
        have hck := (hc j (by rw [sqT_length]; exact hj)).2.1
        have hcl := (hc j (by rw [sqT_length]; exact hj)).2.2
        rw [sqT_k k n j hj] at hcj
        rw [sqT_a k n j hj] at hck
        rw [sqT_b k n j hj] at hcl
        have hcj' : wr.cell? ⟨b, off + j * 3, none⟩ = some (.int .i64 (k + 3 * (j : Int))) := by rw [(bcell hbel).1 b _ hlt]; exact hcj
        have hck' : wr.cell? ⟨b, off + j * 3 + 1, none⟩ = some (.int .i64 (k + 3 * (j : Int) + 1)) := by rw [(bcell hbel).1 b _ hlt]; exact hck
        have hcl' : wr.cell? ⟨b, off + j * 3 + 2, none⟩ = some (.int .i64 (k + 3 * (j : Int) + 1 + 1)) := by rw [(bcell hbel).1 b _ hlt, hcl]; congr 2; omega
        have hjI : (j : Int) < (n : Int) := by omega
        have HB := Lib.hid hbel
        clear hbel hc hcj hck hcl
        go_wp2_with fail
        all_goals try (go_quiet (fail); go_wp2_with fail)
        all_goals try (go_quiet (fail); go_wp2_with fail)
        all_goals try (go_quiet (fail); go_wp2_with fail)
        go_roundg (gk - 1)
        case rel => exact ⟨j + 1, by rw [show k + 3 * ((j + 1 : Nat) : Int) = k + 3 * (j : Int) + 1 + 1 + 1 from by omega], by go_num, by omega, by omega, by first | exact HB.out | exact below_drewN HB.out _⟩
        case measure => omega
    · have e : j = n := by omega
      have HB := Lib.hid hbel
      clear hbel
      subst e
      go_wp2_with fail
      go_ret
      exact ⟨rfl, HB.out⟩
set_option maxHeartbeats 1000000 in
theorem heldPuzzle_ok (a : Option Addr) (n cap : Nat) (k : Int) (w : World) (h : RdC w a (sqT k n)) (k0 : 0 ≤ k) (k1 : k + 3 * (n : Int) ≤ 4611686018427387904) :
    Calls Tryd.prog 13 #[.agg #[.slice a n cap], .int .i64 k] w fun e w' => e = .returned (.int .i64 (k + 3 * (n : Int))) ∧ Below w.heap.size w w' := by
  have h0 : (0 : Int) ≤ k + 3 * (n : Int) := by omega
  go_enter Tryd.func13, Tryd.ntmps13
  go_wp2_with (first | (go_at_call 24; refine (heldClueS_ok a n cap k _ (h.below (by (repeat (first | assumption | exact Below.refl _ _ | refine Below.drew ?_ | refine below_drewN ?_ _ | refine Below.setCell ?_ (by first | omega | (simp; done) | (simp; omega)) _ | refine Below.alloc ?_ (by first | omega | (simp; done) | (simp; omega)) _ | refine bchain ?_ (by assumption) (by first | omega | (simp; done) | (simp; omega)))))) k0 k1).mono ?_; rintro e w1 ⟨rfl, hb⟩))
  go_ret
  exact ⟨rfl, by (repeat (first | assumption | exact Below.refl _ _ | refine Below.drew ?_ | refine below_drewN ?_ _ | refine Below.setCell ?_ (by first | omega | (simp; done) | (simp; omega)) _ | refine Below.alloc ?_ (by first | omega | (simp; done) | (simp; omega)) _ | refine bchain ?_ (by assumption) (by first | omega | (simp; done) | (simp; omega))))⟩
end Go.Proofs.YtpmnnfojmnmohaaDoor
