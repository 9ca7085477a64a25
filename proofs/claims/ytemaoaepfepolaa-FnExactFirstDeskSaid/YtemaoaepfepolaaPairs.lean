/- Slices of walkers (structs of two integers): what a slice reads as, what it owns; the laws' own helpers toWalkerS, eqWalkerS, markWalkerS by contracts. -/
import Derived.Test.YtemaoaepfepolaaProg
import Derived.Test.YtemaoaepfepolaaTwoWalks
import Derived.Test.YtemaoaepfepolaaPairs0
import Derived.Test.YtemaoaepfepolaaAreAllW
import Derived.WalkKit
import Derived.WalkSpells
import Derived.WalkLawsBesides
import Derived.Lib.Hide
import Derived.Deep.LoopGhost
import Derived.Deep.QuietTactic
import Derived.Deep.RegionHeld3
import Derived.BigQuiet
namespace Go.Proofs.Ytemaoaepfepolaa
open Go.RowKit
set_option linter.unusedVariables false
set_option linter.unusedSimpArgs false

/-- The slice of walkers at a is the call's own, from block base on, and reads as xs. -/
def OwnP (w : World) (base : Nat) (a : Option Addr) (cap : Nat) (xs : List (Int × Int)) : Prop :=
  w.ownsRow base 50 2 (.slice a xs.length cap) xs.length (cs2 xs)
theorem OwnP.below {w w' : World} {base : Nat} {a : Option Addr} {cap : Nat} {xs : List (Int × Int)} (h : OwnP w base a cap xs) (hb : Below w.heap.size w w') : OwnP w' base a cap xs := row_below h hb
theorem OwnP.rd {w : World} {base : Nat} {a : Option Addr} {cap : Nat} {xs : List (Int × Int)} (h : OwnP w base a cap xs) : RdP w a xs := rowP_rd rfl h
theorem pairInfo : (Try.prog.info? 50).map (fun i => (i.zero, i.size, i.bytes)) = some (some (.agg #[.int .i64 0, .int .i64 0]), 2, 16) := by kernel_rfl

set_option maxHeartbeats 1000000 in
theorem szWalkerS_any (a : Option Addr) (n cap : Nat) (w : World) (hn : n ≤ 9223372036854775807) :
    Calls Try.prog 33 #[.slice a n cap, .int .i64 1048576] w fun e w' => e = .returned (.int .i64 (if 1048576 < (n : Int) then -1 else 1048576 - (n : Int))) ∧ w = w' := by
  by_cases h : (1048576 : Int) < (n : Int)
  · rw [if_pos h]
    go_enter Try.func33, Try.ntmps33
    go_wp2
    go_ret
    exact ⟨rfl, rfl⟩
  · rw [if_neg h]
    go_enter Try.func33, Try.ntmps33
    go_wp2
    go_ret
    exact ⟨rfl, rfl⟩
set_option maxHeartbeats 1000000 in
/-- toWalkerS makes a copy in a new block. -/
theorem toWalkerS_any (a : Option Addr) (cap : Nat) (xs : List (Int × Int)) (w : World) (h : RdP w a xs) (hn : xs.length ≤ 1048576) :
    Calls Try.prog 35 #[.slice a xs.length cap] w fun e w' => e = .returned (.slice (some ⟨w.heap.size, 0, none⟩) xs.length xs.length) ∧ OwnP w' w.heap.size (some ⟨w.heap.size, 0, none⟩) xs.length xs ∧ Below w.heap.size w w' := by
  obtain ⟨i0, hi, hz0, hz1, hz2⟩ := info_parts pairInfo
  obtain ⟨w0, hrun, hown0, hgr0⟩ := run_make_full (P := Try.prog) w w.heap.size 22 50 i0 (.agg #[.int .i64 0, .int .i64 0]) 2 Try.underlying22 hi hz0 hz1 .i64 .i64 xs.length (by rw [hz2]; omega) (by unfold maxLen; omega) (Nat.le_refl _)
  have hbel0 : Below w.heap.size w w0 := (Below.refl _ _).grown hgr0 (Nat.le_refl _) (fun k hk => by cases hk)
  obtain ⟨ys0, hy0⟩ : ∃ ys, ys = (madeCells (Value.agg #[.int .i64 0, .int .i64 0]).cells (xs.length * 2)).toList := ⟨_, rfl⟩
  rw [← hy0] at hown0
  clear hy0 hgr0
  have hsz0 := hbel0.size
  go_enter Try.func35, Try.ntmps35
  go_wp2_with fail
  clear hrun
  go_loopg [4] xs.length (fun k v4 wr => ∃ (j : Nat) (ys : List Value), v4 = .int .i64 (j : Int) ∧ j + k ≤ xs.length ∧ xs.length ≤ j + k ∧ wr.ownsRow w.heap.size 50 2 (.slice (some ⟨w.heap.size, 0, none⟩) xs.length xs.length) xs.length ys ∧ Hid (∀ i, i < j * 2 → ys[i]? = (cs2 xs)[i]?) ∧ Below w.heap.size w wr)
  case atStart => exact ⟨0, ys0, rfl, by omega, by omega, hown0, fun i hi => absurd hi (Nat.not_lt_zero _), hbel0⟩
  case round =>
    obtain ⟨j, ys, rfl, h1, h2, hown, hys, hbel⟩ := hrel
    by_cases hj : j < xs.length
    · rcases h with h | ⟨b, off, rfl, hlt, hc⟩
      · rw [h] at hj; exact absurd hj (Nat.not_lt_zero _)
      · have hcj : wr.cell? ⟨b, off + j * 2, none⟩ = some (.int .i64 (px xs j)) := by rw [(bcell hbel).1 b _ hlt]; exact (hc j hj).1
        have hck : wr.cell? ⟨b, off + j * 2 + 1, none⟩ = some (.int .i64 (py xs j)) := by rw [(bcell hbel).1 b _ hlt]; exact (hc j hj).2
        have hlen : ys.length = xs.length * 2 := hown.1
        have hg0 := (hown.lt w.heap.size rfl).2
        have hjI : (j : Int) < (xs.length : Int) := by omega
        have HO := Lib.hid hown
        have HB := Lib.hid hbel
        have hp0 := px_get hj
        have hp1 := py_get hj
        have HP := Lib.hid (And.intro hp0 hp1)
        clear hown hbel hc hp0 hp1
        generalize px xs j = x at *
        generalize py xs j = y at *
        go_wp2_with (first | (go_at_call 63; refine (toWalker_any x y _).mono ?_; rintro e w1 ⟨rfl, hb⟩; have hO1 := row_below HO.out hb; have hcy0 := hO1.cellAt (j * 2) (by omega); have hcy1 := hO1.cellAt (j * 2 + 1) (by omega); have hfy0 := hO1.frozenAt (j * 2); have hfy1 := hO1.frozenAt (j * 2 + 1); rw [List.getElem?_eq_getElem (by omega)] at hcy0 hcy1; have hO1' := Lib.hid hO1; clear hO1; have hb' := Lib.hid hb; clear hb))
        go_roundg (gk - 1)
        case rel =>
          obtain ⟨hst, hst0⟩ := hO1'.out.stored (j * 2) (.int .i64 x)
          obtain ⟨hst2, hst1⟩ := hst.stored (j * 2 + 1) (.int .i64 y)
          refine ⟨j + 1, _, by go_num, by omega, by omega, hst2, ?_, ?_⟩
          · intro i hi
            by_cases q : i = j * 2 + 1
            · subst q; rw [List.getElem?_set_self (by rw [List.length_set]; omega), HP.out.2]
            · rw [List.getElem?_set_ne (by omega)]
              by_cases q' : i = j * 2
              · subst q'; rw [List.getElem?_set_self (by omega), HP.out.1]
              · rw [List.getElem?_set_ne (by omega)]; exact hys.out i (by omega)
          · exact ((HB.out.trans (hb'.out.mono HB.out.size)).setCell (Nat.le_refl _) _).setCell (Nat.le_refl _) _
        case measure => omega
    · have e : j = xs.length := by omega
      have hlen : ys.length = xs.length * 2 := hown.1
      have hyx : ys = cs2 xs := by
        apply List.ext_getElem?
        intro i
        by_cases q : i < xs.length * 2
        · exact hys.out i (by omega)
        · rw [List.getElem?_eq_none (by omega), List.getElem?_eq_none (by rw [cs2_length]; omega)]
      subst hyx
      have HP := Lib.hid (And.intro hown hbel)
      clear hown hys e hlen
      go_wp2_with fail
      go_ret
      exact ⟨rfl, HP.out.1, HP.out.2⟩
set_option maxHeartbeats 1000000 in
theorem eqWalker_same (x y : Int) (w : World) :
    Calls Try.prog 61 #[.agg #[.int .i64 x, .int .i64 y], .agg #[.int .i64 x, .int .i64 y]] w fun e w' => e = .returned (.bool true) ∧ Below w.heap.size w w' := by
  go_enter Try.func61, Try.ntmps61
  go_wp2_with fail
  go_ret
  exact ⟨rfl, ((Below.refl _ _).alloc (Nat.le_refl _) _).alloc (by simp) _⟩
set_option maxHeartbeats 1000000 in
/-- eqWalkerS answers true of two slices that read alike. -/
theorem eqWalkerS_eq (a a2 : Option Addr) (cap cap2 : Nat) (xs : List (Int × Int)) (w : World) (h : RdP w a xs) (g : RdP w a2 xs) (hn : xs.length ≤ 1048576) :
    Calls Try.prog 30 #[.slice a xs.length cap, .slice a2 xs.length cap2] w fun e w' => e = .returned (.bool true) ∧ Below w.heap.size w w' := by
  go_enter Try.func30, Try.ntmps30
  go_wp2_with fail
  go_loopg [5] xs.length (fun k v5 wr => ∃ (j : Nat), v5 = .int .i64 (j : Int) ∧ j + k ≤ xs.length ∧ xs.length ≤ j + k ∧ Below w.heap.size w wr)
  case atStart => exact ⟨0, rfl, by omega, by omega, Below.refl _ _⟩
  case round =>
    obtain ⟨j, rfl, h1, h2, hbel⟩ := hrel
    by_cases hj : j < xs.length
    · rcases h with h | ⟨b, off, rfl, hlt, hc⟩
      · rw [h] at hj; exact absurd hj (Nat.not_lt_zero _)
      · rcases g with g | ⟨b2, off2, rfl, hlt2, hc2⟩
        · rw [g] at hj; exact absurd hj (Nat.not_lt_zero _)
        · have hcj : wr.cell? ⟨b, off + j * 2, none⟩ = some (.int .i64 (px xs j)) := by rw [(bcell hbel).1 b _ hlt]; exact (hc j hj).1
          have hck : wr.cell? ⟨b, off + j * 2 + 1, none⟩ = some (.int .i64 (py xs j)) := by rw [(bcell hbel).1 b _ hlt]; exact (hc j hj).2
          have hdj : wr.cell? ⟨b2, off2 + j * 2, none⟩ = some (.int .i64 (px xs j)) := by rw [(bcell hbel).1 b2 _ hlt2]; exact (hc2 j hj).1
          have hdk : wr.cell? ⟨b2, off2 + j * 2 + 1, none⟩ = some (.int .i64 (py xs j)) := by rw [(bcell hbel).1 b2 _ hlt2]; exact (hc2 j hj).2
          have hjI : (j : Int) < (xs.length : Int) := by omega
          have HB := Lib.hid hbel
          have hs1 : b < wr.heap.size := Nat.lt_of_lt_of_le hlt hbel.size
          have hs2 : b2 < wr.heap.size := Nat.lt_of_lt_of_le hlt2 hbel.size
          clear hbel hc hc2
          generalize px xs j = x at *
          generalize py xs j = y at *
          go_wp2_with fail
          go_region_held3 (fun w' => Below wr.heap.size wr w' ∧ w'.cell? ⟨b, off + j * 2, none⟩ = some (.int .i64 x) ∧ w'.cell? ⟨b, off + j * 2 + 1, none⟩ = some (.int .i64 y) ∧ w'.cell? ⟨b2, off2 + j * 2, none⟩ = some (.int .i64 x) ∧ w'.cell? ⟨b2, off2 + j * 2 + 1, none⟩ = some (.int .i64 y))
            (refine ⟨?_, ?_, ?_, ?_, ?_⟩ <;> first | assumption | (go_simp; done) | (repeat (first | exact Below.refl _ _ | refine Below.drew ?_ | refine bchain ?_ (by assumption) (by first | omega | (simp; done) | (simp; omega)))))
            (first | (go_at_call 61; refine (eqWalker_same x y _).mono ?_; rintro e w1 ⟨rfl, hb⟩; have q1 := fun o => (bcell hb).1 b o (by first | omega | (simp; omega)); have q2 := fun o => (bcell hb).1 b2 o (by first | omega | (simp; omega))))
          all_goals go_wp2_with fail
          rename_i hHeld
          go_roundg (gk - 1)
          case rel => exact ⟨j + 1, by go_num, by omega, by omega, HB.out.trans (hHeld.1.mono HB.out.size)⟩
          case measure => omega
    · have HB := Lib.hid hbel
      clear hbel
      go_wp2_with fail
      go_ret
      exact ⟨rfl, HB.out⟩
set_option maxHeartbeats 1000000 in
/-- markWalkerS writes the marks k, k + 1, .. into a slice of the call's own, and nothing else. -/
theorem markWalkerS_own (base : Nat) (a : Option Addr) (cap : Nat) (xs : List (Int × Int)) (k : Int) (w : World) (h : OwnP w base a cap xs) (k0 : 0 ≤ k) (k1 : k + 2 * (xs.length : Int) ≤ 4611686018427387904) :
    Calls Try.prog 31 #[.slice a xs.length cap, .int .i64 k] w fun e w' => e = .returned (.int .i64 (k + 2 * (xs.length : Int))) ∧ w'.ownsRow base 50 2 (.slice a xs.length cap) xs.length (cs2 (sqP k xs.length)) ∧ w.grownBy w' (Value.slice a xs.length cap).ownBlock := by
  generalize hn : xs.length = n at *
  have hown : w.ownsRow base 50 2 (.slice a n cap) n (cs2 xs) := by rw [← hn]; exact h
  clear h
  obtain ⟨hl, hh⟩ := hown
  rcases hh with ⟨e0, hn0⟩ | ⟨g, c, cur, e, q1, q2, q3, q4, q5, q6⟩
  · have e1 : a = none ∧ cap = 0 := by injection e0 with x1 x2 x3; exact ⟨x1, x3⟩
    obtain ⟨rfl, rfl⟩ := e1
    clear hl e0
    subst hn0
    clear hn
    go_enter Try.func31, Try.ntmps31
    go_wp2_with fail
    go_loopg [1, 5] 0 (fun f v1 v5 wr => v1 = .int .i64 k ∧ v5 = .int .i64 0 ∧ w = wr)
    case atStart => exact ⟨rfl, rfl, rfl⟩
    case round =>
      obtain ⟨rfl, rfl, rfl⟩ := hrel
      go_wp2_with fail
      go_ret
      refine ⟨by simp, ⟨by simp [sqP, cs2], .inl ⟨rfl, rfl⟩⟩, ⟨rfl, rfl, rfl, Nat.le_refl _, fun _ _ _ => rfl⟩⟩
  · have e1 : a = some ⟨g, 0, none⟩ ∧ cap = c := by injection e with x1 x2 x3; exact ⟨x1, x3⟩
    obtain ⟨rfl, rfl⟩ := e1
    have hown : w.ownsRow base 50 2 (.slice (some ⟨g, 0, none⟩) n cap) n (cs2 xs) := ⟨hl, .inr ⟨g, cap, cur, rfl, q1, q2, q3, q4, q5, q6⟩⟩
    have hgs : g < w.heap.size := (hown.lt g rfl).2
    clear q2 q3 q4 q5 q6 hl e hn
    go_enter Try.func31, Try.ntmps31
    go_wp2_with fail
    go_loopg [1, 5] n (fun f v1 v5 wr => ∃ (j : Nat) (ys : List Value), v1 = .int .i64 (k + 2 * (j : Int)) ∧ v5 = .int .i64 (j : Int) ∧ j + f ≤ n ∧ n ≤ j + f ∧ wr.ownsRow base 50 2 (.slice (some ⟨g, 0, none⟩) n cap) n ys ∧ Hid (∀ i, i < j * 2 → ys[i]? = some (.int .i64 (k + (i : Int)))) ∧ w.grownBy wr (some g))
    case atStart => exact ⟨0, _, by simp, rfl, by omega, by omega, hown, fun i hi => absurd hi (by omega), ⟨rfl, rfl, rfl, Nat.le_refl _, fun _ _ _ => rfl⟩⟩
    case round =>
      clear hown
      obtain ⟨j, ys, rfl, rfl, h1, h2, hown, hys, hgr⟩ := hrel
      have hlen : ys.length = n * 2 := hown.1
      by_cases hj : j < n
      · obtain ⟨z0, hcy0⟩ : ∃ z, wr.cell? ⟨g, j * 2, none⟩ = some z := ⟨ys[j * 2]'(by omega), by rw [hown.cellAt (j * 2) (by omega)]; exact List.getElem?_eq_getElem _⟩
        obtain ⟨z1, hcy1⟩ : ∃ z, wr.cell? ⟨g, j * 2 + 1, none⟩ = some z := ⟨ys[j * 2 + 1]'(by omega), by rw [hown.cellAt (j * 2 + 1) (by omega)]; exact List.getElem?_eq_getElem _⟩
        have hfy0 := hown.frozenAt (j * 2)
        have hfy1 := hown.frozenAt (j * 2 + 1)
        obtain ⟨hst, hst2⟩ := hown.stored (j * 2) (.int .i64 (k + 2 * (j : Int)))
        obtain ⟨hsu, hsu2⟩ := hst.stored (j * 2 + 1) (.int .i64 (k + 2 * (j : Int) + 1))
        have hys2 : Hid (∀ i, i < (j + 1) * 2 → ((ys.set (j * 2) (.int .i64 (k + 2 * (j : Int)))).set (j * 2 + 1) (.int .i64 (k + 2 * (j : Int) + 1)))[i]? = some (.int .i64 (k + (i : Int)))) := by
          intro i hi
          by_cases q : i = j * 2 + 1
          · subst q; rw [List.getElem?_set_self (by rw [List.length_set]; omega)]; rw [show k + ((j * 2 + 1 : Nat) : Int) = k + 2 * (j : Int) + 1 from by omega]
          · rw [List.getElem?_set_ne (by omega)]
            by_cases q' : i = j * 2
            · subst q'; rw [List.getElem?_set_self (by omega)]; rw [show k + ((j * 2 : Nat) : Int) = k + 2 * (j : Int) from by omega]
            · rw [List.getElem?_set_ne (by omega)]; exact hys.out i (by omega)
        have hjI : (j : Int) < (n : Int) := by omega
        have G : ∀ {A B C : World}, A.grownBy B (some g) → B.grownBy C (some g) → A.grownBy C (some g) := fun p q =>
          ⟨q.os.trans p.os, q.tape.trans p.tape, q.output.trans p.output, Nat.le_trans p.size q.size, fun i hi hne => (q.block i (Nat.lt_of_lt_of_le hi p.size) hne).trans (p.block i hi hne)⟩
        have HP := Lib.hid (And.intro hsu (G hgr (G hst2 hsu2)))
        clear hst hst2 hsu hsu2 hgr hys hown hlen G
        go_wp2_with fail
        go_roundg (gk - 1)
        case rel => exact ⟨j + 1, _, by rw [show k + 2 * ((j + 1 : Nat) : Int) = k + 2 * (j : Int) + 1 + 1 from by omega], by go_num, by omega, by omega, HP.out.1, hys2, HP.out.2⟩
        case measure => omega
      · have e : j = n := by omega
        have hyx : ys = cs2 (sqP k n) := by
          apply List.ext_getElem?
          intro i
          by_cases q : i < n * 2
          · rw [hys.out i (by omega)]
            by_cases q2 : i % 2 = 0
            · rw [show i = i / 2 * 2 from by omega, px_get (by rw [sqP_length]; omega), sqP_x k n _ (by omega)]
              congr 2; omega
            · rw [show i = i / 2 * 2 + 1 from by omega, py_get (by rw [sqP_length]; omega), sqP_y k n _ (by omega)]
              congr 2; omega
          · rw [List.getElem?_eq_none (by omega), List.getElem?_eq_none (by rw [cs2_length, sqP_length]; omega)]
        subst hyx
        have HP := Lib.hid (And.intro hown hgr)
        clear hown hys hlen hgr
        subst e
        go_wp2_with fail
        go_ret
        exact ⟨rfl, HP.out.1, HP.out.2⟩
/-- are they all walkers, from 1 to 8 -/
def allW (xs : List (Int × Int)) : Bool := xs.all fun p => wkOk p.1 p.2
def wks (xs : List (Int × Int)) : Bool := inB (xs.length : Int) 1 8 && allW xs
theorem allW_at {xs : List (Int × Int)} (h : allW xs = true) {i : Nat} (hi : i < xs.length) : wkOk (px xs i) (py xs i) = true := by
  unfold allW at h
  rw [List.all_eq_true] at h
  have := h xs[i] (List.getElem_mem hi)
  simpa [px, py, List.getD, List.getElem?_eq_getElem hi] using this
theorem allW_no {xs : List (Int × Int)} {i : Nat} (hi : i < xs.length) (h : wkOk (px xs i) (py xs i) = false) : allW xs = false := by
  cases hw : allW xs
  · rfl
  · rw [allW_at hw hi] at h; cases h
theorem allW_of {xs : List (Int × Int)} (h : ∀ i, i < xs.length → wkOk (px xs i) (py xs i) = true) : allW xs = true := by
  unfold allW
  rw [List.all_eq_true]
  intro p hp
  obtain ⟨i, hi, rfl⟩ := List.getElem_of_mem hp
  have := h i hi
  simpa [px, py, List.getD, List.getElem?_eq_getElem hi] using this
set_option maxHeartbeats 1000000 in
theorem meAll_any (a : Option Addr) (cap : Nat) (xs : List (Int × Int)) (w : World) (h : RdP w a xs) (hn : xs.length ≤ 1048576) :
    Calls Try.prog 62 #[.slice a xs.length cap] w fun e w' => e = .returned (.bool (wks xs)) ∧ Below w.heap.size w w' := by
  have hnI : (xs.length : Int) ≤ 1048576 := by omega
  cases hb : inB (xs.length : Int) 1 8
  · have HR := Lib.hid (show wks xs = false by unfold wks; rw [hb]; rfl)
    have HB := Lib.hid hb
    clear hb
    go_enter Try.func62, Try.ntmps62
    go_wp2_with (first | (go_at_call 57; refine (specIn _ _ _ _).mono ?_; rw [HB.out]; rintro e w1 ⟨rfl, rfl⟩))
    go_ret
    rw [HR.out]
    exact ⟨rfl, Below.refl _ _⟩
  · have HB := Lib.hid hb
    have HR := Lib.hid (show wks xs = allW xs by unfold wks; rw [hb]; rfl)
    clear hb
    go_enter Try.func62, Try.ntmps62
    go_wp2_with (first | (go_at_call 57; refine (specIn _ _ _ _).mono ?_; rw [HB.out]; rintro e w1 ⟨rfl, rfl⟩))
    go_loopg [11] xs.length (fun k v11 wr => ∃ (j : Nat), v11 = .int .i64 (j : Int) ∧ j + k ≤ xs.length ∧ xs.length ≤ j + k ∧ Hid (∀ i, i < j → wkOk (px xs i) (py xs i) = true) ∧ Below w.heap.size w wr)
    case atStart => exact ⟨0, rfl, by omega, by omega, fun i hi => absurd hi (Nat.not_lt_zero _), Below.refl _ _⟩
    case round =>
      obtain ⟨j, rfl, h1, h2, hall, hbel⟩ := hrel
      by_cases hj : j < xs.length
      · rcases h with h | ⟨b, off, rfl, hlt, hc⟩
        · rw [h] at hj; exact absurd hj (Nat.not_lt_zero _)
        · have hcj : wr.cell? ⟨b, off + j * 2, none⟩ = some (.int .i64 (px xs j)) := by rw [(bcell hbel).1 b _ hlt]; exact (hc j hj).1
          have hck : wr.cell? ⟨b, off + j * 2 + 1, none⟩ = some (.int .i64 (py xs j)) := by rw [(bcell hbel).1 b _ hlt]; exact (hc j hj).2
          have hjI : (j : Int) < (xs.length : Int) := by omega
          have HBl := Lib.hid hbel
          have hsz := hbel.size
          clear hbel hc
          cases hw : wkOk (px xs j) (py xs j)
          · have HX := Lib.hid (HR.out.trans (allW_no hj hw))
            have HW := Lib.hid hw
            clear hw
            go_wp2_with (first | (go_at_call 73; refine (meGood_any (px xs j) (py xs j) _).mono ?_; rw [HW.out]; rintro e w1 ⟨rfl, hb⟩))
            go_ret
            rw [HX.out]
            exact ⟨rfl, bchain (HBl.out.alloc (by omega) _) (by assumption) (by simp; omega)⟩
          · have hall2 : Hid (∀ i, i < j + 1 → wkOk (px xs i) (py xs i) = true) := fun i hi => by
              by_cases q : i = j
              · subst q; exact hw
              · exact hall.out i (by omega)
            have HW := Lib.hid hw
            clear hw
            go_wp2_with (first | (go_at_call 73; refine (meGood_any (px xs j) (py xs j) _).mono ?_; rw [HW.out]; rintro e w1 ⟨rfl, hb⟩))
            go_roundg (gk - 1)
            case rel => exact ⟨j + 1, by go_num, by omega, by omega, hall2, bchain (HBl.out.alloc (by omega) _) (by assumption) (by simp; omega)⟩
            case measure => omega
      · have HX := Lib.hid (HR.out.trans (allW_of fun i hi => hall.out i (by omega)))
        have HBl := Lib.hid hbel
        clear hbel
        go_wp2_with fail
        go_ret
        rw [HX.out]
        exact ⟨rfl, HBl.out⟩

set_option maxHeartbeats 1000000 in
theorem implAreWalkers (a : Option Addr) (cap : Nat) (xs : List (Int × Int)) (w : World) (h : RdP w a xs) (hn : xs.length ≤ 1048576) :
    Calls Try.prog 36 #[.slice a xs.length cap] w fun e w' => e = .returned (.bool (wks xs)) ∧ Below w.heap.size w w' := by
  go_enter Try.func36, Try.ntmps36
  go_wp2_with fail
  refine (areAllW 65 #[] wkOk a cap xs 8 _ h hn (enters_of Try.func65 (by kernel_rfl) rfl) (fun x y W _ => implIsWalker x y W)).mono ?_
  rintro e w1 ⟨rfl, hb⟩
  go_wp2_with fail
  go_ret
  exact ⟨rfl, hb⟩
end Go.Proofs.Ytemaoaepfepolaa
