/- Slices of integers: what a slice reads as, what it owns; the laws' own helpers toIntS, eqIntS, markIntS, heldIntS by contracts. -/
import Derived.Test.YtnnokfecjdmjpaaProg
import Derived.Test.YtnnokfecjdmjpaaMath
import Derived.WalkKit
import Derived.WalkSpells
import Derived.WalkLawsBesides
import Derived.Lib.Hide
import Derived.Deep.LoopGhost
import Derived.Deep.QuietTactic
import Derived.BigQuiet
namespace Go.Proofs.Ytnnokfecjdmjpaa
open Go.RowKit
set_option linter.unusedVariables false
set_option linter.unusedSimpArgs false

/-- The elements of a slice at a read as xs: nothing is asked of its spare room. -/
def Rd (w : World) (a : Option Addr) (xs : List Int) : Prop :=
  xs = [] ∨ ∃ b off, a = some ⟨b, off, none⟩ ∧ b < w.heap.size ∧ ∀ i, i < xs.length → w.cell? ⟨b, off + i, none⟩ = some (.int .i64 (xs.getD i 0))
theorem Rd.below {w w' : World} {a : Option Addr} {xs : List Int} (h : Rd w a xs) (hb : Below w.heap.size w w') : Rd w' a xs := by
  rcases h with h | ⟨b, off, e, hlt, hc⟩
  · exact .inl h
  · exact .inr ⟨b, off, e, Nat.lt_of_lt_of_le hlt hb.size, fun i hi => by rw [(bcell hb).1 b _ hlt]; exact hc i hi⟩
/-- The slice at a with so many elements is the call's own, from block base on, and reads as xs. -/
def Own (w : World) (base : Nat) (a : Option Addr) (cap : Nat) (xs : List Int) : Prop :=
  w.ownsRow base 3 1 (.slice a xs.length cap) xs.length (xs.map (Value.int .i64))
theorem Own.below {w w' : World} {base : Nat} {a : Option Addr} {cap : Nat} {xs : List Int} (h : Own w base a cap xs) (hb : Below w.heap.size w w') : Own w' base a cap xs := by
  obtain ⟨hl, h⟩ := h
  refine ⟨hl, ?_⟩
  rcases h with h | ⟨g, c, cur, e, h1, h2, h3⟩
  · exact .inl h
  · have hg : g < w.heap.size := by
      rcases Nat.lt_or_ge g w.heap.size with q | q
      · exact q
      · rw [Array.getElem?_eq_none q] at h2; cases h2
    exact .inr ⟨g, c, cur, e, h1, by rw [hb.block g hg]; exact h2, h3⟩
theorem Own.grown {w w' : World} {base : Nat} {a : Option Addr} {cap : Nat} {xs : List Int} {row : Option Nat} (h : Own w base a cap xs) (hg : w.grownBy w' row) (hne : (Value.slice a xs.length cap).ownBlock = none ∨ (Value.slice a xs.length cap).ownBlock ≠ row) : Own w' base a cap xs :=
  World.ownsRow.kept h hg hne
theorem Own.rd {w : World} {base : Nat} {a : Option Addr} {cap : Nat} {xs : List Int} (h : Own w base a cap xs) : Rd w a xs := by
  obtain ⟨hl, h⟩ := h
  rcases h with ⟨_, h0⟩ | ⟨g, c, cur, e, h1, h2, h3, h4, h5, h6⟩
  · exact .inl (List.length_eq_zero_iff.1 h0)
  · refine .inr ⟨g, 0, by injection e, ?_, fun i hi => ?_⟩
    · rcases Nat.lt_or_ge g w.heap.size with q | q
      · exact q
      · rw [Array.getElem?_eq_none q] at h2; cases h2
    · have hc := World.ownsRow.cells (base := base) (e := 3) (size := 1) (n := xs.length) (xs := xs.map (Value.int .i64)) (v := .slice a xs.length cap) (w := w) ⟨hl, .inr ⟨g, c, cur, e, h1, h2, h3, h4, h5, h6⟩⟩ (g := g) (by rw [e]; rfl) i (.int .i64 (xs.getD i 0)) (by rw [List.getElem?_map, List.getElem?_eq_getElem hi]; simp [List.getD, List.getElem?_eq_getElem hi])
      have e2 : (⟨g, 0, none⟩ : Addr).add i = ⟨g, 0 + i, none⟩ := by unfold Addr.add; split <;> simp_all
      rw [← e2]; exact hc
theorem rd_of_cells {w : World} {x : Addr} {n : Nat} {zs : List Int} (hn : n ≤ zs.length) (hc : ∀ i, i < zs.length → w.cell? (x.add i) = some (.int .i64 (zs.getD i 0))) : Rd w (some x) (zs.take n) := by
  by_cases h0 : n = 0
  · subst h0; exact .inl (by simp)
  · have hpos : 0 < zs.length := by omega
    have q0 := hc 0 hpos
    obtain ⟨b, off, spot⟩ := x
    have hspot : spot = none := by
      have := World.cell?_spot q0
      unfold Addr.add at this; simpa using this
    subst hspot
    have hb : b < w.heap.size := by
      rcases Nat.lt_or_ge b w.heap.size with q | q
      · exact q
      · exfalso
        have e : w.heap[b]? = none := Array.getElem?_eq_none q
        have q1 : (Addr.add ⟨b, off, none⟩ 0).block = b := by unfold Addr.add; split <;> rfl
        simp [World.cell?, q1, e] at q0
    refine .inr ⟨b, off, rfl, hb, fun i hi => ?_⟩
    rw [List.length_take] at hi
    have e2 : (⟨b, off, none⟩ : Addr).add i = ⟨b, off + i, none⟩ := by unfold Addr.add; split <;> simp_all
    have e3 : (zs.take n).getD i 0 = zs.getD i 0 := by
      simp only [List.getD, List.getElem?_take]; rw [if_pos (by omega)]
    rw [← e2, e3]; exact hc i (by omega)
theorem row_rd {w : World} {base n : Nat} {a : Option Addr} {cap : Nat} {xs : List Int} (hl : xs.length = n) (h : w.ownsRow base 3 1 (.slice a n cap) n (xs.map (Value.int .i64))) : Rd w a xs := by
  subst hl; exact Own.rd h
theorem row_lt {w : World} {base n : Nat} {a : Option Addr} {cap : Nat} {xs : List Value} (h : w.ownsRow base 3 1 (.slice a n cap) n xs) : ∀ k, (Value.slice a n cap).ownBlock = some k → base ≤ k ∧ k < w.heap.size := h.lt
theorem row_ne {w : World} {base n X : Nat} {a : Option Addr} {cap : Nat} {xs : List Value} (h : w.ownsRow base 3 1 (.slice a n cap) n xs) (hX : X < base) : (Value.slice a n cap).ownBlock = none ∨ (Value.slice a n cap).ownBlock ≠ some X := by
  cases hq : (Value.slice a n cap).ownBlock with
  | none => exact .inl rfl
  | some k => exact .inr fun e => by have := (h.lt k hq).1; injection e with e; omega
/-- what a function of ([]int, bool) answers: a list of its own in new memory -/
def RetS (w : World) (xs : List Int) (ok : Bool) (e : Ending) (w' : World) : Prop :=
  ∃ (a : Option Addr) (cap : Nat), e = .returned (.tuple #[.slice a xs.length cap, .bool ok]) ∧ Own w' w.heap.size a cap xs ∧ Below w.heap.size w w'
/-- the marks k, k + 1, .. -/
def sq (k : Int) (n : Nat) : List Int := (List.range n).map fun (i : Nat) => k + (i : Int)
theorem sq_length (k : Int) (n : Nat) : (sq k n).length = n := by simp [sq]
theorem sq_getD (k : Int) (n i : Nat) (h : i < n) : (sq k n).getD i 0 = k + (i : Int) := by simp [sq, List.getD, h]

theorem intInfo : (Try.prog.info? 3).map (fun i => (i.zero, i.size, i.bytes)) = some (some (.int .i64 0), 1, 8) := by kernel_rfl

set_option maxHeartbeats 1000000 in
/-- eqIntS answers true of two slices that read alike. -/
theorem eqIntS_eq (a a2 : Option Addr) (cap cap2 : Nat) (xs : List Int) (w : World) (h : Rd w a xs) (g : Rd w a2 xs) (hn : xs.length ≤ 4611686018427387904) :
    Calls Try.prog 43 #[.slice a xs.length cap, .slice a2 xs.length cap2] w fun e w' => e = .returned (.bool true) ∧ Below w.heap.size w w' := by
  go_enter Try.func43, Try.ntmps43
  go_wp2
  go_loopg [5] xs.length (fun k v5 wr => ∃ (j : Nat), v5 = .int .i64 (j : Int) ∧ j + k ≤ xs.length ∧ xs.length ≤ j + k ∧ Below w.heap.size w wr)
  case atStart => exact ⟨0, rfl, by omega, by omega, Below.refl _ _⟩
  case round =>
    obtain ⟨j, rfl, h1, h2, hbel⟩ := hrel
    by_cases hj : j < xs.length
    · rcases h with h | ⟨b, off, rfl, hlt, hc⟩
      · rw [h] at hj; exact absurd hj (Nat.not_lt_zero _)
      · rcases g with g | ⟨b2, off2, rfl, hlt2, hc2⟩
        · rw [g] at hj; exact absurd hj (Nat.not_lt_zero _)
        · have hcj : wr.cell? ⟨b, off + j, none⟩ = some (.int .i64 (xs.getD j 0)) := by rw [(bcell hbel).1 b _ hlt]; exact hc j hj
          have hcj2 : wr.cell? ⟨b2, off2 + j, none⟩ = some (.int .i64 (xs.getD j 0)) := by rw [(bcell hbel).1 b2 _ hlt2]; exact hc2 j hj
          have hjI : (j : Int) < (xs.length : Int) := by omega
          have HB := Lib.hid hbel
          clear hbel hc hc2
          generalize xs.getD j 0 = x at *
          go_wp2_with fail
          go_quiet (fail)
          go_wp2_with fail
          go_roundg (gk - 1)
          case rel => exact ⟨j + 1, by go_num, by omega, by omega, below_drewN HB.out _⟩
          case measure => omega
    · have HB := Lib.hid hbel
      clear hbel
      go_wp2
      go_ret
      exact ⟨rfl, HB.out⟩
set_option maxHeartbeats 1000000 in
/-- heldIntS finds the marks k, k + 1, .. -/
theorem heldIntS_ok (a : Option Addr) (n cap : Nat) (k : Int) (w : World) (h : Rd w a (sq k n)) (k0 : 0 ≤ k) (k1 : k + (n : Int) ≤ 4611686018427387904) :
    Calls Try.prog 45 #[.slice a n cap, .int .i64 k] w fun e w' => e = .returned (.int .i64 (k + (n : Int))) ∧ Below w.heap.size w w' := by
  go_enter Try.func45, Try.ntmps45
  go_wp2
  go_loopg [1, 5] n (fun f v1 v5 wr => ∃ (j : Nat), v1 = .int .i64 (k + (j : Int)) ∧ v5 = .int .i64 (j : Int) ∧ j + f ≤ n ∧ n ≤ j + f ∧ Below w.heap.size w wr)
  case atStart => exact ⟨0, by simp, rfl, by omega, by omega, Below.refl _ _⟩
  case round =>
    obtain ⟨j, rfl, rfl, h1, h2, hbel⟩ := hrel
    by_cases hj : j < n
    · rcases h with h | ⟨b, off, rfl, hlt, hc⟩
      · have := congrArg List.length h; rw [sq_length] at this; simp at this; omega
      · have hcj : wr.cell? ⟨b, off + j, none⟩ = some (.int .i64 (k + (j : Int))) := by rw [(bcell hbel).1 b _ hlt, ← sq_getD k n j hj]; exact hc j (by rw [sq_length]; exact hj)
        have hjI : (j : Int) < (n : Int) := by omega
        have HB := Lib.hid hbel
        clear hbel hc
        go_wp2_with fail
        go_roundg (gk - 1)
        case rel => exact ⟨j + 1, by rw [show k + ((j + 1 : Nat) : Int) = k + (j : Int) + 1 from by omega], by go_num, by omega, by omega, HB.out⟩
        case measure => omega
    · have e : j = n := by omega
      have HB := Lib.hid hbel
      clear hbel
      subst e
      go_wp2
      go_ret
      exact ⟨rfl, HB.out⟩
set_option maxHeartbeats 1000000 in
/-- markIntS writes the marks k, k + 1, .. into a slice of the call's own, and nothing else. -/
theorem markIntS_own (base : Nat) (a : Option Addr) (cap : Nat) (xs : List Int) (k : Int) (w : World) (h : Own w base a cap xs) (k0 : 0 ≤ k) (k1 : k + (xs.length : Int) ≤ 4611686018427387904) :
    Calls Try.prog 44 #[.slice a xs.length cap, .int .i64 k] w fun e w' => e = .returned (.int .i64 (k + (xs.length : Int))) ∧ w'.ownsRow base 3 1 (.slice a xs.length cap) xs.length ((sq k xs.length).map (Value.int .i64)) ∧ w.grownBy w' (Value.slice a xs.length cap).ownBlock := by
  generalize hn : xs.length = n at *
  have hown : w.ownsRow base 3 1 (.slice a n cap) n (xs.map (Value.int .i64)) := by rw [← hn]; exact h
  clear h
  obtain ⟨hl, hh⟩ := hown
  rcases hh with ⟨e0, hn0⟩ | ⟨g, c, cur, e, q1, q2, q3, q4, q5, q6⟩
  · have e1 : a = none ∧ cap = 0 := by injection e0 with x1 x2 x3; exact ⟨x1, x3⟩
    obtain ⟨rfl, rfl⟩ := e1
    have hlen0 : xs.length = 0 := by omega
    clear hl e0
    subst hn0
    go_enter Try.func44, Try.ntmps44
    go_wp2
    go_loopg [1, 5] 0 (fun f v1 v5 wr => v1 = .int .i64 k ∧ v5 = .int .i64 0 ∧ w = wr)
    case atStart => exact ⟨rfl, rfl, rfl⟩
    case round =>
      obtain ⟨rfl, rfl, rfl⟩ := hrel
      go_wp2
      go_ret
      refine ⟨by simp, ⟨by simp [sq], .inl ⟨rfl, rfl⟩⟩, ⟨rfl, rfl, rfl, Nat.le_refl _, fun _ _ _ => rfl⟩⟩
  · have e1 : a = some ⟨g, 0, none⟩ ∧ cap = c := by injection e with x1 x2 x3; exact ⟨x1, x3⟩
    obtain ⟨rfl, rfl⟩ := e1
    have hown : w.ownsRow base 3 1 (.slice (some ⟨g, 0, none⟩) n cap) n (xs.map (Value.int .i64)) := ⟨hl, .inr ⟨g, cap, cur, rfl, q1, q2, q3, q4, q5, q6⟩⟩
    have hgs : g < w.heap.size := (hown.lt g rfl).2
    clear q2 q3 q4 q5 q6 hl e
    go_enter Try.func44, Try.ntmps44
    go_wp2
    go_loopg [1, 5] n (fun f v1 v5 wr => ∃ (j : Nat) (ys : List Value), v1 = .int .i64 (k + (j : Int)) ∧ v5 = .int .i64 (j : Int) ∧ j + f ≤ n ∧ n ≤ j + f ∧ wr.ownsRow base 3 1 (.slice (some ⟨g, 0, none⟩) n cap) n ys ∧ Hid (∀ i, i < j → ys[i]? = some (.int .i64 (k + (i : Int)))) ∧ w.grownBy wr (some g))
    case atStart => exact ⟨0, _, by simp, rfl, by omega, by omega, hown, fun i hi => absurd hi (Nat.not_lt_zero _), ⟨rfl, rfl, rfl, Nat.le_refl _, fun _ _ _ => rfl⟩⟩
    case round =>
      clear hown
      obtain ⟨j, ys, rfl, rfl, h1, h2, hown, hys, hgr⟩ := hrel
      have hlen : ys.length = n := by have := hown.1; omega
      by_cases hj : j < n
      · obtain ⟨y, hcy⟩ : ∃ y, wr.cell? ⟨g, j, none⟩ = some y := ⟨ys[j]'(by omega), by rw [hown.cellAt j (by omega)]; exact List.getElem?_eq_getElem _⟩
        have hfy := hown.frozenAt j
        obtain ⟨hst, hst2⟩ := hown.stored j (.int .i64 (k + (j : Int)))
        have hys2 : Hid (∀ i, i < j + 1 → (ys.set j (.int .i64 (k + (j : Int))))[i]? = some (.int .i64 (k + (i : Int)))) := by
          intro i hi
          by_cases q : i = j
          · subst q; rw [List.getElem?_set_self (by omega)]
          · rw [List.getElem?_set_ne (by omega)]; exact hys.out i (by omega)
        have hjI : (j : Int) < (n : Int) := by omega
        have hgr2 : w.grownBy (wr.setCell ⟨g, j, none⟩ (.int .i64 (k + (j : Int)))) (some g) :=
          ⟨hst2.os.trans hgr.os, hst2.tape.trans hgr.tape, hst2.output.trans hgr.output, Nat.le_trans hgr.size hst2.size, fun i hi hne => (hst2.block i (Nat.lt_of_lt_of_le hi hgr.size) hne).trans (hgr.block i hi hne)⟩
        have HP := Lib.hid (And.intro hst hgr2)
        clear hst hst2 hgr2 hgr hys hown hlen
        go_wp2
        go_roundg (gk - 1)
        case rel => exact ⟨j + 1, _, by rw [show k + ((j + 1 : Nat) : Int) = k + (j : Int) + 1 from by omega], by go_num, by omega, by omega, HP.out.1, hys2, HP.out.2⟩
        case measure => omega
      · have e : j = n := by omega
        have hyx : ys = (sq k n).map (Value.int .i64) := by
          apply List.ext_getElem?
          intro i
          by_cases q : i < n
          · rw [hys.out i (by omega), List.getElem?_map]
            simp [sq, q]
          · rw [List.getElem?_eq_none (by omega), List.getElem?_eq_none (by simp [sq]; omega)]
        subst hyx
        have HP := Lib.hid (And.intro hown hgr)
        clear hown hys hlen hgr
        subst e
        go_wp2
        go_ret
        exact ⟨rfl, HP.out.1, HP.out.2⟩
end Go.Proofs.Ytnnokfecjdmjpaa
