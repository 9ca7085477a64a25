/- Slices of integers: what a slice reads as, what it owns; the laws' own helpers toIntS, eqIntS, markIntS, heldIntS by contracts. -/
import Derived.Test.YtiidggbllcmppaaProg
import Derived.Test.YtiidggbllcmppaaMath
import Derived.WalkKit
import Derived.WalkSpells
import Derived.WalkLawsBesides
import Derived.Lib.Hide
import Derived.Deep.LoopGhost
import Derived.Deep.QuietTactic
import Derived.BigQuiet
namespace Go.Proofs.Ytiidggbllcmppaa
open Go.RowKit
set_option linter.unusedVariables false
set_option linter.unusedSimpArgs false

/-- The elements of a slice at a read as xs: nothing is asked of its spare room. -/
def Rd (w : World) (a : Option Addr) (xs : List Int) : Prop :=
  xs = [] ∨ ∃ b off, a = some ⟨b, off, none⟩ ∧ b < w.heap.size ∧ ∀ i, i < xs.length → w.cell? ⟨b, off + i, none⟩ = some (.int .i64 (xs.getD i 0))
theorem Rd.below {w w' : World} {a : Option Addr} {xs : List Int} (h : Rd w a xs) (hb : Below w.heap.size w w') : Rd w' a xs := by
  rcases h with h | ⟨b, off, e, hlt, hc⟩
  · exact .inl h
  · exact .inr ⟨b, off, e, Nat.lt_of_lt_of_le hlt hb.size, fun i hi => by rw [(bcell hb).1 b _ hlt]; exact hc i hi⟩
/-- The slice at a with so many elements is the call's own, from block base on, and reads as xs. -/
def Own (w : World) (base : Nat) (a : Option Addr) (cap : Nat) (xs : List Int) : Prop :=
  w.ownsRow base 3 1 (.slice a xs.length cap) xs.length (xs.map (Value.int .i64))
theorem Own.below {w w' : World} {base : Nat} {a : Option Addr} {cap : Nat} {xs : List Int} (h : Own w base a cap xs) (hb : Below w.heap.size w w') : Own w' base a cap xs := by
  obtain ⟨hl, h⟩ := h
  refine ⟨hl, ?_⟩
  rcases h with h | ⟨g, c, cur, e, h1, h2, h3⟩
  · exact .inl h
  · have hg : g < w.heap.size := by
      rcases Nat.lt_or_ge g w.heap.size with q | q
      · exact q
      · rw [Array.getElem?_eq_none q] at h2; cases h2
    exact .inr ⟨g, c, cur, e, h1, by rw [hb.block g hg]; exact h2, h3⟩
theorem Own.grown {w w' : World} {base : Nat} {a : Option Addr} {cap : Nat} {xs : List Int} {row : Option Nat} (h : Own w base a cap xs) (hg : w.grownBy w' row) (hne : (Value.slice a xs.length cap).ownBlock = none ∨ (Value.slice a xs.length cap).ownBlock ≠ row) : Own w' base a cap xs :=
  World.ownsRow.kept h hg hne
theorem Own.rd {w : World} {base : Nat} {a : Option Addr} {cap : Nat} {xs : List Int} (h : Own w base a cap xs) : Rd w a xs := by
  obtain ⟨hl, h⟩ := h
  rcases h with ⟨_, h0⟩ | ⟨g, c, cur, e, h1, h2, h3, h4, h5, h6⟩
  · exact .inl (List.length_eq_zero_iff.1 h0)
  · refine .inr ⟨g, 0, by injection e, ?_, fun i hi => ?_⟩
    · rcases Nat.lt_or_ge g w.heap.size with q | q
      · exact q
      · rw [Array.getElem?_eq_none q] at h2; cases h2
    · have hc := World.ownsRow.cells (base := base) (e := 3) (size := 1) (n := xs.length) (xs := xs.map (Value.int .i64)) (v := .slice a xs.length cap) (w := w) ⟨hl, .inr ⟨g, c, cur, e, h1, h2, h3, h4, h5, h6⟩⟩ (g := g) (by rw [e]; rfl) i (.int .i64 (xs.getD i 0)) (by rw [List.getElem?_map, List.getElem?_eq_getElem hi]; simp [List.getD, List.getElem?_eq_getElem hi])
      have e2 : (⟨g, 0, none⟩ : Addr).add i = ⟨g, 0 + i, none⟩ := by unfold Addr.add; split <;> simp_all
      rw [← e2]; exact hc
theorem rd_of_cells {w : World} {x : Addr} {n : Nat} {zs : List Int} (hn : n ≤ zs.length) (hc : ∀ i, i < zs.length → w.cell? (x.add i) = some (.int .i64 (zs.getD i 0))) : Rd w (some x) (zs.take n) := by
  by_cases h0 : n = 0
  · subst h0; exact .inl (by simp)
  · have hpos : 0 < zs.length := by omega
    have q0 := hc 0 hpos
    obtain ⟨b, off, spot⟩ := x
    have hspot : spot = none := by
      have := World.cell?_spot q0
      unfold Addr.add at this; simpa using this
    subst hspot
    have hb : b < w.heap.size := by
      rcases Nat.lt_or_ge b w.heap.size with q | q
      · exact q
      · exfalso
        have e : w.heap[b]? = none := Array.getElem?_eq_none q
        have q1 : (Addr.add ⟨b, off, none⟩ 0).block = b := by unfold Addr.add; split <;> rfl
        simp [World.cell?, q1, e] at q0
    refine .inr ⟨b, off, rfl, hb, fun i hi => ?_⟩
    rw [List.length_take] at hi
    have e2 : (⟨b, off, none⟩ : Addr).add i = ⟨b, off + i, none⟩ := by unfold Addr.add; split <;> simp_all
    have e3 : (zs.take n).getD i 0 = zs.getD i 0 := by
      simp only [List.getD, List.getElem?_take]; rw [if_pos (by omega)]
    rw [← e2, e3]; exact hc i (by omega)
theorem row_rd {w : World} {base n : Nat} {a : Option Addr} {cap : Nat} {xs : List Int} (hl : xs.length = n) (h : w.ownsRow base 3 1 (.slice a n cap) n (xs.map (Value.int .i64))) : Rd w a xs := by
  subst hl; exact Own.rd h
theorem row_lt {w : World} {base n : Nat} {a : Option Addr} {cap : Nat} {xs : List Value} (h : w.ownsRow base 3 1 (.slice a n cap) n xs) : ∀ k, (Value.slice a n cap).ownBlock = some k → base ≤ k ∧ k < w.heap.size := h.lt
theorem row_ne {w : World} {base n X : Nat} {a : Option Addr} {cap : Nat} {xs : List Value} (h : w.ownsRow base 3 1 (.slice a n cap) n xs) (hX : X < base) : (Value.slice a n cap).ownBlock = none ∨ (Value.slice a n cap).ownBlock ≠ some X := by
  cases hq : (Value.slice a n cap).ownBlock with
  | none => exact .inl rfl
  | some k => exact .inr fun e => by have := (h.lt k hq).1; injection e with e; omega
/-- what a function of ([]int, bool) answers: a list of its own in new memory -/
def RetS (w : World) (xs : List Int) (ok : Bool) (e : Ending) (w' : World) : Prop :=
  ∃ (a : Option Addr) (cap : Nat), e = .returned (.tuple #[.slice a xs.length cap, .bool ok]) ∧ Own w' w.heap.size a cap xs ∧ Below w.heap.size w w'
/-- the marks k, k + 1, .. -/
def sq (k : Int) (n : Nat) : List Int := (List.range n).map fun (i : Nat) => k + (i : Int)
theorem sq_length (k : Int) (n : Nat) : (sq k n).length = n := by simp [sq]
theorem sq_getD (k : Int) (n i : Nat) (h : i < n) : (sq k n).getD i 0 = k + (i : Int) := by simp [sq, List.getD, h]

theorem intInfo : (Try.prog.info? 3).map (fun i => (i.zero, i.size, i.bytes)) = some (some (.int .i64 0), 1, 8) := by kernel_rfl

set_option maxHeartbeats 1000000 in
/-- toIntS makes a copy in a new block. -/
theorem toIntS_any (a : Option Addr) (cap : Nat) (xs : List Int) (w : World) (h : Rd w a xs) (hn : xs.length ≤ 1048576) :
    Calls Try.prog 38 #[.slice a xs.length cap] w fun e w' => e = .returned (.slice (some ⟨w.heap.size, 0, none⟩) xs.length xs.length) ∧ Own w' w.heap.size (some ⟨w.heap.size, 0, none⟩) xs.length xs ∧ Below w.heap.size w w' := by
  obtain ⟨i0, hi, hz0, hz1, hz2⟩ := info_parts intInfo
  obtain ⟨w0, hrun, hown0, hgr0⟩ := run_make_full (P := Try.prog) w w.heap.size 40 3 i0 (.int .i64 0) 1 Try.underlying40 hi hz0 hz1 .i64 .i64 xs.length (by rw [hz2]; omega) (by unfold maxLen; omega) (Nat.le_refl _)
  have hbel0 : Below w.heap.size w w0 := (Below.refl _ _).grown hgr0 (Nat.le_refl _) (fun k hk => by cases hk)
  obtain ⟨ys0, hy0⟩ : ∃ ys, ys = (madeCells (Value.int .i64 0).cells (xs.length * 1)).toList := ⟨_, rfl⟩
  rw [← hy0] at hown0
  clear hy0 hgr0
  have hsz0 := hbel0.size
  go_enter Try.func38, Try.ntmps38
  go_wp2
  clear hrun
  go_loopg [4] xs.length (fun k v4 wr => ∃ (j : Nat) (ys : List Value), v4 = .int .i64 (j : Int) ∧ j + k ≤ xs.length ∧ xs.length ≤ j + k ∧ wr.ownsRow w.heap.size 3 1 (.slice (some ⟨w.heap.size, 0, none⟩) xs.length xs.length) xs.length ys ∧ Hid (∀ i, i < j → ys[i]? = some (.int .i64 (xs.getD i 0))) ∧ Below w.heap.size w wr)
  case atStart => exact ⟨0, ys0, rfl, by omega, by omega, hown0, fun i hi => absurd hi (Nat.not_lt_zero _), hbel0⟩
  case round =>
    obtain ⟨j, ys, rfl, h1, h2, hown, hys, hbel⟩ := hrel
    by_cases hj : j < xs.length
    · rcases h with h | ⟨b, off, rfl, hlt, hc⟩
      · rw [h] at hj; exact absurd hj (Nat.not_lt_zero _)
      · have hcj : wr.cell? ⟨b, off + j, none⟩ = some (.int .i64 (xs.getD j 0)) := by rw [(bcell hbel).1 b _ hlt]; exact hc j hj
        have hlen : ys.length = xs.length := by have := hown.1; omega
        obtain ⟨y, hcy⟩ : ∃ y, wr.cell? ⟨w.heap.size, j, none⟩ = some y := ⟨ys[j]'(by omega), by rw [hown.cellAt j (by omega)]; exact List.getElem?_eq_getElem _⟩
        have hfy := hown.frozenAt j
        obtain ⟨hst, _⟩ := hown.stored j (.int .i64 (xs.getD j 0))
        have hys2 : Hid (∀ i, i < j + 1 → (ys.set j (.int .i64 (xs.getD j 0)))[i]? = some (.int .i64 (xs.getD i 0))) := by
          intro i hi
          by_cases q : i = j
          · subst q; rw [List.getElem?_set_self (by omega)]
          · rw [List.getElem?_set_ne (by omega)]; exact hys.out i (by omega)
        have hjI : (j : Int) < (xs.length : Int) := by omega
        have hbel2 : Below w.heap.size w (wr.setCell ⟨w.heap.size, j, none⟩ (.int .i64 (xs.getD j 0))) := hbel.setCell (Nat.le_refl _) _
        have HP := Lib.hid (And.intro hst hbel2)
        clear hst hbel2 hys hc hown hlen
        generalize xs.getD j 0 = x at *
        go_wp2
        go_roundg (gk - 1)
        case rel => exact ⟨j + 1, _, by go_num, by omega, by omega, HP.out.1, hys2, HP.out.2⟩
        case measure => omega
    · have e : j = xs.length := by omega
      have hlen : ys.length = xs.length := by have := hown.1; omega
      have hyx : ys = xs.map (Value.int .i64) := by
        apply List.ext_getElem?
        intro i
        by_cases q : i < xs.length
        · rw [hys.out i (by omega), List.getElem?_map, List.getElem?_eq_getElem q]; simp [List.getD, List.getElem?_eq_getElem q]
        · rw [List.getElem?_eq_none (by omega), List.getElem?_eq_none (by simp; omega)]
      subst hyx
      have HP := Lib.hid (And.intro hown hbel)
      clear hown hys e hlen
      go_wp2
      go_ret
      exact ⟨rfl, HP.out.1, HP.out.2⟩
set_option maxHeartbeats 1000000 in
/-- eqIntS answers true of two slices that read alike. -/
theorem eqIntS_eq (a a2 : Option Addr) (cap cap2 : Nat) (xs : List Int) (w : World) (h : Rd w a xs) (g : Rd w a2 xs) (hn : xs.length ≤ 4611686018427387904) :
    Calls Try.prog 40 #[.slice a xs.length cap, .slice a2 xs.length cap2] w fun e w' => e = .returned (.bool true) ∧ Below w.heap.size w w' := by
  go_enter Try.func40, Try.ntmps40
  go_wp2
  go_loopg [5] xs.length (fun k v5 wr => ∃ (j : Nat), v5 = .int .i64 (j : Int) ∧ j + k ≤ xs.length ∧ xs.length ≤ j + k ∧ Below w.heap.size w wr)
  case atStart => exact ⟨0, rfl, by omega, by omega, Below.refl _ _⟩
  case round =>
    obtain ⟨j, rfl, h1, h2, hbel⟩ := hrel
    by_cases hj : j < xs.length
    · rcases h with h | ⟨b, off, rfl, hlt, hc⟩
      · rw [h] at hj; exact absurd hj (Nat.not_lt_zero _)
      · rcases g with g | ⟨b2, off2, rfl, hlt2, hc2⟩
        · rw [g] at hj; exact absurd hj (Nat.not_lt_zero _)
        · have hcj : wr.cell? ⟨b, off + j, none⟩ = some (.int .i64 (xs.getD j 0)) := by rw [(bcell hbel).1 b _ hlt]; exact hc j hj
          have hcj2 : wr.cell? ⟨b2, off2 + j, none⟩ = some (.int .i64 (xs.getD j 0)) := by rw [(bcell hbel).1 b2 _ hlt2]; exact hc2 j hj
          have hjI : (j : Int) < (xs.length : Int) := by omega
          have HB := Lib.hid hbel
          clear hbel hc hc2
          generalize xs.getD j 0 = x at *
          go_wp2_with fail
          go_quiet (fail)
          go_wp2_with fail
          go_roundg (gk - 1)
          case rel => exact ⟨j + 1, by go_num, by omega, by omega, below_drewN HB.out _⟩
          case measure => omega
    · have HB := Lib.hid hbel
      clear hbel
      go_wp2
      go_ret
      exact ⟨rfl, HB.out⟩
end Go.Proofs.Ytiidggbllcmppaa
