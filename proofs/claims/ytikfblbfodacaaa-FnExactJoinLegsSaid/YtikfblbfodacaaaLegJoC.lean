/- JoinLegs (chapter 6), the program's way by contracts: an array of legs that is joined until it stays as it is. -/
import Derived.Test.YtikfblbfodacaaaLegJoI
import Derived.Test.YtikfblbfodacaaaLegJoB
import Derived.Test.YtikfblbfodacaaaLegEqJ
import Derived.WalkKit
import Derived.WalkSpells
import Derived.WalkLawsBesides
import Derived.Lib.Hide
import Derived.Deep.LoopGhost
import Derived.Deep.QuietTactic
import Derived.BigQuiet
namespace Go.Proofs.Ytikfblbfodacaaa
open Go.RowKit
set_option linter.unusedVariables false
set_option linter.unusedSimpArgs false
theorem calls_name {P : Program} {f : FuncId} {args : Array Value} {w : World} {Post : Ending → World → Prop} (h : ∀ W, W = w → Calls P f args W Post) : Calls P f args w Post := h w rfl
/-- ten cells written -/
def tenJ (w : World) (g : Nat) (Z : List (Int × Int)) : World := ((((((((((w.setCell ⟨g, 0, none⟩ (.int .i64 (px Z 0))).setCell ⟨g, 1, none⟩ (.int .i64 (py Z 0))).setCell ⟨g, 2, none⟩ (.int .i64 (px Z 1))).setCell ⟨g, 3, none⟩ (.int .i64 (py Z 1))).setCell ⟨g, 4, none⟩ (.int .i64 (px Z 2))).setCell ⟨g, 5, none⟩ (.int .i64 (py Z 2))).setCell ⟨g, 6, none⟩ (.int .i64 (px Z 3))).setCell ⟨g, 7, none⟩ (.int .i64 (py Z 3))).setCell ⟨g, 8, none⟩ (.int .i64 (px Z 4))).setCell ⟨g, 9, none⟩ (.int .i64 (py Z 4)))
theorem tenJ_size (w : World) (g : Nat) (Z : List (Int × Int)) : (tenJ w g Z).heap.size = w.heap.size := by unfold tenJ; simp
theorem tenJ_frozen (w : World) (g : Nat) (Z : List (Int × Int)) (a : Addr) : (tenJ w g Z).frozen? a = w.frozen? a := by unfold tenJ; simp
theorem tenJ_own {w : World} {base g : Nat} {Y Z : List (Int × Int)} (h : OwnJ w base g (pd5 Y)) : OwnJ (tenJ w g Z) base g (pd5 Z) := by
  refine ⟨h.1, by rw [tenJ_size]; exact h.2.1, fun o => by rw [tenJ_frozen]; exact h.2.2.1 o, fun i hi => ?_⟩
  rw [pd5_len] at hi
  rw [(pd5_at hi).1, (pd5_at hi).2]
  have c0 : w.cell? ⟨g, 0, none⟩ = some (.int .i64 (px Y 0)) := (by have := (h.2.2.2 0 (by rw [pd5_len]; omega)).1; rw [(pd5_at (by omega)).1] at this; exact this)
  have c1 : w.cell? ⟨g, 1, none⟩ = some (.int .i64 (py Y 0)) := (by have := (h.2.2.2 0 (by rw [pd5_len]; omega)).2; rw [(pd5_at (by omega)).2] at this; exact this)
  have c2 : w.cell? ⟨g, 2, none⟩ = some (.int .i64 (px Y 1)) := (by have := (h.2.2.2 1 (by rw [pd5_len]; omega)).1; rw [(pd5_at (by omega)).1] at this; exact this)
  have c3 : w.cell? ⟨g, 3, none⟩ = some (.int .i64 (py Y 1)) := (by have := (h.2.2.2 1 (by rw [pd5_len]; omega)).2; rw [(pd5_at (by omega)).2] at this; exact this)
  have c4 : w.cell? ⟨g, 4, none⟩ = some (.int .i64 (px Y 2)) := (by have := (h.2.2.2 2 (by rw [pd5_len]; omega)).1; rw [(pd5_at (by omega)).1] at this; exact this)
  have c5 : w.cell? ⟨g, 5, none⟩ = some (.int .i64 (py Y 2)) := (by have := (h.2.2.2 2 (by rw [pd5_len]; omega)).2; rw [(pd5_at (by omega)).2] at this; exact this)
  have c6 : w.cell? ⟨g, 6, none⟩ = some (.int .i64 (px Y 3)) := (by have := (h.2.2.2 3 (by rw [pd5_len]; omega)).1; rw [(pd5_at (by omega)).1] at this; exact this)
  have c7 : w.cell? ⟨g, 7, none⟩ = some (.int .i64 (py Y 3)) := (by have := (h.2.2.2 3 (by rw [pd5_len]; omega)).2; rw [(pd5_at (by omega)).2] at this; exact this)
  have c8 : w.cell? ⟨g, 8, none⟩ = some (.int .i64 (px Y 4)) := (by have := (h.2.2.2 4 (by rw [pd5_len]; omega)).1; rw [(pd5_at (by omega)).1] at this; exact this)
  have c9 : w.cell? ⟨g, 9, none⟩ = some (.int .i64 (py Y 4)) := (by have := (h.2.2.2 4 (by rw [pd5_len]; omega)).2; rw [(pd5_at (by omega)).2] at this; exact this)
  have cf0 : w.frozen? ⟨g, 0, none⟩ = false := h.2.2.1 0
  have cf1 : w.frozen? ⟨g, 1, none⟩ = false := h.2.2.1 1
  have cf2 : w.frozen? ⟨g, 2, none⟩ = false := h.2.2.1 2
  have cf3 : w.frozen? ⟨g, 3, none⟩ = false := h.2.2.1 3
  have cf4 : w.frozen? ⟨g, 4, none⟩ = false := h.2.2.1 4
  have cf5 : w.frozen? ⟨g, 5, none⟩ = false := h.2.2.1 5
  have cf6 : w.frozen? ⟨g, 6, none⟩ = false := h.2.2.1 6
  have cf7 : w.frozen? ⟨g, 7, none⟩ = false := h.2.2.1 7
  have cf8 : w.frozen? ⟨g, 8, none⟩ = false := h.2.2.1 8
  have cf9 : w.frozen? ⟨g, 9, none⟩ = false := h.2.2.1 9
  unfold tenJ
  match i, hi with
    | 0, _ => exact ⟨by go_simp, by go_simp⟩
    | 1, _ => exact ⟨by go_simp, by go_simp⟩
    | 2, _ => exact ⟨by go_simp, by go_simp⟩
    | 3, _ => exact ⟨by go_simp, by go_simp⟩
    | 4, _ => exact ⟨by go_simp, by go_simp⟩
theorem OwnJ.set {w : World} {base g X o : Nat} {xs : List (Int × Int)} (h : OwnJ w base g xs) (hX : X ≠ g) (u : Value) : OwnJ (w.setCell ⟨X, o, none⟩ u) base g xs :=
  h.kept ⟨rfl, rfl, rfl, by simp, fun q _ hq => heap_setCell_other w ⟨X, o, none⟩ q u (fun e => hq (by simp [e]))⟩ hX
theorem tenJ_other {w : World} {base g X : Nat} {xs Z : List (Int × Int)} (h : OwnJ w base g xs) (hX : X ≠ g) : OwnJ (tenJ w X Z) base g xs :=
  (((((((((h.set hX _).set hX _).set hX _).set hX _).set hX _).set hX _).set hX _).set hX _).set hX _).set hX _
theorem tenJ_below {w w0 : World} {B g : Nat} {Z : List (Int × Int)} (h : Below B w0 w) (hg : B ≤ g) : Below B w0 (tenJ w g Z) :=
  (((((((((h.setCell hg _).setCell hg _).setCell hg _).setCell hg _).setCell hg _).setCell hg _).setCell hg _).setCell hg _).setCell hg _).setCell hg _
theorem new_own {w : World} {base : Nat} (hb : base ≤ w.heap.size) (Z : List (Int × Int)) (T : TypeId) : OwnJ (w.alloc (.cells #[.int .i64 (px Z 0), .int .i64 (py Z 0), .int .i64 (px Z 1), .int .i64 (py Z 1), .int .i64 (px Z 2), .int .i64 (py Z 2), .int .i64 (px Z 3), .int .i64 (py Z 3), .int .i64 (px Z 4), .int .i64 (py Z 4)] T)) base w.heap.size (pd5 Z) := by
  refine ⟨hb, by simp, fun o => ten_box _ _ _ _ _ _ _ _ _ _ _ _ o, fun i hi => ?_⟩
  rw [pd5_len] at hi
  rw [(pd5_at hi).1, (pd5_at hi).2]
  match i, hi with
    | 0, _ => exact ⟨by go_simp, by go_simp⟩
    | 1, _ => exact ⟨by go_simp, by go_simp⟩
    | 2, _ => exact ⟨by go_simp, by go_simp⟩
    | 3, _ => exact ⟨by go_simp, by go_simp⟩
    | 4, _ => exact ⟨by go_simp, by go_simp⟩
theorem OwnJ.alloc {w : World} {base g : Nat} {xs : List (Int × Int)} (h : OwnJ w base g xs) (o : Obj) : OwnJ (w.alloc o) base g xs := h.below ((Below.refl _ _).alloc (Nat.le_refl _) _)
/-- legs copied to the beginning of an array of none -/
theorem copy_own {w : World} {base g : Nat} {xs : List (Int × Int)} (hl : xs.length ≤ 5) (h0 : OwnJ w base g (pd5 [])) : OwnJ (w.setCells g 0 (cs2 xs)) base g (pd5 xs) := by
  have hlen : (cs2 xs).length = xs.length * 2 := cs2_len xs
  have hs : ∀ j, j < (cs2 xs).length → (w.cell? ⟨g, 0 + j, none⟩).isSome = true := fun j hj => by
    have hj2 : j / 2 < 5 := by omega
    have q := h0.2.2.2 (j / 2) (by rw [pd5_len]; exact hj2)
    rw [Nat.zero_add]
    by_cases e : j % 2 = 0
    · have : j = j / 2 * 2 := by omega
      rw [this, q.1]; rfl
    · have : j = j / 2 * 2 + 1 := by omega
      rw [this, q.2]; rfl
  have hsz : ∀ (vs : List Value) (o : Nat) (w : World), (w.setCells g o vs).heap.size = w.heap.size := by
    intro vs
    induction vs with
    | nil => intro o w; rfl
    | cons u vs ih => intro o w; show ((w.setCell ⟨g, o, none⟩ u).setCells g (o + 1) vs).heap.size = _; rw [ih]; simp
  refine ⟨h0.1, by rw [hsz]; exact h0.2.1, fun o => by rw [World.frozen?_setCells]; exact h0.2.2.1 o, fun i hi => ?_⟩
  rw [pd5_len] at hi
  rw [(pd5_at hi).1, (pd5_at hi).2]
  by_cases q : i < xs.length
  · have e0 := World.cell?_setCells_in g (cs2 xs) 0 w hs (i * 2) (by omega)
    have e1 := World.cell?_setCells_in g (cs2 xs) 0 w hs (i * 2 + 1) (by omega)
    rw [Nat.zero_add] at e0 e1
    rw [e0, e1]
    have a := px_get q
    have b := py_get q
    rw [List.getElem?_eq_getElem (by omega)] at a b
    exact ⟨a, b⟩
  · have o1 := px_out (ys := xs) (i := i) (by omega)
    have o2 := px_out (ys := []) (i := i) (by simp)
    have z := h0.2.2.2 i (by rw [pd5_len]; exact hi)
    rw [(pd5_at hi).1, (pd5_at hi).2, o2.1, o2.2] at z
    rw [o1.1, o1.2, World.cell?_setCells_out g (cs2 xs) 0 w _ (fun _ _ => .inr (by show 0 + (cs2 xs).length ≤ i * 2; omega)), World.cell?_setCells_out g (cs2 xs) 0 w _ (fun _ _ => .inr (by show 0 + (cs2 xs).length ≤ i * 2 + 1; omega))]
    exact z
theorem dst_cells {w : World} {base g : Nat} {xs : List (Int × Int)} (hl : xs.length ≤ 5) (h0 : OwnJ w base g (pd5 [])) : ∀ j, j < (cs2 xs).length → (w.cell? ⟨g, 0 + j, none⟩).isSome = true := fun j hj => by
  have hlen : (cs2 xs).length = xs.length * 2 := cs2_len xs
  have hj2 : j / 2 < 5 := by omega
  have q := h0.2.2.2 (j / 2) (by rw [pd5_len]; exact hj2)
  rw [Nat.zero_add]
  by_cases e : j % 2 = 0
  · have : j = j / 2 * 2 := by omega
    rw [this, q.1]; rfl
  · have : j = j / 2 * 2 + 1 := by omega
    rw [this, q.2]; rfl
theorem wpList_copy2W {P : Program} {w : World} {ops : Array Oper} {rest : List Oper} {o : Oper} {a : Act} {Q : Exit → Act → World → Prop} (hgd : o.guard = none) (d s : Operand) (dT sT : TypeId)
    (ho : o.op = .call { callee := .builtin .copy, args := #[d, s], argTypes := #[dT, sT] }) (elem : TypeId) (hu : P.underlying dT = some (.slice elem)) (hsz : (P.info? elem).map (·.size) = some 2)
    (g off dLen dCap : Nat) (ad : Addr) (sLen sCap : Nat) (hd : a.eval d = .slice (some ⟨g, off, none⟩) dLen dCap) (hs : a.eval s = .slice (some ad) sLen sCap)
    (cs : List Value) (hn : cs.length = Nat.min sLen dLen * 2)
    (hsrc : ∀ j v, cs[j]? = some v → w.cell? (ad.add j) = some v) (hc : ∀ j, j < cs.length → (w.cell? ⟨g, off + j, none⟩).isSome = true) (hf : ∀ j, j < cs.length → w.frozen? ⟨g, off + j, none⟩ = false) (h1 : ∀ v ∈ cs, v.oneCell' = true)
    (h : ∀ W', Hid (W' = w.setCells g off cs) → wpList P ops Q rest (a.put o.dst (goInt (Nat.min sLen dLen))) W') : wpList P ops Q (o :: rest) a w :=
  wpList_copy2 hgd d s dT sT ho elem hu hsz g off dLen dCap ad sLen sCap hd hs cs hn hsrc hc hf h1 (h _ rfl)
theorem src_cells {w : World} {b off : Nat} {xs : List (Int × Int)} (h : ∀ i, i < xs.length → w.cell? ⟨b, off + i * 2, none⟩ = some (.int .i64 (px xs i)) ∧ w.cell? ⟨b, off + i * 2 + 1, none⟩ = some (.int .i64 (py xs i))) :
    ∀ j v, (cs2 xs)[j]? = some v → w.cell? ((⟨b, off, none⟩ : Addr).add j) = some v := by
  intro j v hv
  have hlen : (cs2 xs).length = xs.length * 2 := cs2_len xs
  have hj : j < (cs2 xs).length := by
    rcases Nat.lt_or_ge j (cs2 xs).length with q | q
    · exact q
    · rw [List.getElem?_eq_none q] at hv; cases hv
  have ea : (⟨b, off, none⟩ : Addr).add j = ⟨b, off + j, none⟩ := by unfold Addr.add; split <;> simp_all
  rw [ea]
  by_cases e : j % 2 = 0
  · have ej : j = j / 2 * 2 := by omega
    rw [ej, px_get (by omega)] at hv
    rw [ej, (h (j / 2) (by omega)).1]
    exact hv
  · have ej : j = j / 2 * 2 + 1 := by omega
    rw [ej, py_get (by omega)] at hv
    rw [ej, show off + (j / 2 * 2 + 1) = off + j / 2 * 2 + 1 from rfl, (h (j / 2) (by omega)).2]
    exact hv
theorem one_cells (xs : List (Int × Int)) : ∀ v ∈ cs2 xs, v.oneCell' = true := by
  induction xs with
  | nil => intro v hv; simp [cs2] at hv
  | cons p t ih =>
    intro v hv
    simp [cs2] at hv
    rcases hv with rfl | rfl | hv
    · rfl
    · rfl
    · exact ih v hv
/-- what the program answers: its list lies in an array's block -/
def RetJ (w : World) (ys : List (Int × Int)) (ok : Bool) (e : Ending) (w' : World) : Prop :=
  ∃ (a : Option Addr) (cap : Nat), e = .returned (.tuple #[.slice a ys.length cap, .bool ok]) ∧ ((a = none ∧ ys = []) ∨ ∃ g, a = some ⟨g, 0, none⟩ ∧ OwnJ w' w.heap.size g ys) ∧ Below w.heap.size w w'
set_option maxHeartbeats 16000000 in
set_option maxRecDepth 100000 in
theorem implJoinLegs (a : Option Addr) (cap : Nat) (xs : List (Int × Int)) (w : World) (h : RdP w a xs) (hn : xs.length ≤ 1048576) :
    Calls Try.prog 8 #[.slice a xs.length cap] w (RetJ w (jlL xs) (jlB xs)) := by
  cases hs : lgS xs
  · have HS := Lib.hid hs
    have HL := Lib.hid (show jlL xs = [] by simp [jlL, jlB, hs])
    have HV := Lib.hid (show jlB xs = false by simp [jlB, hs])
    clear hs
    go_enter Try.func8, Try.ntmps8
    go_wp2_with (first | (go_at_call 20; refine (implAreLegs a cap xs _ h hn).mono ?_; rw [HS.out]; rintro e w1 ⟨rfl, hb⟩))
    go_ret2
    rw [HL.out, HV.out]
    exact ⟨none, 0, rfl, .inl ⟨rfl, rfl⟩, hb⟩
  · have HS := Lib.hid hs
    have hJ0 := jgOk_of hs
    have hl := hJ0.2.1
    have hl1 := hJ0.1
    have HJ0 := Lib.hid hJ0
    have HF := Lib.hid (show jlB xs = lgS (jnL xs xs.length) by simp [jlB, hs])
    have HA := Lib.hid (implAreLegs a cap xs w h hn)
    rw [hs] at HA
    rcases h with h | ⟨b, off, rfl, hlt, hc⟩
    · exfalso; rw [h] at hl1; simp at hl1
    have HC := Lib.hid hc
    clear hc hs hJ0
    have HSZ : (Try.prog.info? 43).map (·.size) = some 2 := by rfl
    go_enter Try.func8, Try.ntmps8
    go_wp2_with fail
    refine HA.out.mono ?_; rintro e w1 ⟨rfl, hb1⟩
    obtain ⟨W, hW⟩ : ∃ W, W = w1.alloc (.cells #[.int .i64 0, .int .i64 0, .int .i64 0, .int .i64 0, .int .i64 0, .int .i64 0, .int .i64 0, .int .i64 0, .int .i64 0, .int .i64 0] 47) := ⟨_, rfl⟩
    have hB0 : OwnJ W w.heap.size w1.heap.size (pd5 []) := by
      rw [hW]
      exact new_own hb1.size [] _
    have hBel : Below w.heap.size w W := by rw [hW]; exact hb1.alloc hb1.size _
    have hz1 := hb1.size
    have hsrc := src_cells (w := W) (b := b) (off := off) (xs := xs) (fun i hi => by rw [(bcell hBel).1 b _ hlt, (bcell hBel).1 b _ hlt]; exact HC.out i hi)
    have hdst := dst_cells hl hB0
    have hfz := hB0.2.2.1
    have hC1 := copy_own hl hB0
    have hBC : Below w.heap.size w (W.setCells w1.heap.size 0 (cs2 xs)) := below_setCells _ hz1 _ _ _ _ hBel
    rw [hW] at hsrc hdst hfz hC1 hBC
    have hzW := hBC.size
    have HSRC := Lib.hid hsrc
    have HDST := Lib.hid hdst
    have HFZ := Lib.hid hfz
    have HC1 := Lib.hid hC1
    have HBC := Lib.hid hBC
    have hmin : (cs2 xs).length = Nat.min xs.length 5 * 2 := by rw [cs2_len]; congr 1; exact (Nat.min_eq_left hl).symm
    have HMIN := Lib.hid hmin
    have HJO := Lib.hid (fun w => joinedOnce_any xs HJ0.out w)
    clear hsrc hdst hfz hC1 hBC hW hB0 hBel hmin hzW
    obtain ⟨Z, hZ⟩ : ∃ Z, Z = joF xs 4 0 := ⟨_, rfl⟩
    rw [← hZ] at HJO
    have HZ := Lib.hid hZ
    clear hZ
    unfold aggJ at HJO
    go_wp2_with (first | (refine wpList_copy2W rfl _ _ 24 24 rfl 43 Try.underlying24 HSZ w1.heap.size 0 5 5 ⟨b, off, none⟩ xs.length cap rfl rfl (cs2 xs) HMIN.out HSRC.out HDST.out (fun j _ => HFZ.out _) (one_cells xs) ?_; intro W2 hW2; have hO2 := HC1.out; have hB2 := HBC.out; rw [← hW2.out] at hO2 hB2; have HO2 := Lib.hid hO2; have HB2 := Lib.hid hB2; clear hW2; have c0 : W2.cell? ⟨w1.heap.size, 0, none⟩ = some (.int .i64 (px xs 0)) := (by have := (hO2.2.2.2 0 (by rw [pd5_len]; omega)).1; rw [(pd5_at (by omega)).1] at this; exact this); have c1 : W2.cell? ⟨w1.heap.size, 1, none⟩ = some (.int .i64 (py xs 0)) := (by have := (hO2.2.2.2 0 (by rw [pd5_len]; omega)).2; rw [(pd5_at (by omega)).2] at this; exact this); have c2 : W2.cell? ⟨w1.heap.size, 2, none⟩ = some (.int .i64 (px xs 1)) := (by have := (hO2.2.2.2 1 (by rw [pd5_len]; omega)).1; rw [(pd5_at (by omega)).1] at this; exact this); have c3 : W2.cell? ⟨w1.heap.size, 3, none⟩ = some (.int .i64 (py xs 1)) := (by have := (hO2.2.2.2 1 (by rw [pd5_len]; omega)).2; rw [(pd5_at (by omega)).2] at this; exact this); have c4 : W2.cell? ⟨w1.heap.size, 4, none⟩ = some (.int .i64 (px xs 2)) := (by have := (hO2.2.2.2 2 (by rw [pd5_len]; omega)).1; rw [(pd5_at (by omega)).1] at this; exact this); have c5 : W2.cell? ⟨w1.heap.size, 5, none⟩ = some (.int .i64 (py xs 2)) := (by have := (hO2.2.2.2 2 (by rw [pd5_len]; omega)).2; rw [(pd5_at (by omega)).2] at this; exact this); have c6 : W2.cell? ⟨w1.heap.size, 6, none⟩ = some (.int .i64 (px xs 3)) := (by have := (hO2.2.2.2 3 (by rw [pd5_len]; omega)).1; rw [(pd5_at (by omega)).1] at this; exact this); have c7 : W2.cell? ⟨w1.heap.size, 7, none⟩ = some (.int .i64 (py xs 3)) := (by have := (hO2.2.2.2 3 (by rw [pd5_len]; omega)).2; rw [(pd5_at (by omega)).2] at this; exact this); have c8 : W2.cell? ⟨w1.heap.size, 8, none⟩ = some (.int .i64 (px xs 4)) := (by have := (hO2.2.2.2 4 (by rw [pd5_len]; omega)).1; rw [(pd5_at (by omega)).1] at this; exact this); have c9 : W2.cell? ⟨w1.heap.size, 9, none⟩ = some (.int .i64 (py xs 4)) := (by have := (hO2.2.2.2 4 (by rw [pd5_len]; omega)).2; rw [(pd5_at (by omega)).2] at this; exact this); have cf0 : W2.frozen? ⟨w1.heap.size, 0, none⟩ = false := hO2.2.2.1 0; have cf1 : W2.frozen? ⟨w1.heap.size, 1, none⟩ = false := hO2.2.2.1 1; have cf2 : W2.frozen? ⟨w1.heap.size, 2, none⟩ = false := hO2.2.2.1 2; have cf3 : W2.frozen? ⟨w1.heap.size, 3, none⟩ = false := hO2.2.2.1 3; have cf4 : W2.frozen? ⟨w1.heap.size, 4, none⟩ = false := hO2.2.2.1 4; have cf5 : W2.frozen? ⟨w1.heap.size, 5, none⟩ = false := hO2.2.2.1 5; have cf6 : W2.frozen? ⟨w1.heap.size, 6, none⟩ = false := hO2.2.2.1 6; have cf7 : W2.frozen? ⟨w1.heap.size, 7, none⟩ = false := hO2.2.2.1 7; have cf8 : W2.frozen? ⟨w1.heap.size, 8, none⟩ = false := hO2.2.2.1 8; have cf9 : W2.frozen? ⟨w1.heap.size, 9, none⟩ = false := hO2.2.2.1 9; clear hO2 hB2) | (go_at_call 21; refine (HJO.out _).mono ?_; rintro e w3 ⟨rfl, hb3⟩))
    have HO3 := Lib.hid ((HO2.out.below hb3).alloc (.cells #[.int .i64 (px Z 0), .int .i64 (py Z 0), .int .i64 (px Z 1), .int .i64 (py Z 1), .int .i64 (px Z 2), .int .i64 (py Z 2), .int .i64 (px Z 3), .int .i64 (py Z 3), .int .i64 (px Z 4), .int .i64 (py Z 4)] 47))
    have HB3 := Lib.hid ((HB2.out.trans (hb3.mono HB2.out.size)).alloc (Nat.le_trans HB2.out.size hb3.size) (.cells #[.int .i64 (px Z 0), .int .i64 (py Z 0), .int .i64 (px Z 1), .int .i64 (py Z 1), .int .i64 (px Z 2), .int .i64 (py Z 2), .int .i64 (px Z 3), .int .i64 (py Z 3), .int .i64 (px Z 4), .int .i64 (py Z 4)] 47))
    have HN3 := Lib.hid (new_own (w := w3) (base := w.heap.size) (Nat.le_trans HB2.out.size hb3.size) Z 47)
    have hBN : w3.heap.size ≠ w1.heap.size := by have := HO2.out.2.1; have := hb3.size; omega
    clear hb3 c0 cf0 c1 cf1 c2 cf2 c3 cf3 c4 cf4 c5 cf5 c6 cf6 c7 cf7 c8 cf8 c9 cf9
    obtain ⟨B, hB⟩ : ∃ B, B = w1.heap.size := ⟨_, rfl⟩
    rw [← hB] at HO3 hBN hz1 ⊢
    clear hB
    go_loopg [5] 6 (fun k v5 wr => ∃ (ys : List (Int × Int)) (N : Nat), v5 = .pointer (some ⟨N, 0, none⟩) ∧ Hid (OwnJ wr w.heap.size B (pd5 ys)) ∧ Hid (OwnJ wr w.heap.size N (pd5 (joF ys 4 0))) ∧ N ≠ B ∧ Hid (jgOk ys) ∧ Hid (jnL ys ys.length = jnL xs xs.length) ∧ ys.length ≤ k ∧ Hid (Below w.heap.size w wr))
    case atStart => exact ⟨xs, w3.heap.size, rfl, HO3, by rw [← HZ.out]; exact HN3, hBN, HJ0, rfl, by omega, HB3⟩
    case round =>
      clear HO3 HB3 HN3 hBN
      obtain ⟨ys, N, rfl, hO, hN, hNB, hJy, hjn, hk, hBl⟩ := hrel
      have hyl := hJy.out.1
      have hyl5 := hJy.out.2.1
      have hBN2 : B ≠ N := fun e => hNB e.symm
      rcases joF_cases hJy.out with ⟨q1, q2⟩ | ⟨q1, q2, q3, q4⟩
      · rw [q1] at hN
        have HAN := Lib.hid (hjn.out.symm.trans q2)
        have c0 : wr.cell? ⟨B, 0, none⟩ = some (.int .i64 (px ys 0)) := (by have := (hO.out.2.2.2 0 (by rw [pd5_len]; omega)).1; rw [(pd5_at (by omega)).1] at this; exact this)
        have c1 : wr.cell? ⟨B, 1, none⟩ = some (.int .i64 (py ys 0)) := (by have := (hO.out.2.2.2 0 (by rw [pd5_len]; omega)).2; rw [(pd5_at (by omega)).2] at this; exact this)
        have c2 : wr.cell? ⟨B, 2, none⟩ = some (.int .i64 (px ys 1)) := (by have := (hO.out.2.2.2 1 (by rw [pd5_len]; omega)).1; rw [(pd5_at (by omega)).1] at this; exact this)
        have c3 : wr.cell? ⟨B, 3, none⟩ = some (.int .i64 (py ys 1)) := (by have := (hO.out.2.2.2 1 (by rw [pd5_len]; omega)).2; rw [(pd5_at (by omega)).2] at this; exact this)
        have c4 : wr.cell? ⟨B, 4, none⟩ = some (.int .i64 (px ys 2)) := (by have := (hO.out.2.2.2 2 (by rw [pd5_len]; omega)).1; rw [(pd5_at (by omega)).1] at this; exact this)
        have c5 : wr.cell? ⟨B, 5, none⟩ = some (.int .i64 (py ys 2)) := (by have := (hO.out.2.2.2 2 (by rw [pd5_len]; omega)).2; rw [(pd5_at (by omega)).2] at this; exact this)
        have c6 : wr.cell? ⟨B, 6, none⟩ = some (.int .i64 (px ys 3)) := (by have := (hO.out.2.2.2 3 (by rw [pd5_len]; omega)).1; rw [(pd5_at (by omega)).1] at this; exact this)
        have c7 : wr.cell? ⟨B, 7, none⟩ = some (.int .i64 (py ys 3)) := (by have := (hO.out.2.2.2 3 (by rw [pd5_len]; omega)).2; rw [(pd5_at (by omega)).2] at this; exact this)
        have c8 : wr.cell? ⟨B, 8, none⟩ = some (.int .i64 (px ys 4)) := (by have := (hO.out.2.2.2 4 (by rw [pd5_len]; omega)).1; rw [(pd5_at (by omega)).1] at this; exact this)
        have c9 : wr.cell? ⟨B, 9, none⟩ = some (.int .i64 (py ys 4)) := (by have := (hO.out.2.2.2 4 (by rw [pd5_len]; omega)).2; rw [(pd5_at (by omega)).2] at this; exact this)
        have cf0 : wr.frozen? ⟨B, 0, none⟩ = false := hO.out.2.2.1 0
        have cf1 : wr.frozen? ⟨B, 1, none⟩ = false := hO.out.2.2.1 1
        have cf2 : wr.frozen? ⟨B, 2, none⟩ = false := hO.out.2.2.1 2
        have cf3 : wr.frozen? ⟨B, 3, none⟩ = false := hO.out.2.2.1 3
        have cf4 : wr.frozen? ⟨B, 4, none⟩ = false := hO.out.2.2.1 4
        have cf5 : wr.frozen? ⟨B, 5, none⟩ = false := hO.out.2.2.1 5
        have cf6 : wr.frozen? ⟨B, 6, none⟩ = false := hO.out.2.2.1 6
        have cf7 : wr.frozen? ⟨B, 7, none⟩ = false := hO.out.2.2.1 7
        have cf8 : wr.frozen? ⟨B, 8, none⟩ = false := hO.out.2.2.1 8
        have cf9 : wr.frozen? ⟨B, 9, none⟩ = false := hO.out.2.2.1 9
        have d0 : wr.cell? ⟨N, 0, none⟩ = some (.int .i64 (px ys 0)) := (by have := (hN.out.2.2.2 0 (by rw [pd5_len]; omega)).1; rw [(pd5_at (by omega)).1] at this; exact this)
        have d1 : wr.cell? ⟨N, 1, none⟩ = some (.int .i64 (py ys 0)) := (by have := (hN.out.2.2.2 0 (by rw [pd5_len]; omega)).2; rw [(pd5_at (by omega)).2] at this; exact this)
        have d2 : wr.cell? ⟨N, 2, none⟩ = some (.int .i64 (px ys 1)) := (by have := (hN.out.2.2.2 1 (by rw [pd5_len]; omega)).1; rw [(pd5_at (by omega)).1] at this; exact this)
        have d3 : wr.cell? ⟨N, 3, none⟩ = some (.int .i64 (py ys 1)) := (by have := (hN.out.2.2.2 1 (by rw [pd5_len]; omega)).2; rw [(pd5_at (by omega)).2] at this; exact this)
        have d4 : wr.cell? ⟨N, 4, none⟩ = some (.int .i64 (px ys 2)) := (by have := (hN.out.2.2.2 2 (by rw [pd5_len]; omega)).1; rw [(pd5_at (by omega)).1] at this; exact this)
        have d5 : wr.cell? ⟨N, 5, none⟩ = some (.int .i64 (py ys 2)) := (by have := (hN.out.2.2.2 2 (by rw [pd5_len]; omega)).2; rw [(pd5_at (by omega)).2] at this; exact this)
        have d6 : wr.cell? ⟨N, 6, none⟩ = some (.int .i64 (px ys 3)) := (by have := (hN.out.2.2.2 3 (by rw [pd5_len]; omega)).1; rw [(pd5_at (by omega)).1] at this; exact this)
        have d7 : wr.cell? ⟨N, 7, none⟩ = some (.int .i64 (py ys 3)) := (by have := (hN.out.2.2.2 3 (by rw [pd5_len]; omega)).2; rw [(pd5_at (by omega)).2] at this; exact this)
        have d8 : wr.cell? ⟨N, 8, none⟩ = some (.int .i64 (px ys 4)) := (by have := (hN.out.2.2.2 4 (by rw [pd5_len]; omega)).1; rw [(pd5_at (by omega)).1] at this; exact this)
        have d9 : wr.cell? ⟨N, 9, none⟩ = some (.int .i64 (py ys 4)) := (by have := (hN.out.2.2.2 4 (by rw [pd5_len]; omega)).2; rw [(pd5_at (by omega)).2] at this; exact this)
        have df0 : wr.frozen? ⟨N, 0, none⟩ = false := hN.out.2.2.1 0
        have df1 : wr.frozen? ⟨N, 1, none⟩ = false := hN.out.2.2.1 1
        have df2 : wr.frozen? ⟨N, 2, none⟩ = false := hN.out.2.2.1 2
        have df3 : wr.frozen? ⟨N, 3, none⟩ = false := hN.out.2.2.1 3
        have df4 : wr.frozen? ⟨N, 4, none⟩ = false := hN.out.2.2.1 4
        have df5 : wr.frozen? ⟨N, 5, none⟩ = false := hN.out.2.2.1 5
        have df6 : wr.frozen? ⟨N, 6, none⟩ = false := hN.out.2.2.1 6
        have df7 : wr.frozen? ⟨N, 7, none⟩ = false := hN.out.2.2.1 7
        have df8 : wr.frozen? ⟨N, 8, none⟩ = false := hN.out.2.2.1 8
        have df9 : wr.frozen? ⟨N, 9, none⟩ = false := hN.out.2.2.1 9
        have hzB := hO.out.2.1
        have hzN := hN.out.2.1
        clear q1 q2
        have HE : ∀ w, (Op.equalIn 10000 47 (.agg #[.int .i64 (px ys 0), .int .i64 (py ys 0), .int .i64 (px ys 1), .int .i64 (py ys 1), .int .i64 (px ys 2), .int .i64 (py ys 2), .int .i64 (px ys 3), .int .i64 (py ys 3), .int .i64 (px ys 4), .int .i64 (py ys 4)]) (.agg #[.int .i64 (px ys 0), .int .i64 (py ys 0), .int .i64 (px ys 1), .int .i64 (py ys 1), .int .i64 (px ys 2), .int .i64 (py ys 2), .int .i64 (px ys 3), .int .i64 (py ys 3), .int .i64 (px ys 4), .int .i64 (py ys 4)])).run Try.prog w = .ok true w := fun w => eqJ_yes _ _ _ _ _ _ _ _ _ _ w
        have HG := guardJ
        go_wp2_with fail
        refine (relayList_any ys hJy.out _).mono ?_
        rintro e w5 ⟨rfl, hOJ, hb5⟩
        have HOJ := Lib.hid hOJ
        have HB5 := Lib.hid (hBl.out.trans (hb5.mono hBl.out.size))
        have hz5 := hBl.out.size
        clear hb5 hOJ c0 cf0 c1 cf1 c2 cf2 c3 cf3 c4 cf4 c5 cf5 c6 cf6 c7 cf7 c8 cf8 c9 cf9 d0 df0 d1 df1 d2 df2 d3 df3 d4 df4 d5 df5 d6 df6 d7 df7 d8 df8 d9 df9
        cases hg : lgS ys
        · have HL := Lib.hid (show jlL xs = [] by unfold jlL; rw [HF.out, HAN.out, hg]; rfl)
          have HV := Lib.hid (show jlB xs = false by rw [HF.out, HAN.out, hg])
          have HG := Lib.hid (implAreLegs (some ⟨wr.heap.size, 0, none⟩) ys.length ys w5 HOJ.out.rd (by omega))
          rw [hg] at HG
          clear hg
          go_wp2_with fail
          refine HG.out.mono ?_; rintro e w6 ⟨rfl, hb6⟩
          go_wp2_with fail
          go_ret2
          rw [HL.out, HV.out]
          exact ⟨none, 0, rfl, .inl ⟨rfl, rfl⟩, HB5.out.trans (hb6.mono HB5.out.size)⟩
        · have HL := Lib.hid (show jlL xs = ys by unfold jlL; rw [HF.out, HAN.out, hg]; rfl)
          have HV := Lib.hid (show jlB xs = true by rw [HF.out, HAN.out, hg])
          have HG := Lib.hid (implAreLegs (some ⟨wr.heap.size, 0, none⟩) ys.length ys w5 HOJ.out.rd (by omega))
          rw [hg] at HG
          clear hg
          go_wp2_with fail
          refine HG.out.mono ?_; rintro e w6 ⟨rfl, hb6⟩
          go_wp2_with fail
          go_ret2
          rw [HL.out, HV.out]
          exact ⟨_, _, rfl, .inr ⟨_, rfl, (HOJ.out.below hb6).low hz5⟩, HB5.out.trans (hb6.mono HB5.out.size)⟩
      · have HQ3 := Lib.hid (q3.trans hjn.out)
        have HQ1 := Lib.hid q1
        have HJO2 := Lib.hid (fun w => joinedOnce_any (joF ys 4 0) q1 w)
        clear q3 q1
        generalize joF ys 4 0 = Y at *
        unfold aggJ at HJO2
        have c0 : wr.cell? ⟨B, 0, none⟩ = some (.int .i64 (px ys 0)) := (by have := (hO.out.2.2.2 0 (by rw [pd5_len]; omega)).1; rw [(pd5_at (by omega)).1] at this; exact this)
        have c1 : wr.cell? ⟨B, 1, none⟩ = some (.int .i64 (py ys 0)) := (by have := (hO.out.2.2.2 0 (by rw [pd5_len]; omega)).2; rw [(pd5_at (by omega)).2] at this; exact this)
        have c2 : wr.cell? ⟨B, 2, none⟩ = some (.int .i64 (px ys 1)) := (by have := (hO.out.2.2.2 1 (by rw [pd5_len]; omega)).1; rw [(pd5_at (by omega)).1] at this; exact this)
        have c3 : wr.cell? ⟨B, 3, none⟩ = some (.int .i64 (py ys 1)) := (by have := (hO.out.2.2.2 1 (by rw [pd5_len]; omega)).2; rw [(pd5_at (by omega)).2] at this; exact this)
        have c4 : wr.cell? ⟨B, 4, none⟩ = some (.int .i64 (px ys 2)) := (by have := (hO.out.2.2.2 2 (by rw [pd5_len]; omega)).1; rw [(pd5_at (by omega)).1] at this; exact this)
        have c5 : wr.cell? ⟨B, 5, none⟩ = some (.int .i64 (py ys 2)) := (by have := (hO.out.2.2.2 2 (by rw [pd5_len]; omega)).2; rw [(pd5_at (by omega)).2] at this; exact this)
        have c6 : wr.cell? ⟨B, 6, none⟩ = some (.int .i64 (px ys 3)) := (by have := (hO.out.2.2.2 3 (by rw [pd5_len]; omega)).1; rw [(pd5_at (by omega)).1] at this; exact this)
        have c7 : wr.cell? ⟨B, 7, none⟩ = some (.int .i64 (py ys 3)) := (by have := (hO.out.2.2.2 3 (by rw [pd5_len]; omega)).2; rw [(pd5_at (by omega)).2] at this; exact this)
        have c8 : wr.cell? ⟨B, 8, none⟩ = some (.int .i64 (px ys 4)) := (by have := (hO.out.2.2.2 4 (by rw [pd5_len]; omega)).1; rw [(pd5_at (by omega)).1] at this; exact this)
        have c9 : wr.cell? ⟨B, 9, none⟩ = some (.int .i64 (py ys 4)) := (by have := (hO.out.2.2.2 4 (by rw [pd5_len]; omega)).2; rw [(pd5_at (by omega)).2] at this; exact this)
        have cf0 : wr.frozen? ⟨B, 0, none⟩ = false := hO.out.2.2.1 0
        have cf1 : wr.frozen? ⟨B, 1, none⟩ = false := hO.out.2.2.1 1
        have cf2 : wr.frozen? ⟨B, 2, none⟩ = false := hO.out.2.2.1 2
        have cf3 : wr.frozen? ⟨B, 3, none⟩ = false := hO.out.2.2.1 3
        have cf4 : wr.frozen? ⟨B, 4, none⟩ = false := hO.out.2.2.1 4
        have cf5 : wr.frozen? ⟨B, 5, none⟩ = false := hO.out.2.2.1 5
        have cf6 : wr.frozen? ⟨B, 6, none⟩ = false := hO.out.2.2.1 6
        have cf7 : wr.frozen? ⟨B, 7, none⟩ = false := hO.out.2.2.1 7
        have cf8 : wr.frozen? ⟨B, 8, none⟩ = false := hO.out.2.2.1 8
        have cf9 : wr.frozen? ⟨B, 9, none⟩ = false := hO.out.2.2.1 9
        have d0 : wr.cell? ⟨N, 0, none⟩ = some (.int .i64 (px Y 0)) := (by have := (hN.out.2.2.2 0 (by rw [pd5_len]; omega)).1; rw [(pd5_at (by omega)).1] at this; exact this)
        have d1 : wr.cell? ⟨N, 1, none⟩ = some (.int .i64 (py Y 0)) := (by have := (hN.out.2.2.2 0 (by rw [pd5_len]; omega)).2; rw [(pd5_at (by omega)).2] at this; exact this)
        have d2 : wr.cell? ⟨N, 2, none⟩ = some (.int .i64 (px Y 1)) := (by have := (hN.out.2.2.2 1 (by rw [pd5_len]; omega)).1; rw [(pd5_at (by omega)).1] at this; exact this)
        have d3 : wr.cell? ⟨N, 3, none⟩ = some (.int .i64 (py Y 1)) := (by have := (hN.out.2.2.2 1 (by rw [pd5_len]; omega)).2; rw [(pd5_at (by omega)).2] at this; exact this)
        have d4 : wr.cell? ⟨N, 4, none⟩ = some (.int .i64 (px Y 2)) := (by have := (hN.out.2.2.2 2 (by rw [pd5_len]; omega)).1; rw [(pd5_at (by omega)).1] at this; exact this)
        have d5 : wr.cell? ⟨N, 5, none⟩ = some (.int .i64 (py Y 2)) := (by have := (hN.out.2.2.2 2 (by rw [pd5_len]; omega)).2; rw [(pd5_at (by omega)).2] at this; exact this)
        have d6 : wr.cell? ⟨N, 6, none⟩ = some (.int .i64 (px Y 3)) := (by have := (hN.out.2.2.2 3 (by rw [pd5_len]; omega)).1; rw [(pd5_at (by omega)).1] at this; exact this)
        have d7 : wr.cell? ⟨N, 7, none⟩ = some (.int .i64 (py Y 3)) := (by have := (hN.out.2.2.2 3 (by rw [pd5_len]; omega)).2; rw [(pd5_at (by omega)).2] at this; exact this)
        have d8 : wr.cell? ⟨N, 8, none⟩ = some (.int .i64 (px Y 4)) := (by have := (hN.out.2.2.2 4 (by rw [pd5_len]; omega)).1; rw [(pd5_at (by omega)).1] at this; exact this)
        have d9 : wr.cell? ⟨N, 9, none⟩ = some (.int .i64 (py Y 4)) := (by have := (hN.out.2.2.2 4 (by rw [pd5_len]; omega)).2; rw [(pd5_at (by omega)).2] at this; exact this)
        have df0 : wr.frozen? ⟨N, 0, none⟩ = false := hN.out.2.2.1 0
        have df1 : wr.frozen? ⟨N, 1, none⟩ = false := hN.out.2.2.1 1
        have df2 : wr.frozen? ⟨N, 2, none⟩ = false := hN.out.2.2.1 2
        have df3 : wr.frozen? ⟨N, 3, none⟩ = false := hN.out.2.2.1 3
        have df4 : wr.frozen? ⟨N, 4, none⟩ = false := hN.out.2.2.1 4
        have df5 : wr.frozen? ⟨N, 5, none⟩ = false := hN.out.2.2.1 5
        have df6 : wr.frozen? ⟨N, 6, none⟩ = false := hN.out.2.2.1 6
        have df7 : wr.frozen? ⟨N, 7, none⟩ = false := hN.out.2.2.1 7
        have df8 : wr.frozen? ⟨N, 8, none⟩ = false := hN.out.2.2.1 8
        have df9 : wr.frozen? ⟨N, 9, none⟩ = false := hN.out.2.2.1 9
        have hzB := hO.out.2.1
        have hzN := hN.out.2.1
        have hz5 := hBl.out.size
        have hp : (py Y 0 == py ys 0) = false ∨ (py Y 1 == py ys 1) = false ∨ (py Y 2 == py ys 2) = false ∨ (py Y 3 == py ys 3) = false ∨ (py Y 4 == py ys 4) = false := by
          simp only [beq_eq_false_iff_ne]
          rcases (show ys.length = 1 ∨ ys.length = 2 ∨ ys.length = 3 ∨ ys.length = 4 ∨ ys.length = 5 by omega) with e | e | e | e | e <;> rw [e] at q4
          · exact .inl q4
          · exact .inr (.inl q4)
          · exact .inr (.inr (.inl q4))
          · exact .inr (.inr (.inr (.inl q4)))
          · exact .inr (.inr (.inr (.inr q4)))
        have HQ2 := Lib.hid q2
        have HE : ∀ w, (Op.equalIn 10000 47 (.agg #[.int .i64 (px Y 0), .int .i64 (py Y 0), .int .i64 (px Y 1), .int .i64 (py Y 1), .int .i64 (px Y 2), .int .i64 (py Y 2), .int .i64 (px Y 3), .int .i64 (py Y 3), .int .i64 (px Y 4), .int .i64 (py Y 4)]) (.agg #[.int .i64 (px ys 0), .int .i64 (py ys 0), .int .i64 (px ys 1), .int .i64 (py ys 1), .int .i64 (px ys 2), .int .i64 (py ys 2), .int .i64 (px ys 3), .int .i64 (py ys 3), .int .i64 (px ys 4), .int .i64 (py ys 4)])).run Try.prog w = .ok false w := fun w => eqJ_no _ _ _ _ _ _ _ _ _ _ _ _ _ _ _ _ _ _ _ _ hp w
        have HG := guardJ
        clear q4 q2 hp
        go_wp2_with fail
        refine calls_name fun W5 hW5 => ?_
        have e5 : W5 = (tenJ wr B Y).alloc (.cells #[.int .i64 (px Y 0), .int .i64 (py Y 0), .int .i64 (px Y 1), .int .i64 (py Y 1), .int .i64 (px Y 2), .int .i64 (py Y 2), .int .i64 (px Y 3), .int .i64 (py Y 3), .int .i64 (px Y 4), .int .i64 (py Y 4)] 47) := hW5
        have hOB : OwnJ W5 w.heap.size B (pd5 Y) := by rw [e5]; exact (tenJ_own (Z := Y) hO.out).alloc _
        have hNN : OwnJ W5 w.heap.size wr.heap.size (pd5 Y) := by
          rw [e5]
          have := new_own (w := tenJ wr B Y) (base := w.heap.size) (by rw [tenJ_size]; exact hz5) Y 47
          rw [tenJ_size] at this
          exact this
        have hBB : Below w.heap.size w W5 := by rw [e5]; exact (tenJ_below hBl.out hz1).alloc (by rw [tenJ_size]; exact hz5) _
        clear hW5 e5
        refine (HJO2.out _).mono ?_
        rintro e w6 ⟨rfl, hb6⟩
        have HO6 := Lib.hid (hOB.below hb6)
        have HN6 := Lib.hid (hNN.below hb6)
        have HB6 := Lib.hid (hBB.trans (hb6.mono hBB.size))
        have hzN6 := HN6.out.2.1
        have hNB6 : wr.heap.size ≠ B := by omega
        clear hb6 hOB hNN hBB hzB hzN HE c0 cf0 c1 cf1 c2 cf2 c3 cf3 c4 cf4 c5 cf5 c6 cf6 c7 cf7 c8 cf8 c9 cf9 d0 df0 d1 df1 d2 df2 d3 df3 d4 df4 d5 df5 d6 df6 d7 df7 d8 df8 d9 df9
        have e0 : w6.cell? ⟨wr.heap.size, 0, none⟩ = some (.int .i64 (px Y 0)) := (by have := (HN6.out.2.2.2 0 (by rw [pd5_len]; omega)).1; rw [(pd5_at (by omega)).1] at this; exact this)
        have e1 : w6.cell? ⟨wr.heap.size, 1, none⟩ = some (.int .i64 (py Y 0)) := (by have := (HN6.out.2.2.2 0 (by rw [pd5_len]; omega)).2; rw [(pd5_at (by omega)).2] at this; exact this)
        have e2 : w6.cell? ⟨wr.heap.size, 2, none⟩ = some (.int .i64 (px Y 1)) := (by have := (HN6.out.2.2.2 1 (by rw [pd5_len]; omega)).1; rw [(pd5_at (by omega)).1] at this; exact this)
        have e3 : w6.cell? ⟨wr.heap.size, 3, none⟩ = some (.int .i64 (py Y 1)) := (by have := (HN6.out.2.2.2 1 (by rw [pd5_len]; omega)).2; rw [(pd5_at (by omega)).2] at this; exact this)
        have e4 : w6.cell? ⟨wr.heap.size, 4, none⟩ = some (.int .i64 (px Y 2)) := (by have := (HN6.out.2.2.2 2 (by rw [pd5_len]; omega)).1; rw [(pd5_at (by omega)).1] at this; exact this)
        have e5 : w6.cell? ⟨wr.heap.size, 5, none⟩ = some (.int .i64 (py Y 2)) := (by have := (HN6.out.2.2.2 2 (by rw [pd5_len]; omega)).2; rw [(pd5_at (by omega)).2] at this; exact this)
        have e6 : w6.cell? ⟨wr.heap.size, 6, none⟩ = some (.int .i64 (px Y 3)) := (by have := (HN6.out.2.2.2 3 (by rw [pd5_len]; omega)).1; rw [(pd5_at (by omega)).1] at this; exact this)
        have e7 : w6.cell? ⟨wr.heap.size, 7, none⟩ = some (.int .i64 (py Y 3)) := (by have := (HN6.out.2.2.2 3 (by rw [pd5_len]; omega)).2; rw [(pd5_at (by omega)).2] at this; exact this)
        have e8 : w6.cell? ⟨wr.heap.size, 8, none⟩ = some (.int .i64 (px Y 4)) := (by have := (HN6.out.2.2.2 4 (by rw [pd5_len]; omega)).1; rw [(pd5_at (by omega)).1] at this; exact this)
        have e9 : w6.cell? ⟨wr.heap.size, 9, none⟩ = some (.int .i64 (py Y 4)) := (by have := (HN6.out.2.2.2 4 (by rw [pd5_len]; omega)).2; rw [(pd5_at (by omega)).2] at this; exact this)
        have ef0 : w6.frozen? ⟨wr.heap.size, 0, none⟩ = false := HN6.out.2.2.1 0
        have ef1 : w6.frozen? ⟨wr.heap.size, 1, none⟩ = false := HN6.out.2.2.1 1
        have ef2 : w6.frozen? ⟨wr.heap.size, 2, none⟩ = false := HN6.out.2.2.1 2
        have ef3 : w6.frozen? ⟨wr.heap.size, 3, none⟩ = false := HN6.out.2.2.1 3
        have ef4 : w6.frozen? ⟨wr.heap.size, 4, none⟩ = false := HN6.out.2.2.1 4
        have ef5 : w6.frozen? ⟨wr.heap.size, 5, none⟩ = false := HN6.out.2.2.1 5
        have ef6 : w6.frozen? ⟨wr.heap.size, 6, none⟩ = false := HN6.out.2.2.1 6
        have ef7 : w6.frozen? ⟨wr.heap.size, 7, none⟩ = false := HN6.out.2.2.1 7
        have ef8 : w6.frozen? ⟨wr.heap.size, 8, none⟩ = false := HN6.out.2.2.1 8
        have ef9 : w6.frozen? ⟨wr.heap.size, 9, none⟩ = false := HN6.out.2.2.1 9
        generalize wr.heap.size = N6 at *
        go_wp2_with fail
        go_roundg (gk - 1)
        case rel => exact ⟨Y, N6, rfl, tenJ_other HO6.out hNB6, tenJ_own HN6.out, hNB6, HQ1, HQ3, by have := HQ2.out; omega, tenJ_below HB6.out (by omega)⟩
        case measure => have := HQ2.out; omega
end Go.Proofs.Ytikfblbfodacaaa
