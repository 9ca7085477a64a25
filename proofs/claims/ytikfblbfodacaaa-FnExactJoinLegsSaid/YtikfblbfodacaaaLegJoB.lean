/- A list of legs as a part of an array's block: it is found by the library's search, cut, marked. -/
import Derived.Test.YtikfblbfodacaaaLegJn
import Derived.Test.YtikfblbfodacaaaPairsG
import Derived.Test.YtikfblbfodacaaaLegAre
import Derived.WalkKit
import Derived.WalkSpells
import Derived.WalkLawsBesides
import Derived.Lib.Hide
import Derived.Deep.LoopGhost
import Derived.Deep.QuietTactic
import Derived.Deep.RegionHeld3
import Derived.BigQuiet
namespace Go.Proofs.Ytikfblbfodacaaa
open Go.RowKit
set_option linter.unusedVariables false
set_option linter.unusedSimpArgs false
theorem cell_block {w w' : World} {g : Nat} (h : w'.heap[g]? = w.heap[g]?) (o : Nat) : w'.cell? ⟨g, o, none⟩ = w.cell? ⟨g, o, none⟩ ∧ w'.frozen? ⟨g, o, none⟩ = w.frozen? ⟨g, o, none⟩ := by
  simp [World.cell?, World.frozen?, h]
/-- legs at the beginning of a block -/
def OwnJ (w : World) (base g : Nat) (xs : List (Int × Int)) : Prop :=
  base ≤ g ∧ g < w.heap.size ∧ (∀ o, w.frozen? ⟨g, o, none⟩ = false) ∧ ∀ i, i < xs.length → w.cell? ⟨g, i * 2, none⟩ = some (.int .i64 (px xs i)) ∧ w.cell? ⟨g, i * 2 + 1, none⟩ = some (.int .i64 (py xs i))
theorem OwnJ.below {w w' : World} {base g : Nat} {xs : List (Int × Int)} (h : OwnJ w base g xs) (hb : Below w.heap.size w w') : OwnJ w' base g xs :=
  ⟨h.1, Nat.lt_of_lt_of_le h.2.1 hb.size, fun o => by rw [(cell_block (hb.block g h.2.1) o).2]; exact h.2.2.1 o, fun i hi => by rw [(cell_block (hb.block g h.2.1) _).1, (cell_block (hb.block g h.2.1) _).1]; exact h.2.2.2 i hi⟩
theorem OwnJ.kept {w w' : World} {base g X : Nat} {xs : List (Int × Int)} (h : OwnJ w base g xs) (hg : w.grownBy w' (some X)) (hX : X ≠ g) : OwnJ w' base g xs := by
  have e := hg.block g h.2.1 (fun q => hX (Option.some.inj q).symm)
  exact ⟨h.1, Nat.lt_of_lt_of_le h.2.1 hg.size, fun o => by rw [(cell_block e o).2]; exact h.2.2.1 o, fun i hi => by rw [(cell_block e _).1, (cell_block e _).1]; exact h.2.2.2 i hi⟩
theorem OwnJ.rd {w : World} {base g : Nat} {xs : List (Int × Int)} (h : OwnJ w base g xs) : RdP w (some ⟨g, 0, none⟩) xs :=
  .inr ⟨g, 0, rfl, h.2.1, fun i hi => by simpa using h.2.2.2 i hi⟩
theorem OwnJ.low {w : World} {base base' g : Nat} {xs : List (Int × Int)} (h : OwnJ w base g xs) (hb : base' ≤ base) : OwnJ w base' g xs := ⟨Nat.le_trans hb h.1, h.2⟩
set_option maxHeartbeats 1000000 in
theorem markLegS_J (base g : Nat) (cap : Nat) (xs : List (Int × Int)) (k : Int) (w : World) (h : OwnJ w base g xs) (k0 : 0 ≤ k) (k1 : k + 2 * (xs.length : Int) ≤ 4611686018427387904) :
    Calls Try.prog 10 #[.slice (some ⟨g, 0, none⟩) xs.length cap, .int .i64 k] w fun e w' => e = .returned (.int .i64 (k + 2 * (xs.length : Int))) ∧ RdP w' (some ⟨g, 0, none⟩) (sqP k xs.length) ∧ w.grownBy w' (some g) := by
  obtain ⟨_, hgs, hfz, hcl⟩ := h
  have HC := Lib.hid hcl
  have HF := Lib.hid hfz
  clear hcl hfz
  go_enter Try.func10, Try.ntmps10
  go_wp2_with fail
  go_loopg [1, 5] xs.length (fun f v1 v5 wr => ∃ (j : Nat), v1 = .int .i64 (k + 2 * (j : Int)) ∧ v5 = .int .i64 (j : Int) ∧ j + f ≤ xs.length ∧ xs.length ≤ j + f ∧ Hid (∀ o, wr.frozen? ⟨g, o, none⟩ = false) ∧ Hid (∀ i, i < xs.length → (∃ z, wr.cell? ⟨g, i * 2, none⟩ = some z) ∧ ∃ z, wr.cell? ⟨g, i * 2 + 1, none⟩ = some z) ∧ Hid (∀ i, i < j → wr.cell? ⟨g, i * 2, none⟩ = some (.int .i64 (k + 2 * (i : Int))) ∧ wr.cell? ⟨g, i * 2 + 1, none⟩ = some (.int .i64 (k + 2 * (i : Int) + 1))) ∧ g < wr.heap.size ∧ Hid (w.grownBy wr (some g)))
  case atStart => exact ⟨0, by simp, rfl, by omega, by omega, HF, fun i hi => ⟨⟨_, (HC.out i hi).1⟩, ⟨_, (HC.out i hi).2⟩⟩, fun i hi => absurd hi (Nat.not_lt_zero _), hgs, ⟨rfl, rfl, rfl, Nat.le_refl _, fun _ _ _ => rfl⟩⟩
  case round =>
    clear HC HF
    obtain ⟨j, rfl, rfl, h1, h2, HFz, HSo, HMk, hgw, hgr⟩ := hrel
    by_cases hj : j < xs.length
    · obtain ⟨⟨z0, hc0⟩, ⟨z1, hc1⟩⟩ := HSo.out j hj
      have hf0 := HFz.out (j * 2)
      have hf1 := HFz.out (j * 2 + 1)
      have hjI : (j : Int) < (xs.length : Int) := by omega
      obtain ⟨W, hW⟩ : ∃ W, W = (wr.setCell ⟨g, j * 2, none⟩ (.int .i64 (k + 2 * (j : Int)))).setCell ⟨g, j * 2 + 1, none⟩ (.int .i64 (k + 2 * (j : Int) + 1)) := ⟨_, rfl⟩
      have hWf : Hid (∀ o, W.frozen? ⟨g, o, none⟩ = false) := fun o => by rw [hW, World.frozen?_setCell, World.frozen?_setCell]; exact HFz.out o
      have e0 : W.cell? ⟨g, j * 2, none⟩ = some (.int .i64 (k + 2 * (j : Int))) := by rw [hW]; go_simp
      have e1 : W.cell? ⟨g, j * 2 + 1, none⟩ = some (.int .i64 (k + 2 * (j : Int) + 1)) := by rw [hW]; go_simp
      have eo : ∀ o, o ≠ j * 2 → o ≠ j * 2 + 1 → W.cell? ⟨g, o, none⟩ = wr.cell? ⟨g, o, none⟩ := fun o p q => by rw [hW, World.cell?_setCell_other (h := fun e => q (by injection e with _ e2; exact e2.symm)), World.cell?_setCell_other (h := fun e => p (by injection e with _ e2; exact e2.symm))]
      have HSn : Hid (∀ i, i < xs.length → (∃ z, W.cell? ⟨g, i * 2, none⟩ = some z) ∧ ∃ z, W.cell? ⟨g, i * 2 + 1, none⟩ = some z) := fun i hi => by
        by_cases q : i = j
        · subst q; exact ⟨⟨_, e0⟩, ⟨_, e1⟩⟩
        · rw [eo _ (by omega) (by omega), eo _ (by omega) (by omega)]; exact HSo.out i hi
      have HMn : Hid (∀ i, i < j + 1 → W.cell? ⟨g, i * 2, none⟩ = some (.int .i64 (k + 2 * (i : Int))) ∧ W.cell? ⟨g, i * 2 + 1, none⟩ = some (.int .i64 (k + 2 * (i : Int) + 1))) := fun i hi => by
        by_cases q : i = j
        · subst q; exact ⟨e0, e1⟩
        · rw [eo _ (by omega) (by omega), eo _ (by omega) (by omega)]; exact HMk.out i (by omega)
      have hGn : Hid (w.grownBy W (some g)) := by
        refine ⟨by rw [hW]; exact hgr.out.os, by rw [hW]; exact hgr.out.tape, by rw [hW]; exact hgr.out.output, by rw [hW]; simpa using hgr.out.size, fun q hq hne => ?_⟩
        rw [hW, heap_setCell_other _ _ _ _ (fun e => hne (by rw [e])), heap_setCell_other _ _ _ _ (fun e => hne (by rw [e]))]
        exact hgr.out.block q hq hne
      have hWs : g < W.heap.size := by rw [hW]; simpa using hgw
      have HW := Lib.hid hW
      clear hW e0 e1 eo hgr
      go_wp2_with fail
      go_roundg (gk - 1)
      case rel => exact ⟨j + 1, by rw [show k + 2 * ((j + 1 : Nat) : Int) = k + 2 * (j : Int) + 1 + 1 from by omega], by go_num, by omega, by omega, by rw [← HW.out]; exact hWf, by rw [← HW.out]; exact HSn, by rw [← HW.out]; exact HMn, by rw [← HW.out]; exact hWs, by rw [← HW.out]; exact hGn⟩
      case measure => omega
    · obtain rfl : j = xs.length := by omega
      go_wp2_with fail
      go_ret
      refine ⟨rfl, .inr ⟨g, 0, rfl, hgw, fun i hi => ?_⟩, hgr.out⟩
      rw [sqP_length] at hi
      rw [sqP_x k _ i hi, sqP_y k _ i hi]
      simpa using HMk.out i hi
set_option maxHeartbeats 2000000 in
theorem indexLeg_any (a : Option Addr) (cap : Nat) (zs : List (Int × Int)) (n : Nat) (w : World) (h : RdP w a zs) (hl : zs.length ≤ 5) (hn : n ≤ zs.length) (h1 : ∀ i, i < n → py zs i ≠ 0) (h2 : n < zs.length → px zs n = 0 ∧ py zs n = 0) :
    Calls Try.prog 40 #[.slice a zs.length cap, .agg #[.int .i64 0, .int .i64 0]] w fun e w' => e = .returned (.int .i64 (if n < zs.length then (n : Int) else -1)) ∧ Below w.heap.size w w' := by
  obtain ⟨R, hR⟩ : ∃ R : Int, R = (if n < zs.length then (n : Int) else -1) := ⟨_, rfl⟩
  rw [← hR]
  have HR := Lib.hid hR
  have H1 := Lib.hid h1
  have H2 := Lib.hid h2
  clear hR h1 h2
  go_enter Try.func40, Try.ntmps40
  go_wp2_with fail
  go_loopg [8] zs.length (fun k v8 wr => ∃ (j : Nat), v8 = .int .i64 (j : Int) ∧ j + k ≤ zs.length ∧ zs.length ≤ j + k ∧ j ≤ n ∧ wr.cell? ⟨w.heap.size, 0, none⟩ = some (.int .i64 0) ∧ wr.cell? ⟨w.heap.size, 1, none⟩ = some (.int .i64 0) ∧ w.heap.size < wr.heap.size ∧ Below w.heap.size w wr)
  case atStart => exact ⟨0, rfl, by omega, by omega, by omega, by go_simp, by go_simp, by simp, (Below.refl _ _).alloc (Nat.le_refl _) _⟩
  case round =>
    obtain ⟨j, rfl, g1, g2, g3, hz0, hz1, hzs, hbel⟩ := hrel
    by_cases hj : j < zs.length
    · rcases h with h | ⟨b, off, rfl, hlt, hc⟩
      · rw [h] at hj; exact absurd hj (Nat.not_lt_zero _)
      · have hcj : wr.cell? ⟨b, off + j * 2, none⟩ = some (.int .i64 (px zs j)) := by rw [(bcell hbel).1 b _ hlt]; exact (hc j hj).1
        have hck : wr.cell? ⟨b, off + j * 2 + 1, none⟩ = some (.int .i64 (py zs j)) := by rw [(bcell hbel).1 b _ hlt]; exact (hc j hj).2
        have hjI : (j : Int) < (zs.length : Int) := by omega
        have HBl := Lib.hid hbel
        clear hbel hc
        by_cases hq : j < n
        · have hy := H1.out j hq
          have hy2 : ((0 : Int) == py zs j) = false := by rw [beq_eq_false_iff_ne]; exact fun e => hy e.symm
          generalize px zs j = x at *
          generalize py zs j = y at *
          go_wp2_with fail
          all_goals (try (go_quiet (fail); go_wp2_with fail))
          go_roundg (gk - 1)
          case rel => exact ⟨j + 1, by go_num, by omega, by omega, by omega, by first | exact hz0 | go_simp, by first | exact hz1 | go_simp, by first | exact hzs | (simp; omega), by first | exact HBl.out | exact below_drewN HBl.out _⟩
          case measure => omega
        · obtain rfl : j = n := by omega
          have hx := H2.out hj
          rw [hx.1] at hcj
          rw [hx.2] at hck
          have HRn := Lib.hid (HR.out.trans (if_pos hj))
          go_wp2_with fail
          all_goals (try (go_quiet (fail); go_wp2_with fail))
          go_ret
          exact ⟨by rw [HRn.out]; rfl, by first | exact HBl.out | exact below_drewN HBl.out _⟩
    · obtain rfl : j = zs.length := by omega
      have HRn := Lib.hid (HR.out.trans (if_neg (by omega)))
      have HBl := Lib.hid hbel
      clear hbel
      go_wp2_with fail
      go_ret
      exact ⟨by rw [HRn.out]; rfl, HBl.out⟩
/-- the array's five legs -/
def pd5 (ys : List (Int × Int)) : List (Int × Int) := (List.range 5).map fun i => (px ys i, py ys i)
theorem pd5_len (ys : List (Int × Int)) : (pd5 ys).length = 5 := by simp [pd5]
theorem pd5_at {ys : List (Int × Int)} {i : Nat} (h : i < 5) : px (pd5 ys) i = px ys i ∧ py (pd5 ys) i = py ys i := by
  constructor
  · show ((pd5 ys).getD i (0, 0)).1 = _
    simp [pd5, List.getD, h]
  · show ((pd5 ys).getD i (0, 0)).2 = _
    simp [pd5, List.getD, h]
/-- an array of legs in a block -/
theorem ten_box (w : World) (v0 v1 v2 v3 v4 v5 v6 v7 v8 v9 : Value) (T : TypeId) : ∀ o, (w.alloc (.cells #[v0, v1, v2, v3, v4, v5, v6, v7, v8, v9] T)).frozen? ⟨w.heap.size, o, none⟩ = false := by intro o; go_simp
set_option maxHeartbeats 4000000 in
set_option maxRecDepth 100000 in
theorem relayList_any (ys : List (Int × Int)) (hb : jgOk ys) (w : World) :
    Calls Try.prog 22 #[.agg #[.int .i64 (px ys 0), .int .i64 (py ys 0), .int .i64 (px ys 1), .int .i64 (py ys 1), .int .i64 (px ys 2), .int .i64 (py ys 2), .int .i64 (px ys 3), .int .i64 (py ys 3), .int .i64 (px ys 4), .int .i64 (py ys 4)]] w fun e w' => e = .returned (.slice (some ⟨w.heap.size, 0, none⟩) ys.length ys.length) ∧ OwnJ w' w.heap.size w.heap.size ys ∧ Below w.heap.size w w' := by
  have hl := hb.2.1
  have hl1 := hb.1
  obtain ⟨W1, hW1⟩ : ∃ W1, W1 = w.alloc (.cells #[.int .i64 (px ys 0), .int .i64 (py ys 0), .int .i64 (px ys 1), .int .i64 (py ys 1), .int .i64 (px ys 2), .int .i64 (py ys 2), .int .i64 (px ys 3), .int .i64 (py ys 3), .int .i64 (px ys 4), .int .i64 (py ys 4)] 47) := ⟨_, rfl⟩
  have hJ : OwnJ W1 w.heap.size w.heap.size (pd5 ys) := by
    refine ⟨Nat.le_refl _, by rw [hW1]; simp, fun o => by rw [hW1]; exact ten_box _ _ _ _ _ _ _ _ _ _ _ _ o, fun i hi => ?_⟩
    rw [pd5_len] at hi
    rw [(pd5_at hi).1, (pd5_at hi).2, hW1]
    match i, hi with
    | 0, _ => exact ⟨by go_simp, by go_simp⟩
    | 1, _ => exact ⟨by go_simp, by go_simp⟩
    | 2, _ => exact ⟨by go_simp, by go_simp⟩
    | 3, _ => exact ⟨by go_simp, by go_simp⟩
    | 4, _ => exact ⟨by go_simp, by go_simp⟩
  have hB1 : Below w.heap.size w W1 := by rw [hW1]; exact (Below.refl _ _).alloc (Nat.le_refl _) _
  have HJ := Lib.hid hJ
  have HB1 := Lib.hid hB1
  have HIX := Lib.hid (indexLeg_any (some ⟨w.heap.size, 0, none⟩) 5 (pd5 ys) ys.length W1 hJ.rd (by rw [pd5_len]; exact Nat.le_refl _) (by rw [pd5_len]; exact hl) (fun i hi => by
      rw [(pd5_at (by omega)).2]; have := (hb.2.2 i hi).2.2.1; omega) (fun q => by rw [pd5_len] at q; rw [(pd5_at q).1, (pd5_at q).2]; exact px_out (Nat.le_refl _)))
  rw [pd5_len] at HIX
  have hJy : Hid (∀ W, Below W1.heap.size W1 W → OwnJ W w.heap.size w.heap.size ys) := fun W hB => by
    have q := hJ.below hB
    refine ⟨q.1, q.2.1, q.2.2.1, fun i hi => ?_⟩
    have := q.2.2.2 i (by rw [pd5_len]; omega)
    rw [(pd5_at (by omega)).1, (pd5_at (by omega)).2] at this
    exact this
  clear hJ hB1
  go_enter Try.func22, Try.ntmps22
  go_wp2_with fail
  rw [← hW1]
  have HW1 := Lib.hid hW1
  clear hW1
  by_cases hq : ys.length < 5
  · rw [if_pos hq] at HIX
    have hn0 : ¬ ((ys.length : Int) < 0) := by omega
    have hn5 : (ys.length : Int) ≤ 5 := by omega
    refine HIX.out.mono ?_
    rintro e w2 ⟨rfl, hb2⟩
    have HB2 := Lib.hid hb2
    clear hb2
    go_wp2_with fail
    go_ret
    exact ⟨rfl, hJy.out _ HB2.out, HB1.out.trans (HB2.out.mono HB1.out.size)⟩
  · rw [if_neg hq] at HIX
    have h5 : ys.length = 5 := by omega
    refine HIX.out.mono ?_
    rintro e w2 ⟨rfl, hb2⟩
    have HB2 := Lib.hid hb2
    clear hb2
    go_wp2_with fail
    go_ret
    exact ⟨by rw [h5]; rfl, hJy.out _ HB2.out, HB1.out.trans (HB2.out.mono HB1.out.size)⟩
end Go.Proofs.Ytikfblbfodacaaa
