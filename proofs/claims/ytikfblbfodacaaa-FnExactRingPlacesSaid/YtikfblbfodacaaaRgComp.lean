/- RingPlaces: slices.Compact of a row of fractions. -/
import Derived.Test.YtikfblbfodacaaaRgMath
import Derived.Test.YtikfblbfodacaaaCopyTwo
import Derived.Laws.StructEq
import Derived.Laws.IdiomCopy
import Derived.KernelRfl
import Derived.WalkKit
import Derived.WalkSpells
import Derived.WalkLawsBesides
import Derived.Lib.Hide
import Derived.Lib.SliceRun
import Derived.Deep.LoopGhost
import Derived.Deep.QuietTactic
import Derived.BigQuiet
namespace Go.Proofs.Ytikfblbfodacaaa
open Go.RowKit
set_option linter.unusedVariables false
set_option linter.unusedSimpArgs false
theorem eqFr (a b c d : Int) (w : World) : (Op.equalIn 10000 66 (.agg #[.int .i64 a, .int .i64 b]) (.agg #[.int .i64 c, .int .i64 d])).run Try.prog w = .ok (a == c && b == d) w := by
  have u3 := Try.underlying3
  have a3 := Try.isAgg3
  have z3 := Try.sizeOf3
  have hS : Try.prog.underlying 66 = some (.struct (Try.prog.fieldsOf 66)) := by kernel_rfl
  rw [show (10000 : Nat) = 9999 + 1 from rfl, run_equalIn_agg w 9999 66 _ _ hS (by kernel_rfl)]
  simp only [Program.fieldsOf, Try.underlying66]
  go_simp
  by_cases h1 : a = c <;> by_cases h2 : b = d <;> simp [h1, h2]
theorem guardFr : Try.prog.eqGuardType Try.prog.depth 66 = false := by kernel_rfl
theorem low_eqB {x y N : Int} (h : 1 ≤ N) : (lwN x N == lwN y N && lwD x N == lwD y N) = decide (x = y) := by
  by_cases e : x = y
  · subst e; simp
  · rw [decide_eq_false e, Bool.eq_false_iff]
    intro q
    rw [Bool.and_eq_true, beq_iff_eq, beq_iff_eq] at q
    exact e ((low_cmp h).2.1 (by rw [q.1, q.2]))
theorem run_clear2 {P : Program} (w : World) (t e ty : TypeId) (z : Value) (ht : P.underlying t = some (.slice e)) (hv : ∀ w, (zeroValue e).run P w = .ok z w) (hz : z.cells.size = 2) (h1 : ∀ v ∈ z.cells, v.oneCell' = true) (b o n c : Nat) (hn : 0 < n)
    (hc : ∀ j, j < n * 2 → (w.cell? ⟨b, o + j, none⟩).isSome = true) (hf : ∀ j, j < n * 2 → w.frozen? ⟨b, o + j, none⟩ = false) :
    (Builtin.clear_ #[t] ty #[.slice (some ⟨b, o, none⟩) n c]).run P w = .ok (.tuple #[]) (w.setCells b o (Builtin.zeroCells z.cells n).toList) := by
  have hlen : (Builtin.zeroCells z.cells n).toList.length = n * 2 := by simp [Builtin.zeroCells, hz]
  have hst := run_storeCells_cells (P := P) b o (Builtin.zeroCells z.cells n).toList 0 w (by rw [hlen]; simpa using hc) (by rw [hlen]; simpa using hf) (by
    intro v hv'
    unfold Builtin.zeroCells at hv'
    rw [Array.toList_map, List.mem_map] at hv'
    obtain ⟨i, _, rfl⟩ := hv'
    have hi : i % z.cells.size < z.cells.size := Nat.mod_lt _ (by omega)
    rw [getElem!_pos z.cells _ hi]
    exact h1 _ (Array.getElem_mem hi))
  simp only [Nat.add_zero] at hst
  obtain ⟨m, rfl⟩ : ∃ m, n = m + 1 := ⟨n - 1, by omega⟩
  simp [Builtin.clear_, run_underlying ht, hv, hst]
/-- the row of n fractions at block G holds those of the keys c -/
def RowF (N : Int) (w W : World) (G n : Nat) (c : Nat → Int) : Prop :=
  (∀ i, i < n → W.cell? ⟨G, i * 2, none⟩ = some (.int .i64 (lwN (c i) N)) ∧ W.cell? ⟨G, i * 2 + 1, none⟩ = some (.int .i64 (lwD (c i) N))) ∧ (∀ i, i < n * 2 → W.frozen? ⟨G, i, none⟩ = false) ∧ G < W.heap.size ∧ Below G w W
theorem RowF.drewN {N : Int} {w W : World} {G n : Nat} {c : Nat → Int} (h : RowF N w W G n c) (q : Nat) : RowF N w (W.drewN q) G n c :=
  ⟨fun i hi => h.1 i hi, fun i hi => h.2.1 i hi, h.2.2.1, below_drewN h.2.2.2 q⟩
theorem RowF.put {N : Int} {w W : World} {G n : Nat} {c : Nat → Int} (h : RowF N w W G n c) {a : Nat} (ha : a < n) (u : Int) : RowF N w ((W.setCell ⟨G, a * 2, none⟩ (.int .i64 (lwN u N))).setCell ⟨G, a * 2 + 1, none⟩ (.int .i64 (lwD u N))) G n (fun i => if i = a then u else c i) := by
  have oth : ∀ (X : World) (x y : Nat) (v : Value), x ≠ y → (X.setCell ⟨G, x, none⟩ v).cell? ⟨G, y, none⟩ = X.cell? ⟨G, y, none⟩ := fun X x y v hxy => World.cell?_setCell_other X _ _ v (fun q => hxy (by injection q))
  have sam : ∀ (X : World) (x : Nat) (v u : Value), X.cell? ⟨G, x, none⟩ = some u → (X.setCell ⟨G, x, none⟩ v).cell? ⟨G, x, none⟩ = some v := fun X x v u hx => World.cell?_setCell_same X _ v hx
  refine ⟨fun i hi => ?_, fun i hi => ?_, ?_, ?_⟩
  · have hi2 := h.1 i hi
    have ha2 := h.1 a ha
    by_cases e : i = a
    · subst e
      simp only [if_true]
      constructor
      · rw [oth _ _ _ _ (by omega)]
        exact sam _ _ _ _ ha2.1
      · exact sam _ _ _ _ (by rw [oth _ _ _ _ (by omega)]; exact ha2.2)
    · simp only [if_neg e]
      constructor
      · rw [oth _ _ _ _ (by omega), oth _ _ _ _ (by omega)]; exact hi2.1
      · rw [oth _ _ _ _ (by omega), oth _ _ _ _ (by omega)]; exact hi2.2
  · simp only [World.frozen?_setCell]; exact h.2.1 i hi
  · simp; exact h.2.2.1
  · exact (h.2.2.2.setCell (Nat.le_refl _) _).setCell (Nat.le_refl _) _
theorem cpU_no {z : Nat → Int} : ∀ {j}, (∀ i, 1 ≤ i → i < j → z i ≠ z (i - 1)) → cpU z j = (List.range j).map z
  | 0, _ => rfl
  | j + 1, h => by
    have ih := cpU_no (j := j) (fun i a b => h i a (by omega))
    have q : j = 0 ∨ z j ≠ z (j - 1) := by
      rcases Nat.eq_zero_or_pos j with e | e
      · exact .inl e
      · exact .inr (h j e (by omega))
    rw [cpU, if_pos q, ih, List.range_succ, List.map_append]
    rfl
theorem cpU_same {z : Nat → Int} {j : Nat} (h1 : 1 ≤ j) (h : z j = z (j - 1)) : cpU z (j + 1) = cpU z j := by
  rw [cpU, if_neg]
  rintro (e | e)
  · omega
  · exact e h
theorem cpU_new {z : Nat → Int} {j : Nat} (h : z j ≠ z (j - 1)) : cpU z (j + 1) = cpU z j ++ [z j] := by
  rw [cpU, if_pos (.inr h)]
set_option maxHeartbeats 4000000 in
set_option maxRecDepth 100000 in
theorem compact_any (N : Int) (h1 : 1 ≤ N) (G n : Nat) (z : Nat → Int) (w : World) (hR : RowF N w w G n z) (hn1 : 1 ≤ n) (hn : n ≤ 1000000) :
    Calls Try.prog 50 #[.slice (some ⟨G, 0, none⟩) n n] w fun e w' => e = .returned (.slice (some ⟨G, 0, none⟩) (cpU z n).length n) ∧
      (∀ i, i < (cpU z n).length → w'.cell? ⟨G, i * 2, none⟩ = some (.int .i64 (lwN ((cpU z n).getD i 0) N)) ∧ w'.cell? ⟨G, i * 2 + 1, none⟩ = some (.int .i64 (lwD ((cpU z n).getD i 0) N))) ∧ Below G w w' := by
  have HR := Lib.hid hR
  have HG := guardFr
  clear hR
  by_cases hn2 : n < 2
  · obtain rfl : n = 1 := by omega
    have e : cpU z 1 = [z 0] := rfl
    rw [e]
    go_enter Try.func50, Try.ntmps50
    go_wp2_with fail
    go_ret
    refine ⟨rfl, fun i hi => ?_, Below.refl _ _⟩
    simp at hi
    subst hi
    exact HR.out.1 0 (by omega)
  · have hnI : ¬ ((n : Int) < 2) := by omega
    go_enter Try.func50, Try.ntmps50
    go_wp2_with fail
    go_loopg [3] n (fun f v3 wr => ∃ j : Nat, v3 = .int .i64 ((j : Int) + 1) ∧ j + 1 + f ≤ n + 1 ∧ n ≤ j + 1 + f ∧ j + 1 ≤ n ∧ Hid (RowF N w wr G n z) ∧ Hid (∀ i, 1 ≤ i → i < j + 1 → z i ≠ z (i - 1)))
    case atStart => exact ⟨0, rfl, by omega, by omega, by omega, HR, fun i a b => by omega⟩
    case round =>
      clear HR
      obtain ⟨j, rfl, g1, g2, g3, hR, hN⟩ := hrel
      by_cases hj : j + 1 < n
      · have hjI : (j : Int) + 1 < (n : Int) := by omega
        have k0 := (hR.out.1 j (by omega)).1
        have k1 := (hR.out.1 j (by omega)).2
        have k2 := (hR.out.1 (j + 1) (by omega)).1
        have k3 := (hR.out.1 (j + 1) (by omega)).2
        have xw1 : IntKind.i64.wrap ((j : Int) + 1 - 1) = (j : Int) := by rw [Int.add_sub_cancel]; exact IntWalk.i64_in _ (by omega)
        have xw2 : IntKind.i64.wrap (j : Int) = (j : Int) := IntWalk.i64_in _ (by omega)
        have xw3 : ((j : Int) + 1).toNat = j + 1 := by omega
        have xw4 : IntKind.i64.wrap ((j : Int) + 1 + 1) = (j : Int) + 1 + 1 := IntWalk.i64_in _ (by omega)
        have hG := hR.out.2.2.1
        by_cases e : z (j + 1) = z j
        · have HE : ∀ w, (Op.equalIn 10000 66 (.agg #[.int .i64 (lwN (z (j + 1)) N), .int .i64 (lwD (z (j + 1)) N)]) (.agg #[.int .i64 (lwN (z j) N), .int .i64 (lwD (z j) N)])).run Try.prog w = .ok true w := fun w => by rw [eqFr, low_eqB h1, decide_eq_true e]
          have hEq := Lib.hid e
          clear e
          obtain ⟨L2, rfl⟩ : ∃ L2, n = j + 1 + L2 := ⟨n - (j + 1), by omega⟩
          have v1 : j + 1 + L2 - (j + 1) = L2 := by omega
          go_wp2_with fail
          go_quiet (fail)
          go_wp2_with fail
          go_loopg [3, 5] L2 (fun f va vb W => ∃ (t a : Nat) (c : Nat → Int), va = .int .i64 (a : Int) ∧ vb = .int .i64 ((t : Int) + 1) ∧ t + 1 + f ≤ L2 + 1 ∧ L2 ≤ t + 1 + f ∧ t + 1 ≤ L2 ∧ a = (cpU z (j + 1 + (t + 1))).length ∧ a ≤ j + 1 + t ∧ Hid (RowF N w W G (j + 1 + L2) c) ∧ Hid (∀ i, i < a → c i = (cpU z (j + 1 + (t + 1))).getD i 0) ∧ Hid (∀ i, j + 1 + t ≤ i → i < j + 1 + L2 → c i = z i))
          case atStart =>
            have e1 : cpU z (j + 1 + (0 + 1)) = (List.range (j + 1)).map z := by
              rw [show j + 1 + (0 + 1) = (j + 1) + 1 from rfl, cpU_same (by omega) (by rw [Nat.add_sub_cancel]; exact hEq.out)]
              exact cpU_no hN.out
            refine ⟨0, j + 1, z, by go_num, rfl, by omega, by omega, by omega, by rw [e1]; simp, by omega, hR.out.drewN _, fun i hi => ?_, fun i a b => rfl⟩
            rw [e1]
            simp [List.getD, hi]
          case round =>
            clear HE k0 k1 k2 k3 xw1 xw2 xw3 xw4 hR
            obtain ⟨t, a, c, rfl, rfl, q1, q2, q3, ha, ha2, hR, hC, hZ⟩ := hrel
            have hG2 := hR.out.2.2.1
            by_cases ht : t + 1 < L2
            · have htI : (t : Int) + 1 < (L2 : Int) := by omega
              have cu := hZ.out (j + 1 + (t + 1)) (by omega) (by omega)
              have cv := hZ.out (j + 1 + t) (by omega) (by omega)
              have k0 := (hR.out.1 (j + 1 + t) (by omega)).1
              have k1 := (hR.out.1 (j + 1 + t) (by omega)).2
              have k2 := (hR.out.1 (j + 1 + (t + 1)) (by omega)).1
              have k3 := (hR.out.1 (j + 1 + (t + 1)) (by omega)).2
              rw [cv, show (j + 1 + t) * 2 = (j + 1) * 2 + t * 2 by omega] at k0 k1
              rw [cu, show (j + 1 + (t + 1)) * 2 = (j + 1) * 2 + (t + 1) * 2 by omega] at k2 k3
              have k4 := (hR.out.1 a (by omega)).1
              have k5 := (hR.out.1 a (by omega)).2
              have k6 := hR.out.2.1 (a * 2) (by omega)
              have k7 := hR.out.2.1 (a * 2 + 1) (by omega)
              have xw1 : IntKind.i64.wrap ((t : Int) + 1 - 1) = (t : Int) := by rw [Int.add_sub_cancel]; exact IntWalk.i64_in _ (by omega)
              have xw2 : IntKind.i64.wrap (t : Int) = (t : Int) := IntWalk.i64_in _ (by omega)
              have xw3 : ((t : Int) + 1).toNat = t + 1 := by omega
              have xw4 : IntKind.i64.wrap ((t : Int) + 1 + 1) = (t : Int) + 1 + 1 := IntWalk.i64_in _ (by omega)
              have xw5 : IntKind.i64.wrap ((a : Int) + 1) = (a : Int) + 1 := IntWalk.i64_in _ (by omega)
              have haI : (a : Int) < (j : Int) + 1 + (L2 : Int) := by omega
              have haI2 : a < j + 1 + L2 := by omega
              have HA := Lib.hid ha
              clear cu cv ha
              by_cases e : z (j + 1 + (t + 1)) = z (j + 1 + t)
              · have HE : ∀ w, (Op.equalIn 10000 66 (.agg #[.int .i64 (lwN (z (j + 1 + (t + 1))) N), .int .i64 (lwD (z (j + 1 + (t + 1))) N)]) (.agg #[.int .i64 (lwN (z (j + 1 + t)) N), .int .i64 (lwD (z (j + 1 + t)) N)])).run Try.prog w = .ok true w := fun w => by rw [eqFr, low_eqB h1, decide_eq_true e]
                have hU := Lib.hid (cpU_same (z := z) (j := j + 1 + (t + 1)) (by omega) (by rw [show j + 1 + (t + 1) - 1 = j + 1 + t by omega]; exact e))
                clear e
                go_wp2_with fail
                go_quiet (fail)
                go_wp2_with fail
                go_roundg (gk - 1)
                case rel => exact ⟨t + 1, a, c, rfl, by go_num, by omega, by omega, by omega, by rw [show j + 1 + (t + 1 + 1) = j + 1 + (t + 1) + 1 from rfl, hU.out]; exact HA.out, by omega, hR.out.drewN _, fun i hi => by rw [show j + 1 + (t + 1 + 1) = j + 1 + (t + 1) + 1 from rfl, hU.out]; exact hC.out i hi, fun i x y => hZ.out i (by omega) y⟩
                case measure => omega
              · have HE : ∀ w, (Op.equalIn 10000 66 (.agg #[.int .i64 (lwN (z (j + 1 + (t + 1))) N), .int .i64 (lwD (z (j + 1 + (t + 1))) N)]) (.agg #[.int .i64 (lwN (z (j + 1 + t)) N), .int .i64 (lwD (z (j + 1 + t)) N)])).run Try.prog w = .ok false w := fun w => by rw [eqFr, low_eqB h1, decide_eq_false e]
                have hU := Lib.hid (cpU_new (z := z) (j := j + 1 + (t + 1)) (by rw [show j + 1 + (t + 1) - 1 = j + 1 + t by omega]; exact e))
                clear e
                go_wp2_with fail
                go_quiet (fail)
                go_wp2_with fail
                go_roundg (gk - 1)
                case rel =>
                  refine ⟨t + 1, a + 1, _, by go_num, by go_num, by omega, by omega, by omega, by rw [show j + 1 + (t + 1 + 1) = j + 1 + (t + 1) + 1 from rfl, hU.out, List.length_append, ← HA.out]; rfl, by omega, (hR.out.drewN _).put haI2 (z (j + 1 + (t + 1))), fun i hi => ?_, fun i x y => ?_⟩
                  · rw [show j + 1 + (t + 1 + 1) = j + 1 + (t + 1) + 1 from rfl, hU.out]
                    by_cases q : i = a
                    · rw [if_pos q, q, List.getD, List.getElem?_append_right (by rw [← HA.out]; exact Nat.le_refl _), ← HA.out, Nat.sub_self]; rfl
                    · rw [if_neg q, List.getD, List.getElem?_append_left (by rw [← HA.out]; omega)]; exact hC.out i (by omega)
                  · show (if i = a then _ else c i) = z i
                    rw [if_neg (by omega)]
                    exact hZ.out i (by omega) y
                case measure => omega
            · obtain rfl : L2 = t + 1 := by omega
              have haI : (a : Int) ≤ (j : Int) + 1 + ((t + 1 : Nat) : Int) := by omega
              have hcl : ∀ ty, (Builtin.clear_ #[58] ty #[.slice (some ⟨G, a * 2, none⟩) (j + 1 + (t + 1) - a) (j + 1 + (t + 1) - a)]).run Try.prog wr = .ok (.tuple #[]) (wr.setCells G (a * 2) (Builtin.zeroCells (Value.agg #[.int .i64 0, .int .i64 0]).cells (j + 1 + (t + 1) - a)).toList) := fun ty =>
                run_clear2 wr _ _ ty _ Try.underlying58 Try.zeroValue66 rfl (fun v hv => by simp [Value.cells] at hv; rcases hv with rfl | rfl <;> rfl) G (a * 2) _ _ (by omega) (fun i hi => by
                  have h2 := hR.out.1 ((a * 2 + i) / 2) (by omega)
                  rcases Nat.mod_two_eq_zero_or_one i with e | e
                  · rw [show a * 2 + i = (a * 2 + i) / 2 * 2 by omega, h2.1]; rfl
                  · rw [show a * 2 + i = (a * 2 + i) / 2 * 2 + 1 by omega, h2.2]; rfl) (fun i hi => hR.out.2.1 _ (by omega))
              obtain ⟨zs, hzs⟩ : ∃ zs, zs = (Builtin.zeroCells (Value.agg #[.int .i64 0, .int .i64 0]).cells (j + 1 + (t + 1) - a)).toList := ⟨_, rfl⟩
              rw [← hzs] at hcl
              have HA := Lib.hid ha
              clear hzs ha
              go_wp2_with fail
              go_ret
              rw [← HA.out]
              refine ⟨by first | rfl | simp, fun i hi => ?_, below_setCells G (Nat.le_refl _) zs (a * 2) w wr hR.out.2.2.2⟩
              rw [World.cell?_setCells_out G zs (a * 2) wr _ (fun _ _ => .inl (by show i * 2 < a * 2; omega)), World.cell?_setCells_out G zs (a * 2) wr _ (fun _ _ => .inl (by show i * 2 + 1 < a * 2; omega)), ← hC.out i hi]
              exact hR.out.1 i (by omega)
        · have HE : ∀ w, (Op.equalIn 10000 66 (.agg #[.int .i64 (lwN (z (j + 1)) N), .int .i64 (lwD (z (j + 1)) N)]) (.agg #[.int .i64 (lwN (z j) N), .int .i64 (lwD (z j) N)])).run Try.prog w = .ok false w := fun w => by rw [eqFr, low_eqB h1, decide_eq_false e]
          have hNe := Lib.hid e
          clear e
          go_wp2_with fail
          go_quiet (fail)
          go_wp2_with fail
          go_roundg (gk - 1)
          case rel => exact ⟨j + 1, by go_num, by omega, by omega, by omega, hR.out.drewN _, fun i a b => by
            by_cases q : i = j + 1
            · subst q; exact hNe.out
            · exact hN.out i a (by omega)⟩
          case measure => omega
      · obtain rfl : n = j + 1 := by omega
        have e : cpU z (j + 1) = (List.range (j + 1)).map z := cpU_no hN.out
        have hl : (cpU z (j + 1)).length = j + 1 := by rw [e]; simp
        have HL := Lib.hid hl
        have HX := Lib.hid e
        clear e hl
        go_wp2_with fail
        go_ret
        rw [HL.out]
        refine ⟨by first | rfl | simp, fun i hi => ?_, hR.out.2.2.2⟩
        have : (cpU z (j + 1)).getD i 0 = z i := by rw [HX.out]; simp [List.getD, hi]
        rw [this]
        exact hR.out.1 i hi
end Go.Proofs.Ytikfblbfodacaaa
