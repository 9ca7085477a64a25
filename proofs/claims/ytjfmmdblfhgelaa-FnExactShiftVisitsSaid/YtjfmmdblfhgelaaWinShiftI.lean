/- ShiftVisits (chapter 8), the program's way by contracts. -/
import Derived.Test.YtjfmmdblfhgelaaWinShift
import Derived.Test.YtjfmmdblfhgelaaWinLI
import Derived.Test.YtjfmmdblfhgelaaPairsV
import Derived.WalkKit
import Derived.WalkSpells
import Derived.WalkLawsBesides
import Derived.Lib.Hide
import Derived.Deep.LoopGhost
import Derived.Deep.QuietTactic
import Derived.Deep.RegionHeld3
import Derived.BigQuiet
namespace Go.Proofs.Ytjfmmdblfhgelaa
open Go.RowKit
set_option linter.unusedVariables false
set_option linter.unusedSimpArgs false
theorem row_baseV {w : World} {base base2 : Nat} {e : TypeId} {size : Nat} {v : Value} {n : Nat} {xs : List Value} (h : w.ownsRow base e size v n xs) (hb : base2 ≤ base) : w.ownsRow base2 e size v n xs := by
  obtain ⟨hl, h⟩ := h
  refine ⟨hl, ?_⟩
  rcases h with h | ⟨g, c, cur, e, h1, h2⟩
  · exact .inl h
  · exact .inr ⟨g, c, cur, e, Nat.le_trans hb h1, h2⟩
theorem wrap_down (a : Int) : IntKind.i64.wrap (a - 18446744073709551616) = IntKind.i64.wrap a := by
  have e : (a - 18446744073709551616) % 2 ^ IntKind.i64.bits = a % 2 ^ IntKind.i64.bits := by
    show (a - 18446744073709551616) % 2 ^ 64 = a % 2 ^ 64
    omega
  unfold IntKind.wrap
  simp only [e]
/-- the visits, later, as the machine adds -/
def shW (xs : List (Int × Int)) (d : Int) : List (Int × Int) := xs.map fun p => (IntKind.i64.wrap (p.1 + d), p.2)
theorem shW_len (xs : List (Int × Int)) (d : Int) : (shW xs d).length = xs.length := by simp [shW]
theorem shW_at {xs : List (Int × Int)} {d : Int} {j : Nat} (h : j < xs.length) : px (shW xs d) j = IntKind.i64.wrap (px xs j + d) ∧ py (shW xs d) j = py xs j := by
  constructor <;> simp [px, py, shW, List.getD, List.getElem?_eq_getElem h]
theorem shK_take (xs : List (Int × Int)) (d : Int) : ∀ j, j ≤ xs.length → shK xs d j = (xs.take j).map fun p => (p.1 + d, p.2)
  | 0, _ => rfl
  | j + 1, h => by
    have ih := shK_take xs d j (by omega)
    have hj : j < xs.length := by omega
    have e : xs.take (j + 1) = xs.take j ++ [xs[j]] := by rw [List.take_add_one, List.getElem?_eq_getElem hj]; rfl
    have e1 : px xs j = (xs[j]).1 := by simp [px, List.getD, List.getElem?_eq_getElem hj]
    have e2 : py xs j = (xs[j]).2 := by simp [py, List.getD, List.getElem?_eq_getElem hj]
    simp only [shK]
    rw [ih, e, List.map_append, e1, e2]
    rfl
theorem shW_in {xs : List (Int × Int)} {d : Int} (hv : viS xs = true) (hd : inB d (-200) 200 = true) : shW xs d = shK xs d xs.length := by
  rw [shK_take xs d xs.length (Nat.le_refl _), List.take_length]
  unfold shW
  apply List.map_congr_left
  intro p hp
  obtain ⟨i, hi, rfl⟩ := List.getElem_of_mem hp
  have b := viOk_iff.1 ((viS_at hv).2.2 i hi)
  have e : px xs i = (xs[i]).1 := by simp [px, List.getD, List.getElem?_eq_getElem hi]
  have d2 := inB_iff.1 hd
  rw [← e]
  rw [IntWalk.i64_in _ (by omega)]
theorem shW_out {xs : List (Int × Int)} {d : Int} (hv : viS xs = true) (hd : inB d (-200) 200 = false) (d1 : -9223372036854775808 ≤ d) (d2 : d ≤ 9223372036854775807) : viS (shW xs d) = false := by
  have h0 : 0 < xs.length := by have := (viS_at hv).1; omega
  have b := viOk_iff.1 ((viS_at hv).2.2 0 h0)
  have hn : ¬ (-200 ≤ d ∧ d ≤ 200) := fun q => by rw [inB_iff.2 q] at hd; cases hd
  have hq : viOk (px (shW xs d) 0) (py (shW xs d) 0) = false := by
    rw [(shW_at h0).1]
    cases hk : viOk (IntKind.i64.wrap (px xs 0 + d)) (py (shW xs d) 0)
    · rfl
    · have k := viOk_iff.1 hk
      exfalso
      by_cases q : px xs 0 + d ≤ 9223372036854775807
      · rw [IntWalk.i64_in _ (by omega)] at k; omega
      · have e : IntKind.i64.wrap (px xs 0 + d) = px xs 0 + d - 18446744073709551616 := by
          rw [← wrap_down, IntWalk.i64_in _ (by omega)]
        rw [e] at k; omega
  unfold viS
  rw [allP_no (by rw [shW_len]; exact h0) hq, Bool.and_false]
theorem shB_eq {xs : List (Int × Int)} {d : Int} (hv : viS xs = true) (d1 : -9223372036854775808 ≤ d) (d2 : d ≤ 9223372036854775807) : viS (shW xs d) = shB xs d ∧ (shB xs d = true → shL xs d = shW xs d) := by
  cases hd : inB d (-200) 200
  · have e : shB xs d = false := by simp [shB, hd]
    rw [e, shW_out hv hd d1 d2]
    exact ⟨rfl, fun h => by cases h⟩
  · have e : shB xs d = viS (shK xs d xs.length) := by simp [shB, hv, hd]
    rw [e, shW_in hv hd]
    refine ⟨rfl, fun h => ?_⟩
    unfold shL; rw [e, h, if_pos rfl]
theorem shL_len (xs : List (Int × Int)) (d : Int) : (shL xs d).length ≤ 1000 := by
  unfold shL
  split
  · rename_i h
    unfold shB at h
    rw [Bool.and_eq_true] at h
    have := (viS_at h.2).2.1
    omega
  · simp
set_option maxHeartbeats 2000000 in
set_option maxRecDepth 100000 in
theorem implShiftVisits (a : Option Addr) (cap : Nat) (xs : List (Int × Int)) (d : Int) (w : World) (h : RdP w a xs) (hn : xs.length ≤ 1048576) (d1 : -9223372036854775808 ≤ d) (d2 : d ≤ 9223372036854775807) :
    Calls Try.prog 30 #[.slice a xs.length cap, .int .i64 d] w (RetV w (shL xs d) (shB xs d)) := by
  cases h1 : viS xs
  · have H1 := Lib.hid h1
    have HL := Lib.hid (show shL xs d = [] by simp [shL, shB, h1])
    have HV := Lib.hid (show shB xs d = false by simp [shB, h1])
    clear h1
    go_enter Try.func30, Try.ntmps30
    go_wp2_with (first | (go_at_call 36; refine (implAreVisits a cap xs _ h hn).mono ?_; rw [H1.out]; rintro e w0 ⟨rfl, hb0⟩))
    go_ret2
    rw [HL.out, HV.out]
    exact ⟨none, 0, rfl, ⟨rfl, .inl ⟨rfl, rfl⟩⟩, hb0⟩
  · have H1 := Lib.hid h1
    have HQ := Lib.hid (shB_eq h1 d1 d2)
    have HT := Lib.hid (viS_at h1)
    have hl := (viS_at h1).2.1
    have hlW := Lib.hid (shW_len xs d)
    clear h1
    go_enter Try.func30, Try.ntmps30
    go_wp2_with fail
    refine (implAreVisits a cap xs _ h hn).mono ?_; rw [H1.out]; rintro e w9 ⟨rfl, hb0⟩
    replace h := h.below hb0
    have HB0 := Lib.hid hb0
    have hz9 := hb0.size
    clear hb0
    obtain ⟨i0, hi, hz0, hz1, hz2⟩ := info_parts pairInfoV
    obtain ⟨w0, hrun, hown0, hgr0⟩ := run_make_full (P := Try.prog) w9 w9.heap.size 27 50 i0 (.agg #[.int .i64 0, .int .i64 0]) 2 Try.underlying27 hi hz0 hz1 .i64 .i64 xs.length (by rw [hz2]; omega) (by unfold maxLen; omega) (Nat.le_refl _)
    have hbel0 : Below w9.heap.size w9 w0 := (Below.refl _ _).grown hgr0 (Nat.le_refl _) (fun k hk => by cases hk)
    obtain ⟨ys0, hy0⟩ : ∃ ys, ys = (madeCells (Value.agg #[.int .i64 0, .int .i64 0]).cells (xs.length * 2)).toList := ⟨_, rfl⟩
    rw [← hy0] at hown0
    clear hy0 hgr0
    have hsz0 := hbel0.size
    go_wp2_with fail
    clear hrun
    go_loopg [17] xs.length (fun k v17 wr => ∃ (j : Nat) (ys : List Value), v17 = .int .i64 (j : Int) ∧ j + k ≤ xs.length ∧ xs.length ≤ j + k ∧ wr.ownsRow w9.heap.size 50 2 (.slice (some ⟨w9.heap.size, 0, none⟩) xs.length xs.length) xs.length ys ∧ Hid (∀ i, i < j * 2 → ys[i]? = (cs2 (shW xs d))[i]?) ∧ Below w9.heap.size w9 wr)
    case atStart => exact ⟨0, ys0, rfl, by omega, by omega, hown0, fun i hi => absurd hi (Nat.not_lt_zero _), hbel0⟩
    case round =>
      obtain ⟨j, ys, rfl, h1, h2, hown, hys, hbel⟩ := hrel
      by_cases hj : j < xs.length
      · rcases h with h | ⟨b, off, rfl, hlt, hc⟩
        · rw [h] at hj; exact absurd hj (Nat.not_lt_zero _)
        · have hcj : wr.cell? ⟨b, off + j * 2, none⟩ = some (.int .i64 (px xs j)) := by rw [(bcell hbel).1 b _ hlt]; exact (hc j hj).1
          have hck : wr.cell? ⟨b, off + j * 2 + 1, none⟩ = some (.int .i64 (py xs j)) := by rw [(bcell hbel).1 b _ hlt]; exact (hc j hj).2
          have hlen : ys.length = xs.length * 2 := hown.1
          have hg0 := (hown.lt w9.heap.size rfl).2
          have hjI : (j : Int) < (xs.length : Int) := by omega
          have hp0 := px_get (xs := shW xs d) (by rw [shW_len]; exact hj)
          have hp1 := py_get (xs := shW xs d) (by rw [shW_len]; exact hj)
          rw [(shW_at hj).1] at hp0
          rw [(shW_at hj).2] at hp1
          have HP := Lib.hid (And.intro hp0 hp1)
          clear hc hp0 hp1
          generalize px xs j = x at *
          generalize py xs j = y at *
          have HB := Lib.hid hbel
          have hcy0 := hown.cellAt (j * 2) (by omega)
          have hcy1 := hown.cellAt (j * 2 + 1) (by omega)
          have hfy0 := hown.frozenAt (j * 2)
          have hfy1 := hown.frozenAt (j * 2 + 1)
          rw [List.getElem?_eq_getElem (by omega)] at hcy0 hcy1
          have hO1' := Lib.hid hown
          clear hown hbel
          go_wp2_with fail
          go_roundg (gk - 1)
          case rel =>
            obtain ⟨hst, hst0⟩ := hO1'.out.stored (j * 2) (.int .i64 (wrap64 (x + d)))
            obtain ⟨hst2, hst1⟩ := hst.stored (j * 2 + 1) (.int .i64 y)
            refine ⟨j + 1, _, by go_num, by omega, by omega, hst2.alloc _, ?_, ?_⟩
            · intro i hi
              by_cases q : i = j * 2 + 1
              · subst q; rw [List.getElem?_set_self (by rw [List.length_set]; omega), HP.out.2]
              · rw [List.getElem?_set_ne (by omega)]
                by_cases q' : i = j * 2
                · subst q'; rw [List.getElem?_set_self (by omega), HP.out.1, IntWalk.i64_left]
                · rw [List.getElem?_set_ne (by omega)]; exact hys.out i (by omega)
            · exact ((HB.out.setCell (Nat.le_refl _) _).setCell (Nat.le_refl _) _).alloc (by first | omega | (simp; omega)) _
          case measure => omega
      · have e : j = xs.length := by omega
        have hlen : ys.length = xs.length * 2 := hown.1
        have hyx : ys = cs2 (shW xs d) := by
          apply List.ext_getElem?
          intro i
          by_cases q : i < xs.length * 2
          · exact hys.out i (by omega)
          · rw [List.getElem?_eq_none (by omega), List.getElem?_eq_none (by rw [cs2_length, shW_len]; omega)]
        subst hyx
        have hO : OwnV wr w9.heap.size (some ⟨w9.heap.size, 0, none⟩) xs.length (shW xs d) := by unfold OwnV; rw [shW_len]; exact hown
        have HG := Lib.hid (implAreVisits (some ⟨w9.heap.size, 0, none⟩) xs.length (shW xs d) wr hO.rd (by rw [shW_len]; omega))
        rw [hlW.out] at HG
        have HB := Lib.hid hbel
        have HO := Lib.hid hO
        clear hown hbel hO hys e hlen
        have hB9 := HB0.out.trans (HB.out.mono HB0.out.size)
        cases hg : shB xs d
        · have HL := Lib.hid (show shL xs d = [] by simp [shL, hg])
          have HV := Lib.hid hg
          rw [HQ.out.1, hg] at HG
          go_wp2_with fail
          refine HG.out.mono ?_; rintro e w2 ⟨rfl, hb⟩
          go_wp2_with fail
          go_ret2
          rw [HL.out, HV.out]
          exact ⟨none, 0, rfl, ⟨rfl, .inl ⟨rfl, rfl⟩⟩, hB9.trans (hb.mono hB9.size)⟩
        · have HL := Lib.hid (HQ.out.2 hg)
          have HV := Lib.hid hg
          rw [HQ.out.1, hg] at HG
          go_wp2_with fail
          refine HG.out.mono ?_; rintro e w2 ⟨rfl, hb⟩
          go_wp2_with fail
          go_ret2
          rw [HL.out, HV.out]
          exact ⟨_, _, by rw [hlW.out]; rfl, row_baseV (HO.out.below hb) hz9, hB9.trans (hb.mono hB9.size)⟩
end Go.Proofs.Ytjfmmdblfhgelaa
