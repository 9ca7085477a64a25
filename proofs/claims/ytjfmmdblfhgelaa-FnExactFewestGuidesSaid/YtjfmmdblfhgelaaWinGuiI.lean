/- FewestGuides (chapter 8), the program's way by contracts: visits in a map that is ranged over and emptied, led on by jumps back to a label. -/
import Derived.Test.YtjfmmdblfhgelaaWinMap
import Derived.Test.YtjfmmdblfhgelaaWinGui
import Derived.Test.YtjfmmdblfhgelaaWinWhoI
import Derived.Test.YtjfmmdblfhgelaaWinLI
import Derived.WalkKit
import Derived.WalkSpells
import Derived.WalkLawsBesides
import Derived.WalkMore
import Derived.ScopeJumps
import Derived.Carry
import Derived.Lib.Hide
import Derived.Deep.LoopGhost
import Derived.Deep.QuietTactic
import Derived.Deep.RegionHeld3
import Derived.BigQuiet
namespace Go.Proofs.Ytjfmmdblfhgelaa
open Go.RowKit
set_option linter.unusedVariables false
set_option linter.unusedSimpArgs false
theorem row_baseG {w : World} {base base2 : Nat} {e : TypeId} {size : Nat} {v : Value} {n : Nat} {xs : List Value} (h : w.ownsRow base e size v n xs) (hb : base2 ≤ base) : w.ownsRow base2 e size v n xs := by
  obtain ⟨hl, h⟩ := h
  refine ⟨hl, ?_⟩
  rcases h with h | ⟨g, c, cur, e, h1, h2⟩
  · exact .inl h
  · exact .inr ⟨g, c, cur, e, Nat.le_trans hb h1, h2⟩
/-- A scope in which the run jumps back to one label, with a number that falls at each jump; what is shown of the way behind the label serves the first way to it as well. -/
theorem wp_scope_ghost {P : Program} {a : Act} {w : World} {Q : Exit → Act → World → Prop} {c rest : Code} (l : Nat) (J : Nat → Act → World → Prop) (hf : findLabel c l = some (Code.skip.seq rest))
    (pass : ∀ k a w, J k a w → rest.wp P (Exit.jump l (fun a' w' => ∃ m, m < k ∧ J m a' w') Q) a w)
    (first : (∀ k a w, J k a w → rest.wp P (Exit.jump l (fun a' w' => ∃ m, J m a' w') Q) a w) → c.wp P (Exit.jump l (fun a' w' => ∃ m, J m a' w') Q) a w) : (Code.scope c).wp P Q a w := by
  have least : ∀ a w, (∃ k, J k a w) → ∃ k, J k a w ∧ ∀ m, J m a w → k ≤ m := by
    intro a w ⟨k, hk⟩
    induction k using Nat.strongRecOn with
    | _ k ih =>
      by_cases q : ∃ m, m < k ∧ J m a w
      · obtain ⟨m, hm, hJ⟩ := q
        exact ih m hm hJ
      · refine ⟨k, hk, fun m hm => ?_⟩
        rcases Nat.lt_or_ge m k with z | z
        · exact absurd ⟨m, z, hm⟩ q
        · exact z
  have hmono : ∀ {J1 J2 : Act → World → Prop}, (∀ a w, J1 a w → J2 a w) → ∀ e a w, Exit.jump l J1 Q e a w → Exit.jump l J2 Q e a w := by
    intro J1 J2 h e a w hj
    cases e <;> first | exact hj | exact ⟨hj.1, h _ _ hj.2⟩
  classical
  refine wp_scope_jumps l (fun a' w' => ∃ m, J m a' w') (fun a' w' => if h : ∃ m, J m a' w' then Classical.choose (least a' w' h) else 0) hf (first fun k a w hJ => wp_mono (pass k a w hJ) (hmono fun a w ⟨m, _, h⟩ => ⟨m, h⟩)) ?_
  intro a w hJ
  have hc := Classical.choose_spec (least a w hJ)
  refine wp_mono (wp_seq (wp_skip (pass _ a w hc.1))) (hmono ?_)
  intro a' w' ⟨m, hm, hJ'⟩
  have hJ2 : ∃ m, J m a' w' := ⟨m, hJ'⟩
  refine ⟨hJ2, ?_⟩
  have hc2 := Classical.choose_spec (least a' w' hJ2)
  rw [dif_pos hJ2, dif_pos hJ]
  have := hc2.2 m hJ'
  omega
set_option maxHeartbeats 4000000 in
set_option maxRecDepth 100000 in
theorem firstEnd_any (xs : List (Int × Int)) (U : Nat → Bool) (b n : Nat) (D : DataW Unit) (w : World) (hown : w.ownsMap Try.prog 3 vE b n D) (hM : MV xs U D) (hv : okV xs) (hs : ∃ i, i < xs.length ∧ U i = true) :
    Calls Try.prog 43 #[.map (some b)] w fun e w' => e = .returned (.int .i64 (fgE xs U xs.length)) ∧ Below w.heap.size w w' := by
  have HV := Lib.hid hv
  have HM := Lib.hid hM
  have HS := Lib.hid hs
  clear hv hM hs
  go_enter Try.func43, Try.ntmps43
  go_wp2_with (first | (at_range; refine wpList_range_own _ rfl _ 58 rfl 3 50 keyedI Try.underlying58 _ b n _ rfl hown ?_; intro w0 hrg0 hg0 hs0) | go_in)
  go_frame
  have HB0 : Hid (Below w.heap.size w w0) := ⟨hg0.os, hg0.tape, hg0.output, hg0.size, fun i hi => hg0.block i hi (by simp)⟩
  go_loopw [3] (fun v3 wr => ∃ (left : Lit → Bool) (cnt : Nat) (f : Int), v3 = .int .i64 f ∧ wr.ranges Try.prog 3 vE b w.heap.size n D left cnt ∧ f ≤ 400 ∧ -1 ≤ f ∧ Hid (∀ i : Nat, i < xs.length → U i = true → left (.int .i64 (i : Int)) = false → f ≤ px xs i + py xs i) ∧ Hid (f = 400 ∨ ∃ i, i < xs.length ∧ U i = true ∧ f = px xs i + py xs i) ∧ Hid (Below w.heap.size w wr)) (fun _ wr => wr.rangeLeft b w.heap.size)
  case atStart => exact ⟨_, _, 400, rfl, hrg0, by omega, by omega, fun i hi hU hl => absurd hl (by rw [HM.out.2.1 i hi hU]; simp), .inl rfl, HB0⟩
  case round =>
    obtain ⟨left, cnt, f, rfl, hrg, hf1, hf0, HF, HG, HB⟩ := hrel
    go_wp2_with (first | (at_next; refine wpList_next_ranges _ rfl _ rfl 3 keyedI vE (Value.int .i64) mkV (key_inv Try.underlying3) vE_inv b w.heap.size n _ _ _ rfl hrg ?_ ?_) | go_in)
    · intro _ hl0
      have hfin : f = fgE xs U xs.length := by
        refine fgE_is HV.out (fun i hi hU => HF.out i hi hU (hl0 _)) ?_
        rcases HG.out with q | q
        · obtain ⟨i, hi, hU⟩ := HS.out
          have := HF.out i hi hU (hl0 _)
          have bt := viOk_iff.1 (HV.out i hi)
          exact ⟨i, hi, hU, by omega⟩
        · exact q
      have HFN := Lib.hid hfin
      clear hfin
      go_wp2_with fail
      go_ret
      exact ⟨by first | (rw [HFN.out]; done) | (rw [HFN.out]; rfl), HB.out⟩
    ·
      intro x c d kl y1 y2 w1 cnt1 hkey hlk hR hat hrg1 hlt hg1 hs1 hen
      obtain ⟨x', ex, rfl, hwx⟩ := Maps.keyOf_int_inv Try.underlying3 hkey
      cases ex
      have hy : y1 = vD c d := by have := hR; rw [show mkV (c, d) = .agg #[.int .i64 c, .int .i64 d] from rfl, vE_mk] at this; exact (congrArg Prod.fst (Option.some.inj this)).symm
      subst hy
      clear hkey hR
      obtain ⟨i, hi, hU, rfl, rfl, rfl⟩ := HM.out.come hat
      have bt := viOk_iff.1 (HV.out i hi)
      simp only [mkV] at hen ⊢
      have HE := Lib.hid (fun w => end_any (px xs i) (py xs i) (by omega) (by omega) (by omega) (by omega) w)
      have HF2 : Hid (∀ j : Nat, j < xs.length → U j = true → (left (.int .i64 (j : Int)) && !(Lit.int .i64 (j : Int)).sameKey (.int .i64 (i : Int))) = false → low f (px xs i + py xs i) ≤ px xs j + py xs j) := fun j hj hUj hl => by
        by_cases e : j = i
        · subst e; unfold low; split <;> omega
        · have hsk : (Lit.int .i64 (j : Int)).sameKey (.int .i64 (i : Int)) = false := Maps.sameKey_ne (fun q => e (int_key_inj q))
          rw [hsk] at hl
          have := HF.out j hj hUj (by simpa using hl)
          unfold low; split <;> omega
      have HG2 : Hid (low f (px xs i + py xs i) = 400 ∨ ∃ j, j < xs.length ∧ U j = true ∧ low f (px xs i + py xs i) = px xs j + py xs j) := by
        unfold low
        split
        · exact HG.out
        · exact .inr ⟨i, hi, hU, rfl⟩
      have HB1 : Hid (Below w.heap.size w w1) := HB.out.trans ⟨hg1.os, hg1.tape, hg1.output, hg1.size, fun k hk => hg1.block k (by have := HB.out.size; omega) (fun e => by have := Option.some.inj e; omega)⟩
      clear hat HF HG HB hU
      have hz1 := HB1.out.size
      generalize px xs i = c at *
      generalize py xs i = d at *
      have HR2 := Lib.hid (ranges_below hrg1 ((Below.refl _ _).alloc (Nat.le_refl _) (.cells #[.int .i64 c, .int .i64 d] 50)))
      have HB2 := Lib.hid (HB1.out.alloc hz1 (.cells #[.int .i64 c, .int .i64 d] 50))
      have HLT := Lib.hid (And.intro hlt (And.intro hrg.left_eq hs1))
      clear hrg1 hlt hg1
      rcases Int.lt_trichotomy f (c + d) with m | m | m
      all_goals
        go_wp2_with (first | (go_at_call 50; refine (HE.out _).mono ?_; rintro e w2 ⟨rfl, hb⟩; have HR3 := Lib.hid (ranges_below HR2.out hb); have HB3 := Lib.hid (bchain HB2.out hb HB2.out.size)))
        go_roundw
        case rel => exact ⟨_, cnt1, _, rfl, HR3.out, by first | omega | (split <;> omega), by first | omega | (split <;> omega), by have := HF2; unfold low at this; first | (rw [if_pos (by omega)] at this; exact this) | (rw [if_neg (by omega)] at this; first | exact this | (rw [← m] at this; exact this) | (rw [m]; exact this)), by have := HG2; unfold low at this; first | (rw [if_pos (by omega)] at this; exact this) | (rw [if_neg (by omega)] at this; first | exact this | (rw [← m] at this; exact this) | (rw [m]; exact this)), HB3⟩
        case measure => rw [HR3.out.left_eq, HLT.out.2.1]; exact HLT.out.1
set_option maxHeartbeats 16000000 in
set_option maxRecDepth 100000 in
theorem implFewestGuides (a : Option Addr) (cap : Nat) (xs : List (Int × Int)) (w : World) (h : RdP w a xs) (hn : xs.length ≤ 1048576) :
    Calls Try.prog 28 #[.slice a xs.length cap] w (RetS w (fgL xs) (viS xs)) := by
  cases hs : viS xs
  · have H1 := Lib.hid hs
    have HL := Lib.hid (show fgL xs = [] by simp [fgL, hs])
    clear hs
    go_enter Try.func28, Try.ntmps28
    go_wp2_with fail
    go_step3
    go_wp2_with (first | (go_at_call 36; refine (implAreVisits a cap xs _ h hn).mono ?_; rw [H1.out]; rintro e w0 ⟨rfl, hb0⟩))
    (try rw [Exit.noGoto_ret])
    go_ret2
    rw [HL.out]
    exact ⟨none, 0, rfl, ⟨rfl, .inl ⟨rfl, rfl⟩⟩, hb0⟩
  · obtain ⟨i0, hi, hz0, hz1, hz2⟩ := info_parts intInfo
    have H1 := Lib.hid hs
    have t := viS_at hs
    have HV : Hid (okV xs) := t.2.2
    have hl := t.2.1
    have hl1 := t.1
    have hnI : (xs.length : Int) ≤ 6 := by omega
    have HL := Lib.hid (show fgL xs = fgR xs xs.length (fun _ => true) by simp [fgL, hs])
    have HA := Lib.hid (implAreVisits a cap xs w h hn)
    rw [hs] at HA
    clear hs t
    have hmm := @run_makeMap Try.prog
    go_enter Try.func28, Try.ntmps28
    go_wp2_with fail
    refine wp_scope_ghost 0 (fun k a' w' => ∃ (B : Nat) (U : Nat → Bool) (out : List Int) (ao : Option Addr) (co : Nat) (D : DataW Unit) (u1 u5 u6 u8 u9 u10 u11 u12 u13 u14 u15 u16 u17 u18 u19 u20 u21 u22 u23 u24 u25 u26 u27 u28 u29 u30 u31 u32 u33 u34 u35 u36 u37 u38 u39 u40 u41 u42 u43 u44 u45 u46 u47 u48 u49 : Value), a' = { tmps := #[.slice a xs.length cap, u1, .slice none 0 0, .bool false, .map (some B), u5, u6, .slice ao out.length co, u8, u9, u10, u11, u12, u13, u14, u15, u16, u17, u18, u19, u20, u21, u22, u23, u24, u25, u26, u27, u28, u29, u30, u31, u32, u33, u34, u35, u36, u37, u38, u39, u40, u41, u42, u43, u44, u45, u46, u47, u48, u49], defers := [] } ∧ w.heap.size ≤ B ∧ Hid (fgN U xs.length ≤ k) ∧ Hid (∃ i, i < xs.length ∧ U i = true) ∧ Hid (out ++ fgR xs k U = fgR xs xs.length (fun _ => true)) ∧ Hid (w'.ownsMap Try.prog 3 vE B xs.length D) ∧ Hid (MV xs U D) ∧ Hid (w'.ownsRow (B + 1) 3 1 (.slice ao out.length co) out.length (out.map (Value.int .i64))) ∧ Hid (Below w.heap.size w w')) rfl ?_ ?_
    · rintro k a' w' ⟨B, U, out, ao, co, D, u1, u5, u6, u8, u9, u10, u11, u12, u13, u14, u15, u16, u17, u18, u19, u20, u21, u22, u23, u24, u25, u26, u27, u28, u29, u30, u31, u32, u33, u34, u35, u36, u37, u38, u39, u40, u41, u42, u43, u44, u45, u46, u47, u48, u49, rfl, hB, HK, HS, HO, HM, HV1, HR, HB⟩
      have hsz := HB.out.size
      have hol : out.length ≤ 6 := by
        have e := congrArg List.length HO.out
        rw [List.length_append] at e
        have := fgR_len xs xs.length (fun _ => true)
        omega
      obtain ⟨hr1, hr2⟩ := fg_round HV.out HK.out
      have hE0 : 0 ≤ fgE xs U xs.length := by obtain ⟨i, hi, hU⟩ := HS.out; exact fg_some HV.out hi hU
      obtain ⟨m, hkm, hrec, hN2⟩ := hr2 hE0
      have HE := Lib.hid (fun w ho => firstEnd_any xs U B xs.length D w ho HV1.out HV.out HS.out)
      have HAT := Lib.hid (fun i (hi : i < xs.length) => fgU_at HV.out hE0 hi)
      have HREC := Lib.hid hrec
      have HN2 := Lib.hid hN2
      have HKM := Lib.hid hkm
      have he4 := (fgE_spec (U := U) HV.out xs.length (Nat.le_refl _)).2.1
      clear hr1 hr2 hrec hN2 hkm hmm
      generalize fgE xs U xs.length = e at *
      have HBm : B < w'.heap.size := HM.out.lt
      go_wp2_with (first | (go_at_call 43; refine (HE.out _ HM.out).mono ?_; rintro e1 w1 ⟨rfl, hb1⟩; have HM1 := Lib.hid (ownsMap_below HM.out hb1); have HR1 := Lib.hid (row_below HR.out hb1); have HB1 := Lib.hid (HB.out.trans (hb1.mono hsz)); have hs1 := hb1.size) | ((at_builtin; refine wpList_append_own _ rfl _ _ 24 rfl (B + 1) 3 i0 (.int .i64 0) 1 8 Try.underlying24 hi hz0 hz1 hz2 rfl (by decide) _ _ _ rfl (HR1.out.alloc _) ⟨w1.heap.size, 0, none⟩ 1 1 [.int .i64 e] rfl rfl (cell_one_new _ _ _) (fun u hu => by simp at hu; subst hu; rfl) (by unfold maxLen; omega) (by omega) (by simp; omega) ?_; intro v1 w3 hown1 hgrow hx; clear hx; have hO3 := Lib.hid hown1; have HG3 := Lib.hid hgrow; clear hown1 hgrow); have HNE : Hid (some B ≠ (Value.slice ao out.length co).ownBlock) := (fun q => by have := (HR1.out.lt B q.symm).1; omega); have HM3 := Lib.hid ((HM1.out.alloc (.cells #[.int .i64 e] 3)).kept HG3.out HNE.out)) | (at_range; refine wpList_range_own _ rfl _ 58 rfl 3 50 keyedI Try.underlying58 _ B xs.length _ rfl HM3.out ?_; intro w4 hrg0 hg0 hs0))
      go_frame
      have hO4 := hO3.out
      obtain ⟨a3, c3, rfl⟩ := ownV_form hO4
      have hB3 : Below w.heap.size w w3 := (HB1.out.alloc (Nat.le_trans hsz hs1) _).grown HG3.out (by simp; omega) (fun k hk => Nat.le_trans (by omega) (HR1.out.lt k hk).1)
      have hsz3 := hB3.size
      have hB4 : Hid (Below w.heap.size w w4) := hB3.trans ⟨hg0.os, hg0.tape, hg0.output, hg0.size, fun i hi => hg0.block i (by omega) (by simp)⟩
      have hR4 := Lib.hid (World.ownsRow.kept hO4 (row := none) hg0 (by rcases hq : (Value.slice a3 (out.length + 1) c3).ownBlock with _ | k <;> simp))
      have HRN : Hid ((Value.slice a3 (out.length + 1) c3).ownBlock ≠ some w3.heap.size) := fun q => by have := (hO4.lt _ q).2; omega
      have HRB : Hid ((Value.slice a3 (out.length + 1) c3).ownBlock ≠ some B) := fun q => by have := (hO4.lt _ q).1; omega
      have hMV0 : Hid (MV xs (fun i => U i && (Maps.has D (.int .i64 (i : Int)) || !decide (px xs i ≤ e))) D) := HV1.out.ext fun i hi => by
        cases hU : U i
        · rfl
        · rw [HV1.out.2.1 i hi hU]; rfl
      obtain ⟨r, hr⟩ : ∃ r, r = w3.heap.size := ⟨_, rfl⟩
      have hwr : w.heap.size ≤ r := by omega
      rw [← hr] at hrg0 HRN ⊢
      clear hr
      clear hO4 hO3 hB3 hg0 HG3 HM3 HNE HM1 HR1 HB1
      go_loopw [9] (fun v9 wr => ∃ (left : Lit → Bool) (cnt : Nat) (D' : DataW Unit), wr.ranges Try.prog 3 vE B r xs.length D' left cnt ∧ Hid (MV xs (fun i => U i && (left (.int .i64 (i : Int)) || !decide (px xs i ≤ e))) D') ∧ Hid (wr.ownsRow (B + 1) 3 1 (.slice a3 (out.length + 1) c3) (out.length + 1) (out.map (Value.int .i64) ++ [.int .i64 e])) ∧ Hid (Below w.heap.size w wr)) (fun _ wr => wr.rangeLeft B r)
      case atStart => exact ⟨_, _, D, hrg0, hMV0, hR4, hB4⟩
      case round =>
        obtain ⟨left, cnt, D', hrg, HMV, HRr, HBr⟩ := hrel
        go_wp2_with (first | (at_next; refine wpList_next_ranges _ rfl _ rfl 3 keyedI vE (Value.int .i64) mkV (key_inv Try.underlying3) vE_inv B r xs.length _ _ _ rfl hrg ?_ ?_) | go_in)
        · intro _ hl0
          have HMe : Hid (MV xs (fgU xs U e) D') := HMV.out.ext fun i hi => by rw [HAT.out i hi, hl0]; simp
          have HOW := Lib.hid hrg.owns
          obtain ⟨es, hDe, _, hkl⟩ := hrg.owns.entries keyedI
          have HSZ := Lib.hid (HMe.out.size ⟨es, hDe, hkl⟩)
          clear hDe hkl hrg HMV
          rcases Nat.eq_zero_or_pos (Maps.size D') with z | z
          · have hf := HSZ.out.1 z
            have hneg : fgR xs m (fgU xs U e) = [] := (fg_round HV.out HN2.out).1 (by
              rcases Int.lt_or_le (fgE xs (fgU xs U e) xs.length) 0 with q | q
              · exact q
              · obtain ⟨i, hi, hU, _⟩ := ((fgE_spec (U := fgU xs U e) HV.out xs.length (Nat.le_refl _)).2.2.2 q).1
                rw [hf i hi] at hU; cases hU)
            have HFIN := Lib.hid (show fgL xs = out ++ [e] by rw [HL.out, ← HO.out, HREC.out, hneg])
            have hz0' : (Maps.size D' : Int) = 0 := by omega
            clear hneg hf
            go_wp2_with (first | (at_len; refine wpList_len_own _ rfl _ 58 rfl 3 50 Try.underlying58 _ B xs.length D' rfl HOW.out ?_))
            simp only [Exit.jump]
            go_ret2
            rw [HFIN.out]
            refine ⟨a3, c3, by simp, ?_, HBr.out⟩
            have ho := row_baseG HRr.out (show w.heap.size ≤ B + 1 by omega)
            unfold Own
            simpa using ho
          · have HZ := Lib.hid (HSZ.out.2 z)
            have hzI : (0 : Int) < (Maps.size D' : Int) := by omega
            have HO2 := Lib.hid (show (out ++ [e]) ++ fgR xs m (fgU xs U e) = fgR xs xs.length (fun _ => true) by rw [← HO.out, HREC.out]; simp)
            go_wp2_with (first | (at_len; refine wpList_len_own _ rfl _ 58 rfl 3 50 Try.underlying58 _ B xs.length D' rfl HOW.out ?_))
            go_step3
            have hln : (out ++ [e]).length = out.length + 1 := by simp
            rw [← hln]
            refine ⟨rfl, m, by rw [HKM.out]; omega, B, fgU xs U e, out ++ [e], a3, c3, D', _, _, _, _, _, _, _, _, _, _, _, _, _, _, _, _, _, _, _, _, _, _, _, _, _, _, _, _, _, _, _, _, _, _, _, _, _, _, _, _, _, _, _, _, _, rfl, hB, HN2, HZ, HO2, HOW, HMe, ?_, HBr⟩
            have := HRr.out
            unfold Hid
            simpa using this
        ·
          intro x c d kl y1 y2 w1 cnt1 hkey hlk hR hat hrg1 hlt hg1 hs1 hen
          obtain ⟨x', ex, rfl, hwx⟩ := Maps.keyOf_int_inv Try.underlying3 hkey
          cases ex
          have hy : y1 = vD c d := by have := hR; rw [show mkV (c, d) = .agg #[.int .i64 c, .int .i64 d] from rfl, vE_mk] at this; exact (congrArg Prod.fst (Option.some.inj this)).symm
          subst hy
          clear hkey hR
          obtain ⟨i, hi, hUV, rfl, rfl, rfl⟩ := HMV.out.come hat
          have bt := viOk_iff.1 (HV.out i hi)
          simp only [mkV] at hen ⊢
          have hsr := hs1
          have HBc : Hid (Below w.heap.size w w1) := HBr.out.trans ⟨hg1.os, hg1.tape, hg1.output, hg1.size, fun q hq => hg1.block q (by have := HBr.out.size; omega) (fun q2 => by have := Option.some.inj q2; omega)⟩
          have HRc := Lib.hid (World.ownsRow.kept HRr.out hg1 (.inr HRN.out))
          have hz1 := HBc.out.size
          have HR2 := Lib.hid (ranges_below hrg1 ((Below.refl _ _).alloc (Nat.le_refl _) (.cells #[.int .i64 (px xs i), .int .i64 (py xs i)] 50)))
          have HB2 := Lib.hid (HBc.out.alloc hz1 (.cells #[.int .i64 (px xs i), .int .i64 (py xs i)] 50))
          have HRR2 := Lib.hid (HRc.out.alloc (.cells #[.int .i64 (px xs i), .int .i64 (py xs i)] 50))
          have HLT := Lib.hid (And.intro hlt hrg.left_eq)
          have HIX := Lib.hid hi
          have HXW := Lib.hid hwx
          clear hat hrg1 hlt hg1 hwx
          have HD := Lib.hid (HMV.out.del i)
          by_cases hp : px xs i ≤ e
          · have HMd : Hid (MV xs (fun j => U j && ((left (.int .i64 (j : Int)) && !(Lit.int .i64 (j : Int)).sameKey (.int .i64 (i : Int))) || !decide (px xs j ≤ e))) (D'.del (.int .i64 (i : Int)))) := HD.out.ext fun j hj => by
              by_cases q : j = i
              · subst q; simp [hp, WideAt.sameKey_self (show WideAt.IsKeyLit (.int .i64 (j : Int)) from trivial)]
              · have hsk : (Lit.int .i64 (j : Int)).sameKey (.int .i64 (i : Int)) = false := Maps.sameKey_ne (fun z => q (int_key_inj z))
                simp [hsk, q]
            generalize px xs i = c at *
            generalize py xs i = d at *
            go_wp2_with (first | (at_delete; refine wpList_delete_ranges _ rfl _ _ 58 3 rfl 50 keyedI Try.underlying58 _ B r xs.length _ _ _ rfl HR2.out _ _ rfl (Maps.keyOf_int_mk Try.underlying3 HXW.out) ?_; intro w2 cnt2 hrg2 hle hturn; go_frame))
            rw [Maps.strike_twice] at hrg2
            have hgt := hturn.grown
            go_roundw
            case rel => exact ⟨_, cnt2, _, hrg2, HMd, World.ownsRow.kept HRR2.out hgt (.inr HRB.out), HB2.out.trans ⟨hgt.os, hgt.tape, hgt.output, hgt.size, fun q hq => hgt.block q (by have := HB2.out.size; omega) (fun q2 => by have := Option.some.inj q2; omega)⟩⟩
            case measure => rw [hrg2.left_eq, HLT.out.2]; have := HLT.out.1; omega
          · have HMk : Hid (MV xs (fun j => U j && ((left (.int .i64 (j : Int)) && !(Lit.int .i64 (j : Int)).sameKey (.int .i64 (i : Int))) || !decide (px xs j ≤ e))) D') := HMV.out.ext fun j hj => by
              by_cases q : j = i
              · subst q; simp [hp]
              · have hsk : (Lit.int .i64 (j : Int)).sameKey (.int .i64 (i : Int)) = false := Maps.sameKey_ne (fun z => q (int_key_inj z))
                simp [hsk]
            generalize px xs i = c at *
            generalize py xs i = d at *
            go_wp2_with fail
            go_roundw
            case rel => exact ⟨_, cnt1, D', HR2.out, HMk, HRR2, HB2⟩
            case measure => rw [HR2.out.left_eq, HLT.out.2]; exact HLT.out.1
    · intro hpass
      have HP := Lib.hid hpass
      clear hpass
      rcases h with h | ⟨b, off, rfl, hlt, hc⟩
      · exfalso; rw [h] at hl1; simp at hl1
      have HC := Lib.hid hc
      clear hc
      go_wp2_with (first | (go_at_call 36; refine HA.out.mono ?_; rintro e w0 ⟨rfl, hb0⟩))
      have HB0 : Hid (Below w.heap.size w (w0.alloc (.map #[] 0))) := hb0.alloc hb0.size _
      have hz0' := hb0.size
      have HO0 := Lib.hid (World.ownsMap_made w0 Try.prog 3 vE)
      clear hb0
      go_loopg [17] xs.length (fun k v17 wr => ∃ (j : Nat) (D : DataW Unit), v17 = .int .i64 (j : Int) ∧ j + k ≤ xs.length ∧ xs.length ≤ j + k ∧ Hid (wr.ownsMap Try.prog 3 vE w0.heap.size j D) ∧ Hid (MV xs (fun i => decide (i < j)) D) ∧ Hid (Below w.heap.size w wr))
      case atStart => exact ⟨0, .map [], rfl, by omega, by omega, HO0, MV.empty xs, HB0⟩
      case round =>
        obtain ⟨j, D, rfl, g1, g2, HMj, HVj, HBj⟩ := hrel
        have hszj := HBj.out.size
        by_cases hj : j < xs.length
        · have hcj : wr.cell? ⟨b, off + j * 2, none⟩ = some (.int .i64 (px xs j)) := by rw [(bcell HBj.out).1 b _ hlt]; exact (HC.out j hj).1
          have hck : wr.cell? ⟨b, off + j * 2 + 1, none⟩ = some (.int .i64 (py xs j)) := by rw [(bcell HBj.out).1 b _ hlt]; exact (HC.out j hj).2
          have hjI : (j : Int) < (xs.length : Int) := by omega
          have HM1 := Lib.hid (HMj.out.alloc (.cells #[.int .i64 (px xs j), .int .i64 (py xs j)] 50))
          have HB1 := Lib.hid (HBj.out.alloc hszj (.cells #[.int .i64 (px xs j), .int .i64 (py xs j)] 50))
          have HP1 := Lib.hid (HVj.out.put HMj.out.isMap hj)
          generalize px xs j = x at *
          generalize py xs j = y at *
          go_wp2_with (first | (at_mapUpdate; refine wpList_mapUpdate_own _ rfl _ _ _ 58 rfl 3 50 keyedI Try.underlying58 _ w0.heap.size j _ rfl HM1.out (by unfold maxLen; omega) _ _ (.int .i64 (j : Int)) rfl rfl (Maps.keyOf_int_mk Try.underlying3 (key_wf (by omega))) (vD x y) [] (vE_mk _ _) ?_; intro w3 hown3 hgrow3))
          go_roundg (gk - 1)
          case rel => exact ⟨j + 1, _, by go_num, by omega, by omega, hown3, HP1, HB1.out.grown hgrow3 (by simp; omega) (fun q hq => by have := Option.some.inj hq; omega)⟩
          case measure => omega
        · obtain rfl : j = xs.length := by omega
          have HVT : Hid (MV xs (fun _ => true) D) := HVj.out.ext fun i hi => by simp [hi]
          have hown0 : World.ownsRow (wr.alloc (.cells #[] 3)) (w0.heap.size + 1) 3 1 (.slice (some ⟨wr.heap.size, 0, none⟩) 0 0) 0 [] := World.ownsRow_lit wr #[] 0 (HMj.out.lt) (by decide) rfl
          have HR0 := Lib.hid hown0
          have HM0 := Lib.hid (HMj.out.alloc (.cells #[] 3))
          have HBn := Lib.hid (HBj.out.alloc hszj (.cells #[] 3))
          clear hown0
          go_wp2_with fail
          go_step3
          rename_i Kl al
          refine al _ _ ?_
          exact HP.out xs.length _ _ ⟨w0.heap.size, fun _ => true, [], some ⟨wr.heap.size, 0, none⟩, 0, D, _, _, _, _, _, _, _, _, _, _, _, _, _, _, _, _, _, _, _, _, _, _, _, _, _, _, _, _, _, _, _, _, _, _, _, _, _, _, _, _, _, _, _, _, _, rfl, hz0', fgN_le _ _, ⟨0, by omega, rfl⟩, rfl, HM0, HVT, HR0, HBn⟩
end Go.Proofs.Ytjfmmdblfhgelaa
