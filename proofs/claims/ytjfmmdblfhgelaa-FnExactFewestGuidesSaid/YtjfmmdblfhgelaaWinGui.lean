/- FewestGuides (chapter 8), the model's way by contracts. -/
import Derived.Test.YtjfmmdblfhgelaaWinGuMath
import Derived.Test.YtjfmmdblfhgelaaWinPairs
import Derived.WalkKit
import Derived.WalkSpells
import Derived.WalkLawsBesides
import Derived.Lib.Hide
import Derived.Deep.LoopGhost
import Derived.Deep.QuietTactic
import Derived.Deep.RegionHeld3
import Derived.BigQuiet
namespace Go.Proofs.Ytjfmmdblfhgelaa
open Go.RowKit
set_option linter.unusedVariables false
set_option linter.unusedSimpArgs false
/-- who is served, as the row of bools has it -/
def svV (U : Nat → Bool) (n : Nat) : List Value := (List.range n).map fun i => Value.bool (!U i)
theorem svV_len (U : Nat → Bool) (n : Nat) : (svV U n).length = n := by simp [svV]
theorem svV_get {U : Nat → Bool} {n i : Nat} (h : i < n) : (svV U n)[i]? = some (.bool (!U i)) := by simp [svV, h]
theorem svV_ext {U V : Nat → Bool} {n : Nat} (h : ∀ i, i < n → U i = V i) : svV U n = svV V n := by
  unfold svV
  apply List.map_congr_left
  intro i hi
  rw [h i (List.mem_range.1 hi)]
theorem svV_set {U : Nat → Bool} {n i : Nat} (h : i < n) : (svV U n).set i (.bool true) = svV (fun j => U j && !decide (j = i)) n := by
  apply List.ext_getElem?
  intro j
  by_cases q : j = i
  · subst q
    rw [List.getElem?_set_self (by rw [svV_len]; exact h), svV_get h]; simp
  · rw [List.getElem?_set_ne (fun e => q e.symm)]
    by_cases z : j < n
    · rw [svV_get z, svV_get z]; simp [q]
    · rw [List.getElem?_eq_none (by rw [svV_len]; omega), List.getElem?_eq_none (by rw [svV_len]; omega)]
theorem svV_made (n : Nat) : (madeCells (Value.bool false).cells (n * 1)).toList = svV (fun _ => true) n := by
  simp [madeCells, svV, Value.cells, List.range_eq_range', Array.toList_range]
  intro a _
  rw [Nat.mod_one]
  rfl
theorem thL_mem {xs : List (Int × Int)} {t : Int} : ∀ {n : Nat} {z : Int}, z ∈ thL xs t n → ∃ i : Nat, i < n ∧ z = (i : Int) ∧ thB xs t i = true
  | 0, z, h => by simp [thL] at h
  | n + 1, z, h => by
    simp only [thL] at h
    split at h
    · rename_i q
      rw [List.mem_append] at h
      rcases h with h | h
      · obtain ⟨i, a, b, c⟩ := thL_mem h; exact ⟨i, by omega, b, c⟩
      · simp at h; exact ⟨n, by omega, h, q⟩
    · obtain ⟨i, a, b, c⟩ := thL_mem h; exact ⟨i, by omega, b, c⟩
theorem thL_has {xs : List (Int × Int)} {t : Int} : ∀ {n i : Nat}, i < n → thB xs t i = true → (i : Int) ∈ thL xs t n
  | 0, i, h, _ => absurd h (Nat.not_lt_zero _)
  | n + 1, i, h, q => by
    simp only [thL]
    by_cases e : i = n
    · subst e; rw [if_pos q]; simp
    · have := thL_has (xs := xs) (t := t) (n := n) (i := i) (by omega) q
      split
      · exact List.mem_append_left _ this
      · exact this
theorem thL_fgU {xs : List (Int × Int)} {U : Nat → Bool} {e : Int} {i : Nat} (h : i < xs.length) : (U i && !decide ((i : Int) ∈ thL xs e xs.length)) = fgU xs U e i := by
  unfold fgU
  have : decide ((i : Int) ∈ thL xs e xs.length) = thB xs e i := by
    rw [Bool.eq_iff_iff, decide_eq_true_iff]
    constructor
    · intro q
      obtain ⟨j, a, b, c⟩ := thL_mem q
      have : i = j := by omega
      subst this; exact c
    · exact thL_has h
  rw [this]
theorem int_ne_bool : 3 ≠ 4 := by decide
theorem boolInfo : (Try.prog.info? 4).map (fun i => (i.zero, i.size, i.bytes)) = some (some (.bool false), 1, 1) := by kernel_rfl
set_option maxHeartbeats 16000000 in
set_option maxRecDepth 100000 in
theorem specFewestGuides (a : Option Addr) (cap : Nat) (xs : List (Int × Int)) (w : World) (h : RdP w a xs) (hn : xs.length ≤ 1048576) :
    Calls Try.prog 27 #[.slice a xs.length cap] w (RetS w (fgL xs) (viS xs)) := by
  cases hs : viS xs
  · have H1 := Lib.hid hs
    have HL := Lib.hid (show fgL xs = [] by simp [fgL, hs])
    clear hs
    go_enter Try.func27, Try.ntmps27
    go_wp2_with (first | (go_at_call 32; refine (wiGood_any a cap xs _ h hn).mono ?_; rw [H1.out]; rintro e w0 ⟨rfl, hb0⟩))
    go_ret2
    rw [HL.out]
    exact ⟨none, 0, rfl, ⟨rfl, .inl ⟨rfl, rfl⟩⟩, hb0⟩
  · obtain ⟨i0, hi, hz0, hz1, hz2⟩ := info_parts intInfo
    obtain ⟨i1, hi1, hz10, hz11, hz12⟩ := info_parts boolInfo
    have H1 := Lib.hid hs
    have t := viS_at hs
    have HV : Hid (okV xs) := t.2.2
    have hl := t.2.1
    have hl1 := t.1
    have hnI : (xs.length : Int) ≤ 6 := by omega
    have HL := Lib.hid (show fgL xs = fgR xs xs.length (fun _ => true) by simp [fgL, hs])
    clear hs t
    go_enter Try.func27, Try.ntmps27
    go_wp2_with fail
    refine (wiGood_any a cap xs _ h hn).mono ?_; rw [H1.out]; rintro e w0 ⟨rfl, hb0⟩
    obtain ⟨w2, hrun, hown0, hgr0⟩ := run_make_full (P := Try.prog) w0 w0.heap.size 57 4 i1 (.bool false) 1 Try.underlying57 hi1 hz10 hz11 .i64 .i64 xs.length (by rw [hz12]; omega) (by unfold maxLen; omega) (Nat.le_refl _)
    have HB2 : Hid (Below w.heap.size w w2) := hb0.trans (((Below.refl _ _).grown hgr0 (Nat.le_refl _) (fun k hk => by cases hk)).mono hb0.size)
    rw [svV_made] at hown0
    have hS0 := hb0.size
    clear hgr0 hb0
    go_wp2_with fail
    clear hrun
    obtain ⟨S, hS⟩ : ∃ S, S = w0.heap.size := ⟨_, rfl⟩
    rw [← hS] at hown0 hS0 ⊢
    clear hS
    have HS2 := Lib.hid hown0
    clear hown0
    go_loopg [4] (xs.length + 1) (fun k v4 wr => ∃ (U : Nat → Bool) (out : List Int) (ao : Option Addr) (co : Nat), v4 = .slice ao out.length co ∧ Hid (fgN U xs.length < k) ∧ Hid (out ++ fgR xs (k - 1) U = fgR xs xs.length (fun _ => true)) ∧ Hid (wr.ownsRow S 4 1 (.slice (some ⟨S, 0, none⟩) xs.length xs.length) xs.length (svV U xs.length)) ∧ Hid (wr.ownsRow w.heap.size 3 1 (.slice ao out.length co) out.length (out.map (Value.int .i64))) ∧ Hid (Below w.heap.size w wr))
    case atStart => exact ⟨fun _ => true, [], none, 0, rfl, Nat.lt_succ_of_le (fgN_le _ _), rfl, HS2, World.ownsRow_nil _ _ _ _, HB2⟩
    case round =>
      obtain ⟨U, out, ao, co, rfl, HK, HO, HSr, HR, HB⟩ := hrel
      obtain ⟨G, hG⟩ : ∃ G, G = gk - 1 := ⟨_, rfl⟩
      have hgk : gk = G + 1 := by have := HK.out; omega
      have HK2 := Lib.hid (show fgN U xs.length ≤ G by have := HK.out; omega)
      rw [← hG] at HO
      subst hgk
      clear hG HK
      have hol : out.length ≤ 6 := by
        have e := congrArg List.length HO.out
        rw [List.length_append] at e
        have := fgR_len xs xs.length (fun _ => true)
        omega
      go_wp2_with fail
      go_loopg [6, 19] xs.length (fun k v6 v19 wq => ∃ (j : Nat) (f : Int), v6 = .int .i64 f ∧ v19 = .int .i64 (j : Int) ∧ j + k ≤ xs.length ∧ xs.length ≤ j + k ∧ Hid (fgE xs U j = f) ∧ Hid (wq.ownsRow S 4 1 (.slice (some ⟨S, 0, none⟩) xs.length xs.length) xs.length (svV U xs.length)) ∧ Hid (wq.ownsRow w.heap.size 3 1 (.slice ao out.length co) out.length (out.map (Value.int .i64))) ∧ Hid (Below w.heap.size w wq))
      case atStart => exact ⟨0, -1, rfl, rfl, by omega, by omega, rfl, HSr, HR, HB⟩
      case round =>
        clear HSr HR HB
        obtain ⟨j, f, rfl, rfl, g1, g2, HF, HSq, HRq, HBq⟩ := hrel
        have hszq := HBq.out.size
        by_cases hj : j < xs.length
        · have hhw := h.below HBq.out
          rcases hhw with h' | ⟨b, off, rfl, hlt, hc⟩
          · rw [h'] at hj; exact absurd hj (Nat.not_lt_zero _)
          have hcj := (hc j hj).1
          have hck := (hc j hj).2
          clear hc
          have hjI : (j : Int) < (xs.length : Int) := by omega
          have bt := viOk_iff.1 (HV.out j hj)
          have bf := fgE_spec (U := U) HV.out j (by omega)
          have bf1 := bf.1
          have bf2 := bf.2.1
          rw [HF.out] at bf1 bf2
          clear bf
          have HFN := Lib.hid (show fgE xs U (j + 1) = if U j = true ∧ (f < 0 ∨ px xs j + py xs j < f) then px xs j + py xs j else f by rw [← HF.out]; rfl)
          have hsc : wr.cell? ⟨S, j, none⟩ = some (.bool (!U j)) := by rw [World.ownsRow.cellAt HSq.out j (by omega), svV_get hj]
          have hSlt := (World.ownsRow.lt HSq.out S rfl).2
          have HS1 := Lib.hid (HSq.out.alloc (.cells #[.int .i64 (px xs j), .int .i64 (py xs j)] 50))
          have HR1 := Lib.hid (HRq.out.alloc (.cells #[.int .i64 (px xs j), .int .i64 (py xs j)] 50))
          have HB1 := Lib.hid (HBq.out.alloc hszq (.cells #[.int .i64 (px xs j), .int .i64 (py xs j)] 50))
          clear HF
          generalize px xs j = x at *
          generalize py xs j = y at *
          cases hu : U j
          · rw [hu] at hsc HFN
            have HF2 := Lib.hid (HFN.out.trans (if_neg (by simp)))
            simp only [Bool.not_false] at hsc
            clear hu HFN
            go_wp2_with fail
            all_goals (try (go_quiet (fail); go_wp2_with fail))
            go_roundg (gk - 1)
            case rel => exact ⟨j + 1, f, by go_num, by go_num, by omega, by omega, HF2, HS1, HR1, HB1⟩
            case measure => omega
          · rw [hu] at hsc HFN
            simp only [Bool.not_true] at hsc
            clear hu
            by_cases hf : f < 0
            · have HF2 := Lib.hid (HFN.out.trans (if_pos ⟨rfl, .inl hf⟩))
              clear HFN
              go_wp2_with fail
              all_goals (try (go_quiet (fail); go_wp2_with fail))
              go_roundg (gk - 1)
              case rel => exact ⟨j + 1, _, by go_num, by go_num, by omega, by omega, HF2, HS1, HR1, HB1⟩
              case measure => omega
            · by_cases hf2 : x + y < f
              · have HF2 := Lib.hid (HFN.out.trans (if_pos ⟨rfl, .inr hf2⟩))
                clear HFN
                go_wp2_with fail
                all_goals (try (go_quiet (fail); go_wp2_with fail))
                go_roundg (gk - 1)
                case rel => exact ⟨j + 1, _, by go_num, by go_num, by omega, by omega, HF2, HS1, HR1, HB1⟩
                case measure => omega
              · have HF2 := Lib.hid (HFN.out.trans (if_neg (by omega)))
                clear HFN
                go_wp2_with fail
                all_goals (try (go_quiet (fail); go_wp2_with fail))
                go_roundg (gk - 1)
                case rel => exact ⟨j + 1, _, by go_num, by go_num, by omega, by omega, HF2, HS1, HR1, HB1⟩
                case measure => omega
        · obtain rfl : j = xs.length := by omega
          have HF2 := Lib.hid HF.out
          obtain ⟨hr1, hr2⟩ := fg_round HV.out HK2.out
          by_cases hneg : f < 0
          · have hfin : fgL xs = out := by rw [HL.out, ← HO.out, hr1 (by rw [HF2.out]; exact hneg)]; simp
            have HFIN := Lib.hid hfin
            clear hr1 hr2 hfin
            go_wp2_with fail
            go_ret2
            rw [HFIN.out]
            refine ⟨ao, co, rfl, ?_, HBq.out⟩
            have := HRq.out
            unfold Own
            exact this
          · have hr3 := hr2 (by rw [HF2.out]; omega)
            rw [HF2.out] at hr3
            obtain ⟨m, hkm, hrec, hN2⟩ := hr3
            have bf2 := (fgE_spec (U := U) HV.out xs.length (Nat.le_refl _)).2.1
            rw [HF2.out] at bf2
            have HREC := Lib.hid hrec
            have HN2 := Lib.hid hN2
            have HKM := Lib.hid hkm
            have HTH := Lib.hid (fun w h => wiThere_any f a cap xs w h hl HV.out)
            have hle := thL_len xs f xs.length
            have HMEM := Lib.hid (fun z (hz : z ∈ thL xs f xs.length) => thL_mem hz)
            have HFU := Lib.hid (fun i (hi : i < xs.length) => thL_fgU (xs := xs) (U := U) (e := f) hi)
            clear hr1 hr2 hrec hN2 hkm HF HF2
            generalize hLg : thL xs f xs.length = L at *
            clear hLg
            go_wp2_with (first | ((at_builtin; refine wpList_append_own _ rfl _ _ 24 rfl w.heap.size 3 i0 (.int .i64 0) 1 8 Try.underlying24 hi hz0 hz1 hz2 rfl (by decide) _ _ _ rfl (HRq.out.alloc _) ⟨wr.heap.size, 0, none⟩ 1 1 [.int .i64 f] rfl rfl (cell_one_new _ _ _) (fun u hu => by simp at hu; subst hu; rfl) (by unfold maxLen; omega) (by omega) (by simp; omega) ?_; intro v1 w3 hown1 hgrow hx; clear hx; have hO3 := Lib.hid hown1; have HG3 := Lib.hid hgrow; clear hown1 hgrow); have HB3 := Lib.hid ((HBq.out.alloc hszq (.cells #[.int .i64 f] 3)).grown HG3.out (by simp; omega) (fun k hk => (HRq.out.lt k hk).1)); have HS3 := Lib.hid (World.ownsRow.kept (HSq.out.alloc (.cells #[.int .i64 f] 3)) HG3.out (own_neX (HSq.out.alloc (.cells #[.int .i64 f] 3)) (HRq.out.alloc (.cells #[.int .i64 f] 3)) (fun e => int_ne_bool e.symm)))) | (go_at_call 34; refine (HTH.out _ (h.below HB3.out)).mono ?_; rintro e w4 ⟨aL, cL, rfl, hOL, hb4⟩; have HS4 := Lib.hid (row_below HS3.out hb4); have HO4 := Lib.hid (row_below hO3.out hb4); have HB4 := Lib.hid (HB3.out.trans (hb4.mono HB3.out.size)); have HOL := Lib.hid hOL; have hz34 := HB3.out.size; clear hOL hb4))
            have hO5 := HO4.out
            obtain ⟨a3, c3, rfl⟩ := ownV_form hO5
            clear hO5 hO3 HS3 HB3 HG3 HSq HRq HBq HTH
            go_loopg [59] L.length (fun k v59 wq => ∃ (t : Nat), v59 = .int .i64 (t : Int) ∧ t + k ≤ L.length ∧ L.length ≤ t + k ∧ Hid (wq.ownsRow S 4 1 (.slice (some ⟨S, 0, none⟩) xs.length xs.length) xs.length (svV (fun i => U i && !decide ((i : Int) ∈ L.take t)) xs.length)) ∧ Hid (Own wq w3.heap.size aL cL L) ∧ Hid (wq.ownsRow w.heap.size 3 1 (.slice a3 (out.length + 1) c3) (out.length + 1) (out.map (Value.int .i64) ++ [.int .i64 f])) ∧ Hid (Below w.heap.size w wq))
            case atStart => exact ⟨0, rfl, by omega, by omega, by unfold Hid; rw [svV_ext (V := U) (fun i _ => by simp)]; exact HS4.out, HOL, HO4, HB4⟩
            case round =>
              clear HS4 HOL HO4 HB4
              obtain ⟨t, rfl, p1, p2, HSt, HOt, HRt, HBt⟩ := hrel
              have hszt := HBt.out.size
              by_cases ht : t < L.length
              · have htI : (t : Int) < (L.length : Int) := by omega
                obtain ⟨i, hi', hz, _⟩ := HMEM.out _ (List.getElem_mem ht)
                have hgt : L.getD t 0 = (i : Int) := by rw [List.getD, List.getElem?_eq_getElem ht]; simpa using hz
                rcases HOt.out.rd with q | ⟨bL, oL, rfl, hltL, hcL⟩
                · rw [q] at ht; exact absurd ht (Nat.not_lt_zero _)
                have hcl := hcL t ht
                rw [hgt] at hcl
                have hiI : (i : Int) < (xs.length : Int) := by omega
                have hSlt := (World.ownsRow.lt HSt.out S rfl).2
                have hsc := World.ownsRow.cellAt HSt.out i (by omega)
                rw [svV_get hi'] at hsc
                have hsf := World.ownsRow.frozenAt HSt.out i
                have hst := World.ownsRow.stored HSt.out i (.bool true)
                rw [svV_set hi'] at hst
                have hOL2 := HOt.out
                unfold Own at hOL2
                have HOn := Lib.hid (World.ownsRow.kept hOL2 hst.2 (own_neX hOL2 HSt.out int_ne_bool))
                have HRn := Lib.hid (World.ownsRow.kept HRt.out hst.2 (own_neX HRt.out HSt.out int_ne_bool))
                have HBn : Hid (Below w.heap.size w (wr.setCell ⟨S, i, none⟩ (.bool true))) := HBt.out.setCell hS0 _
                have HSn := Lib.hid hst.1
                have HEX := Lib.hid (show ∀ j, j < xs.length → (((U j && !decide ((j : Int) ∈ L.take t)) && !decide (j = i)) = (U j && !decide ((j : Int) ∈ L.take (t + 1)))) from fun j hj2 => by
                  rw [List.take_add_one, List.getElem?_eq_getElem ht]
                  have : L[t] = (i : Int) := hz
                  rw [this]
                  by_cases q : j = i
                  · subst q; simp
                  · have q2 : ¬ ((j : Int) = (i : Int)) := by omega
                    simp [q, q2])
                clear hcL hst hOL2 hgt hz
                go_wp2_with fail
                go_roundg (gk - 1)
                case rel => exact ⟨t + 1, by go_num, by omega, by omega, by unfold Hid; rw [← svV_ext HEX.out]; exact HSn.out, HOn.out, HRn, HBn⟩
                case measure => omega
              · obtain rfl : t = L.length := by omega
                have HSf : Hid (wr.ownsRow S 4 1 (.slice (some ⟨S, 0, none⟩) xs.length xs.length) xs.length (svV (fgU xs U f) xs.length)) := by
                  have := HSt.out
                  rw [svV_ext (V := fgU xs U f) (fun i hi => by rw [List.take_length]; exact HFU.out i hi)] at this
                  exact this
                have HO2 := Lib.hid (show (out ++ [f]) ++ fgR xs m (fgU xs U f) = fgR xs xs.length (fun _ => true) by rw [← HO.out, HREC.out]; simp)
                clear HO
                go_wp2_with fail
                go_roundg G
                case rel => exact ⟨fgU xs U f, out ++ [f], a3, c3, by simp, by have := HN2.out; have := HKM.out; unfold Hid; omega, by unfold Hid; rw [HKM.out]; exact HO2.out, HSf, by have := HRt.out; unfold Hid; simpa using this, HBt⟩
                case measure => omega
end Go.Proofs.Ytjfmmdblfhgelaa
