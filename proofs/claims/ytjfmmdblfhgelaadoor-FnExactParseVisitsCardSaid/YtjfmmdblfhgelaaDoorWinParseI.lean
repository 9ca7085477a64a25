/- ParseVisits of chapter 8: the program's, by contracts. -/
import Derived.Test.YtjfmmdblfhgelaaDoorWinTSpec
import Derived.Test.YtjfmmdblfhgelaaDoorTextOfV
import Derived.Test.YtjfmmdblfhgelaaDoorParseEnv
import Derived.Deep.RegionWith
namespace Go.Proofs.YtjfmmdblfhgelaaDoor
open Go.RowKit
set_option linter.unusedVariables false
set_option linter.unusedSimpArgs false
theorem cut_pl (s : ByteArray) (hs : s.size ≤ 1048576) (w : World) (E : Env w) :
    Calls Tryd.prog 44 #[.string s, .string ⟨#[43]⟩] w fun e w' => e = .returned (.tuple #[.string ⟨(Lib.cut s.data.toList [43]).1.toArray⟩, .string ⟨(Lib.cut s.data.toList [43]).2.1.toArray⟩, .bool (Lib.cut s.data.toList [43]).2.2]) ∧ Below w.heap.size w w' := by
  obtain ⟨m, hm⟩ := E.ml
  refine (Tryd.strings_Cut s ⟨#[43]⟩ m w (by omega) hm).mono ?_
  rintro e w' ⟨rfl, n, rfl⟩
  exact ⟨rfl, below_drewN (Below.refl _ _) _⟩
theorem cut_len (l : List UInt8) : (Lib.cut l [43]).1.length ≤ l.length ∧ (Lib.cut l [43]).2.1.length ≤ l.length := by
  unfold Lib.cut
  split
  · simp; omega
  · simp
/-- What parseVisit answers of a text. -/
def PRPost (s : ByteArray) (w : World) (e : Ending) (w' : World) : Prop :=
  ∃ (u d : Int) (ok : Bool), e = .returned (.tuple #[.agg #[.int .i64 u, .int .i64 d], .bool ok]) ∧ Below w.heap.size w w' ∧ ((ok = true ∧ Lib.atoiAll (Lib.cut s.data.toList [43]).1 = .ok u ∧ Lib.atoiAll (Lib.cut s.data.toList [43]).2.1 = .ok d) ∨ (ok = false ∧ ¬ ∃ u d, Lib.atoiAll (Lib.cut s.data.toList [43]).1 = .ok u ∧ Lib.atoiAll (Lib.cut s.data.toList [43]).2.1 = .ok d))
set_option maxHeartbeats 1000000 in
theorem parseVisit_any (s : ByteArray) (hs : s.size ≤ 1048576) (w : World) (E : Env w) :
    Calls Tryd.prog 24 #[.string s] w (PRPost s w) := by
  have hl := cut_len s.data.toList
  have e2 : s.size = s.data.toList.length := by simp
  have H := Lib.hid (fun w E => two_any s ⟨#[43]⟩ _ _ _ s.size hs (fun w E => cut_pl s hs w E) (by omega) (by omega) w E)
  clear hl e2
  have BA : Below w.heap.size w (w.alloc (.cells #[.int .i64 0, .int .i64 0] 37)) := (Below.refl _ _).alloc (Nat.le_refl _) _
  have EA := E.below BA
  go_enter Tryd.func24, Tryd.ntmps24
  go_wp2_with fail
  refine (H.out _ EA).mono ?_; rintro e w1 ⟨u, d, ok, rfl, hb, hv⟩
  have HV := Lib.hid hv
  have hcA := fun o => (bcell hb).1 w.heap.size o (by simp)
  have hfA := fun o => (bcell hb).2 w.heap.size o (by simp)
  have B1 := Lib.hid (BA.trans (hb.mono BA.size))
  have hs1 : w.heap.size < w1.heap.size := by have := hb.size; simp at this; omega
  clear hv H EA hb
  go_wp2_with fail
  refine bodyPost_ret (v := .tuple #[.agg #[.int .i64 u, .int .i64 d], .bool ok]) (by have e0 : (w1.cell? ⟨w.heap.size, 0, none⟩).isSome = true := (by rw [hcA]; go_simp); have e1 : (w1.cell? ⟨w.heap.size, 1, none⟩).isSome = true := (by rw [hcA]; go_simp); clear hcA hfA; simp [results, Tryd.results24, go_sem, e0, e1]) rfl ⟨u, d, ok, rfl, ?_, HV.out⟩
  repeat (first | exact B1.out | refine Below.setCell ?_ (by first | omega | (simp; done) | (simp; omega)) _ | refine Below.drew ?_)
theorem rdT_cellsOf {w : World} {b n : Nat} {ss : List ByteArray} {t : TypeId} {fr : Nat × Nat} (h : w.heap[b]? = some (.cells (Lib.cellsOf ss n) t fr)) : RdT w (some ⟨b, 0, none⟩) ss := by
  refine .inr ⟨b, 0, rfl, ?_, fun i hi => ?_⟩
  · rcases Nat.lt_or_ge b w.heap.size with q | q
    · exact q
    · rw [Array.getElem?_eq_none q] at h; cases h
  · rw [Nat.zero_add, cell_of_row w b i _ t fr h]
    unfold Lib.cellsOf
    simp [List.getElem?_append, hi, List.getD, List.getElem?_eq_getElem hi]
theorem splitK_len : ∀ (k : Nat) (l p : List UInt8), p ∈ Lib.splitK [44] 0 k l → p.length ≤ l.length
  | 0, l, p, h => by simp [Lib.splitK] at h; rw [h]; exact Nat.le_refl _
  | k + 1, l, p, h => by
    unfold Lib.splitK at h
    split at h
    · simp at h; rw [h]; exact Nat.le_refl _
    · rcases List.mem_cons.1 h with h | h
      · rw [h, List.length_take]; omega
      · have := splitK_len k _ p h
        rw [List.length_drop] at this; omega
set_option maxHeartbeats 4000000 in
set_option maxRecDepth 100000 in
theorem implParseList (t : ByteArray) (R : List (Int × Int)) (ok : Bool) (H : PHP t R ok) (ht : t.size ≤ 1048576) (w : World) (E : Env w) :
    Calls Tryd.prog 23 #[.string t, .string ⟨#[44]⟩, .int .i64 6, .func (.func 24) #[] #[], .func (.func 8) #[] #[]] w (RetRP w R ok) := by
  obtain ⟨i0, hi, hz0, hz1, hz2⟩ := info_parts pairInfoV
  obtain ⟨m, hm⟩ := E.ml
  have HS := Lib.hid (Tryd.strings_SplitN t ⟨#[44]⟩ 7 m w (by omega) hm (by decide) (by omega) (by omega))
  obtain ⟨ss, hss⟩ : ∃ ss, ss = Lib.splitB ⟨#[44]⟩ 0 (min 7 (t.size + 1) - 1) t := ⟨_, rfl⟩
  rw [← hss] at HS
  have hn7 : ss.length ≤ 7 := by
    have := Lib.splitB_length_le ⟨#[44]⟩ 0 (min 7 (t.size + 1) - 1) t
    rw [← hss] at this; omega
  have HSS := Lib.hid hss
  clear hss
  go_enter Tryd.func23, Tryd.ntmps23
  go_wp2_with fail
  refine HS.out.mono ?_; rintro e w1 ⟨rfl, hw1⟩
  have hB1 : Below w.heap.size w w1 := by rw [hw1]; exact (Below.refl _ _).alloc (Nat.le_refl _) _
  have hR1 : RdT w1 (some ⟨w.heap.size, 0, none⟩) ss := by
    refine rdT_cellsOf (n := min 7 (t.size + 1)) (t := 9) (fr := (0, 0)) ?_
    rw [hw1]; exact Array.getElem?_push_size
  have E1 := E.below hB1
  clear hw1
  obtain ⟨w3, hrun, hown0, hgr0⟩ := run_make_full (P := Tryd.prog) w1 w1.heap.size 26 37 i0 (.agg #[.int .i64 0, .int .i64 0]) 2 Tryd.underlying26 hi hz0 hz1 .i64 .i64 ss.length (by rw [hz2]; omega) (by unfold maxLen; omega) (Nat.le_refl _)
  have hbel0 : Below w1.heap.size w1 w3 := (Below.refl _ _).grown hgr0 (Nat.le_refl _) (fun k hk => by cases hk)
  obtain ⟨ys0, hy0⟩ : ∃ ys, ys = (madeCells (Value.agg #[.int .i64 0, .int .i64 0]).cells (ss.length * 2)).toList := ⟨_, rfl⟩
  rw [← hy0] at hown0
  clear hy0 hgr0
  have hnI : (ss.length : Int) ≤ 7 := by omega
  go_wp2_with fail
  clear hrun
  have HB1 := Lib.hid hB1
  have HR1 := Lib.hid hR1
  have HE1 := Lib.hid E1
  have HH := Lib.hid H
  have hpl : Hid (∀ j, j < ss.length → (ss.getD j ⟨#[]⟩).size ≤ t.size) := fun j hj => by
    have hm : (ss.getD j ⟨#[]⟩).data.toList ∈ Lib.splitK [44] 0 (min 7 (t.size + 1) - 1) t.data.toList := by
      have e := Lib.splitB_data ⟨#[44]⟩ 0 (min 7 (t.size + 1) - 1) t
      rw [← HSS.out] at e
      have e3 : (⟨#[44]⟩ : ByteArray).data.toList = [44] := rfl
      rw [e3] at e
      rw [← e, List.mem_map]
      exact ⟨ss.getD j ⟨#[]⟩, by rw [List.getD, List.getElem?_eq_getElem hj]; exact List.getElem_mem hj, rfl⟩
    have := splitK_len _ _ _ hm
    have e2 : (ss.getD j ⟨#[]⟩).size = (ss.getD j ⟨#[]⟩).data.toList.length := by simp
    have e3 : t.size = t.data.toList.length := by simp
    omega
  have HYS : Hid (∀ xs, YL t xs → ss = gts 43 xs) := fun xs y => by
    rw [HSS.out]
    have h1 := spl_countP 44 t.data.toList
    rw [y.spl, List.length_map, gts_length] at h1
    have e3 : t.size = t.data.toList.length := by simp
    have h2 := y.bd.2.1
    exact y.split _ (by omega)
  clear hB1 hR1 E1 H hm HS HSS
  go_loopg [28] ss.length (fun f v27 wr => ∃ (j : Nat) (ys : List Value) (out : List (Int × Int)), v27 = .int .i64 (j : Int) ∧ j + f ≤ ss.length ∧ ss.length ≤ j + f ∧ out.length = j ∧ wr.ownsRow w1.heap.size 37 2 (.slice (some ⟨w1.heap.size, 0, none⟩) ss.length ss.length) ss.length ys ∧ Hid (∀ i, i < j * 2 → ys[i]? = (cs2 out)[i]?) ∧ Hid (∀ xs, YL t xs → out = xs.take j) ∧ Below w1.heap.size w1 wr)
  case atStart => exact ⟨0, ys0, [], rfl, by omega, by omega, rfl, hown0, fun i hi => absurd hi (Nat.not_lt_zero _), fun xs _ => by simp, hbel0⟩
  case round =>
    clear hown0 hbel0
    obtain ⟨j, ys, out, rfl, h1, h2, hol, hown, hys, hY, hbel⟩ := hrel
    have hsz := hbel.size
    have hlen : ys.length = ss.length * 2 := hown.1
    by_cases hj : j < ss.length
    · obtain ⟨b, off, hab, hlt, hcj⟩ := rdT_atP (HR1.out.below hbel) hj
      cases hab
      rw [Nat.zero_add] at hcj
      have hjI : (j : Int) < (ss.length : Int) := by omega
      have hpj := hpl.out j hj
      have HP := Lib.hid (fun xs (y : YL t xs) => show ss.length = xs.length ∧ ss.getD j ⟨#[]⟩ = gtx 43 (px xs j) (py xs j) from by
        have e := HYS.out xs y
        have el : ss.length = xs.length := by rw [e, gts_length]
        have g := gts_get (c := 43) (xs := xs) (i := j) (x := ss.getD j ⟨#[]⟩) (by rw [← e, List.getD, List.getElem?_eq_getElem hj]; rfl)
        exact ⟨el, g.2⟩)
      generalize ss.getD j ⟨#[]⟩ = q at *
      have HQ := Lib.hid (parseVisit_any q (by omega) wr (HE1.out.below hbel))
      have HO := Lib.hid hown
      have HB := Lib.hid hbel
      clear hown hbel
      go_wp2_with fail
      refine HQ.out.mono ?_; rintro e w2 ⟨u, d, okk, rfl, hb2, hv⟩
      have hO2 := row_below HO.out hb2
      have hB2 := Lib.hid (HB.out.trans (hb2.mono hsz))
      have hz2 := hb2.size
      have hg2 := (hO2.lt w1.heap.size rfl).2
      clear HO HB HQ hb2
      rcases hv with ⟨rfl, hu, hd⟩ | ⟨rfl, hno⟩
      · have hY2 : Hid (∀ xs, YL t xs → out ++ [(u, d)] = xs.take (j + 1)) := fun xs y => by
          have hp := HP.out xs y
          have hb := y.bd.2.2 j (by omega)
          rw [hp.2, cut_gtxP (by omega) (by omega)] at hu hd
          simp only [] at hu hd
          rw [atoi_intP (by omega) (by omega)] at hu hd
          injection hu with hu
          injection hd with hd
          rw [hY.out xs y, take_succ_xy xs j (by omega), ← hu, ← hd]
        have hcy0 := hO2.cellAt (j * 2) (by omega)
        have hcy1 := hO2.cellAt (j * 2 + 1) (by omega)
        have hfy0 := hO2.frozenAt (j * 2)
        have hfy1 := hO2.frozenAt (j * 2 + 1)
        rw [List.getElem?_eq_getElem (by omega)] at hcy0 hcy1
        obtain ⟨st1, _⟩ := hO2.stored (j * 2) (.int .i64 u)
        obtain ⟨st2, _⟩ := st1.stored (j * 2 + 1) (.int .i64 d)
        have HST := Lib.hid (st2.alloc (.cells #[.int .i64 u, .int .i64 d] 37))
        have hz1 : w1.heap.size ≤ w2.heap.size := by omega
        have hys2 : Hid (∀ i, i < (j + 1) * 2 → ((ys.set (j * 2) (.int .i64 u)).set (j * 2 + 1) (.int .i64 d))[i]? = (cs2 (out ++ [(u, d)]))[i]?) := by
          intro i hi
          have hc : (cs2 out).length = j * 2 := by rw [cs2_length, hol]
          rw [cs2_snocP]
          by_cases q1 : i = j * 2 + 1
          · subst q1; rw [List.getElem?_set_self (by rw [List.length_set]; omega), List.getElem?_append_right (by omega), hc]; simp
          · rw [List.getElem?_set_ne (by omega)]
            by_cases q2 : i = j * 2
            · subst q2; rw [List.getElem?_set_self (by omega), List.getElem?_append_right (by omega), hc]; simp
            · rw [List.getElem?_set_ne (by omega), List.getElem?_append_left (by omega)]; exact hys.out i (by omega)
        have hlo : (out ++ [(u, d)]).length = j + 1 := by simp [hol]
        clear hu hd HP hO2 st1 st2 hys hY
        go_wp2_with fail
        go_roundg (gk - 1)
        case rel => exact ⟨j + 1, _, out ++ [(u, d)], by go_num, by omega, by omega, hlo, HST.out, hys2, hY2, ((hB2.out.setCell (Nat.le_refl _) _).setCell (Nat.le_refl _) _).alloc (by simp; omega) _⟩
        case measure => omega
      · obtain ⟨rfl, rfl⟩ := HH.out.no fun y => hno (by
          have hp := HP.out R y
          have hb := y.bd.2.2 j (by omega)
          rw [hp.2, cut_gtxP (by omega) (by omega)]
          exact ⟨_, _, atoi_intP (by omega) (by omega), atoi_intP (by omega) (by omega)⟩)
        clear hno HP hO2
        go_wp2_with fail
        go_ret2
        exact retR_noneP ((HB1.out.trans (hB2.out.mono HB1.out.size)).alloc (by have := HB1.out.size; omega) _) rfl
    · have e : j = ss.length := by omega
      have hyx : ys = cs2 out := by
        apply List.ext_getElem?
        intro i
        by_cases q : i < ss.length * 2
        · exact hys.out i (by omega)
        · rw [List.getElem?_eq_none (by omega), List.getElem?_eq_none (by rw [cs2_length]; omega)]
      subst hyx
      have hfull : ∀ xs, YL t xs → out = xs := fun xs y => by
        have el : ss.length = xs.length := by rw [HYS.out xs y, gts_length]
        rw [hY.out xs y, e, el, List.take_length]
      have HF := Lib.hid hfull
      subst e
      have hRo : RdP wr (some ⟨w1.heap.size, 0, none⟩) out := rowP_rd hol hown
      obtain ⟨tb, htb⟩ : ∃ tb, (viS out && decide (vijx out = t)) = tb := ⟨_, rfl⟩
      have HT := Lib.hid (isTextV t (some ⟨w1.heap.size, 0, none⟩) ss.length out tb htb wr hRo (by omega) (HE1.out.below hbel).tab)
      rw [hol] at HT
      have HO := Lib.hid hown
      have HB := Lib.hid (HB1.out.trans (hbel.mono HB1.out.size))
      have hsw := HB.out.size
      clear hown hbel hRo hfull hys hY
      cases tb
      · obtain ⟨rfl, rfl⟩ := HH.out.no fun y => by
          have e := HF.out R y
          rw [e] at htb
          have h1 : viS R = true := y.1
          have h2 : vijx R = t := by unfold vijx; rw [h1]; exact y.2
          rw [h1, h2] at htb; simp at htb
        clear htb
        go_wp2_with fail
        refine HT.out.mono ?_; rintro e w5 ⟨rfl, hb5⟩
        go_wp2_with fail
        all_goals try (go_quiet (fail); go_wp2_with fail)
        all_goals (go_ret2; exact retR_noneP (HB.out.trans ((by first | exact hb5 | exact below_drewN hb5 _ | exact hb5.drew : Below wr.heap.size wr _).mono hsw)) rfl)
      · have hrq := Bool.and_eq_true_iff.1 htb
        have hr := hrq.1
        have hq := of_decide_eq_true hrq.2
        have hjx : vijx out = gjt 43 out out.length := by unfold vijx; rw [hr]; rfl
        have hy : YL t out := ⟨hr, by rw [← hjx]; exact hq⟩
        have hRo : R = out ∧ ok = true := by
          rcases HH.out with ⟨y, k⟩ | ⟨n, _⟩
          · exact ⟨(HF.out R y).symm, k⟩
          · exact absurd hy (n out)
        obtain ⟨rfl, rfl⟩ := hRo
        clear hr hy hjx hrq hq htb
        go_wp2_with fail
        refine HT.out.mono ?_; rintro e w5 ⟨rfl, hb5⟩
        have hO5 := row_below HO.out hb5
        go_wp2_with fail
        go_ret2
        refine ⟨some ⟨w1.heap.size, 0, none⟩, ss.length, by rw [hol]; rfl, ?_, HB.out.trans (hb5.mono hsw)⟩
        unfold OwnV
        rw [hol]
        exact row_baseRP hO5 HB1.out.size
end Go.Proofs.YtjfmmdblfhgelaaDoor
