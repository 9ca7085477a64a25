/- ParseLine of chapter 7: the program's, by contracts. -/
import Derived.Test.YtjcapaoafkgkaaaDoorBusPS
import Derived.Test.YtjcapaoafkgkaaaDoorParseEnv
import Derived.Deep.RegionWith
namespace Go.Proofs.YtjcapaoafkgkaaaDoor
open Go.RowKit
set_option linter.unusedVariables false
set_option linter.unusedSimpArgs false
theorem size_mkB (l : List UInt8) : (⟨l.toArray⟩ : ByteArray).size = l.length := by simp [ByteArray.size]
theorem cut_lenB (c : UInt8) (l : List UInt8) : (Lib.cut l [c]).1.length ≤ l.length ∧ (Lib.cut l [c]).2.1.length ≤ l.length := by
  unfold Lib.cut
  split
  · simp; omega
  · simp
theorem rdT_cellsOfB {w : World} {b n : Nat} {ss : List ByteArray} {t : TypeId} {fr : Nat × Nat} (h : w.heap[b]? = some (.cells (Lib.cellsOf ss n) t fr)) : RdT w (some ⟨b, 0, none⟩) ss := by
  refine .inr ⟨b, 0, rfl, ?_, fun i hi => ?_⟩
  · rcases Nat.lt_or_ge b w.heap.size with q | q
    · exact q
    · rw [Array.getElem?_eq_none q] at h; cases h
  · rw [Nat.zero_add, cell_of_row w b i _ t fr h]
    unfold Lib.cellsOf
    simp [List.getElem?_append, hi, List.getD, List.getElem?_eq_getElem hi]
theorem splitK_lenB : ∀ (k : Nat) (l p : List UInt8), p ∈ Lib.splitK [44] 0 k l → p.length ≤ l.length
  | 0, l, p, h => by simp [Lib.splitK] at h; rw [h]; exact Nat.le_refl _
  | k + 1, l, p, h => by
    unfold Lib.splitK at h
    split at h
    · simp at h; rw [h]; exact Nat.le_refl _
    · rcases List.mem_cons.1 h with h | h
      · rw [h, List.length_take]; omega
      · have := splitK_lenB k _ p h
        rw [List.length_drop] at this; omega
/-- stops with the text t -/
def YS (t : ByteArray) (xs : List Int) : Prop := stP xs = true ∧ stj ⟨#[]⟩ xs xs.length = t
theorem YS.bd {t : ByteArray} {xs : List Int} (h : YS t xs) : bdS xs ∧ xs.length ≤ 12 ∧ 2 ≤ xs.length ∧ ∀ i, i < xs.length → 0 ≤ xs.getD i 0 ∧ xs.getD i 0 ≤ 500 := by
  have q := h.1
  have b := stP_bd q
  rw [st_eq] at q
  unfold stB at q
  simp only [Bool.and_eq_true, inB_iff, rsK_iff] at q
  exact ⟨b.1, b.2, by omega, q.2.1⟩
theorem YS.list {t : ByteArray} {xs : List Int} (h : YS t xs) : t.data.toList = jnB ((sts xs).map (·.data.toList)) := by rw [← h.2]; exact stj_jnB
theorem YS.spl {t : ByteArray} {xs : List Int} (h : YS t xs) : spl 44 t.data.toList = (sts xs).map (·.data.toList) := by
  rw [h.list]; exact spl_jnB _ (sts_neB (by have := h.bd; omega)) (sts_freeB h.bd.1 (by decide))
theorem YS.split {t : ByteArray} {xs : List Int} (h : YS t xs) (k : Nat) (hk : xs.length ≤ k + 1) : Lib.splitB ⟨#[44]⟩ 0 k t = sts xs := by
  apply ba_extB
  rw [Lib.splitB_data, h.list]
  exact splitK_jnB _ k (sts_neB (by have := h.bd; omega)) (sts_freeB h.bd.1 (by decide)) (by rw [List.length_map, sts_length]; exact hk)
set_option maxHeartbeats 2000000 in
theorem parseNumber_any (s : ByteArray) (hs : s.size ≤ 1048576) (w : World) (E : Env w) :
    Calls Tryd.prog 39 #[.string s] w fun e w' => ∃ (v : Int) (k : Bool), e = .returned (.tuple #[.int .i64 v, .bool k]) ∧ Below w.heap.size w w' ∧ ((k = true ∧ Lib.atoiAll s.data.toList = .ok v) ∨ (k = false ∧ ∀ v, Lib.atoiAll s.data.toList ≠ .ok v)) := by
  go_enter Tryd.func39, Tryd.ntmps39
  go_wp2_with fail
  refine (atoi_any s hs _ E).mono ?_; rintro e w1 ⟨v, ev, rfl, hb1, hv⟩
  have B1 := Lib.hid hb1
  clear hb1
  rcases hv with ⟨rfl, hu⟩ | ⟨⟨tp, p, rfl⟩, hu⟩
  all_goals
    have HU := Lib.hid hu
    clear hu
    go_wp2_with fail
    try (go_quiet (fail); go_wp2_with fail)
    go_ret2
  · exact ⟨_, true, rfl, by first | exact below_drewN B1.out _ | exact B1.out, .inl ⟨rfl, HU.out⟩⟩
  · exact ⟨_, false, rfl, by first | exact below_drewN B1.out _ | exact B1.out, .inr ⟨rfl, HU.out⟩⟩
set_option maxHeartbeats 2000000 in
theorem isTextS (t : ByteArray) (a : Option Addr) (cap : Nat) (xs : List Int) (b : Bool) (hb : (stP xs && decide (sttx xs = t)) = b) (w : World) (h : Rd w a xs) (hx : xs.length ≤ 1048576) (ht : Lib.TabIs Tryd.prog w "internal/strconv.uint64pow10" .u64 Lib.pow10Tab) :
    Calls Tryd.prog 47 #[.string t, .slice a xs.length cap, .func (.func 19) #[] #[]] w fun e w' => e = .returned (.bool b) ∧ Below w.heap.size w w' := by
  have hq1 := bytes_beqB (sttx xs) t
  cases ho : stP xs
  · rw [ho] at hb
    simp only [Bool.false_and] at hb
    subst hb
    have H := Lib.hid (stopsText_any a cap xs _ h hx ht)
    rw [ho] at H
    generalize sttx xs = X at *
    clear hq1
    go_enter Tryd.func47, Tryd.ntmps47
    go_wp2_with fail
    refine H.out.mono ?_; rintro e w1 ⟨rfl, hb1⟩
    have B1 := Lib.hid hb1
    clear hb1
    go_wp2_with fail
    go_ret
    exact ⟨rfl, B1.out⟩
  · rw [ho] at hb
    simp only [Bool.true_and] at hb
    rw [hb] at hq1
    have H := Lib.hid (stopsText_any a cap xs _ h hx ht)
    rw [ho] at H
    generalize sttx xs = X at *
    clear hb
    cases b
    all_goals
      go_enter Tryd.func47, Tryd.ntmps47
      go_wp2_with fail
      refine H.out.mono ?_; rintro e w1 ⟨rfl, hb1⟩
      have B1 := Lib.hid hb1
      clear hb1
      go_wp2_with fail
      go_ret
      exact ⟨rfl, B1.out⟩
set_option maxHeartbeats 2000000 in
theorem isTextL (t : ByteArray) (f e c : Int) (a : Option Addr) (cap : Nat) (xs : List Int) (b : Bool) (hb : (lnB f e c xs && decide (lntx f e c xs = t)) = b) (w : World) (h : Rd w a xs) (hx : xs.length ≤ 1048576) (ht : Lib.TabIs Tryd.prog w "internal/strconv.uint64pow10" .u64 Lib.pow10Tab) :
    Calls Tryd.prog 37 #[.string t, .agg #[.int .i64 f, .int .i64 e, .int .i64 c, .slice a xs.length cap], .func (.func 8) #[] #[]] w fun r w' => r = .returned (.bool b) ∧ Below w.heap.size w w' := by
  have W0 : Below w.heap.size w (w.alloc (.cells #[.int .i64 f, .int .i64 e, .int .i64 c, .slice a xs.length cap] 28)) := (Below.refl _ _).alloc (Nat.le_refl _) _
  have HT := tab_below pow10G (tab_lt pow10G ht) ht W0
  have hq1 := bytes_beqB (lntx f e c xs) t
  have H := Lib.hid (implLineText f e c a cap xs _ (h.below W0) hx HT)
  cases ho : lnB f e c xs
  · rw [ho] at hb
    simp only [Bool.false_and] at hb
    subst hb
    rw [ho] at H
    generalize lntx f e c xs = X at *
    clear hq1
    go_enter Tryd.func37, Tryd.ntmps37
    go_wp2_with fail
    refine H.out.mono ?_; rintro e w1 ⟨rfl, hb1⟩
    have B1 := Lib.hid (W0.trans (hb1.mono W0.size))
    clear hb1
    go_wp2_with fail
    go_ret
    exact ⟨rfl, B1.out⟩
  · rw [ho] at hb
    simp only [Bool.true_and] at hb
    rw [hb] at hq1
    rw [ho] at H
    generalize lntx f e c xs = X at *
    clear hb
    cases b
    all_goals
      go_enter Tryd.func37, Tryd.ntmps37
      go_wp2_with fail
      refine H.out.mono ?_; rintro e w1 ⟨rfl, hb1⟩
      have B1 := Lib.hid (W0.trans (hb1.mono W0.size))
      clear hb1
      go_wp2_with fail
      go_ret
      exact ⟨rfl, B1.out⟩
/-- what the parser of stops answers -/
def RetPS (t : ByteArray) (w : World) (r : Ending) (w' : World) : Prop :=
  ∃ (a : Option Addr) (cap : Nat) (xs : List Int) (b : Bool), r = .returned (.tuple #[.slice a xs.length cap, .bool b]) ∧ Own w' w.heap.size a cap xs ∧ Below w.heap.size w w' ∧ xs.length ≤ 13 ∧ ∀ ys, YS t ys → b = true ∧ xs = ys
theorem retPS_none {t : ByteArray} {w w' : World} (hb : Below w.heap.size w w') (no : ∀ ys, ¬ YS t ys) : RetPS t w (.returned (.tuple #[.slice none 0 0, .bool false])) w' :=
  ⟨none, 0, [], false, rfl, own_nil _ _, hb, by simp, fun ys y => absurd y (no ys)⟩
set_option maxHeartbeats 4000000 in
set_option maxRecDepth 100000 in
theorem parseStops_any (t : ByteArray) (ht : t.size ≤ 1048576) (w : World) (E : Env w) :
    Calls Tryd.prog 41 #[.string t, .string ⟨#[44]⟩, .int .i64 12, .func (.func 39) #[] #[], .func (.func 19) #[] #[]] w (RetPS t w) := by
  obtain ⟨i0, hi, hz0, hz1, hz2⟩ := info_parts intInfo
  obtain ⟨m, hm⟩ := E.ml
  have HS := Lib.hid (Tryd.strings_SplitN t ⟨#[44]⟩ 13 m w (by omega) hm (by decide) (by omega) (by omega))
  obtain ⟨ss, hss⟩ : ∃ ss, ss = Lib.splitB ⟨#[44]⟩ 0 (min 13 (t.size + 1) - 1) t := ⟨_, rfl⟩
  rw [← hss] at HS
  have hn6 : ss.length ≤ 13 := by
    have := Lib.splitB_length_le ⟨#[44]⟩ 0 (min 13 (t.size + 1) - 1) t
    rw [← hss] at this; omega
  have HSS := Lib.hid hss
  clear hss
  go_enter Tryd.func41, Tryd.ntmps41
  go_wp2_with fail
  refine HS.out.mono ?_; rintro e w1 ⟨rfl, hw1⟩
  have hB1 : Below w.heap.size w w1 := by rw [hw1]; exact (Below.refl _ _).alloc (Nat.le_refl _) _
  have hR1 : RdT w1 (some ⟨w.heap.size, 0, none⟩) ss := by
    refine rdT_cellsOfB (n := min 13 (t.size + 1)) (t := 9) (fr := (0, 0)) ?_
    rw [hw1]; exact Array.getElem?_push_size
  have E1 := E.below hB1
  clear hw1
  obtain ⟨w3, hrun, hown0, hgr0⟩ := run_make_full (P := Tryd.prog) w1 w1.heap.size 22 3 i0 (.int .i64 0) 1 Tryd.underlying22 hi hz0 hz1 .i64 .i64 ss.length (by rw [hz2]; omega) (by unfold maxLen; omega) (Nat.le_refl _)
  have hbel0 : Below w1.heap.size w1 w3 := (Below.refl _ _).grown hgr0 (Nat.le_refl _) (fun k hk => by cases hk)
  obtain ⟨ys0, hy0⟩ : ∃ ys, ys = (madeCells (Value.int .i64 0).cells (ss.length * 1)).toList := ⟨_, rfl⟩
  rw [← hy0] at hown0
  clear hy0 hgr0
  have hnI : (ss.length : Int) ≤ 13 := by omega
  go_wp2_with fail
  clear hrun
  have HB1 := Lib.hid hB1
  have HR1 := Lib.hid hR1
  have HE1 := Lib.hid E1
  have hpl : Hid (∀ j, j < ss.length → (ss.getD j ⟨#[]⟩).size ≤ t.size) := fun j hj => by
    have hm : (ss.getD j ⟨#[]⟩).data.toList ∈ Lib.splitK [44] 0 (min 13 (t.size + 1) - 1) t.data.toList := by
      have e := Lib.splitB_data ⟨#[44]⟩ 0 (min 13 (t.size + 1) - 1) t
      rw [← HSS.out] at e
      have e3 : (⟨#[44]⟩ : ByteArray).data.toList = [44] := rfl
      rw [e3] at e
      rw [← e, List.mem_map]
      exact ⟨ss.getD j ⟨#[]⟩, by rw [List.getD, List.getElem?_eq_getElem hj]; exact List.getElem_mem hj, rfl⟩
    have := splitK_lenB _ _ _ hm
    have e2 : (ss.getD j ⟨#[]⟩).size = (ss.getD j ⟨#[]⟩).data.toList.length := by simp
    have e3 : t.size = t.data.toList.length := by simp
    omega
  have HYS : Hid (∀ xs, YS t xs → ss = sts xs) := fun xs y => by
    rw [HSS.out]
    have h1 := spl_countB 44 t.data.toList
    rw [y.spl, List.length_map, sts_length] at h1
    have e3 : t.size = t.data.toList.length := by simp
    have h2 := y.bd.2.1
    exact y.split _ (by omega)
  clear hB1 hR1 E1 hm HS HSS
  go_loopg [28] ss.length (fun f v27 wr => ∃ (j : Nat) (ys : List Value) (out : List Int), v27 = .int .i64 (j : Int) ∧ j + f ≤ ss.length ∧ ss.length ≤ j + f ∧ out.length = j ∧ wr.ownsRow w1.heap.size 3 1 (.slice (some ⟨w1.heap.size, 0, none⟩) ss.length ss.length) ss.length ys ∧ Hid (∀ i, i < j → ys[i]? = some (.int .i64 (out.getD i 0))) ∧ Hid (∀ xs, YS t xs → out = xs.take j) ∧ Below w1.heap.size w1 wr)
  case atStart => exact ⟨0, ys0, [], rfl, by omega, by omega, rfl, hown0, fun i hi => absurd hi (Nat.not_lt_zero _), fun xs _ => by simp, hbel0⟩
  case round =>
    clear hown0 hbel0
    obtain ⟨j, ys, out, rfl, h1, h2, hol, hown, hys, hY, hbel⟩ := hrel
    have hsz := hbel.size
    have hlen : ys.length = ss.length * 1 := hown.1
    by_cases hj : j < ss.length
    · rcases (HR1.out.below hbel) with hcj0 | ⟨b, off, hab, hlt, hcj0⟩
      · rw [hcj0] at hj; simp at hj
      cases hab
      have hcj := hcj0 j hj
      rw [Nat.zero_add] at hcj
      clear hcj0
      have hjI : (j : Int) < (ss.length : Int) := by omega
      have hpj := hpl.out j hj
      have HP := Lib.hid (fun xs (y : YS t xs) => show ss.length = xs.length ∧ ss.getD j ⟨#[]⟩ = itx (xs.getD j 0) from by
        have e := HYS.out xs y
        have el : ss.length = xs.length := by rw [e, sts_length]
        have g := sts_get (xs := xs) (i := j) (x := ss.getD j ⟨#[]⟩) (by rw [← e, List.getD, List.getElem?_eq_getElem hj]; rfl)
        exact ⟨el, g.2⟩)
      generalize ss.getD j ⟨#[]⟩ = q at *
      have HQ := Lib.hid (parseNumber_any q (by omega) wr (HE1.out.below hbel))
      have HO := Lib.hid hown
      have HB := Lib.hid hbel
      clear hown hbel
      go_wp2_with fail
      refine HQ.out.mono ?_; rintro e w2 ⟨u, okk, rfl, hb2, hv⟩
      have hO2 := row_below HO.out hb2
      have hB2 := Lib.hid (HB.out.trans (hb2.mono hsz))
      have hz2 := hb2.size
      have hg2 := (hO2.lt w1.heap.size rfl).2
      clear HO HB HQ hb2
      rcases hv with ⟨rfl, hu⟩ | ⟨rfl, hno⟩
      · have hY2 : Hid (∀ xs, YS t xs → out ++ [u] = xs.take (j + 1)) := fun xs y => by
          have hp := HP.out xs y
          have hb := y.bd.2.2.2 j (by omega)
          rw [hp.2, itx_listB hb.1, atoi_intB hb.1 (by omega)] at hu
          injection hu with hu
          rw [hY.out xs y, take_succ_i xs j (by omega), ← hu]
        have hcy0 := hO2.cellAt j (by omega)
        have hfy0 := hO2.frozenAt j
        rw [List.getElem?_eq_getElem (by omega)] at hcy0
        obtain ⟨st1, _⟩ := hO2.stored j (.int .i64 u)
        have HST := Lib.hid st1
        have hz1 : w1.heap.size ≤ w2.heap.size := by omega
        have hys2 : Hid (∀ i, i < j + 1 → (ys.set j (.int .i64 u))[i]? = some (.int .i64 ((out ++ [u]).getD i 0))) := by
          intro i hi
          by_cases q1 : i = j
          · subst q1; rw [List.getElem?_set_self (by omega)]; subst hol; simp [List.getD]
          · rw [List.getElem?_set_ne (by omega), hys.out i (by omega)]
            simp [List.getD, List.getElem?_append_left (show i < out.length by omega)]
        have hlo : (out ++ [u]).length = j + 1 := by simp [hol]
        clear hu HP hO2 st1 hys hY
        go_wp2_with fail
        go_roundg (gk - 1)
        case rel => exact ⟨j + 1, _, out ++ [u], by go_num, by omega, by omega, hlo, HST.out, hys2, hY2, hB2.out.setCell (Nat.le_refl _) _⟩
        case measure => omega
      · have no : ∀ ys, ¬ YS t ys := fun xs y => by
          have hp := HP.out xs y
          have hb := y.bd.2.2.2 j (by omega)
          exact hno _ (by rw [hp.2, itx_listB hb.1]; exact atoi_intB hb.1 (by omega))
        have NO := Lib.hid no
        clear hno HP hO2 no
        go_wp2_with fail
        go_ret2
        exact retPS_none (HB1.out.trans (hB2.out.mono HB1.out.size)) NO.out
    · have e : j = ss.length := by omega
      have hyx : ys = out.map (Value.int .i64) := by
        apply List.ext_getElem?
        intro i
        by_cases q : i < ss.length
        · rw [hys.out i (by omega), List.getElem?_map, List.getElem?_eq_getElem (by omega)]; simp [List.getD, List.getElem?_eq_getElem (show i < out.length by omega)]
        · rw [List.getElem?_eq_none (by omega), List.getElem?_eq_none (by simp; omega)]
      subst hyx
      have hfull : ∀ xs, YS t xs → out = xs := fun xs y => by
        have el : ss.length = xs.length := by rw [HYS.out xs y, sts_length]
        rw [hY.out xs y, e, el, List.take_length]
      have HF := Lib.hid hfull
      have e2 : ss.length = out.length := by omega
      have hown2 : Own wr w1.heap.size (some ⟨w1.heap.size, 0, none⟩) ss.length out := by unfold Own; rw [← e2]; exact hown
      obtain ⟨tb, htb⟩ : ∃ tb, (stP out && decide (sttx out = t)) = tb := ⟨_, rfl⟩
      have HT := Lib.hid (isTextS t (some ⟨w1.heap.size, 0, none⟩) ss.length out tb htb wr hown2.rd (by omega) (HE1.out.below hbel).tab)
      rw [← e2] at HT
      have HO := Lib.hid hown2
      have HB := Lib.hid (HB1.out.trans (hbel.mono HB1.out.size))
      have hsw := HB.out.size
      have E2 := Lib.hid e2
      have hjn : ¬ ((j : Int) < (ss.length : Int)) := by omega
      clear hown hown2 hbel hfull hys hY e2 e
      cases tb
      · have no : ∀ ys, ¬ YS t ys := fun xs y => by
          have h0 := HF.out xs y
          rw [h0] at htb
          have h1 : stP xs = true := y.1
          have h2 : sttx xs = t := by unfold sttx; rw [h1]; exact y.2
          rw [h1, h2] at htb; simp at htb
        have NO := Lib.hid no
        clear htb no
        go_wp2_with fail
        refine HT.out.mono ?_; rintro e w5 ⟨rfl, hb5⟩
        go_wp2_with fail
        all_goals try (go_quiet (fail); go_wp2_with fail)
        all_goals (go_ret2; exact retPS_none (HB.out.trans ((by first | exact hb5 | exact below_drewN hb5 _ | exact hb5.drew : Below wr.heap.size wr _).mono hsw)) NO.out)
      · clear htb
        go_wp2_with fail
        refine HT.out.mono ?_; rintro e w5 ⟨rfl, hb5⟩
        have hO5 := Lib.hid (HO.out.below hb5)
        go_wp2_with fail
        go_ret2
        refine ⟨some ⟨w1.heap.size, 0, none⟩, ss.length, out, true, by rw [← E2.out]; rfl, hO5.out.low HB1.out.size, HB.out.trans (hb5.mono hsw), by have := E2.out; omega, fun ys y => ⟨rfl, HF.out ys y⟩⟩
/-- what the program's parser of lines answers -/
def RetPI (t : ByteArray) (w : World) (r : Ending) (w' : World) : Prop :=
  ∃ (f e c : Int) (a : Option Addr) (cap : Nat) (xs : List Int) (b : Bool), r = .returned (.tuple #[.agg #[.int .i64 f, .int .i64 e, .int .i64 c, .slice a xs.length cap], .bool b]) ∧ Own w' w.heap.size a cap xs ∧ Below w.heap.size w w' ∧ xs.length ≤ 13 ∧ (∀ f' e' c' xs', LT t f' e' c' xs' → b = true ∧ f' = f ∧ e' = e ∧ c' = c ∧ xs' = xs)
theorem LT.ys {t s : ByteArray} {f e c : Int} {xs : List Int} (h : LT t f e c xs) (hs : s.data.toList = spB2 xs) : YS s xs := by
  have h1 := h.1
  unfold lnB at h1
  simp only [Bool.and_eq_true] at h1
  refine ⟨by rw [st_eq]; exact h1.2, ?_⟩
  refine ByteArray.ext (Array.toList_inj.1 ?_)
  rw [stj_jnB, hs]; rfl
set_option maxHeartbeats 4000000 in
set_option maxRecDepth 100000 in
theorem parseLine_any (t : ByteArray) (ht : t.size ≤ 1048576) (w : World) (E : Env w) :
    Calls Tryd.prog 24 #[.string t] w (RetPI t w) := by
  have l1 := cut_lenB 58 t.data.toList
  have e2 : t.size = t.data.toList.length := by simp
  obtain ⟨s1, hs1⟩ : ∃ s : ByteArray, s = ⟨(Lib.cut t.data.toList [58]).1.toArray⟩ := ⟨_, rfl⟩
  obtain ⟨s2, hs2⟩ : ∃ s : ByteArray, s = ⟨(Lib.cut t.data.toList [58]).2.1.toArray⟩ := ⟨_, rfl⟩
  have z1 : s1.size ≤ t.size := by rw [hs1, e2, size_mkB]; exact l1.1
  have z2 : s2.size ≤ t.size := by rw [hs2, e2, size_mkB]; exact l1.2
  have c1 := Lib.hid (fun w E => cut_sep 58 t ht w E)
  rw [← hs1, ← hs2] at c1
  have l3 := cut_lenB 43 s1.data.toList
  have e3 : s1.size = s1.data.toList.length := by simp
  obtain ⟨s3, hs3⟩ : ∃ s : ByteArray, s = ⟨(Lib.cut s1.data.toList [43]).1.toArray⟩ := ⟨_, rfl⟩
  obtain ⟨s4, hs4⟩ : ∃ s : ByteArray, s = ⟨(Lib.cut s1.data.toList [43]).2.1.toArray⟩ := ⟨_, rfl⟩
  have z3 : s3.size ≤ t.size := by refine Nat.le_trans ?_ z1; rw [hs3, e3, size_mkB]; exact l3.1
  have z4 : s4.size ≤ t.size := by refine Nat.le_trans ?_ z1; rw [hs4, e3, size_mkB]; exact l3.2
  have c2 := Lib.hid (fun w E => cut_sep 43 s1 (by omega) w E)
  rw [← hs3, ← hs4] at c2
  have HY : Hid (∀ f e c xs, LT t f e c xs → s3.data.toList = Lib.decDigits f.toNat ∧ s4.data.toList = tlB e c ∧ YS s2 xs) := fun f e c xs y => by
    have h1 : s1.data.toList = hdB f e c := by rw [hs1, y.cut58]
    refine ⟨by rw [hs3, h1, cut_hd], by rw [hs4, h1, cut_hd], y.ys (by rw [hs2, y.cut58])⟩
  have l5 := cut_lenB 120 s4.data.toList
  have e5 : s4.size = s4.data.toList.length := by simp
  have c3 := Lib.hid (fun w E => two_any s4 ⟨#[120]⟩ _ _ _ s4.size (by omega) (fun w E => cut_sep 120 s4 (by omega) w E) (by omega) (by omega) w E)
  generalize (Lib.cut t.data.toList [58]).2.2 = g1 at *
  generalize (Lib.cut s1.data.toList [43]).2.2 = g2 at *
  clear hs1 hs2 hs3 hs4 l1 l3 l5 e2 e3 e5
  go_enter Tryd.func24, Tryd.ntmps24
  go_wp2_with fail
  have hb0 : Below w.heap.size w (w.alloc (.cells #[.int .i64 0, .int .i64 0, .int .i64 0, .slice none 0 0] 28)) := (Below.refl _ _).alloc (Nat.le_refl _) _
  have bN0 := boxF_new w (.int .i64 0) (.int .i64 0) (.int .i64 0) (.slice none 0 0) 28
  generalize World.alloc w (.cells #[.int .i64 0, .int .i64 0, .int .i64 0, .slice none 0 0] 28) = w0 at *
  have E0 := E.below hb0
  refine (c1.out w0 E0).mono ?_; rintro r w1 ⟨rfl, hb1⟩
  have E1 := E0.below hb1
  have bN1 := bN0.below hb1
  have B1 : Below w.heap.size w w1 := hb0.trans (hb1.mono hb0.size)
  go_wp2_with fail
  refine (c2.out w1 E1).mono ?_; rintro r w2 ⟨rfl, hb2⟩
  have E2 := E1.below hb2
  have bN2 := bN1.below hb2
  have B2 : Below w.heap.size w w2 := B1.trans (hb2.mono B1.size)
  clear E E0 bN0 bN1 hb0 hb1 B1
  go_wp2_with fail
  refine (parseNumber_any s3 (by omega) w2 E2).mono ?_; rintro r w3 ⟨v1, k1, rfl, hb3, hv1⟩
  have E3 := E2.below hb3
  have bN3 := bN2.below hb3
  have B3 : Below w.heap.size w w3 := B2.trans (hb3.mono B2.size)
  have HV1 := Lib.hid hv1
  clear E1 E2 bN2 hb2 hb3 B2 hv1
  go_wp2_with fail
  refine (c3.out w3 E3).mono ?_; rintro r w4 ⟨v2, v3, k2, rfl, hb4, hv2⟩
  have E4 := E3.below hb4
  have bN4 := bN3.below hb4
  have B4 : Below w.heap.size w w4 := B3.trans (hb4.mono B3.size)
  have HV2 := Lib.hid hv2
  clear E3 bN3 hb4 B3 hv2
  go_wp2_with fail
  refine (parseStops_any s2 (by omega) w4 E4).mono ?_; rintro r w5 ⟨a, cap, xs, k3, rfl, hO, hb5, hx13, hall⟩
  obtain ⟨⟨hN, z0, z1', z2', z3'⟩, zf⟩ := bN4.below hb5
  have B5 : Below w.heap.size w w5 := B4.trans (hb5.mono B4.size)
  have hN4 : w.heap.size < w4.heap.size := bN4.1.1
  have HO := Lib.hid hO
  have HALL := Lib.hid hall
  clear E4 bN4 hb5 B4 hO hall c1 c2 c3
  have HYES : Hid (∀ f' e' c' xs', LT t f' e' c' xs' → k1 = true ∧ k2 = true ∧ k3 = true ∧ f' = v1 ∧ e' = v2 ∧ c' = v3 ∧ xs' = xs) := fun f e c xs' y => by
    obtain ⟨q1, q2, q3⟩ := HY.out f e c xs' y
    have L := y.lin
    have a1 := L.f0
    have a2 := L.f1
    have a3 := L.e0
    have a4 := L.e1
    have a5 := L.c0
    have a6 := L.c1
    have t1 := atoi_intB (n := f) (by omega) (by omega)
    have t2 := atoi_intB (n := e) (by omega) (by omega)
    have t3 := atoi_intB (n := c) (by omega) (by omega)
    have h3 := HALL.out xs' q3
    rcases HV1.out with ⟨r1, r2⟩ | ⟨r1, r2⟩
    · rcases HV2.out with ⟨p1, p2, p3⟩ | ⟨p1, p2⟩
      · rw [q1, t1] at r2
        rw [q2, cut_tl] at p2 p3
        simp only [] at p2 p3
        rw [t2] at p2
        rw [t3] at p3
        injection r2 with r2
        injection p2 with p2
        injection p3 with p3
        exact ⟨r1, p1, h3.1, r2, p2, p3, h3.2.symm⟩
      · exact absurd ⟨e, c, by rw [q2, cut_tl]; exact ⟨t2, t3⟩⟩ p2
    · exact absurd (by rw [q1]; exact t1) (r2 f)
  clear HY HV1 HV2 HALL
  cases k1 <;> cases k2 <;> cases k3
  case true.true.true =>
    go_wp2_with fail
    exact bodyPost_ret (v := .tuple #[.agg #[.int .i64 v1, .int .i64 v2, .int .i64 v3, .slice a xs.length cap], .bool true]) (by simp [results, Tryd.results24, go_sem, z0, z1', z2', z3']; done) rfl ⟨v1, v2, v3, a, cap, xs, true, rfl, (((((HO.out.setLow _ _ (by simp; omega)).setLow _ _ (by simp; omega)).setLow _ _ (by simp; omega)).setLow _ _ (by simp; omega)).low (by omega)), (((B5.setCell (Nat.le_refl _) _).setCell (Nat.le_refl _) _).setCell (Nat.le_refl _) _).setCell (Nat.le_refl _) _, hx13, fun f' e' c' xs' y => ⟨rfl, (HYES.out f' e' c' xs' y).2.2.2⟩⟩
  all_goals
    go_wp2_with fail
    exact bodyPost_ret (v := .tuple #[.agg #[.int .i64 v1, .int .i64 v2, .int .i64 v3, .slice a xs.length cap], .bool false]) (by simp [results, Tryd.results24, go_sem, z0, z1', z2', z3']; done) rfl ⟨v1, v2, v3, a, cap, xs, false, rfl, (((((HO.out.setLow _ _ (by simp; omega)).setLow _ _ (by simp; omega)).setLow _ _ (by simp; omega)).setLow _ _ (by simp; omega)).low (by omega)), (((B5.setCell (Nat.le_refl _) _).setCell (Nat.le_refl _) _).setCell (Nat.le_refl _) _).setCell (Nat.le_refl _) _, hx13, fun f' e' c' xs' y => (by have := HYES.out f' e' c' xs' y; simp at this)⟩
set_option maxHeartbeats 4000000 in
set_option maxRecDepth 100000 in
theorem parseOneL (t : ByteArray) (F E C : Int) (ys : List Int) (ok : Bool) (H : PHL t F E C ys ok) (ht : t.size ≤ 1048576) (w : World) (EV : Env w) :
    Calls Tryd.prog 23 #[.string t, .func (.func 24) #[] #[], .func (.func 8) #[] #[]] w (RetL w F E C ys ok) := by
  go_enter Tryd.func23, Tryd.ntmps23
  go_wp2_with fail
  have hb0 : Below w.heap.size w (w.alloc (.cells #[.int .i64 0, .int .i64 0, .int .i64 0, .slice none 0 0] 28)) := (Below.refl _ _).alloc (Nat.le_refl _) _
  have bN0 := boxF_new w (.int .i64 0) (.int .i64 0) (.int .i64 0) (.slice none 0 0) 28
  generalize World.alloc w (.cells #[.int .i64 0, .int .i64 0, .int .i64 0, .slice none 0 0] 28) = w0 at *
  refine (parseLine_any t ht w0 (EV.below hb0)).mono ?_; rintro r w1 ⟨f, e, c, a, cap, xs, k, rfl, hO, hb1, hx13, hall⟩
  have B1 : Below w.heap.size w w1 := hb0.trans (hb1.mono hb0.size)
  have bN1 := bN0.below hb1
  have hz0 : w.heap.size < w0.heap.size := bN0.1.1
  have hz1 := hb1.size
  have HO := Lib.hid hO
  have HALL := Lib.hid hall
  have HE := Lib.hid (EV.below B1)
  clear bN0 hb0 hb1 hO hall EV
  cases k
  · obtain ⟨rfl, rfl, rfl, rfl, rfl⟩ := phl_no H (fun f' e' c' xs' y => by have := (HALL.out f' e' c' xs' y).1; cases this)
    obtain ⟨⟨hN, z0, z1, z2, z3⟩, zf⟩ := bN1
    clear H
    go_wp2_with fail
    generalize hW : World.alloc _ _ = W
    have y0 : W.cell? ⟨w.heap.size, 0, none⟩ = some (.int .i64 0) := by subst hW; go_simp
    have y1 : W.cell? ⟨w.heap.size, 1, none⟩ = some (.int .i64 0) := by subst hW; go_simp
    have y2 : W.cell? ⟨w.heap.size, 2, none⟩ = some (.int .i64 0) := by subst hW; go_simp
    have y3 : W.cell? ⟨w.heap.size, 3, none⟩ = some (.slice none 0 0) := by subst hW; go_simp
    have yB : Below w.heap.size w W := by subst hW; (repeat (first | with_reducible refine Below.setCell ?_ (by first | omega | (simp; done) | (simp; omega)) _ | with_reducible refine Below.drew ?_ | with_reducible refine below_drewN ?_ _ | with_reducible refine Below.alloc ?_ (by first | omega | (simp; done) | (simp; omega)) _ | with_reducible exact Below.refl _ _ | with_reducible assumption | with_reducible refine bchain ?_ (by with_reducible assumption) (by first | omega | (simp; done) | (simp; omega))))
    refine bodyPost_ret (v := .tuple #[.agg #[.int .i64 0, .int .i64 0, .int .i64 0, .slice none 0 0], .bool false]) (by simp [results, Tryd.results23, go_sem, y0, y1, y2, y3]) rfl ⟨none, 0, rfl, own_nil _ _, yB⟩
  · obtain ⟨b, hb⟩ : ∃ b, (lnB f e c xs && decide (lntx f e c xs = t)) = b := ⟨_, rfl⟩
    have W1 : Below w1.heap.size w1 (w1.alloc (.cells #[.int .i64 f, .int .i64 e, .int .i64 c, .slice a xs.length cap] 28)) := (Below.refl _ _).alloc (Nat.le_refl _) _
    have HT := Lib.hid (isTextL t f e c a cap xs b hb _ (HO.out.rd.below W1) (by omega) (HE.out.below W1).tab)
    have HB := Lib.hid hb
    have bN2 := bN1.below W1
    have bX2 := boxF_new w1 (.int .i64 f) (.int .i64 e) (.int .i64 c) (.slice a xs.length cap) 28
    have HO2 := Lib.hid (HO.out.below W1)
    have B2 : Below w.heap.size w (w1.alloc (.cells #[.int .i64 f, .int .i64 e, .int .i64 c, .slice a xs.length cap] 28)) := B1.trans (W1.mono B1.size)
    clear hb W1 bN1
    go_wp2_with fail
    refine HT.out.mono ?_; rintro r w4 ⟨rfl, hb4⟩
    obtain ⟨⟨hN, z0, z1, z2, z3⟩, zf⟩ := bN2.below hb4
    obtain ⟨⟨hX, x0, x1, x2, x3⟩, xf⟩ := bX2.below hb4
    have HO4 := Lib.hid (HO2.out.below hb4)
    have B4 : Below w.heap.size w w4 := B2.trans (hb4.mono B2.size)
    clear HT bN2 bX2 HO2 B2 hb4 HO
    cases b
    · obtain ⟨rfl, rfl, rfl, rfl, rfl⟩ := phl_no H (fun f' e' c' xs' y => by
        obtain ⟨_, r1, r2, r3, r4⟩ := HALL.out f' e' c' xs' y
        have h1 := y.1
        have h2 := y.2
        have hb := HB.out
        rw [r1, r2, r3, r4] at h1 h2
        unfold lntx at hb
        rw [h1] at hb
        simp only [if_true, h2, decide_true, Bool.and_self] at hb
        cases hb)
      clear H
      go_wp2_with fail
      generalize hW : World.alloc _ _ = W
      have y0 : W.cell? ⟨w.heap.size, 0, none⟩ = some (.int .i64 0) := by subst hW; go_simp
      have y1 : W.cell? ⟨w.heap.size, 1, none⟩ = some (.int .i64 0) := by subst hW; go_simp
      have y2 : W.cell? ⟨w.heap.size, 2, none⟩ = some (.int .i64 0) := by subst hW; go_simp
      have y3 : W.cell? ⟨w.heap.size, 3, none⟩ = some (.slice none 0 0) := by subst hW; go_simp
      have yB : Below w.heap.size w W := by subst hW; (repeat (first | with_reducible refine Below.setCell ?_ (by first | omega | (simp; done) | (simp; omega)) _ | with_reducible refine Below.drew ?_ | with_reducible refine below_drewN ?_ _ | with_reducible refine Below.alloc ?_ (by first | omega | (simp; done) | (simp; omega)) _ | with_reducible exact Below.refl _ _ | with_reducible assumption | with_reducible refine bchain ?_ (by with_reducible assumption) (by first | omega | (simp; done) | (simp; omega))))
      refine bodyPost_ret (v := .tuple #[.agg #[.int .i64 0, .int .i64 0, .int .i64 0, .slice none 0 0], .bool false]) (by simp [results, Tryd.results23, go_sem, y0, y1, y2, y3]) rfl ⟨none, 0, rfl, own_nil _ _, yB⟩
    · have hy : LT t f e c xs := by
        have hb := Bool.and_eq_true_iff.1 HB.out
        have h2 := of_decide_eq_true hb.2
        unfold lntx at h2
        rw [hb.1] at h2
        exact ⟨hb.1, h2⟩
      obtain ⟨rfl, rfl, rfl, rfl, rfl⟩ := phl_yes H hy (fun f' e' c' xs' y => (HALL.out f' e' c' xs' y).2)
      clear H hy
      go_wp2_with fail
      exact bodyPost_ret (v := .tuple #[.agg #[.int .i64 F, .int .i64 E, .int .i64 C, .slice a ys.length cap], .bool true]) (by simp [results, Tryd.results23, go_sem, z0, z1, z2, z3]) rfl ⟨a, cap, rfl, (((((HO4.out.setLow _ _ (by simp; omega)).setLow _ _ (by simp; omega)).setLow _ _ (by simp; omega)).setLow _ _ (by simp; omega)).low (by omega)), (((B4.setCell (Nat.le_refl _) _).setCell (Nat.le_refl _) _).setCell (Nat.le_refl _) _).setCell (Nat.le_refl _) _⟩
set_option maxHeartbeats 4000000 in
set_option maxRecDepth 100000 in
theorem implParseLine (t : ByteArray) (F E C : Int) (ys : List Int) (ok : Bool) (H : PHL t F E C ys ok) (ht : t.size ≤ 1048576) (w : World) (EV : Env w) :
    Calls Tryd.prog 11 #[.string t] w (RetL w F E C ys ok) := by
  go_enter Tryd.func11, Tryd.ntmps11
  go_wp2_with fail
  have hb0 : Below w.heap.size w (w.alloc (.cells #[.int .i64 0, .int .i64 0, .int .i64 0, .slice none 0 0] 28)) := (Below.refl _ _).alloc (Nat.le_refl _) _
  have bN0 := boxF_new w (.int .i64 0) (.int .i64 0) (.int .i64 0) (.slice none 0 0) 28
  generalize World.alloc w (.cells #[.int .i64 0, .int .i64 0, .int .i64 0, .slice none 0 0] 28) = w0 at *
  refine (parseOneL t F E C ys ok H ht w0 (EV.below hb0)).mono ?_; rintro r w1 ⟨a, cap, rfl, hO, hb1⟩
  have B1 : Below w.heap.size w w1 := hb0.trans (hb1.mono hb0.size)
  obtain ⟨⟨hN, z0, z1, z2, z3⟩, zf⟩ := bN0.below hb1
  have hz0 : w.heap.size < w0.heap.size := bN0.1.1
  have HO := Lib.hid hO
  clear bN0 hb0 hb1 hO EV H
  go_wp2_with fail
  exact bodyPost_ret (v := .tuple #[.agg #[.int .i64 F, .int .i64 E, .int .i64 C, .slice a ys.length cap], .bool ok]) (by simp [results, Tryd.results11, go_sem, z0, z1, z2, z3]) rfl ⟨a, cap, rfl, (((((HO.out.setLow _ _ (by simp; omega)).setLow _ _ (by simp; omega)).setLow _ _ (by simp; omega)).setLow _ _ (by simp; omega)).low (by omega)), (((B1.setCell (Nat.le_refl _) _).setCell (Nat.le_refl _) _).setCell (Nat.le_refl _) _).setCell (Nat.le_refl _) _⟩
end Go.Proofs.YtjcapaoafkgkaaaDoor
