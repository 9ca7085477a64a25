/- ParsePuzzle of chapter 9: the program's, by contracts. -/
import Derived.Test.YtpmnnfojmnmohaaDoorPzTSpec
import Derived.Test.YtpmnnfojmnmohaaDoorPzTextI
import Derived.Test.YtpmnnfojmnmohaaDoorParseEnv
import Derived.Deep.RegionWith
namespace Go.Proofs.YtpmnnfojmnmohaaDoor
open Go.RowKit
set_option linter.unusedVariables false
set_option linter.unusedSimpArgs false
set_option maxHeartbeats 2000000 in
theorem parseNumber_any (s : ByteArray) (hs : s.size ≤ 1048576) (w : World) (E : Env w) :
    Calls Tryd.prog 38 #[.string s] w fun e w' => ∃ (v : Int) (k : Bool), e = .returned (.tuple #[.int .i64 v, .bool k]) ∧ Below w.heap.size w w' ∧ ((k = true ∧ Lib.atoiAll s.data.toList = .ok v) ∨ (k = false ∧ ∀ v, Lib.atoiAll s.data.toList ≠ .ok v)) := by
  go_enter Tryd.func38, Tryd.ntmps38
  go_wp2_with fail
  refine (atoi_any s hs _ E).mono ?_; rintro e w1 ⟨v, ev, rfl, hb1, hv⟩
  have B1 := Lib.hid hb1
  clear hb1
  rcases hv with ⟨rfl, hu⟩ | ⟨⟨tp, p, rfl⟩, hu⟩
  all_goals
    have HU := Lib.hid hu
    clear hu
    go_wp2_with fail
    try (go_quiet (fail); go_wp2_with fail)
    go_ret2
  · exact ⟨_, true, rfl, by first | exact below_drewN B1.out _ | exact B1.out, .inl ⟨rfl, HU.out⟩⟩
  · exact ⟨_, false, rfl, by first | exact below_drewN B1.out _ | exact B1.out, .inr ⟨rfl, HU.out⟩⟩
theorem cut_lenZ (c : UInt8) (l : List UInt8) : (Lib.cut l [c]).1.length ≤ l.length ∧ (Lib.cut l [c]).2.1.length ≤ l.length := by
  unfold Lib.cut
  split
  · simp; omega
  · simp
/-- the three numbers of a text, as the library reads them -/
def RC3 (l : List UInt8) (k x y : Int) : Prop :=
  Lib.atoiAll (Lib.cut l [46]).1 = .ok k ∧ Lib.atoiAll (Lib.cut (Lib.cut l [46]).2.1 [46]).1 = .ok x ∧ Lib.atoiAll (Lib.cut (Lib.cut l [46]).2.1 [46]).2.1 = .ok y
theorem rc3_eqs {k x y k' x' y' : Int} (h : RC3 (ctx k x y).data.toList k' x' y') (h1 : -999999 ≤ k ∧ k ≤ 999999) (h2 : -999999 ≤ x ∧ x ≤ 999999) (h3 : -999999 ≤ y ∧ y ≤ 999999) : k' = k ∧ x' = x ∧ y' = y := by
  unfold RC3 at h
  rw [cut_ctxZ] at h
  simp only [] at h
  rw [cut_abZ] at h
  simp only [] at h
  rw [atoi_itoa h1.1 h1.2, atoi_itoa h2.1 h2.2, atoi_itoa h3.1 h3.2] at h
  obtain ⟨a, b, c⟩ := h
  injection a with a
  injection b with b
  injection c with c
  exact ⟨a.symm, b.symm, c.symm⟩
theorem rc3_ctx (k x y : Int) (h1 : -999999 ≤ k ∧ k ≤ 999999) (h2 : -999999 ≤ x ∧ x ≤ 999999) (h3 : -999999 ≤ y ∧ y ≤ 999999) : RC3 (ctx k x y).data.toList k x y := by
  unfold RC3
  rw [cut_ctxZ]
  simp only []
  rw [cut_abZ]
  exact ⟨atoi_itoa h1.1 h1.2, atoi_itoa h2.1 h2.2, atoi_itoa h3.1 h3.2⟩
/-- What parseClue answers of a text. -/
def PCPost (s : ByteArray) (w : World) (e : Ending) (w' : World) : Prop :=
  ∃ (k x y : Int) (ok : Bool), e = .returned (.tuple #[.agg #[.int .i64 k, .int .i64 x, .int .i64 y], .bool ok]) ∧ Below w.heap.size w w' ∧ ((ok = true ∧ RC3 s.data.toList k x y) ∨ (ok = false ∧ ¬ ∃ k x y, RC3 s.data.toList k x y))
set_option maxHeartbeats 4000000 in
theorem parseClue_any (s : ByteArray) (hs : s.size ≤ 1048576) (w : World) (E : Env w) :
    Calls Tryd.prog 22 #[.string s] w (PCPost s w) := by
  have hl := cut_lenZ 46 s.data.toList
  have hl2 := cut_lenZ 46 (Lib.cut s.data.toList [46]).2.1
  have e2 : s.size = s.data.toList.length := by simp
  have BA : Below w.heap.size w (w.alloc (.cells #[.int .i64 0, .int .i64 0, .int .i64 0] 47)) := (Below.refl _ _).alloc (Nat.le_refl _) _
  have EA := E.below BA
  obtain ⟨L, hL⟩ : ∃ L, L = (Lib.cut s.data.toList [46]).1 := ⟨_, rfl⟩
  obtain ⟨M, hM⟩ : ∃ M, M = (Lib.cut s.data.toList [46]).2.1 := ⟨_, rfl⟩
  have H1 := Lib.hid (cut_sep 46 s hs)
  rw [← hL, ← hM] at H1
  have H2 := Lib.hid (fun w E => parseNumber_any ⟨L.toArray⟩ (by simp [ByteArray.size]; rw [hL]; omega) w E)
  have H3 := Lib.hid (fun w E => two_any ⟨M.toArray⟩ ⟨#[46]⟩ _ _ _ s.size hs (fun w E => cut_sep 46 ⟨M.toArray⟩ (by simp [ByteArray.size]; rw [hM]; omega) w E) (by simp; rw [hM]; omega) (by simp; rw [hM]; omega) w E)
  have HLM := Lib.hid (And.intro hL hM)
  clear hL hM hl hl2 e2
  go_enter Tryd.func22, Tryd.ntmps22
  go_wp2_with fail
  refine (H1.out _ EA).mono ?_; rintro e w1 ⟨rfl, hb1⟩
  have B1 := BA.trans (hb1.mono BA.size)
  have E1 := EA.below hb1
  have hc1 := fun o => (bcell hb1).1 w.heap.size o (by simp)
  have hf1 := fun o => (bcell hb1).2 w.heap.size o (by simp)
  have hz1 := hb1.size
  (try simp only [World.size_alloc] at hz1)
  clear hb1 BA EA
  go_wp2_with fail
  refine (H2.out _ E1).mono ?_; rintro e w2 ⟨k, ok1, rfl, hb2, hv2⟩
  have B2 := B1.trans (hb2.mono B1.size)
  have E2 := E1.below hb2
  have hc2 := fun o => (bcell hb2).1 w.heap.size o (by omega)
  have hf2 := fun o => (bcell hb2).2 w.heap.size o (by omega)
  have hz2 := hb2.size
  clear hb2 E1 B1
  go_wp2_with fail
  refine (H3.out _ E2).mono ?_; rintro e w3 ⟨x, y, ok2, rfl, hb3, hv3⟩
  have B3 := Lib.hid (B2.trans (hb3.mono B2.size))
  have hc3 := fun o => ((bcell hb3).1 w.heap.size o (by omega)).trans ((hc2 o).trans (hc1 o))
  have hf3 := fun o => ((bcell hb3).2 w.heap.size o (by omega)).trans ((hf2 o).trans (hf1 o))
  have hs3 : w.heap.size < w3.heap.size := by have := hb3.size; omega
  have d0 : w3.cell? ⟨w.heap.size, 0, none⟩ = some (.int .i64 0) := by rw [hc3]; go_simp
  have d1 : w3.cell? ⟨w.heap.size, 1, none⟩ = some (.int .i64 0) := by rw [hc3]; go_simp
  have d2 : w3.cell? ⟨w.heap.size, 2, none⟩ = some (.int .i64 0) := by rw [hc3]; go_simp
  have df : ∀ o, w3.frozen? ⟨w.heap.size, o, none⟩ = false := fun o => by rw [hf3]; go_simp
  have HV2 := Lib.hid hv2
  have HV3 := Lib.hid hv3
  clear hb3 E2 B2 hc1 hc2 hc3 hf1 hf2 hf3 hv2 hv3
  obtain ⟨kk, hkk⟩ : ∃ kk, kk = (ok1 && ok2) := ⟨_, rfl⟩
  cases ok1 <;> cases ok2
  all_goals
    go_wp2_with fail
    try (go_quiet (fail); go_wp2_with fail)
    have q0 : (((w3.setCell ⟨w.heap.size, 0, none⟩ (.int .i64 k)).setCell ⟨w.heap.size, 1, none⟩ (.int .i64 x)).setCell ⟨w.heap.size, 2, none⟩ (.int .i64 y)).cell? ⟨w.heap.size, 0, none⟩ = some (.int .i64 k) := by go_simp
    have q1 : (((w3.setCell ⟨w.heap.size, 0, none⟩ (.int .i64 k)).setCell ⟨w.heap.size, 1, none⟩ (.int .i64 x)).setCell ⟨w.heap.size, 2, none⟩ (.int .i64 y)).cell? ⟨w.heap.size, 1, none⟩ = some (.int .i64 x) := by go_simp
    have q2 : (((w3.setCell ⟨w.heap.size, 0, none⟩ (.int .i64 k)).setCell ⟨w.heap.size, 1, none⟩ (.int .i64 x)).setCell ⟨w.heap.size, 2, none⟩ (.int .i64 y)).cell? ⟨w.heap.size, 2, none⟩ = some (.int .i64 y) := by go_simp
    refine bodyPost_ret (v := .tuple #[.agg #[.int .i64 k, .int .i64 x, .int .i64 y], .bool kk]) (by simp [results, Tryd.results22, go_sem, q0, q1, q2, hkk]) rfl ⟨k, x, y, kk, rfl, ((B3.out.setCell (Nat.le_refl _) _).setCell (Nat.le_refl _) _).setCell (Nat.le_refl _) _, ?_⟩
    subst hkk
    unfold RC3
    rw [← HLM.out.1, ← HLM.out.2]
    rcases HV2.out with ⟨h1, h2⟩ | ⟨h1, h2⟩ <;> rcases HV3.out with ⟨h3, h4, h5⟩ | ⟨h3, h4⟩ <;> first | (cases h1; done) | (cases h3; done) | skip
    first
      | exact .inl ⟨rfl, h2, h4, h5⟩
      | exact .inr ⟨rfl, fun ⟨_, _, _, q, _⟩ => h2 _ q⟩
      | exact .inr ⟨rfl, fun ⟨_, _, _, _, q, r⟩ => h4 ⟨_, _, q, r⟩⟩
set_option maxHeartbeats 1000000 in
theorem isTextC (t : ByteArray) (A : Addr) (cap : Nat) (xs : List (Int × Int × Int)) (b : Bool) (hb : (pzG xs && decide (pcx xs = t)) = b) (w : World) (h : RdC w (some A) xs) (hn : xs.length ≤ 1048576) (hcap : xs.length ≤ cap) (ht : Lib.TabIs Tryd.prog w "internal/strconv.uint64pow10" .u64 Lib.pow10Tab) :
    Calls Tryd.prog 36 #[.string t, .slice (some A) xs.length cap, .func (.func 18) #[] #[]] w fun e w' => e = .returned (.bool b) ∧ Below w.heap.size w w' := by
  have hq1 := bytes_beqZ (pcx xs) t
  cases ho : pzG xs
  · rw [ho] at hb
    simp only [Bool.false_and] at hb
    subst hb
    have H := Lib.hid (cluesText_any A cap xs w h hn hcap ht)
    rw [ho] at H
    generalize pcx xs = X at *
    clear hq1
    go_enter Tryd.func36, Tryd.ntmps36
    go_wp2_with fail
    refine H.out.mono ?_; rintro e w1 ⟨rfl, hb1⟩
    have B1 := Lib.hid (hb1)
    clear hb1
    go_wp2_with fail
    go_ret
    exact ⟨rfl, B1.out⟩
  · rw [ho] at hb
    simp only [Bool.true_and] at hb
    rw [hb] at hq1
    have H := Lib.hid (cluesText_any A cap xs w h hn hcap ht)
    rw [ho] at H
    generalize pcx xs = X at *
    clear hb
    cases b
    all_goals
      go_enter Tryd.func36, Tryd.ntmps36
      go_wp2_with fail
      refine H.out.mono ?_; rintro e w1 ⟨rfl, hb1⟩
      have B1 := Lib.hid (hb1)
      clear hb1
      go_wp2_with fail
      go_ret
      exact ⟨rfl, B1.out⟩
/-- what a function of ([]Clue, bool) answers: a list of its own in new memory -/
def RetPC (w : World) (L : List (Int × Int × Int)) (ok : Bool) (e : Ending) (w' : World) : Prop :=
  ∃ (a : Option Addr) (cap : Nat), e = .returned (.tuple #[.slice a L.length cap, .bool ok]) ∧ OwnC w' w.heap.size a cap L ∧ Below w.heap.size w w'
theorem retC_none {w w' : World} (hb : Below w.heap.size w w') {e : Ending} (he : e = .returned (.tuple #[.slice none 0 0, .bool false])) : RetPC w [] false e w' :=
  ⟨none, 0, he, World.ownsRow_nil _ _ _ _, hb⟩
theorem rdT_cellsOfZ {w : World} {b n : Nat} {ss : List ByteArray} {t : TypeId} {fr : Nat × Nat} (h : w.heap[b]? = some (.cells (Lib.cellsOf ss n) t fr)) : RdT w (some ⟨b, 0, none⟩) ss := by
  refine .inr ⟨b, 0, rfl, ?_, fun i hi => ?_⟩
  · rcases Nat.lt_or_ge b w.heap.size with q | q
    · exact q
    · rw [Array.getElem?_eq_none q] at h; cases h
  · rw [Nat.zero_add, cell_of_row w b i _ t fr h]
    unfold Lib.cellsOf
    simp [List.getElem?_append, hi, List.getD, List.getElem?_eq_getElem hi]
theorem splitK_lenZ : ∀ (k : Nat) (l p : List UInt8), p ∈ Lib.splitK [44] 0 k l → p.length ≤ l.length
  | 0, l, p, h => by simp [Lib.splitK] at h; rw [h]; exact Nat.le_refl _
  | k + 1, l, p, h => by
    unfold Lib.splitK at h
    split at h
    · simp at h; rw [h]; exact Nat.le_refl _
    · rcases List.mem_cons.1 h with h | h
      · rw [h, List.length_take]; omega
      · have := splitK_lenZ k _ p h
        rw [List.length_drop] at this; omega
set_option maxHeartbeats 4000000 in
set_option maxRecDepth 100000 in
theorem implParseListC (t : ByteArray) (R : List (Int × Int × Int)) (ok : Bool) (H : PHC t R ok) (htp : 0 < t.size) (ht : t.size ≤ 1048576) (w : World) (E : Env w) :
    Calls Tryd.prog 21 #[.string t, .string ⟨#[44]⟩, .int .i64 6, .func (.func 22) #[] #[], .func (.func 18) #[] #[]] w (RetPC w R ok) := by
  obtain ⟨i0, hi, hz0, hz1, hz2⟩ := info_parts cluesInfo
  obtain ⟨m, hm⟩ := E.ml
  have HS := Lib.hid (Tryd.strings_SplitN t ⟨#[44]⟩ 7 m w (by omega) hm (by decide) (by omega) (by omega))
  obtain ⟨ss, hss⟩ : ∃ ss, ss = Lib.splitB ⟨#[44]⟩ 0 (min 7 (t.size + 1) - 1) t := ⟨_, rfl⟩
  rw [← hss] at HS
  have hn7 : ss.length ≤ 7 := by
    have := Lib.splitB_length_le ⟨#[44]⟩ 0 (min 7 (t.size + 1) - 1) t
    rw [← hss] at this; omega
  have HSS := Lib.hid hss
  clear hss
  go_enter Tryd.func21, Tryd.ntmps21
  go_wp2_with fail
  refine HS.out.mono ?_; rintro e w1 ⟨rfl, hw1⟩
  have hB1 : Below w.heap.size w w1 := by rw [hw1]; exact (Below.refl _ _).alloc (Nat.le_refl _) _
  have hR1 : RdT w1 (some ⟨w.heap.size, 0, none⟩) ss := by
    refine rdT_cellsOfZ (n := min 7 (t.size + 1)) (t := 9) (fr := (0, 0)) ?_
    rw [hw1]; exact Array.getElem?_push_size
  have E1 := E.below hB1
  clear hw1
  obtain ⟨w3, hrun, hown0, hgr0⟩ := run_make_full (P := Tryd.prog) w1 w1.heap.size 28 47 i0 (.agg #[.int .i64 0, .int .i64 0, .int .i64 0]) 3 Tryd.underlying28 hi hz0 hz1 .i64 .i64 ss.length (by rw [hz2]; omega) (by unfold maxLen; omega) (Nat.le_refl _)
  have hbel0 : Below w1.heap.size w1 w3 := (Below.refl _ _).grown hgr0 (Nat.le_refl _) (fun k hk => by cases hk)
  obtain ⟨ys0, hy0⟩ : ∃ ys, ys = (madeCells (Value.agg #[.int .i64 0, .int .i64 0, .int .i64 0]).cells (ss.length * 3)).toList := ⟨_, rfl⟩
  rw [← hy0] at hown0
  clear hy0 hgr0
  have hnI : (ss.length : Int) ≤ 7 := by omega
  go_wp2_with fail
  clear hrun
  have HB1 := Lib.hid hB1
  have HR1 := Lib.hid hR1
  have HE1 := Lib.hid E1
  have HH := Lib.hid H
  have hpl : Hid (∀ j, j < ss.length → (ss.getD j ⟨#[]⟩).size ≤ t.size) := fun j hj => by
    have hm : (ss.getD j ⟨#[]⟩).data.toList ∈ Lib.splitK [44] 0 (min 7 (t.size + 1) - 1) t.data.toList := by
      have e := Lib.splitB_data ⟨#[44]⟩ 0 (min 7 (t.size + 1) - 1) t
      rw [← HSS.out] at e
      have e3 : (⟨#[44]⟩ : ByteArray).data.toList = [44] := rfl
      rw [e3] at e
      rw [← e, List.mem_map]
      exact ⟨ss.getD j ⟨#[]⟩, by rw [List.getD, List.getElem?_eq_getElem hj]; exact List.getElem_mem hj, rfl⟩
    have := splitK_lenZ _ _ _ hm
    have e2 : (ss.getD j ⟨#[]⟩).size = (ss.getD j ⟨#[]⟩).data.toList.length := by simp
    have e3 : t.size = t.data.toList.length := by simp
    omega
  have HYS : Hid (∀ xs, YC t xs → ss = cts xs) := fun xs y => by
    rw [HSS.out]
    have h1 := spl_countZ 44 t.data.toList
    rw [y.spl htp, List.length_map, cts_length] at h1
    have e3 : t.size = t.data.toList.length := by simp
    have h2 := y.bd.1
    exact y.split htp _ (by omega)
  clear hB1 hR1 E1 H hm HS HSS
  go_loopg [28] ss.length (fun f v27 wr => ∃ (j : Nat) (ys : List Value) (out : List (Int × Int × Int)), v27 = .int .i64 (j : Int) ∧ j + f ≤ ss.length ∧ ss.length ≤ j + f ∧ out.length = j ∧ wr.ownsRow w1.heap.size 47 3 (.slice (some ⟨w1.heap.size, 0, none⟩) ss.length ss.length) ss.length ys ∧ Hid (∀ i, i < j * 3 → ys[i]? = (cs3 out)[i]?) ∧ Hid (∀ xs, YC t xs → out = xs.take j) ∧ Below w1.heap.size w1 wr)
  case atStart => exact ⟨0, ys0, [], rfl, by omega, by omega, rfl, hown0, fun i hi => absurd hi (Nat.not_lt_zero _), fun xs _ => by simp, hbel0⟩
  case round =>
    clear hown0 hbel0
    obtain ⟨j, ys, out, rfl, h1, h2, hol, hown, hys, hY, hbel⟩ := hrel
    have hsz := hbel.size
    have hlen : ys.length = ss.length * 3 := hown.1
    by_cases hj : j < ss.length
    · obtain ⟨b, off, hab, hlt, hcj⟩ := rdT_atZ (HR1.out.below hbel) hj
      cases hab
      rw [Nat.zero_add] at hcj
      have hjI : (j : Int) < (ss.length : Int) := by omega
      have hpj := hpl.out j hj
      have HP := Lib.hid (fun xs (y : YC t xs) => show ss.length = xs.length ∧ ss.getD j ⟨#[]⟩ = ctx (tk xs j) (ta xs j) (tb xs j) from by
        have e := HYS.out xs y
        have el : ss.length = xs.length := by rw [e, cts_length]
        have g := cts_get (xs := xs) (i := j) (x := ss.getD j ⟨#[]⟩) (by rw [← e, List.getD, List.getElem?_eq_getElem hj]; rfl)
        exact ⟨el, g.2⟩)
      generalize ss.getD j ⟨#[]⟩ = q at *
      have HQ := Lib.hid (parseClue_any q (by omega) wr (HE1.out.below hbel))
      have HO := Lib.hid hown
      have HB := Lib.hid hbel
      clear hown hbel
      go_wp2_with fail
      refine HQ.out.mono ?_; rintro e w2 ⟨u, v, z, okk, rfl, hb2, hv⟩
      have hO2 := row_below HO.out hb2
      have hB2 := Lib.hid (HB.out.trans (hb2.mono hsz))
      have hz2 := hb2.size
      have hg2 := (hO2.lt w1.heap.size rfl).2
      clear HO HB HQ hb2
      rcases hv with ⟨rfl, hu⟩ | ⟨rfl, hno⟩
      · have hY2 : Hid (∀ xs, YC t xs → out ++ [(u, v, z)] = xs.take (j + 1)) := fun xs y => by
          have hp := HP.out xs y
          have hb := y.bd.2 j (by omega)
          rw [hp.2] at hu
          obtain ⟨rfl, rfl, rfl⟩ := rc3_eqs hu (by omega) (by omega) (by omega)
          rw [hY.out xs y, take_succ_t xs j (by omega)]
        have hcy0 := hO2.cellAt (j * 3) (by omega)
        have hcy1 := hO2.cellAt (j * 3 + 1) (by omega)
        have hcy2 := hO2.cellAt (j * 3 + 2) (by omega)
        have hfy0 := hO2.frozenAt (j * 3)
        have hfy1 := hO2.frozenAt (j * 3 + 1)
        have hfy2 := hO2.frozenAt (j * 3 + 2)
        rw [List.getElem?_eq_getElem (by omega)] at hcy0 hcy1 hcy2
        obtain ⟨st1, _⟩ := hO2.stored (j * 3) (.int .i64 u)
        obtain ⟨st2, _⟩ := st1.stored (j * 3 + 1) (.int .i64 v)
        obtain ⟨st3, _⟩ := st2.stored (j * 3 + 2) (.int .i64 z)
        have HST := Lib.hid (st3.alloc (.cells #[.int .i64 u, .int .i64 v, .int .i64 z] 47))
        have hz1 : w1.heap.size ≤ w2.heap.size := by omega
        have hys2 : Hid (∀ i, i < (j + 1) * 3 → (((ys.set (j * 3) (.int .i64 u)).set (j * 3 + 1) (.int .i64 v)).set (j * 3 + 2) (.int .i64 z))[i]? = (cs3 (out ++ [(u, v, z)]))[i]?) := by
          intro i hi
          have hc : (cs3 out).length = j * 3 := by rw [cs3_length, hol]
          rw [cs3_append]
          by_cases q0 : i = j * 3 + 2
          · subst q0; rw [List.getElem?_set_self (by rw [List.length_set, List.length_set]; omega), List.getElem?_append_right (by omega), hc]; simp [cs3]
          · rw [List.getElem?_set_ne (by omega)]
            by_cases q1 : i = j * 3 + 1
            · subst q1; rw [List.getElem?_set_self (by rw [List.length_set]; omega), List.getElem?_append_right (by omega), hc]; simp [cs3]
            · rw [List.getElem?_set_ne (by omega)]
              by_cases q2 : i = j * 3
              · subst q2; rw [List.getElem?_set_self (by omega), List.getElem?_append_right (by omega), hc]; simp [cs3]
              · rw [List.getElem?_set_ne (by omega), List.getElem?_append_left (by omega)]; exact hys.out i (by omega)
        have hlo : (out ++ [(u, v, z)]).length = j + 1 := by simp [hol]
        clear hu HP hO2 st1 st2 st3 hys hY
        go_wp2_with fail
        go_roundg (gk - 1)
        case rel => exact ⟨j + 1, _, out ++ [(u, v, z)], by go_num, by omega, by omega, hlo, HST.out, hys2, hY2, (((hB2.out.setCell (Nat.le_refl _) _).setCell (Nat.le_refl _) _).setCell (Nat.le_refl _) _).alloc (by simp; omega) _⟩
        case measure => omega
      · obtain ⟨rfl, rfl⟩ := HH.out.no fun y => hno (by
          have hp := HP.out R y
          have hb := y.bd.2 j (by omega)
          rw [hp.2]
          exact ⟨_, _, _, rc3_ctx _ _ _ (by omega) (by omega) (by omega)⟩)
        clear hno HP hO2
        go_wp2_with fail
        go_ret2
        exact retC_none ((HB1.out.trans (hB2.out.mono HB1.out.size)).alloc (by have := HB1.out.size; omega) _) rfl
    · have e : j = ss.length := by omega
      have hyx : ys = cs3 out := by
        apply List.ext_getElem?
        intro i
        by_cases q : i < ss.length * 3
        · exact hys.out i (by omega)
        · rw [List.getElem?_eq_none (by omega), List.getElem?_eq_none (by rw [cs3_length]; omega)]
      subst hyx
      have hfull : ∀ xs, YC t xs → out = xs := fun xs y => by
        have el : ss.length = xs.length := by rw [HYS.out xs y, cts_length]
        rw [hY.out xs y, e, el, List.take_length]
      have HF := Lib.hid hfull
      subst e
      have hRo : RdC wr (some ⟨w1.heap.size, 0, none⟩) out := rowT_rd hol hown
      obtain ⟨tb, htb⟩ : ∃ tb, (pzG out && decide (pcx out = t)) = tb := ⟨_, rfl⟩
      have HT := Lib.hid (isTextC t ⟨w1.heap.size, 0, none⟩ ss.length out tb htb wr hRo (by omega) (by omega) (HE1.out.below hbel).tab)
      rw [hol] at HT
      have HO := Lib.hid hown
      have HB := Lib.hid (HB1.out.trans (hbel.mono HB1.out.size))
      have hsw := HB.out.size
      clear hown hbel hRo hfull hys hY
      cases tb
      · obtain ⟨rfl, rfl⟩ := HH.out.no fun y => by
          have e := HF.out R y
          rw [e] at htb
          have h1 : pzG R = true := y.1
          have h2 : pcx R = t := by unfold pcx; rw [h1]; exact y.2
          rw [h1, h2] at htb; simp at htb
        clear htb
        go_wp2_with fail
        refine HT.out.mono ?_; rintro e w5 ⟨rfl, hb5⟩
        go_wp2_with fail
        all_goals try (go_quiet (fail); go_wp2_with fail)
        all_goals (go_ret2; exact retC_none (HB.out.trans ((by first | exact hb5 | exact below_drewN hb5 _ | exact hb5.drew : Below wr.heap.size wr _).mono hsw)) rfl)
      · have hrq := Bool.and_eq_true_iff.1 htb
        have hr := hrq.1
        have hq := of_decide_eq_true hrq.2
        have hjx : pcx out = cjt out out.length := by unfold pcx; rw [hr]; rfl
        have hy : YC t out := ⟨hr, by rw [← hjx]; exact hq⟩
        have hRo : R = out ∧ ok = true := by
          rcases HH.out with ⟨y, k⟩ | ⟨n, _⟩
          · exact ⟨(HF.out R y).symm, k⟩
          · exact absurd hy (n out)
        obtain ⟨rfl, rfl⟩ := hRo
        clear hr hy hjx hrq hq htb
        go_wp2_with fail
        refine HT.out.mono ?_; rintro e w5 ⟨rfl, hb5⟩
        have hO5 := row_below HO.out hb5
        go_wp2_with fail
        go_ret2
        refine ⟨some ⟨w1.heap.size, 0, none⟩, ss.length, by rw [hol]; rfl, ?_, HB.out.trans (hb5.mono hsw)⟩
        unfold OwnC
        rw [hol]
        exact row_low hO5 HB1.out.size
set_option maxHeartbeats 2000000 in
theorem implParsePuzzle (t : ByteArray) (R : List (Int × Int × Int)) (ok : Bool) (H : PHC t R ok) (ht : t.size ≤ 1048576) (w : World) (E : Env w) :
    Calls Tryd.prog 11 #[.string t] w (RetPQ w R ok) := by
  by_cases h0 : t.size = 0
  · obtain ⟨rfl, rfl⟩ := H.empty h0
    have he : t = ⟨#[]⟩ := ByteArray.ext (Array.eq_empty_of_size_eq_zero h0)
    subst he
    clear H
    go_enter Tryd.func11, Tryd.ntmps11
    go_wp2_with fail
    refine bodyPost_ret (v := .tuple #[.agg #[.slice none 0 0], .bool true]) (by simp [results, Tryd.results11, go_sem]) rfl ⟨none, 0, rfl, World.ownsRow_nil _ _ _ _, by (repeat (first | assumption | exact Below.refl _ _ | refine Below.drew ?_ | refine below_drewN ?_ _ | refine Below.setCell ?_ (by first | omega | (simp; done) | (simp; omega)) _ | refine Below.alloc ?_ (by first | omega | (simp; done) | (simp; omega)) _ | refine bchain ?_ (by assumption) (by first | omega | (simp; done) | (simp; omega))))⟩
  · have hne : t.toList.isEmpty = false := by
      rw [ByteArray.toList_eq]
      cases he : t.data.toList with
      | nil =>
        have := congrArg List.length he
        have e2 : t.size = t.data.toList.length := by simp
        simp at this
        exact absurd (by rw [e2, he]; rfl) h0
      | cons a b => rfl
    have HQ := Lib.hid (implParseListC t R ok H (by omega) ht)
    clear H h0
    go_enter Tryd.func11, Tryd.ntmps11
    go_wp2_with fail
    have BA : Below w.heap.size w (w.alloc (.cells #[.slice none 0 0] 30)) := (Below.refl _ _).alloc (Nat.le_refl _) _
    refine (HQ.out _ (E.below BA)).mono ?_; rintro e w1 ⟨a, cap, rfl, hO, hb⟩
    have hz := hb.size
    (try simp only [World.size_alloc] at hz)
    have hlt : w.heap.size < w1.heap.size := by omega
    have hc0 : w1.cell? ⟨w.heap.size, 0, none⟩ = some (.slice none 0 0) := by rw [(bcell hb).1 _ _ (by first | omega | (simp; done) | (simp; omega))]; go_simp
    have hf0 : ∀ o, w1.frozen? ⟨w.heap.size, o, none⟩ = false := fun o => by rw [(bcell hb).2 _ _ (by first | omega | (simp; done) | (simp; omega))]; go_simp
    have B1 : Below w.heap.size w w1 := by (repeat (first | assumption | exact Below.refl _ _ | refine Below.drew ?_ | refine below_drewN ?_ _ | refine Below.setCell ?_ (by first | omega | (simp; done) | (simp; omega)) _ | refine Below.alloc ?_ (by first | omega | (simp; done) | (simp; omega)) _ | refine bchain ?_ (by assumption) (by first | omega | (simp; done) | (simp; omega))))
    have HO := Lib.hid hO
    clear hO hb BA
    go_wp2_with fail
    have e0 : (w1.setCell ⟨w.heap.size, 0, none⟩ (.slice a R.length cap)).cell? ⟨w.heap.size, 0, none⟩ = some (.slice a R.length cap) := by go_simp
    refine bodyPost_ret (v := .tuple #[.agg #[.slice a R.length cap], .bool ok]) (by simp [results, Tryd.results11, go_sem, e0]) rfl ⟨a, cap, rfl, ?_, by (repeat (first | assumption | exact Below.refl _ _ | refine Below.drew ?_ | refine below_drewN ?_ _ | refine Below.setCell ?_ (by first | omega | (simp; done) | (simp; omega)) _ | refine Below.alloc ?_ (by first | omega | (simp; done) | (simp; omega)) _ | refine bchain ?_ (by assumption) (by first | omega | (simp; done) | (simp; omega))))⟩
    exact row_low (row_setLow HO.out ⟨w.heap.size, 0, none⟩ (.slice a R.length cap) (by simp)) (by simp)
end Go.Proofs.YtpmnnfojmnmohaaDoor
