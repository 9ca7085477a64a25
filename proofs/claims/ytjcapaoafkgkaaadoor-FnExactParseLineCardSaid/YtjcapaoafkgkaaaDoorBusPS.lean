/- ParseLine of chapter 7: the model's, by contracts. -/
import Derived.Test.YtjcapaoafkgkaaaDoorBusPM
import Derived.Test.YtjcapaoafkgkaaaDoorBusC
import Derived.Test.YtjcapaoafkgkaaaDoorUni
import Derived.Deep.LoopGhost
import Derived.Deep.QuietTactic
import Derived.Deep.RegionLaw
import Derived.Deep.AppendLies
import Derived.Deep.RegionHeld3
import Derived.BigQuiet
namespace Go.Proofs.YtjcapaoafkgkaaaDoor
open Go.RowKit
set_option linter.unusedVariables false
set_option linter.unusedSimpArgs false
/-- a block holds a struct of four cells, none frozen -/
def BoxF (w : World) (b : Nat) (v0 v1 v2 v3 : Value) : Prop := Box w b v0 v1 v2 v3 ∧ ∀ o, w.frozen? ⟨b, o, none⟩ = false
theorem BoxF.below {w w' : World} {b : Nat} {v0 v1 v2 v3 : Value} (h : BoxF w b v0 v1 v2 v3) (hb : Below w.heap.size w w') : BoxF w' b v0 v1 v2 v3 :=
  ⟨h.1.below hb, fun o => by rw [(bcell hb).2 b o h.1.1]; exact h.2 o⟩
theorem boxF_new (w : World) (v0 v1 v2 v3 : Value) (T : TypeId) : BoxF (w.alloc (.cells #[v0, v1, v2, v3] T)) w.heap.size v0 v1 v2 v3 :=
  ⟨⟨by simp, by go_simp, by go_simp, by go_simp, by go_simp⟩, fun o => by go_simp⟩
/-- what a parser of lines answers -/
def RetPL (t : ByteArray) (w : World) (r : Ending) (w' : World) : Prop :=
  ∃ (f e c : Int) (a : Option Addr) (cap : Nat) (xs : List Int) (b : Bool), r = .returned (.tuple #[.agg #[.int .i64 f, .int .i64 e, .int .i64 c, .slice a xs.length cap], .bool b]) ∧ Own w' w.heap.size a cap xs ∧ Below w.heap.size w w' ∧ (b = true → LT t f e c xs) ∧ (∀ f' e' c' xs', LT t f' e' c' xs' → b = true ∧ f' = f ∧ e' = e ∧ c' = c ∧ xs' = xs)
theorem retPL_none {t : ByteArray} {w w' : World} (hb : Below w.heap.size w w') (no : ∀ f e c xs, ¬ LT t f e c xs) : RetPL t w (.returned (.tuple #[.agg #[.int .i64 0, .int .i64 0, .int .i64 0, .slice none 0 0], .bool false])) w' :=
  ⟨0, 0, 0, none, 0, [], false, rfl, own_nil _ _, hb, fun h => (by cases h), fun f e c xs y => absurd y (no f e c xs)⟩
theorem spl_countB (c : UInt8) : ∀ l : List UInt8, (spl c l).length ≤ l.length + 1
  | [] => by simp [spl]
  | x :: r => by
    have ih := spl_countB c r
    simp only [spl]
    split
    · simp; omega
    · cases hs : spl c r with
      | nil => simp [prep]
      | cons a zs => rw [hs] at ih; rw [prep_cons]; simp at ih ⊢; omega
theorem BoxF.low {B : Nat} {w w' : World} {b : Nat} {v0 v1 v2 v3 : Value} (h : BoxF w b v0 v1 v2 v3) (hb : Below B w w') (hlt : b < B) : BoxF w' b v0 v1 v2 v3 := by
  obtain ⟨⟨h0, h1, h2, h3, h4⟩, h5⟩ := h
  have e := fun o => hb.cell (p := ⟨b, o, none⟩) hlt
  exact ⟨⟨Nat.lt_of_lt_of_le h0 hb.size, by rw [e]; exact h1, by rw [e]; exact h2, by rw [e]; exact h3, by rw [e]; exact h4⟩, fun o => by rw [hb.frozen (p := ⟨b, o, none⟩) hlt]; exact h5 o⟩
theorem BoxF.set3 {w : World} {b : Nat} {v0 v1 v2 v3 : Value} (h : BoxF w b v0 v1 v2 v3) (u : Value) : BoxF (w.setCell ⟨b, 3, none⟩ u) b v0 v1 v2 u := by
  obtain ⟨⟨h0, h1, h2, h3, h4⟩, h5⟩ := h
  exact ⟨⟨by simpa using h0, by go_simp, by go_simp, by go_simp, by go_simp⟩, fun o => by rw [World.frozen?_setCell]; exact h5 o⟩
theorem rowSetLow {w : World} {base e size n : Nat} {v : Value} {xs : List Value} (h : w.ownsRow base e size v n xs) (p : Addr) (u : Value) (hp : p.block < base) : (w.setCell p u).ownsRow base e size v n xs := by
  obtain ⟨hl, h⟩ := h
  refine ⟨hl, ?_⟩
  rcases h with h | ⟨g, c, cur, e, h1, h2, h3⟩
  · exact .inl h
  · refine .inr ⟨g, c, cur, e, h1, ?_, h3⟩
    unfold World.setCell
    simp only [Array.getElem?_modify]
    rw [if_neg (by omega)]; exact h2
theorem cell_one_newB (w : World) (u : Value) (e : TypeId) : ∀ (j : Nat) (x : Value), [u][j]? = some x → (w.alloc (.cells #[u] e)).cell? ((⟨w.heap.size, 0, none⟩ : Addr).add j) = some x := by
  intro j x hx
  have ea : (⟨w.heap.size, 0, none⟩ : Addr).add j = ⟨w.heap.size, j, none⟩ := by unfold Addr.add; split <;> simp_all
  rw [ea]
  match j, hx with
  | 0, hx => simp at hx; subst hx; go_simp
  | j + 1, hx => simp at hx
theorem spl_neB (c : UInt8) : ∀ l : List UInt8, spl c l ≠ []
  | [] => by simp [spl]
  | x :: r => by
    simp only [spl]
    split
    · simp
    · have := spl_neB c r
      cases hs : spl c r with
      | nil => exact absurd hs this
      | cons a zs => simp [prep]
theorem word_at {t q : ByteArray} {f e c : Int} {xs : List Int} {ws : List ByteArray} (hs : ws.map lst = spl 44 q.data.toList) (hq : q.data.toList = spB2 xs) (y : LT t f e c xs) : ws.length = xs.length ∧ ∀ j, j < ws.length → rdL (ws.getD j ⟨#[]⟩).data.toList = xs.getD j 0 := by
  rw [hq, y.spl44] at hs
  have el := congrArg List.length hs
  rw [List.length_map, List.length_map, sts_length] at el
  refine ⟨el, fun j hj => ?_⟩
  have q := congrArg (fun l => l[j]?) hs
  simp only [List.getElem?_map] at q
  rw [List.getElem?_eq_getElem hj, List.getElem?_eq_getElem (by rw [sts_length]; omega)] at q
  simp at q
  have g := sts_get (xs := xs) (i := j) (x := (sts xs)[j]'(by rw [sts_length]; omega)) (List.getElem?_eq_getElem _)
  have hb := y.bd j (by omega)
  have hL := y.lin.bd j (by omega)
  rw [List.getD, List.getElem?_eq_getElem hj]
  simp only [Option.getD_some]
  have e1 : ws[j].data.toList = (itx (xs.getD j 0)).data.toList := by rw [← g.2]; exact q
  rw [e1, itx_listB hb.1, rdL_intB hb.1 (by omega)]
theorem cell_setB {w : World} {b o b2 o2 : Nat} {v : Value} (h : b ≠ b2) : (w.setCell ⟨b2, o2, none⟩ v).cell? ⟨b, o, none⟩ = w.cell? ⟨b, o, none⟩ := by
  have h2 : ¬ b2 = b := fun e => h e.symm
  unfold World.setCell World.cell?
  simp [Array.getElem?_modify, h2]
theorem bytes_beqB (x t : ByteArray) : (x.toList == t.toList) = decide (x = t) := by
  by_cases h : x = t
  · subst h; simp
  · rw [decide_eq_false h, beq_eq_false_iff_ne, ByteArray.toList_eq, ByteArray.toList_eq]
    exact fun q => h (ByteArray.ext (Array.toList_inj.1 q))
theorem rdT_twoB {w : World} {a : Option Addr} {p q : ByteArray} (h : RdT w a [p, q]) : ∃ b off, a = some ⟨b, off, none⟩ ∧ b < w.heap.size ∧ w.cell? ⟨b, off, none⟩ = some (.string p) ∧ w.cell? ⟨b, off + 1, none⟩ = some (.string q) := by
  rcases h with h | ⟨b, off, rfl, hlt, hc⟩
  · cases h
  · exact ⟨b, off, rfl, hlt, hc 0 (by simp), hc 1 (by simp)⟩
theorem two_lst {x : ByteArray} {ss : List ByteArray} {c : UInt8} {u v : List UInt8} (hs : ss.map lst = spl c x.data.toList) (h : spl c x.data.toList = [u, v]) : ss.length = 2 := by
  have := congrArg List.length (hs.trans h)
  simpa using this
theorem two_pieces {x p q : ByteArray} {c : UInt8} {u v : List UInt8} (hs : [p, q].map lst = spl c x.data.toList) (h : spl c x.data.toList = [u, v]) : p.data.toList = u ∧ q.data.toList = v := by
  have e := hs.trans h
  simp [lst] at e
  exact e
theorem piece_size {x p : ByteArray} {ss : List ByteArray} {c : UInt8} (hs : ss.map lst = spl c x.data.toList) (hp : p ∈ ss) : p.size ≤ x.size := by
  have hm : p.data.toList ∈ spl c x.data.toList := by rw [← hs, List.mem_map]; exact ⟨p, hp, rfl⟩
  have := spl_len c _ _ hm
  have e2 : p.size = p.data.toList.length := by simp
  have e3 : x.size = x.data.toList.length := by simp
  omega
set_option maxHeartbeats 8000000 in
set_option maxRecDepth 100000 in
theorem buParse_any (t : ByteArray) (ht : t.size ≤ 1048576) (w : World) :
    Calls Tryd.prog 22 #[.string t] w (RetPL t w) := by
  obtain ⟨i0, hi, hz0, hz1, hz2⟩ := info_parts intInfo
  go_enter Tryd.func22, Tryd.ntmps22
  go_wp2_with fail
  have hb0 : Below w.heap.size w (w.alloc (.cells #[.int .i64 0, .int .i64 0, .int .i64 0, .slice none 0 0] 28)) := (Below.refl _ _).alloc (Nat.le_refl _) _
  have bN0 := boxF_new w (.int .i64 0) (.int .i64 0) (.int .i64 0) (.slice none 0 0) 28
  generalize World.alloc w (.cells #[.int .i64 0, .int .i64 0, .int .i64 0, .slice none 0 0] 28) = w0 at *
  refine (l1Split_any t 58 ht w0).mono ?_; rintro e w1 ⟨a1, c1, ss, rfl, hO1, hb1, hs1⟩
  have B1 : Below w.heap.size w w1 := hb0.trans (hb1.mono hb0.size)
  have bN1 := bN0.below hb1
  clear bN0
  by_cases hbig : 80 < t.size
  · have hbI : (80 : Int) < (t.size : Int) := by omega
    obtain ⟨⟨_, z0, z1, z2, z3⟩, zf⟩ := id bN1
    go_wp2_with fail
    refine bodyPost_ret (v := .tuple #[.agg #[.int .i64 0, .int .i64 0, .int .i64 0, .slice none 0 0], .bool false]) (by simp [results, Tryd.results22, go_sem, z0, z1, z2, z3]) rfl (retPL_none ?_ (fun f e c xs y => by have := y.size; omega))
    exact (((B1.setCell (Nat.le_refl _) _).setCell (Nat.le_refl _) _).setCell (Nat.le_refl _) _).setCell (Nat.le_refl _) _
  have hbI : ¬ (80 : Int) < (t.size : Int) := by omega
  by_cases h2 : ss.length = 2
  case neg =>
    have heI : ¬ (ss.length : Int) = 2 := by omega
    have heN : ((ss.length : Int) != 2) = true := bne_iff_ne.2 heI
    have hbB : decide ((80 : Int) < (t.size : Int)) = false := decide_eq_false hbI
    clear hbI heI
    obtain ⟨⟨_, z0, z1, z2, z3⟩, zf⟩ := id bN1
    go_wp2_with fail
    refine bodyPost_ret (v := .tuple #[.agg #[.int .i64 0, .int .i64 0, .int .i64 0, .slice none 0 0], .bool false]) (by simp [results, Tryd.results22, go_sem, z0, z1, z2, z3]) rfl (retPL_none ?_ (fun f e c xs y => h2 (two_lst hs1 y.spl58)))
    exact (((B1.setCell (Nat.le_refl _) _).setCell (Nat.le_refl _) _).setCell (Nat.le_refl _) _).setCell (Nat.le_refl _) _
  obtain ⟨p, q, rfl⟩ := two_len h2
  have hp80 := piece_size hs1 (p := p) (by simp)
  have hq80 := piece_size hs1 (p := q) (by simp)
  have HY := Lib.hid (fun f e c xs (y : LT t f e c xs) => two_pieces hs1 y.spl58)
  obtain ⟨b1, o1, rfl, hl1, cp, cq⟩ := rdT_twoB hO1.rd
  clear hs1 hO1 h2 hbI hb0 hb1
  go_wp2_with fail
  refine (l1Split_any p 43 (by omega) w1).mono ?_; rintro e w2 ⟨a2, c2, ss, rfl, hO2, hb2, hs2⟩
  have B2 : Below w.heap.size w w2 := B1.trans (hb2.mono B1.size)
  have bN2 := bN1.below hb2
  have cq2 : w2.cell? ⟨b1, o1 + 1, none⟩ = some (.string q) := by rw [(bcell hb2).1 b1 _ hl1]; exact cq
  have hl12 : b1 < w2.heap.size := Nat.lt_of_lt_of_le hl1 hb2.size
  clear bN1 cp cq hb2
  by_cases h2 : ss.length = 2
  case neg =>
    have heI : ¬ (ss.length : Int) = 2 := by omega
    have heB : ((ss.length : Int) == 2) = false := beq_false_of_ne heI
    have heN : ((ss.length : Int) != 2) = true := bne_iff_ne.2 heI
    obtain ⟨⟨_, z0, z1, z2, z3⟩, zf⟩ := id bN2
    go_wp2_with fail
    refine bodyPost_ret (v := .tuple #[.agg #[.int .i64 0, .int .i64 0, .int .i64 0, .slice none 0 0], .bool false]) (by simp [results, Tryd.results22, go_sem, z0, z1, z2, z3]) rfl (retPL_none ?_ (fun f e c xs y => h2 (two_lst hs2 (by rw [(HY.out f e c xs y).1]; exact spl_hd f e c))))
    exact (((B2.setCell (Nat.le_refl _) _).setCell (Nat.le_refl _) _).setCell (Nat.le_refl _) _).setCell (Nat.le_refl _) _
  obtain ⟨p1, p2, rfl⟩ := two_len h2
  have hp1 := piece_size hs2 (p := p1) (by simp)
  have hp2 := piece_size hs2 (p := p2) (by simp)
  have HY1 := Lib.hid (fun f e c xs (y : LT t f e c xs) => two_pieces hs2 (by rw [(HY.out f e c xs y).1]; exact spl_hd f e c))
  obtain ⟨b2, o2, rfl, hl2, cp1, cp2⟩ := rdT_twoB hO2.rd
  clear hs2 hO2 h2
  go_wp2_with fail
  refine (l1Split_any p2 120 (by omega) w2).mono ?_; rintro e w3 ⟨a3, c3, ss, rfl, hO3, hb3, hs3⟩
  have B3 : Below w.heap.size w w3 := B2.trans (hb3.mono B2.size)
  have bN3 := bN2.below hb3
  have cq3 : w3.cell? ⟨b1, o1 + 1, none⟩ = some (.string q) := by rw [(bcell hb3).1 b1 _ hl12]; exact cq2
  have cp13 : w3.cell? ⟨b2, o2, none⟩ = some (.string p1) := by rw [(bcell hb3).1 b2 _ hl2]; exact cp1
  have hl13 : b1 < w3.heap.size := Nat.lt_of_lt_of_le hl12 hb3.size
  have hl23 : b2 < w3.heap.size := Nat.lt_of_lt_of_le hl2 hb3.size
  clear bN2 cp1 cp2 cq2 hb3
  by_cases h2 : ss.length = 2
  case neg =>
    have heI : ¬ (ss.length : Int) = 2 := by omega
    have heB : ((ss.length : Int) == 2) = false := beq_false_of_ne heI
    have heN : ((ss.length : Int) != 2) = true := bne_iff_ne.2 heI
    obtain ⟨⟨_, z0, z1, z2, z3⟩, zf⟩ := id bN3
    go_wp2_with fail
    refine bodyPost_ret (v := .tuple #[.agg #[.int .i64 0, .int .i64 0, .int .i64 0, .slice none 0 0], .bool false]) (by simp [results, Tryd.results22, go_sem, z0, z1, z2, z3]) rfl (retPL_none ?_ (fun f e c xs y => h2 (two_lst hs3 (by rw [(HY1.out f e c xs y).2]; exact spl_tl e c))))
    exact (((B3.setCell (Nat.le_refl _) _).setCell (Nat.le_refl _) _).setCell (Nat.le_refl _) _).setCell (Nat.le_refl _) _
  obtain ⟨m1, m2, rfl⟩ := two_len h2
  have hm1 := piece_size hs3 (p := m1) (by simp)
  have hm2 := piece_size hs3 (p := m2) (by simp)
  have HY2 := Lib.hid (fun f e c xs (y : LT t f e c xs) => two_pieces hs3 (by rw [(HY1.out f e c xs y).2]; exact spl_tl e c))
  obtain ⟨b3, o3, rfl, hl3, cm1, cm2⟩ := rdT_twoB hO3.rd
  clear hs3 hO3 h2
  have HF : Hid (∀ f e c xs, LT t f e c xs → f = rdL p1.data.toList ∧ e = rdL m1.data.toList ∧ c = rdL m2.data.toList) := fun f e c xs y => by
    have L := y.lin
    have a1 := L.f0
    have a2 := L.f1
    have a3 := L.e0
    have a4 := L.e1
    have a5 := L.c0
    have a6 := L.c1
    rw [(HY1.out f e c xs y).1, (HY2.out f e c xs y).1, (HY2.out f e c xs y).2]
    exact ⟨(rdL_intB (by omega) (by omega)).symm, (rdL_intB (by omega) (by omega)).symm, (rdL_intB (by omega) (by omega)).symm⟩
  have HQ := Lib.hid (fun f e c xs (y : LT t f e c xs) => (HY.out f e c xs y).2)
  clear HY HY1 HY2
  have hR1 := Lib.hid (fun w => l1Read_any p1 (by omega) w)
  have hR2 := Lib.hid (fun w => l1Read_any m1 (by omega) w)
  have hR3 := Lib.hid (fun w => l1Read_any m2 (by omega) w)
  have bd1 := rdL_bd p1.data.toList
  have bd2 := rdL_bd m1.data.toList
  have bd3 := rdL_bd m2.data.toList
  generalize rdL p1.data.toList = F at *
  generalize rdL m1.data.toList = E at *
  generalize rdL m2.data.toList = C at *
  go_wp2_with fail
  have hl33 : b3 < w3.heap.size := hl3
  have hh1 := Lib.hid cq3
  have hB3 := Lib.hid B3
  have hbN3 := Lib.hid bN3
  clear cq3 B3 bN3 hp1 hp2 hm1 hm2
  refine wp_uni [7, 37, 38, 39, 40, 41, 42, 43, 44, 45, 46, 47, 48, 49] (fun vs X => ∃ (v1 v2 v3 v4 v5 v6 v7 v8 v9 v10 v11 v12 v13 : Value), vs = [.pointer (some ⟨w3.heap.size, 0, none⟩), v1, v2, v3, v4, v5, v6, v7, v8, v9, v10, v11, v12, v13] ∧ Below w3.heap.size w3 X ∧ BoxF X w3.heap.size (.int .i64 F) (.int .i64 E) (.int .i64 C) (.slice none 0 0)) ?_ ?_
  · go_region_held3 (fun v => Below w3.heap.size w3 v ∧ w3.heap.size ≤ v.heap.size ∧ v.cell? ⟨b2, o2, none⟩ = some (.string p1) ∧ v.cell? ⟨b3, o3, none⟩ = some (.string m1) ∧ v.cell? ⟨b3, o3 + 1, none⟩ = some (.string m2))
      (refine ⟨?_, ?_, ?_, ?_, ?_⟩ <;> first | with_reducible assumption | (go_simp; done) | ((repeat (first | with_reducible refine Below.setCell ?_ (by first | omega | (simp; done) | (simp; omega)) _ | with_reducible refine Below.drew ?_ | with_reducible refine below_drewN ?_ _ | with_reducible refine Below.alloc ?_ (by first | omega | (simp; done) | (simp; omega)) _ | with_reducible exact Below.refl _ _ | with_reducible assumption | with_reducible refine bchain ?_ (by with_reducible assumption) (by first | omega | (simp; done) | (simp; omega)))); done) | (simp; omega) | omega)
      (first | (go_at_call_of 36 (Value.string p1); refine (hR1.out _).mono ?_; rintro e w4 ⟨rfl, rfl⟩) | (go_at_call_of 36 (Value.string m1); refine (hR2.out _).mono ?_; rintro e w4 ⟨rfl, rfl⟩) | (go_at_call_of 36 (Value.string m2); refine (hR3.out _).mono ?_; rintro e w4 ⟨rfl, rfl⟩))
    all_goals
      rename_i hHeld
      have hH1 := hHeld.1
      clear hHeld
      refine' ⟨rfl, [_, _, _, _, _, _, _, _, _, _, _, _, _, _], ?_, ?_⟩
      rotate_left 14
      simp only [List.zip_cons_cons, List.zip_nil_left, putsU, Act.put, List.setIfInBounds_toArray, List.set_cons_zero, List.set_cons_succ]
      rfl
      exact ⟨_, _, _, _, _, _, _, _, _, _, _, _, _, rfl, hH1, boxF_new w3 _ _ _ _ _⟩
  · rintro vs w4 ⟨v1, v2, v3, v4, v5, v6, v7, v8, v9, v10, v11, v12, v13, rfl, hb4, bL4⟩
    simp only [List.zip_cons_cons, List.zip_nil_left, putsU, Act.put, List.setIfInBounds_toArray, List.set_cons_zero, List.set_cons_succ]
    have hB4 := Lib.hid (hB3.out.trans (hb4.mono hB3.out.size))
    have bN4 := Lib.hid (hbN3.out.below hb4)
    have cq4 : w4.cell? ⟨b1, o1 + 1, none⟩ = some (.string q) := by rw [(bcell hb4).1 b1 _ hl13]; exact hh1.out
    have hz4 : w3.heap.size < w4.heap.size := bL4.1.1
    have HB34 := Lib.hid hb4
    have HBL4 := Lib.hid bL4
    clear hb4 bL4 cp13 cm1 cm2
    go_wp2_with fail
    refine (l1Split_any q 44 (by omega) w4).mono ?_; rintro e w5 ⟨a5, c5, ws, rfl, hO5, hb5, hs5⟩
    have bL5 := HBL4.out.below hb5
    have B35 : Below w3.heap.size w3 w5 := HB34.out.trans (hb5.mono HB34.out.size)
    have HR5 := Lib.hid hO5.rd
    have hgb : Hid (∀ k, (Value.slice a5 ws.length c5).ownBlock = some k → w4.heap.size ≤ k ∧ k < w5.heap.size) := fun k hk => hO5.lt k hk
    have hz5 : w4.heap.size ≤ w5.heap.size := hb5.size
    have hwl : ws.length ≤ 81 := by
      have := spl_countB 44 q.data.toList
      rw [← hs5, List.length_map] at this
      have e2 : q.size = q.data.toList.length := by simp
      omega
    have HWS := Lib.hid hs5
    have HB35 := Lib.hid B35
    have HBL5 := Lib.hid bL5
    clear cq4 hO5 hb5 hs5 bL5 B35 HBL4 HB34
    have hne : ws ≠ [] := fun e => spl_neB 44 q.data.toList (by rw [← HWS.out, e]; rfl)
    rcases HR5.out with h | ⟨b5, o5, rfl, hl5, hw5⟩
    · exact absurd h hne
    have hb5 := hgb.out b5 rfl
    have hbs : Hid (∀ f e c xs, LT t f e c xs → ws.length = xs.length ∧ ∀ j, j < ws.length → rdL (ws.getD j ⟨#[]⟩).data.toList = xs.getD j 0) := fun f e c xs y => word_at HWS.out (HQ.out f e c xs y) y
    have HW5 := Lib.hid hw5
    have hwsz : Hid (∀ j, j < ws.length → (ws.getD j ⟨#[]⟩).size ≤ 1048576) := fun j hj => by
      have := piece_size HWS.out (p := ws.getD j ⟨#[]⟩) (by rw [List.getD, List.getElem?_eq_getElem hj]; exact List.getElem_mem hj)
      omega
    clear hne hw5 hgb HR5
    go_wp2_with fail
    go_loopg [55] ws.length (fun k v55 wr => ∃ (j : Nat) (ao : Option Addr) (co : Nat) (out : List Int), v55 = .int .i64 (j : Int) ∧ j + k ≤ ws.length ∧ ws.length ≤ j + k ∧ out.length = j ∧ BoxF wr w3.heap.size (.int .i64 F) (.int .i64 E) (.int .i64 C) (.slice ao j co) ∧ wr.ownsRow w5.heap.size 3 1 (.slice ao j co) j (out.map (Value.int .i64)) ∧ Hid (∀ f e c xs, LT t f e c xs → out = xs.take j) ∧ Hid (∀ i, i < ws.length → wr.cell? ⟨b5, o5 + i, none⟩ = some (.string (ws.getD i ⟨#[]⟩))) ∧ Below w3.heap.size w3 wr ∧ w5.heap.size ≤ wr.heap.size)
    case atStart => exact ⟨0, none, 0, [], rfl, by omega, by omega, rfl, HBL5.out, World.ownsRow_nil _ _ _ _, fun f e c xs _ => by simp, HW5.out, HB35.out, Nat.le_refl _⟩
    case round =>
      obtain ⟨j, ao, co, out, rfl, h1, h2, hol, bL, hown, hY, hcw, hbel, hzr⟩ := hrel
      by_cases hj : j < ws.length
      · have hjI : (j : Int) < (ws.length : Int) := by omega
        have hcj := hcw.out j hj
        have hR := Lib.hid (fun w => l1Read_any (ws.getD j ⟨#[]⟩) (by have := hwsz.out j hj; omega) w)
        have bd := rdL_bd (ws.getD j ⟨#[]⟩).data.toList
        have hY2 : Hid (∀ f e c xs, LT t f e c xs → out ++ [rdL (ws.getD j ⟨#[]⟩).data.toList] = xs.take (j + 1)) := fun f e c xs y => by
          have hh := hbs.out f e c xs y
          rw [hY.out f e c xs y, hh.2 j hj, take_succ_i xs j (by omega)]
        clear hY
        generalize ws.getD j ⟨#[]⟩ = u at *
        generalize rdL u.data.toList = x at *
        have hL5 : w3.heap.size < w5.heap.size := by omega
        obtain ⟨⟨_, l0, l1, l2, l3⟩, lf⟩ := id bL
        have HBL := Lib.hid bL
        have hOd0 : Hid (wr.ownsRow w5.heap.size 3 1 (.slice ao j co) j (out.map (Value.int .i64))) := hown
        have hOd1 : Hid (wr.drew.ownsRow w5.heap.size 3 1 (.slice ao j co) j (out.map (Value.int .i64))) := hown
        have hOd2 : Hid (wr.drew.drew.ownsRow w5.heap.size 3 1 (.slice ao j co) j (out.map (Value.int .i64))) := hown
        have hOd3 : Hid (wr.drew.drew.drew.ownsRow w5.heap.size 3 1 (.slice ao j co) j (out.map (Value.int .i64))) := hown
        have HBE := Lib.hid hbel
        clear hown bL hbel
        go_wp2_with fail
        go_region_law (first | (go_simp; go_at_call 36; refine (hR.out _).mono ?_; rintro e w7 ⟨rfl, rfl⟩) | (refine step_append_lies _ rfl _ _ 22 rfl w5.heap.size 3 i0 (.int .i64 0) 1 8 Tryd.underlying22 hi hz0 hz1 hz2 rfl (by decide) _ _ _ rfl (hOd0.out.alloc _) ⟨wr.heap.size, 0, none⟩ 1 1 [.int .i64 x] rfl rfl (cell_one_newB wr _ _) (fun y hy => by simp at hy; subst hy; rfl) (by decide) (by unfold maxLen; omega) (by omega) (by first | omega | (simp; omega)) _ rfl ?_; intro a6 c6 w6 hO6 hgrow hat hlt6; have HO6 := Lib.hid hO6; have hb6 : Below w5.heap.size wr w6 := ((Below.refl w5.heap.size wr).alloc (by first | omega | (simp; omega)) _).grown hgrow (by first | omega | (simp; omega)) (fun k hk => (hOd0.out.lt k hk).1); have e3 : w6.cell? ⟨w3.heap.size, 3, none⟩ = some (.slice ao j co) := (by rw [hb6.cell (p := ⟨w3.heap.size, 3, none⟩) hL5]; exact l3); have ef : ∀ o, w6.frozen? ⟨w3.heap.size, o, none⟩ = false := (fun o => by rw [hb6.frozen (p := ⟨w3.heap.size, o, none⟩) hL5]; exact lf o); have HB6 := Lib.hid hb6; clear hgrow hO6 hat hb6) | (refine step_append_lies _ rfl _ _ 22 rfl w5.heap.size 3 i0 (.int .i64 0) 1 8 Tryd.underlying22 hi hz0 hz1 hz2 rfl (by decide) _ _ _ rfl (hOd1.out.alloc _) ⟨wr.drew.heap.size, 0, none⟩ 1 1 [.int .i64 x] rfl rfl (cell_one_newB wr.drew _ _) (fun y hy => by simp at hy; subst hy; rfl) (by decide) (by unfold maxLen; omega) (by omega) (by first | omega | (simp; omega)) _ rfl ?_; intro a6 c6 w6 hO6 hgrow hat hlt6; have HO6 := Lib.hid hO6; have hb6 : Below w5.heap.size wr w6 := ((Below.refl w5.heap.size wr).drew.alloc (by first | omega | (simp; omega)) _).grown hgrow (by first | omega | (simp; omega)) (fun k hk => (hOd1.out.lt k hk).1); have e3 : w6.cell? ⟨w3.heap.size, 3, none⟩ = some (.slice ao j co) := (by rw [hb6.cell (p := ⟨w3.heap.size, 3, none⟩) hL5]; exact l3); have ef : ∀ o, w6.frozen? ⟨w3.heap.size, o, none⟩ = false := (fun o => by rw [hb6.frozen (p := ⟨w3.heap.size, o, none⟩) hL5]; exact lf o); have HB6 := Lib.hid hb6; clear hgrow hO6 hat hb6) | (refine step_append_lies _ rfl _ _ 22 rfl w5.heap.size 3 i0 (.int .i64 0) 1 8 Tryd.underlying22 hi hz0 hz1 hz2 rfl (by decide) _ _ _ rfl (hOd2.out.alloc _) ⟨wr.drew.drew.heap.size, 0, none⟩ 1 1 [.int .i64 x] rfl rfl (cell_one_newB wr.drew.drew _ _) (fun y hy => by simp at hy; subst hy; rfl) (by decide) (by unfold maxLen; omega) (by omega) (by first | omega | (simp; omega)) _ rfl ?_; intro a6 c6 w6 hO6 hgrow hat hlt6; have HO6 := Lib.hid hO6; have hb6 : Below w5.heap.size wr w6 := ((Below.refl w5.heap.size wr).drew.drew.alloc (by first | omega | (simp; omega)) _).grown hgrow (by first | omega | (simp; omega)) (fun k hk => (hOd2.out.lt k hk).1); have e3 : w6.cell? ⟨w3.heap.size, 3, none⟩ = some (.slice ao j co) := (by rw [hb6.cell (p := ⟨w3.heap.size, 3, none⟩) hL5]; exact l3); have ef : ∀ o, w6.frozen? ⟨w3.heap.size, o, none⟩ = false := (fun o => by rw [hb6.frozen (p := ⟨w3.heap.size, o, none⟩) hL5]; exact lf o); have HB6 := Lib.hid hb6; clear hgrow hO6 hat hb6) | (refine step_append_lies _ rfl _ _ 22 rfl w5.heap.size 3 i0 (.int .i64 0) 1 8 Tryd.underlying22 hi hz0 hz1 hz2 rfl (by decide) _ _ _ rfl (hOd3.out.alloc _) ⟨wr.drew.drew.drew.heap.size, 0, none⟩ 1 1 [.int .i64 x] rfl rfl (cell_one_newB wr.drew.drew.drew _ _) (fun y hy => by simp at hy; subst hy; rfl) (by decide) (by unfold maxLen; omega) (by omega) (by first | omega | (simp; omega)) _ rfl ?_; intro a6 c6 w6 hO6 hgrow hat hlt6; have HO6 := Lib.hid hO6; have hb6 : Below w5.heap.size wr w6 := ((Below.refl w5.heap.size wr).drew.drew.drew.alloc (by first | omega | (simp; omega)) _).grown hgrow (by first | omega | (simp; omega)) (fun k hk => (hOd3.out.lt k hk).1); have e3 : w6.cell? ⟨w3.heap.size, 3, none⟩ = some (.slice ao j co) := (by rw [hb6.cell (p := ⟨w3.heap.size, 3, none⟩) hL5]; exact l3); have ef : ∀ o, w6.frozen? ⟨w3.heap.size, o, none⟩ = false := (fun o => by rw [hb6.frozen (p := ⟨w3.heap.size, o, none⟩) hL5]; exact lf o); have HB6 := Lib.hid hb6; clear hgrow hO6 hat hb6))
        all_goals go_wp2_with fail
        all_goals go_roundg (gk - 1)
        all_goals first
          | exact ⟨j + 1, some ⟨a6, 0, none⟩, c6, out ++ [x], by go_num, by omega, by omega, by simp [hol], (HBL.out.low HB6.out hL5).set3 _, rowSetLow (by rw [List.map_append]; exact HO6.out) _ _ hL5, hY2, fun i hi => by rw [cell_setB (by omega), HB6.out.cell (p := ⟨b5, o5 + i, none⟩) hl5]; exact hcw.out i hi, (HBE.out.trans (HB6.out.mono (by omega))).setCell (Nat.le_refl _) _, by have := HB6.out.size; simp; omega⟩
          | omega
      · have e : j = ws.length := by omega
        have HO : Hid (∀ f e c xs, LT t f e c xs → out = xs ∧ f = F ∧ e = E ∧ c = C) := fun f e' c xs y => by
          refine ⟨?_, HF.out f e' c xs y⟩
          rw [hY.out f e' c xs y, e, (hbs.out f e' c xs y).1, List.take_length]
        subst hol
        have hown : Own wr w5.heap.size ao co out := hown
        have HOW := Lib.hid hown
        have HR := Lib.hid hown.rd
        have hol : out.length ≤ 1048576 := by omega
        have bNr := hbN3.out.low hbel (by have := hbN3.out.1.1; omega)
        have HBW : Hid (Below w.heap.size w wr) := Lib.hid (hB3.out.trans (hbel.mono hB3.out.size))
        have hwz : w.heap.size < wr.heap.size := bNr.1.1
        obtain ⟨⟨hLz, l0, l1, l2, l3⟩, lf⟩ := bL
        have HN := Lib.hid bNr
        have B0 := HBW.out
        have hLN : w3.heap.size ≠ w.heap.size := by have := hbN3.out.1.1; omega
        have hjn : ¬ ((out.length : Int) < (ws.length : Int)) := by omega
        clear hown hbel hcw hY e bNr h1 h2 hj
        have hz53 : w3.heap.size < w5.heap.size := by omega
        have hN5 : w.heap.size < w5.heap.size := by have := hB3.out.size; omega
        go_wp2_with fail
        cases hg : lnB F E C out
        · refine wp_region_held_drew (S := (fun v => Below w.heap.size w v ∧ v.cell? ⟨w3.heap.size, 0, none⟩ = some (.int .i64 F) ∧ v.cell? ⟨w3.heap.size, 1, none⟩ = some (.int .i64 E) ∧ v.cell? ⟨w3.heap.size, 2, none⟩ = some (.int .i64 C) ∧ v.cell? ⟨w3.heap.size, 3, none⟩ = some (.slice ao out.length co))) (by kernel_rfl) ?_ (fun hHeld => ?_)
          · (try dsimp only); (refine ⟨?_, ?_, ?_, ?_, ?_⟩ <;> first | with_reducible assumption | (go_simp; done) | (simp only [cell_setB hLN]; first | with_reducible assumption | (go_simp; done)) | ((repeat (first | with_reducible refine Below.setCell ?_ (by first | omega | (simp; done) | (simp; omega)) _ | with_reducible refine Below.drew ?_ | with_reducible refine below_drewN ?_ _ | with_reducible refine Below.alloc ?_ (by first | omega | (simp; done) | (simp; omega)) _ | with_reducible exact Below.refl _ _ | with_reducible assumption | with_reducible refine bchain ?_ (by with_reducible assumption) (by first | omega | (simp; done) | (simp; omega)))); done))
          refine wpAnyH_take (i := 0) (v := ?_) rfl (by kernel_rfl) (by kernel_rfl) (by kernel_rfl) (fun _ _ _ h => h) (Or.inl ⟨by kernel_rfl, ?_⟩) (by assumption) ?_
          rotate_left 1
          · ((intro w hSw; (try dsimp only at hSw); go_simp) <;> (try with_reducible rfl))
          try simp only [Act.put, List.setIfInBounds_toArray, List.set_cons_zero, List.set_cons_succ]
          refine wpAnyH_take (i := 1) (v := ?_) rfl (by kernel_rfl) (by kernel_rfl) (by kernel_rfl) (fun _ _ _ h => h) (Or.inl ⟨by kernel_rfl, ?_⟩) (by assumption) ?_
          rotate_left 1
          · ((intro w hSw; (try dsimp only at hSw); go_simp) <;> (try with_reducible rfl))
          try simp only [Act.put, List.setIfInBounds_toArray, List.set_cons_zero, List.set_cons_succ]
          refine wpAnyH_ready (rs := [2]) (by kernel_rfl) (by simp) ?_
          refine AllReadyH.cons rfl (fun K hK => ?_) AllReadyH.nil
          go_simp
          (go_at_call 15; refine (buGood_any F E C ao co out _ (HR.out.below (by (repeat (first | assumption | exact Below.refl _ _ | refine Below.drew ?_ | refine below_drewN ?_ _ | refine Below.alloc ?_ (by first | omega | (simp; done) | (simp; omega)) _ | refine bchain ?_ (by assumption) (by first | omega | (simp; done) | (simp; omega)))))) hol).mono ?_; rw [hg]; rintro e1 w8 ⟨rfl, hb8⟩; have hW8 : Below wr.heap.size wr w8 := (by (repeat (first | assumption | exact Below.refl _ _ | refine Below.drew ?_ | refine below_drewN ?_ _ | refine Below.alloc ?_ (by first | omega | (simp; done) | (simp; omega)) _ | refine bchain ?_ (by assumption) (by first | omega | (simp; done) | (simp; omega))))); have hs8 := hW8.size; have hcL8 := fun o => (bcell hb8).1 w3.heap.size o (by first | omega | (simp; done) | (simp; omega)); have B8 : Below w.heap.size w w8 := HBW.out.trans (hW8.mono HBW.out.size))
          refine hK.out _ _ ?_ (fun hHeld => ?_)
          · (try dsimp only); (refine ⟨?_, ?_, ?_, ?_, ?_⟩ <;> first | with_reducible assumption | (go_simp; done) | (simp only [cell_setB hLN]; first | with_reducible assumption | (go_simp; done)) | ((repeat (first | with_reducible refine Below.setCell ?_ (by first | omega | (simp; done) | (simp; omega)) _ | with_reducible refine Below.drew ?_ | with_reducible refine below_drewN ?_ _ | with_reducible refine Below.alloc ?_ (by first | omega | (simp; done) | (simp; omega)) _ | with_reducible exact Below.refl _ _ | with_reducible assumption | with_reducible refine bchain ?_ (by with_reducible assumption) (by first | omega | (simp; done) | (simp; omega)))); done))
          clear hK K
          try simp only [Act.put, List.setIfInBounds_toArray, List.set_cons_zero, List.set_cons_succ]
          refine wpAnyH_take (i := 3) (v := ?_) rfl (by kernel_rfl) (by kernel_rfl) (by kernel_rfl) (fun _ _ _ h => h) (Or.inl ⟨by kernel_rfl, ?_⟩) (by assumption) ?_
          rotate_left 1
          · ((intro w hSw; (try dsimp only at hSw); go_simp) <;> (try with_reducible rfl))
          try simp only [Act.put, List.setIfInBounds_toArray, List.set_cons_zero, List.set_cons_succ]
          refine wpAnyH_take (i := 4) rfl (by kernel_rfl) (by kernel_rfl) (by kernel_rfl) (fun _ _ _ h => h) (Or.inr ⟨by kernel_rfl, rfl⟩) (by assumption) ?_
          try simp only [Act.put, List.setIfInBounds_toArray, List.set_cons_zero, List.set_cons_succ]
          refine wpAnyH_take (i := 5) rfl (by kernel_rfl) (by kernel_rfl) (by kernel_rfl) (fun _ _ _ h => h) (Or.inr ⟨by kernel_rfl, rfl⟩) (by assumption) ?_
          try simp only [Act.put, List.setIfInBounds_toArray, List.set_cons_zero, List.set_cons_succ]
          refine wpAnyH_take (i := 6) rfl (by kernel_rfl) (by kernel_rfl) (by kernel_rfl) (fun _ _ _ h => h) (Or.inr ⟨by kernel_rfl, rfl⟩) (by assumption) ?_
          try simp only [Act.put, List.setIfInBounds_toArray, List.set_cons_zero, List.set_cons_succ]
          refine wpAnyH_take (i := 7) rfl (by kernel_rfl) (by kernel_rfl) (by kernel_rfl) (fun _ _ _ h => h) (Or.inr ⟨by kernel_rfl, rfl⟩) (by assumption) ?_
          try simp only [Act.put, List.setIfInBounds_toArray, List.set_cons_zero, List.set_cons_succ]
          refine wpAnyH_take (i := 8) (v := ?_) rfl (by kernel_rfl) (by kernel_rfl) (by kernel_rfl) (fun _ _ _ h => h) (Or.inl ⟨by kernel_rfl, ?_⟩) (by assumption) ?_
          rotate_left 1
          · ((intro w hSw; (try dsimp only at hSw); go_simp) <;> (try with_reducible rfl))
          try simp only [Act.put, List.setIfInBounds_toArray, List.set_cons_zero, List.set_cons_succ]
          obtain ⟨⟨_, z0, z1, z2, z3⟩, zf⟩ := HN.out.below hW8
          refine wpAnyH_ready (rs := [9]) (by kernel_rfl) (by simp) ?_
          refine AllReadyH.cons rfl (fun K hK => ?_) AllReadyH.nil
          go_simp
          refine hK.out _ _ ?_ (fun hHeld => ?_)
          · (try dsimp only); (refine ⟨?_, ?_, ?_, ?_, ?_⟩ <;> first | with_reducible assumption | (go_simp; done) | (simp only [cell_setB hLN]; first | with_reducible assumption | (go_simp; done)) | ((repeat (first | with_reducible refine Below.setCell ?_ (by first | omega | (simp; done) | (simp; omega)) _ | with_reducible refine Below.drew ?_ | with_reducible refine below_drewN ?_ _ | with_reducible refine Below.alloc ?_ (by first | omega | (simp; done) | (simp; omega)) _ | with_reducible exact Below.refl _ _ | with_reducible assumption | with_reducible refine bchain ?_ (by with_reducible assumption) (by first | omega | (simp; done) | (simp; omega)))); done))
          clear hK K
          try simp only [Act.put, List.setIfInBounds_toArray, List.set_cons_zero, List.set_cons_succ]
          refine wpAnyH_take (i := 10) (v := ?_) rfl (by kernel_rfl) (by kernel_rfl) (by kernel_rfl) (fun _ _ _ h => h) (Or.inl ⟨by kernel_rfl, ?_⟩) (by assumption) ?_
          rotate_left 1
          · ((intro w hSw; (try dsimp only at hSw); go_simp) <;> (try with_reducible rfl))
          try simp only [Act.put, List.setIfInBounds_toArray, List.set_cons_zero, List.set_cons_succ]
          simp only [List.getElem_toArray, List.getElem_cons_succ, List.getElem_cons_zero, List.set_cons_zero, List.set_cons_succ]
          refine wpAnyH_done (by kernel_rfl) ?_ _
          go_wp2_with fail
          refine bodyPost_ret (v := .tuple #[.agg #[.int .i64 F, .int .i64 E, .int .i64 C, .slice ao out.length co], .bool false]) (by simp [results, Tryd.results22, go_sem, z0, z1, z2, z3]) rfl ⟨F, E, C, ao, co, out, _, rfl, ((((((HOW.out.below hW8).setLow _ _ (by simp; omega)).setLow _ _ (by simp; omega)).setLow _ _ (by simp; omega)).setLow _ _ (by simp; omega)).low (by omega)), (‹Below w.heap.size w _ ∧ _›).1, ?_, ?_⟩
          · intro h; cases h
          · intro f' e' c' xs' y
            obtain ⟨r1, r2, r3, r4⟩ := HO.out f' e' c' xs' y
            have h1 := y.1
            rw [r2, r3, r4, ← r1, hg] at h1
            cases h1
        · have HLin := Lib.hid (lnB_iff.1 hg)
          refine wp_region_held_drew (S := (fun v => Below w.heap.size w v ∧ v.cell? ⟨w3.heap.size, 0, none⟩ = some (.int .i64 F) ∧ v.cell? ⟨w3.heap.size, 1, none⟩ = some (.int .i64 E) ∧ v.cell? ⟨w3.heap.size, 2, none⟩ = some (.int .i64 C) ∧ v.cell? ⟨w3.heap.size, 3, none⟩ = some (.slice ao out.length co))) (by kernel_rfl) ?_ (fun hHeld => ?_)
          · (try dsimp only); (refine ⟨?_, ?_, ?_, ?_, ?_⟩ <;> first | with_reducible assumption | (go_simp; done) | (simp only [cell_setB hLN]; first | with_reducible assumption | (go_simp; done)) | ((repeat (first | with_reducible refine Below.setCell ?_ (by first | omega | (simp; done) | (simp; omega)) _ | with_reducible refine Below.drew ?_ | with_reducible refine below_drewN ?_ _ | with_reducible refine Below.alloc ?_ (by first | omega | (simp; done) | (simp; omega)) _ | with_reducible exact Below.refl _ _ | with_reducible assumption | with_reducible refine bchain ?_ (by with_reducible assumption) (by first | omega | (simp; done) | (simp; omega)))); done))
          refine wpAnyH_take (i := 0) (v := ?_) rfl (by kernel_rfl) (by kernel_rfl) (by kernel_rfl) (fun _ _ _ h => h) (Or.inl ⟨by kernel_rfl, ?_⟩) (by assumption) ?_
          rotate_left 1
          · ((intro w hSw; (try dsimp only at hSw); go_simp) <;> (try with_reducible rfl))
          try simp only [Act.put, List.setIfInBounds_toArray, List.set_cons_zero, List.set_cons_succ]
          refine wpAnyH_take (i := 1) (v := ?_) rfl (by kernel_rfl) (by kernel_rfl) (by kernel_rfl) (fun _ _ _ h => h) (Or.inl ⟨by kernel_rfl, ?_⟩) (by assumption) ?_
          rotate_left 1
          · ((intro w hSw; (try dsimp only at hSw); go_simp) <;> (try with_reducible rfl))
          try simp only [Act.put, List.setIfInBounds_toArray, List.set_cons_zero, List.set_cons_succ]
          refine wpAnyH_ready (rs := [2]) (by kernel_rfl) (by simp) ?_
          refine AllReadyH.cons rfl (fun K hK => ?_) AllReadyH.nil
          go_simp
          (go_at_call 15; refine (buGood_any F E C ao co out _ (HR.out.below (by (repeat (first | assumption | exact Below.refl _ _ | refine Below.drew ?_ | refine below_drewN ?_ _ | refine Below.alloc ?_ (by first | omega | (simp; done) | (simp; omega)) _ | refine bchain ?_ (by assumption) (by first | omega | (simp; done) | (simp; omega)))))) hol).mono ?_; rw [hg]; rintro e1 w8 ⟨rfl, hb8⟩; have hW8 : Below wr.heap.size wr w8 := (by (repeat (first | assumption | exact Below.refl _ _ | refine Below.drew ?_ | refine below_drewN ?_ _ | refine Below.alloc ?_ (by first | omega | (simp; done) | (simp; omega)) _ | refine bchain ?_ (by assumption) (by first | omega | (simp; done) | (simp; omega))))); have hs8 := hW8.size; have hcL8 := fun o => (bcell hb8).1 w3.heap.size o (by first | omega | (simp; done) | (simp; omega)); have B8 : Below w.heap.size w w8 := HBW.out.trans (hW8.mono HBW.out.size))
          refine hK.out _ _ ?_ (fun hHeld => ?_)
          · (try dsimp only); (refine ⟨?_, ?_, ?_, ?_, ?_⟩ <;> first | with_reducible assumption | (go_simp; done) | (simp only [cell_setB hLN]; first | with_reducible assumption | (go_simp; done)) | ((repeat (first | with_reducible refine Below.setCell ?_ (by first | omega | (simp; done) | (simp; omega)) _ | with_reducible refine Below.drew ?_ | with_reducible refine below_drewN ?_ _ | with_reducible refine Below.alloc ?_ (by first | omega | (simp; done) | (simp; omega)) _ | with_reducible exact Below.refl _ _ | with_reducible assumption | with_reducible refine bchain ?_ (by with_reducible assumption) (by first | omega | (simp; done) | (simp; omega)))); done))
          clear hK K
          try simp only [Act.put, List.setIfInBounds_toArray, List.set_cons_zero, List.set_cons_succ]
          refine wpAnyH_take (i := 3) (v := ?_) rfl (by kernel_rfl) (by kernel_rfl) (by kernel_rfl) (fun _ _ _ h => h) (Or.inl ⟨by kernel_rfl, ?_⟩) (by assumption) ?_
          rotate_left 1
          · ((intro w hSw; (try dsimp only at hSw); go_simp) <;> (try with_reducible rfl))
          try simp only [Act.put, List.setIfInBounds_toArray, List.set_cons_zero, List.set_cons_succ]
          refine wpAnyH_take (i := 4) (v := ?_) rfl (by kernel_rfl) (by kernel_rfl) (by kernel_rfl) (fun _ _ _ h => h) (Or.inl ⟨by kernel_rfl, ?_⟩) (by assumption) ?_
          rotate_left 1
          · ((intro w hSw; (try dsimp only at hSw); go_simp) <;> (try with_reducible rfl))
          try simp only [Act.put, List.setIfInBounds_toArray, List.set_cons_zero, List.set_cons_succ]
          refine wpAnyH_take (i := 6) (v := ?_) rfl (by kernel_rfl) (by kernel_rfl) (by kernel_rfl) (fun _ _ _ h => h) (Or.inl ⟨by kernel_rfl, ?_⟩) (by assumption) ?_
          rotate_left 1
          · ((intro w hSw; (try dsimp only at hSw); go_simp) <;> (try with_reducible rfl))
          try simp only [Act.put, List.setIfInBounds_toArray, List.set_cons_zero, List.set_cons_succ]
          refine wpAnyH_ready (rs := [5]) (by kernel_rfl) (by simp) ?_
          refine AllReadyH.cons rfl (fun K hK => ?_) AllReadyH.nil
          go_simp
          (go_at_call 16; refine (buText_any F E C ao co out HLin.out _ (HR.out.below (by (repeat (first | assumption | exact Below.refl _ _ | refine Below.drew ?_ | refine below_drewN ?_ _ | refine Below.alloc ?_ (by first | omega | (simp; done) | (simp; omega)) _ | refine bchain ?_ (by assumption) (by first | omega | (simp; done) | (simp; omega))))))).mono ?_; rintro e1 w9 ⟨rfl, hb9⟩; have hW9 : Below wr.heap.size wr w9 := (by (repeat (first | assumption | exact Below.refl _ _ | refine Below.drew ?_ | refine below_drewN ?_ _ | refine Below.alloc ?_ (by first | omega | (simp; done) | (simp; omega)) _ | refine bchain ?_ (by assumption) (by first | omega | (simp; done) | (simp; omega))))); have hs9 := hW9.size; have hcL9 := fun o => (bcell hb9).1 w3.heap.size o (by first | omega | (simp; done) | (simp; omega)); have B9 : Below w.heap.size w w9 := HBW.out.trans (hW9.mono HBW.out.size))
          refine hK.out _ _ ?_ (fun hHeld => ?_)
          · (try dsimp only); (refine ⟨?_, ?_, ?_, ?_, ?_⟩ <;> first | with_reducible assumption | (go_simp; done) | (simp only [cell_setB hLN]; first | with_reducible assumption | (go_simp; done)) | ((repeat (first | with_reducible refine Below.setCell ?_ (by first | omega | (simp; done) | (simp; omega)) _ | with_reducible refine Below.drew ?_ | with_reducible refine below_drewN ?_ _ | with_reducible refine Below.alloc ?_ (by first | omega | (simp; done) | (simp; omega)) _ | with_reducible exact Below.refl _ _ | with_reducible assumption | with_reducible refine bchain ?_ (by with_reducible assumption) (by first | omega | (simp; done) | (simp; omega)))); done))
          clear hK K
          try simp only [Act.put, List.setIfInBounds_toArray, List.set_cons_zero, List.set_cons_succ]
          refine wpAnyH_take (i := 7) (v := ?_) rfl (by kernel_rfl) (by kernel_rfl) (by kernel_rfl) (fun _ _ _ h => h) (Or.inl ⟨by kernel_rfl, ?_⟩) (by assumption) ?_
          rotate_left 1
          · ((intro w hSw; (try dsimp only at hSw); go_simp) <;> (try with_reducible rfl))
          try simp only [Act.put, List.setIfInBounds_toArray, List.set_cons_zero, List.set_cons_succ]
          refine wpAnyH_take (i := 8) (v := ?_) rfl (by kernel_rfl) (by kernel_rfl) (by kernel_rfl) (fun _ _ _ h => h) (Or.inl ⟨by kernel_rfl, ?_⟩) (by assumption) ?_
          rotate_left 1
          · ((intro w hSw; (try dsimp only at hSw); go_simp) <;> (try with_reducible rfl))
          try simp only [Act.put, List.setIfInBounds_toArray, List.set_cons_zero, List.set_cons_succ]
          obtain ⟨⟨_, z0, z1, z2, z3⟩, zf⟩ := HN.out.below hW9
          refine wpAnyH_ready (rs := [9]) (by kernel_rfl) (by simp) ?_
          refine AllReadyH.cons rfl (fun K hK => ?_) AllReadyH.nil
          go_simp
          refine hK.out _ _ ?_ (fun hHeld => ?_)
          · (try dsimp only); (refine ⟨?_, ?_, ?_, ?_, ?_⟩ <;> first | with_reducible assumption | (go_simp; done) | (simp only [cell_setB hLN]; first | with_reducible assumption | (go_simp; done)) | ((repeat (first | with_reducible refine Below.setCell ?_ (by first | omega | (simp; done) | (simp; omega)) _ | with_reducible refine Below.drew ?_ | with_reducible refine below_drewN ?_ _ | with_reducible refine Below.alloc ?_ (by first | omega | (simp; done) | (simp; omega)) _ | with_reducible exact Below.refl _ _ | with_reducible assumption | with_reducible refine bchain ?_ (by with_reducible assumption) (by first | omega | (simp; done) | (simp; omega)))); done))
          clear hK K
          try simp only [Act.put, List.setIfInBounds_toArray, List.set_cons_zero, List.set_cons_succ]
          refine wpAnyH_take (i := 10) (v := ?_) rfl (by kernel_rfl) (by kernel_rfl) (by kernel_rfl) (fun _ _ _ h => h) (Or.inl ⟨by kernel_rfl, ?_⟩) (by assumption) ?_
          rotate_left 1
          · ((intro w hSw; (try dsimp only at hSw); go_simp) <;> (try with_reducible rfl))
          try simp only [Act.put, List.setIfInBounds_toArray, List.set_cons_zero, List.set_cons_succ]
          simp only [List.getElem_toArray, List.getElem_cons_succ, List.getElem_cons_zero, List.set_cons_zero, List.set_cons_succ]
          refine wpAnyH_done (by kernel_rfl) ?_ _
          go_wp2_with fail
          refine bodyPost_ret (v := .tuple #[.agg #[.int .i64 F, .int .i64 E, .int .i64 C, .slice ao out.length co], .bool ((stj (lhd F E C) out out.length).toList == t.toList)]) (by simp [results, Tryd.results22, go_sem, z0, z1, z2, z3]) rfl ⟨F, E, C, ao, co, out, _, rfl, ((((((HOW.out.below hW9).setLow _ _ (by simp; omega)).setLow _ _ (by simp; omega)).setLow _ _ (by simp; omega)).setLow _ _ (by simp; omega)).low (by omega)), (‹Below w.heap.size w _ ∧ _›).1, ?_, ?_⟩
          · intro h
            rw [bytes_beqB] at h
            exact ⟨hg, of_decide_eq_true h⟩
          · intro f' e' c' xs' y
            obtain ⟨r1, r2, r3, r4⟩ := HO.out f' e' c' xs' y
            refine ⟨?_, r2, r3, r4, r1.symm⟩
            rw [bytes_beqB, decide_eq_true_eq, r1, ← r2, ← r3, ← r4]
            exact y.2
theorem phl_no {t : ByteArray} {F E C : Int} {ys : List Int} {ok : Bool} (H : PHL t F E C ys ok) (no : ∀ f e c xs, ¬ LT t f e c xs) : F = 0 ∧ E = 0 ∧ C = 0 ∧ ys = [] ∧ ok = false := by
  rcases H with ⟨h, _⟩ | ⟨_, h⟩
  · exact absurd h (no _ _ _ _)
  · exact h
theorem phl_yes {t : ByteArray} {F E C : Int} {ys : List Int} {ok : Bool} (H : PHL t F E C ys ok) {f e c : Int} {xs : List Int} (y : LT t f e c xs) (all : ∀ f' e' c' xs', LT t f' e' c' xs' → f' = f ∧ e' = e ∧ c' = c ∧ xs' = xs) : F = f ∧ E = e ∧ C = c ∧ ys = xs ∧ ok = true := by
  rcases H with ⟨h, k⟩ | ⟨n, _⟩
  · obtain ⟨r1, r2, r3, r4⟩ := all _ _ _ _ h
    exact ⟨r1, r2, r3, r4, k⟩
  · exact absurd y (n _ _ _ _)
set_option maxHeartbeats 4000000 in
set_option maxRecDepth 100000 in
theorem specParseLine (t : ByteArray) (F E C : Int) (ys : List Int) (ok : Bool) (H : PHL t F E C ys ok) (ht : t.size ≤ 1048576) (w : World) :
    Calls Tryd.prog 10 #[.string t] w (RetL w F E C ys ok) := by
  go_enter Tryd.func10, Tryd.ntmps10
  go_wp2_with fail
  have hb0 : Below w.heap.size w (w.alloc (.cells #[.int .i64 0, .int .i64 0, .int .i64 0, .slice none 0 0] 28)) := (Below.refl _ _).alloc (Nat.le_refl _) _
  have bN0 := boxF_new w (.int .i64 0) (.int .i64 0) (.int .i64 0) (.slice none 0 0) 28
  generalize World.alloc w (.cells #[.int .i64 0, .int .i64 0, .int .i64 0, .slice none 0 0] 28) = w0 at *
  refine (buParse_any t ht w0).mono ?_; rintro r w1 ⟨f, e, c, a, cap, xs, b, rfl, hO, hb1, hyes, hall⟩
  have B1 : Below w.heap.size w w1 := hb0.trans (hb1.mono hb0.size)
  obtain ⟨⟨hN, z0, z1, z2, z3⟩, zf⟩ := bN0.below hb1
  have hz0 : w.heap.size < w0.heap.size := bN0.1.1
  have hz1 := hb1.size
  have HO := Lib.hid hO
  clear bN0 hb0 hb1 hO
  cases b
  · obtain ⟨rfl, rfl, rfl, rfl, rfl⟩ := phl_no H (fun f' e' c' xs' y => by have := (hall f' e' c' xs' y).1; cases this)
    clear H hyes hall
    go_wp2_with fail
    generalize hW : World.alloc _ _ = W
    have y0 : W.cell? ⟨w.heap.size, 0, none⟩ = some (.int .i64 0) := by subst hW; go_simp
    have y1 : W.cell? ⟨w.heap.size, 1, none⟩ = some (.int .i64 0) := by subst hW; go_simp
    have y2 : W.cell? ⟨w.heap.size, 2, none⟩ = some (.int .i64 0) := by subst hW; go_simp
    have y3 : W.cell? ⟨w.heap.size, 3, none⟩ = some (.slice none 0 0) := by subst hW; go_simp
    have yB : Below w.heap.size w W := by subst hW; exact ((((B1.setCell (Nat.le_refl _) _).setCell (Nat.le_refl _) _).setCell (Nat.le_refl _) _).setCell (Nat.le_refl _) _).alloc (by simp; omega) _
    refine bodyPost_ret (v := .tuple #[.agg #[.int .i64 0, .int .i64 0, .int .i64 0, .slice none 0 0], .bool false]) (by simp [results, Tryd.results10, go_sem, y0, y1, y2, y3]) rfl ⟨none, 0, rfl, own_nil _ _, yB⟩
  · obtain ⟨rfl, rfl, rfl, rfl, rfl⟩ := phl_yes H (hyes rfl) (fun f' e' c' xs' y => (hall f' e' c' xs' y).2)
    clear H hyes hall
    go_wp2_with fail
    generalize hW : World.alloc _ _ = W
    have y0 : W.cell? ⟨w.heap.size, 0, none⟩ = some (.int .i64 F) := by subst hW; go_simp
    have y1 : W.cell? ⟨w.heap.size, 1, none⟩ = some (.int .i64 E) := by subst hW; go_simp
    have y2 : W.cell? ⟨w.heap.size, 2, none⟩ = some (.int .i64 C) := by subst hW; go_simp
    have y3 : W.cell? ⟨w.heap.size, 3, none⟩ = some (.slice a ys.length cap) := by subst hW; go_simp
    have yB : Below w.heap.size w W := by subst hW; exact ((((B1.setCell (Nat.le_refl _) _).setCell (Nat.le_refl _) _).setCell (Nat.le_refl _) _).setCell (Nat.le_refl _) _).alloc (by simp; omega) _
    have yO : Own W w.heap.size a cap ys := by subst hW; exact (((((HO.out.setLow _ _ (by simp; omega)).setLow _ _ (by simp; omega)).setLow _ _ (by simp; omega)).setLow _ _ (by simp; omega)).below ((Below.refl _ _).alloc (Nat.le_refl _) _)).low (by omega)
    refine bodyPost_ret (v := .tuple #[.agg #[.int .i64 F, .int .i64 E, .int .i64 C, .slice a ys.length cap], .bool true]) (by simp [results, Tryd.results10, go_sem, y0, y1, y2, y3]) rfl ⟨a, cap, rfl, yO, yB⟩
end Go.Proofs.YtjcapaoafkgkaaaDoor
