/- ParseVisits of chapter 6: the model's, by contracts. -/
import Derived.Test.YtjfmmdblfhgelaaDoorWinTMath
import Derived.Test.YtjfmmdblfhgelaaDoorPairsV
import Derived.Deep.LoopGhost
import Derived.Deep.QuietTactic
import Derived.Deep.RegionLaw
import Derived.Deep.AppendLies
import Derived.Deep.RegionHeld3
import Derived.BigQuiet
namespace Go.Proofs.YtjfmmdblfhgelaaDoor
open Go.RowKit
set_option linter.unusedVariables false
set_option linter.unusedSimpArgs false
/-- what a function of ([]Leg, bool) answers: a list of its own in new memory -/
def RetRP (w : World) (xs : List (Int × Int)) (ok : Bool) (e : Ending) (w' : World) : Prop :=
  ∃ (a : Option Addr) (cap : Nat), e = .returned (.tuple #[.slice a xs.length cap, .bool ok]) ∧ OwnV w' w.heap.size a cap xs ∧ Below w.heap.size w w'
theorem retR_noneP {w w' : World} (hb : Below w.heap.size w w') {e : Ending} (he : e = .returned (.tuple #[.slice none 0 0, .bool false])) : RetRP w [] false e w' :=
  ⟨none, 0, he, ⟨rfl, .inl ⟨rfl, rfl⟩⟩, hb⟩
theorem spl_countP (c : UInt8) : ∀ l : List UInt8, (spl c l).length ≤ l.length + 1
  | [] => by simp [spl]
  | x :: r => by
    have ih := spl_countP c r
    simp only [spl]
    split
    · simp; omega
    · cases hs : spl c r with
      | nil => simp [prep]
      | cons a zs => rw [hs] at ih; rw [prep_cons]; simp at ih ⊢; omega
/-- either there are such runners, or there are none -/
def PHP (t : ByteArray) (R : List (Int × Int)) (ok : Bool) : Prop := (YL t R ∧ ok = true) ∨ ((∀ xs, ¬ YL t xs) ∧ R = [] ∧ ok = false)
theorem PHP.no {t : ByteArray} {R : List (Int × Int)} {ok : Bool} (h : PHP t R ok) (k : YL t R → False) : R = [] ∧ ok = false := by
  rcases h with ⟨h, _⟩ | ⟨_, h⟩
  · exact (k h).elim
  · exact h
theorem rdT_atP {w : World} {a : Option Addr} {ss : List ByteArray} (h : RdT w a ss) {j : Nat} (hj : j < ss.length) : ∃ b off, a = some ⟨b, off, none⟩ ∧ b < w.heap.size ∧ w.cell? ⟨b, off + j, none⟩ = some (.string (ss.getD j ⟨#[]⟩)) := by
  rcases h with h | ⟨b, off, rfl, hlt, hc⟩
  · rw [h] at hj; exact absurd hj (Nat.not_lt_zero _)
  · exact ⟨b, off, rfl, hlt, hc j hj⟩
theorem rdT_pairP {w : World} {a : Option Addr} {p q : ByteArray} (h : RdT w a [p, q]) : ∃ b off, a = some ⟨b, off, none⟩ ∧ b < w.heap.size ∧ w.cell? ⟨b, off, none⟩ = some (.string p) ∧ w.cell? ⟨b, off + 1, none⟩ = some (.string q) := by
  rcases h with h | ⟨b, off, rfl, hlt, hc⟩
  · cases h
  · exact ⟨b, off, rfl, hlt, hc 0 (by simp), hc 1 (by simp)⟩
theorem cell_two_newP (w : World) (u v : Value) (e : TypeId) : ∀ (j : Nat) (x : Value), [u, v][j]? = some x → (w.alloc (.cells #[u, v] e)).cell? ((⟨w.heap.size, 0, none⟩ : Addr).add j) = some x := by
  intro j x hx
  have ea : (⟨w.heap.size, 0, none⟩ : Addr).add j = ⟨w.heap.size, j, none⟩ := by unfold Addr.add; split <;> simp_all
  rw [ea]
  match j, hx with
  | 0, hx => simp at hx; subst hx; go_simp
  | 1, hx => simp at hx; subst hx; go_simp
  | j + 2, hx => simp at hx
theorem cs2_snocP (out : List (Int × Int)) (u v : Int) : cs2 (out ++ [(u, v)]) = cs2 out ++ [.int .i64 u, .int .i64 v] := by
  induction out with
  | nil => rfl
  | cons p t ih => simp [cs2, ih]
theorem toList_injP {a b : ByteArray} (h : a.toList = b.toList) : a = b := by
  rw [ByteArray.toList_eq, ByteArray.toList_eq] at h
  exact ByteArray.ext (Array.toList_inj.1 h)
theorem row_baseRP {w : World} {base base2 : Nat} {e : TypeId} {size : Nat} {v : Value} {n : Nat} {xs : List Value} (h : w.ownsRow base e size v n xs) (hb : base2 ≤ base) : w.ownsRow base2 e size v n xs := by
  obtain ⟨hl, h⟩ := h
  refine ⟨hl, ?_⟩
  rcases h with h | ⟨g, c, cur, e, h1, h2⟩
  · exact .inl h
  · exact .inr ⟨g, c, cur, e, Nat.le_trans hb h1, h2⟩
theorem own_formRP {w : World} {base e size n : Nat} {v : Value} {xs : List Value} (h : w.ownsRow base e size v n xs) : ∃ a c, v = .slice a n c := by
  rcases h.2 with ⟨rfl, rfl⟩ | ⟨g, c, _, rfl, _⟩
  · exact ⟨_, _, rfl⟩
  · exact ⟨_, _, rfl⟩
theorem piece_atP {t : ByteArray} {xs : List (Int × Int)} {ss : List ByteArray} (hs : ss.map lst = spl 44 t.data.toList) (h : YL t xs) : ss.length = xs.length ∧ ∀ j, j < ss.length → (ss.getD j ⟨#[]⟩).data.toList = (gtx 43 (px xs j) (py xs j)).data.toList := by
  have e := hs.trans h.spl
  have el := congrArg List.length e
  rw [List.length_map, List.length_map, gts_length] at el
  refine ⟨el, fun j hj => ?_⟩
  have q := congrArg (fun l => l[j]?) e
  simp only [List.getElem?_map] at q
  rw [List.getElem?_eq_getElem hj, List.getElem?_eq_getElem (by rw [gts_length]; omega)] at q
  simp at q
  have g := gts_get (c := 43) (xs := xs) (i := j) (x := (gts 43 xs)[j]'(by rw [gts_length]; omega)) (List.getElem?_eq_getElem _)
  rw [List.getD, List.getElem?_eq_getElem hj]
  rw [← g.2]; exact q
set_option maxHeartbeats 4000000 in
set_option maxRecDepth 100000 in
theorem wiParse_any (t : ByteArray) (R : List (Int × Int)) (ok : Bool) (H : PHP t R ok) (ht : t.size ≤ 1048576) (w : World) :
    Calls Tryd.prog 22 #[.string t] w (RetRP w R ok) := by
  obtain ⟨i0, hi, hz0, hz1, hz2⟩ := info_parts pairInfoV
  by_cases hbig : 60 < t.size
  · obtain ⟨rfl, rfl⟩ := H.no fun y => by have := y.size; omega
    have hbI : (60 : Int) < (t.size : Int) := by omega
    clear H
    go_enter Tryd.func22, Tryd.ntmps22
    go_wp2_with fail
    go_ret2
    exact retR_noneP (Below.refl _ _) rfl
  have hbI : ¬ (60 : Int) < (t.size : Int) := by omega
  have HH := Lib.hid H
  clear H
  go_enter Tryd.func22, Tryd.ntmps22
  go_wp2_with fail
  refine (l1Split_any t 44 ht _).mono ?_; rintro e w1 ⟨a1, c1, ss, rfl, hown1, hb1, hss⟩
  have hlt : t.data.toList.length = t.size := by simp
  have hn1 : ss.length ≤ 61 := by
    have := spl_countP 44 t.data.toList
    rw [← hss, List.length_map] at this; omega
  have HSS := Lib.hid hss
  have hps : Hid (∀ j, j < ss.length → (ss.getD j ⟨#[]⟩).size ≤ 60) := fun j hj => by
    have hm : (ss.getD j ⟨#[]⟩).data.toList ∈ spl 44 t.data.toList := by
      rw [← hss, List.mem_map]
      exact ⟨ss.getD j ⟨#[]⟩, by rw [List.getD, List.getElem?_eq_getElem hj]; exact List.getElem_mem hj, rfl⟩
    have := spl_len 44 _ _ hm
    have e2 : (ss.getD j ⟨#[]⟩).size = (ss.getD j ⟨#[]⟩).data.toList.length := by simp
    omega
  have hR1 := hown1.rd
  have hR1' := hR1
  clear hss hown1 hlt
  go_wp2_with fail
  have HB1 := Lib.hid hb1
  have HR1 := Lib.hid hR1
  clear hR1 hR1' hb1
  go_loopg [4, 14] ss.length (fun f v4 v14 wr => ∃ (j : Nat) (ao : Option Addr) (co : Nat) (out : List (Int × Int)), v4 = .slice ao j co ∧ v14 = .int .i64 (j : Int) ∧ j + f ≤ ss.length ∧ ss.length ≤ j + f ∧ out.length = j ∧ wr.ownsRow w1.heap.size 37 2 (.slice ao j co) j (cs2 out) ∧ Hid (∀ xs, YL t xs → out = xs.take j) ∧ Hid (∀ i, i < j → 0 ≤ px out i → 0 ≤ py out i → (ss.getD i ⟨#[]⟩).data.toList = (gtx 43 (px out i) (py out i)).data.toList) ∧ Below w1.heap.size w1 wr)
  case atStart => exact ⟨0, none, 0, [], rfl, rfl, by omega, by omega, rfl, World.ownsRow_nil _ _ _ _, fun xs _ => by simp, fun i hi => absurd hi (Nat.not_lt_zero _), Below.refl _ _⟩
  case round =>
    obtain ⟨j, ao, co, out, rfl, rfl, h1, h2, hol, hown, hY, hZ, hbel⟩ := hrel
    have hsz := hbel.size
    by_cases hj : j < ss.length
    · obtain ⟨b, off, rfl, hlt, hcj⟩ := rdT_atP (HR1.out.below hbel) hj
      have hjI : (j : Int) < (ss.length : Int) := by omega
      have hpj := hps.out j hj
      have HP := Lib.hid (fun xs (y : YL t xs) => (piece_atP HSS.out y).2 j hj)
      have HL := Lib.hid (fun xs (y : YL t xs) => (piece_atP HSS.out y).1)
      obtain ⟨q, hq⟩ : ∃ q, q = ss.getD j ⟨#[]⟩ := ⟨_, rfl⟩
      rw [← hq] at hcj hpj HP
      have HQ := Lib.hid hq
      clear hq
      have hS := Lib.hid (l1Split_any q 43 (by omega) wr)
      have HO := Lib.hid hown
      have HB := Lib.hid hbel
      clear hown hbel
      go_wp2_with fail
      refine hS.out.mono ?_; rintro e w2 ⟨a2, c2, es, rfl, hown2, hb2, hes⟩
      have hO2 := Lib.hid (row_below HO.out hb2)
      have hB2 := Lib.hid (HB.out.trans (hb2.mono hsz))
      have hsz2 := hB2.out.size
      have hel : es.length ≤ 61 := by
        have := spl_countP 43 q.data.toList
        have e2 : q.size = q.data.toList.length := by simp
        rw [← hes, List.length_map] at this; omega
      clear HO HB hS hb2
      by_cases he : es.length = 2
      · obtain ⟨p1, p2, rfl⟩ := two_len he
        obtain ⟨b3, off3, rfl, hlt3, hc30, hc31⟩ := rdT_pairP hown2.rd
        have hl1 : p1.size ≤ 1000 := by
          have := spl_len 43 q.data.toList p1.data.toList (by rw [← hes]; simp [lst])
          have e2 : q.size = q.data.toList.length := by simp
          have e3 : p1.size = p1.data.toList.length := by simp
          omega
        have hl2 : p2.size ≤ 1000 := by
          have := spl_len 43 q.data.toList p2.data.toList (by rw [← hes]; simp [lst])
          have e2 : q.size = q.data.toList.length := by simp
          have e3 : p2.size = p2.data.toList.length := by simp
          omega
        have hcP := Lib.hid (fun w => l1Read_any p1 (by omega) w)
        have hcQ := Lib.hid (fun w => l1Read_any p2 (by omega) w)
        have bd1 := rdL_bd p1.data.toList
        have bd2 := rdL_bd p2.data.toList
        have hY2 : Hid (∀ xs, YL t xs → out ++ [(rdL p1.data.toList, rdL p2.data.toList)] = xs.take (j + 1)) := fun xs y => by
          have hlen := HL.out xs y
          have hb := y.bd.2.2 j (by omega)
          have e1 := HP.out xs y
          rw [e1, spl_gtxP (by omega) (by omega)] at hes
          simp [lst] at hes
          rw [hY.out xs y, take_succ_xy xs j (by omega), hes.1, hes.2, rdL_intP (by omega) (by omega), rdL_intP (by omega) (by omega)]
        have hql : Hid (q.data.toList = p1.data.toList ++ 43 :: p2.data.toList) := by
          have := jnc_splP 43 q.data.toList
          rw [← hes] at this
          simp [lst, jncP] at this
          exact this.symm
        have hZ2 : Hid (∀ i, i < j + 1 → 0 ≤ px (out ++ [(rdL p1.data.toList, rdL p2.data.toList)]) i → 0 ≤ py (out ++ [(rdL p1.data.toList, rdL p2.data.toList)]) i → (ss.getD i ⟨#[]⟩).data.toList = (gtx 43 (px (out ++ [(rdL p1.data.toList, rdL p2.data.toList)]) i) (py (out ++ [(rdL p1.data.toList, rdL p2.data.toList)]) i)).data.toList) := fun i hi => by
          by_cases q1 : i < j
          · rw [(px_appP (by omega)).1, (px_appP (by omega)).2]; exact hZ.out i q1
          · have e : i = out.length := by omega
            subst e
            rw [(px_lastP _ _ _).1, (px_lastP _ _ _).2]
            intro g1 g2
            rw [gtx_listP g1 g2, ← rdL_invP (l := p1.data.toList) rfl g1, ← rdL_invP (l := p2.data.toList) rfl g2, hol, ← HQ.out]
            exact hql.out
        clear hes HP HL hown2 he hY hZ hql
        generalize rdL p1.data.toList = u at *
        generalize rdL p2.data.toList = v at *
        go_wp2_with fail
        have hOd0 : Hid (w2.ownsRow w1.heap.size 37 2 (.slice ao j co) j (cs2 out)) := hO2.out
        have hBd0 : Hid (Below w1.heap.size w1 w2) := hB2.out
        have hOd1 : Hid (w2.drew.ownsRow w1.heap.size 37 2 (.slice ao j co) j (cs2 out)) := hO2.out
        have hBd1 : Hid (Below w1.heap.size w1 w2.drew) := hBd0.out.drew
        have hOd2 : Hid (w2.drew.drew.ownsRow w1.heap.size 37 2 (.slice ao j co) j (cs2 out)) := hO2.out
        have hBd2 : Hid (Below w1.heap.size w1 w2.drew.drew) := hBd1.out.drew
        have hOd3 : Hid (w2.drew.drew.drew.ownsRow w1.heap.size 37 2 (.slice ao j co) j (cs2 out)) := hO2.out
        have hBd3 : Hid (Below w1.heap.size w1 w2.drew.drew.drew) := hBd2.out.drew
        go_region_law (first | (refine step_append_lies _ rfl _ _ 26 rfl w1.heap.size 37 i0 (.agg #[.int .i64 0, .int .i64 0]) 2 16 Tryd.underlying26 hi hz0 hz1 hz2 rfl (by decide) _ _ _ rfl (hOd0.out.alloc _) ⟨w2.heap.size, 0, none⟩ 1 1 [.int .i64 u, .int .i64 v] rfl rfl (cell_two_newP w2 _ _ _) (fun x hx => by simp at hx; rcases hx with rfl | rfl <;> rfl) (by decide) (by unfold maxLen; omega) (by omega) (by first | omega | (simp; omega)) _ rfl ?_; intro a4 c4 w4 hO4 hgrow hat hlt4; have HO4 := Lib.hid hO4; have hB4 := Lib.hid ((hBd0.out.alloc hBd0.out.size _).grown hgrow (by first | omega | (simp; omega)) (fun k hk => (hOd0.out.lt k hk).1)); clear hgrow hO4 hat hlt4) | (refine step_append_lies _ rfl _ _ 26 rfl w1.heap.size 37 i0 (.agg #[.int .i64 0, .int .i64 0]) 2 16 Tryd.underlying26 hi hz0 hz1 hz2 rfl (by decide) _ _ _ rfl (hOd1.out.alloc _) ⟨w2.drew.heap.size, 0, none⟩ 1 1 [.int .i64 u, .int .i64 v] rfl rfl (cell_two_newP w2.drew _ _ _) (fun x hx => by simp at hx; rcases hx with rfl | rfl <;> rfl) (by decide) (by unfold maxLen; omega) (by omega) (by first | omega | (simp; omega)) _ rfl ?_; intro a4 c4 w4 hO4 hgrow hat hlt4; have HO4 := Lib.hid hO4; have hB4 := Lib.hid ((hBd1.out.alloc hBd1.out.size _).grown hgrow (by first | omega | (simp; omega)) (fun k hk => (hOd1.out.lt k hk).1)); clear hgrow hO4 hat hlt4) | (refine step_append_lies _ rfl _ _ 26 rfl w1.heap.size 37 i0 (.agg #[.int .i64 0, .int .i64 0]) 2 16 Tryd.underlying26 hi hz0 hz1 hz2 rfl (by decide) _ _ _ rfl (hOd2.out.alloc _) ⟨w2.drew.drew.heap.size, 0, none⟩ 1 1 [.int .i64 u, .int .i64 v] rfl rfl (cell_two_newP w2.drew.drew _ _ _) (fun x hx => by simp at hx; rcases hx with rfl | rfl <;> rfl) (by decide) (by unfold maxLen; omega) (by omega) (by first | omega | (simp; omega)) _ rfl ?_; intro a4 c4 w4 hO4 hgrow hat hlt4; have HO4 := Lib.hid hO4; have hB4 := Lib.hid ((hBd2.out.alloc hBd2.out.size _).grown hgrow (by first | omega | (simp; omega)) (fun k hk => (hOd2.out.lt k hk).1)); clear hgrow hO4 hat hlt4) | (refine step_append_lies _ rfl _ _ 26 rfl w1.heap.size 37 i0 (.agg #[.int .i64 0, .int .i64 0]) 2 16 Tryd.underlying26 hi hz0 hz1 hz2 rfl (by decide) _ _ _ rfl (hOd3.out.alloc _) ⟨w2.drew.drew.drew.heap.size, 0, none⟩ 1 1 [.int .i64 u, .int .i64 v] rfl rfl (cell_two_newP w2.drew.drew.drew _ _ _) (fun x hx => by simp at hx; rcases hx with rfl | rfl <;> rfl) (by decide) (by unfold maxLen; omega) (by omega) (by first | omega | (simp; omega)) _ rfl ?_; intro a4 c4 w4 hO4 hgrow hat hlt4; have HO4 := Lib.hid hO4; have hB4 := Lib.hid ((hBd3.out.alloc hBd3.out.size _).grown hgrow (by first | omega | (simp; omega)) (fun k hk => (hOd3.out.lt k hk).1)); clear hgrow hO4 hat hlt4) | (go_simp; go_at_call_of 34 (Value.string p1); refine (hcP.out _).mono ?_; rintro e w3 ⟨rfl, rfl⟩) | (go_simp; go_at_call_of 34 (Value.string p2); refine (hcQ.out _).mono ?_; rintro e w3 ⟨rfl, rfl⟩))
        all_goals go_wp2_with fail
        all_goals first
          | (go_roundg (gk - 1)
             case rel => exact ⟨j + 1, some ⟨a4, 0, none⟩, c4, out ++ [(u, v)], rfl, by go_num, by omega, by omega, by simp; omega, by rw [cs2_snocP]; exact HO4.out, hY2, hZ2, hB4.out⟩
             case measure => omega)
          | skip
      · obtain ⟨rfl, rfl⟩ := HH.out.no fun y => he (by
          have hlen := HL.out R y
          have hb := y.bd.2.2 j (by omega)
          have e1 := HP.out R y
          rw [e1, spl_gtxP (by omega) (by omega)] at hes
          have := congrArg List.length hes
          simpa using this)
        have heI : ¬ (es.length : Int) = 2 := by omega
        have heB : ((es.length : Int) == 2) = false := by simp; omega
        have hbb := hB2.out
        clear hO2 hown2 hes HP HL
        go_wp2_with fail
        go_ret2
        exact retR_noneP (HB1.out.trans (hB2.out.mono HB1.out.size)) rfl
    · have e : j = ss.length := by omega
      have HL := Lib.hid (fun xs (y : YL t xs) => (piece_atP HSS.out y).1)
      have hfull : ∀ xs, YL t xs → out = xs := fun xs y => by rw [hY.out xs y, e, HL.out xs y, List.take_length]
      have HF := Lib.hid hfull
      subst e
      have hRo : RdP wr ao out := rowP_rd hol hown
      have HT := Lib.hid (wiGood_any ao co out wr hRo (by omega))
      rw [hol] at HT
      have HO := Lib.hid hown
      have HB := Lib.hid (HB1.out.trans (hbel.mono HB1.out.size))
      have hsw := HB.out.size
      clear hown hbel hRo hfull HL
      cases hr : viS out
      · obtain ⟨rfl, rfl⟩ := HH.out.no fun y => by rw [HF.out R y] at hr; rw [y.1] at hr; cases hr
        rw [hr] at HT
        clear hr
        go_wp2_with fail
        refine HT.out.mono ?_; rintro e w5 ⟨rfl, hb5⟩
        go_wp2_with fail
        go_ret2
        exact retR_noneP (HB.out.trans (hb5.mono hsw)) rfl
      · rw [hr] at HT
        have hy : YL t out := yw_ofP HSS.out hol (fun i hi => by have := viOk_iff.1 ((viS_at hr).2.2 i (by omega)); exact hZ.out i hi (by omega) (by omega)) hr
        have hRo : R = out ∧ ok = true := by
          rcases HH.out with ⟨y, k⟩ | ⟨n, _⟩
          · exact ⟨(HF.out R y).symm, k⟩
          · exact absurd hy (n out)
        obtain ⟨rfl, rfl⟩ := hRo
        clear hr hy
        go_wp2_with fail
        refine HT.out.mono ?_; rintro e w5 ⟨rfl, hb5⟩
        have hO6 := row_below HO.out hb5
        go_wp2_with fail
        go_ret2
        refine ⟨ao, co, by rw [hol]; rfl, ?_, HB.out.trans (hb5.mono hsw)⟩
        unfold OwnV
        rw [hol]
        exact row_baseRP hO6 HB1.out.size
set_option maxHeartbeats 1000000 in
theorem specParseVisits (t : ByteArray) (R : List (Int × Int)) (ok : Bool) (H : PHP t R ok) (ht : t.size ≤ 1048576) (w : World) :
    Calls Tryd.prog 10 #[.string t] w (RetRP w R ok) := by
  have HS := Lib.hid (wiParse_any t R ok H ht w)
  clear H
  go_enter Tryd.func10, Tryd.ntmps10
  go_wp2_with fail
  refine HS.out.mono ?_; rintro e w1 ⟨a, cap, rfl, hO, hb⟩
  have HP := Lib.hid (And.intro hO hb)
  clear hO hb
  go_wp2_with fail
  go_ret2
  exact ⟨a, cap, rfl, HP.out.1, HP.out.2⟩
end Go.Proofs.YtjfmmdblfhgelaaDoor
