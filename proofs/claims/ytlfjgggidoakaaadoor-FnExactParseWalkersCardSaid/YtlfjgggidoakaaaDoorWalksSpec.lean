/- ParseWalkers of chapter 2: the model's, by contracts. -/
import Derived.Test.YtlfjgggidoakaaaDoorWalksMath
import Derived.Test.YtlfjgggidoakaaaDoorJoinWalks
import Derived.Deep.LoopGhost
import Derived.Deep.QuietTactic
import Derived.Deep.RegionLaw
import Derived.Deep.AppendLies
import Derived.Deep.RegionHeld3
import Derived.BigQuiet
namespace Go.Proofs.YtlfjgggidoakaaaDoor
open Go.RowKit
set_option linter.unusedVariables false
set_option linter.unusedSimpArgs false
/-- what a function of ([]Walker, bool) answers: a list of its own in new memory -/
def RetW (w : World) (xs : List (Int × Int)) (ok : Bool) (e : Ending) (w' : World) : Prop :=
  ∃ (a : Option Addr) (cap : Nat), e = .returned (.tuple #[.slice a xs.length cap, .bool ok]) ∧ OwnP w' w.heap.size a cap xs ∧ Below w.heap.size w w'
theorem retW_none {w w' : World} (hb : Below w.heap.size w w') {e : Ending} (he : e = .returned (.tuple #[.slice none 0 0, .bool false])) : RetW w [] false e w' :=
  ⟨none, 0, he, ⟨rfl, .inl ⟨rfl, rfl⟩⟩, hb⟩
theorem spl_count (c : UInt8) : ∀ l : List UInt8, (spl c l).length ≤ l.length + 1
  | [] => by simp [spl]
  | x :: r => by
    have ih := spl_count c r
    simp only [spl]
    split
    · simp; omega
    · cases hs : spl c r with
      | nil => simp [prep]
      | cons a zs => rw [hs] at ih; rw [prep_cons]; simp at ih ⊢; omega
/-- either there are such walkers, or there are none -/
def PW (t : ByteArray) (R : List (Int × Int)) (ok : Bool) : Prop := (YW t R ∧ ok = true) ∨ ((∀ xs, ¬ YW t xs) ∧ R = [] ∧ ok = false)
theorem PW.no {t : ByteArray} {R : List (Int × Int)} {ok : Bool} (h : PW t R ok) (k : YW t R → False) : R = [] ∧ ok = false := by
  rcases h with ⟨h, _⟩ | ⟨_, h⟩
  · exact (k h).elim
  · exact h
theorem rdT_at {w : World} {a : Option Addr} {ss : List ByteArray} (h : RdT w a ss) {j : Nat} (hj : j < ss.length) : ∃ b off, a = some ⟨b, off, none⟩ ∧ b < w.heap.size ∧ w.cell? ⟨b, off + j, none⟩ = some (.string (ss.getD j ⟨#[]⟩)) := by
  rcases h with h | ⟨b, off, rfl, hlt, hc⟩
  · rw [h] at hj; exact absurd hj (Nat.not_lt_zero _)
  · exact ⟨b, off, rfl, hlt, hc j hj⟩
theorem rdT_pair {w : World} {a : Option Addr} {p q : ByteArray} (h : RdT w a [p, q]) : ∃ b off, a = some ⟨b, off, none⟩ ∧ b < w.heap.size ∧ w.cell? ⟨b, off, none⟩ = some (.string p) ∧ w.cell? ⟨b, off + 1, none⟩ = some (.string q) := by
  rcases h with h | ⟨b, off, rfl, hlt, hc⟩
  · cases h
  · exact ⟨b, off, rfl, hlt, hc 0 (by simp), hc 1 (by simp)⟩
theorem cell_two_new (w : World) (u v : Value) (e : TypeId) : ∀ (j : Nat) (x : Value), [u, v][j]? = some x → (w.alloc (.cells #[u, v] e)).cell? ((⟨w.heap.size, 0, none⟩ : Addr).add j) = some x := by
  intro j x hx
  have ea : (⟨w.heap.size, 0, none⟩ : Addr).add j = ⟨w.heap.size, j, none⟩ := by unfold Addr.add; split <;> simp_all
  rw [ea]
  match j, hx with
  | 0, hx => simp at hx; subst hx; go_simp
  | 1, hx => simp at hx; subst hx; go_simp
  | j + 2, hx => simp at hx
theorem cs2_snoc (out : List (Int × Int)) (u v : Int) : cs2 (out ++ [(u, v)]) = cs2 out ++ [.int .i64 u, .int .i64 v] := by
  induction out with
  | nil => rfl
  | cons p t ih => simp [cs2, ih]
theorem toList_inj {a b : ByteArray} (h : a.toList = b.toList) : a = b := by
  rw [ByteArray.toList_eq, ByteArray.toList_eq] at h
  exact ByteArray.ext (Array.toList_inj.1 h)
theorem row_baseR {w : World} {base base2 : Nat} {e : TypeId} {size : Nat} {v : Value} {n : Nat} {xs : List Value} (h : w.ownsRow base e size v n xs) (hb : base2 ≤ base) : w.ownsRow base2 e size v n xs := by
  obtain ⟨hl, h⟩ := h
  refine ⟨hl, ?_⟩
  rcases h with h | ⟨g, c, cur, e, h1, h2⟩
  · exact .inl h
  · exact .inr ⟨g, c, cur, e, Nat.le_trans hb h1, h2⟩
theorem own_formR {w : World} {base e size n : Nat} {v : Value} {xs : List Value} (h : w.ownsRow base e size v n xs) : ∃ a c, v = .slice a n c := by
  rcases h.2 with ⟨rfl, rfl⟩ | ⟨g, c, _, rfl, _⟩
  · exact ⟨_, _, rfl⟩
  · exact ⟨_, _, rfl⟩
theorem piece_at {t : ByteArray} {xs : List (Int × Int)} {ss : List ByteArray} (hs : ss.map lst = spl 44 t.data.toList) (h : YW t xs) : ss.length = xs.length ∧ ∀ j, j < ss.length → (ss.getD j ⟨#[]⟩).data.toList = (gtx 58 (px xs j) (py xs j)).data.toList := by
  have e := hs.trans h.spl
  have el := congrArg List.length e
  rw [List.length_map, List.length_map, gts_length] at el
  refine ⟨el, fun j hj => ?_⟩
  have q := congrArg (fun l => l[j]?) e
  simp only [List.getElem?_map] at q
  rw [List.getElem?_eq_getElem hj, List.getElem?_eq_getElem (by rw [gts_length]; omega)] at q
  simp at q
  have g := gts_get (c := 58) (xs := xs) (i := j) (x := (gts 58 xs)[j]'(by rw [gts_length]; omega)) (List.getElem?_eq_getElem _)
  rw [List.getD, List.getElem?_eq_getElem hj]
  rw [← g.2]; exact q
set_option maxHeartbeats 1000000 in
theorem meRead_any (s : ByteArray) (hs : s.size ≤ 1048576) (w : World) :
    Calls Tryd.prog 83 #[.string s] w fun e w' => e = .returned (.tuple #[.int .i64 (mRv s.data.toList), .bool (mRb s.data.toList)]) ∧ Below w.heap.size w w' := by
  have hlen : s.data.toList.length = s.size := by simp
  have hR := Lib.hid (fun w => l1Read_any s (by omega) w)
  have hRt := Lib.hid (fun w => l1Read_any (s.extract 1 s.size) (by rw [ByteArray.size_extract]; omega) w)
  have et : (s.extract 1 s.size).data.toList = s.data.toList.tail := by
    have := lst_end s 1
    unfold lst at this
    rw [this, List.drop_one]
  rw [et] at hRt
  have b1 := rdL_bd s.data.toList
  have b2 := rdL_bd s.data.toList.tail
  by_cases h1 : 1 < s.size
  · have l3 : 0 < s.size := by omega
    have h1I : (1 : Int) < (s.size : Int) := by omega
    have h1d : decide ((s.size : Int) > 1) = true := by simp; omega
    have hhd : s.data.toList.head? = some s[0] := by
      have := bytes_drop s 0 l3
      rw [List.drop_zero] at this; rw [this]; rfl
    by_cases h45 : s[0].toNat = 45
    · have hb : s[0] = 45 := UInt8.toNat_inj.1 h45
      have hV : Hid (mRv s.data.toList = -(rdL s.data.toList.tail) ∧ mRb s.data.toList = decide (0 < rdL s.data.toList.tail)) := by
        unfold Hid mRv mRb
        rw [if_pos ⟨by omega, by rw [hhd, hb]⟩, if_pos ⟨by omega, by rw [hhd, hb]⟩]; exact ⟨rfl, rfl⟩
      have h45I : (s[0].toNat : Int) = 45 := by omega
      generalize rdL s.data.toList.tail = n at *
      generalize rdL s.data.toList = n0 at *
      clear hhd et hlen
      go_enter Tryd.func83, Tryd.ntmps83
      go_wp2_with fail
      refine (hRt.out _).mono ?_; rintro e w1 ⟨rfl, rfl⟩
      go_wp2_with fail
      go_ret2
      exact ⟨by rw [hV.out.1, hV.out.2]; rfl, by first | exact Below.refl _ _ | exact (Below.refl _ _).drew | exact below_drewN (Below.refl _ _) _⟩
    · have hV : Hid (mRv s.data.toList = rdL s.data.toList ∧ mRb s.data.toList = decide (0 ≤ rdL s.data.toList)) := by
        have hc : ¬ (1 < s.data.toList.length ∧ s.data.toList.head? = some 45) := by
          rintro ⟨_, q⟩
          rw [hhd] at q
          injection q with q
          exact h45 (by rw [q]; rfl)
        unfold Hid mRv mRb
        rw [if_neg hc, if_neg hc]; exact ⟨rfl, rfl⟩
      have h45I : ¬ (s[0].toNat : Int) = 45 := by omega
      generalize rdL s.data.toList.tail = n1 at *
      generalize rdL s.data.toList = n at *
      clear hhd et hlen
      go_enter Tryd.func83, Tryd.ntmps83
      go_wp2_with fail
      refine (hR.out _).mono ?_; rintro e w1 ⟨rfl, rfl⟩
      go_wp2_with fail
      go_ret2
      exact ⟨by rw [hV.out.1, hV.out.2]; rfl, by first | exact Below.refl _ _ | exact (Below.refl _ _).drew | exact below_drewN (Below.refl _ _) _⟩
  · have h1I : ¬ (1 : Int) < (s.size : Int) := by omega
    have hV : Hid (mRv s.data.toList = rdL s.data.toList ∧ mRb s.data.toList = decide (0 ≤ rdL s.data.toList)) := by
      unfold Hid mRv mRb
      rw [if_neg (by omega), if_neg (by omega)]; exact ⟨rfl, rfl⟩
    generalize rdL s.data.toList.tail = n1 at *
    generalize rdL s.data.toList = n at *
    clear et hlen
    go_enter Tryd.func83, Tryd.ntmps83
    go_wp2_with fail
    all_goals try (go_quiet (fail); go_wp2_with fail)
    refine (hR.out _).mono ?_; rintro e w1 ⟨rfl, rfl⟩
    go_wp2_with fail
    go_ret2
    exact ⟨by rw [hV.out.1, hV.out.2]; rfl, by first | exact Below.refl _ _ | exact (Below.refl _ _).drew | exact below_drewN (Below.refl _ _) _⟩
theorem px_app {out : List (Int × Int)} {p : Int × Int} {i : Nat} (h : i < out.length) : px (out ++ [p]) i = px out i ∧ py (out ++ [p]) i = py out i := by
  unfold px py
  simp [List.getD, List.getElem?_append_left h]
theorem px_last (out : List (Int × Int)) (u v : Int) : px (out ++ [(u, v)]) out.length = u ∧ py (out ++ [(u, v)]) out.length = v := by
  unfold px py
  simp [List.getD]
theorem yw_of {t : ByteArray} {ss : List ByteArray} {out : List (Int × Int)} (hs : ss.map lst = spl 44 t.data.toList) (hl : out.length = ss.length) (hz : ∀ i, i < ss.length → (ss.getD i ⟨#[]⟩).data.toList = (gtx 58 (px out i) (py out i)).data.toList) (hw : wks out = true) : YW t out := by
  refine ⟨hw, ByteArray.ext (Array.toList_inj.1 ?_)⟩
  have e : ss.map lst = (gts 58 out).map (·.data.toList) := by
    apply List.ext_getElem?
    intro i
    by_cases hi : i < ss.length
    · have h1 := hz i hi
      rw [List.getD, List.getElem?_eq_getElem hi] at h1
      have hg : i < (gts 58 out).length := by rw [gts_length]; omega
      have g := gts_get (c := 58) (xs := out) (i := i) (x := (gts 58 out)[i]) (List.getElem?_eq_getElem hg)
      rw [List.getElem?_map, List.getElem?_map, List.getElem?_eq_getElem hi, List.getElem?_eq_getElem hg]
      simp only [Option.map_some, Option.getD_some] at h1 ⊢
      rw [g.2]
      exact congrArg some h1
    · rw [List.getElem?_eq_none (by rw [List.length_map]; omega), List.getElem?_eq_none (by rw [List.length_map, gts_length]; omega)]
  rw [gjt_jnW, ← e, hs, ← jnc_jn, jnc_spl]
set_option maxHeartbeats 4000000 in
set_option maxRecDepth 100000 in
theorem meParse_any (t : ByteArray) (R : List (Int × Int)) (ok : Bool) (H : PW t R ok) (ht : t.size ≤ 1048576) (w : World) :
    Calls Tryd.prog 54 #[.string t] w (RetW w R ok) := by
  obtain ⟨i0, hi, hz0, hz1, hz2⟩ := info_parts pairInfo
  by_cases hbig : 100 < t.size
  · obtain ⟨rfl, rfl⟩ := H.no fun y => by have := y.size; omega
    have hbI : (100 : Int) < (t.size : Int) := by omega
    clear H
    go_enter Tryd.func54, Tryd.ntmps54
    go_wp2_with fail
    go_ret2
    exact retW_none (Below.refl _ _) rfl
  have hbI : ¬ (100 : Int) < (t.size : Int) := by omega
  have HH := Lib.hid H
  clear H
  go_enter Tryd.func54, Tryd.ntmps54
  go_wp2_with fail
  refine (l1Split_any t 44 ht _).mono ?_; rintro e w1 ⟨a1, c1, ss, rfl, hown1, hb1, hss⟩
  have hlt : t.data.toList.length = t.size := by simp
  have hn1 : ss.length ≤ 101 := by
    have := spl_count 44 t.data.toList
    rw [← hss, List.length_map] at this; omega
  have HSS := Lib.hid hss
  have hps : Hid (∀ j, j < ss.length → (ss.getD j ⟨#[]⟩).size ≤ 100) := fun j hj => by
    have hm : (ss.getD j ⟨#[]⟩).data.toList ∈ spl 44 t.data.toList := by
      rw [← hss, List.mem_map]
      exact ⟨ss.getD j ⟨#[]⟩, by rw [List.getD, List.getElem?_eq_getElem hj]; exact List.getElem_mem hj, rfl⟩
    have := spl_len 44 _ _ hm
    have e2 : (ss.getD j ⟨#[]⟩).size = (ss.getD j ⟨#[]⟩).data.toList.length := by simp
    omega
  have hR1 := hown1.rd
  clear hss hown1 hlt
  go_wp2_with fail
  have HB1 := Lib.hid hb1
  have HR1 := Lib.hid hR1
  clear hR1 hb1
  go_loopg [4, 18] ss.length (fun f v4 v14 wr => ∃ (j : Nat) (ao : Option Addr) (co : Nat) (out : List (Int × Int)), v4 = .slice ao j co ∧ v14 = .int .i64 (j : Int) ∧ j + f ≤ ss.length ∧ ss.length ≤ j + f ∧ out.length = j ∧ wr.ownsRow w1.heap.size 69 2 (.slice ao j co) j (cs2 out) ∧ Hid (∀ xs, YW t xs → out = xs.take j) ∧ Hid (∀ i, i < j → (ss.getD i ⟨#[]⟩).data.toList = (gtx 58 (px out i) (py out i)).data.toList) ∧ Below w1.heap.size w1 wr)
  case atStart => exact ⟨0, none, 0, [], rfl, rfl, by omega, by omega, rfl, World.ownsRow_nil _ _ _ _, fun xs _ => by simp, fun i hi => absurd hi (Nat.not_lt_zero _), Below.refl _ _⟩
  case round =>
    obtain ⟨j, ao, co, out, rfl, rfl, h1, h2, hol, hown, hY, hZ, hbel⟩ := hrel
    have hsz := hbel.size
    by_cases hj : j < ss.length
    · obtain ⟨b, off, rfl, hlt, hcj⟩ := rdT_at (HR1.out.below hbel) hj
      have hjI : (j : Int) < (ss.length : Int) := by omega
      have hpj := hps.out j hj
      have HP := Lib.hid (fun xs (y : YW t xs) => (piece_at HSS.out y).2 j hj)
      have HL := Lib.hid (fun xs (y : YW t xs) => (piece_at HSS.out y).1)
      obtain ⟨q, hq⟩ : ∃ q, q = ss.getD j ⟨#[]⟩ := ⟨_, rfl⟩
      rw [← hq] at hcj hpj HP
      have HQ := Lib.hid hq
      clear hq
      have hS := Lib.hid (l1Split_any q 58 (by omega) wr)
      have HO := Lib.hid hown
      have HB := Lib.hid hbel
      clear hown hbel
      go_wp2_with fail
      refine hS.out.mono ?_; rintro e w2 ⟨a2, c2, es, rfl, hown2, hb2, hes⟩
      have hO2 := Lib.hid (row_below HO.out hb2)
      have hB2 := Lib.hid (HB.out.trans (hb2.mono hsz))
      have hsz2 := hB2.out.size
      have hel : es.length ≤ 101 := by
        have := spl_count 58 q.data.toList
        have e2 : q.size = q.data.toList.length := by simp
        rw [← hes, List.length_map] at this; omega
      clear HO HB hS hb2
      by_cases he : es.length = 2
      · obtain ⟨p1, p2, rfl⟩ := two_len he
        obtain ⟨b3, off3, rfl, hlt3, hc30, hc31⟩ := rdT_pair hown2.rd
        have hl1 : p1.size ≤ 1000 := by
          have := spl_len 58 q.data.toList p1.data.toList (by rw [← hes]; simp [lst])
          have e2 : q.size = q.data.toList.length := by simp
          have e3 : p1.size = p1.data.toList.length := by simp
          omega
        have hl2 : p2.size ≤ 1000 := by
          have := spl_len 58 q.data.toList p2.data.toList (by rw [← hes]; simp [lst])
          have e2 : q.size = q.data.toList.length := by simp
          have e3 : p2.size = p2.data.toList.length := by simp
          omega
        have hcP := Lib.hid (fun w => meRead_any p1 (by omega) w)
        have hcQ := Lib.hid (fun w => meRead_any p2 (by omega) w)
        have hql : Hid (q.data.toList = p1.data.toList ++ 58 :: p2.data.toList) := by
          have := jnc_spl 58 q.data.toList
          rw [← hes] at this
          simp [lst, jnc] at this
          exact this.symm
        have hYp : Hid (∀ xs, YW t xs → p1.data.toList = (itx (px xs j)).data.toList ∧ p2.data.toList = (itx (py xs j)).data.toList ∧ j < xs.length) := fun xs y => by
          have e1 := HP.out xs y
          rw [e1, spl_gtxW] at hes
          simp [lst] at hes
          exact ⟨by rw [hes.1], by rw [hes.2], by rw [← HL.out xs y]; exact hj⟩
        have hcc0 : ∀ w', Below w2.heap.size w2 w' → w'.cell? ⟨b3, off3, none⟩ = some (.string p1) ∧ w'.cell? ⟨b3, off3 + 1, none⟩ = some (.string p2) := fun w' hb => ⟨by rw [(bcell hb).1 _ _ hlt3]; exact hc30, by rw [(bcell hb).1 _ _ hlt3]; exact hc31⟩
        have HCC := Lib.hid hcc0
        clear hes HP HL hown2 he hcc0
        go_wp2_with fail
        refine (hcP.out _).mono ?_; rintro e w3 ⟨rfl, hb3⟩
        have hc31' := (HCC.out _ hb3).2
        go_wp2_with fail
        refine (hcQ.out _).mono ?_; rintro e w4 ⟨rfl, hb4⟩
        have B4 := Lib.hid (hb3.trans (hb4.mono hb3.size))
        have hO4 := Lib.hid (row_below hO2.out B4.out)
        have hB4 := Lib.hid (hB2.out.trans (B4.out.mono hsz2))
        have hsz4 := hB4.out.size
        clear hb3 hb4 hO2
        cases hr1 : mRb p1.data.toList
        · obtain ⟨rfl, rfl⟩ := HH.out.no fun y => by
            have e := hYp.out R y
            have bb := y.bd.2.2 j e.2.2
            rw [e.1, (mR_itx (by omega) (by omega)).2] at hr1; cases hr1
          clear hr1
          go_wp2_with fail
          all_goals try (go_quiet (fail); go_wp2_with fail)
          all_goals (go_ret2; exact retW_none (HB1.out.trans ((by first | exact hB4.out | exact below_drewN hB4.out _ | exact hB4.out.drew : Below w1.heap.size w1 _).mono HB1.out.size)) rfl)
        cases hr2 : mRb p2.data.toList
        · obtain ⟨rfl, rfl⟩ := HH.out.no fun y => by
            have e := hYp.out R y
            have bb := y.bd.2.2 j e.2.2
            rw [e.2.1, (mR_itx (by omega) (by omega)).2] at hr2; cases hr2
          clear hr1 hr2
          go_wp2_with fail
          all_goals try (go_quiet (fail); go_wp2_with fail)
          all_goals (go_ret2; exact retW_none (HB1.out.trans ((by first | exact hB4.out | exact below_drewN hB4.out _ | exact hB4.out.drew : Below w1.heap.size w1 _).mono HB1.out.size)) rfl)
        have hY2 : Hid (∀ xs, YW t xs → out ++ [(mRv p1.data.toList, mRv p2.data.toList)] = xs.take (j + 1)) := fun xs y => by
          have e := hYp.out xs y
          have bb := y.bd.2.2 j e.2.2
          rw [hY.out xs y, take_succ_xy xs j e.2.2, e.1, e.2.1, (mR_itx (by omega) (by omega)).1, (mR_itx (by omega) (by omega)).1]
        have hZ2 : Hid (∀ i, i < j + 1 → (ss.getD i ⟨#[]⟩).data.toList = (gtx 58 (px (out ++ [(mRv p1.data.toList, mRv p2.data.toList)]) i) (py (out ++ [(mRv p1.data.toList, mRv p2.data.toList)]) i)).data.toList) := fun i hi => by
          by_cases q1 : i < j
          · rw [(px_app (by omega)).1, (px_app (by omega)).2]; exact hZ.out i q1
          · have e : i = out.length := by omega
            subst e
            rw [(px_last _ _ _).1, (px_last _ _ _).2, gtxW_list, ← mR_inv hr1, ← mR_inv hr2, hol, ← HQ.out]
            exact hql.out
        have hlo : (out ++ [(mRv p1.data.toList, mRv p2.data.toList)]).length = j + 1 := by simp [hol]
        clear hr1 hr2 hY hZ
        generalize mRv p1.data.toList = u at *
        generalize mRv p2.data.toList = v at *
        go_wp2_with (first | (at_builtin; refine wpList_append_own _ rfl _ _ 37 rfl w1.heap.size 69 i0 (.agg #[.int .i64 0, .int .i64 0]) 2 16 Tryd.underlying37 hi hz0 hz1 hz2 rfl (by decide) _ _ _ rfl (hO4.out.alloc _) ⟨w4.heap.size, 0, none⟩ 1 1 [.int .i64 u, .int .i64 v] rfl rfl (cell_two_new _ _ _ _) (fun x hx => by simp at hx; rcases hx with rfl | rfl <;> rfl) (by unfold maxLen; omega) (by omega) (by first | omega | (simp; omega)) ?_; intro v1 w6 hO6 hgrow hx; clear hx; have HO6 := Lib.hid hO6; have HG6 := Lib.hid hgrow; clear hgrow hO6))
        obtain ⟨a4, c4, rfl⟩ := own_formR HO6.out
        have hBa := hB4.out.alloc hsz4 (.cells #[.int .i64 u, .int .i64 v] 69)
        have hB6 := hBa.grown HG6.out hBa.size (fun k hk => (hO4.out.lt k hk).1)
        go_roundg (gk - 1)
        case rel => exact ⟨j + 1, a4, c4, out ++ [(u, v)], rfl, by go_num, by omega, by omega, hlo, by rw [cs2_snoc]; exact HO6.out, hY2, hZ2, hB6⟩
        case measure => omega
      · obtain ⟨rfl, rfl⟩ := HH.out.no fun y => he (by
          have e1 := HP.out R y
          rw [e1, spl_gtxW] at hes
          have := congrArg List.length hes
          simpa using this)
        have heI : ¬ (es.length : Int) = 2 := by omega
        have heB : ((es.length : Int) == 2) = false := by simp; omega
        clear hO2 hown2 hes HP HL
        go_wp2_with fail
        go_ret2
        exact retW_none (HB1.out.trans (hB2.out.mono HB1.out.size)) rfl
    · have e : j = ss.length := by omega
      have HL := Lib.hid (fun xs (y : YW t xs) => (piece_at HSS.out y).1)
      have hfull : ∀ xs, YW t xs → out = xs := fun xs y => by rw [hY.out xs y, e, HL.out xs y, List.take_length]
      have HF := Lib.hid hfull
      subst e
      have hRo : RdP wr ao out := rowP_rd hol hown
      have HT := Lib.hid (meAll_any ao co out wr hRo (by omega))
      rw [hol] at HT
      have HO := Lib.hid hown
      have HB := Lib.hid (HB1.out.trans (hbel.mono HB1.out.size))
      have hsw := HB.out.size
      clear hown hbel hRo hfull HL
      cases hr : wks out
      · obtain ⟨rfl, rfl⟩ := HH.out.no fun y => by rw [HF.out R y] at hr; rw [y.1] at hr; cases hr
        rw [hr] at HT
        clear hr
        go_wp2_with fail
        refine HT.out.mono ?_; rintro e w5 ⟨rfl, hb5⟩
        go_wp2_with fail
        go_ret2
        exact retW_none (HB.out.trans (hb5.mono hsw)) rfl
      · rw [hr] at HT
        have hy : YW t out := yw_of HSS.out hol (fun i hi => hZ.out i hi) hr
        have hRo : R = out ∧ ok = true := by
          rcases HH.out with ⟨y, k⟩ | ⟨n, _⟩
          · exact ⟨(HF.out R y).symm, k⟩
          · exact absurd hy (n out)
        obtain ⟨rfl, rfl⟩ := hRo
        clear hr hy
        go_wp2_with fail
        refine HT.out.mono ?_; rintro e w5 ⟨rfl, hb5⟩
        have hO6 := row_below HO.out hb5
        go_wp2_with fail
        go_ret2
        refine ⟨ao, co, by rw [hol]; rfl, ?_, HB.out.trans (hb5.mono hsw)⟩
        unfold OwnP
        rw [hol]
        exact row_baseR hO6 HB1.out.size
set_option maxHeartbeats 1000000 in
theorem specParseWalkers (t : ByteArray) (R : List (Int × Int)) (ok : Bool) (H : PW t R ok) (ht : t.size ≤ 1048576) (w : World) :
    Calls Tryd.prog 23 #[.string t] w (RetW w R ok) := by
  have HS := Lib.hid (meParse_any t R ok H ht w)
  clear H
  go_enter Tryd.func23, Tryd.ntmps23
  go_wp2_with fail
  refine HS.out.mono ?_; rintro e w1 ⟨a, cap, rfl, hO, hb⟩
  have HP := Lib.hid (And.intro hO hb)
  clear hO hb
  go_wp2_with fail
  go_ret2
  exact ⟨a, cap, rfl, HP.out.1, HP.out.2⟩
end Go.Proofs.YtlfjgggidoakaaaDoor
