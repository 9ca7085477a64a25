/- The program's reader of a snail's text: strings.Cut and strconv.Atoi by the shelf's contracts. -/
import Derived.Test.YtchpdmcfnpcfeabDoorParseWalks
import Derived.Test.YtchpdmcfnpcfeabDoorTextOfS
import Derived.Stop.LaidErr
import Derived.Lib.AtoiAllCases
import Derived.Deep.QuietTactic
import Derived.BigQuiet
namespace Go.Proofs.YtchpdmcfnpcfeabDoor
open Go.RowKit
set_option linter.unusedVariables false
set_option linter.unusedSimpArgs false
/-- What the library's own variables hold. -/
structure Env (w : World) : Prop where
  tab : Lib.TabIs Tryd.prog w "internal/strconv.uint64pow10" .u64 Lib.pow10Tab
  ml : ∃ m, w.cell? ⟨0, 0, none⟩ = some (.int .i64 m)
  es : ∃ tp p, w.var? Tryd.prog "strconv.ErrSyntax" = some #[.iface tp p]
  er : ∃ tp p, w.var? Tryd.prog "strconv.ErrRange" = some #[.iface tp p]
theorem esG : Tryd.prog.globalNamed "strconv.ErrSyntax" = some 1 := by kernel_rfl
theorem erG : Tryd.prog.globalNamed "strconv.ErrRange" = some 2 := by kernel_rfl
theorem var_lt {P : Program} {w : World} {name : String} {g : Nat} {cs : Array Value} (hg : P.globalNamed name = some g) (h : w.var? P name = some cs) : g < w.heap.size := by
  rcases Nat.lt_or_ge g w.heap.size with q | q
  · exact q
  · exfalso
    unfold World.var? at h
    rw [hg] at h
    simp [Array.getElem?_eq_none q] at h
theorem cell_lt {w : World} {b o : Nat} {v : Value} (h : w.cell? ⟨b, o, none⟩ = some v) : b < w.heap.size := by
  rcases Nat.lt_or_ge b w.heap.size with q | q
  · exact q
  · exfalso
    have e : w.heap[b]? = none := Array.getElem?_eq_none q
    simp [World.cell?, e] at h
theorem Env.below {w w' : World} (E : Env w) (hb : Below w.heap.size w w') : Env w' := by
  have hlt := tab_lt pow10G E.tab
  refine ⟨tab_below pow10G hlt E.tab hb, ?_, ?_, ?_⟩
  · obtain ⟨m, hm⟩ := E.ml
    exact ⟨m, by rw [(bcell hb).1 _ _ (cell_lt hm)]; exact hm⟩
  · obtain ⟨tp, p, h⟩ := E.es
    exact ⟨tp, p, var?_below hb esG (var_lt esG h) h⟩
  · obtain ⟨tp, p, h⟩ := E.er
    exact ⟨tp, p, var?_below hb erG (var_lt erG h) h⟩
/-- Atoi at every string: the number and nil, or an error that is not nil. -/
theorem atoi_any (s : ByteArray) (hs : s.size ≤ 1048576) (w : World) (E : Env w) :
    Calls Tryd.prog 40 #[.string s] w fun e w' => ∃ v ev, e = .returned (.tuple #[.int .i64 v, ev]) ∧ Below w.heap.size w w' ∧ ((ev = .nilIface ∧ Lib.atoiAll s.data.toList = .ok v) ∨ ((∃ tp p, ev = .iface tp (.pointer (some p))) ∧ ∀ v, Lib.atoiAll s.data.toList ≠ .ok v)) := by
  cases h : Lib.atoiAll s.data.toList
  · rename_i v
    refine (Tryd.strconv_Atoi_ok s (by omega) v h w).mono ?_
    rintro e w' ⟨rfl, hw⟩
    refine ⟨v, _, rfl, ?_, .inl ⟨rfl, rfl⟩⟩
    rcases hw with rfl | ⟨t, rfl⟩
    · exact Below.refl _ _
    · exact Lib.bytesWorld_below _ _ _
  · obtain ⟨tp, p, hv⟩ := E.es
    refine (Any.strconv_Atoi_syntax_var Tryd.laysC172 s (by omega) h tp p w hv).mono ?_
    rintro e w' ⟨N, rfl, _, _, hb⟩
    exact ⟨_, _, rfl, hb, .inr ⟨⟨_, _, rfl⟩, fun v q => by cases q⟩⟩
  · obtain ⟨tp, p, hv⟩ := E.er
    refine (Tryd.strconv_Atoi_range_var s (by omega) h tp p w hv).mono ?_
    rintro e w' ⟨N, rfl, _, _, hb⟩
    exact ⟨_, _, rfl, hb, .inr ⟨⟨_, _, rfl⟩, fun v q => by cases q⟩⟩
/-- Cut at a dash. -/
theorem cut_dash (s : ByteArray) (hs : s.size ≤ 1048576) (w : World) (E : Env w) :
    Calls Tryd.prog 39 #[.string s, .string ⟨#[45]⟩] w fun e w' => e = .returned (.tuple #[.string ⟨(Lib.cut s.data.toList [45]).1.toArray⟩, .string ⟨(Lib.cut s.data.toList [45]).2.1.toArray⟩, .bool (Lib.cut s.data.toList [45]).2.2]) ∧ Below w.heap.size w w' := by
  obtain ⟨m, hm⟩ := E.ml
  refine (Tryd.strings_Cut s ⟨#[45]⟩ m w (by omega) hm).mono ?_
  rintro e w' ⟨rfl, n, rfl⟩
  exact ⟨rfl, below_drewN (Below.refl _ _) _⟩
/-- What twoNumbers answers of a text whose parts are l and r. -/
def TwoPost (l r : List UInt8) (w : World) (e : Ending) (w' : World) : Prop :=
  ∃ (u d : Int) (ok : Bool), e = .returned (.tuple #[.int .i64 u, .int .i64 d, .bool ok]) ∧ Below w.heap.size w w' ∧ ((ok = true ∧ Lib.atoiAll l = .ok u ∧ Lib.atoiAll r = .ok d) ∨ (ok = false ∧ ¬ ∃ u d, Lib.atoiAll l = .ok u ∧ Lib.atoiAll r = .ok d))
set_option maxHeartbeats 1000000 in
theorem two_any (t sep : ByteArray) (l r : List UInt8) (f : Bool) (n : Nat) (hn : n ≤ 1048576) (hcut : ∀ w, Env w → Calls Tryd.prog 39 #[.string t, .string sep] w fun e w' => e = .returned (.tuple #[.string ⟨l.toArray⟩, .string ⟨r.toArray⟩, .bool f]) ∧ Below w.heap.size w w') (hl : l.length ≤ n) (hr : r.length ≤ n) (w : World) (E : Env w) :
    Calls Tryd.prog 23 #[.string t, .string sep] w (TwoPost l r w) := by
  go_enter Tryd.func23, Tryd.ntmps23
  go_wp2_with fail
  refine (hcut _ E).mono ?_; rintro e w1 ⟨rfl, hb1⟩
  have E2 := E.below hb1
  go_wp2_with fail
  refine (atoi_any ⟨l.toArray⟩ (by simp [ByteArray.size]; omega) _ E2).mono ?_; rintro e w2 ⟨u, ev1, rfl, hb2, hv1⟩
  have E3 := E2.below hb2
  have B2 : Below w.heap.size w w2 := hb1.trans (hb2.mono hb1.size)
  go_wp2_with fail
  refine (atoi_any ⟨r.toArray⟩ (by simp [ByteArray.size]; omega) _ E3).mono ?_; rintro e w3 ⟨d, ev2, rfl, hb3, hv2⟩
  have B3 := Lib.hid (B2.trans (hb3.mono B2.size))
  clear E2 E3 hb1 hb2 hb3 B2 hl hr
  rcases hv1 with ⟨rfl, hu⟩ | ⟨⟨tp1, p1, rfl⟩, hu⟩ <;> rcases hv2 with ⟨rfl, hd⟩ | ⟨⟨tp2, p2, rfl⟩, hd⟩
  all_goals
    have HU := Lib.hid hu
    have HD := Lib.hid hd
    clear hu hd
    go_wp2_with fail
    try (go_quiet (fail); go_wp2_with fail)
    go_ret3
  · exact ⟨_, _, true, rfl, below_drewN B3.out _, .inl ⟨rfl, HU.out, HD.out⟩⟩
  · exact ⟨_, _, false, rfl, below_drewN B3.out _, .inr ⟨rfl, fun ⟨_, _, _, h⟩ => HD.out _ h⟩⟩
  · exact ⟨_, _, false, rfl, below_drewN B3.out _, .inr ⟨rfl, fun ⟨_, _, h, _⟩ => HU.out _ h⟩⟩
  · exact ⟨_, _, false, rfl, below_drewN B3.out _, .inr ⟨rfl, fun ⟨_, _, h, _⟩ => HU.out _ h⟩⟩
set_option maxHeartbeats 1000000 in
theorem implParse_yes (U D : Nat) (ok : snOk U D = true) (w : World) (E : Env w) :
    Calls Tryd.prog 7 #[.string (stx U D)] w fun e w' => e = .returned (.tuple #[.agg #[.int .i64 (U : Int), .int .i64 (D : Int)], .bool true]) ∧ Below w.heap.size w w' := by
  have sl := snOk_iff.1 ok
  have hU : U ≤ 1000 := by omega
  have hD : D ≤ 1000 := by omega
  have hsz := stx_size U D hU hD
  have aU := Lib.hid (atoi_digits U (by omega))
  have aD := Lib.hid (atoi_digits D (by omega))
  have k1 := decDigits_len 3 U (by omega)
  have k2 := decDigits_len 3 D (by omega)
  have hcutc : Hid (∀ w, Env w → Calls Tryd.prog 39 #[.string (stx U D), .string ⟨#[45]⟩] w fun e w' => e = .returned (.tuple #[.string ⟨(Lib.decDigits U).toArray⟩, .string ⟨(Lib.decDigits D).toArray⟩, .bool true]) ∧ Below w.heap.size w w') := fun w E => by
    have := cut_dash (stx U D) (by omega) w E
    rw [cut_stx U D] at this; exact this
  have E1 : Env (w.alloc (.cells #[.int .i64 0, .int .i64 0] 23)) := E.below ((Below.refl _ _).alloc (Nat.le_refl _) _)
  have hxt : Hid (sxt U D = stx U D) := by unfold Hid sxt; rw [ok]; rfl
  clear sl
  go_enter Tryd.func7, Tryd.ntmps7
  go_wp2_with fail
  refine (two_any (stx U D) ⟨#[45]⟩ _ _ true 1048576 (by omega) hcutc.out (by omega) (by omega) _ E1).mono ?_; rintro e w3 ⟨u, d, okk, rfl, hb3, hv⟩
  obtain ⟨rfl, rfl, rfl⟩ : okk = true ∧ u = (U : Int) ∧ d = (D : Int) := by
    rcases hv with ⟨a, b, c⟩ | ⟨_, b⟩
    · exact ⟨a, by have := b.symm.trans aU.out; injection this, by have := c.symm.trans aD.out; injection this⟩
    · exact absurd ⟨_, _, aU.out, aD.out⟩ b
  clear hv
  have E4 := E1.below hb3
  have hz13 : w.heap.size < w3.heap.size := by have := hb3.size; simp at this; omega
  have B3 : Below w.heap.size w w3 := ((Below.refl _ _).alloc (Nat.le_refl _) _).trans (hb3.mono (by simp))
  have hcA := fun o => ((bcell hb3).1 w.heap.size o (by simp))
  have hfA := fun o => ((bcell hb3).2 w.heap.size o (by simp))
  go_wp2_with fail
  have E5 := E4.below ((Below.refl _ _).alloc (Nat.le_refl _) (.cells #[.int .i64 (U : Int), .int .i64 (D : Int)] 23))
  refine (isTextS (stx U D) (U : Int) (D : Int) true (by rw [hxt.out, ok]; simp) _ E5.tab).mono ?_; rintro e w4 ⟨rfl, hb4⟩
  have hcB := fun o => (bcell hb4).1 w3.heap.size o (by simp)
  have hcC := fun o => (bcell hb4).1 w.heap.size o (by simp; omega)
  have hfC := fun o => (bcell hb4).2 w.heap.size o (by simp; omega)
  have hz4 : w3.heap.size < w4.heap.size := by have := hb4.size; simp at this; omega
  have hz13 : w.heap.size < w3.heap.size := by omega
  clear E1 E4 E5 hb3
  go_wp2_with fail
  refine bodyPost_ret (v := .tuple #[.agg #[.int .i64 (U : Int), .int .i64 (D : Int)], .bool true]) (by have e0 : (w4.cell? ⟨w.heap.size, 0, none⟩).isSome = true := (by rw [hcC]; go_simp); have e1 : (w4.cell? ⟨w.heap.size, 1, none⟩).isSome = true := (by rw [hcC]; go_simp); clear hcA hfA hcB hcC hfC; simp [results, Tryd.results7, go_sem, e0, e1]) rfl ⟨rfl, ?_⟩
  (repeat (first | assumption | exact Below.refl _ _ | refine Below.setCell ?_ (by first | omega | simp) _ | refine Below.drew ?_ | refine Below.alloc ?_ (by first | omega | (simp; done) | (simp; omega)) _ | refine bchain ?_ (by assumption) (by first | omega | (simp; done) | (simp; omega))))
set_option maxHeartbeats 1000000 in
theorem implParse_no (t : ByteArray) (ht : t.size ≤ 1048576) (h : ∀ U D : Nat, snOk U D = true → stx U D ≠ t) (w : World) (E : Env w) :
    Calls Tryd.prog 7 #[.string t] w fun e w' => e = .returned (.tuple #[.agg #[.int .i64 0, .int .i64 0], .bool false]) ∧ Below w.heap.size w w' := by
  have HN := Lib.hid h
  clear h
  have hlen : t.data.toList.length = t.size := by simp
  obtain ⟨l, r, f, hcut, hl, hr⟩ : ∃ l r f, Lib.cut t.data.toList [45] = (l, r, f) ∧ l.length ≤ t.size ∧ r.length ≤ t.size := by
    refine ⟨(Lib.cut t.data.toList [45]).1, (Lib.cut t.data.toList [45]).2.1, (Lib.cut t.data.toList [45]).2.2, rfl, ?_, ?_⟩ <;> (unfold Lib.cut; split) <;> simp <;> omega
  have E1 : Env (w.alloc (.cells #[.int .i64 0, .int .i64 0] 23)) := E.below ((Below.refl _ _).alloc (Nat.le_refl _) _)
  have hcutc : Hid (∀ w, Env w → Calls Tryd.prog 39 #[.string t, .string ⟨#[45]⟩] w fun e w' => e = .returned (.tuple #[.string ⟨l.toArray⟩, .string ⟨r.toArray⟩, .bool f]) ∧ Below w.heap.size w w') := fun w E => by
    have := cut_dash t ht w E
    rw [hcut] at this; exact this
  clear hlen hcut
  go_enter Tryd.func7, Tryd.ntmps7
  go_wp2_with fail
  refine (two_any t ⟨#[45]⟩ _ _ f t.size ht hcutc.out hl hr _ E1).mono ?_; rintro e w3 ⟨u, d, okk, rfl, hb3, hv⟩
  clear hcutc hl hr
  have E4 := E1.below hb3
  have hz13 : w.heap.size < w3.heap.size := by have := hb3.size; simp at this; omega
  have B3 : Below w.heap.size w w3 := ((Below.refl _ _).alloc (Nat.le_refl _) _).trans (hb3.mono (by simp))
  have hcA := fun o => ((bcell hb3).1 w.heap.size o (by simp))
  have hfA := fun o => ((bcell hb3).2 w.heap.size o (by simp))
  rcases hv with ⟨rfl, hu, hd⟩ | ⟨rfl, _⟩
  · have bu := Lib.atoiAll_bounds hu
    have bd := Lib.atoiAll_bounds hd
    clear hu hd
    cases hs : snOk u d
    · have hxt : Hid (sxt u d = ⟨#[]⟩) := by unfold Hid sxt; rw [hs]; rfl
      clear HN
      go_wp2_with fail
      have E5 := E4.below ((Below.refl _ _).alloc (Nat.le_refl _) (.cells #[.int .i64 u, .int .i64 d] 23))
      refine (isTextS t u d false (by rw [hs]; rfl) _ E5.tab).mono ?_; rintro e w4 ⟨rfl, hb4⟩
      have hcB := fun o => (bcell hb4).1 w3.heap.size o (by simp)
      have hcC := fun o => (bcell hb4).1 w.heap.size o (by simp; omega)
      have hfC := fun o => (bcell hb4).2 w.heap.size o (by simp; omega)
      have hz4 : w3.heap.size < w4.heap.size := by have := hb4.size; simp at this; omega
      clear E1 E4 E5 hb3
      go_wp2_with fail
      refine bodyPost_ret (v := .tuple #[.agg #[.int .i64 0, .int .i64 0], .bool false]) (by have e0 : (w4.cell? ⟨w.heap.size, 0, none⟩).isSome = true := (by rw [hcC]; go_simp); have e1 : (w4.cell? ⟨w.heap.size, 1, none⟩).isSome = true := (by rw [hcC]; go_simp); clear hcA hfA hcB hcC hfC; simp [results, Tryd.results7, go_sem, e0, e1]) rfl ⟨rfl, ?_⟩
      (repeat (first | assumption | exact Below.refl _ _ | refine Below.setCell ?_ (by first | omega | simp) _ | refine Below.drew ?_ | refine Below.alloc ?_ (by first | omega | (simp; done) | (simp; omega)) _ | refine bchain ?_ (by assumption) (by first | omega | (simp; done) | (simp; omega))))
    · have sl := snOk_iff.1 hs
      obtain ⟨U, rfl⟩ := Int.eq_ofNat_of_zero_le (show 0 ≤ u by omega)
      obtain ⟨D, rfl⟩ := Int.eq_ofNat_of_zero_le (show 0 ≤ d by omega)
      have hne : stx U D ≠ t := HN.out U D hs
      have hne' : ((stx U D).toList == t.toList) = false := by
        rw [beq_eq_false_iff_ne, ByteArray.toList_eq, ByteArray.toList_eq]; intro q; exact hne (by cases hx : stx U D; cases t; rw [hx] at q; congr 1; exact Array.toList_inj.1 q)
      have hxt : Hid (sxt U D = stx U D) := by unfold Hid sxt; rw [hs]; rfl
      clear HN sl bu bd
      go_wp2_with fail
      have E5 := E4.below ((Below.refl _ _).alloc (Nat.le_refl _) (.cells #[.int .i64 (U : Int), .int .i64 (D : Int)] 23))
      refine (isTextS t (U : Int) (D : Int) false (by rw [hs, hxt.out]; simpa using hne) _ E5.tab).mono ?_; rintro e w4 ⟨rfl, hb4⟩
      have hcB := fun o => (bcell hb4).1 w3.heap.size o (by simp)
      have hcC := fun o => (bcell hb4).1 w.heap.size o (by simp; omega)
      have hfC := fun o => (bcell hb4).2 w.heap.size o (by simp; omega)
      have hz4 : w3.heap.size < w4.heap.size := by have := hb4.size; simp at this; omega
      clear E1 E4 E5 hb3
      go_wp2_with fail
      refine bodyPost_ret (v := .tuple #[.agg #[.int .i64 0, .int .i64 0], .bool false]) (by have e0 : (w4.cell? ⟨w.heap.size, 0, none⟩).isSome = true := (by rw [hcC]; go_simp); have e1 : (w4.cell? ⟨w.heap.size, 1, none⟩).isSome = true := (by rw [hcC]; go_simp); clear hcA hfA hcB hcC hfC; simp [results, Tryd.results7, go_sem, e0, e1]) rfl ⟨rfl, ?_⟩
      (repeat (first | assumption | exact Below.refl _ _ | refine Below.setCell ?_ (by first | omega | simp) _ | refine Below.drew ?_ | refine Below.alloc ?_ (by first | omega | (simp; done) | (simp; omega)) _ | refine bchain ?_ (by assumption) (by first | omega | (simp; done) | (simp; omega))))
  · clear HN E1 E4 hb3
    go_wp2_with fail
    refine bodyPost_ret (v := .tuple #[.agg #[.int .i64 0, .int .i64 0], .bool false]) (by have e0 : (w3.cell? ⟨w.heap.size, 0, none⟩).isSome = true := (by rw [hcA]; go_simp); have e1 : (w3.cell? ⟨w.heap.size, 1, none⟩).isSome = true := (by rw [hcA]; go_simp); clear hcA hfA; simp [results, Tryd.results7, go_sem, e0, e1]) rfl ⟨rfl, ?_⟩
    (repeat (first | assumption | exact Below.refl _ _ | refine Below.setCell ?_ (by first | omega | simp) _ | refine Below.drew ?_ | refine Below.alloc ?_ (by first | omega | (simp; done) | (simp; omega)) _ | refine bchain ?_ (by assumption) (by first | omega | (simp; done) | (simp; omega))))
end Go.Proofs.YtchpdmcfnpcfeabDoor
