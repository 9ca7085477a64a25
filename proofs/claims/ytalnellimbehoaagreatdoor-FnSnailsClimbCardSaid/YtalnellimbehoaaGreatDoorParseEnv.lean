/- The program's readers of texts of two numbers: strings.Cut and strconv.Atoi by the shelf's contracts. -/
import Derived.Test.YtalnellimbehoaaGreatDoorParseWalks
import Derived.Stop.LaidErr
import Derived.Lib.AtoiAllCases
import Derived.Deep.QuietTactic
import Derived.BigQuiet
namespace Go.Proofs.YtalnellimbehoaaGreatDoor
open Go.RowKit
set_option linter.unusedVariables false
set_option linter.unusedSimpArgs false
/-- What the library's own variables hold. -/
structure Env (w : World) : Prop where
  tab : Lib.TabIs Tryz.prog w "internal/strconv.uint64pow10" .u64 Lib.pow10Tab
  ml : ∃ m, w.cell? ⟨1, 0, none⟩ = some (.int .i64 m)
  es : ∃ tp p, w.var? Tryz.prog "strconv.ErrSyntax" = some #[.iface tp p]
  er : ∃ tp p, w.var? Tryz.prog "strconv.ErrRange" = some #[.iface tp p]
theorem esG : Tryz.prog.globalNamed "strconv.ErrSyntax" = some 2 := by kernel_rfl
theorem erG : Tryz.prog.globalNamed "strconv.ErrRange" = some 3 := by kernel_rfl
theorem var_lt {P : Program} {w : World} {name : String} {g : Nat} {cs : Array Value} (hg : P.globalNamed name = some g) (h : w.var? P name = some cs) : g < w.heap.size := by
  rcases Nat.lt_or_ge g w.heap.size with q | q
  · exact q
  · exfalso
    unfold World.var? at h
    rw [hg] at h
    simp [Array.getElem?_eq_none q] at h
theorem cell_lt {w : World} {b o : Nat} {v : Value} (h : w.cell? ⟨b, o, none⟩ = some v) : b < w.heap.size := by
  rcases Nat.lt_or_ge b w.heap.size with q | q
  · exact q
  · exfalso
    have e : w.heap[b]? = none := Array.getElem?_eq_none q
    simp [World.cell?, e] at h
theorem Env.below {w w' : World} (E : Env w) (hb : Below w.heap.size w w') : Env w' := by
  have hlt := tab_lt pow10G E.tab
  refine ⟨tab_below pow10G hlt E.tab hb, ?_, ?_, ?_⟩
  · obtain ⟨m, hm⟩ := E.ml
    exact ⟨m, by rw [(bcell hb).1 _ _ (cell_lt hm)]; exact hm⟩
  · obtain ⟨tp, p, h⟩ := E.es
    exact ⟨tp, p, var?_below hb esG (var_lt esG h) h⟩
  · obtain ⟨tp, p, h⟩ := E.er
    exact ⟨tp, p, var?_below hb erG (var_lt erG h) h⟩
/-- Atoi at every string: the number and nil, or an error that is not nil. -/
theorem atoi_any (s : ByteArray) (hs : s.size ≤ 1048576) (w : World) (E : Env w) :
    Calls Tryz.prog 75 #[.string s] w fun e w' => ∃ v ev, e = .returned (.tuple #[.int .i64 v, ev]) ∧ Below w.heap.size w w' ∧ ((ev = .nilIface ∧ Lib.atoiAll s.data.toList = .ok v) ∨ ((∃ tp p, ev = .iface tp (.pointer (some p))) ∧ ∀ v, Lib.atoiAll s.data.toList ≠ .ok v)) := by
  cases h : Lib.atoiAll s.data.toList
  · rename_i v
    refine (Tryz.strconv_Atoi_ok s (by omega) v h w).mono ?_
    rintro e w' ⟨rfl, hw⟩
    refine ⟨v, _, rfl, ?_, .inl ⟨rfl, rfl⟩⟩
    rcases hw with rfl | ⟨t, rfl⟩
    · exact Below.refl _ _
    · exact Lib.bytesWorld_below _ _ _
  · obtain ⟨tp, p, hv⟩ := E.es
    refine (Any.strconv_Atoi_syntax_var Tryz.laysC172 s (by omega) h tp p w hv).mono ?_
    rintro e w' ⟨N, rfl, _, _, hb⟩
    exact ⟨_, _, rfl, hb, .inr ⟨⟨_, _, rfl⟩, fun v q => by cases q⟩⟩
  · obtain ⟨tp, p, hv⟩ := E.er
    refine (Tryz.strconv_Atoi_range_var s (by omega) h tp p w hv).mono ?_
    rintro e w' ⟨N, rfl, _, _, hb⟩
    exact ⟨_, _, rfl, hb, .inr ⟨⟨_, _, rfl⟩, fun v q => by cases q⟩⟩
/-- Cut at one byte. -/
theorem cut_sep (c : UInt8) (s : ByteArray) (hs : s.size ≤ 1048576) (w : World) (E : Env w) :
    Calls Tryz.prog 74 #[.string s, .string ⟨#[c]⟩] w fun e w' => e = .returned (.tuple #[.string ⟨(Lib.cut s.data.toList [c]).1.toArray⟩, .string ⟨(Lib.cut s.data.toList [c]).2.1.toArray⟩, .bool (Lib.cut s.data.toList [c]).2.2]) ∧ Below w.heap.size w w' := by
  obtain ⟨m, hm⟩ := E.ml
  refine (Tryz.strings_Cut s ⟨#[c]⟩ m w (by omega) hm).mono ?_
  rintro e w' ⟨rfl, n, rfl⟩
  exact ⟨rfl, below_drewN (Below.refl _ _) _⟩
/-- What twoNumbers answers of a text whose parts are l and r. -/
def TwoPost (l r : List UInt8) (w : World) (e : Ending) (w' : World) : Prop :=
  ∃ (u d : Int) (ok : Bool), e = .returned (.tuple #[.int .i64 u, .int .i64 d, .bool ok]) ∧ Below w.heap.size w w' ∧ ((ok = true ∧ Lib.atoiAll l = .ok u ∧ Lib.atoiAll r = .ok d) ∨ (ok = false ∧ ¬ ∃ u d, Lib.atoiAll l = .ok u ∧ Lib.atoiAll r = .ok d))
set_option maxHeartbeats 1000000 in
theorem two_any (t sep : ByteArray) (l r : List UInt8) (f : Bool) (n : Nat) (hn : n ≤ 1048576) (hcut : ∀ w, Env w → Calls Tryz.prog 74 #[.string t, .string sep] w fun e w' => e = .returned (.tuple #[.string ⟨l.toArray⟩, .string ⟨r.toArray⟩, .bool f]) ∧ Below w.heap.size w w') (hl : l.length ≤ n) (hr : r.length ≤ n) (w : World) (E : Env w) :
    Calls Tryz.prog 71 #[.string t, .string sep] w (TwoPost l r w) := by
  go_enter Tryz.func71, Tryz.ntmps71
  go_wp2_with fail
  refine (hcut _ E).mono ?_; rintro e w1 ⟨rfl, hb1⟩
  have E2 := E.below hb1
  go_wp2_with fail
  refine (atoi_any ⟨l.toArray⟩ (by simp [ByteArray.size]; omega) _ E2).mono ?_; rintro e w2 ⟨u, ev1, rfl, hb2, hv1⟩
  have E3 := E2.below hb2
  have B2 : Below w.heap.size w w2 := hb1.trans (hb2.mono hb1.size)
  go_wp2_with fail
  refine (atoi_any ⟨r.toArray⟩ (by simp [ByteArray.size]; omega) _ E3).mono ?_; rintro e w3 ⟨d, ev2, rfl, hb3, hv2⟩
  have B3 := Lib.hid (B2.trans (hb3.mono B2.size))
  clear E2 E3 hb1 hb2 hb3 B2 hl hr
  rcases hv1 with ⟨rfl, hu⟩ | ⟨⟨tp1, p1, rfl⟩, hu⟩ <;> rcases hv2 with ⟨rfl, hd⟩ | ⟨⟨tp2, p2, rfl⟩, hd⟩
  all_goals
    have HU := Lib.hid hu
    have HD := Lib.hid hd
    clear hu hd
    go_wp2_with fail
    try (go_quiet (fail); go_wp2_with fail)
    go_ret3
  · exact ⟨_, _, true, rfl, below_drewN B3.out _, .inl ⟨rfl, HU.out, HD.out⟩⟩
  · exact ⟨_, _, false, rfl, below_drewN B3.out _, .inr ⟨rfl, fun ⟨_, _, _, h⟩ => HD.out _ h⟩⟩
  · exact ⟨_, _, false, rfl, below_drewN B3.out _, .inr ⟨rfl, fun ⟨_, _, h, _⟩ => HU.out _ h⟩⟩
  · exact ⟨_, _, false, rfl, below_drewN B3.out _, .inr ⟨rfl, fun ⟨_, _, h, _⟩ => HU.out _ h⟩⟩
end Go.Proofs.YtalnellimbehoaaGreatDoor
