/- The program's reader of a snail's text: strings.Cut and strconv.Atoi by the shelf's contracts. -/
import Derived.Test.YtchpdmcfnpcfeaaDoorParseWalks
import Derived.Test.YtchpdmcfnpcfeaaDoorTextOfS
import Derived.Stop.LaidErr
import Derived.Lib.AtoiAllCases
import Derived.Deep.QuietTactic
import Derived.BigQuiet
namespace Go.Proofs.YtchpdmcfnpcfeaaDoor
open Go.RowKit
set_option linter.unusedVariables false
set_option linter.unusedSimpArgs false
/-- What the library's own variables hold. -/
structure Env (w : World) : Prop where
  tab : Lib.TabIs Tryd.prog w "internal/strconv.uint64pow10" .u64 Lib.pow10Tab
  ml : ∃ m, w.cell? ⟨1, 0, none⟩ = some (.int .i64 m)
  es : ∃ tp p, w.var? Tryd.prog "strconv.ErrSyntax" = some #[.iface tp p]
  er : ∃ tp p, w.var? Tryd.prog "strconv.ErrRange" = some #[.iface tp p]
theorem esG : Tryd.prog.globalNamed "strconv.ErrSyntax" = some 2 := by kernel_rfl
theorem erG : Tryd.prog.globalNamed "strconv.ErrRange" = some 3 := by kernel_rfl
theorem var_lt {P : Program} {w : World} {name : String} {g : Nat} {cs : Array Value} (hg : P.globalNamed name = some g) (h : w.var? P name = some cs) : g < w.heap.size := by
  rcases Nat.lt_or_ge g w.heap.size with q | q
  · exact q
  · exfalso
    unfold World.var? at h
    rw [hg] at h
    simp [Array.getElem?_eq_none q] at h
theorem cell_lt {w : World} {b o : Nat} {v : Value} (h : w.cell? ⟨b, o, none⟩ = some v) : b < w.heap.size := by
  rcases Nat.lt_or_ge b w.heap.size with q | q
  · exact q
  · exfalso
    have e : w.heap[b]? = none := Array.getElem?_eq_none q
    simp [World.cell?, e] at h
theorem Env.below {w w' : World} (E : Env w) (hb : Below w.heap.size w w') : Env w' := by
  have hlt := tab_lt pow10G E.tab
  refine ⟨tab_below pow10G hlt E.tab hb, ?_, ?_, ?_⟩
  · obtain ⟨m, hm⟩ := E.ml
    exact ⟨m, by rw [(bcell hb).1 _ _ (cell_lt hm)]; exact hm⟩
  · obtain ⟨tp, p, h⟩ := E.es
    exact ⟨tp, p, var?_below hb esG (var_lt esG h) h⟩
  · obtain ⟨tp, p, h⟩ := E.er
    exact ⟨tp, p, var?_below hb erG (var_lt erG h) h⟩
/-- Atoi at every string: the number and nil, or an error that is not nil. -/
theorem atoi_any (s : ByteArray) (hs : s.size ≤ 1048576) (w : World) (E : Env w) :
    Calls Tryd.prog 32 #[.string s] w fun e w' => ∃ v ev, e = .returned (.tuple #[.int .i64 v, ev]) ∧ Below w.heap.size w w' ∧ ((ev = .nilIface ∧ Lib.atoiAll s.data.toList = .ok v) ∨ ((∃ tp p, ev = .iface tp (.pointer (some p))) ∧ ∀ v, Lib.atoiAll s.data.toList ≠ .ok v)) := by
  cases h : Lib.atoiAll s.data.toList
  · rename_i v
    refine (Tryd.strconv_Atoi_ok s (by omega) v h w).mono ?_
    rintro e w' ⟨rfl, hw⟩
    refine ⟨v, _, rfl, ?_, .inl ⟨rfl, rfl⟩⟩
    rcases hw with rfl | ⟨t, rfl⟩
    · exact Below.refl _ _
    · exact Lib.bytesWorld_below _ _ _
  · obtain ⟨tp, p, hv⟩ := E.es
    refine (Any.strconv_Atoi_syntax_var Tryd.laysC172 s (by omega) h tp p w hv).mono ?_
    rintro e w' ⟨N, rfl, _, _, hb⟩
    exact ⟨_, _, rfl, hb, .inr ⟨⟨_, _, rfl⟩, fun v q => by cases q⟩⟩
  · obtain ⟨tp, p, hv⟩ := E.er
    refine (Tryd.strconv_Atoi_range_var s (by omega) h tp p w hv).mono ?_
    rintro e w' ⟨N, rfl, _, _, hb⟩
    exact ⟨_, _, rfl, hb, .inr ⟨⟨_, _, rfl⟩, fun v q => by cases q⟩⟩
end Go.Proofs.YtchpdmcfnpcfeaaDoor
