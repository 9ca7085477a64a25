/- The function LineText of chapter 7 answers as the model at every line (the text and the bool), it does not panic, and it writes into nothing that was there before the call. Conditions: the library's own tables hold what its text lays (the card ties them). -/
import Derived.Test.YtjcapaoafkgkaaaDoorCards
import Derived.Test.YtjcapaoafkgkaaaDoorTie
import Derived.Test.YtjcapaoafkgkaaaDoorBusT
import Derived.WalkKit
import Derived.ProofKit
import Derived.OpenShut
import Derived.ShutString
import Derived.ChangeOld
import Derived.Below
import Derived.Lib.SmallJoins
import Derived.Deep.DeepHandedRow
import Derived.Lib.LaidTab
import Derived.Stop.LaidErr
namespace Go.Proofs.YtjcapaoafkgkaaaDoor
open Go.ChangeShapes Go.WideShapes Go.ChangeAt Go.RowKit Go.Joins
set_option linter.unusedVariables false
set_option linter.unusedSimpArgs false
namespace fnExactLineText
theorem own : ownKnob Tryd.prog.godebug = none := by kernel_rfl
theorem laidOut : laidOutB Tryd.prog = true := by kernel_rfl
theorem cellsLine : Tryd.prog.cellsOf 24 = 4 := by kernel_rfl
theorem gTabType : (Tryd.prog.globals[0]?).map (·.type) = some 87 := by kernel_rfl
theorem cellsT : Tryd.prog.cellsOf 87 = 20 := by kernel_rfl
theorem cellsE : Tryd.prog.cellsOf 76 = 1 := by kernel_rfl
theorem powData : (Rows.laid_internal_strconv_uint64pow10 : DataW Unit) = Lib.tabData .u64 Lib.pow10Tab := by kernel_rfl
/-- What the row's list gives: the library's table of powers. -/
theorem table {W : World} (h : laidMetH Tryd.prog Rows.fnExactLineTextRow.laid W) : Lib.TabIs Tryd.prog W "internal/strconv.uint64pow10" .u64 Lib.pow10Tab := by
  have h1 : laidMet Tryd.prog Rows.fnExactLineTextRow.laid W := h
  have h2 := (laidMet.tail (laidMet.tail h1))
  rw [powData] at h2
  exact Lib.tabIs_of_head (rest := []) pow10G gTabType Tryd.underlying87 Tryd.underlying76 cellsE cellsT h2
set_option maxHeartbeats 2000000 in
theorem walk (f0 e0 c0 : Int) (a0 : Option Addr) (cap0 : Nat) (xs : List Int) (w : World) (h : Rd w a0 xs) (hm : xs.length ≤ maxLen) (ht : Lib.TabIs Tryd.prog w "internal/strconv.uint64pow10" .u64 Lib.pow10Tab) :
    Calls Tryd.prog 3 #[.agg #[.int .i64 f0, .int .i64 e0, .int .i64 c0, .slice a0 xs.length cap0]] w fun e w' => e = .returned (.bool true) ∧ Below w.heap.size w w' := by
  unfold maxLen at hm
  by_cases hbig : (1048576 : Int) < (xs.length : Int)
  · go_enter Tryd.func3, Tryd.ntmps3
    go_wp2_with fail
    have b0 : Below w.heap.size w (w.alloc (.cells #[.int .i64 f0, .int .i64 e0, .int .i64 c0, .slice a0 xs.length cap0] 24)) := (Below.refl _ _).alloc (Nat.le_refl _) _
    refine (szLine_big f0 e0 c0 a0 xs.length cap0 (by omega) (by omega) _).mono ?_; rintro e w0 ⟨rfl, hb0⟩
    have B0 : Below w.heap.size w w0 := b0.trans (hb0.mono (by simp))
    go_wp2_with fail
    go_ret
    exact ⟨rfl, B0⟩
  · have hx : xs.length ≤ 1048576 := by omega
    have hx0 : xs.length ≤ 4611686018427387904 := by omega
    have htT := Lib.hid (fun (v : World) (hb : Below w.heap.size w v) => tab_below pow10G (tab_lt pow10G ht) ht hb)
    clear ht
    go_enter Tryd.func3, Tryd.ntmps3
    go_wp2_with fail
    have b0 : Below w.heap.size w (w.alloc (.cells #[.int .i64 f0, .int .i64 e0, .int .i64 c0, .slice a0 xs.length cap0] 24)) := (Below.refl _ _).alloc (Nat.le_refl _) _
    refine (szLine_ok f0 e0 c0 a0 xs.length cap0 hx _).mono ?_; rintro e w0 ⟨rfl, hb0⟩
    have hz0 : w.heap.size < w0.heap.size := by have := hb0.size; simp at this; omega
    have hcA0 := fun o => (bcell hb0).1 w.heap.size o (by simp)
    have B0 : Below w.heap.size w w0 := b0.trans (hb0.mono (by simp))
    go_wp2_with fail
    refine (toLine_any f0 e0 c0 a0 cap0 xs _ (h.below B0) hx).mono ?_; rintro e w1 ⟨q1, rfl, hO1, hb1⟩
    have hz1 : w.heap.size < w1.heap.size := by have := hb1.size; omega
    have hcA1 := fun o => (bcell hb1).1 w.heap.size o (by omega)
    have B1 : Below w.heap.size w w1 := B0.trans (hb1.mono (by omega))
    go_wp2_with fail
    refine (specLineText f0 e0 c0 _ _ xs _ hO1.rd hx).mono ?_; rintro e w2 ⟨rfl, hb2⟩
    have hz2 : w.heap.size < w2.heap.size := by have := hb2.size; omega
    have hcA2 := fun o => (bcell hb2).1 w.heap.size o (by omega)
    have B2 : Below w.heap.size w w2 := B1.trans (hb2.mono (by omega))
    go_wp2_with fail
    refine (toLine_any f0 e0 c0 a0 cap0 xs _ (h.below B2) hx).mono ?_; rintro e w3 ⟨q3, rfl, hO3, hb3⟩
    have hz3 : w.heap.size < w3.heap.size := by have := hb3.size; omega
    have hcA3 := fun o => (bcell hb3).1 w.heap.size o (by omega)
    have B3 : Below w.heap.size w w3 := B2.trans (hb3.mono (by omega))
    go_wp2_with fail
    generalize hq : World.alloc w3 _ = w3a
    have hb3a : Below w3.heap.size w3 w3a := by subst hq; exact (Below.refl _ _).alloc (Nat.le_refl _) _
    have hz3a : w3.heap.size < w3a.heap.size := by subst hq; simp
    have k0 : w3a.cell? ⟨w3.heap.size, 0, none⟩ = some (.int .i64 f0) := by subst hq; go_simp
    have k1 : w3a.cell? ⟨w3.heap.size, 1, none⟩ = some (.int .i64 e0) := by subst hq; go_simp
    have k2 : w3a.cell? ⟨w3.heap.size, 2, none⟩ = some (.int .i64 c0) := by subst hq; go_simp
    have k3 : w3a.cell? ⟨w3.heap.size, 3, none⟩ = some (.slice q3 xs.length xs.length) := by subst hq; go_simp
    clear hq
    have hcA3a := fun o => (bcell hb3a).1 w.heap.size o (by omega)
    have B3a : Below w.heap.size w w3a := B3.trans (hb3a.mono (by omega))
    refine (implLineText f0 e0 c0 _ _ xs _ (hO3.rd.below hb3a) hx (htT.out _ B3a)).mono ?_; rintro e w4 ⟨rfl, hb4⟩
    have hz4 : w.heap.size < w4.heap.size := by have := hb4.size; omega
    have hcA4 := fun o => (bcell hb4).1 w.heap.size o (by omega)
    have B4 : Below w.heap.size w w4 := B3a.trans (hb4.mono (by omega))
    have hy4 : w3.heap.size < w4.heap.size := by have := hb4.size; omega
    have hcX4 := fun o => (bcell hb4).1 w3.heap.size o (by omega)
    go_wp2_with fail
    have j0 : w4.cell? ⟨w.heap.size, 0, none⟩ = some (.int .i64 f0) := by rw [hcA4, hcA3a, hcA3, hcA2, hcA1, hcA0]; go_simp
    have y0 : w4.cell? ⟨w3.heap.size, 0, none⟩ = some (.int .i64 f0) := by rw [hcX4]; exact k0
    have j1 : w4.cell? ⟨w.heap.size, 1, none⟩ = some (.int .i64 e0) := by rw [hcA4, hcA3a, hcA3, hcA2, hcA1, hcA0]; go_simp
    have y1 : w4.cell? ⟨w3.heap.size, 1, none⟩ = some (.int .i64 e0) := by rw [hcX4]; exact k1
    have j2 : w4.cell? ⟨w.heap.size, 2, none⟩ = some (.int .i64 c0) := by rw [hcA4, hcA3a, hcA3, hcA2, hcA1, hcA0]; go_simp
    have y2 : w4.cell? ⟨w3.heap.size, 2, none⟩ = some (.int .i64 c0) := by rw [hcX4]; exact k2
    have j3 : w4.cell? ⟨w.heap.size, 3, none⟩ = some (.slice a0 xs.length cap0) := by rw [hcA4, hcA3a, hcA3, hcA2, hcA1, hcA0]; go_simp
    have y3 : w4.cell? ⟨w3.heap.size, 3, none⟩ = some (.slice q3 xs.length xs.length) := by rw [hcX4]; exact k3
    have R0 : Rd w4 a0 xs := h.below B4
    have R3 : Rd w4 q3 xs := (hO3.rd.below hb3a).below hb4
    have BB4 := Lib.hid B4
    clear hcA4 hcA3a hcA3 hcA2 hcA1 hcA0 hcX4 k0 k1 k2 k3 hO3 hO1 h hb4 hb3a hb3 hb2 hb1 hb0 b0 B0 B1 B2 B3 B3a B4
    go_region_held3 (fun v => Below w4.heap.size w4 v ∧ v.cell? ⟨w.heap.size, 0, none⟩ = some (.int .i64 f0) ∧ v.cell? ⟨w.heap.size, 1, none⟩ = some (.int .i64 e0) ∧ v.cell? ⟨w.heap.size, 2, none⟩ = some (.int .i64 c0) ∧ v.cell? ⟨w.heap.size, 3, none⟩ = some (.slice a0 xs.length cap0) ∧ v.cell? ⟨w3.heap.size, 0, none⟩ = some (.int .i64 f0) ∧ v.cell? ⟨w3.heap.size, 1, none⟩ = some (.int .i64 e0) ∧ v.cell? ⟨w3.heap.size, 2, none⟩ = some (.int .i64 c0) ∧ v.cell? ⟨w3.heap.size, 3, none⟩ = some (.slice q3 xs.length xs.length))
      (refine ⟨?_, ?_, ?_, ?_, ?_, ?_, ?_, ?_, ?_⟩ <;> first | assumption | (go_simp; done) | ((repeat (first | assumption | exact Below.refl _ _ | refine Below.drew ?_ | refine below_drewN ?_ _ | refine Below.alloc ?_ (by first | omega | (simp; done) | (simp; omega)) _ | refine bchain ?_ (by assumption) (by first | omega | (simp; done) | (simp; omega)))); done))
      (first | (go_at_call 7; refine (toLine_any f0 e0 c0 a0 cap0 xs _ (R0.below (by (repeat (first | assumption | exact Below.refl _ _ | refine Below.drew ?_ | refine below_drewN ?_ _ | refine Below.alloc ?_ (by first | omega | (simp; done) | (simp; omega)) _ | refine bchain ?_ (by assumption) (by first | omega | (simp; done) | (simp; omega)))))) hx).mono ?_; rintro e w5 ⟨q5, rfl, hO5, hb5⟩; have hs5 := hb5.size; (try simp only [World.size_alloc, World.size_drew] at hs5); have hcA5 := fun o => (bcell hb5).1 w.heap.size o (by first | omega | (simp; done) | (simp; omega)); have hcX5 := fun o => (bcell hb5).1 w3.heap.size o (by first | omega | (simp; done) | (simp; omega))) | (go_at_call 9; refine (eqLine_eq f0 e0 c0 _ _ _ _ xs _ (R3.below (by (repeat (first | assumption | exact Below.refl _ _ | refine Below.drew ?_ | refine below_drewN ?_ _ | refine Below.alloc ?_ (by first | omega | (simp; done) | (simp; omega)) _ | refine bchain ?_ (by assumption) (by first | omega | (simp; done) | (simp; omega)))))) (hO5.rd.below (by (repeat (first | assumption | exact Below.refl _ _ | refine Below.drew ?_ | refine below_drewN ?_ _ | refine Below.alloc ?_ (by first | omega | (simp; done) | (simp; omega)) _ | refine bchain ?_ (by assumption) (by first | omega | (simp; done) | (simp; omega)))))) hx0).mono ?_; rintro e w6 ⟨rfl, hb6⟩; have hs6 := hb6.size; (try simp only [World.size_alloc, World.size_drew] at hs6); have hcA6 := fun o => (bcell hb6).1 w.heap.size o (by first | omega | (simp; done) | (simp; omega)); have hcX6 := fun o => (bcell hb6).1 w3.heap.size o (by first | omega | (simp; done) | (simp; omega))))
    all_goals (rename_i hSS; have hS1 := hSS.1; go_wp2_with fail; go_ret; exact ⟨rfl, BB4.out.trans (hS1.mono BB4.out.size)⟩)
set_option maxRecDepth 100000 in
/-- What the walk gives, for every argument and every world that holds the tables. -/
theorem contract (H : Type) (enc : TypeId × Value → H) (W : World) (base : Nat) (args : Array Value) (ds gs : List (DataW H)) (before : List MemPlace)
    (hval : ∀ (j : Nat) t v, Tryd.f3.params[j]? = some t → args[j]? = some v → Value.okWide Tryd.prog W .any base t v)
    (hW : DataW.Whole enc Tryd.prog Tryd.f3.params.toList Rows.fnExactLineTextSpec.vars false W args.toList ds gs before) (hL : laidMetH Tryd.prog Rows.fnExactLineTextRow.laid W) :
    Calls Tryd.prog 3 args W fun e W' => ∃ v, e = .returned v ∧ Rows.fnExactLineTextSpec.post enc Tryd.prog Tryd.f3 false true false false W args v W' := by
  have hW' := hW
  obtain ⟨p, q, hA0, hV, rfl, hfz, hnd⟩ := hW
  have hA : DataW.TrodAll enc Tryd.prog W 0 (fun _ => true) true Tryd.f3.params.toList args.toList ds p := hA0
  rw [Tryd.params3] at hA hval
  obtain ⟨v0, vs0, d0, ds0, p0, q0, hargs, rfl, rfl, h0, r0⟩ := trodAll_cons hA
  obtain ⟨rfl, rfl, rfl⟩ := trodAll_nil r0
  obtain rfl : args = #[v0] := by cases args; simp_all
  obtain ⟨rfl, rfl⟩ := trodVars_none hV
  have k0 := h0
  have lt0 : ∀ x ∈ p0, x.block < W.heap.size := by obtain ⟨m, hm⟩ := k0; exact DataW.trod_lt m _ _ _ hm
  obtain ⟨c0, c1, c2, c3, y0, y1, y2, y3, m0, rfl, rfl, rfl, hy0, hy1, hy2, hy3⟩ := open_agg4 Tryd.underlying24 (by kernel_rfl) cellsLine (hval 0 24 v0 rfl rfl) h0
  obtain ⟨a0, e0, rfl, x0⟩ := DataW.trod_int Tryd.underlying3 hy0
  obtain ⟨a1, e1, rfl, x1⟩ := DataW.trod_int Tryd.underlying3 hy1
  obtain ⟨a2, e2, rfl, x2⟩ := DataW.trod_int Tryd.underlying3 hy2
  simp at e0 e1 e2
  subst e0 e1 e2
  obtain ⟨b0, cap0, xs0, E0, R0, M0⟩ : ∃ (b : Option Addr) (cap : Nat) (xs : List Int), c3 = .slice b xs.length cap ∧ Rd W b xs ∧ xs.length ≤ maxLen := by
    rcases open_ints Tryd.underlying22 Tryd.underlying3 (by kernel_rfl) hy3 with ⟨hcs, _⟩ | ⟨x, l, c, zs, hcs, _, hl, hm, hz, _, hcell, hwz⟩
    · simp at hcs
      exact ⟨none, 0, [], by simpa using hcs, .inl rfl, by simp⟩
    · simp at hcs
      have hz' : zs.length = c := by simpa using hz
      have hlz : (zs.take l).length = l := by rw [List.length_take]; omega
      exact ⟨some x, c, zs.take l, by rw [hlz]; exact hcs, rd_of_cells (by omega) hcell, by rw [hlz]; omega⟩
  subst E0
  clear hA0
  refine (walk a0 a1 a2 b0 cap0 xs0 W R0 M0 (table hL)).mono fun e W' ⟨he, bel⟩ => ?_
  subst he
  exact ⟨_, rfl, _, _, _, [], _, [], hW', trodAll_mk1 (shut_bool Tryd.underlying4 _), (trodAll_cons_mk (Below.trod laidOut (by kernel_rfl) (of_decide_eq_true (by kernel_rfl)) k0 bel lt0) trodAll_mk0), rfl, bel.frame _, fun h => by cases h⟩
def vals : DataW Unit → Array Value
  | .agg l => (l.map fun | .lit (.int k n) => Value.int k n | _ => undef).toArray
  | _ => #[]
def lay (vs : Array Value) : Obj → Obj
  | .cells _ t frozen => .cells vs t frozen
  | o => o
/-- A world for the witness: the settled one, the three tables holding what their initialisers lay. -/
noncomputable def laidWorld (os : Os) : World :=
  { World.holding Tryd.prog os ⟨#[], #[], []⟩ with heap := (((World.holding Tryd.prog os ⟨#[], #[], []⟩).heap.modify 0 (lay (vals Rows.laid_internal_strconv_uint64pow10))).modify 4 (lay (vals Rows.laid_math_bits_deBruijn32tab))).modify 5 (lay (vals Rows.laid_math_bits_deBruijn64tab)) }
theorem laid_met (os : Os) : laidMet Tryd.prog Rows.fnExactLineTextRow.laid ((laidWorld os).forCall (fun _ _ => 0) ⟨#[], #[.agg #[.int .i64 0, .int .i64 0, .int .i64 0, .slice none 0 0]], []⟩).memory :=
  laidMet_of_run' 8 (by kernel_rfl) (by kernel_rfl)
theorem reads (os : Os) {H : Type} (enc : TypeId × Value → H) : ∃ places, DataW.whole enc Tryd.prog ((laidWorld os).forCall (fun _ _ => 0) ⟨#[], #[.agg #[.int .i64 0, .int .i64 0, .int .i64 0, .slice none 0 0]], []⟩).memory Tryd.f3.params.toList Rows.fnExactLineTextSpec.vars false #[Value.agg #[.int .i64 0, .int .i64 0, .int .i64 0, .slice none 0 0]].toList 8 = some ([.agg [.lit (.int .i64 0), .lit (.int .i64 0), .lit (.int .i64 0), .nil]], [], places) :=
  ⟨[], by kernel_rfl⟩
set_option maxRecDepth 100000 in
theorem lifted (os : Os) (started : os.Started) (H : Type) (enc : TypeId × Value → H) (F : Stop.Interp) :
    ReturnsInHanded {} Tryd.checked os 3 .any ((OpenSpec.ofChange Rows.fnExactLineTextSpec).preRow enc Tryd.prog Tryd.f3 Rows.fnExactLineTextRow.domain false Rows.fnExactLineTextRow.laid) (((OpenSpec.ofChange Rows.fnExactLineTextSpec).at F).post enc Tryd.prog Tryd.f3 false true false false) := by
  obtain ⟨places, hx⟩ := reads os enc
  refine returnsInHanded_of_row (C := Tryd.checked) (s := OpenSpec.ofChange Rows.fnExactLineTextSpec) own started (by kernel_rfl) Tryd.func3
    (witness_row_at (enc := enc) (C := Tryd.checked) false (laidWorld os) #[.agg #[.int .i64 0, .int .i64 0, .int .i64 0, .slice none 0 0]] rfl (by kernel_rfl) (by kernel_rfl) (by kernel_rfl)
      (OpenSpec.preRow_of_cond 8 hx (by kernel_rfl) (fun k hk => by cases hk) (by kernel_rfl) (laid_met os))) ?_
  intro W base args ds gs before hval hW _ _ _ hL _ _
  exact contract H enc W base args ds gs before hval hW hL
theorem said : Rows.FnExactLineTextSaid :=
  OpenClaim.holds_of_cond 3 Tryd.f3 rfl rfl rfl rfl rfl rfl rfl ⟨rfl, rfl, rfl, rfl, rfl⟩ rfl rfl rfl rfl rfl (by kernel_rfl) Tryd.func3 (by kernel_rfl)
    (of_decide_eq_true (by kernel_rfl)) (by unfold Func.isWrapper; first | (rw [if_pos (by decide +kernel)]; kernel_rfl) | (rw [if_neg (by decide +kernel)]; exact ⟨rfl, rfl⟩))
    (fun os started H enc _ F => by rw [OpenClaim.pre_eq_preRow]; exact lifted os started H enc F)
theorem plain (f : FuncId) (fn : Func) (hf : Tryd.pinned.checked.prog.funcNamed Rows.fnExactLineTextRow.func = some f) (hfn : Tryd.pinned.checked.prog.funcs[f]? = some fn) :
    true = Tryd.pinned.checked.prog.looks [] ∧ ∀ (j : Nat) t, fn.params[j]? = some t → Tryd.pinned.checked.prog.wantsStandIn t = false := by
  obtain rfl : f = 3 := Option.some.inj ((show Tryd.prog.funcNamed Rows.fnExactLineTextRow.func = some 3 by kernel_rfl).symm.trans hf) |>.symm
  obtain rfl : fn = Tryd.f3 := (Option.some.inj (Tryd.func3.symm.trans hfn)).symm
  refine ⟨by kernel_rfl, fun j t ht => ?_⟩
  rw [Tryd.params3] at ht
  obtain rfl : t = 24 := by simpa using Array.mem_of_getElem? ht
  exact (show Tryd.prog.wantsStandIn 24 = false by kernel_rfl)
/-- The card, as it is given. -/
theorem fnExactLineText_holds : Rows.FnExactLineTextCardSaid :=
  Claim7.holds_tied_plain_at .later [] _ _ _ _ said (fun _ h => by cases h) (by kernel_rfl) (fun _ h => by cases h) fnExactLineText_row_tie rfl ⟨rfl, rfl⟩ (by kernel_rfl) rfl plain (by kernel_rfl)
end fnExactLineText
end Go.Proofs.YtjcapaoafkgkaaaDoor
