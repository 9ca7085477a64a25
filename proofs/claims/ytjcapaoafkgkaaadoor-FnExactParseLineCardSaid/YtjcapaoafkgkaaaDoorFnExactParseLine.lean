/- The function ParseLine of chapter 7 answers as the model at every text (every field of the line, and the bool), its answer owns its stops, it does not panic, and it writes into nothing that was there before the call. Conditions: the library's own tables hold what its text lays (the card ties them). -/
import Derived.Test.YtjcapaoafkgkaaaDoorCards
import Derived.Test.YtjcapaoafkgkaaaDoorTie
import Derived.Test.YtjcapaoafkgkaaaDoorBusPI
import Derived.WalkKit
import Derived.ProofKit
import Derived.OpenShut
import Derived.ShutString
import Derived.ChangeOld
import Derived.Below
import Derived.Lib.SmallJoins
import Derived.Deep.DeepHandedRow
import Derived.Lib.LaidTab
import Derived.Stop.LaidErr
namespace Go.Proofs.YtjcapaoafkgkaaaDoor
open Go.ChangeShapes Go.WideShapes Go.ChangeAt Go.RowKit Go.Joins
set_option linter.unusedVariables false
set_option linter.unusedSimpArgs false
namespace fnExactParseLine
theorem own : ownKnob Tryd.prog.godebug = none := by kernel_rfl
theorem laidOut : laidOutB Tryd.prog = true := by kernel_rfl
theorem star : "*" ++ "errors.errorString" = "*errors.errorString" := by decide
theorem tpOnly : ∀ u, Tryd.prog.typeName? 3 u = some "*errors.errorString" → u = 117 := fun u h =>
  typeName_ptr_named (nm := "errors.errorString") (by rw [star]; kernel_rfl) (by kernel_rfl) (by decide) u (by rw [star]; exact h)
theorem gTabType : (Tryd.prog.globals[0]?).map (·.type) = some 87 := by kernel_rfl
theorem cellsT : Tryd.prog.cellsOf 87 = 20 := by kernel_rfl
theorem cellsE : Tryd.prog.cellsOf 76 = 1 := by kernel_rfl
theorem powData : (Rows.laid_internal_strconv_uint64pow10 : DataW Unit) = Lib.tabData .u64 Lib.pow10Tab := by kernel_rfl
/-- What the row's list gives: the library's variables. -/
theorem env {W : World} (h : laidMetH Tryd.prog Rows.fnExactParseLineRow.laid W) (hsh : W.ShapedOpen Tryd.prog) : Env W := by
  have h1 : laidMet Tryd.prog Rows.fnExactParseLineRow.laid W := h
  have h2 := (laidMet.tail (laidMet.tail h1))
  have h3 := laidMet.tail h2
  have h4 := laidMet.tail h3
  have h5 := laidMet.tail h4
  rw [powData] at h2
  refine ⟨Lib.tabIs_of_head pow10G gTabType Tryd.underlying87 Tryd.underlying76 cellsE cellsT h2, Tryd.laysM145.s1_3 W hsh, ?_, ?_⟩
  · obtain ⟨x, s, hv, _⟩ := Go.laid_sentinel (ti := 65) (tp := 117) (te := 119) (ts := 9) h5 esG (by kernel_rfl) Tryd.underlying65 tpOnly Tryd.underlying117 Tryd.underlying119 rfl rfl Tryd.underlying9 (by kernel_rfl) (by kernel_rfl)
    exact ⟨_, _, hv⟩
  · obtain ⟨x, s, hv, _⟩ := Go.laid_sentinel (ti := 65) (tp := 117) (te := 119) (ts := 9) h4 erG (by kernel_rfl) Tryd.underlying65 tpOnly Tryd.underlying117 Tryd.underlying119 rfl rfl Tryd.underlying9 (by kernel_rfl) (by kernel_rfl)
    exact ⟨_, _, hv⟩
theorem both (t : ByteArray) : ∃ F E C ys ok, PHL t F E C ys ok := by
  by_cases h : ∃ f e c xs, LT t f e c xs
  · obtain ⟨f, e, c, xs, h⟩ := h
    exact ⟨f, e, c, xs, true, .inl ⟨h, rfl⟩⟩
  · exact ⟨0, 0, 0, [], false, .inr ⟨fun f e c xs y => h ⟨f, e, c, xs, y⟩, rfl, rfl, rfl, rfl, rfl⟩⟩
theorem own_apart {u v : Value} (h : ∀ k, u.ownBlock = some k → v.ownBlock = some k → False) : u.ownBlock = none ∨ u.ownBlock ≠ v.ownBlock := by
  cases hq : u.ownBlock with
  | none => exact .inl rfl
  | some k => exact .inr fun e => h k hq e.symm
set_option maxHeartbeats 8000000 in
set_option maxRecDepth 100000 in
theorem walk (t : ByteArray) (hm : t.size ≤ maxLen) (w : World) (EV : Env w) :
    Calls Tryd.prog 4 #[.string t] w fun e w' => e = .returned (.bool true) ∧ Below w.heap.size w w' := by
  unfold maxLen at hm
  by_cases hbig : (1048576 : Int) < (t.size : Int)
  · go_enter Tryd.func4, Tryd.ntmps4
    go_wp2_with fail
    go_ret
    exact ⟨rfl, Below.refl _ _⟩
  · have ht : t.size ≤ 1048576 := by omega
    obtain ⟨F, E, C, ys, ok, hPH⟩ := both t
    have hys : ys.length ≤ 12 := by
      rcases hPH with ⟨y, _⟩ | ⟨_, _, _, _, e, _⟩
      · exact y.lin.n1
      · rw [e]; simp
    have hys0 : ys.length ≤ 4611686018427387904 := by omega
    have HS := Lib.hid (fun w => specParseLine t F E C ys ok hPH ht w)
    have HI := Lib.hid (fun w E2 => implParseLine t F E C ys ok hPH ht w E2)
    clear hPH
    go_enter Tryd.func4, Tryd.ntmps4
    go_wp2_with fail
    refine (HS.out _).mono ?_; rintro e w1 ⟨q1, k1, rfl, hO1, hb1⟩
    have B1 := hb1
    go_wp2_with fail
    generalize hq : World.alloc w1 _ = w1a
    have hb1a : Below w1.heap.size w1 w1a := by subst hq; exact (Below.refl _ _).alloc (Nat.le_refl _) _
    have bW1a : Box w1a (w1.heap.size) (.int .i64 F) (.int .i64 E) (.int .i64 C) (.slice q1 ys.length k1) := by subst hq; exact ⟨by simp, by go_simp, by go_simp, by go_simp, by go_simp⟩
    clear hq
    have B1a : Below w.heap.size w w1a := B1.trans (hb1a.mono B1.size)
    refine (HI.out _ (EV.below B1a)).mono ?_; rintro e w2 ⟨q2, k2, rfl, hO2, hb2⟩
    have B2 : Below w.heap.size w w2 := B1a.trans (hb2.mono B1a.size)
    have bW2 := bW1a.below hb2
    obtain ⟨_, uW0, uW1, uW2, uW3⟩ := id bW2
    go_wp2_with fail
    generalize hq : World.alloc w2 _ = w2a
    have hb2a : Below w2.heap.size w2 w2a := by subst hq; exact (Below.refl _ _).alloc (Nat.le_refl _) _
    have bG2a : Box w2a (w2.heap.size) (.int .i64 F) (.int .i64 E) (.int .i64 C) (.slice q2 ys.length k2) := by subst hq; exact ⟨by simp, by go_simp, by go_simp, by go_simp, by go_simp⟩
    clear hq
    have bW2a := bW2.below hb2a
    have B2a : Below w.heap.size w w2a := B2.trans (hb2a.mono B2.size)
    have W2 : Own w2a w.heap.size q1 k1 ys := ((hO1.below hb1a).below hb2).below hb2a
    have G2 : Own w2a w1a.heap.size q2 k2 ys := hO2.below hb2a
    have r1 : ∀ k, (Value.slice q1 ys.length k1).ownBlock = some k → k < w1.heap.size := fun k hk => (row_lt hO1 k hk).2
    have r2 : ∀ k, (Value.slice q2 ys.length k2).ownBlock = some k → w1a.heap.size ≤ k ∧ k < w2.heap.size := fun k hk => row_lt hO2 k hk
    have s1 := hb1.size
    have s1a := hb1a.size
    have s2 := hb2.size
    have s3 : w1.heap.size < w1a.heap.size := bW1a.1
    refine (eqLine_eq F E C q2 q1 k2 k1 ys _ G2.rd W2.rd hys0).mono ?_; rintro e w3 ⟨rfl, hb3⟩
    have B3 : Below w.heap.size w w3 := B2a.trans (hb3.mono B2a.size)
    have bW3 := bW2a.below hb3
    have bG3 := bG2a.below hb3
    have W3 := W2.below hb3
    have G3 := G2.below hb3
    have hky : ¬ (1 + (ys.length : Int) < 0) := by omega
    clear hO1 hO2 W2 G2 hb1 hb1a hb2 hb2a hb3 B1 B1a B2 B2a bW1a bW2 bW2a bG2a uW0 uW1 uW2 uW3
    obtain ⟨_, uG0, uG1, uG2, uG3⟩ := id bG3
    obtain ⟨_, uW0, uW1, uW2, uW3⟩ := id bW3
    go_wp2_with fail
    refine (markLine_own F E C w1a.heap.size _ _ ys 1 _ G3 (by omega) (by omega)).mono ?_; rintro e w4 ⟨rfl, hM4, hg4⟩
    have B4 : Below w.heap.size w w4 := B3.grown hg4 B3.size (fun k hk => by have := (r2 k hk).1; omega)
    have bW4 := bW3.grown hg4 (fun hk => by have := r2 _ hk.symm; omega)
    have bG4 := bG3.grown hg4 (fun hk => by have := r2 _ hk.symm; omega)
    have W4 : Own w4 w.heap.size q1 k1 ys := W3.grown hg4 (own_apart (fun k hk hk2 => by have := r1 k hk; have := r2 k hk2; omega))
    have R4 : Rd w4 q2 (sq 1 ys.length) := row_rd (sq_length _ _) hM4
    clear hM4 hg4 bW3 bG3 W3 G3 B3 uG0 uG1 uG2 uG3 uW0 uW1 uW2 uW3
    obtain ⟨_, uG0, uG1, uG2, uG3⟩ := id bG4
    go_wp2_with fail
    refine (heldLine_ok F E C q2 ys.length k2 1 _ R4 (by omega) (by omega)).mono ?_; rintro e w5 ⟨rfl, hb5⟩
    have B5 : Below w.heap.size w w5 := B4.trans (hb5.mono B4.size)
    have bW5 := bW4.below hb5
    have bG5 := bG4.below hb5
    have W5 := W4.below hb5
    have R5 := R4.below hb5
    clear hb5 bW4 bG4 W4 R4 B4 uG0 uG1 uG2 uG3
    go_wp2_with fail
    refine (HI.out _ (EV.below B5)).mono ?_; rintro e w6 ⟨q6, k6, rfl, hO6, hb6⟩
    have B6 : Below w.heap.size w w6 := B5.trans (hb6.mono B5.size)
    have bW6 := bW5.below hb6
    have bG6 := bG5.below hb6
    have W6 := W5.below hb6
    have R6 := R5.below hb6
    clear hb6 bW5 bG5 W5 R5 B5
    obtain ⟨_, uW0, uW1, uW2, uW3⟩ := id bW6
    go_wp2_with fail
    generalize hq : World.alloc w6 _ = w6a
    have hb6a : Below w6.heap.size w6 w6a := by subst hq; exact (Below.refl _ _).alloc (Nat.le_refl _) _
    have bH6a : Box w6a (w6.heap.size) (.int .i64 F) (.int .i64 E) (.int .i64 C) (.slice q6 ys.length k6) := by subst hq; exact ⟨by simp, by go_simp, by go_simp, by go_simp, by go_simp⟩
    clear hq
    have bW6a := bW6.below hb6a
    have bG6a := bG6.below hb6a
    have B6a : Below w.heap.size w w6a := B6.trans (hb6a.mono B6.size)
    have W6a := W6.below hb6a
    have R6a := R6.below hb6a
    have H6a := hO6.below hb6a
    clear hb6a bW6 bG6 W6 R6 B6 hO6
    refine (eqLine_eq F E C q6 q1 k6 k1 ys _ H6a.rd W6a.rd hys0).mono ?_; rintro e w7 ⟨rfl, hb7⟩
    have B7 : Below w.heap.size w w7 := B6a.trans (hb7.mono B6a.size)
    have bW7 := bW6a.below hb7
    have bG7 := bG6a.below hb7
    have bH7 := bH6a.below hb7
    have R7 := R6a.below hb7
    obtain ⟨_, uG0, uG1, uG2, uG3⟩ := id bG7
    go_wp2_with fail
    refine (heldLine_ok F E C q2 ys.length k2 1 _ R7 (by omega) (by omega)).mono ?_; rintro e w8 ⟨rfl, hb8⟩
    have B8 : Below w.heap.size w w8 := B7.trans (hb8.mono B7.size)
    have bW8 := bW7.below hb8
    have bG8 := bG7.below hb8
    have bH8 := bH7.below hb8
    go_wp2_with fail
    go_ret
    exact ⟨rfl, B8⟩
set_option maxRecDepth 100000 in
/-- What the walk gives, for every argument and every world that holds the tables. -/
theorem contract (H : Type) (enc : TypeId × Value → H) (W : World) (base : Nat) (args : Array Value) (ds gs : List (DataW H)) (before : List MemPlace)
    (hval : ∀ (j : Nat) t v, Tryd.f4.params[j]? = some t → args[j]? = some v → Value.okWide Tryd.prog W .any base t v)
    (hW : DataW.Whole enc Tryd.prog Tryd.f4.params.toList Rows.fnExactParseLineSpec.vars false W args.toList ds gs before) (hsh : W.ShapedOpen Tryd.prog) (hL : laidMetH Tryd.prog Rows.fnExactParseLineRow.laid W) :
    Calls Tryd.prog 4 args W fun e W' => ∃ v, e = .returned v ∧ Rows.fnExactParseLineSpec.post enc Tryd.prog Tryd.f4 false true false false W args v W' := by
  have hW' := hW
  obtain ⟨p, q, hA0, hV, rfl, hfz, hnd⟩ := hW
  have hA : DataW.TrodAll enc Tryd.prog W 0 (fun _ => true) true Tryd.f4.params.toList args.toList ds p := hA0
  rw [Tryd.params4] at hA hval
  obtain ⟨v0, vs0, d0, ds0, p0, q0, hargs, rfl, rfl, h0, r0⟩ := trodAll_cons hA
  obtain ⟨rfl, rfl, rfl⟩ := trodAll_nil r0
  obtain rfl : args = #[v0] := by cases args; simp_all
  obtain ⟨rfl, rfl⟩ := trodVars_none hV
  have k0 := h0
  have lt0 : ∀ x ∈ p0, x.block < W.heap.size := by obtain ⟨m, hm⟩ := k0; exact DataW.trod_lt m _ _ _ hm
  obtain ⟨a0, rfl, rfl, rfl, m0⟩ := Go.ChangeMaps.open_string Tryd.underlying9 (hval 0 9 v0 rfl rfl) h0
  clear hA0
  refine (walk a0 m0 W (env hL hsh)).mono fun e W' ⟨he, bel⟩ => ?_
  subst he
  exact ⟨_, rfl, _, _, _, [], _, [], hW', trodAll_mk1 (shut_bool Tryd.underlying4 _), (trodAll_cons_mk (Below.trod laidOut (by kernel_rfl) (of_decide_eq_true (by kernel_rfl)) k0 bel lt0) trodAll_mk0), rfl, bel.frame _, fun h => by cases h⟩
def vals : DataW Unit → Array Value
  | .agg l => (l.map fun | .lit (.int k n) => Value.int k n | _ => undef).toArray
  | _ => #[]
def val1 : DataW Unit → Value
  | .lit (.int k n) => Value.int k n
  | _ => undef
def vals2 : DataW Unit → Array Value
  | .agg l => (l.flatMap fun | .agg m => m.map val1 | d => [val1 d]).toArray
  | _ => #[]
def lay (vs : Array Value) : Obj → Obj
  | .cells _ t frozen => .cells vs t frozen
  | o => o
/-- A world for the witness: the settled one, the three tables holding what their initialisers lay. -/
noncomputable def baseHeap (os : Os) : Array Obj := ((((((World.holding Tryd.prog os ⟨#[], #[], []⟩).heap).modify 0 (lay (vals Rows.laid_internal_strconv_uint64pow10))).modify 4 (lay (vals Rows.laid_math_bits_deBruijn32tab))).modify 5 (lay (vals Rows.laid_math_bits_deBruijn64tab))).modify 7 (lay (vals2 Rows.laid_unicode_utf8_acceptRanges))).modify 6 (lay (vals2 Rows.laid_unicode_utf8_first))
def txt : DataW Unit → Value
  | .iface _ (.ptr (.agg [.lit (.string l)])) => .string ⟨l.toArray⟩
  | _ => undef
noncomputable def laidWorld (os : Os) : World :=
  { World.holding Tryd.prog os ⟨#[], #[], []⟩ with heap := ((((baseHeap os).modify 3 (lay #[.iface 117 (.pointer (some ⟨(baseHeap os).size, 0, none⟩))])).modify 2 (lay #[.iface 117 (.pointer (some ⟨(baseHeap os).size + 1, 0, none⟩))])).push (.cells #[txt Rows.laid_strconv_ErrRange] 119)).push (.cells #[txt Rows.laid_strconv_ErrSyntax] 119) }
theorem laid_met (os : Os) : laidMet Tryd.prog Rows.fnExactParseLineRow.laid ((laidWorld os).forCall (fun _ _ => 0) ⟨#[], #[.string ⟨#[]⟩], []⟩).memory :=
  laidMet_of_run' 8 (by kernel_rfl) (by kernel_rfl)
theorem reads (os : Os) {H : Type} (enc : TypeId × Value → H) : ∃ places, DataW.whole enc Tryd.prog ((laidWorld os).forCall (fun _ _ => 0) ⟨#[], #[.string ⟨#[]⟩], []⟩).memory Tryd.f4.params.toList Rows.fnExactParseLineSpec.vars false #[Value.string ⟨#[]⟩].toList 8 = some ([.lit (.string [])], [], places) :=
  ⟨[], by kernel_rfl⟩
set_option maxRecDepth 100000 in
theorem lifted (os : Os) (started : os.Started) (H : Type) (enc : TypeId × Value → H) (F : Stop.Interp) :
    ReturnsInHanded {} Tryd.checked os 4 .any ((OpenSpec.ofChange Rows.fnExactParseLineSpec).preRow enc Tryd.prog Tryd.f4 Rows.fnExactParseLineRow.domain false Rows.fnExactParseLineRow.laid) (((OpenSpec.ofChange Rows.fnExactParseLineSpec).at F).post enc Tryd.prog Tryd.f4 false true false false) := by
  obtain ⟨places, hx⟩ := reads os enc
  refine returnsInHanded_of_row (C := Tryd.checked) (s := OpenSpec.ofChange Rows.fnExactParseLineSpec) own started (by kernel_rfl) Tryd.func4
    (witness_row_at (enc := enc) (C := Tryd.checked) false (laidWorld os) #[.string ⟨#[]⟩] rfl (by kernel_rfl) (by kernel_rfl) (by kernel_rfl)
      (OpenSpec.preRow_of_cond 8 hx (by kernel_rfl) (fun k hk => by cases hk) (by kernel_rfl) (laid_met os))) ?_
  intro W base args ds gs before hval hW _ _ _ hL hsh _
  exact contract H enc W base args ds gs before hval hW hsh hL
theorem said : Rows.FnExactParseLineSaid :=
  OpenClaim.holds_of_cond 4 Tryd.f4 rfl rfl rfl rfl rfl rfl rfl ⟨rfl, rfl, rfl, rfl, rfl⟩ rfl rfl rfl rfl rfl (by kernel_rfl) Tryd.func4 (by kernel_rfl)
    (of_decide_eq_true (by kernel_rfl)) (by unfold Func.isWrapper; first | (rw [if_pos (by decide +kernel)]; kernel_rfl) | (rw [if_neg (by decide +kernel)]; exact ⟨rfl, rfl⟩))
    (fun os started H enc _ F => by rw [OpenClaim.pre_eq_preRow]; exact lifted os started H enc F)
theorem plain (f : FuncId) (fn : Func) (hf : Tryd.pinned.checked.prog.funcNamed Rows.fnExactParseLineRow.func = some f) (hfn : Tryd.pinned.checked.prog.funcs[f]? = some fn) :
    true = Tryd.pinned.checked.prog.looks [] ∧ ∀ (j : Nat) t, fn.params[j]? = some t → Tryd.pinned.checked.prog.wantsStandIn t = false := by
  obtain rfl : f = 4 := Option.some.inj ((show Tryd.prog.funcNamed Rows.fnExactParseLineRow.func = some 4 by kernel_rfl).symm.trans hf) |>.symm
  obtain rfl : fn = Tryd.f4 := (Option.some.inj (Tryd.func4.symm.trans hfn)).symm
  refine ⟨by kernel_rfl, fun j t ht => ?_⟩
  rw [Tryd.params4] at ht
  obtain rfl : t = 9 := by simpa using Array.mem_of_getElem? ht
  exact (show Tryd.prog.wantsStandIn 9 = false by kernel_rfl)
/-- The card, as it is given. -/
theorem fnExactParseLine_holds : Rows.FnExactParseLineCardSaid :=
  Claim7.holds_tied_plain_at .later [] _ _ _ _ said (fun _ h => by cases h) (by kernel_rfl) (fun _ h => by cases h) fnExactParseLine_row_tie rfl ⟨rfl, rfl⟩ (by kernel_rfl) rfl plain (by kernel_rfl)
end fnExactParseLine
end Go.Proofs.YtjcapaoafkgkaaaDoor
