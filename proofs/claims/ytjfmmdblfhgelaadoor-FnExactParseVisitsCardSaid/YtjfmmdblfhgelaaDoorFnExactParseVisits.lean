/- The function ParseVisits of chapter 8 answers as the model at every text (the visits and the bool), its list is new memory, it does not panic, and it writes into nothing that was there before the call. Conditions: the library's own tables hold what its text lays (the card ties them). -/
import Derived.Test.YtjfmmdblfhgelaaDoorCards
import Derived.Test.YtjfmmdblfhgelaaDoorTie
import Derived.Test.YtjfmmdblfhgelaaDoorWinParseI
import Derived.WalkKit
import Derived.ProofKit
import Derived.OpenShut
import Derived.ShutString
import Derived.ChangeOld
import Derived.Below
import Derived.Lib.SmallJoins
import Derived.Deep.DeepHandedRow
import Derived.Lib.LaidTab
import Derived.Stop.LaidErr
namespace Go.Proofs.YtjfmmdblfhgelaaDoor
open Go.ChangeShapes Go.WideShapes Go.ChangeAt Go.RowKit Go.Joins
set_option linter.unusedVariables false
set_option linter.unusedSimpArgs false
namespace fnExactParseVisits
theorem own : ownKnob Tryd.prog.godebug = none := by kernel_rfl
theorem laidOut : laidOutB Tryd.prog = true := by kernel_rfl
theorem star : "*" ++ "errors.errorString" = "*errors.errorString" := by decide
theorem tpOnly : ∀ u, Tryd.prog.typeName? 3 u = some "*errors.errorString" → u = 118 := fun u h =>
  typeName_ptr_named (nm := "errors.errorString") (by rw [star]; kernel_rfl) (by kernel_rfl) (by decide) u (by rw [star]; exact h)
theorem gTabType : (Tryd.prog.globals[0]?).map (·.type) = some 88 := by kernel_rfl
theorem cellsT : Tryd.prog.cellsOf 88 = 20 := by kernel_rfl
theorem cellsE : Tryd.prog.cellsOf 75 = 1 := by kernel_rfl
theorem powData : (Rows.laid_internal_strconv_uint64pow10 : DataW Unit) = Lib.tabData .u64 Lib.pow10Tab := by kernel_rfl
/-- What the row's list gives: the library's variables. -/
theorem env {W : World} (h : laidMetH Tryd.prog Rows.fnExactParseVisitsRow.laid W) (hsh : W.ShapedOpen Tryd.prog) : Env W := by
  have h1 : laidMet Tryd.prog Rows.fnExactParseVisitsRow.laid W := h
  have h2 := (laidMet.tail (laidMet.tail h1))
  have h3 := laidMet.tail h2
  have h4 := laidMet.tail h3
  have h5 := laidMet.tail h4
  rw [powData] at h2
  refine ⟨Lib.tabIs_of_head pow10G gTabType Tryd.underlying88 Tryd.underlying75 cellsE cellsT h2, Tryd.laysM145.s1_3 W hsh, ?_, ?_⟩
  · obtain ⟨x, s, hv, _⟩ := Go.laid_sentinel (ti := 65) (tp := 118) (te := 120) (ts := 9) h5 esG (by kernel_rfl) Tryd.underlying65 tpOnly Tryd.underlying118 Tryd.underlying120 rfl rfl Tryd.underlying9 (by kernel_rfl) (by kernel_rfl)
    exact ⟨_, _, hv⟩
  · obtain ⟨x, s, hv, _⟩ := Go.laid_sentinel (ti := 65) (tp := 118) (te := 120) (ts := 9) h4 erG (by kernel_rfl) Tryd.underlying65 tpOnly Tryd.underlying118 Tryd.underlying120 rfl rfl Tryd.underlying9 (by kernel_rfl) (by kernel_rfl)
    exact ⟨_, _, hv⟩
set_option maxHeartbeats 1000000 in
theorem heldVisitS_ok (a : Option Addr) (n cap : Nat) (k : Int) (w : World) (h : RdP w a (sqP k n)) (k0 : 0 ≤ k) (k1 : k + 2 * (n : Int) ≤ 4611686018427387904) :
    Calls Tryd.prog 13 #[.slice a n cap, .int .i64 k] w fun e w' => e = .returned (.int .i64 (k + 2 * (n : Int))) ∧ Below w.heap.size w w' := by
  go_enter Tryd.func13, Tryd.ntmps13
  go_wp2_with fail
  go_loopg [1, 5] n (fun f v1 v5 wr => ∃ (j : Nat), v1 = .int .i64 (k + 2 * (j : Int)) ∧ v5 = .int .i64 (j : Int) ∧ j + f ≤ n ∧ n ≤ j + f ∧ Below w.heap.size w wr)
  case atStart => exact ⟨0, by simp, rfl, by omega, by omega, Below.refl _ _⟩
  case round =>
    obtain ⟨j, rfl, rfl, h1, h2, hbel⟩ := hrel
    by_cases hj : j < n
    · rcases h with h | ⟨b, off, rfl, hlt, hc⟩
      · have := congrArg List.length h; rw [sqP_length] at this; simp at this; omega
      · have hcj := (hc j (by rw [sqP_length]; exact hj)).1
        have hck := (hc j (by rw [sqP_length]; exact hj)).2
        rw [sqP_x k n j hj] at hcj
        rw [sqP_y k n j hj] at hck
        have hcj' : wr.cell? ⟨b, off + j * 2, none⟩ = some (.int .i64 (k + 2 * (j : Int))) := by rw [(bcell hbel).1 b _ hlt]; exact hcj
        have hck' : wr.cell? ⟨b, off + j * 2 + 1, none⟩ = some (.int .i64 (k + 2 * (j : Int) + 1)) := by rw [(bcell hbel).1 b _ hlt]; exact hck
        have hjI : (j : Int) < (n : Int) := by omega
        have HB := Lib.hid hbel
        clear hbel hc hcj hck
        go_wp2_with fail
        all_goals try (go_quiet (fail); go_wp2_with fail)
        all_goals try (go_quiet (fail); go_wp2_with fail)
        go_roundg (gk - 1)
        case rel => exact ⟨j + 1, by rw [show k + 2 * ((j + 1 : Nat) : Int) = k + 2 * (j : Int) + 1 + 1 from by omega], by go_num, by omega, by omega, by first | exact HB.out | exact below_drewN HB.out _⟩
        case measure => omega
    · have e : j = n := by omega
      have HB := Lib.hid hbel
      clear hbel
      subst e
      go_wp2_with fail
      go_ret
      exact ⟨rfl, HB.out⟩
set_option maxHeartbeats 1000000 in
theorem implParseVisits (t : ByteArray) (R : List (Int × Int)) (ok : Bool) (H : PHP t R ok) (ht : t.size ≤ 1048576) (w : World) (E : Env w) :
    Calls Tryd.prog 11 #[.string t] w (RetRP w R ok) := by
  have HS := Lib.hid (implParseList t R ok H ht w E)
  clear H E
  go_enter Tryd.func11, Tryd.ntmps11
  go_wp2_with fail
  refine HS.out.mono ?_; rintro e w1 ⟨a, cap, rfl, hO, hb⟩
  have HP := Lib.hid (And.intro hO hb)
  clear hO hb
  go_wp2_with fail
  go_ret2
  exact ⟨a, cap, rfl, HP.out.1, HP.out.2⟩
/-- What both readers answer. -/
theorem both (t : ByteArray) : ∃ R ok, PHP t R ok := by
  by_cases h : ∃ xs, YL t xs
  · obtain ⟨xs, h⟩ := h
    exact ⟨xs, true, .inl ⟨h, rfl⟩⟩
  · exact ⟨[], false, .inr ⟨fun xs y => h ⟨xs, y⟩, rfl, rfl⟩⟩
set_option maxHeartbeats 1000000 in
theorem walk (t : ByteArray) (hm : t.size ≤ maxLen) (w : World) (E : Env w) :
    Calls Tryd.prog 4 #[.string t] w fun e w' => e = .returned (.bool true) ∧ Below w.heap.size w w' := by
  unfold maxLen at hm
  by_cases hbig : (1048576 : Int) < (t.size : Int)
  · go_enter Tryd.func4, Tryd.ntmps4
    go_wp2_with fail
    go_ret
    exact ⟨rfl, Below.refl _ _⟩
  · have ht : t.size ≤ 1048576 := by omega
    obtain ⟨R, ok, hPH⟩ := both t
    have hRl : R.length ≤ 6 := by
      rcases hPH with ⟨y, _⟩ | ⟨_, e, _⟩
      · exact y.bd.2.1
      · rw [e]; simp
    have HS := Lib.hid (fun w => specParseVisits t R ok hPH ht w)
    have HI := Lib.hid (fun w E => implParseVisits t R ok hPH ht w E)
    clear hPH
    go_enter Tryd.func4, Tryd.ntmps4
    go_wp2_with fail
    refine (HS.out _).mono ?_; rintro e w1 ⟨a1, c1, rfl, hO1, hb1⟩
    go_wp2_with fail
    refine (HI.out _ (E.below hb1)).mono ?_; rintro e w2 ⟨a2, c2, rfl, hO2, hb2⟩
    go_wp2_with fail
    refine (eqVisitS_eq a2 a1 c2 c1 R _ hO2.rd (hO1.rd.below hb2) (by omega)).mono ?_; rintro e w3 ⟨rfl, hb3⟩
    have C3 : Below w1.heap.size w1 w3 := hb2.trans (hb3.mono hb2.size)
    go_wp2_with fail
    refine (markVisitS_own w1.heap.size a2 c2 R 1 _ (hO2.below hb3) (by omega) (by omega)).mono ?_; rintro e w4 ⟨rfl, hO4, hg4⟩
    have C4 : Below w1.heap.size w1 w4 := C3.grown hg4 C3.size (fun k hk => (rowP_lt (hO2.below hb3) k hk).1)
    have hR4 : RdP w4 a2 (sqP 1 R.length) := rowP_rd (sqP_length _ _) hO4
    go_wp2_with fail
    refine (heldVisitS_ok a2 R.length c2 1 _ hR4 (by omega) (by omega)).mono ?_; rintro e w5 ⟨rfl, hb5⟩
    have C5 : Below w1.heap.size w1 w5 := C4.trans (hb5.mono C4.size)
    go_wp2_with fail
    refine (HI.out _ (E.below (hb1.trans (C5.mono hb1.size)))).mono ?_; rintro e w6 ⟨a6, c6, rfl, hO6, hb6⟩
    have C6 : Below w1.heap.size w1 w6 := C5.trans (hb6.mono C5.size)
    go_wp2_with fail
    refine (eqVisitS_eq a6 a1 c6 c1 R _ hO6.rd (hO1.rd.below C6) (by omega)).mono ?_; rintro e w7 ⟨rfl, hb7⟩
    have C7 : Below w1.heap.size w1 w7 := C6.trans (hb7.mono C6.size)
    go_wp2_with fail
    refine (heldVisitS_ok a2 R.length c2 1 _ (((hR4.below hb5).below hb6).below hb7) (by omega) (by omega)).mono ?_; rintro e w8 ⟨rfl, hb8⟩
    have C8 : Below w1.heap.size w1 w8 := C7.trans (hb8.mono C7.size)
    go_wp2_with fail
    go_ret
    exact ⟨rfl, hb1.trans (C8.mono hb1.size)⟩
set_option maxRecDepth 100000 in
/-- What the walk gives, for every argument and every world that holds the tables. -/
theorem contract (H : Type) (enc : TypeId × Value → H) (W : World) (base : Nat) (args : Array Value) (ds gs : List (DataW H)) (before : List MemPlace)
    (hval : ∀ (j : Nat) t v, Tryd.f4.params[j]? = some t → args[j]? = some v → Value.okWide Tryd.prog W .any base t v)
    (hW : DataW.Whole enc Tryd.prog Tryd.f4.params.toList Rows.fnExactParseVisitsSpec.vars false W args.toList ds gs before) (hsh : W.ShapedOpen Tryd.prog) (hL : laidMetH Tryd.prog Rows.fnExactParseVisitsRow.laid W) :
    Calls Tryd.prog 4 args W fun e W' => ∃ v, e = .returned v ∧ Rows.fnExactParseVisitsSpec.post enc Tryd.prog Tryd.f4 false true false false W args v W' := by
  have hW' := hW
  obtain ⟨p, q, hA0, hV, rfl, hfz, hnd⟩ := hW
  have hA : DataW.TrodAll enc Tryd.prog W 0 (fun _ => true) true Tryd.f4.params.toList args.toList ds p := hA0
  rw [Tryd.params4] at hA hval
  obtain ⟨v0, vs0, d0, ds0, p0, q0, hargs, rfl, rfl, h0, r0⟩ := trodAll_cons hA
  obtain ⟨rfl, rfl, rfl⟩ := trodAll_nil r0
  obtain rfl : args = #[v0] := by cases args; simp_all
  obtain ⟨rfl, rfl⟩ := trodVars_none hV
  have k0 := h0
  have lt0 : ∀ x ∈ p0, x.block < W.heap.size := by obtain ⟨m, hm⟩ := k0; exact DataW.trod_lt m _ _ _ hm
  obtain ⟨a0, rfl, rfl, rfl, m0⟩ := Go.ChangeMaps.open_string Tryd.underlying9 (hval 0 9 v0 rfl rfl) h0
  clear hA0
  refine (walk a0 m0 W (env hL hsh)).mono fun e W' ⟨he, bel⟩ => ?_
  subst he
  exact ⟨_, rfl, _, _, _, [], _, [], hW', trodAll_mk1 (shut_bool Tryd.underlying4 _), (trodAll_cons_mk (Below.trod laidOut (by kernel_rfl) (of_decide_eq_true (by kernel_rfl)) k0 bel lt0) trodAll_mk0), rfl, bel.frame _, fun h => by cases h⟩
def vals : DataW Unit → Array Value
  | .agg l => (l.map fun | .lit (.int k n) => Value.int k n | _ => undef).toArray
  | _ => #[]
def val1 : DataW Unit → Value
  | .lit (.int k n) => Value.int k n
  | _ => undef
def vals2 : DataW Unit → Array Value
  | .agg l => (l.flatMap fun | .agg m => m.map val1 | d => [val1 d]).toArray
  | _ => #[]
def lay (vs : Array Value) : Obj → Obj
  | .cells _ t frozen => .cells vs t frozen
  | o => o
/-- A world for the witness: the settled one, the three tables holding what their initialisers lay. -/
noncomputable def baseHeap (os : Os) : Array Obj := ((((((World.holding Tryd.prog os ⟨#[], #[], []⟩).heap).modify 0 (lay (vals Rows.laid_internal_strconv_uint64pow10))).modify 4 (lay (vals Rows.laid_math_bits_deBruijn32tab))).modify 5 (lay (vals Rows.laid_math_bits_deBruijn64tab))).modify 7 (lay (vals2 Rows.laid_unicode_utf8_acceptRanges))).modify 6 (lay (vals2 Rows.laid_unicode_utf8_first))
def txt : DataW Unit → Value
  | .iface _ (.ptr (.agg [.lit (.string l)])) => .string ⟨l.toArray⟩
  | _ => undef
noncomputable def laidWorld (os : Os) : World :=
  { World.holding Tryd.prog os ⟨#[], #[], []⟩ with heap := ((((baseHeap os).modify 3 (lay #[.iface 118 (.pointer (some ⟨(baseHeap os).size, 0, none⟩))])).modify 2 (lay #[.iface 118 (.pointer (some ⟨(baseHeap os).size + 1, 0, none⟩))])).push (.cells #[txt Rows.laid_strconv_ErrRange] 120)).push (.cells #[txt Rows.laid_strconv_ErrSyntax] 120) }
theorem laid_met (os : Os) : laidMet Tryd.prog Rows.fnExactParseVisitsRow.laid ((laidWorld os).forCall (fun _ _ => 0) ⟨#[], #[.string ⟨#[]⟩], []⟩).memory :=
  laidMet_of_run' 8 (by kernel_rfl) (by kernel_rfl)
theorem reads (os : Os) {H : Type} (enc : TypeId × Value → H) : ∃ places, DataW.whole enc Tryd.prog ((laidWorld os).forCall (fun _ _ => 0) ⟨#[], #[.string ⟨#[]⟩], []⟩).memory Tryd.f4.params.toList Rows.fnExactParseVisitsSpec.vars false #[Value.string ⟨#[]⟩].toList 8 = some ([.lit (.string [])], [], places) :=
  ⟨[], by kernel_rfl⟩
set_option maxRecDepth 100000 in
theorem lifted (os : Os) (started : os.Started) (H : Type) (enc : TypeId × Value → H) (F : Stop.Interp) :
    ReturnsInHanded {} Tryd.checked os 4 .any ((OpenSpec.ofChange Rows.fnExactParseVisitsSpec).preRow enc Tryd.prog Tryd.f4 Rows.fnExactParseVisitsRow.domain false Rows.fnExactParseVisitsRow.laid) (((OpenSpec.ofChange Rows.fnExactParseVisitsSpec).at F).post enc Tryd.prog Tryd.f4 false true false false) := by
  obtain ⟨places, hx⟩ := reads os enc
  refine returnsInHanded_of_row (C := Tryd.checked) (s := OpenSpec.ofChange Rows.fnExactParseVisitsSpec) own started (by kernel_rfl) Tryd.func4
    (witness_row_at (enc := enc) (C := Tryd.checked) false (laidWorld os) #[.string ⟨#[]⟩] rfl (by kernel_rfl) (by kernel_rfl) (by kernel_rfl)
      (OpenSpec.preRow_of_cond 8 hx (by kernel_rfl) (fun k hk => by cases hk) (by kernel_rfl) (laid_met os))) ?_
  intro W base args ds gs before hval hW _ _ _ hL hsh _
  exact contract H enc W base args ds gs before hval hW hsh hL
theorem said : Rows.FnExactParseVisitsSaid :=
  OpenClaim.holds_of_cond 4 Tryd.f4 rfl rfl rfl rfl rfl rfl rfl ⟨rfl, rfl, rfl, rfl, rfl⟩ rfl rfl rfl rfl rfl (by kernel_rfl) Tryd.func4 (by kernel_rfl)
    (of_decide_eq_true (by kernel_rfl)) (by unfold Func.isWrapper; first | (rw [if_pos (by decide +kernel)]; kernel_rfl) | (rw [if_neg (by decide +kernel)]; exact ⟨rfl, rfl⟩))
    (fun os started H enc _ F => by rw [OpenClaim.pre_eq_preRow]; exact lifted os started H enc F)
theorem plain (f : FuncId) (fn : Func) (hf : Tryd.pinned.checked.prog.funcNamed Rows.fnExactParseVisitsRow.func = some f) (hfn : Tryd.pinned.checked.prog.funcs[f]? = some fn) :
    true = Tryd.pinned.checked.prog.looks [] ∧ ∀ (j : Nat) t, fn.params[j]? = some t → Tryd.pinned.checked.prog.wantsStandIn t = false := by
  obtain rfl : f = 4 := Option.some.inj ((show Tryd.prog.funcNamed Rows.fnExactParseVisitsRow.func = some 4 by kernel_rfl).symm.trans hf) |>.symm
  obtain rfl : fn = Tryd.f4 := (Option.some.inj (Tryd.func4.symm.trans hfn)).symm
  refine ⟨by kernel_rfl, fun j t ht => ?_⟩
  rw [Tryd.params4] at ht
  obtain rfl : t = 9 := by simpa using Array.mem_of_getElem? ht
  exact (show Tryd.prog.wantsStandIn 9 = false by kernel_rfl)
/-- The card, as it is given. -/
theorem fnExactParseVisits_holds : Rows.FnExactParseVisitsCardSaid :=
  Claim7.holds_tied_plain_at .later [] _ _ _ _ said (fun _ h => by cases h) (by kernel_rfl) (fun _ h => by cases h) fnExactParseVisits_row_tie rfl ⟨rfl, rfl⟩ (by kernel_rfl) rfl plain (by kernel_rfl)
end fnExactParseVisits
end Go.Proofs.YtjfmmdblfhgelaaDoor
