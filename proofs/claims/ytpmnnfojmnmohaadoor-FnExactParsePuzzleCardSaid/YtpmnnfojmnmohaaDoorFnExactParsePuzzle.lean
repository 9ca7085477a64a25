/- The function ParsePuzzle of chapter 9 answers as the model at every text (the puzzle and the bool), its list is new memory, it does not panic, and it writes into nothing that was there before the call. Conditions: the library's own tables hold what its text lays (the card ties them). -/
import Derived.Test.YtpmnnfojmnmohaaDoorCards
import Derived.Test.YtpmnnfojmnmohaaDoorTie
import Derived.Test.YtpmnnfojmnmohaaDoorPzParseI
import Derived.Test.YtpmnnfojmnmohaaDoorPzBox
import Derived.WalkKit
import Derived.ProofKit
import Derived.OpenShut
import Derived.ShutString
import Derived.ChangeOld
import Derived.Below
import Derived.Lib.SmallJoins
import Derived.Deep.DeepHandedRow
import Derived.Lib.LaidTab
import Derived.Stop.LaidErr
namespace Go.Proofs.YtpmnnfojmnmohaaDoor
open Go.ChangeShapes Go.WideShapes Go.ChangeAt Go.RowKit Go.Joins
set_option linter.unusedVariables false
set_option linter.unusedSimpArgs false
namespace fnExactParsePuzzle
theorem own : ownKnob Tryd.prog.godebug = none := by kernel_rfl
theorem laidOut : laidOutB Tryd.prog = true := by kernel_rfl
theorem star : "*" ++ "errors.errorString" = "*errors.errorString" := by decide
theorem tpOnly : ∀ u, Tryd.prog.typeName? 3 u = some "*errors.errorString" → u = 131 := fun u h =>
  typeName_ptr_named (nm := "errors.errorString") (by rw [star]; kernel_rfl) (by kernel_rfl) (by decide) u (by rw [star]; exact h)
theorem gTabType : (Tryd.prog.globals[5]?).map (·.type) = some 135 := by kernel_rfl
theorem cellsT : Tryd.prog.cellsOf 135 = 20 := by kernel_rfl
theorem cellsE : Tryd.prog.cellsOf 111 = 1 := by kernel_rfl
theorem powData : (Rows.laid_internal_strconv_uint64pow10 : DataW Unit) = Lib.tabData .u64 Lib.pow10Tab := by kernel_rfl
/-- What the row's list gives: the library's variables. -/
theorem env {W : World} (h : laidMetH Tryd.prog Rows.fnExactParsePuzzleRow.laid W) (hsh : W.ShapedOpen Tryd.prog) : Env W := by
  have h1 : laidMet Tryd.prog Rows.fnExactParsePuzzleRow.laid W := h
  have h2 := (laidMet.tail (laidMet.tail h1))
  have h3 := laidMet.tail h2
  have h4 := laidMet.tail h3
  have h5 := laidMet.tail h4
  rw [powData] at h2
  refine ⟨Lib.tabIs_of_head pow10G gTabType Tryd.underlying135 Tryd.underlying111 cellsE cellsT h2, Tryd.laysM145.s1_3 W hsh, ?_, ?_⟩
  · obtain ⟨x, s, hv, _⟩ := Go.laid_sentinel (ti := 84) (tp := 131) (te := 133) (ts := 9) h5 esG (by kernel_rfl) Tryd.underlying84 tpOnly Tryd.underlying131 Tryd.underlying133 rfl rfl Tryd.underlying9 (by kernel_rfl) (by kernel_rfl)
    exact ⟨_, _, hv⟩
  · obtain ⟨x, s, hv, _⟩ := Go.laid_sentinel (ti := 84) (tp := 131) (te := 133) (ts := 9) h4 erG (by kernel_rfl) Tryd.underlying84 tpOnly Tryd.underlying131 Tryd.underlying133 rfl rfl Tryd.underlying9 (by kernel_rfl) (by kernel_rfl)
    exact ⟨_, _, hv⟩
/-- What both readers answer. -/
theorem both (t : ByteArray) : ∃ R ok, PHC t R ok := by
  by_cases h : ∃ xs, YC t xs
  · obtain ⟨xs, h⟩ := h
    exact ⟨xs, true, .inl ⟨h, rfl⟩⟩
  · exact ⟨[], false, .inr ⟨fun xs y => h ⟨xs, y⟩, rfl, rfl⟩⟩
set_option maxHeartbeats 8000000 in
set_option maxRecDepth 100000 in
theorem walk (t : ByteArray) (hm : t.size ≤ maxLen) (w : World) (E : Env w) :
    Calls Tryd.prog 4 #[.string t] w fun e w' => e = .returned (.bool true) ∧ Below w.heap.size w w' := by
  unfold maxLen at hm
  by_cases hbig : (1048576 : Int) < (t.size : Int)
  · go_enter Tryd.func4, Tryd.ntmps4
    go_wp2_with fail
    go_ret
    exact ⟨rfl, Below.refl _ _⟩
  · have ht : t.size ≤ 1048576 := by omega
    obtain ⟨L, ok, hPH⟩ := both t
    have hL0 : L.length ≤ 6 := by
      rcases hPH with ⟨y, _⟩ | ⟨_, e, _⟩
      · exact y.bd.1
      · rw [e]; simp
    have hL1 : L.length ≤ 1048576 := by omega
    have hS : ∀ W, Calls Tryd.prog 10 #[.string t] W (RetPQ W L ok) := fun W => specParsePuzzle t L ok hPH ht W
    have hI : ∀ W, Below w.heap.size w W → Calls Tryd.prog 11 #[.string t] W (RetPQ W L ok) := fun W hb => implParsePuzzle t L ok hPH ht W (E.below hb)
    clear hPH E
    go_enter Tryd.func4, Tryd.ntmps4
    have B0 : Below w.heap.size w w := Below.refl _ _
    go_wp2_with fail
    refine (hS _).mono ?_; rintro e w1 ⟨q1, k1, rfl, hO1, hb1⟩
    have s1 := hb1.size
    have B1 : Below w.heap.size w w1 := B0.trans (hb1.mono B0.size)
    clear B0 hb1
    have rlW : ∀ k, (Value.slice q1 L.length k1).ownBlock = some k → w.heap.size ≤ k ∧ k < w1.heap.size := fun k hk => rowP_lt hO1 k hk
    have rW1 := hO1
    clear hO1
    go_wp2_with fail
    generalize hq : World.alloc w1 _ = w1a
    have hb1a : Below w1.heap.size w1 w1a := by subst hq; exact (Below.refl _ _).alloc (Nat.le_refl _) _
    have bW1a : Box1 w1a (w1.heap.size) (Value.slice q1 L.length k1) := by subst hq; exact ⟨by simp, by go_simp⟩
    have s1a : w1a.heap.size = w1.heap.size + 1 := by subst hq; simp
    clear hq
    have B1a : Below w.heap.size w w1a := B1.trans (hb1a.mono B1.size)
    have rW1a := rW1.below hb1a
    clear rW1
    clear B1 hb1a
    refine (hI _ B1a).mono ?_; rintro e w2 ⟨q2, k2, rfl, hO2, hb2⟩
    have s2 := hb2.size
    have B2 : Below w.heap.size w w2 := B1a.trans (hb2.mono B1a.size)
    have bW2 := bW1a.below hb2
    have rW2 := rW1a.below hb2
    clear bW1a rW1a
    clear B1a hb2
    have rlG : ∀ k, (Value.slice q2 L.length k2).ownBlock = some k → w1a.heap.size ≤ k ∧ k < w2.heap.size := fun k hk => rowP_lt hO2 k hk
    have rG2 := hO2
    clear hO2
    obtain ⟨_, uW0_1⟩ := id bW2
    go_wp2_with fail
    generalize hq : World.alloc w2 _ = w2a
    have hb2a : Below w2.heap.size w2 w2a := by subst hq; exact (Below.refl _ _).alloc (Nat.le_refl _) _
    have bG2a : Box1 w2a (w2.heap.size) (Value.slice q2 L.length k2) := by subst hq; exact ⟨by simp, by go_simp⟩
    have s2a : w2a.heap.size = w2.heap.size + 1 := by subst hq; simp
    clear hq
    have B2a : Below w.heap.size w w2a := B2.trans (hb2a.mono B2.size)
    have bW2a := bW2.below hb2a
    have rW2a := rW2.below hb2a
    have rG2a := rG2.below hb2a
    clear bW2 rW2 rG2
    clear B2 hb2a
    refine (eqPuzzle_eq q2 q1 k2 k1 L _ rG2a.rd rW2a.rd hL1).mono ?_; rintro e w3 ⟨rfl, hb3⟩
    have s3 := hb3.size
    have B3 : Below w.heap.size w w3 := B2a.trans (hb3.mono B2a.size)
    have bW3 := bW2a.below hb3
    have bG3 := bG2a.below hb3
    have rW3 := rW2a.below hb3
    have rG3 := rG2a.below hb3
    clear bW2a bG2a rW2a rG2a
    clear B2a hb3
    obtain ⟨_, uW0_2⟩ := id bW3
    obtain ⟨_, uG0_3⟩ := id bG3
    go_wp2_with fail
    refine (markPuzzle_own w1a.heap.size q2 k2 L 1 _ rG3 (by omega) (by omega)).mono ?_; rintro e w4 ⟨rfl, hM4, hg4⟩
    have s4 := hg4.size
    have B4 : Below w.heap.size w w4 := B3.grown hg4 B3.size (fun k hk => by have := (rlG k hk).1; omega)
    have bW4 := bW3.grown hg4 (fun hk => by have := rlG _ hk.symm; omega)
    have bG4 := bG3.grown hg4 (fun hk => by have := rlG _ hk.symm; omega)
    have rW4 := rW3.apart' hg4 (own_apart (fun k hk hk2 => by have := rlW k hk; have := rlG k hk2; omega))
    clear bW3 bG3 rW3 rG3 B3
    have rGR4 := rowT_rd (sqT_length _ _) hM4
    clear hM4 hg4
    obtain ⟨_, uW0_4⟩ := id bW4
    obtain ⟨_, uG0_5⟩ := id bG4
    go_wp2_with fail
    refine (heldPuzzle_ok q2 L.length k2 1 _ rGR4 (by omega) (by omega)).mono ?_; rintro e w5 ⟨rfl, hb5⟩
    have s5 := hb5.size
    have B5 : Below w.heap.size w w5 := B4.trans (hb5.mono B4.size)
    have bW5 := bW4.below hb5
    have bG5 := bG4.below hb5
    have rW5 := rW4.below hb5
    have rGR5 := rGR4.below hb5
    clear bW4 bG4 rW4 rGR4
    clear B4 hb5
    obtain ⟨_, uW0_6⟩ := id bW5
    obtain ⟨_, uG0_7⟩ := id bG5
    go_wp2_with fail
    refine (hI _ B5).mono ?_; rintro e w6 ⟨q6, k6, rfl, hO6, hb6⟩
    have s6 := hb6.size
    have B6 : Below w.heap.size w w6 := B5.trans (hb6.mono B5.size)
    have bW6 := bW5.below hb6
    have bG6 := bG5.below hb6
    have rW6 := rW5.below hb6
    have rGR6 := rGR5.below hb6
    clear bW5 bG5 rW5 rGR5
    clear B5 hb6
    have rlH : ∀ k, (Value.slice q6 L.length k6).ownBlock = some k → w5.heap.size ≤ k ∧ k < w6.heap.size := fun k hk => rowP_lt hO6 k hk
    have rH6 := hO6
    clear hO6
    obtain ⟨_, uW0_8⟩ := id bW6
    obtain ⟨_, uG0_9⟩ := id bG6
    go_wp2_with fail
    generalize hq : World.alloc w6 _ = w6a
    have hb6a : Below w6.heap.size w6 w6a := by subst hq; exact (Below.refl _ _).alloc (Nat.le_refl _) _
    have bH6a : Box1 w6a (w6.heap.size) (Value.slice q6 L.length k6) := by subst hq; exact ⟨by simp, by go_simp⟩
    have s6a : w6a.heap.size = w6.heap.size + 1 := by subst hq; simp
    clear hq
    have B6a : Below w.heap.size w w6a := B6.trans (hb6a.mono B6.size)
    have bW6a := bW6.below hb6a
    have bG6a := bG6.below hb6a
    have rW6a := rW6.below hb6a
    have rGR6a := rGR6.below hb6a
    have rH6a := rH6.below hb6a
    clear bW6 bG6 rW6 rGR6 rH6
    clear B6 hb6a
    refine (eqPuzzle_eq q6 q1 k6 k1 L _ rH6a.rd rW6a.rd hL1).mono ?_; rintro e w7 ⟨rfl, hb7⟩
    have s7 := hb7.size
    have B7 : Below w.heap.size w w7 := B6a.trans (hb7.mono B6a.size)
    have bW7 := bW6a.below hb7
    have bG7 := bG6a.below hb7
    have bH7 := bH6a.below hb7
    have rW7 := rW6a.below hb7
    have rGR7 := rGR6a.below hb7
    have rH7 := rH6a.below hb7
    clear bW6a bG6a bH6a rW6a rGR6a rH6a
    clear B6a hb7
    obtain ⟨_, uW0_10⟩ := id bW7
    obtain ⟨_, uG0_11⟩ := id bG7
    go_wp2_with fail
    refine (heldPuzzle_ok q2 L.length k2 1 _ rGR7 (by omega) (by omega)).mono ?_; rintro e w8 ⟨rfl, hb8⟩
    have s8 := hb8.size
    have B8 : Below w.heap.size w w8 := B7.trans (hb8.mono B7.size)
    have bW8 := bW7.below hb8
    have bG8 := bG7.below hb8
    have bH8 := bH7.below hb8
    have rW8 := rW7.below hb8
    have rGR8 := rGR7.below hb8
    have rH8 := rH7.below hb8
    clear bW7 bG7 bH7 rW7 rGR7 rH7
    clear B7 hb8
    obtain ⟨_, uW0_12⟩ := id bW8
    obtain ⟨_, uG0_13⟩ := id bG8
    go_wp2_with fail
    go_ret
    exact ⟨rfl, B8⟩
set_option maxRecDepth 100000 in
/-- What the walk gives, for every argument and every world that holds the tables. -/
theorem contract (H : Type) (enc : TypeId × Value → H) (W : World) (base : Nat) (args : Array Value) (ds gs : List (DataW H)) (before : List MemPlace)
    (hval : ∀ (j : Nat) t v, Tryd.f4.params[j]? = some t → args[j]? = some v → Value.okWide Tryd.prog W .any base t v)
    (hW : DataW.Whole enc Tryd.prog Tryd.f4.params.toList Rows.fnExactParsePuzzleSpec.vars false W args.toList ds gs before) (hsh : W.ShapedOpen Tryd.prog) (hL : laidMetH Tryd.prog Rows.fnExactParsePuzzleRow.laid W) :
    Calls Tryd.prog 4 args W fun e W' => ∃ v, e = .returned v ∧ Rows.fnExactParsePuzzleSpec.post enc Tryd.prog Tryd.f4 false true false false W args v W' := by
  have hW' := hW
  obtain ⟨p, q, hA0, hV, rfl, hfz, hnd⟩ := hW
  have hA : DataW.TrodAll enc Tryd.prog W 0 (fun _ => true) true Tryd.f4.params.toList args.toList ds p := hA0
  rw [Tryd.params4] at hA hval
  obtain ⟨v0, vs0, d0, ds0, p0, q0, hargs, rfl, rfl, h0, r0⟩ := trodAll_cons hA
  obtain ⟨rfl, rfl, rfl⟩ := trodAll_nil r0
  obtain rfl : args = #[v0] := by cases args; simp_all
  obtain ⟨rfl, rfl⟩ := trodVars_none hV
  have k0 := h0
  have lt0 : ∀ x ∈ p0, x.block < W.heap.size := by obtain ⟨m, hm⟩ := k0; exact DataW.trod_lt m _ _ _ hm
  obtain ⟨a0, rfl, rfl, rfl, m0⟩ := Go.ChangeMaps.open_string Tryd.underlying9 (hval 0 9 v0 rfl rfl) h0
  clear hA0
  refine (walk a0 m0 W (env hL hsh)).mono fun e W' ⟨he, bel⟩ => ?_
  subst he
  exact ⟨_, rfl, _, _, _, [], _, [], hW', trodAll_mk1 (shut_bool Tryd.underlying4 _), (trodAll_cons_mk (Below.trod laidOut (by kernel_rfl) (of_decide_eq_true (by kernel_rfl)) k0 bel lt0) trodAll_mk0), rfl, bel.frame _, fun h => by cases h⟩
def vals : DataW Unit → Array Value
  | .agg l => (l.map fun | .lit (.int k n) => Value.int k n | _ => undef).toArray
  | _ => #[]
def val1 : DataW Unit → Value
  | .lit (.int k n) => Value.int k n
  | _ => undef
def vals2 : DataW Unit → Array Value
  | .agg l => (l.flatMap fun | .agg m => m.map val1 | d => [val1 d]).toArray
  | _ => #[]
def lay (vs : Array Value) : Obj → Obj
  | .cells _ t frozen => .cells vs t frozen
  | o => o
/-- A world for the witness: the settled one, the three tables holding what their initialisers lay. -/
noncomputable def baseHeap (os : Os) : Array Obj := ((((((World.holding Tryd.prog os ⟨#[], #[], []⟩).heap).modify 5 (lay (vals Rows.laid_internal_strconv_uint64pow10))).modify 6 (lay (vals Rows.laid_math_bits_deBruijn32tab))).modify 7 (lay (vals Rows.laid_math_bits_deBruijn64tab))).modify 4 (lay (vals2 Rows.laid_unicode_utf8_acceptRanges))).modify 3 (lay (vals2 Rows.laid_unicode_utf8_first))
def txt : DataW Unit → Value
  | .iface _ (.ptr (.agg [.lit (.string l)])) => .string ⟨l.toArray⟩
  | _ => undef
noncomputable def laidWorld (os : Os) : World :=
  { World.holding Tryd.prog os ⟨#[], #[], []⟩ with heap := ((((baseHeap os).modify 2 (lay #[.iface 131 (.pointer (some ⟨(baseHeap os).size, 0, none⟩))])).modify 1 (lay #[.iface 131 (.pointer (some ⟨(baseHeap os).size + 1, 0, none⟩))])).push (.cells #[txt Rows.laid_strconv_ErrRange] 133)).push (.cells #[txt Rows.laid_strconv_ErrSyntax] 133) }
theorem laid_met (os : Os) : laidMet Tryd.prog Rows.fnExactParsePuzzleRow.laid ((laidWorld os).forCall (fun _ _ => 0) ⟨#[], #[.string ⟨#[]⟩], []⟩).memory :=
  laidMet_of_run' 8 (by kernel_rfl) (by kernel_rfl)
theorem reads (os : Os) {H : Type} (enc : TypeId × Value → H) : ∃ places, DataW.whole enc Tryd.prog ((laidWorld os).forCall (fun _ _ => 0) ⟨#[], #[.string ⟨#[]⟩], []⟩).memory Tryd.f4.params.toList Rows.fnExactParsePuzzleSpec.vars false #[Value.string ⟨#[]⟩].toList 8 = some ([.lit (.string [])], [], places) :=
  ⟨[], by kernel_rfl⟩
set_option maxRecDepth 100000 in
theorem lifted (os : Os) (started : os.Started) (H : Type) (enc : TypeId × Value → H) (F : Stop.Interp) :
    ReturnsInHanded {} Tryd.checked os 4 .any ((OpenSpec.ofChange Rows.fnExactParsePuzzleSpec).preRow enc Tryd.prog Tryd.f4 Rows.fnExactParsePuzzleRow.domain false Rows.fnExactParsePuzzleRow.laid) (((OpenSpec.ofChange Rows.fnExactParsePuzzleSpec).at F).post enc Tryd.prog Tryd.f4 false true false false) := by
  obtain ⟨places, hx⟩ := reads os enc
  refine returnsInHanded_of_row (C := Tryd.checked) (s := OpenSpec.ofChange Rows.fnExactParsePuzzleSpec) own started (by kernel_rfl) Tryd.func4
    (witness_row_at (enc := enc) (C := Tryd.checked) false (laidWorld os) #[.string ⟨#[]⟩] rfl (by kernel_rfl) (by kernel_rfl) (by kernel_rfl)
      (OpenSpec.preRow_of_cond 8 hx (by kernel_rfl) (fun k hk => by cases hk) (by kernel_rfl) (laid_met os))) ?_
  intro W base args ds gs before hval hW _ _ _ hL hsh _
  exact contract H enc W base args ds gs before hval hW hsh hL
theorem said : Rows.FnExactParsePuzzleSaid :=
  OpenClaim.holds_of_cond 4 Tryd.f4 rfl rfl rfl rfl rfl rfl rfl ⟨rfl, rfl, rfl, rfl, rfl⟩ rfl rfl rfl rfl rfl (by kernel_rfl) Tryd.func4 (by kernel_rfl)
    (of_decide_eq_true (by kernel_rfl)) (by unfold Func.isWrapper; first | (rw [if_pos (by decide +kernel)]; kernel_rfl) | (rw [if_neg (by decide +kernel)]; exact ⟨rfl, rfl⟩))
    (fun os started H enc _ F => by rw [OpenClaim.pre_eq_preRow]; exact lifted os started H enc F)
theorem plain (f : FuncId) (fn : Func) (hf : Tryd.pinned.checked.prog.funcNamed Rows.fnExactParsePuzzleRow.func = some f) (hfn : Tryd.pinned.checked.prog.funcs[f]? = some fn) :
    true = Tryd.pinned.checked.prog.looks [] ∧ ∀ (j : Nat) t, fn.params[j]? = some t → Tryd.pinned.checked.prog.wantsStandIn t = false := by
  obtain rfl : f = 4 := Option.some.inj ((show Tryd.prog.funcNamed Rows.fnExactParsePuzzleRow.func = some 4 by kernel_rfl).symm.trans hf) |>.symm
  obtain rfl : fn = Tryd.f4 := (Option.some.inj (Tryd.func4.symm.trans hfn)).symm
  refine ⟨by kernel_rfl, fun j t ht => ?_⟩
  rw [Tryd.params4] at ht
  obtain rfl : t = 9 := by simpa using Array.mem_of_getElem? ht
  exact (show Tryd.prog.wantsStandIn 9 = false by kernel_rfl)
/-- The card, as it is given. -/
theorem fnExactParsePuzzle_holds : Rows.FnExactParsePuzzleCardSaid :=
  Claim7.holds_tied_plain_at .later [] _ _ _ _ said (fun _ h => by cases h) (by kernel_rfl) (fun _ h => by cases h) fnExactParsePuzzle_row_tie rfl ⟨rfl, rfl⟩ (by kernel_rfl) rfl plain (by kernel_rfl)
end fnExactParsePuzzle
end Go.Proofs.YtpmnnfojmnmohaaDoor
