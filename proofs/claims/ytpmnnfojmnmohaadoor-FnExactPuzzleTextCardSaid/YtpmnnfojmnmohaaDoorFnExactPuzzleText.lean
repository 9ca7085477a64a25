/- The function PuzzleText of chapter 9 answers as the model at every puzzle (the text and the bool), it does not panic, and it writes into nothing that was there before the call. Conditions: the library's own tables hold what its text lays (the card ties them). -/
import Derived.Test.YtpmnnfojmnmohaaDoorCards
import Derived.Test.YtpmnnfojmnmohaaDoorTie
import Derived.Test.YtpmnnfojmnmohaaDoorPzTextI
import Derived.Test.YtpmnnfojmnmohaaDoorTriFrame
import Derived.Test.YtpmnnfojmnmohaaDoorPzBox
import Derived.WalkKit
import Derived.ProofKit
import Derived.OpenShut
import Derived.ShutString
import Derived.ChangeOld
import Derived.Below
import Derived.Lib.SmallJoins
import Derived.Deep.DeepHandedRow
import Derived.Lib.LaidTab
import Derived.Stop.LaidErr
namespace Go.Proofs.YtpmnnfojmnmohaaDoor
open Go.ChangeShapes Go.WideShapes Go.ChangeAt Go.RowKit Go.Joins
set_option linter.unusedVariables false
set_option linter.unusedSimpArgs false
namespace fnExactPuzzleText
theorem own : ownKnob Tryd.prog.godebug = none := by kernel_rfl
theorem laidOut : laidOutB Tryd.prog = true := by kernel_rfl
theorem cellsPuzzle : Tryd.prog.cellsOf 24 = 1 := by kernel_rfl
theorem gTabType : (Tryd.prog.globals[5]?).map (·.type) = some 135 := by kernel_rfl
theorem cellsT : Tryd.prog.cellsOf 135 = 20 := by kernel_rfl
theorem cellsE : Tryd.prog.cellsOf 111 = 1 := by kernel_rfl
theorem powData : (Rows.laid_internal_strconv_uint64pow10 : DataW Unit) = Lib.tabData .u64 Lib.pow10Tab := by kernel_rfl
/-- What the row's list gives: the library's table of powers. -/
theorem table {W : World} (h : laidMetH Tryd.prog Rows.fnExactPuzzleTextRow.laid W) : Lib.TabIs Tryd.prog W "internal/strconv.uint64pow10" .u64 Lib.pow10Tab := by
  have h1 : laidMet Tryd.prog Rows.fnExactPuzzleTextRow.laid W := h
  have h2 := (laidMet.tail (laidMet.tail h1))
  rw [powData] at h2
  exact Lib.tabIs_of_head (rest := []) pow10G gTabType Tryd.underlying135 Tryd.underlying111 cellsE cellsT h2
set_option maxHeartbeats 8000000 in
set_option maxRecDepth 100000 in
theorem walk (a0 : Option Addr) (cap0 : Nat) (xs : List (Int × Int × Int)) (w : World) (h : RdC w a0 xs) (hm : xs.length ≤ maxLen) (ht : Lib.TabIs Tryd.prog w "internal/strconv.uint64pow10" .u64 Lib.pow10Tab) :
    Calls Tryd.prog 3 #[.agg #[.slice a0 xs.length cap0]] w fun e w' => e = .returned (.bool true) ∧ Below w.heap.size w w' := by
  unfold maxLen at hm
  by_cases hbig : (1048576 : Int) < (xs.length : Int)
  · go_enter Tryd.func3, Tryd.ntmps3
    go_wp2_with fail
    have b0 : Below w.heap.size w (w.alloc (.cells #[.slice a0 xs.length cap0] 24)) := (Below.refl _ _).alloc (Nat.le_refl _) _
    refine (szPuzzle_big a0 xs.length cap0 _ (by omega) hbig).mono ?_; rintro e w0 ⟨rfl, hb0⟩
    have B0 : Below w.heap.size w w0 := b0.trans (hb0.mono (by simp))
    go_wp2_with fail
    go_ret
    exact ⟨rfl, B0⟩
  · have hx : xs.length ≤ 1048576 := by omega
    obtain ⟨T, b, hS, hI⟩ : ∃ (T : ByteArray) (b : Bool), (∀ (A : Addr) (w : World), RdC w (some A) xs → Calls Tryd.prog 6 #[.agg #[.slice (some A) xs.length xs.length]] w fun e w' => e = .returned (.tuple #[.string T, .bool b]) ∧ Below w.heap.size w w') ∧ (∀ (A : Addr) (w : World), RdC w (some A) xs → Lib.TabIs Tryd.prog w "internal/strconv.uint64pow10" .u64 Lib.pow10Tab → Calls Tryd.prog 8 #[.agg #[.slice (some A) xs.length xs.length]] w fun e w' => e = .returned (.tuple #[.string T, .bool b]) ∧ Below w.heap.size w w') := ⟨_, _, fun A w h => specPuzzleText (some A) xs.length xs w h hx, fun A w h ht => implPuzzleText A xs.length xs w h hx (Nat.le_refl _) ht⟩
    have HT := Lib.hid ht
    clear ht
    have hz : ¬ (1048576 - (xs.length : Int) < 0) := by omega
    clear hbig hm
    go_enter Tryd.func3, Tryd.ntmps3
    go_wp2_with fail
    have bx0 : Below w.heap.size w (w.alloc (.cells #[.slice a0 xs.length cap0] 24)) := (Below.refl _ _).alloc (Nat.le_refl _) _
    have bAs : Box1 (w.alloc (.cells #[.slice a0 xs.length cap0] 24)) (w.heap.size) (.slice a0 xs.length cap0) := ⟨by simp, by go_simp⟩
    refine (szPuzzle_ok a0 xs.length cap0 _ hx).mono ?_; rintro e w0 ⟨rfl, hb0⟩
    have B0 : Below w.heap.size w w0 := bx0.trans (hb0.mono (by simp))
    have bA0 := bAs.below hb0
    have s0 : w.heap.size < w0.heap.size := bA0.1
    clear bAs bx0 hb0
    obtain ⟨_, uA0_1⟩ := id bA0
    go_wp2_with fail
    refine (toPuzzle_some a0 cap0 xs _ (h.below B0) hx).mono ?_; rintro e w1 ⟨A1, rfl, hO1, hb1⟩
    have s1 := hb1.size
    have B1 : Below w.heap.size w w1 := B0.trans (hb1.mono B0.size)
    have bA1 := bA0.below hb1
    clear bA0
    clear B0 hb1
    go_wp2_with fail
    refine (hS _ _ hO1.rd).mono ?_; rintro e w2 ⟨rfl, hb2⟩
    have s2 := hb2.size
    have B2 : Below w.heap.size w w2 := B1.trans (hb2.mono B1.size)
    have bA2 := bA1.below hb2
    clear bA1
    clear B1 hb2
    clear hO1
    obtain ⟨_, uA0_2⟩ := id bA2
    go_wp2_with fail
    refine (toPuzzle_some a0 cap0 xs _ (h.below B2) hx).mono ?_; rintro e w3 ⟨A3, rfl, hO3, hb3⟩
    have s3 := hb3.size
    have B3 : Below w.heap.size w w3 := B2.trans (hb3.mono B2.size)
    have bA3 := bA2.below hb3
    clear bA2
    clear B2 hb3
    have rlX : ∀ k, (Value.slice (some A3) xs.length xs.length).ownBlock = some k → w2.heap.size ≤ k ∧ k < w3.heap.size := fun k hk => rowP_lt hO3 k hk
    have rX3 := hO3
    clear hO3
    go_wp2_with fail
    generalize hq : World.alloc w3 _ = w3a
    have hb3a : Below w3.heap.size w3 w3a := by subst hq; exact (Below.refl _ _).alloc (Nat.le_refl _) _
    have bX3a : Box1 w3a (w3.heap.size) (.slice (some A3) xs.length xs.length) := by subst hq; exact ⟨by simp, by go_simp⟩
    have s3a : w3a.heap.size = w3.heap.size + 1 := by subst hq; simp
    clear hq
    have B3a : Below w.heap.size w w3a := B3.trans (hb3a.mono B3.size)
    have bA3a := bA3.below hb3a
    have rX3a := rX3.below hb3a
    clear bA3 rX3
    clear B3 hb3a
    refine (hI _ _ rX3a.rd (tab_below pow10G (tab_lt pow10G HT.out) HT.out B3a)).mono ?_; rintro e w4 ⟨rfl, hb4⟩
    have s4 := hb4.size
    have B4 : Below w.heap.size w w4 := B3a.trans (hb4.mono B3a.size)
    have bA4 := bA3a.below hb4
    have bX4 := bX3a.below hb4
    have rX4 := rX3a.below hb4
    clear bA3a bX3a rX3a
    clear B3a hb4
    obtain ⟨_, uA0_3⟩ := id bA4
    obtain ⟨_, uX0_4⟩ := id bX4
    go_wp2_with fail
    have RA : RdC w4 a0 xs := h.below B4
    have hAl : w.heap.size < w4.heap.size := bA4.1
    have hXl : w3.heap.size < w4.heap.size := bX4.1
    obtain ⟨_, uA0_5⟩ := id bA4
    obtain ⟨_, uX0_6⟩ := id bX4
    have HB := Lib.hid B4
    clear B4
    go_region_held3 (fun v => Below w4.heap.size w4 v ∧ v.cell? ⟨w.heap.size, 0, none⟩ = some (.slice a0 xs.length cap0) ∧ v.cell? ⟨w3.heap.size, 0, none⟩ = some (.slice (some A3) xs.length xs.length))
      (refine ⟨?_, ?_, ?_⟩ <;> first | assumption | (go_simp; done) | ((repeat (first | assumption | exact Below.refl _ _ | refine Below.drew ?_ | refine below_drewN ?_ _ | refine Below.alloc ?_ (by first | omega | (simp; done) | (simp; omega)) _ | refine bchain ?_ (by assumption) (by first | omega | (simp; done) | (simp; omega)))); done))
      (first | (go_at_call 7; refine (toPuzzle_some a0 cap0 xs _ (RA.below (by (repeat (first | assumption | exact Below.refl _ _ | refine Below.drew ?_ | refine below_drewN ?_ _ | refine Below.alloc ?_ (by first | omega | (simp; done) | (simp; omega)) _ | refine bchain ?_ (by assumption) (by first | omega | (simp; done) | (simp; omega)))))) hx).mono ?_; rintro e w6 ⟨A6, rfl, hO6, hb6⟩; have hs6 := hb6.size; (try simp only [World.size_alloc, World.size_drew] at hs6); have hcA6 := fun o => (bcell hb6).1 w.heap.size o (by first | omega | (simp; done) | (simp; omega)); have hcX6 := fun o => (bcell hb6).1 w3.heap.size o (by first | omega | (simp; done) | (simp; omega))) | (go_at_call 9; refine (eqPuzzle_eq _ _ _ _ xs _ (rX4.rd.below (by (repeat (first | assumption | exact Below.refl _ _ | refine Below.drew ?_ | refine below_drewN ?_ _ | refine Below.alloc ?_ (by first | omega | (simp; done) | (simp; omega)) _ | refine bchain ?_ (by assumption) (by first | omega | (simp; done) | (simp; omega)))))) (hO6.rd.below (by (repeat (first | assumption | exact Below.refl _ _ | refine Below.drew ?_ | refine below_drewN ?_ _ | refine Below.alloc ?_ (by first | omega | (simp; done) | (simp; omega)) _ | refine bchain ?_ (by assumption) (by first | omega | (simp; done) | (simp; omega)))))) hx).mono ?_; rintro e w6b ⟨rfl, hb6b⟩; have hs6b := hb6b.size; (try simp only [World.size_alloc, World.size_drew] at hs6b); have hcA6b := fun o => (bcell hb6b).1 w.heap.size o (by first | omega | (simp; done) | (simp; omega)); have hcX6b := fun o => (bcell hb6b).1 w3.heap.size o (by first | omega | (simp; done) | (simp; omega))))
    all_goals
      rename_i hSS
      have hb7 := hSS.1
      have s7 := hb7.size
      have B7 := HB.out.trans (hb7.mono HB.out.size)
      clear hcA6 hcX6 hcA6b hcX6b hb6 hb6b hO6
      clear RA uA0_5 uX0_6
      have bA7 := bA4.below hb7
      have bX7 := bX4.below hb7
      have rX7 := rX4.below hb7
      clear bA4 bX4 rX4
      clear hSS hb7
      go_wp2_with fail
      go_ret
      exact ⟨rfl, B7⟩
set_option maxRecDepth 100000 in
/-- What the walk gives, for every argument and every world that holds the tables. -/
theorem contract (H : Type) (enc : TypeId × Value → H) (W : World) (base : Nat) (args : Array Value) (ds gs : List (DataW H)) (before : List MemPlace)
    (hval : ∀ (j : Nat) t v, Tryd.f3.params[j]? = some t → args[j]? = some v → Value.okWide Tryd.prog W .any base t v)
    (hW : DataW.Whole enc Tryd.prog Tryd.f3.params.toList Rows.fnExactPuzzleTextSpec.vars false W args.toList ds gs before) (hL : laidMetH Tryd.prog Rows.fnExactPuzzleTextRow.laid W) :
    Calls Tryd.prog 3 args W fun e W' => ∃ v, e = .returned v ∧ Rows.fnExactPuzzleTextSpec.post enc Tryd.prog Tryd.f3 false true false false W args v W' := by
  have hW' := hW
  obtain ⟨p, q, hA0, hV, rfl, hfz, hnd⟩ := hW
  have hA : DataW.TrodAll enc Tryd.prog W 0 (fun _ => true) true Tryd.f3.params.toList args.toList ds p := hA0
  rw [Tryd.params3] at hA hval
  obtain ⟨v0, vs0, d0, ds0, p0, q0, hargs, rfl, rfl, h0, r0⟩ := trodAll_cons hA
  obtain ⟨rfl, rfl, rfl⟩ := trodAll_nil r0
  obtain rfl : args = #[v0] := by cases args; simp_all
  obtain ⟨rfl, rfl⟩ := trodVars_none hV
  have k0 := h0
  have lt0 : ∀ x ∈ p0, x.block < W.heap.size := by obtain ⟨m, hm⟩ := k0; exact DataW.trod_lt m _ _ _ hm
  obtain ⟨c0, y0, m0, rfl, rfl, rfl, hy0⟩ := open_agg1 Tryd.underlying24 rfl (by kernel_rfl) cellsPuzzle (hval 0 24 v0 rfl rfl) h0
  obtain ⟨b0, cap0, xs0, E0, R0, M0⟩ := open_triples_val Tryd.underlying22 Tryd.underlying54 (by kernel_rfl) rfl rfl rfl (by kernel_rfl) (by kernel_rfl) (by kernel_rfl) Tryd.underlying3 Tryd.underlying3 Tryd.underlying3 hy0
  subst E0
  clear hA0
  refine (walk b0 cap0 xs0 W R0 M0 (table hL)).mono fun e W' ⟨he, bel⟩ => ?_
  subst he
  exact ⟨_, rfl, _, _, _, [], _, [], hW', trodAll_mk1 (shut_bool Tryd.underlying4 _), (trodAll_cons_mk (Below.trod laidOut (by kernel_rfl) (of_decide_eq_true (by kernel_rfl)) k0 bel lt0) trodAll_mk0), rfl, bel.frame _, fun h => by cases h⟩
def vals : DataW Unit → Array Value
  | .agg l => (l.map fun | .lit (.int k n) => Value.int k n | _ => undef).toArray
  | _ => #[]
def lay (vs : Array Value) : Obj → Obj
  | .cells _ t frozen => .cells vs t frozen
  | o => o
/-- A world for the witness: the settled one, the three tables holding what their initialisers lay. -/
noncomputable def laidWorld (os : Os) : World :=
  { World.holding Tryd.prog os ⟨#[], #[], []⟩ with heap := (((World.holding Tryd.prog os ⟨#[], #[], []⟩).heap.modify 5 (lay (vals Rows.laid_internal_strconv_uint64pow10))).modify 6 (lay (vals Rows.laid_math_bits_deBruijn32tab))).modify 7 (lay (vals Rows.laid_math_bits_deBruijn64tab)) }
theorem laid_met (os : Os) : laidMet Tryd.prog Rows.fnExactPuzzleTextRow.laid ((laidWorld os).forCall (fun _ _ => 0) ⟨#[], #[.agg #[.slice none 0 0]], []⟩).memory :=
  laidMet_of_run' 8 (by kernel_rfl) (by kernel_rfl)
theorem reads (os : Os) {H : Type} (enc : TypeId × Value → H) : ∃ places, DataW.whole enc Tryd.prog ((laidWorld os).forCall (fun _ _ => 0) ⟨#[], #[.agg #[.slice none 0 0]], []⟩).memory Tryd.f3.params.toList Rows.fnExactPuzzleTextSpec.vars false #[Value.agg #[.slice none 0 0]].toList 8 = some ([.agg [.nil]], [], places) :=
  ⟨[], by kernel_rfl⟩
set_option maxRecDepth 100000 in
theorem lifted (os : Os) (started : os.Started) (H : Type) (enc : TypeId × Value → H) (F : Stop.Interp) :
    ReturnsInHanded {} Tryd.checked os 3 .any ((OpenSpec.ofChange Rows.fnExactPuzzleTextSpec).preRow enc Tryd.prog Tryd.f3 Rows.fnExactPuzzleTextRow.domain false Rows.fnExactPuzzleTextRow.laid) (((OpenSpec.ofChange Rows.fnExactPuzzleTextSpec).at F).post enc Tryd.prog Tryd.f3 false true false false) := by
  obtain ⟨places, hx⟩ := reads os enc
  refine returnsInHanded_of_row (C := Tryd.checked) (s := OpenSpec.ofChange Rows.fnExactPuzzleTextSpec) own started (by kernel_rfl) Tryd.func3
    (witness_row_at (enc := enc) (C := Tryd.checked) false (laidWorld os) #[.agg #[.slice none 0 0]] rfl (by kernel_rfl) (by kernel_rfl) (by kernel_rfl)
      (OpenSpec.preRow_of_cond 8 hx (by kernel_rfl) (fun k hk => by cases hk) (by kernel_rfl) (laid_met os))) ?_
  intro W base args ds gs before hval hW _ _ _ hL _ _
  exact contract H enc W base args ds gs before hval hW hL
theorem said : Rows.FnExactPuzzleTextSaid :=
  OpenClaim.holds_of_cond 3 Tryd.f3 rfl rfl rfl rfl rfl rfl rfl ⟨rfl, rfl, rfl, rfl, rfl⟩ rfl rfl rfl rfl rfl (by kernel_rfl) Tryd.func3 (by kernel_rfl)
    (of_decide_eq_true (by kernel_rfl)) (by unfold Func.isWrapper; first | (rw [if_pos (by decide +kernel)]; kernel_rfl) | (rw [if_neg (by decide +kernel)]; exact ⟨rfl, rfl⟩))
    (fun os started H enc _ F => by rw [OpenClaim.pre_eq_preRow]; exact lifted os started H enc F)
theorem plain (f : FuncId) (fn : Func) (hf : Tryd.pinned.checked.prog.funcNamed Rows.fnExactPuzzleTextRow.func = some f) (hfn : Tryd.pinned.checked.prog.funcs[f]? = some fn) :
    true = Tryd.pinned.checked.prog.looks [] ∧ ∀ (j : Nat) t, fn.params[j]? = some t → Tryd.pinned.checked.prog.wantsStandIn t = false := by
  obtain rfl : f = 3 := Option.some.inj ((show Tryd.prog.funcNamed Rows.fnExactPuzzleTextRow.func = some 3 by kernel_rfl).symm.trans hf) |>.symm
  obtain rfl : fn = Tryd.f3 := (Option.some.inj (Tryd.func3.symm.trans hfn)).symm
  refine ⟨by kernel_rfl, fun j t ht => ?_⟩
  rw [Tryd.params3] at ht
  obtain rfl : t = 24 := by simpa using Array.mem_of_getElem? ht
  exact (show Tryd.prog.wantsStandIn 24 = false by kernel_rfl)
/-- The card, as it is given. -/
theorem fnExactPuzzleText_holds : Rows.FnExactPuzzleTextCardSaid :=
  Claim7.holds_tied_plain_at .later [] _ _ _ _ said (fun _ h => by cases h) (by kernel_rfl) (fun _ h => by cases h) fnExactPuzzleText_row_tie rfl ⟨rfl, rfl⟩ (by kernel_rfl) rfl plain (by kernel_rfl)
end fnExactPuzzleText
end Go.Proofs.YtpmnnfojmnmohaaDoor
