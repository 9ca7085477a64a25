/- TimesOfLegs: the program, by contracts: a row of rows that is filled. -/
import Derived.Test.YtlfjgggidoakaaaLegA
import Derived.Test.YtlfjgggidoakaaaLegTimes
import Derived.Test.YtlfjgggidoakaaaRowsX
import Derived.WalkKit
import Derived.WalkSpells
import Derived.WalkLawsBesides
import Derived.Lib.Hide
import Derived.Deep.LoopGhost
import Derived.Deep.QuietTactic
import Derived.Deep.RegionWith
import Derived.Deep.RegionHeld3
import Derived.BigQuiet
namespace Go.Proofs.Ytlfjgggidoakaaa
open Go.RowKit
set_option linter.unusedVariables false
set_option linter.unusedSimpArgs false
/-- the first j slices of ks stand in the row of n at block g -/
def MadeX (w : World) (base g n j : Nat) (β : Nat → Nat) (ks : List (List Int)) : Prop :=
  ∃ ys, w.ownsRow base 34 1 (.slice (some ⟨g, 0, none⟩) n n) n ys ∧ (∀ i, i < j → ys[i]? = some (.slice (some ⟨β i, 0, none⟩) (ks.getD i []).length (ks.getD i []).length)) ∧ (∀ i, i < j → Own w base (some ⟨β i, 0, none⟩) (ks.getD i []).length (ks.getD i [])) ∧ ∀ i k, i < k → k < j → β i < β k
theorem MadeX.below {w w' : World} {base g n j : Nat} {β : Nat → Nat} {ks : List (List Int)} (h : MadeX w base g n j β ks) (hb : Below w.heap.size w w') : MadeX w' base g n j β ks := by
  obtain ⟨ys, h1, h2, h3, h4⟩ := h
  exact ⟨ys, rowB h1 hb, h2, fun i hi => (h3 i hi).below hb, h4⟩
theorem MadeX.lt {w : World} {base g n j : Nat} {β : Nat → Nat} {ks : List (List Int)} (h : MadeX w base g n j β ks) {i : Nat} (hi : i < j) : β i < w.heap.size := by
  obtain ⟨ys, h1, h2, h3, h4⟩ := h
  have h5 := h3 i hi
  unfold Own at h5
  exact (h5.lt (β i) rfl).2
theorem MadeX.at {w : World} {base g n j : Nat} {β : Nat → Nat} {ks : List (List Int)} (h : MadeX w base g n j β ks) {i : Nat} (hi : i < n) : (∃ v, w.cell? ⟨g, i, none⟩ = some v) ∧ w.frozen? ⟨g, i, none⟩ = false ∧ g < w.heap.size ∧ base ≤ g := by
  obtain ⟨ys, h1, h2, h3, h4⟩ := h
  have hl : ys.length = n * 1 := h1.1
  have c := h1.cellAt i (by omega)
  rw [List.getElem?_eq_getElem (by omega)] at c
  exact ⟨⟨_, c⟩, h1.frozenAt i, (h1.lt g rfl).2, (h1.lt g rfl).1⟩
theorem MadeX.step {w W : World} {base g n j B : Nat} {β : Nat → Nat} {ks : List (List Int)} (h : MadeX w base g n j β ks) (hW : Below w.heap.size w W) (hB : w.heap.size ≤ B) (hj : j < n)
    (hN : Own W base (some ⟨B, 0, none⟩) (ks.getD j []).length (ks.getD j [])) :
    MadeX (W.setCell ⟨g, j, none⟩ (.slice (some ⟨B, 0, none⟩) (ks.getD j []).length (ks.getD j []).length)) base g n (j + 1) (fun i => if i = j then B else β i) ks := by
  have hW' := h.below hW
  have hlt := fun i (hi : i < j) => h.lt hi
  obtain ⟨ys, h1, h2, h3, h4⟩ := hW'
  have hl : ys.length = n * 1 := h1.1
  obtain ⟨s1, s2⟩ := h1.stored j (.slice (some ⟨B, 0, none⟩) (ks.getD j []).length (ks.getD j []).length)
  refine ⟨_, s1, fun i hi => ?_, fun i hi => ?_, fun i k hik hk => ?_⟩
  · by_cases q : i = j
    · subst q
      rw [List.getElem?_set_self (by omega)]
      simp only [if_true]
    · rw [List.getElem?_set_ne (by omega)]
      simp only [if_neg q]
      exact h2 i (by omega)
  · by_cases q : i = j
    · subst q
      simp only [if_true]
      unfold Own at hN ⊢
      exact World.ownsRow.kept hN s2 (own_neX hN h1 int_ne_slice)
    · simp only [if_neg q]
      have hi' := h3 i (by omega)
      unfold Own at hi' ⊢
      exact World.ownsRow.kept hi' s2 (own_neX hi' h1 int_ne_slice)
  · simp only [if_neg (show ¬ i = j by omega)]
    by_cases q : k = j
    · rw [if_pos q]
      exact Nat.lt_of_lt_of_le (hlt i (by omega)) hB
    · rw [if_neg q]
      exact h4 i k hik (by omega)
theorem MadeX.own {w : World} {base g n : Nat} {β : Nat → Nat} {ks : List (List Int)} (h : MadeX w base g n n β ks) (hn : ks.length = n) : OwnSS w base (some ⟨g, 0, none⟩) n ks := by
  obtain ⟨ys, h1, h2, h3, h4⟩ := h
  have hl : ys.length = n * 1 := h1.1
  have e : ys = valsX β ks n := by
    apply List.ext_getElem?
    intro i
    by_cases q : i < n
    · rw [h2 i q, valsX_get q]
    · rw [List.getElem?_eq_none (by omega), List.getElem?_eq_none (by unfold valsX; simp; omega)]
  subst e
  exact RowsX.own (j := n) (β := β) ⟨h1, h3, h4⟩ hn
set_option maxHeartbeats 4000000 in
set_option maxRecDepth 100000 in
theorem implTimesOfLegs (a : Option Addr) (cap : Nat) (xs : List (Int × Int)) (w : World) (h : RdP w a xs) (hn : xs.length ≤ 1048576) (hcap : xs.length ≤ cap) :
    Calls Try.prog 10 #[.slice a xs.length cap] w (RetSS w (tmR xs) (lgS xs)) := by
  cases hs : lgS xs
  · have HR := Lib.hid (show tmR xs = [] by unfold tmR; rw [hs]; rfl)
    have HS := Lib.hid hs
    clear hs
    rw [HR.out]
    go_enter Try.func10, Try.ntmps10
    go_wp2_with (first | (go_at_call 30; refine (implAreLegs a cap xs _ h hn).mono ?_; rw [HS.out]; rintro e w1 ⟨rfl, hb⟩))
    go_ret2
    exact retSS_none hb rfl
  · obtain ⟨i0, hi, hz0, hz1, hz2⟩ := info_parts sliceInfoX
    have t := lgS_at hs
    have HR := Lib.hid (show tmR xs = tmL xs by unfold tmR; rw [hs]; rfl)
    have HS := Lib.hid hs
    have hl := t.2.1
    have HT := Lib.hid t.2.2
    have HK := Lib.hid (tmL_length xs)
    have HKA := Lib.hid (fun j (hj : j < xs.length) => tmL_at hj)
    clear hs t
    rw [HR.out]
    obtain ⟨ks, hks⟩ : ∃ ks, ks = tmL xs := ⟨_, rfl⟩
    rw [← hks] at HK HKA ⊢
    clear hks
    have hlI : (xs.length : Int) ≤ 5 := by omega
    go_enter Try.func10, Try.ntmps10
    go_wp2_with (first | (go_at_call 30; refine (implAreLegs a cap xs _ h hn).mono ?_; rw [HS.out]; rintro e w1 ⟨rfl, hb⟩))
    refine (sumOver_any 32 #[] _).mono ?_; rintro e w2 ⟨rfl, hb2, hz2', hk2⟩
    have B2 := Lib.hid (hb.trans (hb2.mono hb.size))
    have zb := hb.size
    clear hb hb2
    obtain ⟨w3, hrun, hown0, hgr0⟩ := run_make_full (P := Try.prog) w2 w2.heap.size 24 34 i0 (.slice none 0 0) 1 Try.underlying24 hi hz0 hz1 .i64 .i64 xs.length (by rw [hz2]; omega) (by unfold maxLen; omega) (Nat.le_refl _)
    have hbel0 : Below w2.heap.size w2 w3 := (Below.refl _ _).grown hgr0 (Nat.le_refl _) (fun k hk => by cases hk)
    have B3 := Lib.hid (B2.out.trans (hbel0.mono B2.out.size))
    have k3 : w3.cell? ⟨w1.heap.size, 0, none⟩ = some (.func (.func 32) #[] #[]) := by rw [(bcell hbel0).1 _ _ hz2']; exact hk2
    have M0 : MadeX w3 w.heap.size w2.heap.size xs.length 0 (fun _ => 0) ks := ⟨_, row_base hown0 B2.out.size, fun i hi => absurd hi (Nat.not_lt_zero _), fun i hi => absurd hi (Nat.not_lt_zero _), fun i k _ hk => absurd hk (Nat.not_lt_zero _)⟩
    have z3 := hbel0.size
    clear hgr0 hown0 hbel0
    go_wp2_with fail
    clear hrun
    have h0 := Lib.hid h
    clear h
    go_loopg [17] xs.length (fun f vc wr => ∃ (j : Nat) (β : Nat → Nat), vc = .int .i64 (j : Int) ∧ j + f ≤ xs.length ∧ xs.length ≤ j + f ∧ MadeX wr w.heap.size w2.heap.size xs.length j β ks ∧ wr.cell? ⟨w1.heap.size, 0, none⟩ = some (.func (.func 32) #[] #[]) ∧ w2.heap.size ≤ wr.heap.size ∧ Below w.heap.size w wr)
    case atStart => exact ⟨0, fun _ => 0, rfl, by omega, by omega, M0, k3, z3, B3.out⟩
    case round =>
      clear M0 k3
      obtain ⟨j, β, rfl, g1, g2, hX, hkf, hz, hbel⟩ := hrel
      have hsz := hbel.size
      by_cases hj : j < xs.length
      · have hjI : (j : Int) < (xs.length : Int) := by omega
        have wj : IntKind.i64.wrap ((j : Int) + 1) = (j : Int) + 1 := IntWalk.i64_in _ (by omega)
        have ej : ((j : Int) + 1).toNat = j + 1 := by omega
        have hjc2 : j + 1 ≤ cap := by omega
        have HQ := Lib.hid (fun (B cp : Nat) (h1) (h2) => sumTk_any (j + 1) B a cp xs wr (h0.out.below hbel) hl (by omega) HT.out h1 h2)
        have HA := Lib.hid (HKA.out j hj)
        have HX := Lib.hid hX
        have HB := Lib.hid hbel
        clear hX hbel
        generalize (lgT xs (j + 1)).1 = p at *
        generalize (lgT xs (j + 1)).2 = q at *
        go_wp2_with fail
        refine (HQ.out _ _ hkf (by omega)).mono ?_; rintro e w4 ⟨rfl, hb⟩
        have HB1 := Lib.hid hb
        have hs1 := hb.size
        have hbA : Below w4.heap.size w4 ((w4.alloc (.cells #[.int .i64 p, .int .i64 q] 54)).alloc (.cells #[.int .i64 p, .int .i64 q] 3)) := ((Below.refl _ _).alloc (Nat.le_refl _) _).alloc (by simp) _
        have hN : Own ((w4.alloc (.cells #[.int .i64 p, .int .i64 q] 54)).alloc (.cells #[.int .i64 p, .int .i64 q] 3)) w.heap.size (some ⟨w4.heap.size + 1, 0, none⟩) 2 [p, q] := by
          have := own_twoX (w4.alloc (.cells #[.int .i64 p, .int .i64 q] 54)) (base := w.heap.size) (by simp; omega) p q
          simpa using this
        have hX5 := MadeX.step (B := w4.heap.size + 1) HX.out (HB1.out.trans (hbA.mono hs1)) (by omega) hj (by rw [HA.out]; exact hN)
        rw [HA.out] at hX5
        obtain ⟨⟨v0, hv0⟩, hf0, hg0, hg1⟩ := (HX.out.below (HB1.out.trans (hbA.mono hs1))).at hj
        have hkf5 : (((w4.alloc (.cells #[.int .i64 p, .int .i64 q] 54)).alloc (.cells #[.int .i64 p, .int .i64 q] 3)).setCell ⟨w2.heap.size, j, none⟩ (.slice (some ⟨w4.heap.size + 1, 0, none⟩) 2 2)).cell? ⟨w1.heap.size, 0, none⟩ = some (.func (.func 32) #[] #[]) := by
          rw [World.cell?_setCell_other _ _ _ _ (by intro e'; simp only [Addr.mk.injEq] at e'; omega), (bcell hbA).1 _ _ (by omega), (bcell hb).1 _ _ (by omega)]; exact hkf
        have HX5 := Lib.hid hX5
        have HK5 := Lib.hid hkf5
        have HB5 := Lib.hid ((HB.out.trans ((HB1.out.trans (hbA.mono hs1)).mono hsz)).setCell (p := ⟨w2.heap.size, j, none⟩) (by show w.heap.size ≤ w2.heap.size; omega) (.slice (some ⟨w4.heap.size + 1, 0, none⟩) 2 2))
        clear hX5 hkf5 hN hbA hb
        go_wp2_with fail
        go_roundg (gk - 1)
        case rel => exact ⟨j + 1, _, by go_num, by omega, by omega, HX5.out, HK5.out, by simp; omega, HB5.out⟩
        case measure => omega
      · obtain rfl : j = xs.length := by omega
        have HF := Lib.hid (hX.own HK.out)
        have HB := Lib.hid hbel
        clear hX hbel
        go_wp2_with fail
        go_ret2
        exact ⟨_, _, by rw [HK.out]; rfl, HF.out, HB.out⟩
end Go.Proofs.Ytlfjgggidoakaaa
