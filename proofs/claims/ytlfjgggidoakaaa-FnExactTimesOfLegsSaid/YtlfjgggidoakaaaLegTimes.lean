/- The times at the ends of the legs: the model's function by contracts. -/
import Derived.Test.YtlfjgggidoakaaaLegList
import Derived.Test.YtlfjgggidoakaaaRowsX
import Derived.WalkKit
import Derived.WalkSpells
import Derived.WalkLawsBesides
import Derived.Lib.Hide
import Derived.Deep.LoopGhost
import Derived.Deep.QuietTactic
import Derived.Deep.RegionHeld3
import Derived.BigQuiet
namespace Go.Proofs.Ytlfjgggidoakaaa
open Go.RowKit
set_option linter.unusedVariables false
set_option linter.unusedSimpArgs false
/-- the times -/
def tmL (xs : List (Int × Int)) : List (List Int) := (List.range xs.length).map fun i => [(lgT xs (i + 1)).1, (lgT xs (i + 1)).2]
theorem tmL_length (xs : List (Int × Int)) : (tmL xs).length = xs.length := by simp [tmL]
theorem tmL_at {xs : List (Int × Int)} {j : Nat} (h : j < xs.length) : (tmL xs).getD j [] = [(lgT xs (j + 1)).1, (lgT xs (j + 1)).2] := by
  simp [tmL, List.getD, h]
def tmR (xs : List (Int × Int)) : List (List Int) := if lgS xs then tmL xs else []
theorem tmR_len (xs : List (Int × Int)) : (tmR xs).length ≤ 5 := by
  unfold tmR
  split
  · rename_i h
    have := lgS_at h
    rw [tmL_length]; omega
  · simp
/-- what a function of ([][]int, bool) answers -/
def RetSS (w : World) (ks : List (List Int)) (ok : Bool) (e : Ending) (w' : World) : Prop :=
  ∃ (a : Option Addr) (cap : Nat), e = .returned (.tuple #[.slice a ks.length cap, .bool ok]) ∧ OwnSS w' w.heap.size a cap ks ∧ Below w.heap.size w w'
theorem retSS_none {w w' : World} (hb : Below w.heap.size w w') {e : Ending} (he : e = .returned (.tuple #[.slice none 0 0, .bool false])) : RetSS w [] false e w' :=
  ⟨none, 0, he, (RowsX.nil w' w.heap.size (fun _ => 0) []).own rfl, hb⟩
set_option maxHeartbeats 4000000 in
theorem specTimesOfLegs (a : Option Addr) (cap : Nat) (xs : List (Int × Int)) (w : World) (h : RdP w a xs) (hn : xs.length ≤ 1048576) (hcap : xs.length ≤ cap) :
    Calls Try.prog 8 #[.slice a xs.length cap] w (RetSS w (tmR xs) (lgS xs)) := by
  obtain ⟨i0, hi, hz0, hz1, hz2⟩ := info_parts sliceInfoX
  cases hs : lgS xs
  · have HR := Lib.hid (show tmR xs = [] by unfold tmR; rw [hs]; rfl)
    have HS := Lib.hid hs
    clear hs
    rw [HR.out]
    go_enter Try.func8, Try.ntmps8
    go_wp2_with (first | (go_at_call 27; refine (reGood_any a cap xs _ h hn).mono ?_; rw [HS.out]; rintro e w1 ⟨rfl, hb⟩))
    go_ret2
    exact retSS_none hb rfl
  · have t := lgS_at hs
    have HR := Lib.hid (show tmR xs = tmL xs by unfold tmR; rw [hs]; rfl)
    have HS := Lib.hid hs
    have hl := t.2.1
    have HT := Lib.hid t.2.2
    have HK := Lib.hid (tmL_length xs)
    have HKA := Lib.hid (fun j (hj : j < xs.length) => tmL_at hj)
    clear hs t
    rw [HR.out]
    obtain ⟨ks, hks⟩ : ∃ ks, ks = tmL xs := ⟨_, rfl⟩
    rw [← hks] at HK HKA ⊢
    clear hks
    go_enter Try.func8, Try.ntmps8
    go_wp2_with (first | (go_at_call 27; refine (reGood_any a cap xs _ h hn).mono ?_; rw [HS.out]; rintro e w1 ⟨rfl, hb⟩))
    have h0 := Lib.hid h
    clear h
    go_loopg [4, 13] xs.length (fun f vk vc wr => ∃ (j : Nat) (ao : Option Addr) (co : Nat) (β : Nat → Nat), vk = .slice ao j co ∧ vc = .int .i64 (j : Int) ∧ j + f ≤ xs.length ∧ xs.length ≤ j + f ∧ RowsX wr w.heap.size ao co j β ks ∧ Below w.heap.size w wr)
    case atStart => exact ⟨0, none, 0, fun _ => 0, rfl, rfl, by omega, by omega, RowsX.nil _ _ _ _, hb⟩
    case round =>
      clear hb
      obtain ⟨j, ao, co, β, rfl, rfl, g1, g2, hX, hbel⟩ := hrel
      have hsz := hbel.size
      by_cases hj : j < xs.length
      · have hjI : (j : Int) < (xs.length : Int) := by omega
        have el := len_take (xs := xs) (n := j + 1) (by omega)
        have HTk := reTime_any a cap (xs.take (j + 1)) wr (RdP_take (h0.out.below hbel) (j + 1)) (by omega) (ok_take HT.out (j + 1))
        rw [el, lgT_take xs (j + 1) (j + 1) (Nat.le_refl _)] at HTk
        have HQ := Lib.hid HTk
        have HA := Lib.hid (HKA.out j hj)
        have HX := Lib.hid hX
        have HB := Lib.hid hbel
        clear HTk el hX hbel
        generalize (lgT xs (j + 1)).1 = p at *
        generalize (lgT xs (j + 1)).2 = q at *
        go_wp2_with fail
        refine HQ.out.mono ?_; rintro e w1 ⟨rfl, hb⟩
        have HB1 := Lib.hid hb
        have hs1 := hb.size
        have HO := Lib.hid (HX.out.below hb).1
        clear hb
        go_wp2_with (first | (at_builtin; refine wpList_append_own _ rfl _ _ 24 rfl w.heap.size 34 i0 (.slice none 0 0) 1 24 Try.underlying24 hi hz0 hz1 hz2 rfl (by decide) _ _ _ rfl ((HO.out.alloc _).alloc _) ⟨w1.heap.size + 1, 0, none⟩ 1 1 [.slice (some ⟨w1.heap.size, 0, none⟩) 2 2] rfl rfl (cell_one_newX _ _ _ _) (fun u hu => by simp at hu; subst hu; rfl) (by unfold maxLen; omega) (by omega) (by simp; omega) ?_; intro v1 w3 hO3 hgrow hx; clear hx; have HG3 := Lib.hid hgrow; have HO3 := Lib.hid hO3; clear hgrow hO3))
        obtain ⟨a3, c3, rfl⟩ := row_formX HO3.out
        have hbA : Below w1.heap.size w1 ((w1.alloc (.cells #[.int .i64 p, .int .i64 q] 3)).alloc (.cells #[.slice (some ⟨w1.heap.size, 0, none⟩) 2 2] 34)) := ((Below.refl _ _).alloc (Nat.le_refl _) _).alloc (by simp) _
        have hN := own_twoX w1 (base := w.heap.size) (by omega) p q
        have hX3 := RowsX.grown (β := β) (ks := ks) HX.out (B := w1.heap.size) (HB1.out.trans (hbA.mono hs1)) hs1 (by rw [HA.out]; exact hN.below ((Below.refl _ _).alloc (Nat.le_refl _) _)) HG3.out (by rw [HA.out]; exact HO3.out)
        have hB3 := (HB.out.trans ((HB1.out.trans (hbA.mono hs1)).mono hsz)).grown HG3.out (by simp; omega) (fun k hk => (HO.out.lt k hk).1)
        go_roundg (gk - 1)
        case rel => exact ⟨j + 1, a3, c3, _, rfl, by go_num, by omega, by omega, hX3, hB3⟩
        case measure => omega
      · obtain rfl : j = xs.length := by omega
        have HF := Lib.hid (hX.own HK.out)
        have HB := Lib.hid hbel
        clear hX hbel
        go_wp2_with fail
        go_ret2
        exact ⟨ao, co, by rw [HK.out]; rfl, HF.out, HB.out⟩
end Go.Proofs.Ytlfjgggidoakaaa
