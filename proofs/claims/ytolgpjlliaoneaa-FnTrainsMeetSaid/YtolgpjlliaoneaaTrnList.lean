/- Lists of trains: the model's functions by contracts, over one translation. -/
import Derived.Test.YtolgpjlliaoneaaProg
import Derived.Test.YtolgpjlliaoneaaTrnWalks
import Derived.Test.YtolgpjlliaoneaaPairsN
import Derived.Deep.LoopGhost
import Derived.WalkKit
import Derived.WalkSpells
import Derived.WalkLawsBesides
import Derived.Lib.Hide
import Derived.Deep.RegionWith
import Derived.Deep.RegionHeld3
import Derived.Deep.QuietTactic
import Derived.BigQuiet
namespace Go.Proofs.Ytolgpjlliaoneaa
open Go.RowKit
set_option linter.unusedVariables false
set_option linter.unusedSimpArgs false
/-- are they all trains, from 1 to 12, and a siding -/
def allT (xs : List (Int × Int)) : Bool := xs.all fun p => tnOk p.1 p.2
def tnS (xs : List (Int × Int)) (n : Int) : Bool := inB (xs.length : Int) 1 12 && wyOk n && allT xs
theorem allT_at {xs : List (Int × Int)} (h : allT xs = true) {i : Nat} (hi : i < xs.length) : tnOk (px xs i) (py xs i) = true := by
  unfold allT at h
  rw [List.all_eq_true] at h
  have := h xs[i] (List.getElem_mem hi)
  simpa [px, py, List.getD, List.getElem?_eq_getElem hi] using this
theorem allT_no {xs : List (Int × Int)} {i : Nat} (hi : i < xs.length) (h : tnOk (px xs i) (py xs i) = false) : allT xs = false := by
  cases hw : allT xs
  · rfl
  · rw [allT_at hw hi] at h; cases h
theorem allT_of {xs : List (Int × Int)} (h : ∀ i, i < xs.length → tnOk (px xs i) (py xs i) = true) : allT xs = true := by
  unfold allT
  rw [List.all_eq_true]
  intro p hp
  obtain ⟨i, hi, rfl⟩ := List.getElem_of_mem hp
  have := h i hi
  simpa [px, py, List.getD, List.getElem?_eq_getElem hi] using this
theorem tnS_at {xs : List (Int × Int)} {n : Int} (h : tnS xs n = true) : 1 ≤ xs.length ∧ xs.length ≤ 12 ∧ 0 ≤ n ∧ n ≤ 100000 ∧ ∀ i, i < xs.length → tnOk (px xs i) (py xs i) = true := by
  unfold tnS at h
  rw [Bool.and_eq_true, Bool.and_eq_true, inB_iff, wyOk_iff] at h
  exact ⟨by omega, by omega, by omega, by omega, fun i hi => allT_at h.2 hi⟩
/-- how long so many are together -/
def sumL (xs : List (Int × Int)) : Nat → Int
  | 0 => 0
  | j + 1 => sumL xs j + px xs j
theorem sumL_bd {xs : List (Int × Int)} (h : ∀ i, i < xs.length → tnOk (px xs i) (py xs i) = true) : ∀ j, j ≤ xs.length → 0 ≤ sumL xs j ∧ sumL xs j ≤ 1000 * (j : Int)
  | 0, _ => by simp [sumL]
  | j + 1, hj => by
    have ih := sumL_bd h j (by omega)
    have k := tnOk_iff.1 (h j (by omega))
    unfold sumL
    omega
set_option maxHeartbeats 2000000 in
theorem tiList_any (a : Option Addr) (cap : Nat) (xs : List (Int × Int)) (n : Int) (w : World) (h : RdP w a xs) (hn : xs.length ≤ 1048576) :
    Calls Try.prog 57 #[.slice a xs.length cap, .int .i64 n] w fun e w' => e = .returned (.bool (tnS xs n)) ∧ Below w.heap.size w w' := by
  have hnI : (xs.length : Int) ≤ 1048576 := by omega
  cases hb : inB (xs.length : Int) 1 12
  · have HR := Lib.hid (show tnS xs n = false by unfold tnS; rw [hb]; rfl)
    have HB := Lib.hid hb
    clear hb
    go_enter Try.func57, Try.ntmps57
    go_wp2_with (first | (go_at_call 48; refine (specIn _ _ _ _).mono ?_; rw [HB.out]; rintro e w1 ⟨rfl, rfl⟩))
    go_ret
    rw [HR.out]
    exact ⟨rfl, Below.refl _ _⟩
  cases hw : wyOk n
  · have HR := Lib.hid (show tnS xs n = false by unfold tnS; rw [hw, Bool.and_false]; rfl)
    have HB := Lib.hid hb
    have HW := Lib.hid hw
    clear hb hw
    go_enter Try.func57, Try.ntmps57
    go_wp2_with (first | (go_at_call 48; refine (specIn _ _ _ _).mono ?_; rw [HB.out]; rintro e w1 ⟨rfl, rfl⟩) | (go_at_call 35; refine (tiWay_any _ _).mono ?_; rw [HW.out]; rintro e w1 ⟨rfl, rfl⟩))
    go_ret
    rw [HR.out]
    exact ⟨rfl, Below.refl _ _⟩
  · have HB := Lib.hid hb
    have HW := Lib.hid hw
    have HR := Lib.hid (show tnS xs n = allT xs by unfold tnS; rw [hb, hw]; rfl)
    clear hb hw
    go_enter Try.func57, Try.ntmps57
    go_wp2_with (first | (go_at_call 48; refine (specIn _ _ _ _).mono ?_; rw [HB.out]; rintro e w1 ⟨rfl, rfl⟩) | (go_at_call 35; refine (tiWay_any _ _).mono ?_; rw [HW.out]; rintro e w1 ⟨rfl, rfl⟩))
    go_loopg [18] xs.length (fun k v11 wr => ∃ (j : Nat), v11 = .int .i64 (j : Int) ∧ j + k ≤ xs.length ∧ xs.length ≤ j + k ∧ Hid (∀ i, i < j → tnOk (px xs i) (py xs i) = true) ∧ Below w.heap.size w wr)
    case atStart => exact ⟨0, rfl, by omega, by omega, fun i hi => absurd hi (Nat.not_lt_zero _), Below.refl _ _⟩
    case round =>
      obtain ⟨j, rfl, h1, h2, hall, hbel⟩ := hrel
      by_cases hj : j < xs.length
      · rcases h with h | ⟨b, off, rfl, hlt, hc⟩
        · rw [h] at hj; exact absurd hj (Nat.not_lt_zero _)
        · have hcj : wr.cell? ⟨b, off + j * 2, none⟩ = some (.int .i64 (px xs j)) := by rw [(bcell hbel).1 b _ hlt]; exact (hc j hj).1
          have hck : wr.cell? ⟨b, off + j * 2 + 1, none⟩ = some (.int .i64 (py xs j)) := by rw [(bcell hbel).1 b _ hlt]; exact (hc j hj).2
          have hjI : (j : Int) < (xs.length : Int) := by omega
          have HBl := Lib.hid hbel
          have hsz := hbel.size
          clear hbel hc
          cases hw : tnOk (px xs j) (py xs j)
          · have HX := Lib.hid (HR.out.trans (allT_no hj hw))
            have HW := Lib.hid hw
            clear hw
            go_wp2_with (first | (go_at_call 65; refine (tiGood_any (px xs j) (py xs j) _).mono ?_; rw [HW.out]; rintro e w1 ⟨rfl, hb⟩))
            go_ret
            rw [HX.out]
            exact ⟨rfl, bchain (HBl.out.alloc (by omega) _) (by assumption) (by simp; omega)⟩
          · have hall2 : Hid (∀ i, i < j + 1 → tnOk (px xs i) (py xs i) = true) := fun i hi => by
              by_cases q : i = j
              · subst q; exact hw
              · exact hall.out i (by omega)
            have HW := Lib.hid hw
            clear hw
            go_wp2_with (first | (go_at_call 65; refine (tiGood_any (px xs j) (py xs j) _).mono ?_; rw [HW.out]; rintro e w1 ⟨rfl, hb⟩))
            go_roundg (gk - 1)
            case rel => exact ⟨j + 1, by go_num, by omega, by omega, hall2, bchain (HBl.out.alloc (by omega) _) (by assumption) (by simp; omega)⟩
            case measure => omega
      · have HX := Lib.hid (HR.out.trans (allT_of (fun i hi => hall.out i (by omega))))
        have HBl := Lib.hid hbel
        clear hbel
        go_wp2_with fail
        go_ret
        rw [HX.out]
        exact ⟨rfl, HBl.out⟩
set_option maxHeartbeats 2000000 in
theorem specFitsSiding (a : Option Addr) (cap : Nat) (xs : List (Int × Int)) (n : Int) (w : World) (h : RdP w a xs) (hn : xs.length ≤ 1048576) :
    Calls Try.prog 25 #[.slice a xs.length cap, .int .i64 n] w fun e w' => e = .returned (.tuple #[.bool (tnS xs n && decide (sumL xs xs.length ≤ n)), .bool (tnS xs n)]) ∧ Below w.heap.size w w' := by
  cases hs : tnS xs n
  · have HS := Lib.hid hs
    clear hs
    go_enter Try.func25, Try.ntmps25
    go_wp2_with fail
    refine (tiList_any a cap xs n _ h hn).mono ?_; rw [HS.out]; rintro e w1 ⟨rfl, hb⟩
    go_wp2_with fail
    go_ret2
    exact ⟨rfl, hb⟩
  · have t := tnS_at hs
    have HS := Lib.hid hs
    have HT := Lib.hid t.2.2.2.2
    have hl := t.2.1
    have hbd := Lib.hid (sumL_bd t.2.2.2.2)
    clear hs t
    go_enter Try.func25, Try.ntmps25
    go_wp2_with fail
    refine (tiList_any a cap xs n _ h hn).mono ?_; rw [HS.out]; rintro e w1 ⟨rfl, hb1⟩
    have h := h.below hb1
    have HB1 := Lib.hid hb1
    clear hb1
    go_wp2_with fail
    go_loopg [6, 15] xs.length (fun k v6 v15 wr => ∃ (j : Nat) (s : Int), v6 = .int .i64 s ∧ v15 = .int .i64 (j : Int) ∧ j + k ≤ xs.length ∧ xs.length ≤ j + k ∧ Hid (sumL xs j = s) ∧ Below w1.heap.size w1 wr)
    case atStart => exact ⟨0, 0, rfl, rfl, by omega, by omega, rfl, Below.refl _ _⟩
    case round =>
      obtain ⟨j, s, rfl, rfl, h1, h2, hsum, hbel⟩ := hrel
      by_cases hj : j < xs.length
      · rcases h with h | ⟨b, off, rfl, hlt, hc⟩
        · rw [h] at hj; exact absurd hj (Nat.not_lt_zero _)
        · have hcj : wr.cell? ⟨b, off + j * 2, none⟩ = some (.int .i64 (px xs j)) := by rw [(bcell hbel).1 b _ hlt]; exact (hc j hj).1
          have hck : wr.cell? ⟨b, off + j * 2 + 1, none⟩ = some (.int .i64 (py xs j)) := by rw [(bcell hbel).1 b _ hlt]; exact (hc j hj).2
          have hjI : (j : Int) < (xs.length : Int) := by omega
          have HBl := Lib.hid hbel
          have hsz := hbel.size
          clear hbel hc
          have bs := hbd.out j (by omega)
          have bt := tnOk_iff.1 (HT.out j hj)
          rw [hsum.out] at bs
          have hsum2 : Hid (sumL xs (j + 1) = s + px xs j) := by unfold Hid sumL; rw [hsum.out]
          clear hsum
          go_wp2_with fail
          go_roundg (gk - 1)
          case rel => exact ⟨j + 1, s + px xs j, by go_num, by go_num, by omega, by omega, hsum2, HBl.out.alloc (by omega) _⟩
          case measure => omega
      · obtain rfl : j = xs.length := by omega
        have HBl := Lib.hid hbel
        have HF := Lib.hid hsum
        clear hbel hsum
        go_wp2_with fail
        go_ret2
        rw [HF.out]
        exact ⟨by simp, HB1.out.trans (HBl.out.mono HB1.out.size)⟩
end Go.Proofs.Ytolgpjlliaoneaa
