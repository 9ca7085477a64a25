/- FitsSiding by contracts, the program's side. -/
import Derived.Test.YtolgpjlliaoneaaTrnList
import Derived.Test.YtolgpjlliaoneaaTrnImpl
import Derived.Test.YtolgpjlliaoneaaAreAllT
import Derived.WalkKit
import Derived.WalkSpells
import Derived.WalkLawsBesides
import Derived.Lib.Hide
import Derived.Deep.LoopGhost
import Derived.Deep.QuietTactic
import Derived.Deep.RegionHeld3
import Derived.BigQuiet
namespace Go.Proofs.Ytolgpjlliaoneaa
open Go.RowKit
set_option linter.unusedVariables false
set_option linter.unusedSimpArgs false
set_option maxHeartbeats 1000000 in
theorem areSiding_any (a : Option Addr) (cap : Nat) (xs : List (Int × Int)) (w : World) (h : RdP w a xs) (hn : xs.length ≤ 1048576) :
    Calls Try.prog 50 #[.slice a xs.length cap] w fun e w' => e = .returned (.bool (inB (xs.length : Int) 1 12 && allT xs)) ∧ Below w.heap.size w w' := by
  go_enter Try.func50, Try.ntmps50
  go_wp2_with fail
  refine (areAllT 30 #[] tnOk a cap xs 12 _ h hn (enters_of Try.func30 (by kernel_rfl) rfl) (fun x y W _ => implIsTrain x y W)).mono ?_
  rintro e w1 ⟨rfl, hb⟩
  go_wp2_with fail
  go_ret
  exact ⟨rfl, hb⟩
theorem tnS_split (xs : List (Int × Int)) (n : Int) : tnS xs n = ((inB (xs.length : Int) 1 12 && allT xs) && wyOk n) := by
  unfold tnS; cases inB (xs.length : Int) 1 12 <;> cases allT xs <;> cases wyOk n <;> rfl
set_option maxHeartbeats 1000000 in
theorem fits1_any (l r : Int) (w : World) :
    Calls Try.prog 61 #[.agg #[.int .i64 l, .int .i64 r]] w fun e w' => e = .returned (.int .i64 l) ∧ Below w.heap.size w w' := by
  go_enter Try.func61, Try.ntmps61
  go_wp2_with fail
  go_ret
  exact ⟨rfl, (Below.refl _ _).alloc (Nat.le_refl _) _⟩
set_option maxHeartbeats 2000000 in
theorem sumT_any (a : Option Addr) (cap : Nat) (xs : List (Int × Int)) (w : World) (h : RdP w a xs) (hl : xs.length ≤ 12) (ht : ∀ i, i < xs.length → tnOk (px xs i) (py xs i) = true) :
    Calls Try.prog 60 #[.slice a xs.length cap, .func (.func 61) #[] #[]] w fun e w' => e = .returned (.int .i64 (sumL xs xs.length)) ∧ Below w.heap.size w w' := by
  have HT := Lib.hid ht
  have hbd := Lib.hid (sumL_bd ht)
  clear ht
  go_enter Try.func60, Try.ntmps60
  go_wp2_with fail
  go_loopg [5, 10] xs.length (fun k v6 v15 wr => ∃ (j : Nat) (s : Int), v6 = .int .i64 s ∧ v15 = .int .i64 (j : Int) ∧ j + k ≤ xs.length ∧ xs.length ≤ j + k ∧ Hid (sumL xs j = s) ∧ Below w.heap.size w wr)
  case atStart => exact ⟨0, 0, rfl, rfl, by omega, by omega, rfl, Below.refl _ _⟩
  case round =>
    obtain ⟨j, s, rfl, rfl, h1, h2, hsum, hbel⟩ := hrel
    by_cases hj : j < xs.length
    · rcases h with h | ⟨b, off, rfl, hlt, hc⟩
      · rw [h] at hj; exact absurd hj (Nat.not_lt_zero _)
      · have hcj : wr.cell? ⟨b, off + j * 2, none⟩ = some (.int .i64 (px xs j)) := by rw [(bcell hbel).1 b _ hlt]; exact (hc j hj).1
        have hck : wr.cell? ⟨b, off + j * 2 + 1, none⟩ = some (.int .i64 (py xs j)) := by rw [(bcell hbel).1 b _ hlt]; exact (hc j hj).2
        have hjI : (j : Int) < (xs.length : Int) := by omega
        have HBl := Lib.hid hbel
        have hsz := hbel.size
        clear hbel hc
        have bs := hbd.out j (by omega)
        have bt := tnOk_iff.1 (HT.out j hj)
        rw [hsum.out] at bs
        have hsum2 : Hid (sumL xs (j + 1) = s + px xs j) := by unfold Hid sumL; rw [hsum.out]
        clear hsum
        generalize px xs j = x at *
        generalize py xs j = y at *
        go_wp2_with (first | (go_at_call 61; refine (fits1_any x y _).mono ?_; rintro e w1 ⟨rfl, hb⟩; have hb' := Lib.hid hb; clear hb))
        go_roundg (gk - 1)
        case rel => exact ⟨j + 1, s + x, by go_num, by go_num, by omega, by omega, hsum2, bchain (HBl.out.alloc (by omega) _) hb'.out (by simp; omega)⟩
        case measure => omega
    · obtain rfl : j = xs.length := by omega
      have HBl := Lib.hid hbel
      have HF := Lib.hid hsum
      clear hbel hsum
      go_wp2_with fail
      go_ret
      rw [HF.out]
      exact ⟨rfl, HBl.out⟩
set_option maxHeartbeats 2000000 in
theorem implFitsSiding (a : Option Addr) (cap : Nat) (xs : List (Int × Int)) (n : Int) (w : World) (h : RdP w a xs) (hn : xs.length ≤ 1048576) :
    Calls Try.prog 24 #[.slice a xs.length cap, .int .i64 n] w fun e w' => e = .returned (.tuple #[.bool (tnS xs n && decide (sumL xs xs.length ≤ n)), .bool (tnS xs n)]) ∧ Below w.heap.size w w' := by
  cases ha : (inB (xs.length : Int) 1 12 && allT xs)
  · have HA := Lib.hid ha
    have HS := Lib.hid (show tnS xs n = false by rw [tnS_split, ha]; rfl)
    clear ha
    go_enter Try.func24, Try.ntmps24
    go_wp2_with (first | (go_at_call 50; refine (areSiding_any a cap xs _ h hn).mono ?_; rw [HA.out]; rintro e w1 ⟨rfl, hb⟩) | (go_at_call 31; refine (isWay_any _ _).mono ?_; rintro e w1 ⟨rfl, rfl⟩))
    go_ret2
    rw [HS.out]
    exact ⟨rfl, hb⟩
  · have HA := Lib.hid ha
    cases hw : wyOk n
    · have HS := Lib.hid (show tnS xs n = false by rw [tnS_split, hw, Bool.and_false])
      have HW := Lib.hid hw
      clear ha hw
      go_enter Try.func24, Try.ntmps24
      go_wp2_with (first | (go_at_call 50; refine (areSiding_any a cap xs _ h hn).mono ?_; rw [HA.out]; rintro e w1 ⟨rfl, hb⟩) | (go_at_call 31; refine (isWay_any _ _).mono ?_; rw [HW.out]; rintro e w2 ⟨rfl, rfl⟩))
      go_ret2
      rw [HS.out]
      exact ⟨rfl, hb⟩
    · have hs : tnS xs n = true := by rw [tnS_split, ha, hw]; rfl
      have t := tnS_at hs
      have HS := Lib.hid hs
      have HW := Lib.hid hw
      have hl := t.2.1
      have HT := Lib.hid t.2.2.2.2
      clear ha hw hs t
      go_enter Try.func24, Try.ntmps24
      go_wp2_with (first | (go_at_call 50; refine (areSiding_any a cap xs _ h hn).mono ?_; rw [HA.out]; rintro e w1 ⟨rfl, hb⟩) | (go_at_call 31; refine (isWay_any _ _).mono ?_; rw [HW.out]; rintro e w2 ⟨rfl, rfl⟩) | (go_at_call 60; refine (sumT_any a cap xs _ (h.below hb) hl HT.out).mono ?_; rintro e w3 ⟨rfl, hb3⟩))
      go_ret2
      rw [HS.out, Bool.true_and]
      exact ⟨rfl, hb.trans (hb3.mono hb.size)⟩
end Go.Proofs.Ytolgpjlliaoneaa
