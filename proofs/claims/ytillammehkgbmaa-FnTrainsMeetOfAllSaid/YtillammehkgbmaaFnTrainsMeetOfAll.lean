/- The named law of trains that meet (chapter 5) holds whatever is given: it answers true, it does not panic, and it writes into nothing that was there before the call. Conditions: none. -/
import Derived.Test.YtillammehkgbmaaRows
import Derived.Test.YtillammehkgbmaaTrnImpl
import Derived.Test.YtillammehkgbmaaTrnWalks
import Derived.Test.YtillammehkgbmaaTrnList
import Derived.Test.YtillammehkgbmaaTrnMost
import Derived.Test.YtillammehkgbmaaTrnFit
import Derived.Test.YtillammehkgbmaaTrnTake
import Derived.Test.YtillammehkgbmaaFloI
import Derived.Test.YtillammehkgbmaaQSame
import Derived.Test.YtillammehkgbmaaQIs
import Derived.Test.YtillammehkgbmaaTmMath
import Derived.Test.YtillammehkgbmaaTmFacts
import Derived.Test.YtillammehkgbmaaPairFrame
import Derived.Deep.Cut
import Derived.Deep.CutRange
import Derived.WalkKit
import Derived.ProofKit
import Derived.OpenShut
import Derived.ShutString
import Derived.ChangeOld
import Derived.Below
import Derived.Lib.SmallJoins
import Derived.Lib.Hide
namespace Go.Proofs.Ytillammehkgbmaa
open Go.ChangeShapes Go.WideShapes Go.ChangeAt Go.RowKit Go.Joins
open Go.ChangeMaps (open_string shut_string)
set_option linter.unusedVariables false
set_option linter.unusedSimpArgs false
namespace fnTrainsMeetOfAll
theorem own : ownKnob Try.prog.godebug = none := by kernel_rfl
theorem laidOut : laidOutB Try.prog = true := by kernel_rfl
theorem cells23 : Try.prog.cellsOf 23 = 2 := by kernel_rfl
/-- both trains stand in the call's own two blocks -/
def Two (u d v z : Int) (w w' : World) : Prop := Below w.heap.size w w' ∧ w.heap.size < w'.heap.size ∧ w.heap.size + 1 < w'.heap.size ∧
  w'.cell? ⟨w.heap.size, 0, none⟩ = some (.int .i64 u) ∧ w'.cell? ⟨w.heap.size, 1, none⟩ = some (.int .i64 d) ∧ w'.cell? ⟨w.heap.size + 1, 0, none⟩ = some (.int .i64 v) ∧ w'.cell? ⟨w.heap.size + 1, 1, none⟩ = some (.int .i64 z)
theorem Two.below {u d v z : Int} {w a b : World} (h : Two u d v z w a) (hb : Below a.heap.size a b) : Two u d v z w b := by
  obtain ⟨h0, h1, h2, h3, h4, h5, h6⟩ := h
  have e := fun o => (bcell hb).1 w.heap.size o h1
  have f := fun o => (bcell hb).1 (w.heap.size + 1) o h2
  have s := hb.size
  exact ⟨h0.trans (hb.mono h0.size), by omega, by omega, by rw [e]; exact h3, by rw [e]; exact h4, by rw [f]; exact h5, by rw [f]; exact h6⟩
set_option maxHeartbeats 16000000 in
set_option maxRecDepth 100000 in
theorem walk (l r m q n j e : Int) (g : Bool) (lo of lf : Int) (a0 : Option Addr) (cap0 : Nat) (xs : List (Int × Int)) (sd : Int) (w : World) (hx : ¬ (10000 : Int) < (xs.length : Int)) (hR : RdP w a0 xs)
    (A B C D I J K L H Y cnt num den : Int) (ok one three five seven nine fits : Bool) (R : List Int)
    (cMi : ∀ w : World, Calls Try.prog 5 #[.agg #[.int .i64 l, .int .i64 r], .agg #[.int .i64 m, .int .i64 q], .int .i64 n] w fun e w' => e = .returned (.tuple #[.int .i64 A, .int .i64 B, .int .i64 C, .int .i64 D, .bool ok]) ∧ Below w.heap.size w w')
    (cMs : ∀ w : World, Calls Try.prog 6 #[.agg #[.int .i64 l, .int .i64 r], .agg #[.int .i64 m, .int .i64 q], .int .i64 n] w fun e w' => e = .returned (.tuple #[.int .i64 A, .int .i64 B, .int .i64 C, .int .i64 D, .bool ok]) ∧ Below w.heap.size w w')
    (cOi : ∀ w : World, Calls Try.prog 7 #[.agg #[.int .i64 l, .int .i64 r], .agg #[.int .i64 m, .int .i64 q], .int .i64 n] w fun e w' => e = .returned (.tuple #[.int .i64 I, .int .i64 J, .int .i64 K, .int .i64 L, .bool one]) ∧ Below w.heap.size w w')
    (cOs : ∀ w : World, Calls Try.prog 8 #[.agg #[.int .i64 l, .int .i64 r], .agg #[.int .i64 m, .int .i64 q], .int .i64 n] w fun e w' => e = .returned (.tuple #[.int .i64 I, .int .i64 J, .int .i64 K, .int .i64 L, .bool one]) ∧ Below w.heap.size w w')
    (cHi : ∀ w : World, Calls Try.prog 9 #[.agg #[.int .i64 l, .int .i64 r], .agg #[.int .i64 m, .int .i64 q], .int .i64 n] w fun e w' => e = .returned (.tuple #[.int .i64 H, .int .i64 Y, .bool three]) ∧ Below w.heap.size w w')
    (cHs : ∀ w : World, Calls Try.prog 10 #[.agg #[.int .i64 l, .int .i64 r], .agg #[.int .i64 m, .int .i64 q], .int .i64 n] w fun e w' => e = .returned (.tuple #[.int .i64 H, .int .i64 Y, .bool three]) ∧ Below w.heap.size w w')
    (cCi : ∀ w : World, Calls Try.prog 14 #[.int .i64 j, .int .i64 e, .bool g] w fun e w' => e = .returned (.tuple #[.int .i64 cnt, .bool five]) ∧ Below w.heap.size w w')
    (cCs : ∀ w : World, Calls Try.prog 15 #[.int .i64 j, .int .i64 e, .bool g] w fun e w' => e = .returned (.tuple #[.int .i64 cnt, .bool five]) ∧ Below w.heap.size w w')
    (cAi : ∀ w : World, Calls Try.prog 16 #[.int .i64 lo, .int .i64 of, .int .i64 lf] w fun e w' => e = .returned (.tuple #[.int .i64 num, .int .i64 den, .bool seven]) ∧ Below w.heap.size w w')
    (cAs : ∀ w : World, Calls Try.prog 17 #[.int .i64 lo, .int .i64 of, .int .i64 lf] w fun e w' => e = .returned (.tuple #[.int .i64 num, .int .i64 den, .bool seven]) ∧ Below w.heap.size w w')
    (cSi : ∀ w, RdP w a0 xs → Calls Try.prog 18 #[.slice a0 xs.length cap0, .int .i64 sd] w (RetS w R nine))
    (cSs : ∀ w, RdP w a0 xs → Calls Try.prog 19 #[.slice a0 xs.length cap0, .int .i64 sd] w fun e w' => ∃ a2 c2, e = .returned (.tuple #[.slice a2 R.length c2, .bool nine]) ∧ Own w' w.heap.size a2 c2 R ∧ Below w.heap.size w w')
    (cFi : ∀ w, RdP w a0 xs → Calls Try.prog 20 #[.slice a0 xs.length cap0, .int .i64 sd] w fun e w' => e = .returned (.tuple #[.bool fits, .bool nine]) ∧ Below w.heap.size w w')
    (cFs : ∀ w, RdP w a0 xs → Calls Try.prog 21 #[.slice a0 xs.length cap0, .int .i64 sd] w fun e w' => e = .returned (.tuple #[.bool fits, .bool nine]) ∧ Below w.heap.size w w')
    (fF : ok = false → one = false ∧ three = false)
    (fM : ok = true → (1 ≤ r ∧ r ≤ 100 ∧ 1 ≤ q ∧ q ≤ 100 ∧ 0 ≤ n ∧ n ≤ 100000 ∧ 1 ≤ l ∧ l ≤ 1000) ∧ ∃ E F nr P1 P2 nD P3 : Int, IntKind.i64.wrap (n * r) = nr ∧ IntKind.i64.wrap (C * F) = P1 ∧ IntKind.i64.wrap (E * D) = P2 ∧ IntKind.i64.wrap (P1 + P2) = P3 ∧ IntKind.i64.wrap (n * D) = nD ∧ IntKind.i64.wrap (nD * F) = P3 ∧
      (∀ w : World, Calls Try.prog 5 #[.agg #[.int .i64 m, .int .i64 q], .agg #[.int .i64 l, .int .i64 r], .int .i64 n] w fun e w' => e = .returned (.tuple #[.int .i64 A, .int .i64 B, .int .i64 E, .int .i64 F, .bool true]) ∧ Below w.heap.size w w') ∧ (∀ w : World, Calls Try.prog 11 #[.int .i64 A, .int .i64 B, .int .i64 n, .int .i64 (r + q)] w fun e w' => e = .returned (.bool true) ∧ Below w.heap.size w w') ∧ (∀ w : World, Calls Try.prog 11 #[.int .i64 C, .int .i64 D, .int .i64 nr, .int .i64 (r + q)] w fun e w' => e = .returned (.bool true) ∧ Below w.heap.size w w'))
    (fO1 : one = false → ok = true → r ≤ q ∧ n ≠ 0)
    (fO2 : one = true → ok = true ∧ (1 ≤ r ∧ r ≤ 100 ∧ 1 ≤ q ∧ q ≤ 100 ∧ 0 ≤ n ∧ n ≤ 100000) ∧ (q < r ∨ n = 0) ∧ (n = 0 → I = 0 ∧ J = 1 ∧ K = 0 ∧ L = 1) ∧
      (q < r → ∃ nr, IntKind.i64.wrap (n * r) = nr ∧ (∀ w : World, Calls Try.prog 11 #[.int .i64 I, .int .i64 J, .int .i64 n, .int .i64 (r - q)] w fun e w' => e = .returned (.bool true) ∧ Below w.heap.size w w') ∧ (∀ w : World, Calls Try.prog 11 #[.int .i64 K, .int .i64 L, .int .i64 nr, .int .i64 (r - q)] w fun e w' => e = .returned (.bool true) ∧ Below w.heap.size w w')))
    (fH : three = true → (1 ≤ l ∧ l ≤ 1000 ∧ 1 ≤ r ∧ r ≤ 100 ∧ 1 ≤ q ∧ q ≤ 100 ∧ 0 ≤ n ∧ n ≤ 100000) ∧ ∃ PL PT X1 X2 X3 X4 X5 X6 X7 : Int, IntKind.i64.wrap (H * PT) = X1 ∧ IntKind.i64.wrap (PL * Y) = X2 ∧ IntKind.i64.wrap (n * Y) = X3 ∧ IntKind.i64.wrap (H * r) = X4 ∧ IntKind.i64.wrap (X3 - X4) = X3 - X4 ∧ IntKind.i64.wrap (q * (X3 - X4)) = X5 ∧ IntKind.i64.wrap ((n - l) * r) = X6 ∧ IntKind.i64.wrap (X6 * Y) = X7 ∧
      ¬ X1 < X2 ∧ ¬ X7 < X5 ∧ (X2 < X1 → X5 = X7) ∧
      (∀ w : World, Calls Try.prog 12 #[.agg #[.int .i64 l, .int .i64 r]] w fun e w' => e = .returned (.tuple #[.int .i64 PL, .int .i64 PT, .bool true]) ∧ Below w.heap.size w w') ∧ (∀ w : World, Calls Try.prog 13 #[.int .i64 H, .int .i64 Y] w fun e w' => e = .returned (.bool true) ∧ Below w.heap.size w w'))
    (fC : five = true → ∃ oth lst mx my P : Int, cnt % 2 = 1 ∧ 1 ≤ cnt ∧ cnt ≤ 20001 ∧ (g = true → ¬ cnt < oth ∧ ¬ 2 < cnt - oth) ∧ (0 ≤ oth ∧ oth ≤ 20001) ∧ (∀ w : World, Calls Try.prog 14 #[.int .i64 j, .int .i64 e, .bool (!g)] w fun e w' => e = .returned (.tuple #[.int .i64 oth, .bool true]) ∧ Below w.heap.size w w') ∧ ((cnt - 1) / 2 = lst ∧ lst ≤ 10000) ∧ (∀ w : World, Calls Try.prog 16 #[.int .i64 j, .int .i64 e, .int .i64 lst] w fun e w' => e = .returned (.tuple #[.int .i64 mx, .int .i64 my, .bool true]) ∧ Below w.heap.size w w') ∧ IntKind.i64.wrap (j * my) = P ∧ ¬ P < mx ∧ (g = false → ¬ mx = P))
    (fA : seven = true → ∃ Y1 Y2 : Int, IntKind.i64.wrap (of * lf) = Y1 ∧ IntKind.i64.wrap (lo + Y1) = Y2 ∧ (∀ w : World, Calls Try.prog 11 #[.int .i64 num, .int .i64 den, .int .i64 Y2, .int .i64 2] w fun e w' => e = .returned (.bool true) ∧ Below w.heap.size w w'))
    (hRl : R.length ≤ 1000)
    (fS : nine = true → ∃ SM : Nat → Int, TmS xs R sd fits SM) :
    Calls Try.prog 3 #[.agg #[.int .i64 l, .int .i64 r], .agg #[.int .i64 m, .int .i64 q], .int .i64 n, .int .i64 j, .int .i64 e, .bool g, .int .i64 lo, .int .i64 of, .int .i64 lf, .slice a0 xs.length cap0, .int .i64 sd] w fun e w' => e = .returned (.bool true) ∧ Below w.heap.size w w' := by
  have gF := Lib.hid fF
  have gC := Lib.hid fC
  have gA := Lib.hid fA
  have gS := Lib.hid fS
  have gM := Lib.hid fM
  have gO1 := Lib.hid fO1
  have gO2 := Lib.hid fO2
  have gH := Lib.hid fH
  have gCi := Lib.hid cCi
  have gCs := Lib.hid cCs
  have gAi := Lib.hid cAi
  have gAs := Lib.hid cAs
  have gSi := Lib.hid cSi
  have gSs := Lib.hid cSs
  have gFi := Lib.hid cFi
  have gFs := Lib.hid cFs
  clear fC fA fS fF fM fO1 fO2 fH cCi cCs cAi cAs cSi cSs cFi cFs
  go_enter Try.func3, Try.ntmps3
  dsimp only [List.append]
  go_wp2_with fail
  refine (cMi _).mono ?_; rintro e w1 ⟨rfl, hb⟩
  have hz : w.heap.size < w1.heap.size ∧ w.heap.size + 1 < w1.heap.size := (by have := hb.size; (try simp at this); omega)
  have hcA := fun o => (bcell hb).1 w.heap.size o (by first | omega | (simp; omega) | (simp; done))
  have hcB := fun o => (bcell hb).1 (w.heap.size + 1) o (by first | omega | (simp; omega) | (simp; done))
  have hT : Two l r m q w w1 := by
    refine ⟨by (repeat (first | assumption | exact Below.refl _ _ | refine Below.drew ?_ | refine Below.alloc ?_ (by first | omega | (simp; done) | (simp; omega)) _ | refine bchain ?_ (by assumption) (by first | omega | (simp; done) | (simp; omega)))), by omega, by omega, ?_, ?_, ?_, ?_⟩ <;> go_simp
  clear hb hz hcA hcB
  obtain ⟨hz1, hz2, uA0, uA1, uB0, uB1⟩ := id hT.2
  go_upto_region 9 with (first | (go_at_call 6; refine (cMs _).mono ?_; rintro e w1 ⟨rfl, hb⟩; replace hT := Two.below hT hb; clear hb hz1 hz2 uA0 uA1 uB0 uB1; obtain ⟨hz1, hz2, uA0, uA1, uB0, uB1⟩ := id hT.2) | (go_at_call 7; refine (cOi _).mono ?_; rintro e w1 ⟨rfl, hb⟩; replace hT := Two.below hT hb; clear hb hz1 hz2 uA0 uA1 uB0 uB1; obtain ⟨hz1, hz2, uA0, uA1, uB0, uB1⟩ := id hT.2) | (go_at_call 8; refine (cOs _).mono ?_; rintro e w1 ⟨rfl, hb⟩; replace hT := Two.below hT hb; clear hb hz1 hz2 uA0 uA1 uB0 uB1; obtain ⟨hz1, hz2, uA0, uA1, uB0, uB1⟩ := id hT.2) | (go_at_call 9; refine (cHi _).mono ?_; rintro e w1 ⟨rfl, hb⟩; replace hT := Two.below hT hb; clear hb hz1 hz2 uA0 uA1 uB0 uB1; obtain ⟨hz1, hz2, uA0, uA1, uB0, uB1⟩ := id hT.2) | (go_at_call 10; refine (cHs _).mono ?_; rintro e w1 ⟨rfl, hb⟩; replace hT := Two.below hT hb; clear hb hz1 hz2 uA0 uA1 uB0 uB1; obtain ⟨hz1, hz2, uA0, uA1, uB0, uB1⟩ := id hT.2))
  clear cMi cMs cOi cOs cHi cHs
  go_cut [223] from 147 to 222 (fun v223 wc => v223 = .bool false ∧ wc = w1)
  case first => as_aux_lemma =>
    have hF := gF.out
    clear gC gA gS gF gM gO1 gO2 gH gCi gCs gAi gAs gSi gSs gFi gFs hT hz1 hz2 uA0 uA1 uB0 uB1 hR hx
    cases ok
    · obtain ⟨rfl, rfl⟩ := hF rfl
      go_wp2_with fail
      go_meet
      case rel => exact ⟨by first | rfl | simp, rfl⟩
    · clear hF
      cases one <;> cases three
      all_goals
        go_wp2_with fail
        go_meet
        case rel => exact ⟨by first | rfl | simp, rfl⟩
  case rest =>
    obtain ⟨rfl, hwc⟩ := hcut
    obtain rfl : w1 = wc := hwc.symm
    go_upto_if 224 with fail
    go_cut [] from 225 to 288 (fun wc => Two l r m q w wc)
    case first => as_aux_lemma =>
      cases ok
      · go_wp2_with fail
        go_meet
        case rel => exact hT
      · obtain ⟨⟨b1, b2, b3, b4, b5, b6, b7, b8⟩, E, F, nr, P1, P2, nD, P3, e1, e2, e3, e4, e5, e6, cB, cQ1, cQ2⟩ := gM.out rfl
        clear gC gA gS gF gM gO1 gO2 gH gCi gCs gAi gAs gSi gSs gFi gFs
        have gB := Lib.hid b1
        clear b7 b8
        go_wp2_with (first | (go_at_call 5; refine (cB _).mono ?_; rintro e w1 ⟨rfl, hb⟩; replace hT := Two.below hT hb; clear hb hz1 hz2 uA0 uA1 uB0 uB1; obtain ⟨hz1, hz2, uA0, uA1, uB0, uB1⟩ := id hT.2) | (go_at_call_of 11 (Value.int IntKind.i64 A); refine (cQ1 _).mono ?_; rintro e w1 ⟨rfl, hb⟩; replace hT := Two.below hT hb; clear hb hz1 hz2 uA0 uA1 uB0 uB1; obtain ⟨hz1, hz2, uA0, uA1, uB0, uB1⟩ := id hT.2) | (go_at_call_of 11 (Value.int IntKind.i64 C); refine (cQ2 _).mono ?_; rintro e w1 ⟨rfl, hb⟩; replace hT := Two.below hT hb; clear hb hz1 hz2 uA0 uA1 uB0 uB1; obtain ⟨hz1, hz2, uA0, uA1, uB0, uB1⟩ := id hT.2))
        go_meet
        case rel => assumption
    case rest =>
      clear hT hz1 hz2 uA0 uA1 uB0 uB1 gF gM
      have hT := hcut
      clear hcut
      obtain ⟨hz1, hz2, uA0, uA1, uB0, uB1⟩ := id hT.2
      go_upto_region 15 with fail
      go_cut [354] from 289 to 353 (fun v354 wc => v354 = .bool false ∧ Two l r m q w wc)
      case first => as_aux_lemma =>
        have hO1 := gO1.out
        have hO2 := gO2.out
        clear gC gA gS gO1 gO2 gH gCi gCs gAi gAs gSi gSs gFi gFs hR hx
        cases one
        · cases ok
          · clear hO1 hO2
            go_wp2_with fail
            go_meet
            case rel => exact ⟨by first | rfl | simp, hT⟩
          · obtain ⟨h1, h2⟩ := hO1 rfl rfl
            have h3 : ¬ q < r := by omega
            clear hO1 hO2
            go_wp2_with fail
            go_meet
            case rel => exact ⟨by first | rfl | simp [h2], hT⟩
        · obtain ⟨rfl, ⟨b1, b2, b3, b4, b5, b6⟩, hor, hz0, hcq⟩ := hO2 rfl
          clear hO1 hO2
          by_cases hn : n = 0
          · obtain ⟨rfl, rfl, rfl, rfl⟩ := hz0 hn
            subst hn
            clear hor hz0
            by_cases hqr : q < r
            · obtain ⟨nr, e1, cQ3, cQ4⟩ := hcq hqr
              clear hcq cQ4
              have e2 : (0 : Int) * r = 0 := Int.zero_mul r
              clear e1
              go_wp2_with (first | (go_at_call 11; refine (cQ3 _).mono ?_; rintro e w1 ⟨rfl, hb⟩; replace hT := Two.below hT hb; clear hb hz1 hz2 uA0 uA1 uB0 uB1; obtain ⟨hz1, hz2, uA0, uA1, uB0, uB1⟩ := id hT.2))
              go_meet
              case rel => exact ⟨by first | rfl | simp, by assumption⟩
            · clear hcq
              go_wp2_with fail
              go_meet
              case rel => exact ⟨by first | rfl | simp, hT⟩
          · have hqr : q < r := by omega
            obtain ⟨nr, e1, cQ3, cQ4⟩ := hcq hqr
            clear hcq hz0 hor
            go_wp2_with (first | (go_at_call_of 11 (Value.int IntKind.i64 I); refine (cQ3 _).mono ?_; rintro e w1 ⟨rfl, hb⟩; replace hT := Two.below hT hb; clear hb hz1 hz2 uA0 uA1 uB0 uB1; obtain ⟨hz1, hz2, uA0, uA1, uB0, uB1⟩ := id hT.2) | (go_at_call_of 11 (Value.int IntKind.i64 K); refine (cQ4 _).mono ?_; rintro e w1 ⟨rfl, hb⟩; replace hT := Two.below hT hb; clear hb hz1 hz2 uA0 uA1 uB0 uB1; obtain ⟨hz1, hz2, uA0, uA1, uB0, uB1⟩ := id hT.2))
            go_meet
            case rel => exact ⟨by first | rfl | simp, by assumption⟩
      case rest =>
        clear hT hz1 hz2 uA0 uA1 uB0 uB1 gO1 gO2
        obtain ⟨rfl, hT⟩ := hcut
        obtain ⟨hz1, hz2, uA0, uA1, uB0, uB1⟩ := id hT.2
        go_upto_if 355 with fail
        go_cut [] from 356 to 431 (fun wc => Two l r m q w wc)
        case first => as_aux_lemma =>
          have hH := gH.out
          clear gC gA gS gH gCi gCs gAi gAs gSi gSs gFi gFs hR hx
          cases three
          · go_wp2_with fail
            go_meet
            case rel => exact hT
          · obtain ⟨⟨b1, b2, b3, b4, b5, b6, b7, b8⟩, PL, PT, X1, X2, X3, X4, X5, X6, X7, e1, e2, e3, e4, e5, e6, e7, e8, k1, k2, k3, cP, cL⟩ := hH rfl
            clear hH
            by_cases k4 : X2 < X1
            · obtain rfl := k3 k4
              clear k2
              go_wp2_with (first | (go_at_call 12; refine (cP _).mono ?_; rintro e w1 ⟨rfl, hb⟩; replace hT := Two.below hT hb; clear hb hz1 hz2 uA0 uA1 uB0 uB1; obtain ⟨hz1, hz2, uA0, uA1, uB0, uB1⟩ := id hT.2) | (go_at_call 13; refine (cL _).mono ?_; rintro e w1 ⟨rfl, hb⟩; replace hT := Two.below hT hb; clear hb hz1 hz2 uA0 uA1 uB0 uB1; obtain ⟨hz1, hz2, uA0, uA1, uB0, uB1⟩ := id hT.2))
              go_meet
              case rel => assumption
            · clear k3
              go_wp2_with (first | (go_at_call 12; refine (cP _).mono ?_; rintro e w1 ⟨rfl, hb⟩; replace hT := Two.below hT hb; clear hb hz1 hz2 uA0 uA1 uB0 uB1; obtain ⟨hz1, hz2, uA0, uA1, uB0, uB1⟩ := id hT.2) | (go_at_call 13; refine (cL _).mono ?_; rintro e w1 ⟨rfl, hb⟩; replace hT := Two.below hT hb; clear hb hz1 hz2 uA0 uA1 uB0 uB1; obtain ⟨hz1, hz2, uA0, uA1, uB0, uB1⟩ := id hT.2))
              go_meet
              case rel => assumption
        case rest =>
          clear hT hz1 hz2 uA0 uA1 uB0 uB1 gH
          have hBel := hcut.1
          clear hcut
          go_wp2_with fail
          refine (gCi.out _).mono ?_; rintro e w1 ⟨rfl, hb1⟩
          have B1 := hBel.trans (hb1.mono hBel.size)
          go_wp2_with fail
          refine (gCs.out _).mono ?_; rintro e w2 ⟨rfl, hb2⟩
          have B2 := B1.trans (hb2.mono B1.size)
          go_wp2_with fail
          refine (gAi.out _).mono ?_; rintro e w3 ⟨rfl, hb3⟩
          have B3 := B2.trans (hb3.mono B2.size)
          go_wp2_with fail
          refine (gAs.out _).mono ?_; rintro e w4 ⟨rfl, hb4⟩
          have B4 := B3.trans (hb4.mono B3.size)
          clear hb1 hb2 hb3 hb4 B1 B2 B3 hBel gCi gCs gAi gAs
          go_wp2_with fail
          refine (gSi.out _ (hR.below B4)).mono ?_; rintro e w5 ⟨q1, k1, rfl, hO1, hb5⟩
          have B5 := B4.trans (hb5.mono B4.size)
          go_wp2_with fail
          refine (gSs.out _ (hR.below B5)).mono ?_; rintro e w6 ⟨q2, k2, rfl, hO2, hb6⟩
          have B6 := B5.trans (hb6.mono B5.size)
          go_wp2_with fail
          refine (gFi.out _ (hR.below B6)).mono ?_; rintro e w7 ⟨rfl, hb7⟩
          have B7 := B6.trans (hb7.mono B6.size)
          go_wp2_with fail
          refine (gFs.out _ (hR.below B7)).mono ?_; rintro e w8 ⟨rfl, hb8⟩
          have B8 := B7.trans (hb8.mono B7.size)
          have R1 : Rd w8 q1 R := (((hO1.below hb6).below hb7).below hb8).rd
          have R2 : Rd w8 q2 R := ((hO2.below hb7).below hb8).rd
          clear hO1 hO2 hb5 hb6 hb7 hb8 B4 B5 B6 B7 gSi gSs gFi gFs
          go_wp2_with fail
          refine (qSame_eq q1 q2 k1 k2 R _ R1 R2 (by omega)).mono ?_; rintro e w9 ⟨rfl, hb9⟩
          have B9 := Lib.hid (B8.trans (hb9.mono B8.size))
          have R9 := R1.below hb9
          have RX := hR.below B9.out
          clear R1 R2 B8 hb9 hR
          go_upto_if 535 with fail
          go_cut [] from 536 to 601 (fun wc => Below w9.heap.size w9 wc)
          case first => as_aux_lemma =>
            clear gA gS RX R9
            cases five
            · go_wp2_with fail
              go_meet
              case rel => exact Below.refl _ _
            · obtain ⟨oth, lst, mx, my, P, c1, c2, c3, ho1, ⟨o0, o1⟩, cO, ⟨hl1, hl2⟩, cM, eP, hx1, hx2⟩ := gC.out rfl
              clear gC
              cases g
              · have hx3 := hx2 rfl
                clear hx2 ho1
                go_wp2_with fail
                refine (cO _).mono ?_; rintro e wa ⟨rfl, ha⟩
                go_wp2_with fail
                refine (cM _).mono ?_; rintro e wb ⟨rfl, hb⟩
                have HB := Lib.hid (ha.trans (hb.mono ha.size))
                clear ha hb
                go_upto_region 40 with fail
                go_cut [601] from 582 to 600 (fun v601 wc => v601 = .bool false ∧ wc = wb)
                case first =>
                  go_wp2_with fail
                  go_meet
                  case rel => exact ⟨by first | rfl | (simp [hx3]; omega), rfl⟩
                case rest =>
                  obtain ⟨rfl, hwc⟩ := hcut
                  obtain rfl : wb = wc := hwc.symm
                  go_wp2_with fail
                  go_meet
                  case rel => exact HB.out
              · obtain ⟨ho3, ho4⟩ := ho1 rfl
                clear hx2 ho1
                go_wp2_with fail
                refine (cO _).mono ?_; rintro e wa ⟨rfl, ha⟩
                go_wp2_with fail
                refine (cM _).mono ?_; rintro e wb ⟨rfl, hb⟩
                have HB := Lib.hid (ha.trans (hb.mono ha.size))
                clear ha hb
                go_wp2_with fail
                go_meet
                case rel => exact HB.out
          case rest =>
            have hA0 := hcut
            clear hcut gC
            go_upto_region 42 with fail
            go_cut [613] from 602 to 612 (fun v613 wc => v613 = .bool false ∧ Below w9.heap.size w9 wc)
            case first => as_aux_lemma =>
              clear gS RX R9
              cases seven
              · clear gA
                go_wp2_with fail
                go_meet
                case rel => exact ⟨rfl, hA0⟩
              · obtain ⟨Y1, Y2, e1, e2, cQ⟩ := gA.out rfl
                clear gA
                go_wp2_with fail
                refine (cQ _).mono ?_; rintro e wa ⟨rfl, ha⟩
                have HB := Lib.hid (hA0.trans (ha.mono hA0.size))
                clear ha hA0
                go_wp2_with fail
                go_meet
                case rel => exact ⟨by first | rfl | simp, HB.out⟩
            case rest =>
              obtain ⟨rfl, hA1⟩ := hcut
              have R10 := R9.below hA1
              have RY := RX.below hA1
              have HB := Lib.hid (bchain B9.out hA1 B9.out.size)
              clear hA1 hA0 R9 RX B9 gA
              cases nine
              · clear gS R10 RY
                go_wp2_with fail
                go_ret
                exact ⟨rfl, HB.out⟩
              · obtain ⟨SM, hS⟩ := gS.out rfl
                have gM := Lib.hid hS
                have hlx := hS.len
                have hrl := hS.rl
                clear gS hS
                go_wp2_with fail
                go_loopg [617, 81] R.length (fun k v617 v81 wr => ∃ (j : Nat), v617 = .int .i64 (j : Int) ∧ v81 = .int .i64 (SM j) ∧ j + k ≤ R.length ∧ R.length ≤ j + k ∧ Below wc.heap.size wc wr)
                case atStart => exact ⟨0, rfl, by rw [gM.out.s0], by omega, by omega, Below.refl _ _⟩
                case round => as_aux_lemma =>
                  obtain ⟨j, rfl, rfl, h1, h2, hbel⟩ := hrel
                  by_cases hj : j < R.length
                  · have hss := gM.out.ss j hj
                    have hsb := gM.out.sb j (by omega)
                    have hsb' := gM.out.sb (j + 1) (by omega)
                    have hbd := gM.out.bd j hj
                    obtain ⟨x, hx⟩ : ∃ x : Nat, R.getD j 0 = (x : Int) := ⟨(R.getD j 0).toNat, by omega⟩
                    have hxl : x < xs.length := by omega
                    have hpx := gM.out.px1 x hxl
                    rcases R10 with h | ⟨b, off, rfl, hlt, hc⟩
                    · rw [h] at hj; exact absurd hj (Nat.not_lt_zero _)
                    · rcases RY with h | ⟨b', off', rfl, hlt', hc'⟩
                      · rw [h] at hxl; exact absurd hxl (Nat.not_lt_zero _)
                      · have hcj : wr.cell? ⟨b, off + j, none⟩ = some (.int .i64 (x : Int)) := by rw [(bcell hbel).1 b _ hlt, ← hx]; exact hc j hj
                        have hcx : wr.cell? ⟨b', off' + x * 2, none⟩ = some (.int .i64 (px xs x)) := by rw [(bcell hbel).1 b' _ hlt']; exact (hc' x hxl).1
                        have hjI : (j : Int) < (R.length : Int) := by omega
                        have hxI : (x : Int) < (xs.length : Int) := by omega
                        have HBw := Lib.hid hbel
                        have GC := Lib.hid (fun (o : Nat) (ho : o < R.length) => show wr.cell? ⟨b, off + o, none⟩ = some (.int .i64 (R.getD o 0)) by rw [(bcell hbel).1 b _ hlt]; exact hc o ho)
                        have GS := Lib.hid (show SM (j + 1) = SM j + px xs x by rw [hss, hx]; simp)
                        have HX := Lib.hid hx
                        clear hbel hc hc' hss hbd hx
                        generalize px xs x = p at *
                        go_upto_region 49 with fail
                        go_cut [642] from 622 to 641 (fun v642 wc => v642 = .bool false ∧ wc = wr)
                        case first => as_aux_lemma =>
                          clear hcx hsb hsb' hpx GS
                          rcases j with _ | i
                          · go_wp2_with fail
                            go_meet
                            case rel => exact ⟨by first | rfl | (simp; omega), rfl⟩
                          · have hinc := gM.out.inc i hj
                            have hci : wr.cell? ⟨b, off + i, none⟩ = some (.int .i64 (R.getD i 0)) := GC.out i (by omega)
                            rw [HX.out] at hinc
                            clear GC HX
                            generalize R.getD i 0 = pv at *
                            go_wp2_with fail
                            go_meet
                            case rel => exact ⟨by first | rfl | (simp; omega), rfl⟩
                        case rest =>
                          obtain ⟨rfl, hwc⟩ := hcut
                          obtain rfl : wr = wc := hwc.symm
                          clear GC HX hcj
                          go_wp2_with fail
                          go_roundg (gk - 1)
                          case rel => exact ⟨j + 1, by go_num, by rw [GS.out], by omega, by omega, HBw.out⟩
                          case measure => omega
                  · obtain rfl : j = R.length := by omega
                    have hsle := gM.out.sle
                    have hsb := gM.out.sb R.length (Nat.le_refl _)
                    have hn0 := gM.out.n0
                    have hfit := gM.out.fit
                    have GO := Lib.hid gM.out.out
                    have GL := Lib.hid gM.out.low
                    have GP := Lib.hid gM.out.px1
                    have GB := Lib.hid gM.out.bd
                    have R11 := R10.below hbel
                    have RZ := RY.below hbel
                    have HBx := Lib.hid (bchain HB.out hbel HB.out.size)
                    clear hbel R10 RY HB gM h1 h2 hj
                    generalize SM R.length = S at *
                    go_upto_region 53 with fail
                    go_cut [662] from 651 to 661 (fun v662 wc => v662 = .bool false ∧ wc = wr)
                    case first => as_aux_lemma =>
                      by_cases hq : R.length = xs.length
                      · have HQ := Lib.hid (show (R.length : Int) = (xs.length : Int) by omega)
                        obtain rfl : fits = true := by rw [hfit]; simp [hq]
                        clear hfit hq
                        go_wp2_with fail
                        go_meet
                        case rel => exact ⟨by first | rfl | (simp [HQ.out]; done) | (simp [HQ.out]; omega), rfl⟩
                      · have HQ := Lib.hid (show ¬ (R.length : Int) = (xs.length : Int) by omega)
                        obtain rfl : fits = false := by rw [hfit]; simp [hq]
                        clear hfit hq
                        go_wp2_with fail
                        go_meet
                        case rel => exact ⟨by first | rfl | (simp [HQ.out]; done) | (simp [HQ.out]; omega), rfl⟩
                    case rest =>
                      obtain ⟨rfl, hwc⟩ := hcut
                      obtain rfl : wr = wc := hwc.symm
                      clear hfit hsle
                      go_wp2_with fail
                      generalize hwo : wr = wo at *
                      go_loopg [665] xs.length (fun k v665 wr => ∃ (j : Nat), v665 = .int .i64 (j : Int) ∧ j + k ≤ xs.length ∧ xs.length ≤ j + k ∧ Below wo.heap.size wo wr)
                      case atStart => exact ⟨0, rfl, by omega, by omega, Below.refl _ _⟩
                      case round => as_aux_lemma =>
                        obtain ⟨t, rfl, h1, h2, hbel⟩ := hrel
                        obtain ⟨gko, hgko⟩ : ∃ n, n = gk := ⟨_, rfl⟩
                        by_cases ht : t < xs.length
                        · have hpx := GP.out t ht
                          have hout := GO.out t ht
                          have hlow := GL.out t ht
                          rcases RZ with h | ⟨b', off', rfl, hlt', hc'⟩
                          · rw [h] at ht; exact absurd ht (Nat.not_lt_zero _)
                          · have hc0 : wr.cell? ⟨b', off' + t * 2, none⟩ = some (.int .i64 (px xs t)) := by rw [(bcell hbel).1 b' _ hlt']; exact (hc' t ht).1
                            have hc1 : wr.cell? ⟨b', off' + t * 2 + 1, none⟩ = some (.int .i64 (py xs t)) := by rw [(bcell hbel).1 b' _ hlt']; exact (hc' t ht).2
                            have htI : (t : Int) < (xs.length : Int) := by omega
                            have RQ : RdP wr (some ⟨b', off', none⟩) xs := RdP.below (.inr ⟨b', off', rfl, hlt', hc'⟩) hbel
                            have R12 := R11.below hbel
                            have HBq := Lib.hid hbel
                            have HO := Lib.hid hout
                            have HL := Lib.hid hlow
                            clear hbel hc' hout hlow
                            go_wp2_with fail
                            generalize hw : World.alloc wr _ = wa
                            have ha : Below wr.heap.size wr wa := by subst hw; exact (Below.refl _ _).alloc (Nat.le_refl _) _
                            have ka : wa.cell? ⟨wr.heap.size, 0, none⟩ = some (.int .i64 (px xs t)) := by subst hw; go_simp
                            have sa : wr.heap.size < wa.heap.size := by subst hw; simp
                            clear hw
                            refine (qHas_any q1 k1 R t _ (R12.below ha) (by omega)).mono ?_; rintro e wb ⟨rfl, hb⟩
                            have kb : wb.cell? ⟨wr.heap.size, 0, none⟩ = some (.int .i64 (px xs t)) := by rw [(bcell hb).1 _ _ sa]; exact ka
                            have sb : wr.heap.size < wb.heap.size := Nat.lt_of_lt_of_le sa hb.size
                            have hB : Below wr.heap.size wr wb := ha.trans (hb.mono ha.size)
                            have RW := RQ.below hB
                            have R13 := R12.below hB
                            have HBb := Lib.hid (bchain HBq.out hB HBq.out.size)
                            clear ha ka sa hb hB RQ R12 HBq R11 hc0 hc1 HBx
                            generalize wr.heap.size = tb at *
                            generalize px xs t = p at *
                            cases hin : R.contains (t : Int)
                            · have hout := HO.out hin
                              have hlow := Lib.hid (HL.out hin)
                              clear HO HL hin GO GL
                              go_wp2_with fail
                              go_loopg [681] R.length (fun k v681 wr => ∃ (i : Nat), v681 = .int .i64 (i : Int) ∧ i + k ≤ R.length ∧ R.length ≤ i + k ∧ Below wb.heap.size wb wr)
                              case atStart => exact ⟨0, rfl, by omega, by omega, Below.refl _ _⟩
                              case round => as_aux_lemma =>
                                obtain ⟨i, rfl, g1, g2, hbel⟩ := hrel
                                by_cases hi : i < R.length
                                · have hbd := GB.out i hi
                                  obtain ⟨x, hx⟩ : ∃ x : Nat, R.getD i 0 = (x : Int) := ⟨(R.getD i 0).toNat, by omega⟩
                                  have hxl : x < xs.length := by omega
                                  have hl := hlow.out i hi
                                  rw [hx] at hl
                                  simp only [Int.toNat_natCast] at hl
                                  rcases R13 with h | ⟨b, off, rfl, hlt, hc⟩
                                  · rw [h] at hi; exact absurd hi (Nat.not_lt_zero _)
                                  · rcases RW with h | ⟨b2, off2, h2e, hlt2, hc2⟩
                                    · rw [h] at hxl; exact absurd hxl (Nat.not_lt_zero _)
                                    · obtain ⟨rfl, rfl⟩ : b' = b2 ∧ off' = off2 := by
                                        injection h2e with h2e; injection h2e with h2a h2b; exact ⟨h2a, h2b⟩
                                      have hci : wr.cell? ⟨b, off + i, none⟩ = some (.int .i64 (x : Int)) := by rw [(bcell hbel).1 b _ hlt, ← hx]; exact hc i hi
                                      have hcx : wr.cell? ⟨b', off' + x * 2, none⟩ = some (.int .i64 (px xs x)) := by rw [(bcell hbel).1 b' _ hlt2]; exact (hc2 x hxl).1
                                      have kt : wr.cell? ⟨tb, 0, none⟩ = some (.int .i64 p) := by rw [(bcell hbel).1 tb _ sb]; exact kb
                                      have hiI : (i : Int) < (R.length : Int) := by omega
                                      have hxI : (x : Int) < (xs.length : Int) := by omega
                                      have HBw := Lib.hid hbel
                                      clear hbel hc hc2 hbd hx kb h2e hlow HBb GB GP
                                      generalize px xs x = y at *
                                      rcases hl with hl | ⟨hl1, hl2⟩
                                      · have n1 : ¬ p < y := by omega
                                        have n2 : ¬ y = p := by omega
                                        go_wp2_with fail
                                        go_quiet (fail)
                                        go_wp2_with fail
                                        go_roundg (gk - 1)
                                        case rel => exact ⟨i + 1, by go_num, by omega, by omega, below_drewN HBw.out _⟩
                                        case measure => omega
                                      · have n1 : ¬ p < y := by omega
                                        have n3 : ¬ (t : Int) < (x : Int) := by omega
                                        go_wp2_with fail
                                        go_quiet (fail)
                                        go_wp2_with fail
                                        go_roundg (gk - 1)
                                        case rel => exact ⟨i + 1, by go_num, by omega, by omega, below_drewN HBw.out _⟩
                                        case measure => omega
                                · have HBc := Lib.hid (bchain HBb.out hbel HBb.out.size)
                                  clear hbel HBb hlow R13 RW kb GB GP
                                  go_wp2_with fail
                                  go_roundg (gko - 1)
                                  case rel => exact ⟨t + 1, by go_num, by omega, by omega, HBc.out⟩
                                  case measure => omega
                            · clear HO HL hin GO GL RW R13 kb GB GP
                              go_wp2_with fail
                              go_roundg (gko - 1)
                              case rel => exact ⟨t + 1, by go_num, by omega, by omega, HBb.out⟩
                              case measure => omega
                        · have HB := Lib.hid (bchain HBx.out hbel HBx.out.size)
                          clear hbel R11 RZ HBx GO GL GP GB
                          go_wp2_with fail
                          go_ret
                          exact ⟨rfl, HB.out⟩
set_option maxHeartbeats 8000000 in
set_option maxRecDepth 100000 in
theorem fnTrainsMeetOfAll_walk (l r m q n j e : Int) (g : Bool) (lo of lf : Int) (a0 : Option Addr) (cap0 : Nat) (xs : List (Int × Int)) (sd : Int) (w : World) (_ : (Lit.int .i64 l).wf = true) (_ : (Lit.int .i64 r).wf = true) (_ : (Lit.int .i64 m).wf = true) (_ : (Lit.int .i64 q).wf = true) (_ : (Lit.int .i64 n).wf = true) (_ : (Lit.int .i64 j).wf = true) (_ : (Lit.int .i64 e).wf = true) (_ : (Lit.int .i64 lo).wf = true) (_ : (Lit.int .i64 of).wf = true) (_ : (Lit.int .i64 lf).wf = true) (hR : RdP w a0 xs) (hm : xs.length ≤ maxLen) (_ : (Lit.int .i64 sd).wf = true) :
    Calls Try.prog 3 #[.agg #[.int .i64 l, .int .i64 r], .agg #[.int .i64 m, .int .i64 q], .int .i64 n, .int .i64 j, .int .i64 e, .bool g, .int .i64 lo, .int .i64 of, .int .i64 lf, .slice a0 xs.length cap0, .int .i64 sd] w fun e w' => e = .returned (.bool true) ∧ Below w.heap.size w w' := by
  unfold maxLen at hm
  by_cases hbig : (10000 : Int) < (xs.length : Int)
  · go_enter Try.func3, Try.ntmps3
    dsimp only [List.append]
    go_wp2_with fail
    go_ret
    exact ⟨rfl, by (repeat (first | assumption | exact Below.refl _ _ | refine Below.drew ?_ | refine Below.alloc ?_ (by first | omega | (simp; done) | (simp; omega)) _ | refine bchain ?_ (by assumption) (by first | omega | (simp; done) | (simp; omega))))⟩
  · obtain ⟨A, B, C, D, I, J, K, L, H, Y, ok, one, three, cMi, cMs, cOi, cOs, cHi, cHs, fF, fM, fO1, fO2, fH⟩ := tmFacts1 l r m q n
    obtain ⟨cnt, five, cCi, cCs, fC⟩ := tmFacts2 j e g
    obtain ⟨num, den, seven, cAi, cAs, fA⟩ := tmFacts3 lo of lf
    obtain ⟨R, nine, fits, hRl, cSi, cSs, cFi, cFs, fS⟩ := tmFacts4 a0 cap0 xs sd (by omega)
    exact walk l r m q n j e g lo of lf a0 cap0 xs sd w hbig hR A B C D I J K L H Y cnt num den ok one three five seven nine fits R cMi cMs cOi cOs cHi cHs cCi cCs cAi cAs cSi cSs cFi cFs fF fM fO1 fO2 fH fC fA hRl fS
set_option maxRecDepth 100000 in
theorem fnTrainsMeetOfAll_lifted (os : Os) (started : os.Started) (H : Type) (enc : TypeId × Value → H) :
    ReturnsInHanded {} Try.checked os 3 .any (Rows.fnTrainsMeetOfAllSpec.pre6 enc Try.prog Try.f3 Rows.fnTrainsMeetOfAllRow.domain false) (Rows.fnTrainsMeetOfAllSpec.post enc Try.prog Try.f3 false true false false) := by
  refine returnsInHanded_of_change (C := Try.checked) own started (by kernel_rfl) Try.func3
    (ChangeSpec.witness6 (enc := enc) (C := Try.checked) false ⟨#[], #[.agg #[.int .i64 0, .int .i64 0], .agg #[.int .i64 0, .int .i64 0], .int .i64 0, .int .i64 0, .int .i64 0, .bool false, .int .i64 0, .int .i64 0, .int .i64 0, .slice none 0 0, .int .i64 0], []⟩ 8 (by kernel_rfl) (by kernel_rfl) (by kernel_rfl) (by kernel_rfl)) ?_
  intro W base args ds gs before hval0 hW hcnd _
  have hval : ∀ (j : Nat) t v, Try.f3.params[j]? = some t → args[j]? = some v → Value.okWide Try.prog W .any base t v := hval0
  have hW' := hW
  obtain ⟨p, q, hA0, hV, rfl, hfz, hnd⟩ := hW
  have hA : DataW.TrodAll enc Try.prog W 0 (fun _ => true) true Try.f3.params.toList args.toList ds p := hA0
  rw [Try.params3] at hA hval
  obtain ⟨v0, vs0, d0, ds0, p0, q0, hargs, rfl, rfl, h0, r0⟩ := trodAll_cons hA
  obtain ⟨v1, vs1, d1, ds1, p1, q1, rfl, rfl, rfl, h1, r1⟩ := trodAll_cons r0
  obtain ⟨v2, vs2, d2, ds2, p2, q2, rfl, rfl, rfl, h2, r2⟩ := trodAll_cons r1
  obtain ⟨v3, vs3, d3, ds3, p3, q3, rfl, rfl, rfl, h3, r3⟩ := trodAll_cons r2
  obtain ⟨v4, vs4, d4, ds4, p4, q4, rfl, rfl, rfl, h4, r4⟩ := trodAll_cons r3
  obtain ⟨v5, vs5, d5, ds5, p5, q5, rfl, rfl, rfl, h5, r5⟩ := trodAll_cons r4
  obtain ⟨v6, vs6, d6, ds6, p6, q6, rfl, rfl, rfl, h6, r6⟩ := trodAll_cons r5
  obtain ⟨v7, vs7, d7, ds7, p7, q7, rfl, rfl, rfl, h7, r7⟩ := trodAll_cons r6
  obtain ⟨v8, vs8, d8, ds8, p8, q8, rfl, rfl, rfl, h8, r8⟩ := trodAll_cons r7
  obtain ⟨v9, vs9, d9, ds9, p9, q9, rfl, rfl, rfl, h9, r9⟩ := trodAll_cons r8
  obtain ⟨v10, vs10, d10, ds10, p10, q10, rfl, rfl, rfl, h10, r10⟩ := trodAll_cons r9
  obtain ⟨rfl, rfl, rfl⟩ := trodAll_nil r10
  obtain rfl : args = #[v0, v1, v2, v3, v4, v5, v6, v7, v8, v9, v10] := by cases args; simp_all
  obtain ⟨rfl, rfl⟩ := trodVars_none hV
  have k0 := h0
  have lt0 : ∀ x ∈ p0, x.block < W.heap.size := by obtain ⟨m, hm⟩ := k0; exact DataW.trod_lt m _ _ _ hm
  have k1 := h1
  have lt1 : ∀ x ∈ p1, x.block < W.heap.size := by obtain ⟨m, hm⟩ := k1; exact DataW.trod_lt m _ _ _ hm
  have k2 := h2
  have lt2 : ∀ x ∈ p2, x.block < W.heap.size := by obtain ⟨m, hm⟩ := k2; exact DataW.trod_lt m _ _ _ hm
  have k3 := h3
  have lt3 : ∀ x ∈ p3, x.block < W.heap.size := by obtain ⟨m, hm⟩ := k3; exact DataW.trod_lt m _ _ _ hm
  have k4 := h4
  have lt4 : ∀ x ∈ p4, x.block < W.heap.size := by obtain ⟨m, hm⟩ := k4; exact DataW.trod_lt m _ _ _ hm
  have k5 := h5
  have lt5 : ∀ x ∈ p5, x.block < W.heap.size := by obtain ⟨m, hm⟩ := k5; exact DataW.trod_lt m _ _ _ hm
  have k6 := h6
  have lt6 : ∀ x ∈ p6, x.block < W.heap.size := by obtain ⟨m, hm⟩ := k6; exact DataW.trod_lt m _ _ _ hm
  have k7 := h7
  have lt7 : ∀ x ∈ p7, x.block < W.heap.size := by obtain ⟨m, hm⟩ := k7; exact DataW.trod_lt m _ _ _ hm
  have k8 := h8
  have lt8 : ∀ x ∈ p8, x.block < W.heap.size := by obtain ⟨m, hm⟩ := k8; exact DataW.trod_lt m _ _ _ hm
  have k9 := h9
  have lt9 : ∀ x ∈ p9, x.block < W.heap.size := by obtain ⟨m, hm⟩ := k9; exact DataW.trod_lt m _ _ _ hm
  have k10 := h10
  have lt10 : ∀ x ∈ p10, x.block < W.heap.size := by obtain ⟨m, hm⟩ := k10; exact DataW.trod_lt m _ _ _ hm
  obtain ⟨c0_0, c0_1, y0_0, y0_1, m0, rfl, rfl, rfl, hy0_0, hy0_1⟩ := open_agg2 Try.underlying23 (by kernel_rfl) cells23 (hval 0 23 v0 rfl rfl) h0
  obtain ⟨a0_0, e0_0, rfl, x0_0⟩ := DataW.trod_int Try.underlying3 hy0_0
  obtain ⟨a0_1, e0_1, rfl, x0_1⟩ := DataW.trod_int Try.underlying3 hy0_1
  simp at e0_0 e0_1
  subst e0_0 e0_1
  obtain ⟨c1_0, c1_1, y1_0, y1_1, m1, rfl, rfl, rfl, hy1_0, hy1_1⟩ := open_agg2 Try.underlying23 (by kernel_rfl) cells23 (hval 1 23 v1 rfl rfl) h1
  obtain ⟨a1_0, e1_0, rfl, x1_0⟩ := DataW.trod_int Try.underlying3 hy1_0
  obtain ⟨a1_1, e1_1, rfl, x1_1⟩ := DataW.trod_int Try.underlying3 hy1_1
  simp at e1_0 e1_1
  subst e1_0 e1_1
  obtain ⟨a2, rfl, rfl, rfl, x2⟩ := open_int Try.underlying3 (hval 2 3 v2 rfl rfl) h2
  obtain ⟨a3, rfl, rfl, rfl, x3⟩ := open_int Try.underlying3 (hval 3 3 v3 rfl rfl) h3
  obtain ⟨a4, rfl, rfl, rfl, x4⟩ := open_int Try.underlying3 (hval 4 3 v4 rfl rfl) h4
  obtain ⟨a5, rfl, rfl, rfl⟩ := Go.RowKit.open_bool Try.underlying4 (hval 5 4 v5 rfl rfl) h5
  obtain ⟨a6, rfl, rfl, rfl, x6⟩ := open_int Try.underlying3 (hval 6 3 v6 rfl rfl) h6
  obtain ⟨a7, rfl, rfl, rfl, x7⟩ := open_int Try.underlying3 (hval 7 3 v7 rfl rfl) h7
  obtain ⟨a8, rfl, rfl, rfl, x8⟩ := open_int Try.underlying3 (hval 8 3 v8 rfl rfl) h8
  obtain ⟨b9, len9, cap9, rfl⟩ := okWide_slice Try.underlying24 (hval 9 24 v9 rfl rfl)
  obtain ⟨xs9, R9, M9, E9⟩ : ∃ xs : List (Int × Int), RdP W b9 xs ∧ xs.length ≤ maxLen ∧ xs.length = len9 := by
    obtain ⟨fuel, hf⟩ := h9
    simp only [Value.cells] at hf
    exact open_pairs_ints Try.underlying24 Try.underlying23 (by kernel_rfl) rfl rfl (by kernel_rfl) (by kernel_rfl) Try.underlying3 Try.underlying3 hf
  subst E9
  obtain ⟨a10, rfl, rfl, rfl, x10⟩ := open_int Try.underlying3 (hval 10 3 v10 rfl rfl) h10
  clear hA0 hval0
  refine (fnTrainsMeetOfAll_walk a0_0 a0_1 a1_0 a1_1 a2 a3 a4 a5 a6 a7 a8 b9 cap9 xs9 a10 W x0_0 x0_1 x1_0 x1_1 x2 x3 x4 x6 x7 x8 R9 M9 x10).mono fun e W' ⟨he, bel⟩ => ?_
  subst he
  exact ⟨_, rfl, _, _, _, [], _, [], hW', trodAll_mk1 (shut_bool Try.underlying4 _), (trodAll_cons_mk (Below.trod laidOut (by kernel_rfl) (of_decide_eq_true (by kernel_rfl)) k0 bel lt0) (trodAll_cons_mk (Below.trod laidOut (by kernel_rfl) (of_decide_eq_true (by kernel_rfl)) k1 bel lt1) (trodAll_cons_mk (Below.trod laidOut (by kernel_rfl) (of_decide_eq_true (by kernel_rfl)) k2 bel lt2) (trodAll_cons_mk (Below.trod laidOut (by kernel_rfl) (of_decide_eq_true (by kernel_rfl)) k3 bel lt3) (trodAll_cons_mk (Below.trod laidOut (by kernel_rfl) (of_decide_eq_true (by kernel_rfl)) k4 bel lt4) (trodAll_cons_mk (Below.trod laidOut (by kernel_rfl) (of_decide_eq_true (by kernel_rfl)) k5 bel lt5) (trodAll_cons_mk (Below.trod laidOut (by kernel_rfl) (of_decide_eq_true (by kernel_rfl)) k6 bel lt6) (trodAll_cons_mk (Below.trod laidOut (by kernel_rfl) (of_decide_eq_true (by kernel_rfl)) k7 bel lt7) (trodAll_cons_mk (Below.trod laidOut (by kernel_rfl) (of_decide_eq_true (by kernel_rfl)) k8 bel lt8) (trodAll_cons_mk (Below.trod laidOut (by kernel_rfl) (of_decide_eq_true (by kernel_rfl)) k9 bel lt9) (trodAll_cons_mk (Below.trod laidOut (by kernel_rfl) (of_decide_eq_true (by kernel_rfl)) k10 bel lt10) trodAll_mk0))))))))))), rfl, bel.frame _, fun h => by cases h⟩
theorem fnTrainsMeetOfAll_over : Rows.fnTrainsMeetOfAllRow.holds Try.pinned (OpenSpec.ofChange Rows.fnTrainsMeetOfAllSpec) :=
  OpenClaim.holds_of_wide 3 Try.f3 rfl rfl rfl rfl rfl rfl rfl ⟨rfl, rfl, rfl, rfl, rfl⟩ rfl rfl rfl rfl rfl (by kernel_rfl) Try.func3 (by kernel_rfl)
    (of_decide_eq_true (by kernel_rfl)) (by unfold Func.isWrapper; first | (rw [if_pos (by decide +kernel)]; kernel_rfl) | (rw [if_neg (by decide +kernel)]; exact ⟨rfl, rfl⟩))
    (fun os started H enc _ => fnTrainsMeetOfAll_lifted os started H enc)
/-- The statement, as it is given. -/
theorem fnTrainsMeetOfAll_holds : Rows.FnTrainsMeetOfAllSaid := fnTrainsMeetOfAll_over
end fnTrainsMeetOfAll
end Go.Proofs.Ytillammehkgbmaa
