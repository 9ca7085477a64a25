/- The named law of snails' races (chapter 1) holds whatever is given: it answers true, it does not panic, and it writes into nothing that was there before the call. Conditions: none. -/
import Derived.Test.YtemaoaepfepolaaRows
import Derived.Test.YtemaoaepfepolaaOneLead
import Derived.Test.YtemaoaepfepolaaOneWho
import Derived.Test.YtemaoaepfepolaaOneChg
import Derived.Test.YtemaoaepfepolaaOneDays
import Derived.Test.YtemaoaepfepolaaOneRnd
import Derived.Test.YtemaoaepfepolaaQSame
import Derived.Test.YtemaoaepfepolaaRaceMath
import Derived.Deep.Cut
import Derived.Deep.CutRange
import Derived.WalkKit
import Derived.ProofKit
import Derived.OpenShut
import Derived.ShutString
import Derived.ChangeOld
import Derived.Below
import Derived.Lib.SmallJoins
import Derived.Lib.Hide
namespace Go.Proofs.Ytemaoaepfepolaa
open Go.ChangeShapes Go.WideShapes Go.ChangeAt Go.RowKit Go.Joins
open Go.ChangeMaps (open_string shut_string)
set_option linter.unusedVariables false
set_option linter.unusedSimpArgs false
namespace fnSnailsRaceOfAll
theorem own : ownKnob Try.prog.godebug = none := by kernel_rfl
theorem laidOut : laidOutB Try.prog = true := by kernel_rfl
theorem cells37 : Try.prog.cellsOf 37 = 2 := by kernel_rfl
/-- both snails stand in the call's own two blocks -/
def Two (u d v z : Int) (w w' : World) : Prop := Below w.heap.size w w' ∧ w.heap.size < w'.heap.size ∧ w.heap.size + 1 < w'.heap.size ∧
  w'.cell? ⟨w.heap.size, 0, none⟩ = some (.int .i64 u) ∧ w'.cell? ⟨w.heap.size, 1, none⟩ = some (.int .i64 d) ∧ w'.cell? ⟨w.heap.size + 1, 0, none⟩ = some (.int .i64 v) ∧ w'.cell? ⟨w.heap.size + 1, 1, none⟩ = some (.int .i64 z)
theorem Two.below {u d v z : Int} {w a b : World} (h : Two u d v z w a) (hb : Below a.heap.size a b) : Two u d v z w b := by
  obtain ⟨h0, h1, h2, h3, h4, h5, h6⟩ := h
  have e := fun o => (bcell hb).1 w.heap.size o h1
  have f := fun o => (bcell hb).1 (w.heap.size + 1) o h2
  have s := hb.size
  exact ⟨h0.trans (hb.mono h0.size), by omega, by omega, by rw [e]; exact h3, by rw [e]; exact h4, by rw [f]; exact h5, by rw [f]; exact h6⟩
/-- what the law asks of a winner -/
def dueF (x y : Int) (p q : Bool) : Int := if p then (if q then (if x < y then 1 else if y < x then 2 else 0) else 1) else (if q then 2 else 0)
set_option maxHeartbeats 16000000 in
set_option maxRecDepth 100000 in
theorem walk (u d v z n y up : Int) (a0 : Option Addr) (cap0 : Nat) (xs : List Int) (nn yy : Int) (w : World) (hx : ¬ (10000 : Int) < (xs.length : Int)) (hR : Rd w a0 xs)
    (L W0 C D G : Int) (ok one five seven nine : Bool) (hs : List Int)
    (cLi : ∀ w : World, Calls Try.prog 15 #[.agg #[.int .i64 u, .int .i64 d], .agg #[.int .i64 v, .int .i64 z], .int .i64 n, .int .i64 y] w fun e w' => e = .returned (.tuple #[.int .i64 L, .bool ok]) ∧ Below w.heap.size w w')
    (cLs : ∀ w : World, Calls Try.prog 16 #[.agg #[.int .i64 u, .int .i64 d], .agg #[.int .i64 v, .int .i64 z], .int .i64 n, .int .i64 y] w fun e w' => e = .returned (.tuple #[.int .i64 L, .bool ok]) ∧ Below w.heap.size w w')
    (cWi : ∀ w : World, Calls Try.prog 17 #[.agg #[.int .i64 u, .int .i64 d], .agg #[.int .i64 v, .int .i64 z], .int .i64 n] w fun e w' => e = .returned (.tuple #[.int .i64 W0, .bool one]) ∧ Below w.heap.size w w')
    (cWs : ∀ w : World, Calls Try.prog 18 #[.agg #[.int .i64 u, .int .i64 d], .agg #[.int .i64 v, .int .i64 z], .int .i64 n] w fun e w' => e = .returned (.tuple #[.int .i64 W0, .bool one]) ∧ Below w.heap.size w w')
    (cCi : ∀ w : World, Calls Try.prog 19 #[.agg #[.int .i64 u, .int .i64 d], .agg #[.int .i64 v, .int .i64 z], .int .i64 n] w fun e w' => e = .returned (.tuple #[.int .i64 C, .bool one]) ∧ Below w.heap.size w w')
    (cCs : ∀ w : World, Calls Try.prog 20 #[.agg #[.int .i64 u, .int .i64 d], .agg #[.int .i64 v, .int .i64 z], .int .i64 n] w fun e w' => e = .returned (.tuple #[.int .i64 C, .bool one]) ∧ Below w.heap.size w w')
    (cHi : ∀ w, Rd w a0 xs → Calls Try.prog 23 #[.int .i64 up, .slice a0 xs.length cap0, .int .i64 nn, .int .i64 yy] w (RetS w hs five))
    (cHs : ∀ w, Rd w a0 xs → Calls Try.prog 24 #[.int .i64 up, .slice a0 xs.length cap0, .int .i64 nn, .int .i64 yy] w (RetS w hs five))
    (hsl : hs.length ≤ 1000)
    (cDi : ∀ w : World, Rd w a0 xs → Calls Try.prog 25 #[.int .i64 up, .slice a0 xs.length cap0, .int .i64 nn] w fun e w' => e = .returned (.tuple #[.int .i64 D, .bool seven]) ∧ Below w.heap.size w w')
    (cDs : ∀ w : World, Rd w a0 xs → Calls Try.prog 26 #[.int .i64 up, .slice a0 xs.length cap0, .int .i64 nn] w fun e w' => e = .returned (.tuple #[.int .i64 D, .bool seven]) ∧ Below w.heap.size w w')
    (cGi : ∀ w : World, Rd w a0 xs → Calls Try.prog 27 #[.int .i64 up, .slice a0 xs.length cap0, .int .i64 yy] w fun e w' => e = .returned (.tuple #[.int .i64 G, .bool nine]) ∧ Below w.heap.size w w')
    (cGs : ∀ w : World, Rd w a0 xs → Calls Try.prog 28 #[.int .i64 up, .slice a0 xs.length cap0, .int .i64 yy] w fun e w' => e = .returned (.tuple #[.int .i64 G, .bool nine]) ∧ Below w.heap.size w w')
    (fL : ok = true → ∃ a b : Int, 0 ≤ a ∧ a ≤ 1000000 ∧ 0 ≤ b ∧ b ≤ 1000000 ∧ L = a - b ∧ (∀ w : World, Calls Try.prog 21 #[.agg #[.int .i64 u, .int .i64 d], .int .i64 n, .int .i64 y] w fun e w' => e = .returned (.tuple #[.int .i64 a, .bool true]) ∧ Below w.heap.size w w') ∧ (∀ w : World, Calls Try.prog 21 #[.agg #[.int .i64 v, .int .i64 z], .int .i64 n, .int .i64 y] w fun e w' => e = .returned (.tuple #[.int .i64 b, .bool true]) ∧ Below w.heap.size w w') ∧ (∀ w : World, Calls Try.prog 15 #[.agg #[.int .i64 v, .int .i64 z], .agg #[.int .i64 u, .int .i64 d], .int .i64 n, .int .i64 y] w fun e w' => e = .returned (.tuple #[.int .i64 (-(a - b)), .bool true]) ∧ Below w.heap.size w w'))
    (fW : one = true → ∃ (x y' : Int) (p q : Bool) (W1 : Int), (p || q) = true ∧ W0 = dueF x y' p q ∧ W1 = dueF y' x q p ∧ 0 ≤ C ∧ C ≤ 1 ∧ (∀ w : World, Calls Try.prog 22 #[.agg #[.int .i64 u, .int .i64 d], .int .i64 n] w fun e w' => e = .returned (.tuple #[.int .i64 x, .bool p]) ∧ Below w.heap.size w w') ∧ (∀ w : World, Calls Try.prog 22 #[.agg #[.int .i64 v, .int .i64 z], .int .i64 n] w fun e w' => e = .returned (.tuple #[.int .i64 y', .bool q]) ∧ Below w.heap.size w w') ∧ (∀ w : World, Calls Try.prog 17 #[.agg #[.int .i64 v, .int .i64 z], .agg #[.int .i64 u, .int .i64 d], .int .i64 n] w fun e w' => e = .returned (.tuple #[.int .i64 W1, .bool true]) ∧ Below w.heap.size w w') ∧ (∀ w : World, Calls Try.prog 19 #[.agg #[.int .i64 v, .int .i64 z], .agg #[.int .i64 u, .int .i64 d], .int .i64 n] w fun e w' => e = .returned (.tuple #[.int .i64 C, .bool true]) ∧ Below w.heap.size w w'))
    (fH : five = true → nine = true ∧ ∃ M, HF up nn yy xs hs D seven M G)
    (fO : five = true → xs.length = 1 → ∃ T : Int, (seven = true → T = D) ∧ (∀ w : World, Calls Try.prog 21 #[.agg #[.int .i64 up, .int .i64 (xs.getD 0 0)], .int .i64 nn, .int .i64 yy] w fun e w' => e = .returned (.tuple #[.int .i64 (hs.getD (hs.length - 1) 0), .bool true]) ∧ Below w.heap.size w w') ∧ (∀ w : World, Calls Try.prog 22 #[.agg #[.int .i64 up, .int .i64 (xs.getD 0 0)], .int .i64 nn] w fun e w' => e = .returned (.tuple #[.int .i64 T, .bool seven]) ∧ Below w.heap.size w w')) :
    Calls Try.prog 5 #[.agg #[.int .i64 u, .int .i64 d], .agg #[.int .i64 v, .int .i64 z], .int .i64 n, .int .i64 y, .int .i64 up, .slice a0 xs.length cap0, .int .i64 nn, .int .i64 yy] w fun e w' => e = .returned (.bool true) ∧ Below w.heap.size w w' := by
  have gL := Lib.hid fL
  have gW := Lib.hid fW
  have gH := Lib.hid fH
  have gO := Lib.hid fO
  have gHi := Lib.hid cHi
  have gHs := Lib.hid cHs
  have gDi := Lib.hid cDi
  have gDs := Lib.hid cDs
  have gGi := Lib.hid cGi
  have gGs := Lib.hid cGs
  clear fL fW fH fO cHi cHs cDi cDs cGi cGs
  go_enter Try.func5, Try.ntmps5
  go_upto_if 144 with (first | (go_at_call 15; refine (cLi _).mono ?_; rintro e w1 ⟨rfl, hb⟩; have hz : w.heap.size < w1.heap.size ∧ w.heap.size + 1 < w1.heap.size := (by have := hb.size; (try simp at this); omega); have hcA := fun o => (bcell hb).1 w.heap.size o (by first | omega | (simp; omega) | (simp; done)); have hcB := fun o => (bcell hb).1 (w.heap.size + 1) o (by first | omega | (simp; omega) | (simp; done))) | (go_at_call 16; refine (cLs _).mono ?_; rintro e w1 ⟨rfl, hb⟩; have hz : w.heap.size < w1.heap.size ∧ w.heap.size + 1 < w1.heap.size := (by have := hb.size; (try simp at this); omega); have hcA := fun o => (bcell hb).1 w.heap.size o (by first | omega | (simp; omega) | (simp; done)); have hcB := fun o => (bcell hb).1 (w.heap.size + 1) o (by first | omega | (simp; omega) | (simp; done))) | (go_at_call 17; refine (cWi _).mono ?_; rintro e w1 ⟨rfl, hb⟩; have hz : w.heap.size < w1.heap.size ∧ w.heap.size + 1 < w1.heap.size := (by have := hb.size; (try simp at this); omega); have hcA := fun o => (bcell hb).1 w.heap.size o (by first | omega | (simp; omega) | (simp; done)); have hcB := fun o => (bcell hb).1 (w.heap.size + 1) o (by first | omega | (simp; omega) | (simp; done))) | (go_at_call 18; refine (cWs _).mono ?_; rintro e w1 ⟨rfl, hb⟩; have hz : w.heap.size < w1.heap.size ∧ w.heap.size + 1 < w1.heap.size := (by have := hb.size; (try simp at this); omega); have hcA := fun o => (bcell hb).1 w.heap.size o (by first | omega | (simp; omega) | (simp; done)); have hcB := fun o => (bcell hb).1 (w.heap.size + 1) o (by first | omega | (simp; omega) | (simp; done))) | (go_at_call 19; refine (cCi _).mono ?_; rintro e w1 ⟨rfl, hb⟩; have hz : w.heap.size < w1.heap.size ∧ w.heap.size + 1 < w1.heap.size := (by have := hb.size; (try simp at this); omega); have hcA := fun o => (bcell hb).1 w.heap.size o (by first | omega | (simp; omega) | (simp; done)); have hcB := fun o => (bcell hb).1 (w.heap.size + 1) o (by first | omega | (simp; omega) | (simp; done))) | (go_at_call 20; refine (cCs _).mono ?_; rintro e w1 ⟨rfl, hb⟩; have hz : w.heap.size < w1.heap.size ∧ w.heap.size + 1 < w1.heap.size := (by have := hb.size; (try simp at this); omega); have hcA := fun o => (bcell hb).1 w.heap.size o (by first | omega | (simp; omega) | (simp; done)); have hcB := fun o => (bcell hb).1 (w.heap.size + 1) o (by first | omega | (simp; omega) | (simp; done))))
  have hT : Two u d v z w w1 := by
    refine ⟨by (repeat (first | assumption | exact Below.refl _ _ | refine Below.drew ?_ | refine Below.alloc ?_ (by first | omega | (simp; done) | (simp; omega)) _ | refine bchain ?_ (by assumption) (by first | omega | (simp; done) | (simp; omega)))), by omega, by omega, ?_, ?_, ?_, ?_⟩ <;> go_simp
  clear cLi cLs cWi cWs cCi cCs
  obtain ⟨hz1, hz2, uA0, uA1, uB0, uB1⟩ := id hT.2
  go_cut [] from 145 to 189 (fun wc => Two u d v z w wc)
  case first => as_aux_lemma =>
    cases ok
    · go_wp2_with fail
      go_meet
      case rel => exact hT
    · obtain ⟨a, b, p0, p1, q0, q1, rfl, cE1, cE2, cB⟩ := gL.out rfl
      go_wp2_with (first | (go_at_call_of 21 (Value.agg #[Value.int IntKind.i64 u, Value.int IntKind.i64 d]); refine (cE1 _).mono ?_; rintro e w1 ⟨rfl, hb⟩; have hT1 := Two.below (by assumption) hb; obtain ⟨hz1, hz2, uA0, uA1, uB0, uB1⟩ := hT1.2; clear hb) | (go_at_call_of 21 (Value.agg #[Value.int IntKind.i64 v, Value.int IntKind.i64 z]); refine (cE2 _).mono ?_; rintro e w1 ⟨rfl, hb⟩; have hT1 := Two.below (by assumption) hb; obtain ⟨hz1, hz2, uA0, uA1, uB0, uB1⟩ := hT1.2; clear hb) | (go_at_call 15; refine (cB _).mono ?_; rintro e w1 ⟨rfl, hb⟩; have hT1 := Two.below (by assumption) hb; obtain ⟨hz1, hz2, uA0, uA1, uB0, uB1⟩ := hT1.2; clear hb))
      go_meet
      case rel => assumption
  case rest =>
    clear hT hb hz hcA hcB hz1 hz2 uA0 uA1 uB0 uB1
    have hT := hcut
    clear hcut
    obtain ⟨hz1, hz2, uA0, uA1, uB0, uB1⟩ := id hT.2
    go_upto_if 190 with fail
    go_cut [] from 191 to 286 (fun wc => Two u d v z w wc)
    case first => as_aux_lemma =>
      cases one
      · go_wp2_with fail
        go_meet
        case rel => exact hT
      · obtain ⟨x, y', p, q, W1, hpq, hW0, hW1, hC0, hC1, cD1, cD2, cWr, cCr⟩ := gW.out rfl
        have e0 : ¬ C < 0 := by omega
        have e1 : ¬ 1 < C := by omega
        have gc1 := Lib.hid cWr
        have gc2 := Lib.hid cCr
        have gc3 := Lib.hid hW0
        have gc4 := Lib.hid hW1
        clear cWr cCr hW0 hW1
        go_upto_region 21 with (first | (go_at_call_of 22 (Value.agg #[Value.int IntKind.i64 u, Value.int IntKind.i64 d]); refine (cD1 _).mono ?_; rintro e w1 ⟨rfl, hb⟩; have hT1 := Two.below (by assumption) hb; obtain ⟨hz1, hz2, uA0, uA1, uB0, uB1⟩ := hT1.2; clear hb) | (go_at_call_of 22 (Value.agg #[Value.int IntKind.i64 v, Value.int IntKind.i64 z]); refine (cD2 _).mono ?_; rintro e w1 ⟨rfl, hb⟩; have hT1 := Two.below (by assumption) hb; obtain ⟨hz1, hz2, uA0, uA1, uB0, uB1⟩ := hT1.2; clear hb))
        have cWr := gc1.out
        have cCr := gc2.out
        have hW0 := gc3.out
        have hW1 := gc4.out
        clear cD1 cD2 gc1 gc2 gc3 gc4
        cases p <;> cases q
        · cases hpq
        · have v0 : W0 = 2 := hW0
          have v1 : W1 = 1 := hW1
          subst v0 v1
          clear hW0 hW1 hpq hC0 hC1
          go_wp2_with (first | (go_at_call 17; refine (cWr _).mono ?_; rintro e w1 ⟨rfl, hb⟩; have hT1 := Two.below (by assumption) hb; obtain ⟨hz1, hz2, uA0, uA1, uB0, uB1⟩ := hT1.2; clear hb) | (go_at_call 19; refine (cCr _).mono ?_; rintro e w1 ⟨rfl, hb⟩; have hT1 := Two.below (by assumption) hb; obtain ⟨hz1, hz2, uA0, uA1, uB0, uB1⟩ := hT1.2; clear hb))
          go_meet
          case rel => assumption
        · have v0 : W0 = 1 := hW0
          have v1 : W1 = 2 := hW1
          subst v0 v1
          clear hW0 hW1 hpq hC0 hC1
          go_wp2_with (first | (go_at_call 17; refine (cWr _).mono ?_; rintro e w1 ⟨rfl, hb⟩; have hT1 := Two.below (by assumption) hb; obtain ⟨hz1, hz2, uA0, uA1, uB0, uB1⟩ := hT1.2; clear hb) | (go_at_call 19; refine (cCr _).mono ?_; rintro e w1 ⟨rfl, hb⟩; have hT1 := Two.below (by assumption) hb; obtain ⟨hz1, hz2, uA0, uA1, uB0, uB1⟩ := hT1.2; clear hb))
          go_meet
          case rel => assumption
        · rcases Int.lt_trichotomy x y' with hxy | hxy | hxy
          · have hyx : ¬ y' < x := by omega
            have v0 : W0 = 1 := by rw [hW0]; simp [dueF, hxy]
            have v1 : W1 = 2 := by rw [hW1]; simp [dueF, hxy, hyx]
            subst v0 v1
            clear hW0 hW1 hpq hC0 hC1
            go_wp2_with (first | (go_at_call 17; refine (cWr _).mono ?_; rintro e w1 ⟨rfl, hb⟩; have hT1 := Two.below (by assumption) hb; obtain ⟨hz1, hz2, uA0, uA1, uB0, uB1⟩ := hT1.2; clear hb) | (go_at_call 19; refine (cCr _).mono ?_; rintro e w1 ⟨rfl, hb⟩; have hT1 := Two.below (by assumption) hb; obtain ⟨hz1, hz2, uA0, uA1, uB0, uB1⟩ := hT1.2; clear hb))
            go_meet
            case rel => assumption
          · subst hxy
            have hxy : ¬ x < x := by omega
            have v0 : W0 = 0 := by rw [hW0]; simp [dueF]
            have v1 : W1 = 0 := by rw [hW1]; simp [dueF]
            subst v0 v1
            clear hW0 hW1 hpq hC0 hC1
            go_wp2_with (first | (go_at_call 17; refine (cWr _).mono ?_; rintro e w1 ⟨rfl, hb⟩; have hT1 := Two.below (by assumption) hb; obtain ⟨hz1, hz2, uA0, uA1, uB0, uB1⟩ := hT1.2; clear hb) | (go_at_call 19; refine (cCr _).mono ?_; rintro e w1 ⟨rfl, hb⟩; have hT1 := Two.below (by assumption) hb; obtain ⟨hz1, hz2, uA0, uA1, uB0, uB1⟩ := hT1.2; clear hb))
            go_meet
            case rel => assumption
          · have hyx : ¬ x < y' := by omega
            have v0 : W0 = 2 := by rw [hW0]; simp [dueF, hxy, hyx]
            have v1 : W1 = 1 := by rw [hW1]; simp [dueF, hxy]
            subst v0 v1
            clear hW0 hW1 hpq hC0 hC1
            go_wp2_with (first | (go_at_call 17; refine (cWr _).mono ?_; rintro e w1 ⟨rfl, hb⟩; have hT1 := Two.below (by assumption) hb; obtain ⟨hz1, hz2, uA0, uA1, uB0, uB1⟩ := hT1.2; clear hb) | (go_at_call 19; refine (cCr _).mono ?_; rintro e w1 ⟨rfl, hb⟩; have hT1 := Two.below (by assumption) hb; obtain ⟨hz1, hz2, uA0, uA1, uB0, uB1⟩ := hT1.2; clear hb))
            go_meet
            case rel => assumption
    case rest =>
      have hBel := hcut.1
      clear hT hz1 hz2 uA0 uA1 uB0 uB1 hcut gL gW
      have hR0 := hR.below hBel
      go_wp2_with fail
      refine (gHi.out _ hR0).mono ?_; rintro e w1 ⟨q1, k1, rfl, hO1, hb1⟩
      have B1 := hBel.trans (hb1.mono hBel.size)
      go_wp2_with fail
      refine (gHs.out _ (hR.below B1)).mono ?_; rintro e w2 ⟨q2, k2, rfl, hO2, hb2⟩
      have B2 := B1.trans (hb2.mono B1.size)
      go_wp2_with fail
      refine (gDi.out _ (hR.below B2)).mono ?_; rintro e w3 ⟨rfl, hb3⟩
      have B3 := B2.trans (hb3.mono B2.size)
      go_wp2_with fail
      refine (gDs.out _ (hR.below B3)).mono ?_; rintro e w4 ⟨rfl, hb4⟩
      have B4 := B3.trans (hb4.mono B3.size)
      go_wp2_with fail
      refine (gGi.out _ (hR.below B4)).mono ?_; rintro e w5 ⟨rfl, hb5⟩
      have B5 := B4.trans (hb5.mono B4.size)
      go_wp2_with fail
      refine (gGs.out _ (hR.below B5)).mono ?_; rintro e w6 ⟨rfl, hb6⟩
      have B6 := B5.trans (hb6.mono B5.size)
      have R1 : Rd w6 q1 hs := (((((hO1.below hb2).below hb3).below hb4).below hb5).below hb6).rd
      have R2 : Rd w6 q2 hs := ((((hO2.below hb3).below hb4).below hb5).below hb6).rd
      clear hO1 hO2 hb1 hb2 hb3 hb4 hb5 hb6 B1 B2 B3 B4 B5 hR0 hBel gHi gHs gDi gDs gGi gGs
      go_wp2_with fail
      refine (qSame_eq q1 q2 k1 k2 hs _ R1 R2 (by omega)).mono ?_; rintro e w7 ⟨rfl, hb7⟩
      have B7 := B6.trans (hb7.mono B6.size)
      have R7 := R1.below hb7
      have RX := hR.below B7
      clear R1 R2 B6 hb7 hR
      cases five
      · clear gH gO
        have HB := Lib.hid B7
        clear B7 R7 RX
        go_wp2_with fail
        go_ret
        exact ⟨rfl, HB.out⟩
      · obtain ⟨hnine, M, hM⟩ := gH.out rfl
        have gM := Lib.hid hM
        have gx : xs.length = 1 → _ := gO.out rfl
        have gX := Lib.hid gx
        have HB := Lib.hid B7
        have h1 : ((hs.length : Nat) : Int) = yy := hM.len
        subst hnine
        clear gH gO B7 hM gx
        subst h1
        go_wp2_with fail
        go_loopg [371, 56] hs.length (fun k v371 v56 wr => ∃ (j : Nat), v371 = .int .i64 (j : Int) ∧ v56 = .int .i64 (M j) ∧ j + k ≤ hs.length ∧ hs.length ≤ j + k ∧ Below w7.heap.size w7 wr)
        case atStart => exact ⟨0, rfl, by rw [gM.out.m0], by omega, by omega, Below.refl _ _⟩
        case round =>
          obtain ⟨j, rfl, rfl, h1, h2, hbel⟩ := hrel
          by_cases hj : j < hs.length
          · have hms := gM.out.ms j hj
            have hbd := gM.out.bd j hj
            have htop := gM.out.top j hj
            have hup := gM.out.up1
            have hnn := gM.out.nn1
            have hbig := gM.out.big
            rcases R7 with h | ⟨b, off, rfl, hlt, hc⟩
            · rw [h] at hj; exact absurd hj (Nat.not_lt_zero _)
            · have hcj : wr.cell? ⟨b, off + j, none⟩ = some (.int .i64 (hs.getD j 0)) := by rw [(bcell hbel).1 b _ hlt]; exact hc j hj
              have hjI : (j : Int) < (hs.length : Int) := by omega
              have hn1 : ¬ hs.getD j 0 < 1 := by omega
              have hn2 : ¬ nn < hs.getD j 0 := by omega
              have HBw := Lib.hid hbel
              have GC := Lib.hid (fun (o : Nat) (ho : o < hs.length) => show wr.cell? ⟨b, off + o, none⟩ = some (.int .i64 (hs.getD o 0)) by rw [(bcell hbel).1 b _ hlt]; exact hc o ho)
              have GT := Lib.hid htop
              have GS := Lib.hid hms
              clear hbel hc htop hms
              generalize hh : hs.getD j 0 = h at *
              go_upto_region 44 with fail
              go_cut [419] from 376 to 418 (fun v419 wc => v419 = .bool false ∧ wc = wr)
              case first => as_aux_lemma =>
                have htop := GT.out
                clear GT GS
                rcases j with _ | i
                · have e1 : ((0 : Nat) : Int) + 1 = 1 := rfl
                  rw [e1] at htop
                  clear e1 hh hcj
                  cases seven
                  · have hne : ¬ h = nn := fun e => by cases (htop.1 e).1
                    clear htop
                    go_wp2_with fail
                    go_meet
                    case rel => exact ⟨by simp [hne], rfl⟩
                  · by_cases hD : D ≤ 1
                    · have he : h = nn := htop.2 ⟨rfl, hD⟩
                      clear htop
                      subst he
                      go_wp2_with fail
                      go_meet
                      case rel => exact ⟨rfl, rfl⟩
                    · have hne : ¬ h = nn := fun e => hD (htop.1 e).2
                      clear htop
                      go_wp2_with fail
                      go_meet
                      case rel => exact ⟨by simp [hne], rfl⟩
                · have hrise := gM.out.rise i hj
                  have hbi := gM.out.bd i (by omega)
                  have hci : wr.cell? ⟨b, off + i, none⟩ = some (.int .i64 (hs.getD i 0)) := GC.out i (by omega)
                  have e1 : ((i + 1 : Nat) : Int) + 1 = (i : Int) + 1 + 1 := by omega
                  rw [e1] at htop
                  rw [hh] at hrise
                  clear e1 hh hcj
                  generalize hs.getD i 0 = g at *
                  by_cases hg : g < nn
                  · have hr : ¬ (g + up < h) := by have := hrise hg; omega
                    clear hrise
                    cases seven
                    · have hne : ¬ h = nn := fun e => by cases (htop.1 e).1
                      clear htop
                      go_wp2_with fail
                      go_meet
                      case rel => exact ⟨by simp [hne], rfl⟩
                    · by_cases hD : D ≤ (i : Int) + 1 + 1
                      · have he : h = nn := htop.2 ⟨rfl, hD⟩
                        clear htop
                        subst he
                        go_wp2_with fail
                        go_meet
                        case rel => exact ⟨rfl, rfl⟩
                      · have hne : ¬ h = nn := fun e => hD (htop.1 e).2
                        clear htop
                        go_wp2_with fail
                        go_meet
                        case rel => exact ⟨by simp [hne], rfl⟩
                  · clear hrise
                    cases seven
                    · have hne : ¬ h = nn := fun e => by cases (htop.1 e).1
                      clear htop
                      go_wp2_with fail
                      go_meet
                      case rel => exact ⟨by simp [hne], rfl⟩
                    · by_cases hD : D ≤ (i : Int) + 1 + 1
                      · have he : h = nn := htop.2 ⟨rfl, hD⟩
                        clear htop
                        subst he
                        go_wp2_with fail
                        go_meet
                        case rel => exact ⟨rfl, rfl⟩
                      · have hne : ¬ h = nn := fun e => hD (htop.1 e).2
                        clear htop
                        go_wp2_with fail
                        go_meet
                        case rel => exact ⟨by simp [hne], rfl⟩
              case rest =>
                obtain ⟨rfl, hwc⟩ := hcut
                obtain rfl : wr = wc := hwc.symm
                have hms := GS.out
                clear GT GS GC hh hcj
                by_cases hm : M j < h
                · rw [if_pos hm] at hms
                  have HM := Lib.hid hms
                  clear hms
                  go_wp2_with fail
                  go_roundg (gk - 1)
                  case rel => exact ⟨j + 1, by go_num, by rw [HM.out], by omega, by omega, HBw.out⟩
                  case measure => omega
                · rw [if_neg hm] at hms
                  have HM := Lib.hid hms
                  clear hms
                  go_wp2_with fail
                  go_roundg (gk - 1)
                  case rel => exact ⟨j + 1, by go_num, by rw [HM.out], by omega, by omega, HBw.out⟩
                  case measure => omega
          · have e : j = hs.length := by omega
            subst e
            have hmf := gM.out.mf
            have hme := gM.out.me
            have hmn := gM.out.mn
            have HBw := Lib.hid (bchain HB.out hbel HB.out.size)
            have RX2 : Rd wr a0 xs := RX.below hbel
            have hnf : ¬ G < M hs.length := by omega
            have hpos := gM.out.pos
            have hup := gM.out.up1
            have hup2 : up ≤ 1000 := hup.2
            have hbig := gM.out.big
            rcases R7 with h | ⟨b, off, rfl, hlt, hc⟩
            · rw [h] at hpos; cases hpos
            · obtain ⟨m, hm⟩ : ∃ m, m = hs.length - 1 := ⟨_, rfl⟩
              have hcm : wr.cell? ⟨b, off + m, none⟩ = some (.int .i64 (hs.getD m 0)) := by rw [(bcell hbel).1 b _ hlt]; exact hc m (by omega)
              have hlw : b < wr.heap.size := Nat.lt_of_lt_of_le hlt hbel.size
              have i0 : 0 ≤ (hs.length : Int) - 1 := by omega
              have i1 : (hs.length : Int) - 1 < (hs.length : Int) := by omega
              have i2 : ((hs.length : Int) - 1).toNat = m := by omega
              have i3 : IntKind.i64.wrap ((hs.length : Int) - 1) = (hs.length : Int) - 1 := IntWalk.i64_in _ (by omega)
              rw [← hm] at gX
              clear hm hc hbel
              generalize hs.getD m 0 = V at *
              go_upto_region 49 with fail
              go_cut [437] from 425 to 436 (fun v437 wc => v437 = .bool false ∧ wc = wr)
              case first =>
                by_cases hmx : M hs.length < nn
                · have hG : G = M hs.length := hme hmx
                  clear hme
                  subst hG
                  go_wp2_with fail
                  go_meet
                  case rel => exact ⟨rfl, rfl⟩
                · clear hme
                  go_wp2_with fail
                  go_meet
                  case rel => exact ⟨rfl, rfl⟩
              case rest => as_aux_lemma =>
                obtain ⟨rfl, hwc⟩ := hcut
                obtain rfl : wr = wc := hwc.symm
                clear hme hnf
                by_cases hxl : xs.length = 1
                · obtain ⟨T, hT, cE, cD⟩ := gX.out hxl
                  have hxI : ((xs.length : Nat) : Int) = 1 := by omega
                  rcases RX2 with h | ⟨b', off', rfl, hlt', hc'⟩
                  · rw [h] at hxl; cases hxl
                  · have hcx : wr.cell? ⟨b', off', none⟩ = some (.int .i64 (xs.getD 0 0)) := hc' 0 (by omega)
                    have hlw' : b' < wr.heap.size := hlt'
                    generalize xs.getD 0 0 = x at *
                    cases seven
                    · clear hT
                      go_wp2_with fail
                      generalize hq : World.alloc wr _ = w8
                      have hb8 : Below wr.heap.size wr w8 := by subst hq; exact (Below.refl _ _).alloc (Nat.le_refl _) _
                      have k0 : w8.cell? ⟨wr.heap.size, 0, none⟩ = some (.int .i64 up) := by subst hq; go_simp
                      have k1 : w8.cell? ⟨wr.heap.size, 1, none⟩ = some (.int .i64 x) := by subst hq; go_simp
                      have s8 : wr.heap.size < w8.heap.size := by subst hq; simp
                      clear hq
                      refine (cE _).mono ?_; rintro e w9 ⟨rfl, hb9⟩
                      have s9 := hb9.size
                      have k0' : w9.cell? ⟨wr.heap.size, 0, none⟩ = some (.int .i64 up) := by rw [(bcell hb9).1 _ _ s8]; exact k0
                      have k1' : w9.cell? ⟨wr.heap.size, 1, none⟩ = some (.int .i64 x) := by rw [(bcell hb9).1 _ _ s8]; exact k1
                      clear k0 k1
                      go_wp2_with fail
                      refine (cD _).mono ?_; rintro e w10 ⟨rfl, hb10⟩
                      have hcm10 : w10.cell? ⟨b, off + m, none⟩ = some (.int .i64 V) := by rw [(bcell hb10).1 _ _ (by omega), (bcell hb9).1 _ _ (by omega), (bcell hb8).1 _ _ hlw]; exact hcm
                      have HX := Lib.hid (HBw.out.trans (((hb8.trans (hb9.mono hb8.size)).trans (hb10.mono (by omega))).mono HBw.out.size))
                      clear hb8 hb9 hb10 k0' k1' cE cD
                      go_wp2_with fail
                      go_ret
                      exact ⟨rfl, HX.out⟩
                    · have hTD := hT rfl
                      subst hTD
                      clear hT
                      go_wp2_with fail
                      generalize hq : World.alloc wr _ = w8
                      have hb8 : Below wr.heap.size wr w8 := by subst hq; exact (Below.refl _ _).alloc (Nat.le_refl _) _
                      have k0 : w8.cell? ⟨wr.heap.size, 0, none⟩ = some (.int .i64 up) := by subst hq; go_simp
                      have k1 : w8.cell? ⟨wr.heap.size, 1, none⟩ = some (.int .i64 x) := by subst hq; go_simp
                      have s8 : wr.heap.size < w8.heap.size := by subst hq; simp
                      clear hq
                      refine (cE _).mono ?_; rintro e w9 ⟨rfl, hb9⟩
                      have s9 := hb9.size
                      have k0' : w9.cell? ⟨wr.heap.size, 0, none⟩ = some (.int .i64 up) := by rw [(bcell hb9).1 _ _ s8]; exact k0
                      have k1' : w9.cell? ⟨wr.heap.size, 1, none⟩ = some (.int .i64 x) := by rw [(bcell hb9).1 _ _ s8]; exact k1
                      clear k0 k1
                      go_wp2_with fail
                      refine (cD _).mono ?_; rintro e w10 ⟨rfl, hb10⟩
                      have hcm10 : w10.cell? ⟨b, off + m, none⟩ = some (.int .i64 V) := by rw [(bcell hb10).1 _ _ (by omega), (bcell hb9).1 _ _ (by omega), (bcell hb8).1 _ _ hlw]; exact hcm
                      have HX := Lib.hid (HBw.out.trans (((hb8.trans (hb9.mono hb8.size)).trans (hb10.mono (by omega))).mono HBw.out.size))
                      clear hb8 hb9 hb10 k0' k1' cE cD
                      go_wp2_with fail
                      go_ret
                      exact ⟨rfl, HX.out⟩
                · have hxI : ¬ ((xs.length : Nat) : Int) = 1 := by omega
                  go_wp2_with fail
                  go_ret
                  exact ⟨rfl, HBw.out⟩
theorem evening_at {u d n y : Int} (h1 : snOk u d = true) (h2 : inB n 1 1000000 = true) (h3 : inB y 1 1000000 = true) : ∀ w : World, Calls Try.prog 21 #[.agg #[.int .i64 u, .int .i64 d], .int .i64 n, .int .i64 y] w fun e w' => e = .returned (.tuple #[.int .i64 (low n (far u d y)), .bool true]) ∧ Below w.heap.size w w' := fun w => by
  have := implEveningHeight u d n y w
  rw [h1, h2, h3] at this
  exact this
theorem days_at {u d n : Int} (h1 : snOk u d = true) (h2 : inB n 1 1000000 = true) : ∀ w : World, Calls Try.prog 22 #[.agg #[.int .i64 u, .int .i64 d], .int .i64 n] w fun e w' => e = .returned (.tuple #[.int .i64 (if fd1 u d n then fd0 u d n else 0), .bool (fd1 u d n)]) ∧ Below w.heap.size w w' := fun w => by
  have := implDaysToTop u d n w
  rw [h1, h2] at this
  simpa using this
set_option maxHeartbeats 8000000 in
set_option maxRecDepth 100000 in
theorem fnSnailsRaceOfAll_walk (u d v z n y up : Int) (a0 : Option Addr) (cap0 : Nat) (xs : List Int) (nn yy : Int) (w : World) (_ : (Lit.int .i64 u).wf = true) (_ : (Lit.int .i64 d).wf = true) (_ : (Lit.int .i64 v).wf = true) (_ : (Lit.int .i64 z).wf = true) (_ : (Lit.int .i64 n).wf = true) (_ : (Lit.int .i64 y).wf = true) (_ : (Lit.int .i64 up).wf = true) (hR : Rd w a0 xs) (hm : xs.length ≤ maxLen) (_ : (Lit.int .i64 nn).wf = true) (_ : (Lit.int .i64 yy).wf = true) :
    Calls Try.prog 5 #[.agg #[.int .i64 u, .int .i64 d], .agg #[.int .i64 v, .int .i64 z], .int .i64 n, .int .i64 y, .int .i64 up, .slice a0 xs.length cap0, .int .i64 nn, .int .i64 yy] w fun e w' => e = .returned (.bool true) ∧ Below w.heap.size w w' := by
  unfold maxLen at hm
  by_cases hbig : (10000 : Int) < (xs.length : Int)
  · go_enter Try.func5, Try.ntmps5
    go_wp2_with fail
    go_ret
    exact ⟨rfl, by (repeat (first | assumption | exact Below.refl _ _ | refine Below.drew ?_ | refine Below.alloc ?_ (by first | omega | (simp; done) | (simp; omega)) _ | refine bchain ?_ (by assumption) (by first | omega | (simp; done) | (simp; omega))))⟩
  · have hl : xs.length ≤ 4611686018427387904 := by omega
    obtain ⟨D, ok, hA, cDi, cDs⟩ : ∃ (D : Int) (ok : Bool), ((slOk up xs && inB nn 1 1000000) = true → Ans up xs nn D ok) ∧ (∀ w : World, Rd w a0 xs → Calls Try.prog 25 #[.int .i64 up, .slice a0 xs.length cap0, .int .i64 nn] w fun e w' => e = .returned (.tuple #[.int .i64 D, .bool ok]) ∧ Below w.heap.size w w') ∧ (∀ w : World, Rd w a0 xs → Calls Try.prog 26 #[.int .i64 up, .slice a0 xs.length cap0, .int .i64 nn] w fun e w' => e = .returned (.tuple #[.int .i64 D, .bool ok]) ∧ Below w.heap.size w w') := by
      cases hk : slOk up xs && inB nn 1 1000000
      · refine ⟨0, false, fun h => (by cases h), fun w h => (implDays up nn a0 cap0 xs w h hl).mono ?_, fun w h => (specDays up nn a0 cap0 xs w h hl).mono ?_⟩
        · rintro e w' ⟨D, ok, rfl, _, h2, hb⟩
          obtain ⟨rfl, rfl⟩ := h2 hk
          exact ⟨rfl, hb⟩
        · rintro e w' ⟨D, ok, rfl, _, h2, hb⟩
          obtain ⟨rfl, rfl⟩ := h2 hk
          exact ⟨rfl, hb⟩
      · obtain ⟨D, ok, hA⟩ := ans_exists up xs nn
        refine ⟨D, ok, fun _ => hA, fun w h => (implDays up nn a0 cap0 xs w h hl).mono ?_, fun w h => (specDays up nn a0 cap0 xs w h hl).mono ?_⟩
        · rintro e w' ⟨D', ok', rfl, h1, _, hb⟩
          obtain ⟨rfl, rfl⟩ := ans_unique (h1 hk) hA
          exact ⟨rfl, hb⟩
        · rintro e w' ⟨D', ok', rfl, h1, _, hb⟩
          obtain ⟨rfl, rfl⟩ := ans_unique (h1 hk) hA
          exact ⟨rfl, hb⟩
    refine walk u d v z n y up a0 cap0 xs nn yy w hbig hR _ _ _ D _ _ _ _ ok _ _ (fun w => implLeadOf u d v z n y w) (fun w => specLeadOf u d v z n y w) (fun w => implWhoWins u d v z n w) (fun w => specWhoWins u d v z n w) (fun w => implLeadChanges u d v z n w) (fun w => specLeadChanges u d v z n w) (fun w h => implHeights up nn yy a0 cap0 xs w h hl) (fun w h => specHeights up nn yy a0 cap0 xs w h hl) ?_ cDi cDs (fun w h => implGreatest up yy a0 cap0 xs w h hl) (fun w h => (specGreatest up yy a0 cap0 xs w h hl).mono fun e w' ⟨he, hw⟩ => ⟨he, hw ▸ Below.refl _ _⟩) ?_ ?_ ?_ ?_
    · split
      · rename_i hk
        rw [Bool.and_eq_true, Bool.and_eq_true, inB_iff, inB_iff] at hk
        rw [evs_length]; omega
      · exact Nat.zero_le _
    · intro hk
      rw [if_pos hk]
      rw [Bool.and_eq_true, Bool.and_eq_true, Bool.and_eq_true] at hk
      obtain ⟨⟨⟨h1, h2⟩, h3⟩, h4⟩ := hk
      have a := climb_bd (u := u) (d := d) (n := n) (y := y) h1 h3 h4
      have b := climb_bd (u := v) (d := z) (n := n) (y := y) h2 h3 h4
      refine ⟨_, _, a.1, a.2, b.1, b.2, rfl, evening_at h1 h3 h4, evening_at h2 h3 h4, fun w => ?_⟩
      have := implLeadOf v z u d n y w
      rw [h1, h2, h3, h4] at this
      rw [show -(low n (far u d y) - low n (far v z y)) = low n (far v z y) - low n (far u d y) from by omega]
      exact this
    · intro hk
      rw [if_pos hk, if_pos hk]
      rw [Bool.and_eq_true, Bool.and_eq_true, Bool.and_eq_true] at hk
      obtain ⟨⟨⟨h1, h2⟩, h3⟩, h4⟩ := hk
      have b := inB_iff.1 h3
      have cs := chg_sym (u := u) (d := d) (v := v) (z := z) (n := n) h1 h2 b.2 (by simpa using h4)
      refine ⟨if fd1 u d n then fd0 u d n else 0, if fd1 v z n then fd0 v z n else 0, fd1 u d n, fd1 v z n, who0 v z u d n, h4, ?_, ?_, cs.2.1, cs.2.2, days_at h1 h3, days_at h2 h3, fun w => ?_, fun w => ?_⟩
      · unfold who0 dueF
        cases fd1 u d n <;> cases fd1 v z n <;> simp
      · unfold who0 dueF
        cases fd1 u d n <;> cases fd1 v z n <;> simp
      · have := implWhoWins v z u d n w
        rw [h1, h2, h3, Bool.or_comm, h4] at this
        exact this
      · have := implLeadChanges v z u d n w
        rw [h1, h2, h3, Bool.or_comm, h4] at this
        rw [← cs.1]
        exact this
    · intro hk
      rw [if_pos hk]
      rw [Bool.and_eq_true, Bool.and_eq_true] at hk
      obtain ⟨⟨h1, h2⟩, h3⟩ := hk
      have c := inB_iff.1 h3
      have h4 : inB yy 1 1000000 = true := inB_true (by omega)
      have hF := hf_of h1 h2 h3 (hA (by rw [h1, h2]; rfl))
      rw [h1, h4]
      exact ⟨rfl, _, hF⟩
    · intro hk hx1
      rw [if_pos hk]
      rw [Bool.and_eq_true, Bool.and_eq_true] at hk
      obtain ⟨⟨h1, h2⟩, h3⟩ := hk
      have b := inB_iff.1 h2
      have c := inB_iff.1 h3
      have h4 : inB yy 1 1000000 = true := inB_true (by omega)
      have hA' := hA (by rw [h1, h2]; rfl)
      obtain ⟨x, rfl⟩ : ∃ x, xs = [x] := List.length_eq_one_iff.1 hx1
      have so := one_snOk h1
      have ao := ans_one h1 hA'
      have hl1 : (evs up nn [x] yy.toNat).length = yy.toNat := evs_length _ _ _ _
      refine ⟨if fd1 up x nn then fd0 up x nn else 0, fun q => ?_, fun w => ?_, fun w => ?_⟩
      · have := ao.2 q
        rw [if_pos (ao.1.trans q)]; exact this
      · have e := evening_at (u := up) (d := x) so h2 h4 w
        rw [hl1, evs_getD (show yy.toNat - 1 < yy.toNat by omega), ev_one h1 b.1, show ((yy.toNat - 1 : Nat) : Int) + 1 = yy from by omega]
        exact e
      · have e := days_at (u := up) (d := x) so h2 w
        rw [ao.1] at e ⊢
        exact e
set_option maxRecDepth 100000 in
theorem fnSnailsRaceOfAll_lifted (os : Os) (started : os.Started) (H : Type) (enc : TypeId × Value → H) :
    ReturnsInHanded {} Try.checked os 5 .any (Rows.fnSnailsRaceOfAllSpec.pre6 enc Try.prog Try.f5 Rows.fnSnailsRaceOfAllRow.domain false) (Rows.fnSnailsRaceOfAllSpec.post enc Try.prog Try.f5 false true false false) := by
  refine returnsInHanded_of_change (C := Try.checked) own started (by kernel_rfl) Try.func5
    (ChangeSpec.witness6 (enc := enc) (C := Try.checked) false ⟨#[], #[.agg #[.int .i64 0, .int .i64 0], .agg #[.int .i64 0, .int .i64 0], .int .i64 0, .int .i64 0, .int .i64 0, .slice none 0 0, .int .i64 0, .int .i64 0], []⟩ 8 (by kernel_rfl) (by kernel_rfl) (by kernel_rfl) (by kernel_rfl)) ?_
  intro W base args ds gs before hval0 hW hcnd _
  have hval : ∀ (j : Nat) t v, Try.f5.params[j]? = some t → args[j]? = some v → Value.okWide Try.prog W .any base t v := hval0
  have hW' := hW
  obtain ⟨p, q, hA0, hV, rfl, hfz, hnd⟩ := hW
  have hA : DataW.TrodAll enc Try.prog W 0 (fun _ => true) true Try.f5.params.toList args.toList ds p := hA0
  rw [Try.params5] at hA hval
  obtain ⟨v0, vs0, d0, ds0, p0, q0, hargs, rfl, rfl, h0, r0⟩ := trodAll_cons hA
  obtain ⟨v1, vs1, d1, ds1, p1, q1, rfl, rfl, rfl, h1, r1⟩ := trodAll_cons r0
  obtain ⟨v2, vs2, d2, ds2, p2, q2, rfl, rfl, rfl, h2, r2⟩ := trodAll_cons r1
  obtain ⟨v3, vs3, d3, ds3, p3, q3, rfl, rfl, rfl, h3, r3⟩ := trodAll_cons r2
  obtain ⟨v4, vs4, d4, ds4, p4, q4, rfl, rfl, rfl, h4, r4⟩ := trodAll_cons r3
  obtain ⟨v5, vs5, d5, ds5, p5, q5, rfl, rfl, rfl, h5, r5⟩ := trodAll_cons r4
  obtain ⟨v6, vs6, d6, ds6, p6, q6, rfl, rfl, rfl, h6, r6⟩ := trodAll_cons r5
  obtain ⟨v7, vs7, d7, ds7, p7, q7, rfl, rfl, rfl, h7, r7⟩ := trodAll_cons r6
  obtain ⟨rfl, rfl, rfl⟩ := trodAll_nil r7
  obtain rfl : args = #[v0, v1, v2, v3, v4, v5, v6, v7] := by cases args; simp_all
  obtain ⟨rfl, rfl⟩ := trodVars_none hV
  have k0 := h0
  have lt0 : ∀ x ∈ p0, x.block < W.heap.size := by obtain ⟨m, hm⟩ := k0; exact DataW.trod_lt m _ _ _ hm
  have k1 := h1
  have lt1 : ∀ x ∈ p1, x.block < W.heap.size := by obtain ⟨m, hm⟩ := k1; exact DataW.trod_lt m _ _ _ hm
  have k2 := h2
  have lt2 : ∀ x ∈ p2, x.block < W.heap.size := by obtain ⟨m, hm⟩ := k2; exact DataW.trod_lt m _ _ _ hm
  have k3 := h3
  have lt3 : ∀ x ∈ p3, x.block < W.heap.size := by obtain ⟨m, hm⟩ := k3; exact DataW.trod_lt m _ _ _ hm
  have k4 := h4
  have lt4 : ∀ x ∈ p4, x.block < W.heap.size := by obtain ⟨m, hm⟩ := k4; exact DataW.trod_lt m _ _ _ hm
  have k5 := h5
  have lt5 : ∀ x ∈ p5, x.block < W.heap.size := by obtain ⟨m, hm⟩ := k5; exact DataW.trod_lt m _ _ _ hm
  have k6 := h6
  have lt6 : ∀ x ∈ p6, x.block < W.heap.size := by obtain ⟨m, hm⟩ := k6; exact DataW.trod_lt m _ _ _ hm
  have k7 := h7
  have lt7 : ∀ x ∈ p7, x.block < W.heap.size := by obtain ⟨m, hm⟩ := k7; exact DataW.trod_lt m _ _ _ hm
  obtain ⟨c0_0, c0_1, y0_0, y0_1, m0, rfl, rfl, rfl, hy0_0, hy0_1⟩ := open_agg2 Try.underlying37 (by kernel_rfl) cells37 (hval 0 37 v0 rfl rfl) h0
  obtain ⟨a0_0, e0_0, rfl, x0_0⟩ := DataW.trod_int Try.underlying3 hy0_0
  obtain ⟨a0_1, e0_1, rfl, x0_1⟩ := DataW.trod_int Try.underlying3 hy0_1
  simp at e0_0 e0_1
  subst e0_0 e0_1
  obtain ⟨c1_0, c1_1, y1_0, y1_1, m1, rfl, rfl, rfl, hy1_0, hy1_1⟩ := open_agg2 Try.underlying37 (by kernel_rfl) cells37 (hval 1 37 v1 rfl rfl) h1
  obtain ⟨a1_0, e1_0, rfl, x1_0⟩ := DataW.trod_int Try.underlying3 hy1_0
  obtain ⟨a1_1, e1_1, rfl, x1_1⟩ := DataW.trod_int Try.underlying3 hy1_1
  simp at e1_0 e1_1
  subst e1_0 e1_1
  obtain ⟨a2, rfl, rfl, rfl, x2⟩ := open_int Try.underlying3 (hval 2 3 v2 rfl rfl) h2
  obtain ⟨a3, rfl, rfl, rfl, x3⟩ := open_int Try.underlying3 (hval 3 3 v3 rfl rfl) h3
  obtain ⟨a4, rfl, rfl, rfl, x4⟩ := open_int Try.underlying3 (hval 4 3 v4 rfl rfl) h4
  obtain ⟨b5, len5, cap5, rfl⟩ := okWide_slice Try.underlying38 (hval 5 38 v5 rfl rfl)
  obtain ⟨xs5, R5, M5, E5⟩ : ∃ xs : List Int, Rd W b5 xs ∧ xs.length ≤ maxLen ∧ xs.length = len5 := by
    obtain ⟨fuel, hf⟩ := h5
    rcases open_ints Try.underlying38 Try.underlying3 (by kernel_rfl) hf with ⟨hcs, _⟩ | ⟨x, l, c, zs, hcs, _, hl, hm, hz, _, hcell, hwz⟩
    · simp [Value.cells] at hcs
      obtain ⟨rfl, rfl, rfl⟩ := hcs
      exact ⟨[], .inl rfl, by simp, rfl⟩
    · simp [Value.cells] at hcs
      obtain ⟨rfl, rfl, rfl⟩ := hcs
      have hz' : zs.length = cap5 := by simpa using hz
      exact ⟨zs.take len5, rd_of_cells (by omega) hcell, by rw [List.length_take]; omega, by rw [List.length_take]; omega⟩
  subst E5
  obtain ⟨a6, rfl, rfl, rfl, x6⟩ := open_int Try.underlying3 (hval 6 3 v6 rfl rfl) h6
  obtain ⟨a7, rfl, rfl, rfl, x7⟩ := open_int Try.underlying3 (hval 7 3 v7 rfl rfl) h7
  clear hA0 hval0
  refine (fnSnailsRaceOfAll_walk a0_0 a0_1 a1_0 a1_1 a2 a3 a4 b5 cap5 xs5 a6 a7 W x0_0 x0_1 x1_0 x1_1 x2 x3 x4 R5 M5 x6 x7).mono fun e W' ⟨he, bel⟩ => ?_
  subst he
  exact ⟨_, rfl, _, _, _, [], _, [], hW', trodAll_mk1 (shut_bool Try.underlying4 _), (trodAll_cons_mk (Below.trod laidOut (by kernel_rfl) (of_decide_eq_true (by kernel_rfl)) k0 bel lt0) (trodAll_cons_mk (Below.trod laidOut (by kernel_rfl) (of_decide_eq_true (by kernel_rfl)) k1 bel lt1) (trodAll_cons_mk (Below.trod laidOut (by kernel_rfl) (of_decide_eq_true (by kernel_rfl)) k2 bel lt2) (trodAll_cons_mk (Below.trod laidOut (by kernel_rfl) (of_decide_eq_true (by kernel_rfl)) k3 bel lt3) (trodAll_cons_mk (Below.trod laidOut (by kernel_rfl) (of_decide_eq_true (by kernel_rfl)) k4 bel lt4) (trodAll_cons_mk (Below.trod laidOut (by kernel_rfl) (of_decide_eq_true (by kernel_rfl)) k5 bel lt5) (trodAll_cons_mk (Below.trod laidOut (by kernel_rfl) (of_decide_eq_true (by kernel_rfl)) k6 bel lt6) (trodAll_cons_mk (Below.trod laidOut (by kernel_rfl) (of_decide_eq_true (by kernel_rfl)) k7 bel lt7) trodAll_mk0)))))))), rfl, bel.frame _, fun h => by cases h⟩
theorem fnSnailsRaceOfAll_over : Rows.fnSnailsRaceOfAllRow.holds Try.pinned (OpenSpec.ofChange Rows.fnSnailsRaceOfAllSpec) :=
  OpenClaim.holds_of_wide 5 Try.f5 rfl rfl rfl rfl rfl rfl rfl ⟨rfl, rfl, rfl, rfl, rfl⟩ rfl rfl rfl rfl rfl (by kernel_rfl) Try.func5 (by kernel_rfl)
    (of_decide_eq_true (by kernel_rfl)) (by unfold Func.isWrapper; first | (rw [if_pos (by decide +kernel)]; kernel_rfl) | (rw [if_neg (by decide +kernel)]; exact ⟨rfl, rfl⟩))
    (fun os started H enc _ => fnSnailsRaceOfAll_lifted os started H enc)
/-- The statement, as it is given. -/
theorem fnSnailsRaceOfAll_holds : Rows.FnSnailsRaceOfAllSaid := fnSnailsRaceOfAll_over


end fnSnailsRaceOfAll
end Go.Proofs.Ytemaoaepfepolaa
