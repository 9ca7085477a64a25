/- areAll at int by a contract, over any function value that leaves the world as it is. -/
import Derived.Test.YtadfjepfjbllmaaProg
import Derived.Test.YtadfjepfjbllmaaAreAll0
import Derived.Test.YtadfjepfjbllmaaSlices
import Derived.WalkKit
import Derived.WalkSpells
import Derived.WalkLawsBesides
import Derived.Lib.Hide
import Derived.Deep.LoopGhost
import Derived.Deep.QuietTactic
import Derived.Deep.RegionWith
import Derived.Deep.RegionHeld3
import Derived.BigQuiet
import Derived.Shelf.Abstract
namespace Go.Proofs.Ytadfjepfjbllmaa
open Go.RowKit
set_option linter.unusedVariables false
set_option linter.unusedSimpArgs false
set_option maxHeartbeats 4000000 in
set_option maxRecDepth 100000 in
theorem areAllI (F : Nat) (cb : Array Value) (ok : Int → Bool) (a : Option Addr) (cap : Nat) (xs : List Int) (m : Int) (w : World) (h : Rd w a xs) (hn : xs.length ≤ 4611686018427387904)
    (eg : ∀ args w, (callFunc F args).run Try.prog w = .ok (.enter F args) w)
    (hc : ∀ (x : Int) (W : World), Calls Try.prog F (#[.int .i64 x] ++ cb) W fun e w' => e = .returned (.bool (ok x)) ∧ W = w') :
    Calls Try.prog 58 #[.slice a xs.length cap, .int .i64 m, .func (.func F) #[] cb] w fun e w' => e = .returned (.bool (inB (xs.length : Int) 1 m && allV ok xs)) ∧ w = w' := by
  have hnI : (xs.length : Int) ≤ 4611686018427387904 := by omega
  have HC := Lib.hid hc
  clear hc
  cases hb : inB (xs.length : Int) 1 m
  · have HB := Lib.hid hb
    clear hb
    go_enter Try.func58, Try.ntmps58
    go_wp2_with (first | (go_at_call 41; refine (implIn _ _ _ _).mono ?_; rw [HB.out]; rintro e w1 ⟨rfl, rfl⟩))
    go_ret
    exact ⟨rfl, rfl⟩
  · have HB := Lib.hid hb
    clear hb
    obtain ⟨R, hR⟩ : ∃ R, R = allV ok xs := ⟨_, rfl⟩
    rw [← hR, Bool.true_and]
    have HR := Lib.hid hR
    clear hR
    go_enter Try.func58, Try.ntmps58
    go_wp2_with (first | (go_at_call 41; refine (implIn _ _ _ _).mono ?_; rw [HB.out]; rintro e w1 ⟨rfl, rfl⟩))
    go_loopg [16] xs.length (fun k v wr => ∃ (j : Nat), v = .int .i64 (j : Int) ∧ j + k ≤ xs.length ∧ xs.length ≤ j + k ∧ Hid (∀ i, i < j → ok (xs.getD i 0) = true) ∧ w = wr)
    case atStart => exact ⟨0, rfl, by omega, by omega, fun i hi => absurd hi (Nat.not_lt_zero _), rfl⟩
    case round =>
      obtain ⟨j, rfl, h1, h2, hall, rfl⟩ := hrel
      by_cases hj : j < xs.length
      · rcases h with h | ⟨b, off, rfl, hlt, hcc⟩
        · rw [h] at hj; exact absurd hj (Nat.not_lt_zero _)
        · have hcj := hcc j hj
          have hjI : (j : Int) < (xs.length : Int) := by omega
          clear hcc
          cases hw : ok (xs.getD j 0)
          · have HX := Lib.hid (HR.out.trans (allV_no hj hw))
            have HW := Lib.hid hw
            clear hw
            generalize xs.getD j 0 = x at *
            go_wp2_with (first | (go_at_fn F; refine (HC.out x _).mono ?_; rw [HW.out]; rintro e w1 ⟨rfl, rfl⟩))
            go_ret
            rw [HX.out]
            exact ⟨rfl, rfl⟩
          · have hall2 : Hid (∀ i, i < j + 1 → ok (xs.getD i 0) = true) := fun i hi => by
              by_cases q : i = j
              · subst q; exact hw
              · exact hall.out i (by omega)
            have HW := Lib.hid hw
            clear hw
            generalize xs.getD j 0 = x at *
            go_wp2_with (first | (go_at_fn F; refine (HC.out x _).mono ?_; rw [HW.out]; rintro e w1 ⟨rfl, rfl⟩))
            go_roundg (gk - 1)
            case rel => exact ⟨j + 1, by go_num, by omega, by omega, hall2, rfl⟩
            case measure => omega
      · have HX := Lib.hid (HR.out.trans (allV_of fun i hi => hall.out i (by omega)))
        go_wp2_with fail
        go_ret
        rw [HX.out]
        exact ⟨rfl, rfl⟩
end Go.Proofs.Ytadfjepfjbllmaa
