/- areAll at impl.Train by a contract, over any function value. -/
import Derived.Test.YtolgpjlliaoneaaProg
import Derived.Test.YtolgpjlliaoneaaAreAll0
import Derived.Test.YtolgpjlliaoneaaTwoWalks
import Derived.WalkKit
import Derived.WalkSpells
import Derived.WalkLawsBesides
import Derived.Lib.Hide
import Derived.Deep.LoopGhost
import Derived.Deep.QuietTactic
import Derived.Deep.RegionWith
import Derived.Deep.RegionHeld3
import Derived.BigQuiet
import Derived.Shelf.Abstract
namespace Go.Proofs.Ytolgpjlliaoneaa
open Go.RowKit
set_option linter.unusedVariables false
set_option linter.unusedSimpArgs false
set_option maxHeartbeats 4000000 in
set_option maxRecDepth 100000 in
theorem areAllT (F : Nat) (cb : Array Value) (ok : Int → Int → Bool) (a : Option Addr) (cap : Nat) (xs : List (Int × Int)) (m : Int) (w : World) (h : RdP w a xs) (hn : xs.length ≤ 1048576)
    (eg : ∀ args w, (callFunc F args).run Try.prog w = .ok (.enter F args) w)
    (hc : ∀ (x y : Int) (W : World), Below w.heap.size w W → Calls Try.prog F (#[.agg #[.int .i64 x, .int .i64 y]] ++ cb) W fun e w' => e = .returned (.bool (ok x y)) ∧ Below W.heap.size W w') :
    Calls Try.prog 73 #[.slice a xs.length cap, .int .i64 m, .func (.func F) #[] cb] w fun e w' => e = .returned (.bool (inB (xs.length : Int) 1 m && allP ok xs)) ∧ Below w.heap.size w w' := by
  have hnI : (xs.length : Int) ≤ 1048576 := by omega
  have HC := Lib.hid hc
  clear hc
  cases hb : inB (xs.length : Int) 1 m
  · have HB := Lib.hid hb
    clear hb
    go_enter Try.func73, Try.ntmps73
    go_wp2_with (first | (go_at_call 47; refine (implIn _ _ _ _).mono ?_; rw [HB.out]; rintro e w1 ⟨rfl, rfl⟩))
    go_ret
    exact ⟨rfl, Below.refl _ _⟩
  · have HB := Lib.hid hb
    clear hb
    obtain ⟨R, hR⟩ : ∃ R, R = allP ok xs := ⟨_, rfl⟩
    rw [← hR, Bool.true_and]
    have HR := Lib.hid hR
    clear hR
    go_enter Try.func73, Try.ntmps73
    go_wp2_with (first | (go_at_call 47; refine (implIn _ _ _ _).mono ?_; rw [HB.out]; rintro e w1 ⟨rfl, rfl⟩))
    go_loopg [16] xs.length (fun k v11 wr => ∃ (j : Nat), v11 = .int .i64 (j : Int) ∧ j + k ≤ xs.length ∧ xs.length ≤ j + k ∧ Hid (∀ i, i < j → ok (px xs i) (py xs i) = true) ∧ Below w.heap.size w wr)
    case atStart => exact ⟨0, rfl, by omega, by omega, fun i hi => absurd hi (Nat.not_lt_zero _), Below.refl _ _⟩
    case round =>
      obtain ⟨j, rfl, h1, h2, hall, hbel⟩ := hrel
      by_cases hj : j < xs.length
      · rcases h with h | ⟨b, off, rfl, hlt, hcc⟩
        · rw [h] at hj; exact absurd hj (Nat.not_lt_zero _)
        · have hcj : wr.cell? ⟨b, off + j * 2, none⟩ = some (.int .i64 (px xs j)) := by rw [(bcell hbel).1 b _ hlt]; exact (hcc j hj).1
          have hck : wr.cell? ⟨b, off + j * 2 + 1, none⟩ = some (.int .i64 (py xs j)) := by rw [(bcell hbel).1 b _ hlt]; exact (hcc j hj).2
          have hjI : (j : Int) < (xs.length : Int) := by omega
          have HBl := Lib.hid hbel
          have hsz := hbel.size
          clear hbel hcc
          cases hw : ok (px xs j) (py xs j)
          · have HX := Lib.hid (HR.out.trans (allP_no hj hw))
            have HW := Lib.hid hw
            clear hw
            generalize px xs j = x at *
            generalize py xs j = y at *
            go_wp2_with (first | (go_at_fn F; refine (HC.out x y _ (by first | assumption | (repeat (first | exact Below.refl _ _ | refine Below.drew ?_ | refine below_drewN ?_ _ | refine Below.alloc ?_ (by first | omega | (simp; done) | (simp; omega)) _ | refine bchain ?_ (by assumption) (by first | omega | (simp; done) | (simp; omega)) | exact HBl.out)))).mono ?_; rw [HW.out]; rintro e w1 ⟨rfl, hb⟩))
            go_ret
            rw [HX.out]
            exact ⟨rfl, by first | exact HBl.out.trans (Below.mono (by assumption) (by first | omega | (simp; omega))) | (repeat (first | exact Below.refl _ _ | refine Below.drew ?_ | refine below_drewN ?_ _ | refine Below.alloc ?_ (by first | omega | (simp; done) | (simp; omega)) _ | refine bchain ?_ (by assumption) (by first | omega | (simp; done) | (simp; omega)) | exact HBl.out))⟩
          · have hall2 : Hid (∀ i, i < j + 1 → ok (px xs i) (py xs i) = true) := fun i hi => by
              by_cases q : i = j
              · subst q; exact hw
              · exact hall.out i (by omega)
            have HW := Lib.hid hw
            clear hw
            generalize px xs j = x at *
            generalize py xs j = y at *
            go_wp2_with (first | (go_at_fn F; refine (HC.out x y _ (by first | assumption | (repeat (first | exact Below.refl _ _ | refine Below.drew ?_ | refine below_drewN ?_ _ | refine Below.alloc ?_ (by first | omega | (simp; done) | (simp; omega)) _ | refine bchain ?_ (by assumption) (by first | omega | (simp; done) | (simp; omega)) | exact HBl.out)))).mono ?_; rw [HW.out]; rintro e w1 ⟨rfl, hb⟩))
            go_roundg (gk - 1)
            case rel => exact ⟨j + 1, by go_num, by omega, by omega, hall2, by first | exact HBl.out.trans (Below.mono (by assumption) (by first | omega | (simp; omega))) | (repeat (first | exact Below.refl _ _ | refine Below.drew ?_ | refine below_drewN ?_ _ | refine Below.alloc ?_ (by first | omega | (simp; done) | (simp; omega)) _ | refine bchain ?_ (by assumption) (by first | omega | (simp; done) | (simp; omega)) | exact HBl.out))⟩
            case measure => omega
      · have HX := Lib.hid (HR.out.trans (allP_of fun i hi => hall.out i (by omega)))
        have HBl := Lib.hid hbel
        clear hbel
        go_wp2_with fail
        go_ret
        rw [HX.out]
        exact ⟨rfl, HBl.out⟩
end Go.Proofs.Ytolgpjlliaoneaa
