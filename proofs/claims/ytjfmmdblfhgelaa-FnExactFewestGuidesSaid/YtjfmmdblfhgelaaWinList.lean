/- Lists of visits: the model's functions by contracts. -/
import Derived.Test.YtjfmmdblfhgelaaWinWalks
import Derived.Test.YtjfmmdblfhgelaaDogWalks
import Derived.Test.YtjfmmdblfhgelaaPairsG
import Derived.WalkKit
import Derived.WalkSpells
import Derived.WalkLawsBesides
import Derived.Lib.Hide
import Derived.Deep.LoopGhost
import Derived.Deep.QuietTactic
import Derived.Deep.RegionWith
import Derived.Deep.RegionHeld3
import Derived.BigQuiet
namespace Go.Proofs.Ytjfmmdblfhgelaa
open Go.RowKit
set_option linter.unusedVariables false
set_option linter.unusedSimpArgs false
set_option maxHeartbeats 2000000 in
theorem wiGood_any (a : Option Addr) (cap : Nat) (xs : List (Int × Int)) (w : World) (h : RdP w a xs) (hn : xs.length ≤ 1048576) :
    Calls Try.prog 32 #[.slice a xs.length cap] w fun e w' => e = .returned (.bool (viS xs)) ∧ Below w.heap.size w w' := by
  have hnI : (xs.length : Int) ≤ 1048576 := by omega
  cases hb : inB (xs.length : Int) 1 6
  · have HR := Lib.hid (show viS xs = false by unfold viS; rw [hb]; rfl)
    have HB := Lib.hid hb
    clear hb
    go_enter Try.func32, Try.ntmps32
    go_wp2_with (first | (go_at_call 33; refine (specIn _ _ _ _).mono ?_; rw [HB.out]; rintro e w1 ⟨rfl, rfl⟩))
    go_ret
    rw [HR.out]
    exact ⟨rfl, Below.refl _ _⟩
  · have HB := Lib.hid hb
    have HR := Lib.hid (show viS xs = allP viOk xs by unfold viS; rw [hb]; rfl)
    clear hb
    go_enter Try.func32, Try.ntmps32
    go_wp2_with (first | (go_at_call 33; refine (specIn _ _ _ _).mono ?_; rw [HB.out]; rintro e w1 ⟨rfl, rfl⟩))
    go_loopg [11] xs.length (fun k v11 wr => ∃ (j : Nat), v11 = .int .i64 (j : Int) ∧ j + k ≤ xs.length ∧ xs.length ≤ j + k ∧ Hid (∀ i, i < j → viOk (px xs i) (py xs i) = true) ∧ Below w.heap.size w wr)
    case atStart => exact ⟨0, rfl, by omega, by omega, fun i hi => absurd hi (Nat.not_lt_zero _), Below.refl _ _⟩
    case round =>
      obtain ⟨j, rfl, h1, h2, hall, hbel⟩ := hrel
      by_cases hj : j < xs.length
      · rcases h with h | ⟨b, off, rfl, hlt, hc⟩
        · rw [h] at hj; exact absurd hj (Nat.not_lt_zero _)
        · have hcj : wr.cell? ⟨b, off + j * 2, none⟩ = some (.int .i64 (px xs j)) := by rw [(bcell hbel).1 b _ hlt]; exact (hc j hj).1
          have hck : wr.cell? ⟨b, off + j * 2 + 1, none⟩ = some (.int .i64 (py xs j)) := by rw [(bcell hbel).1 b _ hlt]; exact (hc j hj).2
          have hjI : (j : Int) < (xs.length : Int) := by omega
          have HBl := Lib.hid hbel
          have hsz := hbel.size
          clear hbel hc
          cases k1 : inB (px xs j) 0 200
          · have HX := Lib.hid (HR.out.trans (allP_no hj (by simp [viOk, k1])))
            have H1 := Lib.hid k1
            clear k1
            go_wp2_with (first | (go_at_call 33; refine (specIn _ _ _ _).mono ?_; (first | rw [H1.out] | rw [H2.out]); rintro e w1 ⟨rfl, rfl⟩))
            go_ret
            rw [HX.out]
            exact ⟨rfl, by (repeat (first | exact HBl.out | exact Below.refl _ _ | refine Below.drew ?_ | refine below_drewN ?_ _ | refine Below.alloc ?_ (by first | omega | (simp; done) | (simp; omega)) _ | refine bchain ?_ (by assumption) (by first | omega | (simp; done) | (simp; omega))))⟩
          cases k2 : inB (py xs j) 0 200
          · have HX := Lib.hid (HR.out.trans (allP_no hj (by simp [viOk, k2])))
            have H1 := Lib.hid k1
            have H2 := Lib.hid k2
            clear k1 k2
            go_wp2_with (first | (go_at_call 33; refine (specIn _ _ _ _).mono ?_; (first | rw [H1.out] | rw [H2.out]); rintro e w1 ⟨rfl, rfl⟩))
            go_ret
            rw [HX.out]
            exact ⟨rfl, by (repeat (first | exact HBl.out | exact Below.refl _ _ | refine Below.drew ?_ | refine below_drewN ?_ _ | refine Below.alloc ?_ (by first | omega | (simp; done) | (simp; omega)) _ | refine bchain ?_ (by assumption) (by first | omega | (simp; done) | (simp; omega))))⟩
          · have hall2 : Hid (∀ i, i < j + 1 → viOk (px xs i) (py xs i) = true) := fun i hi => by
              by_cases q : i = j
              · subst q; simp [viOk, k1, k2]
              · exact hall.out i (by omega)
            have H1 := Lib.hid k1
            have H2 := Lib.hid k2
            clear k1 k2
            go_wp2_with (first | (go_at_call 33; refine (specIn _ _ _ _).mono ?_; (first | rw [H1.out] | rw [H2.out]); rintro e w1 ⟨rfl, rfl⟩))
            go_roundg (gk - 1)
            case rel => exact ⟨j + 1, by go_num, by omega, by omega, hall2, by (repeat (first | exact HBl.out | exact Below.refl _ _ | refine Below.drew ?_ | refine below_drewN ?_ _ | refine Below.alloc ?_ (by first | omega | (simp; done) | (simp; omega)) _ | refine bchain ?_ (by assumption) (by first | omega | (simp; done) | (simp; omega))))⟩
            case measure => omega
      · have HX := Lib.hid (HR.out.trans (allP_of fun i hi => hall.out i (by omega)))
        have HBl := Lib.hid hbel
        clear hbel
        go_wp2_with fail
        go_ret
        rw [HX.out]
        exact ⟨rfl, HBl.out⟩
end Go.Proofs.Ytjfmmdblfhgelaa
