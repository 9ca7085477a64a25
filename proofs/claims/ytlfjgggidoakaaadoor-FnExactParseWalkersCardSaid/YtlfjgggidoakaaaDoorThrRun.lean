/- Lists of runners: AreRunners and its kin by contracts, the program's and the model's. -/
import Derived.Test.YtlfjgggidoakaaaDoorProg
import Derived.Test.YtlfjgggidoakaaaDoorThrWalks
import Derived.Test.YtlfjgggidoakaaaDoorPairsR
import Derived.Test.YtlfjgggidoakaaaDoorAreAllR
import Derived.WalkKit
import Derived.WalkSpells
import Derived.WalkLawsBesides
import Derived.Lib.Hide
import Derived.Deep.LoopGhost
import Derived.Deep.QuietTactic
import Derived.Deep.RegionHeld3
import Derived.BigQuiet
namespace Go.Proofs.YtlfjgggidoakaaaDoor
open Go.RowKit
set_option linter.unusedVariables false
set_option linter.unusedSimpArgs false
/-- are they all runners, from 1 to 6 -/
def allR (l : Int) (xs : List (Int × Int)) : Bool := xs.all fun p => rn1 l p.1 p.2
def rns (l : Int) (xs : List (Int × Int)) : Bool := inB (xs.length : Int) 1 6 && allR l xs
theorem allR_at {l : Int} {xs : List (Int × Int)} (h : allR l xs = true) {i : Nat} (hi : i < xs.length) : rn1 l (px xs i) (py xs i) = true := by
  unfold allR at h
  rw [List.all_eq_true] at h
  have := h xs[i] (List.getElem_mem hi)
  simpa [px, py, List.getD, List.getElem?_eq_getElem hi] using this
theorem allR_no {l : Int} {xs : List (Int × Int)} {i : Nat} (hi : i < xs.length) (h : rn1 l (px xs i) (py xs i) = false) : allR l xs = false := by
  cases hw : allR l xs
  · rfl
  · rw [allR_at hw hi] at h; cases h
theorem allR_of {l : Int} {xs : List (Int × Int)} (h : ∀ i, i < xs.length → rn1 l (px xs i) (py xs i) = true) : allR l xs = true := by
  unfold allR
  rw [List.all_eq_true]
  intro p hp
  obtain ⟨i, hi, rfl⟩ := List.getElem_of_mem hp
  have := h i hi
  simpa [px, py, List.getD, List.getElem?_eq_getElem hi] using this
theorem rns_lap {l : Int} {xs : List (Int × Int)} (h : lapOk l = false) : rns l xs = false := by
  cases hw : rns l xs
  · rfl
  · unfold rns at hw
    rw [Bool.and_eq_true, inB_iff] at hw
    have := allR_at hw.2 (i := 0) (by omega)
    unfold rn1 at this
    rw [h] at this; simp at this
theorem rns_one (l p s : Int) : rns l [(p, s)] = rn1 l p s := by simp [rns, allR, inB]
theorem rns_two (l p s q r : Int) : rns l [(p, s), (q, r)] = rn2 l p s q r := by simp [rns, allR, inB, rn2]
theorem rns_at {l : Int} {xs : List (Int × Int)} (h : rns l xs = true) : 1 ≤ xs.length ∧ xs.length ≤ 6 ∧ ∀ i, i < xs.length → rn1 l (px xs i) (py xs i) = true := by
  unfold rns at h
  rw [Bool.and_eq_true, inB_iff] at h
  exact ⟨by omega, by omega, fun i hi => allR_at h.2 hi⟩
set_option maxHeartbeats 2000000 in
theorem trList_any (l : Int) (a : Option Addr) (cap : Nat) (xs : List (Int × Int)) (w : World) (h : RdP w a xs) (hn : xs.length ≤ 1048576) :
    Calls Tryd.prog 57 #[.int .i64 l, .slice a xs.length cap] w fun e w' => e = .returned (.bool (rns l xs)) ∧ Below w.heap.size w w' := by
  have hnI : (xs.length : Int) ≤ 1048576 := by omega
  cases hb : inB (xs.length : Int) 1 6
  · have HR := Lib.hid (show rns l xs = false by unfold rns; rw [hb]; rfl)
    have HB := Lib.hid hb
    clear hb
    go_enter Tryd.func57, Tryd.ntmps57
    go_wp2_with (first | (go_at_call 68; refine (specIn _ _ _ _).mono ?_; rw [HB.out]; rintro e w1 ⟨rfl, rfl⟩))
    go_ret
    rw [HR.out]
    exact ⟨rfl, Below.refl _ _⟩
  · have HB := Lib.hid hb
    have HR := Lib.hid (show rns l xs = allR l xs by unfold rns; rw [hb]; rfl)
    clear hb
    go_enter Tryd.func57, Tryd.ntmps57
    go_wp2_with (first | (go_at_call 68; refine (specIn _ _ _ _).mono ?_; rw [HB.out]; rintro e w1 ⟨rfl, rfl⟩))
    go_loopg [13] xs.length (fun k v11 wr => ∃ (j : Nat), v11 = .int .i64 (j : Int) ∧ j + k ≤ xs.length ∧ xs.length ≤ j + k ∧ Hid (∀ i, i < j → rn1 l (px xs i) (py xs i) = true) ∧ Below w.heap.size w wr)
    case atStart => exact ⟨0, rfl, by omega, by omega, fun i hi => absurd hi (Nat.not_lt_zero _), Below.refl _ _⟩
    case round =>
      obtain ⟨j, rfl, h1, h2, hall, hbel⟩ := hrel
      by_cases hj : j < xs.length
      · rcases h with h | ⟨b, off, rfl, hlt, hc⟩
        · rw [h] at hj; exact absurd hj (Nat.not_lt_zero _)
        · have hcj : wr.cell? ⟨b, off + j * 2, none⟩ = some (.int .i64 (px xs j)) := by rw [(bcell hbel).1 b _ hlt]; exact (hc j hj).1
          have hck : wr.cell? ⟨b, off + j * 2 + 1, none⟩ = some (.int .i64 (py xs j)) := by rw [(bcell hbel).1 b _ hlt]; exact (hc j hj).2
          have hjI : (j : Int) < (xs.length : Int) := by omega
          have HBl := Lib.hid hbel
          have hsz := hbel.size
          clear hbel hc
          cases hw : rn1 l (px xs j) (py xs j)
          · have HX := Lib.hid (HR.out.trans (allR_no hj hw))
            have HW := Lib.hid hw
            clear hw
            go_wp2_with (first | (go_at_call 85; refine (trRunner_any l (px xs j) (py xs j) _).mono ?_; rw [HW.out]; rintro e w1 ⟨rfl, hb⟩))
            go_ret
            rw [HX.out]
            exact ⟨rfl, bchain (HBl.out.alloc (by omega) _) (by assumption) (by simp; omega)⟩
          · have hall2 : Hid (∀ i, i < j + 1 → rn1 l (px xs i) (py xs i) = true) := fun i hi => by
              by_cases q : i = j
              · subst q; exact hw
              · exact hall.out i (by omega)
            have HW := Lib.hid hw
            clear hw
            go_wp2_with (first | (go_at_call 85; refine (trRunner_any l (px xs j) (py xs j) _).mono ?_; rw [HW.out]; rintro e w1 ⟨rfl, hb⟩))
            go_roundg (gk - 1)
            case rel => exact ⟨j + 1, by go_num, by omega, by omega, hall2, bchain (HBl.out.alloc (by omega) _) (by assumption) (by simp; omega)⟩
            case measure => omega
      · have HX := Lib.hid (HR.out.trans (allR_of fun i hi => hall.out i (by omega)))
        have HBl := Lib.hid hbel
        clear hbel
        go_wp2_with fail
        go_ret
        rw [HX.out]
        exact ⟨rfl, HBl.out⟩
set_option maxHeartbeats 2000000 in
theorem areRun1_any (l p s : Int) (B : Nat) (l1 : 2 ≤ l) (l2 : l ≤ 1000) (w : World) (hl : w.cell? ⟨B, 0, none⟩ = some (.int .i64 l)) (hB : B < w.heap.size) :
    Calls Tryd.prog 88 #[.agg #[.int .i64 p, .int .i64 s], .pointer (some ⟨B, 0, none⟩)] w fun e w' => e = .returned (.bool (rnOk l p s)) ∧ Below w.heap.size w w' := by
  cases k1 : inB p 0 (l - 1)
  · have H1 := Lib.hid k1
    have HR := Lib.hid (show rnOk l p s = false by simp [rnOk, k1])
    clear k1
    go_enter Tryd.func88, Tryd.ntmps88
    go_wp2_with (first | (go_at_call 86; refine (implIn _ _ _ _).mono ?_; rw [H1.out]; rintro e w1 ⟨rfl, rfl⟩))
    go_ret
    rw [HR.out]
    exact ⟨rfl, by (repeat (first | exact Below.refl _ _ | refine Below.drew ?_ | refine below_drewN ?_ _ | refine Below.setCell ?_ (by first | omega | (simp; done) | (simp; omega)) _ | refine Below.alloc ?_ (by first | omega | (simp; done) | (simp; omega)) _ | refine bchain ?_ (by assumption) (by first | omega | (simp; done) | (simp; omega))))⟩
  · have H1 := Lib.hid k1
    have HR := Lib.hid (show rnOk l p s = inB s 1 100 by simp [rnOk, k1])
    clear k1
    go_enter Tryd.func88, Tryd.ntmps88
    go_wp2_with (first | (go_at_call 86; refine (implIn _ _ _ _).mono ?_; (first | rw [H1.out] | skip); rintro e w1 ⟨rfl, rfl⟩))
    go_ret
    rw [HR.out]
    exact ⟨rfl, by (repeat (first | exact Below.refl _ _ | refine Below.drew ?_ | refine below_drewN ?_ _ | refine Below.setCell ?_ (by first | omega | (simp; done) | (simp; omega)) _ | refine Below.alloc ?_ (by first | omega | (simp; done) | (simp; omega)) _ | refine bchain ?_ (by assumption) (by first | omega | (simp; done) | (simp; omega))))⟩
set_option maxHeartbeats 2000000 in
theorem implAreRunners (l : Int) (a : Option Addr) (cap : Nat) (xs : List (Int × Int)) (w : World) (h : RdP w a xs) (hn : xs.length ≤ 1048576) :
    Calls Tryd.prog 60 #[.int .i64 l, .slice a xs.length cap] w fun e w' => e = .returned (.bool (rns l xs)) ∧ Below w.heap.size w w' := by
  have hmf : ∀ (fn : Fn) (first cap : Array Value) (w : World), (Instr.makeFunc fn first cap).run Tryd.prog w = .ok (.func fn first cap) w := fun _ _ _ _ => rfl
  have B0 : Below w.heap.size w (w.alloc (.cells #[.int .i64 l] 3)) := (Below.refl _ _).alloc (Nat.le_refl _) _
  have hs1 : w.heap.size < (w.alloc (.cells #[.int .i64 l] 3)).heap.size := by simp
  have hc1 : (w.alloc (.cells #[.int .i64 l] 3)).cell? ⟨w.heap.size, 0, none⟩ = some (.int .i64 l) := by go_simp
  cases hl : lapOk l
  · have HL := Lib.hid (show inB l 2 1000 = false from hl)
    have HR := Lib.hid (rns_lap (xs := xs) hl)
    clear hl
    go_enter Tryd.func60, Tryd.ntmps60
    go_wp2_with (first | (go_at_call 86; refine (implIn l 2 1000 _).mono ?_; rw [HL.out]; rintro e w1 ⟨rfl, rfl⟩))
    go_ret
    rw [HR.out]
    exact ⟨rfl, B0⟩
  have HL := Lib.hid (show inB l 2 1000 = true from hl)
  have l1 := (lapOk_iff.1 hl).1
  have l2 := (lapOk_iff.1 hl).2
  have HR := Lib.hid (show (inB (xs.length : Int) 1 6 && allP (rnOk l) xs) = rns l xs by unfold rns allR allP rn1; rw [hl]; simp only [Bool.true_and])
  clear hl
  go_enter Tryd.func60, Tryd.ntmps60
  go_wp2_with (first | (go_at_call 86; refine (implIn l 2 1000 _).mono ?_; rw [HL.out]; rintro e w1 ⟨rfl, rfl⟩))
  refine (areAllR 88 #[.pointer (some ⟨w.heap.size, 0, none⟩)] (rnOk l) a cap xs 6 _ (h.below B0) hn (enters_of Tryd.func88 (by kernel_rfl) rfl) ?_).mono ?_
  · intro x y W hW
    have e2 : (#[.agg #[.int .i64 x, .int .i64 y]] ++ #[.pointer (some ⟨w.heap.size, 0, none⟩)] : Array Value) = #[.agg #[.int .i64 x, .int .i64 y], .pointer (some ⟨w.heap.size, 0, none⟩)] := by simp
    rw [e2]
    exact areRun1_any l x y w.heap.size l1 l2 W (by rw [(bcell hW).1 _ _ hs1]; exact hc1) (Nat.lt_of_lt_of_le hs1 hW.size)
  rintro e w1 ⟨rfl, hb⟩
  have B1 := B0.trans (hb.mono B0.size)
  go_wp2_with fail
  go_ret
  rw [HR.out]
  exact ⟨rfl, B1⟩
end Go.Proofs.YtlfjgggidoakaaaDoor
