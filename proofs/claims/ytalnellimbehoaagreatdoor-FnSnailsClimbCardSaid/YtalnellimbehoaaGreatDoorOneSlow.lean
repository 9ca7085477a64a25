/- Contracts of chapter 1's functions, the program's and the model's, over one translation. -/
import Derived.Test.YtalnellimbehoaaGreatDoorProg
import Derived.Test.YtalnellimbehoaaGreatDoorOneWalks
import Derived.Test.YtalnellimbehoaaGreatDoorMathB
import Derived.Deep.LoopGhost
import Derived.WalkKit
import Derived.WalkSpells
import Derived.WalkLawsBesides
import Derived.Lib.Hide
import Derived.Deep.RegionWith
namespace Go.Proofs.YtalnellimbehoaaGreatDoor
open Go.RowKit
set_option linter.unusedVariables false
set_option linter.unusedSimpArgs false
set_option maxHeartbeats 2000000 in
theorem specSlowestUp (n y d : Int) (w : World) :
    Calls Tryz.prog 28 #[.int .i64 n, .int .i64 y, .int .i64 d] w fun e w' => e = .returned (.tuple #[.int .i64 (if (inB n 1 1000000 && inB y 1 1000000 && inB d 0 1000) then (upF d n y 1000 1).1 else 0), .bool ((inB n 1 1000000 && inB y 1 1000000 && inB d 0 1000) && (upF d n y 1000 1).2)]) ∧ Below w.heap.size w w' := by
  cases hn : inB n 1 1000000 <;> cases hy : inB y 1 1000000 <;> cases hp : inB d 0 1000
  case true.true.true =>
    have pl := inB_iff.1 hp
    have pl1 := pl.1
    have pl2 := pl.2
    clear pl
    go_enter Tryz.func28, Tryz.ntmps28
    go_wp2_with (first | (go_at_call 58; refine (specIn _ _ _ _).mono ?_; rintro e w1 ⟨rfl, rfl⟩) | go_in)
    go_loopg [8] 1000 (fun k v wr => ∃ up : Int, v = .int .i64 up ∧ 1 ≤ up ∧ up + (k : Int) ≤ 1001 ∧ 1001 ≤ up + (k : Int) ∧ Hid (upF d n y 1000 1 = upF d n y k up) ∧ Below w.heap.size w wr)
    case atStart => exact ⟨1, rfl, by omega, by omega, by omega, rfl, Below.refl _ _⟩
    case round =>
      obtain ⟨up, rfl, q1, q2, q3, HE, hbel⟩ := hrel
      have hz0 := hbel.size
      cases gk with
      | zero =>
        have q4 : 1000 < up := by omega
        go_wp2
        go_ret2
        refine ⟨rIB ?_ ?_, hbel⟩
        · simp only [HE.out, Bool.and_self, if_true]; rfl
        · simp only [HE.out, Bool.and_self, Bool.true_and]; rfl
      | succ k =>
        have q4 : up ≤ 1000 := by omega
        have hS : snOk up d = true := snOk_iff.2 (by omega)
        have fb := far_bd up d y hS hy
        by_cases hg : n ≤ far up d y
        · have HY := Lib.hid (HE.out.trans (upF_yes hg))
          clear HE
          go_wp2_with (first | (go_at_call 43; refine (snEvening_any up d y hS hy _).mono ?_; rintro e w1 ⟨rfl, hb⟩; have hc := (bcell hb).1; have hf := (bcell hb).2; have hz : w.heap.size ≤ w1.heap.size := (by have := hb.size; (try simp at this); omega)) | go_in)
          go_ret2
          refine ⟨rIB ?_ ?_, (by first | assumption | (refine bchain ?_ (by assumption) (by omega); assumption))⟩
          · simp only [HY.out, Bool.and_self, if_true]
          · simp only [HY.out, Bool.and_self, Bool.true_and]
        · have HY := Lib.hid (HE.out.trans (upF_no hg))
          clear HE
          go_wp2_with (first | (go_at_call 43; refine (snEvening_any up d y hS hy _).mono ?_; rintro e w1 ⟨rfl, hb⟩; have hc := (bcell hb).1; have hf := (bcell hb).2; have hz : w.heap.size ≤ w1.heap.size := (by have := hb.size; (try simp at this); omega)) | go_in)
          go_roundg k
          case rel => exact ⟨up + 1, rfl, by omega, by omega, by omega, HY.out, (by first | assumption | (refine bchain ?_ (by assumption) (by omega); assumption))⟩
          case measure => omega
  all_goals
    go_enter Tryz.func28, Tryz.ntmps28
    go_wp2_with (first | (go_at_call 58; refine (specIn _ _ _ _).mono ?_; rintro e w1 ⟨rfl, rfl⟩) | go_in)
    all_goals (go_ret2; refine ⟨rIB ?_ ?_, ?_⟩)
    all_goals first | (simp [hn, hy, hp]; done) | (repeat (first | exact Below.refl _ _ | refine Below.drew ?_ | refine Below.alloc ?_ (by first | omega | (simp; done) | (simp; omega)) _ | refine bchain ?_ (by assumption) (by first | omega | (simp; done) | (simp; omega))))
set_option maxHeartbeats 2000000 in
theorem specMostDown (n y u : Int) (w : World) :
    Calls Tryz.prog 31 #[.int .i64 n, .int .i64 y, .int .i64 u] w fun e w' => e = .returned (.tuple #[.int .i64 (if (inB n 1 1000000 && inB y 1 1000000 && inB u 1 1000) then (dnF u n y 1001 1000).1 else 0), .bool ((inB n 1 1000000 && inB y 1 1000000 && inB u 1 1000) && (dnF u n y 1001 1000).2)]) ∧ Below w.heap.size w w' := by
  cases hn : inB n 1 1000000 <;> cases hy : inB y 1 1000000 <;> cases hp : inB u 1 1000
  case true.true.true =>
    have pl := inB_iff.1 hp
    have pl1 := pl.1
    have pl2 := pl.2
    clear pl
    go_enter Tryz.func31, Tryz.ntmps31
    go_wp2_with (first | (go_at_call 58; refine (specIn _ _ _ _).mono ?_; rintro e w1 ⟨rfl, rfl⟩) | go_in)
    go_loopg [8] 1001 (fun k v wr => ∃ d : Int, v = .int .i64 d ∧ d ≤ 1000 ∧ d + 1 ≤ (k : Int) ∧ (k : Int) ≤ d + 1 ∧ Hid (dnF u n y 1001 1000 = dnF u n y k d) ∧ Below w.heap.size w wr)
    case atStart => exact ⟨1000, rfl, by omega, by omega, by omega, rfl, Below.refl _ _⟩
    case round =>
      obtain ⟨d, rfl, q1, q2, q3, HE, hbel⟩ := hrel
      have hz0 := hbel.size
      cases gk with
      | zero =>
        have q4 : d < 0 := by omega
        go_wp2
        go_ret2
        refine ⟨rIB ?_ ?_, hbel⟩
        · simp only [HE.out, Bool.and_self, if_true]; rfl
        · simp only [HE.out, Bool.and_self, Bool.true_and]; rfl
      | succ k =>
        have q4 : 0 ≤ d := by omega
        have hS : snOk u d = true := snOk_iff.2 (by omega)
        have fb := far_bd u d y hS hy
        by_cases hg : n ≤ far u d y
        · have HY := Lib.hid (HE.out.trans (dnF_yes hg))
          clear HE
          go_wp2_with (first | (go_at_call 43; refine (snEvening_any u d y hS hy _).mono ?_; rintro e w1 ⟨rfl, hb⟩; have hc := (bcell hb).1; have hf := (bcell hb).2; have hz : w.heap.size ≤ w1.heap.size := (by have := hb.size; (try simp at this); omega)) | go_in)
          go_ret2
          refine ⟨rIB ?_ ?_, (by first | assumption | (refine bchain ?_ (by assumption) (by omega); assumption))⟩
          · simp only [HY.out, Bool.and_self, if_true]
          · simp only [HY.out, Bool.and_self, Bool.true_and]
        · have HY := Lib.hid (HE.out.trans (dnF_no hg))
          clear HE
          go_wp2_with (first | (go_at_call 43; refine (snEvening_any u d y hS hy _).mono ?_; rintro e w1 ⟨rfl, hb⟩; have hc := (bcell hb).1; have hf := (bcell hb).2; have hz : w.heap.size ≤ w1.heap.size := (by have := hb.size; (try simp at this); omega)) | go_in)
          go_roundg k
          case rel => exact ⟨d - 1, rfl, by omega, by omega, by omega, HY.out, (by first | assumption | (refine bchain ?_ (by assumption) (by omega); assumption))⟩
          case measure => omega
  all_goals
    go_enter Tryz.func31, Tryz.ntmps31
    go_wp2_with (first | (go_at_call 58; refine (specIn _ _ _ _).mono ?_; rintro e w1 ⟨rfl, rfl⟩) | go_in)
    all_goals (go_ret2; refine ⟨rIB ?_ ?_, ?_⟩)
    all_goals first | (simp [hn, hy, hp]; done) | (repeat (first | exact Below.refl _ _ | refine Below.drew ?_ | refine Below.alloc ?_ (by first | omega | (simp; done) | (simp; omega)) _ | refine bchain ?_ (by assumption) (by first | omega | (simp; done) | (simp; omega))))
set_option maxHeartbeats 2000000 in
theorem implSlowestUp (n y d : Int) (w : World) :
    Calls Tryz.prog 27 #[.int .i64 n, .int .i64 y, .int .i64 d] w fun e w' => e = .returned (.tuple #[.int .i64 (if (inB n 1 1000000 && inB y 1 1000000 && inB d 0 1000) then (upF d n y 1000 1).1 else 0), .bool ((inB n 1 1000000 && inB y 1 1000000 && inB d 0 1000) && (upF d n y 1000 1).2)]) ∧ Below w.heap.size w w' := by
  cases hn : inB n 1 1000000 <;> cases hy : inB y 1 1000000 <;> cases hp : inB d 0 1000
  case true.true.true =>
    have pl := inB_iff.1 hp
    have pl1 := pl.1
    have pl2 := pl.2
    clear pl
    go_enter Tryz.func27, Tryz.ntmps27
    go_wp2_with (first | (go_at_call 51; refine (implIn _ _ _ _).mono ?_; rintro e w1 ⟨rfl, rfl⟩) | go_in)
    go_loopg [8] 1000 (fun k v wr => ∃ up : Int, v = .int .i64 up ∧ 1 ≤ up ∧ up + (k : Int) ≤ 1001 ∧ 1001 ≤ up + (k : Int) ∧ Hid (upF d n y 1000 1 = upF d n y k up) ∧ Below w.heap.size w wr)
    case atStart => exact ⟨1, rfl, by omega, by omega, by omega, rfl, Below.refl _ _⟩
    case round =>
      obtain ⟨up, rfl, q1, q2, q3, HE, hbel⟩ := hrel
      have hz0 := hbel.size
      cases gk with
      | zero =>
        have q4 : 1000 < up := by omega
        go_wp2
        go_ret2
        refine ⟨rIB ?_ ?_, hbel⟩
        · simp only [HE.out, Bool.and_self, if_true]; rfl
        · simp only [HE.out, Bool.and_self, Bool.true_and]; rfl
      | succ k =>
        have q4 : up ≤ 1000 := by omega
        have hS : snOk up d = true := snOk_iff.2 (by omega)
        have fb := far_bd up d y hS hy
        by_cases hg : n ≤ far up d y
        · have HY := Lib.hid (HE.out.trans (upF_yes hg))
          clear HE
          go_wp2_with (first | (go_at_call 47; refine (farthest_any up d y hS hy _).mono ?_; rintro e w1 ⟨rfl, hb⟩; have hc := (bcell hb).1; have hf := (bcell hb).2; have hz : w.heap.size ≤ w1.heap.size := (by have := hb.size; (try simp at this); omega)) | go_in)
          go_ret2
          refine ⟨rIB ?_ ?_, (by first | assumption | (refine bchain ?_ (by assumption) (by omega); assumption))⟩
          · simp only [HY.out, Bool.and_self, if_true]
          · simp only [HY.out, Bool.and_self, Bool.true_and]
        · have HY := Lib.hid (HE.out.trans (upF_no hg))
          clear HE
          go_wp2_with (first | (go_at_call 47; refine (farthest_any up d y hS hy _).mono ?_; rintro e w1 ⟨rfl, hb⟩; have hc := (bcell hb).1; have hf := (bcell hb).2; have hz : w.heap.size ≤ w1.heap.size := (by have := hb.size; (try simp at this); omega)) | go_in)
          go_roundg k
          case rel => exact ⟨up + 1, rfl, by omega, by omega, by omega, HY.out, (by first | assumption | (refine bchain ?_ (by assumption) (by omega); assumption))⟩
          case measure => omega
  all_goals
    go_enter Tryz.func27, Tryz.ntmps27
    go_wp2_with (first | (go_at_call 51; refine (implIn _ _ _ _).mono ?_; rintro e w1 ⟨rfl, rfl⟩) | go_in)
    all_goals (go_ret2; refine ⟨rIB ?_ ?_, ?_⟩)
    all_goals first | (simp [hn, hy, hp]; done) | (repeat (first | exact Below.refl _ _ | refine Below.drew ?_ | refine Below.alloc ?_ (by first | omega | (simp; done) | (simp; omega)) _ | refine bchain ?_ (by assumption) (by first | omega | (simp; done) | (simp; omega))))
set_option maxHeartbeats 2000000 in
theorem implMostDown (n y u : Int) (w : World) :
    Calls Tryz.prog 30 #[.int .i64 n, .int .i64 y, .int .i64 u] w fun e w' => e = .returned (.tuple #[.int .i64 (if (inB n 1 1000000 && inB y 1 1000000 && inB u 1 1000) then (dnF u n y 1001 1000).1 else 0), .bool ((inB n 1 1000000 && inB y 1 1000000 && inB u 1 1000) && (dnF u n y 1001 1000).2)]) ∧ Below w.heap.size w w' := by
  cases hn : inB n 1 1000000 <;> cases hy : inB y 1 1000000 <;> cases hp : inB u 1 1000
  case true.true.true =>
    have pl := inB_iff.1 hp
    have pl1 := pl.1
    have pl2 := pl.2
    clear pl
    go_enter Tryz.func30, Tryz.ntmps30
    go_wp2_with (first | (go_at_call 51; refine (implIn _ _ _ _).mono ?_; rintro e w1 ⟨rfl, rfl⟩) | go_in)
    go_loopg [8] 1001 (fun k v wr => ∃ d : Int, v = .int .i64 d ∧ d ≤ 1000 ∧ d + 1 ≤ (k : Int) ∧ (k : Int) ≤ d + 1 ∧ Hid (dnF u n y 1001 1000 = dnF u n y k d) ∧ Below w.heap.size w wr)
    case atStart => exact ⟨1000, rfl, by omega, by omega, by omega, rfl, Below.refl _ _⟩
    case round =>
      obtain ⟨d, rfl, q1, q2, q3, HE, hbel⟩ := hrel
      have hz0 := hbel.size
      cases gk with
      | zero =>
        have q4 : d < 0 := by omega
        go_wp2
        go_ret2
        refine ⟨rIB ?_ ?_, hbel⟩
        · simp only [HE.out, Bool.and_self, if_true]; rfl
        · simp only [HE.out, Bool.and_self, Bool.true_and]; rfl
      | succ k =>
        have q4 : 0 ≤ d := by omega
        have hS : snOk u d = true := snOk_iff.2 (by omega)
        have fb := far_bd u d y hS hy
        by_cases hg : n ≤ far u d y
        · have HY := Lib.hid (HE.out.trans (dnF_yes hg))
          clear HE
          go_wp2_with (first | (go_at_call 47; refine (farthest_any u d y hS hy _).mono ?_; rintro e w1 ⟨rfl, hb⟩; have hc := (bcell hb).1; have hf := (bcell hb).2; have hz : w.heap.size ≤ w1.heap.size := (by have := hb.size; (try simp at this); omega)) | go_in)
          go_ret2
          refine ⟨rIB ?_ ?_, (by first | assumption | (refine bchain ?_ (by assumption) (by omega); assumption))⟩
          · simp only [HY.out, Bool.and_self, if_true]
          · simp only [HY.out, Bool.and_self, Bool.true_and]
        · have HY := Lib.hid (HE.out.trans (dnF_no hg))
          clear HE
          go_wp2_with (first | (go_at_call 47; refine (farthest_any u d y hS hy _).mono ?_; rintro e w1 ⟨rfl, hb⟩; have hc := (bcell hb).1; have hf := (bcell hb).2; have hz : w.heap.size ≤ w1.heap.size := (by have := hb.size; (try simp at this); omega)) | go_in)
          go_roundg k
          case rel => exact ⟨d - 1, rfl, by omega, by omega, by omega, HY.out, (by first | assumption | (refine bchain ?_ (by assumption) (by omega); assumption))⟩
          case measure => omega
  all_goals
    go_enter Tryz.func30, Tryz.ntmps30
    go_wp2_with (first | (go_at_call 51; refine (implIn _ _ _ _).mono ?_; rintro e w1 ⟨rfl, rfl⟩) | go_in)
    all_goals (go_ret2; refine ⟨rIB ?_ ?_, ?_⟩)
    all_goals first | (simp [hn, hy, hp]; done) | (repeat (first | exact Below.refl _ _ | refine Below.drew ?_ | refine Below.alloc ?_ (by first | omega | (simp; done) | (simp; omega)) _ | refine bchain ?_ (by assumption) (by first | omega | (simp; done) | (simp; omega))))
end Go.Proofs.YtalnellimbehoaaGreatDoor
