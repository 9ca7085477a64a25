/- Contracts of chapter 1's functions, the program's and the model's, over one translation. -/
import Derived.Test.YtalnellimbehoaaGreatDoorProg
import Derived.Test.YtalnellimbehoaaGreatDoorOneWalks
import Derived.WalkKit
import Derived.WalkSpells
import Derived.WalkLawsBesides
import Derived.Lib.Hide
import Derived.Deep.RegionWith
namespace Go.Proofs.YtalnellimbehoaaGreatDoor
open Go.RowKit
set_option linter.unusedVariables false
set_option linter.unusedSimpArgs false
set_option maxHeartbeats 2000000 in
theorem specMorningHeight (u d n y : Int) (w : World) :
    Calls Tryz.prog 7 #[.agg #[.int .i64 u, .int .i64 d], .int .i64 n, .int .i64 y] w fun e w' => e = .returned (.tuple #[.int .i64 (if (snOk u d && inB n 1 1000000 && inB y 1 1000000) then mor u d n y else 0), .bool (snOk u d && inB n 1 1000000 && inB y 1 1000000)]) ∧ Below w.heap.size w w' := by
  cases hs : snOk u d <;> cases hn : inB n 1 1000000 <;> cases hy : inB y 1 1000000
  all_goals
    go_enter Tryz.func7, Tryz.ntmps7
    go_wp2_with (first | (go_at_call 58; refine (specIn _ _ _ _).mono ?_; rintro e w1 ⟨rfl, rfl⟩) | (go_at_call 48; refine (snGood_any _ _ _).mono ?_; rintro e w1 ⟨rfl, hb⟩; have hc := (bcell hb).1; have hf := (bcell hb).2; have hz : w.heap.size < w1.heap.size := (by have := hb.size; (try simp at this); omega); have hcA := fun o => (bcell hb).1 w.heap.size o (by first | omega | (simp; omega) | (simp; done))) | (go_at_call 45; refine (snCan_any _ _ _ _).mono ?_; rintro e w1 ⟨rfl, hb⟩; have hc := (bcell hb).1; have hf := (bcell hb).2; have hz : w.heap.size < w1.heap.size := (by have := hb.size; (try simp at this); omega); have hcA := fun o => (bcell hb).1 w.heap.size o (by first | omega | (simp; omega) | (simp; done))) | (go_at_call 41; refine (snMorning_any u d n y hs hn hy _).mono ?_; rintro e w1 ⟨rfl, hb⟩; have hc := (bcell hb).1; have hf := (bcell hb).2; have hz : w.heap.size < w1.heap.size := (by have := hb.size; (try simp at this); omega); have hcA := fun o => (bcell hb).1 w.heap.size o (by first | omega | (simp; omega) | (simp; done))) | go_in)
    all_goals (go_ret2; refine ⟨rIB ?_ ?_, ?_⟩)
    all_goals first | (simp [hs, hn, hy]; done) | (repeat (first | exact Below.refl _ _ | refine Below.drew ?_ | refine Below.alloc ?_ (by first | omega | (simp; done) | (simp; omega)) _ | refine bchain ?_ (by assumption) (by first | omega | (simp; done) | (simp; omega))))
set_option maxHeartbeats 2000000 in
theorem implMorningHeight (u d n y : Int) (w : World) :
    Calls Tryz.prog 6 #[.agg #[.int .i64 u, .int .i64 d], .int .i64 n, .int .i64 y] w fun e w' => e = .returned (.tuple #[.int .i64 (if (snOk u d && inB n 1 1000000 && inB y 1 1000000) then mor u d n y else 0), .bool (snOk u d && inB n 1 1000000 && inB y 1 1000000)]) ∧ Below w.heap.size w w' := by
  cases hs : snOk u d <;> cases hn : inB n 1 1000000 <;> cases hy : inB y 1 1000000
  case true.true.true =>
    rcases Decidable.em (y = 1) with rfl | hd
    · go_enter Tryz.func6, Tryz.ntmps6
      go_wp2_with (first | (go_at_call 51; refine (implIn _ _ _ _).mono ?_; rintro e w1 ⟨rfl, rfl⟩) | (go_at_call 18; refine (implIsSnail _ _ _).mono ?_; rintro e w1 ⟨rfl, hb⟩; have hc := (bcell hb).1; have hf := (bcell hb).2; have hz : w.heap.size < w1.heap.size := (by have := hb.size; (try simp at this); omega); have hcA := fun o => (bcell hb).1 w.heap.size o (by first | omega | (simp; omega) | (simp; done))) | go_in)
      all_goals (go_ret2; refine ⟨rIB ?_ ?_, ?_⟩)
      all_goals first | (simp [hs, hn, hy, mor]; done) | (repeat (first | exact Below.refl _ _ | refine Below.drew ?_ | refine Below.alloc ?_ (by first | omega | (simp; done) | (simp; omega)) _ | refine bchain ?_ (by assumption) (by first | omega | (simp; done) | (simp; omega))))
    · have fb := far_bd u d (y - 1) hs (inB_pred hy hd)
      have lb := low_bd n (far u d (y - 1))
      have yl := inB_iff.1 hy
      have yl1 := yl.1
      have yl2 := yl.2
      have nl := inB_iff.1 hn
      have nl1 := nl.1
      have nl2 := nl.2
      have sl := snOk_iff.1 hs
      have sl3 := sl.2.2.1
      have sl4 := sl.2.2.2
      clear yl nl sl
      go_enter Tryz.func6, Tryz.ntmps6
      go_wp2_with (first | (go_at_call 51; refine (implIn _ _ _ _).mono ?_; rintro e w1 ⟨rfl, rfl⟩) | (go_at_call 18; refine (implIsSnail _ _ _).mono ?_; rintro e w1 ⟨rfl, hb⟩; have hc := (bcell hb).1; have hf := (bcell hb).2; have hz : w.heap.size < w1.heap.size := (by have := hb.size; (try simp at this); omega); have hcA := fun o => (bcell hb).1 w.heap.size o (by first | omega | (simp; omega) | (simp; done))) | (go_at_call 38; refine (eveningBelow_any u d n (y - 1) hs (inB_pred hy hd) hn _).mono ?_; rintro e w1 ⟨rfl, hb⟩; have hc := (bcell hb).1; have hf := (bcell hb).2; have hz : w.heap.size < w1.heap.size := (by have := hb.size; (try simp at this); omega); have hcA := fun o => (bcell hb).1 w.heap.size o (by first | omega | (simp; omega) | (simp; done))) | (go_at_call 37; refine (morningAfter_any (low n (far u d (y - 1))) d n (by omega) (by omega) (by omega) (by omega) _).mono ?_; rintro e w1 ⟨rfl, rfl⟩) | go_in)
      have hwr : IntKind.i64.wrap (y - 1) = y - 1 := IntWalk.i64_in _ (by omega)
      go_region_with (first | (go_at_call 51; refine (implIn _ _ _ _).mono ?_; rintro e w1 ⟨rfl, rfl⟩) | (go_at_call 18; refine (implIsSnail _ _ _).mono ?_; rintro e w1 ⟨rfl, hb⟩; have hc := (bcell hb).1; have hf := (bcell hb).2; have hz : w.heap.size < w1.heap.size := (by have := hb.size; (try simp at this); omega); have hcA := fun o => (bcell hb).1 w.heap.size o (by first | omega | (simp; omega) | (simp; done))) | (go_at_call 38; refine (eveningBelow_any u d n (y - 1) hs (inB_pred hy hd) hn _).mono ?_; rintro e w1 ⟨rfl, hb⟩; have hc := (bcell hb).1; have hf := (bcell hb).2; have hz : w.heap.size < w1.heap.size := (by have := hb.size; (try simp at this); omega); have hcA := fun o => (bcell hb).1 w.heap.size o (by first | omega | (simp; omega) | (simp; done))) | (go_at_call 37; refine (morningAfter_any (low n (far u d (y - 1))) d n (by omega) (by omega) (by omega) (by omega) _).mono ?_; rintro e w1 ⟨rfl, rfl⟩) | go_in)
      all_goals go_wp2
      all_goals (go_ret2; refine ⟨rIB ?_ ?_, ?_⟩)
      all_goals first | (simp [hs, hn, hy, mor, hd]; done) | (repeat (first | exact Below.refl _ _ | refine Below.drew ?_ | refine Below.alloc ?_ (by first | omega | (simp; done) | (simp; omega)) _ | refine bchain ?_ (by assumption) (by first | omega | (simp; done) | (simp; omega))))
  all_goals
    go_enter Tryz.func6, Tryz.ntmps6
    go_wp2_with (first | (go_at_call 51; refine (implIn _ _ _ _).mono ?_; rintro e w1 ⟨rfl, rfl⟩) | (go_at_call 18; refine (implIsSnail _ _ _).mono ?_; rintro e w1 ⟨rfl, hb⟩; have hc := (bcell hb).1; have hf := (bcell hb).2; have hz : w.heap.size < w1.heap.size := (by have := hb.size; (try simp at this); omega); have hcA := fun o => (bcell hb).1 w.heap.size o (by first | omega | (simp; omega) | (simp; done))) | go_in)
    all_goals (go_ret2; refine ⟨rIB ?_ ?_, ?_⟩)
    all_goals first | (simp [hs, hn, hy]; done) | (repeat (first | exact Below.refl _ _ | refine Below.drew ?_ | refine Below.alloc ?_ (by first | omega | (simp; done) | (simp; omega)) _ | refine bchain ?_ (by assumption) (by first | omega | (simp; done) | (simp; omega))))
end Go.Proofs.YtalnellimbehoaaGreatDoor
