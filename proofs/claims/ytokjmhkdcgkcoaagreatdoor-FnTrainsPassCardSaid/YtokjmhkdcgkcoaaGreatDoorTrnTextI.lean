/- The texts of trains: the program's side. -/
import Derived.Test.YtokjmhkdcgkcoaaGreatDoorTrnText
import Derived.Test.YtokjmhkdcgkcoaaGreatDoorTrnImpl
import Derived.Test.YtokjmhkdcgkcoaaGreatDoorShelf
import Derived.WalkKit
import Derived.Deep.RegionHeld3
namespace Go.Proofs.YtokjmhkdcgkcoaaGreatDoor
open Go.RowKit
set_option linter.unusedVariables false
set_option linter.unusedSimpArgs false
set_option maxHeartbeats 1000000 in
theorem implTrainText (u d : Int) (w : World) (ht : Lib.TabIs Tryz.prog w "internal/strconv.uint64pow10" .u64 Lib.pow10Tab) :
    Calls Tryz.prog 12 #[.agg #[.int .i64 u, .int .i64 d]] w fun e w' => e = .returned (.tuple #[.string (txt u d), .bool (tnOk u d)]) ∧ Below w.heap.size w w' := by
  cases hs : tnOk u d
  · have hx : Hid (txt u d = ⟨#[]⟩) := by unfold Hid txt; rw [hs]; rfl
    go_enter Tryz.func12, Tryz.ntmps12
    go_wp2_with (first | (go_at_call 14; refine (implIsTrain _ _ _).mono ?_; rintro e w1 ⟨rfl, hb⟩; have hc := (bcell hb).1; have hz : w.heap.size < w1.heap.size := (by have := hb.size; (try simp at this); omega)) | go_in)
    go_ret2
    refine ⟨by rw [hx.out]; rfl, ?_⟩
    (repeat (first | exact Below.refl _ _ | refine Below.drew ?_ | refine Below.alloc ?_ (by first | omega | (simp; done) | (simp; omega)) _ | refine bchain ?_ (by assumption) (by first | omega | (simp; done) | (simp; omega))))
  · have sl := tnOk_iff.1 hs
    obtain ⟨U, rfl⟩ := Int.eq_ofNat_of_zero_le (show 0 ≤ u by omega)
    obtain ⟨D, rfl⟩ := Int.eq_ofNat_of_zero_le (show 0 ≤ d by omega)
    have hU : U ≤ 1000 := by omega
    have hD : D ≤ 1000 := by omega
    have hx : Hid (txt U D = ttx U D) := by unfold Hid txt; rw [hs]; rfl
    have k1 := decDigits_len 3 U (by omega)
    have k2 := decDigits_len 3 D (by omega)
    have f1 : ¬ (9223372036854775807 < (Lib.decDigits U).length + 1) := by omega
    have f2 : ¬ (9223372036854775807 < (Lib.decDigits U).length + 1 + (Lib.decDigits D).length) := by omega
    have hcU := Lib.hid (fun w => itoa_any U (by omega) w)
    have hcD := Lib.hid (fun w => itoa_any D (by omega) w)
    clear sl
    go_enter Tryz.func12, Tryz.ntmps12
    go_wp2_with (first | (go_at_call 14; refine (implIsTrain _ _ _).mono ?_; rintro e w1 ⟨rfl, hb⟩; have hc := (bcell hb).1; have ht1 := tab_below pow10G (by have := tab_lt pow10G ht; first | omega | (simp; done) | (simp; omega)) (show Lib.TabIs Tryz.prog (w.alloc _) _ _ _ from tab_below pow10G (tab_lt pow10G ht) ht ((Below.refl _ _).alloc (Nat.le_refl _) _)) hb; have hz : w.heap.size < w1.heap.size := (by have := hb.size; (try simp at this); omega)) | fail)
    go_region_held3 (fun w' => Below w.heap.size w w' ∧ w.heap.size < w'.heap.size ∧ w'.cell? ⟨w.heap.size, 0, none⟩ = some (.int .i64 (U : Int)) ∧ w'.cell? ⟨w.heap.size, 1, none⟩ = some (.int .i64 (D : Int)) ∧ Lib.TabIs Tryz.prog w' "internal/strconv.uint64pow10" .u64 Lib.pow10Tab)
      ((refine ⟨?_, ?_, ?_, ?_, ?_⟩; (focus (repeat (first | assumption | exact Below.refl _ _ | refine Below.drew ?_ | refine Below.alloc ?_ (by first | omega | (simp; done) | (simp; omega)) _ | refine bchain ?_ (by assumption) (by first | omega | (simp; done) | (simp; omega))))); (focus (first | assumption | omega | (simp; omega))); (focus (first | assumption | (go_simp; done))); (focus (first | assumption | (go_simp; done))); (focus (first | assumption | exact tab_drew ht1))))
      (first | (go_at_call_of 41 (Value.int .i64 (U : Int)); refine (hcU.out _ (by assumption)).mono ?_; rintro e w2 ⟨rfl, hb, ht2⟩; have hz := hb.size; have hcA := fun o => (bcell hb).1 w.heap.size o (by first | omega | (simp; omega) | (simp; done))) | (go_at_call_of 41 (Value.int .i64 (D : Int)); refine (hcD.out _ (by assumption)).mono ?_; rintro e w2 ⟨rfl, hb, ht2⟩; have hz := hb.size; have hcA := fun o => (bcell hb).1 w.heap.size o (by first | omega | (simp; omega) | (simp; done))))
    all_goals (rename_i hS; go_wp2_with fail; go_ret2; exact ⟨by rw [hx.out]; rfl, hS.1⟩)
end Go.Proofs.YtokjmhkdcgkcoaaGreatDoor
