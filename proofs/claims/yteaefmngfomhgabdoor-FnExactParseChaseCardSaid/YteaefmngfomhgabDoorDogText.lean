/- The texts of chases: the model's and the program's. -/
import Derived.Test.YteaefmngfomhgabDoorDogImpl
import Derived.Test.YteaefmngfomhgabDoorTextWalks
import Derived.Test.YteaefmngfomhgabDoorShelf
import Derived.Deep.Heap
import Derived.Deep.RegionHeld3
import Derived.Deep.QuietTactic
import Derived.BigQuiet
import Derived.Lib.Hide
import Derived.Lib.Join
namespace Go.Proofs.YteaefmngfomhgabDoor
open Go.RowKit
set_option linter.unusedVariables false
set_option linter.unusedSimpArgs false
/-- a chase's text -/
def ctx (A L R G : Nat) : ByteArray := ((((((⟨(Lib.decDigits A).toArray⟩ ++ ⟨#[45]⟩) ++ ⟨(Lib.decDigits L).toArray⟩) ++ ⟨#[45]⟩) ++ ⟨(Lib.decDigits R).toArray⟩) ++ ⟨#[45]⟩) ++ ⟨(Lib.decDigits G).toArray⟩)
def cxt (a l r g : Int) : ByteArray := if chOk a l r g then ctx a.toNat l.toNat r.toNat g.toNat else ⟨#[]⟩
theorem ctx_list (A L R G : Nat) : (ctx A L R G).data.toList = Lib.decDigits A ++ 45 :: (Lib.decDigits L ++ 45 :: (Lib.decDigits R ++ 45 :: Lib.decDigits G)) := by
  unfold ctx; simp [bytes_app]
def cps (A L R G : Nat) : List ByteArray := [⟨(Lib.decDigits A).toArray⟩, ⟨(Lib.decDigits L).toArray⟩, ⟨(Lib.decDigits R).toArray⟩, ⟨(Lib.decDigits G).toArray⟩]
theorem ctx_join (A L R G : Nat) : (⟨(Lib.join ((cps A L R G).map (·.data.toList)) (⟨#[45]⟩ : ByteArray).data.toList).toArray⟩ : ByteArray) = ctx A L R G := by
  have h := ctx_list A L R G
  have e : Lib.join ((cps A L R G).map (·.data.toList)) (⟨#[45]⟩ : ByteArray).data.toList = (ctx A L R G).data.toList := by
    rw [h]; simp [cps, Lib.join]
  rw [e]
theorem ctx_len (A L R G : Nat) (hA : A ≤ 1000) (hL : L ≤ 20) (hR : R ≤ 20) (hG : G ≤ 20) : (Lib.join ((cps A L R G).map (·.data.toList)) (⟨#[45]⟩ : ByteArray).data.toList).length ≤ 16 := by
  have k1 := decDigits_len 3 A (by omega)
  have k2 := decDigits_len 2 L (by omega)
  have k3 := decDigits_len 2 R (by omega)
  have k4 := decDigits_len 2 G (by omega)
  simp [cps, Lib.join]
  omega
theorem cells_new4 (w : World) (p q r s : ByteArray) (T : Nat) : ∀ (j : Nat) x, [p, q, r, s][j]? = some x → (w.alloc (.cells #[.string p, .string q, .string r, .string s] T)).cell? ⟨w.heap.size, 0 + j, none⟩ = some (.string x) := by
  intro j x hx
  have hj : j < 4 := by have := (List.getElem?_eq_some_iff.1 hx).1; simpa using this
  have hi2 : j = 0 ∨ j = 1 ∨ j = 2 ∨ j = 3 := by omega
  rcases hi2 with rfl | rfl | rfl | rfl <;> (simp at hx; subst hx; unfold World.cell?; rw [Go.Deep.blk_alloc_new]; rfl)
set_option maxHeartbeats 2000000 in
theorem implChaseText (a l r g : Int) (w : World) (ht : Lib.TabIs Tryd.prog w "internal/strconv.uint64pow10" .u64 Lib.pow10Tab) :
    Calls Tryd.prog 63 #[.agg #[.int .i64 a, .int .i64 l, .int .i64 r, .int .i64 g]] w fun e w' => e = .returned (.tuple #[.string (cxt a l r g), .bool (chOk a l r g)]) ∧ Below w.heap.size w w' := by
  cases hs : chOk a l r g
  · have hx : Hid (cxt a l r g = ⟨#[]⟩) := by unfold Hid cxt; rw [hs]; rfl
    go_enter Tryd.func63, Tryd.ntmps63
    go_wp2_with (first | (go_at_call 86; refine (implIsChase _ _ _ _ _).mono ?_; rw [hs]; rintro e w1 ⟨rfl, hb⟩; have hc := (bcell hb).1; have hz : w.heap.size < w1.heap.size := (by have := hb.size; (try simp at this); omega)) | go_in)
    go_ret2
    refine ⟨by rw [hx.out]; rfl, ?_⟩
    (repeat (first | exact Below.refl _ _ | refine Below.drew ?_ | refine below_drewN ?_ _ | refine Below.setCell ?_ (by first | omega | (simp; done) | (simp; omega)) _ | refine Below.alloc ?_ (by first | omega | (simp; done) | (simp; omega)) _ | refine bchain ?_ (by assumption) (by first | omega | (simp; done) | (simp; omega))))
  · have b1 := (chOk_iff.1 hs)
    obtain ⟨A, rfl⟩ := Int.eq_ofNat_of_zero_le (show 0 ≤ a by omega)
    obtain ⟨L, rfl⟩ := Int.eq_ofNat_of_zero_le (show 0 ≤ l by omega)
    obtain ⟨R, rfl⟩ := Int.eq_ofNat_of_zero_le (show 0 ≤ r by omega)
    obtain ⟨G, rfl⟩ := Int.eq_ofNat_of_zero_le (show 0 ≤ g by omega)
    have hA : A ≤ 1000 := by omega
    have hL : L ≤ 20 := by omega
    have hR : R ≤ 20 := by omega
    have hG : G ≤ 20 := by omega
    clear b1
    have hx : Hid (cxt A L R G = ctx A L R G) := by unfold Hid cxt; rw [hs]; rfl
    have hcA := Lib.hid (fun w => itoa_any A (by omega) w)
    have hcL := Lib.hid (fun w => itoa_any L (by omega) w)
    have hcR := Lib.hid (fun w => itoa_any R (by omega) w)
    have hcG := Lib.hid (fun w => itoa_any G (by omega) w)
    go_enter Tryd.func63, Tryd.ntmps63
    go_wp2_with (first | (go_at_call 86; refine (implIsChase _ _ _ _ _).mono ?_; rw [hs]; rintro e w1 ⟨rfl, hb⟩; have hc := (bcell hb).1; have ht1 := tab_below pow10G (by have := tab_lt pow10G ht; first | omega | (simp; done) | (simp; omega)) (show Lib.TabIs Tryd.prog (w.alloc _) _ _ _ from tab_below pow10G (tab_lt pow10G ht) ht ((Below.refl _ _).alloc (Nat.le_refl _) _)) hb; have hz : w.heap.size < w1.heap.size := (by have := hb.size; (try simp at this); omega)) | fail)
    go_region_held3 (fun w' => Below w.heap.size w w' ∧ w.heap.size < w'.heap.size ∧ w'.cell? ⟨w.heap.size, 0, none⟩ = some (.int .i64 (A : Int)) ∧ w'.cell? ⟨w.heap.size, 1, none⟩ = some (.int .i64 (L : Int)) ∧ w'.cell? ⟨w.heap.size, 2, none⟩ = some (.int .i64 (R : Int)) ∧ w'.cell? ⟨w.heap.size, 3, none⟩ = some (.int .i64 (G : Int)) ∧ Lib.TabIs Tryd.prog w' "internal/strconv.uint64pow10" .u64 Lib.pow10Tab)
      ((refine ⟨?_, ?_, ?_, ?_, ?_, ?_, ?_⟩; (focus (repeat (first | assumption | exact Below.refl _ _ | refine Below.drew ?_ | refine Below.alloc ?_ (by first | omega | (simp; done) | (simp; omega)) _ | refine bchain ?_ (by assumption) (by first | omega | (simp; done) | (simp; omega))))); (focus (first | assumption | omega | (simp; omega))); (focus (first | assumption | (go_simp; done))); (focus (first | assumption | (go_simp; done))); (focus (first | assumption | (go_simp; done))); (focus (first | assumption | (go_simp; done))); (focus (first | assumption | exact tab_drew ht1 | (refine tab_below pow10G (tab_lt pow10G (by assumption)) (by assumption) ((Below.refl _ _).alloc (Nat.le_refl _) _)))))) 
      (first | (go_at_call_of 46 (Value.int .i64 (A : Int)); refine (hcA.out _ (by assumption)).mono ?_; rintro e w2 ⟨rfl, hb, ht2⟩; have hz := hb.size; (try simp at hz); have hzw : w.heap.size < w2.heap.size := (by omega); have hcA := fun o => (bcell hb).1 w.heap.size o (by first | omega | (simp; omega) | (simp; done))) | (go_at_call_of 46 (Value.int .i64 (L : Int)); refine (hcL.out _ (by assumption)).mono ?_; rintro e w2 ⟨rfl, hb, ht2⟩; have hz := hb.size; (try simp at hz); have hzw : w.heap.size < w2.heap.size := (by omega); have hcA := fun o => (bcell hb).1 w.heap.size o (by first | omega | (simp; omega) | (simp; done))) | (go_at_call_of 46 (Value.int .i64 (R : Int)); refine (hcR.out _ (by assumption)).mono ?_; rintro e w2 ⟨rfl, hb, ht2⟩; have hz := hb.size; (try simp at hz); have hzw : w.heap.size < w2.heap.size := (by omega); have hcA := fun o => (bcell hb).1 w.heap.size o (by first | omega | (simp; omega) | (simp; done))) | (go_at_call_of 46 (Value.int .i64 (G : Int)); refine (hcG.out _ (by assumption)).mono ?_; rintro e w2 ⟨rfl, hb, ht2⟩; have hz := hb.size; (try simp at hz); have hzw : w.heap.size < w2.heap.size := (by omega); have hcA := fun o => (bcell hb).1 w.heap.size o (by first | omega | (simp; omega) | (simp; done))))
    all_goals
      rename_i hS
      have hS1 := hS.1
      have hS2 := hS1.size
      clear hS
      go_wp2_with fail
      refine (Tryd.strings_Join _ 0 4 (cps A L R G) ⟨#[45]⟩ _ (cells_new4 _ _ _ _ _ _) (by simp) (by simp [cps]) (by simp [cps]) (by have := ctx_len A L R G hA hL hR hG; omega)).mono ?_
      rw [ctx_join]
      rintro e w3 ⟨rfl, hb3⟩
      have B3 := Lib.hid (hS1.trans (hb3.mono hS2))
      clear hS1 hb3
      go_wp2_with fail
      go_ret2
      exact ⟨by rw [hx.out]; rfl, B3.out⟩
end Go.Proofs.YteaefmngfomhgabDoor
