/- parseOne at impl.Snail by a contract, over any parser. -/
import Derived.Test.YtalnellimbehoaaGreatDoorParseEnv
import Derived.Test.YtalnellimbehoaaGreatDoorTextOfS
import Derived.Shelf.Abstract
import Derived.Lib.Hide
import Derived.Deep.QuietTactic
import Derived.BigQuiet
namespace Go.Proofs.YtalnellimbehoaaGreatDoor
open Go.RowKit
set_option linter.unusedVariables false
set_option linter.unusedSimpArgs false
set_option maxHeartbeats 2000000 in
theorem parseOneS (F : Nat) (t : ByteArray) (R : Int → Int → Bool → Prop) (w : World) (E : Env w)
    (eg : ∀ args w, (callFunc F args).run Tryz.prog w = .ok (.enter F args) w)
    (hp : ∀ w, Env w → Calls Tryz.prog F #[.string t] w fun e w' => ∃ (u d : Int) (k : Bool), e = .returned (.tuple #[.agg #[.int .i64 u, .int .i64 d], .bool k]) ∧ Below w.heap.size w w' ∧ R u d k) :
    Calls Tryz.prog 52 #[.string t, .func (.func F) #[] #[], .func (.func 16) #[] #[]] w fun e w' => ∃ (u d : Int) (k : Bool), R u d k ∧ e = .returned (.tuple #[.agg #[.int .i64 (ifI (k && ((snOk u d) && decide (sxt u d = t))) u), .int .i64 (ifI (k && ((snOk u d) && decide (sxt u d = t))) d)], .bool (k && ((snOk u d) && decide (sxt u d = t)))]) ∧ Below w.heap.size w w' := by
  have HP := Lib.hid hp
  clear hp
  have W0 : Below w.heap.size w (w.alloc (.cells #[.int .i64 0, .int .i64 0] 25)) := (Below.refl _ _).alloc (Nat.le_refl _) _
  go_enter Tryz.func52, Tryz.ntmps52
  go_wp2_with fail
  go_at_fn F; refine (HP.out _ (E.below W0)).mono ?_; rintro e w3 ⟨u, d, k, rfl, hb3, hR⟩
  have hz3 : w.heap.size < w3.heap.size := by have := hb3.size; simp at this; omega
  have hz30 : w.heap.size < w3.heap.size + 1 := by omega
  have B3 := Lib.hid (W0.trans (hb3.mono (by simp)))
  have hcA := fun o => (bcell hb3).1 w.heap.size o (by simp)
  have hfA := fun o => (bcell hb3).2 w.heap.size o (by simp)
  have E3 := (E.below W0).below hb3
  have HQ := Lib.hid hR
  clear hb3 E HP
  cases k
  · have hR := HQ.out
    go_wp2_with fail
    refine bodyPost_ret (v := .tuple #[.agg #[.int .i64 0, .int .i64 0], .bool false]) (by have e0 : (w3.cell? ⟨w.heap.size, 0, none⟩).isSome = true := (by rw [hcA]; go_simp); have e1 : (w3.cell? ⟨w.heap.size, 1, none⟩).isSome = true := (by rw [hcA]; go_simp); (try clear hcA hfA); (try clear hcB hfB); simp [results, Tryz.results52, go_sem, e0, e1, hz3, hz30, Nat.ne_of_lt hz3, Nat.ne_of_lt hz30]; done) rfl ⟨u, d, false, hR, ?_, ?_⟩
    · simp [ifI]
    · have BB := B3.out
      (repeat (first | assumption | exact Below.refl _ _ | refine Below.setCell ?_ (by first | omega | simp) _ | refine Below.drew ?_ | refine Below.alloc ?_ (by first | omega | (simp; done) | (simp; omega)) _ | refine bchain ?_ (by assumption) (by first | omega | (simp; done) | (simp; omega))))
  · obtain ⟨b, hb⟩ : ∃ b, ((snOk u d) && decide (sxt u d = t)) = b := ⟨_, rfl⟩
    have HB := Lib.hid hb
    have W3 : Below w3.heap.size w3 (w3.alloc (.cells #[.int .i64 u, .int .i64 d] 25)) := (Below.refl _ _).alloc (Nat.le_refl _) _
    have HT := Lib.hid (isTextS t u d b hb _ (E3.below W3).tab)
    clear hb E3
    go_wp2_with fail
    refine HT.out.mono ?_; rintro e w4 ⟨rfl, hb4⟩
    have hz4 : w3.heap.size < w4.heap.size := by have := hb4.size; simp at this; omega
    have hz40 : w.heap.size < w4.heap.size := by omega
    have hcB := fun o => (bcell hb4).1 w.heap.size o (by simp; omega)
    have hfB := fun o => (bcell hb4).2 w.heap.size o (by simp; omega)
    have hcD := fun o => (bcell hb4).1 w3.heap.size o (by simp)
    have B4 := Lib.hid ((B3.out.alloc (Nat.le_of_lt hz3) (.cells #[.int .i64 u, .int .i64 d] 25)).trans (hb4.mono (by simp; omega)))
    have hR := HQ.out
    clear HT hb4
    cases b
    · go_wp2_with fail
      refine bodyPost_ret (v := .tuple #[.agg #[.int .i64 0, .int .i64 0], .bool false]) (by have e0 : (w4.cell? ⟨w.heap.size, 0, none⟩).isSome = true := (by rw [hcB]; go_simp); have e1 : (w4.cell? ⟨w.heap.size, 1, none⟩).isSome = true := (by rw [hcB]; go_simp); (try clear hcA hfA); (try clear hcB hfB); simp [results, Tryz.results52, go_sem, e0, e1, hz3, hz30, Nat.ne_of_lt hz3, Nat.ne_of_lt hz30, hz4, hz40, Nat.ne_of_lt hz40]; done) rfl ⟨u, d, true, hR, ?_, ?_⟩
      · rw [HB.out]; simp [ifI]
      · have BB := B4.out
        (repeat (first | assumption | exact Below.refl _ _ | refine Below.setCell ?_ (by first | omega | simp) _ | refine Below.drew ?_ | refine Below.alloc ?_ (by first | omega | (simp; done) | (simp; omega)) _ | refine bchain ?_ (by assumption) (by first | omega | (simp; done) | (simp; omega))))
    · go_wp2_with fail
      refine bodyPost_ret (v := .tuple #[.agg #[.int .i64 u, .int .i64 d], .bool true]) (by have e0 : (w4.cell? ⟨w.heap.size, 0, none⟩).isSome = true := (by rw [hcB]; go_simp); have e1 : (w4.cell? ⟨w.heap.size, 1, none⟩).isSome = true := (by rw [hcB]; go_simp); (try clear hcA hfA); (try clear hcB hfB); simp [results, Tryz.results52, go_sem, e0, e1, hz3, hz30, Nat.ne_of_lt hz3, Nat.ne_of_lt hz30, hz4, hz40, Nat.ne_of_lt hz40]; done) rfl ⟨u, d, true, hR, ?_, ?_⟩
      · rw [HB.out]; simp [ifI]
      · have BB := B4.out
        (repeat (first | assumption | exact Below.refl _ _ | refine Below.setCell ?_ (by first | omega | simp) _ | refine Below.drew ?_ | refine Below.alloc ?_ (by first | omega | (simp; done) | (simp; omega)) _ | refine bchain ?_ (by assumption) (by first | omega | (simp; done) | (simp; omega))))
end Go.Proofs.YtalnellimbehoaaGreatDoor
