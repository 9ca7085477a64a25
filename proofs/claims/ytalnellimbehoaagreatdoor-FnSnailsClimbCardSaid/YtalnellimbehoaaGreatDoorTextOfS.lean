/- isTextOf at one kind: whether a text is that of what it was parsed to. -/
import Derived.Test.YtalnellimbehoaaGreatDoorTextWalks
import Derived.Lib.Hide
import Derived.Deep.QuietTactic
import Derived.BigQuiet
namespace Go.Proofs.YtalnellimbehoaaGreatDoor
open Go.RowKit
set_option linter.unusedVariables false
set_option linter.unusedSimpArgs false
theorem bytes_beqS (x t : ByteArray) : (x.toList == t.toList) = decide (x = t) := by
  by_cases h : x = t
  · subst h; simp
  · rw [decide_eq_false h, beq_eq_false_iff_ne, ByteArray.toList_eq, ByteArray.toList_eq]
    exact fun q => h (ByteArray.ext (Array.toList_inj.1 q))
set_option maxHeartbeats 1000000 in
theorem isTextS (t : ByteArray) (u d : Int) (b : Bool) (hb : (snOk u d && decide (sxt u d = t)) = b) (w : World) (ht : Lib.TabIs Tryz.prog w "internal/strconv.uint64pow10" .u64 Lib.pow10Tab) :
    Calls Tryz.prog 70 #[.string t, .agg #[.int .i64 u, .int .i64 d], .func (.func 16) #[] #[]] w fun e w' => e = .returned (.bool b) ∧ Below w.heap.size w w' := by
  have B0 : Below w.heap.size w (w.alloc (.cells #[.int .i64 u, .int .i64 d] 25)) := (Below.refl _ _).alloc (Nat.le_refl _) _
  have HT := tab_below pow10G (tab_lt pow10G ht) ht B0
  have hq1 := bytes_beqS (sxt u d) t
  cases ho : snOk u d
  · rw [ho] at hb
    simp only [Bool.false_and] at hb
    subst hb
    have H := Lib.hid (implSnailText u d _ HT)
    rw [ho] at H
    generalize sxt u d = X at *
    clear hq1
    go_enter Tryz.func70, Tryz.ntmps70
    go_wp2_with fail
    refine H.out.mono ?_; rintro e w1 ⟨rfl, hb1⟩
    have B1 := Lib.hid (B0.trans (hb1.mono B0.size))
    clear hb1
    go_wp2_with fail
    go_ret
    exact ⟨rfl, B1.out⟩
  · rw [ho] at hb
    simp only [Bool.true_and] at hb
    rw [hb] at hq1
    have H := Lib.hid (implSnailText u d _ HT)
    rw [ho] at H
    generalize sxt u d = X at *
    clear hb
    cases b
    all_goals
      go_enter Tryz.func70, Tryz.ntmps70
      go_wp2_with fail
      refine H.out.mono ?_; rintro e w1 ⟨rfl, hb1⟩
      have B1 := Lib.hid (B0.trans (hb1.mono B0.size))
      clear hb1
      go_wp2_with fail
      go_ret
      exact ⟨rfl, B1.out⟩
end Go.Proofs.YtalnellimbehoaaGreatDoor
