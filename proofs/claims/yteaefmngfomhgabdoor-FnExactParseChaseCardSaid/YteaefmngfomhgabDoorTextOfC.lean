/- isTextOf at one kind: whether a text is that of what it was parsed to. -/
import Derived.Test.YteaefmngfomhgabDoorDogText
import Derived.Lib.Hide
import Derived.Deep.QuietTactic
import Derived.BigQuiet
namespace Go.Proofs.YteaefmngfomhgabDoor
open Go.RowKit
set_option linter.unusedVariables false
set_option linter.unusedSimpArgs false
theorem bytes_beqC (x t : ByteArray) : (x.toList == t.toList) = decide (x = t) := by
  by_cases h : x = t
  · subst h; simp
  · rw [decide_eq_false h, beq_eq_false_iff_ne, ByteArray.toList_eq, ByteArray.toList_eq]
    exact fun q => h (ByteArray.ext (Array.toList_inj.1 q))
set_option maxHeartbeats 1000000 in
theorem isTextC (t : ByteArray) (a l r g : Int) (b : Bool) (hb : (chOk a l r g && decide (cxt a l r g = t)) = b) (w : World) (ht : Lib.TabIs Tryd.prog w "internal/strconv.uint64pow10" .u64 Lib.pow10Tab) :
    Calls Tryd.prog 84 #[.string t, .agg #[.int .i64 a, .int .i64 l, .int .i64 r, .int .i64 g], .func (.func 63) #[] #[]] w fun e w' => e = .returned (.bool b) ∧ Below w.heap.size w w' := by
  have B0 : Below w.heap.size w (w.alloc (.cells #[.int .i64 a, .int .i64 l, .int .i64 r, .int .i64 g] 50)) := (Below.refl _ _).alloc (Nat.le_refl _) _
  have HT := tab_below pow10G (tab_lt pow10G ht) ht B0
  have hq1 := bytes_beqC (cxt a l r g) t
  cases ho : chOk a l r g
  · rw [ho] at hb
    simp only [Bool.false_and] at hb
    subst hb
    have H := Lib.hid (implChaseText a l r g _ HT)
    rw [ho] at H
    generalize cxt a l r g = X at *
    clear hq1
    go_enter Tryd.func84, Tryd.ntmps84
    go_wp2_with fail
    refine H.out.mono ?_; rintro e w1 ⟨rfl, hb1⟩
    have B1 := Lib.hid (B0.trans (hb1.mono B0.size))
    clear hb1
    go_wp2_with fail
    go_ret
    exact ⟨rfl, B1.out⟩
  · rw [ho] at hb
    simp only [Bool.true_and] at hb
    rw [hb] at hq1
    have H := Lib.hid (implChaseText a l r g _ HT)
    rw [ho] at H
    generalize cxt a l r g = X at *
    clear hb
    cases b
    all_goals
      go_enter Tryd.func84, Tryd.ntmps84
      go_wp2_with fail
      refine H.out.mono ?_; rintro e w1 ⟨rfl, hb1⟩
      have B1 := Lib.hid (B0.trans (hb1.mono B0.size))
      clear hb1
      go_wp2_with fail
      go_ret
      exact ⟨rfl, B1.out⟩
end Go.Proofs.YteaefmngfomhgabDoor
