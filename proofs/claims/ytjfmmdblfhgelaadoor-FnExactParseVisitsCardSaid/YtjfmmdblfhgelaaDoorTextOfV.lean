/- isTextOf at one kind: whether a text is that of what it was parsed to. -/
import Derived.Test.YtjfmmdblfhgelaaDoorWinTextI
import Derived.Lib.Hide
import Derived.Deep.QuietTactic
import Derived.BigQuiet
namespace Go.Proofs.YtjfmmdblfhgelaaDoor
open Go.RowKit
set_option linter.unusedVariables false
set_option linter.unusedSimpArgs false
theorem bytes_beqV (x t : ByteArray) : (x.toList == t.toList) = decide (x = t) := by
  by_cases h : x = t
  · subst h; simp
  · rw [decide_eq_false h, beq_eq_false_iff_ne, ByteArray.toList_eq, ByteArray.toList_eq]
    exact fun q => h (ByteArray.ext (Array.toList_inj.1 q))
set_option maxHeartbeats 1000000 in
theorem isTextV (t : ByteArray) (a : Option Addr) (cap : Nat) (xs : List (Int × Int)) (b : Bool) (hb : (viS xs && decide (vijx xs = t)) = b) (w : World) (h : RdP w a xs) (hn : xs.length ≤ 1048576) (ht : Lib.TabIs Tryd.prog w "internal/strconv.uint64pow10" .u64 Lib.pow10Tab) :
    Calls Tryd.prog 36 #[.string t, .slice a xs.length cap, .func (.func 8) #[] #[]] w fun e w' => e = .returned (.bool b) ∧ Below w.heap.size w w' := by
  have hq1 := bytes_beqV (vijx xs) t
  cases ho : viS xs
  · rw [ho] at hb
    simp only [Bool.false_and] at hb
    subst hb
    have H := Lib.hid (implVisitsText a cap xs w h hn ht)
    rw [ho] at H
    generalize vijx xs = X at *
    clear hq1
    go_enter Tryd.func36, Tryd.ntmps36
    go_wp2_with fail
    refine H.out.mono ?_; rintro e w1 ⟨rfl, hb1⟩
    have B1 := Lib.hid (hb1)
    clear hb1
    go_wp2_with fail
    go_ret
    exact ⟨rfl, B1.out⟩
  · rw [ho] at hb
    simp only [Bool.true_and] at hb
    rw [hb] at hq1
    have H := Lib.hid (implVisitsText a cap xs w h hn ht)
    rw [ho] at H
    generalize vijx xs = X at *
    clear hb
    cases b
    all_goals
      go_enter Tryd.func36, Tryd.ntmps36
      go_wp2_with fail
      refine H.out.mono ?_; rintro e w1 ⟨rfl, hb1⟩
      have B1 := Lib.hid (hb1)
      clear hb1
      go_wp2_with fail
      go_ret
      exact ⟨rfl, B1.out⟩
end Go.Proofs.YtjfmmdblfhgelaaDoor
