/- The library's stable sort at a short slice of indices, and the program's inOrder, by contracts. -/
import Derived.Test.YtlfjgggidoakaaaProg
import Derived.Test.YtlfjgggidoakaaaSortK
import Derived.Test.YtlfjgggidoakaaaPairs0
import Derived.WalkKit
import Derived.WalkSpells
import Derived.WalkLawsBesides
import Derived.Lib.Hide
import Derived.Deep.LoopGhost
import Derived.Deep.QuietTactic
import Derived.Deep.RegionWith
import Derived.Deep.RegionHeld3
import Derived.BigQuiet
import Derived.Shelf.Abstract
namespace Go.Proofs.Ytlfjgggidoakaaa
open Go.RowKit
set_option linter.unusedVariables false
set_option linter.unusedSimpArgs false
set_option maxHeartbeats 4000000 in
theorem firstIndices_any (n : Nat) (w : World) (hn : n ≤ 1048576) :
    Calls Try.prog 56 #[.int .i64 (n : Int)] w fun e w' => e = .returned (.slice (some ⟨w.heap.size, 0, none⟩) n n) ∧ w'.ownsRow w.heap.size 3 1 (.slice (some ⟨w.heap.size, 0, none⟩) n n) n (rl (fun p => (p : Int)) n) ∧ Below w.heap.size w w' := by
  obtain ⟨i0, hi, hz0, hz1, hz2⟩ := info_parts intInfo
  obtain ⟨w3, hrun, hown0, hgr0⟩ := run_make_full (P := Try.prog) w w.heap.size 34 3 i0 (.int .i64 0) 1 Try.underlying34 hi hz0 hz1 .i64 .i64 n (by rw [hz2]; omega) (by unfold maxLen; omega) (Nat.le_refl _)
  have hbel0 : Below w.heap.size w w3 := (Below.refl _ _).grown hgr0 (Nat.le_refl _) (fun k hk => by cases hk)
  obtain ⟨ys0, hy0⟩ : ∃ ys, ys = (madeCells (Value.int .i64 0).cells (n * 1)).toList := ⟨_, rfl⟩
  rw [← hy0] at hown0
  clear hy0 hgr0
  have nI : (n : Int) ≤ 1048576 := by omega
  go_enter Try.func56, Try.ntmps56
  go_wp2_with fail
  clear hrun
  go_loopg [9] n (fun f v12 wr => ∃ (j : Nat) (ys : List Value), v12 = .int .i64 (j : Int) ∧ j + f ≤ n ∧ n ≤ j + f ∧ wr.ownsRow w.heap.size 3 1 (.slice (some ⟨w.heap.size, 0, none⟩) n n) n ys ∧ Hid (∀ i, i < j → ys[i]? = some (.int .i64 (i : Int))) ∧ Below w.heap.size w wr)
  case atStart => exact ⟨0, ys0, rfl, by omega, by omega, hown0, fun i hi => absurd hi (Nat.not_lt_zero _), hbel0⟩
  case round =>
    clear hown0 hbel0
    obtain ⟨j, ys, rfl, h1, h2, hown, hys, hbel⟩ := hrel
    have hlen : ys.length = n * 1 := hown.1
    by_cases hj : j < n
    · have hjI : (j : Int) < (n : Int) := by omega
      obtain ⟨hst1, hst2⟩ := hown.stored j (.int .i64 (j : Int))
      have hcy0 := hown.cellAt j (by omega)
      have hfy0 := hown.frozenAt j
      rw [List.getElem?_eq_getElem (by omega)] at hcy0
      have HF := Lib.hid hst1
      have HB := Lib.hid hbel
      have HJ := Lib.hid (And.intro h1 h2)
      clear hst1 hst2 hown hbel
      go_wp2_with fail
      go_roundg (gk - 1)
      case rel =>
        refine ⟨j + 1, _, by go_num, by have := HJ.out; omega, by have := HJ.out; omega, HF.out, ?_, HB.out.setCell (Nat.le_refl _) _⟩
        intro i hi
        by_cases q : i = j
        · subst q; rw [List.getElem?_set_self (by omega)]
        · rw [List.getElem?_set_ne (by omega)]; exact hys.out i (by omega)
      case measure => have := HJ.out; omega
    · have e : ys = rl (fun p => (p : Int)) n := by
        apply List.ext_getElem?
        intro p
        by_cases hp : p < n
        · rw [rl_get hp]; exact hys.out p (by omega)
        · rw [List.getElem?_eq_none (by omega), List.getElem?_eq_none (by rw [rl_length]; omega)]
      subst e
      have HO := Lib.hid hown
      have HB := Lib.hid hbel
      clear hown hbel
      go_wp2_with fail
      go_ret
      exact ⟨rfl, HO.out, HB.out⟩
end Go.Proofs.Ytlfjgggidoakaaa
