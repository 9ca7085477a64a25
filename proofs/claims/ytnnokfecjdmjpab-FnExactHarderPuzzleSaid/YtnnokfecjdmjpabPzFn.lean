/- Puzzles (chapter 9): the program's functions by contracts. -/
import Derived.Test.YtnnokfecjdmjpabPzAlw
import Derived.Test.YtnnokfecjdmjpabPzSpec4
import Derived.WalkKit
import Derived.WalkSpells
import Derived.WalkLawsBesides
import Derived.Lib.Hide
import Derived.Deep.QuietTactic
import Derived.Deep.RegionWith
import Derived.Deep.RegionLaw
import Derived.Deep.RegionHeld3
import Derived.Deep.RegionHeldLaw
import Derived.BigQuiet
import Derived.Shelf.Abstract
namespace Go.Proofs.Ytnnokfecjdmjpab
open Go.RowKit
set_option linter.unusedVariables false
set_option linter.unusedSimpArgs false
set_option maxHeartbeats 4000000 in
theorem implBestClue (A : Addr) (cap : Nat) (xs : List (Int × Int × Int)) (w : World) (h : RdT w (some A) xs) (hn : xs.length ≤ 1048576) (hcap : xs.length ≤ cap) :
    Calls Try.prog 9 #[.agg #[.slice (some A) xs.length cap]] w fun e w' => e = .returned (.tuple #[.int .i64 (bsI xs), .bool (bsO xs)]) ∧ Below w.heap.size w w' := by
  have hmain : Hid (∀ W, RdT W (some A) xs → Calls Try.prog 22 #[.slice (some A) xs.length cap, .func (.func 23) #[] #[]] W fun e w' => e = .returned (.tuple #[.int .i64 (bsI xs), .bool (bsO xs)]) ∧ Below W.heap.size W w') := by
    intro W hW
    cases hg : pzG xs
    · rw [show bsO xs = false by simp [bsO, hg], show bsI xs = 0 by simp [bsI, bsO, hg]]
      exact askI_no _ A cap xs W hW hn hg
    · have h6 := (pzG_iff.1 hg).1
      have eg : ∀ args w, (callFunc 23 args).run Try.prog w = .ok (.enter 23 args) w := enters_of Try.func23 (by kernel_rfl) rfl
      have eO : bsO xs = decide (0 < xs.length) := by
        unfold bsO; rw [hg]
        by_cases q : xs.length = 0
        · simp [q]
        · rw [decide_eq_false q, decide_eq_true (by omega)]; rfl
      have eI : bsI xs = (bsN (onF xs) xs.length).1 := by
        unfold bsI; rw [eO]
        by_cases q : 0 < xs.length
        · rw [decide_eq_true q]; rfl
        · have q0 : xs.length = 0 := by omega
          rw [q0]; rfl
      rw [eO, eI]
      exact askI_yes 23 #[] A cap xs _ _ W hW hn hcap hg eg (fun W1 hb1 => best_any (some A) xs.length xs W1 (hW.below hb1) h6 (Nat.le_refl _) (pzG_iff.1 hg).2)
  have HR := Lib.hid h
  clear h
  generalize bsI xs = i0 at *
  generalize bsO xs = ok at *
  go_enter Try.func9, Try.ntmps9
  go_wp2_with (first | (go_at_call 22; refine (hmain.out _ (HR.out.below (by (repeat (first | assumption | exact Below.refl _ _ | refine Below.drew ?_ | refine below_drewN ?_ _ | refine Below.setCell ?_ (by first | omega | (simp; done) | (simp; omega)) _ | refine Below.alloc ?_ (by first | omega | (simp; done) | (simp; omega)) _ | refine bchain ?_ (by assumption) (by first | omega | (simp; done) | (simp; omega))))))).mono ?_; rintro e w2 ⟨rfl, hb2⟩))
  go_ret2
  exact ⟨rfl, by (repeat (first | assumption | exact Below.refl _ _ | refine Below.drew ?_ | refine below_drewN ?_ _ | refine Below.setCell ?_ (by first | omega | (simp; done) | (simp; omega)) _ | refine Below.alloc ?_ (by first | omega | (simp; done) | (simp; omega)) _ | refine bchain ?_ (by assumption) (by first | omega | (simp; done) | (simp; omega))))⟩
set_option maxHeartbeats 4000000 in
theorem implHarderPuzzle (A : Addr) (cap : Nat) (xs : List (Int × Int × Int)) (w : World) (h : RdT w (some A) xs) (hn : xs.length ≤ 1048576) (hcap : xs.length ≤ cap) :
    Calls Try.prog 12 #[.agg #[.slice (some A) xs.length cap]] w (RetP9 w (hrL xs) (hrO xs)) := by
  have hmain : Hid (∀ W, RdT W (some A) xs → Calls Try.prog 27 #[.slice (some A) xs.length cap, .func (.func 28) #[] #[]] W (RetP9 W (hrL xs) (hrO xs))) := by
    intro W hW
    cases hg : pzG xs
    · rw [show hrO xs = false by simp [hrO, hg], show hrL xs = [] by simp [hrL, hrO, hg]]
      exact askP_no _ A cap xs W hW hn hg
    · have h6 := (pzG_iff.1 hg).1
      have eg : ∀ args w, (callFunc 28 args).run Try.prog w = .ok (.enter 28 args) w := enters_of Try.func28 (by kernel_rfl) rfl
      have eO : hrO xs = decide ((sol xs).length = 1) := by simp [hrO, hg]
      have eL : hrL xs = if (sol xs).length = 1 then hrd xs.length xs 0 else [] := by unfold hrL; rw [eO]; by_cases q : (sol xs).length = 1 <;> simp [q]
      rw [eO, eL]
      exact askP_yes 28 #[] A cap xs _ _ W hW hn hcap hg eg (fun W1 hb1 => harder_any A xs.length xs W1 (hW.below hb1) h6 (Nat.le_refl _) (pzG_iff.1 hg).2)
  have HR := Lib.hid h
  clear h
  generalize hrL xs = D at *
  generalize hrO xs = ok at *
  go_enter Try.func12, Try.ntmps12
  go_wp2_with (first | (go_at_call 27; refine (hmain.out _ (HR.out.below (by (repeat (first | assumption | exact Below.refl _ _ | refine Below.drew ?_ | refine below_drewN ?_ _ | refine Below.setCell ?_ (by first | omega | (simp; done) | (simp; omega)) _ | refine Below.alloc ?_ (by first | omega | (simp; done) | (simp; omega)) _ | refine bchain ?_ (by assumption) (by first | omega | (simp; done) | (simp; omega))))))).mono ?_; rintro e w2 ⟨a2, c2, rfl, hO2, hb2⟩; have hs2 := hb2.size; (try simp only [World.size_alloc, World.size_drew] at hs2); have hlw2 : w.heap.size + 1 < w2.heap.size := (by omega); have hx2 : w2.cell? ⟨w.heap.size + 1, 0, none⟩ = some (.slice none 0 0) := (by rw [(bcell hb2).1 _ _ (by first | omega | (simp; done) | (simp; omega))]; go_simp); have hf2 : ∀ o, w2.frozen? ⟨w.heap.size + 1, o, none⟩ = false := (fun o => by rw [(bcell hb2).2 _ _ (by first | omega | (simp; done) | (simp; omega))]; go_simp); unfold OwnC at hO2; (try simp only [World.size_alloc, World.size_drew] at hO2)))
  refine bodyPost_ret (v := .tuple #[.agg #[.slice a2 D.length c2], .bool ok]) (by simp [results, Try.results12, go_sem, hx2]) rfl ⟨a2, c2, rfl, ?_, by (repeat (first | assumption | exact Below.refl _ _ | refine Below.drew ?_ | refine below_drewN ?_ _ | refine Below.setCell ?_ (by first | omega | (simp; done) | (simp; omega)) _ | refine Below.alloc ?_ (by first | omega | (simp; done) | (simp; omega)) _ | refine bchain ?_ (by assumption) (by first | omega | (simp; done) | (simp; omega))))⟩
  exact row_low (row_setLow hO2 _ _ (by simp)) (by omega)
end Go.Proofs.Ytnnokfecjdmjpab
