/- Puzzles (chapter 9): the program's functions by contracts. -/
import Derived.Test.YtnnokfecjdmjpaaPzAlw
import Derived.Test.YtnnokfecjdmjpaaPzSpec4
import Derived.WalkKit
import Derived.WalkSpells
import Derived.WalkLawsBesides
import Derived.Lib.Hide
import Derived.Deep.QuietTactic
import Derived.Deep.RegionWith
import Derived.Deep.RegionLaw
import Derived.Deep.RegionHeld3
import Derived.Deep.RegionHeldLaw
import Derived.BigQuiet
import Derived.Shelf.Abstract
namespace Go.Proofs.Ytnnokfecjdmjpaa
open Go.RowKit
set_option linter.unusedVariables false
set_option linter.unusedSimpArgs false
set_option maxHeartbeats 4000000 in
theorem implSolutions (A : Addr) (cap : Nat) (xs : List (Int × Int × Int)) (w : World) (h : RdT w (some A) xs) (hn : xs.length ≤ 1048576) (hcap : xs.length ≤ cap) :
    Calls Try.prog 27 #[.agg #[.slice (some A) xs.length cap]] w (RetK w (slL xs) (pzG xs)) := by
  cases hg : pzG xs
  · have HL := Lib.hid (show slL xs = [] by simp [slL, hg])
    have HQ := Lib.hid (fun Q w h => askL_no Q A cap xs w h hn hg)
    have HR := Lib.hid h
    clear hg h
    go_enter Try.func27, Try.ntmps27
    go_wp2_with fail
    go_region_held3 (fun W => Below w.heap.size w W ∧ w.heap.size < W.heap.size ∧ W.cell? ⟨w.heap.size, 0, none⟩ = some (.slice (some A) xs.length cap))
      (refine ⟨?_, ?_, ?_⟩ <;> first | assumption | omega | (go_simp; done) | (repeat (first | assumption | exact Below.refl _ _ | refine Below.drew ?_ | refine below_drewN ?_ _ | refine Below.setCell ?_ (by first | omega | (simp; done) | (simp; omega)) _ | refine Below.alloc ?_ (by first | omega | (simp; done) | (simp; omega)) _ | refine bchain ?_ (by assumption) (by first | omega | (simp; done) | (simp; omega)))))
      (first | (go_at_call 71; refine (alwaysL_any _ _ _).mono ?_; rintro e w1 ⟨rfl, hp1, hl1, hb1⟩; have hs1 := hb1.size; (try simp only [World.size_alloc, World.size_drew] at hs1 hp1 hl1); have hlw1 : w.heap.size < w1.heap.size := (by omega); have hcA := fun o => (bcell hb1).1 w.heap.size o (by first | omega | (simp; done) | (simp; omega))) | (go_at_call 70; refine (HQ.out _ _ (HR.out.below (by (repeat (first | assumption | exact Below.refl _ _ | refine Below.drew ?_ | refine below_drewN ?_ _ | refine Below.setCell ?_ (by first | omega | (simp; done) | (simp; omega)) _ | refine Below.alloc ?_ (by first | omega | (simp; done) | (simp; omega)) _ | refine bchain ?_ (by assumption) (by first | omega | (simp; done) | (simp; omega))))))).mono ?_; rintro e w2 ⟨a2, c2, rfl, hO2, hb2⟩; have hs2 := hb2.size; (try simp only [World.size_alloc, World.size_drew] at hs2); have hlw2 : w.heap.size < w2.heap.size := (by omega); have hcB := fun o => (bcell hb2).1 w.heap.size o (by first | omega | (simp; done) | (simp; omega))))
    all_goals
      rename_i hS
      go_wp2_with fail
      go_ret2
      rw [HL.out]
      exact ⟨a2, c2, rfl, row_low hO2 (by omega), hS.1⟩
  · have HL := Lib.hid (show slL xs = sol xs by simp [slL, hg])
    have h6 := (pzG_iff.1 hg).1
    have hcl := (pzG_iff.1 hg).2
    have HR := Lib.hid h
    have eg : ∀ args w, (callFunc 72 args).run Try.prog w = .ok (.enter 72 args) w := enters_of Try.func72 (by kernel_rfl) rfl
    have eg2 : ∀ args w, (callFunc 103 args).run Try.prog w = .ok (.enter 103 args) w := enters_of Try.func103 (by kernel_rfl) rfl
    have HQ := Lib.hid (fun (p : Nat) (W : World) (hw : Below w.heap.size w W) (hp : p < W.heap.size) (hc : W.cell? ⟨p, 0, none⟩ = some (.func (.func 72) #[] #[])) =>
      askL_yes 103 #[.pointer (some ⟨p, 0, none⟩)] A cap xs (sol xs) true W (h.below hw) hn hcap hg eg2
        (fun W1 hb1 => alwaysCL_any 72 #[] p A xs.length (sol xs) W1 (Nat.lt_of_lt_of_le hp hb1.size) (((bcell hb1).1 p 0 hp).trans hc) eg
          (fun W2 hb2 => solutions_any (some A) xs.length xs W2 (((h.below hw).below hb1).below hb2) hn hcl)))
    clear hg h hcl
    generalize sol xs = RR at *
    go_enter Try.func27, Try.ntmps27
    go_wp2_with fail
    go_region_held3 (fun W => Below w.heap.size w W ∧ w.heap.size < W.heap.size ∧ W.cell? ⟨w.heap.size, 0, none⟩ = some (.slice (some A) xs.length cap))
      (refine ⟨?_, ?_, ?_⟩ <;> first | assumption | omega | (go_simp; done) | (repeat (first | assumption | exact Below.refl _ _ | refine Below.drew ?_ | refine below_drewN ?_ _ | refine Below.setCell ?_ (by first | omega | (simp; done) | (simp; omega)) _ | refine Below.alloc ?_ (by first | omega | (simp; done) | (simp; omega)) _ | refine bchain ?_ (by assumption) (by first | omega | (simp; done) | (simp; omega)))))
      (first | (go_at_call 71; refine (alwaysL_any _ _ _).mono ?_; rintro e w1 ⟨rfl, hp1, hl1, hb1⟩; have hs1 := hb1.size; (try simp only [World.size_alloc, World.size_drew] at hs1 hp1 hl1); have hlw1 : w.heap.size < w1.heap.size := (by omega); have hcA := fun o => (bcell hb1).1 w.heap.size o (by first | omega | (simp; done) | (simp; omega))) | (go_at_call 70; refine (HQ.out _ _ (by (repeat (first | assumption | exact Below.refl _ _ | refine Below.drew ?_ | refine below_drewN ?_ _ | refine Below.setCell ?_ (by first | omega | (simp; done) | (simp; omega)) _ | refine Below.alloc ?_ (by first | omega | (simp; done) | (simp; omega)) _ | refine bchain ?_ (by assumption) (by first | omega | (simp; done) | (simp; omega))))) (by first | assumption | omega) (by assumption)).mono ?_; rintro e w2 ⟨a2, c2, rfl, hO2, hb2⟩; have hs2 := hb2.size; (try simp only [World.size_alloc, World.size_drew] at hs2); have hlw2 : w.heap.size < w2.heap.size := (by omega); have hcB := fun o => (bcell hb2).1 w.heap.size o (by first | omega | (simp; done) | (simp; omega))))
    all_goals
      rename_i hS
      go_wp2_with fail
      go_ret2
      rw [HL.out]
      exact ⟨a2, c2, rfl, row_low hO2 (by omega), hS.1⟩
set_option maxHeartbeats 4000000 in
theorem implCountSolutions (A : Addr) (cap : Nat) (xs : List (Int × Int × Int)) (w : World) (h : RdT w (some A) xs) (hn : xs.length ≤ 1048576) (hcap : xs.length ≤ cap) :
    Calls Try.prog 33 #[.agg #[.slice (some A) xs.length cap]] w fun e w' => e = .returned (.tuple #[.int .i64 (slC xs), .bool (pzG xs)]) ∧ Below w.heap.size w w' := by
  cases hg : pzG xs
  · have HL := Lib.hid (show slC xs = 0 by simp [slC, hg])
    have HQ := Lib.hid (fun Q w h => askI_no Q A cap xs w h hn hg)
    have HR := Lib.hid h
    clear hg h
    go_enter Try.func33, Try.ntmps33
    go_wp2_with fail
    go_region_held3 (fun W => Below w.heap.size w W ∧ w.heap.size < W.heap.size ∧ W.cell? ⟨w.heap.size, 0, none⟩ = some (.slice (some A) xs.length cap))
      (refine ⟨?_, ?_, ?_⟩ <;> first | assumption | omega | (go_simp; done) | (repeat (first | assumption | exact Below.refl _ _ | refine Below.drew ?_ | refine below_drewN ?_ _ | refine Below.setCell ?_ (by first | omega | (simp; done) | (simp; omega)) _ | refine Below.alloc ?_ (by first | omega | (simp; done) | (simp; omega)) _ | refine bchain ?_ (by assumption) (by first | omega | (simp; done) | (simp; omega)))))
      (first | (go_at_call 75; refine (alwaysI_any _ _ _).mono ?_; rintro e w1 ⟨rfl, hp1, hl1, hb1⟩; have hs1 := hb1.size; (try simp only [World.size_alloc, World.size_drew] at hs1 hp1 hl1); have hlw1 : w.heap.size < w1.heap.size := (by omega); have hcA := fun o => (bcell hb1).1 w.heap.size o (by first | omega | (simp; done) | (simp; omega))) | (go_at_call 74; refine (HQ.out _ _ (HR.out.below (by (repeat (first | assumption | exact Below.refl _ _ | refine Below.drew ?_ | refine below_drewN ?_ _ | refine Below.setCell ?_ (by first | omega | (simp; done) | (simp; omega)) _ | refine Below.alloc ?_ (by first | omega | (simp; done) | (simp; omega)) _ | refine bchain ?_ (by assumption) (by first | omega | (simp; done) | (simp; omega))))))).mono ?_; rintro e w2 ⟨rfl, hb2⟩; have hs2 := hb2.size; (try simp only [World.size_alloc, World.size_drew] at hs2); have hlw2 : w.heap.size < w2.heap.size := (by omega); have hcB := fun o => (bcell hb2).1 w.heap.size o (by first | omega | (simp; done) | (simp; omega))))
    all_goals
      rename_i hS
      go_wp2_with fail
      go_ret2
      rw [HL.out]
      exact ⟨rfl, hS.1⟩
  · have HL := Lib.hid (show slC xs = ((sol xs).length : Int) by simp [slC, hg])
    have h6 := (pzG_iff.1 hg).1
    have hcl := (pzG_iff.1 hg).2
    have HR := Lib.hid h
    have eg : ∀ args w, (callFunc 76 args).run Try.prog w = .ok (.enter 76 args) w := enters_of Try.func76 (by kernel_rfl) rfl
    have eg2 : ∀ args w, (callFunc 105 args).run Try.prog w = .ok (.enter 105 args) w := enters_of Try.func105 (by kernel_rfl) rfl
    have HQ := Lib.hid (fun (p : Nat) (W : World) (hw : Below w.heap.size w W) (hp : p < W.heap.size) (hc : W.cell? ⟨p, 0, none⟩ = some (.func (.func 76) #[] #[])) =>
      askI_yes 105 #[.pointer (some ⟨p, 0, none⟩)] A cap xs (((sol xs).length : Int)) true W (h.below hw) hn hcap hg eg2
        (fun W1 hb1 => alwaysCI_any 76 #[] p A xs.length (((sol xs).length : Int)) W1 (Nat.lt_of_lt_of_le hp hb1.size) (((bcell hb1).1 p 0 hp).trans hc) eg
          (fun W2 hb2 => count_any (some A) xs.length xs W2 (((h.below hw).below hb1).below hb2) hn hcl)))
    clear hg h hcl
    generalize ((sol xs).length : Int) = RR at *
    go_enter Try.func33, Try.ntmps33
    go_wp2_with fail
    go_region_held3 (fun W => Below w.heap.size w W ∧ w.heap.size < W.heap.size ∧ W.cell? ⟨w.heap.size, 0, none⟩ = some (.slice (some A) xs.length cap))
      (refine ⟨?_, ?_, ?_⟩ <;> first | assumption | omega | (go_simp; done) | (repeat (first | assumption | exact Below.refl _ _ | refine Below.drew ?_ | refine below_drewN ?_ _ | refine Below.setCell ?_ (by first | omega | (simp; done) | (simp; omega)) _ | refine Below.alloc ?_ (by first | omega | (simp; done) | (simp; omega)) _ | refine bchain ?_ (by assumption) (by first | omega | (simp; done) | (simp; omega)))))
      (first | (go_at_call 75; refine (alwaysI_any _ _ _).mono ?_; rintro e w1 ⟨rfl, hp1, hl1, hb1⟩; have hs1 := hb1.size; (try simp only [World.size_alloc, World.size_drew] at hs1 hp1 hl1); have hlw1 : w.heap.size < w1.heap.size := (by omega); have hcA := fun o => (bcell hb1).1 w.heap.size o (by first | omega | (simp; done) | (simp; omega))) | (go_at_call 74; refine (HQ.out _ _ (by (repeat (first | assumption | exact Below.refl _ _ | refine Below.drew ?_ | refine below_drewN ?_ _ | refine Below.setCell ?_ (by first | omega | (simp; done) | (simp; omega)) _ | refine Below.alloc ?_ (by first | omega | (simp; done) | (simp; omega)) _ | refine bchain ?_ (by assumption) (by first | omega | (simp; done) | (simp; omega))))) (by first | assumption | omega) (by assumption)).mono ?_; rintro e w2 ⟨rfl, hb2⟩; have hs2 := hb2.size; (try simp only [World.size_alloc, World.size_drew] at hs2); have hlw2 : w.heap.size < w2.heap.size := (by omega); have hcB := fun o => (bcell hb2).1 w.heap.size o (by first | omega | (simp; done) | (simp; omega))))
    all_goals
      rename_i hS
      go_wp2_with fail
      go_ret2
      rw [HL.out]
      exact ⟨rfl, hS.1⟩
set_option maxHeartbeats 4000000 in
theorem implIsSolved (A : Addr) (cap : Nat) (xs : List (Int × Int × Int)) (w : World) (h : RdT w (some A) xs) (hn : xs.length ≤ 1048576) (hcap : xs.length ≤ cap) :
    Calls Try.prog 40 #[.agg #[.slice (some A) xs.length cap]] w fun e w' => e = .returned (.tuple #[.bool (slS xs), .bool (pzG xs)]) ∧ Below w.heap.size w w' := by
  cases hg : pzG xs
  · have HL := Lib.hid (show slS xs = false by simp [slS, hg])
    have HQ := Lib.hid (fun Q w h => askB_no Q A cap xs w h hn hg)
    have HR := Lib.hid h
    clear hg h
    go_enter Try.func40, Try.ntmps40
    go_wp2_with fail
    go_region_held3 (fun W => Below w.heap.size w W ∧ w.heap.size < W.heap.size ∧ W.cell? ⟨w.heap.size, 0, none⟩ = some (.slice (some A) xs.length cap))
      (refine ⟨?_, ?_, ?_⟩ <;> first | assumption | omega | (go_simp; done) | (repeat (first | assumption | exact Below.refl _ _ | refine Below.drew ?_ | refine below_drewN ?_ _ | refine Below.setCell ?_ (by first | omega | (simp; done) | (simp; omega)) _ | refine Below.alloc ?_ (by first | omega | (simp; done) | (simp; omega)) _ | refine bchain ?_ (by assumption) (by first | omega | (simp; done) | (simp; omega)))))
      (first | (go_at_call 66; refine (alwaysB_any _ _ _).mono ?_; rintro e w1 ⟨rfl, hp1, hl1, hb1⟩; have hs1 := hb1.size; (try simp only [World.size_alloc, World.size_drew] at hs1 hp1 hl1); have hlw1 : w.heap.size < w1.heap.size := (by omega); have hcA := fun o => (bcell hb1).1 w.heap.size o (by first | omega | (simp; done) | (simp; omega))) | (go_at_call 65; refine (HQ.out _ _ (HR.out.below (by (repeat (first | assumption | exact Below.refl _ _ | refine Below.drew ?_ | refine below_drewN ?_ _ | refine Below.setCell ?_ (by first | omega | (simp; done) | (simp; omega)) _ | refine Below.alloc ?_ (by first | omega | (simp; done) | (simp; omega)) _ | refine bchain ?_ (by assumption) (by first | omega | (simp; done) | (simp; omega))))))).mono ?_; rintro e w2 ⟨rfl, hb2⟩; have hs2 := hb2.size; (try simp only [World.size_alloc, World.size_drew] at hs2); have hlw2 : w.heap.size < w2.heap.size := (by omega); have hcB := fun o => (bcell hb2).1 w.heap.size o (by first | omega | (simp; done) | (simp; omega))))
    all_goals
      rename_i hS
      go_wp2_with fail
      go_ret2
      rw [HL.out]
      exact ⟨rfl, hS.1⟩
  · have HL := Lib.hid (show slS xs = decide ((sol xs).length = 1) by simp [slS, hg])
    have h6 := (pzG_iff.1 hg).1
    have hcl := (pzG_iff.1 hg).2
    have HR := Lib.hid h
    have eg : ∀ args w, (callFunc 81 args).run Try.prog w = .ok (.enter 81 args) w := enters_of Try.func81 (by kernel_rfl) rfl
    have eg2 : ∀ args w, (callFunc 100 args).run Try.prog w = .ok (.enter 100 args) w := enters_of Try.func100 (by kernel_rfl) rfl
    have HQ := Lib.hid (fun (p : Nat) (W : World) (hw : Below w.heap.size w W) (hp : p < W.heap.size) (hc : W.cell? ⟨p, 0, none⟩ = some (.func (.func 81) #[] #[])) =>
      askB_yes 100 #[.pointer (some ⟨p, 0, none⟩)] A cap xs (decide ((sol xs).length = 1)) true W (h.below hw) hn hcap hg eg2
        (fun W1 hb1 => alwaysCB_any 81 #[] p A xs.length (decide ((sol xs).length = 1)) W1 (Nat.lt_of_lt_of_le hp hb1.size) (((bcell hb1).1 p 0 hp).trans hc) eg
          (fun W2 hb2 => isSolved_any (some A) xs.length xs W2 (((h.below hw).below hb1).below hb2) hn hcl)))
    clear hg h hcl
    generalize decide ((sol xs).length = 1) = RR at *
    go_enter Try.func40, Try.ntmps40
    go_wp2_with fail
    go_region_held3 (fun W => Below w.heap.size w W ∧ w.heap.size < W.heap.size ∧ W.cell? ⟨w.heap.size, 0, none⟩ = some (.slice (some A) xs.length cap))
      (refine ⟨?_, ?_, ?_⟩ <;> first | assumption | omega | (go_simp; done) | (repeat (first | assumption | exact Below.refl _ _ | refine Below.drew ?_ | refine below_drewN ?_ _ | refine Below.setCell ?_ (by first | omega | (simp; done) | (simp; omega)) _ | refine Below.alloc ?_ (by first | omega | (simp; done) | (simp; omega)) _ | refine bchain ?_ (by assumption) (by first | omega | (simp; done) | (simp; omega)))))
      (first | (go_at_call 66; refine (alwaysB_any _ _ _).mono ?_; rintro e w1 ⟨rfl, hp1, hl1, hb1⟩; have hs1 := hb1.size; (try simp only [World.size_alloc, World.size_drew] at hs1 hp1 hl1); have hlw1 : w.heap.size < w1.heap.size := (by omega); have hcA := fun o => (bcell hb1).1 w.heap.size o (by first | omega | (simp; done) | (simp; omega))) | (go_at_call 65; refine (HQ.out _ _ (by (repeat (first | assumption | exact Below.refl _ _ | refine Below.drew ?_ | refine below_drewN ?_ _ | refine Below.setCell ?_ (by first | omega | (simp; done) | (simp; omega)) _ | refine Below.alloc ?_ (by first | omega | (simp; done) | (simp; omega)) _ | refine bchain ?_ (by assumption) (by first | omega | (simp; done) | (simp; omega))))) (by first | assumption | omega) (by assumption)).mono ?_; rintro e w2 ⟨rfl, hb2⟩; have hs2 := hb2.size; (try simp only [World.size_alloc, World.size_drew] at hs2); have hlw2 : w.heap.size < w2.heap.size := (by omega); have hcB := fun o => (bcell hb2).1 w.heap.size o (by first | omega | (simp; done) | (simp; omega))))
    all_goals
      rename_i hS
      go_wp2_with fail
      go_ret2
      rw [HL.out]
      exact ⟨rfl, hS.1⟩
set_option maxHeartbeats 4000000 in
theorem implNeedlessClues (A : Addr) (cap : Nat) (xs : List (Int × Int × Int)) (w : World) (h : RdT w (some A) xs) (hn : xs.length ≤ 1048576) (hcap : xs.length ≤ cap) :
    Calls Try.prog 42 #[.agg #[.slice (some A) xs.length cap]] w (RetI9 w (ndL xs) (pzG xs)) := by
  cases hg : pzG xs
  · have HL := Lib.hid (show ndL xs = [] by simp [ndL, hg])
    have HQ := Lib.hid (fun Q w h => askN_no Q A cap xs w h hn hg)
    have HR := Lib.hid h
    clear hg h
    go_enter Try.func42, Try.ntmps42
    go_wp2_with fail
    go_region_held3 (fun W => Below w.heap.size w W ∧ w.heap.size < W.heap.size ∧ W.cell? ⟨w.heap.size, 0, none⟩ = some (.slice (some A) xs.length cap))
      (refine ⟨?_, ?_, ?_⟩ <;> first | assumption | omega | (go_simp; done) | (repeat (first | assumption | exact Below.refl _ _ | refine Below.drew ?_ | refine below_drewN ?_ _ | refine Below.setCell ?_ (by first | omega | (simp; done) | (simp; omega)) _ | refine Below.alloc ?_ (by first | omega | (simp; done) | (simp; omega)) _ | refine bchain ?_ (by assumption) (by first | omega | (simp; done) | (simp; omega)))))
      (first | (go_at_call 84; refine (alwaysN_any _ _ _).mono ?_; rintro e w1 ⟨rfl, hp1, hl1, hb1⟩; have hs1 := hb1.size; (try simp only [World.size_alloc, World.size_drew] at hs1 hp1 hl1); have hlw1 : w.heap.size < w1.heap.size := (by omega); have hcA := fun o => (bcell hb1).1 w.heap.size o (by first | omega | (simp; done) | (simp; omega))) | (go_at_call 83; refine (HQ.out _ _ (HR.out.below (by (repeat (first | assumption | exact Below.refl _ _ | refine Below.drew ?_ | refine below_drewN ?_ _ | refine Below.setCell ?_ (by first | omega | (simp; done) | (simp; omega)) _ | refine Below.alloc ?_ (by first | omega | (simp; done) | (simp; omega)) _ | refine bchain ?_ (by assumption) (by first | omega | (simp; done) | (simp; omega))))))).mono ?_; rintro e w2 ⟨a2, c2, rfl, hO2, hb2⟩; have hs2 := hb2.size; (try simp only [World.size_alloc, World.size_drew] at hs2); have hlw2 : w.heap.size < w2.heap.size := (by omega); have hcB := fun o => (bcell hb2).1 w.heap.size o (by first | omega | (simp; done) | (simp; omega))))
    all_goals
      rename_i hS
      go_wp2_with fail
      go_ret2
      rw [HL.out]
      exact ⟨a2, c2, rfl, row_low hO2 (by omega), hS.1⟩
  · have HL := Lib.hid (show ndL xs = ndN xs xs.length by simp [ndL, hg])
    have h6 := (pzG_iff.1 hg).1
    have hcl := (pzG_iff.1 hg).2
    have HR := Lib.hid h
    have eg : ∀ args w, (callFunc 85 args).run Try.prog w = .ok (.enter 85 args) w := enters_of Try.func85 (by kernel_rfl) rfl
    have eg2 : ∀ args w, (callFunc 108 args).run Try.prog w = .ok (.enter 108 args) w := enters_of Try.func108 (by kernel_rfl) rfl
    have HQ := Lib.hid (fun (p : Nat) (W : World) (hw : Below w.heap.size w W) (hp : p < W.heap.size) (hc : W.cell? ⟨p, 0, none⟩ = some (.func (.func 85) #[] #[])) =>
      askN_yes 108 #[.pointer (some ⟨p, 0, none⟩)] A cap xs (ndN xs xs.length) true W (h.below hw) hn hcap hg eg2
        (fun W1 hb1 => alwaysCN_any 85 #[] p A xs.length (ndN xs xs.length) W1 (Nat.lt_of_lt_of_le hp hb1.size) (((bcell hb1).1 p 0 hp).trans hc) eg
          (fun W2 hb2 => needless_any (some A) xs.length xs W2 (((h.below hw).below hb1).below hb2) h6 (Nat.le_refl _) hcl)))
    clear hg h hcl
    generalize ndN xs xs.length = RR at *
    go_enter Try.func42, Try.ntmps42
    go_wp2_with fail
    go_region_held3 (fun W => Below w.heap.size w W ∧ w.heap.size < W.heap.size ∧ W.cell? ⟨w.heap.size, 0, none⟩ = some (.slice (some A) xs.length cap))
      (refine ⟨?_, ?_, ?_⟩ <;> first | assumption | omega | (go_simp; done) | (repeat (first | assumption | exact Below.refl _ _ | refine Below.drew ?_ | refine below_drewN ?_ _ | refine Below.setCell ?_ (by first | omega | (simp; done) | (simp; omega)) _ | refine Below.alloc ?_ (by first | omega | (simp; done) | (simp; omega)) _ | refine bchain ?_ (by assumption) (by first | omega | (simp; done) | (simp; omega)))))
      (first | (go_at_call 84; refine (alwaysN_any _ _ _).mono ?_; rintro e w1 ⟨rfl, hp1, hl1, hb1⟩; have hs1 := hb1.size; (try simp only [World.size_alloc, World.size_drew] at hs1 hp1 hl1); have hlw1 : w.heap.size < w1.heap.size := (by omega); have hcA := fun o => (bcell hb1).1 w.heap.size o (by first | omega | (simp; done) | (simp; omega))) | (go_at_call 83; refine (HQ.out _ _ (by (repeat (first | assumption | exact Below.refl _ _ | refine Below.drew ?_ | refine below_drewN ?_ _ | refine Below.setCell ?_ (by first | omega | (simp; done) | (simp; omega)) _ | refine Below.alloc ?_ (by first | omega | (simp; done) | (simp; omega)) _ | refine bchain ?_ (by assumption) (by first | omega | (simp; done) | (simp; omega))))) (by first | assumption | omega) (by assumption)).mono ?_; rintro e w2 ⟨a2, c2, rfl, hO2, hb2⟩; have hs2 := hb2.size; (try simp only [World.size_alloc, World.size_drew] at hs2); have hlw2 : w.heap.size < w2.heap.size := (by omega); have hcB := fun o => (bcell hb2).1 w.heap.size o (by first | omega | (simp; done) | (simp; omega))))
    all_goals
      rename_i hS
      go_wp2_with fail
      go_ret2
      rw [HL.out]
      exact ⟨a2, c2, rfl, row_low hO2 (by omega), hS.1⟩
set_option maxHeartbeats 4000000 in
theorem implLeftByClues (A : Addr) (cap : Nat) (xs : List (Int × Int × Int)) (w : World) (h : RdT w (some A) xs) (hn : xs.length ≤ 1048576) (hcap : xs.length ≤ cap) :
    Calls Try.prog 52 #[.agg #[.slice (some A) xs.length cap]] w (RetI9 w (lfL xs) (pzG xs)) := by
  cases hg : pzG xs
  · have HL := Lib.hid (show lfL xs = [] by simp [lfL, hg])
    have HQ := Lib.hid (fun Q w h => askN_no Q A cap xs w h hn hg)
    have HR := Lib.hid h
    clear hg h
    go_enter Try.func52, Try.ntmps52
    go_wp2_with fail
    go_region_held3 (fun W => Below w.heap.size w W ∧ w.heap.size < W.heap.size ∧ W.cell? ⟨w.heap.size, 0, none⟩ = some (.slice (some A) xs.length cap))
      (refine ⟨?_, ?_, ?_⟩ <;> first | assumption | omega | (go_simp; done) | (repeat (first | assumption | exact Below.refl _ _ | refine Below.drew ?_ | refine below_drewN ?_ _ | refine Below.setCell ?_ (by first | omega | (simp; done) | (simp; omega)) _ | refine Below.alloc ?_ (by first | omega | (simp; done) | (simp; omega)) _ | refine bchain ?_ (by assumption) (by first | omega | (simp; done) | (simp; omega)))))
      (first | (go_at_call 84; refine (alwaysN_any _ _ _).mono ?_; rintro e w1 ⟨rfl, hp1, hl1, hb1⟩; have hs1 := hb1.size; (try simp only [World.size_alloc, World.size_drew] at hs1 hp1 hl1); have hlw1 : w.heap.size < w1.heap.size := (by omega); have hcA := fun o => (bcell hb1).1 w.heap.size o (by first | omega | (simp; done) | (simp; omega))) | (go_at_call 83; refine (HQ.out _ _ (HR.out.below (by (repeat (first | assumption | exact Below.refl _ _ | refine Below.drew ?_ | refine below_drewN ?_ _ | refine Below.setCell ?_ (by first | omega | (simp; done) | (simp; omega)) _ | refine Below.alloc ?_ (by first | omega | (simp; done) | (simp; omega)) _ | refine bchain ?_ (by assumption) (by first | omega | (simp; done) | (simp; omega))))))).mono ?_; rintro e w2 ⟨a2, c2, rfl, hO2, hb2⟩; have hs2 := hb2.size; (try simp only [World.size_alloc, World.size_drew] at hs2); have hlw2 : w.heap.size < w2.heap.size := (by omega); have hcB := fun o => (bcell hb2).1 w.heap.size o (by first | omega | (simp; done) | (simp; omega))))
    all_goals
      rename_i hS
      go_wp2_with fail
      go_ret2
      rw [HL.out]
      exact ⟨a2, c2, rfl, row_low hO2 (by omega), hS.1⟩
  · have HL := Lib.hid (show lfL xs = lfN xs (xs.length + 1) by simp [lfL, hg])
    have h6 := (pzG_iff.1 hg).1
    have hcl := (pzG_iff.1 hg).2
    have HR := Lib.hid h
    have eg : ∀ args w, (callFunc 91 args).run Try.prog w = .ok (.enter 91 args) w := enters_of Try.func91 (by kernel_rfl) rfl
    have eg2 : ∀ args w, (callFunc 108 args).run Try.prog w = .ok (.enter 108 args) w := enters_of Try.func108 (by kernel_rfl) rfl
    have HQ := Lib.hid (fun (p : Nat) (W : World) (hw : Below w.heap.size w W) (hp : p < W.heap.size) (hc : W.cell? ⟨p, 0, none⟩ = some (.func (.func 91) #[] #[])) =>
      askN_yes 108 #[.pointer (some ⟨p, 0, none⟩)] A cap xs (lfN xs (xs.length + 1)) true W (h.below hw) hn hcap hg eg2
        (fun W1 hb1 => alwaysCN_any 91 #[] p A xs.length (lfN xs (xs.length + 1)) W1 (Nat.lt_of_lt_of_le hp hb1.size) (((bcell hb1).1 p 0 hp).trans hc) eg
          (fun W2 hb2 => leftByFirst_any (some A) xs.length xs W2 (((h.below hw).below hb1).below hb2) h6 (Nat.le_refl _) hcl)))
    clear hg h hcl
    generalize lfN xs (xs.length + 1) = RR at *
    go_enter Try.func52, Try.ntmps52
    go_wp2_with fail
    go_region_held3 (fun W => Below w.heap.size w W ∧ w.heap.size < W.heap.size ∧ W.cell? ⟨w.heap.size, 0, none⟩ = some (.slice (some A) xs.length cap))
      (refine ⟨?_, ?_, ?_⟩ <;> first | assumption | omega | (go_simp; done) | (repeat (first | assumption | exact Below.refl _ _ | refine Below.drew ?_ | refine below_drewN ?_ _ | refine Below.setCell ?_ (by first | omega | (simp; done) | (simp; omega)) _ | refine Below.alloc ?_ (by first | omega | (simp; done) | (simp; omega)) _ | refine bchain ?_ (by assumption) (by first | omega | (simp; done) | (simp; omega)))))
      (first | (go_at_call 84; refine (alwaysN_any _ _ _).mono ?_; rintro e w1 ⟨rfl, hp1, hl1, hb1⟩; have hs1 := hb1.size; (try simp only [World.size_alloc, World.size_drew] at hs1 hp1 hl1); have hlw1 : w.heap.size < w1.heap.size := (by omega); have hcA := fun o => (bcell hb1).1 w.heap.size o (by first | omega | (simp; done) | (simp; omega))) | (go_at_call 83; refine (HQ.out _ _ (by (repeat (first | assumption | exact Below.refl _ _ | refine Below.drew ?_ | refine below_drewN ?_ _ | refine Below.setCell ?_ (by first | omega | (simp; done) | (simp; omega)) _ | refine Below.alloc ?_ (by first | omega | (simp; done) | (simp; omega)) _ | refine bchain ?_ (by assumption) (by first | omega | (simp; done) | (simp; omega))))) (by first | assumption | omega) (by assumption)).mono ?_; rintro e w2 ⟨a2, c2, rfl, hO2, hb2⟩; have hs2 := hb2.size; (try simp only [World.size_alloc, World.size_drew] at hs2); have hlw2 : w.heap.size < w2.heap.size := (by omega); have hcB := fun o => (bcell hb2).1 w.heap.size o (by first | omega | (simp; done) | (simp; omega))))
    all_goals
      rename_i hS
      go_wp2_with fail
      go_ret2
      rw [HL.out]
      exact ⟨a2, c2, rfl, row_low hO2 (by omega), hS.1⟩
set_option maxHeartbeats 8000000 in
set_option maxRecDepth 100000 in
theorem implIsPuzzle (A : Addr) (cap : Nat) (xs : List (Int × Int × Int)) (w : World) (h : RdT w (some A) xs) (hn : xs.length ≤ 1048576) (hcap : xs.length ≤ cap) :
    Calls Try.prog 21 #[.agg #[.slice (some A) xs.length cap]] w fun e w' => e = .returned (.bool (pzG xs)) ∧ Below w.heap.size w w' := by
  cases hg : pzG xs
  · have HQ := Lib.hid (fun Q w h => askP_no Q A cap xs w h hn hg)
    have HR := Lib.hid h
    clear hg h
    go_enter Try.func21, Try.ntmps21
    go_wp2_with fail
    go_region_held3 (fun W => Below w.heap.size w W ∧ w.heap.size < W.heap.size ∧ W.cell? ⟨w.heap.size, 0, none⟩ = some (.slice (some A) xs.length cap))
      (refine ⟨?_, ?_, ?_⟩ <;> first | assumption | omega | (go_simp; done) | (go_simp; omega) | (repeat (first | assumption | exact Below.refl _ _ | refine Below.drew ?_ | refine below_drewN ?_ _ | refine Below.setCell ?_ (by first | omega | (simp; done) | (simp; omega)) _ | refine Below.alloc ?_ (by first | omega | (simp; done) | (simp; omega)) _ | refine bchain ?_ (by assumption) (by first | omega | (simp; done) | (simp; omega)))))
      (first | (go_at_call 59; refine (alwaysP_any _ _ _).mono ?_; rintro e w1 ⟨rfl, hp1, hl1, hb1⟩; have hs1 := hb1.size; (try simp only [World.size_alloc, World.size_drew] at hs1 hp1 hl1); have hlw1 : w.heap.size < w1.heap.size := (by omega); have hlx1 : w.heap.size + 1 < w1.heap.size := (by omega); have hall1 := (bcell hb1).1; have hfall1 := (bcell hb1).2) | (go_at_call 58; refine (HQ.out _ _ (HR.out.below (by (repeat (first | assumption | exact Below.refl _ _ | refine Below.drew ?_ | refine below_drewN ?_ _ | refine Below.setCell ?_ (by first | omega | (simp; done) | (simp; omega)) _ | refine Below.alloc ?_ (by first | omega | (simp; done) | (simp; omega)) _ | refine bchain ?_ (by assumption) (by first | omega | (simp; done) | (simp; omega))))))).mono ?_; rintro e w2 ⟨a2, c2, rfl, hO2, hb2⟩; have hs2 := hb2.size; (try simp only [World.size_alloc, World.size_drew] at hs2); have hlw2 : w.heap.size < w2.heap.size := (by omega); have hlx2 : w.heap.size + 1 < w2.heap.size := (by omega); have hall2 := (bcell hb2).1; have hfall2 := (bcell hb2).2))
    all_goals
      rename_i hS
      go_wp2_with fail
      go_ret
      exact ⟨rfl, hS.1⟩
  · have h6 := (pzG_iff.1 hg).1
    have HR := Lib.hid h
    have eg : ∀ args w, (callFunc 60 args).run Try.prog w = .ok (.enter 60 args) w := enters_of Try.func60 (by kernel_rfl) rfl
    have eg2 : ∀ args w, (callFunc 94 args).run Try.prog w = .ok (.enter 94 args) w := enters_of Try.func94 (by kernel_rfl) rfl
    have HQ := Lib.hid (fun (p : Nat) (W : World) (hw : Below w.heap.size w W) (hp : p < W.heap.size) (hc : W.cell? ⟨p, 0, none⟩ = some (.func (.func 60) #[] #[])) =>
      askP_yes 94 #[.pointer (some ⟨p, 0, none⟩)] A cap xs xs true W (h.below hw) hn hcap hg eg2
        (fun W1 hb1 => alwaysCP_any 60 #[] p A xs.length xs W1 (Nat.lt_of_lt_of_le hp hb1.size) (((bcell hb1).1 p 0 hp).trans hc) eg
          (fun W2 hb2 => puzzle_any A xs.length xs W2 (((h.below hw).below hb1).below hb2) (by omega))))
    clear hg h
    go_enter Try.func21, Try.ntmps21
    go_wp2_with fail
    go_region_held3 (fun W => Below w.heap.size w W ∧ w.heap.size < W.heap.size ∧ W.cell? ⟨w.heap.size, 0, none⟩ = some (.slice (some A) xs.length cap))
      (refine ⟨?_, ?_, ?_⟩ <;> first | assumption | omega | (go_simp; done) | (go_simp; omega) | (repeat (first | assumption | exact Below.refl _ _ | refine Below.drew ?_ | refine below_drewN ?_ _ | refine Below.setCell ?_ (by first | omega | (simp; done) | (simp; omega)) _ | refine Below.alloc ?_ (by first | omega | (simp; done) | (simp; omega)) _ | refine bchain ?_ (by assumption) (by first | omega | (simp; done) | (simp; omega)))))
      (first | (go_at_call 59; refine (alwaysP_any _ _ _).mono ?_; rintro e w1 ⟨rfl, hp1, hl1, hb1⟩; have hs1 := hb1.size; (try simp only [World.size_alloc, World.size_drew] at hs1 hp1 hl1); have hlw1 : w.heap.size < w1.heap.size := (by omega); have hlx1 : w.heap.size + 1 < w1.heap.size := (by omega); have hall1 := (bcell hb1).1; have hfall1 := (bcell hb1).2) | (go_at_call 58; refine (HQ.out _ _ (by (repeat (first | assumption | exact Below.refl _ _ | refine Below.drew ?_ | refine below_drewN ?_ _ | refine Below.setCell ?_ (by first | omega | (simp; done) | (simp; omega)) _ | refine Below.alloc ?_ (by first | omega | (simp; done) | (simp; omega)) _ | refine bchain ?_ (by assumption) (by first | omega | (simp; done) | (simp; omega))))) (by first | assumption | omega | (simp; done) | (simp; omega)) (by first | assumption | (go_simp; done))).mono ?_; rintro e w2 ⟨a2, c2, rfl, hO2, hb2⟩; have hs2 := hb2.size; (try simp only [World.size_alloc, World.size_drew] at hs2); have hlw2 : w.heap.size < w2.heap.size := (by omega); have hlx2 : w.heap.size + 1 < w2.heap.size := (by omega); have hall2 := (bcell hb2).1; have hfall2 := (bcell hb2).2))
    all_goals
      rename_i hS
      go_wp2_with fail
      go_ret
      exact ⟨rfl, hS.1⟩
set_option maxHeartbeats 4000000 in
theorem implFirstSolution (A : Addr) (cap : Nat) (xs : List (Int × Int × Int)) (w : World) (h : RdT w (some A) xs) (hn : xs.length ≤ 1048576) (hcap : xs.length ≤ cap) :
    Calls Try.prog 35 #[.agg #[.slice (some A) xs.length cap]] w fun e w' => e = .returned (.tuple #[.agg #[.int .i64 (slU xs), .int .i64 (slD xs)], .bool (slF xs)]) ∧ Below w.heap.size w w' := by
  have hmain : ∃ u d ok, slU xs = u ∧ slD xs = d ∧ slF xs = ok ∧ Hid (∀ W, RdT W (some A) xs → Calls Try.prog 77 #[.slice (some A) xs.length cap, .func (.func 78) #[] #[]] W fun e w' => e = .returned (.tuple #[.agg #[.int .i64 u, .int .i64 d], .bool ok]) ∧ Below W.heap.size W w') := by
    cases hg : pzG xs
    · have hf : slF xs = false := by simp [slF, hg]
      exact ⟨0, 0, false, by simp [slU, hf], by simp [slD, hf], hf, fun W hW => askS_no _ A cap xs W hW hn hg⟩
    · have hf : slF xs = decide (0 < (sol xs).length) := by simp [slF, hg]
      have hcl := (pzG_iff.1 hg).2
      have eg : ∀ args w, (callFunc 78 args).run Try.prog w = .ok (.enter 78 args) w := enters_of Try.func78 (by kernel_rfl) rfl
      refine ⟨fsU xs, fsD xs, decide (0 < (sol xs).length), ?_, ?_, hf, fun W hW => askS_yes 78 #[] A cap xs _ _ _ W hW hn hcap hg eg (fun W1 hb1 => first_any (some A) xs.length xs W1 (hW.below hb1) hn hcl)⟩
      · unfold slU fsU; rw [hf]; by_cases q : 0 < (sol xs).length <;> simp [q]
      · unfold slD fsD; rw [hf]; by_cases q : 0 < (sol xs).length <;> simp [q]
  obtain ⟨u, d, ok, e1, e2, e3, HQ⟩ := hmain
  rw [e1, e2, e3]
  clear e1 e2 e3
  have HR := Lib.hid h
  clear h
  go_enter Try.func35, Try.ntmps35
  go_wp2_with (first | (go_at_call 77; refine (HQ.out _ (HR.out.below (by (repeat (first | assumption | exact Below.refl _ _ | refine Below.drew ?_ | refine below_drewN ?_ _ | refine Below.setCell ?_ (by first | omega | (simp; done) | (simp; omega)) _ | refine Below.alloc ?_ (by first | omega | (simp; done) | (simp; omega)) _ | refine bchain ?_ (by assumption) (by first | omega | (simp; done) | (simp; omega))))))).mono ?_; rintro e w2 ⟨rfl, hb2⟩; have hs2 := hb2.size; (try simp only [World.size_alloc, World.size_drew] at hs2); have hlw2 : w.heap.size < w2.heap.size := (by omega); have hlx2 : w.heap.size + 1 < w2.heap.size := (by omega); have hx2 : w2.cell? ⟨w.heap.size + 1, 0, none⟩ = some (.int .i64 0) := (by rw [(bcell hb2).1 _ _ (by first | omega | (simp; done) | (simp; omega))]; go_simp); have hy2 : w2.cell? ⟨w.heap.size + 1, 1, none⟩ = some (.int .i64 0) := (by rw [(bcell hb2).1 _ _ (by first | omega | (simp; done) | (simp; omega))]; go_simp); have hf2 : ∀ o, w2.frozen? ⟨w.heap.size + 1, o, none⟩ = false := (fun o => by rw [(bcell hb2).2 _ _ (by first | omega | (simp; done) | (simp; omega))]; go_simp)))
  refine bodyPost_ret (v := .tuple #[.agg #[.int .i64 u, .int .i64 d], .bool ok]) (by simp [results, Try.results35, go_sem, hx2, hy2]) rfl ⟨rfl, by (repeat (first | assumption | exact Below.refl _ _ | refine Below.drew ?_ | refine below_drewN ?_ _ | refine Below.setCell ?_ (by first | omega | (simp; done) | (simp; omega)) _ | refine Below.alloc ?_ (by first | omega | (simp; done) | (simp; omega)) _ | refine bchain ?_ (by assumption) (by first | omega | (simp; done) | (simp; omega))))⟩
set_option maxHeartbeats 4000000 in
theorem implSureSnail (A : Addr) (cap : Nat) (xs : List (Int × Int × Int)) (w : World) (h : RdT w (some A) xs) (hn : xs.length ≤ 1048576) (hcap : xs.length ≤ cap) :
    Calls Try.prog 38 #[.agg #[.slice (some A) xs.length cap]] w fun e w' => e = .returned (.tuple #[.int .i64 (suU xs), .int .i64 (suD xs), .bool (slF xs)]) ∧ Below w.heap.size w w' := by
  have hmain : ∃ u d ok, suU xs = u ∧ suD xs = d ∧ slF xs = ok ∧ Hid (∀ W, RdT W (some A) xs → Calls Try.prog 77 #[.slice (some A) xs.length cap, .func (.func 79) #[] #[]] W fun e w' => e = .returned (.tuple #[.agg #[.int .i64 u, .int .i64 d], .bool ok]) ∧ Below W.heap.size W w') := by
    cases hg : pzG xs
    · have hf : slF xs = false := by simp [slF, hg]
      exact ⟨0, 0, false, by simp [suU, hf], by simp [suD, hf], hf, fun W hW => askS_no _ A cap xs W hW hn hg⟩
    · have hf : slF xs = decide (0 < (sol xs).length) := by simp [slF, hg]
      have hcl := (pzG_iff.1 hg).2
      have eg : ∀ args w, (callFunc 79 args).run Try.prog w = .ok (.enter 79 args) w := enters_of Try.func79 (by kernel_rfl) rfl
      refine ⟨sgU (sol xs) (sol xs).length, sgD (sol xs) (sol xs).length, decide (0 < (sol xs).length), ?_, ?_, hf, fun W hW => askS_yes 79 #[] A cap xs _ _ _ W hW hn hcap hg eg (fun W1 hb1 => sure_any (some A) xs.length xs W1 (hW.below hb1) hn hcl)⟩
      · unfold suU sgU; rw [hf]; by_cases q : 0 < (sol xs).length <;> simp [q]
      · unfold suD sgD; rw [hf]; by_cases q : 0 < (sol xs).length <;> simp [q]
  obtain ⟨u, d, ok, e1, e2, e3, HQ⟩ := hmain
  rw [e1, e2, e3]
  clear e1 e2 e3
  have HR := Lib.hid h
  clear h
  go_enter Try.func38, Try.ntmps38
  go_wp2_with (first | (go_at_call 77; refine (HQ.out _ (HR.out.below (by (repeat (first | assumption | exact Below.refl _ _ | refine Below.drew ?_ | refine below_drewN ?_ _ | refine Below.setCell ?_ (by first | omega | (simp; done) | (simp; omega)) _ | refine Below.alloc ?_ (by first | omega | (simp; done) | (simp; omega)) _ | refine bchain ?_ (by assumption) (by first | omega | (simp; done) | (simp; omega))))))).mono ?_; rintro e w2 ⟨rfl, hb2⟩; have hs2 := hb2.size; (try simp only [World.size_alloc, World.size_drew] at hs2); have hlw2 : w.heap.size < w2.heap.size := (by omega)))
  go_quiet (fail)
  go_wp2_with fail
  refine bodyPost_ret (v := .tuple #[.int .i64 u, .int .i64 d, .bool ok]) (by simp [results, Try.results38, go_sem]) rfl ⟨rfl, by (repeat (first | assumption | exact Below.refl _ _ | refine Below.drew ?_ | refine below_drewN ?_ _ | refine Below.setCell ?_ (by first | omega | (simp; done) | (simp; omega)) _ | refine Below.alloc ?_ (by first | omega | (simp; done) | (simp; omega)) _ | refine bchain ?_ (by assumption) (by first | omega | (simp; done) | (simp; omega))))⟩
set_option maxHeartbeats 4000000 in
theorem dropC_any (p : Nat) (A : Addr) (xs : List (Int × Int × Int)) (k : Int) (w : World) (h : RdT w (some A) xs) (h6 : xs.length ≤ 6) (hp : p < w.heap.size) (hc : w.cell? ⟨p, 0, none⟩ = some (.int .i64 k)) :
    Calls Try.prog 87 (#[.slice (some A) xs.length xs.length] ++ #[.pointer (some ⟨p, 0, none⟩)]) w (RetP9 w (if inB k 0 ((xs.length : Int) - 1) then drp xs k.toNat else []) (inB k 0 ((xs.length : Int) - 1))) := by
  show Calls Try.prog 87 #[.slice (some A) xs.length xs.length, .pointer (some ⟨p, 0, none⟩)] w _
  have HR := Lib.hid h
  clear h
  cases hi0 : inB k 0 ((xs.length : Int) - 1)
  · have HI := Lib.hid hi0
    clear hi0
    go_enter Try.func87, Try.ntmps87
    go_wp2_with (first | (go_at_call 54; refine (implIn _ _ _ _).mono ?_; rw [HI.out]; rintro e w1 ⟨rfl, rfl⟩))
    refine bodyPost_ret (v := .tuple #[.agg #[.slice none 0 0], .bool false]) (by simp [results, Try.results87, go_sem]) rfl ⟨none, 0, rfl, World.ownsRow_nil _ _ _ _, by (repeat (first | assumption | exact Below.refl _ _ | refine Below.drew ?_ | refine below_drewN ?_ _ | refine Below.setCell ?_ (by first | omega | (simp; done) | (simp; omega)) _ | refine Below.alloc ?_ (by first | omega | (simp; done) | (simp; omega)) _ | refine bchain ?_ (by assumption) (by first | omega | (simp; done) | (simp; omega))))⟩
  · have hb := inB_iff.1 hi0
    obtain ⟨m, rfl⟩ : ∃ m : Nat, k = (m : Int) := ⟨k.toNat, by omega⟩
    have hm : m < xs.length := by omega
    have HI := Lib.hid hi0
    have HW := Lib.hid (fun w h => without_any (some A) xs.length xs m w h (by omega) (Nat.le_refl _) hm)
    have hdl := drp_len hm
    have HPz := Lib.hid (fun A2 c2 w h => puzzle_any A2 c2 (drp xs m) w h (by omega))
    rw [if_pos rfl, show ((m : Int)).toNat = m from by omega]
    clear hi0 hdl
    generalize drp xs m = D at *
    go_enter Try.func87, Try.ntmps87
    go_wp2_with (first | (go_at_call 54; refine (implIn _ _ _ _).mono ?_; rw [HI.out]; rintro e w1 ⟨rfl, rfl⟩) | (go_at_call 88; refine (HW.out _ (HR.out.below (by (repeat (first | assumption | exact Below.refl _ _ | refine Below.drew ?_ | refine below_drewN ?_ _ | refine Below.setCell ?_ (by first | omega | (simp; done) | (simp; omega)) _ | refine Below.alloc ?_ (by first | omega | (simp; done) | (simp; omega)) _ | refine bchain ?_ (by assumption) (by first | omega | (simp; done) | (simp; omega))))))).mono ?_; rintro e w2 ⟨A2, c2, rfl, hR2, hc2, hb2⟩; have hs2 := hb2.size; (try simp only [World.size_alloc] at hs2); have hx2 : w2.cell? ⟨w.heap.size, 0, none⟩ = some (.slice none 0 0) := (by rw [(bcell hb2).1 _ _ (by first | omega | (simp; done) | (simp; omega))]; go_simp); have hf2 : ∀ o, w2.frozen? ⟨w.heap.size, o, none⟩ = false := (fun o => by rw [(bcell hb2).2 _ _ (by first | omega | (simp; done) | (simp; omega))]; go_simp); have HR2 := Lib.hid hR2; have B2 := Lib.hid (show Below w.heap.size w w2 by (repeat (first | assumption | exact Below.refl _ _ | refine Below.drew ?_ | refine below_drewN ?_ _ | refine Below.setCell ?_ (by first | omega | (simp; done) | (simp; omega)) _ | refine Below.alloc ?_ (by first | omega | (simp; done) | (simp; omega)) _ | refine bchain ?_ (by assumption) (by first | omega | (simp; done) | (simp; omega))))); clear hR2 hb2) | (go_at_call 60; refine (HPz.out _ _ _ HR2.out).mono ?_; rintro e w3 ⟨a3, c3, rfl, hO3, hb3⟩; have hs3 := hb3.size; have hx3 : w3.cell? ⟨w.heap.size, 0, none⟩ = some (.slice none 0 0) := ((bcell hb3).1 _ _ (by omega)).trans hx2; have hf3 : ∀ o, w3.frozen? ⟨w.heap.size, o, none⟩ = false := (fun o => ((bcell hb3).2 _ _ (by omega)).trans (hf2 o)); have B3 := Lib.hid (B2.out.trans (hb3.mono B2.out.size)); have HO3 := Lib.hid hO3; clear hb3 hO3))
    refine bodyPost_ret (v := .tuple #[.agg #[.slice a3 D.length c3], .bool true]) (by simp [results, Try.results87, go_sem, hx3]) rfl ⟨a3, c3, rfl, ?_, B3.out.setCell (by simp) _⟩
    exact row_low (row_setLow HO3.out _ _ (by simp; omega)) (by omega)
set_option maxHeartbeats 4000000 in
theorem implDropClue (A : Addr) (cap : Nat) (xs : List (Int × Int × Int)) (k : Int) (w : World) (h : RdT w (some A) xs) (hn : xs.length ≤ 1048576) (hcap : xs.length ≤ cap) :
    Calls Try.prog 47 #[.agg #[.slice (some A) xs.length cap], .int .i64 k] w (RetP9 w (dpL xs k) (dpB xs k)) := by
  have hmf : ∀ (fn : Fn) (first cap : Array Value) (w : World), (Instr.makeFunc fn first cap).run Try.prog w = .ok (.func fn first cap) w := fun _ _ _ _ => rfl
  have hmain : Hid (∀ (p : Nat) W, RdT W (some A) xs → p < W.heap.size → W.cell? ⟨p, 0, none⟩ = some (.int .i64 k) → Calls Try.prog 58 #[.slice (some A) xs.length cap, .func (.func 87) #[] #[.pointer (some ⟨p, 0, none⟩)]] W (RetP9 W (dpL xs k) (dpB xs k))) := by
    intro p W hW hp hc
    cases hg : pzG xs
    · rw [show dpB xs k = false by simp [dpB, hg], show dpL xs k = [] by simp [dpL, dpB, hg]]
      exact askP_no _ A cap xs W hW hn hg
    · have h6 := (pzG_iff.1 hg).1
      have eg : ∀ args w, (callFunc 87 args).run Try.prog w = .ok (.enter 87 args) w := enters_of Try.func87 (by kernel_rfl) rfl
      have eB : dpB xs k = inB k 0 ((xs.length : Int) - 1) := by simp [dpB, hg]
      rw [show dpL xs k = if inB k 0 ((xs.length : Int) - 1) then drp xs k.toNat else [] by unfold dpL; rw [eB], eB]
      exact askP_yes 87 #[.pointer (some ⟨p, 0, none⟩)] A cap xs _ _ W hW hn hcap hg eg (fun W1 hb1 => dropC_any p A xs k W1 (hW.below hb1) h6 (Nat.lt_of_lt_of_le hp hb1.size) (((bcell hb1).1 p 0 hp).trans hc))
  have HR := Lib.hid h
  clear h
  generalize dpL xs k = D at *
  generalize dpB xs k = ok at *
  go_enter Try.func47, Try.ntmps47
  go_wp2_with (first | (go_at_call 58; refine (hmain.out _ _ (HR.out.below (by (repeat (first | assumption | exact Below.refl _ _ | refine Below.drew ?_ | refine below_drewN ?_ _ | refine Below.setCell ?_ (by first | omega | (simp; done) | (simp; omega)) _ | refine Below.alloc ?_ (by first | omega | (simp; done) | (simp; omega)) _ | refine bchain ?_ (by assumption) (by first | omega | (simp; done) | (simp; omega)))))) (by first | omega | (simp; done) | (simp; omega)) (by go_simp)).mono ?_; rintro e w2 ⟨a2, c2, rfl, hO2, hb2⟩; have hs2 := hb2.size; (try simp only [World.size_alloc, World.size_drew] at hs2); have hlw2 : w.heap.size + 1 + 1 < w2.heap.size := (by omega); have hx2 : w2.cell? ⟨w.heap.size + 1 + 1, 0, none⟩ = some (.slice none 0 0) := (by rw [(bcell hb2).1 _ _ (by first | omega | (simp; done) | (simp; omega))]; go_simp); have hf2 : ∀ o, w2.frozen? ⟨w.heap.size + 1 + 1, o, none⟩ = false := (fun o => by rw [(bcell hb2).2 _ _ (by first | omega | (simp; done) | (simp; omega))]; go_simp); unfold OwnC at hO2; (try simp only [World.size_alloc, World.size_drew] at hO2)))
  refine bodyPost_ret (v := .tuple #[.agg #[.slice a2 D.length c2], .bool ok]) (by simp [results, Try.results47, go_sem, hx2]) rfl ⟨a2, c2, rfl, ?_, by (repeat (first | assumption | exact Below.refl _ _ | refine Below.drew ?_ | refine below_drewN ?_ _ | refine Below.setCell ?_ (by first | omega | (simp; done) | (simp; omega)) _ | refine Below.alloc ?_ (by first | omega | (simp; done) | (simp; omega)) _ | refine bchain ?_ (by assumption) (by first | omega | (simp; done) | (simp; omega))))⟩
  exact row_low (row_setLow hO2 _ _ (by simp)) (by omega)
end Go.Proofs.Ytnnokfecjdmjpaa
