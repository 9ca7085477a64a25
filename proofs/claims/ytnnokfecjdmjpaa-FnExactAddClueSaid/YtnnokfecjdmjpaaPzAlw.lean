/- Puzzles (chapter 9): questions to which each riddle has an answer, by contracts. -/
import Derived.Test.YtnnokfecjdmjpaaPzAsk
import Derived.WalkKit
import Derived.WalkSpells
import Derived.WalkLawsBesides
import Derived.Lib.Hide
import Derived.Shelf.Abstract
namespace Go.Proofs.Ytnnokfecjdmjpaa
open Go.RowKit
set_option linter.unusedVariables false
set_option linter.unusedSimpArgs false
set_option maxHeartbeats 1000000 in
theorem alwaysB_any (M : Nat) (cbM : Array Value) (w : World) :
    Calls Try.prog 66 #[.func (.func M) #[] cbM] w fun e w' => e = .returned (.func (.func 100) #[] #[.pointer (some ⟨w.heap.size, 0, none⟩)]) ∧ w'.cell? ⟨w.heap.size, 0, none⟩ = some (.func (.func M) #[] cbM) ∧ w.heap.size < w'.heap.size ∧ Below w.heap.size w w' := by
  have hmf : ∀ (fn : Fn) (first cap : Array Value) (w : World), (Instr.makeFunc fn first cap).run Try.prog w = .ok (.func fn first cap) w := fun _ _ _ _ => rfl
  go_enter Try.func66, Try.ntmps66
  go_wp2_with fail
  go_ret
  exact ⟨rfl, by go_simp, by simp, by (repeat (first | assumption | exact Below.refl _ _ | refine Below.drew ?_ | refine below_drewN ?_ _ | refine Below.setCell ?_ (by first | omega | (simp; done) | (simp; omega)) _ | refine Below.alloc ?_ (by first | omega | (simp; done) | (simp; omega)) _ | refine bchain ?_ (by assumption) (by first | omega | (simp; done) | (simp; omega))))⟩
set_option maxHeartbeats 1000000 in
theorem alwaysCB_any (M : Nat) (cbM : Array Value) (p : Nat) (A : Addr) (n : Nat) (b0 : Bool) (w : World) (hp : p < w.heap.size) (hc : w.cell? ⟨p, 0, none⟩ = some (.func (.func M) #[] cbM))
    (eg : ∀ args w, (callFunc M args).run Try.prog w = .ok (.enter M args) w)
    (hM : ∀ W, Below w.heap.size w W → Calls Try.prog M (#[.slice (some A) n n] ++ cbM) W fun e w' => e = .returned (.bool b0) ∧ Below W.heap.size W w') :
    Calls Try.prog 100 (#[.slice (some A) n n] ++ #[.pointer (some ⟨p, 0, none⟩)]) w fun e w' => e = .returned (.tuple #[.bool b0, .bool true]) ∧ Below w.heap.size w w' := by
  have HM := Lib.hid hM
  clear hM
  show Calls Try.prog 100 #[.slice (some A) n n, .pointer (some ⟨p, 0, none⟩)] w _
  go_enter Try.func100, Try.ntmps100
  go_wp2_with (first | (go_at_fn M; refine (HM.out _ (by (repeat (first | assumption | exact Below.refl _ _ | refine Below.drew ?_ | refine below_drewN ?_ _ | refine Below.setCell ?_ (by first | omega | (simp; done) | (simp; omega)) _ | refine Below.alloc ?_ (by first | omega | (simp; done) | (simp; omega)) _ | refine bchain ?_ (by assumption) (by first | omega | (simp; done) | (simp; omega)))))).mono ?_; rintro e w1 ⟨rfl, hb1⟩; skip))
  go_ret2
  exact ⟨rfl, hb1⟩
set_option maxHeartbeats 1000000 in
theorem alwaysI_any (M : Nat) (cbM : Array Value) (w : World) :
    Calls Try.prog 75 #[.func (.func M) #[] cbM] w fun e w' => e = .returned (.func (.func 105) #[] #[.pointer (some ⟨w.heap.size, 0, none⟩)]) ∧ w'.cell? ⟨w.heap.size, 0, none⟩ = some (.func (.func M) #[] cbM) ∧ w.heap.size < w'.heap.size ∧ Below w.heap.size w w' := by
  have hmf : ∀ (fn : Fn) (first cap : Array Value) (w : World), (Instr.makeFunc fn first cap).run Try.prog w = .ok (.func fn first cap) w := fun _ _ _ _ => rfl
  go_enter Try.func75, Try.ntmps75
  go_wp2_with fail
  go_ret
  exact ⟨rfl, by go_simp, by simp, by (repeat (first | assumption | exact Below.refl _ _ | refine Below.drew ?_ | refine below_drewN ?_ _ | refine Below.setCell ?_ (by first | omega | (simp; done) | (simp; omega)) _ | refine Below.alloc ?_ (by first | omega | (simp; done) | (simp; omega)) _ | refine bchain ?_ (by assumption) (by first | omega | (simp; done) | (simp; omega))))⟩
set_option maxHeartbeats 1000000 in
theorem alwaysCI_any (M : Nat) (cbM : Array Value) (p : Nat) (A : Addr) (n : Nat) (b0 : Int) (w : World) (hp : p < w.heap.size) (hc : w.cell? ⟨p, 0, none⟩ = some (.func (.func M) #[] cbM))
    (eg : ∀ args w, (callFunc M args).run Try.prog w = .ok (.enter M args) w)
    (hM : ∀ W, Below w.heap.size w W → Calls Try.prog M (#[.slice (some A) n n] ++ cbM) W fun e w' => e = .returned (.int .i64 b0) ∧ Below W.heap.size W w') :
    Calls Try.prog 105 (#[.slice (some A) n n] ++ #[.pointer (some ⟨p, 0, none⟩)]) w fun e w' => e = .returned (.tuple #[.int .i64 b0, .bool true]) ∧ Below w.heap.size w w' := by
  have HM := Lib.hid hM
  clear hM
  show Calls Try.prog 105 #[.slice (some A) n n, .pointer (some ⟨p, 0, none⟩)] w _
  go_enter Try.func105, Try.ntmps105
  go_wp2_with (first | (go_at_fn M; refine (HM.out _ (by (repeat (first | assumption | exact Below.refl _ _ | refine Below.drew ?_ | refine below_drewN ?_ _ | refine Below.setCell ?_ (by first | omega | (simp; done) | (simp; omega)) _ | refine Below.alloc ?_ (by first | omega | (simp; done) | (simp; omega)) _ | refine bchain ?_ (by assumption) (by first | omega | (simp; done) | (simp; omega)))))).mono ?_; rintro e w1 ⟨rfl, hb1⟩; skip))
  go_ret2
  exact ⟨rfl, hb1⟩
set_option maxHeartbeats 1000000 in
theorem alwaysL_any (M : Nat) (cbM : Array Value) (w : World) :
    Calls Try.prog 71 #[.func (.func M) #[] cbM] w fun e w' => e = .returned (.func (.func 103) #[] #[.pointer (some ⟨w.heap.size, 0, none⟩)]) ∧ w'.cell? ⟨w.heap.size, 0, none⟩ = some (.func (.func M) #[] cbM) ∧ w.heap.size < w'.heap.size ∧ Below w.heap.size w w' := by
  have hmf : ∀ (fn : Fn) (first cap : Array Value) (w : World), (Instr.makeFunc fn first cap).run Try.prog w = .ok (.func fn first cap) w := fun _ _ _ _ => rfl
  go_enter Try.func71, Try.ntmps71
  go_wp2_with fail
  go_ret
  exact ⟨rfl, by go_simp, by simp, by (repeat (first | assumption | exact Below.refl _ _ | refine Below.drew ?_ | refine below_drewN ?_ _ | refine Below.setCell ?_ (by first | omega | (simp; done) | (simp; omega)) _ | refine Below.alloc ?_ (by first | omega | (simp; done) | (simp; omega)) _ | refine bchain ?_ (by assumption) (by first | omega | (simp; done) | (simp; omega))))⟩
set_option maxHeartbeats 1000000 in
theorem alwaysCL_any (M : Nat) (cbM : Array Value) (p : Nat) (A : Addr) (n : Nat) (L0 : List (Int × Int)) (w : World) (hp : p < w.heap.size) (hc : w.cell? ⟨p, 0, none⟩ = some (.func (.func M) #[] cbM))
    (eg : ∀ args w, (callFunc M args).run Try.prog w = .ok (.enter M args) w)
    (hM : ∀ W, Below w.heap.size w W → Calls Try.prog M (#[.slice (some A) n n] ++ cbM) W fun e w' => ∃ a1 c1, e = .returned (.slice a1 L0.length c1) ∧ OwnK w' W.heap.size a1 c1 L0 ∧ Below W.heap.size W w') :
    Calls Try.prog 103 (#[.slice (some A) n n] ++ #[.pointer (some ⟨p, 0, none⟩)]) w (RetK w L0 true) := by
  have HM := Lib.hid hM
  clear hM
  show Calls Try.prog 103 #[.slice (some A) n n, .pointer (some ⟨p, 0, none⟩)] w _
  go_enter Try.func103, Try.ntmps103
  go_wp2_with (first | (go_at_fn M; refine (HM.out _ (by (repeat (first | assumption | exact Below.refl _ _ | refine Below.drew ?_ | refine below_drewN ?_ _ | refine Below.setCell ?_ (by first | omega | (simp; done) | (simp; omega)) _ | refine Below.alloc ?_ (by first | omega | (simp; done) | (simp; omega)) _ | refine bchain ?_ (by assumption) (by first | omega | (simp; done) | (simp; omega)))))).mono ?_; rintro e w1 ⟨a1, c1, rfl, hO1, hb1⟩; skip))
  go_ret2
  exact ⟨a1, c1, rfl, hO1, hb1⟩
set_option maxHeartbeats 1000000 in
theorem alwaysN_any (M : Nat) (cbM : Array Value) (w : World) :
    Calls Try.prog 84 #[.func (.func M) #[] cbM] w fun e w' => e = .returned (.func (.func 108) #[] #[.pointer (some ⟨w.heap.size, 0, none⟩)]) ∧ w'.cell? ⟨w.heap.size, 0, none⟩ = some (.func (.func M) #[] cbM) ∧ w.heap.size < w'.heap.size ∧ Below w.heap.size w w' := by
  have hmf : ∀ (fn : Fn) (first cap : Array Value) (w : World), (Instr.makeFunc fn first cap).run Try.prog w = .ok (.func fn first cap) w := fun _ _ _ _ => rfl
  go_enter Try.func84, Try.ntmps84
  go_wp2_with fail
  go_ret
  exact ⟨rfl, by go_simp, by simp, by (repeat (first | assumption | exact Below.refl _ _ | refine Below.drew ?_ | refine below_drewN ?_ _ | refine Below.setCell ?_ (by first | omega | (simp; done) | (simp; omega)) _ | refine Below.alloc ?_ (by first | omega | (simp; done) | (simp; omega)) _ | refine bchain ?_ (by assumption) (by first | omega | (simp; done) | (simp; omega))))⟩
set_option maxHeartbeats 1000000 in
theorem alwaysCN_any (M : Nat) (cbM : Array Value) (p : Nat) (A : Addr) (n : Nat) (L0 : List Int) (w : World) (hp : p < w.heap.size) (hc : w.cell? ⟨p, 0, none⟩ = some (.func (.func M) #[] cbM))
    (eg : ∀ args w, (callFunc M args).run Try.prog w = .ok (.enter M args) w)
    (hM : ∀ W, Below w.heap.size w W → Calls Try.prog M (#[.slice (some A) n n] ++ cbM) W fun e w' => ∃ a1 c1, e = .returned (.slice a1 L0.length c1) ∧ Own w' W.heap.size a1 c1 L0 ∧ Below W.heap.size W w') :
    Calls Try.prog 108 (#[.slice (some A) n n] ++ #[.pointer (some ⟨p, 0, none⟩)]) w (RetI9 w L0 true) := by
  have HM := Lib.hid hM
  clear hM
  show Calls Try.prog 108 #[.slice (some A) n n, .pointer (some ⟨p, 0, none⟩)] w _
  go_enter Try.func108, Try.ntmps108
  go_wp2_with (first | (go_at_fn M; refine (HM.out _ (by (repeat (first | assumption | exact Below.refl _ _ | refine Below.drew ?_ | refine below_drewN ?_ _ | refine Below.setCell ?_ (by first | omega | (simp; done) | (simp; omega)) _ | refine Below.alloc ?_ (by first | omega | (simp; done) | (simp; omega)) _ | refine bchain ?_ (by assumption) (by first | omega | (simp; done) | (simp; omega)))))).mono ?_; rintro e w1 ⟨a1, c1, rfl, hO1, hb1⟩; skip))
  go_ret2
  exact ⟨a1, c1, rfl, hO1, hb1⟩
set_option maxHeartbeats 1000000 in
theorem alwaysP_any (M : Nat) (cbM : Array Value) (w : World) :
    Calls Try.prog 59 #[.func (.func M) #[] cbM] w fun e w' => e = .returned (.func (.func 94) #[] #[.pointer (some ⟨w.heap.size, 0, none⟩)]) ∧ w'.cell? ⟨w.heap.size, 0, none⟩ = some (.func (.func M) #[] cbM) ∧ w.heap.size < w'.heap.size ∧ Below w.heap.size w w' := by
  have hmf : ∀ (fn : Fn) (first cap : Array Value) (w : World), (Instr.makeFunc fn first cap).run Try.prog w = .ok (.func fn first cap) w := fun _ _ _ _ => rfl
  go_enter Try.func59, Try.ntmps59
  go_wp2_with fail
  go_ret
  exact ⟨rfl, by go_simp, by simp, by (repeat (first | assumption | exact Below.refl _ _ | refine Below.drew ?_ | refine below_drewN ?_ _ | refine Below.setCell ?_ (by first | omega | (simp; done) | (simp; omega)) _ | refine Below.alloc ?_ (by first | omega | (simp; done) | (simp; omega)) _ | refine bchain ?_ (by assumption) (by first | omega | (simp; done) | (simp; omega))))⟩
set_option maxHeartbeats 1000000 in
theorem alwaysCP_any (M : Nat) (cbM : Array Value) (p : Nat) (A : Addr) (n : Nat) (L0 : List (Int × Int × Int)) (w : World) (hp : p < w.heap.size) (hc : w.cell? ⟨p, 0, none⟩ = some (.func (.func M) #[] cbM))
    (eg : ∀ args w, (callFunc M args).run Try.prog w = .ok (.enter M args) w)
    (hM : ∀ W, Below w.heap.size w W → Calls Try.prog M (#[.slice (some A) n n] ++ cbM) W fun e w' => ∃ a1 c1, e = .returned (.agg #[.slice a1 L0.length c1]) ∧ OwnC w' W.heap.size a1 c1 L0 ∧ Below W.heap.size W w') :
    Calls Try.prog 94 (#[.slice (some A) n n] ++ #[.pointer (some ⟨p, 0, none⟩)]) w (RetP9 w L0 true) := by
  have HM := Lib.hid hM
  clear hM
  show Calls Try.prog 94 #[.slice (some A) n n, .pointer (some ⟨p, 0, none⟩)] w _
  go_enter Try.func94, Try.ntmps94
  go_wp2_with (first | (go_at_fn M; refine (HM.out _ (by (repeat (first | assumption | exact Below.refl _ _ | refine Below.drew ?_ | refine below_drewN ?_ _ | refine Below.setCell ?_ (by first | omega | (simp; done) | (simp; omega)) _ | refine Below.alloc ?_ (by first | omega | (simp; done) | (simp; omega)) _ | refine bchain ?_ (by assumption) (by first | omega | (simp; done) | (simp; omega)))))).mono ?_; rintro e w1 ⟨a1, c1, rfl, hO1, hb1⟩; have hs1 := hb1.size; (try simp only [World.size_alloc] at hs1); have hx1 : w1.cell? ⟨w.heap.size, 0, none⟩ = some (.slice none 0 0) := (by rw [(bcell hb1).1 _ _ (by first | omega | (simp; done) | (simp; omega))]; go_simp); have hg1 : ∀ o, w1.frozen? ⟨w.heap.size, o, none⟩ = false := (fun o => by rw [(bcell hb1).2 _ _ (by first | omega | (simp; done) | (simp; omega))]; go_simp); unfold OwnC at hO1; simp only [World.size_alloc] at hO1))
  refine bodyPost_ret (v := .tuple #[.agg #[.slice a1 L0.length c1], .bool true]) (by simp [results, Try.results94, go_sem, hx1]) rfl ⟨a1, c1, rfl, ?_, by (repeat (first | assumption | exact Below.refl _ _ | refine Below.drew ?_ | refine below_drewN ?_ _ | refine Below.setCell ?_ (by first | omega | (simp; done) | (simp; omega)) _ | refine Below.alloc ?_ (by first | omega | (simp; done) | (simp; omega)) _ | refine bchain ?_ (by assumption) (by first | omega | (simp; done) | (simp; omega))))⟩
  exact row_low (row_setLow hO1 _ _ (by simp)) (by omega)
end Go.Proofs.Ytnnokfecjdmjpaa
