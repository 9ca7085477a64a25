/- Puzzles (chapter 9): questions to which each riddle has an answer, by contracts. -/
import Derived.Test.YtpmnnfojmnmohaaDoorPzAsk
import Derived.WalkKit
import Derived.WalkSpells
import Derived.WalkLawsBesides
import Derived.Lib.Hide
import Derived.Shelf.Abstract
namespace Go.Proofs.YtpmnnfojmnmohaaDoor
open Go.RowKit
set_option linter.unusedVariables false
set_option linter.unusedSimpArgs false
set_option maxHeartbeats 1000000 in
theorem alwaysT_any (M : Nat) (cbM : Array Value) (w : World) :
    Calls Tryd.prog 30 #[.func (.func M) #[] cbM] w fun e w' => e = .returned (.func (.func 44) #[] #[.pointer (some ⟨w.heap.size, 0, none⟩)]) ∧ w'.cell? ⟨w.heap.size, 0, none⟩ = some (.func (.func M) #[] cbM) ∧ w.heap.size < w'.heap.size ∧ Below w.heap.size w w' := by
  have hmf : ∀ (fn : Fn) (first cap : Array Value) (w : World), (Instr.makeFunc fn first cap).run Tryd.prog w = .ok (.func fn first cap) w := fun _ _ _ _ => rfl
  go_enter Tryd.func30, Tryd.ntmps30
  go_wp2_with fail
  go_ret
  exact ⟨rfl, by go_simp, by simp, by (repeat (first | assumption | exact Below.refl _ _ | refine Below.drew ?_ | refine below_drewN ?_ _ | refine Below.setCell ?_ (by first | omega | (simp; done) | (simp; omega)) _ | refine Below.alloc ?_ (by first | omega | (simp; done) | (simp; omega)) _ | refine bchain ?_ (by assumption) (by first | omega | (simp; done) | (simp; omega))))⟩
set_option maxHeartbeats 1000000 in
theorem alwaysCT_any (M : Nat) (cbM : Array Value) (p : Nat) (A : Addr) (n : Nat) (b0 : ByteArray) (w : World) (hp : p < w.heap.size) (hc : w.cell? ⟨p, 0, none⟩ = some (.func (.func M) #[] cbM))
    (eg : ∀ args w, (callFunc M args).run Tryd.prog w = .ok (.enter M args) w)
    (hM : ∀ W, Below w.heap.size w W → Calls Tryd.prog M (#[.slice (some A) n n] ++ cbM) W fun e w' => e = .returned (.string b0) ∧ Below W.heap.size W w') :
    Calls Tryd.prog 44 (#[.slice (some A) n n] ++ #[.pointer (some ⟨p, 0, none⟩)]) w fun e w' => e = .returned (.tuple #[.string b0, .bool true]) ∧ Below w.heap.size w w' := by
  have HM := Lib.hid hM
  clear hM
  show Calls Tryd.prog 44 #[.slice (some A) n n, .pointer (some ⟨p, 0, none⟩)] w _
  go_enter Tryd.func44, Tryd.ntmps44
  go_wp2_with (first | (go_at_fn M; refine (HM.out _ (by (repeat (first | assumption | exact Below.refl _ _ | refine Below.drew ?_ | refine below_drewN ?_ _ | refine Below.setCell ?_ (by first | omega | (simp; done) | (simp; omega)) _ | refine Below.alloc ?_ (by first | omega | (simp; done) | (simp; omega)) _ | refine bchain ?_ (by assumption) (by first | omega | (simp; done) | (simp; omega)))))).mono ?_; rintro e w1 ⟨rfl, hb1⟩; skip))
  go_ret2
  exact ⟨rfl, hb1⟩
end Go.Proofs.YtpmnnfojmnmohaaDoor
