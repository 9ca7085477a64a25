/- Puzzles (chapter 9): the model's functions on lists of clues by contracts. -/
import Derived.Test.YtpmnnfojmnmohaaDoorTriC
import Derived.Test.YtpmnnfojmnmohaaDoorPairsK
import Derived.WalkKit
import Derived.WalkSpells
import Derived.WalkLawsBesides
import Derived.Lib.Hide
import Derived.Deep.LoopGhost
import Derived.Deep.QuietTactic
import Derived.Deep.RegionWith
import Derived.Deep.RegionHeld3
import Derived.BigQuiet
namespace Go.Proofs.YtpmnnfojmnmohaaDoor
open Go.RowKit
set_option linter.unusedVariables false
set_option linter.unusedSimpArgs false
theorem cs2_snocP (out : List (Int × Int)) (u v : Int) : cs2 (out ++ [(u, v)]) = cs2 out ++ [.int .i64 u, .int .i64 v] := by
  induction out with
  | nil => rfl
  | cons p t ih => simp [cs2, ih]
theorem cell_two_newP (w : World) (u v : Value) (e : TypeId) : ∀ (j : Nat) (x : Value), [u, v][j]? = some x → (w.alloc (.cells #[u, v] e)).cell? ((⟨w.heap.size, 0, none⟩ : Addr).add j) = some x := by
  intro j x hx
  have ea : (⟨w.heap.size, 0, none⟩ : Addr).add j = ⟨w.heap.size, j, none⟩ := by unfold Addr.add; split <;> simp_all
  rw [ea]
  match j, hx with
  | 0, hx => simp at hx; subst hx; go_simp
  | 1, hx => simp at hx; subst hx; go_simp
  | j + 2, hx => simp at hx
theorem own_formP {w : World} {base e size n : Nat} {v : Value} {xs : List Value} (h : w.ownsRow base e size v n xs) : ∃ a c, v = .slice a n c := by
  rcases h.2 with ⟨rfl, rfl⟩ | ⟨g, c, _, rfl, _⟩
  · exact ⟨_, _, rfl⟩
  · exact ⟨_, _, rfl⟩
/-- a block of two numbers -/
def Bx2 (w : World) (b : Nat) (x y : Int) : Prop := b < w.heap.size ∧ w.cell? ⟨b, 0, none⟩ = some (.int .i64 x) ∧ w.cell? ⟨b, 1, none⟩ = some (.int .i64 y)
theorem Bx2.below {w w' : World} {b : Nat} {x y : Int} (h : Bx2 w b x y) (hb : Below w.heap.size w w') : Bx2 w' b x y :=
  ⟨Nat.lt_of_lt_of_le h.1 hb.size, by rw [(bcell hb).1 b _ h.1]; exact h.2.1, by rw [(bcell hb).1 b _ h.1]; exact h.2.2⟩
theorem Bx2.new (w : World) (x y : Int) (e : TypeId) : Bx2 (w.alloc (.cells #[.int .i64 x, .int .i64 y] e)) w.heap.size x y := ⟨by simp, by go_simp, by go_simp⟩
set_option maxHeartbeats 2000000 in
theorem pzGood_any (a : Option Addr) (cap : Nat) (xs : List (Int × Int × Int)) (w : World) (h : RdC w a xs) (hn : xs.length ≤ 1048576) :
    Calls Tryd.prog 15 #[.agg #[.slice a xs.length cap]] w fun e w' => e = .returned (.bool (pzG xs)) ∧ Below w.heap.size w w' := by
  by_cases hb : xs.length ≤ 6
  · have hbI : ¬ (6 < (xs.length : Int)) := by omega
    have HR := Lib.hid (show pzG xs = clA xs by unfold pzG; rw [decide_eq_true hb]; rfl)
    clear hb
    go_enter Tryd.func15, Tryd.ntmps15
    go_wp2_with fail
    have HB0 := Lib.hid (show Below w.heap.size w (w.alloc (.cells #[.slice a xs.length cap] 30)) from (Below.refl _ _).alloc (Nat.le_refl _) _)
    go_loopg [12] xs.length (fun k v12 wr => ∃ (j : Nat), v12 = .int .i64 (j : Int) ∧ j + k ≤ xs.length ∧ xs.length ≤ j + k ∧ Hid (∀ i, i < j → clB (tk xs i) (ta xs i) (tb xs i) = true) ∧ Below w.heap.size w wr)
    case atStart => exact ⟨0, rfl, by omega, by omega, fun i hi => absurd hi (Nat.not_lt_zero _), HB0.out⟩
    case round =>
      obtain ⟨j, rfl, h1, h2, hall, hbel⟩ := hrel
      by_cases hj : j < xs.length
      · rcases h with h | ⟨b, off, rfl, hlt, hc⟩
        · rw [h] at hj; exact absurd hj (Nat.not_lt_zero _)
        · have hcj : wr.cell? ⟨b, off + j * 3, none⟩ = some (.int .i64 (tk xs j)) := by rw [(bcell hbel).1 b _ hlt]; exact (hc j hj).1
          have hck : wr.cell? ⟨b, off + j * 3 + 1, none⟩ = some (.int .i64 (ta xs j)) := by rw [(bcell hbel).1 b _ hlt]; exact (hc j hj).2.1
          have hcl : wr.cell? ⟨b, off + j * 3 + 2, none⟩ = some (.int .i64 (tb xs j)) := by rw [(bcell hbel).1 b _ hlt]; exact (hc j hj).2.2
          have hjI : (j : Int) < (xs.length : Int) := by omega
          have HBl := Lib.hid hbel
          have hsz := hbel.size
          clear hbel hc
          cases k1 : clB (tk xs j) (ta xs j) (tb xs j)
          · have HX := Lib.hid (HR.out.trans (clA_no hj k1))
            have H1 := Lib.hid (fun w => k1 ▸ pzClue_any (tk xs j) (ta xs j) (tb xs j) w)
            clear k1
            generalize tk xs j = x at *
            generalize ta xs j = y at *
            generalize tb xs j = z at *
            go_wp2_with (first | (go_at_call 25; refine (H1.out _).mono ?_; rintro e w1 ⟨rfl, hb⟩))
            go_ret
            rw [HX.out]
            exact ⟨rfl, by (repeat (first | assumption | exact HBl.out | exact Below.refl _ _ | refine Below.drew ?_ | refine below_drewN ?_ _ | refine Below.setCell ?_ (by first | omega | (simp; done) | (simp; omega)) _ | refine Below.alloc ?_ (by first | omega | (simp; done) | (simp; omega)) _ | refine bchain ?_ (by assumption) (by first | omega | (simp; done) | (simp; omega))))⟩
          · have hall2 : Hid (∀ i, i < j + 1 → clB (tk xs i) (ta xs i) (tb xs i) = true) := fun i hi => by
              by_cases q : i = j
              · subst q; exact k1
              · exact hall.out i (by omega)
            have H1 := Lib.hid (fun w => k1 ▸ pzClue_any (tk xs j) (ta xs j) (tb xs j) w)
            clear k1
            generalize tk xs j = x at *
            generalize ta xs j = y at *
            generalize tb xs j = z at *
            go_wp2_with (first | (go_at_call 25; refine (H1.out _).mono ?_; rintro e w1 ⟨rfl, hb⟩))
            go_roundg (gk - 1)
            case rel => exact ⟨j + 1, by go_num, by omega, by omega, hall2, by (repeat (first | assumption | exact HBl.out | exact Below.refl _ _ | refine Below.drew ?_ | refine below_drewN ?_ _ | refine Below.setCell ?_ (by first | omega | (simp; done) | (simp; omega)) _ | refine Below.alloc ?_ (by first | omega | (simp; done) | (simp; omega)) _ | refine bchain ?_ (by assumption) (by first | omega | (simp; done) | (simp; omega))))⟩
            case measure => omega
      · have HX := Lib.hid (HR.out.trans (clA_of fun i hi => hall.out i (by omega)))
        have HBl := Lib.hid hbel
        clear hbel
        go_wp2_with fail
        go_ret
        rw [HX.out]
        exact ⟨rfl, HBl.out⟩
  · have hbI : (6 < (xs.length : Int)) := by omega
    have HR := Lib.hid (show pzG xs = false by unfold pzG; rw [decide_eq_false hb]; rfl)
    go_enter Tryd.func15, Tryd.ntmps15
    go_wp2_with fail
    go_ret
    rw [HR.out]
    exact ⟨rfl, by (repeat (first | assumption | exact Below.refl _ _ | refine Below.drew ?_ | refine below_drewN ?_ _ | refine Below.setCell ?_ (by first | omega | (simp; done) | (simp; omega)) _ | refine Below.alloc ?_ (by first | omega | (simp; done) | (simp; omega)) _ | refine bchain ?_ (by assumption) (by first | omega | (simp; done) | (simp; omega))))⟩
end Go.Proofs.YtpmnnfojmnmohaaDoor
