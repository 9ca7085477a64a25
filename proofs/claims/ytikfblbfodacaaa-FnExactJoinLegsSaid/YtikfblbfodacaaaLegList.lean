/- Lists of legs: the model's functions by contracts. -/
import Derived.Test.YtikfblbfodacaaaLegWalks
import Derived.Test.YtikfblbfodacaaaPairsG
import Derived.WalkKit
import Derived.WalkSpells
import Derived.WalkLawsBesides
import Derived.Lib.Hide
import Derived.Deep.LoopGhost
import Derived.Deep.QuietTactic
import Derived.Deep.RegionWith
import Derived.Deep.RegionHeld3
import Derived.BigQuiet
namespace Go.Proofs.Ytikfblbfodacaaa
open Go.RowKit
set_option linter.unusedVariables false
set_option linter.unusedSimpArgs false
set_option maxHeartbeats 2000000 in
theorem reGood_any (a : Option Addr) (cap : Nat) (xs : List (Int × Int)) (w : World) (h : RdP w a xs) (hn : xs.length ≤ 1048576) :
    Calls Try.prog 18 #[.slice a xs.length cap] w fun e w' => e = .returned (.bool (lgS xs)) ∧ Below w.heap.size w w' := by
  have hnI : (xs.length : Int) ≤ 1048576 := by omega
  cases hb : inB (xs.length : Int) 1 5
  · have HR := Lib.hid (show lgS xs = false by unfold lgS; rw [hb]; rfl)
    have HB := Lib.hid hb
    clear hb
    go_enter Try.func18, Try.ntmps18
    go_wp2_with (first | (go_at_call 35; refine (specIn _ _ _ _).mono ?_; rw [HB.out]; rintro e w1 ⟨rfl, rfl⟩))
    go_ret
    rw [HR.out]
    exact ⟨rfl, Below.refl _ _⟩
  · have HB := Lib.hid hb
    have HR := Lib.hid (show lgS xs = allP lgOk xs by unfold lgS; rw [hb]; rfl)
    clear hb
    go_enter Try.func18, Try.ntmps18
    go_wp2_with (first | (go_at_call 35; refine (specIn _ _ _ _).mono ?_; rw [HB.out]; rintro e w1 ⟨rfl, rfl⟩))
    go_loopg [11] xs.length (fun k v11 wr => ∃ (j : Nat), v11 = .int .i64 (j : Int) ∧ j + k ≤ xs.length ∧ xs.length ≤ j + k ∧ Hid (∀ i, i < j → lgOk (px xs i) (py xs i) = true) ∧ Below w.heap.size w wr)
    case atStart => exact ⟨0, rfl, by omega, by omega, fun i hi => absurd hi (Nat.not_lt_zero _), Below.refl _ _⟩
    case round =>
      obtain ⟨j, rfl, h1, h2, hall, hbel⟩ := hrel
      by_cases hj : j < xs.length
      · rcases h with h | ⟨b, off, rfl, hlt, hc⟩
        · rw [h] at hj; exact absurd hj (Nat.not_lt_zero _)
        · have hcj : wr.cell? ⟨b, off + j * 2, none⟩ = some (.int .i64 (px xs j)) := by rw [(bcell hbel).1 b _ hlt]; exact (hc j hj).1
          have hck : wr.cell? ⟨b, off + j * 2 + 1, none⟩ = some (.int .i64 (py xs j)) := by rw [(bcell hbel).1 b _ hlt]; exact (hc j hj).2
          have hjI : (j : Int) < (xs.length : Int) := by omega
          have HBl := Lib.hid hbel
          have hsz := hbel.size
          clear hbel hc
          cases k1 : inB (px xs j) 1 1000
          · have HX := Lib.hid (HR.out.trans (allP_no hj (by simp [lgOk, k1])))
            have H1 := Lib.hid k1
            clear k1
            go_wp2_with (first | (go_at_call 35; refine (specIn _ _ _ _).mono ?_; (first | rw [H1.out] | rw [H2.out]); rintro e w1 ⟨rfl, rfl⟩))
            go_ret
            rw [HX.out]
            exact ⟨rfl, by (repeat (first | exact HBl.out | exact Below.refl _ _ | refine Below.drew ?_ | refine below_drewN ?_ _ | refine Below.alloc ?_ (by first | omega | (simp; done) | (simp; omega)) _ | refine bchain ?_ (by assumption) (by first | omega | (simp; done) | (simp; omega))))⟩
          cases k2 : inB (py xs j) 1 100
          · have HX := Lib.hid (HR.out.trans (allP_no hj (by simp [lgOk, k2])))
            have H1 := Lib.hid k1
            have H2 := Lib.hid k2
            clear k1 k2
            go_wp2_with (first | (go_at_call 35; refine (specIn _ _ _ _).mono ?_; (first | rw [H1.out] | rw [H2.out]); rintro e w1 ⟨rfl, rfl⟩))
            go_ret
            rw [HX.out]
            exact ⟨rfl, by (repeat (first | exact HBl.out | exact Below.refl _ _ | refine Below.drew ?_ | refine below_drewN ?_ _ | refine Below.alloc ?_ (by first | omega | (simp; done) | (simp; omega)) _ | refine bchain ?_ (by assumption) (by first | omega | (simp; done) | (simp; omega))))⟩
          · have hall2 : Hid (∀ i, i < j + 1 → lgOk (px xs i) (py xs i) = true) := fun i hi => by
              by_cases q : i = j
              · subst q; simp [lgOk, k1, k2]
              · exact hall.out i (by omega)
            have H1 := Lib.hid k1
            have H2 := Lib.hid k2
            clear k1 k2
            go_wp2_with (first | (go_at_call 35; refine (specIn _ _ _ _).mono ?_; (first | rw [H1.out] | rw [H2.out]); rintro e w1 ⟨rfl, rfl⟩))
            go_roundg (gk - 1)
            case rel => exact ⟨j + 1, by go_num, by omega, by omega, hall2, by (repeat (first | exact HBl.out | exact Below.refl _ _ | refine Below.drew ?_ | refine below_drewN ?_ _ | refine Below.alloc ?_ (by first | omega | (simp; done) | (simp; omega)) _ | refine bchain ?_ (by assumption) (by first | omega | (simp; done) | (simp; omega))))⟩
            case measure => omega
      · have HX := Lib.hid (HR.out.trans (allP_of fun i hi => hall.out i (by omega)))
        have HBl := Lib.hid hbel
        clear hbel
        go_wp2_with fail
        go_ret
        rw [HX.out]
        exact ⟨rfl, HBl.out⟩
theorem px_take {xs : List (Int × Int)} {n i : Nat} (h : i < n) : px (xs.take n) i = px xs i := by
  unfold px; simp [List.getD, List.getElem?_take, h]
theorem py_take {xs : List (Int × Int)} {n i : Nat} (h : i < n) : py (xs.take n) i = py xs i := by
  unfold py; simp [List.getD, List.getElem?_take, h]
theorem lgT_take (xs : List (Int × Int)) (n : Nat) : ∀ j, j ≤ n → lgT (xs.take n) j = lgT xs j
  | 0, _ => rfl
  | j + 1, h => by
    unfold lgT
    rw [lgT_take xs n j (by omega), px_take (by omega), py_take (by omega)]
theorem lgL_take (xs : List (Int × Int)) (n : Nat) : ∀ j, j ≤ n → lgL (xs.take n) j = lgL xs j
  | 0, _ => rfl
  | j + 1, h => by
    unfold lgL
    rw [lgL_take xs n j (by omega), px_take (by omega)]
theorem RdP_take {w : World} {a : Option Addr} {xs : List (Int × Int)} (h : RdP w a xs) (n : Nat) : RdP w a (xs.take n) := by
  rcases h with h | ⟨b, off, e, hlt, hc⟩
  · exact .inl (by rw [h]; simp)
  · refine .inr ⟨b, off, e, hlt, fun i hi => ?_⟩
    rw [List.length_take] at hi
    rw [px_take (by omega), py_take (by omega)]
    exact hc i (by omega)
theorem len_take {xs : List (Int × Int)} {n : Nat} (h : n ≤ xs.length) : (xs.take n).length = n := by rw [List.length_take]; omega
theorem ok_take {xs : List (Int × Int)} (ht : ∀ i, i < xs.length → lgOk (px xs i) (py xs i) = true) (n : Nat) : ∀ i, i < (xs.take n).length → lgOk (px (xs.take n) i) (py (xs.take n) i) = true := by
  intro i hi
  rw [List.length_take] at hi
  rw [px_take (by omega), py_take (by omega)]
  exact ht i (by omega)
/-- the leg that takes the most time -/
def slw (xs : List (Int × Int)) : Nat → Nat
  | 0 => 0
  | j + 1 => if px xs (slw xs j) * py xs j < px xs j * py xs (slw xs j) then j else slw xs j
theorem slw_lt {xs : List (Int × Int)} (h : 1 ≤ xs.length) : ∀ j, j ≤ xs.length → slw xs j < xs.length
  | 0, _ => by simp only [slw]; omega
  | j + 1, hj => by
    have := slw_lt h j (by omega)
    unfold slw
    split <;> omega
/-- the time that is left, as many parts of the time's denominator -/
def nsL (xs : List (Int × Int)) (n m : Int) : Int := (lgL xs xs.length + n) * (lgT xs xs.length).2 - (lgT xs xs.length).1 * m
/-- how many legs are behind one, from the leg n on, among k more -/
def lgOn (xs : List (Int × Int)) (u v : Int) : Nat → Nat → Nat
  | 0, n => n
  | k + 1, n => if u * (lgT xs (n + 1)).2 < (lgT xs (n + 1)).1 * v then n else lgOn xs u v k (n + 1)
theorem lgOn_le (xs : List (Int × Int)) (u v : Int) : ∀ k n, lgOn xs u v k n ≤ k + n
  | 0, n => by simp [lgOn]
  | k + 1, n => by
    have := lgOn_le xs u v k (n + 1)
    unfold lgOn
    split <;> omega
def mnG (a b : Int) : Int := if a ≤ b then a else b
/-- what is left of the time on the leg n, as a fraction -/
def plA (xs : List (Int × Int)) (u v : Int) (n : Nat) : Int := lwN (u * (lgT xs n).2 - (lgT xs n).1 * v) (v * (lgT xs n).2)
def plB (xs : List (Int × Int)) (u v : Int) (n : Nat) : Int := lwD (u * (lgT xs n).2 - (lgT xs n).1 * v) (v * (lgT xs n).2)
def plcN (xs : List (Int × Int)) (u v : Int) (n : Nat) : Int := if n = xs.length then lgL xs xs.length else lwN (lgL xs n * plB xs u v n + py xs n * plA xs u v n) (plB xs u v n)
def plcD (xs : List (Int × Int)) (u v : Int) (n : Nat) : Int := if n = xs.length then 1 else lwD (lgL xs n * plB xs u v n + py xs n * plA xs u v n) (plB xs u v n)
theorem lgOn_ok (xs : List (Int × Int)) (u v : Int) : ∀ k n, (lgT xs n).1 * v ≤ u * (lgT xs n).2 → (lgT xs (lgOn xs u v k n)).1 * v ≤ u * (lgT xs (lgOn xs u v k n)).2
  | 0, n, h => h
  | k + 1, n, h => by
    unfold lgOn
    split
    · exact h
    · exact lgOn_ok xs u v k (n + 1) (by omega)
end Go.Proofs.Ytikfblbfodacaaa
