/- Plain mathematics shared by the seats' proofs, and chapter 1's (snails): no program is named here. -/
import Derived.WalkKit
import Derived.Lib.Hide
namespace Go.Proofs.Ytlmbcbopahpagaa
open Go.RowKit
set_option linter.unusedVariables false

theorem rB {a b : Bool} (h : a = b) : Ending.returned (.bool a) = .returned (.bool b) := by rw [h]
theorem rI {a b : Int} (h : a = b) : Ending.returned (.int .i64 a) = .returned (.int .i64 b) := by rw [h]
theorem rBB {a b c d : Bool} (h : a = b) (k : c = d) : Ending.returned (.tuple #[.bool a, .bool c]) = .returned (.tuple #[.bool b, .bool d]) := by rw [h, k]
theorem rIB {a b : Int} {c d : Bool} (h : a = b) (k : c = d) : Ending.returned (.tuple #[.int .i64 a, .bool c]) = .returned (.tuple #[.int .i64 b, .bool d]) := by rw [h, k]

theorem bcell {W w1 : World} (hb : Below W.heap.size W w1) : (∀ b o, b < W.heap.size → w1.cell? ⟨b, o, none⟩ = W.cell? ⟨b, o, none⟩) ∧ (∀ b o, b < W.heap.size → w1.frozen? ⟨b, o, none⟩ = W.frozen? ⟨b, o, none⟩) :=
  ⟨fun b o h => hb.cell (p := ⟨b, o, none⟩) h, fun b o h => hb.frozen (p := ⟨b, o, none⟩) h⟩
theorem bchain {B : Nat} {w a b : World} (h : Below B w a) (k : Below a.heap.size a b) (hB : B ≤ a.heap.size) : Below B w b := h.trans (k.mono hB)

/-- a number in bounds -/
def inB (n lo hi : Int) : Bool := decide (lo ≤ n ∧ n ≤ hi)
theorem inB_iff {n lo hi : Int} : inB n lo hi = true ↔ lo ≤ n ∧ n ≤ hi := by unfold inB; exact decide_eq_true_iff
theorem inB_not {n lo hi : Int} : inB n lo hi = false ↔ n < lo ∨ hi < n := by unfold inB; rw [decide_eq_false_iff_not]; omega
theorem inB_true {n lo hi : Int} (h : lo ≤ n ∧ n ≤ hi) : inB n lo hi = true := inB_iff.2 h
theorem inB_false {n lo hi : Int} (h : n < lo ∨ hi < n) : inB n lo hi = false := inB_not.2 h
theorem mul_bd (a b A B : Int) (h1 : 0 ≤ a) (h2 : a ≤ A) (h3 : 0 ≤ b) (h4 : b ≤ B) : 0 ≤ a * b ∧ a * b ≤ A * B :=
  ⟨Int.mul_nonneg h1 h3, Int.mul_le_mul h2 h4 h3 (by omega)⟩

/-! ### Chapter 1 -/
def snOk (u d : Int) : Bool := inB u 1 1000 && inB d 0 1000
theorem snOk_iff {u d : Int} : snOk u d = true ↔ 1 ≤ u ∧ u ≤ 1000 ∧ 0 ≤ d ∧ d ≤ 1000 := by
  unfold snOk; rw [Bool.and_eq_true, inB_iff, inB_iff]; omega
def gain (u d : Int) : Int := if d < u then u - d else 0
def far (u d y : Int) : Int := u + (y - 1) * gain u d
def low (n m : Int) : Int := if n < m then n else m
/-- does a snail ever come to a height -/
def fd1 (u d h : Int) : Bool := decide (h ≤ u ∨ d < u)
theorem fd1_iff {u d h : Int} : fd1 u d h = true ↔ h ≤ u ∨ d < u := by unfold fd1; exact decide_eq_true_iff
theorem fd1_not {u d h : Int} : fd1 u d h = false ↔ u < h ∧ u ≤ d := by unfold fd1; rw [decide_eq_false_iff_not]; omega
/-- on which day -/
def fd0 (u d h : Int) : Int := if h ≤ u then 1 else if d < u then 1 + (h - u + (u - d) - 1) / (u - d) else 0
def hig (n m : Int) : Int := if m < n then n else m
/-- the height behind a night -/
def mA (a p n : Int) : Int := if a = n then n else if a ≤ p then 0 else a - p
def mor (u d n y : Int) : Int := if y = 1 then 0 else mA (low n (far u d (y - 1))) d n
def who1 (u d v z n : Int) : Bool := fd1 u d n || fd1 v z n
def who0 (u d v z n : Int) : Int :=
  if fd1 v z n then if fd1 u d n then if fd0 u d n < fd0 v z n then 1 else if fd0 v z n < fd0 u d n then 2 else 0 else 2 else if fd1 u d n then 1 else 0

theorem inB_pred {y : Int} (h : inB y 1 1000000 = true) (k : ¬ y = 1) : inB (y - 1) 1 1000000 = true := by
  have := inB_iff.1 h; exact inB_true (by omega)
theorem fd0_bd (u d h : Int) (hs : snOk u d = true) (h4 : 0 ≤ h) (h5 : h ≤ 1000000) : 0 ≤ fd0 u d h ∧ fd0 u d h ≤ 1000001 := by
  have := snOk_iff.1 hs
  unfold fd0
  split
  · omega
  · split
    · have a : (h - u + (u - d) - 1) / (u - d) ≤ h - u + (u - d) - 1 := Int.ediv_le_self _ (by omega)
      have b : 0 ≤ (h - u + (u - d) - 1) / (u - d) := Int.ediv_nonneg (by omega) (by omega)
      omega
    · omega
theorem fd0_zero {u d h : Int} (k : fd1 u d h = false) : fd0 u d h = 0 := by
  have := fd1_not.1 k; unfold fd0; rw [if_neg (by omega), if_neg (by omega)]
theorem gain_bd (u d : Int) (hs : snOk u d = true) : 0 ≤ gain u d ∧ gain u d ≤ 1000 := by
  have := snOk_iff.1 hs
  unfold gain; split <;> omega
theorem far_bd (u d y : Int) (hs : snOk u d = true) (hy : inB y 1 1000000 = true) : 1 ≤ far u d y ∧ far u d y ≤ 1000001000 := by
  have := snOk_iff.1 hs
  have := inB_iff.1 hy
  have g := gain_bd u d hs
  have m := mul_bd (y - 1) (gain u d) 1000000 1000 (by omega) (by omega) g.1 g.2
  unfold far; omega
theorem low_bd (n m : Int) : low n m ≤ n ∧ low n m ≤ m ∧ (low n m = n ∨ low n m = m) := by unfold low; split <;> omega
theorem low_lt {n m : Int} (h : m < n) : low n m = m := by unfold low; split <;> omega
theorem low_ge {n m : Int} (h : n ≤ m) : low n m = n := by unfold low; split <;> omega
end Go.Proofs.Ytlmbcbopahpagaa
