/- Plain mathematics of chapter 4 (a chase): no program is named here. -/
import Derived.Test.YtlmbcbopahpagaaTwoMath
namespace Go.Proofs.Ytlmbcbopahpagaa
open Go.RowKit
set_option linter.unusedVariables false
def mx (l r : Int) : Int := if r < l then l else r
theorem mx_eq (l r : Int) : (if r < l then l else r) = mx l r := rfl
theorem mx_bd (l r : Int) : l ≤ mx l r ∧ r ≤ mx l r ∧ (mx l r = l ∨ mx l r = r) := by unfold mx; split <;> omega
/-- a chase -/
def chOk (a l r g : Int) : Bool := inB a 1 1000 && inB l 0 20 && inB r 0 20 && decide (0 < l + r) && inB g (mx l r + 1) 20
theorem chOk_iff {a l r g : Int} : chOk a l r g = true ↔ 1 ≤ a ∧ a ≤ 1000 ∧ 0 ≤ l ∧ l ≤ 20 ∧ 0 ≤ r ∧ r ≤ 20 ∧ 1 ≤ l + r ∧ l < g ∧ r < g ∧ g ≤ 20 := by
  unfold chOk
  rw [Bool.and_eq_true, Bool.and_eq_true, Bool.and_eq_true, Bool.and_eq_true, inB_iff, inB_iff, inB_iff, inB_iff, decide_eq_true_eq]
  have := mx_bd l r
  omega
theorem r5 {a b c d a' b' c' d' : Int} {e f : Bool} (h1 : a = a') (h2 : b = b') (h3 : c = c') (h4 : d = d') (h5 : e = f) :
    Ending.returned (.tuple #[.int .i64 a, .int .i64 b, .int .i64 c, .int .i64 d, .bool e]) = .returned (.tuple #[.int .i64 a', .int .i64 b', .int .i64 c', .int .i64 d', .bool f]) := by rw [h1, h2, h3, h4, h5]
theorem results_tmp5 {fn : Func} {t u v x y : Tmp} (h : fn.results = #[.tmp t, .tmp u, .tmp v, .tmp x, .tmp y]) (tmps : Array Value) (P : Program) (w : World) :
    (results fn tmps).run P w = .ok (.tuple #[tmps.getD t undef, tmps.getD u undef, tmps.getD v undef, tmps.getD x undef, tmps.getD y undef]) w := by
  simp [results, h]
/-- all within bounds -/
def alB (xs : List Int) (lo hi : Int) : Bool := xs.all fun x => inB x lo hi
theorem alB_iff {xs : List Int} {lo hi : Int} : alB xs lo hi = true ↔ ∀ i, i < xs.length → lo ≤ xs.getD i 0 ∧ xs.getD i 0 ≤ hi := by
  unfold alB
  rw [List.all_eq_true]
  constructor
  · intro h i hi
    have := inB_iff.1 (h (xs[i]) (List.getElem_mem hi))
    simpa [List.getD, List.getElem?_eq_getElem hi] using this
  · intro h x hx
    obtain ⟨i, hi, rfl⟩ := List.getElem_of_mem hx
    have := h i hi
    exact inB_iff.2 (by simpa [List.getD, List.getElem?_eq_getElem hi] using this)
theorem four_bd {a b c d : Int} (h : alB [a, b, c, d] 1 20 = true) : 1 ≤ a ∧ a ≤ 20 ∧ 1 ≤ b ∧ b ≤ 20 ∧ 1 ≤ c ∧ c ≤ 20 ∧ 1 ≤ d ∧ d ≤ 20 := by
  simp [alB, inB] at h; omega
/-- a speed to catch at a time -/
def csOk (a t h : Int) : Bool := inB a 1 1000 && inB t 1 1000 && inB h 0 20
/-- a fraction's terms by a common factor -/
theorem gc_scale (g x y : Int) (hg : 1 ≤ g) : gc (g * x) (g * y) = g * gc x y := by
  unfold gc
  rw [Int.gcd_mul_left]
  have : ((g.natAbs : Nat) : Int) = g := by omega
  rw [Int.natCast_mul, this]
theorem lw_scale {g x y : Int} (hg : 1 ≤ g) : lwN (g * x) (g * y) = lwN x y ∧ lwD (g * x) (g * y) = lwD x y := by
  unfold lwN lwD
  rw [gc_scale g x y hg]
  exact ⟨Int.mul_tdiv_mul_of_pos _ _ (by omega), Int.mul_tdiv_mul_of_pos _ _ (by omega)⟩
theorem lw_parts {a b : Int} (h : b ≠ 0) : gc a b * lwN a b = a ∧ gc a b * lwD a b = b := by
  unfold lwN lwD
  exact ⟨Int.mul_tdiv_cancel' (gc_dvd_l a b), Int.mul_tdiv_cancel' (gc_dvd_r a b)⟩
theorem lw_mul {a b : Int} (n : Int) (h : 1 ≤ b) : lwN (lwN a b * n) (lwD a b) = lwN (a * n) b ∧ lwD (lwN a b * n) (lwD a b) = lwD (a * n) b := by
  have p := lw_parts (a := a) (b := b) (by omega)
  have g := gc_pos (a := a) (b := b) (by omega)
  have s := lw_scale (g := gc a b) (x := lwN a b * n) (y := lwD a b) g
  rw [p.2, ← Int.mul_assoc, p.1] at s
  exact ⟨s.1.symm, s.2.symm⟩
theorem lw_cross2 {a b c d : Int} (hb : 1 ≤ b) (hd : 1 ≤ d) (h : a * d = c * b) : lwN a b = lwN c d ∧ lwD a b = lwD c d := by
  have s := lw_scale (g := d) (x := a) (y := b) hd
  have t := lw_scale (g := b) (x := c) (y := d) hb
  rw [Int.mul_comm d a, h, Int.mul_comm c b, Int.mul_comm d b] at s
  exact ⟨s.1.symm.trans t.1, s.2.symm.trans t.2⟩
/-- a time of a chase -/
def dtB (a l r n d : Int) : Bool := inB n 0 1000 && inB d 1 100 && decide (n * (l + r) ≤ a * d)
theorem dtB_iff {a l r n d : Int} : dtB a l r n d = true ↔ 0 ≤ n ∧ n ≤ 1000 ∧ 1 ≤ d ∧ d ≤ 100 ∧ n * (l + r) ≤ a * d := by
  unfold dtB
  rw [Bool.and_eq_true, Bool.and_eq_true, inB_iff, inB_iff, decide_eq_true_eq]
  omega
/-- is a dog of speed g at its first turn by the time n / d -/
def sdB (a r n d g : Int) : Bool := decide (a * d ≤ (g + r) * n)
def sdK (a r n d : Int) : Nat → Int → Bool
  | 0, _ => false
  | k + 1, g => sdB a r n d g || sdK a r n d k (g + 1)
def sdV (a r n d : Int) : Nat → Int → Int
  | 0, _ => 0
  | k + 1, g => if sdB a r n d g then g else sdV a r n d k (g + 1)
theorem sd_yes {a r n d g : Int} {k : Nat} (h : sdB a r n d g = true) : sdK a r n d (k + 1) g = true ∧ sdV a r n d (k + 1) g = g := by simp [sdK, sdV, h]
theorem sd_no {a r n d g : Int} {k : Nat} (h : sdB a r n d g = false) : sdK a r n d (k + 1) g = sdK a r n d k (g + 1) ∧ sdV a r n d (k + 1) g = sdV a r n d k (g + 1) := by simp [sdK, sdV, h]
def sdS (l r : Int) : Nat := (20 - mx l r).toNat
/-- leaps -/
def clB (ah a b c d : Int) : Bool := inB ah 1 1000 && alB [a, b, c, d] 1 20 && decide (b * c < a * d)
def clV (ah a b c d : Int) : Int := (ah * (a * c) + (a * d - b * c) - 1).tdiv (a * d - b * c)
end Go.Proofs.Ytlmbcbopahpagaa
