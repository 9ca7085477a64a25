/- The facts of chances that the named law asks for: plain numbers, and the contracts at them. -/
import Derived.Test.YtlmbcbopahpagaaWinImpl
import Derived.Test.YtlmbcbopahpagaaWinWalks
import Derived.Test.YtlmbcbopahpagaaQIs
import Derived.Test.YtlmbcbopahpagaaVcMath
namespace Go.Proofs.Ytlmbcbopahpagaa
open Go.RowKit
set_option linter.unusedVariables false
set_option linter.unusedSimpArgs false
theorem wV {x : Int} (h0 : -4611686018427387904 ≤ x) (h1 : x ≤ 4611686018427387904) : IntKind.i64.wrap x = x := IntWalk.i64_in _ (by omega)
theorem lw_bdV {a b A B : Int} (h0 : 0 ≤ a) (h1 : a ≤ A) (hb : 1 ≤ b) (hB : b ≤ B) : 0 ≤ lwN a b ∧ lwN a b ≤ A ∧ 1 ≤ lwD a b ∧ lwD a b ≤ B :=
  ⟨(lowQ_lw h0 hb).1, (lwN_bd (B := A) (by omega) (by omega) h1).2, (lwD_pos (by omega)).1, by have := (lwD_pos (a := a) (b := b) (by omega)).2; omega⟩
theorem ylow_lwV {a b : Int} (ha : 0 ≤ a) (hA : a ≤ 1000000000) (hb : 1 ≤ b) (hB : b ≤ 1000000000) : ∀ w : World, Calls Try.prog 10 #[.int .i64 (lwN a b), .int .i64 (lwD a b)] w fun e w' => e = .returned (.bool true) ∧ Below w.heap.size w w' := fun w => by
  have q := lw_bdV ha hA hb hB
  exact yLow_any _ _ (lowQ_lw ha hb) (by omega) (by omega) w
/-- times that meet -/
theorem vcFactsA (m a b : Int) : ∃ (C num den : Int) (ok : Bool),
    (∀ w : World, Calls Try.prog 6 #[.int .i64 m, .int .i64 a, .int .i64 b] w fun e w' => e = .returned (.tuple #[.int .i64 (C), .bool ok]) ∧ Below w.heap.size w w') ∧ (∀ w : World, Calls Try.prog 7 #[.int .i64 m, .int .i64 a, .int .i64 b] w fun e w' => e = .returned (.tuple #[.int .i64 (C), .bool ok]) ∧ Below w.heap.size w w') ∧
    (∀ w : World, Calls Try.prog 8 #[.int .i64 m, .int .i64 a, .int .i64 b] w fun e w' => e = .returned (.tuple #[.int .i64 (num), .int .i64 (den), .bool ok]) ∧ Below w.heap.size w w') ∧ (∀ w : World, Calls Try.prog 9 #[.int .i64 m, .int .i64 a, .int .i64 b] w fun e w' => e = .returned (.tuple #[.int .i64 (num), .int .i64 (den), .bool ok]) ∧ Below w.heap.size w w') ∧
    (ok = true → (1 ≤ m ∧ m ≤ 200 ∧ 0 ≤ a ∧ a ≤ 200 ∧ 0 ≤ b ∧ b ≤ 200 ∧ 0 ≤ C ∧ C ≤ 40000) ∧ (∀ w : World, Calls Try.prog 10 #[.int .i64 num, .int .i64 den] w fun e w' => e = .returned (.bool true) ∧ Below w.heap.size w w') ∧ (∀ w : World, Calls Try.prog 6 #[.int .i64 m, .int .i64 b, .int .i64 a] w fun e w' => e = .returned (.tuple #[.int .i64 (C), .bool true]) ∧ Below w.heap.size w w') ∧
      (∃ X1 X2 X3, IntKind.i64.wrap (num * m) = X1 ∧ IntKind.i64.wrap (X1 * m) = X2 ∧ IntKind.i64.wrap (den * C) = X2 ∧ IntKind.i64.wrap (m * m) = X3 ∧ ¬ C < m ∧ ¬ X3 < C) ∧
      (a = b → (∀ k : Int, 0 ≤ k → k < m → k ≤ a → (0 ≤ nrS m k ∧ nrS m k ≤ 40000 ∧ 0 ≤ caN m k ∧ caN m k ≤ 400 ∧ nrS m (k + 1) = nrS m k + caN m k) ∧ (∀ w : World, Calls Try.prog 11 #[.int .i64 m, .int .i64 k] w fun e w' => e = .returned (.tuple #[.int .i64 (caN m k), .bool true]) ∧ Below w.heap.size w w')) ∧
        (∀ k : Int, 0 ≤ k → k ≤ m → k ≤ a + 1 → (k = m ∨ k = a + 1) → nrS m k = C) ∧
        (m ≤ 50 → a ≤ 50 → (∀ w : World, Calls Try.prog 12 #[.int .i64 m, .int .i64 2, .int .i64 a] w fun e w' => e = .returned (.tuple #[.int .i64 (C), .bool true]) ∧ Below w.heap.size w w')))) := by
  refine ⟨_, _, _, _, fun w => implCountTogether m a b w, fun w => specCountTogether m a b w, fun w => implChanceTogether m a b w, fun w => specChanceTogether m a b w, fun h => ?_⟩
  rw [h]
  simp only [ifI, if_true]
  have t := wmOk_iff.1 h
  have q := wtN_bd h
  have lo := wtN_low h
  have h2 : wmOk m b a = true := wmOk_iff.2 (by omega)
  have z := lw_bdV (a := wtN m a b) (b := m * m) (A := 40000) (B := 40000) q.1 (by omega) (by omega) (by omega)
  have c := lw_cross (a := wtN m a b) (b := m * m) (by omega)
  refine ⟨by omega, ylow_lwV q.1 (by omega) (by omega) (by omega), fun w => ?_, ?_, fun hab => ?_⟩
  · have k := implCountTogether m b a w
    rw [h2, wtN_sym h] at k
    exact k
  · have p1 := mul_bd (lwN (wtN m a b) (m * m)) m 40000 200 (by omega) (by omega) (by omega) (by omega)
    have p2 := mul_bd (lwN (wtN m a b) (m * m) * m) m 8000000 200 (by omega) (by omega) (by omega) (by omega)
    have p3 := mul_bd (lwD (wtN m a b) (m * m)) (wtN m a b) 40000 40000 (by omega) (by omega) (by omega) (by omega)
    refine ⟨_, _, _, wV (by omega) (by omega), wV (by omega) (by omega), ?_, wV (by omega) (by omega), by omega, by omega⟩
    rw [wV (by omega) (by omega), Int.mul_assoc, c, Int.mul_comm]
  · subst hab
    refine ⟨fun k k0 k1 k2 => ?_, fun k k0 k1 k2 ke => nrS_end h k0 k1 k2 ke, fun m1 a1 w => ?_⟩
    · have n1 := nrS_bd (m := m) (k := k) k0 (by omega) t.1 t.2.1
      have n2 := caN_bdV (m := m) (k := k) k0 (by omega) t.1 t.2.1
      refine ⟨⟨n1.1, n1.2, n2.1, n2.2, nrS_step k0 k1⟩, fun w => ?_⟩
      have c := implCountApart m k w
      rw [inB_true (by omega : (1 : Int) ≤ m ∧ m ≤ 200), inB_true (by omega : (0 : Int) ≤ k ∧ k ≤ 200)] at c
      exact c
    · have c := implCountAllWithin m 2 a w
      have ok2 : cwOk m 2 a = true := cwOk_iff.2 (by omega)
      rw [ok2, show (2 : Int).toNat = 2 from rfl, cw_two_all h t.1] at c
      exact c
/-- the chance of two stays that are the same -/
theorem even_at {l s : Int} (h : wlOk l s s = true) : ∀ w : World, Calls Try.prog 14 #[.int .i64 l, .int .i64 s] w fun e w' => e = .returned (.tuple #[.int .i64 (lwN (wsS l s s) (2 * l * l)), .int .i64 (lwD (wsS l s s) (2 * l * l)), .bool true]) ∧ Below w.heap.size w w' := fun w => by
  have k := implEvenChance l s w
  rw [h] at k
  exact k
theorem vcFactsB (l s : Int) : ∃ (p q : Int) (ok : Bool), (∀ w : World, Calls Try.prog 14 #[.int .i64 l, .int .i64 s] w fun e w' => e = .returned (.tuple #[.int .i64 (p), .int .i64 (q), .bool ok]) ∧ Below w.heap.size w w') ∧ (∀ w : World, Calls Try.prog 15 #[.int .i64 l, .int .i64 s] w fun e w' => e = .returned (.tuple #[.int .i64 (p), .int .i64 (q), .bool ok]) ∧ Below w.heap.size w w') ∧
    (ok = true → (∀ w : World, Calls Try.prog 10 #[.int .i64 p, .int .i64 q] w fun e w' => e = .returned (.bool true) ∧ Below w.heap.size w w') ∧ ∃ X1 X2 Y1 Y2 Y3 Y4, IntKind.i64.wrap (p * l) = X1 ∧ IntKind.i64.wrap (X1 * l) = X2 ∧ IntKind.i64.wrap (l * l) = Y1 ∧ IntKind.i64.wrap (l - s) = Y2 ∧ IntKind.i64.wrap (Y2 * Y2) = Y3 ∧ IntKind.i64.wrap (Y1 - Y3) = Y4 ∧ IntKind.i64.wrap (q * Y4) = X2) := by
  refine ⟨_, _, _, fun w => implEvenChance l s w, fun w => specEvenChance l s w, fun h => ?_⟩
  rw [h]
  simp only [ifI, if_true]
  have t := wlOk_iff.1 h
  have b := wsS_bd h
  have z := lw_bdV (a := wsS l s s) (b := 2 * l * l) (A := 80000) (B := 80000) b.1 (by omega) (by omega) (by omega)
  have c := lw_cross (a := wsS l s s) (b := 2 * l * l) (by omega)
  have e : wsS l s s = 2 * (l * l - (l - s) * (l - s)) := by unfold wsS; rw [Int.mul_assoc]; omega
  have ll := mul_bd l l 200 200 (by omega) (by omega) (by omega) (by omega)
  refine ⟨ylow_lwV b.1 (by omega) (by omega) (by omega), ?_⟩
  generalize lwN (wsS l s s) (2 * l * l) = p at *
  generalize lwD (wsS l s s) (2 * l * l) = q at *
  have p1 := mul_bd p l 80000 200 (by omega) (by omega) (by omega) (by omega)
  have p2 := mul_bd (p * l) l 16000000 200 (by omega) (by omega) (by omega) (by omega)
  have hd : p * l * l = q * (l * l - (l - s) * (l - s)) := by
    rw [e] at c
    have e1 : p * (2 * l * l) = 2 * (p * l * l) := by rw [Int.mul_assoc 2, Int.mul_left_comm, Int.mul_assoc p]
    have e2 : 2 * (l * l - (l - s) * (l - s)) * q = 2 * (q * (l * l - (l - s) * (l - s))) := by rw [Int.mul_assoc, Int.mul_comm q]
    first | (rw [e1] at c; have c2 := c; rw [e2] at c2; omega) | (rw [e1] at c; rw [Int.mul_left_comm] at c; omega) | grind
  refine ⟨_, _, _, _, _, _, wV (by omega) (by omega), wV (by omega) (by omega), wV (by omega) (by omega), wV (by omega) (by omega), wV (by omega) (by omega), wV (by omega) (by omega), ?_⟩
  rw [← hd]; exact wV (by omega) (by omega)
theorem vcFactsC (l a b : Int) : ∃ (r s : Int) (ok : Bool), (∀ w : World, Calls Try.prog 17 #[.int .i64 l, .int .i64 a, .int .i64 b] w fun e w' => e = .returned (.tuple #[.int .i64 (r), .int .i64 (s), .bool ok]) ∧ Below w.heap.size w w') ∧ (∀ w : World, Calls Try.prog 18 #[.int .i64 l, .int .i64 a, .int .i64 b] w fun e w' => e = .returned (.tuple #[.int .i64 (r), .int .i64 (s), .bool ok]) ∧ Below w.heap.size w w') ∧
    (ok = true → (∀ w : World, Calls Try.prog 10 #[.int .i64 r, .int .i64 s] w fun e w' => e = .returned (.bool true) ∧ Below w.heap.size w w') ∧ (∀ w : World, Calls Try.prog 17 #[.int .i64 l, .int .i64 b, .int .i64 a] w fun e w' => e = .returned (.tuple #[.int .i64 (r), .int .i64 (s), .bool true]) ∧ Below w.heap.size w w') ∧ r ≤ s) := by
  refine ⟨_, _, _, fun w => implChanceOfStays l a b w, fun w => specChanceOfStays l a b w, fun h => ?_⟩
  rw [h]
  simp only [ifI, if_true]
  have t := wlOk_iff.1 h
  have d := wsS_bd h
  have h2 : wlOk l b a = true := wlOk_iff.2 (by omega)
  have e : wsS l b a = wsS l a b := by unfold wsS; omega
  have c := lw_cross (a := wsS l a b) (b := 2 * l * l) (by omega)
  have z := lw_bdV (a := wsS l a b) (b := 2 * l * l) (A := 80000) (B := 80000) d.1 (by omega) (by omega) (by omega)
  refine ⟨ylow_lwV d.1 (by omega) (by omega) (by omega), fun w => ?_, Int.not_lt.1 fun q => ?_⟩
  · have k := implChanceOfStays l b a w
    rw [h2, e] at k
    exact k
  · generalize lwN (wsS l a b) (2 * l * l) = p at *
    generalize lwD (wsS l a b) (2 * l * l) = g at *
    generalize 2 * l * l = L at *
    generalize wsS l a b = S at *
    have m1 : (g + 1) * L ≤ p * L := Int.mul_le_mul_of_nonneg_right (by omega) (by omega)
    have m2 : S * g ≤ L * g := Int.mul_le_mul_of_nonneg_right d.2.1 (by omega)
    rw [Int.add_mul, Int.one_mul, Int.mul_comm g] at m1
    first | omega | (rw [Int.mul_comm S] at m2; omega) | (rw [Int.mul_comm g] at c; omega) | grind
/-- the least stay -/
theorem fs_spec (P : Nat → Bool) : ∀ n, fsB P n = true → fsV P n < n ∧ P (fsV P n) = true ∧ ∀ k, k < fsV P n → P k = false
  | 0, h => by simp [fsB] at h
  | n + 1, h => by
    cases hb : fsB P n
    · have hp : P n = true := by simpa [fsB, hb] using h
      have no : ∀ k, k < n → P k = false := by
        intro k hk
        cases hpk : P k
        · rfl
        · exfalso
          have : ∀ m, k < m → fsB P m = true := by
            intro m
            induction m with
            | zero => intro q; omega
            | succ m ih =>
              intro q
              by_cases e : k = m
              · subst e; simp [fsB, hpk]
              · simp [fsB, ih (by omega)]
          rw [this n hk] at hb; cases hb
      simp only [fsV, hb, hp, if_true]
      exact ⟨by simp, by simpa using hp, by simpa using no⟩
    · have ih := fs_spec P n hb
      simp only [fsV, hb, if_true]
      exact ⟨by omega, ih.2.1, ih.2.2⟩
theorem least_cross {l s u v z w : Int} (hl : 1 ≤ 2 * l * l) (hz : z * (2 * l * l) = wsS l s s * w) (hw : 1 ≤ w) (hv : 1 ≤ v) : u * 2 * l * l ≤ wsS l s s * v ↔ u * w ≤ z * v := by
  have e : u * 2 * l * l = u * (2 * l * l) := by rw [Int.mul_assoc u, Int.mul_assoc u]
  rw [e]
  generalize 2 * l * l = L at *
  generalize wsS l s s = S at *
  constructor
  · intro h
    have m : u * L * w ≤ S * v * w := Int.mul_le_mul_of_nonneg_right h (by omega)
    have e1 : S * v * w = z * v * L := by rw [Int.mul_assoc, Int.mul_comm v, ← Int.mul_assoc, ← hz]; ac_rfl
    have e2 : u * L * w = u * w * L := by ac_rfl
    rw [e1, e2] at m
    exact Int.le_of_mul_le_mul_right m (by omega)
  · intro h
    have m : u * w * L ≤ z * v * L := Int.mul_le_mul_of_nonneg_right h (by omega)
    have e1 : S * v * w = z * v * L := by rw [Int.mul_assoc, Int.mul_comm v, ← Int.mul_assoc, ← hz]; ac_rfl
    have e2 : u * L * w = u * w * L := by ac_rfl
    rw [← e1, ← e2] at m
    exact Int.le_of_mul_le_mul_right m (by omega)
theorem vcFactsD (l u v : Int) : ∃ (S : Int) (ok : Bool), (∀ w : World, Calls Try.prog 20 #[.int .i64 l, .int .i64 u, .int .i64 v] w fun e w' => e = .returned (.tuple #[.int .i64 (S), .bool ok]) ∧ Below w.heap.size w w') ∧ (∀ w : World, Calls Try.prog 21 #[.int .i64 l, .int .i64 u, .int .i64 v] w fun e w' => e = .returned (.tuple #[.int .i64 (S), .bool ok]) ∧ Below w.heap.size w w') ∧
    (ok = true → (0 ≤ S ∧ S ≤ 200) ∧ (∃ z y X Y, (∀ w : World, Calls Try.prog 14 #[.int .i64 l, .int .i64 S] w fun e w' => e = .returned (.tuple #[.int .i64 (z), .int .i64 (y), .bool true]) ∧ Below w.heap.size w w') ∧ IntKind.i64.wrap (z * v) = X ∧ IntKind.i64.wrap (u * y) = Y ∧ Y ≤ X) ∧
      (0 < S → ∃ z y X Y, (∀ w : World, Calls Try.prog 14 #[.int .i64 l, .int .i64 (S - 1)] w fun e w' => e = .returned (.tuple #[.int .i64 (z), .int .i64 (y), .bool true]) ∧ Below w.heap.size w w') ∧ IntKind.i64.wrap (z * v) = X ∧ IntKind.i64.wrap (u * y) = Y ∧ X < Y)) := by
  refine ⟨_, _, fun w => implLeastStay l u v w, fun w => specLeastStay l u v w, fun h => ?_⟩
  rw [Bool.and_eq_true] at h
  obtain ⟨h1, h2⟩ := h
  rw [h1]
  simp only [ifI, if_true]
  have t := lsOk_iff.1 h1
  obtain ⟨f1, f2, f3⟩ := fs_spec _ _ h2
  generalize fsV (lsB l u v) (l.toNat + 1) = S at *
  have at_ : ∀ s : Nat, s ≤ l.toNat → ∃ z y X Y, (∀ w : World, Calls Try.prog 14 #[.int .i64 l, .int .i64 (s : Int)] w fun e w' => e = .returned (.tuple #[.int .i64 (z), .int .i64 (y), .bool true]) ∧ Below w.heap.size w w') ∧ IntKind.i64.wrap (z * v) = X ∧ IntKind.i64.wrap (u * y) = Y ∧ (lsB l u v s = true ↔ Y ≤ X) := by
    intro s hs
    have ok : wlOk l s s = true := wlOk_iff.2 (by omega)
    have b := wsS_bd ok
    have z := lw_bdV (a := wsS l s s) (b := 2 * l * l) (A := 80000) (B := 80000) b.1 (by omega) (by omega) (by omega)
    have c := lw_cross (a := wsS l s s) (b := 2 * l * l) (by omega)
    have p1 := mul_bd (lwN (wsS l s s) (2 * l * l)) v 80000 1000 (by omega) (by omega) (by omega) (by omega)
    have p2 := mul_bd u (lwD (wsS l s s) (2 * l * l)) 1000 80000 (by omega) (by omega) (by omega) (by omega)
    refine ⟨lwN (wsS l s s) (2 * l * l), lwD (wsS l s s) (2 * l * l), _, _, even_at ok, wV (by omega) (by omega), wV (by omega) (by omega), ?_⟩
    unfold lsB
    rw [decide_eq_true_eq]
    exact least_cross b.2.2.1 c z.2.2.1 t.2.2.2.2.1
  refine ⟨by omega, ?_, fun hS => ?_⟩
  · obtain ⟨z, y, X, Y, k1, k2, k3, k4⟩ := at_ S (by omega)
    have := k4.1 f2
    exact ⟨z, y, X, Y, k1, k2, k3, by omega⟩
  · obtain ⟨z, y, X, Y, k1, k2, k3, k4⟩ := at_ (S - 1) (by omega)
    rw [show ((S - 1 : Nat) : Int) = (S : Int) - 1 from by omega] at k1
    refine ⟨z, y, X, Y, k1, k2, k3, Int.not_le.1 fun q => ?_⟩
    have := k4.2 q
    rw [f3 (S - 1) (by omega)] at this
    cases this
/-- all within a stay -/
theorem vcFactsE (m p s : Int) : ∃ (A : Int) (ok : Bool), (∀ w : World, Calls Try.prog 12 #[.int .i64 m, .int .i64 p, .int .i64 s] w fun e w' => e = .returned (.tuple #[.int .i64 (A), .bool ok]) ∧ Below w.heap.size w w') ∧ (∀ w : World, Calls Try.prog 23 #[.int .i64 m, .int .i64 p, .int .i64 s] w fun e w' => e = .returned (.tuple #[.int .i64 (A), .bool ok]) ∧ Below w.heap.size w w') ∧
    (ok = true → (1 ≤ m ∧ m ≤ 50 ∧ 1 ≤ p ∧ p ≤ 6 ∧ 0 ≤ s ∧ s ≤ 50) ∧ ∃ PW : Nat → Int, PW 0 = 1 ∧ (∀ i : Nat, (i : Int) < p → (0 ≤ PW i ∧ PW i ≤ 1000000000000) ∧ IntKind.i64.wrap (PW i * m) = PW (i + 1)) ∧
      (∀ i : Nat, (i : Int) = p → m ≤ A ∧ A ≤ PW i ∧ ((A = PW i ∧ (m - 1 ≤ s ∨ p = 1)) ∨ (¬ A = PW i ∧ s < m - 1 ∧ ¬ p = 1)))) := by
  refine ⟨_, _, fun w => implCountAllWithin m p s w, fun w => specCountAllWithin m p s w, fun h => ?_⟩
  rw [h]
  simp only [ifI, if_true]
  have t := cwOk_iff.1 h
  have f := cw_facts h
  refine ⟨t, fun i => m ^ i, Int.pow_zero _, fun i hi => ?_, fun i hi => ?_⟩
  · have b := pow_bdM (n := m) (k := i) (by omega) (by omega) (by omega)
    have b2 := pow_bdM (n := m) (k := i + 1) (by omega) (by omega) (by omega)
    show (0 ≤ m ^ i ∧ m ^ i ≤ 1000000000000) ∧ IntKind.i64.wrap (m ^ i * m) = m ^ (i + 1)
    have e : m ^ i * m = m ^ (i + 1) := (Int.pow_succ _ _).symm
    rw [e]
    exact ⟨by omega, wV (by omega) (by omega)⟩
  · obtain rfl : i = p.toNat := by omega
    show m ≤ cwN m s p.toNat m.toNat ∧ cwN m s p.toNat m.toNat ≤ m ^ p.toNat ∧ ((cwN m s p.toNat m.toNat = m ^ p.toNat ∧ (m - 1 ≤ s ∨ p = 1)) ∨ (¬ cwN m s p.toNat m.toNat = m ^ p.toNat ∧ s < m - 1 ∧ ¬ p = 1))
    obtain ⟨f1, f2, f3⟩ := f
    refine ⟨by omega, by omega, ?_⟩
    by_cases q : cwN m s p.toNat m.toNat = m ^ p.toNat
    · exact .inl ⟨q, f3.1 q⟩
    · exact .inr ⟨q, Int.not_le.1 fun z => q (f3.2 (.inl z)), fun z => q (f3.2 (.inr z))⟩
/-- the mean of the gaps -/
theorem vcFactsF (n : Int) : ∃ (mean part : Int) (ok : Bool), (∀ w : World, Calls Try.prog 25 #[.int .i64 n] w fun e w' => e = .returned (.tuple #[.int .i64 (mean), .int .i64 (part), .bool ok]) ∧ Below w.heap.size w w') ∧ (∀ w : World, Calls Try.prog 26 #[.int .i64 n] w fun e w' => e = .returned (.tuple #[.int .i64 (mean), .int .i64 (part), .bool ok]) ∧ Below w.heap.size w w') ∧
    (ok = true → (1 ≤ n ∧ n ≤ 200) ∧ (∀ w : World, Calls Try.prog 10 #[.int .i64 mean, .int .i64 part] w fun e w' => e = .returned (.bool true) ∧ Below w.heap.size w w') ∧ (∀ i : Nat, (i : Int) < n → (∀ w : World, Calls Try.prog 11 #[.int .i64 n, .int .i64 (i : Int)] w fun e w' => e = .returned (.tuple #[.int .i64 (caN n i), .bool true]) ∧ Below w.heap.size w w') ∧ (0 ≤ gpS n i ∧ gpS n i ≤ 16000000) ∧ ∃ X, IntKind.i64.wrap ((i : Int) * caN n i) = X ∧ IntKind.i64.wrap (gpS n i + X) = gpS n (i + 1)) ∧
      (∀ i : Nat, (i : Int) = n → ∃ X1 X2, IntKind.i64.wrap (mean * n) = X1 ∧ IntKind.i64.wrap (X1 * n) = X2 ∧ IntKind.i64.wrap (part * gpS n i) = X2)) := by
  refine ⟨_, _, _, fun w => implMeanApart n w, fun w => specMeanApart n w, fun h => ?_⟩
  rw [h]
  simp only [ifI, if_true]
  have t := inB_iff.1 h
  have nn := mul_bd n n 200 200 (by omega) (by omega) (by omega) (by omega)
  have n1 : 1 * 1 ≤ n * n := Int.mul_le_mul t.1 t.1 (by omega) (by omega)
  have z := lw_bdV (a := n * n - 1) (b := 3 * n) (A := 40000) (B := 600) (by omega) (by omega) (by omega) (by omega)
  have c := lw_cross (a := n * n - 1) (b := 3 * n) (by omega)
  refine ⟨t, ylow_lwV (by omega) (by omega) (by omega) (by omega), fun i hi => ?_, fun i hi => ?_⟩
  · have g := gpS_bd t.1 t.2 i (by omega)
    have g2 := gpS_bd t.1 t.2 (i + 1) (by omega)
    have k := caN_bdV (m := n) (k := (i : Int)) (by omega) (by omega) t.1 t.2
    have p := mul_bd (i : Int) (caN n i) 200 400 (by omega) (by omega) k.1 k.2
    refine ⟨fun w => ?_, by omega, _, wV (by omega) (by omega), ?_⟩
    · have q := implCountApart n i w
      rw [h, inB_true (by omega : (0 : Int) ≤ (i : Int) ∧ (i : Int) ≤ 200)] at q
      exact q
    · exact wV (by omega) (by omega)
  · obtain rfl : i = n.toNat := by omega
    have g := gpS_all t.1
    have gb := gpS_bd t.1 t.2 n.toNat (by omega)
    generalize gpS n n.toNat = G at *
    generalize lwN (n * n - 1) (3 * n) = p at *
    generalize lwD (n * n - 1) (3 * n) = q at *
    have p1 := mul_bd p n 40000 200 (by omega) (by omega) (by omega) (by omega)
    have p2 := mul_bd (p * n) n 8000000 200 (by omega) (by omega) (by omega) (by omega)
    have p3 := mul_bd q G 600 16000000 (by omega) (by omega) (by omega) (by omega)
    refine ⟨_, _, wV (by omega) (by omega), wV (by omega) (by omega), ?_⟩
    rw [wV (by omega) (by omega)]
    have e1 : p * (3 * n) * n = 3 * (p * n * n) := by ac_rfl
    have e2 : (n * n - 1) * q * n = q * (n * (n * n - 1)) := by ac_rfl
    have e3 : q * (3 * G) = 3 * (q * G) := by ac_rfl
    have k : 3 * (p * n * n) = 3 * (q * G) := by
      rw [← e1, ← e3, g, ← e2, c]
    omega
theorem vcFactsG (k a : Int) : ∃ (F : Int) (ok : Bool), (∀ w : World, Calls Try.prog 11 #[.int .i64 k, .int .i64 a] w fun e w' => e = .returned (.tuple #[.int .i64 (F), .bool ok]) ∧ Below w.heap.size w w') ∧ (∀ w : World, Calls Try.prog 28 #[.int .i64 k, .int .i64 a] w fun e w' => e = .returned (.tuple #[.int .i64 (F), .bool ok]) ∧ Below w.heap.size w w') :=
  ⟨_, _, fun w => implCountApart k a w, fun w => specCountApart k a w⟩
end Go.Proofs.Ytlmbcbopahpagaa
