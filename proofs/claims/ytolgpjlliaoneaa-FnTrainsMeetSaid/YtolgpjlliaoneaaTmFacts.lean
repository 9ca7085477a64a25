/- The facts of the meetings of trains that the named laws ask for: plain numbers, and the contracts at them. -/
import Derived.Test.YtolgpjlliaoneaaTrnImpl
import Derived.Test.YtolgpjlliaoneaaTmMath
import Derived.Test.YtolgpjlliaoneaaQIs
import Derived.Test.YtolgpjlliaoneaaTrnMost
import Derived.Test.YtolgpjlliaoneaaTrnTake
import Derived.Test.YtolgpjlliaoneaaTrnWalks
import Derived.Test.YtolgpjlliaoneaaTrnList
import Derived.Test.YtolgpjlliaoneaaTrnFit
import Derived.Test.YtolgpjlliaoneaaFloI
namespace Go.Proofs.Ytolgpjlliaoneaa
open Go.RowKit
set_option linter.unusedVariables false
set_option linter.unusedSimpArgs false
theorem lw_bdT {a b A : Int} (h0 : 0 ≤ a) (h1 : a ≤ A) (hb : 1 ≤ b) : 0 ≤ lwN a b ∧ lwN a b ≤ A :=
  ⟨(lowQ_lw h0 hb).1, (lwN_bd (B := A) (by omega) (by omega) h1).2⟩
theorem i64w {x : Int} (h0 : -4611686018427387904 ≤ x) (h1 : x ≤ 4611686018427387904) : IntKind.i64.wrap x = x := IntWalk.i64_in _ (by omega)
theorem sum_cross {C D E F n r q : Int} (hp : 1 ≤ r + q) (h1 : C * (r + q) = n * r * D) (h2 : E * (r + q) = n * q * F) : C * F + E * D = n * D * F := by
  have k : (C * F + E * D) * (r + q) = n * D * F * (r + q) := by
    calc (C * F + E * D) * (r + q) = C * (r + q) * F + E * (r + q) * D := by rw [Int.add_mul]; congr 1 <;> ac_rfl
      _ = n * r * D * F + n * q * F * D := by rw [h1, h2]
      _ = n * D * F * (r + q) := by rw [Int.mul_add]; congr 1 <;> ac_rfl
  exact Int.eq_of_mul_eq_mul_right (by omega) k
/-- the least headway -/
theorem head_facts {l r m q n H Y P T : Int} (b1 : 1 ≤ l) (b3 : 1 ≤ r) (d3 : 1 ≤ q) (hn : l ≤ n) (hY : 1 ≤ Y) (hT : 1 ≤ T) (hH : H * hwD l r m q n = hwN l r m q n * Y) (hP : P * r = l * T) :
    ¬ H * T < P * Y ∧ ¬ (n - l) * r * Y < q * (n * Y - H * r) ∧ (P * Y < H * T → q * (n * Y - H * r) = (n - l) * r * Y) := by
  have hc0 : hwC l r m q n = decide ((n * q - (n - l) * r) * r < l * (r * q)) := rfl
  unfold hwN hwD at hH
  cases hc : hwC l r m q n
  · rw [hc] at hH hc0
    simp only [Bool.false_eq_true, if_false] at hH
    have h2 : l * (r * q) ≤ (n * q - (n - l) * r) * r := by
      have := of_decide_eq_false hc0.symm; omega
    have e5 : q * (n * Y - H * r) = (n - l) * r * Y := by
      have : q * (H * r) = (n * q - (n - l) * r) * Y := by rw [← hH]; ac_rfl
      rw [Int.mul_sub, this, Int.sub_mul, show q * (n * Y) = n * q * Y from by ac_rfl]
      omega
    refine ⟨fun h => ?_, by rw [e5]; exact Int.lt_irrefl _, fun _ => e5⟩
    have hp : 0 < r * (r * q) := Int.mul_pos (by omega) (Int.mul_pos (by omega) (by omega))
    have k := Int.mul_lt_mul_of_pos_right h hp
    have k1 : H * T * (r * (r * q)) = (n * q - (n - l) * r) * r * (Y * T) := by
      calc H * T * (r * (r * q)) = H * (r * q) * (r * T) := by ac_rfl
        _ = (n * q - (n - l) * r) * Y * (r * T) := by rw [hH]
        _ = (n * q - (n - l) * r) * r * (Y * T) := by ac_rfl
    have k2 : P * Y * (r * (r * q)) = l * (r * q) * (Y * T) := by
      calc P * Y * (r * (r * q)) = P * r * (Y * (r * q)) := by ac_rfl
        _ = l * T * (Y * (r * q)) := by rw [hP]
        _ = l * (r * q) * (Y * T) := by ac_rfl
    rw [k1, k2] at k
    have := Int.mul_le_mul_of_nonneg_right h2 (show 0 ≤ Y * T from Int.mul_nonneg (by omega) (by omega))
    omega
  · rw [hc] at hH hc0
    simp only [if_true] at hH
    have h2 : (n * q - (n - l) * r) * r < l * (r * q) := of_decide_eq_true hc0.symm
    have e1 : H * T = P * Y := by
      have hr : (r : Int) ≠ 0 := by omega
      have : H * T * r = P * Y * r := by
        calc H * T * r = H * r * T := by ac_rfl
          _ = l * Y * T := by rw [hH]
          _ = l * T * Y := by ac_rfl
          _ = P * r * Y := by rw [hP]
          _ = P * Y * r := by ac_rfl
      exact Int.eq_of_mul_eq_mul_right hr this
    refine ⟨by rw [e1]; exact Int.lt_irrefl _, fun h => ?_, fun h => by rw [e1] at h; exact absurd h (Int.lt_irrefl _)⟩
    have g1 : (n * q - (n - l) * r) * r < l * q * r := by rw [show l * q * r = l * (r * q) from by ac_rfl]; exact h2
    have g2 : n * q - (n - l) * r < l * q := Int.lt_of_mul_lt_mul_right g1 (by omega)
    have g3 : q * (n - l) ≤ (n - l) * r := by
      rw [Int.mul_sub, Int.mul_comm q n, Int.mul_comm q l]; omega
    have g4 : q * (n * Y - H * r) = q * (n - l) * Y := by rw [hH, ← Int.sub_mul]; ac_rfl
    have g5 := Int.mul_le_mul_of_nonneg_right g3 (show 0 ≤ Y by omega)
    rw [g4] at h
    omega
theorem meet_at {l r m q n : Int} (h1 : tn2 l r m q = true) (h2 : wyOk n = true) : ∀ w : World, Calls Try.prog 6 #[.agg #[.int .i64 l, .int .i64 r], .agg #[.int .i64 m, .int .i64 q], .int .i64 n] w fun e w' => e = .returned (.tuple #[.int .i64 (lwN n (r + q)), .int .i64 (lwD n (r + q)), .int .i64 (lwN (n * r) (r + q)), .int .i64 (lwD (n * r) (r + q)), .bool true]) ∧ Below w.heap.size w w' := fun w => by
  have := implMeetAfter l r m q n w
  rw [h1, h2] at this
  exact this
theorem qis_lw {a b : Int} (ha : 0 ≤ a) (hA : a ≤ 1000000000) (hb : 1 ≤ b) (hB : b ≤ 1000) : ∀ w : World, Calls Try.prog 12 #[.int .i64 (lwN a b), .int .i64 (lwD a b), .int .i64 a, .int .i64 b] w fun e w' => e = .returned (.bool true) ∧ Below w.heap.size w w' := fun w => by
  have n := lw_bdT (A := 1000000000) ha hA hb
  have d := lwD_pos (a := a) (b := b) (by omega)
  have p := mul_bd a (lwD a b) 1000000000 1000 ha hA (by omega) (by omega)
  exact qIs_any _ _ a b (lowQ_lw ha hb) (by omega) (by omega) (lw_cross (by omega)) (by omega) (by omega) w
theorem tm_fM {l r m q n : Int} (h : (tn2 l r m q && wyOk n) = true) : (1 ≤ r ∧ r ≤ 100 ∧ 1 ≤ q ∧ q ≤ 100 ∧ 0 ≤ n ∧ n ≤ 100000 ∧ 1 ≤ l ∧ l ≤ 1000) ∧ ∃ E F nr P1 P2 nD P3 : Int, IntKind.i64.wrap (n * r) = nr ∧ IntKind.i64.wrap (lwN (n * r) (r + q) * F) = P1 ∧ IntKind.i64.wrap (E * lwD (n * r) (r + q)) = P2 ∧ IntKind.i64.wrap (P1 + P2) = P3 ∧ IntKind.i64.wrap (n * lwD (n * r) (r + q)) = nD ∧ IntKind.i64.wrap (nD * F) = P3 ∧
      (∀ w : World, Calls Try.prog 6 #[.agg #[.int .i64 m, .int .i64 q], .agg #[.int .i64 l, .int .i64 r], .int .i64 n] w fun e w' => e = .returned (.tuple #[.int .i64 (lwN n (r + q)), .int .i64 (lwD n (r + q)), .int .i64 E, .int .i64 F, .bool true]) ∧ Below w.heap.size w w') ∧ (∀ w : World, Calls Try.prog 12 #[.int .i64 (lwN n (r + q)), .int .i64 (lwD n (r + q)), .int .i64 n, .int .i64 (r + q)] w fun e w' => e = .returned (.bool true) ∧ Below w.heap.size w w') ∧ (∀ w : World, Calls Try.prog 12 #[.int .i64 (lwN (n * r) (r + q)), .int .i64 (lwD (n * r) (r + q)), .int .i64 nr, .int .i64 (r + q)] w fun e w' => e = .returned (.bool true) ∧ Below w.heap.size w w') := by
  rw [Bool.and_eq_true] at h
  obtain ⟨h1, h2⟩ := h
  have b := tn2_iff.1 h1
  have c := wyOk_iff.1 h2
  have h1' : tn2 m q l r = true := tn2_iff.2 ⟨b.2, b.1⟩
  have x1 := mul_bd n r 100000 100 (by omega) (by omega) (by omega) (by omega)
  have x2 := mul_bd n q 100000 100 (by omega) (by omega) (by omega) (by omega)
  have n1 := lw_bdT (a := n * r) (b := r + q) (A := 10000000) (by omega) (by omega) (by omega)
  have d1 := lwD_pos (a := n * r) (b := r + q) (by omega)
  have n2 := lw_bdT (a := n * q) (b := r + q) (A := 10000000) (by omega) (by omega) (by omega)
  have d2 := lwD_pos (a := n * q) (b := r + q) (by omega)
  have y1 := mul_bd (lwN (n * r) (r + q)) (lwD (n * q) (r + q)) 10000000 200 (by omega) (by omega) (by omega) (by omega)
  have y2 := mul_bd (lwN (n * q) (r + q)) (lwD (n * r) (r + q)) 10000000 200 (by omega) (by omega) (by omega) (by omega)
  have y3 := mul_bd n (lwD (n * r) (r + q)) 100000 200 (by omega) (by omega) (by omega) (by omega)
  have y4 := mul_bd (n * lwD (n * r) (r + q)) (lwD (n * q) (r + q)) (100000 * 200) 200 (by omega) (by omega) (by omega) (by omega)
  have s := sum_cross (n := n) (r := r) (q := q) (by omega) (lw_cross (a := n * r) (b := r + q) (by omega)) (lw_cross (a := n * q) (b := r + q) (by omega))
  refine ⟨by omega, lwN (n * q) (r + q), lwD (n * q) (r + q), n * r, _, _, n * lwD (n * r) (r + q), _, i64w (by omega) (by omega), i64w (by omega) (by omega), i64w (by omega) (by omega), i64w (by omega) (by omega), i64w (by omega) (by omega), ?_, ?_, qis_lw (by omega) (by omega) (by omega) (by omega), qis_lw (by omega) (by omega) (by omega) (by omega)⟩
  · rw [i64w (by omega) (by omega), s]
  · have := meet_at (n := n) h1' h2
    rw [Int.add_comm q r] at this
    exact this
theorem tm_fO2 {l r m q n : Int} (h : (tn2 l r m q && wyOk n && ovk n r q) = true) : (tn2 l r m q && wyOk n) = true ∧ (1 ≤ r ∧ r ≤ 100 ∧ 1 ≤ q ∧ q ≤ 100 ∧ 0 ≤ n ∧ n ≤ 100000) ∧ (q < r ∨ n = 0) ∧ (n = 0 → ovT n r q = 0 ∧ ovU n r q = 1 ∧ ovP n r q = 0 ∧ ovQ n r q = 1) ∧
      (q < r → ∃ nr, IntKind.i64.wrap (n * r) = nr ∧ (∀ w : World, Calls Try.prog 12 #[.int .i64 (ovT n r q), .int .i64 (ovU n r q), .int .i64 n, .int .i64 (r - q)] w fun e w' => e = .returned (.bool true) ∧ Below w.heap.size w w') ∧ (∀ w : World, Calls Try.prog 12 #[.int .i64 (ovP n r q), .int .i64 (ovQ n r q), .int .i64 nr, .int .i64 (r - q)] w fun e w' => e = .returned (.bool true) ∧ Below w.heap.size w w')) := by
  rw [Bool.and_eq_true] at h
  obtain ⟨h0, h3⟩ := h
  have h0' := h0
  rw [Bool.and_eq_true] at h0
  obtain ⟨h1, h2⟩ := h0
  have b := tn2_iff.1 h1
  have c := wyOk_iff.1 h2
  have o : q < r ∨ n = 0 := by unfold ovk at h3; rw [Bool.or_eq_true, decide_eq_true_eq, decide_eq_true_eq] at h3; exact h3
  have x1 := mul_bd n r 100000 100 (by omega) (by omega) (by omega) (by omega)
  refine ⟨h0', by omega, o, fun hn => ?_, fun hq => ⟨n * r, i64w (by omega) (by omega), ?_, ?_⟩⟩
  · unfold ovT ovU ovP ovQ; simp [hn]
  · by_cases hn : n = 0
    · subst hn
      intro w
      exact qIs_any 0 1 0 (r - q) lowQ_zero (by omega) (by omega) (by omega) (by omega) (by omega) w
    · unfold ovT ovU; rw [if_neg hn, if_neg hn]
      exact qis_lw (by omega) (by omega) (by omega) (by omega)
  · by_cases hn : n = 0
    · subst hn
      intro w
      have z : (0 : Int) * r = 0 := Int.zero_mul r
      rw [z]
      exact qIs_any 0 1 0 (r - q) lowQ_zero (by omega) (by omega) (by omega) (by omega) (by omega) w
    · unfold ovP ovQ; rw [if_neg hn, if_neg hn]
      exact qis_lw (by omega) (by omega) (by omega) (by omega)
theorem tm_fH {l r m q n : Int} (h : (tn2 l r m q && wyOk n && decide (l ≤ n)) = true) : (1 ≤ l ∧ l ≤ 1000 ∧ 1 ≤ r ∧ r ≤ 100 ∧ 1 ≤ q ∧ q ≤ 100 ∧ 0 ≤ n ∧ n ≤ 100000) ∧ ∃ PL PT X1 X2 X3 X4 X5 X6 X7 : Int, IntKind.i64.wrap (lwN (hwN l r m q n) (hwD l r m q n) * PT) = X1 ∧ IntKind.i64.wrap (PL * lwD (hwN l r m q n) (hwD l r m q n)) = X2 ∧ IntKind.i64.wrap (n * lwD (hwN l r m q n) (hwD l r m q n)) = X3 ∧ IntKind.i64.wrap (lwN (hwN l r m q n) (hwD l r m q n) * r) = X4 ∧ IntKind.i64.wrap (X3 - X4) = X3 - X4 ∧ IntKind.i64.wrap (q * (X3 - X4)) = X5 ∧ IntKind.i64.wrap ((n - l) * r) = X6 ∧ IntKind.i64.wrap (X6 * lwD (hwN l r m q n) (hwD l r m q n)) = X7 ∧
      ¬ X1 < X2 ∧ ¬ X7 < X5 ∧ (X2 < X1 → X5 = X7) ∧
      (∀ w : World, Calls Try.prog 13 #[.agg #[.int .i64 l, .int .i64 r]] w fun e w' => e = .returned (.tuple #[.int .i64 PL, .int .i64 PT, .bool true]) ∧ Below w.heap.size w w') ∧ (∀ w : World, Calls Try.prog 14 #[.int .i64 (lwN (hwN l r m q n) (hwD l r m q n)), .int .i64 (lwD (hwN l r m q n) (hwD l r m q n))] w fun e w' => e = .returned (.bool true) ∧ Below w.heap.size w w') := by
  rw [Bool.and_eq_true, Bool.and_eq_true, decide_eq_true_eq] at h
  obtain ⟨⟨h1, h2⟩, h3⟩ := h
  have b := tn2_iff.1 h1
  have c := wyOk_iff.1 h2
  have hb := hw_bd (l := l) (r := r) (m := m) (q := q) (y := n) (by omega) (by omega) (by omega) (by omega) (by omega) (by omega) (by omega) (by omega) h3
  have nH := lw_bdT (a := hwN l r m q n) (b := hwD l r m q n) (A := 10000000) (by omega) (by omega) (by omega)
  have dH := lwD_pos (a := hwN l r m q n) (b := hwD l r m q n) (by omega)
  have cH := lw_cross (a := hwN l r m q n) (b := hwD l r m q n) (by omega)
  have lq := lowQ_lw (a := hwN l r m q n) (b := hwD l r m q n) (by omega) (by omega)
  have nP := lw_bdT (a := l) (b := r) (A := 1000) (by omega) (by omega) (by omega)
  have dP := lwD_pos (a := l) (b := r) (by omega)
  have cP := lw_cross (a := l) (b := r) (by omega)
  have hPole : ∀ w : World, Calls Try.prog 13 #[.agg #[.int .i64 l, .int .i64 r]] w fun e w' => e = .returned (.tuple #[.int .i64 (lwN l r), .int .i64 (lwD l r), .bool true]) ∧ Below w.heap.size w w' := fun w => by
    have := implPolePassing l r w
    have ht : tnOk l r = true := tnOk_iff.2 b.1
    rw [ht] at this
    exact this
  have f := head_facts (m := m) (by omega) (by omega) (by omega) h3 dH.1 dP.1 cH cP
  generalize lwN (hwN l r m q n) (hwD l r m q n) = H at *
  generalize lwD (hwN l r m q n) (hwD l r m q n) = Y at *
  generalize lwN l r = P at *
  generalize lwD l r = T at *
  have y1 := mul_bd H T 10000000 100 (by omega) (by omega) (by omega) (by omega)
  have y2 := mul_bd P Y 1000 10000 (by omega) (by omega) (by omega) (by omega)
  have y3 := mul_bd n Y 100000 10000 (by omega) (by omega) (by omega) (by omega)
  have y4 := mul_bd H r 10000000 100 (by omega) (by omega) (by omega) (by omega)
  have y6 := mul_bd (n - l) r 100000 100 (by omega) (by omega) (by omega) (by omega)
  have y7 := mul_bd ((n - l) * r) Y (100000 * 100) 10000 (by omega) (by omega) (by omega) (by omega)
  have y5a := mul_bd q (n * Y) 100 (100000 * 10000) (by omega) (by omega) (by omega) (by omega)
  have y5b := mul_bd q (H * r) 100 (10000000 * 100) (by omega) (by omega) (by omega) (by omega)
  have e5 : q * (n * Y - H * r) = q * (n * Y) - q * (H * r) := Int.mul_sub _ _ _
  exact ⟨by omega, P, T, H * T, P * Y, n * Y, H * r, q * (n * Y - H * r), (n - l) * r, (n - l) * r * Y, i64w (by omega) (by omega), i64w (by omega) (by omega), i64w (by omega) (by omega), i64w (by omega) (by omega), i64w (by omega) (by omega), i64w (by omega) (by omega), i64w (by omega) (by omega), i64w (by omega) (by omega), f.1, f.2.1, f.2.2, hPole, qLow_any H Y lq (by omega) (by omega)⟩
theorem tm_fC {j e : Int} {g : Bool} (h : jyOk j e = true) : ∃ oth lst mx my P : Int, cmV j e g % 2 = 1 ∧ 1 ≤ cmV j e g ∧ cmV j e g ≤ 20001 ∧ (g = true → ¬ cmV j e g < oth ∧ ¬ 2 < cmV j e g - oth) ∧ (0 ≤ oth ∧ oth ≤ 20001) ∧ (∀ w : World, Calls Try.prog 16 #[.int .i64 j, .int .i64 e, .bool (!g)] w fun e w' => e = .returned (.tuple #[.int .i64 oth, .bool true]) ∧ Below w.heap.size w w') ∧ ((cmV j e g - 1) / 2 = lst ∧ lst ≤ 10000) ∧ (∀ w : World, Calls Try.prog 19 #[.int .i64 j, .int .i64 e, .int .i64 lst] w fun e w' => e = .returned (.tuple #[.int .i64 mx, .int .i64 my, .bool true]) ∧ Below w.heap.size w w') ∧ IntKind.i64.wrap (j * my) = P ∧ ¬ P < mx ∧ (g = false → ¬ mx = P) := by
  have b := jyOk_iff.1 h
  have o := odd_cm (g := g) h
  have o2 := odd_cm (g := !g) h
  have ot := other_cm h
  have la := last_cm (g := g) h
  have l0 : 0 ≤ e * ((cmV j e g - 1) / 2) := Int.mul_nonneg (by omega) la.1
  have mb := met_bd (j := j) (y := e * ((cmV j e g - 1) / 2)) (by omega) l0 la.2.1
  have dm := lwD_pos (a := j + e * ((cmV j e g - 1) / 2)) (b := 2) (by omega)
  have p := mul_bd j (lwD (j + e * ((cmV j e g - 1) / 2)) 2) 10000 2 (by omega) (by omega) (by omega) (by omega)
  refine ⟨cmV j e (!g), (cmV j e g - 1) / 2, lwN (j + e * ((cmV j e g - 1) / 2)) 2, lwD (j + e * ((cmV j e g - 1) / 2)) 2, j * lwD (j + e * ((cmV j e g - 1) / 2)) 2, o.1, o.2.1, o.2.2, fun hg => ?_, ⟨by omega, o2.2.2⟩, fun w => ?_, ⟨rfl, by omega⟩, fun w => ?_, i64w (by omega) (by omega), by omega, fun hg => mb.2 (la.2.2 hg)⟩
  · subst hg
    show ¬ cmV j e true < cmV j e false ∧ ¬ 2 < cmV j e true - cmV j e false
    omega
  · have := implCountTrainsMet j e (!g) w
    rw [h] at this
    exact this
  · have := implMetAt j e ((cmV j e g - 1) / 2) w
    rw [h, inB_true (by omega : (0 : Int) ≤ (cmV j e g - 1) / 2 ∧ (cmV j e g - 1) / 2 ≤ 10000), decide_eq_true la.2.1] at this
    exact this
theorem tm_fA {j e k : Int} (h : (jyOk j e && inB k 0 10000 && decide (e * k ≤ j)) = true) : ∃ Y1 Y2 : Int, IntKind.i64.wrap (e * k) = Y1 ∧ IntKind.i64.wrap (j + Y1) = Y2 ∧ (∀ w : World, Calls Try.prog 12 #[.int .i64 (lwN (j + e * k) 2), .int .i64 (lwD (j + e * k) 2), .int .i64 Y2, .int .i64 2] w fun e w' => e = .returned (.bool true) ∧ Below w.heap.size w w') := by
  rw [Bool.and_eq_true, Bool.and_eq_true, decide_eq_true_eq] at h
  obtain ⟨⟨h1, h2⟩, h3⟩ := h
  have b := jyOk_iff.1 h1
  have c := inB_iff.1 h2
  have l0 : 0 ≤ e * k := Int.mul_nonneg (by omega) (by omega)
  exact ⟨e * k, j + e * k, i64w (by omega) (by omega), i64w (by omega) (by omega), qis_lw (by omega) (by omega) (by omega) (by omega)⟩
theorem tmFacts1 (l r m q n : Int) : ∃ (A B C D I J K L H Y : Int) (ok one three : Bool), (∀ w : World, Calls Try.prog 6 #[.agg #[.int .i64 l, .int .i64 r], .agg #[.int .i64 m, .int .i64 q], .int .i64 n] w fun e w' => e = .returned (.tuple #[.int .i64 A, .int .i64 B, .int .i64 C, .int .i64 D, .bool ok]) ∧ Below w.heap.size w w') ∧
      (∀ w : World, Calls Try.prog 7 #[.agg #[.int .i64 l, .int .i64 r], .agg #[.int .i64 m, .int .i64 q], .int .i64 n] w fun e w' => e = .returned (.tuple #[.int .i64 A, .int .i64 B, .int .i64 C, .int .i64 D, .bool ok]) ∧ Below w.heap.size w w') ∧
      (∀ w : World, Calls Try.prog 8 #[.agg #[.int .i64 l, .int .i64 r], .agg #[.int .i64 m, .int .i64 q], .int .i64 n] w fun e w' => e = .returned (.tuple #[.int .i64 I, .int .i64 J, .int .i64 K, .int .i64 L, .bool one]) ∧ Below w.heap.size w w') ∧
      (∀ w : World, Calls Try.prog 9 #[.agg #[.int .i64 l, .int .i64 r], .agg #[.int .i64 m, .int .i64 q], .int .i64 n] w fun e w' => e = .returned (.tuple #[.int .i64 I, .int .i64 J, .int .i64 K, .int .i64 L, .bool one]) ∧ Below w.heap.size w w') ∧
      (∀ w : World, Calls Try.prog 10 #[.agg #[.int .i64 l, .int .i64 r], .agg #[.int .i64 m, .int .i64 q], .int .i64 n] w fun e w' => e = .returned (.tuple #[.int .i64 H, .int .i64 Y, .bool three]) ∧ Below w.heap.size w w') ∧
      (∀ w : World, Calls Try.prog 11 #[.agg #[.int .i64 l, .int .i64 r], .agg #[.int .i64 m, .int .i64 q], .int .i64 n] w fun e w' => e = .returned (.tuple #[.int .i64 H, .int .i64 Y, .bool three]) ∧ Below w.heap.size w w') ∧
      (ok = false → one = false ∧ three = false) ∧
      (ok = true → (1 ≤ r ∧ r ≤ 100 ∧ 1 ≤ q ∧ q ≤ 100 ∧ 0 ≤ n ∧ n ≤ 100000 ∧ 1 ≤ l ∧ l ≤ 1000) ∧ ∃ E F nr P1 P2 nD P3 : Int, IntKind.i64.wrap (n * r) = nr ∧ IntKind.i64.wrap (C * F) = P1 ∧ IntKind.i64.wrap (E * D) = P2 ∧ IntKind.i64.wrap (P1 + P2) = P3 ∧ IntKind.i64.wrap (n * D) = nD ∧ IntKind.i64.wrap (nD * F) = P3 ∧
      (∀ w : World, Calls Try.prog 6 #[.agg #[.int .i64 m, .int .i64 q], .agg #[.int .i64 l, .int .i64 r], .int .i64 n] w fun e w' => e = .returned (.tuple #[.int .i64 A, .int .i64 B, .int .i64 E, .int .i64 F, .bool true]) ∧ Below w.heap.size w w') ∧ (∀ w : World, Calls Try.prog 12 #[.int .i64 A, .int .i64 B, .int .i64 n, .int .i64 (r + q)] w fun e w' => e = .returned (.bool true) ∧ Below w.heap.size w w') ∧ (∀ w : World, Calls Try.prog 12 #[.int .i64 C, .int .i64 D, .int .i64 nr, .int .i64 (r + q)] w fun e w' => e = .returned (.bool true) ∧ Below w.heap.size w w')) ∧
      (one = false → ok = true → r ≤ q ∧ n ≠ 0) ∧
      (one = true → ok = true ∧ (1 ≤ r ∧ r ≤ 100 ∧ 1 ≤ q ∧ q ≤ 100 ∧ 0 ≤ n ∧ n ≤ 100000) ∧ (q < r ∨ n = 0) ∧ (n = 0 → I = 0 ∧ J = 1 ∧ K = 0 ∧ L = 1) ∧
      (q < r → ∃ nr, IntKind.i64.wrap (n * r) = nr ∧ (∀ w : World, Calls Try.prog 12 #[.int .i64 I, .int .i64 J, .int .i64 n, .int .i64 (r - q)] w fun e w' => e = .returned (.bool true) ∧ Below w.heap.size w w') ∧ (∀ w : World, Calls Try.prog 12 #[.int .i64 K, .int .i64 L, .int .i64 nr, .int .i64 (r - q)] w fun e w' => e = .returned (.bool true) ∧ Below w.heap.size w w'))) ∧
      (three = true → (1 ≤ l ∧ l ≤ 1000 ∧ 1 ≤ r ∧ r ≤ 100 ∧ 1 ≤ q ∧ q ≤ 100 ∧ 0 ≤ n ∧ n ≤ 100000) ∧ ∃ PL PT X1 X2 X3 X4 X5 X6 X7 : Int, IntKind.i64.wrap (H * PT) = X1 ∧ IntKind.i64.wrap (PL * Y) = X2 ∧ IntKind.i64.wrap (n * Y) = X3 ∧ IntKind.i64.wrap (H * r) = X4 ∧ IntKind.i64.wrap (X3 - X4) = X3 - X4 ∧ IntKind.i64.wrap (q * (X3 - X4)) = X5 ∧ IntKind.i64.wrap ((n - l) * r) = X6 ∧ IntKind.i64.wrap (X6 * Y) = X7 ∧
      ¬ X1 < X2 ∧ ¬ X7 < X5 ∧ (X2 < X1 → X5 = X7) ∧
      (∀ w : World, Calls Try.prog 13 #[.agg #[.int .i64 l, .int .i64 r]] w fun e w' => e = .returned (.tuple #[.int .i64 PL, .int .i64 PT, .bool true]) ∧ Below w.heap.size w w') ∧ (∀ w : World, Calls Try.prog 14 #[.int .i64 H, .int .i64 Y] w fun e w' => e = .returned (.bool true) ∧ Below w.heap.size w w')) := by
  refine ⟨_, _, _, _, _, _, _, _, _, _, _, _, _, fun w => implMeetAfter l r m q n w, fun w => specMeetAfter l r m q n w, fun w => implOvertakeAfter l r m q n w, fun w => specOvertakeAfter l r m q n w, fun w => implLeastHeadway l r m q n w, fun w => specLeastHeadway l r m q n w, fun h => ?_, fun h => ?_, fun h1 h => ?_, fun h => ?_, fun h => ?_⟩
  · rw [h]; exact ⟨rfl, rfl⟩
  · rw [h]; exact tm_fM h
  · rw [h] at h1
    have h2 : ovk n r q = false := h1
    unfold ovk at h2
    rw [Bool.or_eq_false_iff, decide_eq_false_iff_not, decide_eq_false_iff_not] at h2
    exact ⟨by omega, h2.2⟩
  · rw [h]; exact tm_fO2 h
  · rw [h]; exact tm_fH h
theorem tmFacts2 (j e : Int) (g : Bool) : ∃ (cnt : Int) (five : Bool), (∀ w : World, Calls Try.prog 16 #[.int .i64 j, .int .i64 e, .bool g] w fun e w' => e = .returned (.tuple #[.int .i64 cnt, .bool five]) ∧ Below w.heap.size w w') ∧
      (∀ w : World, Calls Try.prog 17 #[.int .i64 j, .int .i64 e, .bool g] w fun e w' => e = .returned (.tuple #[.int .i64 cnt, .bool five]) ∧ Below w.heap.size w w') ∧
      (five = true → ∃ oth lst mx my P : Int, cnt % 2 = 1 ∧ 1 ≤ cnt ∧ cnt ≤ 20001 ∧ (g = true → ¬ cnt < oth ∧ ¬ 2 < cnt - oth) ∧ (0 ≤ oth ∧ oth ≤ 20001) ∧ (∀ w : World, Calls Try.prog 16 #[.int .i64 j, .int .i64 e, .bool (!g)] w fun e w' => e = .returned (.tuple #[.int .i64 oth, .bool true]) ∧ Below w.heap.size w w') ∧ ((cnt - 1) / 2 = lst ∧ lst ≤ 10000) ∧ (∀ w : World, Calls Try.prog 19 #[.int .i64 j, .int .i64 e, .int .i64 lst] w fun e w' => e = .returned (.tuple #[.int .i64 mx, .int .i64 my, .bool true]) ∧ Below w.heap.size w w') ∧ IntKind.i64.wrap (j * my) = P ∧ ¬ P < mx ∧ (g = false → ¬ mx = P)) := by
  refine ⟨_, _, fun w => implCountTrainsMet j e g w, fun w => specCountTrainsMet j e g w, fun h => ?_⟩
  rw [h]; exact tm_fC h
theorem tmFacts3 (lo of lf : Int) : ∃ (num den : Int) (seven : Bool), (∀ w : World, Calls Try.prog 19 #[.int .i64 lo, .int .i64 of, .int .i64 lf] w fun e w' => e = .returned (.tuple #[.int .i64 num, .int .i64 den, .bool seven]) ∧ Below w.heap.size w w') ∧
      (∀ w : World, Calls Try.prog 20 #[.int .i64 lo, .int .i64 of, .int .i64 lf] w fun e w' => e = .returned (.tuple #[.int .i64 num, .int .i64 den, .bool seven]) ∧ Below w.heap.size w w') ∧
      (seven = true → ∃ Y1 Y2 : Int, IntKind.i64.wrap (of * lf) = Y1 ∧ IntKind.i64.wrap (lo + Y1) = Y2 ∧ (∀ w : World, Calls Try.prog 12 #[.int .i64 num, .int .i64 den, .int .i64 Y2, .int .i64 2] w fun e w' => e = .returned (.bool true) ∧ Below w.heap.size w w')) := by
  refine ⟨_, _, _, fun w => implMetAt lo of lf w, fun w => specMetAt lo of lf w, fun h => ?_⟩
  rw [h]; exact tm_fA h
theorem tmFacts4 (a0 : Option Addr) (cap0 : Nat) (xs : List (Int × Int)) (sd : Int) (hx : xs.length ≤ 1048576) : ∃ (R : List Int) (nine fits : Bool), R.length ≤ 1000 ∧ (∀ w, RdP w a0 xs → Calls Try.prog 22 #[.slice a0 xs.length cap0, .int .i64 sd] w (RetS w R nine)) ∧
      (∀ w, RdP w a0 xs → Calls Try.prog 23 #[.slice a0 xs.length cap0, .int .i64 sd] w fun e w' => ∃ a2 c2, e = .returned (.tuple #[.slice a2 R.length c2, .bool nine]) ∧ Own w' w.heap.size a2 c2 R ∧ Below w.heap.size w w') ∧
      (∀ w, RdP w a0 xs → Calls Try.prog 24 #[.slice a0 xs.length cap0, .int .i64 sd] w fun e w' => e = .returned (.tuple #[.bool fits, .bool nine]) ∧ Below w.heap.size w w') ∧
      (∀ w, RdP w a0 xs → Calls Try.prog 25 #[.slice a0 xs.length cap0, .int .i64 sd] w fun e w' => e = .returned (.tuple #[.bool fits, .bool nine]) ∧ Below w.heap.size w w') ∧
      (nine = true → ∃ SM : Nat → Int, TmS xs R sd fits SM) := by
  refine ⟨_, _, _, msR_len xs sd, fun w h => implMostInSiding a0 cap0 xs sd w h hx, fun w h => specMostInSiding a0 cap0 xs sd w h hx, fun w h => implFitsSiding a0 cap0 xs sd w h hx, fun w h => specFitsSiding a0 cap0 xs sd w h hx, fun h => ?_⟩
  rw [h, Bool.true_and]; exact ⟨_, tmS_of h⟩
end Go.Proofs.Ytolgpjlliaoneaa
