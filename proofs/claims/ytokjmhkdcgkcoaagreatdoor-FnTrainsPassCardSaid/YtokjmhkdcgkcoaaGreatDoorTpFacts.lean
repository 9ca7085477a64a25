/- The facts of trains that pass that the named law asks for: plain numbers, and the contracts at them. -/
import Derived.Test.YtokjmhkdcgkcoaaGreatDoorTrnImpl
import Derived.Test.YtokjmhkdcgkcoaaGreatDoorTrnWalks
import Derived.Test.YtokjmhkdcgkcoaaGreatDoorTrnText
import Derived.Test.YtokjmhkdcgkcoaaGreatDoorTrnTextI
import Derived.Test.YtokjmhkdcgkcoaaGreatDoorParse2T
import Derived.Test.YtokjmhkdcgkcoaaGreatDoorTpMath
import Derived.Test.YtokjmhkdcgkcoaaGreatDoorQIs
namespace Go.Proofs.YtokjmhkdcgkcoaaGreatDoor
open Go.RowKit
set_option linter.unusedVariables false
set_option linter.unusedSimpArgs false
theorem lw_bdP {a b A : Int} (h0 : 0 ≤ a) (h1 : a ≤ A) (hb : 1 ≤ b) : 0 ≤ lwN a b ∧ lwN a b ≤ A :=
  ⟨(lowQ_lw h0 hb).1, (lwN_bd (B := A) (by omega) (by omega) h1).2⟩
theorem i64wP {x : Int} (h0 : -4611686018427387904 ≤ x) (h1 : x ≤ 4611686018427387904) : IntKind.i64.wrap x = x := IntWalk.i64_in _ (by omega)
theorem qis_lwP {a b : Int} (ha : 0 ≤ a) (hA : a ≤ 1000000000) (hb : 1 ≤ b) (hB : b ≤ 10000) : ∀ w : World, Calls Tryz.prog 17 #[.int .i64 (lwN a b), .int .i64 (lwD a b), .int .i64 a, .int .i64 b] w fun e w' => e = .returned (.bool true) ∧ Below w.heap.size w w' := fun w => by
  have n := lw_bdP (A := 1000000000) ha hA hb
  have d := lwD_pos (a := a) (b := b) (by omega)
  have p := mul_bd a (lwD a b) 1000000000 10000 ha hA (by omega) (by omega)
  exact qIs_any _ _ a b (lowQ_lw ha hb) (by omega) (by omega) (lw_cross (by omega)) (by omega) (by omega) w
/-- the text of a train and what is read back -/
theorem tpFactsG (l r : Int) : ∃ (T : ByteArray), (∀ w, Lib.TabIs Tryz.prog w "internal/strconv.uint64pow10" .u64 Lib.pow10Tab → Calls Tryz.prog 12 #[.agg #[.int .i64 l, .int .i64 r]] w fun e w' => e = .returned (.tuple #[.string T, .bool (tnOk l r)]) ∧ Below w.heap.size w w') ∧ (∀ w : World, Calls Tryz.prog 13 #[.agg #[.int .i64 l, .int .i64 r]] w fun e w' => e = .returned (.tuple #[.string T, .bool (tnOk l r)]) ∧ Below w.heap.size w w') ∧
    (tnOk l r = true → ∀ w, Env w → Calls Tryz.prog 16 #[.string T] w fun e w' => e = .returned (.tuple #[.agg #[.int .i64 l, .int .i64 r], .bool true]) ∧ Below w.heap.size w w') := by
  refine ⟨txt l r, fun w ht => implTrainText l r w ht, fun w => specTrainText l r w, fun ok w E => ?_⟩
  have t := tnOk_iff.1 ok
  obtain ⟨U, rfl⟩ := Int.eq_ofNat_of_zero_le (show 0 ≤ l by omega)
  obtain ⟨D, rfl⟩ := Int.eq_ofNat_of_zero_le (show 0 ≤ r by omega)
  have e : txt (U : Int) (D : Int) = ttx U D := by unfold txt; rw [if_pos ok]; simp
  rw [e]
  exact implParseTrain_yes U D ok w E
theorem tpFactsA (l r b : Int) : ∃ (num den pole dv inn und : Int) (ok one three : Bool),
    (∀ w : World, Calls Tryz.prog 6 #[.agg #[.int .i64 l, .int .i64 r], .int .i64 b] w fun e w' => e = .returned (.tuple #[.int .i64 num, .int .i64 den, .bool ok]) ∧ Below w.heap.size w w') ∧ (∀ w : World, Calls Tryz.prog 7 #[.agg #[.int .i64 l, .int .i64 r], .int .i64 b] w fun e w' => e = .returned (.tuple #[.int .i64 num, .int .i64 den, .bool ok]) ∧ Below w.heap.size w w') ∧
    (∀ w : World, Calls Tryz.prog 8 #[.agg #[.int .i64 l, .int .i64 r]] w fun e w' => e = .returned (.tuple #[.int .i64 pole, .int .i64 dv, .bool one]) ∧ Below w.heap.size w w') ∧ (∀ w : World, Calls Tryz.prog 9 #[.agg #[.int .i64 l, .int .i64 r]] w fun e w' => e = .returned (.tuple #[.int .i64 pole, .int .i64 dv, .bool one]) ∧ Below w.heap.size w w') ∧
    (∀ w : World, Calls Tryz.prog 10 #[.agg #[.int .i64 l, .int .i64 r], .int .i64 b] w fun e w' => e = .returned (.tuple #[.int .i64 inn, .int .i64 und, .bool three]) ∧ Below w.heap.size w w') ∧ (∀ w : World, Calls Tryz.prog 11 #[.agg #[.int .i64 l, .int .i64 r], .int .i64 b] w fun e w' => e = .returned (.tuple #[.int .i64 inn, .int .i64 und, .bool three]) ∧ Below w.heap.size w w') ∧
    (∀ w : World, Calls Tryz.prog 14 #[.agg #[.int .i64 l, .int .i64 r]] w fun e w' => e = .returned (.bool one) ∧ Below w.heap.size w w') ∧ (∀ w : World, Calls Tryz.prog 15 #[.agg #[.int .i64 l, .int .i64 r]] w fun e w' => e = .returned (.bool one) ∧ Below w.heap.size w w') ∧
    (ok = true → one = true) ∧ (three = true → ok = true ∧ l ≤ b) ∧ (ok = true → l ≤ b → three = true) ∧
    (one = true → (∀ w : World, Calls Tryz.prog 17 #[.int .i64 pole, .int .i64 dv, .int .i64 l, .int .i64 r] w fun e w' => e = .returned (.bool true) ∧ Below w.heap.size w w')) ∧
    (ok = true → ∃ X, IntKind.i64.wrap (l + b) = X ∧ (∀ w : World, Calls Tryz.prog 17 #[.int .i64 num, .int .i64 den, .int .i64 X, .int .i64 r] w fun e w' => e = .returned (.bool true) ∧ Below w.heap.size w w')) ∧
    (three = true → ∃ X, IntKind.i64.wrap (b - l) = X ∧ (∀ w : World, Calls Tryz.prog 17 #[.int .i64 inn, .int .i64 und, .int .i64 X, .int .i64 r] w fun e w' => e = .returned (.bool true) ∧ Below w.heap.size w w')) ∧
    (ok = true → 0 < b → dv = 1 → den = 1 → num ≤ 10000 → (∀ w : World, Calls Tryz.prog 18 #[.int .i64 b, .int .i64 pole, .int .i64 num] w fun e w' => e = .returned (.tuple #[.int .i64 l, .int .i64 1, .int .i64 r, .int .i64 1, .bool true]) ∧ Below w.heap.size w w')) ∧
    (∃ (T : ByteArray), (∀ w, Lib.TabIs Tryz.prog w "internal/strconv.uint64pow10" .u64 Lib.pow10Tab → Calls Tryz.prog 12 #[.agg #[.int .i64 l, .int .i64 r]] w fun e w' => e = .returned (.tuple #[.string T, .bool one]) ∧ Below w.heap.size w w') ∧ (∀ w : World, Calls Tryz.prog 13 #[.agg #[.int .i64 l, .int .i64 r]] w fun e w' => e = .returned (.tuple #[.string T, .bool one]) ∧ Below w.heap.size w w') ∧
    (one = true → ∀ w, Env w → Calls Tryz.prog 16 #[.string T] w fun e w' => e = .returned (.tuple #[.agg #[.int .i64 l, .int .i64 r], .bool true]) ∧ Below w.heap.size w w')) := by
  refine ⟨_, _, _, _, _, _, _, _, _, fun w => implBridgePassing l r b w, fun w => specBridgePassing l r b w, fun w => implPolePassing l r w, fun w => specPolePassing l r w, fun w => implInsideTunnel l r b w, fun w => specInsideTunnel l r b w, fun w => implIsTrain l r w, fun w => specIsTrain l r w, fun h => ?_, fun h => ?_, fun h hb => ?_, fun h => ?_, fun h => ?_, fun h => ?_, fun h hb => ?_, tpFactsG l r⟩
  · rw [Bool.and_eq_true] at h; exact h.1
  · rw [Bool.and_eq_true, decide_eq_true_eq] at h; exact h
  · rw [h, decide_eq_true hb]; rfl
  · rw [h]
    have t := tnOk_iff.1 h
    exact qis_lwP (by omega) (by omega) (by omega) (by omega)
  · rw [h]
    rw [Bool.and_eq_true] at h
    have t := tnOk_iff.1 h.1
    have c := wyOk_iff.1 h.2
    exact ⟨l + b, i64wP (by omega) (by omega), qis_lwP (by omega) (by omega) (by omega) (by omega)⟩
  · rw [h]
    rw [Bool.and_eq_true, Bool.and_eq_true, decide_eq_true_eq] at h
    have t := tnOk_iff.1 h.1.1
    have c := wyOk_iff.1 h.1.2
    exact ⟨b - l, i64wP (by omega) (by omega), qis_lwP (by omega) (by omega) (by omega) (by omega)⟩
  · have h' := h
    rw [Bool.and_eq_true] at h'
    have t := tnOk_iff.1 h'.1
    have c := wyOk_iff.1 h'.2
    rw [h, h'.1]
    intro d1 d2 hn w
    have d1' : lwD l r = 1 := d1
    have d2' : lwD (l + b) r = 1 := d2
    have hn' : lwN (l + b) r ≤ 10000 := hn
    have f := tp_back (l := l) (r := r) (b := b) (by omega) (by omega) hb d1' d2'
    have k := implTrainFromTimes b (lwN l r) (lwN (l + b) r) w
    rw [inB_true (by omega : (1 : Int) ≤ b ∧ b ≤ 100000), inB_true (by omega : (1 : Int) ≤ lwN l r ∧ lwN l r ≤ 10000), inB_true (by omega : (1 : Int) ≤ lwN (l + b) r ∧ lwN (l + b) r ≤ 10000), decide_eq_true f.2.1, f.2.2.2.1, f.2.2.2.2.1, f.2.2.2.2.2.1, f.2.2.2.2.2.2] at k
    exact k
theorem tpFactsB (l r m q : Int) : ∃ (x y p s : Int) (seven nine : Bool),
    (∀ w : World, Calls Tryz.prog 20 #[.agg #[.int .i64 l, .int .i64 r], .agg #[.int .i64 m, .int .i64 q]] w fun e w' => e = .returned (.tuple #[.int .i64 x, .int .i64 y, .bool seven]) ∧ Below w.heap.size w w') ∧ (∀ w : World, Calls Tryz.prog 21 #[.agg #[.int .i64 l, .int .i64 r], .agg #[.int .i64 m, .int .i64 q]] w fun e w' => e = .returned (.tuple #[.int .i64 x, .int .i64 y, .bool seven]) ∧ Below w.heap.size w w') ∧
    (∀ w : World, Calls Tryz.prog 22 #[.agg #[.int .i64 l, .int .i64 r], .agg #[.int .i64 m, .int .i64 q]] w fun e w' => e = .returned (.tuple #[.int .i64 p, .int .i64 s, .bool nine]) ∧ Below w.heap.size w w') ∧ (∀ w : World, Calls Tryz.prog 23 #[.agg #[.int .i64 l, .int .i64 r], .agg #[.int .i64 m, .int .i64 q]] w fun e w' => e = .returned (.tuple #[.int .i64 p, .int .i64 s, .bool nine]) ∧ Below w.heap.size w w') ∧
    (nine = true → seven = true ∧ q < r) ∧ (seven = true → q < r → nine = true) ∧
    (seven = true → ∃ X Y, IntKind.i64.wrap (l + m) = X ∧ IntKind.i64.wrap (r + q) = Y ∧ (∀ w : World, Calls Tryz.prog 17 #[.int .i64 x, .int .i64 y, .int .i64 X, .int .i64 Y] w fun e w' => e = .returned (.bool true) ∧ Below w.heap.size w w')) ∧
    (nine = true → ∃ X Y, IntKind.i64.wrap (l + m) = X ∧ IntKind.i64.wrap (r - q) = Y ∧ (∀ w : World, Calls Tryz.prog 17 #[.int .i64 p, .int .i64 s, .int .i64 X, .int .i64 Y] w fun e w' => e = .returned (.bool true) ∧ Below w.heap.size w w')) := by
  refine ⟨_, _, _, _, _, _, fun w => implPassEachOther l r m q w, fun w => specPassEachOther l r m q w, fun w => implPassOvertaking l r m q w, fun w => specPassOvertaking l r m q w, fun h => ?_, fun h hq => ?_, fun h => ?_, fun h => ?_⟩
  · rw [Bool.and_eq_true, decide_eq_true_eq] at h; exact h
  · rw [h, decide_eq_true hq]; rfl
  · rw [h]
    have t := tn2_iff.1 h
    exact ⟨l + m, r + q, i64wP (by omega) (by omega), i64wP (by omega) (by omega), qis_lwP (by omega) (by omega) (by omega) (by omega)⟩
  · rw [h]
    rw [Bool.and_eq_true, decide_eq_true_eq] at h
    have t := tn2_iff.1 h.1
    exact ⟨l + m, r - q, i64wP (by omega) (by omega), i64wP (by omega) (by omega), qis_lwP (by omega) (by omega) (by omega) (by omega)⟩
/-- AP: how fast the one goes by the other, as the law reckons it -/
theorem tpFactsC (l r m q : Int) (g : Bool) : ∃ (see per : Int) (ok : Bool),
    (∀ w : World, Calls Tryz.prog 25 #[.agg #[.int .i64 l, .int .i64 r], .agg #[.int .i64 m, .int .i64 q], .bool g] w fun e w' => e = .returned (.tuple #[.int .i64 see, .int .i64 per, .bool ok]) ∧ Below w.heap.size w w') ∧ (∀ w : World, Calls Tryz.prog 26 #[.agg #[.int .i64 l, .int .i64 r], .agg #[.int .i64 m, .int .i64 q], .bool g] w fun e w' => e = .returned (.tuple #[.int .i64 see, .int .i64 per, .bool ok]) ∧ Below w.heap.size w w') ∧
    (ok = true → (1 ≤ r ∧ r ≤ 100 ∧ 1 ≤ q ∧ q ≤ 100) ∧ (∀ w : World, Calls Tryz.prog 17 #[.int .i64 see, .int .i64 per, .int .i64 m, .int .i64 (if g then r + q else if r - q < 0 then -(r - q) else r - q)] w fun e w' => e = .returned (.bool true) ∧ Below w.heap.size w w')) := by
  refine ⟨_, _, _, fun w => implSeenFromTrain l r m q g w, fun w => specSeenFromTrain l r m q g w, fun h => ?_⟩
  rw [h]
  rw [Bool.and_eq_true, decide_eq_true_eq] at h
  have t := tn2_iff.1 h.1
  have b := trt_bd r q g (by omega) (by omega) (by omega) (by omega)
  rw [← trt_apart]
  exact ⟨by omega, qis_lwP (by omega) (by omega) h.2 (by omega)⟩
theorem tpFactsD (l r k : Int) (g : Bool) : ∃ (wk part : Int) (ok : Bool),
    (∀ w : World, Calls Tryz.prog 28 #[.agg #[.int .i64 l, .int .i64 r], .int .i64 k, .bool g] w fun e w' => e = .returned (.tuple #[.int .i64 wk, .int .i64 part, .bool ok]) ∧ Below w.heap.size w w') ∧ (∀ w : World, Calls Tryz.prog 29 #[.agg #[.int .i64 l, .int .i64 r], .int .i64 k, .bool g] w fun e w' => e = .returned (.tuple #[.int .i64 wk, .int .i64 part, .bool ok]) ∧ Below w.heap.size w w') ∧
    (ok = true → (1 ≤ r ∧ r ≤ 100 ∧ 1 ≤ k ∧ k ≤ 100) ∧ (∀ w : World, Calls Tryz.prog 17 #[.int .i64 wk, .int .i64 part, .int .i64 l, .int .i64 (if g then r + k else r - k)] w fun e w' => e = .returned (.bool true) ∧ Below w.heap.size w w')) := by
  refine ⟨_, _, _, fun w => implPassWalker l r k g w, fun w => specPassWalker l r k g w, fun h => ?_⟩
  rw [h]
  rw [Bool.and_eq_true, Bool.and_eq_true] at h
  have t := tnOk_iff.1 h.1.1
  have c := inB_iff.1 h.1.2
  have b := trt_bd r k g (by omega) (by omega) (by omega) (by omega)
  have p : 1 ≤ trt r k g := trt_pos r k g (by omega) (by omega) (by
    have h2 := h.2
    rw [Bool.or_eq_true, decide_eq_true_eq] at h2; exact h2)
  rw [← trt_walk h.2]
  exact ⟨by omega, qis_lwP (by omega) (by omega) p (by omega)⟩
theorem tpFactsE (f p y : Int) : ∃ (ln lb sp sb : Int) (ok : Bool),
    (∀ w : World, Calls Tryz.prog 18 #[.int .i64 f, .int .i64 p, .int .i64 y] w fun e w' => e = .returned (.tuple #[.int .i64 ln, .int .i64 lb, .int .i64 sp, .int .i64 sb, .bool ok]) ∧ Below w.heap.size w w') ∧ (∀ w : World, Calls Tryz.prog 31 #[.int .i64 f, .int .i64 p, .int .i64 y] w fun e w' => e = .returned (.tuple #[.int .i64 ln, .int .i64 lb, .int .i64 sp, .int .i64 sb, .bool ok]) ∧ Below w.heap.size w w') ∧
    (ok = true → ∃ X Y, IntKind.i64.wrap (f * p) = X ∧ IntKind.i64.wrap (y - p) = Y ∧ (∀ w : World, Calls Tryz.prog 17 #[.int .i64 ln, .int .i64 lb, .int .i64 X, .int .i64 Y] w fun e w' => e = .returned (.bool true) ∧ Below w.heap.size w w') ∧ (∀ w : World, Calls Tryz.prog 17 #[.int .i64 sp, .int .i64 sb, .int .i64 f, .int .i64 Y] w fun e w' => e = .returned (.bool true) ∧ Below w.heap.size w w')) := by
  refine ⟨_, _, _, _, _, fun w => implTrainFromTimes f p y w, fun w => specTrainFromTimes f p y w, fun h => ?_⟩
  rw [h]
  rw [Bool.and_eq_true, Bool.and_eq_true, Bool.and_eq_true, decide_eq_true_eq] at h
  obtain ⟨⟨⟨h1, h2⟩, h3⟩, h4⟩ := h
  have b1 := inB_iff.1 h1
  have b2 := inB_iff.1 h2
  have b3 := inB_iff.1 h3
  have m := mul_bd f p 100000 10000 (by omega) (by omega) (by omega) (by omega)
  exact ⟨f * p, y - p, i64wP (by omega) (by omega), i64wP (by omega) (by omega), qis_lwP (by omega) (by omega) (by omega) (by omega), qis_lwP (by omega) (by omega) (by omega) (by omega)⟩
/-- what is read is told again -/
theorem tpFactsF (t : ByteArray) (ht : t.size ≤ 1048576) : ∃ (u d : Int) (ok : Bool), (∀ w : World, Calls Tryz.prog 33 #[.string t] w fun e w' => e = .returned (.tuple #[.agg #[.int .i64 u, .int .i64 d], .bool ok]) ∧ Below w.heap.size w w') ∧ (∀ w, Env w → Calls Tryz.prog 16 #[.string t] w fun e w' => e = .returned (.tuple #[.agg #[.int .i64 u, .int .i64 d], .bool ok]) ∧ Below w.heap.size w w') ∧
    (ok = true → ∀ w, Lib.TabIs Tryz.prog w "internal/strconv.uint64pow10" .u64 Lib.pow10Tab → Calls Tryz.prog 12 #[.agg #[.int .i64 u, .int .i64 d]] w fun e w' => e = .returned (.tuple #[.string t, .bool true]) ∧ Below w.heap.size w w') := by
  by_cases h : ∃ U D : Nat, tnOk U D = true ∧ ttx U D = t
  · obtain ⟨U, D, ok, rfl⟩ := h
    refine ⟨U, D, true, fun w => specParseTrain_yes U D ok w, fun w E => implParseTrain_yes U D ok w E, fun _ w ht => ?_⟩
    have k := implTrainText U D w ht
    have e : txt (U : Int) (D : Int) = ttx U D := by unfold txt; rw [if_pos ok]; simp
    rw [e, ok] at k
    exact k
  · have h' : ∀ U D : Nat, tnOk U D = true → ttx U D ≠ t := fun U D ok e => h ⟨U, D, ok, e⟩
    exact ⟨0, 0, false, fun w => specParseTrain_no t ht h' w, fun w E => implParseTrain_no t ht h' w E, fun h => by cases h⟩
end Go.Proofs.YtokjmhkdcgkcoaaGreatDoor
