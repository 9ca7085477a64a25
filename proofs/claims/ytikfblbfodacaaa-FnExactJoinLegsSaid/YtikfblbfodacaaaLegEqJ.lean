/- Two arrays of five legs, compared. -/
import Derived.Test.YtikfblbfodacaaaLegJoB
import Derived.ChangeKeysEq
import Derived.Laws.StructEq
import Derived.KernelRfl
namespace Go.Proofs.Ytikfblbfodacaaa
open Go.RowKit
set_option linter.unusedVariables false
set_option linter.unusedSimpArgs false
theorem partJ (v : Array Value) (o : Nat) (w : World) : (part 43 v o).run Try.prog w = .ok (.agg (v.extract o (o + 2))) w := by
  have z := Try.sizeOf43
  have g := Try.isAgg43
  unfold part
  simp only [Sem.run_bind]
  go_simp
theorem eqLegJ (a b c d : Int) (w : World) : (Op.equalIn 9999 43 (.agg #[.int .i64 a, .int .i64 b]) (.agg #[.int .i64 c, .int .i64 d])).run Try.prog w = .ok (a == c && b == d) w := by
  have u3 := Try.underlying3
  have a3 := Try.isAgg3
  have z3 := Try.sizeOf3
  have hS : Try.prog.underlying 43 = some (.struct (Try.prog.fieldsOf 43)) := by kernel_rfl
  rw [show (9999 : Nat) = 9998 + 1 from rfl, run_equalIn_agg w 9998 43 _ _ hS (by kernel_rfl)]
  simp only [Program.fieldsOf, Try.underlying43]
  go_simp
  by_cases h1 : a = c <;> by_cases h2 : b = d <;> simp [h1, h2]
theorem eqItem_step (xs ys : Array Value) (i : Nat) (is : List Nat) (a b c d : Int) (hx : xs.extract (i * 2) (i * 2 + 2) = #[.int .i64 a, .int .i64 b]) (hy : ys.extract (i * 2) (i * 2 + 2) = #[.int .i64 c, .int .i64 d]) (r : Bool) (w : World)
    (h : (Op.eqItems 9999 43 2 xs ys is).run Try.prog w = .ok r w) : (Op.eqItems 9999 43 2 xs ys (i :: is)).run Try.prog w = .ok ((a == c && b == d) && r) w := by
  simp only [Op.eqItems, Sem.run_bind, partJ, Result.andThen_ok, hx, hy, eqLegJ]
  cases (a == c && b == d)
  · simp
  · simpa using h
theorem eqJ (a0 a1 a2 a3 a4 a5 a6 a7 a8 a9 b0 b1 b2 b3 b4 b5 b6 b7 b8 b9 : Int) (w : World) :
    (Op.equalIn 10000 47 (.agg #[.int .i64 a0, .int .i64 a1, .int .i64 a2, .int .i64 a3, .int .i64 a4, .int .i64 a5, .int .i64 a6, .int .i64 a7, .int .i64 a8, .int .i64 a9]) (.agg #[.int .i64 b0, .int .i64 b1, .int .i64 b2, .int .i64 b3, .int .i64 b4, .int .i64 b5, .int .i64 b6, .int .i64 b7, .int .i64 b8, .int .i64 b9])).run Try.prog w = .ok ((a0 == b0 && a1 == b1) && ((a2 == b2 && a3 == b3) && ((a4 == b4 && a5 == b5) && ((a6 == b6 && a7 == b7) && ((a8 == b8 && a9 == b9) && true))))) w := by
  have hc : Try.prog.cellsOf 43 = 2 := by kernel_rfl
  obtain ⟨i, hi⟩ := info_of_underlying (P := Try.prog) Try.underlying43
  rw [show (10000 : Nat) = 9999 + 1 from rfl, run_equalIn_array w 9999 (n := 5) (e := 43) _ _ (by kernel_rfl) hi, hc]
  rw [show List.range 5 = [0, 1, 2, 3, 4] from rfl]
  exact eqItem_step _ _ 0 _ _ _ _ _ rfl rfl _ w (eqItem_step _ _ 1 _ _ _ _ _ rfl rfl _ w (eqItem_step _ _ 2 _ _ _ _ _ rfl rfl _ w (eqItem_step _ _ 3 _ _ _ _ _ rfl rfl _ w (eqItem_step _ _ 4 _ _ _ _ _ rfl rfl _ w (by simp [Op.eqItems])))))
theorem eqJ_no (a0 a1 a2 a3 a4 a5 a6 a7 a8 a9 b0 b1 b2 b3 b4 b5 b6 b7 b8 b9 : Int) (h : (a1 == b1) = false ∨ (a3 == b3) = false ∨ (a5 == b5) = false ∨ (a7 == b7) = false ∨ (a9 == b9) = false) (w : World) :
    (Op.equalIn 10000 47 (.agg #[.int .i64 a0, .int .i64 a1, .int .i64 a2, .int .i64 a3, .int .i64 a4, .int .i64 a5, .int .i64 a6, .int .i64 a7, .int .i64 a8, .int .i64 a9]) (.agg #[.int .i64 b0, .int .i64 b1, .int .i64 b2, .int .i64 b3, .int .i64 b4, .int .i64 b5, .int .i64 b6, .int .i64 b7, .int .i64 b8, .int .i64 b9])).run Try.prog w = .ok false w := by
  rw [eqJ]
  congr 1
  rcases h with h | h | h | h | h <;> rw [h] <;> simp
theorem eqJ_yes (a0 a1 a2 a3 a4 a5 a6 a7 a8 a9 : Int) (w : World) :
    (Op.equalIn 10000 47 (.agg #[.int .i64 a0, .int .i64 a1, .int .i64 a2, .int .i64 a3, .int .i64 a4, .int .i64 a5, .int .i64 a6, .int .i64 a7, .int .i64 a8, .int .i64 a9]) (.agg #[.int .i64 a0, .int .i64 a1, .int .i64 a2, .int .i64 a3, .int .i64 a4, .int .i64 a5, .int .i64 a6, .int .i64 a7, .int .i64 a8, .int .i64 a9])).run Try.prog w = .ok true w := by
  rw [eqJ]
  simp
theorem guardJ : Try.prog.eqGuardType Try.prog.depth 47 = false := by kernel_rfl
end Go.Proofs.Ytikfblbfodacaaa
