/- The draws of chapter 1, by contracts: they answer some numbers, some lists of few numbers; nothing that was there is turned. -/
import Derived.Test.YtlmbcbopahpagaaProg
import Derived.Test.YtlmbcbopahpagaaCur
import Derived.WalkKit
import Derived.WalkSpells
import Derived.WalkLawsBesides
import Derived.Lib.Hide
import Derived.Deep.LoopGhost
import Derived.Deep.QuietTactic
import Derived.Laws.AppendOwn
import Derived.BigQuiet
namespace Go.Proofs.Ytlmbcbopahpagaa
open Go.RowKit
set_option linter.unusedVariables false
set_option linter.unusedSimpArgs false
/-- a block that holds two numbers and may be written -/
def BxF (w : World) (b : Nat) (x y : Int) : Prop := b < w.heap.size ∧ w.cell? ⟨b, 0, none⟩ = some (.int .i64 x) ∧ w.cell? ⟨b, 1, none⟩ = some (.int .i64 y) ∧ ∀ o, w.frozen? ⟨b, o, none⟩ = false
theorem BxF.grown {w w' : World} {b : Nat} {x y : Int} {r : Option Nat} (h : BxF w b x y) (hg : w.grownBy w' r) (hr : some b ≠ r) : BxF w' b x y := by
  obtain ⟨h1, h2, h3, h4⟩ := h
  exact ⟨Nat.lt_of_lt_of_le h1 hg.size, hg.cell h2 hr, hg.cell h3 hr, fun o => by rw [hg.frozen_far _ h1 hr]; exact h4 o⟩
theorem BxF.made (w : World) (x y : Int) (e : TypeId) : BxF (w.alloc (.cells #[.int .i64 x, .int .i64 y] e)) w.heap.size x y := ⟨by simp, by go_simp, by go_simp, fun o => by go_simp⟩
theorem set2G (w : World) (b : Nat) (u v : Value) : w.grownBy ((w.setCell ⟨b, 0, none⟩ u).setCell ⟨b, 1, none⟩ v) (some b) := grown_trans (grown_set _ _ _) (grown_set _ _ _)
theorem slice_form {w : World} {base e size n : Nat} {v : Value} {xs : List Value} (h : w.ownsRow base e size v n xs) : ∃ a c, v = .slice a n c := by
  rcases h.2 with ⟨rfl, rfl⟩ | ⟨g, cap, cur, rfl, _⟩
  · exact ⟨none, 0, rfl⟩
  · exact ⟨_, _, rfl⟩
theorem Own.lowC {w : World} {base base' : Nat} {a : Option Addr} {cap : Nat} {xs : List Int} (h : Own w base a cap xs) (hb : base' ≤ base) : Own w base' a cap xs := by
  obtain ⟨hl, h⟩ := h
  refine ⟨hl, ?_⟩
  rcases h with h | ⟨g, c, cur, e, h1, h2⟩
  · exact .inl h
  · exact .inr ⟨g, c, cur, e, Nat.le_trans hb h1, h2⟩
/-- n bytes can be read at a -/
def RdY (w : World) (a : Option Addr) (n : Nat) : Prop :=
  n ≤ 1048576 ∧ (n = 0 ∨ ∃ b off, a = some ⟨b, off, none⟩ ∧ b < w.heap.size ∧ ∀ i, i < n → ∃ x : Int, 0 ≤ x ∧ x ≤ 255 ∧ w.cell? ⟨b, off + i, none⟩ = some (.int .u8 x))
theorem RdY.below {w w' : World} {a : Option Addr} {n : Nat} (h : RdY w a n) (hb : Below w.heap.size w w') : RdY w' a n := by
  refine ⟨h.1, ?_⟩
  rcases h.2 with h | ⟨b, off, h1, h2, h4⟩
  · exact .inl h
  · refine .inr ⟨b, off, h1, Nat.lt_of_lt_of_le h2 hb.size, fun i hi => ?_⟩
    obtain ⟨x, x1, x2, x3⟩ := h4 i hi
    exact ⟨x, x1, x2, by rw [(bcell hb).1 b _ h2]; exact x3⟩
theorem RdY.cu {w : World} {a : Option Addr} {n : Nat} (h : RdY w a n) (cap : Nat) (e : TypeId) : Cu w.heap.size a n cap 0 (w.alloc (.cells #[.slice a n cap, .int .i64 0, .int .u64 0] e)) := by
  refine ⟨?_, h.1, 0, 0, by omega, by omega, by omega, by omega, by simp, by go_simp, by go_simp, by go_simp, fun o => by go_simp⟩
  rcases h.2 with h | ⟨b, off, h1, h2, h4⟩
  · exact .inl h
  · refine .inr ⟨b, off, h1, h2, fun i hi => ?_⟩
    obtain ⟨x, x1, x2, x3⟩ := h4 i hi
    have hb : Below w.heap.size w (w.alloc (.cells #[.slice a n cap, .int .i64 0, .int .u64 0] e)) := ((Below.refl _ _).alloc (Nat.le_refl _) _)
    exact ⟨x, x1, x2, by rw [(bcell hb).1 b _ h2]; exact x3⟩
end Go.Proofs.Ytlmbcbopahpagaa
