/- A slice of structs of two integers that comes in, opened: what it reads as. -/
import Derived.Test.YtillammehkgbmaaPairs0
import Derived.Deep.SlicePairs
import Derived.ChangeArms
namespace Go.Proofs.Ytillammehkgbmaa
open Go.RowKit Go.ChangeShapes Go.WideShapes
set_option linter.unusedVariables false
theorem rdP_of_cells {w : World} {x : Addr} {n : Nat} {xs : List (Int × Int)} (hn : xs.length = n) (hc : ∀ i, i < n → w.cell? (x.add (i * 2)) = some (.int .i64 (px xs i)) ∧ w.cell? (x.add (i * 2 + 1)) = some (.int .i64 (py xs i))) : RdP w (some x) xs := by
  by_cases h0 : n = 0
  · exact .inl (List.length_eq_zero_iff.1 (by omega))
  · have q0 := (hc 0 (by omega)).1
    obtain ⟨b, off, spot⟩ := x
    have hspot : spot = none := by
      have := World.cell?_spot q0
      unfold Addr.add at this; simpa using this
    subst hspot
    have hb : b < w.heap.size := by
      rcases Nat.lt_or_ge b w.heap.size with q | q
      · exact q
      · exfalso
        have e : w.heap[b]? = none := Array.getElem?_eq_none q
        have q1 : (Addr.add ⟨b, off, none⟩ (0 * 2)).block = b := by unfold Addr.add; split <;> rfl
        simp [World.cell?, q1, e] at q0
    have ea : ∀ k, (⟨b, off, none⟩ : Addr).add k = ⟨b, off + k, none⟩ := fun k => by unfold Addr.add; split <;> simp_all
    refine .inr ⟨b, off, rfl, hb, fun i hi => ?_⟩
    have := hc i (by omega)
    rw [ea, ea] at this
    rw [show off + i * 2 + 1 = off + (i * 2 + 1) from by omega]; exact this
theorem open_pairs_ints {H : Type} {enc : TypeId × Value → H} {P : Program} {w : World} {base : Nat} {spare : Nat → Bool} {held : Bool} {t e : TypeId} {f0 f1 : Field} {fuel : Nat} {b : Option Addr} {len cap : Nat} {x : DataW H × List MemPlace}
    (ht : P.underlying t = some (.slice e)) (he : P.underlying e = some (.struct #[f0, f1])) (ce : P.cellsOf e = 2) (o0 : f0.offset = 0) (o1 : f1.offset = 1) (c0 : P.cellsOf f0.type = 1) (c1 : P.cellsOf f1.type = 1)
    (u0 : P.underlying f0.type = some (.int .i64)) (u1 : P.underlying f1.type = some (.int .i64)) (h : DataW.trod enc P w base spare held fuel t [.slice b len cap] = some x) :
    ∃ xs : List (Int × Int), RdP w b xs ∧ xs.length ≤ maxLen ∧ xs.length = len := by
  rcases Go.Deep.open_slice_pairs ht he ce o0 o1 c0 c1 h with ⟨hcs, _⟩ | ⟨a, l, c, m, n, V0, V1, D0, D1, P0, P1, hcs, _, hl, hm, hmm, _, hi⟩
  · simp at hcs
    obtain ⟨rfl, rfl, rfl⟩ := hcs
    exact ⟨[], .inl rfl, by simp, rfl⟩
  · simp at hcs
    obtain ⟨rfl, rfl, rfl⟩ := hcs
    have hlm : len ≤ m := by rw [hmm]; split <;> omega
    have vals : ∀ i, i < len → V0 i = .int .i64 (intOf (V0 i)) ∧ V1 i = .int .i64 (intOf (V1 i)) := by
      intro i hi'
      obtain ⟨_, _, t0, t1⟩ := hi i (by omega)
      obtain ⟨a0, e0, _, _⟩ := DataW.trod_int u0 t0
      obtain ⟨a1, e1, _, _⟩ := DataW.trod_int u1 t1
      simp at e0 e1
      rw [e0, e1]; exact ⟨rfl, rfl⟩
    have hlen : ((List.range len).map fun i => (intOf (V0 i), intOf (V1 i))).length = len := by simp
    refine ⟨(List.range len).map fun i => (intOf (V0 i), intOf (V1 i)), rdP_of_cells hlen (fun i hi' => ?_), by rw [hlen]; omega, hlen⟩
    obtain ⟨k0, k1, _, _⟩ := hi i (by omega)
    obtain ⟨v0, v1⟩ := vals i hi'
    have p0 : px ((List.range len).map fun i => (intOf (V0 i), intOf (V1 i))) i = intOf (V0 i) := by simp [px, List.getD, hi']
    have p1 : py ((List.range len).map fun i => (intOf (V0 i), intOf (V1 i))) i = intOf (V1 i) := by simp [py, List.getD, hi']
    rw [p0, p1, ← v0, ← v1]
    exact ⟨k0, k1⟩
end Go.Proofs.Ytillammehkgbmaa
