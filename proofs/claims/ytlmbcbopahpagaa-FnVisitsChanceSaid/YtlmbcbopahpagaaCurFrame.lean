/- A slice of bytes that comes in, opened. -/
import Derived.Test.YtlmbcbopahpagaaCurOne
import Derived.ChangeSlices
import Derived.WalkKit
namespace Go.Proofs.Ytlmbcbopahpagaa
open Go.RowKit Go.ChangeShapes Go.WideShapes
set_option linter.unusedVariables false
theorem rdY_of {w : World} {x : Addr} {n : Nat} {zs : List Int} (hn : n ≤ zs.length) (h1 : n ≤ 1048576) (hc : ∀ i, i < zs.length → w.cell? (x.add i) = some (.int .u8 (zs.getD i 0))) (hw : ∀ k ∈ zs, (Lit.int .u8 k).wf = true) : RdY w (some x) n := by
  refine ⟨h1, ?_⟩
  by_cases h0 : n = 0
  · exact .inl h0
  · have q0 := hc 0 (by omega)
    obtain ⟨b, off, spot⟩ := x
    have hspot : spot = none := by
      have := World.cell?_spot q0
      unfold Addr.add at this; simpa using this
    subst hspot
    have ea : ∀ k, (⟨b, off, none⟩ : Addr).add k = ⟨b, off + k, none⟩ := fun k => by unfold Addr.add; split <;> simp_all
    have hb : b < w.heap.size := by
      rcases Nat.lt_or_ge b w.heap.size with q | q
      · exact q
      · exfalso
        have e : w.heap[b]? = none := Array.getElem?_eq_none q
        rw [ea] at q0
        simp [World.cell?, e] at q0
    refine .inr ⟨b, off, rfl, hb, fun i hi => ?_⟩
    have h := hc i (by omega)
    rw [ea] at h
    have hm : zs.getD i 0 ∈ zs := by
      have : zs.getD i 0 = zs[i]'(by omega) := by simp [List.getD, show i < zs.length from by omega]
      rw [this]; exact List.getElem_mem _
    have hwf := hw _ hm
    generalize zs.getD i 0 = z at *
    have hz : 0 ≤ z ∧ z ≤ 255 := by simpa [Lit.wf, IntKind.min, IntKind.max, IntKind.bits, IntKind.signed] using hwf
    exact ⟨z, hz.1, hz.2, h⟩
end Go.Proofs.Ytlmbcbopahpagaa
