/- Visits kept in a map that the same call has made (chapter 8): what it reads as, key by key. -/
import Derived.Test.YtjfmmdblfhgelaaWinGuMath
import Derived.Maps.RangeWalk
import Derived.Maps.Ext
namespace Go.Proofs.Ytjfmmdblfhgelaa
open Go.RowKit
set_option linter.unusedVariables false
/-- how an element of two integers reads -/
def vD (x y : Int) : DataW Unit := .agg [.lit (.int .i64 x), .lit (.int .i64 y)]
def vE : Value → Option (DataW Unit × List MemPlace)
  | .agg cs => match cs.toList with
    | [.int .i64 x, .int .i64 y] => some (vD x y, [])
    | _ => none
  | _ => none
theorem vE_mk (x y : Int) : vE (.agg #[.int .i64 x, .int .i64 y]) = some (vD x y, []) := rfl
def mkV (p : Int × Int) : Value := .agg #[.int .i64 p.1, .int .i64 p.2]
theorem vE_inv (v : Value) (y : DataW Unit × List MemPlace) (h : vE v = some y) : ∃ p : Int × Int, v = mkV p := by
  cases v
  case agg cs =>
    simp only [vE] at h
    split at h
    · rename_i x y' e
      refine ⟨(x, y'), ?_⟩
      unfold mkV
      rw [← Array.toList_inj.1 (show cs.toList = (#[.int .i64 x, .int .i64 y'] : Array Value).toList from e)]
    · cases h
  all_goals (simp [vE] at h)
theorem vD_inj {x y u v : Int} (h : vD x y = vD u v) : x = u ∧ y = v := by
  unfold vD at h
  simp at h
  exact h
theorem key_inv {P : Program} {k : TypeId} (hk : P.underlying k = some (.int .i64)) (key : Value) (kl : Lit) (h : keyOf P k key = some kl) : ∃ x, key = Value.int .i64 x := by
  obtain ⟨x, rfl, _⟩ := Maps.keyOf_int_inv hk h
  exact ⟨x, rfl⟩
theorem key_wf {n : Nat} (h : n ≤ 6) : (Lit.int .i64 (n : Int)).wf = true := by
  simp [Lit.wf, IntKind.min, IntKind.max, IntKind.signed, IntKind.bits]; omega
/-- the map holds just the visits of U -/
def MV (xs : List (Int × Int)) (U : Nat → Bool) (D : DataW Unit) : Prop :=
  (∀ kl, Maps.has D kl = true → ∃ i : Nat, i < xs.length ∧ U i = true ∧ kl = .int .i64 (i : Int)) ∧ (∀ i : Nat, i < xs.length → U i = true → Maps.has D (.int .i64 (i : Int)) = true) ∧ ∀ i : Nat, i < xs.length → U i = true → ∀ z, D.atKey (.int .i64 (i : Int)) z = vD (px xs i) (py xs i)
theorem int_key_inj {i j : Nat} (h : (Lit.int .i64 (i : Int)) = .int .i64 (j : Int)) : i = j := by
  injection h with _ h2
  omega
theorem MV.empty (xs : List (Int × Int)) : MV xs (fun i => decide (i < 0)) (.map []) := by
  refine ⟨fun kl h => ?_, fun i _ h => ?_, fun i _ h => ?_⟩
  · simp [Maps.has] at h
  · simp at h
  · simp at h
theorem MV.put {xs : List (Int × Int)} {j : Nat} {D : DataW Unit} (h : MV xs (fun i => decide (i < j)) D) (hm : Maps.IsMap D) (hj : j < xs.length) : MV xs (fun i => decide (i < j + 1)) (D.put (.int .i64 (j : Int)) (vD (px xs j) (py xs j))) := by
  have hk : WideAt.IsKeyLit (.int .i64 (j : Int)) := trivial
  refine ⟨fun kl hkl => ?_, fun i hi hU => ?_, fun i hi hU z => ?_⟩
  · by_cases e : kl = .int .i64 (j : Int)
    · exact ⟨j, hj, by simp, e⟩
    · rw [Maps.has_put_other e] at hkl
      obtain ⟨i, a, b, c⟩ := h.1 kl hkl
      exact ⟨i, a, by simp at b ⊢; omega, c⟩
  · by_cases e : i = j
    · subst e; exact Maps.has_put_same hm hk _
    · rw [Maps.has_put_other (fun q => e (int_key_inj q))]
      exact h.2.1 i hi (by simp at hU ⊢; omega)
  · by_cases e : i = j
    · subst e; exact Maps.atKey_put_same hm hk _ _
    · rw [Maps.atKey_put_other (fun q => e (int_key_inj q))]
      exact h.2.2 i hi (by simp at hU ⊢; omega) z
theorem MV.del {xs : List (Int × Int)} {U : Nat → Bool} {D : DataW Unit} (h : MV xs U D) (j : Nat) : MV xs (fun i => U i && !decide (i = j)) (D.del (.int .i64 (j : Int))) := by
  refine ⟨fun kl hkl => ?_, fun i hi hU => ?_, fun i hi hU z => ?_⟩
  · by_cases e : kl = .int .i64 (j : Int)
    · subst e; rw [Maps.has_del_same] at hkl; cases hkl
    · rw [Maps.has_del_other e] at hkl
      obtain ⟨i, a, b, c⟩ := h.1 kl hkl
      refine ⟨i, a, ?_, c⟩
      have : ¬ i = j := fun q => e (by rw [c, q])
      simp [b, this]
  · simp at hU
    rw [Maps.has_del_other (fun q => hU.2 (int_key_inj q))]
    exact h.2.1 i hi hU.1
  · simp at hU
    rw [Maps.atKey_del_other (fun q => hU.2 (int_key_inj q))]
    exact h.2.2 i hi hU.1 z
theorem MV.ext {xs : List (Int × Int)} {U V : Nat → Bool} {D : DataW Unit} (h : MV xs U D) (e : ∀ i, i < xs.length → U i = V i) : MV xs V D :=
  ⟨fun kl hkl => by obtain ⟨i, a, b, c⟩ := h.1 kl hkl; exact ⟨i, a, by rw [← e i a]; exact b, c⟩, fun i hi hV => h.2.1 i hi (by rw [e i hi]; exact hV), fun i hi hV => h.2.2 i hi (by rw [e i hi]; exact hV)⟩
/-- what comes out of the map is a visit that is kept -/
theorem MV.come {xs : List (Int × Int)} {U : Nat → Bool} {D : DataW Unit} (h : MV xs U D) {x c d : Int} (hat : ∀ zd, D.atKey (.int .i64 x) zd = vD c d) : ∃ i : Nat, i < xs.length ∧ U i = true ∧ x = (i : Int) ∧ c = px xs i ∧ d = py xs i := by
  obtain ⟨i, a, b, e⟩ := h.1 _ (Maps.has_true_of_atKey hat)
  injection e with _ e2
  subst e2
  have q := h.2.2 i a b .nil
  rw [hat] at q
  obtain ⟨q1, q2⟩ := vD_inj q
  exact ⟨i, a, b, rfl, q1, q2⟩
/-- some are kept just if the map is not empty -/
theorem MV.size {xs : List (Int × Int)} {U : Nat → Bool} {D : DataW Unit} (h : MV xs U D) (hm : ∃ es, D = .map es ∧ ∀ p ∈ es, WideAt.IsKeyLit p.1) : (Maps.size D = 0 → ∀ i, i < xs.length → U i = false) ∧ (0 < Maps.size D → ∃ i, i < xs.length ∧ U i = true) := by
  obtain ⟨es, rfl, hkey⟩ := hm
  constructor
  · intro e i hi
    cases hU : U i
    · rfl
    · have := h.2.1 i hi hU
      rw [Maps.size_eq] at e
      have e2 : es = [] := List.eq_nil_of_length_eq_zero e
      subst e2
      simp [Maps.has] at this
  · intro e
    rw [Maps.size_eq] at e
    cases es with
    | nil => simp at e
    | cons p es =>
      have q := hkey p (by simp)
      obtain ⟨i, a, b, _⟩ := h.1 p.1 (by rw [Maps.has_eq]; simp [WideAt.sameKey_self q])
      exact ⟨i, a, b⟩
theorem ranges_below {P : Program} {k : TypeId} {R : Value → Option (DataW Unit × List MemPlace)} {b r n : Nat} {D : DataW Unit} {left : Lit → Bool} {cnt : Nat} {w w' : World} (h : w.ranges P k R b r n D left cnt) (hb : Below w.heap.size w w') : w'.ranges P k R b r n D left cnt :=
  h.kept (row := none) ⟨hb.os, hb.tape, hb.output, hb.size, fun i hi _ => hb.block i hi⟩ (by simp) (by simp)
theorem ownsMap_below {P : Program} {k : TypeId} {R : Value → Option (DataW Unit × List MemPlace)} {b n : Nat} {D : DataW Unit} {w w' : World} (h : w.ownsMap P k R b n D) (hb : Below w.heap.size w w') : w'.ownsMap P k R b n D :=
  h.kept (row := none) ⟨hb.os, hb.tape, hb.output, hb.size, fun i hi _ => hb.block i hi⟩ (by simp)
theorem keyedI : Maps.Keyed Try.prog 3 := Maps.int_keyed Try.underlying3
end Go.Proofs.Ytjfmmdblfhgelaa
