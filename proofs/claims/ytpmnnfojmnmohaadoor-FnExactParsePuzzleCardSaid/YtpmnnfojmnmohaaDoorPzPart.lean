/- append to a slice that came in with no room behind it. -/
import Derived.Test.YtpmnnfojmnmohaaDoorPzApp
import Derived.Test.YtpmnnfojmnmohaaDoorTri0
import Derived.Deep.AppendSrc
import Derived.Deep.RegionLaw
import Derived.WalkKit
namespace Go.Proofs.YtpmnnfojmnmohaaDoor
open Go.RowKit
set_option linter.unusedVariables false
theorem rd_of_newsT {w : World} {b off : Nat} {xs : List (Int × Int × Int)} (hlt : b < w.heap.size) (h : ∀ (j : Nat) (u : Value), (cs3 xs)[j]? = some u → w.cell? ((⟨b, off, none⟩ : Addr).add j) = some u) : RdC w (some ⟨b, off, none⟩) xs := by
  have ea : ∀ j, (⟨b, off, none⟩ : Addr).add j = ⟨b, off + j, none⟩ := fun j => by unfold Addr.add; split <;> simp_all
  refine .inr ⟨b, off, rfl, hlt, fun i hi => ⟨?_, ?_, ?_⟩⟩
  · have := h _ _ (tk_get hi); rwa [ea] at this
  · have := h _ _ (ta_get hi); rwa [ea, ← Nat.add_assoc] at this
  · have := h _ _ (tb_get hi); rwa [ea, ← Nat.add_assoc] at this
section
variable {P : Program} (w : World)
theorem run_append_part (t ty e : TypeId) (i : TypeInfo) (z : Value) (size bytes : Nat) (ht : P.underlying t = some (.slice e)) (hi : P.info? e = some i) (hz : i.zero = some z)
    (hsize : i.size = size) (hby : i.bytes = bytes) (hzs : z.cells.size = size)
    (b off k : Nat) (olds : List Value) (hl0 : olds.length = k * size) (holds : ∀ j u, olds[j]? = some u → w.cell? ((⟨b, off, none⟩ : Addr).add j) = some u) (hlt : b < w.heap.size)
    (ad : Addr) (m c : Nat) (news : List Value) (hl : news.length = m * size) (hnews : ∀ j u, news[j]? = some u → w.cell? (ad.add j) = some u) (h1 : ∀ u ∈ news, u.oneCell' = true)
    (h63 : k + m ≤ maxLen) (hbytes : (k + m) * bytes ≤ 140737488355328) :
    ∃ b' off' c' w', (Builtin.append_ #[t, t] ty #[.slice (some ⟨b, off, none⟩) k k, .slice (some ad) m c]).run P w = .ok (.slice (some ⟨b', off', none⟩) (k + m) c') w' ∧
      (∀ j u, (olds ++ news)[j]? = some u → w'.cell? ((⟨b', off', none⟩ : Addr).add j) = some u) ∧ b' < w'.heap.size ∧ k + m ≤ c' ∧ Below w.heap.size w w' := by
  subst hsize
  subst hby
  by_cases hm : m = 0
  · subst hm
    have hn : news = [] := List.eq_nil_of_length_eq_zero (by simpa using hl)
    subst hn
    have hr := run_append_room_src (P := P) w t t ty e i ht hi b off k k (.slice (some ad) 0 c) 0 [] (Src.ofSlice (P := P) w ht ad 0 c [] (by simp) (fun j u hu => by simp at hu) (fun u hu => by cases hu)) (by omega) (fun j hj => by simp at hj) (fun j hj => by simp at hj)
    refine ⟨b, off, k, w, ?_, ?_, hlt, by omega, Below.refl _ _⟩
    · rw [hr]; rfl
    · intro j u hu; rw [List.append_nil] at hu; exact holds j u hu
  · have hr := run_append_grow (P := P) w t ty e i z ht hi hz ⟨b, off, none⟩ k k olds hl0 holds ad m c news hl hnews (by omega) (by simp only [maxLen] at h63; omega) (growslice_fits (by omega) hbytes)
    refine ⟨_, _, _, _, hr, ?_, by simp, grownCap_ge w (k + m) k e, ?_⟩
    · intro j u hu
      have ea : (⟨w.heap.size, 0, none⟩ : Addr).add j = ⟨w.heap.size, j, none⟩ := by unfold Addr.add; split <;> simp_all
      rw [ea]
      have hb := heap_alloc_new w.drew (.cells (olds.toArray ++ news.toArray ++ Builtin.zeroCells z.cells (grownCap w (k + m) k e - (k + m))) e)
      have hj : j < (olds ++ news).length := (List.getElem?_eq_some_iff.1 hu).1
      have := cell_of_row _ w.heap.size j _ e _ hb
      rw [this, Array.getElem?_append_left (by simpa using hj)]
      simpa using hu
    · exact Below.alloc ((Below.refl _ _).drew) (by simp) _
theorem step_append_part {ops : Array Oper} {o : Oper} {a : Act} {K : Act → World → Prop} {Q : Exit → Act → World → Prop} {E : Prop} (hgd : o.guard = none) (s x : Operand) (t : TypeId)
    (ho : o.op = .call { callee := .builtin .append, args := #[s, x], argTypes := #[t, t] })
    (e : TypeId) (i : TypeInfo) (z : Value) (size bytes : Nat) (ht : P.underlying t = some (.slice e)) (hi : P.info? e = some i) (hz : i.zero = some z)
    (hsize : i.size = size) (hby : i.bytes = bytes) (hzs : z.cells.size = size)
    (b off k : Nat) (hs : a.eval s = .slice (some ⟨b, off, none⟩) k k) (olds : List Value) (hl0 : olds.length = k * size) (holds : ∀ j u, olds[j]? = some u → w.cell? ((⟨b, off, none⟩ : Addr).add j) = some u) (hlt : b < w.heap.size)
    (ad : Addr) (m c : Nat) (hx : a.eval x = .slice (some ad) m c) (news : List Value) (hl : news.length = m * size) (hnews : ∀ j u, news[j]? = some u → w.cell? (ad.add j) = some u) (h1 : ∀ u ∈ news, u.oneCell' = true)
    (h63 : k + m ≤ maxLen) (hbytes : (k + m) * bytes ≤ 140737488355328) (N : Nat) (hN : k + m = N)
    (h : ∀ b' off' c' w', (∀ j u, (olds ++ news)[j]? = some u → w'.cell? ((⟨b', off', none⟩ : Addr).add j) = some u) → b' < w'.heap.size → N ≤ c' → Below w.heap.size w w' → K (a.put o.dst (.slice (some ⟨b', off', none⟩) N c')) w') :
    if Region.wanted o (yielded ops a.tmps) = true then Oper.wp P o a w K Q else E := by
  subst hN
  have hw : Region.wanted o (yielded ops a.tmps) = true := by simp [Region.wanted, hgd]
  rw [if_pos hw]
  obtain ⟨b', off', c', w', hr, h2, h3, h4, h5⟩ := run_append_part (P := P) w t o.type e i z size bytes ht hi hz hsize hby hzs b off k olds hl0 holds hlt ad m c news hl hnews h1 h63 hbytes
  unfold Oper.wp execOp
  simp only [ho, resolve, invoke, builtin, Sem.run_bind, Sem.run_pure, Result.andThen_ok, List.map_toArray, List.map_cons, List.map_nil, hs, hx, hr]
  exact h b' off' c' w' h2 h3 h4 h5
theorem step_append_grow {ops : Array Oper} {o : Oper} {a : Act} {K : Act → World → Prop} {Q : Exit → Act → World → Prop} {E : Prop} (hgd : o.guard = none) (s x : Operand) (t : TypeId)
    (ho : o.op = .call { callee := .builtin .append, args := #[s, x], argTypes := #[t, t] })
    (e : TypeId) (i : TypeInfo) (z : Value) (size bytes : Nat) (ht : P.underlying t = some (.slice e)) (hi : P.info? e = some i) (hz : i.zero = some z)
    (hsize : i.size = size) (hby : i.bytes = bytes) (hzs : z.cells.size = size)
    (A : Addr) (k : Nat) (hs : a.eval s = .slice (some A) k k) (olds : List Value) (hl0 : olds.length = k * size) (holds : ∀ j u, olds[j]? = some u → w.cell? (A.add j) = some u)
    (ad : Addr) (m c : Nat) (hm : 0 < m) (hx : a.eval x = .slice (some ad) m c) (news : List Value) (hl : news.length = m * size) (hnews : ∀ j u, news[j]? = some u → w.cell? (ad.add j) = some u)
    (h63 : k + m ≤ maxLen) (hbytes : (k + m) * bytes ≤ 140737488355328) (N : Nat) (hN : k + m = N)
    (h : ∀ b' off' c' w', (∀ j u, (olds ++ news)[j]? = some u → w'.cell? ((⟨b', off', none⟩ : Addr).add j) = some u) → b' < w'.heap.size → N ≤ c' → Below w.heap.size w w' → K (a.put o.dst (.slice (some ⟨b', off', none⟩) N c')) w') :
    if Region.wanted o (yielded ops a.tmps) = true then Oper.wp P o a w K Q else E := by
  subst hN
  subst hsize
  subst hby
  have hw : Region.wanted o (yielded ops a.tmps) = true := by simp [Region.wanted, hgd]
  rw [if_pos hw]
  have hr := run_append_grow (P := P) w t o.type e i z ht hi hz A k k olds hl0 holds ad m c news hl hnews (by omega) (by simp only [maxLen] at h63; omega) (growslice_fits (by omega) hbytes)
  unfold Oper.wp execOp
  simp only [ho, resolve, invoke, builtin, Sem.run_bind, Sem.run_pure, Result.andThen_ok, List.map_toArray, List.map_cons, List.map_nil, hs, hx, hr]
  refine h _ _ _ _ ?_ (by simp) (grownCap_ge w (k + m) k e) (Below.alloc ((Below.refl _ _).drew) (by simp) _)
  intro j u hu
  have ea : (⟨w.heap.size, 0, none⟩ : Addr).add j = ⟨w.heap.size, j, none⟩ := by unfold Addr.add; split <;> simp_all
  rw [ea]
  have hb := heap_alloc_new w.drew (.cells (olds.toArray ++ news.toArray ++ Builtin.zeroCells z.cells (grownCap w (k + m) k e - (k + m))) e)
  have hj : j < (olds ++ news).length := (List.getElem?_eq_some_iff.1 hu).1
  have := cell_of_row _ w.heap.size j _ e _ hb
  rw [this, Array.getElem?_append_left (by simpa using hj)]
  simpa using hu
end
end Go.Proofs.YtpmnnfojmnmohaaDoor
