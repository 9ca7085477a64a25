/- A slice of structs of three integers that comes in, opened: what it reads as; a struct of one field by value; the laws' own copy of a puzzle. -/
import Derived.Test.YtpmnnfojmnmohaaDoorTri0
import Derived.Test.YtpmnnfojmnmohaaDoorTriC
import Derived.Deep.Slices
import Derived.Deep.Strs
import Derived.ChangeArms
import Derived.ChangeSame
import Derived.Lib.SmallJoins
import Derived.WalkKit
import Derived.Lib.Hide
namespace Go.Proofs.YtpmnnfojmnmohaaDoor
open Go.RowKit Go.ChangeShapes Go.WideShapes
set_option linter.unusedVariables false
set_option linter.unusedSimpArgs false
theorem rdT_of_cells {w : World} {x : Addr} {n : Nat} {xs : List (Int × Int × Int)} (hn : xs.length = n) (hc : ∀ i, i < n → w.cell? (x.add (i * 3)) = some (.int .i64 (tk xs i)) ∧ w.cell? (x.add (i * 3 + 1)) = some (.int .i64 (ta xs i)) ∧ w.cell? (x.add (i * 3 + 2)) = some (.int .i64 (tb xs i))) : RdC w (some x) xs := by
  by_cases h0 : n = 0
  · exact .inl (List.length_eq_zero_iff.1 (by omega))
  · have q0 := (hc 0 (by omega)).1
    obtain ⟨b, off, spot⟩ := x
    have hspot : spot = none := by
      have := World.cell?_spot q0
      unfold Addr.add at this; simpa using this
    subst hspot
    have hb : b < w.heap.size := by
      rcases Nat.lt_or_ge b w.heap.size with q | q
      · exact q
      · exfalso
        have e : w.heap[b]? = none := Array.getElem?_eq_none q
        have q1 : (Addr.add ⟨b, off, none⟩ (0 * 3)).block = b := by unfold Addr.add; split <;> rfl
        simp [World.cell?, q1, e] at q0
    have ea : ∀ k, (⟨b, off, none⟩ : Addr).add k = ⟨b, off + k, none⟩ := fun k => by unfold Addr.add; split <;> simp_all
    refine .inr ⟨b, off, rfl, hb, fun i hi => ?_⟩
    have := hc i (by omega)
    rw [ea, ea, ea] at this
    rw [show off + i * 3 + 1 = off + (i * 3 + 1) from by omega, show off + i * 3 + 2 = off + (i * 3 + 2) from by omega]; exact this
theorem open_triples_ints {H : Type} {enc : TypeId × Value → H} {P : Program} {w : World} {base : Nat} {spare : Nat → Bool} {held : Bool} {t e : TypeId} {f0 f1 f2 : Field} {fuel : Nat} {b : Option Addr} {len cap : Nat} {x : DataW H × List MemPlace}
    (ht : P.underlying t = some (.slice e)) (he : P.underlying e = some (.struct #[f0, f1, f2])) (ce : P.cellsOf e = 3) (o0 : f0.offset = 0) (o1 : f1.offset = 1) (o2 : f2.offset = 2) (c0 : P.cellsOf f0.type = 1) (c1 : P.cellsOf f1.type = 1) (c2 : P.cellsOf f2.type = 1)
    (u0 : P.underlying f0.type = some (.int .i64)) (u1 : P.underlying f1.type = some (.int .i64)) (u2 : P.underlying f2.type = some (.int .i64)) (h : DataW.trod enc P w base spare held fuel t [.slice b len cap] = some x) :
    ∃ xs : List (Int × Int × Int), RdC w b xs ∧ xs.length ≤ maxLen ∧ xs.length = len ∧ len ≤ cap := by
  rcases Go.Deep.open_slice ht h with ⟨hcs, _⟩ | ⟨a, l, c, m, n, D, Pl, hcs, _, hl, hm, hmm, _, hx⟩
  · simp at hcs
    obtain ⟨rfl, rfl, rfl⟩ := hcs
    exact ⟨[], .inl rfl, by simp, rfl, Nat.le_refl _⟩
  · simp at hcs
    obtain ⟨rfl, rfl, rfl⟩ := hcs
    have hlm : len ≤ m := by rw [hmm]; split <;> omega
    have each : ∀ i, i < len → ∃ q : Int × Int × Int, w.cell? (a.add (i * 3)) = some (.int .i64 q.1) ∧ w.cell? (a.add (i * 3 + 1)) = some (.int .i64 q.2.1) ∧ w.cell? (a.add (i * 3 + 2)) = some (.int .i64 q.2.2) := by
      intro i hi
      obtain ⟨cs', h1, h2⟩ := hx i (by omega)
      rw [ce] at h1
      obtain ⟨_, hlen, hcell⟩ := World.cells?_some h1
      obtain ⟨y0, y1, y2, k, _, _, g0, g1, g2⟩ := Go.Deep.trod_struct3 he h2
      match cs', hlen with
      | [v0, v1, v2], _ =>
        simp [o0, o1, o2, c0, c1, c2] at g0 g1 g2
        have e0 := hcell 0 (by omega)
        have e1 := hcell 1 (by omega)
        have e2 := hcell 2 (by omega)
        rw [Go.Deep.add_add] at e0 e1 e2
        obtain ⟨a0, q0, _, _⟩ := DataW.trod_int u0 g0
        obtain ⟨a1, q1, _, _⟩ := DataW.trod_int u1 g1
        obtain ⟨a2, q2, _, _⟩ := DataW.trod_int u2 g2
        simp at q0 q1 q2
        subst q0 q1 q2
        exact ⟨(a0, a1, a2), by simpa using e0, by simpa using e1, by simpa using e2⟩
    obtain ⟨q, hq⟩ := Go.Deep.choose_lt each
    have hlen : ((List.range len).map q).length = len := by simp
    refine ⟨(List.range len).map q, rdT_of_cells hlen (fun i hi => ?_), by rw [hlen]; omega, hlen, hl⟩
    have p : ∀ d, ((List.range len).map q).getD i d = q i := by intro d; simp [List.getD, hi]
    unfold tk ta tb
    rw [p]
    exact hq i hi
theorem open_triples_val {H : Type} {enc : TypeId × Value → H} {P : Program} {w : World} {base : Nat} {spare : Nat → Bool} {held : Bool} {t e : TypeId} {f0 f1 f2 : Field} {fuel : Nat} {v : Value} {x : DataW H × List MemPlace}
    (ht : P.underlying t = some (.slice e)) (he : P.underlying e = some (.struct #[f0, f1, f2])) (ce : P.cellsOf e = 3) (o0 : f0.offset = 0) (o1 : f1.offset = 1) (o2 : f2.offset = 2) (c0 : P.cellsOf f0.type = 1) (c1 : P.cellsOf f1.type = 1) (c2 : P.cellsOf f2.type = 1)
    (u0 : P.underlying f0.type = some (.int .i64)) (u1 : P.underlying f1.type = some (.int .i64)) (u2 : P.underlying f2.type = some (.int .i64)) (h : DataW.trod enc P w base spare held fuel t [v] = some x) :
    ∃ (b : Option Addr) (cap : Nat) (xs : List (Int × Int × Int)), v = .slice b xs.length cap ∧ RdC w b xs ∧ xs.length ≤ maxLen := by
  have hv : ∃ b l c, v = .slice b l c := by
    rcases Go.Deep.open_slice ht h with ⟨hcs, _⟩ | ⟨a, l, c, m, n, D, Pl, hcs, _⟩
    · exact ⟨none, 0, 0, by simpa using hcs⟩
    · exact ⟨some a, l, c, by simpa using hcs⟩
  obtain ⟨b, l, c, rfl⟩ := hv
  obtain ⟨xs, hr, hm, hl, _⟩ := open_triples_ints ht he ce o0 o1 o2 c0 c1 c2 u0 u1 u2 h
  subst hl
  exact ⟨b, c, xs, rfl, hr, hm⟩
theorem open_agg1 {H : Type} {enc : TypeId × Value → H} {P : Program} {w : World} {base : Nat} {spare : Nat → Bool} {held : Bool} {r : Reach} {b0 : Nat} {t : TypeId} {f0 : Field} {v : Value} {d : DataW H} {p : List MemPlace} (hs : P.underlying t = some (.struct #[f0])) (o0 : f0.offset = 0) (k0 : P.cellsOf f0.type = 1) (hC : P.cellsOf t = 1)
    (hv : Value.okWide P w r b0 t v) (h : DataW.Trod enc P w base spare held t v d p) :
    ∃ (v0 : Value) (y0 : DataW H × List MemPlace) (n : Nat), v = .agg #[v0] ∧ d = .agg [y0.1] ∧ p = y0.2 ∧ DataW.trod enc P w base spare held n f0.type [v0] = some y0 := by
  obtain ⟨cs, rfl, hsz⟩ := okWide_struct hs hv
  have hs1 : cs.size = 1 := hsz.trans hC
  obtain ⟨c0, rfl⟩ : ∃ c0, cs = #[c0] := by
    refine ⟨cs[0], Array.ext (by simp [hs1]) ?_⟩
    intro i h1 h2
    have hi : i = 0 := by omega
    subst hi
    rfl
  obtain ⟨fuel, hf⟩ := h
  obtain ⟨y0, n, hx, _, h0⟩ := trod_struct1 hs hf
  simp only [Prod.mk.injEq] at hx
  exact ⟨c0, y0, n, rfl, hx.1, hx.2, by simpa [Value.cells, o0, k0] using h0⟩
theorem toPuzzle_some (a : Option Addr) (cap : Nat) (xs : List (Int × Int × Int)) (w : World) (h : RdC w a xs) (hn : xs.length ≤ 1048576) :
    Calls Tryd.prog 7 #[.agg #[.slice a xs.length cap]] w fun e w' => ∃ A' : Addr, e = .returned (.agg #[.slice (some A') xs.length xs.length]) ∧ OwnC w' w.heap.size (some A') xs.length xs ∧ Below w.heap.size w w' := by
  go_enter Tryd.func7, Tryd.ntmps7
  go_wp2_with (first | (go_at_call 17; refine (toClueS_any a cap xs _ (h.below (by (repeat (first | assumption | exact Below.refl _ _ | refine Below.drew ?_ | refine below_drewN ?_ _ | refine Below.setCell ?_ (by first | omega | (simp; done) | (simp; omega)) _ | refine Below.alloc ?_ (by first | omega | (simp; done) | (simp; omega)) _ | refine bchain ?_ (by assumption) (by first | omega | (simp; done) | (simp; omega)))))) hn).mono ?_; rintro e w1 ⟨rfl, hO, hb⟩; have hs := hb.size; (try simp only [World.size_alloc] at hs); have hcA := fun o => (bcell hb).1 (w.heap.size + 1) o (by first | omega | (simp; done) | (simp; omega)); have hcB := fun o => (bcell hb).1 (w.heap.size + 1 + 1) o (by first | omega | (simp; done) | (simp; omega)); have hfA := fun o => (bcell hb).2 (w.heap.size + 1) o (by first | omega | (simp; done) | (simp; omega)); have hfB := fun o => (bcell hb).2 (w.heap.size + 1 + 1) o (by first | omega | (simp; done) | (simp; omega))))
  have z0 : w1.cell? ⟨w.heap.size + 1, 0, none⟩ = some (.slice none 0 0) := by rw [hcA]; go_simp
  refine bodyPost_ret (v := .agg #[.slice (some ⟨w.heap.size + 1 + 1 + 1, 0, none⟩) xs.length xs.length]) (by simp [results, Tryd.results7, go_sem, z0]) rfl ⟨_, rfl, ?_, ?_⟩
  · unfold OwnC at hO
    simp only [World.size_alloc] at hO
    refine row_low (row_setLow (row_setLow hO _ _ ?_) _ _ ?_) ?_
    all_goals first | omega | (simp; done) | (simp; omega)
  · (repeat (first | assumption | exact Below.refl _ _ | refine Below.drew ?_ | refine below_drewN ?_ _ | refine Below.setCell ?_ (by first | omega | (simp; done) | (simp; omega)) _ | refine Below.alloc ?_ (by first | omega | (simp; done) | (simp; omega)) _ | refine bchain ?_ (by assumption) (by first | omega | (simp; done) | (simp; omega))))
end Go.Proofs.YtpmnnfojmnmohaaDoor
