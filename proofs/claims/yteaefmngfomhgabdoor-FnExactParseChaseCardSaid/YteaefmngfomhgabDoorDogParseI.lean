/- ParseChase: the model's and the program's, by contracts. -/
import Derived.Test.YteaefmngfomhgabDoorDogParse
import Derived.Test.YteaefmngfomhgabDoorTextOfC
import Derived.Test.YteaefmngfomhgabDoorParseOneC
import Derived.Test.YteaefmngfomhgabDoorReadWalks
import Derived.Test.YteaefmngfomhgabDoorWalksMath
import Derived.Test.YteaefmngfomhgabDoorParseEnv
import Derived.Deep.LoopGhost
import Derived.Deep.QuietTactic
import Derived.Deep.RegionHeld3
import Derived.BigQuiet
namespace Go.Proofs.YteaefmngfomhgabDoor
open Go.RowKit
set_option linter.unusedVariables false
set_option linter.unusedSimpArgs false
/-- the memory of parseChase in its loop -/
structure PRel (w : World) (pb : Nat) (p q r s : ByteArray) (n0 n1 n2 n3 : Int) (wr : World) : Prop where
  bel : Below w.heap.size w wr
  lt : pb < wr.heap.size
  hi : w.heap.size + 1 < wr.heap.size
  p0 : wr.cell? ⟨pb, 0, none⟩ = some (.string p)
  p1 : wr.cell? ⟨pb, 1, none⟩ = some (.string q)
  p2 : wr.cell? ⟨pb, 2, none⟩ = some (.string r)
  p3 : wr.cell? ⟨pb, 3, none⟩ = some (.string s)
  c0 : wr.cell? ⟨w.heap.size + 1, 0, none⟩ = some (.int .i64 n0)
  c1 : wr.cell? ⟨w.heap.size + 1, 1, none⟩ = some (.int .i64 n1)
  c2 : wr.cell? ⟨w.heap.size + 1, 2, none⟩ = some (.int .i64 n2)
  c3 : wr.cell? ⟨w.heap.size + 1, 3, none⟩ = some (.int .i64 n3)
  f0 : wr.frozen? ⟨w.heap.size + 1, 0, none⟩ = false
  f1 : wr.frozen? ⟨w.heap.size + 1, 1, none⟩ = false
  f2 : wr.frozen? ⟨w.heap.size + 1, 2, none⟩ = false
  f3 : wr.frozen? ⟨w.heap.size + 1, 3, none⟩ = false
  r0 : wr.cell? ⟨w.heap.size, 0, none⟩ = some (.int .i64 0)
  r1 : wr.cell? ⟨w.heap.size, 1, none⟩ = some (.int .i64 0)
  r2 : wr.cell? ⟨w.heap.size, 2, none⟩ = some (.int .i64 0)
  r3 : wr.cell? ⟨w.heap.size, 3, none⟩ = some (.int .i64 0)
  g0 : wr.frozen? ⟨w.heap.size, 0, none⟩ = false
  g1 : wr.frozen? ⟨w.heap.size, 1, none⟩ = false
  g2 : wr.frozen? ⟨w.heap.size, 2, none⟩ = false
  g3 : wr.frozen? ⟨w.heap.size, 3, none⟩ = false
theorem PRel.step {w : World} {pb : Nat} {p q r s : ByteArray} {n0 n1 n2 n3 : Int} {wr w2 : World} (h : PRel w pb p q r s n0 n1 n2 n3 wr) (hb : Below wr.heap.size wr w2) : PRel w pb p q r s n0 n1 n2 n3 w2 where
  bel := h.bel.trans (hb.mono h.bel.size)
  lt := Nat.lt_of_lt_of_le h.lt hb.size
  hi := Nat.lt_of_lt_of_le h.hi hb.size
  p0 := by rw [(bcell hb).1 pb 0 h.lt]; exact h.p0
  p1 := by rw [(bcell hb).1 pb 1 h.lt]; exact h.p1
  p2 := by rw [(bcell hb).1 pb 2 h.lt]; exact h.p2
  p3 := by rw [(bcell hb).1 pb 3 h.lt]; exact h.p3
  c0 := by rw [(bcell hb).1 (w.heap.size + 1) 0 (by have := h.hi; omega)]; exact h.c0
  c1 := by rw [(bcell hb).1 (w.heap.size + 1) 1 (by have := h.hi; omega)]; exact h.c1
  c2 := by rw [(bcell hb).1 (w.heap.size + 1) 2 (by have := h.hi; omega)]; exact h.c2
  c3 := by rw [(bcell hb).1 (w.heap.size + 1) 3 (by have := h.hi; omega)]; exact h.c3
  f0 := by rw [(bcell hb).2 (w.heap.size + 1) 0 (by have := h.hi; omega)]; exact h.f0
  f1 := by rw [(bcell hb).2 (w.heap.size + 1) 1 (by have := h.hi; omega)]; exact h.f1
  f2 := by rw [(bcell hb).2 (w.heap.size + 1) 2 (by have := h.hi; omega)]; exact h.f2
  f3 := by rw [(bcell hb).2 (w.heap.size + 1) 3 (by have := h.hi; omega)]; exact h.f3
  r0 := by rw [(bcell hb).1 w.heap.size 0 (by have := h.hi; omega)]; exact h.r0
  r1 := by rw [(bcell hb).1 w.heap.size 1 (by have := h.hi; omega)]; exact h.r1
  r2 := by rw [(bcell hb).1 w.heap.size 2 (by have := h.hi; omega)]; exact h.r2
  r3 := by rw [(bcell hb).1 w.heap.size 3 (by have := h.hi; omega)]; exact h.r3
  g0 := by rw [(bcell hb).2 w.heap.size 0 (by have := h.hi; omega)]; exact h.g0
  g1 := by rw [(bcell hb).2 w.heap.size 1 (by have := h.hi; omega)]; exact h.g1
  g2 := by rw [(bcell hb).2 w.heap.size 2 (by have := h.hi; omega)]; exact h.g2
  g3 := by rw [(bcell hb).2 w.heap.size 3 (by have := h.hi; omega)]; exact h.g3
theorem PRel.set0 {w : World} {pb : Nat} {p q r s : ByteArray} {n0 n1 n2 n3 : Int} {wr : World} (h : PRel w pb p q r s n0 n1 n2 n3 wr) (hne : ¬ pb = w.heap.size + 1) (x : Int) : PRel w pb p q r s x n1 n2 n3 (wr.setCell ⟨w.heap.size + 1, 0, none⟩ (.int .i64 x)) := by
  have a0 := h.lt
  have a1 := h.hi
  obtain ⟨bel, lt, hi, p0, p1, p2, p3, c0, c1, c2, c3, f0, f1, f2, f3, r0, r1, r2, r3, g0, g1, g2, g3⟩ := h
  have hne' : ¬ w.heap.size + 1 = pb := fun e => hne e.symm
  have hnw : ¬ w.heap.size + 1 = w.heap.size := by omega
  refine ⟨bel.setCell (by simp) _, by simpa using a0, by simpa using a1, ?_, ?_, ?_, ?_, ?_, ?_, ?_, ?_, ?_, ?_, ?_, ?_, ?_, ?_, ?_, ?_, ?_, ?_, ?_, ?_⟩ <;> go_simp
theorem PRel.set1 {w : World} {pb : Nat} {p q r s : ByteArray} {n0 n1 n2 n3 : Int} {wr : World} (h : PRel w pb p q r s n0 n1 n2 n3 wr) (hne : ¬ pb = w.heap.size + 1) (x : Int) : PRel w pb p q r s n0 x n2 n3 (wr.setCell ⟨w.heap.size + 1, 1, none⟩ (.int .i64 x)) := by
  have a0 := h.lt
  have a1 := h.hi
  obtain ⟨bel, lt, hi, p0, p1, p2, p3, c0, c1, c2, c3, f0, f1, f2, f3, r0, r1, r2, r3, g0, g1, g2, g3⟩ := h
  have hne' : ¬ w.heap.size + 1 = pb := fun e => hne e.symm
  have hnw : ¬ w.heap.size + 1 = w.heap.size := by omega
  refine ⟨bel.setCell (by simp) _, by simpa using a0, by simpa using a1, ?_, ?_, ?_, ?_, ?_, ?_, ?_, ?_, ?_, ?_, ?_, ?_, ?_, ?_, ?_, ?_, ?_, ?_, ?_, ?_⟩ <;> go_simp
theorem PRel.set2 {w : World} {pb : Nat} {p q r s : ByteArray} {n0 n1 n2 n3 : Int} {wr : World} (h : PRel w pb p q r s n0 n1 n2 n3 wr) (hne : ¬ pb = w.heap.size + 1) (x : Int) : PRel w pb p q r s n0 n1 x n3 (wr.setCell ⟨w.heap.size + 1, 2, none⟩ (.int .i64 x)) := by
  have a0 := h.lt
  have a1 := h.hi
  obtain ⟨bel, lt, hi, p0, p1, p2, p3, c0, c1, c2, c3, f0, f1, f2, f3, r0, r1, r2, r3, g0, g1, g2, g3⟩ := h
  have hne' : ¬ w.heap.size + 1 = pb := fun e => hne e.symm
  have hnw : ¬ w.heap.size + 1 = w.heap.size := by omega
  refine ⟨bel.setCell (by simp) _, by simpa using a0, by simpa using a1, ?_, ?_, ?_, ?_, ?_, ?_, ?_, ?_, ?_, ?_, ?_, ?_, ?_, ?_, ?_, ?_, ?_, ?_, ?_, ?_⟩ <;> go_simp
theorem PRel.set3 {w : World} {pb : Nat} {p q r s : ByteArray} {n0 n1 n2 n3 : Int} {wr : World} (h : PRel w pb p q r s n0 n1 n2 n3 wr) (hne : ¬ pb = w.heap.size + 1) (x : Int) : PRel w pb p q r s n0 n1 n2 x (wr.setCell ⟨w.heap.size + 1, 3, none⟩ (.int .i64 x)) := by
  have a0 := h.lt
  have a1 := h.hi
  obtain ⟨bel, lt, hi, p0, p1, p2, p3, c0, c1, c2, c3, f0, f1, f2, f3, r0, r1, r2, r3, g0, g1, g2, g3⟩ := h
  have hne' : ¬ w.heap.size + 1 = pb := fun e => hne e.symm
  have hnw : ¬ w.heap.size + 1 = w.heap.size := by omega
  refine ⟨bel.setCell (by simp) _, by simpa using a0, by simpa using a1, ?_, ?_, ?_, ?_, ?_, ?_, ?_, ?_, ?_, ?_, ?_, ?_, ?_, ?_, ?_, ?_, ?_, ?_, ?_, ?_⟩ <;> go_simp
theorem index_freeD {u : List UInt8} (h : (45 : UInt8) ∉ u) : Lib.index u [45] = -1 := by
  rw [Lib.index_one]
  induction u with
  | nil => rfl
  | cons x r ih =>
    have h1 : (x == 45) = false := by rw [beq_eq_false_iff_ne]; exact fun q => h (by rw [q]; simp)
    have := ih (fun q => h (by simp [q]))
    simp [Lib.indexByte, h1, this]
theorem splitK_jnD : ∀ (l : List (List UInt8)) (k : Nat), l ≠ [] → (∀ x ∈ l, (45 : UInt8) ∉ x) → l.length ≤ k + 1 → Lib.splitK [45] 0 k (jnc 45 l) = l
  | [], _, h, _, _ => absurd rfl h
  | [x], k, _, h, _ => by
    have hi := index_freeD (h x (by simp))
    cases k with
    | zero => rfl
    | succ k => simp only [jnc, Lib.splitK, hi]; rfl
  | x :: y :: r, k, _, h, hk => by
    obtain ⟨k, rfl⟩ : ∃ q, k = q + 1 := ⟨k - 1, by simp at hk; omega⟩
    have ih := splitK_jnD (y :: r) k (by simp) (fun z hz => h z (by simp [List.mem_cons] at hz ⊢; exact .inr hz)) (by simp at hk ⊢; omega)
    have hi : Lib.index (x ++ 45 :: jnc 45 (y :: r)) [45] = (x.length : Int) := by rw [Lib.index_one]; exact indexByte_here (h x (by simp))
    simp only [jnc, Lib.splitK, hi]
    have hm : (((x.length : Nat) : Int) == -1) = false := by rw [beq_eq_false_iff_ne]; omega
    rw [hm]
    have e1 : List.drop (x.length + 1) x = [] := List.drop_of_length_le (by omega)
    simp [List.drop_append, e1, ih]
theorem splitK_lenD : ∀ (k : Nat) (l p : List UInt8), p ∈ Lib.splitK [45] 0 k l → p.length ≤ l.length
  | 0, l, p, h => by simp [Lib.splitK] at h; rw [h]; exact Nat.le_refl _
  | k + 1, l, p, h => by
    unfold Lib.splitK at h
    split at h
    · simp at h; rw [h]; exact Nat.le_refl _
    · rcases List.mem_cons.1 h with h | h
      · rw [h, List.length_take]; omega
      · have := splitK_lenD k _ p h
        rw [List.length_drop] at this; omega
theorem rdT_cellsOfD {w : World} {b n : Nat} {ss : List ByteArray} {t : TypeId} {fr : Nat × Nat} (h : w.heap[b]? = some (.cells (Lib.cellsOf ss n) t fr)) : RdT w (some ⟨b, 0, none⟩) ss := by
  refine .inr ⟨b, 0, rfl, ?_, fun i hi => ?_⟩
  · rcases Nat.lt_or_ge b w.heap.size with q | q
    · exact q
    · rw [Array.getElem?_eq_none q] at h; cases h
  · rw [Nat.zero_add, cell_of_row w b i _ t fr h]
    unfold Lib.cellsOf
    simp [List.getElem?_append, hi, List.getD, List.getElem?_eq_getElem hi]
theorem splitn_dash (t : ByteArray) (ht : t.size ≤ 1048576) (w : World) (E : Env w) :
    Calls Tryd.prog 76 #[.string t, .string ⟨#[45]⟩, .int .i64 5] w fun e w' => ∃ (pb cap : Nat) (ss : List ByteArray), e = .returned (.slice (some ⟨pb, 0, none⟩) ss.length cap) ∧ w.heap.size ≤ pb ∧ pb < w'.heap.size ∧ RdT w' (some ⟨pb, 0, none⟩) ss ∧ Below w.heap.size w w' ∧ (∀ x ∈ ss, x.size ≤ t.size) ∧ (∀ A L R G : Nat, chOk A L R G = true → ctx A L R G = t → ss = cps A L R G) := by
  obtain ⟨m, hm⟩ := E.ml
  refine (Tryd.strings_SplitN t ⟨#[45]⟩ 5 m w (by omega) hm (by decide) (by omega) (by omega)).mono ?_
  rintro e w1 ⟨rfl, hw1⟩
  refine ⟨w.heap.size, _, _, rfl, Nat.le_refl _, by rw [hw1]; simp, ?_, by rw [hw1]; exact (Below.refl _ _).alloc (Nat.le_refl _) _, ?_, ?_⟩
  · refine rdT_cellsOfD (n := min 5 (t.size + 1)) (t := 9) (fr := (0, 0)) ?_
    rw [hw1]; exact Array.getElem?_push_size
  · intro x hx
    have hm : x.data.toList ∈ Lib.splitK [45] 0 (min 5 (t.size + 1) - 1) t.data.toList := by
      have e := Lib.splitB_data ⟨#[45]⟩ 0 (min 5 (t.size + 1) - 1) t
      have e3 : (⟨#[45]⟩ : ByteArray).data.toList = [45] := rfl
      rw [e3] at e
      rw [← e]
      exact List.mem_map_of_mem hx
    have := splitK_lenD _ _ _ hm
    have e2 : x.size = x.data.toList.length := by simp
    have e3 : t.size = t.data.toList.length := by simp
    omega
  · intro A L R G hok ht2
    have hd : ∀ n, (Lib.decDigits n).length ≠ 0 := fun n h => decDigits_ne n (List.length_eq_zero_iff.1 h)
    have hsz : 4 ≤ t.size := by
      have e3 : t.size = t.data.toList.length := by simp
      rw [e3, ← ht2, ctx_list]
      have := hd A; have := hd L; have := hd R; have := hd G
      simp only [List.length_append, List.length_cons]; omega
    apply ba_ext
    rw [Lib.splitB_data, show min 5 (t.size + 1) - 1 = 4 from by omega]
    have e3 : (⟨#[45]⟩ : ByteArray).data.toList = [45] := rfl
    have e4 : t.data.toList = jnc 45 [Lib.decDigits A, Lib.decDigits L, Lib.decDigits R, Lib.decDigits G] := by rw [← ht2, ctx_list]; rfl
    rw [e3, e4, splitK_jnD _ 4 (by simp) (by simp [dash_free]) (by simp)]
    simp [cps]
/-- What parseChase answers of a text. -/
def PCPost (t : ByteArray) (w : World) (e : Ending) (w' : World) : Prop :=
  ∃ (u0 u1 u2 u3 : Int) (ok : Bool), e = .returned (.tuple #[.agg #[.int .i64 u0, .int .i64 u1, .int .i64 u2, .int .i64 u3], .bool ok]) ∧ Below w.heap.size w w' ∧ Hid (∀ A L R G : Nat, chOk A L R G = true → ctx A L R G = t → ok = true ∧ u0 = A ∧ u1 = L ∧ u2 = R ∧ u3 = G)
set_option maxHeartbeats 8000000 in
set_option maxRecDepth 100000 in
theorem parseChase_any (t : ByteArray) (ht : t.size ≤ 1048576) (w : World) (E : Env w) :
    Calls Tryd.prog 62 #[.string t] w (PCPost t w) := by
  go_enter Tryd.func62, Tryd.ntmps62
  go_wp2_with fail
  refine (splitn_dash t ht _ ?hE).mono ?_
  case hE => exact E.below (by (repeat (first | assumption | exact Below.refl _ _ | refine Below.setCell ?_ (by first | omega | (simp; done) | (simp; omega)) _ | refine Below.drew ?_ | refine Below.alloc ?_ (by first | omega | (simp; done) | (simp; omega)) _ | refine bchain ?_ (by assumption) (by first | omega | (simp; done) | (simp; omega)))))
  rintro e w1 ⟨pb, cap, ss, rfl, hpb, hpl, hrd, hb1, hsz, hall⟩
  simp at hpb
  have hn : ¬ pb = w.heap.size + 1 := by omega
  have hz1 : w.heap.size + 1 < w1.heap.size := by have := hb1.size; simp at this; omega
  have hB : Below w.heap.size w w1 := by (repeat (first | assumption | exact Below.refl _ _ | refine Below.setCell ?_ (by first | omega | (simp; done) | (simp; omega)) _ | refine Below.drew ?_ | refine Below.alloc ?_ (by first | omega | (simp; done) | (simp; omega)) _ | refine bchain ?_ (by assumption) (by first | omega | (simp; done) | (simp; omega))))
  have hcA := fun o => (bcell hb1).1 w.heap.size o (by simp; omega)
  have hfA := fun o => (bcell hb1).2 w.heap.size o (by simp; omega)
  have hcN := fun o => (bcell hb1).1 (w.heap.size + 1) o (by simp)
  have hfN := fun o => (bcell hb1).2 (w.heap.size + 1) o (by simp)
  clear hb1
  by_cases h4 : ss.length = 4
  · obtain ⟨p, q, r, s, rfl⟩ := four_len h4
    obtain ⟨b, off, hab, hlt, hc0, hc1, hc2, hc3⟩ := rdT_four hrd
    cases hab
    have HS := Lib.hid hall
    have hsz4 : p.size ≤ t.size ∧ q.size ≤ t.size ∧ r.size ≤ t.size ∧ s.size ≤ t.size := ⟨hsz p (by simp), hsz q (by simp), hsz r (by simp), hsz s (by simp)⟩
    have HR0 : PRel w pb p q r s 0 0 0 0 w1 := by
      refine ⟨hB, hpl, hz1, hc0, hc1, hc2, hc3, ?_, ?_, ?_, ?_, ?_, ?_, ?_, ?_, ?_, ?_, ?_, ?_, ?_, ?_, ?_, ?_⟩ <;> first | (rw [hcN]; go_simp; done) | (rw [hfN]; go_simp; done) | (rw [hcA]; go_simp; done) | (rw [hfA]; go_simp; done)
    have hne := hn
    clear hall hsz hrd hc0 hc1 hc2 hc3 hcA hfA hcN hfN hn hB h4 hpl hlt
    go_wp2_with fail
    go_loopg [19] 4 (fun f v19 wr => ∃ (j : Nat) (n0 n1 n2 n3 : Int), v19 = .int .i64 (j : Int) ∧ j + f = 4 ∧ PRel w pb p q r s n0 n1 n2 n3 wr ∧ Hid (∀ A L R G : Nat, chOk A L R G = true → ctx A L R G = t → (0 < j → n0 = A) ∧ (1 < j → n1 = L) ∧ (2 < j → n2 = R) ∧ (3 < j → n3 = G)))
    case atStart => exact ⟨0, 0, 0, 0, 0, rfl, by omega, HR0, fun A L R G _ _ => ⟨fun h => absurd h (by omega), fun h => absurd h (by omega), fun h => absurd h (by omega), fun h => absurd h (by omega)⟩⟩
    case round =>
    obtain ⟨j, n0, n1, n2, n3, rfl, hj, HR, HP⟩ := hrel
    clear HR0
    have hjc : j = 0 ∨ j = 1 ∨ j = 2 ∨ j = 3 ∨ j = 4 := by omega
    rcases hjc with rfl | rfl | rfl | rfl | rfl
    · have hsx : p.size ≤ 1048576 := by have := hsz4.1; omega
      have HQ := Lib.hid (atoi_any p hsx wr (E.below HR.bel))
      have hp0 := HR.p0
      have hp1 := HR.p1
      have hp2 := HR.p2
      have hp3 := HR.p3
      have hc0 := HR.c0
      have hc1 := HR.c1
      have hc2 := HR.c2
      have hc3 := HR.c3
      have hf0 := HR.f0
      have hf1 := HR.f1
      have hf2 := HR.f2
      have hf3 := HR.f3
      have hr0 := HR.r0
      have hr1 := HR.r1
      have hr2 := HR.r2
      have hr3 := HR.r3
      have hg0 := HR.g0
      have hg1 := HR.g1
      have hg2 := HR.g2
      have hg3 := HR.g3
      have hl0 := HR.lt
      go_wp2_with fail
      refine HQ.out.mono ?_; rintro e w2 ⟨v, ev, rfl, hb2, hv⟩
      have HR2 := HR.step hb2
      clear HQ hp0 hp1 hp2 hp3 hc0 hc1 hc2 hc3 hf0 hf1 hf2 hf3 hr0 hr1 hr2 hr3 hg0 hg1 hg2 hg3 hl0 HR
      have HR := HR2
      clear HR2
      have hp0 := HR.p0
      have hp1 := HR.p1
      have hp2 := HR.p2
      have hp3 := HR.p3
      have hc0 := HR.c0
      have hc1 := HR.c1
      have hc2 := HR.c2
      have hc3 := HR.c3
      have hf0 := HR.f0
      have hf1 := HR.f1
      have hf2 := HR.f2
      have hf3 := HR.f3
      have hr0 := HR.r0
      have hr1 := HR.r1
      have hr2 := HR.r2
      have hr3 := HR.r3
      have hg0 := HR.g0
      have hg1 := HR.g1
      have hg2 := HR.g2
      have hg3 := HR.g3
      rcases hv with ⟨rfl, hu⟩ | ⟨⟨tp, pp, rfl⟩, hu⟩
      · have hvx := Lib.hid (show (∀ A L R G : Nat, chOk A L R G = true → ctx A L R G = t → v = (A : Int)) from fun A L R G hk hc => by
          have e := HS.out A L R G hk hc
          simp only [cps, List.cons.injEq] at e
          have ed : p.data.toList = Lib.decDigits A := by rw [e.1]
          have b := chOk_nat hk
          rw [ed, atoi_digits A (by omega)] at hu
          injection hu with hu
          exact hu.symm)
        have HRX := Lib.hid (HR.set0 hne v)
        have HP2 : Hid (∀ A L R G : Nat, chOk A L R G = true → ctx A L R G = t → (0 < 0 + 1 → v = A) ∧ (1 < 0 + 1 → n1 = L) ∧ (2 < 0 + 1 → n2 = R) ∧ (3 < 0 + 1 → n3 = G)) := fun A L R G hk hc => by
          have a := HP.out A L R G hk hc
          have b := hvx.out A L R G hk hc
          refine ⟨fun h => ?_, fun h => ?_, fun h => ?_, fun h => ?_⟩ <;> first | exact b | exact a.1 (by omega) | exact a.2.1 (by omega) | exact a.2.2.1 (by omega) | exact a.2.2.2 (by omega) | (exfalso; omega)
        clear hu HP hvx HS
        go_wp2_with fail
        go_roundg (gk - 1)
        case rel => exact ⟨0 + 1, v, n1, n2, n3, by go_num, by omega, HRX.out, HP2⟩
        case measure => omega
      · have HPN : Hid (∀ A L R G : Nat, chOk A L R G = true → ctx A L R G = t → False) := fun A L R G hk hc => by
          have e := HS.out A L R G hk hc
          simp only [cps, List.cons.injEq] at e
          have ed : p.data.toList = Lib.decDigits A := by rw [e.1]
          have b := chOk_nat hk
          exact hu _ (by rw [ed]; exact atoi_digits A (by omega))
        have HBE := Lib.hid HR.bel
        clear hu HP HS
        go_wp2_with fail
        refine bodyPost_ret (v := .tuple #[.agg #[.int .i64 0, .int .i64 0, .int .i64 0, .int .i64 0], .bool false]) (by have e0 : (w2.cell? ⟨w.heap.size, 0, none⟩).isSome = true := (by rw [hr0]; rfl); have e1 : (w2.cell? ⟨w.heap.size, 1, none⟩).isSome = true := (by rw [hr1]; rfl); have e2 : (w2.cell? ⟨w.heap.size, 2, none⟩).isSome = true := (by rw [hr2]; rfl); have e3 : (w2.cell? ⟨w.heap.size, 3, none⟩).isSome = true := (by rw [hr3]; rfl); simp [results, Tryd.results62, go_sem, e0, e1, e2, e3]; done) rfl ⟨0, 0, 0, 0, false, rfl, ?_, fun A L R G hk hc => (HPN.out A L R G hk hc).elim⟩
        (repeat (first | exact HBE.out | refine Below.setCell ?_ (by first | omega | (simp; done) | (simp; omega)) _ | refine Below.drew ?_))
    · have hsx : q.size ≤ 1048576 := by have := hsz4.2.1; omega
      have HQ := Lib.hid (atoi_any q hsx wr (E.below HR.bel))
      have hp0 := HR.p0
      have hp1 := HR.p1
      have hp2 := HR.p2
      have hp3 := HR.p3
      have hc0 := HR.c0
      have hc1 := HR.c1
      have hc2 := HR.c2
      have hc3 := HR.c3
      have hf0 := HR.f0
      have hf1 := HR.f1
      have hf2 := HR.f2
      have hf3 := HR.f3
      have hr0 := HR.r0
      have hr1 := HR.r1
      have hr2 := HR.r2
      have hr3 := HR.r3
      have hg0 := HR.g0
      have hg1 := HR.g1
      have hg2 := HR.g2
      have hg3 := HR.g3
      have hl0 := HR.lt
      go_wp2_with fail
      refine HQ.out.mono ?_; rintro e w2 ⟨v, ev, rfl, hb2, hv⟩
      have HR2 := HR.step hb2
      clear HQ hp0 hp1 hp2 hp3 hc0 hc1 hc2 hc3 hf0 hf1 hf2 hf3 hr0 hr1 hr2 hr3 hg0 hg1 hg2 hg3 hl0 HR
      have HR := HR2
      clear HR2
      have hp0 := HR.p0
      have hp1 := HR.p1
      have hp2 := HR.p2
      have hp3 := HR.p3
      have hc0 := HR.c0
      have hc1 := HR.c1
      have hc2 := HR.c2
      have hc3 := HR.c3
      have hf0 := HR.f0
      have hf1 := HR.f1
      have hf2 := HR.f2
      have hf3 := HR.f3
      have hr0 := HR.r0
      have hr1 := HR.r1
      have hr2 := HR.r2
      have hr3 := HR.r3
      have hg0 := HR.g0
      have hg1 := HR.g1
      have hg2 := HR.g2
      have hg3 := HR.g3
      rcases hv with ⟨rfl, hu⟩ | ⟨⟨tp, pp, rfl⟩, hu⟩
      · have hvx := Lib.hid (show (∀ A L R G : Nat, chOk A L R G = true → ctx A L R G = t → v = (L : Int)) from fun A L R G hk hc => by
          have e := HS.out A L R G hk hc
          simp only [cps, List.cons.injEq] at e
          have ed : q.data.toList = Lib.decDigits L := by rw [e.2.1]
          have b := chOk_nat hk
          rw [ed, atoi_digits L (by omega)] at hu
          injection hu with hu
          exact hu.symm)
        have HRX := Lib.hid (HR.set1 hne v)
        have HP2 : Hid (∀ A L R G : Nat, chOk A L R G = true → ctx A L R G = t → (0 < 1 + 1 → n0 = A) ∧ (1 < 1 + 1 → v = L) ∧ (2 < 1 + 1 → n2 = R) ∧ (3 < 1 + 1 → n3 = G)) := fun A L R G hk hc => by
          have a := HP.out A L R G hk hc
          have b := hvx.out A L R G hk hc
          refine ⟨fun h => ?_, fun h => ?_, fun h => ?_, fun h => ?_⟩ <;> first | exact b | exact a.1 (by omega) | exact a.2.1 (by omega) | exact a.2.2.1 (by omega) | exact a.2.2.2 (by omega) | (exfalso; omega)
        clear hu HP hvx HS
        go_wp2_with fail
        go_roundg (gk - 1)
        case rel => exact ⟨1 + 1, n0, v, n2, n3, by go_num, by omega, HRX.out, HP2⟩
        case measure => omega
      · have HPN : Hid (∀ A L R G : Nat, chOk A L R G = true → ctx A L R G = t → False) := fun A L R G hk hc => by
          have e := HS.out A L R G hk hc
          simp only [cps, List.cons.injEq] at e
          have ed : q.data.toList = Lib.decDigits L := by rw [e.2.1]
          have b := chOk_nat hk
          exact hu _ (by rw [ed]; exact atoi_digits L (by omega))
        have HBE := Lib.hid HR.bel
        clear hu HP HS
        go_wp2_with fail
        refine bodyPost_ret (v := .tuple #[.agg #[.int .i64 0, .int .i64 0, .int .i64 0, .int .i64 0], .bool false]) (by have e0 : (w2.cell? ⟨w.heap.size, 0, none⟩).isSome = true := (by rw [hr0]; rfl); have e1 : (w2.cell? ⟨w.heap.size, 1, none⟩).isSome = true := (by rw [hr1]; rfl); have e2 : (w2.cell? ⟨w.heap.size, 2, none⟩).isSome = true := (by rw [hr2]; rfl); have e3 : (w2.cell? ⟨w.heap.size, 3, none⟩).isSome = true := (by rw [hr3]; rfl); simp [results, Tryd.results62, go_sem, e0, e1, e2, e3]; done) rfl ⟨0, 0, 0, 0, false, rfl, ?_, fun A L R G hk hc => (HPN.out A L R G hk hc).elim⟩
        (repeat (first | exact HBE.out | refine Below.setCell ?_ (by first | omega | (simp; done) | (simp; omega)) _ | refine Below.drew ?_))
    · have hsx : r.size ≤ 1048576 := by have := hsz4.2.2.1; omega
      have HQ := Lib.hid (atoi_any r hsx wr (E.below HR.bel))
      have hp0 := HR.p0
      have hp1 := HR.p1
      have hp2 := HR.p2
      have hp3 := HR.p3
      have hc0 := HR.c0
      have hc1 := HR.c1
      have hc2 := HR.c2
      have hc3 := HR.c3
      have hf0 := HR.f0
      have hf1 := HR.f1
      have hf2 := HR.f2
      have hf3 := HR.f3
      have hr0 := HR.r0
      have hr1 := HR.r1
      have hr2 := HR.r2
      have hr3 := HR.r3
      have hg0 := HR.g0
      have hg1 := HR.g1
      have hg2 := HR.g2
      have hg3 := HR.g3
      have hl0 := HR.lt
      go_wp2_with fail
      refine HQ.out.mono ?_; rintro e w2 ⟨v, ev, rfl, hb2, hv⟩
      have HR2 := HR.step hb2
      clear HQ hp0 hp1 hp2 hp3 hc0 hc1 hc2 hc3 hf0 hf1 hf2 hf3 hr0 hr1 hr2 hr3 hg0 hg1 hg2 hg3 hl0 HR
      have HR := HR2
      clear HR2
      have hp0 := HR.p0
      have hp1 := HR.p1
      have hp2 := HR.p2
      have hp3 := HR.p3
      have hc0 := HR.c0
      have hc1 := HR.c1
      have hc2 := HR.c2
      have hc3 := HR.c3
      have hf0 := HR.f0
      have hf1 := HR.f1
      have hf2 := HR.f2
      have hf3 := HR.f3
      have hr0 := HR.r0
      have hr1 := HR.r1
      have hr2 := HR.r2
      have hr3 := HR.r3
      have hg0 := HR.g0
      have hg1 := HR.g1
      have hg2 := HR.g2
      have hg3 := HR.g3
      rcases hv with ⟨rfl, hu⟩ | ⟨⟨tp, pp, rfl⟩, hu⟩
      · have hvx := Lib.hid (show (∀ A L R G : Nat, chOk A L R G = true → ctx A L R G = t → v = (R : Int)) from fun A L R G hk hc => by
          have e := HS.out A L R G hk hc
          simp only [cps, List.cons.injEq] at e
          have ed : r.data.toList = Lib.decDigits R := by rw [e.2.2.1]
          have b := chOk_nat hk
          rw [ed, atoi_digits R (by omega)] at hu
          injection hu with hu
          exact hu.symm)
        have HRX := Lib.hid (HR.set2 hne v)
        have HP2 : Hid (∀ A L R G : Nat, chOk A L R G = true → ctx A L R G = t → (0 < 2 + 1 → n0 = A) ∧ (1 < 2 + 1 → n1 = L) ∧ (2 < 2 + 1 → v = R) ∧ (3 < 2 + 1 → n3 = G)) := fun A L R G hk hc => by
          have a := HP.out A L R G hk hc
          have b := hvx.out A L R G hk hc
          refine ⟨fun h => ?_, fun h => ?_, fun h => ?_, fun h => ?_⟩ <;> first | exact b | exact a.1 (by omega) | exact a.2.1 (by omega) | exact a.2.2.1 (by omega) | exact a.2.2.2 (by omega) | (exfalso; omega)
        clear hu HP hvx HS
        go_wp2_with fail
        go_roundg (gk - 1)
        case rel => exact ⟨2 + 1, n0, n1, v, n3, by go_num, by omega, HRX.out, HP2⟩
        case measure => omega
      · have HPN : Hid (∀ A L R G : Nat, chOk A L R G = true → ctx A L R G = t → False) := fun A L R G hk hc => by
          have e := HS.out A L R G hk hc
          simp only [cps, List.cons.injEq] at e
          have ed : r.data.toList = Lib.decDigits R := by rw [e.2.2.1]
          have b := chOk_nat hk
          exact hu _ (by rw [ed]; exact atoi_digits R (by omega))
        have HBE := Lib.hid HR.bel
        clear hu HP HS
        go_wp2_with fail
        refine bodyPost_ret (v := .tuple #[.agg #[.int .i64 0, .int .i64 0, .int .i64 0, .int .i64 0], .bool false]) (by have e0 : (w2.cell? ⟨w.heap.size, 0, none⟩).isSome = true := (by rw [hr0]; rfl); have e1 : (w2.cell? ⟨w.heap.size, 1, none⟩).isSome = true := (by rw [hr1]; rfl); have e2 : (w2.cell? ⟨w.heap.size, 2, none⟩).isSome = true := (by rw [hr2]; rfl); have e3 : (w2.cell? ⟨w.heap.size, 3, none⟩).isSome = true := (by rw [hr3]; rfl); simp [results, Tryd.results62, go_sem, e0, e1, e2, e3]; done) rfl ⟨0, 0, 0, 0, false, rfl, ?_, fun A L R G hk hc => (HPN.out A L R G hk hc).elim⟩
        (repeat (first | exact HBE.out | refine Below.setCell ?_ (by first | omega | (simp; done) | (simp; omega)) _ | refine Below.drew ?_))
    · have hsx : s.size ≤ 1048576 := by have := hsz4.2.2.2; omega
      have HQ := Lib.hid (atoi_any s hsx wr (E.below HR.bel))
      have hp0 := HR.p0
      have hp1 := HR.p1
      have hp2 := HR.p2
      have hp3 := HR.p3
      have hc0 := HR.c0
      have hc1 := HR.c1
      have hc2 := HR.c2
      have hc3 := HR.c3
      have hf0 := HR.f0
      have hf1 := HR.f1
      have hf2 := HR.f2
      have hf3 := HR.f3
      have hr0 := HR.r0
      have hr1 := HR.r1
      have hr2 := HR.r2
      have hr3 := HR.r3
      have hg0 := HR.g0
      have hg1 := HR.g1
      have hg2 := HR.g2
      have hg3 := HR.g3
      have hl0 := HR.lt
      go_wp2_with fail
      refine HQ.out.mono ?_; rintro e w2 ⟨v, ev, rfl, hb2, hv⟩
      have HR2 := HR.step hb2
      clear HQ hp0 hp1 hp2 hp3 hc0 hc1 hc2 hc3 hf0 hf1 hf2 hf3 hr0 hr1 hr2 hr3 hg0 hg1 hg2 hg3 hl0 HR
      have HR := HR2
      clear HR2
      have hp0 := HR.p0
      have hp1 := HR.p1
      have hp2 := HR.p2
      have hp3 := HR.p3
      have hc0 := HR.c0
      have hc1 := HR.c1
      have hc2 := HR.c2
      have hc3 := HR.c3
      have hf0 := HR.f0
      have hf1 := HR.f1
      have hf2 := HR.f2
      have hf3 := HR.f3
      have hr0 := HR.r0
      have hr1 := HR.r1
      have hr2 := HR.r2
      have hr3 := HR.r3
      have hg0 := HR.g0
      have hg1 := HR.g1
      have hg2 := HR.g2
      have hg3 := HR.g3
      rcases hv with ⟨rfl, hu⟩ | ⟨⟨tp, pp, rfl⟩, hu⟩
      · have hvx := Lib.hid (show (∀ A L R G : Nat, chOk A L R G = true → ctx A L R G = t → v = (G : Int)) from fun A L R G hk hc => by
          have e := HS.out A L R G hk hc
          simp only [cps, List.cons.injEq] at e
          have ed : s.data.toList = Lib.decDigits G := by rw [e.2.2.2.1]
          have b := chOk_nat hk
          rw [ed, atoi_digits G (by omega)] at hu
          injection hu with hu
          exact hu.symm)
        have HRX := Lib.hid (HR.set3 hne v)
        have HP2 : Hid (∀ A L R G : Nat, chOk A L R G = true → ctx A L R G = t → (0 < 3 + 1 → n0 = A) ∧ (1 < 3 + 1 → n1 = L) ∧ (2 < 3 + 1 → n2 = R) ∧ (3 < 3 + 1 → v = G)) := fun A L R G hk hc => by
          have a := HP.out A L R G hk hc
          have b := hvx.out A L R G hk hc
          refine ⟨fun h => ?_, fun h => ?_, fun h => ?_, fun h => ?_⟩ <;> first | exact b | exact a.1 (by omega) | exact a.2.1 (by omega) | exact a.2.2.1 (by omega) | exact a.2.2.2 (by omega) | (exfalso; omega)
        clear hu HP hvx HS
        go_wp2_with fail
        go_roundg (gk - 1)
        case rel => exact ⟨3 + 1, n0, n1, n2, v, by go_num, by omega, HRX.out, HP2⟩
        case measure => omega
      · have HPN : Hid (∀ A L R G : Nat, chOk A L R G = true → ctx A L R G = t → False) := fun A L R G hk hc => by
          have e := HS.out A L R G hk hc
          simp only [cps, List.cons.injEq] at e
          have ed : s.data.toList = Lib.decDigits G := by rw [e.2.2.2.1]
          have b := chOk_nat hk
          exact hu _ (by rw [ed]; exact atoi_digits G (by omega))
        have HBE := Lib.hid HR.bel
        clear hu HP HS
        go_wp2_with fail
        refine bodyPost_ret (v := .tuple #[.agg #[.int .i64 0, .int .i64 0, .int .i64 0, .int .i64 0], .bool false]) (by have e0 : (w2.cell? ⟨w.heap.size, 0, none⟩).isSome = true := (by rw [hr0]; rfl); have e1 : (w2.cell? ⟨w.heap.size, 1, none⟩).isSome = true := (by rw [hr1]; rfl); have e2 : (w2.cell? ⟨w.heap.size, 2, none⟩).isSome = true := (by rw [hr2]; rfl); have e3 : (w2.cell? ⟨w.heap.size, 3, none⟩).isSome = true := (by rw [hr3]; rfl); simp [results, Tryd.results62, go_sem, e0, e1, e2, e3]; done) rfl ⟨0, 0, 0, 0, false, rfl, ?_, fun A L R G hk hc => (HPN.out A L R G hk hc).elim⟩
        (repeat (first | exact HBE.out | refine Below.setCell ?_ (by first | omega | (simp; done) | (simp; omega)) _ | refine Below.drew ?_))
    · -- the end
      have HPE := Lib.hid (fun (A L R G : Nat) (hk : chOk A L R G = true) (hc : ctx A L R G = t) => show n0 = A ∧ n1 = L ∧ n2 = R ∧ n3 = G from by
        have a := HP.out A L R G hk hc
        exact ⟨a.1 (by omega), a.2.1 (by omega), a.2.2.1 (by omega), a.2.2.2 (by omega)⟩)
      have hp0 := HR.p0
      have hp1 := HR.p1
      have hp2 := HR.p2
      have hp3 := HR.p3
      have hc0 := HR.c0
      have hc1 := HR.c1
      have hc2 := HR.c2
      have hc3 := HR.c3
      have hf0 := HR.f0
      have hf1 := HR.f1
      have hf2 := HR.f2
      have hf3 := HR.f3
      have hr0 := HR.r0
      have hr1 := HR.r1
      have hr2 := HR.r2
      have hr3 := HR.r3
      have hg0 := HR.g0
      have hg1 := HR.g1
      have hg2 := HR.g2
      have hg3 := HR.g3
      have HBE := Lib.hid HR.bel
      clear HP HS HR
      go_wp2_with fail
      all_goals try (go_quiet (fail); go_wp2_with fail)
      all_goals refine bodyPost_ret (v := .tuple #[.agg #[.int .i64 n0, .int .i64 n1, .int .i64 n2, .int .i64 n3], .bool true]) (by have e0 : (wr.cell? ⟨w.heap.size, 0, none⟩).isSome = true := (by rw [hr0]; rfl); have e1 : (wr.cell? ⟨w.heap.size, 1, none⟩).isSome = true := (by rw [hr1]; rfl); have e2 : (wr.cell? ⟨w.heap.size, 2, none⟩).isSome = true := (by rw [hr2]; rfl); have e3 : (wr.cell? ⟨w.heap.size, 3, none⟩).isSome = true := (by rw [hr3]; rfl); simp [results, Tryd.results62, go_sem, e0, e1, e2, e3]; done) rfl ⟨n0, n1, n2, n3, true, rfl, ?_, fun A L R G hk hc => ⟨rfl, HPE.out A L R G hk hc⟩⟩
      all_goals (repeat (first | exact HBE.out | refine Below.setCell ?_ (by first | omega | (simp; done) | (simp; omega)) _ | refine Below.drew ?_ | refine below_drewN ?_ _))
  · have HPN : Hid (∀ A L R G : Nat, chOk A L R G = true → ctx A L R G = t → False) := fun A L R G hk hc => h4 (by rw [hall A L R G hk hc]; rfl)
    have hne : ((ss.length : Int) != 4) = true := by rw [bne_iff_ne]; omega
    have HBE := Lib.hid hB
    clear hall hrd hB h4 hsz
    go_wp2_with fail
    refine bodyPost_ret (v := .tuple #[.agg #[.int .i64 0, .int .i64 0, .int .i64 0, .int .i64 0], .bool false]) (by have e0 : (w1.cell? ⟨w.heap.size, 0, none⟩).isSome = true := (by first | (rw [hcA]; go_simp; done) | (go_simp; done)); have e1 : (w1.cell? ⟨w.heap.size, 1, none⟩).isSome = true := (by first | (rw [hcA]; go_simp; done) | (go_simp; done)); have e2 : (w1.cell? ⟨w.heap.size, 2, none⟩).isSome = true := (by first | (rw [hcA]; go_simp; done) | (go_simp; done)); have e3 : (w1.cell? ⟨w.heap.size, 3, none⟩).isSome = true := (by first | (rw [hcA]; go_simp; done) | (go_simp; done)); (try clear hcA hfA hcN hfN); simp [results, Tryd.results62, go_sem, e0, e1, e2, e3]; done) rfl ⟨0, 0, 0, 0, false, rfl, ?_, fun A L R G hk hc => (HPN.out A L R G hk hc).elim⟩
    (repeat (first | exact HBE.out | refine Below.setCell ?_ (by first | omega | (simp; done) | (simp; omega)) _ | refine Below.drew ?_))
set_option maxHeartbeats 4000000 in
theorem implParseChase (t : ByteArray) (ht : t.size ≤ 1048576) (w : World) (E : Env w) :
    Calls Tryd.prog 31 #[.string t] w fun e w' => e = .returned (.tuple #[.agg #[.int .i64 (ifI (cvB t) (cvp t 0)), .int .i64 (ifI (cvB t) (cvp t 1)), .int .i64 (ifI (cvB t) (cvp t 2)), .int .i64 (ifI (cvB t) (cvp t 3))], .bool (cvB t)]) ∧ Below w.heap.size w w' := by
  have W0 : Below w.heap.size w (w.alloc (.cells #[.int .i64 0, .int .i64 0, .int .i64 0, .int .i64 0] 50)) := (Below.refl _ _).alloc (Nat.le_refl _) _
  obtain ⟨RV, hRV⟩ : ∃ v, (.tuple #[.agg #[.int .i64 (ifI (cvB t) (cvp t 0)), .int .i64 (ifI (cvB t) (cvp t 1)), .int .i64 (ifI (cvB t) (cvp t 2)), .int .i64 (ifI (cvB t) (cvp t 3))], .bool (cvB t)] : Value) = v := ⟨_, rfl⟩
  have HV := Lib.hid hRV
  rw [hRV]
  clear hRV
  go_enter Tryd.func31, Tryd.ntmps31
  go_wp2_with fail
  refine (parseOneC 62 t (fun u0 u1 u2 u3 ok => Hid (∀ A L R G : Nat, chOk A L R G = true → ctx A L R G = t → ok = true ∧ u0 = A ∧ u1 = L ∧ u2 = R ∧ u3 = G)) _ (E.below W0) (enters_of Tryd.func62 (by kernel_rfl) rfl) (fun w E => parseChase_any t ht w E)).mono ?_; rintro e w3 ⟨u0, u1, u2, u3, k, HU, rfl, hb3⟩
  obtain ⟨tb, htb⟩ : ∃ tb, (k && (chOk u0 u1 u2 u3 && decide (cxt u0 u1 u2 u3 = t))) = tb := ⟨_, rfl⟩
  have hB : cvB t = tb ∧ (tb = true → u0 = cvp t 0 ∧ u1 = cvp t 1 ∧ u2 = cvp t 2 ∧ u3 = cvp t 3) := by
    cases hc : cvB t
    · cases tb
      · exact ⟨rfl, fun h => by cases h⟩
      · exfalso
        rw [Bool.and_eq_true, Bool.and_eq_true, decide_eq_true_eq] at htb
        have b := chOk_iff.1 htb.2.1
        obtain ⟨A, rfl⟩ := Int.eq_ofNat_of_zero_le (show 0 ≤ u0 by omega)
        obtain ⟨L, rfl⟩ := Int.eq_ofNat_of_zero_le (show 0 ≤ u1 by omega)
        obtain ⟨R, rfl⟩ := Int.eq_ofNat_of_zero_le (show 0 ≤ u2 by omega)
        obtain ⟨G, rfl⟩ := Int.eq_ofNat_of_zero_le (show 0 ≤ u3 by omega)
        have hx : ctx A L R G = t := by have := htb.2.2; unfold cxt at this; rw [htb.2.1] at this; exact this
        have := cv_of htb.2.1
        rw [hx, hc] at this; cases this
    · obtain ⟨A, L, R, G, hk, hx, q0, q1, q2, q3⟩ := cv_text hc
      obtain ⟨rfl, rfl, rfl, rfl, rfl⟩ := HU.out A L R G hk hx
      have hy : cxt A L R G = t := by unfold cxt; rw [hk]; exact hx
      rw [hk, decide_eq_true hy] at htb
      simp at htb
      exact ⟨htb.symm, fun _ => ⟨q0.symm, q1.symm, q2.symm, q3.symm⟩⟩
  have hv : (.tuple #[.agg #[.int .i64 (ifI tb u0), .int .i64 (ifI tb u1), .int .i64 (ifI tb u2), .int .i64 (ifI tb u3)], .bool tb] : Value) = RV := by
    rw [← HV.out, hB.1]
    cases tb
    · rfl
    · obtain ⟨q0, q1, q2, q3⟩ := hB.2 rfl
      rw [q0, q1, q2, q3]
  rw [htb]
  clear hB htb HU HV
  generalize ifI tb u0 = x0 at *
  generalize ifI tb u1 = x1 at *
  generalize ifI tb u2 = x2 at *
  generalize ifI tb u3 = x3 at *
  have hz3 : w.heap.size < w3.heap.size := by have := hb3.size; simp at this; omega
  have B3 := Lib.hid (W0.trans (hb3.mono (by simp)))
  have hcA := fun o => (bcell hb3).1 w.heap.size o (by simp)
  have hfA := fun o => (bcell hb3).2 w.heap.size o (by simp)
  have HV := Lib.hid hv
  clear hb3 hv
  go_wp2_with fail
  refine bodyPost_ret (v := .tuple #[.agg #[.int .i64 x0, .int .i64 x1, .int .i64 x2, .int .i64 x3], .bool tb]) (by have e0 : (w3.cell? ⟨w.heap.size, 0, none⟩).isSome = true := (by rw [hcA]; go_simp); have e1 : (w3.cell? ⟨w.heap.size, 1, none⟩).isSome = true := (by rw [hcA]; go_simp); have e2 : (w3.cell? ⟨w.heap.size, 2, none⟩).isSome = true := (by rw [hcA]; go_simp); have e3 : (w3.cell? ⟨w.heap.size, 3, none⟩).isSome = true := (by rw [hcA]; go_simp); clear hcA hfA; simp [results, Tryd.results31, go_sem, e0, e1, e2, e3]; done) rfl ⟨by rw [HV.out], ?_⟩
  have BB := B3.out
  (repeat (first | assumption | exact Below.refl _ _ | refine Below.setCell ?_ (by first | omega | simp) _ | refine Below.drew ?_ | refine Below.alloc ?_ (by first | omega | (simp; done) | (simp; omega)) _ | refine bchain ?_ (by assumption) (by first | omega | (simp; done) | (simp; omega))))
end Go.Proofs.YteaefmngfomhgabDoor
