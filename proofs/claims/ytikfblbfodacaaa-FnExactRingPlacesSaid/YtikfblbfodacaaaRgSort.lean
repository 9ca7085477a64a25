/- RingPlaces: the program's row of fractions is sorted by the library. -/
import Derived.Test.YtikfblbfodacaaaRgMath
import Derived.Test.YtikfblbfodacaaaCmpI
import Derived.Test.YtikfblbfodacaaaShelfF
import Derived.Shelf.SlSortCmp.WholeK
import Derived.KernelRfl
namespace Go.Proofs.Ytikfblbfodacaaa
open Go.RowKit Go.Shelf Go.Lib Go.Sort Go.Proofs
set_option linter.unusedVariables false
set_option linter.unusedSimpArgs false
/-- a key's fraction -/
def encF (N : Int) {L : Int} (x : { x : Int // 0 ≤ x ∧ x < L }) : List Value := [.int .i64 (lwN x.1 N), .int .i64 (lwD x.1 N)]
def cfF {L : Int} (x y : { x : Int // 0 ≤ x ∧ x < L }) : Int := cmpI x.1 y.1
theorem ltF {L : Int} (x y : { x : Int // 0 ≤ x ∧ x < L }) : ltOf cfF x y = decide (x.1 < y.1) := by
  unfold ltOf cfF
  rw [decide_eq_decide]
  exact cmpI_lt
theorem swoF {L : Int} : SWO (ltOf (cfF (L := L))) where
  irrefl x := by rw [ltF]; simp
  trans x y z h1 h2 := by rw [ltF] at *; simp at *; omega
  ntrans x y z h1 h2 := by rw [ltF] at *; simp at *; omega
set_option maxHeartbeats 1000000 in
theorem fcmpG (a b c d : Int) (a1 : -1000000000 ≤ a) (a2 : a ≤ 1000000000) (b1 : 0 ≤ b) (b2 : b ≤ 1000000) (c1 : -1000000000 ≤ c) (c2 : c ≤ 1000000000) (d1 : 0 ≤ d) (d2 : d ≤ 1000000) (w : World) :
    Calls Try.prog 49 #[.agg #[.int .i64 a, .int .i64 b], .agg #[.int .i64 c, .int .i64 d]] w fun e w' => e = .returned (.int .i64 (cmpI (a * d) (c * b))) ∧ ∃ q os', w' = grow (w.drewN q) os' := by
  have m1 := mul_ab a d 1000000000 1000000 a1 a2 (by omega) d2
  have m2 := mul_ab c b 1000000000 1000000 c1 c2 (by omega) b2
  go_enter Try.func49, Try.ntmps49
  go_wp2_with (first | (go_at_call 58; refine (compare_any _ _ _).mono ?_; rintro e w1 ⟨rfl, rfl⟩))
  go_ret
  exact ⟨rfl, 0, _, by rw [alloc_eq_grow, alloc_eq_grow, grow_grow]; rfl⟩
theorem cmpLaysF {N L : Int} [Inhabited ({ x : Int // 0 ≤ x ∧ x < L })] (h1 : 1 ≤ N) (h2 : N ≤ 200) (hL : L ≤ 200000) (blk off size : Nat) (w : World) : CmpLays Try.prog 49 #[] (encF N (L := L)) 2 cfF blk off size w := by
  intro m os dk _ x y
  have hx := x.2
  have hy := y.2
  have bx := lwN_bd (a := x.1) (b := N) (B := 200000) (by omega) (by omega) (by omega)
  have by' := lwN_bd (a := y.1) (b := N) (B := 200000) (by omega) (by omega) (by omega)
  have dx := lwD_pos (a := x.1) (b := N) (by omega)
  have dy := lwD_pos (a := y.1) (b := N) (by omega)
  have h := fcmpG (lwN x.1 N) (lwD x.1 N) (lwN y.1 N) (lwD y.1 N) (by omega) (by omega) (by omega) (by omega) (by omega) (by omega) (by omega) (by omega) (sortWorldK (encF N) 2 w blk off m dk os)
  have e : cmpI (lwN x.1 N * lwD y.1 N) (lwN y.1 N * lwD x.1 N) = cfF x y := by
    have c1 := (low_cmp (a := x.1) (b := y.1) (n := N) h1).1
    have c2 := (low_cmp (a := y.1) (b := x.1) (n := N) h1).1
    unfold cfF cmpI
    simp only [c1, c2]
  rw [e] at h
  exact h
theorem below_sortK {α : Type} [Inhabited α] (enc : α → List Value) (k : Nat) (w : World) (blk n : Nat) (d : Array α) (os : Array Obj) (hb : blk < w.heap.size) : Go.RowKit.Below blk w (sortWorldK enc k w blk 0 n d os) := by
  refine ⟨rfl, rfl, rfl, size_sortWorldK_c enc k w blk 0 n d os, fun j hj => ?_⟩
  unfold sortWorldK
  rw [heap_grow_old _ _ (by rw [show (putRowK enc k (Sort.ahead w n) blk 0 d).heap.size = (Sort.ahead w n).heap.size from size_putRow _ _ _ _ _]; show j < w.heap.size; omega)]
  show ((Sort.ahead w n).heap.modify blk _)[j]? = _
  rw [Array.getElem?_modify, if_neg (by omega)]
  rfl
set_option maxRecDepth 100000 in
theorem sortFr_any {N L : Int} (hLp : 0 < L) (h1 : 1 ≤ N) (h2 : N ≤ 200) (hL : L ≤ 200000) (G cap n : Nat) (ks : Nat → Int) (hk : ∀ i, i < n → 0 ≤ ks i ∧ ks i < L) (hn : n ≤ 1000000) (w : World) (hG : G < w.heap.size)
    (hc : ∀ i, i < n → w.cell? ⟨G, i * 2, none⟩ = some (.int .i64 (lwN (ks i) N)) ∧ w.cell? ⟨G, i * 2 + 1, none⟩ = some (.int .i64 (lwD (ks i) N))) (hf : ∀ o, w.frozen? ⟨G, o, none⟩ = false) :
    Calls Try.prog 48 #[.slice (some ⟨G, 0, none⟩) n cap, .func (.func 49) #[] #[]] w fun e w' => e = .returned (.tuple #[]) ∧
      ∃ z : Nat → Int, (∀ i, i < n → w'.cell? ⟨G, i * 2, none⟩ = some (.int .i64 (lwN (z i) N)) ∧ w'.cell? ⟨G, i * 2 + 1, none⟩ = some (.int .i64 (lwD (z i) N))) ∧ (∀ i, i < n * 2 → w'.frozen? ⟨G, i, none⟩ = false) ∧ (∀ i, i + 1 < n → z i ≤ z (i + 1)) ∧ (∀ x, (∃ i, i < n ∧ z i = x) ↔ ∃ i, i < n ∧ ks i = x) ∧ Go.RowKit.Below G w w' := by
  letI : Inhabited ({ x : Int // 0 ≤ x ∧ x < L }) := ⟨⟨0, by omega, hLp⟩⟩
  obtain ⟨d, hd1, hd2⟩ : ∃ d : Array ({ x : Int // 0 ≤ x ∧ x < L }), d.size = n ∧ ∀ i, i < n → (d[i]!).1 = ks i :=
    ⟨Array.ofFn (fun i : Fin n => (⟨ks i.1, hk i.1 i.2⟩ : { x : Int // 0 ≤ x ∧ x < L })), by simp, fun i hi => by simp [hi]⟩
  have hH : HoldsK (encF N (L := L)) 2 w G 0 d := by
    intro j hj
    rw [size_flatK, hd1] at hj
    rw [get_flatK _ _ _ _ (by rw [hd1]; exact hj), Nat.zero_add]
    refine ⟨?_, hf j⟩
    have hi := hc (j / 2) (by omega)
    have hv := hd2 (j / 2) (by omega)
    show w.cell? ⟨G, j, none⟩ = some (encF N d[j / 2]!)[j % 2]!
    unfold encF
    rw [hv]
    rcases Nat.mod_two_eq_zero_or_one j with e | e
    · rw [e]
      have ej : j = j / 2 * 2 := by omega
      have := hi.1
      rw [← ej] at this
      exact this
    · rw [e]
      have ej : j = j / 2 * 2 + 1 := by omega
      have := hi.2
      rw [← ej] at this
      exact this
  have eg : ∀ args w, (callFunc 49 args).run Try.prog w = .ok (.enter 49 args) w := enters_of Try.func49 (by kernel_rfl) rfl
  have hcon := AnyQ.slices_SortFunc Try.sortFr 2 Try.isAgg66 Try.sizeOf66 (encF N (L := L)) (fun _ => rfl) (fun x v hv => by simp [encF] at hv; rcases hv with rfl | rfl <;> rfl) cfF swoF 49 #[] G 0 cap d w eg (cmpLaysF h1 h2 hL G 0 d.size w) hH hG (by rw [hd1]; omega)
  change Calls Try.prog 48 _ _ _ at hcon
  rw [hd1] at hcon
  refine hcon.mono ?_
  rintro e w' ⟨rfl, d', m, os, hp, hs, rfl⟩
  obtain ⟨hsz, _, hperm⟩ := hp
  have hH' := holdsK_sortWorldK_c (encF N (L := L)) 2 w G 0 d d' m os hH hG hsz
  have e0 : d'.extract 0 n = d' := by rw [← hd1, ← hsz]; exact Array.extract_size
  have e1 : d.extract 0 n = d := by rw [← hd1]; exact Array.extract_size
  rw [e0, e1] at hperm
  refine ⟨rfl, fun i => (d'[i]!).1, fun i hi => ?_, fun i hi => ?_, fun i hi => ?_, fun x => ?_, below_sortK _ _ _ _ _ _ _ hG⟩
  · have a := (hH'.cell (i := i) (c := 0) (by omega) (by omega)).1
    have b := (hH'.cell (i := i) (c := 1) (by omega) (by omega)).1
    rw [Nat.zero_add, Nat.add_zero] at a
    rw [Nat.zero_add] at b
    exact ⟨a, b⟩
  · have := (hH' i (by rw [size_flatK]; omega)).2
    rw [Nat.zero_add] at this
    exact this
  · have := hs i (i + 1) (Nat.zero_le _) (by omega) (by omega)
    rw [ltF] at this
    simpa using this
  · have key : ∀ (D : Array ({ x : Int // 0 ≤ x ∧ x < L })), D.size = n → ((∃ i, i < n ∧ (D[i]!).1 = x) ↔ ∃ v, v ∈ D.toList ∧ v.1 = x) := by
      intro D hD
      constructor
      · rintro ⟨i, hi, e⟩
        refine ⟨D[i]!, ?_, e⟩
        rw [getElem!_pos D i (by omega)]
        exact Array.getElem_mem_toList (by omega)
      · rintro ⟨v, hv, e⟩
        obtain ⟨i, hi, ei⟩ := List.getElem_of_mem hv
        rw [Array.length_toList] at hi
        refine ⟨i, by omega, ?_⟩
        rw [getElem!_pos D i hi, ← e, ← ei]
        rfl
    rw [key d' (by omega)]
    have kd := key d hd1
    have : (∃ i, i < n ∧ ks i = x) ↔ ∃ i, i < n ∧ (d[i]!).1 = x := ⟨fun ⟨i, hi, e⟩ => ⟨i, hi, by rw [hd2 i hi]; exact e⟩, fun ⟨i, hi, e⟩ => ⟨i, hi, by rw [← hd2 i hi]; exact e⟩⟩
    rw [this, kd]
    exact ⟨fun ⟨v, hv, e⟩ => ⟨v, hperm.mem_iff.1 hv, e⟩, fun ⟨v, hv, e⟩ => ⟨v, hperm.mem_iff.2 hv, e⟩⟩
end Go.Proofs.Ytikfblbfodacaaa
