/- The text of walkers: the model's loop of concatenations, and the program's pieces joined by the library, by contracts. -/
import Derived.Test.YtfnblfjkondjfabDoorProg
import Derived.Test.YtfnblfjkondjfabDoorPairs
import Derived.Test.YtfnblfjkondjfabDoorTextWalks
import Derived.WalkKit
import Derived.WalkSpells
import Derived.WalkLawsBesides
import Derived.Lib.Hide
import Derived.Lib.Join
import Derived.Lib.ItoaNum
import Derived.Deep.LoopGhost
import Derived.Deep.QuietTactic
import Derived.Deep.RegionWith
import Derived.Deep.RegionHeld3
import Derived.BigQuiet
namespace Go.Proofs.YtfnblfjkondjfabDoor
open Go.RowKit
set_option linter.unusedVariables false
set_option linter.unusedSimpArgs false
/-- the text of a number -/
def itx (n : Int) : ByteArray := ⟨(Lib.itoa n).toArray⟩
/-- the text of a walker -/
def wtx (x y : Int) : ByteArray := (itx x ++ ⟨#[58]⟩) ++ itx y
/-- the text of the first walkers, as it grows -/
def wjt (xs : List (Int × Int)) : Nat → ByteArray
  | 0 => ⟨#[]⟩
  | 1 => ⟨#[]⟩ ++ wtx (px xs 0) (py xs 0)
  | k + 2 => (wjt xs (k + 1) ++ ⟨#[44]⟩) ++ wtx (px xs (k + 1)) (py xs (k + 1))
def wjx (xs : List (Int × Int)) : ByteArray := if wks xs then wjt xs xs.length else ⟨#[]⟩
theorem itx_size {n : Int} (h0 : -1000000 ≤ n) (h1 : n ≤ 1000000) : (itx n).size ≤ 8 := by
  unfold itx Lib.itoa
  split
  · have := decDigits_len 6 n.natAbs (by omega)
    simp [ByteArray.size]; omega
  · have := decDigits_len 6 n.toNat (by omega)
    simp [ByteArray.size]; omega
theorem wtx_size {x y : Int} (h : wkOk x y = true) : (wtx x y).size ≤ 17 := by
  have hw := wkOk_iff.1 h
  have h1 := itx_size (n := x) (by omega) (by omega)
  have h2 := itx_size (n := y) (by omega) (by omega)
  have h3 : (⟨#[58]⟩ : ByteArray).size = 1 := rfl
  unfold wtx
  rw [ByteArray.size_append, ByteArray.size_append, h3]; omega
theorem wjt_size {xs : List (Int × Int)} (h : allW xs = true) : ∀ k, k ≤ xs.length → (wjt xs k).size ≤ 18 * k
  | 0, _ => by simp [wjt, ByteArray.size]
  | 1, hk => by
    have := wtx_size (allW_at h (i := 0) (by omega))
    have h3 : (⟨#[]⟩ : ByteArray).size = 0 := rfl
    simp only [wjt]
    rw [ByteArray.size_append, h3]; omega
  | k + 2, hk => by
    have h1 := wjt_size h (k + 1) (by omega)
    have := wtx_size (allW_at h (i := k + 1) (by omega))
    have h3 : (⟨#[44]⟩ : ByteArray).size = 1 := rfl
    simp only [wjt]
    rw [ByteArray.size_append, ByteArray.size_append, h3]; omega
theorem row_via {w W w' : World} {base : Nat} {e : TypeId} {size : Nat} {v : Value} {n : Nat} {xs : List Value} (h : w.ownsRow base e size v n xs) (eh : W.heap = w.heap) (hb : Below W.heap.size W w') : w'.ownsRow base e size v n xs := by
  obtain ⟨hl, h⟩ := h
  refine ⟨hl, ?_⟩
  rcases h with h | ⟨g, c, cur, e, h1, h2, h3⟩
  · exact .inl h
  · rw [← eh] at h2
    have hg : g < W.heap.size := by
      rcases Nat.lt_or_ge g W.heap.size with q | q
      · exact q
      · rw [Array.getElem?_eq_none q] at h2; cases h2
    exact .inr ⟨g, c, cur, e, h1, by rw [hb.block g hg]; exact h2, h3⟩
theorem join_snoc (l : List (List UInt8)) (y sep : List UInt8) (h : l ≠ []) : Lib.join (l ++ [y]) sep = Lib.join l sep ++ sep ++ y := by
  cases l with
  | nil => exact absurd rfl h
  | cons x r =>
    rw [List.cons_append, Lib.join_cons, Lib.join_cons]
    simp [Lib.joinTail]
theorem take_succ_xy (xs : List (Int × Int)) (k : Nat) (h : k < xs.length) : xs.take (k + 1) = xs.take k ++ [(px xs k, py xs k)] := by
  rw [List.take_add_one, List.getElem?_eq_getElem h]
  have e : xs.getD k (0, 0) = xs[k] := by simp [List.getD, List.getElem?_eq_getElem h]
  unfold px py
  rw [e]; rfl
theorem wjt_join (xs : List (Int × Int)) : ∀ k, k ≤ xs.length → (wjt xs k).data.toList = Lib.join ((xs.take k).map fun p => (wtx p.1 p.2).data.toList) [44]
  | 0, _ => by simp [wjt, Lib.join_nil]
  | 1, h => by
    rw [take_succ_xy xs 0 (by omega)]
    simp [wjt, Lib.join_one]
  | k + 2, h => by
    have ih := wjt_join xs (k + 1) (by omega)
    rw [take_succ_xy xs (k + 1) (by omega), List.map_append, List.map_cons, List.map_nil, join_snoc _ _ _ (by
      intro e
      have := congrArg List.length e
      rw [List.length_map, List.length_take, List.length_nil] at this
      omega), ← ih]
    simp [wjt]
/-- the texts of the walkers -/
def wts (xs : List (Int × Int)) : List ByteArray := xs.map fun p => wtx p.1 p.2
theorem wts_length (xs : List (Int × Int)) : (wts xs).length = xs.length := by simp [wts]
theorem wts_get {xs : List (Int × Int)} {i : Nat} {x : ByteArray} (h : (wts xs)[i]? = some x) : i < xs.length ∧ x = wtx (px xs i) (py xs i) := by
  have hi : i < xs.length := by
    rcases Nat.lt_or_ge i xs.length with q | q
    · exact q
    · rw [List.getElem?_eq_none (by rw [wts_length]; omega)] at h; cases h
  refine ⟨hi, ?_⟩
  simp [wts, List.getElem?_eq_getElem hi] at h
  rw [← h]; simp [px, py, List.getD, List.getElem?_eq_getElem hi]
theorem wjt_wts (xs : List (Int × Int)) : Lib.join ((wts xs).map (·.data.toList)) (⟨#[44]⟩ : ByteArray).data.toList = (wjt xs xs.length).data.toList := by
  rw [wjt_join xs xs.length (Nat.le_refl _), List.take_length]
  simp [wts, Function.comp_def]
set_option maxHeartbeats 1000000 in
theorem l1Int_any (n : Int) (h0 : -1000000 ≤ n) (h1 : n ≤ 1000000) (w : World) :
    Calls Tryd.prog 35 #[.int .i64 n] w fun e w' => e = .returned (.string (itx n)) ∧ Below w.heap.size w w' := by
  by_cases h : n < 0
  · obtain ⟨m, rfl⟩ : ∃ m : Nat, n = -(m : Int) := ⟨n.natAbs, by omega⟩
    have H := Lib.hid (fun w => l1Num_any m (by omega) w)
    have hl := decDigits_len 6 m (by omega)
    have f1 : ¬ (9223372036854775807 < 1 + (Lib.decDigits m).length) := by omega
    have hd : Hid (Value.string ((⟨#[45]⟩ : ByteArray) ++ ⟨(Lib.decDigits m).toArray⟩) = Value.string (itx (-(m : Int)))) := by
      unfold Hid itx Lib.itoa
      rw [if_pos h, show (-(m : Int)).natAbs = m from by omega, bytes_app]; simp
    generalize hD : Lib.decDigits m = D at *
    clear hD
    go_enter Tryd.func35, Tryd.ntmps35
    go_wp2_with (first | (go_at_call 46; refine (H.out _).mono ?_; rintro e w1 ⟨rfl, hb⟩))
    go_ret
    exact ⟨congrArg Ending.returned hd.out, by first | assumption | exact Below.drew (by assumption) | exact bchain (Below.drew (Below.refl _ _)) (by assumption) (by simp)⟩
  · obtain ⟨m, rfl⟩ : ∃ m : Nat, n = (m : Int) := ⟨n.toNat, by omega⟩
    have H := Lib.hid (fun w => l1Num_any m (by omega) w)
    have hd : Hid (Value.string ⟨(Lib.decDigits m).toArray⟩ = Value.string (itx (m : Int))) := by
      unfold Hid itx Lib.itoa
      rw [if_neg h, show (m : Int).toNat = m from by omega]
    generalize hD : Lib.decDigits m = D at *
    clear hD
    go_enter Tryd.func35, Tryd.ntmps35
    go_wp2_with (first | (go_at_call 46; refine (H.out _).mono ?_; rintro e w1 ⟨rfl, hb⟩))
    go_ret
    exact ⟨congrArg Ending.returned hd.out, by first | assumption | exact Below.drew (by assumption) | exact bchain (Below.drew (Below.refl _ _)) (by assumption) (by simp)⟩
set_option maxHeartbeats 2000000 in
theorem meText_any (a : Option Addr) (cap : Nat) (xs : List (Int × Int)) (w : World) (h : RdP w a xs) (hw : allW xs = true) (hn : xs.length ≤ 8) :
    Calls Tryd.prog 19 #[.slice a xs.length cap] w fun e w' => e = .returned (.string (wjt xs xs.length)) ∧ Below w.heap.size w w' := by
  have hnI : (xs.length : Int) ≤ 8 := by omega
  have HW := Lib.hid hw
  clear hw
  go_enter Tryd.func19, Tryd.ntmps19
  go_wp2_with fail
  go_loopg [3, 8] xs.length (fun k v3 v8 wr => ∃ (j : Nat), v3 = .string (wjt xs j) ∧ v8 = .int .i64 (j : Int) ∧ j + k ≤ xs.length ∧ xs.length ≤ j + k ∧ Below w.heap.size w wr)
  case atStart => exact ⟨0, rfl, rfl, by omega, by omega, Below.refl _ _⟩
  case round =>
    obtain ⟨j, rfl, rfl, h1, h2, hbel⟩ := hrel
    by_cases hj : j < xs.length
    · rcases h with h | ⟨b, off, rfl, hlt, hc⟩
      · rw [h] at hj; exact absurd hj (Nat.not_lt_zero _)
      · have hcj : wr.cell? ⟨b, off + j * 2, none⟩ = some (.int .i64 (px xs j)) := by rw [(bcell hbel).1 b _ hlt]; exact (hc j hj).1
        have hck : wr.cell? ⟨b, off + j * 2 + 1, none⟩ = some (.int .i64 (py xs j)) := by rw [(bcell hbel).1 b _ hlt]; exact (hc j hj).2
        have hjI : (j : Int) < (xs.length : Int) := by omega
        have HBl := Lib.hid hbel
        have hsz := hbel.size
        have hT := wjt_size HW.out j (by omega)
        have hq := wkOk_iff.1 (allW_at HW.out hj)
        have hE0 : j = 0 → wjt xs (j + 1) = wjt xs j ++ ((itx (px xs j) ++ ⟨#[58]⟩) ++ itx (py xs j)) := by rintro rfl; rfl
        have hE1 : 0 < j → wjt xs (j + 1) = (wjt xs j ++ ⟨#[44]⟩) ++ ((itx (px xs j) ++ ⟨#[58]⟩) ++ itx (py xs j)) := by
          intro hp; obtain ⟨i, rfl⟩ : ∃ i, j = i + 1 := ⟨j - 1, by omega⟩; rfl
        have hcX := Lib.hid (fun w => l1Int_any (px xs j) (by omega) (by omega) w)
        have hcY := Lib.hid (fun w => l1Int_any (py xs j) (by omega) (by omega) w)
        have hX := itx_size (n := px xs j) (by omega) (by omega)
        have hY := itx_size (n := py xs j) (by omega) (by omega)
        clear hbel hc hq
        generalize px xs j = x at *
        generalize py xs j = y at *
        generalize hTT : wjt xs j = T at *
        generalize hT2 : wjt xs (j + 1) = T2 at *
        have HT2 := Lib.hid hT2
        clear hTT hT2
        generalize hXX : itx x = X at *
        generalize hYY : itx y = Y at *
        clear hXX hYY
        have f1 : ¬ (9223372036854775807 < X.size + 1) := by omega
        have f2 : ¬ (9223372036854775807 < X.size + 1 + Y.size) := by omega
        have f3 : ¬ (9223372036854775807 < T.size + (X.size + 1 + Y.size)) := by omega
        have f4 : ¬ (9223372036854775807 < T.size + 1 + (X.size + 1 + Y.size)) := by omega
        have f5 : ¬ (9223372036854775807 < T.size + 1) := by omega
        rcases Nat.eq_zero_or_pos j with hj0 | hj0
        · have HE := Lib.hid (hE0 hj0)
          have hjn : ¬ (0 : Int) < (j : Int) := by omega
          have HJ := Lib.hid (And.intro h1 h2)
          clear hE0 hE1 hT hX hY hj0 h1 h2
          go_wp2_with fail
          go_region_held3 (fun w' => Below wr.heap.size wr w' ∧ wr.heap.size < w'.heap.size ∧ w'.cell? ⟨wr.heap.size, 0, none⟩ = some (.int .i64 x) ∧ w'.cell? ⟨wr.heap.size, 1, none⟩ = some (.int .i64 y)) (refine ⟨?_, ?_, ?_, ?_⟩ <;> first | assumption | omega | (go_simp; done) | (repeat (first | exact Below.refl _ _ | refine Below.drew ?_ | refine Below.alloc ?_ (by first | omega | (simp; done) | (simp; omega)) _ | refine bchain ?_ (by assumption) (by first | omega | (simp; done) | (simp; omega))))) (first | (go_at_call_of 35 (Value.int .i64 x); refine (hcX.out _).mono ?_; rintro e w1 ⟨rfl, hb⟩; have hc := (bcell hb).1; have hz := hb.size) | (go_at_call_of 35 (Value.int .i64 y); refine (hcY.out _).mono ?_; rintro e w1 ⟨rfl, hb⟩; have hc := (bcell hb).1; have hz := hb.size))
          all_goals (rename_i hS; go_wp2_with fail)
          all_goals go_roundg (gk - 1)
          case rel =>
            refine ⟨j + 1, ?_, by go_num, by have := HJ.out; omega, by have := HJ.out; omega, HBl.out.trans (hS.1.mono HBl.out.size)⟩
            rw [HT2.out, HE.out]
          case measure => have := HJ.out; omega
        · have HE := Lib.hid (hE1 hj0)
          have hjn : (0 : Int) < (j : Int) := by omega
          have HJ := Lib.hid (And.intro h1 h2)
          clear hE0 hE1 hT hX hY hj0 h1 h2
          go_wp2_with fail
          go_region_held3 (fun w' => Below wr.heap.size wr w' ∧ wr.heap.size < w'.heap.size ∧ w'.cell? ⟨wr.heap.size, 0, none⟩ = some (.int .i64 x) ∧ w'.cell? ⟨wr.heap.size, 1, none⟩ = some (.int .i64 y)) (refine ⟨?_, ?_, ?_, ?_⟩ <;> first | assumption | omega | (go_simp; done) | (repeat (first | exact Below.refl _ _ | refine Below.drew ?_ | refine Below.alloc ?_ (by first | omega | (simp; done) | (simp; omega)) _ | refine bchain ?_ (by assumption) (by first | omega | (simp; done) | (simp; omega))))) (first | (go_at_call_of 35 (Value.int .i64 x); refine (hcX.out _).mono ?_; rintro e w1 ⟨rfl, hb⟩; have hc := (bcell hb).1; have hz := hb.size) | (go_at_call_of 35 (Value.int .i64 y); refine (hcY.out _).mono ?_; rintro e w1 ⟨rfl, hb⟩; have hc := (bcell hb).1; have hz := hb.size))
          all_goals (rename_i hS; go_wp2_with fail)
          all_goals go_roundg (gk - 1)
          case rel =>
            refine ⟨j + 1, ?_, by go_num, by have := HJ.out; omega, by have := HJ.out; omega, HBl.out.trans (hS.1.mono HBl.out.size)⟩
            rw [HT2.out, HE.out]
          case measure => have := HJ.out; omega
    · have e : j = xs.length := by omega
      have HBl := Lib.hid hbel
      clear hbel
      go_wp2_with fail
      go_ret
      exact ⟨by rw [e]; rfl, HBl.out⟩
theorem wks_parts {xs : List (Int × Int)} (h : wks xs = true) : 1 ≤ xs.length ∧ xs.length ≤ 8 ∧ allW xs = true := by
  unfold wks at h
  rw [Bool.and_eq_true] at h
  have := inB_iff.1 h.1
  exact ⟨by omega, by omega, h.2⟩
set_option maxHeartbeats 1000000 in
theorem specWalkersText (a : Option Addr) (cap : Nat) (xs : List (Int × Int)) (w : World) (h : RdP w a xs) (hn : xs.length ≤ 1048576) :
    Calls Tryd.prog 7 #[.slice a xs.length cap] w fun e w' => e = .returned (.tuple #[.string (wjx xs), .bool (wks xs)]) ∧ Below w.heap.size w w' := by
  cases hs : wks xs
  · have hx : Hid (wjx xs = ⟨#[]⟩) := by unfold Hid wjx; rw [hs]; rfl
    have HS := Lib.hid hs
    clear hs
    go_enter Tryd.func7, Tryd.ntmps7
    go_wp2_with (first | (go_at_call 18; refine (meAll_any a cap xs _ h hn).mono ?_; rw [HS.out]; rintro e w1 ⟨rfl, hb⟩) | fail)
    go_ret2
    exact ⟨by rw [hx.out]; rfl, by assumption⟩
  · have hx : Hid (wjx xs = wjt xs xs.length) := by unfold Hid wjx; rw [hs]; rfl
    have hp := wks_parts hs
    have HS := Lib.hid hs
    clear hs
    go_enter Tryd.func7, Tryd.ntmps7
    go_wp2_with fail
    refine (meAll_any a cap xs _ h hn).mono ?_; rw [HS.out]; rintro e w1 ⟨rfl, hb⟩
    go_wp2_with fail
    refine (meText_any a cap xs _ (h.below hb) hp.2.2 hp.2.1).mono ?_; rintro e w2 ⟨rfl, hb2⟩
    go_wp2_with fail
    go_ret2
    exact ⟨by rw [hx.out]; rfl, hb.trans (hb2.mono hb.size)⟩
theorem itoa_int (n : Int) (h0 : -1000000 ≤ n) (h1 : n ≤ 1000000) (w : World) (ht : Lib.TabIs Tryd.prog w "internal/strconv.uint64pow10" .u64 Lib.pow10Tab) :
    Calls Tryd.prog 22 #[.int .i64 n] w fun e w' => e = .returned (.string (itx n)) ∧ Below w.heap.size w w' ∧ Lib.TabIs Tryd.prog w' "internal/strconv.uint64pow10" .u64 Lib.pow10Tab :=
  (Tryd.strconv_Itoa n (by omega) (by omega) w ht).mono fun e w' ⟨he, k, os, hw⟩ => ⟨he, by rw [hw]; exact below_grow w k os, by rw [hw]; exact tab_below pow10G (tab_lt pow10G ht) ht (below_grow w k os)⟩
theorem strInfoJ : (Tryd.prog.info? 9).map (fun i => (i.zero, i.size, i.bytes)) = some (some (.string ⟨#[]⟩), 1, 16) := by kernel_rfl
set_option maxHeartbeats 2000000 in
theorem implWalkersText (a : Option Addr) (cap : Nat) (xs : List (Int × Int)) (w : World) (h : RdP w a xs) (hn : xs.length ≤ 1048576) (ht : Lib.TabIs Tryd.prog w "internal/strconv.uint64pow10" .u64 Lib.pow10Tab) :
    Calls Tryd.prog 9 #[.slice a xs.length cap] w fun e w' => e = .returned (.tuple #[.string (wjx xs), .bool (wks xs)]) ∧ Below w.heap.size w w' := by
  cases hs : wks xs
  · have hx : Hid (wjx xs = ⟨#[]⟩) := by unfold Hid wjx; rw [hs]; rfl
    have HS := Lib.hid hs
    clear hs
    go_enter Tryd.func9, Tryd.ntmps9
    go_wp2_with (first | (go_at_call 21; refine (implAreWalkers a cap xs _ h hn).mono ?_; rw [HS.out]; rintro e w1 ⟨rfl, hb⟩) | fail)
    go_ret2
    exact ⟨by rw [hx.out]; rfl, by assumption⟩
  · have hx : Hid (wjx xs = wjt xs xs.length) := by unfold Hid wjx; rw [hs]; rfl
    have hp := wks_parts hs
    have HS := Lib.hid hs
    have hnI : (xs.length : Int) ≤ 8 := by omega
    clear hs
    go_enter Tryd.func9, Tryd.ntmps9
    go_wp2_with fail
    refine (implAreWalkers a cap xs _ h hn).mono ?_; rw [HS.out]; rintro e w1 ⟨rfl, hb1⟩
    obtain ⟨i0, hi, hz0, hz1, hz2⟩ := info_parts strInfoJ
    obtain ⟨w2, hrun, hown0, hgr0⟩ := run_make_full (P := Tryd.prog) w1 w1.heap.size 45 9 i0 (.string ⟨#[]⟩) 1 Tryd.underlying45 hi hz0 hz1 .i64 .i64 xs.length (by rw [hz2]; omega) (by unfold maxLen; omega) (Nat.le_refl _)
    have hbel0 : Below w1.heap.size w1 w2 := (Below.refl _ _).grown hgr0 (Nat.le_refl _) (fun k hk => by cases hk)
    obtain ⟨ys0, hy0⟩ : ∃ ys, ys = (madeCells (Value.string ⟨#[]⟩).cells (xs.length * 1)).toList := ⟨_, rfl⟩
    rw [← hy0] at hown0
    have hl0 : ys0.length = xs.length * 1 := hown0.1
    clear hy0 hgr0
    have B2 : Below w.heap.size w w2 := hb1.trans (hbel0.mono hb1.size)
    have ht2 := tab_below pow10G (tab_lt pow10G ht) ht B2
    have hsz1 := hb1.size
    have hsz2 := hbel0.size
    go_wp2_with fail
    clear hrun
    go_loopg [15] xs.length (fun k v15 wr => ∃ (j : Nat) (ys : List Value), v15 = .int .i64 (j : Int) ∧ j + k ≤ xs.length ∧ xs.length ≤ j + k ∧ wr.ownsRow w1.heap.size 9 1 (.slice (some ⟨w1.heap.size, 0, none⟩) xs.length xs.length) xs.length ys ∧ Hid (∀ i, i < j → ys[i]? = some (.string (wtx (px xs i) (py xs i)))) ∧ Below w.heap.size w wr)
    case atStart => exact ⟨0, ys0, rfl, by omega, by omega, hown0, fun i hi => absurd hi (Nat.not_lt_zero _), B2⟩
    case round =>
      obtain ⟨j, ys, rfl, h1, h2, hown, hys, hbel⟩ := hrel
      have hg0 := (hown.lt w1.heap.size rfl).2
      have hlen : ys.length = xs.length * 1 := hown.1
      by_cases hj : j < xs.length
      · rcases h with h | ⟨b, off, rfl, hlt, hc⟩
        · rw [h] at hj; exact absurd hj (Nat.not_lt_zero _)
        · have hcj : wr.cell? ⟨b, off + j * 2, none⟩ = some (.int .i64 (px xs j)) := by rw [(bcell hbel).1 b _ hlt]; exact (hc j hj).1
          have hck : wr.cell? ⟨b, off + j * 2 + 1, none⟩ = some (.int .i64 (py xs j)) := by rw [(bcell hbel).1 b _ hlt]; exact (hc j hj).2
          have hjI : (j : Int) < (xs.length : Int) := by omega
          have HBl := Lib.hid hbel
          have hsz := hbel.size
          have hq := wkOk_iff.1 (allW_at hp.2.2 hj)
          have hX := itx_size (n := px xs j) (by omega) (by omega)
          have hY := itx_size (n := py xs j) (by omega) (by omega)
          have hcX := Lib.hid (fun w ht => itoa_int (px xs j) (by omega) (by omega) w ht)
          have hcY := Lib.hid (fun w ht => itoa_int (py xs j) (by omega) (by omega) w ht)
          have HE : Hid (wtx (px xs j) (py xs j) = (itx (px xs j) ++ ⟨#[58]⟩) ++ itx (py xs j)) := rfl
          have HA := Lib.hid (row_below hown ((Below.refl _ _).alloc (Nat.le_refl _) (.cells #[.int .i64 (px xs j), .int .i64 (py xs j)] 42)))
          have HT := Lib.hid (tab_below pow10G (tab_lt pow10G ht) ht (hbel.alloc hbel.size (.cells #[.int .i64 (px xs j), .int .i64 (py xs j)] 42)))
          have HO := Lib.hid hown
          have HJ := Lib.hid (And.intro h1 h2)
          clear hbel hc hq hown h1 h2 ht2 ht B2 hown0 hbel0 hb1
          generalize hxx : px xs j = x at *
          generalize hyy : py xs j = y at *
          have HXY := Lib.hid (And.intro hxx hyy)
          clear hxx hyy
          generalize hWT : wtx x y = WT at *
          have HWT := Lib.hid hWT
          clear hWT
          generalize hXX : itx x = X at *
          generalize hYY : itx y = Y at *
          clear hXX hYY
          have f1 : ¬ (9223372036854775807 < X.size + 1) := by omega
          have f2 : ¬ (9223372036854775807 < X.size + 1 + Y.size) := by omega
          clear hX hY
          go_wp2_with fail
          go_region_with (first | (go_at_call_of 22 (Value.int .i64 x); (refine (hcX.out _ (by exact HT.out)).mono ?_; rintro e w3 ⟨rfl, hb3, ht3⟩; have hz3 := hb3.size; have hcA := fun o => (bcell hb3).1 wr.heap.size o (by first | omega | (simp; done) | (simp; omega)); have hO3 := row_via HA.out (by rfl) hb3)) | (go_at_call_of 22 (Value.int .i64 y); (refine (hcY.out _ (by exact ht3)).mono ?_; rintro e w4 ⟨rfl, hb4, ht4⟩; have hz4 := hb4.size; have hcB := fun o => (bcell hb4).1 wr.heap.size o (by first | omega | (simp; done) | (simp at hz3 ⊢; omega)); have hO4 := row_via hO3 (by rfl) hb4; have hcy0 := hO4.cellAt j (by omega); have hfy0 := hO4.frozenAt j; rw [List.getElem?_eq_getElem (by omega)] at hcy0)))
          all_goals (obtain ⟨hst1, hst2⟩ := hO4.stored j (.string ((X ++ ⟨#[58]⟩) ++ Y)))
          all_goals (have HF := Lib.hid (And.intro hst1 (And.intro hb3 hb4)))
          all_goals (clear hst1 hst2 hb3 hb4 hO4 hO3 hcy0 hfy0 ht4 ht3 hcA hcB)
          all_goals go_wp2_with fail
          all_goals go_roundg (gk - 1)
          all_goals first
            | (have := HJ.out; omega)
            | (refine ⟨j + 1, _, by go_num, by have := HJ.out; omega, by have := HJ.out; omega, HF.out.1, ?_, ?_⟩
               · intro i hi
                 by_cases q : i = j
                 · subst q; rw [List.getElem?_set_self (by omega), HXY.out.1, HXY.out.2, HWT.out, HE.out]
                 · rw [List.getElem?_set_ne (by omega)]; exact hys.out i (by omega)
               · have hb3 := HF.out.2.1
                 have hb4 := HF.out.2.2
                 have hbl := HBl.out
                 simp at hz3
                 refine Below.setCell ?_ (by omega) _
                 (repeat (first | exact hbl | refine Below.drew ?_ | refine Below.alloc ?_ (by omega) _ | refine bchain ?_ (by assumption) (by first | omega | (simp; done) | (simp; omega)))))
      · have e : j = xs.length := by omega
        have hjn := Tryd.strings_Join w1.heap.size 0 xs.length (wts xs) ⟨#[44]⟩ wr (fun i x hx => by obtain ⟨hi, rfl⟩ := wts_get hx; rw [Nat.zero_add, hown.cellAt i (by omega)]; exact hys.out i (by omega)) hg0 (by rw [wts_length]; omega) (by rw [wts_length]; exact Nat.le_refl _)
          (by rw [wjt_wts, Array.length_toList]; have := wjt_size hp.2.2 xs.length (Nat.le_refl _); have e2 : (wjt xs xs.length).data.size = (wjt xs xs.length).size := rfl; omega)
        rw [wts_length, wjt_wts, Array.toArray_toList] at hjn
        have HBl := Lib.hid hbel
        have HJN := Lib.hid hjn
        clear hbel hown hjn ht B2 hown0 hbel0 hb1 h ht2
        go_wp2_with fail
        refine HJN.out.mono ?_; rintro e w5 ⟨rfl, hb5⟩
        go_wp2_with fail
        go_ret2
        exact ⟨by rw [hx.out]; rfl, HBl.out.trans (hb5.mono HBl.out.size)⟩
end Go.Proofs.YtfnblfjkondjfabDoor
