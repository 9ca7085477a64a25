/- MostInSiding by contracts, the program's side. -/
import Derived.Test.YtolgpjlliaoneaaTakeMath
import Derived.Test.YtolgpjlliaoneaaTrnFit
import Derived.Test.YtolgpjlliaoneaaSortL
import Derived.Test.YtolgpjlliaoneaaCmpI
import Derived.Test.YtolgpjlliaoneaaShelf
import Derived.Sort.OwnSortedInts
import Derived.WalkKit
import Derived.WalkSpells
import Derived.WalkLawsBesides
import Derived.Lib.Hide
import Derived.Deep.LoopGhost
import Derived.Deep.QuietTactic
import Derived.Deep.RegionHeld3
import Derived.BigQuiet
namespace Go.Proofs.Ytolgpjlliaoneaa
open Go.RowKit
set_option linter.unusedVariables false
set_option linter.unusedSimpArgs false
theorem msR_len (xs : List (Int × Int)) (n : Int) : (msR xs n).length ≤ 1000 := by
  cases hs : tnS xs n
  · unfold msR; rw [hs]; simp
  · have t := tnS_at hs
    obtain ⟨J, j1, j2, j3, j4, j5, j6⟩ := msF_take xs (xs.length + 1) 0 [] n (by omega) (by omega) t.2.2.1 (fun i => by simp) List.Pairwise.nil (by simp)
    have e : msR xs n = msF xs (xs.length + 1) [] n := by unfold msR; rw [hs]; rfl
    have := j4.length_eq
    rw [List.length_map, List.length_take] at this
    rw [e]; omega
set_option maxHeartbeats 1000000 in
theorem cmpLen_any (l r m q : Int) (w : World) :
    Calls Try.prog 52 #[.agg #[.int .i64 l, .int .i64 r], .agg #[.int .i64 m, .int .i64 q]] w fun e w' => e = .returned (.int .i64 (cmpI l m)) ∧ Below w.heap.size w w' := by
  go_enter Try.func52, Try.ntmps52
  go_wp2_with (first | (go_at_call 53; refine (compare_any _ _ _).mono ?_; rintro e w1 ⟨rfl, rfl⟩))
  go_ret
  exact ⟨rfl, ((Below.refl _ _).alloc (Nat.le_refl _) _).alloc (by simp) _⟩
set_option maxHeartbeats 1000000 in
theorem most2_any (k B : Nat) (a : Option Addr) (cap : Nat) (xs : List (Int × Int)) (w : World) (h : RdP w a xs) (hl : xs.length ≤ 12) (hcl : w.cell? ⟨B, 0, none⟩ = some (.slice a xs.length cap)) (hk : k < xs.length) :
    Calls Try.prog 55 #[.int .i64 (k : Int), .pointer (some ⟨B, 0, none⟩)] w fun e w' => e = .returned (.int .i64 (px xs k)) ∧ w = w' := by
  rcases h with h | ⟨b, off, rfl, hlt, hc⟩
  · rw [h] at hk; exact absurd hk (Nat.not_lt_zero _)
  have c0 := (hc k hk).1
  have kI : (k : Int) < (xs.length : Int) := by omega
  clear hc
  generalize px xs k = x at *
  go_enter Try.func55, Try.ntmps55
  go_wp2_with fail
  go_ret
  exact ⟨rfl, rfl⟩
theorem msO_lt (xs : List (Int × Int)) {j : Nat} (h : j < xs.length) : (msO xs).getD j 0 < xs.length := (ordK_mem xs _).1 (getD_mem (by rw [ordK_length]; exact h))
theorem sumO_bd {xs : List (Int × Int)} (ht : ∀ i, i < xs.length → tnOk (px xs i) (py xs i) = true) : ∀ j, j ≤ xs.length → 0 ≤ sumO xs j ∧ sumO xs j ≤ 1000 * (j : Int)
  | 0, _ => by simp [sumO]
  | j + 1, hj => by
    have ih := sumO_bd ht j (by omega)
    have b := tnOk_iff.1 (ht _ (msO_lt xs (j := j) (by omega)))
    show 0 ≤ sumO xs j + px xs _ ∧ sumO xs j + px xs _ ≤ 1000 * ((j + 1 : Nat) : Int)
    omega
set_option maxHeartbeats 2000000 in
theorem sumI_any (g c2 m B : Nat) (a : Option Addr) (cap : Nat) (xs : List (Int × Int)) (w : World) (h : RdP w a xs) (hl : xs.length ≤ 12) (ht : ∀ i, i < xs.length → tnOk (px xs i) (py xs i) = true) (hm : m ≤ xs.length)
    (hcl : w.cell? ⟨B, 0, none⟩ = some (.slice a xs.length cap)) (hc : ∀ i, i < m → w.cell? ⟨g, i, none⟩ = some (.int .i64 (((msO xs).getD i 0 : Nat) : Int))) :
    Calls Try.prog 54 #[.slice (some ⟨g, 0, none⟩) m c2, .func (.func 55) #[] #[.pointer (some ⟨B, 0, none⟩)]] w fun e w' => e = .returned (.int .i64 (sumO xs m)) ∧ w = w' := by
  have hbd := Lib.hid (sumO_bd ht)
  have HT := Lib.hid ht
  have HC := Lib.hid hc
  clear ht hc
  go_enter Try.func54, Try.ntmps54
  go_wp2_with fail
  go_loopg [5, 10] m (fun k v5 v10 wr => ∃ (j : Nat) (s : Int), v5 = .int .i64 s ∧ v10 = .int .i64 (j : Int) ∧ j + k ≤ m ∧ m ≤ j + k ∧ Hid (sumO xs j = s) ∧ w = wr)
  case atStart => exact ⟨0, 0, rfl, rfl, by omega, by omega, rfl, rfl⟩
  case round =>
    obtain ⟨j, s, rfl, rfl, h1, h2, hsum, rfl⟩ := hrel
    by_cases hj : j < m
    · have hcj := HC.out j hj
      have hjI : (j : Int) < (m : Int) := by omega
      have hq := msO_lt xs (j := j) (by omega)
      have bs := hbd.out j (by omega)
      have bt := tnOk_iff.1 (HT.out _ hq)
      rw [hsum.out] at bs
      have hsum2 : Hid (sumO xs (j + 1) = s + px xs ((msO xs).getD j 0)) := by unfold Hid; rw [← hsum.out]; rfl
      have H2 := Lib.hid (most2_any ((msO xs).getD j 0) B a cap xs w h hl hcl hq)
      clear hsum
      generalize (msO xs).getD j 0 = q at *
      generalize px xs q = x at *
      go_wp2_with (first | (go_at_call 55; refine H2.out.mono ?_; rintro e w1 ⟨rfl, rfl⟩))
      go_roundg (gk - 1)
      case rel => exact ⟨j + 1, s + x, by go_num, by go_num, by omega, by omega, hsum2, rfl⟩
      case measure => omega
    · obtain rfl : j = m := by omega
      have HF := Lib.hid hsum
      clear hsum
      go_wp2_with fail
      go_ret
      rw [HF.out]
      exact ⟨rfl, rfl⟩
/-- the first ones of a row -/
theorem row_prefix {w : World} {base g n c m : Nat} {xs : List Int} (h : w.ownsRow base 3 1 (.slice (some ⟨g, 0, none⟩) n c) n (xs.map (Value.int .i64))) (hm : m ≤ n) : ∃ cur, base ≤ g ∧ w.heap[g]? = some (.cells cur 3 (0, 0)) ∧ m ≤ c ∧ c ≤ maxLen ∧ cur.size = c * 1 ∧ cur.toList.take m = (xs.take m).map (Value.int .i64) := by
  obtain ⟨hl, hh⟩ := h
  rcases hh with ⟨e, _⟩ | ⟨g', c', cur, e, q1, q2, q3, q4, q5, q6⟩
  · cases e
  · cases e
    refine ⟨cur, q1, q2, by omega, q4, q5, ?_⟩
    rw [List.map_take, ← q6, List.take_take, Nat.min_eq_left (by omega)]
set_option maxHeartbeats 4000000 in
set_option maxRecDepth 100000 in
theorem implMostInSiding (a : Option Addr) (cap : Nat) (xs : List (Int × Int)) (n : Int) (w : World) (h : RdP w a xs) (hn : xs.length ≤ 1048576) :
    Calls Try.prog 22 #[.slice a xs.length cap, .int .i64 n] w (RetS w (msR xs n) (tnS xs n)) := by
  have hmf : ∀ (fn : Fn) (first cap : Array Value) (w : World), (Instr.makeFunc fn first cap).run Try.prog w = .ok (.func fn first cap) w := fun _ _ _ _ => rfl
  have W0 : Below w.heap.size w (w.alloc (.cells #[.slice a xs.length cap] 41)) := (Below.refl _ _).alloc (Nat.le_refl _) _
  have hA0 := h.below W0
  cases ha : (inB (xs.length : Int) 1 12 && allT xs)
  · have HA := Lib.hid ha
    have HS := Lib.hid (show tnS xs n = false by rw [tnS_split, ha]; rfl)
    have HR := Lib.hid (show msR xs n = [] by unfold msR; rw [tnS_split, ha]; rfl)
    clear ha
    rw [HR.out, HS.out]
    go_enter Try.func22, Try.ntmps22
    go_wp2_with (first | (go_at_call 50; refine (areSiding_any a cap xs _ hA0 hn).mono ?_; rw [HA.out]; rintro e w1 ⟨rfl, hb⟩) | (go_at_call 31; refine (isWay_any _ _).mono ?_; rintro e w1 ⟨rfl, rfl⟩))
    go_ret2
    exact ⟨none, 0, rfl, ⟨rfl, .inl ⟨rfl, rfl⟩⟩, W0.trans (hb.mono W0.size)⟩
  · have HA := Lib.hid ha
    cases hw : wyOk n
    · have HS := Lib.hid (show tnS xs n = false by rw [tnS_split, hw, Bool.and_false])
      have HR := Lib.hid (show msR xs n = [] by unfold msR; rw [HS.out]; rfl)
      have HW := Lib.hid hw
      clear ha hw
      rw [HR.out, HS.out]
      go_enter Try.func22, Try.ntmps22
      go_wp2_with (first | (go_at_call 50; refine (areSiding_any a cap xs _ hA0 hn).mono ?_; rw [HA.out]; rintro e w1 ⟨rfl, hb⟩) | (go_at_call 31; refine (isWay_any _ _).mono ?_; rw [HW.out]; rintro e w2 ⟨rfl, rfl⟩))
      go_ret2
      exact ⟨none, 0, rfl, ⟨rfl, .inl ⟨rfl, rfl⟩⟩, W0.trans (hb.mono W0.size)⟩
    · have hs : tnS xs n = true := by rw [tnS_split, ha, hw]; rfl
      have t := tnS_at hs
      have HS := Lib.hid hs
      have HW := Lib.hid hw
      have hl := t.2.1
      have hl1 := t.1
      have hn0 := t.2.2.1
      have HT := Lib.hid t.2.2.2.2
      have TK := Lib.hid (fun (m : Nat) (hm : m ≤ xs.length) (h1 : sumO xs m ≤ n) (h2 : m < xs.length → n < sumO xs (m + 1)) => take_ms hs hm h1 h2)
      clear ha hw hs t
      rw [HS.out]
      go_enter Try.func22, Try.ntmps22
      go_wp2_with fail
      refine (areSiding_any a cap xs _ hA0 hn).mono ?_; rw [HA.out]; rintro e w1 ⟨rfl, hb1⟩
      have z1 : w.heap.size < w1.heap.size := by have := hb1.size; simp at this; omega
      have k1 : w1.cell? ⟨w.heap.size, 0, none⟩ = some (.slice a xs.length cap) := by rw [(bcell hb1).1 _ _ (by simp)]; go_simp
      have B1 := W0.trans (hb1.mono W0.size)
      have HB1 := Lib.hid B1
      have h1 := Lib.hid (h.below B1)
      clear hb1 hA0
      go_wp2_with (first | (go_at_call 31; refine (isWay_any _ _).mono ?_; rw [HW.out]; rintro e w2 ⟨rfl, rfl⟩))
      refine (inOrderN_any 52 #[] (fun k j => cmpI (px xs k) (px xs j)) (msK xs) a cap xs w1 h1.out (enters_of Try.func52 (by kernel_rfl) rfl) (fun k j W hk hj hB => cmpLen_any _ _ _ _ W) (fun k j hk hj => by rw [msK_at hk, msK_at hj, lexB_1, cmpI_lt, decide_eq_true_eq]) hl1 (by omega)).mono ?_
      rintro e w5 ⟨⟨a2, c2, rfl, hO⟩, hb5⟩
      obtain ⟨g, rfl, hg1, hg2, hg3⟩ := row_some hO (by omega)
      have z5 := hb5.size
      have k5 : w5.cell? ⟨w.heap.size, 0, none⟩ = some (.slice a xs.length cap) := by rw [(bcell hb5).1 _ _ z1]; exact k1
      have h5 := Lib.hid (h1.out.below hb5)
      have B5 := Lib.hid (B1.trans (hb5.mono B1.size))
      have HO := Lib.hid hO
      have hcells : Hid (∀ i, i < xs.length → w5.cell? ⟨g, i, none⟩ = some (.int .i64 (((msO xs).getD i 0 : Nat) : Int))) := fun i hi => by
        rw [ints_at hO (ordI_length _ _) i hi, ordI_at _ hi]; rfl
      have hbO := Lib.hid (sumO_bd HT.out)
      clear hO hb5 B1 hg3 k1
      go_wp2_with fail
      go_loopg [6] xs.length (fun k v6 wr => ∃ (m : Nat), v6 = .slice (some ⟨g, 0, none⟩) m c2 ∧ m ≤ k ∧ k ≤ m ∧ m ≤ xs.length ∧ Hid (m < xs.length → n < sumO xs (m + 1)) ∧ w5 = wr)
      case atStart => exact ⟨xs.length, rfl, Nat.le_refl _, Nat.le_refl _, Nat.le_refl _, fun h => absurd h (Nat.lt_irrefl _), rfl⟩
      case round =>
        obtain ⟨m, rfl, m1, m2, m3, HM, rfl⟩ := hrel
        have hS := Lib.hid (sumI_any g c2 m w.heap.size a cap xs w5 h5.out hl HT.out m3 k5 (fun i hi => hcells.out i (by omega)))
        have hbs := hbO.out m m3
        by_cases hgt : n < sumO xs m
        · have hm0 : m ≠ 0 := by
            intro e; rw [e] at hgt; have z : sumO xs 0 = 0 := rfl; omega
          obtain ⟨m', rfl⟩ : ∃ m', m = m' + 1 := ⟨m - 1, by omega⟩
          have HG := Lib.hid hgt
          have eI : ((m' + 1 : Nat) : Int) - 1 = (m' : Int) := by omega
          have hcap : m' ≤ c2 := by
            obtain ⟨cur, q1, q2, q3, q4, q5, q6⟩ := row_prefix HO.out m3
            omega
          clear hm0 hgt HM
          generalize hs6 : sumO xs (m' + 1) = s at *
          have HE := Lib.hid hs6
          clear hs6
          have hgt := HG.out
          go_wp2_with (first | (go_at_call 54; refine hS.out.mono ?_; rintro e w6 ⟨rfl, rfl⟩))
          go_roundg m'
          case rel => exact ⟨m', rfl, Nat.le_refl _, Nat.le_refl _, by omega, fun _ => by rw [HE.out]; exact HG.out, rfl⟩
          case measure => omega
        · have HL := Lib.hid (TK.out m m3 (by omega) HM.out)
          obtain ⟨cur, q1, q2, q3, q4, q5, q6⟩ := row_prefix HO.out m3
          have hlen : ((ordI (msK xs) xs.length).take m).length = m := by rw [List.length_take, ordI_length]; omega
          have hRl : (msR xs n).length = m := by rw [← HL.out, List.length_mergeSort, hlen]
          have hH := holds_of_blockI (ss := (ordI (msK xs) xs.length).take m) q2 (by rw [hlen]; exact q6)
          have HSort := Try.slices_Sort_int g 0 c2 ((ordI (msK xs) xs.length).take m) w5 hH hg2 (by omega)
          rw [hlen, HL.out] at HSort
          have HSo := Lib.hid HSort
          have HOwn := Lib.hid (fun (nn : Nat) (os : Array Obj) => ownsRow_sortedI (w := w5) (base := w.heap.size) (n := nn) (os := os) (cap := c2) (ss := (ordI (msK xs) xs.length).take m) (ts := msR xs n) (by rw [hRl, hlen]) (by omega) q2 (by omega) q4 q5)
          clear HM HL HSort hH q2 q4 q5 q6
          have hle : ¬ n < sumO xs m := hgt
          generalize sumO xs m = s at *
          go_wp2_with (first | (go_at_call 54; refine hS.out.mono ?_; rintro e w6 ⟨rfl, rfl⟩))
          refine HSo.out.mono ?_; rintro e w6 ⟨rfl, nn, os, rfl⟩
          have hown := HOwn.out nn os
          rw [hlen, ← hRl] at hown
          have hbel := Lib.hid (B5.out.grown (grownBy_sortedI (w := w5) (g := g) (n := nn) (os := os) (msR xs n).toArray) B5.out.size (fun k hk => by cases hk; omega))
          have HW6 := Lib.hid hown
          clear hown HOwn
          generalize Sort.grow (Sort.putRow (Value.int .i64) (Sort.ahead w5 nn) g 0 (msR xs n).toArray) os = w6 at *
          go_wp2_with fail
          go_ret2
          exact ⟨some ⟨g, 0, none⟩, c2, by rw [hRl]; first | rfl | (simp; done), HW6.out, hbel.out⟩
end Go.Proofs.Ytolgpjlliaoneaa
