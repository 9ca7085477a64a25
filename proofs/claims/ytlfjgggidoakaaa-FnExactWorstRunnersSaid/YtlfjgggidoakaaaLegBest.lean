/- The orders of runners: the model's measure of two orders, by contracts. -/
import Derived.Test.YtlfjgggidoakaaaLegMean
import Derived.Test.YtlfjgggidoakaaaPut
import Derived.WalkKit
import Derived.WalkSpells
import Derived.WalkLawsBesides
import Derived.Lib.Hide
import Derived.Deep.LoopGhost
import Derived.Deep.QuietTactic
import Derived.Deep.RegionHeld3
import Derived.BigQuiet
namespace Go.Proofs.Ytlfjgggidoakaaa
open Go.RowKit
set_option linter.unusedVariables false
set_option linter.unusedSimpArgs false
/-- the product of the speeds -/
def prS (ss : List Int) : Nat → Int
  | 0 => 1
  | j + 1 => prS ss j * ss.getD j 0
theorem prS_bd {ss : List Int} (h : ∀ i, i < ss.length → 1 ≤ ss.getD i 0 ∧ ss.getD i 0 ≤ 100) : ∀ j, j ≤ ss.length → 1 ≤ prS ss j ∧ prS ss j ≤ 100 ^ j
  | 0, _ => by simp [prS]
  | j + 1, hj => by
    have ih := prS_bd h j (by omega)
    have b := h j (by omega)
    simp only [prS]
    have q : prS ss j * ss.getD j 0 ≤ 100 ^ j * 100 := Int.mul_le_mul ih.2 b.2 (by omega) (by omega)
    exact ⟨mulG_pos ih.1 b.1, by rw [Int.pow_succ]; omega⟩
theorem prS_num {ss : List Int} (h : ∀ i, i < ss.length → 1 ≤ ss.getD i 0 ∧ ss.getD i 0 ≤ 100) (hl : ss.length ≤ 6) {j : Nat} (hj : j ≤ ss.length) : 1 ≤ prS ss j ∧ prS ss j ≤ 1000000000000 := by
  have b := prS_bd h j hj
  have hp : (100 : Int) ^ j ≤ 1000000000000 := by
    have hj6 : j ≤ 6 := by omega
    match j, hj6 with
    | 0, _ => decide
    | 1, _ => decide
    | 2, _ => decide
    | 3, _ => decide
    | 4, _ => decide
    | 5, _ => decide
    | 6, _ => decide
  omega
/-- the time of an order, in parts of one unit -/
def tmO (ls ss a : List Int) (P : Int) : Nat → Int
  | 0 => 0
  | j + 1 => tmO ls ss a P j + ls.getD j 0 * P.tdiv (ss.getD (a.getD j 0).toNat 0)
theorem tdv_bd {P s : Int} (hP : 1 ≤ P) (hP2 : P ≤ 1000000000000) (hs : 1 ≤ s) : 0 ≤ P.tdiv s ∧ P.tdiv s ≤ 1000000000000 := by
  have := tdiv_abs P s hs
  have h0 : 0 ≤ P.tdiv s := Int.tdiv_nonneg (by omega) (by omega)
  have e : ab P = P := by unfold ab; split <;> omega
  omega
theorem tmO_bd {ls ss a : List Int} {P : Int} (h1 : ∀ i, i < ls.length → 1 ≤ ls.getD i 0 ∧ ls.getD i 0 ≤ 1000) (h2 : ∀ i, i < ss.length → 1 ≤ ss.getD i 0 ∧ ss.getD i 0 ≤ 100) (ha : ∀ i, i < ls.length → 0 ≤ a.getD i 0 ∧ a.getD i 0 < (ss.length : Int)) (p1 : 1 ≤ P) (p2 : P ≤ 1000000000000) :
    ∀ j, j ≤ ls.length → 0 ≤ tmO ls ss a P j ∧ tmO ls ss a P j ≤ 1000000000000000 * (j : Int)
  | 0, _ => by simp [tmO]
  | j + 1, hj => by
    have ih := tmO_bd h1 h2 ha p1 p2 j (by omega)
    have b := h1 j (by omega)
    have c := ha j (by omega)
    have d := h2 (a.getD j 0).toNat (by omega)
    have e := tdv_bd p1 p2 d.1
    have m := mul_bd (ls.getD j 0) (P.tdiv (ss.getD (a.getD j 0).toNat 0)) 1000 1000000000000 (by omega) b.2 e.1 e.2
    simp only [tmO]
    omega
/-- whether the order a is better than b -/
def btO (ls ss a b : List Int) (least : Bool) : Bool :=
  if least then decide (tmO ls ss a (prS ss ss.length) ls.length < tmO ls ss b (prS ss ss.length) ls.length) else decide (tmO ls ss b (prS ss ss.length) ls.length < tmO ls ss a (prS ss ss.length) ls.length)
theorem rd_at {w : World} {a : Option Addr} {xs : List Int} (h : Rd w a xs) {j : Nat} (hj : j < xs.length) : ∃ b off, a = some ⟨b, off, none⟩ ∧ b < w.heap.size ∧ ∀ i, i < xs.length → w.cell? ⟨b, off + i, none⟩ = some (.int .i64 (xs.getD i 0)) := by
  rcases h with h | ⟨b, off, rfl, hlt, hc⟩
  · rw [h] at hj; exact absurd hj (Nat.not_lt_zero _)
  · exact ⟨b, off, rfl, hlt, hc⟩
set_option maxHeartbeats 4000000 in
theorem reBetter_any (la sa aa ba : Option Addr) (lc sc ac bc na nb : Nat) (ls ss a b : List Int) (least : Bool) (w : World) (hL : Rd w la ls) (hS : Rd w sa ss) (hA : Rd w aa a) (hB : Rd w ba b)
    (h1 : ∀ i, i < ls.length → 1 ≤ ls.getD i 0 ∧ ls.getD i 0 ≤ 1000) (h2 : ∀ i, i < ss.length → 1 ≤ ss.getD i 0 ∧ ss.getD i 0 ≤ 100) (hl : ls.length ≤ 6) (hs : ss.length ≤ 6)
    (ha : ∀ i, i < ls.length → 0 ≤ a.getD i 0 ∧ a.getD i 0 < (ss.length : Int)) (hb : ∀ i, i < ls.length → 0 ≤ b.getD i 0 ∧ b.getD i 0 < (ss.length : Int)) (hna : a.length = ls.length) (hnb : b.length = ls.length) :
    Calls Try.prog 53 #[.slice la ls.length lc, .slice sa ss.length sc, .slice aa a.length ac, .slice ba b.length bc, .bool least] w fun e w' => e = .returned (.bool (btO ls ss a b least)) ∧ w = w' := by
  have HP := Lib.hid (fun (j : Nat) (hj : j ≤ ss.length) => prS_num h2 hs hj)
  have H1 := Lib.hid h1
  have H2 := Lib.hid h2
  have HA := Lib.hid ha
  have HB := Lib.hid hb
  have hP := prS_num h2 hs (Nat.le_refl _)
  have HTA := Lib.hid (tmO_bd h1 h2 ha hP.1 hP.2)
  have HTB := Lib.hid (tmO_bd h1 h2 hb hP.1 hP.2)
  clear h1 h2 ha hb
  go_enter Try.func53, Try.ntmps53
  go_wp2_with fail
  go_loopg [11, 20] ss.length (fun k v4 v9 wr => ∃ (j : Nat) (s : Int), v4 = .int .i64 s ∧ v9 = .int .i64 (j : Int) ∧ j + k ≤ ss.length ∧ ss.length ≤ j + k ∧ Hid (prS ss j = s) ∧ w = wr)
  case atStart => exact ⟨0, 1, rfl, rfl, by omega, by omega, rfl, rfl⟩
  case round =>
    obtain ⟨j, s, rfl, rfl, g1, g2, hsum, rfl⟩ := hrel
    by_cases hj : j < ss.length
    · obtain ⟨b1, o1, rfl, hlt, hc⟩ := rd_at hS hj
      have hcj := hc j hj
      have hjI : (j : Int) < (ss.length : Int) := by omega
      have bs := HP.out j (by omega)
      rw [hsum.out] at bs
      have bt := H2.out j hj
      have hsum2 : Hid (prS ss (j + 1) = s * ss.getD j 0) := by unfold Hid; rw [← hsum.out]; rfl
      clear hsum hc hP
      generalize ss.getD j 0 = x at *
      have m := mul_bd s x 1000000000000 100 (by omega) (by omega) (by omega) (by omega)
      go_wp2_with fail
      go_roundg (gk - 1)
      case rel => exact ⟨j + 1, s * x, by go_num, by go_num, by omega, by omega, hsum2, rfl⟩
      case measure => omega
    · obtain rfl : j = ss.length := by omega
      have hE : btO ls ss a b least = if least then decide (tmO ls ss a s ls.length < tmO ls ss b s ls.length) else decide (tmO ls ss b s ls.length < tmO ls ss a s ls.length) := by unfold btO; rw [hsum.out]
      rw [hsum.out] at HTA HTB hP
      have HE := Lib.hid hE
      clear hE hsum
      go_wp2_with fail
      go_loopg [14, 15, 30] ls.length (fun k v14 v15 v30 wr => ∃ (j : Nat) (p q : Int), v14 = .int .i64 p ∧ v15 = .int .i64 q ∧ v30 = .int .i64 (j : Int) ∧ j + k ≤ ls.length ∧ ls.length ≤ j + k ∧ Hid (tmO ls ss a s j = p) ∧ Hid (tmO ls ss b s j = q) ∧ w = wr)
      case atStart => exact ⟨0, 0, 0, rfl, rfl, rfl, by omega, by omega, rfl, rfl, rfl⟩
      case round =>
        obtain ⟨j, p, q, rfl, rfl, rfl, g3, g4, hp, hq, rfl⟩ := hrel
        by_cases hj : j < ls.length
        · obtain ⟨b1, o1, rfl, hlt1, hc1⟩ := rd_at hL hj
          obtain ⟨b3, o3, rfl, hlt3, hc3⟩ := rd_at hA (show j < a.length by omega)
          obtain ⟨b4, o4, rfl, hlt4, hc4⟩ := rd_at hB (show j < b.length by omega)
          have xa := HA.out j hj
          have xb := HB.out j hj
          obtain ⟨b2, o2, rfl, hlt2, hc2⟩ := rd_at hS (show (a.getD j 0).toNat < ss.length by omega)
          have k1 := hc1 j hj
          have k3 := hc3 j (by omega)
          have k4 := hc4 j (by omega)
          have k5 := hc2 (a.getD j 0).toNat (by omega)
          have k6 := hc2 (b.getD j 0).toNat (by omega)
          have hjI : (j : Int) < (ls.length : Int) := by omega
          have hjA : (j : Int) < (a.length : Int) := by omega
          have hjB : (j : Int) < (b.length : Int) := by omega
          have ya := H2.out (a.getD j 0).toNat (by omega)
          have yb := H2.out (b.getD j 0).toNat (by omega)
          have bl := H1.out j hj
          have pb := HTA.out j (by omega)
          have qb := HTB.out j (by omega)
          rw [hp.out] at pb
          rw [hq.out] at qb
          have hp2 : Hid (tmO ls ss a s (j + 1) = p + ls.getD j 0 * s.tdiv (ss.getD (a.getD j 0).toNat 0)) := by unfold Hid; rw [← hp.out]; rfl
          have hq2 : Hid (tmO ls ss b s (j + 1) = q + ls.getD j 0 * s.tdiv (ss.getD (b.getD j 0).toNat 0)) := by unfold Hid; rw [← hq.out]; rfl
          clear hp hq hc1 hc2 hc3 hc4
          generalize a.getD j 0 = u at *
          generalize b.getD j 0 = v at *
          generalize ls.getD j 0 = x at *
          generalize hsu : ss.getD u.toNat 0 = su at *
          generalize hsv : ss.getD v.toNat 0 = sv at *
          clear hsu hsv
          have du := tdv_bd hP.1 hP.2 ya.1
          have dv := tdv_bd hP.1 hP.2 yb.1
          have nu : ¬ su = 0 := by omega
          have nv : ¬ sv = 0 := by omega
          have mu := mul_bd x (s.tdiv su) 1000 1000000000000 (by omega) (by omega) du.1 du.2
          have mv := mul_bd x (s.tdiv sv) 1000 1000000000000 (by omega) (by omega) dv.1 dv.2
          have w1 : IntKind.i64.wrap (s.tdiv su) = s.tdiv su := IntWalk.i64_in _ (by omega)
          have w2 : IntKind.i64.wrap (s.tdiv sv) = s.tdiv sv := IntWalk.i64_in _ (by omega)
          have w3 : IntKind.i64.wrap (x * s.tdiv su) = x * s.tdiv su := IntWalk.i64_in _ (by omega)
          have w4 : IntKind.i64.wrap (x * s.tdiv sv) = x * s.tdiv sv := IntWalk.i64_in _ (by omega)
          have w5 : IntKind.i64.wrap (p + x * s.tdiv su) = p + x * s.tdiv su := IntWalk.i64_in _ (by omega)
          have w6 : IntKind.i64.wrap (q + x * s.tdiv sv) = q + x * s.tdiv sv := IntWalk.i64_in _ (by omega)
          go_wp2_with fail
          go_roundg (gk - 1)
          case rel => exact ⟨j + 1, _, _, rfl, rfl, by go_num, by omega, by omega, hp2, hq2, rfl⟩
          case measure => omega
        · obtain rfl : j = ls.length := by omega
          rw [hp.out, hq.out] at HE
          clear hp hq
          cases least
          · have HF := Lib.hid (show btO ls ss a b false = decide (q < p) from HE.out)
            go_wp2_with fail
            go_ret
            rw [HF.out]
            exact ⟨by first | rfl | simp, rfl⟩
          · have HF := Lib.hid (show btO ls ss a b true = decide (p < q) from HE.out)
            go_wp2_with fail
            go_ret
            rw [HF.out]
            exact ⟨by first | rfl | simp, rfl⟩
end Go.Proofs.Ytlfjgggidoakaaa
