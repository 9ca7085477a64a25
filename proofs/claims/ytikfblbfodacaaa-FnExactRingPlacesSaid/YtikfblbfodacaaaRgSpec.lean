/- RingPlaces: the model's function by contracts. -/
import Derived.Test.YtikfblbfodacaaaRgMath
import Derived.Test.YtikfblbfodacaaaTwoRing
import Derived.Test.YtikfblbfodacaaaRowsX
import Derived.WalkKit
import Derived.WalkSpells
import Derived.WalkLawsBesides
import Derived.Lib.Hide
import Derived.Deep.LoopGhost
import Derived.Deep.QuietTactic
import Derived.Deep.RegionHeld3
import Derived.BigQuiet
namespace Go.Proofs.Ytikfblbfodacaaa
open Go.RowKit
set_option linter.unusedVariables false
set_option linter.unusedSimpArgs false
/-- what a function of ([][]int, bool) answers -/
def RetSSR (w : World) (ks : List (List Int)) (ok : Bool) (e : Ending) (w' : World) : Prop :=
  ∃ (a : Option Addr) (cap : Nat), e = .returned (.tuple #[.slice a ks.length cap, .bool ok]) ∧ OwnSS w' w.heap.size a cap ks ∧ Below w.heap.size w w'
theorem retSSR_none {w w' : World} (hb : Below w.heap.size w w') {e : Ending} (he : e = .returned (.tuple #[.slice none 0 0, .bool false])) : RetSSR w [] false e w' :=
  ⟨none, 0, he, (RowsX.nil w' w.heap.size (fun _ => 0) []).own rfl, hb⟩
/-- a slice of the call's own, as l1Put takes it -/
def OwR (w : World) (base : Nat) (a : Option Addr) (cap : Nat) (xs : List Int) : Prop :=
  (a = none ∧ cap = 0 ∧ xs = []) ∨ ∃ g, a = some ⟨g, 0, none⟩ ∧ base ≤ g ∧ xs.length ≤ cap ∧ w.ownsRow base 3 1 (.slice a xs.length cap) xs.length (xs.map (Value.int .i64))
theorem OwR.below {w w' : World} {base : Nat} {a : Option Addr} {cap : Nat} {xs : List Int} (h : OwR w base a cap xs) (hb : Below w.heap.size w w') : OwR w' base a cap xs := by
  rcases h with h | ⟨g, e, hg, hc, ho⟩
  · exact .inl h
  · exact .inr ⟨g, e, hg, hc, rowB ho hb⟩
theorem OwR.rd {w : World} {base : Nat} {a : Option Addr} {cap : Nat} {xs : List Int} (h : OwR w base a cap xs) : Rd w a xs := by
  rcases h with ⟨_, _, h⟩ | ⟨g, e, hg, hc, ho⟩
  · exact .inl h
  · exact Own.rd (base := base) (cap := cap) ho
theorem OwR.keptX {w w' : World} {base cap : Nat} {a : Option Addr} {xs : List Int} {v : Value} {n : Nat} {l : List Value} (h : OwR w base a cap xs) (k : w.ownsRow base 54 1 v n l) (hg : w.grownBy w' v.ownBlock) : OwR w' base a cap xs := by
  rcases h with h | ⟨g, e, hb, hc, ho⟩
  · exact .inl h
  · exact .inr ⟨g, e, hb, hc, World.ownsRow.kept ho hg (own_neX ho k int_ne_slice)⟩
theorem rput_len (out : List Int) (v : Int) : (putI out v).length = out.length + 1 := by rw [(rput_perm out v).length_eq]; simp
theorem l1Put_R (a : Option Addr) (cap base : Nat) (xs : List Int) (v : Int) (w : World) (h : OwR w base a cap xs) (hb : base ≤ w.heap.size) (h63 : xs.length ≤ 1000000) :
    Calls Try.prog 27 #[.slice a xs.length cap, .int .i64 v] w fun e w' => ∃ a2 c2, e = .returned (.slice a2 (rgPut xs v).length c2) ∧ Below w.heap.size w w' ∧ OwR w' base a2 c2 (rgPut xs v) := by
  have h' := h
  rcases h with ⟨rfl, rfl, rfl⟩ | ⟨g, rfl, hg, hc, ho⟩
  · refine (l1Put_none v w).mono ?_
    rintro e w' ⟨a2, c2, rfl, hbl, hO⟩
    obtain ⟨g, rfl, h1, h2, h3⟩ := row_someP hO (by omega)
    have e1 : rgPut [] v = [v] := by simp [rgPut, putB, putI, lowI]
    rw [e1]
    exact ⟨_, _, rfl, hbl, .inr ⟨g, rfl, by omega, h3, row_base hO hb⟩⟩
  · have hlt := (ho.lt g rfl).2
    refine (l1Put_some g 0 cap xs.length xs v w rfl hc h63 hlt (fun i hi => by
      rw [Nat.zero_add, ho.cellAt i (by omega), List.getElem?_map, List.getElem?_eq_getElem hi]
      simp [List.getD, List.getElem?_eq_getElem hi])).mono ?_
    rintro e w' ⟨a2, m, c2, rfl, hbl, hr⟩
    rcases hr with ⟨q, rfl, rfl, rfl⟩ | ⟨q, rfl, hO⟩
    · have e1 : rgPut xs v = xs := by unfold rgPut; rw [if_pos q]
      rw [e1]
      exact ⟨_, _, rfl, hbl, h'.below hbl⟩
    · have e1 : rgPut xs v = putI xs v := by unfold rgPut; rw [if_neg (by rw [q]; simp)]
      obtain ⟨g2, rfl, h1, h2, h3⟩ := row_someP hO (by omega)
      rw [e1]
      exact ⟨_, _, by rw [rput_len], hbl, .inr ⟨g2, rfl, by omega, by rw [rput_len]; exact h3, by rw [rput_len]; exact row_base hO hb⟩⟩
theorem meModW_any (n m : Int) (h1 : 1 ≤ m) (h2 : m ≤ 1000000) (h3 : -1000000000000 ≤ n) (h4 : n ≤ 1000000000000) (w : World) :
    Calls Try.prog 26 #[.int .i64 n, .int .i64 m] w fun e w' => e = .returned (.int .i64 (mo n m)) ∧ w' = w := by
  have b := tmod_bd n m h1
  have e := Lib.hid (mo_eq n m h1)
  have x0 : ¬ m = 0 := by omega
  have x1 : (m == 0) = false := by simp; omega
  have x2 : ¬ m = -1 := by omega
  go_enter Try.func26, Try.ntmps26
  go_wp2
  go_ret
  exact ⟨rI (by first | exact e.out | (rw [← e.out]; rfl) | (rw [← e.out, Int.tmod_eq_emod_of_nonneg (by omega)])), rfl⟩
theorem rgK_bd {m p s q r : Int} (hm : 1 ≤ m) (hn : 1 ≤ nrr s r) (k : Nat) : 0 ≤ rgK m p s q r k ∧ rgK m p s q r k < m * nrr s r := by
  have : 0 < m * nrr s r := Int.mul_pos (by omega) (by omega)
  exact mo_bd _ _ (by omega)
theorem rgP_bd {m p s q r : Int} (hm : 1 ≤ m) (hn : 1 ≤ nrr s r) {n j : Nat} (hj : j < (rgP (rgK m p s q r) n).length) : 0 ≤ (rgP (rgK m p s q r) n).getD j 0 ∧ (rgP (rgK m p s q r) n).getD j 0 < m * nrr s r := by
  have : (rgP (rgK m p s q r) n).getD j 0 ∈ rgP (rgK m p s q r) n := by rw [List.getD, List.getElem?_eq_getElem hj]; exact List.getElem_mem hj
  obtain ⟨i, hi, e⟩ := ((rgP_spec _ n).2 _).1 this
  rw [← e]
  exact rgK_bd hm hn i
/-- the products stay small -/
theorem rg_small {m p s a N : Int} {j n : Nat} (m1 : 1 ≤ m) (m2 : m ≤ 1000) (p1 : -1000 ≤ p) (p2 : p ≤ 1000) (s1 : -100 ≤ s) (s2 : s ≤ 100) (a0 : 0 ≤ a) (a1 : a < m) (n1 : 1 ≤ N) (n2 : N ≤ 200) (hN : (n : Int) = N) (hj : j < n) :
    0 ≤ (j : Int) * m ∧ (j : Int) * m ≤ 200000 ∧ -200000 ≤ p * N ∧ p * N ≤ 200000 ∧ -20100000 ≤ s * (a + (j : Int) * m) ∧ s * (a + (j : Int) * m) ≤ 20100000 ∧ 1 ≤ m * N ∧ m * N ≤ 200000 := by
  have c1 := mul_ab (j : Int) m 200 1000 (by omega) (by omega) (by omega) (by omega)
  have c2 := mul_ab p N 1000 200 (by omega) (by omega) (by omega) (by omega)
  have c0 : 0 ≤ (j : Int) * m := Int.mul_nonneg (by omega) (by omega)
  have c3 := mul_ab s (a + (j : Int) * m) 100 201000 (by omega) (by omega) (by omega) (by omega)
  have c4 := mul_ab m N 1000 200 (by omega) (by omega) (by omega) (by omega)
  have c5 : 0 < m * N := Int.mul_pos (by omega) (by omega)
  omega
set_option maxHeartbeats 4000000 in
set_option maxRecDepth 100000 in
theorem specRingPlaces (m p s q r : Int) (w : World) :
    Calls Try.prog 12 #[.int .i64 m, .agg #[.int .i64 p, .int .i64 s], .agg #[.int .i64 q, .int .i64 r]] w (RetSSR w (rgR m p s q r) (rgB m p s q r)) := by
  obtain ⟨i0, hi, hz0, hz1, hz2⟩ := info_parts sliceInfoX
  have B0 : Below w.heap.size w ((w.alloc (.cells #[.int .i64 p, .int .i64 s] 36)).alloc (.cells #[.int .i64 q, .int .i64 r] 36)) := by (repeat (first | exact Below.refl _ _ | refine Below.drew ?_ | refine below_drewN ?_ _ | refine Below.setCell ?_ (by first | omega | (simp; done) | (simp; omega)) _ | refine Below.alloc ?_ (by first | omega | (simp; done) | (simp; omega)) _ | refine bchain ?_ (by assumption) (by first | omega | (simp; done) | (simp; omega))))
  cases hg : (inB m 1 1000 && wkOk p s && wkOk q r)
  · have HR := Lib.hid (show rgR m p s q r = [] ∧ rgB m p s q r = false by unfold rgR rgB; rw [hg]; exact ⟨rfl, rfl⟩)
    have HG := Lib.hid hg
    clear hg
    rw [HR.out.1, HR.out.2]
    go_enter Try.func12, Try.ntmps12
    go_wp2_with (first | (go_at_call 24; refine (meRing_any m p s q r _).mono ?_; rw [HG.out]; rintro e w1 ⟨rfl, hb⟩) | fail)
    go_ret2
    exact retSSR_none (B0.trans (hb.mono (by simp; omega))) rfl
  · have hg' := hg
    rw [Bool.and_eq_true, Bool.and_eq_true] at hg
    obtain ⟨⟨hm, hv⟩, hw⟩ := hg
    have HG := Lib.hid hg'
    clear hg'
    have h1 := (inB_iff.1 hm).1
    have h2 := (inB_iff.1 hm).2
    obtain ⟨p1, p2, s1, s2⟩ := wkOk_iff.1 hv
    have b1 := mo_bd (bhd p s q r) m h1
    have b3 := nrr_bd hv hw
    have b2 : 0 ≤ bm m p s q r ∧ bm m p s q r < m := b1
    have HV := Lib.hid hv
    have HW := Lib.hid hw
    clear b1 hm hv hw
    by_cases f : s = r
    · have HR := Lib.hid (show rgR m p s q r = [] ∧ rgB m p s q r = false by unfold rgR rgB; simp [f])
      have x1 : (s == r) = true := by simp [f]
      clear f
      rw [HR.out.1, HR.out.2]
      go_enter Try.func12, Try.ntmps12
      go_wp2_with fail
      refine (meRing_any m p s q r _).mono ?_; rw [HG.out]; rintro e w1 ⟨rfl, hb⟩
      have hc := (bcell hb).1
      have e0 : w1.cell? ⟨w.heap.size, 1, none⟩ = some (.int .i64 s) := by rw [hc _ _ (by simp; omega)]; go_simp
      have e1 : w1.cell? ⟨w.heap.size + 1, 1, none⟩ = some (.int .i64 r) := by rw [hc _ _ (by simp)]; go_simp
      clear hc
      go_wp2_with fail
      go_ret2
      exact retSSR_none (B0.trans (hb.mono (by simp; omega))) rfl
    · have HB := Lib.hid (show rgB m p s q r = true by unfold rgB; rw [HG.out]; simp [f])
      have HR := Lib.hid (show rgR m p s q r = rgL m p s q r by unfold rgR; rw [HB.out]; rfl)
      have x1 : (s == r) = false := by simp [f]
      have x3 : nrr s r ≠ 0 := fun h => f (nrr_zero.1 h)
      have x4 : 1 ≤ nrr s r := by omega
      clear f x3
      rw [HR.out, HB.out]
      obtain ⟨n, hn⟩ : ∃ n : Nat, (n : Int) = nrr s r := ⟨(nrr s r).toNat, by omega⟩
      have hn2 : (nrr s r).toNat = n := by omega
      have HKL := Lib.hid (rgL_len m p s q r)
      have HKA := Lib.hid (fun j h => rgL_at (m := m) (p := p) (s := s) (q := q) (r := r) (j := j) h)
      have HPB := Lib.hid (fun j h => rgP_bd (m := m) (p := p) (s := s) (q := q) (r := r) h1 x4 (n := n) (j := j) h)
      have HPL := Lib.hid (fun j => rgP_len (rgK m p s q r) j)
      have HPS := Lib.hid (show ∀ j, rgPut (rgP (rgK m p s q r) j) (rgK m p s q r j) = rgP (rgK m p s q r) (j + 1) from fun j => rfl)
      have HKE := Lib.hid (show ∀ j : Nat, mo (p * nrr s r + s * (bm m p s q r + (j : Int) * m)) (m * nrr s r) = rgK m p s q r j from fun j => rfl)
      rw [hn2] at HKL HKA
      obtain ⟨ks, hks⟩ : ∃ ks, ks = rgL m p s q r := ⟨_, rfl⟩
      rw [← hks] at HKL HKA ⊢
      have HMA := Lib.hid (fun w => meAhead_any m p s q r h1 h2 HV.out HW.out w)
      have HMR := Lib.hid (fun w => meRing_any m p s q r w)
      rw [HG.out] at HMR
      have HN := Lib.hid hn
      clear hks hn2 hn
      generalize rgK m p s q r = K at *
      generalize bm m p s q r = A0 at *
      generalize nrr s r = N at *
      go_enter Try.func12, Try.ntmps12
      go_wp2_with fail
      refine (HMR.out _).mono ?_; rintro e w1 ⟨rfl, hb⟩
      have hc := (bcell hb).1
      have e0 : w1.cell? ⟨w.heap.size, 0, none⟩ = some (.int .i64 p) := by rw [hc _ _ (by simp; omega)]; go_simp
      have e1 : w1.cell? ⟨w.heap.size, 1, none⟩ = some (.int .i64 s) := by rw [hc _ _ (by simp; omega)]; go_simp
      have e2 : w1.cell? ⟨w.heap.size + 1, 0, none⟩ = some (.int .i64 q) := by rw [hc _ _ (by simp)]; go_simp
      have e3 : w1.cell? ⟨w.heap.size + 1, 1, none⟩ = some (.int .i64 r) := by rw [hc _ _ (by simp)]; go_simp
      have z1 := hb.size
      have B1 := Lib.hid (B0.trans (hb.mono (by simp; omega)))
      rw [World.size_alloc, World.size_alloc] at z1
      clear hc hb B0
      go_wp2_with fail
      refine (HMA.out _).mono ?_; rintro e w2 ⟨rfl, hb⟩
      have z2 := hb.size
      have f0 : w2.cell? ⟨w.heap.size, 0, none⟩ = some (.int .i64 p) := by rw [(bcell hb).1 _ _ (by omega)]; exact e0
      have f1 : w2.cell? ⟨w.heap.size, 1, none⟩ = some (.int .i64 s) := by rw [(bcell hb).1 _ _ (by omega)]; exact e1
      have B2 := Lib.hid (B1.out.trans (hb.mono (by omega)))
      clear hb e0 e1 e2 e3 B1
      go_wp2_with fail
      go_loopg [10, 11] n (fun f va vb wr => ∃ (j : Nat) (a : Option Addr) (c : Nat), va = .slice a (rgP K j).length c ∧ vb = .int .i64 (j : Int) ∧ j + f = n ∧ OwR wr w.heap.size a c (rgP K j) ∧ wr.cell? ⟨w.heap.size, 0, none⟩ = some (.int .i64 p) ∧ wr.cell? ⟨w.heap.size, 1, none⟩ = some (.int .i64 s) ∧ w.heap.size + 2 ≤ wr.heap.size ∧ Below w.heap.size w wr)
      case atStart => exact ⟨0, none, 0, rfl, rfl, by omega, .inl ⟨rfl, rfl, rfl⟩, f0, f1, by omega, B2.out⟩
      case round =>
        clear f0 f1
        obtain ⟨j, a, c, rfl, rfl, hj, hO, e0, e1, hz, hB⟩ := hrel
        have HO := Lib.hid hO
        have HBl := Lib.hid hB
        clear hO hB
        by_cases qj : j < n
        · have hjI : (j : Int) < N := by have := HN.out; omega
          obtain ⟨c1, c2, c3, c4, c5, c6, c7, c8⟩ := rg_small h1 h2 p1 p2 s1 s2 b2.1 b2.2 x4 b3.2 HN.out qj
          have u1 : IntKind.i64.wrap (p * N) = p * N := IntWalk.i64_in _ (by omega)
          have u2 : IntKind.i64.wrap ((j : Int) * m) = (j : Int) * m := IntWalk.i64_in _ (by omega)
          have u3 : IntKind.i64.wrap (A0 + (j : Int) * m) = A0 + (j : Int) * m := IntWalk.i64_in _ (by omega)
          have u4 : IntKind.i64.wrap (s * (A0 + (j : Int) * m)) = s * (A0 + (j : Int) * m) := IntWalk.i64_in _ (by omega)
          have u5 : IntKind.i64.wrap (p * N + s * (A0 + (j : Int) * m)) = p * N + s * (A0 + (j : Int) * m) := IntWalk.i64_in _ (by omega)
          have u6 : IntKind.i64.wrap (m * N) = m * N := IntWalk.i64_in _ (by omega)
          have u7 : IntKind.i64.wrap ((j : Int) + 1) = (j : Int) + 1 := IntWalk.i64_in _ (by omega)
          have HM := Lib.hid (fun W => meModW_any (p * N + s * (A0 + (j : Int) * m)) (m * N) c7 (by omega) (by omega) (by omega) W)
          rw [HKE.out j] at HM
          have HP := Lib.hid (l1Put_R a c w.heap.size (rgP K j) (K j) wr HO.out (by omega) (by have := HPL.out j; omega))
          rw [HPS.out j] at HP
          clear c1 c2 c3 c4 c5 c6 c7 c8
          go_wp2_with fail
          refine (HM.out _).mono ?_; rintro e w3 ⟨rfl, rfl⟩
          go_wp2_with fail
          refine HP.out.mono ?_; rintro e w4 ⟨a4, c4, rfl, hb4, hO4⟩
          have HO4 := Lib.hid hO4
          have HB4 := Lib.hid hb4
          clear hO4 hb4
          go_wp2_with fail
          go_roundg (gk - 1)
          case rel => exact ⟨j + 1, a4, c4, rfl, by go_num, by omega, HO4.out, by rw [(bcell HB4.out).1 _ _ (by omega)]; exact e0, by rw [(bcell HB4.out).1 _ _ (by omega)]; exact e1, by have := HB4.out.size; omega, HBl.out.trans (HB4.out.mono (by omega))⟩
          case measure => omega
        · obtain rfl : j = n := by omega
          have hjI : ¬ (j : Int) < N := by have := HN.out; omega
          have HRD := HO
          clear e0 e1
          obtain ⟨xs, hxs⟩ : ∃ xs, xs = rgP K j := ⟨_, rfl⟩
          rw [← hxs] at HRD HPB HKA HKL ⊢
          have hlen : xs.length ≤ 200 := by have := HPL.out j; have := HN.out; rw [hxs]; omega
          clear hxs HO
          go_wp2_with fail
          go_loopg [13, 64] xs.length (fun f va vb W => ∃ (i : Nat) (ao : Option Addr) (co : Nat) (β : Nat → Nat), va = .slice ao i co ∧ vb = .int .i64 (i : Int) ∧ i + f ≤ xs.length ∧ xs.length ≤ i + f ∧ RowsX W w.heap.size ao co i β ks ∧ Below w.heap.size w W ∧ OwR W w.heap.size a c xs)
          case atStart => exact ⟨0, none, 0, fun _ => 0, rfl, rfl, by omega, by omega, RowsX.nil _ _ _ _, HBl.out, HRD.out⟩
          case round =>
            clear HRD
            obtain ⟨i, ao, co, β, rfl, rfl, g1, g2, hX, hbel, hR⟩ := hrel
            have hsz := hbel.size
            by_cases qi : i < xs.length
            · have hiI : (i : Int) < (xs.length : Int) := by omega
              have HX := Lib.hid hX
              have HB := Lib.hid hbel
              have HR2 := Lib.hid hR
              rcases hR.rd with hR | ⟨bk, off, rfl, hlt, hcc⟩
              · rw [hR] at qi; exact absurd qi (Nat.not_lt_zero _)
              · have hci := hcc i qi
                have HA := Lib.hid (HKA.out i qi)
                have hxb := HPB.out i qi
                have hmN := (mul_ab m N 1000 200 (by omega) (by omega) (by omega) (by omega)).2
                have HQ := Lib.hid (fun W => meLow_pos (xs.getD i 0) N (by omega) (by omega) x4 (by omega) W)
                clear hcc hX hbel hmN hR
                generalize xs.getD i 0 = x at *
                generalize lwN x N = pN at *
                generalize lwD x N = qN at *
                go_wp2_with fail
                refine (HQ.out _).mono ?_; rintro e w5 ⟨rfl, hb⟩
                have HB1 := Lib.hid hb
                have hs1 := hb.size
                have HO := Lib.hid (HX.out.below hb).1
                clear hb
                go_wp2_with (first | (at_builtin; refine wpList_append_own _ rfl _ _ 33 rfl w.heap.size 54 i0 (.slice none 0 0) 1 24 Try.underlying33 hi hz0 hz1 hz2 rfl (by decide) _ _ _ rfl ((HO.out.alloc _).alloc _) ⟨w5.heap.size + 1, 0, none⟩ 1 1 [.slice (some ⟨w5.heap.size, 0, none⟩) 2 2] rfl rfl (cell_one_newX _ _ _ _) (fun u hu => by simp at hu; subst hu; rfl) (by unfold maxLen; omega) (by omega) (by simp; omega) ?_; intro v1 w6 hO6 hgrow hx; clear hx; have HG3 := Lib.hid hgrow; have HO3 := Lib.hid hO6; clear hgrow hO6))
                obtain ⟨a3, c3, rfl⟩ := row_formX HO3.out
                have hbA : Below w5.heap.size w5 ((w5.alloc (.cells #[.int .i64 pN, .int .i64 qN] 3)).alloc (.cells #[.slice (some ⟨w5.heap.size, 0, none⟩) 2 2] 54)) := ((Below.refl _ _).alloc (Nat.le_refl _) _).alloc (by simp) _
                have hN := own_twoX w5 (base := w.heap.size) (by omega) pN qN
                have hX3 := RowsX.grown (β := β) (ks := ks) HX.out (B := w5.heap.size) (HB1.out.trans (hbA.mono hs1)) hs1 (by rw [HA.out]; exact hN.below ((Below.refl _ _).alloc (Nat.le_refl _) _)) HG3.out (by rw [HA.out]; exact HO3.out)
                have hB3 := (HB.out.trans ((HB1.out.trans (hbA.mono hs1)).mono hsz)).grown HG3.out (by simp; omega) (fun k hk => (HO.out.lt k hk).1)
                have hR3 := ((HR2.out.below HB1.out).below hbA).keptX ((HO.out.alloc _).alloc _) HG3.out
                go_roundg (gk - 1)
                case rel => exact ⟨i + 1, a3, c3, _, rfl, by go_num, by omega, by omega, hX3, hB3, hR3⟩
                case measure => omega
            · obtain rfl : i = xs.length := by omega
              have HF := Lib.hid (hX.own HKL.out)
              have HB := Lib.hid hbel
              clear hX hbel hR
              go_wp2_with fail
              go_ret2
              exact ⟨ao, co, by rw [HKL.out]; rfl, HF.out, HB.out⟩
end Go.Proofs.Ytikfblbfodacaaa
