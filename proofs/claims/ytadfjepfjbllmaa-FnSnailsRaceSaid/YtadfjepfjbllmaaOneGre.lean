/- Contracts of chapter 1's functions, the program's and the model's, over one translation. -/
import Derived.Test.YtadfjepfjbllmaaProg
import Derived.Test.YtadfjepfjbllmaaOneWalks
import Derived.Test.YtadfjepfjbllmaaMathG
import Derived.Test.YtadfjepfjbllmaaOneHei
import Derived.Deep.LoopGhost
import Derived.Deep.QuietTactic
import Derived.BigQuiet
import Derived.RegionTactic
import Derived.WalkKit
import Derived.WalkSpells
import Derived.WalkLawsBesides
import Derived.Lib.Hide
import Derived.Deep.RegionWith
namespace Go.Proofs.Ytadfjepfjbllmaa
open Go.RowKit
set_option linter.unusedVariables false
set_option linter.unusedSimpArgs false
set_option maxRecDepth 100000
set_option maxHeartbeats 2000000 in
theorem specGreatest (up y : Int) (a : Option Addr) (cap : Nat) (xs : List Int) (w : World) (h : Rd w a xs) (hn0 : xs.length ≤ 4611686018427387904) :
    Calls Try.prog 20 #[.int .i64 up, .slice a xs.length cap, .int .i64 y] w fun e w' => e = .returned (.tuple #[.int .i64 (if (slOk up xs && inB y 1 1000000) then tp up xs 0 y.toNat else 0), .bool (slOk up xs && inB y 1 1000000)]) ∧ w = w' := by
  cases hs : slOk up xs <;> cases hy : inB y 1 1000000
  case true.true =>
    have hr := h
    obtain ⟨u1, u2, l1, l2, hsl⟩ := slOk_iff hs
    have yl := inB_iff.1 hy
    have yl1 := yl.1
    have yl2 := yl.2
    clear yl
    obtain ⟨N, rfl⟩ := Int.eq_ofNat_of_zero_le (show 0 ≤ y by omega)
    rcases h with h | ⟨b, off, rfl, hlt, hc⟩
    · rw [h] at l1; exact absurd l1 (by simp)
    have hcell := Lib.hid hc
    have hsl2 := Lib.hid hsl
    clear hc hsl
    have hpb := Lib.hid (fun k => po_bd hs (h := 0) (Int.le_refl _) k)
    have htb := Lib.hid (fun k => tp_bd hs (h := 0) (Int.le_refl _) k)
    go_enter Try.func20, Try.ntmps20
    go_wp2_with (first | (go_at_call 45; refine (specIn _ _ _ _).mono ?_; rintro e w1 ⟨rfl, rfl⟩) | (go_at_call 43; refine (snSlips_any up _ cap xs _ hr hn0).mono ?_; rintro e w1 ⟨rfl, rfl⟩) | go_in)
    go_loopg [8, 9, 10] N (fun k v8 v9 v10 wr => ∃ (j : Nat), v8 = .int .i64 (po up xs 0 j) ∧ v9 = .int .i64 (tp up xs 0 j) ∧ v10 = .int .i64 ((j : Int) + 1) ∧ j + k ≤ N ∧ N ≤ j + k ∧ w = wr)
    case atStart => exact ⟨0, rfl, rfl, by simp, by omega, by omega, rfl⟩
    case round =>
      obtain ⟨j, rfl, rfl, rfl, h1, h2, rfl⟩ := hrel
      have p1 := hpb.out j
      have t1 := htb.out j
      by_cases hj : j < N
      · have hix : j % xs.length < xs.length := Nat.mod_lt _ (by omega)
        have hcj : w.cell? ⟨b, off + j % xs.length, none⟩ = some (.int .i64 (slp xs j)) := hcell.out (j % xs.length) hix
        have hjI : (j : Int) < (N : Int) := by omega
        have hl0 : (xs.length : Int) ≠ 0 := by omega
        have hl1 : (0 : Int) < (xs.length : Int) := by omega
        have hmod : (j : Int) % (xs.length : Int) < (xs.length : Int) := Int.emod_lt_of_pos _ hl1
        have hmod0 : 0 ≤ (j : Int) % (xs.length : Int) := Int.emod_nonneg _ hl0
        have s1 := hsl2.out j
        have hp2 : Hid (po up xs 0 (j + 1) = hig 0 (po up xs 0 j + up - slp xs j)) := rfl
        have ht2 : Hid (tp up xs 0 (j + 1) = hig (tp up xs 0 j) (po up xs 0 j + up)) := rfl
        go_wp2_with (first | (go_at_call 46; refine (most_hig _ _ _).mono ?_; rintro e w2 ⟨rfl, rfl⟩) | go_in)
        go_roundg (gk - 1)
        case rel => exact ⟨j + 1, by rw [hp2.out], by rw [ht2.out], by go_num, by omega, by omega, rfl⟩
        case measure => omega
      · have e : j = N := by omega
        subst e
        go_wp2_with fail
        go_ret2
        exact ⟨rIB (by simp) (by simp), rfl⟩
  all_goals
    go_enter Try.func20, Try.ntmps20
    go_wp2_with (first | (go_at_call 45; refine (specIn _ _ _ _).mono ?_; rintro e w1 ⟨rfl, rfl⟩) | (go_at_call 43; refine (snSlips_any up _ cap xs _ h hn0).mono ?_; rintro e w1 ⟨rfl, rfl⟩) | go_in)
    go_ret2
    exact ⟨rIB rfl rfl, rfl⟩
set_option maxHeartbeats 2000000 in
theorem highestFrom_any (g up : Int) (a : Option Addr) (cap : Nat) (xs : List Int) (N : Nat) (w : World) (hs : slOk up xs = true) (hr : Rd w a xs) (h0 : 0 ≤ g) (h1 : g ≤ 4000000000) (hN : N ≤ 2000000) :
    Calls Try.prog 48 #[.int .i64 g, .int .i64 up, .slice a xs.length cap, .int .i64 (N : Int)] w fun e w' => e = .returned (.int .i64 (tp up xs g N)) ∧ w = w' := by
  obtain ⟨u1, u2, l1, l2, hsl⟩ := slOk_iff hs
  rcases hr with h | ⟨b, off, rfl, hlt, hc⟩
  · rw [h] at l1; exact absurd l1 (by simp)
  have hcell := Lib.hid hc
  have hsl2 := Lib.hid hsl
  clear hc hsl
  have hpb := Lib.hid (fun k => po_bd hs h0 k)
  have htb := Lib.hid (fun k => tp_bd hs h0 k)
  go_enter Try.func48, Try.ntmps48
  go_wp2_with fail
  go_loopg [0, 9, 12] N (fun k v0 v9 v12 wr => ∃ (j : Nat), v0 = .int .i64 (po up xs g j) ∧ v9 = .int .i64 (tp up xs g j) ∧ v12 = .int .i64 (j : Int) ∧ j + k ≤ N ∧ N ≤ j + k ∧ w = wr)
  case atStart => exact ⟨0, rfl, rfl, rfl, by omega, by omega, rfl⟩
  case round =>
    obtain ⟨j, rfl, rfl, rfl, h1, h2, rfl⟩ := hrel
    have p1 := hpb.out j
    have t1 := htb.out j
    by_cases hj : j < N
    · have hix : j % xs.length < xs.length := Nat.mod_lt _ (by omega)
      have hcj : w.cell? ⟨b, off + j % xs.length, none⟩ = some (.int .i64 (slp xs j)) := hcell.out (j % xs.length) hix
      have hjI : (j : Int) < (N : Int) := by omega
      have hl0 : (xs.length : Int) ≠ 0 := by omega
      have hl1 : (0 : Int) < (xs.length : Int) := by omega
      have hmod : (j : Int) % (xs.length : Int) < (xs.length : Int) := Int.emod_lt_of_pos _ hl1
      have hmod0 : 0 ≤ (j : Int) % (xs.length : Int) := Int.emod_nonneg _ hl0
      have s1 := hsl2.out j
      have hp2 : Hid (po up xs g (j + 1) = hig 0 (po up xs g j + up - slp xs j)) := rfl
      have ht2 : Hid (tp up xs g (j + 1) = hig (tp up xs g j) (po up xs g j + up)) := rfl
      by_cases c1 : tp up xs g j < po up xs g j + up <;> by_cases c2 : 0 < po up xs g j + up - slp xs j
      all_goals
        go_wp2_with fail
        all_goals
          go_roundg (gk - 1)
          case rel => exact ⟨j + 1, by rw [hp2.out]; unfold hig; congr 1; (repeat' split) <;> omega, by rw [ht2.out]; unfold hig; congr 1; (repeat' split) <;> omega, by go_num, by omega, by omega, rfl⟩
          case measure => omega
    · have e : j = N := by omega
      subst e
      go_wp2_with fail
      go_ret
      exact ⟨rfl, rfl⟩
theorem arr14 {cs : Array Value} (h : cs.size = 14) : ∃ x0 x1 x2 x3 x4 x5 x6 x7 x8 x9 x10 x11 x12 x13 : Value, cs = #[x0, x1, x2, x3, x4, x5, x6, x7, x8, x9, x10, x11, x12, x13] := by
  obtain ⟨l⟩ := cs
  match l, h with
  | [x0, x1, x2, x3, x4, x5, x6, x7, x8, x9, x10, x11, x12, x13], _ => exact ⟨x0, x1, x2, x3, x4, x5, x6, x7, x8, x9, x10, x11, x12, x13, rfl⟩
theorem start14 (g : Int) : Hid (∀ i, i < 14 → ∃ q : Int, (#[.int .i64 0, .int .i64 0, .int .i64 0, .int .i64 0, .int .i64 0, .int .i64 0, .int .i64 0, .int .i64 0, .int .i64 0, .int .i64 0, .int .i64 0, .int .i64 0, .int .i64 0, .int .i64 g] : Array Value)[i]? = some (.int .i64 q)) := by
  intro i hi
  match i, hi with
  | 0, _ => exact ⟨_, rfl⟩
  | 1, _ => exact ⟨_, rfl⟩
  | 2, _ => exact ⟨_, rfl⟩
  | 3, _ => exact ⟨_, rfl⟩
  | 4, _ => exact ⟨_, rfl⟩
  | 5, _ => exact ⟨_, rfl⟩
  | 6, _ => exact ⟨_, rfl⟩
  | 7, _ => exact ⟨_, rfl⟩
  | 8, _ => exact ⟨_, rfl⟩
  | 9, _ => exact ⟨_, rfl⟩
  | 10, _ => exact ⟨_, rfl⟩
  | 11, _ => exact ⟨_, rfl⟩
  | 12, _ => exact ⟨_, rfl⟩
  | 13, _ => exact ⟨_, rfl⟩
set_option maxHeartbeats 2000000 in
theorem roundFrom_any (g up : Int) (a : Option Addr) (cap : Nat) (xs : List Int) (w : World) (hs : slOk up xs = true) (hr : Rd w a xs) (h0 : 0 ≤ g) (h1 : g ≤ 4000000000) :
    Calls Try.prog 47 #[.int .i64 g, .int .i64 up, .slice a xs.length cap] w fun e w' => ∃ x0 x1 x2 x3 x4 x5 x6 x7 x8 x9 x10 x11 x12 : Int, e = .returned (.agg #[.int .i64 x0, .int .i64 x1, .int .i64 x2, .int .i64 x3, .int .i64 x4, .int .i64 x5, .int .i64 x6, .int .i64 x7, .int .i64 x8, .int .i64 x9, .int .i64 x10, .int .i64 x11, .int .i64 x12, .int .i64 (po up xs g xs.length)]) ∧ Below w.heap.size w w' := by
  obtain ⟨u1, u2, l1, l2, hsl⟩ := slOk_iff hs
  rcases hr with h | ⟨b, off, rfl, hlt, hc⟩
  · rw [h] at l1; exact absurd l1 (by simp)
  have hcell := Lib.hid hc
  have hsl2 := Lib.hid hsl
  clear hc hsl
  have hpb := Lib.hid (fun k => po_bd hs h0 k)
  go_enter Try.func47, Try.ntmps47
  go_wp2_with fail
  go_loopg [14] xs.length (fun k v14 wr => ∃ (j : Nat) (cs : Array Value) (W0 : World) (hi : Int), v14 = .int .i64 (j : Int) ∧ j + k ≤ xs.length ∧ xs.length ≤ j + k ∧ wr = (W0.alloc (.cells #[.int .i64 0, .int .i64 0, .int .i64 0, .int .i64 0, .int .i64 0, .int .i64 0, .int .i64 0, .int .i64 0, .int .i64 0, .int .i64 0, .int .i64 0, .int .i64 0, .int .i64 0, .int .i64 0] 63)).alloc (.cells cs 63) ∧ W0.heap.size = w.heap.size ∧ Below w.heap.size w W0 ∧ cs.size = 14 ∧ cs[12]? = some (.int .i64 hi) ∧ cs[13]? = some (.int .i64 (po up xs g j)) ∧ Hid (∀ i, i < 14 → ∃ q : Int, cs[i]? = some (.int .i64 q)))
  case atStart => exact ⟨0, _, w, 0, rfl, by omega, by omega, rfl, rfl, Below.refl _ _, rfl, rfl, rfl, start14 g⟩
  case round =>
    obtain ⟨j, cs, W0, hi, rfl, q1, q2, rfl, hsz, hbel, hsize, h12, h13, HI⟩ := hrel
    have HB := Lib.hid hbel
    by_cases hj : j < xs.length
    · have p1 := hpb.out j
      have s1 := hsl2.out j
      have hjI : (j : Int) < (xs.length : Int) := by omega
      have hj12 : (j : Int) < 12 := by omega
      have hcj : W0.cell? ⟨b, off + j, none⟩ = some (.int .i64 (slp xs j)) := by
        rw [(bcell hbel).1 b _ hlt, hcell.out j hj]; unfold slp; rw [Nat.mod_eq_of_lt hj]
      have n12 : ¬ j = 12 := by omega
      have n13 : ¬ j = 13 := by omega
      have n12' : ¬ 12 = j := by omega
      have n13' : ¬ 13 = j := by omega
      have hjs : j < 14 := by omega
      obtain ⟨y, hy⟩ : ∃ y, cs[j]? = some y := ⟨cs[j]'(by omega), Array.getElem?_eq_getElem _⟩
      have e12 : ∀ h, cs[12]'h = .int .i64 hi := fun h => by have := h12; rw [Array.getElem?_eq_getElem h] at this; injection this
      have e13 : ∀ h, cs[13]'h = .int .i64 (po up xs g j) := fun h => by have := h13; rw [Array.getElem?_eq_getElem h] at this; injection this
      clear h12 h13
      have hp2 : Hid (po up xs g (j + 1) = hig 0 (po up xs g j + up - slp xs j)) := rfl
      clear hbel
      by_cases c1 : hi < po up xs g j + up <;> by_cases c2 : 0 < po up xs g j + up - slp xs j
      all_goals
        go_wp2_with fail
        go_region
        all_goals go_wp2_with fail
        go_roundg (gk - 1)
        case rel =>
          refine ⟨j + 1, _, W0.drew, hig hi (po up xs g j + up), by go_num, by omega, by omega, rfl, hsz, HB.out.drew, ?_, ?_, ?_, ?_⟩
          · simp [hsize]
          · simp [hsize]; unfold hig; (repeat' split) <;> omega
          · simp [hsize]; rw [hp2.out]; unfold hig; (repeat' split) <;> omega
          · intro i hi14
            by_cases a1 : 13 = i
            · subst a1; simp [hsize]
            · by_cases a2 : 12 = i
              · subst a2; simp [hsize]
              · by_cases a3 : j = i
                · subst a3; simp [hsize, a1, a2, hjs]
                · simp only [Array.getElem?_setIfInBounds, a1, a2, a3, if_false]; exact HI.out i hi14
        case measure => omega
    · have e : j = xs.length := by omega
      subst e
      obtain ⟨n0, z0⟩ := HI.out 0 (by omega)
      obtain ⟨n1, z1⟩ := HI.out 1 (by omega)
      obtain ⟨n2, z2⟩ := HI.out 2 (by omega)
      obtain ⟨n3, z3⟩ := HI.out 3 (by omega)
      obtain ⟨n4, z4⟩ := HI.out 4 (by omega)
      obtain ⟨n5, z5⟩ := HI.out 5 (by omega)
      obtain ⟨n6, z6⟩ := HI.out 6 (by omega)
      obtain ⟨n7, z7⟩ := HI.out 7 (by omega)
      obtain ⟨n8, z8⟩ := HI.out 8 (by omega)
      obtain ⟨n9, z9⟩ := HI.out 9 (by omega)
      obtain ⟨n10, z10⟩ := HI.out 10 (by omega)
      obtain ⟨n11, z11⟩ := HI.out 11 (by omega)
      obtain ⟨n12, z12⟩ := HI.out 12 (by omega)
      obtain ⟨x0, x1, x2, x3, x4, x5, x6, x7, x8, x9, x10, x11, x12, x13, rfl⟩ := arr14 hsize
      simp at z0 z1 z2 z3 z4 z5 z6 z7 z8 z9 z10 z11 z12 h13
      subst z0 z1 z2 z3 z4 z5 z6 z7 z8 z9 z10 z11 z12 h13
      clear h12 hsize hbel HI
      go_wp2_with fail
      refine bodyPost_ret (v := .agg #[.int .i64 n0, .int .i64 n1, .int .i64 n2, .int .i64 n3, .int .i64 n4, .int .i64 n5, .int .i64 n6, .int .i64 n7, .int .i64 n8, .int .i64 n9, .int .i64 n10, .int .i64 n11, .int .i64 n12, .int .i64 (po up xs g xs.length)]) (by simp [results, Try.results47, go_sem, hsz]) rfl ⟨n0, n1, n2, n3, n4, n5, n6, n7, n8, n9, n10, n11, n12, rfl, ?_⟩
      exact (HB.out.alloc (by omega) _).alloc (by simp; omega) _
set_option maxHeartbeats 2000000 in
theorem implGreatest (up y : Int) (a : Option Addr) (cap : Nat) (xs : List Int) (w : World) (h : Rd w a xs) (hn0 : xs.length ≤ 4611686018427387904) :
    Calls Try.prog 19 #[.int .i64 up, .slice a xs.length cap, .int .i64 y] w fun e w' => e = .returned (.tuple #[.int .i64 (if (slOk up xs && inB y 1 1000000) then tp up xs 0 y.toNat else 0), .bool (slOk up xs && inB y 1 1000000)]) ∧ Below w.heap.size w w' := by
  cases hs : slOk up xs <;> cases hy : inB y 1 1000000
  case true.true =>
    obtain ⟨u1, u2, l1, l2, _⟩ := slOk_iff hs
    have yl := inB_iff.1 hy
    have yl1 := yl.1
    have yl2 := yl.2
    clear yl
    obtain ⟨N, rfl⟩ := Int.eq_ofNat_of_zero_le (show 0 ≤ y by omega)
    by_cases hd : (N : Int) < 2 * (xs.length : Int)
    · go_enter Try.func19, Try.ntmps19
      go_wp2_with (first | (go_at_call 41; refine (implIn _ _ _ _).mono ?_; rintro e w1 ⟨rfl, rfl⟩) | (go_at_call 40; refine (isClimb_any up _ cap xs _ h hn0).mono ?_; rintro e w1 ⟨rfl, rfl⟩) | (go_at_call 48; refine (highestFrom_any 0 up a cap xs N _ hs h (Int.le_refl _) (by omega) (by omega)).mono ?_; rintro e w1 ⟨rfl, rfl⟩) | go_in)
      go_ret2
      exact ⟨rIB (by simp) (by simp), Below.refl _ _⟩
    · obtain ⟨A, r, hN, hrl⟩ : ∃ A r, N = xs.length * (A + 2) + r ∧ r < xs.length := by
        refine ⟨N / xs.length - 2, N % xs.length, ?_, Nat.mod_lt _ (by omega)⟩
        have q2 : 2 ≤ N / xs.length := (Nat.le_div_iff_mul_le (by omega)).2 (by omega)
        rw [show N / xs.length - 2 + 2 = N / xs.length from by omega]; exact (Nat.div_add_mod N xs.length).symm
      have hfin : Hid (tp up xs 0 N = tp up xs (mr up xs 1 + (A : Int) * (mr up xs 2 - mr up xs 1)) (xs.length + r)) := by unfold Hid; rw [hN]; exact tp_last up xs A r
      have hlin := mr_lin up xs A
      have e1 : mr up xs 1 = po up xs 0 xs.length := by unfold mr; rw [Nat.mul_one]
      have e2 : mr up xs 2 = po up xs (po up xs 0 xs.length) xs.length := by rw [show 2 = 1 + 1 from rfl, mr_succ, e1]
      have hAN : A + 1 ≤ N := by
        have : 1 * (A + 2) ≤ xs.length * (A + 2) := Nat.mul_le_mul_right _ l1
        omega
      have hAl : xs.length * (A + 1) ≤ N := by rw [hN]; rw [Nat.mul_succ, Nat.mul_succ, Nat.mul_succ]; omega
      have b1 := po_bd hs (h := 0) (Int.le_refl _) xs.length
      have b2 := po_bd hs (h := po up xs 0 xs.length) b1.1 xs.length
      have b3 : mr up xs (A + 1) ≤ 1000000000 := by
        have := (po_bd hs (h := 0) (Int.le_refl _) (xs.length * (A + 1))).2
        unfold mr
        have q : ((xs.length * (A + 1) : Nat) : Int) ≤ (N : Int) := by omega
        omega
      rw [hlin.1, e1, e2] at b3
      have b4 := hlin.2.2
      rw [e1, e2] at hfin b4
      clear hlin e1 e2
      have b5 : 0 ≤ (A : Int) * (po up xs (po up xs 0 xs.length) xs.length - po up xs 0 xs.length) := Int.mul_nonneg (by omega) b4
      have hq : (N : Int) / (xs.length : Int) = (A : Int) + 2 := by
        rw [hN]
        have : ((xs.length * (A + 2) + r : Nat) : Int) = (r : Int) + (xs.length : Int) * ((A : Int) + 2) := by rw [Int.natCast_add, Int.natCast_mul, show ((A + 2 : Nat) : Int) = (A : Int) + 2 from by omega, Int.add_comm]
        rw [this, Int.add_mul_ediv_left _ _ (by omega), Int.ediv_eq_zero_of_lt (by omega) (by omega), Int.zero_add]
      have hm : (N : Int) % (xs.length : Int) = (r : Int) := by
        rw [hN]
        have : ((xs.length * (A + 2) + r : Nat) : Int) = (r : Int) + (xs.length : Int) * ((A : Int) + 2) := by rw [Int.natCast_add, Int.natCast_mul, show ((A + 2 : Nat) : Int) = (A : Int) + 2 from by omega, Int.add_comm]
        rw [this, Int.add_mul_emod_self_left, Int.emod_eq_of_lt (by omega) (by omega)]
      have HN := Lib.hid hN
      clear hN
      have hl0 : (xs.length : Int) ≠ 0 := by omega
      have hl1 : (0 : Int) < (xs.length : Int) := by omega
      obtain ⟨M1, hM1⟩ : ∃ M, M = po up xs 0 xs.length := ⟨_, rfl⟩
      rw [← hM1] at b1 b2 b3 b4 b5 hfin
      obtain ⟨M2, hM2⟩ : ∃ M, M = po up xs M1 xs.length := ⟨_, rfl⟩
      rw [← hM2] at b2 b3 b4 b5 hfin
      have HF : Hid (∀ (w : World) (hr : Rd w a xs), Calls Try.prog 48 #[.int .i64 (M1 + (A : Int) * (M2 - M1)), .int .i64 up, .slice a xs.length cap, .int .i64 ((xs.length : Int) + (r : Int))] w fun e w' => e = .returned (.int .i64 (tp up xs (M1 + (A : Int) * (M2 - M1)) (xs.length + r))) ∧ w = w') := by
        intro w hr
        have := highestFrom_any (M1 + (A : Int) * (M2 - M1)) up a cap xs (xs.length + r) w hs hr (by omega) (by omega) (by omega)
        rw [show ((xs.length + r : Nat) : Int) = (xs.length : Int) + (r : Int) from by omega] at this
        exact this
      have HM1 := Lib.hid hM1
      have HM2 := Lib.hid hM2
      clear hM1 hM2
      go_enter Try.func19, Try.ntmps19
      go_wp2_with (first | (go_at_call 41; refine (implIn _ _ _ _).mono ?_; rintro e w1 ⟨rfl, rfl⟩) | (go_at_call 40; refine (isClimb_any up _ cap xs _ h hn0).mono ?_; rintro e w1 ⟨rfl, rfl⟩) | (go_at_call 27; go_in))
      refine (roundFrom_any 0 up a cap xs _ hs h (Int.le_refl _) (by omega)).mono ?_; rintro e w1 ⟨x0, x1, x2, x3, x4, x5, x6, x7, x8, x9, x10, x11, x12, rfl, hb1⟩
      rw [← HM1.out]
      have hz1 := hb1.size
      go_wp2_with fail
      refine (roundFrom_any M1 up a cap xs _ hs ((h.below hb1).below ((Below.refl _ _).alloc (Nat.le_refl _) _)) b1.1 (by omega)).mono ?_; rintro e w2 ⟨y0, y1, y2, y3, y4, y5, y6, y7, y8, y9, y10, y11, y12, rfl, hb2⟩
      rw [← HM2.out]
      have hz2 : w1.heap.size < w2.heap.size := by have := hb2.size; simp at this; omega
      have hcA := fun o => (bcell hb2).1 w1.heap.size o (by simp)
      go_wp2_with fail
      refine (HF.out _ ((((h.below hb1).below ((Below.refl _ _).alloc (Nat.le_refl _) _)).below hb2).below ((Below.refl _ _).alloc (Nat.le_refl _) _))).mono ?_; rintro e w3 ⟨rfl, rfl⟩
      go_wp2_with fail
      go_ret2
      refine ⟨rIB (by simp [hfin.out]) (by simp), ?_⟩
      exact ((hb1.alloc (by omega) _).trans (hb2.mono (by simp; omega))).alloc (by omega) _
  all_goals
    go_enter Try.func19, Try.ntmps19
    go_wp2_with (first | (go_at_call 41; refine (implIn _ _ _ _).mono ?_; rintro e w1 ⟨rfl, rfl⟩) | (go_at_call 40; refine (isClimb_any up _ cap xs _ h hn0).mono ?_; rintro e w1 ⟨rfl, rfl⟩) | go_in)
    go_ret2
    exact ⟨rIB rfl rfl, Below.refl _ _⟩
end Go.Proofs.Ytadfjepfjbllmaa
