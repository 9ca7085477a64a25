/- Contracts of chapter 1's functions, the program's and the model's, over one translation. -/
import Derived.Test.YtadfjepfjbllmaaProg
import Derived.Test.YtadfjepfjbllmaaOneWalks
import Derived.Test.YtadfjepfjbllmaaMathH
import Derived.Test.YtadfjepfjbllmaaSlices
import Derived.Test.YtadfjepfjbllmaaAreAllI
import Derived.Deep.LoopGhost
import Derived.Deep.QuietTactic
import Derived.BigQuiet
import Derived.WalkKit
import Derived.WalkSpells
import Derived.WalkLawsBesides
import Derived.Lib.Hide
import Derived.Deep.RegionWith
namespace Go.Proofs.Ytadfjepfjbllmaa
open Go.RowKit
set_option linter.unusedVariables false
set_option linter.unusedSimpArgs false
set_option maxRecDepth 100000
set_option maxHeartbeats 2000000 in
theorem l1All_any (lo hi : Int) (a : Option Addr) (cap : Nat) (xs : List Int) (w : World) (h : Rd w a xs) (hn : xs.length ≤ 4611686018427387904) :
    Calls Try.prog 60 #[.slice a xs.length cap, .int .i64 lo, .int .i64 hi] w fun e w' => e = .returned (.bool (allB xs lo hi)) ∧ w = w' := by
  go_enter Try.func60, Try.ntmps60
  go_wp2_with (first | fail | go_in)
  go_loopg [11] xs.length (fun k v wr => ∃ (j : Nat), v = .int .i64 (j : Int) ∧ j + k ≤ xs.length ∧ xs.length ≤ j + k ∧ Hid (∀ i, i < j → inB (xs.getD i 0) lo hi = true) ∧ w = wr)
  case atStart => exact ⟨0, rfl, by omega, by omega, fun i hi => absurd hi (Nat.not_lt_zero _), rfl⟩
  case round =>
    obtain ⟨j, rfl, q1, q2, hp, rfl⟩ := hrel
    by_cases hj : j < xs.length
    · rcases h with h | ⟨b, off, rfl, hlt, hc⟩
      · rw [h] at hj; exact absurd hj (Nat.not_lt_zero _)
      · have hcj := hc j hj
        have hjI : (j : Int) < (xs.length : Int) := by omega
        clear hc
        cases hx : inB (xs.getD j 0) lo hi
        · have hbad : Hid (allB xs lo hi = false) := by
            unfold Hid
            cases hq : allB xs lo hi
            · rfl
            · have := inB_true (allB_iff.1 hq j hj); rw [this] at hx; cases hx
          clear hp
          generalize xs.getD j 0 = x at *
          go_wp2_with (first | (go_at_call 45; refine (specIn _ _ _ _).mono ?_; rintro e w1 ⟨rfl, rfl⟩) | go_in)
          go_ret
          refine ⟨rB ?_, rfl⟩
          rw [hbad.out]
        · have hp2 : Hid (∀ i, i < j + 1 → inB (xs.getD i 0) lo hi = true) := by
            intro i hi
            by_cases q : i = j
            · rw [q]; exact hx
            · exact hp.out i (by omega)
          clear hp
          generalize xs.getD j 0 = x at *
          go_wp2_with (first | (go_at_call 45; refine (specIn _ _ _ _).mono ?_; rintro e w1 ⟨rfl, rfl⟩) | go_in)
          go_roundg (gk - 1)
          case rel => exact ⟨j + 1, by go_num, by omega, by omega, hp2, rfl⟩
          case measure => omega
    · have hall : Hid (allB xs lo hi = true) := allB_iff.2 (fun i hi => inB_iff.1 (hp.out i (by omega)))
      clear hp
      go_wp2_with fail
      go_ret
      refine ⟨rB ?_, rfl⟩
      rw [hall.out]
set_option maxHeartbeats 2000000 in
theorem snSlips_any (up : Int) (a : Option Addr) (cap : Nat) (xs : List Int) (w : World) (h : Rd w a xs) (hn : xs.length ≤ 4611686018427387904) :
    Calls Try.prog 43 #[.int .i64 up, .slice a xs.length cap] w fun e w' => e = .returned (.bool (slOk up xs)) ∧ w = w' := by
  cases hu : inB up 1 1000 <;> cases hl : inB (xs.length : Int) 1 12 <;> cases ha : allB xs 0 1000
  all_goals
    go_enter Try.func43, Try.ntmps43
    go_wp2_with (first | (go_at_call 45; refine (specIn _ _ _ _).mono ?_; rintro e w1 ⟨rfl, rfl⟩) | (go_at_call 60; refine (l1All_any 0 1000 a cap xs _ h hn).mono ?_; rintro e w1 ⟨rfl, rfl⟩))
    go_ret
    exact ⟨rB (by unfold slOk; rw [hu, hl, ha]; rfl), rfl⟩
set_option maxHeartbeats 2000000 in
theorem climb1_any (x : Int) (w : World) :
    Calls Try.prog 59 #[.int .i64 x] w fun e w' => e = .returned (.bool (inB x 0 1000)) ∧ w = w' := by
  go_enter Try.func59, Try.ntmps59
  go_wp2_with (first | (go_at_call 41; refine (implIn _ _ _ _).mono ?_; rintro e w1 ⟨rfl, rfl⟩))
  go_ret
  exact ⟨rfl, rfl⟩
set_option maxHeartbeats 2000000 in
theorem isClimb_any (up : Int) (a : Option Addr) (cap : Nat) (xs : List Int) (w : World) (h : Rd w a xs) (hn : xs.length ≤ 4611686018427387904) :
    Calls Try.prog 40 #[.int .i64 up, .slice a xs.length cap] w fun e w' => e = .returned (.bool (slOk up xs)) ∧ w = w' := by
  have hmf : ∀ (fn : Fn) (first cap : Array Value) (w : World), (Instr.makeFunc fn first cap).run Try.prog w = .ok (.func fn first cap) w := fun _ _ _ _ => rfl
  cases hu : inB up 1 1000
  · have HU := Lib.hid hu
    have HR := Lib.hid (show slOk up xs = false by unfold slOk; rw [hu]; rfl)
    clear hu
    go_enter Try.func40, Try.ntmps40
    go_wp2_with (first | (go_at_call 41; refine (implIn up 1 1000 _).mono ?_; rw [HU.out]; rintro e w1 ⟨rfl, rfl⟩))
    go_ret
    rw [HR.out]
    exact ⟨rfl, rfl⟩
  · have HU := Lib.hid hu
    have HR := Lib.hid (show (inB (xs.length : Int) 1 12 && allV (fun x => inB x 0 1000) xs) = slOk up xs by unfold slOk; rw [hu]; rfl)
    clear hu
    go_enter Try.func40, Try.ntmps40
    go_wp2_with (first | (go_at_call 41; refine (implIn up 1 1000 _).mono ?_; rw [HU.out]; rintro e w1 ⟨rfl, rfl⟩))
    refine (areAllI 59 #[] (fun x => inB x 0 1000) a cap xs 12 _ h hn (enters_of Try.func59 (by kernel_rfl) rfl) (fun x W => climb1_any x W)).mono ?_
    rintro e w1 ⟨rfl, rfl⟩
    go_wp2_with fail
    go_ret
    rw [HR.out]
    exact ⟨rfl, rfl⟩
set_option maxHeartbeats 2000000 in
theorem implHeights (up n y : Int) (a : Option Addr) (cap : Nat) (xs : List Int) (w : World) (h : Rd w a xs) (hn0 : xs.length ≤ 4611686018427387904) :
    Calls Try.prog 15 #[.int .i64 up, .slice a xs.length cap, .int .i64 n, .int .i64 y] w (RetS w (if slOk up xs && inB n 1 1000000 && inB y 1 1000 then evs up n xs y.toNat else []) (slOk up xs && inB n 1 1000000 && inB y 1 1000)) := by
  cases hs : slOk up xs <;> cases hn : inB n 1 1000000 <;> cases hy : inB y 1 1000
  case true.true.true =>
    have hr := h
    obtain ⟨u1, u2, l1, l2, hsl⟩ := slOk_iff hs
    have nl := inB_iff.1 hn
    have nl1 := nl.1
    have nl2 := nl.2
    have yl := inB_iff.1 hy
    have yl1 := yl.1
    have yl2 := yl.2
    clear nl yl
    have hmo := Lib.hid (fun k => moH_bd (n := n) hs nl1 k)
    obtain ⟨N, rfl⟩ := Int.eq_ofNat_of_zero_le (show 0 ≤ y by omega)
    have hpost : Hid ((if (true && true && true) = true then evs up n xs (N : Int).toNat else []) = evs up n xs N) := by unfold Hid; simp
    rcases h with h | ⟨b, off, rfl, hlt, hc⟩
    · rw [h] at l1; exact absurd l1 (by simp)
    have hcell := Lib.hid hc
    have hsl2 := Lib.hid hsl
    clear hc hsl
    obtain ⟨i0, hi, hz0, hz1, hz2⟩ := info_parts intInfo
    obtain ⟨w0, hrun, hown0, hgr0⟩ := run_make_full (P := Try.prog) w w.heap.size 33 3 i0 (.int .i64 0) 1 Try.underlying33 hi hz0 hz1 .i64 .i64 N (by rw [hz2]; omega) (by unfold maxLen; omega) (Nat.le_refl _)
    have hbel0 : Below w.heap.size w w0 := (Below.refl _ _).grown hgr0 (Nat.le_refl _) (fun k hk => by cases hk)
    obtain ⟨ys0, hy0⟩ : ∃ ys, ys = (madeCells (Value.int .i64 0).cells (N * 1)).toList := ⟨_, rfl⟩
    rw [← hy0] at hown0
    clear hy0 hgr0
    have hpostX : RetS w (evs up n xs N) true = RetS w (if (true && true && true) = true then evs up n xs (N : Int).toNat else []) (true && true && true) := by rw [hpost.out]; rfl
    rw [← hpostX]
    clear hpostX hpost
    go_enter Try.func15, Try.ntmps15
    go_wp2_with (first | (go_at_call 41; refine (implIn _ _ _ _).mono ?_; rintro e w1 ⟨rfl, rfl⟩) | (go_at_call 40; refine (isClimb_any up _ cap xs _ hr hn0).mono ?_; rintro e w1 ⟨rfl, rfl⟩) | go_in)
    clear hrun
    go_loopg [11, 31] N (fun k v11 v31 wr => ∃ (j : Nat) (ys : List Value), v31 = .int .i64 (j : Int) ∧ v11 = .int .i64 (moH up n xs j) ∧ j + k ≤ N ∧ N ≤ j + k ∧ wr.ownsRow w.heap.size 3 1 (.slice (some ⟨w.heap.size, 0, none⟩) N N) N ys ∧ Hid (∀ i, i < j → ys[i]? = some (.int .i64 (ev up n xs i))) ∧ Below w.heap.size w wr)
    case atStart => exact ⟨0, ys0, rfl, rfl, by omega, by omega, hown0, fun i hi => absurd hi (Nat.not_lt_zero _), hbel0⟩
    case round =>
      obtain ⟨j, ys, rfl, rfl, h1, h2, hown, hys, hbel⟩ := hrel
      have hlen : ys.length = N := by have := hown.1; omega
      by_cases hj : j < N
      · have m1 := hmo.out j
        have s1 := hsl2.out j
        have hix : j % xs.length < xs.length := Nat.mod_lt _ (by omega)
        have hcj : wr.cell? ⟨b, off + j % xs.length, none⟩ = some (.int .i64 (slp xs j)) := by rw [(bcell hbel).1 b _ hlt]; exact hcell.out (j % xs.length) hix
        obtain ⟨y0, hcy⟩ : ∃ y, wr.cell? ⟨w.heap.size, j, none⟩ = some y := ⟨ys[j]'(by omega), by rw [hown.cellAt j (by omega)]; exact List.getElem?_eq_getElem _⟩
        have hfy := hown.frozenAt j
        have hjI : (j : Int) < (N : Int) := by omega
        have hl0 : (xs.length : Int) ≠ 0 := by omega
        have hl1 : (0 : Int) < (xs.length : Int) := by omega
        have hmod : (j : Int) % (xs.length : Int) < (xs.length : Int) := Int.emod_lt_of_pos _ hl1
        have hmod0 : 0 ≤ (j : Int) % (xs.length : Int) := Int.emod_nonneg _ hl0
        by_cases ht : moH up n xs j + up < n
        · have hev : ev up n xs j = moH up n xs j + up := low_lt ht
          obtain ⟨hst, _⟩ := hown.stored j (.int .i64 (moH up n xs j + up))
          have hys2 : Hid (∀ i, i < j + 1 → (ys.set j (.int .i64 (moH up n xs j + up)))[i]? = some (.int .i64 (ev up n xs i))) := by
            intro i hi
            by_cases q : i = j
            · subst q; rw [List.getElem?_set_self (by omega), hev]
            · rw [List.getElem?_set_ne (by omega)]; exact hys.out i (by omega)
          have hbel2 : Below w.heap.size w (wr.setCell ⟨w.heap.size, j, none⟩ (.int .i64 (moH up n xs j + up))) := hbel.setCell (Nat.le_refl _) _
          have HP := Lib.hid (And.intro hst hbel2)
          have hmo2 : Hid (moH up n xs (j + 1) = mA (moH up n xs j + up) (slp xs j) n) := by unfold Hid; simp only [moH]; rw [show low n (moH up n xs j + up) = moH up n xs j + up from hev]
          have hne : ¬ b = w.heap.size := by omega
          clear hst hbel2 hys hown hlen hev
          go_wp2_with fail
          go_quiet ((go_at_call 42; exact Calls.quiet_of_same ((morningAfter_any (moH up n xs j + up) (slp xs j) n (by omega) (by omega) (by omega) (by omega) _).mono fun _ _ ⟨p, q⟩ => ⟨p, q.symm⟩)))
          go_wp2_with fail
          go_roundg (gk - 1)
          case rel => exact ⟨j + 1, _, by go_num, by rw [hmo2.out], by omega, by omega, HP.out.1, hys2, below_drewN HP.out.2 _⟩
          case measure => omega
        · have hev : ev up n xs j = n := low_ge (by omega)
          obtain ⟨hst, _⟩ := hown.stored j (.int .i64 (n))
          have hys2 : Hid (∀ i, i < j + 1 → (ys.set j (.int .i64 (n)))[i]? = some (.int .i64 (ev up n xs i))) := by
            intro i hi
            by_cases q : i = j
            · subst q; rw [List.getElem?_set_self (by omega), hev]
            · rw [List.getElem?_set_ne (by omega)]; exact hys.out i (by omega)
          have hbel2 : Below w.heap.size w (wr.setCell ⟨w.heap.size, j, none⟩ (.int .i64 (n))) := hbel.setCell (Nat.le_refl _) _
          have HP := Lib.hid (And.intro hst hbel2)
          have hmo2 : Hid (moH up n xs (j + 1) = mA (n) (slp xs j) n) := by unfold Hid; simp only [moH]; rw [show low n (moH up n xs j + up) = n from hev]
          have hne : ¬ b = w.heap.size := by omega
          clear hst hbel2 hys hown hlen hev
          go_wp2_with fail
          go_quiet ((go_at_call 42; exact Calls.quiet_of_same ((morningAfter_any (n) (slp xs j) n (by omega) (by omega) (by omega) (by omega) _).mono fun _ _ ⟨p, q⟩ => ⟨p, q.symm⟩)))
          go_wp2_with fail
          go_roundg (gk - 1)
          case rel => exact ⟨j + 1, _, by go_num, by rw [hmo2.out], by omega, by omega, HP.out.1, hys2, below_drewN HP.out.2 _⟩
          case measure => omega
      · have e : j = N := by omega
        have HP := Lib.hid (And.intro hown hbel)
        have hyx := evs_ext hlen (fun i hi => hys.out i (by omega))
        subst hyx
        clear hown hys hlen hbel
        go_wp2_with fail
        go_ret2
        refine ⟨some ⟨w.heap.size, 0, none⟩, N, by rw [evs_length]; rfl, ?_, HP.out.2⟩
        unfold Own; rw [evs_length]; exact HP.out.1
  all_goals
    go_enter Try.func15, Try.ntmps15
    go_wp2_with (first | (go_at_call 41; refine (implIn _ _ _ _).mono ?_; rintro e w1 ⟨rfl, rfl⟩) | (go_at_call 40; refine (isClimb_any up _ cap xs _ h hn0).mono ?_; rintro e w1 ⟨rfl, rfl⟩) | go_in)
    go_ret2
    exact ⟨none, 0, rfl, ⟨rfl, .inl ⟨rfl, rfl⟩⟩, Below.refl _ _⟩
theorem own_form {w : World} {base e size n : Nat} {v : Value} {xs : List Value} (h : w.ownsRow base e size v n xs) : ∃ a c, v = .slice a n c := by
  rcases h.2 with ⟨rfl, rfl⟩ | ⟨g, c, _, rfl, _⟩
  · exact ⟨_, _, rfl⟩
  · exact ⟨_, _, rfl⟩
set_option maxHeartbeats 2000000 in
theorem specHeights (up n y : Int) (a : Option Addr) (cap : Nat) (xs : List Int) (w : World) (h : Rd w a xs) (hn0 : xs.length ≤ 4611686018427387904) :
    Calls Try.prog 16 #[.int .i64 up, .slice a xs.length cap, .int .i64 n, .int .i64 y] w (RetS w (if slOk up xs && inB n 1 1000000 && inB y 1 1000 then evs up n xs y.toNat else []) (slOk up xs && inB n 1 1000000 && inB y 1 1000)) := by
  cases hs : slOk up xs <;> cases hn : inB n 1 1000000 <;> cases hy : inB y 1 1000
  case true.true.true =>
    have hr := h
    obtain ⟨u1, u2, l1, l2, hsl⟩ := slOk_iff hs
    have nl := inB_iff.1 hn
    have nl1 := nl.1
    have nl2 := nl.2
    have yl := inB_iff.1 hy
    have yl1 := yl.1
    have yl2 := yl.2
    clear nl yl
    have hmo := Lib.hid (fun k => moH_bd (n := n) hs nl1 k)
    obtain ⟨N, rfl⟩ := Int.eq_ofNat_of_zero_le (show 0 ≤ y by omega)
    have hpost : Hid ((if (true && true && true) = true then evs up n xs (N : Int).toNat else []) = evs up n xs N) := by unfold Hid; simp
    rcases h with h | ⟨b, off, rfl, hlt, hc⟩
    · rw [h] at l1; exact absurd l1 (by simp)
    have hcell := Lib.hid hc
    have hsl2 := Lib.hid hsl
    clear hc hsl
    obtain ⟨i0, hi, hz0, hz1, hz2⟩ := info_parts intInfo
    have hpostX : RetS w (evs up n xs N) true = RetS w (if (true && true && true) = true then evs up n xs (N : Int).toNat else []) (true && true && true) := by rw [hpost.out]; rfl
    rw [← hpostX]
    clear hpostX hpost
    go_enter Try.func16, Try.ntmps16
    go_wp2_with (first | (go_at_call 45; refine (specIn _ _ _ _).mono ?_; rintro e w1 ⟨rfl, rfl⟩) | (go_at_call 43; refine (snSlips_any up _ cap xs _ hr hn0).mono ?_; rintro e w1 ⟨rfl, rfl⟩) | go_in)
    go_loopg [10, 11, 12] N (fun k v10 v11 v12 wr => ∃ (j : Nat) (v : Value), v10 = .int .i64 (moH up n xs j) ∧ v11 = v ∧ v12 = .int .i64 ((j : Int) + 1) ∧ j + k ≤ N ∧ N ≤ j + k ∧ wr.ownsRow w.heap.size 3 1 v j ((evs up n xs j).map (Value.int .i64)) ∧ Below w.heap.size w wr)
    case atStart => exact ⟨0, _, rfl, rfl, by simp, by omega, by omega, World.ownsRow_nil _ _ _ _, Below.refl _ _⟩
    case round =>
      obtain ⟨j, v, rfl, rfl, rfl, h1, h2, hown, hbel⟩ := hrel
      have hsz := hbel.size
      by_cases hj : j < N
      · have m1 := hmo.out j
        have s1 := hsl2.out j
        have hix : j % xs.length < xs.length := Nat.mod_lt _ (by omega)
        have hjI : (j : Int) < (N : Int) := by omega
        have hl0 : (xs.length : Int) ≠ 0 := by omega
        have hl1 : (0 : Int) < (xs.length : Int) := by omega
        have hmod : (j : Int) % (xs.length : Int) < (xs.length : Int) := Int.emod_lt_of_pos _ hl1
        have hmod0 : 0 ≤ (j : Int) % (xs.length : Int) := Int.emod_nonneg _ hl0
        by_cases hA : moH up n xs j < n
        · by_cases hB : low n (moH up n xs j + up) < n
          · have hev : Hid (ev up n xs j = low n (moH up n xs j + up)) := rfl
            have hmo2 : Hid (moH up n xs (j + 1) = hig 0 (low n (moH up n xs j + up) - slp xs j)) := by
              unfold Hid hig; rw [moH_low (by omega)]; (repeat' split) <;> omega
            have lb : 1 ≤ low n (moH up n xs j + up) := m1.2.2.1
            go_wp2_with (first | (go_at_call 31; refine (least_any _ _ _).mono ?_; rintro e w2 ⟨rfl, rfl⟩) | (go_at_call 46; refine (most_hig _ _ _).mono ?_; rintro e w2 ⟨rfl, rfl⟩) | (at_builtin; refine wpList_append_own _ rfl _ _ 33 rfl w.heap.size 3 i0 (.int .i64 0) 1 8 Try.underlying33 hi hz0 hz1 hz2 rfl (by decide) _ _ _ rfl (hown.alloc _) ⟨wr.heap.size, 0, none⟩ 1 1 [.int .i64 (low n (moH up n xs j + up))] rfl rfl (cell_one_new _ _ _) (fun u hu => by simp at hu; subst hu; rfl) (by unfold maxLen; omega) (by omega) (by simp; omega) ?_; intro v1 w1 hown1 hgrow hx; clear hx; have hb1 : Below w.heap.size w w1 := (hbel.alloc hsz _).grown hgrow (by first | omega | (simp; omega) | (simp; done)) (fun k hk => (hown.lt k hk).1); have hcj1 : w1.cell? ⟨b, off + j % xs.length, none⟩ = some (.int .i64 (slp xs j)) := ((bcell hb1).1 b (off + j % xs.length) hlt).trans (hcell.out _ hix); have HB1 := Lib.hid hb1; have HO1 := Lib.hid hown1; clear hown1 hgrow hb1) | go_in)
            go_roundg (gk - 1)
            case rel => exact ⟨j + 1, v1, by rw [hmo2.out], rfl, by go_num, by omega, by omega, by rw [evs_succ, List.map_append]; simp only [List.map_cons, List.map_nil, hev.out]; exact HO1.out, HB1.out⟩
            case measure => omega
          · have hev : Hid (ev up n xs j = low n (moH up n xs j + up)) := rfl
            have lb := low_bd n (moH up n xs j + up)
            have hmo2 : Hid (moH up n xs (j + 1) = low n (moH up n xs j + up)) := by
              have q : low n (moH up n xs j + up) = n := by omega
              unfold Hid; rw [moH_top q, q]
            clear lb
            go_wp2_with (first | (go_at_call 31; refine (least_any _ _ _).mono ?_; rintro e w2 ⟨rfl, rfl⟩) | (go_at_call 46; refine (most_hig _ _ _).mono ?_; rintro e w2 ⟨rfl, rfl⟩) | (at_builtin; refine wpList_append_own _ rfl _ _ 33 rfl w.heap.size 3 i0 (.int .i64 0) 1 8 Try.underlying33 hi hz0 hz1 hz2 rfl (by decide) _ _ _ rfl (hown.alloc _) ⟨wr.heap.size, 0, none⟩ 1 1 [.int .i64 (low n (moH up n xs j + up))] rfl rfl (cell_one_new _ _ _) (fun u hu => by simp at hu; subst hu; rfl) (by unfold maxLen; omega) (by omega) (by simp; omega) ?_; intro v1 w1 hown1 hgrow hx; clear hx; have hb1 : Below w.heap.size w w1 := (hbel.alloc hsz _).grown hgrow (by first | omega | (simp; omega) | (simp; done)) (fun k hk => (hown.lt k hk).1); have hcj1 : w1.cell? ⟨b, off + j % xs.length, none⟩ = some (.int .i64 (slp xs j)) := ((bcell hb1).1 b (off + j % xs.length) hlt).trans (hcell.out _ hix); have HB1 := Lib.hid hb1; have HO1 := Lib.hid hown1; clear hown1 hgrow hb1) | go_in)
            go_roundg (gk - 1)
            case rel => exact ⟨j + 1, v1, by rw [hmo2.out], rfl, by go_num, by omega, by omega, by rw [evs_succ, List.map_append]; simp only [List.map_cons, List.map_nil, hev.out]; exact HO1.out, HB1.out⟩
            case measure => omega
        · have hq : Hid (moH up n xs j = n) := by unfold Hid; omega
          have hev : Hid (ev up n xs j = moH up n xs j) := by unfold Hid ev; rw [low_ge (by omega), hq.out]
          have hmo2 : Hid (moH up n xs (j + 1) = moH up n xs j) := by unfold Hid; rw [moH_top (low_ge (by omega)), hq.out]
          go_wp2_with (first | (go_at_call 31; refine (least_any _ _ _).mono ?_; rintro e w2 ⟨rfl, rfl⟩) | (go_at_call 46; refine (most_hig _ _ _).mono ?_; rintro e w2 ⟨rfl, rfl⟩) | (at_builtin; refine wpList_append_own _ rfl _ _ 33 rfl w.heap.size 3 i0 (.int .i64 0) 1 8 Try.underlying33 hi hz0 hz1 hz2 rfl (by decide) _ _ _ rfl (hown.alloc _) ⟨wr.heap.size, 0, none⟩ 1 1 [.int .i64 (moH up n xs j)] rfl rfl (cell_one_new _ _ _) (fun u hu => by simp at hu; subst hu; rfl) (by unfold maxLen; omega) (by omega) (by simp; omega) ?_; intro v1 w1 hown1 hgrow hx; clear hx; have hb1 : Below w.heap.size w w1 := (hbel.alloc hsz _).grown hgrow (by first | omega | (simp; omega) | (simp; done)) (fun k hk => (hown.lt k hk).1); have hcj1 : w1.cell? ⟨b, off + j % xs.length, none⟩ = some (.int .i64 (slp xs j)) := ((bcell hb1).1 b (off + j % xs.length) hlt).trans (hcell.out _ hix); have HB1 := Lib.hid hb1; have HO1 := Lib.hid hown1; clear hown1 hgrow hb1) | go_in)
          go_roundg (gk - 1)
          case rel => exact ⟨j + 1, v1, by rw [hmo2.out], rfl, by go_num, by omega, by omega, by rw [evs_succ, List.map_append]; simp only [List.map_cons, List.map_nil, hev.out]; exact HO1.out, HB1.out⟩
          case measure => omega
      · have e : j = N := by omega
        subst e
        obtain ⟨a1, c1, rfl⟩ := own_form hown
        have HP := Lib.hid (And.intro hown hbel)
        clear hown hbel
        go_wp2_with fail
        go_ret2
        refine ⟨a1, c1, by rw [evs_length]; rfl, ?_, HP.out.2⟩
        unfold Own; rw [evs_length]; exact HP.out.1
  all_goals
    go_enter Try.func16, Try.ntmps16
    go_wp2_with (first | (go_at_call 45; refine (specIn _ _ _ _).mono ?_; rintro e w1 ⟨rfl, rfl⟩) | (go_at_call 43; refine (snSlips_any up _ cap xs _ h hn0).mono ?_; rintro e w1 ⟨rfl, rfl⟩) | go_in)
    go_ret2
    exact ⟨none, 0, rfl, ⟨rfl, .inl ⟨rfl, rfl⟩⟩, Below.refl _ _⟩
end Go.Proofs.Ytadfjepfjbllmaa
