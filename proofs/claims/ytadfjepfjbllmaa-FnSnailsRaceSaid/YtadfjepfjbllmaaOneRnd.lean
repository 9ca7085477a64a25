/- A round of slips, every field of it: contracts of chapter 1's functions, the program's and the model's, over one translation. -/
import Derived.Test.YtadfjepfjbllmaaProg
import Derived.Test.YtadfjepfjbllmaaOneWalks
import Derived.Test.YtadfjepfjbllmaaMathS
import Derived.Test.YtadfjepfjbllmaaOneGre
import Derived.Test.YtadfjepfjbllmaaOneHei
import Derived.Deep.LoopGhost
import Derived.Deep.QuietTactic
import Derived.BigQuiet
import Derived.RegionTactic
import Derived.WalkKit
import Derived.WalkSpells
import Derived.WalkLawsBesides
import Derived.Lib.Hide
import Derived.Deep.RegionWith
namespace Go.Proofs.Ytadfjepfjbllmaa
open Go.RowKit
set_option linter.unusedVariables false
set_option linter.unusedSimpArgs false
set_option maxRecDepth 100000
set_option maxHeartbeats 2000000 in
theorem roundFrom_full (g up : Int) (a : Option Addr) (cap : Nat) (xs : List Int) (w : World) (hs : slOk up xs = true) (hr : Rd w a xs) (h0 : 0 ≤ g) (h1 : g ≤ 4000000000) :
    Calls Try.prog 47 #[.int .i64 g, .int .i64 up, .slice a xs.length cap] w fun e w' => ∃ x0 x1 x2 x3 x4 x5 x6 x7 x8 x9 x10 x11 : Int, e = .returned (.agg #[.int .i64 x0, .int .i64 x1, .int .i64 x2, .int .i64 x3, .int .i64 x4, .int .i64 x5, .int .i64 x6, .int .i64 x7, .int .i64 x8, .int .i64 x9, .int .i64 x10, .int .i64 x11, .int .i64 (tp up xs g xs.length), .int .i64 (po up xs g xs.length)]) ∧ Hid (∀ i, i < xs.length → (#[.int .i64 x0, .int .i64 x1, .int .i64 x2, .int .i64 x3, .int .i64 x4, .int .i64 x5, .int .i64 x6, .int .i64 x7, .int .i64 x8, .int .i64 x9, .int .i64 x10, .int .i64 x11, .int .i64 (tp up xs g xs.length), .int .i64 (po up xs g xs.length)] : Array Value)[i]? = some (.int .i64 (po up xs g i + up))) ∧ Below w.heap.size w w' := by
  obtain ⟨u1, u2, l1, l2, hsl⟩ := slOk_iff hs
  rcases hr with h | ⟨b, off, rfl, hlt, hc⟩
  · rw [h] at l1; exact absurd l1 (by simp)
  have hcell := Lib.hid hc
  have hsl2 := Lib.hid hsl
  clear hc hsl
  have hpb := Lib.hid (fun k => po_bd hs h0 k)
  have htb := Lib.hid (fun k => tp_bd hs h0 k)
  go_enter Try.func47, Try.ntmps47
  go_wp2_with fail
  go_loopg [14] xs.length (fun k v14 wr => ∃ (j : Nat) (cs : Array Value) (W0 : World), v14 = .int .i64 (j : Int) ∧ j + k ≤ xs.length ∧ xs.length ≤ j + k ∧ wr = (W0.alloc (.cells #[.int .i64 0, .int .i64 0, .int .i64 0, .int .i64 0, .int .i64 0, .int .i64 0, .int .i64 0, .int .i64 0, .int .i64 0, .int .i64 0, .int .i64 0, .int .i64 0, .int .i64 0, .int .i64 0] 63)).alloc (.cells cs 63) ∧ W0.heap.size = w.heap.size ∧ Below w.heap.size w W0 ∧ cs.size = 14 ∧ cs[12]? = some (.int .i64 (tp up xs g j)) ∧ cs[13]? = some (.int .i64 (po up xs g j)) ∧ Hid (∀ i, i < 14 → ∃ q : Int, cs[i]? = some (.int .i64 q)) ∧ Hid (∀ i, i < j → cs[i]? = some (.int .i64 (po up xs g i + up))))
  case atStart => exact ⟨0, _, w, rfl, by omega, by omega, rfl, rfl, Below.refl _ _, rfl, rfl, rfl, start14 g, fun i hi => absurd hi (Nat.not_lt_zero _)⟩
  case round =>
    obtain ⟨j, cs, W0, rfl, q1, q2, rfl, hsz, hbel, hsize, h12, h13, HI, HV⟩ := hrel
    have HB := Lib.hid hbel
    by_cases hj : j < xs.length
    · have p1 := hpb.out j
      have s1 := hsl2.out j
      have hjI : (j : Int) < (xs.length : Int) := by omega
      have hj12 : (j : Int) < 12 := by omega
      have hcj : W0.cell? ⟨b, off + j, none⟩ = some (.int .i64 (slp xs j)) := by
        rw [(bcell hbel).1 b _ hlt, hcell.out j hj]; unfold slp; rw [Nat.mod_eq_of_lt hj]
      have n12 : ¬ j = 12 := by omega
      have n13 : ¬ j = 13 := by omega
      have n12' : ¬ 12 = j := by omega
      have n13' : ¬ 13 = j := by omega
      have hjs : j < 14 := by omega
      obtain ⟨y, hy⟩ : ∃ y, cs[j]? = some y := ⟨cs[j]'(by omega), Array.getElem?_eq_getElem _⟩
      have e12 : ∀ h, cs[12]'h = .int .i64 (tp up xs g j) := fun h => by have := h12; rw [Array.getElem?_eq_getElem h] at this; injection this
      have e13 : ∀ h, cs[13]'h = .int .i64 (po up xs g j) := fun h => by have := h13; rw [Array.getElem?_eq_getElem h] at this; injection this
      clear h12 h13
      have hp2 : Hid (po up xs g (j + 1) = hig 0 (po up xs g j + up - slp xs j)) := rfl
      have hp3 : Hid (tp up xs g (j + 1) = hig (tp up xs g j) (po up xs g j + up)) := rfl
      clear hbel
      by_cases c1 : tp up xs g j < po up xs g j + up <;> by_cases c2 : 0 < po up xs g j + up - slp xs j
      all_goals
        go_wp2_with fail
        go_region
        all_goals go_wp2_with fail
        go_roundg (gk - 1)
        case rel =>
          refine ⟨j + 1, _, W0.drew, by go_num, by omega, by omega, rfl, hsz, HB.out.drew, ?_, ?_, ?_, ?_, ?_⟩
          · simp [hsize]
          · simp [hsize]; rw [hp3.out]; unfold hig; (repeat' split) <;> omega
          · simp [hsize]; rw [hp2.out]; unfold hig; (repeat' split) <;> omega
          · intro i hi14
            by_cases a1 : 13 = i
            · subst a1; simp [hsize]
            · by_cases a2 : 12 = i
              · subst a2; simp [hsize]
              · by_cases a3 : j = i
                · subst a3; simp [hsize, a1, a2, hjs]
                · simp only [Array.getElem?_setIfInBounds, a1, a2, a3, if_false]; exact HI.out i hi14
          · intro i hij
            by_cases a3 : j = i
            · subst a3; simp [hsize, n12', n13', n12, n13, hjs]
            · have a1 : ¬ 13 = i := by omega
              have a2 : ¬ 12 = i := by omega
              simp only [Array.getElem?_setIfInBounds, a1, a2, a3, if_false]; exact HV.out i (by omega)
        case measure => omega
    · have e : j = xs.length := by omega
      subst e
      obtain ⟨n0, z0⟩ := HI.out 0 (by omega)
      obtain ⟨n1, z1⟩ := HI.out 1 (by omega)
      obtain ⟨n2, z2⟩ := HI.out 2 (by omega)
      obtain ⟨n3, z3⟩ := HI.out 3 (by omega)
      obtain ⟨n4, z4⟩ := HI.out 4 (by omega)
      obtain ⟨n5, z5⟩ := HI.out 5 (by omega)
      obtain ⟨n6, z6⟩ := HI.out 6 (by omega)
      obtain ⟨n7, z7⟩ := HI.out 7 (by omega)
      obtain ⟨n8, z8⟩ := HI.out 8 (by omega)
      obtain ⟨n9, z9⟩ := HI.out 9 (by omega)
      obtain ⟨n10, z10⟩ := HI.out 10 (by omega)
      obtain ⟨n11, z11⟩ := HI.out 11 (by omega)
      obtain ⟨x0, x1, x2, x3, x4, x5, x6, x7, x8, x9, x10, x11, x12, x13, rfl⟩ := arr14 hsize
      simp at z0 z1 z2 z3 z4 z5 z6 z7 z8 z9 z10 z11 h12 h13
      subst z0 z1 z2 z3 z4 z5 z6 z7 z8 z9 z10 z11 h12 h13
      clear hsize hbel HI
      go_wp2_with fail
      refine bodyPost_ret (v := .agg #[.int .i64 n0, .int .i64 n1, .int .i64 n2, .int .i64 n3, .int .i64 n4, .int .i64 n5, .int .i64 n6, .int .i64 n7, .int .i64 n8, .int .i64 n9, .int .i64 n10, .int .i64 n11, .int .i64 (tp up xs g xs.length), .int .i64 (po up xs g xs.length)]) (by simp [results, Try.results47, go_sem, hsz]) rfl ⟨n0, n1, n2, n3, n4, n5, n6, n7, n8, n9, n10, n11, rfl, HV, ?_⟩
      exact (HB.out.alloc (by omega) _).alloc (by simp; omega) _
end Go.Proofs.Ytadfjepfjbllmaa
