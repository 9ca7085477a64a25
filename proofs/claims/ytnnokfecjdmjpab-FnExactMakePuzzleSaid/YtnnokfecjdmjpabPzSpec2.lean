/- Puzzles (chapter 9): the model's pzSolved and pzWithout by contracts. -/
import Derived.Test.YtnnokfecjdmjpabPzSpec
import Derived.Test.YtnnokfecjdmjpabPzApp
import Derived.WalkKit
import Derived.WalkSpells
import Derived.WalkLawsBesides
import Derived.Lib.Hide
import Derived.Deep.LoopGhost
import Derived.Deep.QuietTactic
import Derived.Deep.RegionWith
import Derived.Deep.RegionHeld3
import Derived.BigQuiet
namespace Go.Proofs.Ytnnokfecjdmjpab
open Go.RowKit
set_option linter.unusedVariables false
set_option linter.unusedSimpArgs false
set_option maxHeartbeats 2000000 in
theorem pzSolved_any (a : Option Addr) (cap : Nat) (xs : List (Int × Int × Int)) (w : World) (h : RdT w a xs) (hn : xs.length ≤ 1048576) (hcl : clA xs = true) :
    Calls Try.prog 25 #[.slice a xs.length cap] w fun e w' => e = .returned (.bool (decide ((sol xs).length = 1))) ∧ Below w.heap.size w w' := by
  obtain ⟨L, hL⟩ : ∃ L, L = sol xs := ⟨_, rfl⟩
  have HA := Lib.hid (pzAll_any a cap xs w h hn hcl)
  rw [← hL] at HA ⊢
  clear hL
  go_enter Try.func25, Try.ntmps25
  go_wp2_with (first | (go_at_call 20; refine HA.out.mono ?_; rintro e w1 ⟨a', c', rfl, hO, hb⟩))
  go_ret
  refine ⟨rB ?_, hb⟩
  by_cases q : L.length = 1
  · rw [q]; rfl
  · rw [decide_eq_false q]; simp; omega
set_option maxHeartbeats 4000000 in
set_option maxRecDepth 100000 in
theorem pzWithout_any (a : Option Addr) (cap : Nat) (xs : List (Int × Int × Int)) (k : Nat) (w : World) (h : RdT w a xs) (hn : xs.length ≤ 1048576) (hcap : xs.length ≤ cap) (hk : k < xs.length) :
    Calls Try.prog 26 #[.slice a xs.length cap, .int .i64 (k : Int)] w fun e w' => ∃ a' c', e = .returned (.slice a' (drp xs k).length c') ∧ OwnC w' w.heap.size a' c' (drp xs k) ∧ Below w.heap.size w w' := by
  obtain ⟨i0, hi, hz0, hz1, hz2⟩ := info_parts cluesInfo
  rcases h with h | ⟨b, off, rfl, hlt, hc⟩
  · rw [h] at hk; exact absurd hk (Nat.not_lt_zero _)
  have hkI : (k : Int) < (xs.length : Int) := by omega
  have hwr : IntKind.i64.wrap ((k : Int) + 1) = (k : Int) + 1 := IntWalk.i64_in _ (by omega)
  have hp0 : (0 : Int) ≤ (k : Int) + 1 := by omega
  have hp1 : (k : Int) + 1 ≤ (xs.length : Int) := by omega
  have hp2 : ((k : Int) + 1).toNat = k + 1 := by omega
  have hp3 : k ≤ cap := by omega
  have hp4 : (k : Int) ≤ (cap : Int) := by omega
  have hd : (drp xs k).length = k + (xs.length - (k + 1)) := by rw [drp_len hk]; omega
  have hnews1 := Lib.hid (take_news hc k)
  obtain ⟨A, hA, hAb, hnews2⟩ := drop_news hc k hk hcap
  have hnews2 := Lib.hid hnews2
  have hl1 := Lib.hid (show (cs3 (xs.take k)).length = k * 3 by rw [cs3_length, List.length_take]; congr 1; omega)
  have hl2 := Lib.hid (show (cs3 (xs.drop (k + 1))).length = (xs.length - (k + 1)) * 3 by rw [cs3_length, List.length_drop])
  have hb0 := Lib.hid (show Below w.heap.size w (w.alloc (.cells #[] 63)).drew from ((Below.refl _ _).alloc (Nat.le_refl _) _).drew)
  have hown0 := Lib.hid (show (w.alloc (.cells #[] 63)).drew.ownsRow w.heap.size 63 3 (.slice (some ⟨w.heap.size, 0, none⟩) 0 0) 0 [] from row_below (World.ownsRow_lit w #[] 0 (Nat.le_refl _) (by decide) rfl) ((Below.refl _ _).drew))
  have hAb' := Lib.hid (show A.block < w.heap.size by rw [hAb]; exact hlt)
  have hcs := Lib.hid (show cs3 (drp xs k) = [] ++ cs3 (xs.take k) ++ cs3 (xs.drop (k + 1)) by unfold drp; rw [cs3_append]; rfl)
  have hD := Lib.hid hd
  clear hd hnews2 hAb hc
  have hnews2 := ‹Hid (∀ (j : Nat) (u : Value), (cs3 (xs.drop (k + 1)))[j]? = some u → w.cell? (A.add j) = some u)›
  go_enter Try.func26, Try.ntmps26
  go_wp2_with fail
  go_region_law (first
    | (refine step_append_any _ rfl _ _ 28 rfl w.heap.size 63 i0 (.agg #[.int .i64 0, .int .i64 0, .int .i64 0]) 3 24 Try.underlying28 hi hz0 hz1 hz2 rfl (by decide) _ _ _ rfl hown0.out ⟨b, off, none⟩ k cap (cs3 (xs.take k)) rfl hl1.out (news_below hnews1.out hlt hb0.out) (cs3_one _) (by unfold maxLen; omega) (by omega) (by simp) ?_; intro a1 c1 w1 hO1 hg1; have hb1 := Lib.hid (hb0.out.grown hg1 (by simp) (fun x hx => (hown0.out.lt x hx).1)); simp only [Nat.zero_add] at hO1; have hO1 := Lib.hid hO1; clear hg1)
    | (refine step_append_any _ rfl _ _ 28 rfl w.heap.size 63 i0 (.agg #[.int .i64 0, .int .i64 0, .int .i64 0]) 3 24 Try.underlying28 hi hz0 hz1 hz2 rfl (by decide) _ _ _ rfl hO1.out A (xs.length - (k + 1)) (cap - (k + 1)) (cs3 (xs.drop (k + 1))) rfl hl2.out (news_below hnews2.out hAb'.out hb1.out) (cs3_one _) (by unfold maxLen; omega) (by omega) hb1.out.size ?_; intro a2 c2 w2 hO2 hg2; have hb2 := Lib.hid (hb1.out.grown hg2 hb1.out.size (fun x hx => (hO1.out.lt x hx).1)); have hO2 := Lib.hid hO2; clear hg2))
  all_goals
    go_wp2_with fail
    go_ret
    refine ⟨a2, c2, by rw [hD.out]; rfl, ?_, hb2.out⟩
    unfold OwnC
    rw [hcs.out, hD.out]
    exact hO2.out
end Go.Proofs.Ytnnokfecjdmjpab
