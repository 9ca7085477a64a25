/- The library's stable sort at a short slice of indices, and the program's inOrder, by contracts. -/
import Derived.Test.YtolgpjlliaoneaaProg
import Derived.Test.YtolgpjlliaoneaaSortK
import Derived.Test.YtolgpjlliaoneaaPairs0
import Derived.WalkKit
import Derived.WalkSpells
import Derived.WalkLawsBesides
import Derived.Lib.Hide
import Derived.Deep.LoopGhost
import Derived.Deep.QuietTactic
import Derived.Deep.RegionWith
import Derived.Deep.RegionHeld3
import Derived.BigQuiet
import Derived.Shelf.Abstract
namespace Go.Proofs.Ytolgpjlliaoneaa
open Go.RowKit
set_option linter.unusedVariables false
set_option linter.unusedSimpArgs false
set_option maxHeartbeats 4000000 in
set_option maxRecDepth 100000 in
theorem stableCmp_any (F : Nat) (cb : Array Value) (cf : Nat → Nat → Int) (ks : List (List Int)) (n g cap : Nat) (W0 w : World)
    (eg : ∀ args w, (callFunc F args).run Try.prog w = .ok (.enter F args) w) (hc : CmpOk F cb cf n g W0) (hcf : ∀ k j, k < n → j < n → (cf k j < 0 ↔ lexB (ks.getD k []) (ks.getD j []) = true)) (n1 : 1 ≤ n) (n2 : n ≤ 19)
    (hown : w.ownsRow g 3 1 (.slice (some ⟨g, 0, none⟩) n cap) n (rl (fun p => (p : Int)) n)) (hbel : Below g W0 w) :
    Calls Try.prog 80 #[.slice (some ⟨g, 0, none⟩) n cap, .int .i64 (n : Int), .func (.func F) #[] cb] w fun e w' => e = .returned (.tuple #[]) ∧ w'.ownsRow g 3 1 (.slice (some ⟨g, 0, none⟩) n cap) n ((ordI ks n).map (Value.int .i64)) ∧ Below g W0 w' := by
  have H := Lib.hid (insSort_any F cb cf ks n g cap W0 w eg hc hcf n1 (by omega) hown hbel)
  have hn : (n : Int) < 20 := by omega
  have hn2 : ¬ (20 : Int) ≤ (n : Int) := by omega
  have hn3 : ¬ (20 : Int) < (n : Int) := by omega
  clear hown hbel hc hcf
  go_enter Try.func80, Try.ntmps80
  go_wp2_with fail
  go_loopg [7, 8] 0 (fun f v7 v8 wr => v7 = .int .i64 0 ∧ v8 = .int .i64 20 ∧ w = wr)
  case atStart => exact ⟨rfl, rfl, rfl⟩
  case round =>
    obtain ⟨rfl, rfl, rfl⟩ := hrel
    go_wp2_with fail
    refine H.out.mono ?_; rintro e w1 ⟨rfl, hO, hB⟩
    go_wp2_with fail
    go_loopg [6] 0 (fun f v6 wr => v6 = .int .i64 20 ∧ w1 = wr)
    case atStart => exact ⟨rfl, rfl⟩
    case round =>
      obtain ⟨rfl, rfl⟩ := hrel
      go_wp2_with fail
      go_end0
      exact ⟨rfl, hO, hB⟩
set_option maxHeartbeats 4000000 in
theorem sortStable_any (F : Nat) (cb : Array Value) (cf : Nat → Nat → Int) (ks : List (List Int)) (n g cap : Nat) (W0 w : World)
    (eg : ∀ args w, (callFunc F args).run Try.prog w = .ok (.enter F args) w) (hc : CmpOk F cb cf n g W0) (hcf : ∀ k j, k < n → j < n → (cf k j < 0 ↔ lexB (ks.getD k []) (ks.getD j []) = true)) (n1 : 1 ≤ n) (n2 : n ≤ 19)
    (hown : w.ownsRow g 3 1 (.slice (some ⟨g, 0, none⟩) n cap) n (rl (fun p => (p : Int)) n)) (hbel : Below g W0 w) :
    Calls Try.prog 75 #[.slice (some ⟨g, 0, none⟩) n cap, .func (.func F) #[] cb] w fun e w' => e = .returned (.tuple #[]) ∧ w'.ownsRow g 3 1 (.slice (some ⟨g, 0, none⟩) n cap) n ((ordI ks n).map (Value.int .i64)) ∧ Below g W0 w' := by
  have H := Lib.hid (stableCmp_any F cb cf ks n g cap W0 w eg hc hcf n1 n2 hown hbel)
  clear hown hbel hc hcf
  go_enter Try.func75, Try.ntmps75
  go_wp2_with fail
  refine H.out.mono ?_; rintro e w1 ⟨rfl, hO, hB⟩
  go_wp2_with fail
  go_end0
  exact ⟨rfl, hO, hB⟩
set_option maxHeartbeats 4000000 in
theorem firstIndices_any (n : Nat) (w : World) (hn : n ≤ 1048576) :
    Calls Try.prog 74 #[.int .i64 (n : Int)] w fun e w' => e = .returned (.slice (some ⟨w.heap.size, 0, none⟩) n n) ∧ w'.ownsRow w.heap.size 3 1 (.slice (some ⟨w.heap.size, 0, none⟩) n n) n (rl (fun p => (p : Int)) n) ∧ Below w.heap.size w w' := by
  obtain ⟨i0, hi, hz0, hz1, hz2⟩ := info_parts intInfo
  obtain ⟨w3, hrun, hown0, hgr0⟩ := run_make_full (P := Try.prog) w w.heap.size 44 3 i0 (.int .i64 0) 1 Try.underlying44 hi hz0 hz1 .i64 .i64 n (by rw [hz2]; omega) (by unfold maxLen; omega) (Nat.le_refl _)
  have hbel0 : Below w.heap.size w w3 := (Below.refl _ _).grown hgr0 (Nat.le_refl _) (fun k hk => by cases hk)
  obtain ⟨ys0, hy0⟩ : ∃ ys, ys = (madeCells (Value.int .i64 0).cells (n * 1)).toList := ⟨_, rfl⟩
  rw [← hy0] at hown0
  clear hy0 hgr0
  have nI : (n : Int) ≤ 1048576 := by omega
  go_enter Try.func74, Try.ntmps74
  go_wp2_with fail
  clear hrun
  go_loopg [9] n (fun f v12 wr => ∃ (j : Nat) (ys : List Value), v12 = .int .i64 (j : Int) ∧ j + f ≤ n ∧ n ≤ j + f ∧ wr.ownsRow w.heap.size 3 1 (.slice (some ⟨w.heap.size, 0, none⟩) n n) n ys ∧ Hid (∀ i, i < j → ys[i]? = some (.int .i64 (i : Int))) ∧ Below w.heap.size w wr)
  case atStart => exact ⟨0, ys0, rfl, by omega, by omega, hown0, fun i hi => absurd hi (Nat.not_lt_zero _), hbel0⟩
  case round =>
    clear hown0 hbel0
    obtain ⟨j, ys, rfl, h1, h2, hown, hys, hbel⟩ := hrel
    have hlen : ys.length = n * 1 := hown.1
    by_cases hj : j < n
    · have hjI : (j : Int) < (n : Int) := by omega
      obtain ⟨hst1, hst2⟩ := hown.stored j (.int .i64 (j : Int))
      have hcy0 := hown.cellAt j (by omega)
      have hfy0 := hown.frozenAt j
      rw [List.getElem?_eq_getElem (by omega)] at hcy0
      have HF := Lib.hid hst1
      have HB := Lib.hid hbel
      have HJ := Lib.hid (And.intro h1 h2)
      clear hst1 hst2 hown hbel
      go_wp2_with fail
      go_roundg (gk - 1)
      case rel =>
        refine ⟨j + 1, _, by go_num, by have := HJ.out; omega, by have := HJ.out; omega, HF.out, ?_, HB.out.setCell (Nat.le_refl _) _⟩
        intro i hi
        by_cases q : i = j
        · subst q; rw [List.getElem?_set_self (by omega)]
        · rw [List.getElem?_set_ne (by omega)]; exact hys.out i (by omega)
      case measure => have := HJ.out; omega
    · have e : ys = rl (fun p => (p : Int)) n := by
        apply List.ext_getElem?
        intro p
        by_cases hp : p < n
        · rw [rl_get hp]; exact hys.out p (by omega)
        · rw [List.getElem?_eq_none (by omega), List.getElem?_eq_none (by rw [rl_length]; omega)]
      subst e
      have HO := Lib.hid hown
      have HB := Lib.hid hbel
      clear hown hbel
      go_wp2_with fail
      go_ret
      exact ⟨rfl, HO.out, HB.out⟩
set_option maxHeartbeats 4000000 in
set_option maxRecDepth 100000 in
theorem inOrderNc (F : Nat) (cb : Array Value) (c : Int) (a : Option Addr) (cap : Nat) (xs : List (Int × Int)) (B k j : Nat) (W : World) (h : RdP W a xs) (hn : xs.length ≤ 19)
    (hcl : W.cell? ⟨B, 0, none⟩ = some (.slice a xs.length cap)) (hco : W.cell? ⟨B + 1, 0, none⟩ = some (.func (.func F) #[] cb)) (hB : B + 1 < W.heap.size) (hk : k < xs.length) (hj : j < xs.length)
    (eg : ∀ args w, (callFunc F args).run Try.prog w = .ok (.enter F args) w)
    (hc : ∀ W', Below W.heap.size W W' → Calls Try.prog F (#[.agg #[.int .i64 (px xs k), .int .i64 (py xs k)], .agg #[.int .i64 (px xs j), .int .i64 (py xs j)]] ++ cb) W' fun e w' => e = .returned (.int .i64 c) ∧ Below W'.heap.size W' w') :
    Calls Try.prog 76 #[.int .i64 (k : Int), .int .i64 (j : Int), .pointer (some ⟨B + 1, 0, none⟩), .pointer (some ⟨B, 0, none⟩)] W fun e w' => e = .returned (.int .i64 c) ∧ Below W.heap.size W w' := by
  rcases h with h | ⟨b, off, rfl, hlt, hcc⟩
  · rw [h] at hk; exact absurd hk (Nat.not_lt_zero _)
  have c0 := (hcc k hk).1
  have c1 := (hcc k hk).2
  have d0 := (hcc j hj).1
  have d1 := (hcc j hj).2
  have kI : (k : Int) < (xs.length : Int) := by omega
  have jI : (j : Int) < (xs.length : Int) := by omega
  have HC := Lib.hid hc
  clear hcc hc
  generalize px xs k = x at *
  generalize py xs k = y at *
  generalize px xs j = p at *
  generalize py xs j = q at *
  go_enter Try.func76, Try.ntmps76
  go_wp2_with fail
  have hB0 : B < W.heap.size := by omega
  go_region_held3 (fun w' => Below W.heap.size W w' ∧ w'.cell? ⟨B, 0, none⟩ = some (.slice (some ⟨b, off, none⟩) xs.length cap) ∧ w'.cell? ⟨B + 1, 0, none⟩ = some (.func (.func F) #[] cb) ∧ w'.cell? ⟨b, off + k * 2, none⟩ = some (.int .i64 x) ∧ w'.cell? ⟨b, off + k * 2 + 1, none⟩ = some (.int .i64 y) ∧ w'.cell? ⟨b, off + j * 2, none⟩ = some (.int .i64 p) ∧ w'.cell? ⟨b, off + j * 2 + 1, none⟩ = some (.int .i64 q))
    (refine ⟨?_, ?_, ?_, ?_, ?_, ?_, ?_⟩ <;> first | assumption | (go_simp; done) | (repeat (first | exact Below.refl _ _ | refine Below.drew ?_ | refine bchain ?_ (by assumption) (by first | omega | (simp; done) | (simp; omega)))))
    (first | (go_at_fn F; refine (HC.out _ (by first | exact Below.refl _ _ | exact (Below.refl _ _).drew | exact below_drewN (Below.refl _ _) _ | (repeat (first | exact Below.refl _ _ | refine Below.drew ?_)))).mono ?_; rintro e w1 ⟨rfl, hb⟩; have q1 := fun o => (bcell hb).1 B o (by first | exact hB0 | (simp; exact hB0)); have q2 := fun o => (bcell hb).1 (B + 1) o (by first | exact hB | (simp; exact hB)); have q3 := fun o => (bcell hb).1 b o (by first | exact hlt | (simp; exact hlt))))
  rename_i hHeld
  go_wp2_with fail
  go_ret
  exact ⟨rfl, hHeld.1⟩
set_option maxHeartbeats 4000000 in
set_option maxRecDepth 100000 in
theorem inOrderN_any (F : Nat) (cb : Array Value) (cf : Nat → Nat → Int) (ks : List (List Int)) (a : Option Addr) (cap : Nat) (xs : List (Int × Int)) (w : World) (h : RdP w a xs)
    (eg : ∀ args w, (callFunc F args).run Try.prog w = .ok (.enter F args) w)
    (hc : ∀ (k j : Nat) (W : World), k < xs.length → j < xs.length → Below w.heap.size w W → Calls Try.prog F (#[.agg #[.int .i64 (px xs k), .int .i64 (py xs k)], .agg #[.int .i64 (px xs j), .int .i64 (py xs j)]] ++ cb) W fun e w' => e = .returned (.int .i64 (cf k j)) ∧ Below W.heap.size W w')
    (hcf : ∀ k j, k < xs.length → j < xs.length → (cf k j < 0 ↔ lexB (ks.getD k []) (ks.getD j []) = true)) (n1 : 1 ≤ xs.length) (n2 : xs.length ≤ 19) :
    Calls Try.prog 51 #[.slice a xs.length cap, .func (.func F) #[] cb] w fun e w' => (∃ a2 c2, e = .returned (.slice a2 xs.length c2) ∧ w'.ownsRow w.heap.size 3 1 (.slice a2 xs.length c2) xs.length ((ordI ks xs.length).map (Value.int .i64))) ∧ Below w.heap.size w w' := by
  have hmf : ∀ (fn : Fn) (first cap : Array Value) (w : World), (Instr.makeFunc fn first cap).run Try.prog w = .ok (.func fn first cap) w := fun _ _ _ _ => rfl
  obtain ⟨W2, hW2⟩ : ∃ W, W = (w.alloc (.cells #[.slice a xs.length cap] 41)).alloc (.cells #[.func (.func F) #[] cb] 76) := ⟨_, rfl⟩
  have b0 : Below w.heap.size w W2 := by rw [hW2]; exact ((Below.refl _ _).alloc (Nat.le_refl _) _).alloc (by simp) _
  have s0 : W2.heap.size = w.heap.size + 2 := by rw [hW2]; simp
  have e0 : W2.cell? ⟨w.heap.size, 0, none⟩ = some (.slice a xs.length cap) := by rw [hW2]; go_simp
  have e1 : W2.cell? ⟨w.heap.size + 1, 0, none⟩ = some (.func (.func F) #[] cb) := by rw [hW2]; go_simp
  have HFI := Lib.hid (fun w => firstIndices_any xs.length w (by omega))
  have HW2 := Lib.hid hW2
  have nI : (xs.length : Int) ≤ 19 := by omega
  clear hW2
  go_enter Try.func51, Try.ntmps51
  go_wp2_with fail
  rw [← HW2.out]
  refine (HFI.out W2).mono ?_; rintro e wr ⟨rfl, hown, hbel⟩
  rw [s0] at hown hbel
  have hcmp : CmpOk 76 #[.pointer (some ⟨w.heap.size + 1, 0, none⟩), .pointer (some ⟨w.heap.size, 0, none⟩)] cf xs.length (w.heap.size + 2) W2 := by
    intro k m W hk hm hB
    have hB2 : Below W2.heap.size W2 W := by rw [s0]; exact hB
    have e2 : (#[.int .i64 (k : Int), .int .i64 (m : Int)] ++ #[.pointer (some ⟨w.heap.size + 1, 0, none⟩), .pointer (some ⟨w.heap.size, 0, none⟩)] : Array Value) = #[.int .i64 (k : Int), .int .i64 (m : Int), .pointer (some ⟨w.heap.size + 1, 0, none⟩), .pointer (some ⟨w.heap.size, 0, none⟩)] := by simp
    rw [e2]
    exact inOrderNc F cb (cf k m) a cap xs w.heap.size k m W ((h.below b0).below hB2) n2 (by rw [(bcell hB2).1 _ _ (by omega)]; exact e0) (by rw [(bcell hB2).1 _ _ (by omega)]; exact e1) (by have := hB2.size; omega) hk hm eg
      (fun W' hW' => hc k m W' hk hm ((b0.trans (hB2.mono b0.size)).trans (hW'.mono (Nat.le_trans b0.size hB2.size))))
  have HS := Lib.hid (sortStable_any 76 #[.pointer (some ⟨w.heap.size + 1, 0, none⟩), .pointer (some ⟨w.heap.size, 0, none⟩)] cf ks xs.length (w.heap.size + 2) xs.length W2 wr (enters_of Try.func76 (by kernel_rfl) rfl) hcmp hcf n1 n2 hown hbel)
  clear hcmp hown hbel hc hcf
  go_wp2_with fail
  refine HS.out.mono ?_; rintro e w5 ⟨rfl, hO5, hB5⟩
  go_wp2_with fail
  go_ret
  refine ⟨⟨_, _, rfl, row_base hO5 (by omega)⟩, b0.trans (hB5.mono (by omega))⟩
end Go.Proofs.Ytolgpjlliaoneaa
