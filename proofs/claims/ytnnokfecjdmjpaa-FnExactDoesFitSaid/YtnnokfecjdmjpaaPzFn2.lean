/- Puzzles (chapter 9): the program's DoesFit and AddClue by contracts. -/
import Derived.Test.YtnnokfecjdmjpaaPzFn
import Derived.Test.YtnnokfecjdmjpaaPzPart
import Derived.WalkKit
import Derived.OwnWalk
import Derived.WalkSpells
import Derived.WalkLawsBesides
import Derived.Lib.Hide
import Derived.Deep.QuietTactic
import Derived.Deep.RegionWith
import Derived.Deep.RegionLaw
import Derived.Deep.RegionHeld3
import Derived.Deep.RegionHeldLaw
import Derived.BigQuiet
import Derived.Shelf.Abstract
namespace Go.Proofs.Ytnnokfecjdmjpaa
open Go.RowKit
set_option linter.unusedVariables false
set_option linter.unusedSimpArgs false
theorem rd_one {w : World} {g : Nat} {k a b : Int} (hlt : g < w.heap.size) (h0 : w.cell? ⟨g, 0, none⟩ = some (.int .i64 k)) (h1 : w.cell? ⟨g, 1, none⟩ = some (.int .i64 a)) (h2 : w.cell? ⟨g, 2, none⟩ = some (.int .i64 b)) : RdT w (some ⟨g, 0, none⟩) [(k, a, b)] := by
  refine .inr ⟨g, 0, rfl, hlt, fun i hi => ?_⟩
  obtain rfl : i = 0 := by simp at hi; omega
  exact ⟨h0, h1, h2⟩
theorem pzG_one (k a b : Int) : pzG [(k, a, b)] = clB k a b := by simp [pzG, clA]
theorem fiA_one (k a b u d : Int) : fiA [(k, a, b)] u d = decide (pzV k a u d = b) := by simp [fiA, fiB]
theorem pzG_snoc (xs : List (Int × Int × Int)) (k a b : Int) : pzG (xs ++ [(k, a, b)]) = adB xs k a b := by
  unfold pzG adB pzG clA
  rw [List.all_append, List.length_append]
  simp only [List.all_cons, List.all_nil, Bool.and_true, List.length_singleton]
  by_cases q : xs.length + 1 ≤ 6
  · rw [decide_eq_true q, decide_eq_true (show xs.length ≤ 6 by omega), decide_eq_false (show ¬ xs.length = 6 by omega)]
    simp
  · rw [decide_eq_false q]
    by_cases q2 : xs.length = 6
    · rw [decide_eq_true q2]; simp
    · rw [decide_eq_false (show ¬ xs.length ≤ 6 by omega)]; simp
set_option maxHeartbeats 2000000 in
theorem fitC_any (p : Nat) (A : Addr) (xs : List (Int × Int × Int)) (u d : Int) (w : World) (h : RdT w (some A) xs) (hn : xs.length ≤ 1048576) (hcl : clA xs = true) (hh : hdB u d = true) (hp : p < w.heap.size) (h0 : w.cell? ⟨p, 0, none⟩ = some (.int .i64 u)) (h1 : w.cell? ⟨p, 1, none⟩ = some (.int .i64 d)) :
    Calls Try.prog 67 (#[.slice (some A) xs.length xs.length] ++ #[.pointer (some ⟨p, 0, none⟩)]) w fun e w' => e = .returned (.bool (fiA xs u d)) ∧ Below w.heap.size w w' := by
  show Calls Try.prog 67 #[.slice (some A) xs.length xs.length, .pointer (some ⟨p, 0, none⟩)] w _
  have HF := Lib.hid (fits_any (some A) xs.length xs u d w h hn hcl hh)
  generalize fiA xs u d = R at *
  go_enter Try.func67, Try.ntmps67
  go_wp2_with (first | (go_at_call 68; refine HF.out.mono ?_; rintro e w1 ⟨rfl, hb⟩))
  go_ret
  exact ⟨rfl, hb⟩
set_option maxHeartbeats 8000000 in
set_option maxRecDepth 100000 in
theorem implDoesFit (k a b u d : Int) (w : World) :
    Calls Try.prog 25 #[.agg #[.int .i64 k, .int .i64 a, .int .i64 b], .agg #[.int .i64 u, .int .i64 d]] w fun e w' => e = .returned (.tuple #[.bool (dfB k a b u d), .bool (dfO k a b u d)]) ∧ Below w.heap.size w w' := by
  have hmf : ∀ (fn : Fn) (first cap : Array Value) (w : World), (Instr.makeFunc fn first cap).run Try.prog w = .ok (.func fn first cap) w := fun _ _ _ _ => rfl
  cases hh : hdB u d
  · rw [show dfO k a b u d = false by simp [dfO, hh], show dfB k a b u d = false by simp [dfB, dfO, hh]]
    have HH := Lib.hid hh
    clear hh
    go_enter Try.func25, Try.ntmps25
    go_wp2_with (first | (go_at_call 64; refine (isHidden_any u d _).mono ?_; rw [HH.out]; rintro e w0 ⟨rfl, hb0⟩))
    go_ret2
    exact ⟨rfl, by (repeat (first | assumption | exact Below.refl _ _ | refine Below.drew ?_ | refine below_drewN ?_ _ | refine Below.setCell ?_ (by first | omega | (simp; done) | (simp; omega)) _ | refine Below.alloc ?_ (by first | omega | (simp; done) | (simp; omega)) _ | refine bchain ?_ (by assumption) (by first | omega | (simp; done) | (simp; omega))))⟩
  · have HH := Lib.hid hh
    have eg : ∀ args w, (callFunc 67 args).run Try.prog w = .ok (.enter 67 args) w := enters_of Try.func67 (by kernel_rfl) rfl
    have eg2 : ∀ args w, (callFunc 100 args).run Try.prog w = .ok (.enter 100 args) w := enters_of Try.func100 (by kernel_rfl) rfl
    have HQ : Hid (∀ (p g s : Nat) (W : World), RdT W (some ⟨g, 0, none⟩) [(k, a, b)] → p < W.heap.size → s < W.heap.size → W.cell? ⟨p, 0, none⟩ = some (.func (.func 67) #[] #[.pointer (some ⟨s, 0, none⟩)]) → W.cell? ⟨s, 0, none⟩ = some (.int .i64 u) → W.cell? ⟨s, 1, none⟩ = some (.int .i64 d) →
        Calls Try.prog 65 #[.slice (some ⟨g, 0, none⟩) 1 1, .func (.func 100) #[] #[.pointer (some ⟨p, 0, none⟩)]] W fun e w' => e = .returned (.tuple #[.bool (dfB k a b u d), .bool (dfO k a b u d)]) ∧ Below W.heap.size W w') := by
      intro p g s W hR hp hs hc h0 h1
      cases hcl : clB k a b
      · rw [show dfO k a b u d = false by simp [dfO, hcl], show dfB k a b u d = false by simp [dfB, dfO, hcl]]
        exact askB_no _ ⟨g, 0, none⟩ 1 [(k, a, b)] W hR (by simp) (by rw [pzG_one]; exact hcl)
      · rw [show dfO k a b u d = true by simp [dfO, hcl, hh], show dfB k a b u d = fiA [(k, a, b)] u d by rw [fiA_one]; simp [dfB, dfO, hcl, hh]]
        have hcA : clA [(k, a, b)] = true := by simp [clA, hcl]
        exact askB_yes 100 #[.pointer (some ⟨p, 0, none⟩)] ⟨g, 0, none⟩ 1 [(k, a, b)] _ true W hR (by simp) (by simp) (by rw [pzG_one]; exact hcl) eg2
          (fun W1 hb1 => alwaysCB_any 67 #[.pointer (some ⟨s, 0, none⟩)] p ⟨g, 0, none⟩ 1 _ W1 (Nat.lt_of_lt_of_le hp hb1.size) (((bcell hb1).1 p 0 hp).trans hc) eg
            (fun W2 hb2 => fitC_any s ⟨g, 0, none⟩ [(k, a, b)] u d W2 ((hR.below hb1).below hb2) (by simp) hcA hh (Nat.lt_of_lt_of_le (Nat.lt_of_lt_of_le hs hb1.size) hb2.size) (((bcell hb2).1 s 0 (Nat.lt_of_lt_of_le hs hb1.size)).trans (((bcell hb1).1 s 0 hs).trans h0)) (((bcell hb2).1 s 1 (Nat.lt_of_lt_of_le hs hb1.size)).trans (((bcell hb1).1 s 1 hs).trans h1))))
    clear hh
    generalize dfB k a b u d = RB at *
    generalize dfO k a b u d = RO at *
    go_enter Try.func25, Try.ntmps25
    go_wp2_with (first | (go_at_call 64; refine (isHidden_any u d _).mono ?_; rw [HH.out]; rintro e w0 ⟨rfl, hb0⟩; have hs0 := hb0.size; (try simp only [World.size_alloc] at hs0); have ha0 : w0.cell? ⟨w.heap.size, 0, none⟩ = some (.int .i64 k) := (by rw [(bcell hb0).1 _ _ (by first | omega | (simp; done) | (simp; omega))]; go_simp); have ha1 : w0.cell? ⟨w.heap.size, 1, none⟩ = some (.int .i64 a) := (by rw [(bcell hb0).1 _ _ (by first | omega | (simp; done) | (simp; omega))]; go_simp); have ha2 : w0.cell? ⟨w.heap.size, 2, none⟩ = some (.int .i64 b) := (by rw [(bcell hb0).1 _ _ (by first | omega | (simp; done) | (simp; omega))]; go_simp); have hd0 : w0.cell? ⟨w.heap.size + 1, 0, none⟩ = some (.int .i64 u) := (by rw [(bcell hb0).1 _ _ (by first | omega | (simp; done) | (simp; omega))]; go_simp); have hd1 : w0.cell? ⟨w.heap.size + 1, 1, none⟩ = some (.int .i64 d) := (by rw [(bcell hb0).1 _ _ (by first | omega | (simp; done) | (simp; omega))]; go_simp); have B0 : Below w.heap.size w w0 := (by (repeat (first | assumption | exact Below.refl _ _ | refine Below.drew ?_ | refine below_drewN ?_ _ | refine Below.setCell ?_ (by first | omega | (simp; done) | (simp; omega)) _ | refine Below.alloc ?_ (by first | omega | (simp; done) | (simp; omega)) _ | refine bchain ?_ (by assumption) (by first | omega | (simp; done) | (simp; omega))))); have hl0 : w.heap.size < w0.heap.size := (by omega); have hl1 : w.heap.size + 1 < w0.heap.size := (by omega)))
    clear hb0
    go_region_held3 (fun W => Below w0.heap.size w0 W ∧ w0.heap.size ≤ W.heap.size ∧ W.cell? ⟨w.heap.size, 0, none⟩ = some (.int .i64 k) ∧ W.cell? ⟨w.heap.size, 1, none⟩ = some (.int .i64 a) ∧ W.cell? ⟨w.heap.size, 2, none⟩ = some (.int .i64 b) ∧ W.cell? ⟨w.heap.size + 1, 0, none⟩ = some (.int .i64 u) ∧ W.cell? ⟨w.heap.size + 1, 1, none⟩ = some (.int .i64 d))
      (refine ⟨?_, ?_, ?_, ?_, ?_, ?_, ?_⟩ <;> first | assumption | exact Nat.le_refl _ | omega | (simp; done) | (simp; omega) | (go_simp; done) | ((repeat (first | assumption | exact Below.refl _ _ | refine Below.drew ?_ | refine below_drewN ?_ _ | refine Below.setCell ?_ (by first | omega | (simp; done) | (simp; omega)) _ | refine Below.alloc ?_ (by first | omega | (simp; done) | (simp; omega)) _ | refine bchain ?_ (by assumption) (by first | omega | (simp; done) | (simp; omega)))); done))
      (first | (go_at_call 66; refine (alwaysB_any _ _ _).mono ?_; rintro e w1 ⟨rfl, hp1, hq1, hb1⟩; have hs1 := hb1.size; (try simp only [World.size_alloc, World.size_drew] at hs1 hp1 hq1); have hm0 : w.heap.size < w1.heap.size := (by omega); have hm1 : w.heap.size + 1 < w1.heap.size := (by omega); have hm2 : w0.heap.size < w1.heap.size := (by omega); have hall1 := (bcell hb1).1; have BB1 : Below w0.heap.size w0 w1 := bchain (by (repeat (first | exact Below.refl _ _ | refine Below.drew ?_ | refine below_drewN ?_ _ | refine Below.alloc ?_ (by first | omega | (simp; done) | (simp; omega)) _))) hb1 (by first | exact Nat.le_refl _ | (simp; done) | (simp; omega)); have f10 := ((bcell BB1).1 _ 0 hl0).trans ha0; have f11 := ((bcell BB1).1 _ 1 hl0).trans ha1; have f12 := ((bcell BB1).1 _ 2 hl0).trans ha2; have f13 := ((bcell BB1).1 _ 0 hl1).trans hd0; have f14 := ((bcell BB1).1 _ 1 hl1).trans hd1) | (go_at_call 65; refine (HQ.out _ _ (w.heap.size + 1) _ (rd_one (by first | omega | (simp; done) | (simp; omega)) (by go_simp) (by go_simp) (by go_simp)) (by first | assumption | omega | (simp; done) | (simp; omega)) (by first | assumption | omega | (simp; done) | (simp; omega)) (by first | assumption | (go_simp; done)) (by first | assumption | (go_simp; done)) (by first | assumption | (go_simp; done))).mono ?_; rintro e w2 ⟨rfl, hb2⟩; have hs2 := hb2.size; (try simp only [World.size_alloc, World.size_drew] at hs2); have hall2 := (bcell hb2).1; have BB2 : Below w0.heap.size w0 w2 := bchain (by (repeat (first | assumption | (apply And.left; assumption) | exact Below.refl _ _ | refine Below.drew ?_ | refine below_drewN ?_ _ | refine Below.alloc ?_ (by first | omega | (simp; done) | (simp; omega)) _))) hb2 (by first | exact Nat.le_refl _ | omega | (simp; done) | (simp; omega)); have f20 := ((bcell BB2).1 _ 0 hl0).trans ha0; have f21 := ((bcell BB2).1 _ 1 hl0).trans ha1; have f22 := ((bcell BB2).1 _ 2 hl0).trans ha2; have f23 := ((bcell BB2).1 _ 0 hl1).trans hd0; have f24 := ((bcell BB2).1 _ 1 hl1).trans hd1))
    all_goals
      rename_i hS
      go_wp2_with fail
      go_ret2
      exact ⟨rfl, B0.trans (hS.1.mono B0.size)⟩
theorem three_at {W : World} {g : Nat} {u v z : Value} (h0 : W.cell? ⟨g, 0, none⟩ = some u) (h1 : W.cell? ⟨g, 1, none⟩ = some v) (h2 : W.cell? ⟨g, 2, none⟩ = some z) : ∀ (j : Nat) (x : Value), [u, v, z][j]? = some x → W.cell? ((⟨g, 0, none⟩ : Addr).add j) = some x := by
  intro j x hx
  have ea : (⟨g, 0, none⟩ : Addr).add j = ⟨g, j, none⟩ := by unfold Addr.add; split <;> simp_all
  rw [ea]
  match j, hx with
  | 0, hx => simp at hx; subst hx; exact h0
  | 1, hx => simp at hx; subst hx; exact h1
  | 2, hx => simp at hx; subst hx; exact h2
  | _ + 3, hx => simp at hx
set_option maxHeartbeats 4000000 in
theorem askP_big (Q : Value) (A : Addr) (n cap : Nat) (w : World) (hn : n ≤ 1048577) (h6 : 6 < n) :
    Calls Try.prog 58 #[.slice (some A) n cap, Q] w (RetP9 w [] false) := by
  have hmf : ∀ (fn : Fn) (first cap : Array Value) (w : World), (Instr.makeFunc fn first cap).run Try.prog w = .ok (.func fn first cap) w := fun _ _ _ _ => rfl
  have h6I : (6 < (n : Int)) := by omega
  go_enter_defers Try.func58, Try.ntmps58
  go_wp2_with fail
  simp [bodyPostD, Leaves, settle, results, Try.results58, go_sem]
  exact ⟨none, 0, rfl, World.ownsRow_nil _ _ _ _, by (repeat (first | assumption | exact Below.refl _ _ | refine Below.drew ?_ | refine below_drewN ?_ _ | refine Below.setCell ?_ (by first | omega | (simp; done) | (simp; omega)) _ | refine Below.alloc ?_ (by first | omega | (simp; done) | (simp; omega)) _ | refine bchain ?_ (by assumption) (by first | omega | (simp; done) | (simp; omega))))⟩
set_option maxHeartbeats 8000000 in
set_option maxRecDepth 100000 in
theorem implAddClue (A : Addr) (cap : Nat) (xs : List (Int × Int × Int)) (k x y : Int) (w : World) (h : RdT w (some A) xs) (hn : xs.length ≤ 1048576) (hcap : xs.length ≤ cap) :
    Calls Try.prog 50 #[.agg #[.slice (some A) xs.length cap], .agg #[.int .i64 k, .int .i64 x, .int .i64 y]] w (RetP9 w (adL xs k x y) (adB xs k x y)) := by
  obtain ⟨i0, hi, hz0', hz1', hz2'⟩ := info_parts cluesInfo
  have hln : (xs ++ [(k, x, y)]).length = xs.length + 1 := by simp
  have hcs := Lib.hid (show cs3 (xs ++ [(k, x, y)]) = cs3 xs ++ [.int .i64 k, .int .i64 x, .int .i64 y] by rw [cs3_append]; rfl)
  have HQ : Hid (∀ (A2 : Addr) (c2 p : Nat) W, RdT W (some A2) (xs ++ [(k, x, y)]) → xs.length + 1 ≤ c2 → p < W.heap.size → W.cell? ⟨p, 0, none⟩ = some (.func (.func 60) #[] #[]) →
      Calls Try.prog 58 #[.slice (some A2) (xs.length + 1) c2, .func (.func 94) #[] #[.pointer (some ⟨p, 0, none⟩)]] W (RetP9 W (adL xs k x y) (adB xs k x y))) := by
    intro A2 c2 p W hR hc2 hp hc
    rw [← hln]
    rw [← hln] at hc2
    have hadL : adL xs k x y = if adB xs k x y then xs ++ [(k, x, y)] else [] := rfl
    rw [hadL]
    have hbig : (xs ++ [(k, x, y)]).length ≤ 1048577 := by rw [hln]; omega
    cases hg : pzG (xs ++ [(k, x, y)])
    · rw [show adB xs k x y = false by rw [← pzG_snoc]; exact hg]
      by_cases hq : (xs ++ [(k, x, y)]).length ≤ 1048576
      · exact askP_no _ A2 c2 _ W hR hq hg
      · exact askP_big _ A2 _ c2 W hbig (by omega)
    · rw [show adB xs k x y = true by rw [← pzG_snoc]; exact hg]
      have h6 := (pzG_iff.1 hg).1
      have eg : ∀ args w, (callFunc 60 args).run Try.prog w = .ok (.enter 60 args) w := enters_of Try.func60 (by kernel_rfl) rfl
      have eg2 : ∀ args w, (callFunc 94 args).run Try.prog w = .ok (.enter 94 args) w := enters_of Try.func94 (by kernel_rfl) rfl
      exact askP_yes 94 #[.pointer (some ⟨p, 0, none⟩)] A2 c2 _ (xs ++ [(k, x, y)]) true W hR (by omega) hc2 hg eg2
        (fun W1 hb1 => alwaysCP_any 60 #[] p A2 _ (xs ++ [(k, x, y)]) W1 (Nat.lt_of_lt_of_le hp hb1.size) (((bcell hb1).1 p 0 hp).trans hc) eg
          (fun W2 hb2 => puzzle_any A2 _ _ W2 ((hR.below hb1).below hb2) (by omega)))
  generalize adL xs k x y = D at *
  generalize adB xs k x y = ok at *
  go_enter Try.func50, Try.ntmps50
  go_wp2_with fail
  generalize hq : World.alloc (World.alloc (World.alloc w _) _) _ = w1
  have B1 : Below w.heap.size w w1 := by subst hq; (repeat (first | assumption | exact Below.refl _ _ | refine Below.drew ?_ | refine below_drewN ?_ _ | refine Below.setCell ?_ (by first | omega | (simp; done) | (simp; omega)) _ | refine Below.alloc ?_ (by first | omega | (simp; done) | (simp; omega)) _ | refine bchain ?_ (by assumption) (by first | omega | (simp; done) | (simp; omega))))
  have hd0 : w1.cell? ⟨w.heap.size, 0, none⟩ = some (.slice (some A) xs.length cap) := by subst hq; go_simp
  have hl0 : w1.cell? ⟨w.heap.size + 1, 0, none⟩ = some (.int .i64 k) := by subst hq; go_simp
  have hl1 : w1.cell? ⟨w.heap.size + 1, 1, none⟩ = some (.int .i64 x) := by subst hq; go_simp
  have hl2 : w1.cell? ⟨w.heap.size + 1, 2, none⟩ = some (.int .i64 y) := by subst hq; go_simp
  have hy0 : w1.cell? ⟨w.heap.size + 1 + 1, 0, none⟩ = some (.slice none 0 0) := by subst hq; go_simp
  have hfy : ∀ o, w1.frozen? ⟨w.heap.size + 1 + 1, o, none⟩ = false := by subst hq; intro o; go_simp
  have hz3 : w1.heap.size = w.heap.size + 1 + 1 + 1 := by subst hq; simp
  clear hq
  have hz0 : w.heap.size < w1.heap.size := by omega
  have hz1 : w.heap.size + 1 < w1.heap.size := by omega
  have hz2 : w.heap.size + 1 + 1 < w1.heap.size := by omega
  have HN := Lib.hid (fun (W : World) (hb : Below w1.heap.size w1 W) => (h.below B1).newsAt hb)
  clear h hln
  go_region_held_law (fun W => Below w.heap.size w W ∧ w1.heap.size ≤ W.heap.size ∧ W.cell? ⟨w.heap.size, 0, none⟩ = some (.slice (some A) xs.length cap) ∧ W.cell? ⟨w.heap.size + 1, 0, none⟩ = some (.int .i64 k) ∧ W.cell? ⟨w.heap.size + 1, 1, none⟩ = some (.int .i64 x) ∧ W.cell? ⟨w.heap.size + 1, 2, none⟩ = some (.int .i64 y))
    (refine ⟨?_, ?_, ?_, ?_, ?_, ?_⟩ <;> first | assumption | exact Nat.le_refl _ | omega | (simp; done) | (simp; omega) | ((repeat (first | assumption | exact Below.refl _ _ | refine Below.drew ?_ | refine below_drewN ?_ _ | refine Below.setCell ?_ (by first | omega | (simp; done) | (simp; omega)) _ | refine Below.alloc ?_ (by first | omega | (simp; done) | (simp; omega)) _ | refine bchain ?_ (by assumption) (by first | omega | (simp; done) | (simp; omega)))); done) | (refine B1.trans (Below.mono (B := w1.heap.size) ?_ B1.size); ((repeat (first | assumption | exact Below.refl _ _ | refine Below.drew ?_ | refine below_drewN ?_ _ | refine Below.setCell ?_ (by first | omega | (simp; done) | (simp; omega)) _ | refine Below.alloc ?_ (by first | omega | (simp; done) | (simp; omega)) _ | refine bchain ?_ (by assumption) (by first | omega | (simp; done) | (simp; omega)))); done)) | (refine ((bcell (W := w1) ?_).1 _ _ (by omega)).trans (by assumption); ((repeat (first | assumption | exact Below.refl _ _ | refine Below.drew ?_ | refine below_drewN ?_ _ | refine Below.setCell ?_ (by first | omega | (simp; done) | (simp; omega)) _ | refine Below.alloc ?_ (by first | omega | (simp; done) | (simp; omega)) _ | refine bchain ?_ (by assumption) (by first | omega | (simp; done) | (simp; omega)))); done)) | (go_simp; done))
    (first
      | (refine step_append_grow _ rfl (.tmp 8) (.tmp 10) 33 rfl 25 i0 (.agg #[.int .i64 0, .int .i64 0, .int .i64 0]) 3 24 Try.underlying33 hi hz0' hz1' hz2' rfl A xs.length (by simp [Act.eval, Act.put]) (cs3 xs) (cs3_length xs) (HN.out _ (by (repeat (first | assumption | exact Below.refl _ _ | refine Below.drew ?_ | refine below_drewN ?_ _ | refine Below.setCell ?_ (by first | omega | (simp; done) | (simp; omega)) _ | refine Below.alloc ?_ (by first | omega | (simp; done) | (simp; omega)) _ | refine bchain ?_ (by assumption) (by first | omega | (simp; done) | (simp; omega)))))) ⟨w1.heap.size, 0, none⟩ 1 1 Nat.one_pos (by simp [Act.eval, Act.put]) [.int .i64 k, .int .i64 x, .int .i64 y] rfl (three_at (by go_simp) (by go_simp) (by go_simp)) (by unfold maxLen; omega) (by omega) (xs.length + 1) rfl ?_; intro b2 off2 c2 w2 hN2 hlt2 hc2 hb2; have B2 : Below w1.heap.size w1 w2 := bchain (by (repeat (first | assumption | exact Below.refl _ _ | refine Below.drew ?_ | refine below_drewN ?_ _ | refine Below.setCell ?_ (by first | omega | (simp; done) | (simp; omega)) _ | refine Below.alloc ?_ (by first | omega | (simp; done) | (simp; omega)) _ | refine bchain ?_ (by assumption) (by first | omega | (simp; done) | (simp; omega))))) hb2 (by first | assumption | omega | (simp; done) | (simp; omega)); have z2 := B2.size; have zx2 : w.heap.size < w2.heap.size := (by omega); have D2 : Below w.heap.size w w2 := B1.trans (B2.mono B1.size); have R2 := Lib.hid (rd_of_newsT hlt2 (by rw [hcs.out]; exact hN2)); clear hN2 hb2)
      | (go_at_call 59; refine (alwaysP_any _ _ _).mono ?_; rintro e w3 ⟨rfl, hp3, hq3, hb3⟩; have hs3 := hb3.size; (try simp only [World.size_alloc, World.size_drew] at hs3 hp3 hq3); have B3 : Below w1.heap.size w1 w3 := bchain (by (repeat (first | assumption | exact Below.refl _ _ | refine Below.drew ?_ | refine below_drewN ?_ _ | refine Below.setCell ?_ (by first | omega | (simp; done) | (simp; omega)) _ | refine Below.alloc ?_ (by first | omega | (simp; done) | (simp; omega)) _ | refine bchain ?_ (by assumption) (by first | omega | (simp; done) | (simp; omega))))) hb3 (by first | assumption | omega | (simp; done) | (simp; omega)); have z3 := B3.size; have D3 : Below w.heap.size w w3 := B1.trans (B3.mono B1.size); have R3 := Lib.hid (R2.out.below (w' := w3) (by (repeat (first | assumption | exact Below.refl _ _ | refine Below.drew ?_ | refine below_drewN ?_ _ | refine Below.setCell ?_ (by first | omega | (simp; done) | (simp; omega)) _ | refine Below.alloc ?_ (by first | omega | (simp; done) | (simp; omega)) _ | refine bchain ?_ (by assumption) (by first | omega | (simp; done) | (simp; omega)))))); clear hb3)
      | (go_at_call 58; refine (HQ.out _ _ _ _ R3.out hc2 hq3 hp3).mono ?_; rintro e w4 ⟨a4, c4, rfl, hO4, hb4⟩; have B4 : Below w1.heap.size w1 w4 := bchain (by (repeat (first | assumption | exact Below.refl _ _ | refine Below.drew ?_ | refine below_drewN ?_ _ | refine Below.setCell ?_ (by first | omega | (simp; done) | (simp; omega)) _ | refine Below.alloc ?_ (by first | omega | (simp; done) | (simp; omega)) _ | refine bchain ?_ (by assumption) (by first | omega | (simp; done) | (simp; omega))))) hb4 (by first | assumption | omega | (simp; done) | (simp; omega)); have z4 := B4.size; have D4 : Below w.heap.size w w4 := B1.trans (B4.mono B1.size); have hq4 : w4.cell? ⟨w.heap.size + 1 + 1, 0, none⟩ = some (.slice none 0 0) := ((bcell B4).1 _ _ (by omega)).trans hy0; have hq5 : ∀ o, w4.frozen? ⟨w.heap.size + 1 + 1, o, none⟩ = false := fun o => ((bcell B4).2 _ _ (by omega)).trans (hfy o); have HO4 := Lib.hid hO4; clear hO4 hb4)
      | (go_at_call 90; refine (cut_any A xs.length cap _ hcap hn).mono ?_; rintro e w' ⟨rfl, rfl⟩))
  all_goals
    rename_i hS
    go_wp2_with fail
    refine bodyPost_ret (v := .tuple #[.agg #[.slice a4 D.length c4], .bool ok]) (by simp [results, Try.results50, go_sem, hq4]) rfl ⟨a4, c4, rfl, ?_, by (repeat (first | assumption | exact Below.refl _ _ | refine Below.drew ?_ | refine below_drewN ?_ _ | refine Below.setCell ?_ (by first | omega | (simp; done) | (simp; omega)) _ | refine Below.alloc ?_ (by first | omega | (simp; done) | (simp; omega)) _ | refine bchain ?_ (by assumption) (by first | omega | (simp; done) | (simp; omega))))⟩
    exact row_low (row_setLow (by first | exact HO4.out | (have q := HO4.out; unfold OwnC at q; exact q)) _ _ (by simp; omega)) (by omega)
end Go.Proofs.Ytnnokfecjdmjpaa
