/- Puzzles (chapter 9): the door through which questions about clues go, by contracts. -/
import Derived.Test.YtpmnnfojmnmohaaDoorPzImpl2
import Derived.WalkKit
import Derived.WalkSpells
import Derived.WalkLawsBesides
import Derived.Defers
import Derived.Recover
import Derived.Lib.Hide
import Derived.Deep.LoopGhost
import Derived.Deep.QuietTactic
import Derived.Deep.RegionHeld3
import Derived.BigQuiet
import Derived.Shelf.Abstract
namespace Go.Proofs.YtpmnnfojmnmohaaDoor
open Go.RowKit
set_option linter.unusedVariables false
set_option linter.unusedSimpArgs false
set_option maxHeartbeats 1000000 in
theorem cut_any (A : Addr) (n cap : Nat) (w : World) (hn : n ≤ cap) (hc : n ≤ 1048576) :
    Calls Tryd.prog 51 #[.slice (some A) n cap] w fun e w' => e = .returned (.slice (some A) n n) ∧ w = w' := by
  go_enter Tryd.func51, Tryd.ntmps51
  go_wp2_with fail
  go_ret
  exact ⟨rfl, rfl⟩
set_option maxHeartbeats 2000000 in
theorem riddleOf_yes (A : Addr) (cap : Nat) (xs : List (Int × Int × Int)) (w : World) (h : RdC w (some A) xs) (hn : xs.length ≤ 1048576) (hcap : xs.length ≤ cap) (hcl : clA xs = true) :
    Calls Tryd.prog 43 #[.slice (some A) xs.length cap] w fun e w' => e = .returned (.slice (some A) xs.length xs.length) ∧ Below w.heap.size w w' := by
  have HC := Lib.hid (fun i (hi : i < xs.length) => clA_at hcl hi)
  have HCut := Lib.hid (fun w => cut_any A xs.length cap w hcap hn)
  clear hcl
  go_enter Tryd.func43, Tryd.ntmps43
  go_wp2_with fail
  go_loopg [7] xs.length (fun k v7 wr => ∃ (j : Nat), v7 = .int .i64 (j : Int) ∧ j + k = xs.length ∧ Below w.heap.size w wr)
  case atStart => exact ⟨0, rfl, by omega, Below.refl _ _⟩
  case round =>
    obtain ⟨j, rfl, q1, hbel⟩ := hrel
    have hsz := hbel.size
    by_cases hj : j < xs.length
    · have hjI : (j : Int) < (xs.length : Int) := by omega
      rcases h.below hbel with h' | ⟨b, off, e0, hlt, hc⟩
      · rw [h'] at hj; exact absurd hj (Nat.not_lt_zero _)
      · injection e0 with e0
        subst e0
        obtain ⟨c0, c1, c2⟩ := hc j hj
        have k1 := HC.out j hj
        have H1 := Lib.hid (fun w => k1 ▸ implIsClue (tk xs j) (ta xs j) (tb xs j) w)
        have HB := Lib.hid hbel
        have Q1 := Lib.hid q1
        clear k1 hbel q1 hc
        generalize tk xs j = x at *
        generalize ta xs j = y at *
        generalize tb xs j = z at *
        go_wp2_with (first | (go_at_call 50; refine (H1.out _).mono ?_; rintro e w1 ⟨rfl, hb⟩))
        go_roundg (gk - 1)
        case rel => exact ⟨j + 1, by go_num, by have := Q1.out; omega, by (repeat (first | assumption | exact HB.out | exact Below.refl _ _ | refine Below.drew ?_ | refine below_drewN ?_ _ | refine Below.setCell ?_ (by first | omega | (simp; done) | (simp; omega)) _ | refine Below.alloc ?_ (by first | omega | (simp; done) | (simp; omega)) _ | refine bchain ?_ (by assumption) (by first | omega | (simp; done) | (simp; omega))))⟩
        case measure => have := Q1.out; omega
    · have HB := Lib.hid hbel
      have hjI : ¬ ((j : Int) < (xs.length : Int)) := by omega
      clear hbel q1 hj
      go_wp2_with (first | (go_at_call 51; refine (HCut.out _).mono ?_; rintro e w1 ⟨rfl, rfl⟩))
      go_ret
      exact ⟨rfl, HB.out⟩
set_option maxHeartbeats 2000000 in
theorem riddleOf_no (A : Addr) (cap : Nat) (xs : List (Int × Int × Int)) (w : World) (h : RdC w (some A) xs) (hn : xs.length ≤ 1048576) (hcl : clA xs = false) :
    Calls Tryd.prog 43 #[.slice (some A) xs.length cap] w fun e w' => (∃ k a b : Int, e = .panicked [{ v := .iface 77 (.agg #[.int .i64 k, .int .i64 a, .int .i64 b]), recovered := false }]) ∧ Below w.heap.size w w' := by
  have HC := Lib.hid (show ∀ (hx : ∀ i, i < xs.length → clB (tk xs i) (ta xs i) (tb xs i) = true), False from fun hx => by rw [clA_of hx] at hcl; cases hcl)
  clear hcl
  go_enter Tryd.func43, Tryd.ntmps43
  go_wp2_with fail
  go_loopg [7] xs.length (fun k v7 wr => ∃ (j : Nat), v7 = .int .i64 (j : Int) ∧ j + k = xs.length ∧ Hid (∀ i, i < j → clB (tk xs i) (ta xs i) (tb xs i) = true) ∧ Below w.heap.size w wr)
  case atStart => exact ⟨0, rfl, by omega, fun i hi => absurd hi (Nat.not_lt_zero _), Below.refl _ _⟩
  case round =>
    obtain ⟨j, rfl, q1, hall, hbel⟩ := hrel
    have hsz := hbel.size
    by_cases hj : j < xs.length
    · have hjI : (j : Int) < (xs.length : Int) := by omega
      rcases h.below hbel with h' | ⟨b, off, e0, hlt, hc⟩
      · rw [h'] at hj; exact absurd hj (Nat.not_lt_zero _)
      · injection e0 with e0
        subst e0
        obtain ⟨c0, c1, c2⟩ := hc j hj
        have HB := Lib.hid hbel
        have Q1 := Lib.hid q1
        cases k1 : clB (tk xs j) (ta xs j) (tb xs j)
        · have H1 := Lib.hid (fun w => k1 ▸ implIsClue (tk xs j) (ta xs j) (tb xs j) w)
          clear k1 hbel q1 hc hall
          generalize tk xs j = x at *
          generalize ta xs j = y at *
          generalize tb xs j = z at *
          go_wp2_with (first | (go_at_call 50; refine (H1.out _).mono ?_; rintro e w1 ⟨rfl, hb⟩; have hz1 := hb.size; (try simp only [World.size_alloc] at hz1); have hcA := fun o => (bcell hb).1 wr.heap.size o (by first | omega | (simp; done) | (simp; omega))))
          exact ⟨rfl, ⟨x, y, z, rfl⟩, by (repeat (first | assumption | exact HB.out | exact Below.refl _ _ | refine Below.drew ?_ | refine below_drewN ?_ _ | refine Below.setCell ?_ (by first | omega | (simp; done) | (simp; omega)) _ | refine Below.alloc ?_ (by first | omega | (simp; done) | (simp; omega)) _ | refine bchain ?_ (by assumption) (by first | omega | (simp; done) | (simp; omega))))⟩
        · have hall2 : Hid (∀ i, i < j + 1 → clB (tk xs i) (ta xs i) (tb xs i) = true) := fun i hi => by
            by_cases q : i = j
            · subst q; exact k1
            · exact hall.out i (by omega)
          have H1 := Lib.hid (fun w => k1 ▸ implIsClue (tk xs j) (ta xs j) (tb xs j) w)
          clear k1 hbel q1 hc hall
          generalize tk xs j = x at *
          generalize ta xs j = y at *
          generalize tb xs j = z at *
          go_wp2_with (first | (go_at_call 50; refine (H1.out _).mono ?_; rintro e w1 ⟨rfl, hb⟩))
          go_roundg (gk - 1)
          case rel => exact ⟨j + 1, by go_num, by have := Q1.out; omega, hall2, by (repeat (first | assumption | exact HB.out | exact Below.refl _ _ | refine Below.drew ?_ | refine below_drewN ?_ _ | refine Below.setCell ?_ (by first | omega | (simp; done) | (simp; omega)) _ | refine Below.alloc ?_ (by first | omega | (simp; done) | (simp; omega)) _ | refine bchain ?_ (by assumption) (by first | omega | (simp; done) | (simp; omega))))⟩
          case measure => have := Q1.out; omega
    · exact (HC.out (fun i hi => hall.out i (by omega))).elim
theorem noClueInfo : (Tryd.prog.info? 77).map (fun i => (i.zero, i.size, i.bytes)) = some (some (.agg #[.int .i64 0, .int .i64 0, .int .i64 0]), 3, 24) := by kernel_rfl
theorem assert_yes (v : Value) (w : World) : (Instr.typeAssert (.iface 77 v) 20 77 true).run Tryd.prog w = .ok (.tuple #[v, .bool true]) w := by
  simp [Instr.typeAssert, run_underlying Tryd.underlying77]
theorem assert_no (w : World) : (Instr.typeAssert .nilIface 20 77 true).run Tryd.prog w = .ok (.tuple #[.agg #[.int .i64 0, .int .i64 0, .int .i64 0], .bool false]) w := by
  obtain ⟨i0, hi, hz0, hz1, hz2⟩ := info_parts noClueInfo
  simp [Instr.typeAssert, run_underlying Tryd.underlying77, zeroValue, typeInfo, hi, hz0]
set_option maxHeartbeats 2000000 in
theorem catchT_panicking (p : Nat) (ok : Bool) (k a b : Int) (older : List PanicEntry) (w : World) (hp : p < w.heap.size) (hc : w.cell? ⟨p, 0, none⟩ = some (.bool ok)) (hz : w.frozen? ⟨p, 0, none⟩ = false) :
    CallsD Tryd.prog 42 #[.pointer (some ⟨p, 0, none⟩)] (.panicking ({ v := .iface 77 (.agg #[.int .i64 k, .int .i64 a, .int .i64 b]), recovered := false } :: older)) w fun e u' w' =>
      e = .returned (.tuple #[]) ∧ u' = .panicking ({ v := .iface 77 (.agg #[.int .i64 k, .int .i64 a, .int .i64 b]), recovered := true } :: older) ∧ w' = (w.alloc (.cells #[.int .i64 k, .int .i64 a, .int .i64 b] 77)).setCell ⟨p, 0, none⟩ (.bool false) := by
  refine callsD_of_wpS Tryd.func42 rfl fun c₀ cs hu => ?_
  apply wpS_seq
  apply wpS_region
  simp [wpOpsS, go_sem, recoverD, hu, Tryd.ntmps42, Exit.thenS, assert_yes]
  apply wpS_seq
  apply wpS_region
  simp [wpOpsS, go_sem, Exit.thenS]
  refine wpS_cond (t := true) (by simp [Act.eval, Array.replicate]) ?_
  simp only [if_true]
  apply wpS_region
  simp [wpOpsS, go_sem, hp, hc, hz, bodyPostS, results, Tryd.results42]
set_option maxHeartbeats 2000000 in
theorem catchT_idle (p : Nat) (w : World) :
    CallsD Tryd.prog 42 #[.pointer (some ⟨p, 0, none⟩)] .returning w fun e u' w' => e = .returned (.tuple #[]) ∧ u' = .returning ∧ w' = w.alloc (.cells #[.int .i64 0, .int .i64 0, .int .i64 0] 77) := by
  refine callsD_of_wpS Tryd.func42 rfl fun c₀ cs hu => ?_
  apply wpS_seq
  apply wpS_region
  simp [wpOpsS, go_sem, recoverD, hu, Tryd.ntmps42, Exit.thenS, assert_no]
  apply wpS_seq
  apply wpS_region
  simp [wpOpsS, go_sem, Exit.thenS]
  refine wpS_cond (t := false) (by simp [Act.eval, Array.replicate]) ?_
  simp only [Bool.false_eq_true, if_false]
  refine wpS_of_wp (wp_skip ?_)
  cases c₀
  simp_all [bodyPostS, results, Tryd.results42]
set_option maxHeartbeats 4000000 in
set_option maxRecDepth 100000 in
theorem askT_no (Q : Value) (A : Addr) (cap : Nat) (xs : List (Int × Int × Int)) (w : World) (h : RdC w (some A) xs) (hn : xs.length ≤ 1048576) (hg : pzG xs = false) :
    Calls Tryd.prog 29 #[.slice (some A) xs.length cap, Q] w fun e w' => e = .returned (.tuple #[.string ⟨#[]⟩, .bool false]) ∧ Below w.heap.size w w' := by
  have hmf : ∀ (fn : Fn) (first cap : Array Value) (w : World), (Instr.makeFunc fn first cap).run Tryd.prog w = .ok (.func fn first cap) w := fun _ _ _ _ => rfl
  by_cases h6 : xs.length ≤ 6
  · have h6I : ¬ (6 < (xs.length : Int)) := by omega
    have hcl : clA xs = false := by
      cases q : clA xs
      · rfl
      · rw [pzG_iff.2 ⟨h6, q⟩] at hg; cases hg
    have HRi := Lib.hid (fun w h => riddleOf_no A cap xs w h hn hcl)
    have HR := Lib.hid h
    clear hcl h hg
    go_enter_defers Tryd.func29, Tryd.ntmps29
    go_wp2_with (first | (go_at_call 43; refine (HRi.out _ (HR.out.below (by (repeat (first | assumption | exact Below.refl _ _ | refine Below.drew ?_ | refine below_drewN ?_ _ | refine Below.setCell ?_ (by first | omega | (simp; done) | (simp; omega)) _ | refine Below.alloc ?_ (by first | omega | (simp; done) | (simp; omega)) _ | refine bchain ?_ (by assumption) (by first | omega | (simp; done) | (simp; omega))))))).mono ?_; rintro e w1 ⟨⟨k, a, b, rfl⟩, hb1⟩; have hs1 := hb1.size; (try simp only [World.size_alloc] at hs1); have hc1 : w1.cell? ⟨w.heap.size, 0, none⟩ = some (.bool false) := (by rw [(bcell hb1).1 _ _ (by first | omega | (simp; done) | (simp; omega))]; go_simp); have hf1 : w1.frozen? ⟨w.heap.size, 0, none⟩ = false := (by rw [(bcell hb1).2 _ _ (by first | omega | (simp; done) | (simp; omega))]; go_simp); have B1 := Lib.hid (show Below w.heap.size w w1 by (repeat (first | assumption | exact Below.refl _ _ | refine Below.drew ?_ | refine below_drewN ?_ _ | refine Below.setCell ?_ (by first | omega | (simp; done) | (simp; omega)) _ | refine Below.alloc ?_ (by first | omega | (simp; done) | (simp; omega)) _ | refine bchain ?_ (by assumption) (by first | omega | (simp; done) | (simp; omega))))); clear hb1))
    refine leaves_cons (f := 42) (args := #[.pointer (some ⟨w.heap.size, 0, none⟩)]) (by simp) (by simp [go_sem]) ?_
    refine (catchT_panicking (w.heap.size) false k a b [] _ (by omega) hc1 hf1).mono ?_
    rintro e u' w'' ⟨rfl, rfl, rfl⟩
    have hlw : w.heap.size < w1.heap.size := by omega
    have hlv : w.heap.size < w1.heap.size := by omega
    simp [Leaves, settle, results, Tryd.results29, go_sem, hlw, hlv, hc1]
    (repeat (first | assumption | exact B1.out | exact Below.refl _ _ | refine Below.drew ?_ | refine below_drewN ?_ _ | refine Below.setCell ?_ (by first | omega | (simp; done) | (simp; omega)) _ | refine Below.alloc ?_ (by first | omega | (simp; done) | (simp; omega)) _ | refine bchain ?_ (by assumption) (by first | omega | (simp; done) | (simp; omega))))
  · have h6I : (6 < (xs.length : Int)) := by omega
    clear h hg
    go_enter_defers Tryd.func29, Tryd.ntmps29
    go_wp2_with fail
    simp [bodyPostD, Leaves, settle, results, Tryd.results29, go_sem]
    (repeat (first | assumption | exact Below.refl _ _ | refine Below.drew ?_ | refine below_drewN ?_ _ | refine Below.setCell ?_ (by first | omega | (simp; done) | (simp; omega)) _ | refine Below.alloc ?_ (by first | omega | (simp; done) | (simp; omega)) _ | refine bchain ?_ (by assumption) (by first | omega | (simp; done) | (simp; omega))))
set_option maxHeartbeats 4000000 in
set_option maxRecDepth 100000 in
theorem askT_yes (F : Nat) (cb : Array Value) (A : Addr) (cap : Nat) (xs : List (Int × Int × Int)) (b0 : ByteArray) (k0 : Bool) (w : World) (h : RdC w (some A) xs) (hn : xs.length ≤ 1048576) (hcap : xs.length ≤ cap) (hg : pzG xs = true)
    (eg : ∀ args w, (callFunc F args).run Tryd.prog w = .ok (.enter F args) w)
    (hq : ∀ W, Below w.heap.size w W → Calls Tryd.prog F (#[.slice (some A) xs.length xs.length] ++ cb) W fun e w' => e = .returned (.tuple #[.string b0, .bool k0]) ∧ Below W.heap.size W w') :
    Calls Tryd.prog 29 #[.slice (some A) xs.length cap, .func (.func F) #[] cb] w fun e w' => e = .returned (.tuple #[.string b0, .bool k0]) ∧ Below w.heap.size w w' := by
  have hmf : ∀ (fn : Fn) (first cap : Array Value) (w : World), (Instr.makeFunc fn first cap).run Tryd.prog w = .ok (.func fn first cap) w := fun _ _ _ _ => rfl
  have h6 := (pzG_iff.1 hg).1
  have h6I : ¬ (6 < (xs.length : Int)) := by omega
  have HRi := Lib.hid (fun w h => riddleOf_yes A cap xs w h hn hcap (pzG_iff.1 hg).2)
  have HQ := Lib.hid hq
  have HR := Lib.hid h
  clear hq h hg
  go_enter_defers Tryd.func29, Tryd.ntmps29
  go_wp2_with (first | (go_at_call 43; refine (HRi.out _ (HR.out.below (by (repeat (first | assumption | exact Below.refl _ _ | refine Below.drew ?_ | refine below_drewN ?_ _ | refine Below.setCell ?_ (by first | omega | (simp; done) | (simp; omega)) _ | refine Below.alloc ?_ (by first | omega | (simp; done) | (simp; omega)) _ | refine bchain ?_ (by assumption) (by first | omega | (simp; done) | (simp; omega))))))).mono ?_; rintro e w1 ⟨rfl, hb1⟩; have hs1 := hb1.size; (try simp only [World.size_alloc] at hs1); have hc1 : w1.cell? ⟨w.heap.size, 0, none⟩ = some (.bool false) := (by rw [(bcell hb1).1 _ _ (by first | omega | (simp; done) | (simp; omega))]; go_simp); have hf1 : w1.frozen? ⟨w.heap.size, 0, none⟩ = false := (by rw [(bcell hb1).2 _ _ (by first | omega | (simp; done) | (simp; omega))]; go_simp); have B1 := Lib.hid (show Below w.heap.size w w1 by (repeat (first | assumption | exact Below.refl _ _ | refine Below.drew ?_ | refine below_drewN ?_ _ | refine Below.setCell ?_ (by first | omega | (simp; done) | (simp; omega)) _ | refine Below.alloc ?_ (by first | omega | (simp; done) | (simp; omega)) _ | refine bchain ?_ (by assumption) (by first | omega | (simp; done) | (simp; omega))))); clear hb1) | (go_at_fn F; refine (HQ.out _ B1.out).mono ?_; rintro e w2 ⟨rfl, hb2⟩; have hs2 := hb2.size; have hc2 : w2.cell? ⟨w.heap.size, 0, none⟩ = some (.bool false) := ((bcell hb2).1 _ _ (by omega)).trans hc1; have hf2 : w2.frozen? ⟨w.heap.size, 0, none⟩ = false := ((bcell hb2).2 _ _ (by omega)).trans hf1; have B2 := Lib.hid (B1.out.trans (hb2.mono B1.out.size)); clear hb2))
  have hlw : w.heap.size < w2.heap.size := by omega
  have hlv : w.heap.size < w2.heap.size := by omega
  refine leaves_cons (f := 42) (args := #[.pointer (some ⟨w.heap.size, 0, none⟩)]) (by simp) (by simp [go_sem]) ?_
  refine (catchT_idle (w.heap.size) _).mono ?_
  rintro e u' w'' ⟨rfl, rfl, rfl⟩
  simp [Leaves, settle, results, Tryd.results29, go_sem, hlw, hlv, hc2]
  (repeat (first | assumption | exact B2.out | exact Below.refl _ _ | refine Below.drew ?_ | refine below_drewN ?_ _ | refine Below.setCell ?_ (by first | omega | (simp; done) | (simp; omega)) _ | refine Below.alloc ?_ (by first | omega | (simp; done) | (simp; omega)) _ | refine bchain ?_ (by assumption) (by first | omega | (simp; done) | (simp; omega))))
end Go.Proofs.YtpmnnfojmnmohaaDoor
