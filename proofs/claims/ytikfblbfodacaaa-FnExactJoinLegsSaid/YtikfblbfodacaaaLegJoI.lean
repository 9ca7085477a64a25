/- The first two neighbours of one speed joined in an array of five legs: the program, by contracts. -/
import Derived.Test.YtikfblbfodacaaaLegJn
import Derived.Test.YtikfblbfodacaaaCopyTwo
import Derived.WalkKit
import Derived.WalkSpells
import Derived.WalkLawsBesides
import Derived.Lib.Hide
import Derived.Deep.LoopGhost
import Derived.Deep.QuietTactic
import Derived.Deep.RegionLaw
import Derived.Deep.RegionHeld3
import Derived.BigQuiet
import Derived.Shelf.RegionOpenPlain
namespace Go.Proofs.Ytikfblbfodacaaa
open Go.RowKit
set_option linter.unusedVariables false
set_option linter.unusedSimpArgs false
/-- the array of a list of at most five legs -/
def aggJ (ys : List (Int × Int)) : Value := .agg #[.int .i64 (px ys 0), .int .i64 (py ys 0), .int .i64 (px ys 1), .int .i64 (py ys 1), .int .i64 (px ys 2), .int .i64 (py ys 2), .int .i64 (px ys 3), .int .i64 (py ys 3), .int .i64 (px ys 4), .int .i64 (py ys 4)]
/-- what stands at place i behind the joining at m -/
def rwX (ys : List (Int × Int)) (m i : Nat) : Int := if i < m then px ys i else if i = m then px ys m + px ys (m + 1) else px ys (i + 1)
def rwY (ys : List (Int × Int)) (m i : Nat) : Int := if i < m then py ys i else if i = m then py ys m else py ys (i + 1)
theorem rw_at {ys : List (Int × Int)} {m : Nat} (h : ys.length ≤ 5) (i : Nat) (hm : m + 1 ≥ ys.length → py ys m = py ys (m + 1)) :
    px (if m + 1 < ys.length then mrg ys m else ys) i = rwX ys m i ∧ py (if m + 1 < ys.length then mrg ys m else ys) i = rwY ys m i := by
  by_cases q : m + 1 < ys.length
  · rw [if_pos q]; exact ⟨mrg_px q i, mrg_py q i⟩
  · rw [if_neg q]
    have e := hm (by omega)
    have o1 := px_out (ys := ys) (i := m + 1) (by omega)
    unfold rwX rwY
    by_cases a : i < m
    · rw [if_pos a, if_pos a]; exact ⟨rfl, rfl⟩
    · rw [if_neg a, if_neg a]
      by_cases b : i = m
      · rw [if_pos b, if_pos b, b, o1.1]; exact ⟨by omega, rfl⟩
      · rw [if_neg b, if_neg b]
        have o2 := px_out (ys := ys) (i := i) (by omega)
        have o3 := px_out (ys := ys) (i := i + 1) (by omega)
        rw [o2.1, o2.2, o3.1, o3.2]; exact ⟨rfl, rfl⟩
set_option maxHeartbeats 8000000 in
set_option maxRecDepth 100000 in
theorem joinedOnce_any (ys : List (Int × Int)) (hb : jgOk ys) (w : World) :
    Calls Try.prog 21 #[aggJ ys] w fun e w' => e = .returned (aggJ (joF ys 4 0)) ∧ Below w.heap.size w w' := by
  have mixed : Try.prog.follows Departure.mixedOrders = true := by kernel_rfl
  have HB := Lib.hid (jgOk_bd hb)
  obtain ⟨RES, hRES⟩ : ∃ R, R = joF ys 4 0 := ⟨_, rfl⟩
  rw [← hRES]
  have HR := Lib.hid hRES
  clear hRES
  unfold aggJ
  go_enter Try.func21, Try.ntmps21
  go_wp2_with fail
  go_loopg [3] 4 (fun f v3 wr => ∃ (m : Nat), v3 = .int .i64 ((m : Int) + 1) ∧ m + f = 4 ∧ Hid (joF ys f m = RES) ∧ (∀ i, i < 5 → wr.cell? ⟨w.heap.size, i * 2, none⟩ = some (.int .i64 (px ys i)) ∧ wr.cell? ⟨w.heap.size, i * 2 + 1, none⟩ = some (.int .i64 (py ys i))) ∧ (∀ o, wr.frozen? ⟨w.heap.size, o, none⟩ = false) ∧ (∀ o, o < 10 → (wr.cell? ⟨w.heap.size + 1, o, none⟩).isSome = true) ∧ (∀ o, wr.frozen? ⟨w.heap.size + 1, o, none⟩ = false) ∧ w.heap.size + 1 < wr.heap.size ∧ Below w.heap.size w wr)
  case atStart =>
    refine ⟨0, rfl, rfl, HR.out.symm, ?_, ?_, ?_, ?_, by simp, ((Below.refl _ _).alloc (Nat.le_refl _) _).alloc (by simp) _⟩
    · intro i hi
      match i, hi with
      | 0, _ => exact ⟨by go_simp, by go_simp⟩
      | 1, _ => exact ⟨by go_simp, by go_simp⟩
      | 2, _ => exact ⟨by go_simp, by go_simp⟩
      | 3, _ => exact ⟨by go_simp, by go_simp⟩
      | 4, _ => exact ⟨by go_simp, by go_simp⟩
    · intro o; go_simp
    · intro o ho
      match o, ho with
      | 0, _ => go_simp
      | 1, _ => go_simp
      | 2, _ => go_simp
      | 3, _ => go_simp
      | 4, _ => go_simp
      | 5, _ => go_simp
      | 6, _ => go_simp
      | 7, _ => go_simp
      | 8, _ => go_simp
      | 9, _ => go_simp
    · intro o; go_simp
  case round =>
    obtain ⟨m, rfl, hmf, hjo, hc, hf, hr, hg, hz, hbel⟩ := hrel
    have hall := Lib.hid (And.intro hc (And.intro hf (And.intro hr hg)))
    have hm4 : m ≤ 4 := by omega
    rcases m with _ | _ | _ | _ | _ | m
    · obtain rfl : gk = 4 := by omega
      have c0 : wr.cell? ⟨w.heap.size, 0, none⟩ = some (.int .i64 (px ys 0)) := (hc 0 (by omega)).1
      have c1 : wr.cell? ⟨w.heap.size, 1, none⟩ = some (.int .i64 (py ys 0)) := (hc 0 (by omega)).2
      have c2 : wr.cell? ⟨w.heap.size, 2, none⟩ = some (.int .i64 (px ys 1)) := (hc 1 (by omega)).1
      have c3 : wr.cell? ⟨w.heap.size, 3, none⟩ = some (.int .i64 (py ys 1)) := (hc 1 (by omega)).2
      have c4 : wr.cell? ⟨w.heap.size, 4, none⟩ = some (.int .i64 (px ys 2)) := (hc 2 (by omega)).1
      have c5 : wr.cell? ⟨w.heap.size, 5, none⟩ = some (.int .i64 (py ys 2)) := (hc 2 (by omega)).2
      have c6 : wr.cell? ⟨w.heap.size, 6, none⟩ = some (.int .i64 (px ys 3)) := (hc 3 (by omega)).1
      have c7 : wr.cell? ⟨w.heap.size, 7, none⟩ = some (.int .i64 (py ys 3)) := (hc 3 (by omega)).2
      have c8 : wr.cell? ⟨w.heap.size, 8, none⟩ = some (.int .i64 (px ys 4)) := (hc 4 (by omega)).1
      have c9 : wr.cell? ⟨w.heap.size, 9, none⟩ = some (.int .i64 (py ys 4)) := (hc 4 (by omega)).2
      have f0 : wr.frozen? ⟨w.heap.size, 0, none⟩ = false := hf 0
      have g0 : wr.frozen? ⟨w.heap.size + 1, 0, none⟩ = false := hg 0
      have f1 : wr.frozen? ⟨w.heap.size, 1, none⟩ = false := hf 1
      have g1 : wr.frozen? ⟨w.heap.size + 1, 1, none⟩ = false := hg 1
      have f2 : wr.frozen? ⟨w.heap.size, 2, none⟩ = false := hf 2
      have g2 : wr.frozen? ⟨w.heap.size + 1, 2, none⟩ = false := hg 2
      have f3 : wr.frozen? ⟨w.heap.size, 3, none⟩ = false := hf 3
      have g3 : wr.frozen? ⟨w.heap.size + 1, 3, none⟩ = false := hg 3
      have f4 : wr.frozen? ⟨w.heap.size, 4, none⟩ = false := hf 4
      have g4 : wr.frozen? ⟨w.heap.size + 1, 4, none⟩ = false := hg 4
      have f5 : wr.frozen? ⟨w.heap.size, 5, none⟩ = false := hf 5
      have g5 : wr.frozen? ⟨w.heap.size + 1, 5, none⟩ = false := hg 5
      have f6 : wr.frozen? ⟨w.heap.size, 6, none⟩ = false := hf 6
      have g6 : wr.frozen? ⟨w.heap.size + 1, 6, none⟩ = false := hg 6
      have f7 : wr.frozen? ⟨w.heap.size, 7, none⟩ = false := hf 7
      have g7 : wr.frozen? ⟨w.heap.size + 1, 7, none⟩ = false := hg 7
      have f8 : wr.frozen? ⟨w.heap.size, 8, none⟩ = false := hf 8
      have g8 : wr.frozen? ⟨w.heap.size + 1, 8, none⟩ = false := hg 8
      have f9 : wr.frozen? ⟨w.heap.size, 9, none⟩ = false := hf 9
      have g9 : wr.frozen? ⟨w.heap.size + 1, 9, none⟩ = false := hg 9
      obtain ⟨r0, d0⟩ := Option.isSome_iff_exists.1 (hr 0 (by omega))
      obtain ⟨r1, d1⟩ := Option.isSome_iff_exists.1 (hr 1 (by omega))
      obtain ⟨r2, d2⟩ := Option.isSome_iff_exists.1 (hr 2 (by omega))
      obtain ⟨r3, d3⟩ := Option.isSome_iff_exists.1 (hr 3 (by omega))
      obtain ⟨r4, d4⟩ := Option.isSome_iff_exists.1 (hr 4 (by omega))
      obtain ⟨r5, d5⟩ := Option.isSome_iff_exists.1 (hr 5 (by omega))
      obtain ⟨r6, d6⟩ := Option.isSome_iff_exists.1 (hr 6 (by omega))
      obtain ⟨r7, d7⟩ := Option.isSome_iff_exists.1 (hr 7 (by omega))
      obtain ⟨r8, d8⟩ := Option.isSome_iff_exists.1 (hr 8 (by omega))
      obtain ⟨r9, d9⟩ := Option.isSome_iff_exists.1 (hr 9 (by omega))
      have z0 : w.heap.size < wr.heap.size := by omega
      have hf' := hf
      have hg' := hg
      have HSZ : (Try.prog.info? 43).map (·.size) = some 2 := by rfl
      clear hc hf hg hr
      by_cases he : py ys 0 = py ys 1
      · have hE := Lib.hid (show (if 0 + 1 < ys.length then mrg ys 0 else ys) = RES by have := hjo.out; unfold joF at this; rw [if_pos he] at this; exact this)
        clear hjo hall
        have hlen : ys.length ≤ 5 := hb.2.1
        have bx0 := HB.out 0
        have bx1 := HB.out 1
        have hw1 : IntKind.i64.wrap (px ys 0 + px ys 1) = px ys 0 + px ys 1 := IntWalk.i64_in _ (by omega)
        go_wp2_with fail
        all_goals try (go_quiet (fail); go_wp2_with fail)
        go_big_region_o
        go_wp2_with fail
        have hw2 : IntKind.i64.wrap 2 = 2 := IntWalk.i64_in _ (by omega)
        have k0 : ∀ q : Nat, ((wr.drewN q).setCell ⟨w.heap.size, 0, none⟩ (.int .i64 (px ys 0 + px ys 1))).drew.cell? ⟨w.heap.size, 0, none⟩ = some (.int .i64 (px ys 0 + px ys 1)) := fun q => by go_simp
        have l0 : ∀ q : Nat, ((wr.drewN q).setCell ⟨w.heap.size, 0, none⟩ (.int .i64 (px ys 0 + px ys 1))).drew.cell? ⟨w.heap.size + 1, 0, none⟩ = some r0 := fun q => by go_simp
        have k1 : ∀ q : Nat, ((wr.drewN q).setCell ⟨w.heap.size, 0, none⟩ (.int .i64 (px ys 0 + px ys 1))).drew.cell? ⟨w.heap.size, 1, none⟩ = some (.int .i64 (py ys 0)) := fun q => by go_simp
        have l1 : ∀ q : Nat, ((wr.drewN q).setCell ⟨w.heap.size, 0, none⟩ (.int .i64 (px ys 0 + px ys 1))).drew.cell? ⟨w.heap.size + 1, 1, none⟩ = some r1 := fun q => by go_simp
        have k2 : ∀ q : Nat, ((wr.drewN q).setCell ⟨w.heap.size, 0, none⟩ (.int .i64 (px ys 0 + px ys 1))).drew.cell? ⟨w.heap.size, 2, none⟩ = some (.int .i64 (px ys 1)) := fun q => by go_simp
        have l2 : ∀ q : Nat, ((wr.drewN q).setCell ⟨w.heap.size, 0, none⟩ (.int .i64 (px ys 0 + px ys 1))).drew.cell? ⟨w.heap.size + 1, 2, none⟩ = some r2 := fun q => by go_simp
        have k3 : ∀ q : Nat, ((wr.drewN q).setCell ⟨w.heap.size, 0, none⟩ (.int .i64 (px ys 0 + px ys 1))).drew.cell? ⟨w.heap.size, 3, none⟩ = some (.int .i64 (py ys 1)) := fun q => by go_simp
        have l3 : ∀ q : Nat, ((wr.drewN q).setCell ⟨w.heap.size, 0, none⟩ (.int .i64 (px ys 0 + px ys 1))).drew.cell? ⟨w.heap.size + 1, 3, none⟩ = some r3 := fun q => by go_simp
        have k4 : ∀ q : Nat, ((wr.drewN q).setCell ⟨w.heap.size, 0, none⟩ (.int .i64 (px ys 0 + px ys 1))).drew.cell? ⟨w.heap.size, 4, none⟩ = some (.int .i64 (px ys 2)) := fun q => by go_simp
        have l4 : ∀ q : Nat, ((wr.drewN q).setCell ⟨w.heap.size, 0, none⟩ (.int .i64 (px ys 0 + px ys 1))).drew.cell? ⟨w.heap.size + 1, 4, none⟩ = some r4 := fun q => by go_simp
        have k5 : ∀ q : Nat, ((wr.drewN q).setCell ⟨w.heap.size, 0, none⟩ (.int .i64 (px ys 0 + px ys 1))).drew.cell? ⟨w.heap.size, 5, none⟩ = some (.int .i64 (py ys 2)) := fun q => by go_simp
        have l5 : ∀ q : Nat, ((wr.drewN q).setCell ⟨w.heap.size, 0, none⟩ (.int .i64 (px ys 0 + px ys 1))).drew.cell? ⟨w.heap.size + 1, 5, none⟩ = some r5 := fun q => by go_simp
        have k6 : ∀ q : Nat, ((wr.drewN q).setCell ⟨w.heap.size, 0, none⟩ (.int .i64 (px ys 0 + px ys 1))).drew.cell? ⟨w.heap.size, 6, none⟩ = some (.int .i64 (px ys 3)) := fun q => by go_simp
        have l6 : ∀ q : Nat, ((wr.drewN q).setCell ⟨w.heap.size, 0, none⟩ (.int .i64 (px ys 0 + px ys 1))).drew.cell? ⟨w.heap.size + 1, 6, none⟩ = some r6 := fun q => by go_simp
        have k7 : ∀ q : Nat, ((wr.drewN q).setCell ⟨w.heap.size, 0, none⟩ (.int .i64 (px ys 0 + px ys 1))).drew.cell? ⟨w.heap.size, 7, none⟩ = some (.int .i64 (py ys 3)) := fun q => by go_simp
        have l7 : ∀ q : Nat, ((wr.drewN q).setCell ⟨w.heap.size, 0, none⟩ (.int .i64 (px ys 0 + px ys 1))).drew.cell? ⟨w.heap.size + 1, 7, none⟩ = some r7 := fun q => by go_simp
        have k8 : ∀ q : Nat, ((wr.drewN q).setCell ⟨w.heap.size, 0, none⟩ (.int .i64 (px ys 0 + px ys 1))).drew.cell? ⟨w.heap.size, 8, none⟩ = some (.int .i64 (px ys 4)) := fun q => by go_simp
        have l8 : ∀ q : Nat, ((wr.drewN q).setCell ⟨w.heap.size, 0, none⟩ (.int .i64 (px ys 0 + px ys 1))).drew.cell? ⟨w.heap.size + 1, 8, none⟩ = some r8 := fun q => by go_simp
        have k9 : ∀ q : Nat, ((wr.drewN q).setCell ⟨w.heap.size, 0, none⟩ (.int .i64 (px ys 0 + px ys 1))).drew.cell? ⟨w.heap.size, 9, none⟩ = some (.int .i64 (py ys 4)) := fun q => by go_simp
        have l9 : ∀ q : Nat, ((wr.drewN q).setCell ⟨w.heap.size, 0, none⟩ (.int .i64 (px ys 0 + px ys 1))).drew.cell? ⟨w.heap.size + 1, 9, none⟩ = some r9 := fun q => by go_simp
        have hfW : ∀ q o : Nat, ((wr.drewN q).setCell ⟨w.heap.size, 0, none⟩ (.int .i64 (px ys 0 + px ys 1))).drew.frozen? ⟨w.heap.size, o, none⟩ = false := fun q o => by show ((wr.drewN q).setCell ⟨w.heap.size, 0, none⟩ (.int .i64 (px ys 0 + px ys 1))).frozen? _ = false; rw [World.frozen?_setCell]; exact hf' o
        have hgW : ∀ q o : Nat, ((wr.drewN q).setCell ⟨w.heap.size, 0, none⟩ (.int .i64 (px ys 0 + px ys 1))).drew.frozen? ⟨w.heap.size + 1, o, none⟩ = false := fun q o => by show ((wr.drewN q).setCell ⟨w.heap.size, 0, none⟩ (.int .i64 (px ys 0 + px ys 1))).frozen? _ = false; rw [World.frozen?_setCell]; exact hg' o
        go_region_law (refine step_copy2W rfl _ _ 24 24 rfl 43 Try.underlying24 HSZ w.heap.size 2 4 4 ⟨w.heap.size, 4, none⟩ 3 3 rfl rfl [.int .i64 (px ys 2), .int .i64 (py ys 2), .int .i64 (px ys 3), .int .i64 (py ys 3), .int .i64 (px ys 4), .int .i64 (py ys 4)] rfl (fun j v hv => by
          match j, hv with
          | 0, hv => obtain rfl := Option.some.inj hv; exact k4 _
          | 1, hv => obtain rfl := Option.some.inj hv; exact k5 _
          | 2, hv => obtain rfl := Option.some.inj hv; exact k6 _
          | 3, hv => obtain rfl := Option.some.inj hv; exact k7 _
          | 4, hv => obtain rfl := Option.some.inj hv; exact k8 _
          | 5, hv => obtain rfl := Option.some.inj hv; exact k9 _
          | _ + 6, hv => exact absurd hv (by simp)) (fun j hj => by
          match j, hj with
          | 0, hj => exact Option.isSome_of_eq_some (k2 _)
          | 1, hj => exact Option.isSome_of_eq_some (k3 _)
          | 2, hj => exact Option.isSome_of_eq_some (k4 _)
          | 3, hj => exact Option.isSome_of_eq_some (k5 _)
          | 4, hj => exact Option.isSome_of_eq_some (k6 _)
          | 5, hj => exact Option.isSome_of_eq_some (k7 _)
          | _ + 6, hj => exact absurd hj (by simp)) (fun j hj => hfW _ _) (by intro v hv; simp at hv; rcases hv with rfl | rfl | rfl | rfl | rfl | rfl <;> rfl) ?_; intro W6 hW6)
        all_goals
          have hBW : Below w.heap.size w W6 := by rw [hW6.out]; exact below_setCells _ (Nat.le_refl _) _ _ _ _ (Below.drew (Below.setCell (below_drewN hbel _) (Nat.le_refl _) _))
          have v0 : W6.cell? ⟨w.heap.size, 0, none⟩ = some (.int .i64 (px ys 0 + px ys 1)) := by rw [hW6.out]; exact ((World.cell?_setCells_out _ _ _ _ _ (fun _ _ => Or.inl (show (0 : Nat) < 2 by decide))).trans (k0 _))
          have v1 : W6.cell? ⟨w.heap.size, 1, none⟩ = some (.int .i64 (py ys 1)) := by rw [hW6.out]; exact (((World.cell?_setCells_out _ _ _ _ _ (fun _ _ => Or.inl (show (1 : Nat) < 2 by decide))).trans (k1 _)).trans (by rw [he]))
          have v2 : W6.cell? ⟨w.heap.size, 2, none⟩ = some (.int .i64 (px ys 2)) := by rw [hW6.out]; exact (World.cell?_setCells_in w.heap.size [.int .i64 (px ys 2), .int .i64 (py ys 2), .int .i64 (px ys 3), .int .i64 (py ys 3), .int .i64 (px ys 4), .int .i64 (py ys 4)] 2 (((wr.drewN (nq + 1)).setCell ⟨w.heap.size, 0, none⟩ (.int .i64 (px ys 0 + px ys 1))).drew) (fun j hj => by
              match j, hj with
              | 0, hj => exact Option.isSome_of_eq_some (k2 _)
              | 1, hj => exact Option.isSome_of_eq_some (k3 _)
              | 2, hj => exact Option.isSome_of_eq_some (k4 _)
              | 3, hj => exact Option.isSome_of_eq_some (k5 _)
              | 4, hj => exact Option.isSome_of_eq_some (k6 _)
              | 5, hj => exact Option.isSome_of_eq_some (k7 _)
              | _ + 6, hj => exact absurd hj (by simp)) 0 (show (0 : Nat) < 6 by decide))
          have v3 : W6.cell? ⟨w.heap.size, 3, none⟩ = some (.int .i64 (py ys 2)) := by rw [hW6.out]; exact (World.cell?_setCells_in w.heap.size [.int .i64 (px ys 2), .int .i64 (py ys 2), .int .i64 (px ys 3), .int .i64 (py ys 3), .int .i64 (px ys 4), .int .i64 (py ys 4)] 2 (((wr.drewN (nq + 1)).setCell ⟨w.heap.size, 0, none⟩ (.int .i64 (px ys 0 + px ys 1))).drew) (fun j hj => by
              match j, hj with
              | 0, hj => exact Option.isSome_of_eq_some (k2 _)
              | 1, hj => exact Option.isSome_of_eq_some (k3 _)
              | 2, hj => exact Option.isSome_of_eq_some (k4 _)
              | 3, hj => exact Option.isSome_of_eq_some (k5 _)
              | 4, hj => exact Option.isSome_of_eq_some (k6 _)
              | 5, hj => exact Option.isSome_of_eq_some (k7 _)
              | _ + 6, hj => exact absurd hj (by simp)) 1 (show (1 : Nat) < 6 by decide))
          have v4 : W6.cell? ⟨w.heap.size, 4, none⟩ = some (.int .i64 (px ys 3)) := by rw [hW6.out]; exact (World.cell?_setCells_in w.heap.size [.int .i64 (px ys 2), .int .i64 (py ys 2), .int .i64 (px ys 3), .int .i64 (py ys 3), .int .i64 (px ys 4), .int .i64 (py ys 4)] 2 (((wr.drewN (nq + 1)).setCell ⟨w.heap.size, 0, none⟩ (.int .i64 (px ys 0 + px ys 1))).drew) (fun j hj => by
              match j, hj with
              | 0, hj => exact Option.isSome_of_eq_some (k2 _)
              | 1, hj => exact Option.isSome_of_eq_some (k3 _)
              | 2, hj => exact Option.isSome_of_eq_some (k4 _)
              | 3, hj => exact Option.isSome_of_eq_some (k5 _)
              | 4, hj => exact Option.isSome_of_eq_some (k6 _)
              | 5, hj => exact Option.isSome_of_eq_some (k7 _)
              | _ + 6, hj => exact absurd hj (by simp)) 2 (show (2 : Nat) < 6 by decide))
          have v5 : W6.cell? ⟨w.heap.size, 5, none⟩ = some (.int .i64 (py ys 3)) := by rw [hW6.out]; exact (World.cell?_setCells_in w.heap.size [.int .i64 (px ys 2), .int .i64 (py ys 2), .int .i64 (px ys 3), .int .i64 (py ys 3), .int .i64 (px ys 4), .int .i64 (py ys 4)] 2 (((wr.drewN (nq + 1)).setCell ⟨w.heap.size, 0, none⟩ (.int .i64 (px ys 0 + px ys 1))).drew) (fun j hj => by
              match j, hj with
              | 0, hj => exact Option.isSome_of_eq_some (k2 _)
              | 1, hj => exact Option.isSome_of_eq_some (k3 _)
              | 2, hj => exact Option.isSome_of_eq_some (k4 _)
              | 3, hj => exact Option.isSome_of_eq_some (k5 _)
              | 4, hj => exact Option.isSome_of_eq_some (k6 _)
              | 5, hj => exact Option.isSome_of_eq_some (k7 _)
              | _ + 6, hj => exact absurd hj (by simp)) 3 (show (3 : Nat) < 6 by decide))
          have v6 : W6.cell? ⟨w.heap.size, 6, none⟩ = some (.int .i64 (px ys 4)) := by rw [hW6.out]; exact (World.cell?_setCells_in w.heap.size [.int .i64 (px ys 2), .int .i64 (py ys 2), .int .i64 (px ys 3), .int .i64 (py ys 3), .int .i64 (px ys 4), .int .i64 (py ys 4)] 2 (((wr.drewN (nq + 1)).setCell ⟨w.heap.size, 0, none⟩ (.int .i64 (px ys 0 + px ys 1))).drew) (fun j hj => by
              match j, hj with
              | 0, hj => exact Option.isSome_of_eq_some (k2 _)
              | 1, hj => exact Option.isSome_of_eq_some (k3 _)
              | 2, hj => exact Option.isSome_of_eq_some (k4 _)
              | 3, hj => exact Option.isSome_of_eq_some (k5 _)
              | 4, hj => exact Option.isSome_of_eq_some (k6 _)
              | 5, hj => exact Option.isSome_of_eq_some (k7 _)
              | _ + 6, hj => exact absurd hj (by simp)) 4 (show (4 : Nat) < 6 by decide))
          have v7 : W6.cell? ⟨w.heap.size, 7, none⟩ = some (.int .i64 (py ys 4)) := by rw [hW6.out]; exact (World.cell?_setCells_in w.heap.size [.int .i64 (px ys 2), .int .i64 (py ys 2), .int .i64 (px ys 3), .int .i64 (py ys 3), .int .i64 (px ys 4), .int .i64 (py ys 4)] 2 (((wr.drewN (nq + 1)).setCell ⟨w.heap.size, 0, none⟩ (.int .i64 (px ys 0 + px ys 1))).drew) (fun j hj => by
              match j, hj with
              | 0, hj => exact Option.isSome_of_eq_some (k2 _)
              | 1, hj => exact Option.isSome_of_eq_some (k3 _)
              | 2, hj => exact Option.isSome_of_eq_some (k4 _)
              | 3, hj => exact Option.isSome_of_eq_some (k5 _)
              | 4, hj => exact Option.isSome_of_eq_some (k6 _)
              | 5, hj => exact Option.isSome_of_eq_some (k7 _)
              | _ + 6, hj => exact absurd hj (by simp)) 5 (show (5 : Nat) < 6 by decide))
          have v8 : W6.cell? ⟨w.heap.size, 8, none⟩ = some (.int .i64 (px ys 4)) := by rw [hW6.out]; exact ((World.cell?_setCells_out _ _ _ _ _ (fun _ _ => Or.inr (show (8 : Nat) ≤ 8 by decide))).trans (k8 _))
          have v9 : W6.cell? ⟨w.heap.size, 9, none⟩ = some (.int .i64 (py ys 4)) := by rw [hW6.out]; exact ((World.cell?_setCells_out _ _ _ _ _ (fun _ _ => Or.inr (show (8 : Nat) ≤ 9 by decide))).trans (k9 _))
          have u0 : W6.cell? ⟨w.heap.size + 1, 0, none⟩ = some r0 := by rw [hW6.out]; exact (World.cell?_setCells_out _ _ _ _ _ (fun q => absurd q (by simp))).trans (l0 _)
          have fv0 : W6.frozen? ⟨w.heap.size, 0, none⟩ = false := by rw [hW6.out, World.frozen?_setCells]; exact hfW _ _
          have fu0 : W6.frozen? ⟨w.heap.size + 1, 0, none⟩ = false := by rw [hW6.out, World.frozen?_setCells]; exact hgW _ _
          have u1 : W6.cell? ⟨w.heap.size + 1, 1, none⟩ = some r1 := by rw [hW6.out]; exact (World.cell?_setCells_out _ _ _ _ _ (fun q => absurd q (by simp))).trans (l1 _)
          have fv1 : W6.frozen? ⟨w.heap.size, 1, none⟩ = false := by rw [hW6.out, World.frozen?_setCells]; exact hfW _ _
          have fu1 : W6.frozen? ⟨w.heap.size + 1, 1, none⟩ = false := by rw [hW6.out, World.frozen?_setCells]; exact hgW _ _
          have u2 : W6.cell? ⟨w.heap.size + 1, 2, none⟩ = some r2 := by rw [hW6.out]; exact (World.cell?_setCells_out _ _ _ _ _ (fun q => absurd q (by simp))).trans (l2 _)
          have fv2 : W6.frozen? ⟨w.heap.size, 2, none⟩ = false := by rw [hW6.out, World.frozen?_setCells]; exact hfW _ _
          have fu2 : W6.frozen? ⟨w.heap.size + 1, 2, none⟩ = false := by rw [hW6.out, World.frozen?_setCells]; exact hgW _ _
          have u3 : W6.cell? ⟨w.heap.size + 1, 3, none⟩ = some r3 := by rw [hW6.out]; exact (World.cell?_setCells_out _ _ _ _ _ (fun q => absurd q (by simp))).trans (l3 _)
          have fv3 : W6.frozen? ⟨w.heap.size, 3, none⟩ = false := by rw [hW6.out, World.frozen?_setCells]; exact hfW _ _
          have fu3 : W6.frozen? ⟨w.heap.size + 1, 3, none⟩ = false := by rw [hW6.out, World.frozen?_setCells]; exact hgW _ _
          have u4 : W6.cell? ⟨w.heap.size + 1, 4, none⟩ = some r4 := by rw [hW6.out]; exact (World.cell?_setCells_out _ _ _ _ _ (fun q => absurd q (by simp))).trans (l4 _)
          have fv4 : W6.frozen? ⟨w.heap.size, 4, none⟩ = false := by rw [hW6.out, World.frozen?_setCells]; exact hfW _ _
          have fu4 : W6.frozen? ⟨w.heap.size + 1, 4, none⟩ = false := by rw [hW6.out, World.frozen?_setCells]; exact hgW _ _
          have u5 : W6.cell? ⟨w.heap.size + 1, 5, none⟩ = some r5 := by rw [hW6.out]; exact (World.cell?_setCells_out _ _ _ _ _ (fun q => absurd q (by simp))).trans (l5 _)
          have fv5 : W6.frozen? ⟨w.heap.size, 5, none⟩ = false := by rw [hW6.out, World.frozen?_setCells]; exact hfW _ _
          have fu5 : W6.frozen? ⟨w.heap.size + 1, 5, none⟩ = false := by rw [hW6.out, World.frozen?_setCells]; exact hgW _ _
          have u6 : W6.cell? ⟨w.heap.size + 1, 6, none⟩ = some r6 := by rw [hW6.out]; exact (World.cell?_setCells_out _ _ _ _ _ (fun q => absurd q (by simp))).trans (l6 _)
          have fv6 : W6.frozen? ⟨w.heap.size, 6, none⟩ = false := by rw [hW6.out, World.frozen?_setCells]; exact hfW _ _
          have fu6 : W6.frozen? ⟨w.heap.size + 1, 6, none⟩ = false := by rw [hW6.out, World.frozen?_setCells]; exact hgW _ _
          have u7 : W6.cell? ⟨w.heap.size + 1, 7, none⟩ = some r7 := by rw [hW6.out]; exact (World.cell?_setCells_out _ _ _ _ _ (fun q => absurd q (by simp))).trans (l7 _)
          have fv7 : W6.frozen? ⟨w.heap.size, 7, none⟩ = false := by rw [hW6.out, World.frozen?_setCells]; exact hfW _ _
          have fu7 : W6.frozen? ⟨w.heap.size + 1, 7, none⟩ = false := by rw [hW6.out, World.frozen?_setCells]; exact hgW _ _
          have u8 : W6.cell? ⟨w.heap.size + 1, 8, none⟩ = some r8 := by rw [hW6.out]; exact (World.cell?_setCells_out _ _ _ _ _ (fun q => absurd q (by simp))).trans (l8 _)
          have fv8 : W6.frozen? ⟨w.heap.size, 8, none⟩ = false := by rw [hW6.out, World.frozen?_setCells]; exact hfW _ _
          have fu8 : W6.frozen? ⟨w.heap.size + 1, 8, none⟩ = false := by rw [hW6.out, World.frozen?_setCells]; exact hgW _ _
          have u9 : W6.cell? ⟨w.heap.size + 1, 9, none⟩ = some r9 := by rw [hW6.out]; exact (World.cell?_setCells_out _ _ _ _ _ (fun q => absurd q (by simp))).trans (l9 _)
          have fv9 : W6.frozen? ⟨w.heap.size, 9, none⟩ = false := by rw [hW6.out, World.frozen?_setCells]; exact hfW _ _
          have fu9 : W6.frozen? ⟨w.heap.size + 1, 9, none⟩ = false := by rw [hW6.out, World.frozen?_setCells]; exact hgW _ _
          clear hW6 k0 l0 k1 l1 k2 l2 k3 l3 k4 l4 k5 l5 k6 l6 k7 l7 k8 l8 k9 l9 c0 f0 g0 d0 c1 f1 g1 d1 c2 f2 g2 d2 c3 f3 g3 d3 c4 f4 g4 d4 c5 f5 g5 d5 c6 f6 g6 d6 c7 f7 g7 d7 c8 f8 g8 d8 c9 f9 g9 d9 hfW hgW hf' hg' bx0 bx1 hbel
          have X0 : px RES 0 = px ys 0 + px ys 1 := by rw [← hE.out]; exact ((rw_at hlen 0 (fun _ => he)).1).trans rfl
          have Y0 : py RES 0 = py ys 1 := by rw [← hE.out]; exact ((rw_at hlen 0 (fun _ => he)).2).trans he
          have X1 : px RES 1 = px ys 2 := by rw [← hE.out]; exact ((rw_at hlen 1 (fun _ => he)).1).trans rfl
          have Y1 : py RES 1 = py ys 2 := by rw [← hE.out]; exact ((rw_at hlen 1 (fun _ => he)).2).trans rfl
          have X2 : px RES 2 = px ys 3 := by rw [← hE.out]; exact ((rw_at hlen 2 (fun _ => he)).1).trans rfl
          have Y2 : py RES 2 = py ys 3 := by rw [← hE.out]; exact ((rw_at hlen 2 (fun _ => he)).2).trans rfl
          have X3 : px RES 3 = px ys 4 := by rw [← hE.out]; exact ((rw_at hlen 3 (fun _ => he)).1).trans rfl
          have Y3 : py RES 3 = py ys 4 := by rw [← hE.out]; exact ((rw_at hlen 3 (fun _ => he)).2).trans rfl
          have X4 : px RES 4 = 0 := by rw [← hE.out]; exact ((rw_at hlen 4 (fun _ => he)).1).trans (px_out (by omega)).1
          have Y4 : py RES 4 = 0 := by rw [← hE.out]; exact ((rw_at hlen 4 (fun _ => he)).2).trans (px_out (by omega)).2
          have HX := Lib.hid (show aggJ RES = .agg #[.int .i64 (px ys 0 + px ys 1), .int .i64 (py ys 1), .int .i64 (px ys 2), .int .i64 (py ys 2), .int .i64 (px ys 3), .int .i64 (py ys 3), .int .i64 (px ys 4), .int .i64 (py ys 4), .int .i64 (0), .int .i64 (0)] by unfold aggJ; rw [X0, Y0, X1, Y1, X2, Y2, X3, Y3, X4, Y4])
          clear X0 Y0 X1 Y1 X2 Y2 X3 Y3 X4 Y4
          clear he hE HR
          go_wp2_with fail
          generalize hW : ((((((((((((W6.setCell ⟨w.heap.size, 8, none⟩ (.int .i64 0)).setCell ⟨w.heap.size, 9, none⟩ (.int .i64 0)).setCell ⟨w.heap.size + 1, 0, none⟩ (.int .i64 (px ys 0 + px ys 1))).setCell ⟨w.heap.size + 1, 1, none⟩ (.int .i64 (py ys 1))).setCell ⟨w.heap.size + 1, 2, none⟩ (.int .i64 (px ys 2))).setCell ⟨w.heap.size + 1, 3, none⟩ (.int .i64 (py ys 2))).setCell ⟨w.heap.size + 1, 4, none⟩ (.int .i64 (px ys 3))).setCell ⟨w.heap.size + 1, 5, none⟩ (.int .i64 (py ys 3))).setCell ⟨w.heap.size + 1, 6, none⟩ (.int .i64 (px ys 4))).setCell ⟨w.heap.size + 1, 7, none⟩ (.int .i64 (py ys 4))).setCell ⟨w.heap.size + 1, 8, none⟩ (.int .i64 (0))).setCell ⟨w.heap.size + 1, 9, none⟩ (.int .i64 (0))) = W
          have k0 : W.cell? ⟨w.heap.size + 1, 0, none⟩ = some (.int .i64 (px ys 0 + px ys 1)) := by rw [← hW]; clear hW; go_simp
          have k1 : W.cell? ⟨w.heap.size + 1, 1, none⟩ = some (.int .i64 (py ys 1)) := by rw [← hW]; clear hW; go_simp
          have k2 : W.cell? ⟨w.heap.size + 1, 2, none⟩ = some (.int .i64 (px ys 2)) := by rw [← hW]; clear hW; go_simp
          have k3 : W.cell? ⟨w.heap.size + 1, 3, none⟩ = some (.int .i64 (py ys 2)) := by rw [← hW]; clear hW; go_simp
          have k4 : W.cell? ⟨w.heap.size + 1, 4, none⟩ = some (.int .i64 (px ys 3)) := by rw [← hW]; clear hW; go_simp
          have k5 : W.cell? ⟨w.heap.size + 1, 5, none⟩ = some (.int .i64 (py ys 3)) := by rw [← hW]; clear hW; go_simp
          have k6 : W.cell? ⟨w.heap.size + 1, 6, none⟩ = some (.int .i64 (px ys 4)) := by rw [← hW]; clear hW; go_simp
          have k7 : W.cell? ⟨w.heap.size + 1, 7, none⟩ = some (.int .i64 (py ys 4)) := by rw [← hW]; clear hW; go_simp
          have k8 : W.cell? ⟨w.heap.size + 1, 8, none⟩ = some (.int .i64 (0)) := by rw [← hW]; clear hW; go_simp
          have k9 : W.cell? ⟨w.heap.size + 1, 9, none⟩ = some (.int .i64 (0)) := by rw [← hW]; clear hW; go_simp
          have hBE : Below w.heap.size w W := by rw [← hW]; exact (Below.setCell (Below.setCell (Below.setCell (Below.setCell (Below.setCell (Below.setCell (Below.setCell (Below.setCell (Below.setCell (Below.setCell (Below.setCell (Below.setCell hBW (by simp) _) (by simp) _) (by simp) _) (by simp) _) (by simp) _) (by simp) _) (by simp) _) (by simp) _) (by simp) _) (by simp) _) (by simp) _) (by simp) _)
          clear hW
          refine bodyPost_ret (v := .agg #[.int .i64 (px ys 0 + px ys 1), .int .i64 (py ys 1), .int .i64 (px ys 2), .int .i64 (py ys 2), .int .i64 (px ys 3), .int .i64 (py ys 3), .int .i64 (px ys 4), .int .i64 (py ys 4), .int .i64 (0), .int .i64 (0)]) (by simp [results, Try.results21, go_sem, k0, k1, k2, k3, k4, k5, k6, k7, k8, k9]; done) rfl ⟨congrArg _ HX.out.symm, hBE⟩
      · have hE := Lib.hid (show joF ys 3 1 = RES by have := hjo.out; unfold joF at this; rw [if_neg he] at this; exact this)
        have HC := hall
        clear hjo
        go_wp2_with fail
        all_goals try (go_quiet (fail); go_wp2_with fail)
        go_roundg 3
        case rel => exact ⟨1, by first | rfl | go_num, by omega, hE.out, HC.out.1, HC.out.2.1, HC.out.2.2.1, HC.out.2.2.2, hz, by first | exact hbel | exact below_drewN hbel _ | exact hbel.drew⟩
        case measure => omega
    · obtain rfl : gk = 3 := by omega
      have c0 : wr.cell? ⟨w.heap.size, 0, none⟩ = some (.int .i64 (px ys 0)) := (hc 0 (by omega)).1
      have c1 : wr.cell? ⟨w.heap.size, 1, none⟩ = some (.int .i64 (py ys 0)) := (hc 0 (by omega)).2
      have c2 : wr.cell? ⟨w.heap.size, 2, none⟩ = some (.int .i64 (px ys 1)) := (hc 1 (by omega)).1
      have c3 : wr.cell? ⟨w.heap.size, 3, none⟩ = some (.int .i64 (py ys 1)) := (hc 1 (by omega)).2
      have c4 : wr.cell? ⟨w.heap.size, 4, none⟩ = some (.int .i64 (px ys 2)) := (hc 2 (by omega)).1
      have c5 : wr.cell? ⟨w.heap.size, 5, none⟩ = some (.int .i64 (py ys 2)) := (hc 2 (by omega)).2
      have c6 : wr.cell? ⟨w.heap.size, 6, none⟩ = some (.int .i64 (px ys 3)) := (hc 3 (by omega)).1
      have c7 : wr.cell? ⟨w.heap.size, 7, none⟩ = some (.int .i64 (py ys 3)) := (hc 3 (by omega)).2
      have c8 : wr.cell? ⟨w.heap.size, 8, none⟩ = some (.int .i64 (px ys 4)) := (hc 4 (by omega)).1
      have c9 : wr.cell? ⟨w.heap.size, 9, none⟩ = some (.int .i64 (py ys 4)) := (hc 4 (by omega)).2
      have f0 : wr.frozen? ⟨w.heap.size, 0, none⟩ = false := hf 0
      have g0 : wr.frozen? ⟨w.heap.size + 1, 0, none⟩ = false := hg 0
      have f1 : wr.frozen? ⟨w.heap.size, 1, none⟩ = false := hf 1
      have g1 : wr.frozen? ⟨w.heap.size + 1, 1, none⟩ = false := hg 1
      have f2 : wr.frozen? ⟨w.heap.size, 2, none⟩ = false := hf 2
      have g2 : wr.frozen? ⟨w.heap.size + 1, 2, none⟩ = false := hg 2
      have f3 : wr.frozen? ⟨w.heap.size, 3, none⟩ = false := hf 3
      have g3 : wr.frozen? ⟨w.heap.size + 1, 3, none⟩ = false := hg 3
      have f4 : wr.frozen? ⟨w.heap.size, 4, none⟩ = false := hf 4
      have g4 : wr.frozen? ⟨w.heap.size + 1, 4, none⟩ = false := hg 4
      have f5 : wr.frozen? ⟨w.heap.size, 5, none⟩ = false := hf 5
      have g5 : wr.frozen? ⟨w.heap.size + 1, 5, none⟩ = false := hg 5
      have f6 : wr.frozen? ⟨w.heap.size, 6, none⟩ = false := hf 6
      have g6 : wr.frozen? ⟨w.heap.size + 1, 6, none⟩ = false := hg 6
      have f7 : wr.frozen? ⟨w.heap.size, 7, none⟩ = false := hf 7
      have g7 : wr.frozen? ⟨w.heap.size + 1, 7, none⟩ = false := hg 7
      have f8 : wr.frozen? ⟨w.heap.size, 8, none⟩ = false := hf 8
      have g8 : wr.frozen? ⟨w.heap.size + 1, 8, none⟩ = false := hg 8
      have f9 : wr.frozen? ⟨w.heap.size, 9, none⟩ = false := hf 9
      have g9 : wr.frozen? ⟨w.heap.size + 1, 9, none⟩ = false := hg 9
      obtain ⟨r0, d0⟩ := Option.isSome_iff_exists.1 (hr 0 (by omega))
      obtain ⟨r1, d1⟩ := Option.isSome_iff_exists.1 (hr 1 (by omega))
      obtain ⟨r2, d2⟩ := Option.isSome_iff_exists.1 (hr 2 (by omega))
      obtain ⟨r3, d3⟩ := Option.isSome_iff_exists.1 (hr 3 (by omega))
      obtain ⟨r4, d4⟩ := Option.isSome_iff_exists.1 (hr 4 (by omega))
      obtain ⟨r5, d5⟩ := Option.isSome_iff_exists.1 (hr 5 (by omega))
      obtain ⟨r6, d6⟩ := Option.isSome_iff_exists.1 (hr 6 (by omega))
      obtain ⟨r7, d7⟩ := Option.isSome_iff_exists.1 (hr 7 (by omega))
      obtain ⟨r8, d8⟩ := Option.isSome_iff_exists.1 (hr 8 (by omega))
      obtain ⟨r9, d9⟩ := Option.isSome_iff_exists.1 (hr 9 (by omega))
      have z0 : w.heap.size < wr.heap.size := by omega
      have hf' := hf
      have hg' := hg
      have HSZ : (Try.prog.info? 43).map (·.size) = some 2 := by rfl
      clear hc hf hg hr
      by_cases he : py ys 1 = py ys 2
      · have hE := Lib.hid (show (if 1 + 1 < ys.length then mrg ys 1 else ys) = RES by have := hjo.out; unfold joF at this; rw [if_pos he] at this; exact this)
        clear hjo hall
        have hlen : ys.length ≤ 5 := hb.2.1
        have bx0 := HB.out 1
        have bx1 := HB.out 2
        have hw1 : IntKind.i64.wrap (px ys 1 + px ys 2) = px ys 1 + px ys 2 := IntWalk.i64_in _ (by omega)
        go_wp2_with fail
        all_goals try (go_quiet (fail); go_wp2_with fail)
        go_big_region_o
        go_wp2_with fail
        have hw2 : IntKind.i64.wrap 3 = 3 := IntWalk.i64_in _ (by omega)
        have k0 : ∀ q : Nat, ((wr.drewN q).setCell ⟨w.heap.size, 2, none⟩ (.int .i64 (px ys 1 + px ys 2))).drew.cell? ⟨w.heap.size, 0, none⟩ = some (.int .i64 (px ys 0)) := fun q => by go_simp
        have l0 : ∀ q : Nat, ((wr.drewN q).setCell ⟨w.heap.size, 2, none⟩ (.int .i64 (px ys 1 + px ys 2))).drew.cell? ⟨w.heap.size + 1, 0, none⟩ = some r0 := fun q => by go_simp
        have k1 : ∀ q : Nat, ((wr.drewN q).setCell ⟨w.heap.size, 2, none⟩ (.int .i64 (px ys 1 + px ys 2))).drew.cell? ⟨w.heap.size, 1, none⟩ = some (.int .i64 (py ys 0)) := fun q => by go_simp
        have l1 : ∀ q : Nat, ((wr.drewN q).setCell ⟨w.heap.size, 2, none⟩ (.int .i64 (px ys 1 + px ys 2))).drew.cell? ⟨w.heap.size + 1, 1, none⟩ = some r1 := fun q => by go_simp
        have k2 : ∀ q : Nat, ((wr.drewN q).setCell ⟨w.heap.size, 2, none⟩ (.int .i64 (px ys 1 + px ys 2))).drew.cell? ⟨w.heap.size, 2, none⟩ = some (.int .i64 (px ys 1 + px ys 2)) := fun q => by go_simp
        have l2 : ∀ q : Nat, ((wr.drewN q).setCell ⟨w.heap.size, 2, none⟩ (.int .i64 (px ys 1 + px ys 2))).drew.cell? ⟨w.heap.size + 1, 2, none⟩ = some r2 := fun q => by go_simp
        have k3 : ∀ q : Nat, ((wr.drewN q).setCell ⟨w.heap.size, 2, none⟩ (.int .i64 (px ys 1 + px ys 2))).drew.cell? ⟨w.heap.size, 3, none⟩ = some (.int .i64 (py ys 1)) := fun q => by go_simp
        have l3 : ∀ q : Nat, ((wr.drewN q).setCell ⟨w.heap.size, 2, none⟩ (.int .i64 (px ys 1 + px ys 2))).drew.cell? ⟨w.heap.size + 1, 3, none⟩ = some r3 := fun q => by go_simp
        have k4 : ∀ q : Nat, ((wr.drewN q).setCell ⟨w.heap.size, 2, none⟩ (.int .i64 (px ys 1 + px ys 2))).drew.cell? ⟨w.heap.size, 4, none⟩ = some (.int .i64 (px ys 2)) := fun q => by go_simp
        have l4 : ∀ q : Nat, ((wr.drewN q).setCell ⟨w.heap.size, 2, none⟩ (.int .i64 (px ys 1 + px ys 2))).drew.cell? ⟨w.heap.size + 1, 4, none⟩ = some r4 := fun q => by go_simp
        have k5 : ∀ q : Nat, ((wr.drewN q).setCell ⟨w.heap.size, 2, none⟩ (.int .i64 (px ys 1 + px ys 2))).drew.cell? ⟨w.heap.size, 5, none⟩ = some (.int .i64 (py ys 2)) := fun q => by go_simp
        have l5 : ∀ q : Nat, ((wr.drewN q).setCell ⟨w.heap.size, 2, none⟩ (.int .i64 (px ys 1 + px ys 2))).drew.cell? ⟨w.heap.size + 1, 5, none⟩ = some r5 := fun q => by go_simp
        have k6 : ∀ q : Nat, ((wr.drewN q).setCell ⟨w.heap.size, 2, none⟩ (.int .i64 (px ys 1 + px ys 2))).drew.cell? ⟨w.heap.size, 6, none⟩ = some (.int .i64 (px ys 3)) := fun q => by go_simp
        have l6 : ∀ q : Nat, ((wr.drewN q).setCell ⟨w.heap.size, 2, none⟩ (.int .i64 (px ys 1 + px ys 2))).drew.cell? ⟨w.heap.size + 1, 6, none⟩ = some r6 := fun q => by go_simp
        have k7 : ∀ q : Nat, ((wr.drewN q).setCell ⟨w.heap.size, 2, none⟩ (.int .i64 (px ys 1 + px ys 2))).drew.cell? ⟨w.heap.size, 7, none⟩ = some (.int .i64 (py ys 3)) := fun q => by go_simp
        have l7 : ∀ q : Nat, ((wr.drewN q).setCell ⟨w.heap.size, 2, none⟩ (.int .i64 (px ys 1 + px ys 2))).drew.cell? ⟨w.heap.size + 1, 7, none⟩ = some r7 := fun q => by go_simp
        have k8 : ∀ q : Nat, ((wr.drewN q).setCell ⟨w.heap.size, 2, none⟩ (.int .i64 (px ys 1 + px ys 2))).drew.cell? ⟨w.heap.size, 8, none⟩ = some (.int .i64 (px ys 4)) := fun q => by go_simp
        have l8 : ∀ q : Nat, ((wr.drewN q).setCell ⟨w.heap.size, 2, none⟩ (.int .i64 (px ys 1 + px ys 2))).drew.cell? ⟨w.heap.size + 1, 8, none⟩ = some r8 := fun q => by go_simp
        have k9 : ∀ q : Nat, ((wr.drewN q).setCell ⟨w.heap.size, 2, none⟩ (.int .i64 (px ys 1 + px ys 2))).drew.cell? ⟨w.heap.size, 9, none⟩ = some (.int .i64 (py ys 4)) := fun q => by go_simp
        have l9 : ∀ q : Nat, ((wr.drewN q).setCell ⟨w.heap.size, 2, none⟩ (.int .i64 (px ys 1 + px ys 2))).drew.cell? ⟨w.heap.size + 1, 9, none⟩ = some r9 := fun q => by go_simp
        have hfW : ∀ q o : Nat, ((wr.drewN q).setCell ⟨w.heap.size, 2, none⟩ (.int .i64 (px ys 1 + px ys 2))).drew.frozen? ⟨w.heap.size, o, none⟩ = false := fun q o => by show ((wr.drewN q).setCell ⟨w.heap.size, 2, none⟩ (.int .i64 (px ys 1 + px ys 2))).frozen? _ = false; rw [World.frozen?_setCell]; exact hf' o
        have hgW : ∀ q o : Nat, ((wr.drewN q).setCell ⟨w.heap.size, 2, none⟩ (.int .i64 (px ys 1 + px ys 2))).drew.frozen? ⟨w.heap.size + 1, o, none⟩ = false := fun q o => by show ((wr.drewN q).setCell ⟨w.heap.size, 2, none⟩ (.int .i64 (px ys 1 + px ys 2))).frozen? _ = false; rw [World.frozen?_setCell]; exact hg' o
        go_region_law (refine step_copy2W rfl _ _ 24 24 rfl 43 Try.underlying24 HSZ w.heap.size 4 3 3 ⟨w.heap.size, 6, none⟩ 2 2 rfl rfl [.int .i64 (px ys 3), .int .i64 (py ys 3), .int .i64 (px ys 4), .int .i64 (py ys 4)] rfl (fun j v hv => by
          match j, hv with
          | 0, hv => obtain rfl := Option.some.inj hv; exact k6 _
          | 1, hv => obtain rfl := Option.some.inj hv; exact k7 _
          | 2, hv => obtain rfl := Option.some.inj hv; exact k8 _
          | 3, hv => obtain rfl := Option.some.inj hv; exact k9 _
          | _ + 4, hv => exact absurd hv (by simp)) (fun j hj => by
          match j, hj with
          | 0, hj => exact Option.isSome_of_eq_some (k4 _)
          | 1, hj => exact Option.isSome_of_eq_some (k5 _)
          | 2, hj => exact Option.isSome_of_eq_some (k6 _)
          | 3, hj => exact Option.isSome_of_eq_some (k7 _)
          | _ + 4, hj => exact absurd hj (by simp)) (fun j hj => hfW _ _) (by intro v hv; simp at hv; rcases hv with rfl | rfl | rfl | rfl <;> rfl) ?_; intro W6 hW6)
        all_goals
          have hBW : Below w.heap.size w W6 := by rw [hW6.out]; exact below_setCells _ (Nat.le_refl _) _ _ _ _ (Below.drew (Below.setCell (below_drewN hbel _) (Nat.le_refl _) _))
          have v0 : W6.cell? ⟨w.heap.size, 0, none⟩ = some (.int .i64 (px ys 0)) := by rw [hW6.out]; exact ((World.cell?_setCells_out _ _ _ _ _ (fun _ _ => Or.inl (show (0 : Nat) < 4 by decide))).trans (k0 _))
          have v1 : W6.cell? ⟨w.heap.size, 1, none⟩ = some (.int .i64 (py ys 0)) := by rw [hW6.out]; exact ((World.cell?_setCells_out _ _ _ _ _ (fun _ _ => Or.inl (show (1 : Nat) < 4 by decide))).trans (k1 _))
          have v2 : W6.cell? ⟨w.heap.size, 2, none⟩ = some (.int .i64 (px ys 1 + px ys 2)) := by rw [hW6.out]; exact ((World.cell?_setCells_out _ _ _ _ _ (fun _ _ => Or.inl (show (2 : Nat) < 4 by decide))).trans (k2 _))
          have v3 : W6.cell? ⟨w.heap.size, 3, none⟩ = some (.int .i64 (py ys 2)) := by rw [hW6.out]; exact (((World.cell?_setCells_out _ _ _ _ _ (fun _ _ => Or.inl (show (3 : Nat) < 4 by decide))).trans (k3 _)).trans (by rw [he]))
          have v4 : W6.cell? ⟨w.heap.size, 4, none⟩ = some (.int .i64 (px ys 3)) := by rw [hW6.out]; exact (World.cell?_setCells_in w.heap.size [.int .i64 (px ys 3), .int .i64 (py ys 3), .int .i64 (px ys 4), .int .i64 (py ys 4)] 4 (((wr.drewN (nq + 1)).setCell ⟨w.heap.size, 2, none⟩ (.int .i64 (px ys 1 + px ys 2))).drew) (fun j hj => by
              match j, hj with
              | 0, hj => exact Option.isSome_of_eq_some (k4 _)
              | 1, hj => exact Option.isSome_of_eq_some (k5 _)
              | 2, hj => exact Option.isSome_of_eq_some (k6 _)
              | 3, hj => exact Option.isSome_of_eq_some (k7 _)
              | _ + 4, hj => exact absurd hj (by simp)) 0 (show (0 : Nat) < 4 by decide))
          have v5 : W6.cell? ⟨w.heap.size, 5, none⟩ = some (.int .i64 (py ys 3)) := by rw [hW6.out]; exact (World.cell?_setCells_in w.heap.size [.int .i64 (px ys 3), .int .i64 (py ys 3), .int .i64 (px ys 4), .int .i64 (py ys 4)] 4 (((wr.drewN (nq + 1)).setCell ⟨w.heap.size, 2, none⟩ (.int .i64 (px ys 1 + px ys 2))).drew) (fun j hj => by
              match j, hj with
              | 0, hj => exact Option.isSome_of_eq_some (k4 _)
              | 1, hj => exact Option.isSome_of_eq_some (k5 _)
              | 2, hj => exact Option.isSome_of_eq_some (k6 _)
              | 3, hj => exact Option.isSome_of_eq_some (k7 _)
              | _ + 4, hj => exact absurd hj (by simp)) 1 (show (1 : Nat) < 4 by decide))
          have v6 : W6.cell? ⟨w.heap.size, 6, none⟩ = some (.int .i64 (px ys 4)) := by rw [hW6.out]; exact (World.cell?_setCells_in w.heap.size [.int .i64 (px ys 3), .int .i64 (py ys 3), .int .i64 (px ys 4), .int .i64 (py ys 4)] 4 (((wr.drewN (nq + 1)).setCell ⟨w.heap.size, 2, none⟩ (.int .i64 (px ys 1 + px ys 2))).drew) (fun j hj => by
              match j, hj with
              | 0, hj => exact Option.isSome_of_eq_some (k4 _)
              | 1, hj => exact Option.isSome_of_eq_some (k5 _)
              | 2, hj => exact Option.isSome_of_eq_some (k6 _)
              | 3, hj => exact Option.isSome_of_eq_some (k7 _)
              | _ + 4, hj => exact absurd hj (by simp)) 2 (show (2 : Nat) < 4 by decide))
          have v7 : W6.cell? ⟨w.heap.size, 7, none⟩ = some (.int .i64 (py ys 4)) := by rw [hW6.out]; exact (World.cell?_setCells_in w.heap.size [.int .i64 (px ys 3), .int .i64 (py ys 3), .int .i64 (px ys 4), .int .i64 (py ys 4)] 4 (((wr.drewN (nq + 1)).setCell ⟨w.heap.size, 2, none⟩ (.int .i64 (px ys 1 + px ys 2))).drew) (fun j hj => by
              match j, hj with
              | 0, hj => exact Option.isSome_of_eq_some (k4 _)
              | 1, hj => exact Option.isSome_of_eq_some (k5 _)
              | 2, hj => exact Option.isSome_of_eq_some (k6 _)
              | 3, hj => exact Option.isSome_of_eq_some (k7 _)
              | _ + 4, hj => exact absurd hj (by simp)) 3 (show (3 : Nat) < 4 by decide))
          have v8 : W6.cell? ⟨w.heap.size, 8, none⟩ = some (.int .i64 (px ys 4)) := by rw [hW6.out]; exact ((World.cell?_setCells_out _ _ _ _ _ (fun _ _ => Or.inr (show (8 : Nat) ≤ 8 by decide))).trans (k8 _))
          have v9 : W6.cell? ⟨w.heap.size, 9, none⟩ = some (.int .i64 (py ys 4)) := by rw [hW6.out]; exact ((World.cell?_setCells_out _ _ _ _ _ (fun _ _ => Or.inr (show (8 : Nat) ≤ 9 by decide))).trans (k9 _))
          have u0 : W6.cell? ⟨w.heap.size + 1, 0, none⟩ = some r0 := by rw [hW6.out]; exact (World.cell?_setCells_out _ _ _ _ _ (fun q => absurd q (by simp))).trans (l0 _)
          have fv0 : W6.frozen? ⟨w.heap.size, 0, none⟩ = false := by rw [hW6.out, World.frozen?_setCells]; exact hfW _ _
          have fu0 : W6.frozen? ⟨w.heap.size + 1, 0, none⟩ = false := by rw [hW6.out, World.frozen?_setCells]; exact hgW _ _
          have u1 : W6.cell? ⟨w.heap.size + 1, 1, none⟩ = some r1 := by rw [hW6.out]; exact (World.cell?_setCells_out _ _ _ _ _ (fun q => absurd q (by simp))).trans (l1 _)
          have fv1 : W6.frozen? ⟨w.heap.size, 1, none⟩ = false := by rw [hW6.out, World.frozen?_setCells]; exact hfW _ _
          have fu1 : W6.frozen? ⟨w.heap.size + 1, 1, none⟩ = false := by rw [hW6.out, World.frozen?_setCells]; exact hgW _ _
          have u2 : W6.cell? ⟨w.heap.size + 1, 2, none⟩ = some r2 := by rw [hW6.out]; exact (World.cell?_setCells_out _ _ _ _ _ (fun q => absurd q (by simp))).trans (l2 _)
          have fv2 : W6.frozen? ⟨w.heap.size, 2, none⟩ = false := by rw [hW6.out, World.frozen?_setCells]; exact hfW _ _
          have fu2 : W6.frozen? ⟨w.heap.size + 1, 2, none⟩ = false := by rw [hW6.out, World.frozen?_setCells]; exact hgW _ _
          have u3 : W6.cell? ⟨w.heap.size + 1, 3, none⟩ = some r3 := by rw [hW6.out]; exact (World.cell?_setCells_out _ _ _ _ _ (fun q => absurd q (by simp))).trans (l3 _)
          have fv3 : W6.frozen? ⟨w.heap.size, 3, none⟩ = false := by rw [hW6.out, World.frozen?_setCells]; exact hfW _ _
          have fu3 : W6.frozen? ⟨w.heap.size + 1, 3, none⟩ = false := by rw [hW6.out, World.frozen?_setCells]; exact hgW _ _
          have u4 : W6.cell? ⟨w.heap.size + 1, 4, none⟩ = some r4 := by rw [hW6.out]; exact (World.cell?_setCells_out _ _ _ _ _ (fun q => absurd q (by simp))).trans (l4 _)
          have fv4 : W6.frozen? ⟨w.heap.size, 4, none⟩ = false := by rw [hW6.out, World.frozen?_setCells]; exact hfW _ _
          have fu4 : W6.frozen? ⟨w.heap.size + 1, 4, none⟩ = false := by rw [hW6.out, World.frozen?_setCells]; exact hgW _ _
          have u5 : W6.cell? ⟨w.heap.size + 1, 5, none⟩ = some r5 := by rw [hW6.out]; exact (World.cell?_setCells_out _ _ _ _ _ (fun q => absurd q (by simp))).trans (l5 _)
          have fv5 : W6.frozen? ⟨w.heap.size, 5, none⟩ = false := by rw [hW6.out, World.frozen?_setCells]; exact hfW _ _
          have fu5 : W6.frozen? ⟨w.heap.size + 1, 5, none⟩ = false := by rw [hW6.out, World.frozen?_setCells]; exact hgW _ _
          have u6 : W6.cell? ⟨w.heap.size + 1, 6, none⟩ = some r6 := by rw [hW6.out]; exact (World.cell?_setCells_out _ _ _ _ _ (fun q => absurd q (by simp))).trans (l6 _)
          have fv6 : W6.frozen? ⟨w.heap.size, 6, none⟩ = false := by rw [hW6.out, World.frozen?_setCells]; exact hfW _ _
          have fu6 : W6.frozen? ⟨w.heap.size + 1, 6, none⟩ = false := by rw [hW6.out, World.frozen?_setCells]; exact hgW _ _
          have u7 : W6.cell? ⟨w.heap.size + 1, 7, none⟩ = some r7 := by rw [hW6.out]; exact (World.cell?_setCells_out _ _ _ _ _ (fun q => absurd q (by simp))).trans (l7 _)
          have fv7 : W6.frozen? ⟨w.heap.size, 7, none⟩ = false := by rw [hW6.out, World.frozen?_setCells]; exact hfW _ _
          have fu7 : W6.frozen? ⟨w.heap.size + 1, 7, none⟩ = false := by rw [hW6.out, World.frozen?_setCells]; exact hgW _ _
          have u8 : W6.cell? ⟨w.heap.size + 1, 8, none⟩ = some r8 := by rw [hW6.out]; exact (World.cell?_setCells_out _ _ _ _ _ (fun q => absurd q (by simp))).trans (l8 _)
          have fv8 : W6.frozen? ⟨w.heap.size, 8, none⟩ = false := by rw [hW6.out, World.frozen?_setCells]; exact hfW _ _
          have fu8 : W6.frozen? ⟨w.heap.size + 1, 8, none⟩ = false := by rw [hW6.out, World.frozen?_setCells]; exact hgW _ _
          have u9 : W6.cell? ⟨w.heap.size + 1, 9, none⟩ = some r9 := by rw [hW6.out]; exact (World.cell?_setCells_out _ _ _ _ _ (fun q => absurd q (by simp))).trans (l9 _)
          have fv9 : W6.frozen? ⟨w.heap.size, 9, none⟩ = false := by rw [hW6.out, World.frozen?_setCells]; exact hfW _ _
          have fu9 : W6.frozen? ⟨w.heap.size + 1, 9, none⟩ = false := by rw [hW6.out, World.frozen?_setCells]; exact hgW _ _
          clear hW6 k0 l0 k1 l1 k2 l2 k3 l3 k4 l4 k5 l5 k6 l6 k7 l7 k8 l8 k9 l9 c0 f0 g0 d0 c1 f1 g1 d1 c2 f2 g2 d2 c3 f3 g3 d3 c4 f4 g4 d4 c5 f5 g5 d5 c6 f6 g6 d6 c7 f7 g7 d7 c8 f8 g8 d8 c9 f9 g9 d9 hfW hgW hf' hg' bx0 bx1 hbel
          have X0 : px RES 0 = px ys 0 := by rw [← hE.out]; exact ((rw_at hlen 0 (fun _ => he)).1).trans rfl
          have Y0 : py RES 0 = py ys 0 := by rw [← hE.out]; exact ((rw_at hlen 0 (fun _ => he)).2).trans rfl
          have X1 : px RES 1 = px ys 1 + px ys 2 := by rw [← hE.out]; exact ((rw_at hlen 1 (fun _ => he)).1).trans rfl
          have Y1 : py RES 1 = py ys 2 := by rw [← hE.out]; exact ((rw_at hlen 1 (fun _ => he)).2).trans he
          have X2 : px RES 2 = px ys 3 := by rw [← hE.out]; exact ((rw_at hlen 2 (fun _ => he)).1).trans rfl
          have Y2 : py RES 2 = py ys 3 := by rw [← hE.out]; exact ((rw_at hlen 2 (fun _ => he)).2).trans rfl
          have X3 : px RES 3 = px ys 4 := by rw [← hE.out]; exact ((rw_at hlen 3 (fun _ => he)).1).trans rfl
          have Y3 : py RES 3 = py ys 4 := by rw [← hE.out]; exact ((rw_at hlen 3 (fun _ => he)).2).trans rfl
          have X4 : px RES 4 = 0 := by rw [← hE.out]; exact ((rw_at hlen 4 (fun _ => he)).1).trans (px_out (by omega)).1
          have Y4 : py RES 4 = 0 := by rw [← hE.out]; exact ((rw_at hlen 4 (fun _ => he)).2).trans (px_out (by omega)).2
          have HX := Lib.hid (show aggJ RES = .agg #[.int .i64 (px ys 0), .int .i64 (py ys 0), .int .i64 (px ys 1 + px ys 2), .int .i64 (py ys 2), .int .i64 (px ys 3), .int .i64 (py ys 3), .int .i64 (px ys 4), .int .i64 (py ys 4), .int .i64 (0), .int .i64 (0)] by unfold aggJ; rw [X0, Y0, X1, Y1, X2, Y2, X3, Y3, X4, Y4])
          clear X0 Y0 X1 Y1 X2 Y2 X3 Y3 X4 Y4
          clear he hE HR
          go_wp2_with fail
          generalize hW : ((((((((((((W6.setCell ⟨w.heap.size, 8, none⟩ (.int .i64 0)).setCell ⟨w.heap.size, 9, none⟩ (.int .i64 0)).setCell ⟨w.heap.size + 1, 0, none⟩ (.int .i64 (px ys 0))).setCell ⟨w.heap.size + 1, 1, none⟩ (.int .i64 (py ys 0))).setCell ⟨w.heap.size + 1, 2, none⟩ (.int .i64 (px ys 1 + px ys 2))).setCell ⟨w.heap.size + 1, 3, none⟩ (.int .i64 (py ys 2))).setCell ⟨w.heap.size + 1, 4, none⟩ (.int .i64 (px ys 3))).setCell ⟨w.heap.size + 1, 5, none⟩ (.int .i64 (py ys 3))).setCell ⟨w.heap.size + 1, 6, none⟩ (.int .i64 (px ys 4))).setCell ⟨w.heap.size + 1, 7, none⟩ (.int .i64 (py ys 4))).setCell ⟨w.heap.size + 1, 8, none⟩ (.int .i64 (0))).setCell ⟨w.heap.size + 1, 9, none⟩ (.int .i64 (0))) = W
          have k0 : W.cell? ⟨w.heap.size + 1, 0, none⟩ = some (.int .i64 (px ys 0)) := by rw [← hW]; clear hW; go_simp
          have k1 : W.cell? ⟨w.heap.size + 1, 1, none⟩ = some (.int .i64 (py ys 0)) := by rw [← hW]; clear hW; go_simp
          have k2 : W.cell? ⟨w.heap.size + 1, 2, none⟩ = some (.int .i64 (px ys 1 + px ys 2)) := by rw [← hW]; clear hW; go_simp
          have k3 : W.cell? ⟨w.heap.size + 1, 3, none⟩ = some (.int .i64 (py ys 2)) := by rw [← hW]; clear hW; go_simp
          have k4 : W.cell? ⟨w.heap.size + 1, 4, none⟩ = some (.int .i64 (px ys 3)) := by rw [← hW]; clear hW; go_simp
          have k5 : W.cell? ⟨w.heap.size + 1, 5, none⟩ = some (.int .i64 (py ys 3)) := by rw [← hW]; clear hW; go_simp
          have k6 : W.cell? ⟨w.heap.size + 1, 6, none⟩ = some (.int .i64 (px ys 4)) := by rw [← hW]; clear hW; go_simp
          have k7 : W.cell? ⟨w.heap.size + 1, 7, none⟩ = some (.int .i64 (py ys 4)) := by rw [← hW]; clear hW; go_simp
          have k8 : W.cell? ⟨w.heap.size + 1, 8, none⟩ = some (.int .i64 (0)) := by rw [← hW]; clear hW; go_simp
          have k9 : W.cell? ⟨w.heap.size + 1, 9, none⟩ = some (.int .i64 (0)) := by rw [← hW]; clear hW; go_simp
          have hBE : Below w.heap.size w W := by rw [← hW]; exact (Below.setCell (Below.setCell (Below.setCell (Below.setCell (Below.setCell (Below.setCell (Below.setCell (Below.setCell (Below.setCell (Below.setCell (Below.setCell (Below.setCell hBW (by simp) _) (by simp) _) (by simp) _) (by simp) _) (by simp) _) (by simp) _) (by simp) _) (by simp) _) (by simp) _) (by simp) _) (by simp) _) (by simp) _)
          clear hW
          refine bodyPost_ret (v := .agg #[.int .i64 (px ys 0), .int .i64 (py ys 0), .int .i64 (px ys 1 + px ys 2), .int .i64 (py ys 2), .int .i64 (px ys 3), .int .i64 (py ys 3), .int .i64 (px ys 4), .int .i64 (py ys 4), .int .i64 (0), .int .i64 (0)]) (by simp [results, Try.results21, go_sem, k0, k1, k2, k3, k4, k5, k6, k7, k8, k9]; done) rfl ⟨congrArg _ HX.out.symm, hBE⟩
      · have hE := Lib.hid (show joF ys 2 2 = RES by have := hjo.out; unfold joF at this; rw [if_neg he] at this; exact this)
        have HC := hall
        clear hjo
        go_wp2_with fail
        all_goals try (go_quiet (fail); go_wp2_with fail)
        go_roundg 2
        case rel => exact ⟨2, by first | rfl | go_num, by omega, hE.out, HC.out.1, HC.out.2.1, HC.out.2.2.1, HC.out.2.2.2, hz, by first | exact hbel | exact below_drewN hbel _ | exact hbel.drew⟩
        case measure => omega
    · obtain rfl : gk = 2 := by omega
      have c0 : wr.cell? ⟨w.heap.size, 0, none⟩ = some (.int .i64 (px ys 0)) := (hc 0 (by omega)).1
      have c1 : wr.cell? ⟨w.heap.size, 1, none⟩ = some (.int .i64 (py ys 0)) := (hc 0 (by omega)).2
      have c2 : wr.cell? ⟨w.heap.size, 2, none⟩ = some (.int .i64 (px ys 1)) := (hc 1 (by omega)).1
      have c3 : wr.cell? ⟨w.heap.size, 3, none⟩ = some (.int .i64 (py ys 1)) := (hc 1 (by omega)).2
      have c4 : wr.cell? ⟨w.heap.size, 4, none⟩ = some (.int .i64 (px ys 2)) := (hc 2 (by omega)).1
      have c5 : wr.cell? ⟨w.heap.size, 5, none⟩ = some (.int .i64 (py ys 2)) := (hc 2 (by omega)).2
      have c6 : wr.cell? ⟨w.heap.size, 6, none⟩ = some (.int .i64 (px ys 3)) := (hc 3 (by omega)).1
      have c7 : wr.cell? ⟨w.heap.size, 7, none⟩ = some (.int .i64 (py ys 3)) := (hc 3 (by omega)).2
      have c8 : wr.cell? ⟨w.heap.size, 8, none⟩ = some (.int .i64 (px ys 4)) := (hc 4 (by omega)).1
      have c9 : wr.cell? ⟨w.heap.size, 9, none⟩ = some (.int .i64 (py ys 4)) := (hc 4 (by omega)).2
      have f0 : wr.frozen? ⟨w.heap.size, 0, none⟩ = false := hf 0
      have g0 : wr.frozen? ⟨w.heap.size + 1, 0, none⟩ = false := hg 0
      have f1 : wr.frozen? ⟨w.heap.size, 1, none⟩ = false := hf 1
      have g1 : wr.frozen? ⟨w.heap.size + 1, 1, none⟩ = false := hg 1
      have f2 : wr.frozen? ⟨w.heap.size, 2, none⟩ = false := hf 2
      have g2 : wr.frozen? ⟨w.heap.size + 1, 2, none⟩ = false := hg 2
      have f3 : wr.frozen? ⟨w.heap.size, 3, none⟩ = false := hf 3
      have g3 : wr.frozen? ⟨w.heap.size + 1, 3, none⟩ = false := hg 3
      have f4 : wr.frozen? ⟨w.heap.size, 4, none⟩ = false := hf 4
      have g4 : wr.frozen? ⟨w.heap.size + 1, 4, none⟩ = false := hg 4
      have f5 : wr.frozen? ⟨w.heap.size, 5, none⟩ = false := hf 5
      have g5 : wr.frozen? ⟨w.heap.size + 1, 5, none⟩ = false := hg 5
      have f6 : wr.frozen? ⟨w.heap.size, 6, none⟩ = false := hf 6
      have g6 : wr.frozen? ⟨w.heap.size + 1, 6, none⟩ = false := hg 6
      have f7 : wr.frozen? ⟨w.heap.size, 7, none⟩ = false := hf 7
      have g7 : wr.frozen? ⟨w.heap.size + 1, 7, none⟩ = false := hg 7
      have f8 : wr.frozen? ⟨w.heap.size, 8, none⟩ = false := hf 8
      have g8 : wr.frozen? ⟨w.heap.size + 1, 8, none⟩ = false := hg 8
      have f9 : wr.frozen? ⟨w.heap.size, 9, none⟩ = false := hf 9
      have g9 : wr.frozen? ⟨w.heap.size + 1, 9, none⟩ = false := hg 9
      obtain ⟨r0, d0⟩ := Option.isSome_iff_exists.1 (hr 0 (by omega))
      obtain ⟨r1, d1⟩ := Option.isSome_iff_exists.1 (hr 1 (by omega))
      obtain ⟨r2, d2⟩ := Option.isSome_iff_exists.1 (hr 2 (by omega))
      obtain ⟨r3, d3⟩ := Option.isSome_iff_exists.1 (hr 3 (by omega))
      obtain ⟨r4, d4⟩ := Option.isSome_iff_exists.1 (hr 4 (by omega))
      obtain ⟨r5, d5⟩ := Option.isSome_iff_exists.1 (hr 5 (by omega))
      obtain ⟨r6, d6⟩ := Option.isSome_iff_exists.1 (hr 6 (by omega))
      obtain ⟨r7, d7⟩ := Option.isSome_iff_exists.1 (hr 7 (by omega))
      obtain ⟨r8, d8⟩ := Option.isSome_iff_exists.1 (hr 8 (by omega))
      obtain ⟨r9, d9⟩ := Option.isSome_iff_exists.1 (hr 9 (by omega))
      have z0 : w.heap.size < wr.heap.size := by omega
      have hf' := hf
      have hg' := hg
      have HSZ : (Try.prog.info? 43).map (·.size) = some 2 := by rfl
      clear hc hf hg hr
      by_cases he : py ys 2 = py ys 3
      · have hE := Lib.hid (show (if 2 + 1 < ys.length then mrg ys 2 else ys) = RES by have := hjo.out; unfold joF at this; rw [if_pos he] at this; exact this)
        clear hjo hall
        have hlen : ys.length ≤ 5 := hb.2.1
        have bx0 := HB.out 2
        have bx1 := HB.out 3
        have hw1 : IntKind.i64.wrap (px ys 2 + px ys 3) = px ys 2 + px ys 3 := IntWalk.i64_in _ (by omega)
        go_wp2_with fail
        all_goals try (go_quiet (fail); go_wp2_with fail)
        go_big_region_o
        go_wp2_with fail
        have hw2 : IntKind.i64.wrap 4 = 4 := IntWalk.i64_in _ (by omega)
        have k0 : ∀ q : Nat, ((wr.drewN q).setCell ⟨w.heap.size, 4, none⟩ (.int .i64 (px ys 2 + px ys 3))).drew.cell? ⟨w.heap.size, 0, none⟩ = some (.int .i64 (px ys 0)) := fun q => by go_simp
        have l0 : ∀ q : Nat, ((wr.drewN q).setCell ⟨w.heap.size, 4, none⟩ (.int .i64 (px ys 2 + px ys 3))).drew.cell? ⟨w.heap.size + 1, 0, none⟩ = some r0 := fun q => by go_simp
        have k1 : ∀ q : Nat, ((wr.drewN q).setCell ⟨w.heap.size, 4, none⟩ (.int .i64 (px ys 2 + px ys 3))).drew.cell? ⟨w.heap.size, 1, none⟩ = some (.int .i64 (py ys 0)) := fun q => by go_simp
        have l1 : ∀ q : Nat, ((wr.drewN q).setCell ⟨w.heap.size, 4, none⟩ (.int .i64 (px ys 2 + px ys 3))).drew.cell? ⟨w.heap.size + 1, 1, none⟩ = some r1 := fun q => by go_simp
        have k2 : ∀ q : Nat, ((wr.drewN q).setCell ⟨w.heap.size, 4, none⟩ (.int .i64 (px ys 2 + px ys 3))).drew.cell? ⟨w.heap.size, 2, none⟩ = some (.int .i64 (px ys 1)) := fun q => by go_simp
        have l2 : ∀ q : Nat, ((wr.drewN q).setCell ⟨w.heap.size, 4, none⟩ (.int .i64 (px ys 2 + px ys 3))).drew.cell? ⟨w.heap.size + 1, 2, none⟩ = some r2 := fun q => by go_simp
        have k3 : ∀ q : Nat, ((wr.drewN q).setCell ⟨w.heap.size, 4, none⟩ (.int .i64 (px ys 2 + px ys 3))).drew.cell? ⟨w.heap.size, 3, none⟩ = some (.int .i64 (py ys 1)) := fun q => by go_simp
        have l3 : ∀ q : Nat, ((wr.drewN q).setCell ⟨w.heap.size, 4, none⟩ (.int .i64 (px ys 2 + px ys 3))).drew.cell? ⟨w.heap.size + 1, 3, none⟩ = some r3 := fun q => by go_simp
        have k4 : ∀ q : Nat, ((wr.drewN q).setCell ⟨w.heap.size, 4, none⟩ (.int .i64 (px ys 2 + px ys 3))).drew.cell? ⟨w.heap.size, 4, none⟩ = some (.int .i64 (px ys 2 + px ys 3)) := fun q => by go_simp
        have l4 : ∀ q : Nat, ((wr.drewN q).setCell ⟨w.heap.size, 4, none⟩ (.int .i64 (px ys 2 + px ys 3))).drew.cell? ⟨w.heap.size + 1, 4, none⟩ = some r4 := fun q => by go_simp
        have k5 : ∀ q : Nat, ((wr.drewN q).setCell ⟨w.heap.size, 4, none⟩ (.int .i64 (px ys 2 + px ys 3))).drew.cell? ⟨w.heap.size, 5, none⟩ = some (.int .i64 (py ys 2)) := fun q => by go_simp
        have l5 : ∀ q : Nat, ((wr.drewN q).setCell ⟨w.heap.size, 4, none⟩ (.int .i64 (px ys 2 + px ys 3))).drew.cell? ⟨w.heap.size + 1, 5, none⟩ = some r5 := fun q => by go_simp
        have k6 : ∀ q : Nat, ((wr.drewN q).setCell ⟨w.heap.size, 4, none⟩ (.int .i64 (px ys 2 + px ys 3))).drew.cell? ⟨w.heap.size, 6, none⟩ = some (.int .i64 (px ys 3)) := fun q => by go_simp
        have l6 : ∀ q : Nat, ((wr.drewN q).setCell ⟨w.heap.size, 4, none⟩ (.int .i64 (px ys 2 + px ys 3))).drew.cell? ⟨w.heap.size + 1, 6, none⟩ = some r6 := fun q => by go_simp
        have k7 : ∀ q : Nat, ((wr.drewN q).setCell ⟨w.heap.size, 4, none⟩ (.int .i64 (px ys 2 + px ys 3))).drew.cell? ⟨w.heap.size, 7, none⟩ = some (.int .i64 (py ys 3)) := fun q => by go_simp
        have l7 : ∀ q : Nat, ((wr.drewN q).setCell ⟨w.heap.size, 4, none⟩ (.int .i64 (px ys 2 + px ys 3))).drew.cell? ⟨w.heap.size + 1, 7, none⟩ = some r7 := fun q => by go_simp
        have k8 : ∀ q : Nat, ((wr.drewN q).setCell ⟨w.heap.size, 4, none⟩ (.int .i64 (px ys 2 + px ys 3))).drew.cell? ⟨w.heap.size, 8, none⟩ = some (.int .i64 (px ys 4)) := fun q => by go_simp
        have l8 : ∀ q : Nat, ((wr.drewN q).setCell ⟨w.heap.size, 4, none⟩ (.int .i64 (px ys 2 + px ys 3))).drew.cell? ⟨w.heap.size + 1, 8, none⟩ = some r8 := fun q => by go_simp
        have k9 : ∀ q : Nat, ((wr.drewN q).setCell ⟨w.heap.size, 4, none⟩ (.int .i64 (px ys 2 + px ys 3))).drew.cell? ⟨w.heap.size, 9, none⟩ = some (.int .i64 (py ys 4)) := fun q => by go_simp
        have l9 : ∀ q : Nat, ((wr.drewN q).setCell ⟨w.heap.size, 4, none⟩ (.int .i64 (px ys 2 + px ys 3))).drew.cell? ⟨w.heap.size + 1, 9, none⟩ = some r9 := fun q => by go_simp
        have hfW : ∀ q o : Nat, ((wr.drewN q).setCell ⟨w.heap.size, 4, none⟩ (.int .i64 (px ys 2 + px ys 3))).drew.frozen? ⟨w.heap.size, o, none⟩ = false := fun q o => by show ((wr.drewN q).setCell ⟨w.heap.size, 4, none⟩ (.int .i64 (px ys 2 + px ys 3))).frozen? _ = false; rw [World.frozen?_setCell]; exact hf' o
        have hgW : ∀ q o : Nat, ((wr.drewN q).setCell ⟨w.heap.size, 4, none⟩ (.int .i64 (px ys 2 + px ys 3))).drew.frozen? ⟨w.heap.size + 1, o, none⟩ = false := fun q o => by show ((wr.drewN q).setCell ⟨w.heap.size, 4, none⟩ (.int .i64 (px ys 2 + px ys 3))).frozen? _ = false; rw [World.frozen?_setCell]; exact hg' o
        go_region_law (refine step_copy2W rfl _ _ 24 24 rfl 43 Try.underlying24 HSZ w.heap.size 6 2 2 ⟨w.heap.size, 8, none⟩ 1 1 rfl rfl [.int .i64 (px ys 4), .int .i64 (py ys 4)] rfl (fun j v hv => by
          match j, hv with
          | 0, hv => obtain rfl := Option.some.inj hv; exact k8 _
          | 1, hv => obtain rfl := Option.some.inj hv; exact k9 _
          | _ + 2, hv => exact absurd hv (by simp)) (fun j hj => by
          match j, hj with
          | 0, hj => exact Option.isSome_of_eq_some (k6 _)
          | 1, hj => exact Option.isSome_of_eq_some (k7 _)
          | _ + 2, hj => exact absurd hj (by simp)) (fun j hj => hfW _ _) (by intro v hv; simp at hv; rcases hv with rfl | rfl <;> rfl) ?_; intro W6 hW6)
        all_goals
          have hBW : Below w.heap.size w W6 := by rw [hW6.out]; exact below_setCells _ (Nat.le_refl _) _ _ _ _ (Below.drew (Below.setCell (below_drewN hbel _) (Nat.le_refl _) _))
          have v0 : W6.cell? ⟨w.heap.size, 0, none⟩ = some (.int .i64 (px ys 0)) := by rw [hW6.out]; exact ((World.cell?_setCells_out _ _ _ _ _ (fun _ _ => Or.inl (show (0 : Nat) < 6 by decide))).trans (k0 _))
          have v1 : W6.cell? ⟨w.heap.size, 1, none⟩ = some (.int .i64 (py ys 0)) := by rw [hW6.out]; exact ((World.cell?_setCells_out _ _ _ _ _ (fun _ _ => Or.inl (show (1 : Nat) < 6 by decide))).trans (k1 _))
          have v2 : W6.cell? ⟨w.heap.size, 2, none⟩ = some (.int .i64 (px ys 1)) := by rw [hW6.out]; exact ((World.cell?_setCells_out _ _ _ _ _ (fun _ _ => Or.inl (show (2 : Nat) < 6 by decide))).trans (k2 _))
          have v3 : W6.cell? ⟨w.heap.size, 3, none⟩ = some (.int .i64 (py ys 1)) := by rw [hW6.out]; exact ((World.cell?_setCells_out _ _ _ _ _ (fun _ _ => Or.inl (show (3 : Nat) < 6 by decide))).trans (k3 _))
          have v4 : W6.cell? ⟨w.heap.size, 4, none⟩ = some (.int .i64 (px ys 2 + px ys 3)) := by rw [hW6.out]; exact ((World.cell?_setCells_out _ _ _ _ _ (fun _ _ => Or.inl (show (4 : Nat) < 6 by decide))).trans (k4 _))
          have v5 : W6.cell? ⟨w.heap.size, 5, none⟩ = some (.int .i64 (py ys 3)) := by rw [hW6.out]; exact (((World.cell?_setCells_out _ _ _ _ _ (fun _ _ => Or.inl (show (5 : Nat) < 6 by decide))).trans (k5 _)).trans (by rw [he]))
          have v6 : W6.cell? ⟨w.heap.size, 6, none⟩ = some (.int .i64 (px ys 4)) := by rw [hW6.out]; exact (World.cell?_setCells_in w.heap.size [.int .i64 (px ys 4), .int .i64 (py ys 4)] 6 (((wr.drewN (nq + 1)).setCell ⟨w.heap.size, 4, none⟩ (.int .i64 (px ys 2 + px ys 3))).drew) (fun j hj => by
              match j, hj with
              | 0, hj => exact Option.isSome_of_eq_some (k6 _)
              | 1, hj => exact Option.isSome_of_eq_some (k7 _)
              | _ + 2, hj => exact absurd hj (by simp)) 0 (show (0 : Nat) < 2 by decide))
          have v7 : W6.cell? ⟨w.heap.size, 7, none⟩ = some (.int .i64 (py ys 4)) := by rw [hW6.out]; exact (World.cell?_setCells_in w.heap.size [.int .i64 (px ys 4), .int .i64 (py ys 4)] 6 (((wr.drewN (nq + 1)).setCell ⟨w.heap.size, 4, none⟩ (.int .i64 (px ys 2 + px ys 3))).drew) (fun j hj => by
              match j, hj with
              | 0, hj => exact Option.isSome_of_eq_some (k6 _)
              | 1, hj => exact Option.isSome_of_eq_some (k7 _)
              | _ + 2, hj => exact absurd hj (by simp)) 1 (show (1 : Nat) < 2 by decide))
          have v8 : W6.cell? ⟨w.heap.size, 8, none⟩ = some (.int .i64 (px ys 4)) := by rw [hW6.out]; exact ((World.cell?_setCells_out _ _ _ _ _ (fun _ _ => Or.inr (show (8 : Nat) ≤ 8 by decide))).trans (k8 _))
          have v9 : W6.cell? ⟨w.heap.size, 9, none⟩ = some (.int .i64 (py ys 4)) := by rw [hW6.out]; exact ((World.cell?_setCells_out _ _ _ _ _ (fun _ _ => Or.inr (show (8 : Nat) ≤ 9 by decide))).trans (k9 _))
          have u0 : W6.cell? ⟨w.heap.size + 1, 0, none⟩ = some r0 := by rw [hW6.out]; exact (World.cell?_setCells_out _ _ _ _ _ (fun q => absurd q (by simp))).trans (l0 _)
          have fv0 : W6.frozen? ⟨w.heap.size, 0, none⟩ = false := by rw [hW6.out, World.frozen?_setCells]; exact hfW _ _
          have fu0 : W6.frozen? ⟨w.heap.size + 1, 0, none⟩ = false := by rw [hW6.out, World.frozen?_setCells]; exact hgW _ _
          have u1 : W6.cell? ⟨w.heap.size + 1, 1, none⟩ = some r1 := by rw [hW6.out]; exact (World.cell?_setCells_out _ _ _ _ _ (fun q => absurd q (by simp))).trans (l1 _)
          have fv1 : W6.frozen? ⟨w.heap.size, 1, none⟩ = false := by rw [hW6.out, World.frozen?_setCells]; exact hfW _ _
          have fu1 : W6.frozen? ⟨w.heap.size + 1, 1, none⟩ = false := by rw [hW6.out, World.frozen?_setCells]; exact hgW _ _
          have u2 : W6.cell? ⟨w.heap.size + 1, 2, none⟩ = some r2 := by rw [hW6.out]; exact (World.cell?_setCells_out _ _ _ _ _ (fun q => absurd q (by simp))).trans (l2 _)
          have fv2 : W6.frozen? ⟨w.heap.size, 2, none⟩ = false := by rw [hW6.out, World.frozen?_setCells]; exact hfW _ _
          have fu2 : W6.frozen? ⟨w.heap.size + 1, 2, none⟩ = false := by rw [hW6.out, World.frozen?_setCells]; exact hgW _ _
          have u3 : W6.cell? ⟨w.heap.size + 1, 3, none⟩ = some r3 := by rw [hW6.out]; exact (World.cell?_setCells_out _ _ _ _ _ (fun q => absurd q (by simp))).trans (l3 _)
          have fv3 : W6.frozen? ⟨w.heap.size, 3, none⟩ = false := by rw [hW6.out, World.frozen?_setCells]; exact hfW _ _
          have fu3 : W6.frozen? ⟨w.heap.size + 1, 3, none⟩ = false := by rw [hW6.out, World.frozen?_setCells]; exact hgW _ _
          have u4 : W6.cell? ⟨w.heap.size + 1, 4, none⟩ = some r4 := by rw [hW6.out]; exact (World.cell?_setCells_out _ _ _ _ _ (fun q => absurd q (by simp))).trans (l4 _)
          have fv4 : W6.frozen? ⟨w.heap.size, 4, none⟩ = false := by rw [hW6.out, World.frozen?_setCells]; exact hfW _ _
          have fu4 : W6.frozen? ⟨w.heap.size + 1, 4, none⟩ = false := by rw [hW6.out, World.frozen?_setCells]; exact hgW _ _
          have u5 : W6.cell? ⟨w.heap.size + 1, 5, none⟩ = some r5 := by rw [hW6.out]; exact (World.cell?_setCells_out _ _ _ _ _ (fun q => absurd q (by simp))).trans (l5 _)
          have fv5 : W6.frozen? ⟨w.heap.size, 5, none⟩ = false := by rw [hW6.out, World.frozen?_setCells]; exact hfW _ _
          have fu5 : W6.frozen? ⟨w.heap.size + 1, 5, none⟩ = false := by rw [hW6.out, World.frozen?_setCells]; exact hgW _ _
          have u6 : W6.cell? ⟨w.heap.size + 1, 6, none⟩ = some r6 := by rw [hW6.out]; exact (World.cell?_setCells_out _ _ _ _ _ (fun q => absurd q (by simp))).trans (l6 _)
          have fv6 : W6.frozen? ⟨w.heap.size, 6, none⟩ = false := by rw [hW6.out, World.frozen?_setCells]; exact hfW _ _
          have fu6 : W6.frozen? ⟨w.heap.size + 1, 6, none⟩ = false := by rw [hW6.out, World.frozen?_setCells]; exact hgW _ _
          have u7 : W6.cell? ⟨w.heap.size + 1, 7, none⟩ = some r7 := by rw [hW6.out]; exact (World.cell?_setCells_out _ _ _ _ _ (fun q => absurd q (by simp))).trans (l7 _)
          have fv7 : W6.frozen? ⟨w.heap.size, 7, none⟩ = false := by rw [hW6.out, World.frozen?_setCells]; exact hfW _ _
          have fu7 : W6.frozen? ⟨w.heap.size + 1, 7, none⟩ = false := by rw [hW6.out, World.frozen?_setCells]; exact hgW _ _
          have u8 : W6.cell? ⟨w.heap.size + 1, 8, none⟩ = some r8 := by rw [hW6.out]; exact (World.cell?_setCells_out _ _ _ _ _ (fun q => absurd q (by simp))).trans (l8 _)
          have fv8 : W6.frozen? ⟨w.heap.size, 8, none⟩ = false := by rw [hW6.out, World.frozen?_setCells]; exact hfW _ _
          have fu8 : W6.frozen? ⟨w.heap.size + 1, 8, none⟩ = false := by rw [hW6.out, World.frozen?_setCells]; exact hgW _ _
          have u9 : W6.cell? ⟨w.heap.size + 1, 9, none⟩ = some r9 := by rw [hW6.out]; exact (World.cell?_setCells_out _ _ _ _ _ (fun q => absurd q (by simp))).trans (l9 _)
          have fv9 : W6.frozen? ⟨w.heap.size, 9, none⟩ = false := by rw [hW6.out, World.frozen?_setCells]; exact hfW _ _
          have fu9 : W6.frozen? ⟨w.heap.size + 1, 9, none⟩ = false := by rw [hW6.out, World.frozen?_setCells]; exact hgW _ _
          clear hW6 k0 l0 k1 l1 k2 l2 k3 l3 k4 l4 k5 l5 k6 l6 k7 l7 k8 l8 k9 l9 c0 f0 g0 d0 c1 f1 g1 d1 c2 f2 g2 d2 c3 f3 g3 d3 c4 f4 g4 d4 c5 f5 g5 d5 c6 f6 g6 d6 c7 f7 g7 d7 c8 f8 g8 d8 c9 f9 g9 d9 hfW hgW hf' hg' bx0 bx1 hbel
          have X0 : px RES 0 = px ys 0 := by rw [← hE.out]; exact ((rw_at hlen 0 (fun _ => he)).1).trans rfl
          have Y0 : py RES 0 = py ys 0 := by rw [← hE.out]; exact ((rw_at hlen 0 (fun _ => he)).2).trans rfl
          have X1 : px RES 1 = px ys 1 := by rw [← hE.out]; exact ((rw_at hlen 1 (fun _ => he)).1).trans rfl
          have Y1 : py RES 1 = py ys 1 := by rw [← hE.out]; exact ((rw_at hlen 1 (fun _ => he)).2).trans rfl
          have X2 : px RES 2 = px ys 2 + px ys 3 := by rw [← hE.out]; exact ((rw_at hlen 2 (fun _ => he)).1).trans rfl
          have Y2 : py RES 2 = py ys 3 := by rw [← hE.out]; exact ((rw_at hlen 2 (fun _ => he)).2).trans he
          have X3 : px RES 3 = px ys 4 := by rw [← hE.out]; exact ((rw_at hlen 3 (fun _ => he)).1).trans rfl
          have Y3 : py RES 3 = py ys 4 := by rw [← hE.out]; exact ((rw_at hlen 3 (fun _ => he)).2).trans rfl
          have X4 : px RES 4 = 0 := by rw [← hE.out]; exact ((rw_at hlen 4 (fun _ => he)).1).trans (px_out (by omega)).1
          have Y4 : py RES 4 = 0 := by rw [← hE.out]; exact ((rw_at hlen 4 (fun _ => he)).2).trans (px_out (by omega)).2
          have HX := Lib.hid (show aggJ RES = .agg #[.int .i64 (px ys 0), .int .i64 (py ys 0), .int .i64 (px ys 1), .int .i64 (py ys 1), .int .i64 (px ys 2 + px ys 3), .int .i64 (py ys 3), .int .i64 (px ys 4), .int .i64 (py ys 4), .int .i64 (0), .int .i64 (0)] by unfold aggJ; rw [X0, Y0, X1, Y1, X2, Y2, X3, Y3, X4, Y4])
          clear X0 Y0 X1 Y1 X2 Y2 X3 Y3 X4 Y4
          clear he hE HR
          go_wp2_with fail
          generalize hW : ((((((((((((W6.setCell ⟨w.heap.size, 8, none⟩ (.int .i64 0)).setCell ⟨w.heap.size, 9, none⟩ (.int .i64 0)).setCell ⟨w.heap.size + 1, 0, none⟩ (.int .i64 (px ys 0))).setCell ⟨w.heap.size + 1, 1, none⟩ (.int .i64 (py ys 0))).setCell ⟨w.heap.size + 1, 2, none⟩ (.int .i64 (px ys 1))).setCell ⟨w.heap.size + 1, 3, none⟩ (.int .i64 (py ys 1))).setCell ⟨w.heap.size + 1, 4, none⟩ (.int .i64 (px ys 2 + px ys 3))).setCell ⟨w.heap.size + 1, 5, none⟩ (.int .i64 (py ys 3))).setCell ⟨w.heap.size + 1, 6, none⟩ (.int .i64 (px ys 4))).setCell ⟨w.heap.size + 1, 7, none⟩ (.int .i64 (py ys 4))).setCell ⟨w.heap.size + 1, 8, none⟩ (.int .i64 (0))).setCell ⟨w.heap.size + 1, 9, none⟩ (.int .i64 (0))) = W
          have k0 : W.cell? ⟨w.heap.size + 1, 0, none⟩ = some (.int .i64 (px ys 0)) := by rw [← hW]; clear hW; go_simp
          have k1 : W.cell? ⟨w.heap.size + 1, 1, none⟩ = some (.int .i64 (py ys 0)) := by rw [← hW]; clear hW; go_simp
          have k2 : W.cell? ⟨w.heap.size + 1, 2, none⟩ = some (.int .i64 (px ys 1)) := by rw [← hW]; clear hW; go_simp
          have k3 : W.cell? ⟨w.heap.size + 1, 3, none⟩ = some (.int .i64 (py ys 1)) := by rw [← hW]; clear hW; go_simp
          have k4 : W.cell? ⟨w.heap.size + 1, 4, none⟩ = some (.int .i64 (px ys 2 + px ys 3)) := by rw [← hW]; clear hW; go_simp
          have k5 : W.cell? ⟨w.heap.size + 1, 5, none⟩ = some (.int .i64 (py ys 3)) := by rw [← hW]; clear hW; go_simp
          have k6 : W.cell? ⟨w.heap.size + 1, 6, none⟩ = some (.int .i64 (px ys 4)) := by rw [← hW]; clear hW; go_simp
          have k7 : W.cell? ⟨w.heap.size + 1, 7, none⟩ = some (.int .i64 (py ys 4)) := by rw [← hW]; clear hW; go_simp
          have k8 : W.cell? ⟨w.heap.size + 1, 8, none⟩ = some (.int .i64 (0)) := by rw [← hW]; clear hW; go_simp
          have k9 : W.cell? ⟨w.heap.size + 1, 9, none⟩ = some (.int .i64 (0)) := by rw [← hW]; clear hW; go_simp
          have hBE : Below w.heap.size w W := by rw [← hW]; exact (Below.setCell (Below.setCell (Below.setCell (Below.setCell (Below.setCell (Below.setCell (Below.setCell (Below.setCell (Below.setCell (Below.setCell (Below.setCell (Below.setCell hBW (by simp) _) (by simp) _) (by simp) _) (by simp) _) (by simp) _) (by simp) _) (by simp) _) (by simp) _) (by simp) _) (by simp) _) (by simp) _) (by simp) _)
          clear hW
          refine bodyPost_ret (v := .agg #[.int .i64 (px ys 0), .int .i64 (py ys 0), .int .i64 (px ys 1), .int .i64 (py ys 1), .int .i64 (px ys 2 + px ys 3), .int .i64 (py ys 3), .int .i64 (px ys 4), .int .i64 (py ys 4), .int .i64 (0), .int .i64 (0)]) (by simp [results, Try.results21, go_sem, k0, k1, k2, k3, k4, k5, k6, k7, k8, k9]; done) rfl ⟨congrArg _ HX.out.symm, hBE⟩
      · have hE := Lib.hid (show joF ys 1 3 = RES by have := hjo.out; unfold joF at this; rw [if_neg he] at this; exact this)
        have HC := hall
        clear hjo
        go_wp2_with fail
        all_goals try (go_quiet (fail); go_wp2_with fail)
        go_roundg 1
        case rel => exact ⟨3, by first | rfl | go_num, by omega, hE.out, HC.out.1, HC.out.2.1, HC.out.2.2.1, HC.out.2.2.2, hz, by first | exact hbel | exact below_drewN hbel _ | exact hbel.drew⟩
        case measure => omega
    · obtain rfl : gk = 1 := by omega
      have c0 : wr.cell? ⟨w.heap.size, 0, none⟩ = some (.int .i64 (px ys 0)) := (hc 0 (by omega)).1
      have c1 : wr.cell? ⟨w.heap.size, 1, none⟩ = some (.int .i64 (py ys 0)) := (hc 0 (by omega)).2
      have c2 : wr.cell? ⟨w.heap.size, 2, none⟩ = some (.int .i64 (px ys 1)) := (hc 1 (by omega)).1
      have c3 : wr.cell? ⟨w.heap.size, 3, none⟩ = some (.int .i64 (py ys 1)) := (hc 1 (by omega)).2
      have c4 : wr.cell? ⟨w.heap.size, 4, none⟩ = some (.int .i64 (px ys 2)) := (hc 2 (by omega)).1
      have c5 : wr.cell? ⟨w.heap.size, 5, none⟩ = some (.int .i64 (py ys 2)) := (hc 2 (by omega)).2
      have c6 : wr.cell? ⟨w.heap.size, 6, none⟩ = some (.int .i64 (px ys 3)) := (hc 3 (by omega)).1
      have c7 : wr.cell? ⟨w.heap.size, 7, none⟩ = some (.int .i64 (py ys 3)) := (hc 3 (by omega)).2
      have c8 : wr.cell? ⟨w.heap.size, 8, none⟩ = some (.int .i64 (px ys 4)) := (hc 4 (by omega)).1
      have c9 : wr.cell? ⟨w.heap.size, 9, none⟩ = some (.int .i64 (py ys 4)) := (hc 4 (by omega)).2
      have f0 : wr.frozen? ⟨w.heap.size, 0, none⟩ = false := hf 0
      have g0 : wr.frozen? ⟨w.heap.size + 1, 0, none⟩ = false := hg 0
      have f1 : wr.frozen? ⟨w.heap.size, 1, none⟩ = false := hf 1
      have g1 : wr.frozen? ⟨w.heap.size + 1, 1, none⟩ = false := hg 1
      have f2 : wr.frozen? ⟨w.heap.size, 2, none⟩ = false := hf 2
      have g2 : wr.frozen? ⟨w.heap.size + 1, 2, none⟩ = false := hg 2
      have f3 : wr.frozen? ⟨w.heap.size, 3, none⟩ = false := hf 3
      have g3 : wr.frozen? ⟨w.heap.size + 1, 3, none⟩ = false := hg 3
      have f4 : wr.frozen? ⟨w.heap.size, 4, none⟩ = false := hf 4
      have g4 : wr.frozen? ⟨w.heap.size + 1, 4, none⟩ = false := hg 4
      have f5 : wr.frozen? ⟨w.heap.size, 5, none⟩ = false := hf 5
      have g5 : wr.frozen? ⟨w.heap.size + 1, 5, none⟩ = false := hg 5
      have f6 : wr.frozen? ⟨w.heap.size, 6, none⟩ = false := hf 6
      have g6 : wr.frozen? ⟨w.heap.size + 1, 6, none⟩ = false := hg 6
      have f7 : wr.frozen? ⟨w.heap.size, 7, none⟩ = false := hf 7
      have g7 : wr.frozen? ⟨w.heap.size + 1, 7, none⟩ = false := hg 7
      have f8 : wr.frozen? ⟨w.heap.size, 8, none⟩ = false := hf 8
      have g8 : wr.frozen? ⟨w.heap.size + 1, 8, none⟩ = false := hg 8
      have f9 : wr.frozen? ⟨w.heap.size, 9, none⟩ = false := hf 9
      have g9 : wr.frozen? ⟨w.heap.size + 1, 9, none⟩ = false := hg 9
      obtain ⟨r0, d0⟩ := Option.isSome_iff_exists.1 (hr 0 (by omega))
      obtain ⟨r1, d1⟩ := Option.isSome_iff_exists.1 (hr 1 (by omega))
      obtain ⟨r2, d2⟩ := Option.isSome_iff_exists.1 (hr 2 (by omega))
      obtain ⟨r3, d3⟩ := Option.isSome_iff_exists.1 (hr 3 (by omega))
      obtain ⟨r4, d4⟩ := Option.isSome_iff_exists.1 (hr 4 (by omega))
      obtain ⟨r5, d5⟩ := Option.isSome_iff_exists.1 (hr 5 (by omega))
      obtain ⟨r6, d6⟩ := Option.isSome_iff_exists.1 (hr 6 (by omega))
      obtain ⟨r7, d7⟩ := Option.isSome_iff_exists.1 (hr 7 (by omega))
      obtain ⟨r8, d8⟩ := Option.isSome_iff_exists.1 (hr 8 (by omega))
      obtain ⟨r9, d9⟩ := Option.isSome_iff_exists.1 (hr 9 (by omega))
      have z0 : w.heap.size < wr.heap.size := by omega
      have hf' := hf
      have hg' := hg
      have HSZ : (Try.prog.info? 43).map (·.size) = some 2 := by rfl
      clear hc hf hg hr
      by_cases he : py ys 3 = py ys 4
      · have hE := Lib.hid (show (if 3 + 1 < ys.length then mrg ys 3 else ys) = RES by have := hjo.out; unfold joF at this; rw [if_pos he] at this; exact this)
        clear hjo hall
        have hlen : ys.length ≤ 5 := hb.2.1
        have bx0 := HB.out 3
        have bx1 := HB.out 4
        have hw1 : IntKind.i64.wrap (px ys 3 + px ys 4) = px ys 3 + px ys 4 := IntWalk.i64_in _ (by omega)
        go_wp2_with fail
        all_goals try (go_quiet (fail); go_wp2_with fail)
        go_big_region_o
        go_wp2_with fail
        have hw2 : IntKind.i64.wrap 5 = 5 := IntWalk.i64_in _ (by omega)
        have k0 : ∀ q : Nat, ((wr.drewN q).setCell ⟨w.heap.size, 6, none⟩ (.int .i64 (px ys 3 + px ys 4))).drew.cell? ⟨w.heap.size, 0, none⟩ = some (.int .i64 (px ys 0)) := fun q => by go_simp
        have l0 : ∀ q : Nat, ((wr.drewN q).setCell ⟨w.heap.size, 6, none⟩ (.int .i64 (px ys 3 + px ys 4))).drew.cell? ⟨w.heap.size + 1, 0, none⟩ = some r0 := fun q => by go_simp
        have k1 : ∀ q : Nat, ((wr.drewN q).setCell ⟨w.heap.size, 6, none⟩ (.int .i64 (px ys 3 + px ys 4))).drew.cell? ⟨w.heap.size, 1, none⟩ = some (.int .i64 (py ys 0)) := fun q => by go_simp
        have l1 : ∀ q : Nat, ((wr.drewN q).setCell ⟨w.heap.size, 6, none⟩ (.int .i64 (px ys 3 + px ys 4))).drew.cell? ⟨w.heap.size + 1, 1, none⟩ = some r1 := fun q => by go_simp
        have k2 : ∀ q : Nat, ((wr.drewN q).setCell ⟨w.heap.size, 6, none⟩ (.int .i64 (px ys 3 + px ys 4))).drew.cell? ⟨w.heap.size, 2, none⟩ = some (.int .i64 (px ys 1)) := fun q => by go_simp
        have l2 : ∀ q : Nat, ((wr.drewN q).setCell ⟨w.heap.size, 6, none⟩ (.int .i64 (px ys 3 + px ys 4))).drew.cell? ⟨w.heap.size + 1, 2, none⟩ = some r2 := fun q => by go_simp
        have k3 : ∀ q : Nat, ((wr.drewN q).setCell ⟨w.heap.size, 6, none⟩ (.int .i64 (px ys 3 + px ys 4))).drew.cell? ⟨w.heap.size, 3, none⟩ = some (.int .i64 (py ys 1)) := fun q => by go_simp
        have l3 : ∀ q : Nat, ((wr.drewN q).setCell ⟨w.heap.size, 6, none⟩ (.int .i64 (px ys 3 + px ys 4))).drew.cell? ⟨w.heap.size + 1, 3, none⟩ = some r3 := fun q => by go_simp
        have k4 : ∀ q : Nat, ((wr.drewN q).setCell ⟨w.heap.size, 6, none⟩ (.int .i64 (px ys 3 + px ys 4))).drew.cell? ⟨w.heap.size, 4, none⟩ = some (.int .i64 (px ys 2)) := fun q => by go_simp
        have l4 : ∀ q : Nat, ((wr.drewN q).setCell ⟨w.heap.size, 6, none⟩ (.int .i64 (px ys 3 + px ys 4))).drew.cell? ⟨w.heap.size + 1, 4, none⟩ = some r4 := fun q => by go_simp
        have k5 : ∀ q : Nat, ((wr.drewN q).setCell ⟨w.heap.size, 6, none⟩ (.int .i64 (px ys 3 + px ys 4))).drew.cell? ⟨w.heap.size, 5, none⟩ = some (.int .i64 (py ys 2)) := fun q => by go_simp
        have l5 : ∀ q : Nat, ((wr.drewN q).setCell ⟨w.heap.size, 6, none⟩ (.int .i64 (px ys 3 + px ys 4))).drew.cell? ⟨w.heap.size + 1, 5, none⟩ = some r5 := fun q => by go_simp
        have k6 : ∀ q : Nat, ((wr.drewN q).setCell ⟨w.heap.size, 6, none⟩ (.int .i64 (px ys 3 + px ys 4))).drew.cell? ⟨w.heap.size, 6, none⟩ = some (.int .i64 (px ys 3 + px ys 4)) := fun q => by go_simp
        have l6 : ∀ q : Nat, ((wr.drewN q).setCell ⟨w.heap.size, 6, none⟩ (.int .i64 (px ys 3 + px ys 4))).drew.cell? ⟨w.heap.size + 1, 6, none⟩ = some r6 := fun q => by go_simp
        have k7 : ∀ q : Nat, ((wr.drewN q).setCell ⟨w.heap.size, 6, none⟩ (.int .i64 (px ys 3 + px ys 4))).drew.cell? ⟨w.heap.size, 7, none⟩ = some (.int .i64 (py ys 3)) := fun q => by go_simp
        have l7 : ∀ q : Nat, ((wr.drewN q).setCell ⟨w.heap.size, 6, none⟩ (.int .i64 (px ys 3 + px ys 4))).drew.cell? ⟨w.heap.size + 1, 7, none⟩ = some r7 := fun q => by go_simp
        have k8 : ∀ q : Nat, ((wr.drewN q).setCell ⟨w.heap.size, 6, none⟩ (.int .i64 (px ys 3 + px ys 4))).drew.cell? ⟨w.heap.size, 8, none⟩ = some (.int .i64 (px ys 4)) := fun q => by go_simp
        have l8 : ∀ q : Nat, ((wr.drewN q).setCell ⟨w.heap.size, 6, none⟩ (.int .i64 (px ys 3 + px ys 4))).drew.cell? ⟨w.heap.size + 1, 8, none⟩ = some r8 := fun q => by go_simp
        have k9 : ∀ q : Nat, ((wr.drewN q).setCell ⟨w.heap.size, 6, none⟩ (.int .i64 (px ys 3 + px ys 4))).drew.cell? ⟨w.heap.size, 9, none⟩ = some (.int .i64 (py ys 4)) := fun q => by go_simp
        have l9 : ∀ q : Nat, ((wr.drewN q).setCell ⟨w.heap.size, 6, none⟩ (.int .i64 (px ys 3 + px ys 4))).drew.cell? ⟨w.heap.size + 1, 9, none⟩ = some r9 := fun q => by go_simp
        have hfW : ∀ q o : Nat, ((wr.drewN q).setCell ⟨w.heap.size, 6, none⟩ (.int .i64 (px ys 3 + px ys 4))).drew.frozen? ⟨w.heap.size, o, none⟩ = false := fun q o => by show ((wr.drewN q).setCell ⟨w.heap.size, 6, none⟩ (.int .i64 (px ys 3 + px ys 4))).frozen? _ = false; rw [World.frozen?_setCell]; exact hf' o
        have hgW : ∀ q o : Nat, ((wr.drewN q).setCell ⟨w.heap.size, 6, none⟩ (.int .i64 (px ys 3 + px ys 4))).drew.frozen? ⟨w.heap.size + 1, o, none⟩ = false := fun q o => by show ((wr.drewN q).setCell ⟨w.heap.size, 6, none⟩ (.int .i64 (px ys 3 + px ys 4))).frozen? _ = false; rw [World.frozen?_setCell]; exact hg' o
        go_region_law (refine step_copy2W rfl _ _ 24 24 rfl 43 Try.underlying24 HSZ w.heap.size 8 1 1 ⟨w.heap.size, 0, none⟩ 0 0 rfl rfl [] rfl (fun j v hv => by simp at hv) (fun j hj => absurd hj (by simp)) (fun j hj => hfW _ _) (by intro v hv; simp at hv) ?_; intro W6 hW6)
        all_goals
          have hBW : Below w.heap.size w W6 := by rw [hW6.out]; exact below_setCells _ (Nat.le_refl _) _ _ _ _ (Below.drew (Below.setCell (below_drewN hbel _) (Nat.le_refl _) _))
          have v0 : W6.cell? ⟨w.heap.size, 0, none⟩ = some (.int .i64 (px ys 0)) := by rw [hW6.out]; exact ((World.cell?_setCells_out _ _ _ _ _ (fun _ _ => Or.inl (show (0 : Nat) < 8 by decide))).trans (k0 _))
          have v1 : W6.cell? ⟨w.heap.size, 1, none⟩ = some (.int .i64 (py ys 0)) := by rw [hW6.out]; exact ((World.cell?_setCells_out _ _ _ _ _ (fun _ _ => Or.inl (show (1 : Nat) < 8 by decide))).trans (k1 _))
          have v2 : W6.cell? ⟨w.heap.size, 2, none⟩ = some (.int .i64 (px ys 1)) := by rw [hW6.out]; exact ((World.cell?_setCells_out _ _ _ _ _ (fun _ _ => Or.inl (show (2 : Nat) < 8 by decide))).trans (k2 _))
          have v3 : W6.cell? ⟨w.heap.size, 3, none⟩ = some (.int .i64 (py ys 1)) := by rw [hW6.out]; exact ((World.cell?_setCells_out _ _ _ _ _ (fun _ _ => Or.inl (show (3 : Nat) < 8 by decide))).trans (k3 _))
          have v4 : W6.cell? ⟨w.heap.size, 4, none⟩ = some (.int .i64 (px ys 2)) := by rw [hW6.out]; exact ((World.cell?_setCells_out _ _ _ _ _ (fun _ _ => Or.inl (show (4 : Nat) < 8 by decide))).trans (k4 _))
          have v5 : W6.cell? ⟨w.heap.size, 5, none⟩ = some (.int .i64 (py ys 2)) := by rw [hW6.out]; exact ((World.cell?_setCells_out _ _ _ _ _ (fun _ _ => Or.inl (show (5 : Nat) < 8 by decide))).trans (k5 _))
          have v6 : W6.cell? ⟨w.heap.size, 6, none⟩ = some (.int .i64 (px ys 3 + px ys 4)) := by rw [hW6.out]; exact ((World.cell?_setCells_out _ _ _ _ _ (fun _ _ => Or.inl (show (6 : Nat) < 8 by decide))).trans (k6 _))
          have v7 : W6.cell? ⟨w.heap.size, 7, none⟩ = some (.int .i64 (py ys 4)) := by rw [hW6.out]; exact (((World.cell?_setCells_out _ _ _ _ _ (fun _ _ => Or.inl (show (7 : Nat) < 8 by decide))).trans (k7 _)).trans (by rw [he]))
          have v8 : W6.cell? ⟨w.heap.size, 8, none⟩ = some (.int .i64 (px ys 4)) := by rw [hW6.out]; exact ((World.cell?_setCells_out _ _ _ _ _ (fun _ _ => Or.inr (show (8 : Nat) ≤ 8 by decide))).trans (k8 _))
          have v9 : W6.cell? ⟨w.heap.size, 9, none⟩ = some (.int .i64 (py ys 4)) := by rw [hW6.out]; exact ((World.cell?_setCells_out _ _ _ _ _ (fun _ _ => Or.inr (show (8 : Nat) ≤ 9 by decide))).trans (k9 _))
          have u0 : W6.cell? ⟨w.heap.size + 1, 0, none⟩ = some r0 := by rw [hW6.out]; exact (World.cell?_setCells_out _ _ _ _ _ (fun q => absurd q (by simp))).trans (l0 _)
          have fv0 : W6.frozen? ⟨w.heap.size, 0, none⟩ = false := by rw [hW6.out, World.frozen?_setCells]; exact hfW _ _
          have fu0 : W6.frozen? ⟨w.heap.size + 1, 0, none⟩ = false := by rw [hW6.out, World.frozen?_setCells]; exact hgW _ _
          have u1 : W6.cell? ⟨w.heap.size + 1, 1, none⟩ = some r1 := by rw [hW6.out]; exact (World.cell?_setCells_out _ _ _ _ _ (fun q => absurd q (by simp))).trans (l1 _)
          have fv1 : W6.frozen? ⟨w.heap.size, 1, none⟩ = false := by rw [hW6.out, World.frozen?_setCells]; exact hfW _ _
          have fu1 : W6.frozen? ⟨w.heap.size + 1, 1, none⟩ = false := by rw [hW6.out, World.frozen?_setCells]; exact hgW _ _
          have u2 : W6.cell? ⟨w.heap.size + 1, 2, none⟩ = some r2 := by rw [hW6.out]; exact (World.cell?_setCells_out _ _ _ _ _ (fun q => absurd q (by simp))).trans (l2 _)
          have fv2 : W6.frozen? ⟨w.heap.size, 2, none⟩ = false := by rw [hW6.out, World.frozen?_setCells]; exact hfW _ _
          have fu2 : W6.frozen? ⟨w.heap.size + 1, 2, none⟩ = false := by rw [hW6.out, World.frozen?_setCells]; exact hgW _ _
          have u3 : W6.cell? ⟨w.heap.size + 1, 3, none⟩ = some r3 := by rw [hW6.out]; exact (World.cell?_setCells_out _ _ _ _ _ (fun q => absurd q (by simp))).trans (l3 _)
          have fv3 : W6.frozen? ⟨w.heap.size, 3, none⟩ = false := by rw [hW6.out, World.frozen?_setCells]; exact hfW _ _
          have fu3 : W6.frozen? ⟨w.heap.size + 1, 3, none⟩ = false := by rw [hW6.out, World.frozen?_setCells]; exact hgW _ _
          have u4 : W6.cell? ⟨w.heap.size + 1, 4, none⟩ = some r4 := by rw [hW6.out]; exact (World.cell?_setCells_out _ _ _ _ _ (fun q => absurd q (by simp))).trans (l4 _)
          have fv4 : W6.frozen? ⟨w.heap.size, 4, none⟩ = false := by rw [hW6.out, World.frozen?_setCells]; exact hfW _ _
          have fu4 : W6.frozen? ⟨w.heap.size + 1, 4, none⟩ = false := by rw [hW6.out, World.frozen?_setCells]; exact hgW _ _
          have u5 : W6.cell? ⟨w.heap.size + 1, 5, none⟩ = some r5 := by rw [hW6.out]; exact (World.cell?_setCells_out _ _ _ _ _ (fun q => absurd q (by simp))).trans (l5 _)
          have fv5 : W6.frozen? ⟨w.heap.size, 5, none⟩ = false := by rw [hW6.out, World.frozen?_setCells]; exact hfW _ _
          have fu5 : W6.frozen? ⟨w.heap.size + 1, 5, none⟩ = false := by rw [hW6.out, World.frozen?_setCells]; exact hgW _ _
          have u6 : W6.cell? ⟨w.heap.size + 1, 6, none⟩ = some r6 := by rw [hW6.out]; exact (World.cell?_setCells_out _ _ _ _ _ (fun q => absurd q (by simp))).trans (l6 _)
          have fv6 : W6.frozen? ⟨w.heap.size, 6, none⟩ = false := by rw [hW6.out, World.frozen?_setCells]; exact hfW _ _
          have fu6 : W6.frozen? ⟨w.heap.size + 1, 6, none⟩ = false := by rw [hW6.out, World.frozen?_setCells]; exact hgW _ _
          have u7 : W6.cell? ⟨w.heap.size + 1, 7, none⟩ = some r7 := by rw [hW6.out]; exact (World.cell?_setCells_out _ _ _ _ _ (fun q => absurd q (by simp))).trans (l7 _)
          have fv7 : W6.frozen? ⟨w.heap.size, 7, none⟩ = false := by rw [hW6.out, World.frozen?_setCells]; exact hfW _ _
          have fu7 : W6.frozen? ⟨w.heap.size + 1, 7, none⟩ = false := by rw [hW6.out, World.frozen?_setCells]; exact hgW _ _
          have u8 : W6.cell? ⟨w.heap.size + 1, 8, none⟩ = some r8 := by rw [hW6.out]; exact (World.cell?_setCells_out _ _ _ _ _ (fun q => absurd q (by simp))).trans (l8 _)
          have fv8 : W6.frozen? ⟨w.heap.size, 8, none⟩ = false := by rw [hW6.out, World.frozen?_setCells]; exact hfW _ _
          have fu8 : W6.frozen? ⟨w.heap.size + 1, 8, none⟩ = false := by rw [hW6.out, World.frozen?_setCells]; exact hgW _ _
          have u9 : W6.cell? ⟨w.heap.size + 1, 9, none⟩ = some r9 := by rw [hW6.out]; exact (World.cell?_setCells_out _ _ _ _ _ (fun q => absurd q (by simp))).trans (l9 _)
          have fv9 : W6.frozen? ⟨w.heap.size, 9, none⟩ = false := by rw [hW6.out, World.frozen?_setCells]; exact hfW _ _
          have fu9 : W6.frozen? ⟨w.heap.size + 1, 9, none⟩ = false := by rw [hW6.out, World.frozen?_setCells]; exact hgW _ _
          clear hW6 k0 l0 k1 l1 k2 l2 k3 l3 k4 l4 k5 l5 k6 l6 k7 l7 k8 l8 k9 l9 c0 f0 g0 d0 c1 f1 g1 d1 c2 f2 g2 d2 c3 f3 g3 d3 c4 f4 g4 d4 c5 f5 g5 d5 c6 f6 g6 d6 c7 f7 g7 d7 c8 f8 g8 d8 c9 f9 g9 d9 hfW hgW hf' hg' bx0 bx1 hbel
          have X0 : px RES 0 = px ys 0 := by rw [← hE.out]; exact ((rw_at hlen 0 (fun _ => he)).1).trans rfl
          have Y0 : py RES 0 = py ys 0 := by rw [← hE.out]; exact ((rw_at hlen 0 (fun _ => he)).2).trans rfl
          have X1 : px RES 1 = px ys 1 := by rw [← hE.out]; exact ((rw_at hlen 1 (fun _ => he)).1).trans rfl
          have Y1 : py RES 1 = py ys 1 := by rw [← hE.out]; exact ((rw_at hlen 1 (fun _ => he)).2).trans rfl
          have X2 : px RES 2 = px ys 2 := by rw [← hE.out]; exact ((rw_at hlen 2 (fun _ => he)).1).trans rfl
          have Y2 : py RES 2 = py ys 2 := by rw [← hE.out]; exact ((rw_at hlen 2 (fun _ => he)).2).trans rfl
          have X3 : px RES 3 = px ys 3 + px ys 4 := by rw [← hE.out]; exact ((rw_at hlen 3 (fun _ => he)).1).trans rfl
          have Y3 : py RES 3 = py ys 4 := by rw [← hE.out]; exact ((rw_at hlen 3 (fun _ => he)).2).trans he
          have X4 : px RES 4 = 0 := by rw [← hE.out]; exact ((rw_at hlen 4 (fun _ => he)).1).trans (px_out (by omega)).1
          have Y4 : py RES 4 = 0 := by rw [← hE.out]; exact ((rw_at hlen 4 (fun _ => he)).2).trans (px_out (by omega)).2
          have HX := Lib.hid (show aggJ RES = .agg #[.int .i64 (px ys 0), .int .i64 (py ys 0), .int .i64 (px ys 1), .int .i64 (py ys 1), .int .i64 (px ys 2), .int .i64 (py ys 2), .int .i64 (px ys 3 + px ys 4), .int .i64 (py ys 4), .int .i64 (0), .int .i64 (0)] by unfold aggJ; rw [X0, Y0, X1, Y1, X2, Y2, X3, Y3, X4, Y4])
          clear X0 Y0 X1 Y1 X2 Y2 X3 Y3 X4 Y4
          clear he hE HR
          go_wp2_with fail
          generalize hW : ((((((((((((W6.setCell ⟨w.heap.size, 8, none⟩ (.int .i64 0)).setCell ⟨w.heap.size, 9, none⟩ (.int .i64 0)).setCell ⟨w.heap.size + 1, 0, none⟩ (.int .i64 (px ys 0))).setCell ⟨w.heap.size + 1, 1, none⟩ (.int .i64 (py ys 0))).setCell ⟨w.heap.size + 1, 2, none⟩ (.int .i64 (px ys 1))).setCell ⟨w.heap.size + 1, 3, none⟩ (.int .i64 (py ys 1))).setCell ⟨w.heap.size + 1, 4, none⟩ (.int .i64 (px ys 2))).setCell ⟨w.heap.size + 1, 5, none⟩ (.int .i64 (py ys 2))).setCell ⟨w.heap.size + 1, 6, none⟩ (.int .i64 (px ys 3 + px ys 4))).setCell ⟨w.heap.size + 1, 7, none⟩ (.int .i64 (py ys 4))).setCell ⟨w.heap.size + 1, 8, none⟩ (.int .i64 (0))).setCell ⟨w.heap.size + 1, 9, none⟩ (.int .i64 (0))) = W
          have k0 : W.cell? ⟨w.heap.size + 1, 0, none⟩ = some (.int .i64 (px ys 0)) := by rw [← hW]; clear hW; go_simp
          have k1 : W.cell? ⟨w.heap.size + 1, 1, none⟩ = some (.int .i64 (py ys 0)) := by rw [← hW]; clear hW; go_simp
          have k2 : W.cell? ⟨w.heap.size + 1, 2, none⟩ = some (.int .i64 (px ys 1)) := by rw [← hW]; clear hW; go_simp
          have k3 : W.cell? ⟨w.heap.size + 1, 3, none⟩ = some (.int .i64 (py ys 1)) := by rw [← hW]; clear hW; go_simp
          have k4 : W.cell? ⟨w.heap.size + 1, 4, none⟩ = some (.int .i64 (px ys 2)) := by rw [← hW]; clear hW; go_simp
          have k5 : W.cell? ⟨w.heap.size + 1, 5, none⟩ = some (.int .i64 (py ys 2)) := by rw [← hW]; clear hW; go_simp
          have k6 : W.cell? ⟨w.heap.size + 1, 6, none⟩ = some (.int .i64 (px ys 3 + px ys 4)) := by rw [← hW]; clear hW; go_simp
          have k7 : W.cell? ⟨w.heap.size + 1, 7, none⟩ = some (.int .i64 (py ys 4)) := by rw [← hW]; clear hW; go_simp
          have k8 : W.cell? ⟨w.heap.size + 1, 8, none⟩ = some (.int .i64 (0)) := by rw [← hW]; clear hW; go_simp
          have k9 : W.cell? ⟨w.heap.size + 1, 9, none⟩ = some (.int .i64 (0)) := by rw [← hW]; clear hW; go_simp
          have hBE : Below w.heap.size w W := by rw [← hW]; exact (Below.setCell (Below.setCell (Below.setCell (Below.setCell (Below.setCell (Below.setCell (Below.setCell (Below.setCell (Below.setCell (Below.setCell (Below.setCell (Below.setCell hBW (by simp) _) (by simp) _) (by simp) _) (by simp) _) (by simp) _) (by simp) _) (by simp) _) (by simp) _) (by simp) _) (by simp) _) (by simp) _) (by simp) _)
          clear hW
          refine bodyPost_ret (v := .agg #[.int .i64 (px ys 0), .int .i64 (py ys 0), .int .i64 (px ys 1), .int .i64 (py ys 1), .int .i64 (px ys 2), .int .i64 (py ys 2), .int .i64 (px ys 3 + px ys 4), .int .i64 (py ys 4), .int .i64 (0), .int .i64 (0)]) (by simp [results, Try.results21, go_sem, k0, k1, k2, k3, k4, k5, k6, k7, k8, k9]; done) rfl ⟨congrArg _ HX.out.symm, hBE⟩
      · have hE := Lib.hid (show joF ys 0 4 = RES by have := hjo.out; unfold joF at this; rw [if_neg he] at this; exact this)
        have HC := hall
        clear hjo
        go_wp2_with fail
        all_goals try (go_quiet (fail); go_wp2_with fail)
        go_roundg 0
        case rel => exact ⟨4, by first | rfl | go_num, by omega, hE.out, HC.out.1, HC.out.2.1, HC.out.2.2.1, HC.out.2.2.2, hz, by first | exact hbel | exact below_drewN hbel _ | exact hbel.drew⟩
        case measure => omega
    · obtain rfl : gk = 0 := by omega
      have hE := Lib.hid (show ys = RES from hjo.out)
      have c0 : wr.cell? ⟨w.heap.size, 0, none⟩ = some (.int .i64 (px ys 0)) := (hc 0 (by omega)).1
      have c1 : wr.cell? ⟨w.heap.size, 1, none⟩ = some (.int .i64 (py ys 0)) := (hc 0 (by omega)).2
      have c2 : wr.cell? ⟨w.heap.size, 2, none⟩ = some (.int .i64 (px ys 1)) := (hc 1 (by omega)).1
      have c3 : wr.cell? ⟨w.heap.size, 3, none⟩ = some (.int .i64 (py ys 1)) := (hc 1 (by omega)).2
      have c4 : wr.cell? ⟨w.heap.size, 4, none⟩ = some (.int .i64 (px ys 2)) := (hc 2 (by omega)).1
      have c5 : wr.cell? ⟨w.heap.size, 5, none⟩ = some (.int .i64 (py ys 2)) := (hc 2 (by omega)).2
      have c6 : wr.cell? ⟨w.heap.size, 6, none⟩ = some (.int .i64 (px ys 3)) := (hc 3 (by omega)).1
      have c7 : wr.cell? ⟨w.heap.size, 7, none⟩ = some (.int .i64 (py ys 3)) := (hc 3 (by omega)).2
      have c8 : wr.cell? ⟨w.heap.size, 8, none⟩ = some (.int .i64 (px ys 4)) := (hc 4 (by omega)).1
      have c9 : wr.cell? ⟨w.heap.size, 9, none⟩ = some (.int .i64 (py ys 4)) := (hc 4 (by omega)).2
      have f0 : wr.frozen? ⟨w.heap.size, 0, none⟩ = false := hf 0
      have g0 : wr.frozen? ⟨w.heap.size + 1, 0, none⟩ = false := hg 0
      have f1 : wr.frozen? ⟨w.heap.size, 1, none⟩ = false := hf 1
      have g1 : wr.frozen? ⟨w.heap.size + 1, 1, none⟩ = false := hg 1
      have f2 : wr.frozen? ⟨w.heap.size, 2, none⟩ = false := hf 2
      have g2 : wr.frozen? ⟨w.heap.size + 1, 2, none⟩ = false := hg 2
      have f3 : wr.frozen? ⟨w.heap.size, 3, none⟩ = false := hf 3
      have g3 : wr.frozen? ⟨w.heap.size + 1, 3, none⟩ = false := hg 3
      have f4 : wr.frozen? ⟨w.heap.size, 4, none⟩ = false := hf 4
      have g4 : wr.frozen? ⟨w.heap.size + 1, 4, none⟩ = false := hg 4
      have f5 : wr.frozen? ⟨w.heap.size, 5, none⟩ = false := hf 5
      have g5 : wr.frozen? ⟨w.heap.size + 1, 5, none⟩ = false := hg 5
      have f6 : wr.frozen? ⟨w.heap.size, 6, none⟩ = false := hf 6
      have g6 : wr.frozen? ⟨w.heap.size + 1, 6, none⟩ = false := hg 6
      have f7 : wr.frozen? ⟨w.heap.size, 7, none⟩ = false := hf 7
      have g7 : wr.frozen? ⟨w.heap.size + 1, 7, none⟩ = false := hg 7
      have f8 : wr.frozen? ⟨w.heap.size, 8, none⟩ = false := hf 8
      have g8 : wr.frozen? ⟨w.heap.size + 1, 8, none⟩ = false := hg 8
      have f9 : wr.frozen? ⟨w.heap.size, 9, none⟩ = false := hf 9
      have g9 : wr.frozen? ⟨w.heap.size + 1, 9, none⟩ = false := hg 9
      obtain ⟨r0, d0⟩ := Option.isSome_iff_exists.1 (hr 0 (by omega))
      obtain ⟨r1, d1⟩ := Option.isSome_iff_exists.1 (hr 1 (by omega))
      obtain ⟨r2, d2⟩ := Option.isSome_iff_exists.1 (hr 2 (by omega))
      obtain ⟨r3, d3⟩ := Option.isSome_iff_exists.1 (hr 3 (by omega))
      obtain ⟨r4, d4⟩ := Option.isSome_iff_exists.1 (hr 4 (by omega))
      obtain ⟨r5, d5⟩ := Option.isSome_iff_exists.1 (hr 5 (by omega))
      obtain ⟨r6, d6⟩ := Option.isSome_iff_exists.1 (hr 6 (by omega))
      obtain ⟨r7, d7⟩ := Option.isSome_iff_exists.1 (hr 7 (by omega))
      obtain ⟨r8, d8⟩ := Option.isSome_iff_exists.1 (hr 8 (by omega))
      obtain ⟨r9, d9⟩ := Option.isSome_iff_exists.1 (hr 9 (by omega))
      clear hc hf hg hr hjo
      go_wp2_with fail
      rw [← hE.out]
      generalize hW : ((((((((((wr.setCell ⟨w.heap.size + 1, 0, none⟩ (.int .i64 (px ys 0))).setCell ⟨w.heap.size + 1, 1, none⟩ (.int .i64 (py ys 0))).setCell ⟨w.heap.size + 1, 2, none⟩ (.int .i64 (px ys 1))).setCell ⟨w.heap.size + 1, 3, none⟩ (.int .i64 (py ys 1))).setCell ⟨w.heap.size + 1, 4, none⟩ (.int .i64 (px ys 2))).setCell ⟨w.heap.size + 1, 5, none⟩ (.int .i64 (py ys 2))).setCell ⟨w.heap.size + 1, 6, none⟩ (.int .i64 (px ys 3))).setCell ⟨w.heap.size + 1, 7, none⟩ (.int .i64 (py ys 3))).setCell ⟨w.heap.size + 1, 8, none⟩ (.int .i64 (px ys 4))).setCell ⟨w.heap.size + 1, 9, none⟩ (.int .i64 (py ys 4))) = W
      have k0 : W.cell? ⟨w.heap.size + 1, 0, none⟩ = some (.int .i64 (px ys 0)) := by rw [← hW]; clear hW; go_simp
      have k1 : W.cell? ⟨w.heap.size + 1, 1, none⟩ = some (.int .i64 (py ys 0)) := by rw [← hW]; clear hW; go_simp
      have k2 : W.cell? ⟨w.heap.size + 1, 2, none⟩ = some (.int .i64 (px ys 1)) := by rw [← hW]; clear hW; go_simp
      have k3 : W.cell? ⟨w.heap.size + 1, 3, none⟩ = some (.int .i64 (py ys 1)) := by rw [← hW]; clear hW; go_simp
      have k4 : W.cell? ⟨w.heap.size + 1, 4, none⟩ = some (.int .i64 (px ys 2)) := by rw [← hW]; clear hW; go_simp
      have k5 : W.cell? ⟨w.heap.size + 1, 5, none⟩ = some (.int .i64 (py ys 2)) := by rw [← hW]; clear hW; go_simp
      have k6 : W.cell? ⟨w.heap.size + 1, 6, none⟩ = some (.int .i64 (px ys 3)) := by rw [← hW]; clear hW; go_simp
      have k7 : W.cell? ⟨w.heap.size + 1, 7, none⟩ = some (.int .i64 (py ys 3)) := by rw [← hW]; clear hW; go_simp
      have k8 : W.cell? ⟨w.heap.size + 1, 8, none⟩ = some (.int .i64 (px ys 4)) := by rw [← hW]; clear hW; go_simp
      have k9 : W.cell? ⟨w.heap.size + 1, 9, none⟩ = some (.int .i64 (py ys 4)) := by rw [← hW]; clear hW; go_simp
      have hBW : Below w.heap.size w W := by
        rw [← hW]; exact (Below.setCell (Below.setCell (Below.setCell (Below.setCell (Below.setCell (Below.setCell (Below.setCell (Below.setCell (Below.setCell (Below.setCell hbel (by simp) _) (by simp) _) (by simp) _) (by simp) _) (by simp) _) (by simp) _) (by simp) _) (by simp) _) (by simp) _) (by simp) _)
      clear hW
      refine bodyPost_ret (v := aggJ ys) (by unfold aggJ; simp [results, Try.results21, go_sem, k0, k1, k2, k3, k4, k5, k6, k7, k8, k9]; done) rfl ⟨rfl, hBW⟩
    · omega
end Go.Proofs.Ytikfblbfodacaaa
