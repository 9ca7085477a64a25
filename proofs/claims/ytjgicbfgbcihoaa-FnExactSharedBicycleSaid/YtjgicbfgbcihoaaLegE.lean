/- Chapter 6's program: a ride and a walk, by contracts. -/
import Derived.Test.YtjgicbfgbcihoaaLegA
import Derived.Test.YtjgicbfgbcihoaaLegWalks
import Derived.WalkKit
import Derived.WalkSpells
import Derived.WalkLawsBesides
import Derived.Lib.Hide
import Derived.Deep.LoopGhost
import Derived.Deep.QuietTactic
import Derived.Deep.RegionWith
import Derived.Deep.RegionHeld3
import Derived.BigQuiet
import Derived.Shelf.Abstract
namespace Go.Proofs.Ytjgicbfgbcihoaa
open Go.RowKit
set_option linter.unusedVariables false
set_option linter.unusedSimpArgs false
theorem rwK_eq (l a b v : Int) : rwK l a b v = (inB l 1 1000 && (inB a 1 100 && (inB b 1 100 && (inB v 1 100 && (decide (a < v) && decide (b < v)))))) := by
  apply Bool.eq_iff_iff.2
  unfold rwK
  simp only [Bool.and_eq_true, inB_iff, decide_eq_true_eq]
  omega
set_option maxHeartbeats 8000000 in
set_option maxRecDepth 100000 in
theorem implRideAndWalk (l a b v : Int) (w : World) :
    Calls Try.prog 43 #[.int .i64 l, .int .i64 a, .int .i64 b, .int .i64 v] w fun e w' => e = .returned (.tuple #[.int .i64 (ifI (rwK l a b v) (lwN (rwO l a b v) (rwU a b v))), .int .i64 (ifI (rwK l a b v) (lwD (rwO l a b v) (rwU a b v))), .int .i64 (ifI (rwK l a b v) (lwN (rwT l a b v) (rwU a b v * a * v))), .int .i64 (ifI (rwK l a b v) (lwD (rwT l a b v) (rwU a b v * a * v))), .bool (rwK l a b v)]) ∧ Below w.heap.size w w' := by
  have hk : rwK l a b v = true → 1 ≤ rwU a b v ∧ rwU a b v ≤ 20000 := fun h => by
    unfold rwK at h
    simp only [Bool.and_eq_true, inB_iff] at h
    have := rw_bd (l := l) (a := a) (b := b) (v := v) (by omega) (by omega) (by omega) (by omega) (by omega) (by omega) (by omega) (by omega)
    exact ⟨this.1, this.2.1⟩
  rw [rwK_eq] at *
  cases h1 : inB l 1 1000
  · go_enter Try.func43, Try.ntmps43
    go_wp2_with (first | (go_at_call 48; refine (isLong_any _ _).mono ?_; rw [h1]; rintro e w1 ⟨rfl, rfl⟩))
    ((try simp only [Exit.inBlock, Exit.then]); refine bodyPost_ret (results_tmp5 rfl _ _ _) rfl ?_)
    refine ⟨r5 ?_ ?_ ?_ ?_ ?_, Below.refl _ _⟩ <;> (simp [ifI]; done)
  cases h2 : inB a 1 100
  · go_enter Try.func43, Try.ntmps43
    go_wp2_with (first | (go_at_call 48; refine (isLong_any _ _).mono ?_; rw [h1]; rintro e w1 ⟨rfl, rfl⟩) | (go_at_call_of 49 (Value.int .i64 a); refine (isFast_any _ _).mono ?_; rw [h2]; rintro e w1 ⟨rfl, rfl⟩))
    ((try simp only [Exit.inBlock, Exit.then]); refine bodyPost_ret (results_tmp5 rfl _ _ _) rfl ?_)
    refine ⟨r5 ?_ ?_ ?_ ?_ ?_, Below.refl _ _⟩ <;> (simp [ifI]; done)
  cases h3 : inB b 1 100
  · go_enter Try.func43, Try.ntmps43
    go_wp2_with (first | (go_at_call 48; refine (isLong_any _ _).mono ?_; rw [h1]; rintro e w1 ⟨rfl, rfl⟩) | (go_at_call_of 49 (Value.int .i64 a); refine (isFast_any _ _).mono ?_; rw [h2]; rintro e w1 ⟨rfl, rfl⟩) | (go_at_call_of 49 (Value.int .i64 b); refine (isFast_any _ _).mono ?_; rw [h3]; rintro e w1 ⟨rfl, rfl⟩))
    ((try simp only [Exit.inBlock, Exit.then]); refine bodyPost_ret (results_tmp5 rfl _ _ _) rfl ?_)
    refine ⟨r5 ?_ ?_ ?_ ?_ ?_, Below.refl _ _⟩ <;> (simp [ifI]; done)
  cases h4 : inB v 1 100
  · go_enter Try.func43, Try.ntmps43
    go_wp2_with (first | (go_at_call 48; refine (isLong_any _ _).mono ?_; rw [h1]; rintro e w1 ⟨rfl, rfl⟩) | (go_at_call_of 49 (Value.int .i64 a); refine (isFast_any _ _).mono ?_; rw [h2]; rintro e w1 ⟨rfl, rfl⟩) | (go_at_call_of 49 (Value.int .i64 b); refine (isFast_any _ _).mono ?_; rw [h3]; rintro e w1 ⟨rfl, rfl⟩) | (go_at_call_of 49 (Value.int .i64 v); refine (isFast_any _ _).mono ?_; rw [h4]; rintro e w1 ⟨rfl, rfl⟩))
    ((try simp only [Exit.inBlock, Exit.then]); refine bodyPost_ret (results_tmp5 rfl _ _ _) rfl ?_)
    refine ⟨r5 ?_ ?_ ?_ ?_ ?_, Below.refl _ _⟩ <;> (simp [ifI]; done)
  cases h5 : decide (a < v)
  · have h5' := of_decide_eq_false h5
    go_enter Try.func43, Try.ntmps43
    go_wp2_with (first | (go_at_call 48; refine (isLong_any _ _).mono ?_; rw [h1]; rintro e w1 ⟨rfl, rfl⟩) | (go_at_call_of 49 (Value.int .i64 a); refine (isFast_any _ _).mono ?_; rw [h2]; rintro e w1 ⟨rfl, rfl⟩) | (go_at_call_of 49 (Value.int .i64 b); refine (isFast_any _ _).mono ?_; rw [h3]; rintro e w1 ⟨rfl, rfl⟩) | (go_at_call_of 49 (Value.int .i64 v); refine (isFast_any _ _).mono ?_; rw [h4]; rintro e w1 ⟨rfl, rfl⟩))
    ((try simp only [Exit.inBlock, Exit.then]); refine bodyPost_ret (results_tmp5 rfl _ _ _) rfl ?_)
    refine ⟨r5 ?_ ?_ ?_ ?_ ?_, Below.refl _ _⟩ <;> (simp [ifI]; done)
  cases h6 : decide (b < v)
  · have h5' := of_decide_eq_true h5
    have h6' := of_decide_eq_false h6
    go_enter Try.func43, Try.ntmps43
    go_wp2_with (first | (go_at_call 48; refine (isLong_any _ _).mono ?_; rw [h1]; rintro e w1 ⟨rfl, rfl⟩) | (go_at_call_of 49 (Value.int .i64 a); refine (isFast_any _ _).mono ?_; rw [h2]; rintro e w1 ⟨rfl, rfl⟩) | (go_at_call_of 49 (Value.int .i64 b); refine (isFast_any _ _).mono ?_; rw [h3]; rintro e w1 ⟨rfl, rfl⟩) | (go_at_call_of 49 (Value.int .i64 v); refine (isFast_any _ _).mono ?_; rw [h4]; rintro e w1 ⟨rfl, rfl⟩))
    ((try simp only [Exit.inBlock, Exit.then]); refine bodyPost_ret (results_tmp5 rfl _ _ _) rfl ?_)
    refine ⟨r5 ?_ ?_ ?_ ?_ ?_, Below.refl _ _⟩ <;> (simp [ifI]; done)
  have a3 := of_decide_eq_true h5
  have b3 := of_decide_eq_true h6
  have hU := hk (by rw [h1, h2, h3, h4, h5, h6]; rfl)
  simp only [Bool.and_self]
  have l1 := (inB_iff.1 h1).1
  have l2 := (inB_iff.1 h1).2
  have a1 := (inB_iff.1 h2).1
  have a2 := (inB_iff.1 h2).2
  have b1 := (inB_iff.1 h3).1
  have b2 := (inB_iff.1 h3).2
  have v1 := (inB_iff.1 h4).1
  have v2 := (inB_iff.1 h4).2
  have m1 := mul_bd (v - a) b 100 100 (by omega) (by omega) (by omega) (by omega)
  have m2 := mul_bd (v - b) a 100 100 (by omega) (by omega) (by omega) (by omega)
  have eO : l * ((v - a) * b) = rwO l a b v := by unfold rwO; ac_rfl
  have eU : (v - a) * b + (v - b) * a = rwU a b v := by unfold rwU; rw [Int.mul_comm (v - a) b, Int.mul_comm (v - b) a]; omega
  have eT : rwO l a b v * a + (l * rwU a b v - rwO l a b v) * v = rwT l a b v := rfl
  rw [← eT]
  have m3 := mul_bd l ((v - a) * b) 1000 10000 (by omega) (by omega) (by omega) (by omega)
  rw [eO] at m3
  have m4 := mul_bd l (rwU a b v) 1000 20000 (by omega) (by omega) (by omega) (by omega)
  have rv := ride_val (l := l) (O := rwO l a b v) (U := rwU a b v) (a := a) (v := v) hU.1 a1 v1
  have HLo := Lib.hid (fun w => lowest_any (l * ((v - a) * b)) ((v - a) * b + (v - b) * a) (by omega) (by omega) (by omega) (by omega) w)
  rw [eO, eU] at HLo
  have p1 := lwN_bd (a := rwO l a b v) (b := rwU a b v) (B := 10000000) (by omega) (by omega) (by omega)
  have p2 := lwD_pos (a := rwO l a b v) (b := rwU a b v) (by omega)
  have q1 := lwN_bd (a := l * rwU a b v - rwO l a b v) (b := rwU a b v) (B := 20000000) (by omega) (by omega) (by omega)
  have q2 := lwD_pos (a := l * rwU a b v - rwO l a b v) (b := rwU a b v) (by omega)
  obtain ⟨rv1, rv2, rv3, rv4⟩ := rv
  have HMi := Lib.hid (fun w => minusW l 1 (lwN (rwO l a b v) (rwU a b v)) (lwD (rwO l a b v) (rwU a b v)) 1000 1 10000000 20000 (by omega) (by omega) (by omega) (by omega) (by omega) (by omega) (by omega) (by omega) (by omega) (by omega) (by omega) (by omega) (by omega) (by omega) w)
  rw [rv1, rv2] at HMi rv3 rv4
  clear rv1 rv2
  generalize lwN (l * rwU a b v - rwO l a b v) (rwU a b v) = W1 at *
  generalize lwD (l * rwU a b v - rwO l a b v) (rwU a b v) = W2 at *
  generalize lwN (rwO l a b v) (rwU a b v) = P1 at *
  generalize lwD (rwO l a b v) (rwU a b v) = P2 at *
  have HOv := Lib.hid (fun w => overW P1 P2 v 1 10000000 20000 100 1 (by omega) (by omega) (by omega) (by omega) (by omega) (by omega) (by omega) (by omega) (by omega) (by omega) w)
  have HOw := Lib.hid (fun w => overW W1 W2 a 1 20000000 20000 100 1 (by omega) (by omega) (by omega) (by omega) (by omega) (by omega) (by omega) (by omega) (by omega) (by omega) w)
  have n1 := mul_bd P2 v 20000 100 (by omega) (by omega) (by omega) (by omega)
  have n2 := mul_bd W2 a 20000 100 (by omega) (by omega) (by omega) (by omega)
  have n3 := mul_pos1 p2.1 v1
  have n4 := mul_pos1 q2.1 a1
  have r1 := lwN_bd (a := P1 * 1) (b := P2 * v) (B := 10000000) (by omega) (by omega) (by omega)
  have r2 := lwD_pos (a := P1 * 1) (b := P2 * v) (by omega)
  have s1 := lwN_bd (a := W1 * 1) (b := W2 * a) (B := 20000000) (by omega) (by omega) (by omega)
  have s2 := lwD_pos (a := W1 * 1) (b := W2 * a) (by omega)
  have HPl := Lib.hid (fun w => plusW (lwN (P1 * 1) (P2 * v)) (lwD (P1 * 1) (P2 * v)) (lwN (W1 * 1) (W2 * a)) (lwD (W1 * 1) (W2 * a)) 10000000 2000000 20000000 2000000 (by omega) (by omega) (by omega) (by omega) (by omega) (by omega) (by omega) (by omega) (by omega) (by omega) (by omega) (by omega) (by omega) w)
  rw [rv3, rv4] at HPl
  clear rv3 rv4
  generalize lwN (rwO l a b v * a + (l * rwU a b v - rwO l a b v) * v) (rwU a b v * a * v) = T1 at *
  generalize lwD (rwO l a b v * a + (l * rwU a b v - rwO l a b v) * v) (rwU a b v * a * v) = T2 at *
  simp only [Int.mul_one] at HOv HOw HPl
  generalize lwN P1 (P2 * v) = R1 at *
  generalize lwD P1 (P2 * v) = R2 at *
  generalize lwN W1 (W2 * a) = S1 at *
  generalize lwD W1 (W2 * a) = S2 at *
  clear r1 r2 s1 s2 n1 n2 n3 n4 p1 p2 q1 q2 eT hk m4
  have h7 : ¬ v ≤ a := by omega
  have h8 : ¬ v ≤ b := by omega
  have hlo : ∀ w, Calls Try.prog 60 #[.int .i64 (l * ((v - a) * b)), .int .i64 ((v - a) * b + (v - b) * a)] w fun e w' => e = .returned (.agg #[.int .i64 P1, .int .i64 P2]) ∧ Below w.heap.size w w' := fun w => by rw [eO, eU]; exact HLo.out w
  have HL2 := Lib.hid hlo
  clear hlo HLo hU
  rw [← eO] at m3
  clear eO eU
  go_enter Try.func43, Try.ntmps43
  go_wp2_with (first | (go_at_call 48; refine (isLong_any _ _).mono ?_; rw [h1]; rintro e w1 ⟨rfl, rfl⟩) | (go_at_call_of 49 (Value.int .i64 a); refine (isFast_any _ _).mono ?_; rw [h2]; rintro e w1 ⟨rfl, rfl⟩) | (go_at_call_of 49 (Value.int .i64 b); refine (isFast_any _ _).mono ?_; rw [h3]; rintro e w1 ⟨rfl, rfl⟩) | (go_at_call_of 49 (Value.int .i64 v); refine (isFast_any _ _).mono ?_; rw [h4]; rintro e w1 ⟨rfl, rfl⟩))
  refine (HL2.out _).mono ?_; rintro e w1 ⟨rfl, hb1⟩
  have B1 := Lib.hid hb1
  have z1 := hb1.size
  clear hb1
  go_wp2_with fail
  refine (HMi.out _).mono ?_; rintro e w2 ⟨rfl, hb2⟩
  have z2 := hb2.size
  simp only [World.size_alloc] at z2
  have z2' : w1.heap.size < w2.heap.size := by omega
  have c1 : w2.cell? ⟨w1.heap.size, 0, none⟩ = some (.int .i64 P1) := by rw [(bcell hb2).1 _ _ (by simp)]; go_simp
  have c2 : w2.cell? ⟨w1.heap.size, 1, none⟩ = some (.int .i64 P2) := by rw [(bcell hb2).1 _ _ (by simp)]; go_simp
  have B2 : Hid (Below w.heap.size w w2) := bchain (B1.out.alloc (by omega) _) hb2 (by simp; omega)
  clear hb2
  go_wp2_with fail
  refine (HOv.out _).mono ?_; rintro e w3 ⟨rfl, hb3⟩
  have z3 := hb3.size
  simp only [World.size_alloc] at z3
  have z3' : w2.heap.size < w3.heap.size := by omega
  have z3'' : w1.heap.size < w3.heap.size := by omega
  have d1 : w3.cell? ⟨w1.heap.size, 0, none⟩ = some (.int .i64 P1) := by rw [(bcell hb3).1 _ _ (by simp; omega)]; go_simp
  have d2 : w3.cell? ⟨w1.heap.size, 1, none⟩ = some (.int .i64 P2) := by rw [(bcell hb3).1 _ _ (by simp; omega)]; go_simp
  have d3 : w3.cell? ⟨w2.heap.size, 0, none⟩ = some (.int .i64 W1) := by rw [(bcell hb3).1 _ _ (by simp)]; go_simp
  have d4 : w3.cell? ⟨w2.heap.size, 1, none⟩ = some (.int .i64 W2) := by rw [(bcell hb3).1 _ _ (by simp)]; go_simp
  have B3 : Hid (Below w.heap.size w w3) := bchain (B2.out.alloc (by omega) _) hb3 (by simp; omega)
  clear hb3 c1 c2
  go_wp2_with fail
  refine wp_uni [18, 72, 73, 74, 75, 76, 77] (fun vs X => ∃ (k : Nat) (v1 v2 v3 v4 v5 v6 : Value), vs = [.pointer (some ⟨k, 0, none⟩), v1, v2, v3, v4, v5, v6] ∧ Below w3.heap.size w3 X ∧ k < X.heap.size ∧ X.cell? ⟨k, 0, none⟩ = some (.int .i64 T1) ∧ X.cell? ⟨k, 1, none⟩ = some (.int .i64 T2)) ?_ ?_
  · go_region_held3 (fun w' => Below w3.heap.size w3 w' ∧ w3.heap.size < w'.heap.size ∧ w'.cell? ⟨w2.heap.size, 0, none⟩ = some (.int .i64 W1) ∧ w'.cell? ⟨w2.heap.size, 1, none⟩ = some (.int .i64 W2) ∧ w'.cell? ⟨w3.heap.size, 0, none⟩ = some (.int .i64 R1) ∧ w'.cell? ⟨w3.heap.size, 1, none⟩ = some (.int .i64 R2))
      (refine ⟨?_, ?_, ?_, ?_, ?_, ?_⟩ <;> first | assumption | ((repeat (first | exact Below.refl _ _ | refine Below.drew ?_ | refine below_drewN ?_ _ | refine Below.setCell ?_ (by first | exact Nat.le_refl _ | omega | (simp; done) | (simp; omega)) _ | refine Below.alloc ?_ (by first | exact Nat.le_refl _ | omega | (simp; done) | (simp; omega)) _ | refine bchain ?_ (by assumption) (by first | exact Nat.le_refl _ | omega | (simp; done) | (simp; omega)))); done) | omega | (simp; done) | (simp; omega) | (go_simp; done))
      (first | (go_at_call 57; refine (HOw.out _).mono ?_; rintro e x1 ⟨rfl, hb1⟩; have hs1 := hb1.size; (try simp only [World.size_alloc, World.size_drew, World.size_setCell] at hs1); (try (have hl1_0 : w2.heap.size < x1.heap.size := (by first | omega | (simp; done) | (simp; omega)))); (try (have hc1_0 := fun o => (bcell hb1).1 (w2.heap.size) o (by first | omega | (simp; done) | (simp; omega)))); (try (have hf1_0 := fun o => (bcell hb1).2 (w2.heap.size) o (by first | omega | (simp; done) | (simp; omega)))); (try (have hl1_1 : w3.heap.size < x1.heap.size := (by first | omega | (simp; done) | (simp; omega)))); (try (have hc1_1 := fun o => (bcell hb1).1 (w3.heap.size) o (by first | omega | (simp; done) | (simp; omega)))); (try (have hf1_1 := fun o => (bcell hb1).2 (w3.heap.size) o (by first | omega | (simp; done) | (simp; omega)))); (try (have hl1_2 : w1.heap.size < x1.heap.size := (by first | omega | (simp; done) | (simp; omega)))); (try (have hc1_2 := fun o => (bcell hb1).1 (w1.heap.size) o (by first | omega | (simp; done) | (simp; omega)))); (try (have hf1_2 := fun o => (bcell hb1).2 (w1.heap.size) o (by first | omega | (simp; done) | (simp; omega)))); (try (have hl1_3 : w3.heap.size + 1 < x1.heap.size := (by first | omega | (simp; done) | (simp; omega)))); (try (have hc1_3 := fun o => (bcell hb1).1 (w3.heap.size + 1) o (by first | omega | (simp; done) | (simp; omega)))); (try (have hf1_3 := fun o => (bcell hb1).2 (w3.heap.size + 1) o (by first | omega | (simp; done) | (simp; omega)))); (try (have hl1_4 : x1.heap.size < x1.heap.size := (by first | omega | (simp; done) | (simp; omega)))); (try (have hc1_4 := fun o => (bcell hb1).1 (x1.heap.size) o (by first | omega | (simp; done) | (simp; omega)))); (try (have hf1_4 := fun o => (bcell hb1).2 (x1.heap.size) o (by first | omega | (simp; done) | (simp; omega))))) | (go_at_call 68; refine (HPl.out _).mono ?_; rintro e x2 ⟨rfl, hb2⟩; have hs2 := hb2.size; (try simp only [World.size_alloc, World.size_drew, World.size_setCell] at hs2); (try (have hl2_0 : w2.heap.size < x2.heap.size := (by first | omega | (simp; done) | (simp; omega)))); (try (have hc2_0 := fun o => (bcell hb2).1 (w2.heap.size) o (by first | omega | (simp; done) | (simp; omega)))); (try (have hf2_0 := fun o => (bcell hb2).2 (w2.heap.size) o (by first | omega | (simp; done) | (simp; omega)))); (try (have hl2_1 : w3.heap.size < x2.heap.size := (by first | omega | (simp; done) | (simp; omega)))); (try (have hc2_1 := fun o => (bcell hb2).1 (w3.heap.size) o (by first | omega | (simp; done) | (simp; omega)))); (try (have hf2_1 := fun o => (bcell hb2).2 (w3.heap.size) o (by first | omega | (simp; done) | (simp; omega)))); (try (have hl2_2 : w1.heap.size < x2.heap.size := (by first | omega | (simp; done) | (simp; omega)))); (try (have hc2_2 := fun o => (bcell hb2).1 (w1.heap.size) o (by first | omega | (simp; done) | (simp; omega)))); (try (have hf2_2 := fun o => (bcell hb2).2 (w1.heap.size) o (by first | omega | (simp; done) | (simp; omega)))); (try (have hl2_3 : w3.heap.size + 1 < x2.heap.size := (by first | omega | (simp; done) | (simp; omega)))); (try (have hc2_3 := fun o => (bcell hb2).1 (w3.heap.size + 1) o (by first | omega | (simp; done) | (simp; omega)))); (try (have hf2_3 := fun o => (bcell hb2).2 (w3.heap.size + 1) o (by first | omega | (simp; done) | (simp; omega)))); (try (have hl2_4 : x1.heap.size < x2.heap.size := (by first | omega | (simp; done) | (simp; omega)))); (try (have hc2_4 := fun o => (bcell hb2).1 (x1.heap.size) o (by first | omega | (simp; done) | (simp; omega)))); (try (have hf2_4 := fun o => (bcell hb2).2 (x1.heap.size) o (by first | omega | (simp; done) | (simp; omega))))))
    all_goals rename_i hHeld
    all_goals (refine' ⟨rfl, [_, _, _, _, _, _, _], ?_, ?_⟩; rotate_left 7; (simp only [List.zip_cons_cons, List.zip_nil_left, putsU, Act.put, List.setIfInBounds_toArray, List.set_cons_zero, List.set_cons_succ]; first | done | rfl); exact ⟨_, _, _, _, _, _, _, rfl, hHeld.1, (by first | omega | (simp only [World.size_setCell, World.size_alloc]; omega) | (simp; done) | (simp; omega)), (by first | exact (new2U _ _ _ _).1 | exact (set2U (by rw [hc2_1, hc1_1]; exact (new2U _ _ _ _).1) (by rw [hc2_1, hc1_1]; exact (new2U _ _ _ _).2.1)).1 | exact (set2U (by rw [hc2_4]; exact (new2U _ _ _ _).1) (by rw [hc2_4]; exact (new2U _ _ _ _).2.1)).1 | (go_simp; done)), (by first | exact (new2U _ _ _ _).2.1 | exact (set2U (by rw [hc2_1, hc1_1]; exact (new2U _ _ _ _).1) (by rw [hc2_1, hc1_1]; exact (new2U _ _ _ _).2.1)).2 | exact (set2U (by rw [hc2_4]; exact (new2U _ _ _ _).1) (by rw [hc2_4]; exact (new2U _ _ _ _).2.1)).2 | (go_simp; done))⟩)
  · rintro vs X ⟨k, v1, v2, v3, v4, v5, v6, rfl, hX, zk, e1, e2⟩
    simp only [List.zip_cons_cons, List.zip_nil_left, putsU, Act.put, List.setIfInBounds_toArray, List.set_cons_zero, List.set_cons_succ]
    have f1 : X.cell? ⟨w1.heap.size, 0, none⟩ = some (.int .i64 P1) := by rw [(bcell hX).1 _ _ z3'']; exact d1
    have f2 : X.cell? ⟨w1.heap.size, 1, none⟩ = some (.int .i64 P2) := by rw [(bcell hX).1 _ _ z3'']; exact d2
    have BX := Lib.hid (B3.out.trans (hX.mono B3.out.size))
    clear hX d1 d2 d3 d4
    go_wp2_with fail
    all_goals try (go_quiet (fail); go_wp2_with fail)
    ((try simp only [Exit.inBlock, Exit.then]); refine bodyPost_ret (results_tmp5 rfl _ _ _) rfl ?_)
    exact ⟨rfl, by first | exact BX.out | exact below_drewN BX.out _ | exact BX.out.drew⟩
set_option maxHeartbeats 1000000 in
theorem implSharedBicycle (l a v : Int) (w : World) :
    Calls Try.prog 41 #[.int .i64 l, .int .i64 a, .int .i64 v] w fun e w' => e = .returned (.tuple #[.int .i64 (ifI (rwK l a a v) (lwN (rwO l a a v) (rwU a a v))), .int .i64 (ifI (rwK l a a v) (lwD (rwO l a a v) (rwU a a v))), .int .i64 (ifI (rwK l a a v) (lwN (rwT l a a v) (rwU a a v * a * v))), .int .i64 (ifI (rwK l a a v) (lwD (rwT l a a v) (rwU a a v * a * v))), .bool (rwK l a a v)]) ∧ Below w.heap.size w w' := by
  have H := Lib.hid (fun w => implRideAndWalk l a a v w)
  go_enter Try.func41, Try.ntmps41
  go_wp2_with fail
  refine (H.out _).mono ?_; rintro e w1 ⟨rfl, hb⟩
  go_wp2_with fail
  ((try simp only [Exit.inBlock, Exit.then]); refine bodyPost_ret (results_tmp5 rfl _ _ _) rfl ?_)
  exact ⟨rfl, hb⟩
end Go.Proofs.Ytjgicbfgbcihoaa
