/- The leaders of chapter 2: the program's way and the model's by contracts. -/
import Derived.Test.YteaefmngfomhgaaProg
import Derived.Test.YteaefmngfomhgaaPairs
import Derived.Test.YteaefmngfomhgaaSlices
import Derived.Test.YteaefmngfomhgaaTwoMeet
import Derived.Test.YteaefmngfomhgaaTwoMathL
import Derived.Test.YteaefmngfomhgaaCmpI
import Derived.Deep.LoopGhost
import Derived.Deep.QuietTactic
import Derived.Deep.RegionHeld3
import Derived.BigQuiet
import Derived.WalkKit
import Derived.WalkSpells
import Derived.WalkLawsBesides
import Derived.Lib.Hide
namespace Go.Proofs.Yteaefmngfomhgaa
open Go.RowKit
set_option linter.unusedVariables false
set_option linter.unusedSimpArgs false
set_option maxHeartbeats 2000000 in
theorem firstLeader_any (a : Option Addr) (cap : Nat) (xs : List (Int × Int)) (w : World) (h : RdP w a xs) (n1 : 1 ≤ xs.length) (n2 : xs.length ≤ 8) :
    Calls Try.prog 78 #[.slice a xs.length cap] w fun e w' => e = .returned (.int .i64 (fl (px xs) (py xs) xs.length : Nat)) ∧ Below w.heap.size w w' := by
  rcases h with h | ⟨b, off, rfl, hlt, hc⟩
  · rw [h] at n1; simp at n1
  have HC := Lib.hid hc
  clear hc
  go_enter Try.func78, Try.ntmps78
  go_wp2_with fail
  go_loopg [3, 9] xs.length (fun g v3 v9 wr => ∃ j : Nat, v3 = .int .i64 (fl (px xs) (py xs) j : Nat) ∧ v9 = .int .i64 (j : Int) ∧ j + g ≤ xs.length ∧ xs.length ≤ j + g ∧ Below w.heap.size w wr)
  case atStart => exact ⟨0, rfl, rfl, by omega, by omega, Below.refl _ _⟩
  case round =>
    obtain ⟨j, rfl, rfl, h1, h2, hbel⟩ := hrel
    have hsz := hbel.size
    by_cases hj : j < xs.length
    · have hl := fl_lt (ps := px xs) (ss := py xs) n1 j (by omega)
      have HF := Lib.hid (show fl (px xs) (py xs) (j + 1) = if px xs (fl (px xs) (py xs) j) < px xs j ∨ (px xs j = px xs (fl (px xs) (py xs) j) ∧ py xs (fl (px xs) (py xs) j) < py xs j) then j else fl (px xs) (py xs) j from rfl)
      generalize fl (px xs) (py xs) j = l at *
      have c0 : wr.cell? ⟨b, off + j * 2, none⟩ = some (.int .i64 (px xs j)) := by rw [(bcell hbel).1 b _ hlt]; exact (HC.out j hj).1
      have c1 : wr.cell? ⟨b, off + j * 2 + 1, none⟩ = some (.int .i64 (py xs j)) := by rw [(bcell hbel).1 b _ hlt]; exact (HC.out j hj).2
      have d0 : wr.cell? ⟨b, off + l * 2, none⟩ = some (.int .i64 (px xs l)) := by rw [(bcell hbel).1 b _ hlt]; exact (HC.out l hl).1
      have d1 : wr.cell? ⟨b, off + l * 2 + 1, none⟩ = some (.int .i64 (py xs l)) := by rw [(bcell hbel).1 b _ hlt]; exact (HC.out l hl).2
      have hjI : (j : Int) < (xs.length : Int) := by omega
      have hlI : (l : Int) < (xs.length : Int) := by omega
      have HB := Lib.hid hbel
      have hbs : b < wr.heap.size := by omega
      clear hbel
      generalize px xs j = pj at *
      generalize py xs j = sj at *
      generalize px xs l = pl at *
      generalize py xs l = sl at *
      go_wp2_with fail
      go_region_held3 (fun w' => Below wr.heap.size wr w' ∧ wr.heap.size < w'.heap.size ∧ w'.cell? ⟨wr.heap.size, 0, none⟩ = some (.int .i64 pj) ∧ w'.cell? ⟨wr.heap.size, 1, none⟩ = some (.int .i64 sj) ∧ w'.cell? ⟨b, off + l * 2, none⟩ = some (.int .i64 pl) ∧ w'.cell? ⟨b, off + l * 2 + 1, none⟩ = some (.int .i64 sl))
        (refine ⟨?_, ?_, ?_, ?_, ?_, ?_⟩ <;> first | assumption | omega | (go_simp; done) | (repeat (first | exact Below.refl _ _ | assumption | refine below_drewN ?_ _ | refine Below.drew ?_ | refine Below.alloc ?_ (by first | omega | (simp; done) | (simp; omega)) _ | refine bchain ?_ (by assumption) (by first | omega | (simp; done) | (simp; omega)))))
        (first | (go_at_call 101; refine (compare_any _ _ _).mono ?_; rintro e w1 ⟨rfl, rfl⟩) | (go_at_call 109; refine (or_any (cmpI pj pl) (cmpI sj sl) _ _ _ (by go_simp) (by go_simp)).mono ?_; rintro e w1 ⟨rfl, rfl⟩))
      rename_i hS
      clear hS
      cases ho : decide (0 < orI (cmpI pj pl) (cmpI sj sl))
      · have hno : ¬ 0 < orI (cmpI pj pl) (cmpI sj sl) := of_decide_eq_false ho
        have HR := Lib.hid (show fl (px xs) (py xs) (j + 1) = l by rw [HF.out, if_neg (fun q => hno (or_cmp.2 q))])
        clear ho
        go_wp2_with fail
        go_roundg (gk - 1)
        case rel => exact ⟨j + 1, by rw [HR.out], by go_num, by omega, by omega, ((HB.out.alloc (by omega) _).alloc (by simp; omega) _).drew⟩
        case measure => omega
      · have hyes : 0 < orI (cmpI pj pl) (cmpI sj sl) := of_decide_eq_true ho
        have HR := Lib.hid (show fl (px xs) (py xs) (j + 1) = j by rw [HF.out, if_pos (or_cmp.1 hyes)])
        clear ho
        go_wp2_with fail
        go_roundg (gk - 1)
        case rel => exact ⟨j + 1, by rw [HR.out], by go_num, by omega, by omega, ((HB.out.alloc (by omega) _).alloc (by simp; omega) _).drew⟩
        case measure => omega
    · have e : j = xs.length := by omega
      subst e
      have HB := Lib.hid hbel
      clear hbel
      go_wp2_with fail
      go_ret
      exact ⟨rfl, HB.out⟩
/-- what nextLeader holds behind the first j walkers -/
def NxIs (ps ss : Nat → Int) (l : Nat) (o : Option Nat) (v : Int) (p : Bool) (a b : Int) : Prop :=
  match o with
  | none => v = 0 ∧ p = false ∧ a = 0 ∧ b = 0
  | some k => v = (k : Int) ∧ p = true ∧ a = tN ps ss l k ∧ b = tD ps ss l k
/-- one walker more that is faster -/
theorem nx_step {ps ss : Nat → Int} {l j : Nat} {v : Int} {p : Bool} {a b : Int} (h : ¬ ss j ≤ ss l) (k : NxIs ps ss l (nx ps ss l j) v p a b) :
    (p = false → NxIs ps ss l (nx ps ss l (j + 1)) j true (tN ps ss l j) (tD ps ss l j)) ∧
    (p = true → (tN ps ss l j * b < a * tD ps ss l j ∨ (tN ps ss l j * b = a * tD ps ss l j ∧ ss v.toNat < ss j)) → NxIs ps ss l (nx ps ss l (j + 1)) j true (tN ps ss l j) (tD ps ss l j)) ∧
    (p = true → ¬ (tN ps ss l j * b < a * tD ps ss l j ∨ (tN ps ss l j * b = a * tD ps ss l j ∧ ss v.toNat < ss j)) → NxIs ps ss l (nx ps ss l (j + 1)) v true a b) := by
  have e : nx ps ss l (j + 1) = match nx ps ss l j with
    | none => some j
    | some k => if tN ps ss l j * tD ps ss l k < tN ps ss l k * tD ps ss l j ∨ (tN ps ss l j * tD ps ss l k = tN ps ss l k * tD ps ss l j ∧ ss k < ss j) then some j else some k := by
    conv => lhs; unfold nx
    rw [if_neg h]
    cases nx ps ss l j <;> rfl
  rw [e]
  cases hn : nx ps ss l j with
  | none =>
    rw [hn] at k
    obtain ⟨rfl, rfl, rfl, rfl⟩ := k
    refine ⟨fun _ => ⟨rfl, rfl, rfl, rfl⟩, fun q => (by cases q), fun q => (by cases q)⟩
  | some i =>
    rw [hn] at k
    obtain ⟨rfl, rfl, rfl, rfl⟩ := k
    refine ⟨fun q => (by cases q), fun _ q => ?_, fun _ q => ?_⟩
    · simp only [Int.toNat_natCast] at q; simp only [if_pos q]; exact ⟨rfl, rfl, rfl, rfl⟩
    · simp only [Int.toNat_natCast] at q; simp only [if_neg q]; exact ⟨rfl, rfl, rfl, rfl⟩
set_option maxHeartbeats 2000000 in
set_option maxRecDepth 100000 in
theorem nextLeader_any (a : Option Addr) (cap : Nat) (xs : List (Int × Int)) (l : Nat) (A B : Int) (w : World) (h : RdP w a xs) (n1 : 1 ≤ xs.length) (n2 : xs.length ≤ 8) (hall : allW xs = true) (hl : l < xs.length) (a0 : 0 ≤ A) (b0 : 1 ≤ B) (hB : Beh (px xs) (py xs) xs.length l A B) :
    Calls Try.prog 79 #[.slice a xs.length cap, .int .i64 (l : Int)] w fun e w' => (∃ (v : Int) (p : Bool) (x y : Int), e = .returned (.tuple #[.int .i64 v, .bool p]) ∧ NxIs (px xs) (py xs) l (nx (px xs) (py xs) l xs.length) v p x y) ∧ Below w.heap.size w w' := by
  rcases h with h | ⟨b, off, rfl, hlt, hc⟩
  · rw [h] at n1; simp at n1
  have HC := Lib.hid hc
  have HW := Lib.hid (fun i (hi : i < xs.length) => allW_at hall hi)
  have HBeh := Lib.hid hB
  clear hc hB hall
  have hlI : (l : Int) < (xs.length : Int) := by omega
  go_enter Try.func79, Try.ntmps79
  go_wp2_with fail
  go_loopg [6, 7, 17] xs.length (fun g v6 v7 v17 wr => ∃ (j : Nat) (v : Int) (p : Bool) (x y : Int), v6 = .int .i64 v ∧ v7 = .bool p ∧ v17 = .int .i64 (j : Int) ∧ j + g ≤ xs.length ∧ xs.length ≤ j + g ∧ Hid (NxIs (px xs) (py xs) l (nx (px xs) (py xs) l j) v p x y) ∧ 0 ≤ v ∧ v < (xs.length : Int) ∧ 0 ≤ x ∧ x ≤ 2000 ∧ 0 ≤ y ∧ y ≤ 200 ∧ Below w.heap.size w wr ∧ w.heap.size < wr.heap.size ∧ wr.cell? ⟨w.heap.size, 0, none⟩ = some (.int .i64 x) ∧ wr.cell? ⟨w.heap.size, 1, none⟩ = some (.int .i64 y) ∧ wr.frozen? ⟨w.heap.size, 0, none⟩ = false ∧ wr.frozen? ⟨w.heap.size, 1, none⟩ = false)
  case atStart => exact ⟨0, 0, false, 0, 0, rfl, rfl, rfl, by omega, by omega, ⟨rfl, rfl, rfl, rfl⟩, by omega, by omega, by omega, by omega, by omega, by omega, (Below.refl _ _).alloc (Nat.le_refl _) _, by simp, by go_simp, by go_simp, by go_simp, by go_simp⟩
  case round =>
    obtain ⟨j, v, p, x, y, rfl, rfl, rfl, h1, h2, HN, v0, v1, x0, x1, y0, y1, hbel, hsz, hx, hy, hfx, hfy⟩ := hrel
    by_cases hj : j < xs.length
    · have c0 : wr.cell? ⟨b, off + j * 2, none⟩ = some (.int .i64 (px xs j)) := by rw [(bcell hbel).1 b _ hlt]; exact (HC.out j hj).1
      have c1 : wr.cell? ⟨b, off + j * 2 + 1, none⟩ = some (.int .i64 (py xs j)) := by rw [(bcell hbel).1 b _ hlt]; exact (HC.out j hj).2
      have d0 : wr.cell? ⟨b, off + l * 2, none⟩ = some (.int .i64 (px xs l)) := by rw [(bcell hbel).1 b _ hlt]; exact (HC.out l hl).1
      have d1 : wr.cell? ⟨b, off + l * 2 + 1, none⟩ = some (.int .i64 (py xs l)) := by rw [(bcell hbel).1 b _ hlt]; exact (HC.out l hl).2
      have hjI : (j : Int) < (xs.length : Int) := by omega
      have HB := Lib.hid hbel
      have hbs : b < wr.heap.size := by omega
      clear hbel
      by_cases hs : py xs j ≤ py xs l
      · have HN2 : Hid (NxIs (px xs) (py xs) l (nx (px xs) (py xs) l (j + 1)) v p x y) := by
          have : nx (px xs) (py xs) l (j + 1) = nx (px xs) (py xs) l j := by simp only [nx]; rw [if_pos hs]
          rw [this]; exact HN.out
        generalize px xs j = pj at *
        generalize py xs j = sj at *
        generalize px xs l = pl at *
        generalize py xs l = sl at *
        go_wp2_with fail
        go_quiet (fail)
        go_wp2_with fail
        go_roundg (gk - 1)
        case rel => exact ⟨j + 1, v, p, x, y, rfl, rfl, by go_num, by omega, by omega, HN2, v0, v1, x0, x1, y0, y1, below_drewN (HB.out.alloc (by omega) _) _, by simp; omega, by go_simp, by go_simp, by go_simp, by go_simp⟩
        case measure => omega
      · have hw1 := HW.out l hl
        have hw2 := HW.out j hj
        have mb := meet_of_beh hw1 hw2 a0 b0 (show py xs l < py xs j by omega) (HBeh.out j hj (by omega))
        have sy := meet_symm (p := px xs l) (s := py xs l) (q := px xs j) (r := py xs j) (by omega)
        have t1 := mb.2.2.2.1
        have t2 := mb.2.2.2.2.1
        have t3 := mb.2.2.2.2.2.1
        have t4 := mb.2.2.2.2.2.2
        have HT := Lib.hid (show meN (px xs j) (py xs j) (px xs l) (py xs l) = tN (px xs) (py xs) l j ∧ meD (px xs j) (py xs j) (px xs l) (py xs l) = tD (px xs) (py xs) l j ∧ mtB (px xs j) (py xs j) (px xs l) (py xs l) = true from ⟨sy.1, sy.2.1, sy.2.2.trans mb.1⟩)
        have HX := Lib.hid (nx_step (ps := px xs) (ss := py xs) hs HN.out)
        have HV : Hid (p = true → ∃ k, k < xs.length ∧ v = (k : Int)) := by
          intro hp
          have := HN.out
          cases hn : nx (px xs) (py xs) l j with
          | none => rw [hn] at this; unfold NxIs at this; rw [hp] at this; simp at this
          | some k => rw [hn] at this; unfold NxIs at this; exact ⟨k, by have := (nx_lt hn).1; omega, this.1⟩
        clear mb sy HN
        generalize tN (px xs) (py xs) l j = X at *
        generalize tD (px xs) (py xs) l j = Y at *
        obtain ⟨N, hv, hNl⟩ : ∃ N : Nat, v = (N : Int) ∧ N < xs.length := ⟨v.toNat, by omega, by omega⟩
        subst hv
        have e0 : wr.cell? ⟨b, off + N * 2, none⟩ = some (.int .i64 (px xs N)) := by rw [(bcell HB.out).1 b _ hlt]; exact (HC.out N hNl).1
        have e1 : wr.cell? ⟨b, off + N * 2 + 1, none⟩ = some (.int .i64 (py xs N)) := by rw [(bcell HB.out).1 b _ hlt]; exact (HC.out N hNl).2
        have HW1 := Lib.hid hw1
        have HW2 := Lib.hid hw2
        clear hw1 hw2
        have hms : ¬ py xs j ≤ py xs l := hs
        have HX' := Lib.hid (show (((N : Nat) : Int)).toNat = N from Int.toNat_natCast N)
        generalize hpj : px xs j = pj at *
        generalize hsj : py xs j = sj at *
        generalize hpl : px xs l = pl at *
        generalize hsl : py xs l = sl at *
        generalize hpN : px xs N = pN at *
        generalize hsN : py xs N = sN at *
        have HE := Lib.hid (And.intro hsj hsN)
        clear hpj hsj hpl hsl hpN hsN
        go_wp2_with fail
        go_quiet (fail)
        go_wp2_with fail
        go_region_held3 (fun w' => Below wr.heap.size wr w' ∧ wr.heap.size < w'.heap.size ∧ b < w'.heap.size ∧ w'.cell? ⟨wr.heap.size, 0, none⟩ = some (.int .i64 pj) ∧ w'.cell? ⟨wr.heap.size, 1, none⟩ = some (.int .i64 sj) ∧ w'.cell? ⟨b, off + l * 2, none⟩ = some (.int .i64 pl) ∧ w'.cell? ⟨b, off + l * 2 + 1, none⟩ = some (.int .i64 sl))
          (refine ⟨?_, ?_, ?_, ?_, ?_, ?_, ?_⟩ <;> first | assumption | omega | (go_simp; done) | (simp; omega) | (have hbw := Nat.lt_of_lt_of_le hbs hBB.size; first | (go_simp; done) | exact Below.alloc hBB (Nat.le_of_lt hz) _ | exact Below.setCell (Below.alloc hBB (Nat.le_of_lt hz) _) (Nat.le_of_lt hz) _ | exact (hBB.setCell (by simp) _).setCell (by simp) _) | exact (below_drewN ((Below.refl _ _).alloc (Nat.le_refl _) _) _).drew | exact (below_drewN ((Below.refl _ _).alloc (Nat.le_refl _) _) _).alloc (by simp) _ | exact (below_drewN ((Below.refl _ _).alloc (Nat.le_refl _) _) _) | (trace_state; fail))
          (first | (go_at_call 110; refine (mtime_any pj sj pl sl HW2.out HW1.out _).mono ?_; rw [HT.out.1, HT.out.2.1, HT.out.2.2]; rintro e w1 ⟨rfl, hb⟩; have q1 := fun o => (bcell hb).1 wr.heap.size o (by first | omega | (simp; omega) | (simp; done)); have q2 := fun o => (bcell hb).1 b o (by first | omega | (simp; omega)); have hz : wr.heap.size < w1.heap.size := (by have := hb.size; simp at this; omega); have hBB : Below wr.heap.size wr w1 := (by first | exact bchain (below_drewN ((Below.refl _ _).alloc (Nat.le_refl _) _) _) hb (by simp) | exact bchain ((below_drewN ((Below.refl _ _).alloc (Nat.le_refl _) _) _).alloc (by simp) _) hb (by simp; omega)); have hcc := (bcell hb).1; have hff := (bcell hb).2))
        all_goals
          have hz1 := Nat.lt_trans hsz hz
          have hbw := Nat.lt_trans hbs hz
          have kx := fun o => hBB.cell (p := ⟨w.heap.size, o, none⟩) hsz
          have kf := fun o => hBB.frozen (p := ⟨w.heap.size, o, none⟩) hsz
          have kb := fun o => hBB.cell (p := ⟨b, o, none⟩) hbs
          obtain ⟨c, hcm⟩ : ∃ c, c = cmpI (X * y) (x * Y) := ⟨_, rfl⟩
          have HCm := Lib.hid hcm.symm
          have clt : c < 0 ↔ X * y < x * Y := by rw [hcm]; exact cmpI_lt
          have ceq : c = 0 ↔ X * y = x * Y := by rw [hcm]; exact cmpI_eq
          have HCl := Lib.hid (And.intro clt ceq)
          clear hcm clt ceq
        · have hz5 : True := trivial
          cases p
          · have HK := Lib.hid (HX.out.1 rfl)
            clear HX HCl HV
            go_wp2_with (go_at_call 76; refine (fcompare_any X Y x y (by omega) (by omega) (by omega) (by omega) (by omega) (by omega) (by omega) (by omega) _).mono ?_; rw [HCm.out]; rintro e w2 ⟨rfl, hb2⟩; have hcc2 := (bcell hb2).1; have hff2 := (bcell hb2).2; have B2 : Below wr.heap.size wr w2 := bchain (hBB.alloc (Nat.le_of_lt hz) _) hb2 (by simp; omega); have kx2 := fun o => B2.cell (p := ⟨w.heap.size, o, none⟩) hsz; have kf2 := fun o => B2.frozen (p := ⟨w.heap.size, o, none⟩) hsz; have kb2 := fun o => B2.cell (p := ⟨b, o, none⟩) hbs; have kj2 : w.heap.size < w2.heap.size := Nat.lt_of_lt_of_le hsz B2.size)
            go_quiet (fail)
            go_wp2_with fail
            go_region
            all_goals go_wp2_with fail
            all_goals
              go_roundg (gk - 1)
              case rel => exact ⟨j + 1, j, true, X, Y, rfl, rfl, by go_num, by omega, by omega, HK, by omega, by omega, by omega, by omega, by omega, by omega, by first | exact ((below_drewN (HB.out.trans (B2.mono HB.out.size)) _).drew.setCell (Nat.le_refl _) _).setCell (Nat.le_refl _) _ | exact (((below_drewN (HB.out.trans (B2.mono HB.out.size)) _).setCell (Nat.le_refl _) _).setCell (Nat.le_refl _) _).drew | exact ((below_drewN (HB.out.trans (B2.mono HB.out.size)) _).setCell (Nat.le_refl _) _).setCell (Nat.le_refl _) _, by first | (simp; omega) | (simp; exact kj2), by go_simp, by go_simp, by go_simp, by go_simp⟩
              case measure => omega
          · by_cases T1 : X * y < x * Y
            · have HK := Lib.hid (HX.out.2.1 rfl (.inl T1))
              have f1 : c < 0 := HCl.out.1.2 T1
              have f2 : decide (c < 0) = true := by simp [f1]
              clear HX HCl HV T1
              go_wp2_with (go_at_call 76; refine (fcompare_any X Y x y (by omega) (by omega) (by omega) (by omega) (by omega) (by omega) (by omega) (by omega) _).mono ?_; rw [HCm.out]; rintro e w2 ⟨rfl, hb2⟩; have hcc2 := (bcell hb2).1; have hff2 := (bcell hb2).2; have B2 : Below wr.heap.size wr w2 := bchain (hBB.alloc (Nat.le_of_lt hz) _) hb2 (by simp; omega); have kx2 := fun o => B2.cell (p := ⟨w.heap.size, o, none⟩) hsz; have kf2 := fun o => B2.frozen (p := ⟨w.heap.size, o, none⟩) hsz; have kb2 := fun o => B2.cell (p := ⟨b, o, none⟩) hbs; have kj2 : w.heap.size < w2.heap.size := Nat.lt_of_lt_of_le hsz B2.size)
              go_quiet (fail)
              go_wp2_with fail
              go_region
              all_goals go_wp2_with fail
              all_goals
                go_roundg (gk - 1)
                case rel => exact ⟨j + 1, j, true, X, Y, rfl, rfl, by go_num, by omega, by omega, HK, by omega, by omega, by omega, by omega, by omega, by omega, by first | exact ((below_drewN (HB.out.trans (B2.mono HB.out.size)) _).drew.setCell (Nat.le_refl _) _).setCell (Nat.le_refl _) _ | exact (((below_drewN (HB.out.trans (B2.mono HB.out.size)) _).setCell (Nat.le_refl _) _).setCell (Nat.le_refl _) _).drew | exact ((below_drewN (HB.out.trans (B2.mono HB.out.size)) _).setCell (Nat.le_refl _) _).setCell (Nat.le_refl _) _, by first | (simp; omega) | (simp; exact kj2), by go_simp, by go_simp, by go_simp, by go_simp⟩
                case measure => omega
            · by_cases T2 : X * y = x * Y ∧ sj > sN
              · have HK := Lib.hid (HX.out.2.1 rfl (.inr (by rw [HX'.out, HE.out.2]; exact T2)))
                have f0 : c = 0 := HCl.out.2.2 T2.1
                have f2 : decide (c < 0) = false := by simp [f0]
                have f3 : (c == 0) = true := by simp [f0]
                have f4 : sN < sj := T2.2
                have f5 : ¬ c < 0 := by omega
                have f6 : decide (sN < sj) = true := by simp; omega
                clear HX HCl HV T1 T2 f0
                go_wp2_with (go_at_call 76; refine (fcompare_any X Y x y (by omega) (by omega) (by omega) (by omega) (by omega) (by omega) (by omega) (by omega) _).mono ?_; rw [HCm.out]; rintro e w2 ⟨rfl, hb2⟩; have hcc2 := (bcell hb2).1; have hff2 := (bcell hb2).2; have B2 : Below wr.heap.size wr w2 := bchain (hBB.alloc (Nat.le_of_lt hz) _) hb2 (by simp; omega); have kx2 := fun o => B2.cell (p := ⟨w.heap.size, o, none⟩) hsz; have kf2 := fun o => B2.frozen (p := ⟨w.heap.size, o, none⟩) hsz; have kb2 := fun o => B2.cell (p := ⟨b, o, none⟩) hbs; have kj2 : w.heap.size < w2.heap.size := Nat.lt_of_lt_of_le hsz B2.size)
                go_quiet (fail)
                go_wp2_with fail
                go_region
                all_goals go_wp2_with fail
                all_goals
                  go_roundg (gk - 1)
                  case rel => exact ⟨j + 1, j, true, X, Y, rfl, rfl, by go_num, by omega, by omega, HK, by omega, by omega, by omega, by omega, by omega, by omega, by first | exact ((below_drewN (HB.out.trans (B2.mono HB.out.size)) _).drew.setCell (Nat.le_refl _) _).setCell (Nat.le_refl _) _ | exact (((below_drewN (HB.out.trans (B2.mono HB.out.size)) _).setCell (Nat.le_refl _) _).setCell (Nat.le_refl _) _).drew | exact ((below_drewN (HB.out.trans (B2.mono HB.out.size)) _).setCell (Nat.le_refl _) _).setCell (Nat.le_refl _) _, by first | (simp; omega) | (simp; exact kj2), by go_simp, by go_simp, by go_simp, by go_simp⟩
                  case measure => omega
              · have HK := Lib.hid (HX.out.2.2 rfl (by rw [HX'.out, HE.out.2]; exact fun q => q.elim T1 T2))
                have f1 : ¬ c < 0 := fun q => T1 (HCl.out.1.1 q)
                have f2 : decide (c < 0) = false := by simp; omega
                by_cases f0 : c = 0
                · have f3 : (c == 0) = true := by simp [f0]
                  have f4 : ¬ sN < sj := fun q => T2 ⟨HCl.out.2.1 f0, q⟩
                  have f6 : decide (sN < sj) = false := by simp; omega
                  clear HX HCl HV T1 T2 f0
                  go_wp2_with (go_at_call 76; refine (fcompare_any X Y x y (by omega) (by omega) (by omega) (by omega) (by omega) (by omega) (by omega) (by omega) _).mono ?_; rw [HCm.out]; rintro e w2 ⟨rfl, hb2⟩; have hcc2 := (bcell hb2).1; have hff2 := (bcell hb2).2; have B2 : Below wr.heap.size wr w2 := bchain (hBB.alloc (Nat.le_of_lt hz) _) hb2 (by simp; omega); have kx2 := fun o => B2.cell (p := ⟨w.heap.size, o, none⟩) hsz; have kf2 := fun o => B2.frozen (p := ⟨w.heap.size, o, none⟩) hsz; have kb2 := fun o => B2.cell (p := ⟨b, o, none⟩) hbs; have kj2 : w.heap.size < w2.heap.size := Nat.lt_of_lt_of_le hsz B2.size)
                  go_quiet (fail)
                  go_wp2_with fail
                  go_roundg (gk - 1)
                  case rel => exact ⟨j + 1, N, true, x, y, rfl, rfl, by go_num, by omega, by omega, HK, by omega, by omega, x0, x1, y0, y1, below_drewN (HB.out.trans (B2.mono HB.out.size)) _, by first | (simp; omega) | (simp; exact kj2), by go_simp, by go_simp, by go_simp, by go_simp⟩
                  case measure => omega
                · have f3 : (c == 0) = false := by simp [f0]
                  clear HX HCl HV T1 T2 f0
                  go_wp2_with (go_at_call 76; refine (fcompare_any X Y x y (by omega) (by omega) (by omega) (by omega) (by omega) (by omega) (by omega) (by omega) _).mono ?_; rw [HCm.out]; rintro e w2 ⟨rfl, hb2⟩; have hcc2 := (bcell hb2).1; have hff2 := (bcell hb2).2; have B2 : Below wr.heap.size wr w2 := bchain (hBB.alloc (Nat.le_of_lt hz) _) hb2 (by simp; omega); have kx2 := fun o => B2.cell (p := ⟨w.heap.size, o, none⟩) hsz; have kf2 := fun o => B2.frozen (p := ⟨w.heap.size, o, none⟩) hsz; have kb2 := fun o => B2.cell (p := ⟨b, o, none⟩) hbs; have kj2 : w.heap.size < w2.heap.size := Nat.lt_of_lt_of_le hsz B2.size)
                  go_quiet (fail)
                  go_wp2_with fail
                  go_roundg (gk - 1)
                  case rel => exact ⟨j + 1, N, true, x, y, rfl, rfl, by go_num, by omega, by omega, HK, by omega, by omega, x0, x1, y0, y1, below_drewN (HB.out.trans (B2.mono HB.out.size)) _, by first | (simp; omega) | (simp; exact kj2), by go_simp, by go_simp, by go_simp, by go_simp⟩
                  case measure => omega
        · have hz5 : wr.heap.size + 1 < w1.heap.size := by have := hb.size; simp at this; omega
          cases p
          · have HK := Lib.hid (HX.out.1 rfl)
            clear HX HCl HV
            go_wp2_with (go_at_call 76; refine (fcompare_any X Y x y (by omega) (by omega) (by omega) (by omega) (by omega) (by omega) (by omega) (by omega) _).mono ?_; rw [HCm.out]; rintro e w2 ⟨rfl, hb2⟩; have hcc2 := (bcell hb2).1; have hff2 := (bcell hb2).2; have B2 : Below wr.heap.size wr w2 := bchain ((hBB.setCell (by simp) _).setCell (by simp) _) hb2 (by simp; omega); have kx2 := fun o => B2.cell (p := ⟨w.heap.size, o, none⟩) hsz; have kf2 := fun o => B2.frozen (p := ⟨w.heap.size, o, none⟩) hsz; have kb2 := fun o => B2.cell (p := ⟨b, o, none⟩) hbs; have kj2 : w.heap.size < w2.heap.size := Nat.lt_of_lt_of_le hsz B2.size)
            go_quiet (fail)
            go_wp2_with fail
            go_region
            all_goals go_wp2_with fail
            all_goals
              go_roundg (gk - 1)
              case rel => exact ⟨j + 1, j, true, X, Y, rfl, rfl, by go_num, by omega, by omega, HK, by omega, by omega, by omega, by omega, by omega, by omega, by first | exact ((below_drewN (HB.out.trans (B2.mono HB.out.size)) _).drew.setCell (Nat.le_refl _) _).setCell (Nat.le_refl _) _ | exact (((below_drewN (HB.out.trans (B2.mono HB.out.size)) _).setCell (Nat.le_refl _) _).setCell (Nat.le_refl _) _).drew | exact ((below_drewN (HB.out.trans (B2.mono HB.out.size)) _).setCell (Nat.le_refl _) _).setCell (Nat.le_refl _) _, by first | (simp; omega) | (simp; exact kj2), by go_simp, by go_simp, by go_simp, by go_simp⟩
              case measure => omega
          · by_cases T1 : X * y < x * Y
            · have HK := Lib.hid (HX.out.2.1 rfl (.inl T1))
              have f1 : c < 0 := HCl.out.1.2 T1
              have f2 : decide (c < 0) = true := by simp [f1]
              clear HX HCl HV T1
              go_wp2_with (go_at_call 76; refine (fcompare_any X Y x y (by omega) (by omega) (by omega) (by omega) (by omega) (by omega) (by omega) (by omega) _).mono ?_; rw [HCm.out]; rintro e w2 ⟨rfl, hb2⟩; have hcc2 := (bcell hb2).1; have hff2 := (bcell hb2).2; have B2 : Below wr.heap.size wr w2 := bchain ((hBB.setCell (by simp) _).setCell (by simp) _) hb2 (by simp; omega); have kx2 := fun o => B2.cell (p := ⟨w.heap.size, o, none⟩) hsz; have kf2 := fun o => B2.frozen (p := ⟨w.heap.size, o, none⟩) hsz; have kb2 := fun o => B2.cell (p := ⟨b, o, none⟩) hbs; have kj2 : w.heap.size < w2.heap.size := Nat.lt_of_lt_of_le hsz B2.size)
              go_quiet (fail)
              go_wp2_with fail
              go_region
              all_goals go_wp2_with fail
              all_goals
                go_roundg (gk - 1)
                case rel => exact ⟨j + 1, j, true, X, Y, rfl, rfl, by go_num, by omega, by omega, HK, by omega, by omega, by omega, by omega, by omega, by omega, by first | exact ((below_drewN (HB.out.trans (B2.mono HB.out.size)) _).drew.setCell (Nat.le_refl _) _).setCell (Nat.le_refl _) _ | exact (((below_drewN (HB.out.trans (B2.mono HB.out.size)) _).setCell (Nat.le_refl _) _).setCell (Nat.le_refl _) _).drew | exact ((below_drewN (HB.out.trans (B2.mono HB.out.size)) _).setCell (Nat.le_refl _) _).setCell (Nat.le_refl _) _, by first | (simp; omega) | (simp; exact kj2), by go_simp, by go_simp, by go_simp, by go_simp⟩
                case measure => omega
            · by_cases T2 : X * y = x * Y ∧ sj > sN
              · have HK := Lib.hid (HX.out.2.1 rfl (.inr (by rw [HX'.out, HE.out.2]; exact T2)))
                have f0 : c = 0 := HCl.out.2.2 T2.1
                have f2 : decide (c < 0) = false := by simp [f0]
                have f3 : (c == 0) = true := by simp [f0]
                have f4 : sN < sj := T2.2
                have f5 : ¬ c < 0 := by omega
                have f6 : decide (sN < sj) = true := by simp; omega
                clear HX HCl HV T1 T2 f0
                go_wp2_with (go_at_call 76; refine (fcompare_any X Y x y (by omega) (by omega) (by omega) (by omega) (by omega) (by omega) (by omega) (by omega) _).mono ?_; rw [HCm.out]; rintro e w2 ⟨rfl, hb2⟩; have hcc2 := (bcell hb2).1; have hff2 := (bcell hb2).2; have B2 : Below wr.heap.size wr w2 := bchain ((hBB.setCell (by simp) _).setCell (by simp) _) hb2 (by simp; omega); have kx2 := fun o => B2.cell (p := ⟨w.heap.size, o, none⟩) hsz; have kf2 := fun o => B2.frozen (p := ⟨w.heap.size, o, none⟩) hsz; have kb2 := fun o => B2.cell (p := ⟨b, o, none⟩) hbs; have kj2 : w.heap.size < w2.heap.size := Nat.lt_of_lt_of_le hsz B2.size)
                go_quiet (fail)
                go_wp2_with fail
                go_region
                all_goals go_wp2_with fail
                all_goals
                  go_roundg (gk - 1)
                  case rel => exact ⟨j + 1, j, true, X, Y, rfl, rfl, by go_num, by omega, by omega, HK, by omega, by omega, by omega, by omega, by omega, by omega, by first | exact ((below_drewN (HB.out.trans (B2.mono HB.out.size)) _).drew.setCell (Nat.le_refl _) _).setCell (Nat.le_refl _) _ | exact (((below_drewN (HB.out.trans (B2.mono HB.out.size)) _).setCell (Nat.le_refl _) _).setCell (Nat.le_refl _) _).drew | exact ((below_drewN (HB.out.trans (B2.mono HB.out.size)) _).setCell (Nat.le_refl _) _).setCell (Nat.le_refl _) _, by first | (simp; omega) | (simp; exact kj2), by go_simp, by go_simp, by go_simp, by go_simp⟩
                  case measure => omega
              · have HK := Lib.hid (HX.out.2.2 rfl (by rw [HX'.out, HE.out.2]; exact fun q => q.elim T1 T2))
                have f1 : ¬ c < 0 := fun q => T1 (HCl.out.1.1 q)
                have f2 : decide (c < 0) = false := by simp; omega
                by_cases f0 : c = 0
                · have f3 : (c == 0) = true := by simp [f0]
                  have f4 : ¬ sN < sj := fun q => T2 ⟨HCl.out.2.1 f0, q⟩
                  have f6 : decide (sN < sj) = false := by simp; omega
                  clear HX HCl HV T1 T2 f0
                  go_wp2_with (go_at_call 76; refine (fcompare_any X Y x y (by omega) (by omega) (by omega) (by omega) (by omega) (by omega) (by omega) (by omega) _).mono ?_; rw [HCm.out]; rintro e w2 ⟨rfl, hb2⟩; have hcc2 := (bcell hb2).1; have hff2 := (bcell hb2).2; have B2 : Below wr.heap.size wr w2 := bchain ((hBB.setCell (by simp) _).setCell (by simp) _) hb2 (by simp; omega); have kx2 := fun o => B2.cell (p := ⟨w.heap.size, o, none⟩) hsz; have kf2 := fun o => B2.frozen (p := ⟨w.heap.size, o, none⟩) hsz; have kb2 := fun o => B2.cell (p := ⟨b, o, none⟩) hbs; have kj2 : w.heap.size < w2.heap.size := Nat.lt_of_lt_of_le hsz B2.size)
                  go_quiet (fail)
                  go_wp2_with fail
                  go_roundg (gk - 1)
                  case rel => exact ⟨j + 1, N, true, x, y, rfl, rfl, by go_num, by omega, by omega, HK, by omega, by omega, x0, x1, y0, y1, below_drewN (HB.out.trans (B2.mono HB.out.size)) _, by first | (simp; omega) | (simp; exact kj2), by go_simp, by go_simp, by go_simp, by go_simp⟩
                  case measure => omega
                · have f3 : (c == 0) = false := by simp [f0]
                  clear HX HCl HV T1 T2 f0
                  go_wp2_with (go_at_call 76; refine (fcompare_any X Y x y (by omega) (by omega) (by omega) (by omega) (by omega) (by omega) (by omega) (by omega) _).mono ?_; rw [HCm.out]; rintro e w2 ⟨rfl, hb2⟩; have hcc2 := (bcell hb2).1; have hff2 := (bcell hb2).2; have B2 : Below wr.heap.size wr w2 := bchain ((hBB.setCell (by simp) _).setCell (by simp) _) hb2 (by simp; omega); have kx2 := fun o => B2.cell (p := ⟨w.heap.size, o, none⟩) hsz; have kf2 := fun o => B2.frozen (p := ⟨w.heap.size, o, none⟩) hsz; have kb2 := fun o => B2.cell (p := ⟨b, o, none⟩) hbs; have kj2 : w.heap.size < w2.heap.size := Nat.lt_of_lt_of_le hsz B2.size)
                  go_quiet (fail)
                  go_wp2_with fail
                  go_roundg (gk - 1)
                  case rel => exact ⟨j + 1, N, true, x, y, rfl, rfl, by go_num, by omega, by omega, HK, by omega, by omega, x0, x1, y0, y1, below_drewN (HB.out.trans (B2.mono HB.out.size)) _, by first | (simp; omega) | (simp; exact kj2), by go_simp, by go_simp, by go_simp, by go_simp⟩
                  case measure => omega
    · have e : j = xs.length := by omega
      subst e
      have HB := Lib.hid hbel
      clear hbel
      go_wp2_with fail
      go_ret2
      exact ⟨⟨v, p, x, y, rfl, HN.out⟩, HB.out⟩
theorem own_form2 {w : World} {base e size n : Nat} {v : Value} {xs : List Value} (h : w.ownsRow base e size v n xs) : ∃ a c, v = .slice a n c := by
  rcases h.2 with ⟨rfl, rfl⟩ | ⟨g, c, _, rfl, _⟩
  · exact ⟨_, _, rfl⟩
  · exact ⟨_, _, rfl⟩
theorem ldF_step {ps ss : Nat → Int} {n f l : Nat} : ldF ps ss n (f + 1) l = (l : Int) :: (match nx ps ss l n with | none => [] | some k => ldF ps ss n f k) := rfl
/-- the leaders -/
def leadL (xs : List (Int × Int)) : List Int := if wks xs then ldF (px xs) (py xs) xs.length 202 (fl (px xs) (py xs) xs.length) else []
theorem leadL_len (xs : List (Int × Int)) : (leadL xs).length ≤ 1000 := by
  unfold leadL; split
  · have := ldF_len (ps := px xs) (ss := py xs) (n := xs.length) 202 (fl (px xs) (py xs) xs.length); omega
  · simp
set_option maxHeartbeats 2000000 in
theorem implLeadersOf (a : Option Addr) (cap : Nat) (xs : List (Int × Int)) (w : World) (h : RdP w a xs) (hn : xs.length ≤ 1048576) :
    Calls Try.prog 34 #[.slice a xs.length cap] w (RetS w (leadL xs) (wks xs)) := by
  obtain ⟨i0, hi, hz0, hz1, hz2⟩ := info_parts intInfo
  cases hk : wks xs
  · have HK := Lib.hid hk
    have HL := Lib.hid (show leadL xs = [] by unfold leadL; rw [hk]; rfl)
    clear hk
    go_enter Try.func34, Try.ntmps34
    go_wp2_with (first | (go_at_call 28; refine (implAreWalkers a cap xs _ h hn).mono ?_; rw [HK.out]; rintro e w0 ⟨rfl, hb0⟩))
    go_ret2
    rw [HL.out]
    exact ⟨none, 0, rfl, ⟨rfl, .inl ⟨rfl, rfl⟩⟩, hb0⟩
  · have HK := Lib.hid hk
    have hk2 : inB (xs.length : Int) 1 8 = true ∧ allW xs = true := by unfold wks at hk; rwa [Bool.and_eq_true] at hk
    have n1 := (inB_iff.1 hk2.1).1
    have n2 := (inB_iff.1 hk2.1).2
    have n3 : 1 ≤ xs.length := by omega
    have n4 : xs.length ≤ 8 := by omega
    have HA := Lib.hid hk2.2
    have HW := Lib.hid (fun i (hi : i < xs.length) => allW_at hk2.2 hi)
    have HL := Lib.hid (show leadL xs = ldF (px xs) (py xs) xs.length 202 (fl (px xs) (py xs) xs.length) by unfold leadL; rw [hk]; rfl)
    have hl0 := fl_lt (ps := px xs) (ss := py xs) n3 xs.length (Nat.le_refl _)
    have HB0 := Lib.hid (beh_first (ps := px xs) (ss := py xs) (n := xs.length))
    clear hk hk2
    generalize hf : fl (px xs) (py xs) xs.length = l0 at *
    have HF := Lib.hid hf
    clear hf
    go_enter Try.func34, Try.ntmps34
    go_wp2_with (first | (go_at_call 28; refine (implAreWalkers a cap xs _ h hn).mono ?_; rw [HK.out]; rintro e w0 ⟨rfl, hb0⟩) | (go_at_call 78; refine (firstLeader_any a cap xs _ (h.below hb0) n3 n4).mono ?_; rw [HF.out]; rintro e w1 ⟨rfl, hb1⟩))
    have hown0 : World.ownsRow (w1.alloc (.cells #[.int .i64 (l0 : Int)] 3)) w.heap.size 3 1 (.slice (some ⟨w1.heap.size, 0, none⟩) 1 1) 1 [.int .i64 (l0 : Int)] := World.ownsRow_lit w1 #[.int .i64 (l0 : Int)] 1 (Nat.le_trans hb0.size hb1.size) (by unfold maxLen; omega) rfl
    have hb01 : Below w.heap.size w w1 := hb0.trans (hb1.mono hb0.size)
    have hbA : Below w.heap.size w (w1.alloc (.cells #[.int .i64 (l0 : Int)] 3)) := hb01.alloc hb01.size _
    clear hb0 hb1 hb01
    go_loopg [4, 5] 202 (fun g v4 v5 wr => ∃ (l f : Nat) (pre : List Int) (A B : Int), v4 = .int .i64 (l : Int) ∧ l < xs.length ∧ wr.ownsRow w.heap.size 3 1 v5 (pre.length + 1) ((pre ++ [(l : Int)]).map (Value.int .i64)) ∧ Hid (leadL xs = pre ++ ldF (px xs) (py xs) xs.length (f + 1) l) ∧ 101 - py xs l ≤ (f : Int) + 1 ∧ pre.length + f + 1 ≤ 202 ∧ g = f + 1 ∧ 0 ≤ A ∧ 1 ≤ B ∧ Hid (Beh (px xs) (py xs) xs.length l A B) ∧ Below w.heap.size w wr)
    case atStart => exact ⟨l0, 201, [], 0, 1, rfl, hl0, hown0, HL.out, by have := wkOk_iff.1 (HW.out l0 hl0); omega, by simp, rfl, by omega, by omega, HB0.out, hbA⟩
    case round =>
      clear hown0 hbA
      obtain ⟨l, f, pre, A, B, rfl, hl, hown, HLL, q1, q2, rfl, a0, b0, HBe, hbel⟩ := hrel
      have hsz := hbel.size
      have wl := wkOk_iff.1 (HW.out l hl)
      have HN := Lib.hid (nextLeader_any a cap xs l A B wr (h.below hbel) n3 n4 HA.out hl a0 b0 HBe.out)
      have HO := Lib.hid hown
      have HB := Lib.hid hbel
      clear hown hbel
      cases hnx : nx (px xs) (py xs) l xs.length with
      | none =>
        have HE := Lib.hid (show leadL xs = pre ++ [(l : Int)] by rw [HLL.out, ldF_step, hnx])
        have HX := Lib.hid hnx
        clear hnx
        go_wp2_with (first | (go_at_call 79; refine HN.out.mono ?_; rw [HX.out]; rintro e w2 ⟨⟨v, p, x, y, rfl, hv⟩, hb2⟩; obtain ⟨rfl, rfl, _, _⟩ := hv; have hO2 := Lib.hid (row_below HO.out hb2); have hB2 := Lib.hid (HB.out.trans (hb2.mono HB.out.size)); clear hb2))
        go_ret2
        obtain ⟨a2, c2, rfl⟩ := own_form2 hO2.out
        refine ⟨a2, c2, ?_, ?_, hB2.out⟩
        · rw [HE.out]; simp
        · unfold Own; rw [HE.out]; simpa using hO2.out
      | some k =>
        obtain ⟨k1, k2, k3, k4, k5, k6, k7⟩ := beh_next HW.out (HW.out l hl) a0 b0 HBe.out hnx
        have wk := wkOk_iff.1 (HW.out k k2)
        obtain ⟨f', rfl⟩ : ∃ f', f = f' + 1 := ⟨f - 1, by omega⟩
        have HE := Lib.hid (show leadL xs = (pre ++ [(l : Int)]) ++ ldF (px xs) (py xs) xs.length (f' + 1) k by rw [HLL.out, ldF_step, hnx]; simp)
        have HX := Lib.hid hnx
        have HK := Lib.hid k1
        clear hnx k1
        go_wp2_with (first | (go_at_call 79; refine HN.out.mono ?_; rw [HX.out]; rintro e w2 ⟨⟨v, p, x, y, rfl, hv⟩, hb2⟩; obtain ⟨rfl, rfl, _, _⟩ := hv; have hO2 := Lib.hid (row_below HO.out hb2); have hB2 := Lib.hid (HB.out.trans (hb2.mono HB.out.size)); clear hb2) | (at_builtin; refine wpList_append_own _ rfl _ _ 22 rfl w.heap.size 3 i0 (.int .i64 0) 1 8 Try.underlying22 hi hz0 hz1 hz2 rfl (by decide) _ _ _ rfl (hO2.out.alloc _) ⟨w2.heap.size, 0, none⟩ 1 1 [.int .i64 (k : Int)] rfl rfl (cell_one_new _ _ _) (fun u hu => by simp at hu; subst hu; rfl) (by unfold maxLen; omega) (by omega) (by have := hB2.out.size; simp; omega) ?_; intro v1 w3 hown1 hgrow hx; clear hx; have hO3 := Lib.hid hown1; have hB3 : Hid (Below w.heap.size w w3) := (hB2.out.alloc hB2.out.size _).grown hgrow (by have := hB2.out.size; simp; omega) (fun k hk => (hO2.out.lt k hk).1); clear hown1 hgrow))
        go_roundg (f' + 1)
        case rel => exact ⟨k, f', pre ++ [(l : Int)], _, _, rfl, k2, by simpa using hO3.out, HE.out, by omega, by simp; omega, rfl, k5, k4, HK.out, hB3.out⟩
        case measure => omega
end Go.Proofs.Yteaefmngfomhgaa
