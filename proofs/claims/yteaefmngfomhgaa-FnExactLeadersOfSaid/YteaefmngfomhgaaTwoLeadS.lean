/- The leaders of chapter 2, the model's way by contracts. -/
import Derived.Test.YteaefmngfomhgaaTwoLead
namespace Go.Proofs.Yteaefmngfomhgaa
open Go.RowKit
set_option linter.unusedVariables false
set_option linter.unusedSimpArgs false
/-- what the model's search holds behind the first j walkers -/
def NxS (ps ss : Nat → Int) (l : Nat) (o : Option Nat) (v a b : Int) : Prop :=
  match o with
  | none => v = -1 ∧ a = 0 ∧ b = 1
  | some k => v = (k : Int) ∧ a = tN ps ss l k ∧ b = tD ps ss l k
theorem nxs_step {ps ss : Nat → Int} {l j : Nat} {v a b : Int} (h : ¬ ss j ≤ ss l) (k : NxS ps ss l (nx ps ss l j) v a b) :
    (v < 0 → NxS ps ss l (nx ps ss l (j + 1)) j (tN ps ss l j) (tD ps ss l j)) ∧
    (¬ v < 0 → (tN ps ss l j * b < a * tD ps ss l j ∨ (tN ps ss l j * b = a * tD ps ss l j ∧ ss v.toNat < ss j)) → NxS ps ss l (nx ps ss l (j + 1)) j (tN ps ss l j) (tD ps ss l j)) ∧
    (¬ v < 0 → ¬ (tN ps ss l j * b < a * tD ps ss l j ∨ (tN ps ss l j * b = a * tD ps ss l j ∧ ss v.toNat < ss j)) → NxS ps ss l (nx ps ss l (j + 1)) v a b) := by
  have e : nx ps ss l (j + 1) = match nx ps ss l j with
    | none => some j
    | some k => if tN ps ss l j * tD ps ss l k < tN ps ss l k * tD ps ss l j ∨ (tN ps ss l j * tD ps ss l k = tN ps ss l k * tD ps ss l j ∧ ss k < ss j) then some j else some k := by
    conv => lhs; unfold nx
    rw [if_neg h]
    cases nx ps ss l j <;> rfl
  rw [e]
  cases hn : nx ps ss l j with
  | none =>
    rw [hn] at k
    obtain ⟨rfl, rfl, rfl⟩ := k
    refine ⟨fun _ => ⟨rfl, rfl, rfl⟩, fun q => absurd (by omega) q, fun q => absurd (by omega) q⟩
  | some i =>
    rw [hn] at k
    obtain ⟨rfl, rfl, rfl⟩ := k
    refine ⟨fun q => (by omega), fun _ q => ?_, fun _ q => ?_⟩
    · simp only [Int.toNat_natCast] at q; simp only [if_pos q]; exact ⟨rfl, rfl, rfl⟩
    · simp only [Int.toNat_natCast] at q; simp only [if_neg q]; exact ⟨rfl, rfl, rfl⟩
set_option maxHeartbeats 2000000 in
set_option maxRecDepth 100000 in
theorem specLeadersOf (a : Option Addr) (cap : Nat) (xs : List (Int × Int)) (w : World) (h : RdP w a xs) (hn : xs.length ≤ 1048576) :
    Calls Try.prog 33 #[.slice a xs.length cap] w (RetS w (leadL xs) (wks xs)) := by
  obtain ⟨i0, hi, hz0, hz1, hz2⟩ := info_parts intInfo
  cases hk : wks xs
  · have HK := Lib.hid hk
    have HL := Lib.hid (show leadL xs = [] by unfold leadL; rw [hk]; rfl)
    clear hk
    go_enter Try.func33, Try.ntmps33
    go_wp2_with (first | (go_at_call 65; refine (meAll_any a cap xs _ h hn).mono ?_; rw [HK.out]; rintro e w0 ⟨rfl, hb0⟩))
    go_ret2
    rw [HL.out]
    exact ⟨none, 0, rfl, ⟨rfl, .inl ⟨rfl, rfl⟩⟩, hb0⟩
  · have HK := Lib.hid hk
    have hk2 : inB (xs.length : Int) 1 8 = true ∧ allW xs = true := by unfold wks at hk; rwa [Bool.and_eq_true] at hk
    have n1 := (inB_iff.1 hk2.1).1
    have n2 := (inB_iff.1 hk2.1).2
    have n3 : 1 ≤ xs.length := by omega
    have n4 : xs.length ≤ 8 := by omega
    have HW := Lib.hid (fun i (hi : i < xs.length) => allW_at hk2.2 hi)
    have HL := Lib.hid (show leadL xs = ldF (px xs) (py xs) xs.length 202 (fl (px xs) (py xs) xs.length) by unfold leadL; rw [hk]; rfl)
    have HB0 := Lib.hid (beh_first (ps := px xs) (ss := py xs) (n := xs.length))
    have HR := Lib.hid h
    clear hk hk2
    rcases h with h | ⟨b, off, rfl, hlt, hc⟩
    · rw [h] at n3; simp at n3
    have HC := Lib.hid hc
    clear hc
    go_enter Try.func33, Try.ntmps33
    go_wp2_with (first | (go_at_call 65; refine (meAll_any _ cap xs _ HR.out hn).mono ?_; rw [HK.out]; rintro e w0 ⟨rfl, hb0⟩))
    go_loopg [4, 24] xs.length (fun g v4 v24 wr => ∃ j : Nat, v4 = .int .i64 (fl (px xs) (py xs) j : Nat) ∧ v24 = .int .i64 (j : Int) ∧ j + g ≤ xs.length ∧ xs.length ≤ j + g ∧ Below w.heap.size w wr)
    case atStart => exact ⟨0, rfl, rfl, by omega, by omega, hb0⟩
    case round =>
      clear hb0
      obtain ⟨j, rfl, rfl, h1, h2, hbel⟩ := hrel
      have hsz := hbel.size
      by_cases hj : j < xs.length
      · have hl := fl_lt (ps := px xs) (ss := py xs) n3 j (by omega)
        have HF := Lib.hid (show fl (px xs) (py xs) (j + 1) = if px xs (fl (px xs) (py xs) j) < px xs j ∨ (px xs j = px xs (fl (px xs) (py xs) j) ∧ py xs (fl (px xs) (py xs) j) < py xs j) then j else fl (px xs) (py xs) j from rfl)
        generalize fl (px xs) (py xs) j = l at *
        have c0 : wr.cell? ⟨b, off + j * 2, none⟩ = some (.int .i64 (px xs j)) := by rw [(bcell hbel).1 b _ hlt]; exact (HC.out j hj).1
        have c1 : wr.cell? ⟨b, off + j * 2 + 1, none⟩ = some (.int .i64 (py xs j)) := by rw [(bcell hbel).1 b _ hlt]; exact (HC.out j hj).2
        have d0 : wr.cell? ⟨b, off + l * 2, none⟩ = some (.int .i64 (px xs l)) := by rw [(bcell hbel).1 b _ hlt]; exact (HC.out l hl).1
        have d1 : wr.cell? ⟨b, off + l * 2 + 1, none⟩ = some (.int .i64 (py xs l)) := by rw [(bcell hbel).1 b _ hlt]; exact (HC.out l hl).2
        have hjI : (j : Int) < (xs.length : Int) := by omega
        have hlI : (l : Int) < (xs.length : Int) := by omega
        have HB := Lib.hid hbel
        have hbs : b < wr.heap.size := by omega
        clear hbel
        generalize px xs j = pj at *
        generalize py xs j = sj at *
        generalize px xs l = pl at *
        generalize py xs l = sl at *
        by_cases t1 : pl < pj
        · have HR2 := Lib.hid (show fl (px xs) (py xs) (j + 1) = j by rw [HF.out, if_pos (.inl t1)])
          have x1 : decide (pl < pj) = true := by simp [t1]
          go_wp2_with fail
          go_quiet (fail)
          go_wp2_with fail
          go_roundg (gk - 1)
          case rel => exact ⟨j + 1, by rw [HR2.out], by go_num, by omega, by omega, below_drewN (HB.out.alloc (by omega) _) _⟩
          case measure => omega
        · have x1 : decide (pl < pj) = false := by simp; omega
          by_cases t2 : pj = pl
          · have x2 : (pj == pl) = true := by simp [t2]
            by_cases t3 : sl < sj
            · have HR2 := Lib.hid (show fl (px xs) (py xs) (j + 1) = j by rw [HF.out, if_pos (.inr ⟨t2, t3⟩)])
              have x3 : decide (sl < sj) = true := by simp [t3]
              subst t2
              go_wp2_with fail
              go_quiet (fail)
              go_wp2_with fail
              go_roundg (gk - 1)
              case rel => exact ⟨j + 1, by rw [HR2.out], by go_num, by omega, by omega, below_drewN (HB.out.alloc (by omega) _) _⟩
              case measure => omega
            · have HR2 := Lib.hid (show fl (px xs) (py xs) (j + 1) = l by rw [HF.out, if_neg (fun q => q.elim t1 (fun q => t3 q.2))])
              have x3 : decide (sl < sj) = false := by simp; omega
              subst t2
              go_wp2_with fail
              go_quiet (fail)
              go_wp2_with fail
              go_roundg (gk - 1)
              case rel => exact ⟨j + 1, by rw [HR2.out], by go_num, by omega, by omega, below_drewN (HB.out.alloc (by omega) _) _⟩
              case measure => omega
          · have HR2 := Lib.hid (show fl (px xs) (py xs) (j + 1) = l by rw [HF.out, if_neg (fun q => q.elim t1 (fun q => t2 q.1))])
            have x2 : (pj == pl) = false := by simp [t2]
            have x3 : ¬ pj = pl := t2
            go_wp2_with fail
            go_quiet (fail)
            go_wp2_with fail
            go_roundg (gk - 1)
            case rel => exact ⟨j + 1, by rw [HR2.out], by go_num, by omega, by omega, below_drewN (HB.out.alloc (by omega) _) _⟩
            case measure => omega
      · have e : j = xs.length := by omega
        subst e
        have hl0 := fl_lt (ps := px xs) (ss := py xs) n3 xs.length (Nat.le_refl _)
        generalize fl (px xs) (py xs) xs.length = l0 at *
        have HB := Lib.hid hbel
        clear hbel h1 h2 hj
        go_wp2_with fail
        have hown0 : World.ownsRow (wr.alloc (.cells #[.int .i64 (l0 : Int)] 3)) w.heap.size 3 1 (.slice (some ⟨wr.heap.size, 0, none⟩) 1 1) 1 [.int .i64 (l0 : Int)] := World.ownsRow_lit wr #[.int .i64 (l0 : Int)] 1 HB.out.size (by unfold maxLen; omega) rfl
        have hbA : Below w.heap.size w (wr.alloc (.cells #[.int .i64 (l0 : Int)] 3)) := HB.out.alloc HB.out.size _
        have hcn := cnt_le (ss := py xs) l0 xs.length
        go_loopg [4, 7, 8, 9, 10] 202 (fun g v4 v7 v8 v9 v10 wq => ∃ (l f T : Nat) (pre : List Int) (A B : Int), v4 = .int .i64 (l : Int) ∧ v8 = .int .i64 A ∧ v9 = .int .i64 B ∧ v10 = .int .i64 (T : Int) ∧ T + cnt (py xs) l xs.length ≤ xs.length ∧ l < xs.length ∧ wq.ownsRow w.heap.size 3 1 v7 (pre.length + 1) ((pre ++ [(l : Int)]).map (Value.int .i64)) ∧ Hid (leadL xs = pre ++ ldF (px xs) (py xs) xs.length (f + 1) l) ∧ 101 - py xs l ≤ (f : Int) + 1 ∧ pre.length + f + 1 ≤ 202 ∧ g = f + 1 ∧ 0 ≤ A ∧ A ≤ 2000 ∧ 1 ≤ B ∧ B ≤ 200 ∧ Hid (Beh (px xs) (py xs) xs.length l A B) ∧ Below w.heap.size w wq)
        case atStart => exact ⟨l0, 201, 0, [], 0, 1, rfl, rfl, rfl, rfl, by omega, hl0, hown0, HL.out, by have := wkOk_iff.1 (HW.out l0 hl0); omega, by simp, rfl, by omega, by omega, by omega, by omega, HB0.out, hbA⟩
        case round =>
          clear hown0 hbA hcn hl0 HB HB0 HL
          obtain ⟨l, f, T, pre, A, B, rfl, rfl, rfl, rfl, hT, hl, hown, HLL, q1, q2, rfl, a0, a1, b0, b1, HBe, hbel⟩ := hrel
          have hsz := hbel.size
          have hTn : (T : Int) < 2 * (xs.length : Int) := by omega
          have HO := Lib.hid hown
          have HB := Lib.hid hbel
          have hbq : b < wr.heap.size := by omega
          have HOW := Lib.hid (row_below hown (Below.refl _ _))
          clear hown hbel
          have hw1 := Lib.hid (HW.out l hl)
          obtain ⟨W, rfl⟩ : ∃ W, W = wr := ⟨_, rfl⟩
          have hlI : (l : Int) < (xs.length : Int) := by omega
          go_wp2_with fail
          go_loopg [11, 12, 13, 70] xs.length (fun g v11 v12 v13 v70 wi => ∃ (j : Nat) (v x y : Int), v11 = .int .i64 v ∧ v12 = .int .i64 x ∧ v13 = .int .i64 y ∧ v70 = .int .i64 (j : Int) ∧ j + g ≤ xs.length ∧ xs.length ≤ j + g ∧ Hid (NxS (px xs) (py xs) l (nx (px xs) (py xs) l j) v x y) ∧ -1 ≤ v ∧ v < (xs.length : Int) ∧ 0 ≤ x ∧ x ≤ 2000 ∧ 0 ≤ y ∧ y ≤ 200 ∧ Below W.heap.size W wi)
          case atStart => exact ⟨0, -1, 0, 1, rfl, rfl, rfl, rfl, by omega, by omega, ⟨rfl, rfl, rfl⟩, by omega, by omega, by omega, by omega, by omega, by omega, Below.refl _ _⟩
          case round =>
            obtain ⟨j, v, x, y, rfl, rfl, rfl, rfl, h1, h2, HN, v0, v1, x0, x1, y0, y1, hbel⟩ := hrel
            have hsz2 := hbel.size
            have hbs : b < wr.heap.size := by omega
            have HB2 := Lib.hid hbel
            by_cases hj : j < xs.length
            · have c0 : wr.cell? ⟨b, off + j * 2, none⟩ = some (.int .i64 (px xs j)) := by rw [(bcell hbel).1 b _ hbq, (bcell HB.out).1 b _ hlt]; exact (HC.out j hj).1
              have c1 : wr.cell? ⟨b, off + j * 2 + 1, none⟩ = some (.int .i64 (py xs j)) := by rw [(bcell hbel).1 b _ hbq, (bcell HB.out).1 b _ hlt]; exact (HC.out j hj).2
              have d0 : wr.cell? ⟨b, off + l * 2, none⟩ = some (.int .i64 (px xs l)) := by rw [(bcell hbel).1 b _ hbq, (bcell HB.out).1 b _ hlt]; exact (HC.out l hl).1
              have d1 : wr.cell? ⟨b, off + l * 2 + 1, none⟩ = some (.int .i64 (py xs l)) := by rw [(bcell hbel).1 b _ hbq, (bcell HB.out).1 b _ hlt]; exact (HC.out l hl).2
              have hjI : (j : Int) < (xs.length : Int) := by omega
              have HW1 := Lib.hid (HW.out l hl)
              have HW2 := Lib.hid (HW.out j hj)
              have mb := mt_bd HW1.out HW2.out
              clear hbel
              by_cases hs : py xs j ≤ py xs l
              · have HN2 : Hid (NxS (px xs) (py xs) l (nx (px xs) (py xs) l (j + 1)) v x y) := by
                  have : nx (px xs) (py xs) l (j + 1) = nx (px xs) (py xs) l j := by simp only [nx]; rw [if_pos hs]
                  rw [this]; exact HN.out
                obtain ⟨X, Y, M, hT⟩ : ∃ X Y M, meN (px xs l) (py xs l) (px xs j) (py xs j) = X ∧ meD (px xs l) (py xs l) (px xs j) (py xs j) = Y ∧ mtB (px xs l) (py xs l) (px xs j) (py xs j) = M := ⟨_, _, _, rfl, rfl, rfl⟩
                have m1 : -2000 ≤ X ∧ X ≤ 2000 ∧ 0 ≤ Y ∧ Y ≤ 200 := by rw [← hT.1, ← hT.2.1]; exact ⟨mb.1, mb.2.1, mb.2.2.1, mb.2.2.2.1⟩
                have HT := Lib.hid hT
                clear hT mb HN
                generalize hpj : px xs j = pj at *
                generalize hsj : py xs j = sj at *
                generalize hpl : px xs l = pl at *
                generalize hsl : py xs l = sl at *
                clear hpj hsj hpl hsl
                have e1 : decide (sj ≤ sl) = true := by simp [hs]
                go_wp2_with fail
                go_region_held3 (fun w' => Below wr.heap.size wr w' ∧ wr.heap.size < w'.heap.size ∧ w'.cell? ⟨wr.heap.size, 0, none⟩ = some (.int .i64 pj) ∧ w'.cell? ⟨wr.heap.size, 1, none⟩ = some (.int .i64 sj) ∧ w'.cell? ⟨b, off + l * 2, none⟩ = some (.int .i64 pl) ∧ w'.cell? ⟨b, off + l * 2 + 1, none⟩ = some (.int .i64 sl))
                  (refine ⟨?_, ?_, ?_, ?_, ?_, ?_⟩ <;> first | assumption | omega | (go_simp; done) | (simp; omega) | exact ((Below.refl _ _).alloc (Nat.le_refl _) _).drew | exact ((Below.refl _ _).alloc (Nat.le_refl _) _))
                  (first | (go_at_call 77; refine (meMeet_any pl sl pj sj HW1.out HW2.out _).mono ?_; rw [HT.out.1, HT.out.2.1, HT.out.2.2]; rintro e w1 ⟨rfl, hb⟩; have qc := fun o => (bcell hb).1 wr.heap.size o (by first | omega | (simp; omega) | (simp; done)); have qd := fun o => (bcell hb).1 b o (by first | omega | (simp; omega)); have hz : wr.heap.size < w1.heap.size := (by have := hb.size; simp at this; omega); have hBB : Below wr.heap.size wr w1 := (by first | exact bchain ((Below.refl _ _).alloc (Nat.le_refl _) _).drew hb (by simp) | exact bchain ((Below.refl _ _).alloc (Nat.le_refl _) _) hb (by simp))))
                all_goals
                  go_wp2_with fail
                  go_quiet (fail)
                  go_wp2_with fail
                  go_roundg (gk - 1)
                  case rel => exact ⟨j + 1, v, x, y, rfl, rfl, rfl, by go_num, by omega, by omega, HN2, by omega, by omega, by omega, by omega, by omega, by omega, below_drewN (HB2.out.trans (hBB.mono HB2.out.size)) _⟩
                  case measure => omega
              · have mo := meet_of_beh HW1.out HW2.out a0 b0 (show py xs l < py xs j by omega) (HBe.out j hj (by omega))
                have HT := Lib.hid (show meN (px xs l) (py xs l) (px xs j) (py xs j) = tN (px xs) (py xs) l j ∧ meD (px xs l) (py xs l) (px xs j) (py xs j) = tD (px xs) (py xs) l j ∧ mtB (px xs l) (py xs l) (px xs j) (py xs j) = true from ⟨rfl, rfl, mo.1⟩)
                have HX := Lib.hid (nxs_step (ps := px xs) (ss := py xs) hs HN.out)
                have t0 := mo.2.1
                have t1 := mo.2.2.2.1
                have t2 := mo.2.2.2.2.1
                have t3 := mo.2.2.2.2.2.1
                have t4 := mo.2.2.2.2.2.2
                clear mo mb HN
                generalize tN (px xs) (py xs) l j = X at *
                generalize tD (px xs) (py xs) l j = Y at *
                have p1 := mul_ab X B 2000 200 (by omega) t3 (by omega) b1
                have p2 := mul_ab A Y 2000 200 (by omega) a1 (by omega) t4
                have p3 := mul_ab X y 2000 200 (by omega) t3 (by omega) y1
                have p4 := mul_ab x Y 2000 200 (by omega) x1 (by omega) t4
                have e2 : decide (X * B < A * Y) = false := by simp; omega
                have e3 : ¬ X * B < A * Y := by omega
                have e1 : decide (py xs j ≤ py xs l) = false := by simp; omega
                by_cases hv : v < 0
                · have HK := Lib.hid (HX.out.1 hv)
                  have e4 : decide (v < 0) = true := by simp [hv]
                  clear HX
                  generalize hpj : px xs j = pj at *
                  generalize hsj : py xs j = sj at *
                  generalize hpl : px xs l = pl at *
                  generalize hsl : py xs l = sl at *
                  clear hpj hsj hpl hsl
                  go_wp2_with fail
                  go_region_held3 (fun w' => Below wr.heap.size wr w' ∧ wr.heap.size < w'.heap.size ∧ w'.cell? ⟨wr.heap.size, 0, none⟩ = some (.int .i64 pj) ∧ w'.cell? ⟨wr.heap.size, 1, none⟩ = some (.int .i64 sj) ∧ w'.cell? ⟨b, off + l * 2, none⟩ = some (.int .i64 pl) ∧ w'.cell? ⟨b, off + l * 2 + 1, none⟩ = some (.int .i64 sl))
                    (refine ⟨?_, ?_, ?_, ?_, ?_, ?_⟩ <;> first | assumption | omega | (go_simp; done) | (simp; omega) | exact ((Below.refl _ _).alloc (Nat.le_refl _) _).drew | exact ((Below.refl _ _).alloc (Nat.le_refl _) _))
                    (first | (go_at_call 77; refine (meMeet_any pl sl pj sj HW1.out HW2.out _).mono ?_; rw [HT.out.1, HT.out.2.1, HT.out.2.2]; rintro e w1 ⟨rfl, hb⟩; have qc := fun o => (bcell hb).1 wr.heap.size o (by first | omega | (simp; omega) | (simp; done)); have qd := fun o => (bcell hb).1 b o (by first | omega | (simp; omega)); have hz : wr.heap.size < w1.heap.size := (by have := hb.size; simp at this; omega); have hBB : Below wr.heap.size wr w1 := (by first | exact bchain ((Below.refl _ _).alloc (Nat.le_refl _) _).drew hb (by simp) | exact bchain ((Below.refl _ _).alloc (Nat.le_refl _) _) hb (by simp))))
                  all_goals
                    go_wp2_with fail
                    go_quiet (fail)
                    go_wp2_with fail
                    go_quiet (fail)
                    go_wp2_with fail
                    go_roundg (gk - 1)
                    case rel => exact ⟨j + 1, j, X, Y, rfl, rfl, rfl, by go_num, by omega, by omega, HK, by omega, by omega, by omega, by omega, by omega, by omega, below_drewN (HB2.out.trans (hBB.mono HB2.out.size)) _⟩
                    case measure => omega
                · have e4 : decide (v < 0) = false := by simp; omega
                  obtain ⟨N, hvN, hNl⟩ : ∃ N : Nat, v = (N : Int) ∧ N < xs.length := ⟨v.toNat, by omega, by omega⟩
                  subst hvN
                  have f0 : wr.cell? ⟨b, off + N * 2, none⟩ = some (.int .i64 (px xs N)) := by rw [(bcell HB2.out).1 b _ hbq, (bcell HB.out).1 b _ hlt]; exact (HC.out N hNl).1
                  have f1 : wr.cell? ⟨b, off + N * 2 + 1, none⟩ = some (.int .i64 (py xs N)) := by rw [(bcell HB2.out).1 b _ hbq, (bcell HB.out).1 b _ hlt]; exact (HC.out N hNl).2
                  have HX' := Lib.hid (show (((N : Nat) : Int)).toNat = N from Int.toNat_natCast N)
                  generalize hpj : px xs j = pj at *
                  generalize hsj : py xs j = sj at *
                  generalize hpl : px xs l = pl at *
                  generalize hsl : py xs l = sl at *
                  generalize hpN : px xs N = pN at *
                  generalize hsN : py xs N = sN at *
                  have HE := Lib.hid hsN
                  clear hpj hsj hpl hsl hpN hsN
                  by_cases T1 : X * y < x * Y
                  · have HK := Lib.hid (HX.out.2.1 hv (.inl T1))
                    have g1 : decide (X * y < x * Y) = true := by simp [T1]
                    clear HX
                    go_wp2_with fail
                    go_region_held3 (fun w' => Below wr.heap.size wr w' ∧ wr.heap.size < w'.heap.size ∧ w'.cell? ⟨wr.heap.size, 0, none⟩ = some (.int .i64 pj) ∧ w'.cell? ⟨wr.heap.size, 1, none⟩ = some (.int .i64 sj) ∧ w'.cell? ⟨b, off + l * 2, none⟩ = some (.int .i64 pl) ∧ w'.cell? ⟨b, off + l * 2 + 1, none⟩ = some (.int .i64 sl))
                      (refine ⟨?_, ?_, ?_, ?_, ?_, ?_⟩ <;> first | assumption | omega | (go_simp; done) | (simp; omega) | exact ((Below.refl _ _).alloc (Nat.le_refl _) _).drew | exact ((Below.refl _ _).alloc (Nat.le_refl _) _))
                      (first | (go_at_call 77; refine (meMeet_any pl sl pj sj HW1.out HW2.out _).mono ?_; rw [HT.out.1, HT.out.2.1, HT.out.2.2]; rintro e w1 ⟨rfl, hb⟩; have qc := fun o => (bcell hb).1 wr.heap.size o (by first | omega | (simp; omega) | (simp; done)); have qd := fun o => (bcell hb).1 b o (by first | omega | (simp; omega)); have hz : wr.heap.size < w1.heap.size := (by have := hb.size; simp at this; omega); have hBB : Below wr.heap.size wr w1 := (by first | exact bchain ((Below.refl _ _).alloc (Nat.le_refl _) _).drew hb (by simp) | exact bchain ((Below.refl _ _).alloc (Nat.le_refl _) _) hb (by simp))))
                    all_goals
                      go_wp2_with fail
                      go_quiet (fail)
                      go_wp2_with fail
                      go_quiet (fail)
                      go_wp2_with fail
                      go_roundg (gk - 1)
                      case rel => exact ⟨j + 1, j, X, Y, rfl, rfl, rfl, by go_num, by omega, by omega, HK, by omega, by omega, by omega, by omega, by omega, by omega, below_drewN (HB2.out.trans (hBB.mono HB2.out.size)) _⟩
                      case measure => omega
                  · have g1 : decide (X * y < x * Y) = false := by simp; omega
                    by_cases T2 : X * y = x * Y
                    · have g2 : (X * y == x * Y) = true := by simp [T2]
                      by_cases T3 : sN < sj
                      · have HK := Lib.hid (HX.out.2.1 hv (.inr (by rw [HX'.out, HE.out]; exact ⟨T2, T3⟩)))
                        have g3 : decide (sN < sj) = true := by simp [T3]
                        clear HX T2
                        go_wp2_with fail
                        go_region_held3 (fun w' => Below wr.heap.size wr w' ∧ wr.heap.size < w'.heap.size ∧ w'.cell? ⟨wr.heap.size, 0, none⟩ = some (.int .i64 pj) ∧ w'.cell? ⟨wr.heap.size, 1, none⟩ = some (.int .i64 sj) ∧ w'.cell? ⟨b, off + l * 2, none⟩ = some (.int .i64 pl) ∧ w'.cell? ⟨b, off + l * 2 + 1, none⟩ = some (.int .i64 sl))
                          (refine ⟨?_, ?_, ?_, ?_, ?_, ?_⟩ <;> first | assumption | omega | (go_simp; done) | (simp; omega) | exact ((Below.refl _ _).alloc (Nat.le_refl _) _).drew | exact ((Below.refl _ _).alloc (Nat.le_refl _) _))
                          (first | (go_at_call 77; refine (meMeet_any pl sl pj sj HW1.out HW2.out _).mono ?_; rw [HT.out.1, HT.out.2.1, HT.out.2.2]; rintro e w1 ⟨rfl, hb⟩; have qc := fun o => (bcell hb).1 wr.heap.size o (by first | omega | (simp; omega) | (simp; done)); have qd := fun o => (bcell hb).1 b o (by first | omega | (simp; omega)); have hz : wr.heap.size < w1.heap.size := (by have := hb.size; simp at this; omega); have hBB : Below wr.heap.size wr w1 := (by first | exact bchain ((Below.refl _ _).alloc (Nat.le_refl _) _).drew hb (by simp) | exact bchain ((Below.refl _ _).alloc (Nat.le_refl _) _) hb (by simp))))
                        all_goals
                          go_wp2_with fail
                          go_quiet (fail)
                          go_wp2_with fail
                          go_quiet (fail)
                          go_wp2_with fail
                          go_roundg (gk - 1)
                          case rel => exact ⟨j + 1, j, X, Y, rfl, rfl, rfl, by go_num, by omega, by omega, HK, by omega, by omega, by omega, by omega, by omega, by omega, below_drewN (HB2.out.trans (hBB.mono HB2.out.size)) _⟩
                          case measure => omega
                      · have HK := Lib.hid (HX.out.2.2 hv (by rw [HX'.out, HE.out]; exact fun q => q.elim T1 (fun q => T3 q.2)))
                        have g3 : decide (sN < sj) = false := by simp; omega
                        clear HX T2
                        go_wp2_with fail
                        go_region_held3 (fun w' => Below wr.heap.size wr w' ∧ wr.heap.size < w'.heap.size ∧ w'.cell? ⟨wr.heap.size, 0, none⟩ = some (.int .i64 pj) ∧ w'.cell? ⟨wr.heap.size, 1, none⟩ = some (.int .i64 sj) ∧ w'.cell? ⟨b, off + l * 2, none⟩ = some (.int .i64 pl) ∧ w'.cell? ⟨b, off + l * 2 + 1, none⟩ = some (.int .i64 sl))
                          (refine ⟨?_, ?_, ?_, ?_, ?_, ?_⟩ <;> first | assumption | omega | (go_simp; done) | (simp; omega) | exact ((Below.refl _ _).alloc (Nat.le_refl _) _).drew | exact ((Below.refl _ _).alloc (Nat.le_refl _) _))
                          (first | (go_at_call 77; refine (meMeet_any pl sl pj sj HW1.out HW2.out _).mono ?_; rw [HT.out.1, HT.out.2.1, HT.out.2.2]; rintro e w1 ⟨rfl, hb⟩; have qc := fun o => (bcell hb).1 wr.heap.size o (by first | omega | (simp; omega) | (simp; done)); have qd := fun o => (bcell hb).1 b o (by first | omega | (simp; omega)); have hz : wr.heap.size < w1.heap.size := (by have := hb.size; simp at this; omega); have hBB : Below wr.heap.size wr w1 := (by first | exact bchain ((Below.refl _ _).alloc (Nat.le_refl _) _).drew hb (by simp) | exact bchain ((Below.refl _ _).alloc (Nat.le_refl _) _) hb (by simp))))
                        all_goals
                          go_wp2_with fail
                          go_quiet (fail)
                          go_wp2_with fail
                          go_quiet (fail)
                          go_wp2_with fail
                          go_roundg (gk - 1)
                          case rel => exact ⟨j + 1, N, x, y, rfl, rfl, rfl, by go_num, by omega, by omega, HK, by omega, by omega, by omega, by omega, by omega, by omega, below_drewN (HB2.out.trans (hBB.mono HB2.out.size)) _⟩
                          case measure => omega
                    · have HK := Lib.hid (HX.out.2.2 hv (by rw [HX'.out, HE.out]; exact fun q => q.elim T1 (fun q => T2 q.1)))
                      have g2 : (X * y == x * Y) = false := by simp [T2]
                      clear HX
                      go_wp2_with fail
                      go_region_held3 (fun w' => Below wr.heap.size wr w' ∧ wr.heap.size < w'.heap.size ∧ w'.cell? ⟨wr.heap.size, 0, none⟩ = some (.int .i64 pj) ∧ w'.cell? ⟨wr.heap.size, 1, none⟩ = some (.int .i64 sj) ∧ w'.cell? ⟨b, off + l * 2, none⟩ = some (.int .i64 pl) ∧ w'.cell? ⟨b, off + l * 2 + 1, none⟩ = some (.int .i64 sl))
                        (refine ⟨?_, ?_, ?_, ?_, ?_, ?_⟩ <;> first | assumption | omega | (go_simp; done) | (simp; omega) | exact ((Below.refl _ _).alloc (Nat.le_refl _) _).drew | exact ((Below.refl _ _).alloc (Nat.le_refl _) _))
                        (first | (go_at_call 77; refine (meMeet_any pl sl pj sj HW1.out HW2.out _).mono ?_; rw [HT.out.1, HT.out.2.1, HT.out.2.2]; rintro e w1 ⟨rfl, hb⟩; have qc := fun o => (bcell hb).1 wr.heap.size o (by first | omega | (simp; omega) | (simp; done)); have qd := fun o => (bcell hb).1 b o (by first | omega | (simp; omega)); have hz : wr.heap.size < w1.heap.size := (by have := hb.size; simp at this; omega); have hBB : Below wr.heap.size wr w1 := (by first | exact bchain ((Below.refl _ _).alloc (Nat.le_refl _) _).drew hb (by simp) | exact bchain ((Below.refl _ _).alloc (Nat.le_refl _) _) hb (by simp))))
                      all_goals
                        go_wp2_with fail
                        go_quiet (fail)
                        go_wp2_with fail
                        go_quiet (fail)
                        go_wp2_with fail
                        go_roundg (gk - 1)
                        case rel => exact ⟨j + 1, N, x, y, rfl, rfl, rfl, by go_num, by omega, by omega, HK, by omega, by omega, by omega, by omega, by omega, by omega, below_drewN (HB2.out.trans (hBB.mono HB2.out.size)) _⟩
                        case measure => omega
            · have e : j = xs.length := by omega
              subst e
              have hO2 := Lib.hid (row_below HO.out HB2.out)
              have hB2 := Lib.hid (HB.out.trans (HB2.out.mono HB.out.size))
              clear hbel HB2
              cases hnx : nx (px xs) (py xs) l xs.length with
              | none =>
                have hv := HN.out
                rw [hnx] at hv
                obtain ⟨rfl, rfl, rfl⟩ := hv
                have HE := Lib.hid (show leadL xs = pre ++ [(l : Int)] by rw [HLL.out, ldF_step, hnx])
                clear hnx HN
                go_wp2_with fail
                go_ret2
                obtain ⟨a2, c2, rfl⟩ := own_form2 hO2.out
                refine ⟨a2, c2, ?_, ?_, hB2.out⟩
                · rw [HE.out]; simp
                · unfold Own; rw [HE.out]; simpa using hO2.out
              | some k =>
                have hv := HN.out
                rw [hnx] at hv
                obtain ⟨rfl, hx, hy⟩ := hv
                obtain ⟨k1, k2, k3, k4, k5, k6, k7⟩ := beh_next HW.out (HW.out l hl) a0 b0 HBe.out hnx
                rw [← hx, ← hy] at k1
                rw [← hy] at k4 k7
                rw [← hx] at k5 k6
                have wl := wkOk_iff.1 (HW.out l hl)
                have wk := wkOk_iff.1 (HW.out k k2)
                obtain ⟨f', rfl⟩ : ∃ f', f = f' + 1 := ⟨f - 1, by omega⟩
                have HE := Lib.hid (show leadL xs = (pre ++ [(l : Int)]) ++ ldF (px xs) (py xs) xs.length (f' + 1) k by rw [HLL.out, ldF_step, hnx]; simp)
                have HK := Lib.hid k1
                have hcn := cnt_lt k3 xs.length k2
                clear hnx HN k1 hx hy
                have hkn : ¬ (k : Int) < 0 := by omega
                go_wp2_with (first | (at_builtin; refine wpList_append_own _ rfl _ _ 22 rfl w.heap.size 3 i0 (.int .i64 0) 1 8 Try.underlying22 hi hz0 hz1 hz2 rfl (by decide) _ _ _ rfl (hO2.out.alloc _) ⟨wr.heap.size, 0, none⟩ 1 1 [.int .i64 (k : Int)] rfl rfl (cell_one_new _ _ _) (fun u hu => by simp at hu; subst hu; rfl) (by unfold maxLen; omega) (by omega) (by have := hB2.out.size; simp; omega) ?_; intro v1 w3 hown1 hgrow hx; clear hx; have hO3 := Lib.hid hown1; have hB3 : Hid (Below w.heap.size w w3) := (hB2.out.alloc hB2.out.size _).grown hgrow (by have := hB2.out.size; simp; omega) (fun k hk => (hO2.out.lt k hk).1); clear hown1 hgrow))
                go_roundg (f' + 1)
                case rel => exact ⟨k, f', T + 1, pre ++ [(l : Int)], x, y, rfl, rfl, rfl, by go_num, by omega, k2, by simpa using hO3.out, HE.out, by omega, by simp; omega, rfl, k5, k6, k4, k7, HK.out, hB3.out⟩
                case measure => omega
end Go.Proofs.Yteaefmngfomhgaa
