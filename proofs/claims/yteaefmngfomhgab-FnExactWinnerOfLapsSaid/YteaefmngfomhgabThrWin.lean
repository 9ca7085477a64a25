/- WinnerOfLaps of chapter 3 by contracts, the program's and the model's. -/
import Derived.Test.YteaefmngfomhgabProg
import Derived.Test.YteaefmngfomhgabThrRun
import Derived.Test.YteaefmngfomhgabSlices
import Derived.WalkKit
import Derived.WalkSpells
import Derived.WalkLawsBesides
import Derived.Lib.Hide
import Derived.Deep.LoopGhost
import Derived.Deep.QuietTactic
import Derived.Deep.RegionHeld3
import Derived.BigQuiet
namespace Go.Proofs.Yteaefmngfomhgab
open Go.RowKit
set_option linter.unusedVariables false
set_option linter.unusedSimpArgs false
/-- the first whole time at which a way is behind -/
def ft (W s : Int) : Int := (W + s - 1) / s
theorem ft_iff {W s b : Int} (hs : 1 ≤ s) : W ≤ s * b ↔ ft W s ≤ b := by
  unfold ft
  have h := Int.ediv_lt_iff_lt_mul (a := W + s - 1) (b := b + 1) (c := s) (by omega)
  have e : (b + 1) * s = s * b + s := by rw [Int.add_mul, Int.mul_comm b s]; omega
  rw [e] at h
  constructor
  · intro q; have := h.2 (by omega); omega
  · intro q; have := h.1 (by omega); omega
theorem ft_bd {W s : Int} (hs : 1 ≤ s) (h0 : 0 ≤ W) (h1 : W ≤ 100000) : 0 ≤ ft W s ∧ ft W s ≤ 100000 := by
  unfold ft
  refine ⟨Int.ediv_nonneg (by omega) (by omega), ?_⟩
  have h := Int.ediv_lt_iff_lt_mul (a := W + s - 1) (b := 100000 + 1) (c := s) (by omega)
  have : 100000 * 1 ≤ 100000 * s := Int.mul_le_mul_of_nonneg_left hs (by omega)
  have := h.2 (by omega)
  omega
/-- the least of the first ones -/
def mnK (f : Nat → Int) (b0 : Int) : Nat → Int
  | 0 => b0
  | j + 1 => low (mnK f b0 j) (f j)
theorem mnK_le {f : Nat → Int} {b0 : Int} : ∀ (j i : Nat), i < j → mnK f b0 j ≤ f i
  | 0, i, h => absurd h (Nat.not_lt_zero _)
  | j + 1, i, h => by
    have hl := low_bd (mnK f b0 j) (f j)
    by_cases q : i = j
    · subst q; exact hl.2.1
    · have := mnK_le (f := f) (b0 := b0) j i (by omega)
      have := hl.1
      simp only [mnK]; omega
theorem mnK_bd {f : Nat → Int} {b0 B : Int} {n : Nat} (h0 : 0 ≤ b0 ∧ b0 ≤ B) (h : ∀ i, i < n → 0 ≤ f i ∧ f i ≤ B) : ∀ j, j ≤ n → 0 ≤ mnK f b0 j ∧ mnK f b0 j ≤ B
  | 0, _ => h0
  | j + 1, hj => by
    have a := mnK_bd h0 h j (by omega)
    have b := h j (by omega)
    have hl := low_bd (mnK f b0 j) (f j)
    simp only [mnK]; omega
/-- from whatever great number it begins -/
theorem mnK_same {f : Nat → Int} {b0 : Int} (h : f 0 ≤ b0) : ∀ j, 1 ≤ j → mnK f b0 j = mnK f (f 0) j
  | 0, h => by omega
  | 1, _ => by
    have e : low (f 0) (f 0) = f 0 := by unfold low; split <;> rfl
    show low b0 (f 0) = low (f 0) (f 0)
    rw [e]; unfold low; split <;> omega
  | j + 2, _ => by
    have := mnK_same h (j + 1) (by omega)
    show low (mnK f b0 (j + 1)) (f (j + 1)) = low (mnK f (f 0) (j + 1)) (f (j + 1))
    rw [this]
/-- those of the first ones that have it -/
def winK (f : Nat → Int) (b : Int) : Nat → List Int
  | 0 => []
  | j + 1 => if f j = b then winK f b j ++ [(j : Int)] else winK f b j
theorem winK_len {f : Nat → Int} {b : Int} : ∀ j, (winK f b j).length ≤ j
  | 0 => by simp [winK]
  | j + 1 => by
    have := winK_len (f := f) (b := b) j
    simp only [winK]; split
    · simp; omega
    · omega
def ftA (W : Int) (xs : List (Int × Int)) (i : Nat) : Int := ft W (py xs i)
def winL (W : Int) (xs : List (Int × Int)) : List Int := winK (ftA W xs) (mnK (ftA W xs) (ftA W xs 0) xs.length) xs.length
def wnB (l n : Int) (xs : List (Int × Int)) : Bool := rns l xs && lpsOk n
def wnL (l n : Int) (xs : List (Int × Int)) : List Int := if wnB l n xs then winL (n * l) xs else []
theorem wnL_len (l n : Int) (xs : List (Int × Int)) : (wnL l n xs).length ≤ 1000 := by
  unfold wnL
  split
  · rename_i h
    unfold wnB at h
    rw [Bool.and_eq_true] at h
    have := rns_at h.1
    have := winK_len (f := ftA (n * l) xs) (b := mnK (ftA (n * l) xs) (ftA (n * l) xs 0) xs.length) xs.length
    unfold winL; omega
  · simp
theorem ownW_form {w : World} {base e size n : Nat} {v : Value} {xs : List Value} (h : w.ownsRow base e size v n xs) : ∃ a c, v = .slice a n c := by
  rcases h.2 with ⟨rfl, rfl⟩ | ⟨g, c, _, rfl, _⟩
  · exact ⟨_, _, rfl⟩
  · exact ⟨_, _, rfl⟩
set_option maxHeartbeats 1000000 in
theorem leastR_any (a b : Int) (w : World) :
    Calls Try.prog 44 #[.int .i64 a, .int .i64 b] w fun e w' => e = .returned (.int .i64 (low a b)) ∧ w = w' := by
  go_enter Try.func44, Try.ntmps44
  go_wp2
  all_goals (go_ret; refine ⟨rI ?_, rfl⟩)
  all_goals (unfold low; (repeat' split) <;> omega)
set_option maxHeartbeats 1000000 in
theorem firstTime_any (p s W : Int) (s1 : 1 ≤ s) (s2 : s ≤ 100) (h0 : 0 ≤ W) (h1 : W ≤ 100000) (w : World) :
    Calls Try.prog 46 #[.agg #[.int .i64 p, .int .i64 s], .int .i64 W] w fun e w' => e = .returned (.int .i64 (ft W s)) ∧ Below w.heap.size w w' := by
  have b := ft_bd s1 h0 h1
  have eM : (W + s - 1).tdiv s = (W + s - 1) / s := Int.tdiv_eq_ediv_of_nonneg (by omega)
  have eW : IntKind.i64.wrap ((W + s - 1) / s) = (W + s - 1) / s := IntWalk.i64_in _ (by unfold ft at b; omega)
  go_enter Try.func46, Try.ntmps46
  go_wp2_with fail
  all_goals try (go_quiet (fail); go_wp2_with fail)
  go_ret
  exact ⟨rfl, by first | exact below_drewN ((Below.refl _ _).alloc (Nat.le_refl _) _) _ | exact (Below.refl _ _).alloc (Nat.le_refl _) _ | exact ((Below.refl _ _).alloc (Nat.le_refl _) _).drew⟩
theorem cell_one_new2 (w : World) (o : Obj) (v : Value) (e : TypeId) : ∀ (j : Nat) (u : Value), [v][j]? = some u → ((w.alloc o).alloc (.cells #[v] e)).cell? ((⟨w.heap.size + 1, 0, none⟩ : Addr).add j) = some u := by
  have h := cell_one_new (w.alloc o) v e
  have e1 : (w.alloc o).heap.size = w.heap.size + 1 := by simp
  rw [e1] at h; exact h
set_option maxHeartbeats 2000000 in
set_option maxRecDepth 100000 in
theorem specWinnerOfLaps (l : Int) (a : Option Addr) (cap : Nat) (xs : List (Int × Int)) (n : Int) (w : World) (h : RdP w a xs) (hn : xs.length ≤ 1048576) :
    Calls Try.prog 17 #[.int .i64 l, .slice a xs.length cap, .int .i64 n] w (RetS w (wnL l n xs) (wnB l n xs)) := by
  obtain ⟨i0, hi, hz0, hz1, hz2⟩ := info_parts intInfo
  cases hk : rns l xs
  · have HL := Lib.hid (show wnL l n xs = [] by unfold wnL; rw [show wnB l n xs = false by simp [wnB, hk]]; rfl); have HV := Lib.hid (show wnB l n xs = false by simp [wnB, hk])
    have HK := Lib.hid hk
    clear hk
    go_enter Try.func17, Try.ntmps17
    go_wp2_with (first | (go_at_call 43; refine (trList_any l a cap xs _ h hn).mono ?_; rw [HK.out]; rintro e w0 ⟨rfl, hb0⟩))
    go_ret2; rw [HL.out, HV.out]; exact ⟨none, 0, rfl, ⟨rfl, .inl ⟨rfl, rfl⟩⟩, hb0⟩
  cases ht : lpsOk n
  · have HL := Lib.hid (show wnL l n xs = [] by unfold wnL; rw [show wnB l n xs = false by simp [wnB, ht]]; rfl); have HV := Lib.hid (show wnB l n xs = false by simp [wnB, ht])
    have HK := Lib.hid hk
    have HT := Lib.hid (show inB n 1 100 = false from ht)
    clear hk ht
    go_enter Try.func17, Try.ntmps17
    go_wp2_with (first | (go_at_call 43; refine (trList_any l a cap xs _ h hn).mono ?_; rw [HK.out]; rintro e w0 ⟨rfl, hb0⟩) | (go_at_call 41; refine (specIn n 1 100 _).mono ?_; rw [HT.out]; rintro e w1 ⟨rfl, rfl⟩))
    go_ret2; rw [HL.out, HV.out]; exact ⟨none, 0, rfl, ⟨rfl, .inl ⟨rfl, rfl⟩⟩, hb0⟩
  have hV : wnB l n xs = true := by simp [wnB, hk, ht]
  have HR := rns_at hk
  have n1 := HR.1
  have n6 := HR.2.1
  have H0 := rn1_iff.1 (HR.2.2 0 (by omega))
  have l1 := H0.1
  have l2 := H0.2.1
  have k1 := (lpsOk_iff.1 ht).1
  have k2 := (lpsOk_iff.1 ht).2
  have m1 := mul_bd n l 100 1000 (by omega) k2 (by omega) l2
  have m2 : 0 ≤ n * l := m1.1
  have m3 : n * l ≤ 100000 := by omega
  have HS := Lib.hid (show ∀ i, i < xs.length → 1 ≤ py xs i ∧ py xs i ≤ 100 from fun i hi => by have := rn1_iff.1 (HR.2.2 i hi); omega)
  have HF : Hid (∀ i, i < xs.length → 0 ≤ ftA (n * l) xs i ∧ ftA (n * l) xs i ≤ 100000) := fun i hi => ft_bd (HS.out i hi).1 m2 m3
  have HM : Hid (∀ j, j ≤ xs.length → 0 ≤ mnK (ftA (n * l) xs) 1000000 j ∧ mnK (ftA (n * l) xs) 1000000 j ≤ 1000000) := fun j hj => mnK_bd (by omega) (fun i hi => by have := HF.out i hi; omega) j hj
  have HE := Lib.hid (mnK_same (f := ftA (n * l) xs) (b0 := 1000000) (by have := HF.out 0 (by omega); omega) xs.length n1)
  have HLL := Lib.hid (show wnL l n xs = winK (ftA (n * l) xs) (mnK (ftA (n * l) xs) 1000000 xs.length) xs.length by unfold wnL; rw [hV, HE.out]; rfl)
  have HV := Lib.hid hV
  have HK := Lib.hid hk
  have HT := Lib.hid (show inB n 1 100 = true from ht)
  have u1 : IntKind.i64.wrap (n * l) = n * l := IntWalk.i64_in _ (by omega)
  clear hk ht HR H0 m1 hV HE
  go_enter Try.func17, Try.ntmps17
  go_wp2_with (first | (go_at_call 43; refine (trList_any l a cap xs _ h hn).mono ?_; rw [HK.out]; rintro e w0 ⟨rfl, hb0⟩) | (go_at_call 41; refine (specIn n 1 100 _).mono ?_; rw [HT.out]; rintro e w1 ⟨rfl, rfl⟩))
  go_loopg [8, 25] xs.length (fun k v8 v25 wr => ∃ (j : Nat), v8 = .int .i64 (mnK (ftA (n * l) xs) 1000000 j) ∧ v25 = .int .i64 (j : Int) ∧ j + k ≤ xs.length ∧ xs.length ≤ j + k ∧ Below w.heap.size w wr)
  case atStart => exact ⟨0, rfl, rfl, by omega, by omega, hb0⟩
  case round =>
    clear hb0
    obtain ⟨j, rfl, rfl, h1, h2, hbel⟩ := hrel
    have hsz := hbel.size
    by_cases hj : j < xs.length
    · rcases h with h | ⟨b, off, rfl, hlt, hc⟩
      · rw [h] at hj; exact absurd hj (Nat.not_lt_zero _)
      · have hcj : wr.cell? ⟨b, off + j * 2, none⟩ = some (.int .i64 (px xs j)) := by rw [(bcell hbel).1 b _ hlt]; exact (hc j hj).1
        have hck : wr.cell? ⟨b, off + j * 2 + 1, none⟩ = some (.int .i64 (py xs j)) := by rw [(bcell hbel).1 b _ hlt]; exact (hc j hj).2
        have hjI : (j : Int) < (xs.length : Int) := by omega
        have HB := Lib.hid hbel
        have y1 := (HS.out j hj).1
        have y2 := (HS.out j hj).2
        have b1 := HF.out j hj
        have HN := Lib.hid (show mnK (ftA (n * l) xs) 1000000 (j + 1) = low (mnK (ftA (n * l) xs) 1000000 j) (ft (n * l) (py xs j)) from rfl)
        have b2 : 0 ≤ (n * l + py xs j - 1) / py xs j ∧ (n * l + py xs j - 1) / py xs j ≤ 100000 := b1
        have HX := Lib.hid (show ft (n * l) (py xs j) = (n * l + py xs j - 1) / py xs j from rfl)
        clear hbel hc b1
        generalize px xs j = x at *
        generalize py xs j = y at *
        generalize mnK (ftA (n * l) xs) 1000000 j = c at *
        have eM : (n * l + y - 1).tdiv y = (n * l + y - 1) / y := Int.tdiv_eq_ediv_of_nonneg (by omega)
        have eW : IntKind.i64.wrap ((n * l + y - 1) / y) = (n * l + y - 1) / y := IntWalk.i64_in _ (by omega)
        go_wp2_with (first | (go_at_call 44; refine (leastR_any _ _ _).mono ?_; rintro e w1 ⟨rfl, rfl⟩))
        go_roundg (gk - 1)
        case rel => exact ⟨j + 1, by rw [HN.out, HX.out], by go_num, by omega, by omega, HB.out.alloc (by omega) _⟩
        case measure => omega
    · have e : j = xs.length := by omega
      subst e
      have bb := HM.out xs.length (Nat.le_refl _)
      have HB := Lib.hid hbel
      generalize hB : mnK (ftA (n * l) xs) 1000000 xs.length = B at *
      clear hbel h1 h2
      have HBB := Lib.hid hB
      clear hB
      go_wp2_with fail
      go_loopg [11, 44] xs.length (fun k v11 v44 w2 => ∃ (j : Nat) (ao : Option Addr) (co : Nat), v11 = .slice ao (winK (ftA (n * l) xs) B j).length co ∧ v44 = .int .i64 (j : Int) ∧ j + k ≤ xs.length ∧ xs.length ≤ j + k ∧ w2.ownsRow w.heap.size 3 1 (.slice ao (winK (ftA (n * l) xs) B j).length co) (winK (ftA (n * l) xs) B j).length ((winK (ftA (n * l) xs) B j).map (Value.int .i64)) ∧ Below w.heap.size w w2)
      case atStart => exact ⟨0, none, 0, rfl, rfl, by omega, by omega, World.ownsRow_nil _ _ _ _, HB.out⟩
      case round =>
        obtain ⟨j, ao, co, rfl, rfl, h1, h2, hown, hbel⟩ := hrel
        have hsz2 := hbel.size
        by_cases hj : j < xs.length
        · rcases h with h | ⟨b, off, rfl, hlt, hc⟩
          · rw [h] at hj; exact absurd hj (Nat.not_lt_zero _)
          · have hcj : wr.cell? ⟨b, off + j * 2, none⟩ = some (.int .i64 (px xs j)) := by rw [(bcell hbel).1 b _ hlt]; exact (hc j hj).1
            have hck : wr.cell? ⟨b, off + j * 2 + 1, none⟩ = some (.int .i64 (py xs j)) := by rw [(bcell hbel).1 b _ hlt]; exact (hc j hj).2
            have hjI : (j : Int) < (xs.length : Int) := by omega
            have y1 := (HS.out j hj).1
            have y2 := (HS.out j hj).2
            have m4 := mul_bd (py xs j) B 100 1000000 (by omega) y2 bb.1 bb.2
            have hq : n * l ≤ py xs j * B ↔ ftA (n * l) xs j = B := by
              have q1 := ft_iff (W := n * l) (b := B) y1
              have q2 := mnK_le (f := ftA (n * l) xs) (b0 := 1000000) xs.length j hj
              rw [HBB.out] at q2
              rw [q1]
              have : ft (n * l) (py xs j) = ftA (n * l) xs j := rfl
              omega
            have hw := winK_len (f := ftA (n * l) xs) (b := B) j
            have HO := Lib.hid hown
            have HB2 := Lib.hid hbel
            have HC := Lib.hid hc
            clear hown hbel hc
            by_cases hf : ftA (n * l) xs j = B
            · have HW := Lib.hid (show winK (ftA (n * l) xs) B (j + 1) = winK (ftA (n * l) xs) B j ++ [(j : Int)] by simp only [winK]; rw [if_pos hf])
              have hge : n * l ≤ py xs j * B := hq.2 hf
              have hd : decide (py xs j * B ≥ n * l) = true := by simp; omega
              clear hq hf
              generalize px xs j = x at *
              generalize py xs j = y at *
              generalize hWJ : winK (ftA (n * l) xs) B j = WJ at *
              have HWJ := Lib.hid hWJ
              clear hWJ
              have hO1 := HO.out.alloc (.cells #[.int .i64 x, .int .i64 y] 26)
              have hB1 := HB2.out.alloc hsz2 (.cells #[.int .i64 x, .int .i64 y] 26)
              have HO1 := Lib.hid hO1
              have HB1 := Lib.hid hB1
              clear hO1 hB1
              go_wp2_with (first | (at_builtin; refine wpList_append_own _ rfl _ _ 31 rfl w.heap.size 3 i0 (.int .i64 0) 1 8 Try.underlying31 hi hz0 hz1 hz2 rfl (by decide) _ _ _ rfl (HO1.out.alloc _) ⟨wr.heap.size + 1, 0, none⟩ 1 1 [.int .i64 (j : Int)] rfl rfl (cell_one_new2 _ _ _ _) (fun u hu => by simp at hu; subst hu; rfl) (by unfold maxLen; omega) (by omega) (by first | omega | (simp; omega)) ?_; intro v1 w3 hown1 hgrow hx; clear hx; have hO3 := Lib.hid hown1; have HG3 := Lib.hid hgrow; clear hown1 hgrow))
              have hB3 := (HB1.out.alloc (by simp; omega) _).grown HG3.out (by simp; omega) (fun k hk => (HO1.out.lt k hk).1)
              have hO4 := hO3.out
              obtain ⟨a3, c3, rfl⟩ := ownW_form hO4
              go_roundg (gk - 1)
              case rel => exact ⟨j + 1, a3, c3, by rw [HW.out]; simp, by go_num, by omega, by omega, by rw [HW.out]; simpa using hO4, hB3⟩
              case measure => omega
            · have HW := Lib.hid (show winK (ftA (n * l) xs) B (j + 1) = winK (ftA (n * l) xs) B j by simp only [winK]; rw [if_neg hf])
              have hge : ¬ n * l ≤ py xs j * B := fun q => hf (hq.1 q)
              have hd : decide (py xs j * B ≥ n * l) = false := by simp; omega
              clear hq hf
              generalize px xs j = x at *
              generalize py xs j = y at *
              go_wp2_with fail
              go_roundg (gk - 1)
              case rel => exact ⟨j + 1, ao, co, by rw [HW.out], by go_num, by omega, by omega, by rw [HW.out]; exact HO.out.alloc _, HB2.out.alloc hsz2 _⟩
              case measure => omega
        · have e : j = xs.length := by omega
          subst e
          have HO := Lib.hid hown
          have HB2 := Lib.hid hbel
          clear hown hbel
          go_wp2_with fail
          go_ret2
          rw [HLL.out, HV.out]
          exact ⟨ao, co, rfl, HO.out, HB2.out⟩
set_option maxHeartbeats 2000000 in
set_option maxRecDepth 100000 in
theorem implWinnerOfLaps (l : Int) (a : Option Addr) (cap : Nat) (xs : List (Int × Int)) (n : Int) (w : World) (h : RdP w a xs) (hn : xs.length ≤ 1048576) :
    Calls Try.prog 19 #[.int .i64 l, .slice a xs.length cap, .int .i64 n] w (RetS w (wnL l n xs) (wnB l n xs)) := by
  obtain ⟨i0, hi, hz0, hz1, hz2⟩ := info_parts intInfo
  cases hk : rns l xs
  · have HL := Lib.hid (show wnL l n xs = [] by unfold wnL; rw [show wnB l n xs = false by simp [wnB, hk]]; rfl); have HV := Lib.hid (show wnB l n xs = false by simp [wnB, hk])
    have HK := Lib.hid hk
    clear hk
    go_enter Try.func19, Try.ntmps19
    go_wp2_with (first | (go_at_call 45; refine (implAreRunners l a cap xs _ h hn).mono ?_; rw [HK.out]; rintro e w0 ⟨rfl, hb0⟩))
    go_ret2; rw [HL.out, HV.out]; exact ⟨none, 0, rfl, ⟨rfl, .inl ⟨rfl, rfl⟩⟩, hb0⟩
  cases ht : lpsOk n
  · have HL := Lib.hid (show wnL l n xs = [] by unfold wnL; rw [show wnB l n xs = false by simp [wnB, ht]]; rfl); have HV := Lib.hid (show wnB l n xs = false by simp [wnB, ht])
    have HK := Lib.hid hk
    have HT := Lib.hid (show lpsOk n = false from ht)
    clear hk ht
    go_enter Try.func19, Try.ntmps19
    go_wp2_with (first | (go_at_call 45; refine (implAreRunners l a cap xs _ h hn).mono ?_; rw [HK.out]; rintro e w0 ⟨rfl, hb0⟩) | (go_at_call 42; refine (toldLaps_any n _).mono ?_; rw [HT.out]; rintro e w1 ⟨rfl, rfl⟩))
    go_ret2; rw [HL.out, HV.out]; exact ⟨none, 0, rfl, ⟨rfl, .inl ⟨rfl, rfl⟩⟩, hb0⟩
  have hV : wnB l n xs = true := by simp [wnB, hk, ht]
  have HR := rns_at hk
  have n1 := HR.1
  have n6 := HR.2.1
  have H0 := rn1_iff.1 (HR.2.2 0 (by omega))
  have l1 := H0.1
  have l2 := H0.2.1
  have k1 := (lpsOk_iff.1 ht).1
  have k2 := (lpsOk_iff.1 ht).2
  have m1 := mul_bd n l 100 1000 (by omega) k2 (by omega) l2
  have m2 : 0 ≤ n * l := m1.1
  have m3 : n * l ≤ 100000 := by omega
  have HS := Lib.hid (show ∀ i, i < xs.length → 1 ≤ py xs i ∧ py xs i ≤ 100 from fun i hi => by have := rn1_iff.1 (HR.2.2 i hi); omega)
  have HF : Hid (∀ i, i < xs.length → 0 ≤ ftA (n * l) xs i ∧ ftA (n * l) xs i ≤ 100000) := fun i hi => ft_bd (HS.out i hi).1 m2 m3
  have HM : Hid (∀ j, j ≤ xs.length → 0 ≤ mnK (ftA (n * l) xs) (ftA (n * l) xs 0) j ∧ mnK (ftA (n * l) xs) (ftA (n * l) xs 0) j ≤ 1000000) := fun j hj => mnK_bd ⟨(HF.out 0 (by omega)).1, Int.le_trans (HF.out 0 (by omega)).2 (by decide)⟩ (fun i hi => by have := HF.out i hi; omega) j hj
  have HLL := Lib.hid (show wnL l n xs = winK (ftA (n * l) xs) (mnK (ftA (n * l) xs) (ftA (n * l) xs 0) xs.length) xs.length by unfold wnL; rw [hV]; rfl)
  have HV := Lib.hid hV
  have HK := Lib.hid hk
  have HT := Lib.hid (show lpsOk n = true from ht)
  have u1 : IntKind.i64.wrap (n * l) = n * l := IntWalk.i64_in _ (by omega)
  clear hk ht HR H0 m1 hV
  have n0I : (0 : Int) < (xs.length : Int) := by omega
  have h' := h
  rcases h with h | ⟨b, off, rfl, hlt, hc⟩
  · rw [h] at n1; simp at n1
  have HC := Lib.hid hc
  have c0 := (hc 0 (by omega)).1
  have c1 := (hc 0 (by omega)).2
  rw [Nat.zero_mul, Nat.add_zero] at c0 c1
  have y01 := (HS.out 0 (by omega)).1
  have y02 := (HS.out 0 (by omega)).2
  have HX0 := Lib.hid (show ft (n * l) (py xs 0) = ftA (n * l) xs 0 from rfl)
  clear hc
  generalize px xs 0 = x0 at *
  generalize py xs 0 = y0 at *
  go_enter Try.func19, Try.ntmps19
  go_wp2_with (first | (go_at_call 45; refine (implAreRunners l _ cap xs _ h' hn).mono ?_; rw [HK.out]; rintro e w0 ⟨rfl, hb0⟩; have d0 := (bcell hb0).1 b off hlt; have d1 := (bcell hb0).1 b (off + 1) hlt) | (go_at_call 42; refine (toldLaps_any n _).mono ?_; rw [HT.out]; rintro e w1 ⟨rfl, rfl⟩) | (go_at_call 46; refine (firstTime_any x0 y0 (n * l) y01 y02 m2 m3 _).mono ?_; rw [HX0.out]; rintro e w2 ⟨rfl, hb2⟩))
  have hb1 := Lib.hid (hb0.trans (hb2.mono hb0.size))
  clear hb0 hb2 d0 d1
  go_loopg [8, 32] xs.length (fun k v8 v32 wr => ∃ (j : Nat), v8 = .int .i64 (mnK (ftA (n * l) xs) (ftA (n * l) xs 0) j) ∧ v32 = .int .i64 (j : Int) ∧ j + k ≤ xs.length ∧ xs.length ≤ j + k ∧ Below w.heap.size w wr)
  case atStart => exact ⟨0, rfl, rfl, by omega, by omega, hb1.out⟩
  case round =>
    clear hb1
    obtain ⟨j, rfl, rfl, h1, h2, hbel⟩ := hrel
    have hsz := hbel.size
    by_cases hj : j < xs.length
    · have hcj : wr.cell? ⟨b, off + j * 2, none⟩ = some (.int .i64 (px xs j)) := by rw [(bcell hbel).1 b _ hlt]; exact (HC.out j hj).1
      have hck : wr.cell? ⟨b, off + j * 2 + 1, none⟩ = some (.int .i64 (py xs j)) := by rw [(bcell hbel).1 b _ hlt]; exact (HC.out j hj).2
      have hjI : (j : Int) < (xs.length : Int) := by omega
      have HB := Lib.hid hbel
      have y1 := (HS.out j hj).1
      have y2 := (HS.out j hj).2
      have HN := Lib.hid (show mnK (ftA (n * l) xs) (ftA (n * l) xs 0) (j + 1) = low (mnK (ftA (n * l) xs) (ftA (n * l) xs 0) j) (ft (n * l) (py xs j)) from rfl)
      clear hbel
      generalize px xs j = x at *
      generalize py xs j = y at *
      generalize mnK (ftA (n * l) xs) (ftA (n * l) xs 0) j = c at *
      have HFT := Lib.hid (firstTime_any x y (n * l) y1 y2 m2 m3)
      go_wp2_with (first | (go_at_call 46; refine (HFT.out _).mono ?_; rintro e w2 ⟨rfl, hb2⟩))
      all_goals
        go_roundg (gk - 1)
        case rel => exact ⟨j + 1, by rw [HN.out]; unfold low; (repeat' split) <;> first | rfl | (exfalso; omega) | (congr 1; omega), by go_num, by omega, by omega, bchain (HB.out.alloc (by omega) _) hb2 (by simp; omega)⟩
        case measure => omega
    · have e : j = xs.length := by omega
      subst e
      have bb := HM.out xs.length (Nat.le_refl _)
      have HB := Lib.hid hbel
      generalize hB : mnK (ftA (n * l) xs) (ftA (n * l) xs 0) xs.length = B at *
      have hown0 : World.ownsRow (wr.alloc (.cells #[] 3)) w.heap.size 3 1 (.slice (some ⟨wr.heap.size, 0, none⟩) 0 0) 0 [] := World.ownsRow_lit wr #[] 0 hsz (by decide) rfl
      have hbA := HB.out.alloc hsz (.cells #[] 3)
      clear hbel h1 h2
      have HBB := Lib.hid hB
      clear hB
      go_wp2_with fail
      go_loopg [11, 47] xs.length (fun k v11 v47 w2 => ∃ (j : Nat) (ao : Option Addr) (co : Nat), v11 = .slice ao (winK (ftA (n * l) xs) B j).length co ∧ v47 = .int .i64 (j : Int) ∧ j + k ≤ xs.length ∧ xs.length ≤ j + k ∧ w2.ownsRow w.heap.size 3 1 (.slice ao (winK (ftA (n * l) xs) B j).length co) (winK (ftA (n * l) xs) B j).length ((winK (ftA (n * l) xs) B j).map (Value.int .i64)) ∧ Below w.heap.size w w2)
      case atStart => exact ⟨0, some ⟨wr.heap.size, 0, none⟩, 0, rfl, rfl, by omega, by omega, hown0, hbA⟩
      case round =>
        clear hown0 hbA
        obtain ⟨j, ao, co, rfl, rfl, h1, h2, hown, hbel⟩ := hrel
        have hsz2 := hbel.size
        by_cases hj : j < xs.length
        · have hcj : wr.cell? ⟨b, off + j * 2, none⟩ = some (.int .i64 (px xs j)) := by rw [(bcell hbel).1 b _ hlt]; exact (HC.out j hj).1
          have hck : wr.cell? ⟨b, off + j * 2 + 1, none⟩ = some (.int .i64 (py xs j)) := by rw [(bcell hbel).1 b _ hlt]; exact (HC.out j hj).2
          have hjI : (j : Int) < (xs.length : Int) := by omega
          have y1 := (HS.out j hj).1
          have y2 := (HS.out j hj).2
          have hw := winK_len (f := ftA (n * l) xs) (b := B) j
          have HFT := Lib.hid (firstTime_any (px xs j) (py xs j) (n * l) y1 y2 m2 m3)
          have hO1 := hown.alloc (.cells #[.int .i64 (px xs j), .int .i64 (py xs j)] 26)
          have hB1 := hbel.alloc hsz2 (.cells #[.int .i64 (px xs j), .int .i64 (py xs j)] 26)
          have HO1 := Lib.hid hO1
          have HB1 := Lib.hid hB1
          clear hown hbel hO1 hB1
          by_cases hf : ftA (n * l) xs j = B
          · have HW := Lib.hid (show winK (ftA (n * l) xs) B (j + 1) = winK (ftA (n * l) xs) B j ++ [(j : Int)] by simp only [winK]; rw [if_pos hf])
            have hd : (ft (n * l) (py xs j) == B) = true := by simp; exact hf
            clear hf
            generalize px xs j = x at *
            generalize py xs j = y at *
            generalize ft (n * l) y = F at *
            generalize hWJ : winK (ftA (n * l) xs) B j = WJ at *
            have HWJ := Lib.hid hWJ
            clear hWJ
            go_wp2_with (first | (go_at_call 46; refine (HFT.out _).mono ?_; rintro e w2 ⟨rfl, hb2⟩; have HO2 := Lib.hid (row_below HO1.out hb2); have HB2 := Lib.hid (bchain HB1.out hb2 HB1.out.size); have hs2 := HB2.out.size) | (at_builtin; refine wpList_append_own _ rfl _ _ 31 rfl w.heap.size 3 i0 (.int .i64 0) 1 8 Try.underlying31 hi hz0 hz1 hz2 rfl (by decide) _ _ _ rfl (HO2.out.alloc _) ⟨w2.heap.size, 0, none⟩ 1 1 [.int .i64 (j : Int)] rfl rfl (cell_one_new _ _ _) (fun u hu => by simp at hu; subst hu; rfl) (by unfold maxLen; omega) (by omega) (by first | omega | (simp; omega)) ?_; intro v1 w3 hown1 hgrow hx; clear hx; have hO3 := Lib.hid hown1; have HG3 := Lib.hid hgrow; clear hown1 hgrow))
            have hB3 := (HB2.out.alloc hs2 _).grown HG3.out (by simp; omega) (fun k hk => (HO2.out.lt k hk).1)
            have hO4 := hO3.out
            obtain ⟨a3, c3, rfl⟩ := ownW_form hO4
            go_roundg (gk - 1)
            case rel => exact ⟨j + 1, a3, c3, by rw [HW.out]; simp, by go_num, by omega, by omega, by rw [HW.out]; simpa using hO4, hB3⟩
            case measure => omega
          · have HW := Lib.hid (show winK (ftA (n * l) xs) B (j + 1) = winK (ftA (n * l) xs) B j by simp only [winK]; rw [if_neg hf])
            have hd : (ft (n * l) (py xs j) == B) = false := by simp; exact hf
            clear hf
            generalize px xs j = x at *
            generalize py xs j = y at *
            generalize ft (n * l) y = F at *
            go_wp2_with (first | (go_at_call 46; refine (HFT.out _).mono ?_; rintro e w2 ⟨rfl, hb2⟩; have HO2 := Lib.hid (row_below HO1.out hb2); have HB2 := Lib.hid (bchain HB1.out hb2 HB1.out.size)))
            go_roundg (gk - 1)
            case rel => exact ⟨j + 1, ao, co, by rw [HW.out], by go_num, by omega, by omega, by rw [HW.out]; exact HO2.out, HB2.out⟩
            case measure => omega
        · have e : j = xs.length := by omega
          subst e
          have HO := Lib.hid hown
          have HB2 := Lib.hid hbel
          clear hown hbel
          go_wp2_with fail
          go_ret2
          rw [HLL.out, HV.out]
          exact ⟨ao, co, rfl, HO.out, HB2.out⟩
end Go.Proofs.Yteaefmngfomhgab
