/- Plain mathematics of the named laws of chapter 1's races: no program is named here. -/
import Derived.Test.YtadfjepfjbllmaaMathD
import Derived.Test.YtadfjepfjbllmaaMathS
namespace Go.Proofs.Ytadfjepfjbllmaa
open Go.RowKit
set_option linter.unusedVariables false

theorem climb_bd {u d n y : Int} (hs : snOk u d = true) (hn : inB n 1 1000000 = true) (hy : inB y 1 1000000 = true) : 0 ≤ low n (far u d y) ∧ low n (far u d y) ≤ 1000000 := by
  have a := far_bd u d y hs hy
  have b := inB_iff.1 hn
  have l := low_bd n (far u d y)
  omega
theorem opp_neg (a b : Int) : opp (-a) (-b) = opp a b := by
  have := opp_cases a b; have := opp_cases (-a) (-b); omega
theorem opp_bd (a b : Int) : 0 ≤ opp a b ∧ opp a b ≤ 1 := by have := opp_cases a b; omega
theorem lead_sym (u d v z n y : Int) : lead v z u d n y = - lead u d v z n y := by unfold lead; omega
theorem end_sym {u d v z n : Int} (hs : snOk u d = true) (ht : snOk v z = true) (hn : n ≤ 1000000) (hor : fd1 u d n = true ∨ fd1 v z n = true) : endDay v z u d n = endDay u d v z n := by
  have a1 := fd0_le (h := n) hs hn
  have a2 := fd0_le (h := n) ht hn
  unfold endDay
  cases hf : fd1 u d n <;> cases hg : fd1 v z n
  · rw [hf, hg] at hor; simp at hor
  · simp only [if_true, if_false, Bool.false_eq_true]; unfold low; split <;> omega
  · simp only [if_true, if_false, Bool.false_eq_true]; unfold low; split <;> omega
  · simp only [if_true]; unfold low; split <;> split <;> omega
theorem chg_sym {u d v z n : Int} (hs : snOk u d = true) (ht : snOk v z = true) (hn : n ≤ 1000000) (hor : fd1 u d n = true ∨ fd1 v z n = true) : chg v z u d n = chg u d v z n ∧ 0 ≤ chg u d v z n ∧ chg u d v z n ≤ 1 := by
  rw [chg_eq hs ht hn hor, chg_eq ht hs hn hor.symm, end_sym hs ht hn hor]
  refine ⟨?_, ?_⟩
  · unfold chgI
    rw [lead_sym u d v z n 1, lead_sym u d v z n (endDay u d v z n), lead_sym u d v z n (endDay u d v z n - 1)]
    by_cases h : lead u d v z n (endDay u d v z n) = 0 ∧ 1 < endDay u d v z n
    · rw [if_pos h, if_pos (by omega), opp_neg]
    · rw [if_neg h, if_neg (by omega), opp_neg]
  · exact opp_bd _ _

/-! with slips -/
theorem mo_po {up n : Int} {xs : List Int} (hs : slOk up xs = true) (hn : 1 ≤ n) (k : Nat) (h : ∀ j, j < k → ev0 up xs j < n) : moH up n xs k = po up xs 0 k := by
  induction k with
  | zero => rfl
  | succ k ih =>
    have e := ih fun j hj => h j (by omega)
    have q := h k (by omega)
    unfold ev0 at q
    have a := slOk_iff hs
    have s := a.2.2.2.2 k
    have p := po_nn (up := up) (xs := xs) (Int.le_refl 0) k
    simp only [moH, po, e]
    rw [low_lt q]; unfold mA hig
    split
    · omega
    · split <;> split <;> omega
theorem ev_ev0 {up n : Int} {xs : List Int} (hs : slOk up xs = true) (hn : 1 ≤ n) (k : Nat) (h : ∀ j, j < k → ev0 up xs j < n) : ev up n xs k = low n (ev0 up xs k) := by
  unfold ev ev0; rw [mo_po hs hn k h]
theorem ev_stay {up n : Int} {xs : List Int} (hs : slOk up xs = true) (hn : 1 ≤ n) (k : Nat) (h : ev up n xs k = n) (j : Nat) : ev up n xs (k + j) = n := by
  have a := slOk_iff hs
  induction j with
  | zero => exact h
  | succ j ih =>
    have q : moH up n xs (k + j + 1) = n := moH_top ih
    unfold ev; rw [← Nat.add_assoc, q]; exact low_ge (by omega)
theorem ev_top {up n D : Int} {xs : List Int} {ok : Bool} (hs : slOk up xs = true) (hn : 1 ≤ n) (ha : Ans up xs n D ok) (i : Nat) : ev up n xs i = n ↔ (ok = true ∧ D ≤ (i : Int) + 1) := by
  rcases ha with ⟨rfl, k, rfl, h1, h2⟩ | ⟨rfl, rfl, h⟩
  · have e := ev_ev0 hs hn k h2
    rw [low_ge h1] at e
    constructor
    · intro h
      refine ⟨rfl, ?_⟩
      by_cases hi : i < k
      · exfalso
        have e2 := ev_ev0 hs hn i fun j hj => h2 j (by omega)
        have := h2 i hi
        rw [low_lt this] at e2; omega
      · omega
    · intro ⟨_, h⟩
      have := ev_stay hs hn k e (i - k)
      rwa [show k + (i - k) = i from by omega] at this
  · have e := ev_ev0 hs hn i fun j _ => h j
    have := h i
    rw [low_lt this] at e
    constructor
    · intro q; omega
    · intro q; exact absurd q.1 (by simp)
theorem ev_rise {up n : Int} {xs : List Int} (hs : slOk up xs = true) (hn : 1 ≤ n) (i : Nat) (h : ev up n xs i < n) : ev up n xs (i + 1) ≤ ev up n xs i + up := by
  have a := slOk_iff hs
  have b := moH_bd hs hn i
  have s := a.2.2.2.2 i
  have e : moH up n xs (i + 1) = if ev up n xs i ≤ slp xs i then 0 else ev up n xs i - slp xs i := moH_low (by unfold ev at h; omega)
  have l := low_bd n (moH up n xs (i + 1) + up)
  have : ev up n xs (i + 1) = low n (moH up n xs (i + 1) + up) := rfl
  split at e <;> omega
/-- the highest evening so far -/
def mxE (up n : Int) (xs : List Int) : Nat → Int
  | 0 => 0
  | k + 1 => if mxE up n xs k < ev up n xs k then ev up n xs k else mxE up n xs k
theorem mxE_bd {up n : Int} {xs : List Int} (hs : slOk up xs = true) (hn : 1 ≤ n) (k : Nat) : 0 ≤ mxE up n xs k ∧ mxE up n xs k ≤ n := by
  induction k with
  | zero => exact ⟨Int.le_refl _, by show (0 : Int) ≤ n; omega⟩
  | succ k ih => have b := moH_bd hs hn k; simp only [mxE]; split <;> omega
theorem mxE_tp {up n : Int} {xs : List Int} (hs : slOk up xs = true) (hn : 1 ≤ n) (N : Nat) : (mxE up n xs N ≤ tp up xs 0 N) ∧ (mxE up n xs N < n → (∀ j, j < N → ev0 up xs j < n) ∧ tp up xs 0 N = mxE up n xs N) := by
  induction N with
  | zero => exact ⟨Int.le_refl _, fun _ => ⟨fun j hj => absurd hj (by omega), rfl⟩⟩
  | succ k ih =>
    have b := moH_bd hs hn k
    have c := hig_bd (tp up xs 0 k) (po up xs 0 k + up)
    have t : tp up xs 0 (k + 1) = hig (tp up xs 0 k) (po up xs 0 k + up) := rfl
    have bd := mxE_bd hs hn k
    have e0 : ev0 up xs k = po up xs 0 k + up := rfl
    by_cases hm : mxE up n xs k < n
    · obtain ⟨h1, h2⟩ := ih.2 hm
      have e := ev_ev0 hs hn k h1
      have l := low_bd n (ev0 up xs k)
      simp only [mxE]
      refine ⟨?_, fun q => ⟨fun j hj => ?_, ?_⟩⟩
      · split <;> omega
      · by_cases hj' : j < k
        · exact h1 j hj'
        · obtain rfl : j = k := by omega
          split at q <;> (unfold low at e; split at e <;> omega)
      · unfold hig at t
        unfold low at e
        split at q <;> split at e <;> split at t <;> split <;> omega
    · have ek : mxE up n xs k = n := by omega
      simp only [mxE]
      refine ⟨?_, fun q => ?_⟩
      · split <;> omega
      · exfalso; split at q <;> omega

/-! one slip alone -/
theorem slp_one (s : Int) (k : Nat) : slp [s] k = s := by unfold slp; simp [Nat.mod_one]
theorem po_one {up s : Int} (hs : slOk up [s] = true) (k : Nat) : po up [s] 0 k + up = far up s ((k : Int) + 1) := by
  have a := slOk_iff hs
  have s0 := a.2.2.2.2 0
  rw [slp_one] at s0
  unfold far
  rw [show ((k : Int) + 1 - 1) = (k : Int) from by omega]
  by_cases h : s < up
  · rw [gain_pos h]
    have key : ∀ k : Nat, po up [s] 0 k = (k : Int) * (up - s) := by
      intro k
      induction k with
      | zero => simp [po]
      | succ k ih =>
        have m : 0 ≤ (k : Int) * (up - s) := Int.mul_nonneg (by omega) (by omega)
        have e : ((k + 1 : Nat) : Int) * (up - s) = (k : Int) * (up - s) + (up - s) := by rw [show ((k + 1 : Nat) : Int) = (k : Int) + 1 from by omega, Int.add_mul, Int.one_mul]
        simp only [po, ih, slp_one]; unfold hig; rw [e]; split <;> omega
    rw [key k]; omega
  · rw [gain_zero (by omega)]
    have key : ∀ k : Nat, po up [s] 0 k = 0 := by
      intro k
      induction k with
      | zero => rfl
      | succ k ih => simp only [po, ih, slp_one]; unfold hig; split <;> omega
    rw [key k]; omega
theorem one_snOk {up s : Int} (hs : slOk up [s] = true) : snOk up s = true := by
  have a := slOk_iff hs
  have s0 := a.2.2.2.2 0
  rw [slp_one] at s0
  exact snOk_iff.2 ⟨a.1, a.2.1, s0.1, s0.2⟩
theorem far_mono {u d y x : Int} (hs : snOk u d = true) (h : y ≤ x) : far u d y ≤ far u d x := by
  have g := gain_bd u d hs
  have m : (y - 1) * gain u d ≤ (x - 1) * gain u d := Int.mul_le_mul_of_nonneg_right (by omega) g.1
  unfold far; omega
theorem ev_one {up n s : Int} (hs : slOk up [s] = true) (hn : 1 ≤ n) (k : Nat) : ev up n [s] k = low n (far up s ((k : Int) + 1)) := by
  have so := one_snOk hs
  by_cases h : ∀ j, j < k → ev0 up [s] j < n
  · rw [ev_ev0 hs hn k h]; unfold ev0; rw [po_one hs]
  · have ⟨j, hj⟩ : ∃ j, ¬ (j < k → ev0 up [s] j < n) := Classical.not_forall.1 h
    have ⟨hj1, hj2⟩ := Classical.not_imp.1 hj
    have e0 : ev0 up [s] j = far up s ((j : Int) + 1) := po_one hs j
    have m := far_mono (y := (j : Int) + 1) (x := (k : Int) + 1) so (by omega)
    rw [low_ge (by omega)]
    -- the first such day
    have key : ∀ j, j < k → n ≤ ev0 up [s] j → ∃ i, i < k ∧ n ≤ ev0 up [s] i ∧ ∀ l, l < i → ev0 up [s] l < n := by
      intro j
      induction j using Nat.strongRecOn with
      | ind j ih =>
        intro hjk hge
        by_cases hl : ∀ l, l < j → ev0 up [s] l < n
        · exact ⟨j, hjk, hge, hl⟩
        · have ⟨l, hl1⟩ := Classical.not_forall.1 hl
          have ⟨hl2, hl3⟩ := Classical.not_imp.1 hl1
          exact ih l hl2 (by omega) (by omega)
    obtain ⟨i, hi, hge, hlt⟩ := key j hj1 (by omega)
    have e := ev_ev0 hs hn i hlt
    rw [low_ge hge] at e
    have := ev_stay hs hn i e (k - i)
    rwa [show i + (k - i) = k from by omega] at this
theorem ans_one {up n s D : Int} {ok : Bool} (hs : slOk up [s] = true) (ha : Ans up [s] n D ok) : fd1 up s n = ok ∧ (ok = true → fd0 up s n = D) := by
  have so := one_snOk hs
  have e0 : ∀ j, ev0 up [s] j = far up s ((j : Int) + 1) := fun j => po_one hs j
  rcases ha with ⟨rfl, k, rfl, h1, h2⟩ | ⟨rfl, rfl, h⟩
  · have q : fd1 up s n = true := by
      cases hf : fd1 up s n
      · have := never_far (y := (k : Int) + 1) so hf; rw [e0] at h1; omega
      · rfl
    refine ⟨q, fun _ => ?_⟩
    have p := fd0_pos so q
    have a : fd0 up s n ≤ (k : Int) + 1 := by
      by_cases hle : fd0 up s n ≤ (k : Int) + 1
      · exact hle
      · have := early_far (n := n) (e := 0) (y := (k : Int) + 1) so (by omega) (fun _ => by omega); rw [e0] at h1; omega
    by_cases hlt : fd0 up s n ≤ (k : Int)
    · have hk : 1 ≤ (k : Int) := by omega
      have := h2 (k - 1) (by omega)
      rw [e0] at this
      have l := late_far (y := ((k - 1 : Nat) : Int) + 1) so (by omega) q (by omega)
      omega
    · omega
  · refine ⟨?_, fun q => absurd q (by simp)⟩
    cases hf : fd1 up s n
    · rfl
    · have p := fd0_pos so hf
      have l := late_far (y := fd0 up s n) so p hf (Int.le_refl _)
      have := h (fd0 up s n - 1).toNat
      rw [e0] at this
      rw [show (((fd0 up s n - 1).toNat : Nat) : Int) + 1 = fd0 up s n from by omega] at this
      omega
theorem ans_exists (up : Int) (xs : List Int) (n : Int) : ∃ (D : Int) (ok : Bool), Ans up xs n D ok := by
  by_cases h : ∃ k, n ≤ ev0 up xs k
  · have key : ∀ k, n ≤ ev0 up xs k → ∃ i, n ≤ ev0 up xs i ∧ ∀ l, l < i → ev0 up xs l < n := by
      intro k
      induction k using Nat.strongRecOn with
      | ind k ih =>
        intro hk
        by_cases hl : ∀ l, l < k → ev0 up xs l < n
        · exact ⟨k, hk, hl⟩
        · have ⟨l, hl1⟩ := Classical.not_forall.1 hl
          have ⟨hl2, hl3⟩ := Classical.not_imp.1 hl1
          exact ih l hl2 (by omega)
    obtain ⟨k, hk⟩ := h
    obtain ⟨i, h1, h2⟩ := key k hk
    exact ⟨(i : Int) + 1, true, .inl ⟨rfl, i, rfl, h1, h2⟩⟩
  · refine ⟨0, false, .inr ⟨rfl, rfl, fun j => ?_⟩⟩
    have := fun q : n ≤ ev0 up xs j => h ⟨j, q⟩
    exact Int.not_le.1 this
/-- what is known of the first evenings of a snail with slips -/
structure HF (up nn yy : Int) (xs hs : List Int) (D : Int) (seven : Bool) (M : Nat → Int) (F : Int) : Prop where
  len : (hs.length : Int) = yy
  big : hs.length ≤ 1000
  pos : 1 ≤ hs.length
  up1 : 1 ≤ up ∧ up ≤ 1000
  nn1 : 1 ≤ nn ∧ nn ≤ 1000000
  bd : ∀ i, i < hs.length → 1 ≤ hs.getD i 0 ∧ hs.getD i 0 ≤ nn
  top : ∀ i, i < hs.length → (hs.getD i 0 = nn ↔ (seven = true ∧ D ≤ (i : Int) + 1))
  rise : ∀ i, i + 1 < hs.length → hs.getD i 0 < nn → hs.getD (i + 1) 0 ≤ hs.getD i 0 + up
  m0 : M 0 = 0
  ms : ∀ i, i < hs.length → M (i + 1) = if M i < hs.getD i 0 then hs.getD i 0 else M i
  mn : M hs.length ≤ nn
  mf : M hs.length ≤ F
  me : M hs.length < nn → F = M hs.length
theorem evs_getD {up n : Int} {xs : List Int} {N i : Nat} (h : i < N) : (evs up n xs N).getD i 0 = ev up n xs i := by
  simp [evs, List.getD, h]
theorem hf_of {up nn yy D : Int} {xs : List Int} {ok : Bool} (hs : slOk up xs = true) (h1 : inB nn 1 1000000 = true) (h2 : inB yy 1 1000 = true) (ha : Ans up xs nn D ok) :
    HF up nn yy xs (evs up nn xs yy.toNat) D ok (mxE up nn xs) (tp up xs 0 yy.toNat) := by
  have s := slOk_iff hs
  have b := inB_iff.1 h1
  have c := inB_iff.1 h2
  have len : (evs up nn xs yy.toNat).length = yy.toNat := evs_length _ _ _ _
  have m := mxE_tp hs b.1 yy.toNat
  refine ⟨by rw [len]; omega, by rw [len]; omega, by rw [len]; omega, ⟨s.1, s.2.1⟩, b, fun i hi => ?_, fun i hi => ?_, fun i hi hlt => ?_, rfl, fun i hi => ?_, ?_, ?_, ?_⟩
  · rw [len] at hi; rw [evs_getD hi]; exact (moH_bd hs b.1 i).2.2
  · rw [len] at hi; rw [evs_getD hi]; exact ev_top hs b.1 ha i
  · rw [len] at hi; rw [evs_getD (show i < _ by omega)] at hlt ⊢; rw [evs_getD hi]; exact ev_rise hs b.1 i hlt
  · rw [len] at hi; rw [evs_getD hi]; rfl
  · rw [len]; exact (mxE_bd hs b.1 _).2
  · rw [len]; exact m.1
  · rw [len]; exact fun q => (m.2 q).2
end Go.Proofs.Ytadfjepfjbllmaa
