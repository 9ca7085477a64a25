/- The day of a snail with changing slips: the program's way and the model's by contracts. -/
import Derived.Test.YtadfjepfjbllmaaProg
import Derived.Test.YtadfjepfjbllmaaOneWalks
import Derived.Test.YtadfjepfjbllmaaMathS
import Derived.Test.YtadfjepfjbllmaaOneHei
import Derived.Test.YtadfjepfjbllmaaOneRnd
import Derived.Test.YtadfjepfjbllmaaMapB
import Derived.Deep.LoopGhost
import Derived.Deep.QuietTactic
import Derived.BigQuiet
import Derived.WalkKit
import Derived.WalkSpells
import Derived.WalkLawsBesides
import Derived.Lib.Hide
import Derived.WalkArith
namespace Go.Proofs.Ytadfjepfjbllmaa
open Go.RowKit
set_option linter.unusedVariables false
set_option linter.unusedSimpArgs false
set_option maxRecDepth 100000
def DwPost (up : Int) (xs : List Int) (n : Int) (w : World) (e : Ending) (w' : World) : Prop :=
  ∃ (D : Int) (ok : Bool), e = .returned (.tuple #[.int .i64 D, .bool ok]) ∧ ((slOk up xs && inB n 1 1000000) = true → Ans up xs n D ok) ∧ ((slOk up xs && inB n 1 1000000) = false → D = 0 ∧ ok = false) ∧ Below w.heap.size w w'
theorem dw_no {up : Int} {xs : List Int} {n : Int} {w w' : World} (h : (slOk up xs && inB n 1 1000000) = false) (hb : Below w.heap.size w w') : DwPost up xs n w (.returned (.tuple #[.int .i64 0, .bool false])) w' :=
  ⟨0, false, rfl, fun k => (by rw [h] at k; cases k), fun _ => ⟨rfl, rfl⟩, hb⟩
theorem dw_yes {up : Int} {xs : List Int} {n D : Int} {ok : Bool} {w w' : World} (h : (slOk up xs && inB n 1 1000000) = true) (ha : Ans up xs n D ok) (hb : Below w.heap.size w w') : DwPost up xs n w (.returned (.tuple #[.int .i64 D, .bool ok])) w' :=
  ⟨D, ok, rfl, fun _ => ha, fun k => (by rw [h] at k; cases k), hb⟩
theorem mod_at {L a i : Nat} (hi : i < L) : (L * a + i) % L = i := by rw [Nat.mul_add_mod]; exact Nat.mod_eq_of_lt hi
set_option maxHeartbeats 2000000 in
theorem specDays (up n : Int) (a : Option Addr) (cap : Nat) (xs : List Int) (w : World) (h : Rd w a xs) (hn0 : xs.length ≤ 4611686018427387904) :
    Calls Try.prog 18 #[.int .i64 up, .slice a xs.length cap, .int .i64 n] w (DwPost up xs n w) := by
  cases hs : slOk up xs <;> cases hy : inB n 1 1000000
  case true.true =>
    have HV := Lib.hid (show (slOk up xs && inB n 1 1000000) = true by rw [hs, hy]; rfl)
    obtain ⟨u1, u2, l1, l2, hsl⟩ := slOk_iff hs
    have n1 := (inB_iff.1 hy).1
    have n2 := (inB_iff.1 hy).2
    rcases h with h | ⟨b, off, rfl, hlt, hc⟩
    · rw [h] at l1; exact absurd l1 (by simp)
    have HSL := Lib.hid hsl
    have HC := Lib.hid hc
    have HS := Lib.hid hs
    have HY := Lib.hid hy
    clear hsl hc hs hy
    go_enter Try.func18, Try.ntmps18
    go_wp2_with (first | (go_at_call 43; refine (snSlips_any up _ cap xs _ (.inr ⟨b, off, rfl, hlt, HC.out⟩) hn0).mono ?_; rw [HS.out]; rintro e w1 ⟨rfl, rfl⟩) | (go_at_call 45; refine (specIn _ _ _ _).mono ?_; rw [HY.out]; rintro e w1 ⟨rfl, rfl⟩) | go_in)
    go_loopg [8, 9, 10] 13000000 (fun g v8 v9 v10 wr => ∃ (A i : Nat), v8 = .int .i64 (po up xs 0 (xs.length * A + i)) ∧ v9 = .int .i64 (mr up xs A) ∧ v10 = .int .i64 (((xs.length * A + i : Nat) : Int) + 1) ∧ i < xs.length ∧ ((A : Nat) : Int) ≤ mr up xs A ∧ mr up xs A < n ∧ xs.length * A + i + g ≤ 13000000 ∧ 13000000 ≤ xs.length * A + i + g ∧ Hid (∀ j, j < xs.length * A + i → ev0 up xs j < n) ∧ w = wr)
    case atStart => exact ⟨0, 0, rfl, by rw [mr_zero], rfl, by omega, by rw [mr_zero]; omega, by rw [mr_zero]; omega, by omega, by omega, fun j hj => absurd hj (by omega), rfl⟩
    case round =>
      obtain ⟨A, i, rfl, rfl, rfl, i1, a1, a2, g1, g2, HL, rfl⟩ := hrel
      have hA : A < 1000000 := by omega
      have hk : xs.length * A + i < 13000000 := by
        have : xs.length * A ≤ 12 * A := Nat.mul_le_mul_right _ l2
        omega
      have hmod : (xs.length * A + i) % xs.length = i := mod_at i1
      have s1 := HSL.out (xs.length * A + i)
      have hcell : w.cell? ⟨b, off + i, none⟩ = some (.int .i64 (slp xs (xs.length * A + i))) := by
        rw [HC.out i i1]; unfold slp; rw [hmod]
      have q1 := po_nn (up := up) (xs := xs) (h := 0) (Int.le_refl _) (xs.length * A + i)
      have hz : xs.length * A + i = 0 ∨ po up xs 0 (xs.length * A + i) < n := by
        rcases Nat.eq_zero_or_pos (xs.length * A + i) with q | q
        · exact .inl q
        · right
          obtain ⟨m, hm⟩ : ∃ m, xs.length * A + i = m + 1 := ⟨xs.length * A + i - 1, by omega⟩
          have := HL.out m (by omega)
          rw [hm, po_next]
          unfold ev0 at this
          have := HSL.out m
          split <;> omega
      have q2 : po up xs 0 (xs.length * A + i) < n := by
        rcases hz with q | q
        · rw [q]; simp only [po]; omega
        · exact q
      have HM := Lib.hid hmod
      have HP := Lib.hid (show hig 0 (po up xs 0 (xs.length * A + i) + up - slp xs (xs.length * A + i)) = po up xs 0 (xs.length * A + i + 1) from rfl)
      have HEv := Lib.hid (show ev0 up xs (xs.length * A + i) = po up xs 0 (xs.length * A + i) + up from rfl)
      have HMr := Lib.hid (show i + 1 = xs.length → po up xs 0 (xs.length * A + i + 1) = mr up xs (A + 1) from fun e => by unfold mr; rw [Nat.mul_succ, ← e]; rfl)
      clear hmod hz
      generalize hkk : xs.length * A + i = k at *
      generalize po up xs 0 k = H at *
      generalize slp xs k = s at *
      have i1I : (i : Int) < (xs.length : Int) := by omega
      have l3 : (xs.length : Int) ≤ 12 := by omega
      have l4 : 1 ≤ (xs.length : Int) := by omega
      by_cases hw : n ≤ H + up
      · go_wp2_with fail
        go_ret2
        exact dw_yes HV.out (.inl ⟨rfl, k, rfl, by rw [HEv.out]; exact hw, HL.out⟩) (Below.refl _ _)
      · have HL2 : Hid (∀ j, j < k + 1 → ev0 up xs j < n) := fun j hj => by
          by_cases q : j = k
          · subst q; rw [HEv.out]; omega
          · exact HL.out j (by omega)
        have eM : ((k : Int)) % (xs.length : Int) = (i : Int) := by
          have := HM.out; omega
        have eM2 : ((k : Int) + 1 - 1) % (xs.length : Int) = (i : Int) := by
          rw [show (k : Int) + 1 - 1 = (k : Int) from by omega]; exact eM
        by_cases hi2 : i + 1 = xs.length
        · have HN := Lib.hid (HMr.out hi2)
          have eM3 : ((k : Int) + 1) % (xs.length : Int) = 0 := by
            have e : ((k : Int) + 1) = (xs.length : Int) * ((A : Int) + 1) := by
              have : ((xs.length * A + i : Nat) : Int) = (xs.length : Int) * (A : Int) + (i : Int) := by simp
              rw [Int.mul_add, Int.mul_one]; omega
            rw [e]; exact Int.mul_emod_right _ _
          by_cases hst : mr up xs (A + 1) ≤ mr up xs A
          · have HF := Lib.hid (never l1 hst (fun j hj => HL2.out j (by rw [Nat.mul_succ] at hj; omega)))
            go_wp2_with (first | (go_at_call 46; refine (most_hig 0 (H + up - s) _).mono ?_; rw [HP.out, HN.out]; rintro e w1 ⟨rfl, rfl⟩))
            go_ret2
            exact dw_yes HV.out (.inr ⟨rfl, rfl, HF.out⟩) (Below.refl _ _)
          · have HF := Lib.hid (mr_lt HS.out n1 (a := A + 1) (fun j hj => HL2.out j (by rw [Nat.mul_succ] at hj; omega)))
            go_wp2_with (first | (go_at_call 46; refine (most_hig 0 (H + up - s) _).mono ?_; rw [HP.out, HN.out]; rintro e w1 ⟨rfl, rfl⟩))
            go_roundg (gk - 1)
            case rel => exact ⟨A + 1, 0, rfl, rfl, by rw [show ((xs.length * (A + 1) + 0 : Nat) : Int) + 1 = (k : Int) + 1 + 1 from by rw [Nat.mul_succ]; omega], by omega, by omega, HF.out, by rw [Nat.mul_succ]; omega, by rw [Nat.mul_succ]; omega, fun j hj => HL2.out j (by rw [Nat.mul_succ] at hj; omega), rfl⟩
            case measure => omega
        · have eM3 : ((k : Int) + 1) % (xs.length : Int) = (i : Int) + 1 := by
            have : (k + 1) % xs.length = i + 1 := by rw [← hkk, Nat.add_assoc]; exact mod_at (by omega)
            rw [show (k : Int) + 1 = ((k + 1 : Nat) : Int) from by omega, ← Int.natCast_emod, this]; omega
          have x0 : ¬ (i : Int) + 1 = 0 := by omega
          have x1 : ((i : Int) + 1 == 0) = false := by simp; omega
          go_wp2_with (first | (go_at_call 46; refine (most_hig 0 (H + up - s) _).mono ?_; rw [HP.out]; rintro e w1 ⟨rfl, rfl⟩))
          go_roundg (gk - 1)
          case rel => exact ⟨A, i + 1, by rw [← Nat.add_assoc, hkk], rfl, by rw [show ((xs.length * A + (i + 1) : Nat) : Int) + 1 = (k : Int) + 1 + 1 from by omega], by omega, a1, a2, by omega, by omega, fun j hj => HL2.out j (by omega), rfl⟩
          case measure => omega
  all_goals
    have HV := Lib.hid (show (slOk up xs && inB n 1 1000000) = false by rw [hs, hy]; rfl)
    have HS := Lib.hid hs
    have HY := Lib.hid hy
    clear hs hy
    go_enter Try.func18, Try.ntmps18
    go_wp2_with (first | (go_at_call 43; refine (snSlips_any up _ cap xs _ h hn0).mono ?_; rw [HS.out]; rintro e w1 ⟨rfl, rfl⟩) | (go_at_call 45; refine (specIn _ _ _ _).mono ?_; rw [HY.out]; rintro e w1 ⟨rfl, rfl⟩) | go_in)
    go_ret2
    exact dw_no HV.out (Below.refl _ _)
theorem atB {D : DataW Unit} {l : Lit} {z : DataW Unit} {b c : Bool} (h : D.atKey l z = .lit (.bool b)) (hat : D.atKey l z = .lit (.bool c)) : c = b := by
  rw [h] at hat; injection hat with hat; injection hat with hat; exact hat.symm
theorem ownsMap_below {w w' : World} {P : Program} {k : TypeId} {R : Value → Option (DataW Unit × List MemPlace)} {b n : Nat} {D : DataW Unit} (h : w.ownsMap P k R b n D) (hb : Below w.heap.size w w') : w'.ownsMap P k R b n D := by
  have hlt := h.lt
  obtain ⟨es, clock, hbk, F, hs, hD⟩ := h
  exact ⟨es, clock, (hb.block b hlt).trans hbk, F, hs, hD⟩
theorem low_before {up n : Int} {xs : List Int} {A j : Nat} (h : ∀ i, i < xs.length * A → ev0 up xs i < n) (k : ∀ i, i < j → po up xs (mr up xs A) i + up < n) : ∀ i, i < xs.length * A + j → ev0 up xs i < n := fun i hi => by
  by_cases q : i < xs.length * A
  · exact h i q
  · obtain ⟨t, rfl⟩ : ∃ t, i = xs.length * A + t := ⟨i - xs.length * A, by omega⟩
    rw [ev0_split]; exact k t (by omega)
theorem tp_lt {up n : Int} {xs : List Int} {h : Int} (hn : 0 < n) : ∀ N, (∀ i, i < N → po up xs h i + up < n) → tp up xs h N < n
  | 0, _ => hn
  | N + 1, k => by
    have a := tp_lt hn N (fun i hi => k i (by omega))
    have b := k N (by omega)
    have c := hig_bd (tp up xs h N) (po up xs h N + up)
    simp only [tp]; omega
theorem isKeyI {k : IntKind} {x : Int} : WideAt.IsKeyLit (.int k x) := by trivial
theorem neI {x y : Int} (h : x ≠ y) : Lit.int .i64 x ≠ Lit.int .i64 y := fun e => by injection e with _ e; exact h e
theorem zeroB (w : World) : (zeroValue 4).run Try.prog w = .ok (.bool false) w := by kernel_rfl
theorem lawI : Maps.Keyed Try.prog 3 := Maps.int_keyed Try.underlying3
def FreshAt (up n : Int) (xs : List Int) (A : Nat) (D : DataW Unit) : Prop := (A : Int) ≤ mr up xs A ∧ mr up xs A < n ∧ (∀ j, j < xs.length * A → ev0 up xs j < n) ∧ Maps.IsMap D ∧ ∀ x : Int, mr up xs A ≤ x → D.atKey (.int .i64 x) (.lit (.bool false)) = .lit (.bool false)
def StuckAt (up n : Int) (xs : List Int) (h : Int) (D : DataW Unit) : Prop := (∀ j, ev0 up xs j < n) ∧ D.atKey (.int .i64 h) (.lit (.bool false)) = .lit (.bool true)
set_option maxHeartbeats 2000000 in
set_option maxRecDepth 100000 in
theorem implDays (up n : Int) (a : Option Addr) (cap : Nat) (xs : List Int) (w : World) (h : Rd w a xs) (hn0 : xs.length ≤ 4611686018427387904) :
    Calls Try.prog 17 #[.int .i64 up, .slice a xs.length cap, .int .i64 n] w (DwPost up xs n w) := by
  cases hs : slOk up xs <;> cases hy : inB n 1 1000000
  case true.true =>
    have HV := Lib.hid (show (slOk up xs && inB n 1 1000000) = true by rw [hs, hy]; rfl)
    obtain ⟨u1, u2, l1, l2, hsl⟩ := slOk_iff hs
    have n1 := (inB_iff.1 hy).1
    have n2 := (inB_iff.1 hy).2
    have HR := Lib.hid h
    have HS := Lib.hid hs
    have HY := Lib.hid hy
    clear hsl hs hy h
    have hmm := @run_makeMap Try.prog
    go_enter Try.func17, Try.ntmps17
    go_wp2_with fail
    go_step3
    go_wp2_with (first | (go_at_call 40; refine (isClimb_any up _ cap xs _ HR.out hn0).mono ?_; rw [HS.out]; rintro e w1 ⟨rfl, rfl⟩) | (go_at_call 41; refine (implIn _ _ _ _).mono ?_; rw [HY.out]; rintro e w1 ⟨rfl, rfl⟩) | go_in)
    go_step3
    go_wp2_with fail
    clear hmm
    go_loopg [8, 9, 10] (n.toNat) (fun g v8 v9 v10 wr => ∃ (A nm : Nat) (D : DataW Unit), v8 = .int .i64 0 ∧ v9 = .int .i64 ((xs.length * A : Nat) : Int) ∧ v10 = .int .i64 (mr up xs A) ∧ wr.ownsMap Try.prog 3 (plainElem Try.prog 4) w.heap.size nm D ∧ Hid ((FreshAt up n xs A D ∧ (g : Int) = n - mr up xs A ∧ nm + g ≤ 1000000) ∨ StuckAt up n xs (mr up xs A) D) ∧ mr up xs A < n ∧ Below w.heap.size w wr)
    case atStart => exact ⟨0, 0, .map [], rfl, rfl, by rw [mr_zero], World.ownsMap_made _ _ _ _, .inl ⟨⟨by rw [mr_zero]; omega, by rw [mr_zero]; omega, fun j hj => absurd hj (by omega), Maps.isMap_empty, fun x hx => rfl⟩, by rw [mr_zero]; omega, by omega⟩, by rw [mr_zero]; omega, (Below.refl _ _).alloc (Nat.le_refl _) _⟩
    case round =>
      obtain ⟨A, nm, D, rfl, rfl, rfl, hown, HD, a2, hbel⟩ := hrel
      obtain ⟨OG, rfl⟩ : ∃ G, G = gk := ⟨_, rfl⟩
      have a1 := mr_nn up xs A
      have hwf : (Lit.int .i64 (mr up xs A)).wf = true := Go.WalkArith.wf_i64 (by omega)
      have hkey := Maps.keyOf_int_mk (P := Try.prog) Try.underlying3 hwf
      have HO := Lib.hid hown
      have HB := Lib.hid hbel
      have HK := Lib.hid hkey
      clear hown hbel hkey hwf
      rcases HD.out with ⟨⟨f1, f2, f3, f4, f5⟩, g1, g2⟩ | ⟨s1, s2⟩
      · have hat0 := f5 (mr up xs A) (Int.le_refl _)
        have HF := Lib.hid (And.intro f3 (And.intro f4 f5))
        have HA := Lib.hid hat0
        clear HD f3 f4 f5 hat0
        have G0 : 0 < OG := by omega
        have hh1 : mr up xs A ≤ 4000000000 := by omega
        have HRB := Lib.hid (HR.out.below HB.out)
        go_wp2_with (first | (at_lookup; refine wpList_lookup_bool _ rfl _ _ 60 rfl 3 4 lawI Try.underlying60 Try.underlying4 (zeroB _) w.heap.size nm D rfl HO.out _ _ rfl HK.out ?_; intro c hat; obtain rfl : c = false := atB HA.out hat; clear hat) | (at_mapUpdate; refine wpList_mapUpdate_own _ rfl _ _ _ 60 rfl 3 4 lawI Try.underlying60 (plainElem (H := Unit) Try.prog 4) w.heap.size nm D rfl HO.out (by unfold maxLen; omega) _ _ _ rfl rfl HK.out _ [] (plainElem_bool Try.underlying4 true) ?_; intro w1 hown1 hgrow1; have HO1 := Lib.hid hown1; have HB1 := Lib.hid (HB.out.grown hgrow1 HB.out.size (fun k hk => by cases hk; exact Nat.le_refl _)); clear hown1 hgrow1) | (go_at_call 47; refine (roundFrom_full (mr up xs A) up a cap xs _ HS.out (HR.out.below HB1.out) a1 hh1).mono ?_; rintro e w2 ⟨x0, x1, x2, x3, x4, x5, x6, x7, x8, x9, x10, x11, rfl, HX, hb2⟩; have HB2 := Lib.hid (HB1.out.trans (hb2.mono HB1.out.size)); have HO2 := Lib.hid (ownsMap_below HO1.out hb2); clear hb2))
        obtain ⟨W, hW⟩ : ∃ W, W = w2.alloc (Obj.cells #[.int .i64 x0, .int .i64 x1, .int .i64 x2, .int .i64 x3, .int .i64 x4, .int .i64 x5, .int .i64 x6, .int .i64 x7, .int .i64 x8, .int .i64 x9, .int .i64 x10, .int .i64 x11, .int .i64 (tp up xs (mr up xs A) xs.length), .int .i64 (po up xs (mr up xs A) xs.length)] 63) := ⟨_, rfl⟩
        rw [← hW]
        have hWs : W.heap.size = w2.heap.size + 1 := by rw [hW]; simp
        have hcW : ∀ j, W.cell? ⟨w2.heap.size, j, none⟩ = (#[.int .i64 x0, .int .i64 x1, .int .i64 x2, .int .i64 x3, .int .i64 x4, .int .i64 x5, .int .i64 x6, .int .i64 x7, .int .i64 x8, .int .i64 x9, .int .i64 x10, .int .i64 x11, .int .i64 (tp up xs (mr up xs A) xs.length), .int .i64 (po up xs (mr up xs A) xs.length)] : Array Value)[j]? := fun j => by rw [hW, World.cell?_alloc_new]
        have hfW : W.frozen? ⟨w2.heap.size, 13, none⟩ = false := by rw [hW]; go_simp
        have HBW : Hid (Below w.heap.size w W) := by rw [hW]; exact HB2.out.alloc HB2.out.size _
        have HOW := Lib.hid (show W.ownsMap Try.prog 3 (plainElem Try.prog 4) w.heap.size (nm + 1) (D.put (.int .i64 (mr up xs A)) (.lit (.bool true))) by rw [hW]; exact HO2.out.alloc _)
        have hbB := Lib.hid HB2.out.size
        have hlB := Lib.hid HO2.out.lt
        have HC : Hid (∀ i, i < xs.length → W.cell? ⟨w2.heap.size, i, none⟩ = some (.int .i64 (po up xs (mr up xs A) i + up))) := fun i hi => by rw [hcW, HX.out i hi]
        have hc12 : W.cell? ⟨w2.heap.size, 12, none⟩ = some (.int .i64 (tp up xs (mr up xs A) xs.length)) := by rw [hcW]; rfl
        have hc13 : W.cell? ⟨w2.heap.size, 13, none⟩ = some (.int .i64 (mr up xs (A + 1))) := by rw [hcW, mr_succ]; rfl
        have HPB := Lib.hid (fun i => po_bd (xs := xs) HS.out a1 i)
        clear hW hcW HX HO1 HO2 HB1 HB2 HRB hh1
        generalize w2.heap.size = B2 at *
        have hA2 : A < 1000000 := by omega
        have hLA : xs.length * A ≤ 12 * A := Nat.mul_le_mul_right _ l2
        have l3 : (xs.length : Int) ≤ 12 := by omega
        go_loopg [8, 38] xs.length (fun g v8 v38 wr => ∃ j : Nat, v8 = .int .i64 0 ∧ v38 = .int .i64 (j : Int) ∧ j + g ≤ xs.length ∧ xs.length ≤ j + g ∧ Hid (∀ i, i < j → po up xs (mr up xs A) i + up < n) ∧ W = wr)
        case atStart => exact ⟨0, rfl, rfl, by omega, by omega, fun i hi => absurd hi (Nat.not_lt_zero _), rfl⟩
        case round =>
          obtain ⟨j, rfl, rfl, j1, j2, HL, rfl⟩ := hrel
          by_cases hj : j < xs.length
          · have hcj := HC.out j hj
            have pb := HPB.out j
            have hjI : (j : Int) < (xs.length : Int) := by omega
            have HE := Lib.hid (ev0_split up xs A j)
            generalize hev : po up xs (mr up xs A) j = e at *
            by_cases hw : n ≤ e + up
            · go_wp2_with fail
              rw [Exit.noGoto_ret]
              go_ret2
              have hp : (0 : Int) < (xs.length : Int) * (A : Int) + (j : Int) + 1 := by
                have := Int.mul_nonneg (show (0 : Int) ≤ (xs.length : Int) by omega) (show (0 : Int) ≤ (A : Int) by omega)
                omega
              show DwPost up xs n w (.returned (.tuple #[.int .i64 ((xs.length : Int) * (A : Int) + (j : Int) + 1), .bool (decide (0 < (xs.length : Int) * (A : Int) + (j : Int) + 1))])) _
              rw [decide_eq_true hp]
              exact dw_yes HV.out (.inl ⟨rfl, xs.length * A + j, by simp, by rw [HE.out]; exact hw, low_before HF.out.1 HL.out⟩) HBW.out
            · go_wp2_with fail
              go_roundg (gk - 1)
              case rel => exact ⟨j + 1, rfl, by go_num, by omega, by omega, fun i hi => by
                by_cases q : i = j
                · rw [q, hev]; omega
                · exact HL.out i (by omega), rfl⟩
              case measure => omega
          · have e : j = xs.length := by omega
            subst e
            have HN := Lib.hid (show ∀ i, i < xs.length * (A + 1) → ev0 up xs i < n from fun i hi => low_before HF.out.1 HL.out i (by rw [Nat.mul_succ] at hi; omega))
            have hmn := mr_lt HS.out n1 (a := A + 1) HN.out
            have hT := tp_lt (up := up) (xs := xs) (h := mr up xs A) (n := n) (by omega) xs.length HL.out
            have hT0 := tp_nn (up := up) (xs := xs) (h := mr up xs A) xs.length
            have hmono := (mr_lin up xs A).2.1
            have HSK := Lib.hid (fun (hA : 1 ≤ A) (hg : 1 ≤ mr up xs (A + 1) - mr up xs A) => skip_all (n := n) hA rfl hg rfl hT HN.out)
            have b0 := mr_nn up xs (A + 1)
            have hcast : ((xs.length * (A + 1) : Nat) : Int) = (xs.length : Int) * (A : Int) + (xs.length : Int) := by rw [Nat.mul_succ]; simp
            clear HPB HC HL
            generalize hTT : tp up xs (mr up xs A) xs.length = T at *
            by_cases hst : mr up xs (A + 1) = mr up xs A
            · have HST := Lib.hid hst
              have x0 : ¬ 0 < mr up xs (A + 1) - mr up xs A := by omega
              have x1 : decide (0 < mr up xs (A + 1) - mr up xs A) = false := by simp; omega
              clear hst
              go_wp2_with fail
              go_roundg 0
              case rel => exact ⟨A + 1, nm + 1, _, rfl, by rw [hcast], rfl, HOW.out, .inr ⟨never l1 (by rw [HST.out]; exact Int.le_refl _) HN.out, by rw [HST.out]; exact Maps.atKey_put_same HF.out.2.1 isKeyI _ _⟩, hmn, HBW.out⟩
              case measure => exact G0
            · have hgt : mr up xs A < mr up xs (A + 1) := by omega
              have x0 : 0 < mr up xs (A + 1) - mr up xs A := by omega
              have x1 : decide (0 < mr up xs (A + 1) - mr up xs A) = true := by simp; omega
              clear hst hmono
              by_cases hA0 : A = 0
              · have x2 : ¬ (xs.length : Int) < (xs.length : Int) * (A : Int) + (xs.length : Int) := by rw [hA0]; simp
                have x3 : decide ((xs.length : Int) < (xs.length : Int) * (A : Int) + (xs.length : Int)) = false := by simp; omega
                clear hA0
                go_wp2_with fail
                go_roundg (n - mr up xs (A + 1)).toNat
                case rel =>
                  refine ⟨A + 1, nm + 1, _, rfl, by rw [hcast], rfl, HOW.out, .inl ⟨⟨by omega, hmn, HN.out, HF.out.2.1.put _ _, fun x hx => ?_⟩, ?_, ?_⟩, hmn, HBW.out⟩
                  · rw [Maps.atKey_put_other (neI (by omega))]; exact HF.out.2.2 x (by omega)
                  · omega
                  · omega
                case measure => omega
              · obtain ⟨s, hs1, hs2, hs3⟩ := HSK.out (by omega) (by omega)
                have hm3 := mr_lt HS.out n1 (a := A + 1 + s) hs3
                have hm4 := mr_nn up xs (A + 1 + s)
                have hg2 : (s : Int) * 1 ≤ (s : Int) * (mr up xs (A + 1) - mr up xs A) := Int.mul_le_mul_of_nonneg_left (by omega) (by omega)
                have hs5 : (s : Int) ≤ 1000000 := by omega
                have hs6 : 0 ≤ (s : Int) * (mr up xs (A + 1) - mr up xs A) ∧ (s : Int) * (mr up xs (A + 1) - mr up xs A) ≤ 1000000 := by omega
                have hs7 := mul_bd (s : Int) (xs.length : Int) 1000000 12 (by omega) hs5 (by omega) l3
                have hLn : (0 : Int) < (xs.length : Int) * (A : Int) := Int.mul_pos (by omega) (by omega)
                have x3 : (xs.length : Int) < (xs.length : Int) * (A : Int) + (xs.length : Int) := by omega
                have x4 : decide ((xs.length : Int) < (xs.length : Int) * (A : Int) + (xs.length : Int)) = true := by simp; omega
                have hcast2 : ((xs.length * (A + 1 + s) : Nat) : Int) = (xs.length : Int) * (A : Int) + (xs.length : Int) + (s : Int) * (xs.length : Int) := by
                  rw [show A + 1 + s = A + (1 + s) from by omega, Nat.mul_add, Nat.mul_add, Nat.mul_one]; simp; rw [Int.mul_comm (s : Int)]; omega
                have H2 := Lib.hid (And.intro hs2 (And.intro hs3 hcast2))
                have hA1 : ((A + 1 + s : Nat) : Int) ≤ mr up xs (A + 1 + s) := by omega
                have hm5 : mr up xs (A + 1) ≤ mr up xs (A + 1 + s) := by omega
                clear hs2 hs3 hcast2 hA0
                have hst3 := Lib.hid (show Below w.heap.size w (W.setCell ⟨B2, 13, none⟩ (.int .i64 (mr up xs (A + 1 + s)))) from HBW.out.setCell (by exact hbB.out) _)
                have hgb : W.grownBy (W.setCell ⟨B2, 13, none⟩ (.int .i64 (mr up xs (A + 1 + s)))) (some B2) := ⟨rfl, rfl, rfl, by simp, fun k _ hk => heap_setCell_other W ⟨B2, 13, none⟩ k _ (fun e => hk (by simp [e]))⟩
                have HO3 := Lib.hid (HOW.out.kept hgb (fun e => by have := hlB.out; injection e with e; omega))
                clear hgb
                have H3 := Lib.hid (And.intro HO3.out hst3.out)
                rw [H2.out.1.symm] at H3
                go_wp2_with fail
                go_roundg (n - mr up xs (A + 1 + s)).toNat
                case rel =>
                  refine ⟨A + 1 + s, nm + 1, _, rfl, by rw [H2.out.2.2], by rw [H2.out.1], H3.out.1, .inl ⟨⟨hA1, hm3, H2.out.2.1, HF.out.2.1.put _ _, fun x hx => ?_⟩, ?_, ?_⟩, hm3, H3.out.2⟩
                  · rw [Maps.atKey_put_other (neI (by omega))]; exact HF.out.2.2 x (by omega)
                  · omega
                  · omega
                case measure => omega
      · have HF := Lib.hid (And.intro s1 s2)
        clear HD s1 s2
        go_wp2_with (first | (at_lookup; refine wpList_lookup_bool _ rfl _ _ 60 rfl 3 4 lawI Try.underlying60 Try.underlying4 (zeroB _) w.heap.size nm D rfl HO.out _ _ rfl HK.out ?_; intro c hat; obtain rfl : c = true := atB HF.out.2 hat; clear hat))
        rw [Exit.noGoto_ret]
        go_ret2
        exact dw_yes HV.out (.inr ⟨rfl, rfl, HF.out.1⟩) HB.out
  all_goals
    have HV := Lib.hid (show (slOk up xs && inB n 1 1000000) = false by rw [hs, hy]; rfl)
    have HS := Lib.hid hs
    have HY := Lib.hid hy
    clear hs hy
    go_enter Try.func17, Try.ntmps17
    go_wp2_with fail
    go_step3
    go_wp2_with (first | (go_at_call 40; refine (isClimb_any up _ cap xs _ h hn0).mono ?_; rw [HS.out]; rintro e w1 ⟨rfl, rfl⟩) | (go_at_call 41; refine (implIn _ _ _ _).mono ?_; rw [HY.out]; rintro e w1 ⟨rfl, rfl⟩) | go_in)
    rw [Exit.noGoto_ret]
    go_ret2
    exact dw_no HV.out (Below.refl _ _)
end Go.Proofs.Ytadfjepfjbllmaa
