/- The library's stable sort of a short slice of indices, by contracts: it gives the model's order of keys. -/
import Derived.Test.YtolgpjlliaoneaaProg
import Derived.Test.YtolgpjlliaoneaaTwoOrd
import Derived.WalkKit
import Derived.WalkSpells
import Derived.WalkLawsBesides
import Derived.Lib.Hide
import Derived.Deep.LoopGhost
import Derived.Deep.QuietTactic
import Derived.Deep.RegionWith
import Derived.Deep.RegionHeld3
import Derived.BigQuiet
import Derived.Shelf.Abstract
import Derived.Shelf.RegionOpenPlain
namespace Go.Proofs.Ytolgpjlliaoneaa
open Go.RowKit
set_option linter.unusedVariables false
set_option linter.unusedSimpArgs false
/-- a row of integers by their places -/
def rl (f : Nat → Int) (n : Nat) : List Value := (List.range n).map fun p => Value.int .i64 (f p)
theorem rl_length (f : Nat → Int) (n : Nat) : (rl f n).length = n := by simp [rl]
theorem rl_get {f : Nat → Int} {n p : Nat} (h : p < n) : (rl f n)[p]? = some (.int .i64 (f p)) := by simp [rl, h]
theorem rl_congr {f f' : Nat → Int} {n : Nat} (h : ∀ p, p < n → f p = f' p) : rl f n = rl f' n := by
  unfold rl
  apply List.map_congr_left
  intro p hp
  rw [h p (by simpa using hp)]
theorem rl_set {f f' : Nat → Int} {n j k : Nat} {a b : Int} (h : ∀ p, p < n → f' p = if p = k then b else if p = j then a else f p) : ((rl f n).set j (.int .i64 a)).set k (.int .i64 b) = rl f' n := by
  apply List.ext_getElem?
  intro p
  by_cases hp : p < n
  · rw [rl_get hp, h p hp]
    by_cases e : p = k
    · subst e; rw [List.getElem?_set_self (by rw [List.length_set, rl_length]; exact hp), if_pos rfl]
    · rw [List.getElem?_set_ne (by omega), if_neg e]
      by_cases e2 : p = j
      · subst e2; rw [List.getElem?_set_self (by rw [rl_length]; exact hp), if_pos rfl]
      · rw [List.getElem?_set_ne (by omega), if_neg e2, rl_get hp]
  · rw [List.getElem?_eq_none (by rw [List.length_set, List.length_set, rl_length]; omega), List.getElem?_eq_none (by rw [rl_length]; omega)]
theorem rl_one {f f' : Nat → Int} {n j : Nat} {a : Int} (h : ∀ p, p < n → f' p = if p = j then a else f p) : (rl f n).set j (.int .i64 a) = rl f' n := by
  apply List.ext_getElem?
  intro p
  by_cases hp : p < n
  · rw [rl_get hp, h p hp]
    by_cases e2 : p = j
    · subst e2; rw [List.getElem?_set_self (by rw [rl_length]; exact hp), if_pos rfl]
    · rw [List.getElem?_set_ne (by omega), if_neg e2, rl_get hp]
  · rw [List.getElem?_eq_none (by rw [List.length_set, rl_length]; omega), List.getElem?_eq_none (by rw [rl_length]; omega)]
/-- the place in the order, as a number -/
def oI (ks : List (List Int)) (i p : Nat) : Int := (((ordK ks i).getD p 0 : Nat) : Int)
/-- the row when the first i are in order -/
def fO (ks : List (List Int)) (i p : Nat) : Int := if p < i then oI ks i p else (p : Int)
/-- the row while i goes down, now at j -/
def fM (ks : List (List Int)) (i j p : Nat) : Int := if p < j then oI ks i p else if p = j then (i : Int) else if p ≤ i then oI ks i (p - 1) else (p : Int)
theorem ordK_next (ks : List (List Int)) {i t : Nat} (h : insAt ks (ks.getD i []) (ordK ks i) i = t) (ht : t ≤ i) : ∀ p, p ≤ i → (ordK ks (i + 1)).getD p 0 = if p < t then (ordK ks i).getD p 0 else if p = t then i else (ordK ks i).getD (p - 1) 0 := by
  intro p hp
  have e : ordK ks (i + 1) = (ordK ks i).take t ++ [i] ++ (ordK ks i).drop t := by simp only [ordK, ordK_length, h]
  have hl := ordK_length ks i
  rw [e]
  simp only [List.getD, List.append_assoc]
  by_cases c1 : p < t
  · rw [if_pos c1, List.getElem?_append_left (by rw [List.length_take]; omega), List.getElem?_take, if_pos c1]
  · rw [if_neg c1, List.getElem?_append_right (by rw [List.length_take]; omega), List.length_take, hl, Nat.min_eq_left ht]
    by_cases c2 : p = t
    · subst c2; simp
    · rw [if_neg c2, List.getElem?_append_right (by simp; omega), List.getElem?_drop]
      congr 2
      simp; omega
theorem fM_start (ks : List (List Int)) (i p : Nat) : fM ks i i p = fO ks i p := by
  unfold fM fO
  by_cases c : p < i
  · rw [if_pos c, if_pos c]
  · rw [if_neg c, if_neg c]
    by_cases c2 : p = i
    · subst c2; rw [if_pos rfl]
    · rw [if_neg c2, if_neg (by omega)]
theorem fM_end (ks : List (List Int)) {i t : Nat} (h : insAt ks (ks.getD i []) (ordK ks i) i = t) (ht : t ≤ i) (p : Nat) : fM ks i t p = fO ks (i + 1) p := by
  unfold fM fO
  by_cases c : p < i + 1
  · rw [if_pos c]
    unfold oI
    rw [ordK_next ks h ht p (by omega)]
    by_cases c1 : p < t
    · rw [if_pos c1, if_pos c1]
    · rw [if_neg c1, if_neg c1]
      by_cases c2 : p = t
      · rw [if_pos c2, if_pos c2]
      · rw [if_neg c2, if_neg c2, if_pos (by omega)]
  · rw [if_neg c, if_neg (by omega), if_neg (by omega), if_neg (by omega)]
theorem fM_step (ks : List (List Int)) {i s n : Nat} (hs : s < i) : ∀ p, p < n → fM ks i s p = if p = s then (i : Int) else if p = s + 1 then oI ks i s else fM ks i (s + 1) p := by
  intro p _
  by_cases c : p = s
  · subst c; unfold fM; simp
  · rw [if_neg c]
    by_cases c2 : p = s + 1
    · subst c2; unfold fM; rw [if_pos rfl, if_neg (by omega), if_neg (by omega), if_pos (by omega)]; simp
    · rw [if_neg c2]
      unfold fM
      by_cases c3 : p < s
      · rw [if_pos c3, if_pos (show p < s + 1 by omega)]
      · rw [if_neg c3, if_neg (show ¬ p < s + 1 by omega), if_neg c, if_neg c2]
theorem fO_one (ks : List (List Int)) (p : Nat) : fO ks 1 p = (p : Int) := by
  unfold fO oI
  split
  · have : p = 0 := by omega
    subst this; simp [ordK, insAt]
  · rfl
theorem rl_end (ks : List (List Int)) (n : Nat) : rl (fO ks n) n = (ordI ks n).map (Value.int .i64) := by
  apply List.ext_getElem?
  intro p
  by_cases hp : p < n
  · rw [rl_get hp]
    unfold fO oI
    rw [if_pos hp, List.getElem?_map, ← ordI_at ks hp, List.getD, List.getElem?_eq_getElem (by rw [ordI_length]; exact hp)]; rfl
  · rw [List.getElem?_eq_none (by rw [rl_length]; omega), List.getElem?_eq_none (by rw [List.length_map, ordI_length]; omega)]
theorem insAt_gt (ks : List (List Int)) {i s : Nat} (hl : lexB (ks.getD i []) (ks.getD ((ordK ks i).getD s 0) []) = true) : insAt ks (ks.getD i []) (ordK ks i) (s + 1) = insAt ks (ks.getD i []) (ordK ks i) s := by
  conv => lhs; unfold insAt
  rw [if_pos hl]
theorem insAt_stop (ks : List (List Int)) {i s : Nat} (hl : lexB (ks.getD i []) (ks.getD ((ordK ks i).getD s 0) []) = false) : insAt ks (ks.getD i []) (ordK ks i) (s + 1) = s + 1 := by
  conv => lhs; unfold insAt
  rw [if_neg (by rw [hl]; simp)]
/-- What the sort asks of the comparison. -/
def CmpOk (F : Nat) (cb : Array Value) (cf : Nat → Nat → Int) (n g : Nat) (W0 : World) : Prop :=
  ∀ (k j : Nat) (W : World), k < n → j < n → Below g W0 W → Calls Try.prog F (#[.int .i64 (k : Int), .int .i64 (j : Int)] ++ cb) W fun e w' => e = .returned (.int .i64 (cf k j)) ∧ Below W.heap.size W w'
set_option maxHeartbeats 4000000 in
set_option maxRecDepth 100000 in
theorem insSort_any (F : Nat) (cb : Array Value) (cf : Nat → Nat → Int) (ks : List (List Int)) (n g cap : Nat) (W0 w : World)
    (eg : ∀ args w, (callFunc F args).run Try.prog w = .ok (.enter F args) w) (hc : CmpOk F cb cf n g W0) (hcf : ∀ k j, k < n → j < n → (cf k j < 0 ↔ lexB (ks.getD k []) (ks.getD j []) = true)) (n1 : 1 ≤ n) (n2 : n ≤ 64)
    (hown : w.ownsRow g 3 1 (.slice (some ⟨g, 0, none⟩) n cap) n (rl (fun p => (p : Int)) n)) (hbel : Below g W0 w) :
    Calls Try.prog 92 #[.slice (some ⟨g, 0, none⟩) n cap, .int .i64 0, .int .i64 (n : Int), .func (.func F) #[] cb] w fun e w' => e = .returned (.tuple #[]) ∧ w'.ownsRow g 3 1 (.slice (some ⟨g, 0, none⟩) n cap) n ((ordI ks n).map (Value.int .i64)) ∧ Below g W0 w' := by
  rw [show rl (fun p => (p : Int)) n = rl (fO ks 1) n from rl_congr fun p _ => (fO_one ks p).symm] at hown
  rw [← rl_end]
  have mixed : Try.prog.follows Departure.mixedOrders = true := by kernel_rfl
  have HC := Lib.hid hc
  have HCF := Lib.hid hcf
  clear hc hcf
  go_enter Try.func92, Try.ntmps92
  go_wp2_with fail
  go_loopg [8] n (fun k v4 wr => ∃ (i : Nat), v4 = .int .i64 (i : Int) ∧ 1 ≤ i ∧ i + k ≤ n + 1 ∧ n + 1 ≤ i + k + 1 ∧ i ≤ n ∧ wr.ownsRow g 3 1 (.slice (some ⟨g, 0, none⟩) n cap) n (rl (fO ks i) n) ∧ Below g W0 wr)
  case atStart => exact ⟨1, by go_num, by omega, by omega, by omega, by omega, hown, hbel⟩
  case round =>
    clear hown hbel
    obtain ⟨i, rfl, h1, h2, h3, h4, hown, hbel⟩ := hrel
    by_cases hi : i < n
    · have hiI : (i : Int) < (n : Int) := by omega
      have HO := Lib.hid hown
      have HB := Lib.hid hbel
      clear hown hbel
      obtain ⟨OG, rfl⟩ : ∃ G, G = gk := ⟨_, rfl⟩
      obtain ⟨AT, hAT⟩ : ∃ t, insAt ks (ks.getD i []) (ordK ks i) i = t := ⟨_, rfl⟩
      have hATi : AT ≤ i := by
        have := insAt_le ks (ks.getD i []) (ordK ks i) i; omega
      have HEND := Lib.hid (rl_congr (n := n) fun p _ => fM_end ks hAT hATi p)
      have HAT := Lib.hid hAT
      have hO0 : wr.ownsRow g 3 1 (.slice (some ⟨g, 0, none⟩) n cap) n (rl (fM ks i i) n) := by
        rw [rl_congr (n := n) fun p _ => fM_start ks i p]; exact HO.out
      have HO0 := Lib.hid hO0
      clear hAT hO0 HO
      go_wp2_with fail
      go_loopg [9] i (fun k v9 wi => ∃ (t : Nat), v9 = .int .i64 (t : Int) ∧ t = k ∧ t ≤ i ∧ Hid (insAt ks (ks.getD i []) (ordK ks i) t = AT) ∧ wi.ownsRow g 3 1 (.slice (some ⟨g, 0, none⟩) n cap) n (rl (fM ks i t) n) ∧ Below g W0 wi)
      case atStart => exact ⟨i, rfl, rfl, Nat.le_refl _, HAT.out, HO0.out, HB.out⟩
      case round =>
        clear HO0 HB
        obtain ⟨t, rfl, htk, hti, hins, hown, hbel⟩ := hrel
        have HO := Lib.hid hown
        have HB := Lib.hid hbel
        have HTK := Lib.hid htk
        clear htk
        by_cases t0 : t = 0
        · subst t0
          have hT : AT = 0 := by rw [← hins.out]; rfl
          subst hT
          clear hown hbel
          go_wp2_with fail
          go_quiet (fail)
          go_wp2_with fail
          go_roundg (OG - 1)
          case rel => exact ⟨i + 1, by go_num, by omega, by omega, by omega, by omega, by rw [← HEND.out]; exact HO.out, below_drewN HB.out _⟩
          case measure => omega
        · obtain ⟨s, rfl⟩ : ∃ s, t = s + 1 := ⟨t - 1, by omega⟩
          have hsn : s + 1 < n := by omega
          have c1 := hown.cellAt (s + 1) (by omega)
          have c0 := hown.cellAt s (by omega)
          rw [rl_get (by omega)] at c1 c0
          have e1 : fM ks i (s + 1) (s + 1) = (i : Int) := by unfold fM; simp
          have e0 : fM ks i (s + 1) s = (((ordK ks i).getD s 0 : Nat) : Int) := by unfold fM; rw [if_pos (by omega)]; rfl
          rw [e1] at c1
          rw [e0] at c0
          have f1 := hown.frozenAt (s + 1)
          have f0 := hown.frozenAt s
          have ho : (ordK ks i).getD s 0 < n := by have := ordK_at ks (k := i) (j := s) (by omega); omega
          have HCMP := Lib.hid (fun W hW => HC.out i ((ordK ks i).getD s 0) W hi ho hW)
          have hcf := HCF.out i ((ordK ks i).getD s 0) hi ho
          have HST := Lib.hid (rl_set (fM_step ks (n := n) (show s < i by omega)))
          obtain ⟨st1, _⟩ := hown.stored (s + 1) (.int .i64 (((ordK ks i).getD s 0 : Nat) : Int))
          have hgl := (hown.lt g rfl).2
          have HGT := Lib.hid (insAt_gt ks (i := i) (s := s))
          have HSTOP := Lib.hid (insAt_stop ks (i := i) (s := s))
          have hOe : Hid (oI ks i s = (((ordK ks i).getD s 0 : Nat) : Int)) := rfl
          clear hown hbel e1 e0 st1
          generalize (ordK ks i).getD s 0 = o at *
          generalize cf i o = c at *
          have sI : (0 : Int) < (s : Int) + 1 := by omega
          have snI : (s : Int) + 1 < (n : Int) := by omega
          have eS : ((s + 1 : Nat) : Int) = (s : Int) + 1 := by omega
          rw [eS]
          have ea : ((s : Int) + 1).toNat = s + 1 := by omega
          have pa : (0 : Int) ≤ (s : Int) + 1 := by omega
          have ra : IntKind.i64.wrap ((s : Int) + 1) = (s : Int) + 1 := by rw [IntKind.wrap_i64]; omega
          have ec : ((s : Int)).toNat = s := by omega
          have pc : (0 : Int) ≤ (s : Int) := by omega
          have bc : (s : Int) < (n : Int) := by omega
          have rc : IntKind.i64.wrap ((s : Int)) = (s : Int) := by rw [IntKind.wrap_i64]; omega
          have dg : decide ((s : Int) + 1 > 0) = true := decide_eq_true (by omega)
          have dg2 : decide ((0 : Int) < (s : Int) + 1) = true := decide_eq_true (by omega)
          cases hl : lexB (ks.getD i []) (ks.getD o []) with
          | true =>
            have hcn : c < 0 := hcf.2 hl
            have hd : decide (c < 0) = true := by simp [hcn]
            have HI := Lib.hid ((HGT.out hl).symm.trans hins.out)
            clear hl hcf HSTOP
            go_wp2_with fail
            go_region_held3 (fun w' => Below wr.heap.size wr w' ∧ w'.cell? ⟨g, s + 1, none⟩ = some (.int .i64 (i : Int)) ∧ w'.cell? ⟨g, s, none⟩ = some (.int .i64 (o : Int)))
              (refine ⟨?_, ?_, ?_⟩ <;> first | assumption | (go_simp; done) | (repeat (first | exact Below.refl _ _ | refine Below.drew ?_ | refine bchain ?_ (by assumption) (by first | omega | (simp; done) | (simp; omega)))))
              (first | (go_at_fn F; refine (HCMP.out _ (by first | exact HB.out | exact HB.out.drew | exact below_drewN HB.out _)).mono ?_; rintro e w1 ⟨rfl, hb⟩; have q1 := fun o => (bcell hb).1 g o (by first | exact hgl | (simp; exact hgl))))
            rename_i hHeld
            have B1 := Lib.hid hHeld.1
            have k1 := hHeld.2.1
            have k0 := hHeld.2.2
            have hO1 := rowB HO.out hHeld.1
            have hg1 := (hO1.lt g rfl).2
            have f1' := hO1.frozenAt (s + 1)
            have f0' := hO1.frozenAt s
            obtain ⟨st1, _⟩ := hO1.stored (s + 1) (.int .i64 (o : Int))
            obtain ⟨st2, _⟩ := st1.stored s (.int .i64 (i : Int))
            have hst : ((w1.setCell ⟨g, s + 1, none⟩ (.int .i64 (o : Int))).setCell ⟨g, s, none⟩ (.int .i64 (i : Int))).ownsRow g 3 1 (.slice (some ⟨g, 0, none⟩) n cap) n (rl (fM ks i s) n) := by
              have q := HST.out
              rw [hOe.out] at q
              rw [← q]; exact st2
            have HO1 := Lib.hid hst
            have kc : (w1.setCell ⟨g, s + 1, none⟩ (.int .i64 (o : Int))).cell? ⟨g, s, none⟩ = some (.int .i64 (o : Int)) := by
              rw [World.cell?_setCell_other _ _ _ _ (by intro e'; simp only [Addr.mk.injEq] at e'; omega)]; exact k0
            obtain ⟨iN, hiN⟩ : ∃ q, q = s + 1 := ⟨_, rfl⟩
            obtain ⟨jN, hjN⟩ : ∃ q, q = s := ⟨_, rfl⟩
            have ea' : ((s : Int) + 1).toNat = iN := by omega
            have ec' : ((s : Int)).toNat = jN := by omega
            have HIJ := Lib.hid (And.intro hiN hjN)
            rw [← hiN] at k1 f1' kc
            rw [← hjN] at k0 f0' kc
            clear hHeld hO1 c1 c0 f1 f0 st1 st2 hst ea ec hiN hjN
            have k1d : w1.drew.cell? ⟨g, iN, none⟩ = some (.int .i64 (i : Int)) := k1
            have k0d : w1.drew.cell? ⟨g, jN, none⟩ = some (.int .i64 (o : Int)) := k0
            have f1d : w1.drew.frozen? ⟨g, iN, none⟩ = false := f1'
            have f0d : w1.drew.frozen? ⟨g, jN, none⟩ = false := f0'
            have kcd : (w1.drew.setCell ⟨g, iN, none⟩ (.int .i64 (o : Int))).cell? ⟨g, jN, none⟩ = some (.int .i64 (o : Int)) := kc
            have k1e : w1.drew.drew.cell? ⟨g, iN, none⟩ = some (.int .i64 (i : Int)) := k1
            have k0e : w1.drew.drew.cell? ⟨g, jN, none⟩ = some (.int .i64 (o : Int)) := k0
            have f1e : w1.drew.drew.frozen? ⟨g, iN, none⟩ = false := f1'
            have f0e : w1.drew.drew.frozen? ⟨g, jN, none⟩ = false := f0'
            have kce : (w1.drew.drew.setCell ⟨g, iN, none⟩ (.int .i64 (o : Int))).cell? ⟨g, jN, none⟩ = some (.int .i64 (o : Int)) := kc
            go_wp2_with fail
            go_big_region_o
            obtain ⟨hiN, hjN⟩ := HIJ.out
            subst hiN
            subst hjN
            all_goals go_wp2_with fail
            all_goals
              go_roundg jN
              case rel => exact ⟨jN, rfl, rfl, by omega, HI.out, HO1.out, by first | exact (((bchain HB.out B1.out (Nat.le_of_lt hgl)).setCell (Nat.le_refl _) _).setCell (Nat.le_refl _) _).drew | exact ((bchain HB.out B1.out (Nat.le_of_lt hgl)).setCell (Nat.le_refl _) _).setCell (Nat.le_refl _) _⟩
              case measure => have := HTK.out; omega
          | false =>
            have hcn : ¬ c < 0 := fun q => by have := hcf.1 q; rw [hl] at this; cases this
            have hd : decide (c < 0) = false := by simp; omega
            have hT : AT = s + 1 := by rw [← hins.out]; exact HSTOP.out hl
            subst hT
            clear hl hcf HGT
            go_wp2_with fail
            go_region_held3 (fun w' => Below wr.heap.size wr w' ∧ w'.cell? ⟨g, s + 1, none⟩ = some (.int .i64 (i : Int)) ∧ w'.cell? ⟨g, s, none⟩ = some (.int .i64 (o : Int)))
              (refine ⟨?_, ?_, ?_⟩ <;> first | assumption | (go_simp; done) | (repeat (first | exact Below.refl _ _ | refine Below.drew ?_ | refine bchain ?_ (by assumption) (by first | omega | (simp; done) | (simp; omega)))))
              (first | (go_at_fn F; refine (HCMP.out _ (by first | exact HB.out | exact HB.out.drew | exact below_drewN HB.out _)).mono ?_; rintro e w1 ⟨rfl, hb⟩; have q1 := fun o => (bcell hb).1 g o (by first | exact hgl | (simp; exact hgl))))
            rename_i hHeld
            have hO1 := Lib.hid (rowB HO.out hHeld.1)
            have B1 := Lib.hid (bchain HB.out hHeld.1 (Nat.le_of_lt hgl))
            clear hHeld c1 c0 f1 f0
            go_wp2_with fail
            go_roundg (OG - 1)
            case rel => exact ⟨i + 1, by go_num, by omega, by omega, by omega, by omega, by rw [← HEND.out]; exact hO1.out, B1.out⟩
            case measure => omega
    · have e : i = n := by omega
      subst e
      have HO := Lib.hid hown
      have HB := Lib.hid hbel
      clear hown hbel
      go_wp2_with fail
      go_end0
      exact ⟨rfl, HO.out, HB.out⟩
end Go.Proofs.Ytolgpjlliaoneaa
