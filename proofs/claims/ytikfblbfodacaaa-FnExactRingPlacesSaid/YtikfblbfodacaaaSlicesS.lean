/- Slices of slices of integers: what they read as, what they own; the laws' own helpers eqIntSS, markIntSS, heldIntSS by contracts. -/
import Derived.Test.YtikfblbfodacaaaProg
import Derived.Test.YtikfblbfodacaaaSlices
import Derived.Test.YtikfblbfodacaaaTwoOrd
import Derived.WalkKit
import Derived.WalkSpells
import Derived.WalkLawsBesides
import Derived.Lib.Hide
import Derived.Deep.LoopGhost
import Derived.Deep.QuietTactic
import Derived.Deep.RegionHeld3
import Derived.BigQuiet
namespace Go.Proofs.Ytikfblbfodacaaa
open Go.RowKit
set_option linter.unusedVariables false
set_option linter.unusedSimpArgs false
/-- what a slice of slices reads as -/
def RdSS (w : World) (a : Option Addr) (ks : List (List Int)) : Prop :=
  ks = [] ∨ ∃ b off, a = some ⟨b, off, none⟩ ∧ b < w.heap.size ∧ ∀ i, i < ks.length → ∃ ai ci, w.cell? ⟨b, off + i, none⟩ = some (.slice ai (ks.getD i []).length ci) ∧ Rd w ai (ks.getD i [])
theorem RdSS.below {w w' : World} {a : Option Addr} {ks : List (List Int)} (h : RdSS w a ks) (hb : Below w.heap.size w w') : RdSS w' a ks := by
  rcases h with h | ⟨b, off, e, hlt, hc⟩
  · exact .inl h
  · refine .inr ⟨b, off, e, Nat.lt_of_lt_of_le hlt hb.size, fun i hi => ?_⟩
    obtain ⟨ai, ci, h1, h2⟩ := hc i hi
    exact ⟨ai, ci, by rw [(bcell hb).1 b _ hlt]; exact h1, h2.below hb⟩
/-- the outer row -/
def rowS (av : Nat → Option Addr) (cv : Nat → Nat) (ks : List (List Int)) : List Value := (List.range ks.length).map fun i => Value.slice (av i) (ks.getD i []).length (cv i)
theorem rowS_get {av : Nat → Option Addr} {cv : Nat → Nat} {ks : List (List Int)} {i : Nat} (h : i < ks.length) : (rowS av cv ks)[i]? = some (.slice (av i) (ks.getD i []).length (cv i)) := by simp [rowS, h]
/-- The slice of slices at a is the call's own, from block base on, no two of its parts in one block, and reads as ks. -/
def OwnSS (w : World) (base : Nat) (a : Option Addr) (cap : Nat) (ks : List (List Int)) : Prop :=
  ∃ (av : Nat → Option Addr) (cv : Nat → Nat), w.ownsRow base 54 1 (.slice a ks.length cap) ks.length (rowS av cv ks) ∧
    (∀ i, i < ks.length → Own w base (av i) (cv i) (ks.getD i [])) ∧
    (∀ i j, i < ks.length → j < ks.length → i ≠ j → (Value.slice (av i) (ks.getD i []).length (cv i)).ownBlock = none ∨ (Value.slice (av i) (ks.getD i []).length (cv i)).ownBlock ≠ (Value.slice (av j) (ks.getD j []).length (cv j)).ownBlock) ∧
    (∀ j, j < ks.length → (Value.slice a ks.length cap).ownBlock = none ∨ (Value.slice a ks.length cap).ownBlock ≠ (Value.slice (av j) (ks.getD j []).length (cv j)).ownBlock)
theorem OwnSS.below {w w' : World} {base : Nat} {a : Option Addr} {cap : Nat} {ks : List (List Int)} (h : OwnSS w base a cap ks) (hb : Below w.heap.size w w') : OwnSS w' base a cap ks := by
  obtain ⟨av, cv, h1, h2, h3, h4⟩ := h
  exact ⟨av, cv, rowB h1 hb, fun i hi => (h2 i hi).below hb, h3, h4⟩
theorem rdSS_of {w : World} {base : Nat} {a : Option Addr} {cap : Nat} {ks : List (List Int)} {av : Nat → Option Addr} {cv : Nat → Nat} (h1 : w.ownsRow base 54 1 (.slice a ks.length cap) ks.length (rowS av cv ks)) (h2 : ∀ i, i < ks.length → Own w base (av i) (cv i) (ks.getD i [])) : RdSS w a ks := by
  rcases row_two h1 with ⟨_, h0, _⟩ | ⟨g, rfl, _, hg⟩
  · exact .inl (List.length_eq_zero_iff.1 h0)
  · refine .inr ⟨g, 0, rfl, hg, fun i hi => ⟨av i, cv i, ?_, (h2 i hi).rd⟩⟩
    rw [Nat.zero_add, h1.cellAt i (by omega)]; exact rowS_get hi
theorem OwnSS.rd {w : World} {base : Nat} {a : Option Addr} {cap : Nat} {ks : List (List Int)} (h : OwnSS w base a cap ks) : RdSS w a ks := by
  obtain ⟨av, cv, h1, h2, _, _⟩ := h
  exact rdSS_of h1 h2
/-- how many numbers the first ones hold -/
def preL (ks : List (List Int)) : Nat → Nat
  | 0 => 0
  | j + 1 => preL ks j + (ks.getD j []).length
theorem preL_le (ks : List (List Int)) {B : Nat} (h : ∀ i, i < ks.length → (ks.getD i []).length ≤ B) : ∀ j, j ≤ ks.length → preL ks j ≤ B * j
  | 0, _ => by simp [preL]
  | j + 1, hj => by
    have a := preL_le ks h j (by omega)
    have b := h j (by omega)
    have e : B * (j + 1) = B * j + B := Nat.mul_succ B j
    simp only [preL]; omega
/-- the marks -/
def sqs (k : Int) (ks : List (List Int)) : List (List Int) := (List.range ks.length).map fun i => sq (k + (preL ks i : Int)) (ks.getD i []).length
theorem sqs_length (k : Int) (ks : List (List Int)) : (sqs k ks).length = ks.length := by simp [sqs]
theorem sqs_get (k : Int) {ks : List (List Int)} {i : Nat} (h : i < ks.length) : (sqs k ks).getD i [] = sq (k + (preL ks i : Int)) (ks.getD i []).length := by simp [sqs, List.getD, h]
set_option maxHeartbeats 2000000 in
theorem eqIntSS_eq (a a2 : Option Addr) (cap cap2 n : Nat) (ks : List (List Int)) (w : World) (h : RdSS w a ks) (g : RdSS w a2 ks) (hl : ks.length = n) (hn : n ≤ 1048576) (hm : ∀ i, i < ks.length → (ks.getD i []).length ≤ 1048576) :
    Calls Try.prog 15 #[.slice a n cap, .slice a2 n cap2] w fun e w' => e = .returned (.bool true) ∧ Below w.heap.size w w' := by
  go_enter Try.func15, Try.ntmps15
  go_wp2_with fail
  go_loopg [5] n (fun k v5 wr => ∃ (j : Nat), v5 = .int .i64 (j : Int) ∧ j + k ≤ n ∧ n ≤ j + k ∧ Below w.heap.size w wr)
  case atStart => exact ⟨0, rfl, by omega, by omega, Below.refl _ _⟩
  case round =>
    obtain ⟨j, rfl, h1, h2, hbel⟩ := hrel
    by_cases hj : j < n
    · have h' := h.below hbel
      have g' := g.below hbel
      rcases h' with h' | ⟨b, off, rfl, hlt, hc⟩
      · rw [h'] at hl; simp at hl; omega
      · rcases g' with g' | ⟨b2, off2, rfl, hlt2, hc2⟩
        · rw [g'] at hl; simp at hl; omega
        · obtain ⟨ai, ci, x1, x2⟩ := hc j (by omega)
          obtain ⟨bi, di, y1, y2⟩ := hc2 j (by omega)
          have hmj := hm j (by omega)
          obtain ⟨X, hX⟩ : ∃ X, X = ks.getD j [] := ⟨_, rfl⟩
          rw [← hX] at x1 x2 y1 y2 hmj
          clear hX
          have hjI : (j : Int) < (n : Int) := by omega
          have HB := Lib.hid hbel
          have HJ := Lib.hid (And.intro h1 h2)
          have hs := hbel.size
          clear hbel hc hc2 h1 h2
          obtain ⟨m, hmX⟩ : ∃ m, X.length = m := ⟨_, rfl⟩
          rw [hmX] at x1 y1 hmj
          subst hmX
          go_wp2_with fail
          go_region_held3 (fun w' => Below wr.heap.size wr w' ∧ w'.cell? ⟨b, off + j, none⟩ = some (.slice ai X.length ci) ∧ w'.cell? ⟨b2, off2 + j, none⟩ = some (.slice bi X.length di))
            (refine ⟨?_, ?_, ?_⟩ <;> first | assumption | (go_simp; done) | (repeat (first | exact Below.refl _ _ | refine Below.drew ?_ | refine bchain ?_ (by assumption) (by first | omega | (simp; done) | (simp; omega)))))
            (first | (go_at_call 32; refine (eqIntS_eq ai bi ci di X _ (x2.below (by first | exact Below.refl _ _ | exact (Below.refl _ _).drew | exact below_drewN (Below.refl _ _) _ | (repeat (first | exact Below.refl _ _ | refine Below.drew ?_)))) (y2.below (by first | exact Below.refl _ _ | exact (Below.refl _ _).drew | exact below_drewN (Below.refl _ _) _ | (repeat (first | exact Below.refl _ _ | refine Below.drew ?_)))) (by omega)).mono ?_; rintro e w1 ⟨rfl, hb⟩; have q1 := fun o => (bcell hb).1 b o (by first | exact hlt | (simp; exact hlt)); have q2 := fun o => (bcell hb).1 b2 o (by first | exact hlt2 | (simp; exact hlt2))))
          rename_i hHeld
          go_wp2_with fail
          go_roundg (gk - 1)
          case rel => exact ⟨j + 1, by go_num, by have := HJ.out; omega, by have := HJ.out; omega, HB.out.trans (hHeld.1.mono hs)⟩
          case measure => have := HJ.out; omega
    · have HB := Lib.hid hbel
      clear hbel
      go_wp2_with fail
      go_ret
      exact ⟨rfl, HB.out⟩
set_option maxHeartbeats 2000000 in
theorem heldIntSS_ok (a : Option Addr) (cap n : Nat) (k : Int) (ks : List (List Int)) (w : World) (h : RdSS w a (sqs k ks)) (hl : ks.length = n) (hn : n ≤ 1048576) (hm : ∀ i, i < ks.length → (ks.getD i []).length ≤ 1048576) (k0 : 0 ≤ k) (k1 : k ≤ 1048576) :
    Calls Try.prog 17 #[.slice a n cap, .int .i64 k] w fun e w' => e = .returned (.int .i64 (k + (preL ks n : Int))) ∧ Below w.heap.size w w' := by
  have hpre := Lib.hid (fun j (hj : j ≤ n) => preL_le ks hm j (by omega))
  go_enter Try.func17, Try.ntmps17
  go_wp2_with fail
  go_loopg [1, 5] n (fun f v1 v5 wr => ∃ (j : Nat), v1 = .int .i64 (k + (preL ks j : Int)) ∧ v5 = .int .i64 (j : Int) ∧ j + f ≤ n ∧ n ≤ j + f ∧ Below w.heap.size w wr)
  case atStart => exact ⟨0, by simp [preL], rfl, by omega, by omega, Below.refl _ _⟩
  case round =>
    obtain ⟨j, rfl, rfl, h1, h2, hbel⟩ := hrel
    by_cases hj : j < n
    · have h' := h.below hbel
      rcases h' with h' | ⟨b, off, rfl, hlt, hc⟩
      · have := congrArg List.length h'; rw [sqs_length, List.length_nil] at this; omega
      · obtain ⟨ai, ci, x1, x2⟩ := hc j (by rw [sqs_length]; omega)
        rw [sqs_get k (by omega)] at x1 x2
        rw [sq_length] at x1
        have hp := hpre.out j (by omega)
        have hmj := hm j (by omega)
        have hb2 : 1048576 * j ≤ 1048576 * 1048576 := Nat.mul_le_mul_left _ (by omega)
        have hH := Lib.hid (heldIntS_ok ai (ks.getD j []).length ci (k + (preL ks j : Int)) wr x2 (by omega) (by omega))
        have hN : Hid (preL ks (j + 1) = preL ks j + (ks.getD j []).length) := rfl
        have hjI : (j : Int) < (n : Int) := by omega
        have HB := Lib.hid hbel
        have HJ := Lib.hid (And.intro h1 h2)
        clear hbel hc x2 h1 h2
        generalize (ks.getD j []).length = m at *
        generalize preL ks j = q at *
        have hq : 0 ≤ k + (q : Int) + (m : Int) := by omega
        go_wp2_with fail
        refine hH.out.mono ?_; rintro e w5 ⟨rfl, hb5⟩
        go_wp2_with fail
        go_roundg (gk - 1)
        case rel => exact ⟨j + 1, by rw [hN.out]; congr 1; omega, by go_num, by have := HJ.out; omega, by have := HJ.out; omega, bchain HB.out hb5 HB.out.size⟩
        case measure => have := HJ.out; omega
    · have e : j = n := by omega
      subst e
      have HB := Lib.hid hbel
      clear hbel
      go_wp2_with fail
      go_ret
      exact ⟨rfl, HB.out⟩
set_option maxHeartbeats 4000000 in
set_option maxRecDepth 100000 in
/-- markIntSS writes the marks into the parts of a slice of slices of the call's own, and nothing else. -/
theorem markIntSS_own (base : Nat) (a : Option Addr) (cap n : Nat) (k : Int) (ks : List (List Int)) (w : World) (h : OwnSS w base a cap ks) (hl : ks.length = n) (hn : n ≤ 1048576) (hm : ∀ i, i < ks.length → (ks.getD i []).length ≤ 1048576) (k0 : 0 ≤ k) (k1 : k ≤ 1048576) (hbase : base ≤ w.heap.size) :
    Calls Try.prog 16 #[.slice a n cap, .int .i64 k] w fun e w' => e = .returned (.int .i64 (k + (preL ks n : Int))) ∧ RdSS w' a (sqs k ks) ∧ Below base w w' := by
  obtain ⟨av, cv, hO, hI, hD, hE⟩ := h
  have hpre := Lib.hid (fun j (hj : j ≤ n) => preL_le ks hm j (by omega))
  rw [hl] at hO
  have HD := Lib.hid hD
  have HE := Lib.hid hE
  clear hD hE
  go_enter Try.func16, Try.ntmps16
  go_wp2_with fail
  go_loopg [1, 5] n (fun f v1 v5 wr => ∃ (j : Nat), v1 = .int .i64 (k + (preL ks j : Int)) ∧ v5 = .int .i64 (j : Int) ∧ j + f ≤ n ∧ n ≤ j + f ∧ wr.ownsRow base 54 1 (.slice a n cap) n (rowS av cv ks) ∧ Hid (∀ i, i < n → wr.ownsRow base 3 1 (.slice (av i) (ks.getD i []).length (cv i)) (ks.getD i []).length ((if i < j then sq (k + (preL ks i : Int)) (ks.getD i []).length else ks.getD i []).map (Value.int .i64))) ∧ Below base w wr)
  case atStart => exact ⟨0, by simp [preL], rfl, by omega, by omega, hO, fun i hi => by rw [if_neg (by omega)]; exact hI i (by omega), ⟨rfl, rfl, rfl, Nat.le_refl _, fun _ _ => rfl⟩⟩
  case round =>
    clear hO hI
    obtain ⟨j, rfl, rfl, h1, h2, hO, hI, hbel⟩ := hrel
    have hsz := hbel.size
    by_cases hj : j < n
    · rcases row_two hO with ⟨_, h0, _⟩ | ⟨g, rfl, hg1, hg2⟩
      · omega
      · have hcj : wr.cell? ⟨g, j, none⟩ = some (.slice (av j) (ks.getD j []).length (cv j)) := by rw [hO.cellAt j (by omega)]; exact rowS_get (by omega)
        have hmj := hm j (by omega)
        have hp := hpre.out j (by omega)
        have hb2 : 1048576 * j ≤ 1048576 * 1048576 := Nat.mul_le_mul_left _ (by omega)
        have hOj : Own wr base (av j) (cv j) (ks.getD j []) := by have := hI.out j hj; rw [if_neg (Nat.lt_irrefl j)] at this; exact this
        have hH := Lib.hid (markIntS_own base (av j) (cv j) (ks.getD j []) (k + (preL ks j : Int)) wr hOj (by omega) (by omega))
        have hN : Hid (preL ks (j + 1) = preL ks j + (ks.getD j []).length) := rfl
        have hlt := Lib.hid (fun k hk => (row_lt (n := (ks.getD j []).length) hOj k hk).1)
        have HO := Lib.hid hO
        have HB := Lib.hid hbel
        have HJ := Lib.hid (And.intro h1 h2)
        have hjI : (j : Int) < (n : Int) := by omega
        clear hO hbel hOj h1 h2
        obtain ⟨q0, hq0⟩ : ∃ q, preL ks j = q := ⟨_, rfl⟩
        obtain ⟨m0, hm0⟩ : ∃ m, (ks.getD j []).length = m := ⟨_, rfl⟩
        rw [hq0, hm0] at hH
        rw [hm0] at hcj hmj
        rw [hq0] at hp
        rw [hq0]
        have HQ := Lib.hid (And.intro hq0 hm0)
        clear hq0 hm0 hb2 hp
        go_wp2_with fail
        refine hH.out.mono ?_; rintro e w5 ⟨rfl, hO5, hg5⟩
        rw [← HQ.out.1, ← HQ.out.2] at hO5
        rw [← HQ.out.2] at hg5
        have hB5 := Lib.hid (HB.out.grown hg5 (by omega) (fun q hq => hlt.out q hq))
        have hOut := Lib.hid (World.ownsRow.kept HO.out hg5 (by have := HE.out j (by omega); rw [hl] at this; exact this))
        have hI5 : Hid (∀ i, i < n → w5.ownsRow base 3 1 (.slice (av i) (ks.getD i []).length (cv i)) (ks.getD i []).length ((if i < j + 1 then sq (k + (preL ks i : Int)) (ks.getD i []).length else ks.getD i []).map (Value.int .i64))) := fun i hi => by
          by_cases q : i = j
          · rw [q, if_pos (by omega)]; exact hO5
          · have hk := World.ownsRow.kept (hI.out i hi) hg5 (HD.out i j (by omega) (by omega) q)
            by_cases q2 : i < j
            · rw [if_pos q2] at hk; rw [if_pos (by omega)]; exact hk
            · rw [if_neg q2] at hk; rw [if_neg (by omega)]; exact hk
        clear hO5 hg5 hI hlt HO HB hH
        go_wp2_with fail
        go_roundg (gk - 1)
        case rel => exact ⟨j + 1, by rw [hN.out, HQ.out.1, HQ.out.2]; congr 1; omega, by go_num, by have := HJ.out; omega, by have := HJ.out; omega, hOut.out, hI5, hB5.out⟩
        case measure => have := HJ.out; omega
    · have e : j = n := by omega
      have hR : RdSS wr a (sqs k ks) := by
        rcases row_two hO with ⟨_, h0, _⟩ | ⟨g, rfl, hg1, hg2⟩
        · exact .inl (List.length_eq_zero_iff.1 (by rw [sqs_length]; omega))
        · refine .inr ⟨g, 0, rfl, hg2, fun i hi => ?_⟩
          rw [sqs_length] at hi
          refine ⟨av i, cv i, ?_, ?_⟩
          · rw [sqs_get k hi, sq_length, Nat.zero_add, hO.cellAt i (by omega)]; exact rowS_get hi
          · have := hI.out i (by omega)
            rw [if_pos (by omega)] at this
            rw [sqs_get k hi]
            exact row_rd (sq_length _ _) this
      have HB := Lib.hid hbel
      have HR := Lib.hid hR
      clear hbel hR hO hI
      subst e
      go_wp2_with fail
      go_ret
      exact ⟨rfl, HR.out, HB.out⟩
end Go.Proofs.Ytikfblbfodacaaa
