/- Contracts of chapter 10's plain functions on desks (walkers and a number), over one translation. -/
import Derived.Test.YtemaoaepfepolaaProg
import Derived.Test.YtemaoaepfepolaaTwoWalks
import Derived.Test.YtemaoaepfepolaaPairs
import Derived.Test.YtemaoaepfepolaaTwoAll
import Derived.Test.YtemaoaepfepolaaPairFrame
import Derived.Test.YtemaoaepfepolaaTri0
import Derived.WalkKit
import Derived.WalkSpells
import Derived.WalkLawsBesides
import Derived.Lib.Hide
import Derived.Deep.LoopGhost
import Derived.Deep.RegionWith
import Derived.Deep.RegionHeld3
import Derived.Deep.QuietTactic
import Derived.BigQuiet
namespace Go.Proofs.Ytemaoaepfepolaa
open Go.RowKit Go.ChangeShapes Go.WideShapes
set_option linter.unusedVariables false
set_option linter.unusedSimpArgs false
/-- is it a desk -/
def dkOk (xs : List (Int × Int)) (q : Int) : Bool := wks xs && inB q 1 1000
theorem open_pairs_val {H : Type} {enc : TypeId × Value → H} {P : Program} {w : World} {base : Nat} {spare : Nat → Bool} {held : Bool} {t e : TypeId} {f0 f1 : Field} {fuel : Nat} {v : Value} {x : DataW H × List MemPlace}
    (ht : P.underlying t = some (.slice e)) (he : P.underlying e = some (.struct #[f0, f1])) (ce : P.cellsOf e = 2) (o0 : f0.offset = 0) (o1 : f1.offset = 1) (c0 : P.cellsOf f0.type = 1) (c1 : P.cellsOf f1.type = 1)
    (u0 : P.underlying f0.type = some (.int .i64)) (u1 : P.underlying f1.type = some (.int .i64)) (h : DataW.trod enc P w base spare held fuel t [v] = some x) :
    ∃ (b : Option Addr) (cap : Nat) (xs : List (Int × Int)), v = .slice b xs.length cap ∧ RdP w b xs ∧ xs.length ≤ maxLen := by
  have hv : ∃ b l c, v = .slice b l c := by
    rcases Go.Deep.open_slice ht h with ⟨hcs, _⟩ | ⟨a, l, c, m, n, D, Pl, hcs, _⟩
    · exact ⟨none, 0, 0, by simpa using hcs⟩
    · exact ⟨some a, l, c, by simpa using hcs⟩
  obtain ⟨b, l, c, rfl⟩ := hv
  obtain ⟨xs, hr, hm, hl⟩ := open_pairs_ints ht he ce o0 o1 c0 c1 u0 u1 h
  subst hl
  exact ⟨b, c, xs, rfl, hr, hm⟩
set_option maxHeartbeats 2000000 in
theorem szDesk_ok (a : Option Addr) (n cap : Nat) (q : Int) (h : n ≤ 1048576) (w : World) :
    Calls Try.prog 11 #[.agg #[.slice a n cap, .int .i64 q], .int .i64 1048576] w fun e w' => e = .returned (.int .i64 (1048576 - (n : Int))) ∧ Below w.heap.size w w' := by
  have h0 : ¬ (1048576 - (n : Int) < 0) := by omega
  have h1 : ¬ (1048576 : Int) < (n : Int) := by omega
  go_enter Try.func11, Try.ntmps11
  go_wp2_with (first | (go_at_call 33; refine (szWalkerS_any a n cap _ (by omega)).mono ?_; rw [if_neg h1]; rintro e w1 ⟨rfl, rfl⟩))
  go_ret
  exact ⟨rfl, by (repeat (first | assumption | exact Below.refl _ _ | refine Below.drew ?_ | refine below_drewN ?_ _ | refine Below.setCell ?_ (by first | omega | (simp; done) | (simp; omega)) _ | refine Below.alloc ?_ (by first | omega | (simp; done) | (simp; omega)) _ | refine bchain ?_ (by assumption) (by first | omega | (simp; done) | (simp; omega))))⟩
set_option maxHeartbeats 2000000 in
theorem szDesk_big (a : Option Addr) (n cap : Nat) (q : Int) (h : 1048576 < n) (hm : n ≤ 9223372036854775807) (w : World) :
    Calls Try.prog 11 #[.agg #[.slice a n cap, .int .i64 q], .int .i64 1048576] w fun e w' => e = .returned (.int .i64 (-1)) ∧ Below w.heap.size w w' := by
  have h1 : (1048576 : Int) < (n : Int) := by omega
  go_enter Try.func11, Try.ntmps11
  go_wp2_with (first | (go_at_call 33; refine (szWalkerS_any a n cap _ (by omega)).mono ?_; rw [if_pos h1]; rintro e w1 ⟨rfl, rfl⟩))
  go_ret
  exact ⟨rfl, by (repeat (first | assumption | exact Below.refl _ _ | refine Below.drew ?_ | refine below_drewN ?_ _ | refine Below.setCell ?_ (by first | omega | (simp; done) | (simp; omega)) _ | refine Below.alloc ?_ (by first | omega | (simp; done) | (simp; omega)) _ | refine bchain ?_ (by assumption) (by first | omega | (simp; done) | (simp; omega))))⟩
set_option maxHeartbeats 4000000 in
theorem toDesk_any (a : Option Addr) (cap : Nat) (xs : List (Int × Int)) (q : Int) (w : World) (h : RdP w a xs) (hx : xs.length ≤ 1048576) :
    Calls Try.prog 13 #[.agg #[.slice a xs.length cap, .int .i64 q]] w fun e1 w' => ∃ a', e1 = .returned (.agg #[.slice a' xs.length xs.length, .int .i64 q]) ∧ OwnP w' w.heap.size a' xs.length xs ∧ Below w.heap.size w w' := by
  go_enter Try.func13, Try.ntmps13
  go_wp2_with fail
  generalize hw3 : World.alloc (World.alloc (World.alloc w _) _) _ = w3
  have B3 : Below w.heap.size w w3 := by subst hw3; (repeat (first | assumption | exact Below.refl _ _ | refine Below.drew ?_ | refine below_drewN ?_ _ | refine Below.setCell ?_ (by first | omega | (simp; done) | (simp; omega)) _ | refine Below.alloc ?_ (by first | omega | (simp; done) | (simp; omega)) _ | refine bchain ?_ (by assumption) (by first | omega | (simp; done) | (simp; omega))))
  have hz3 : w3.heap.size = w.heap.size + 3 := by subst hw3; simp
  have c00 : w3.cell? ⟨w.heap.size, 0, none⟩ = some (.slice a xs.length cap) := by subst hw3; go_simp
  have c01 : w3.cell? ⟨w.heap.size, 1, none⟩ = some (.int .i64 q) := by subst hw3; go_simp
  have c10 : w3.cell? ⟨w.heap.size + 1, 0, none⟩ = some (.slice none 0 0) := by subst hw3; go_simp
  have c11 : w3.cell? ⟨w.heap.size + 1, 1, none⟩ = some (.int .i64 0) := by subst hw3; go_simp
  have c20 : w3.cell? ⟨w.heap.size + 1 + 1, 0, none⟩ = some (.slice none 0 0) := by subst hw3; go_simp
  have c21 : w3.cell? ⟨w.heap.size + 1 + 1, 1, none⟩ = some (.int .i64 0) := by subst hw3; go_simp
  have f1 : ∀ o, w3.frozen? ⟨w.heap.size + 1, o, none⟩ = false := by intro o; subst hw3; go_simp
  have f2 : ∀ o, w3.frozen? ⟨w.heap.size + 1 + 1, o, none⟩ = false := by intro o; subst hw3; go_simp
  clear hw3
  refine (toWalkerS_any a cap xs _ (h.below B3) hx).mono ?_; rintro e1 w4 ⟨rfl, hO, hb4⟩
  have hz4 := hb4.size
  have d0 : ∀ o, w4.cell? ⟨w.heap.size, o, none⟩ = w3.cell? ⟨w.heap.size, o, none⟩ := fun o => (bcell hb4).1 _ o (by omega)
  have d1 : ∀ o, w4.cell? ⟨w.heap.size + 1, o, none⟩ = w3.cell? ⟨w.heap.size + 1, o, none⟩ := fun o => (bcell hb4).1 _ o (by omega)
  have d2 : ∀ o, w4.cell? ⟨w.heap.size + 1 + 1, o, none⟩ = w3.cell? ⟨w.heap.size + 1 + 1, o, none⟩ := fun o => (bcell hb4).1 _ o (by omega)
  have g1 : ∀ o, w4.frozen? ⟨w.heap.size + 1, o, none⟩ = false := fun o => by rw [(bcell hb4).2 _ o (by omega)]; exact f1 o
  have g2 : ∀ o, w4.frozen? ⟨w.heap.size + 1 + 1, o, none⟩ = false := fun o => by rw [(bcell hb4).2 _ o (by omega)]; exact f2 o
  rw [hz3] at hO
  have B4 : Below w.heap.size w w4 := B3.trans (hb4.mono (by omega))
  rw [hz3]
  have e00 : w4.cell? ⟨w.heap.size, 0, none⟩ = some (.slice a xs.length cap) := by rw [d0]; exact c00
  have e01 : w4.cell? ⟨w.heap.size, 1, none⟩ = some (.int .i64 q) := by rw [d0]; exact c01
  have e10 : w4.cell? ⟨w.heap.size + 1, 0, none⟩ = some (.slice none 0 0) := by rw [d1]; exact c10
  have e11 : w4.cell? ⟨w.heap.size + 1, 1, none⟩ = some (.int .i64 0) := by rw [d1]; exact c11
  have e20 : w4.cell? ⟨w.heap.size + 1 + 1, 0, none⟩ = some (.slice none 0 0) := by rw [d2]; exact c20
  have e21 : w4.cell? ⟨w.heap.size + 1 + 1, 1, none⟩ = some (.int .i64 0) := by rw [d2]; exact c21
  clear d0 d1 d2 f1 f2 c00 c01 c10 c11 c20 c21
  go_wp2_with fail
  refine bodyPost_ret (v := .agg #[.slice (some ⟨w.heap.size + 3, 0, none⟩) xs.length xs.length, .int .i64 q]) (by simp [results, Try.results13, go_sem, e10, e11]) rfl ⟨_, rfl, ?_, ?_⟩
  · exact row_low (row_setLow (row_setLow (row_setLow (row_setLow hO _ _ (by simp)) _ _ (by simp)) _ _ (by simp)) _ _ (by simp)) (by omega)
  · exact (((B4.setCell (by simp; omega) _).setCell (by simp; omega) _).setCell (by simp) _).setCell (by simp) _
set_option maxHeartbeats 2000000 in
theorem eqDesk_eq (a a2 : Option Addr) (cap cap2 : Nat) (xs : List (Int × Int)) (q : Int) (w : World) (h : RdP w a xs) (g : RdP w a2 xs) (hx : xs.length ≤ 1048576) :
    Calls Try.prog 8 #[.agg #[.slice a xs.length cap, .int .i64 q], .agg #[.slice a2 xs.length cap2, .int .i64 q]] w fun e w' => e = .returned (.bool true) ∧ Below w.heap.size w w' := by
  go_enter Try.func8, Try.ntmps8
  go_wp2_with (first | (go_at_call 30; refine (eqWalkerS_eq a a2 cap cap2 xs _ (h.below (by (repeat (first | assumption | exact Below.refl _ _ | refine Below.drew ?_ | refine below_drewN ?_ _ | refine Below.setCell ?_ (by first | omega | (simp; done) | (simp; omega)) _ | refine Below.alloc ?_ (by first | omega | (simp; done) | (simp; omega)) _ | refine bchain ?_ (by assumption) (by first | omega | (simp; done) | (simp; omega)))))) (g.below (by (repeat (first | assumption | exact Below.refl _ _ | refine Below.drew ?_ | refine below_drewN ?_ _ | refine Below.setCell ?_ (by first | omega | (simp; done) | (simp; omega)) _ | refine Below.alloc ?_ (by first | omega | (simp; done) | (simp; omega)) _ | refine bchain ?_ (by assumption) (by first | omega | (simp; done) | (simp; omega)))))) hx).mono ?_; rintro e w1 ⟨rfl, hb⟩; have hs := hb.size; (try simp only [World.size_alloc] at hs); have hcA := fun o => (bcell hb).1 w.heap.size o (by first | omega | (simp; done) | (simp; omega)); have hcB := fun o => (bcell hb).1 (w.heap.size + 1) o (by first | omega | (simp; done) | (simp; omega))))
  go_ret
  exact ⟨rfl, by (repeat (first | assumption | exact Below.refl _ _ | refine Below.drew ?_ | refine below_drewN ?_ _ | refine Below.setCell ?_ (by first | omega | (simp; done) | (simp; omega)) _ | refine Below.alloc ?_ (by first | omega | (simp; done) | (simp; omega)) _ | refine bchain ?_ (by assumption) (by first | omega | (simp; done) | (simp; omega))))⟩
set_option maxHeartbeats 2000000 in
theorem markDesk_own (base : Nat) (a : Option Addr) (cap : Nat) (xs : List (Int × Int)) (q k : Int) (w : World) (h : OwnP w base a cap xs) (k0 : 0 ≤ k) (k1 : k + 2 * (xs.length : Int) ≤ 4611686018427387904) :
    Calls Try.prog 9 #[.agg #[.slice a xs.length cap, .int .i64 q], .int .i64 k] w fun e w' => e = .returned (.int .i64 (k + 2 * (xs.length : Int))) ∧ w'.ownsRow base 50 2 (.slice a xs.length cap) xs.length (cs2 (sqP k xs.length)) ∧ w.grownBy w' (Value.slice a xs.length cap).ownBlock := by
  go_enter Try.func9, Try.ntmps9
  go_wp2_with fail
  have b0 : Below w.heap.size w (w.alloc (.cells #[.slice a xs.length cap, .int .i64 q] 24)) := (Below.refl _ _).alloc (Nat.le_refl _) _
  refine (markWalkerS_own base a cap xs k _ (h.below b0) k0 k1).mono ?_; rintro e w1 ⟨rfl, hO, hg⟩
  go_wp2_with fail
  go_ret
  exact ⟨rfl, hO, (World.grownBy_alloc w _ _).trans hg⟩
set_option maxHeartbeats 2000000 in
theorem heldWalkerS_dk (a : Option Addr) (n cap : Nat) (k : Int) (w : World) (h : RdP w a (sqP k n)) (k0 : 0 ≤ k) (k1 : k + 2 * (n : Int) ≤ 4611686018427387904) :
    Calls Try.prog 32 #[.slice a n cap, .int .i64 k] w fun e w' => e = .returned (.int .i64 (k + 2 * (n : Int))) ∧ Below w.heap.size w w' := by
  go_enter Try.func32, Try.ntmps32
  go_wp2_with fail
  go_loopg [1, 5] n (fun f v1 v5 wr => ∃ (j : Nat), v1 = .int .i64 (k + 2 * (j : Int)) ∧ v5 = .int .i64 (j : Int) ∧ j + f ≤ n ∧ n ≤ j + f ∧ Below w.heap.size w wr)
  case atStart => exact ⟨0, by simp, rfl, by omega, by omega, Below.refl _ _⟩
  case round =>
    obtain ⟨j, rfl, rfl, h1, h2, hbel⟩ := hrel
    by_cases hj : j < n
    · rcases h with h | ⟨b, off, rfl, hlt, hc⟩
      · have := congrArg List.length h; rw [sqP_length] at this; simp at this; omega
      · have hcj := (hc j (by rw [sqP_length]; exact hj)).1
        have hck := (hc j (by rw [sqP_length]; exact hj)).2
        rw [sqP_x k n j hj] at hcj
        rw [sqP_y k n j hj] at hck
        have hcj' : wr.cell? ⟨b, off + j * 2, none⟩ = some (.int .i64 (k + 2 * (j : Int))) := by rw [(bcell hbel).1 b _ hlt]; exact hcj
        have hck' : wr.cell? ⟨b, off + j * 2 + 1, none⟩ = some (.int .i64 (k + 2 * (j : Int) + 1)) := by rw [(bcell hbel).1 b _ hlt]; exact hck
        have hjI : (j : Int) < (n : Int) := by omega
        have HB := Lib.hid hbel
        clear hbel hc hcj hck
        go_wp2_with fail
        all_goals try (go_quiet (fail); go_wp2_with fail)
        all_goals try (go_quiet (fail); go_wp2_with fail)
        go_roundg (gk - 1)
        case rel => exact ⟨j + 1, by rw [show k + 2 * ((j + 1 : Nat) : Int) = k + 2 * (j : Int) + 1 + 1 from by omega], by go_num, by omega, by omega, by first | exact HB.out | exact below_drewN HB.out _⟩
        case measure => omega
    · have e : j = n := by omega
      have HB := Lib.hid hbel
      clear hbel
      subst e
      go_wp2_with fail
      go_ret
      exact ⟨rfl, HB.out⟩
set_option maxHeartbeats 2000000 in
theorem heldDesk_ok (a : Option Addr) (n cap : Nat) (q k : Int) (w : World) (h : RdP w a (sqP k n)) (k0 : 0 ≤ k) (k1 : k + 2 * (n : Int) ≤ 4611686018427387904) :
    Calls Try.prog 10 #[.agg #[.slice a n cap, .int .i64 q], .int .i64 k] w fun e w' => e = .returned (.int .i64 (k + 2 * (n : Int))) ∧ Below w.heap.size w w' := by
  have h0 : ¬ (k + 2 * (n : Int) < 0) := by omega
  go_enter Try.func10, Try.ntmps10
  go_wp2_with (first | (go_at_call 32; refine (heldWalkerS_dk a n cap k _ (h.below (by (repeat (first | assumption | exact Below.refl _ _ | refine Below.drew ?_ | refine below_drewN ?_ _ | refine Below.setCell ?_ (by first | omega | (simp; done) | (simp; omega)) _ | refine Below.alloc ?_ (by first | omega | (simp; done) | (simp; omega)) _ | refine bchain ?_ (by assumption) (by first | omega | (simp; done) | (simp; omega)))))) k0 k1).mono ?_; rintro e w1 ⟨rfl, hb⟩))
  go_ret
  exact ⟨rfl, by (repeat (first | assumption | exact Below.refl _ _ | refine Below.drew ?_ | refine below_drewN ?_ _ | refine Below.setCell ?_ (by first | omega | (simp; done) | (simp; omega)) _ | refine Below.alloc ?_ (by first | omega | (simp; done) | (simp; omega)) _ | refine bchain ?_ (by assumption) (by first | omega | (simp; done) | (simp; omega))))⟩
set_option maxHeartbeats 2000000 in
theorem coGood_any (a : Option Addr) (cap : Nat) (xs : List (Int × Int)) (q : Int) (w : World) (h : RdP w a xs) (hx : xs.length ≤ 1048576) :
    Calls Try.prog 34 #[.agg #[.slice a xs.length cap, .int .i64 q]] w fun e w' => e = .returned (.bool (dkOk xs q)) ∧ Below w.heap.size w w' := by
  cases hw : wks xs <;> cases hq : inB q 1 1000
  all_goals
    have HR := Lib.hid (show dkOk xs q = (wks xs && inB q 1 1000) from rfl)
    have HW := Lib.hid hw
    have HQ := Lib.hid hq
    clear hw hq
    go_enter Try.func34, Try.ntmps34
    go_wp2_with (first | (go_at_call 62; refine (meAll_any a cap xs _ (h.below (by (repeat (first | assumption | exact Below.refl _ _ | refine Below.drew ?_ | refine below_drewN ?_ _ | refine Below.setCell ?_ (by first | omega | (simp; done) | (simp; omega)) _ | refine Below.alloc ?_ (by first | omega | (simp; done) | (simp; omega)) _ | refine bchain ?_ (by assumption) (by first | omega | (simp; done) | (simp; omega)))))) hx).mono ?_; rw [HW.out]; rintro e w1 ⟨rfl, hb⟩; have hs := hb.size; (try simp only [World.size_alloc] at hs); have hcA := fun o => (bcell hb).1 w.heap.size o (by first | omega | (simp; done) | (simp; omega))) | (go_at_call 57; refine (specIn _ _ _ _).mono ?_; rw [HQ.out]; rintro e w1 ⟨rfl, rfl⟩))
    all_goals go_ret
    all_goals exact ⟨by rw [HR.out, HW.out, HQ.out]; rfl, by (repeat (first | assumption | exact Below.refl _ _ | refine Below.drew ?_ | refine below_drewN ?_ _ | refine Below.setCell ?_ (by first | omega | (simp; done) | (simp; omega)) _ | refine Below.alloc ?_ (by first | omega | (simp; done) | (simp; omega)) _ | refine bchain ?_ (by assumption) (by first | omega | (simp; done) | (simp; omega))))⟩
set_option maxHeartbeats 2000000 in
theorem specIsDesk (a : Option Addr) (cap : Nat) (xs : List (Int × Int)) (q : Int) (w : World) (h : RdP w a xs) (hx : xs.length ≤ 1048576) :
    Calls Try.prog 12 #[.agg #[.slice a xs.length cap, .int .i64 q]] w fun e w' => e = .returned (.bool (dkOk xs q)) ∧ Below w.heap.size w w' := by
  go_enter Try.func12, Try.ntmps12
  go_wp2_with (first | (go_at_call 34; refine (coGood_any a cap xs q _ (h.below (by (repeat (first | assumption | exact Below.refl _ _ | refine Below.drew ?_ | refine below_drewN ?_ _ | refine Below.setCell ?_ (by first | omega | (simp; done) | (simp; omega)) _ | refine Below.alloc ?_ (by first | omega | (simp; done) | (simp; omega)) _ | refine bchain ?_ (by assumption) (by first | omega | (simp; done) | (simp; omega)))))) hx).mono ?_; rintro e w1 ⟨rfl, hb⟩))
  go_ret
  exact ⟨rfl, by (repeat (first | assumption | exact Below.refl _ _ | refine Below.drew ?_ | refine below_drewN ?_ _ | refine Below.setCell ?_ (by first | omega | (simp; done) | (simp; omega)) _ | refine Below.alloc ?_ (by first | omega | (simp; done) | (simp; omega)) _ | refine bchain ?_ (by assumption) (by first | omega | (simp; done) | (simp; omega))))⟩
set_option maxHeartbeats 2000000 in
theorem implIsDesk (a : Option Addr) (cap : Nat) (xs : List (Int × Int)) (q : Int) (w : World) (h : RdP w a xs) (hx : xs.length ≤ 1048576) :
    Calls Try.prog 14 #[.agg #[.slice a xs.length cap, .int .i64 q]] w fun e w' => e = .returned (.bool (dkOk xs q)) ∧ Below w.heap.size w w' := by
  cases hw : wks xs <;> cases hq : inB q 1 1000
  all_goals
    have HR := Lib.hid (show dkOk xs q = (wks xs && inB q 1 1000) from rfl)
    have HW := Lib.hid hw
    have HQ := Lib.hid hq
    clear hw hq
    go_enter Try.func14, Try.ntmps14
    go_wp2_with (first | (go_at_call 36; refine (implAreWalkers a cap xs _ (h.below (by (repeat (first | assumption | exact Below.refl _ _ | refine Below.drew ?_ | refine below_drewN ?_ _ | refine Below.setCell ?_ (by first | omega | (simp; done) | (simp; omega)) _ | refine Below.alloc ?_ (by first | omega | (simp; done) | (simp; omega)) _ | refine bchain ?_ (by assumption) (by first | omega | (simp; done) | (simp; omega)))))) hx).mono ?_; rw [HW.out]; rintro e w1 ⟨rfl, hb⟩; have hs := hb.size; (try simp only [World.size_alloc] at hs); have hcA := fun o => (bcell hb).1 w.heap.size o (by first | omega | (simp; done) | (simp; omega))) | (go_at_call 37; refine (isAround_any2 _ _).mono ?_; rw [HQ.out]; rintro e w1 ⟨rfl, rfl⟩))
    all_goals go_ret
    all_goals exact ⟨by rw [HR.out, HW.out, HQ.out]; rfl, by (repeat (first | assumption | exact Below.refl _ _ | refine Below.drew ?_ | refine below_drewN ?_ _ | refine Below.setCell ?_ (by first | omega | (simp; done) | (simp; omega)) _ | refine Below.alloc ?_ (by first | omega | (simp; done) | (simp; omega)) _ | refine bchain ?_ (by assumption) (by first | omega | (simp; done) | (simp; omega))))⟩
def BoxD (w : World) (b : Nat) (v0 v1 : Value) : Prop := b < w.heap.size ∧ w.cell? ⟨b, 0, none⟩ = some v0 ∧ w.cell? ⟨b, 1, none⟩ = some v1
theorem BoxD.below {w w' : World} {b : Nat} {v0 v1 : Value} (h : BoxD w b v0 v1) (hb : Below w.heap.size w w') : BoxD w' b v0 v1 := by
  obtain ⟨h0, h1, h2⟩ := h
  exact ⟨Nat.lt_of_lt_of_le h0 hb.size, by rw [(bcell hb).1 b 0 h0]; exact h1, by rw [(bcell hb).1 b 1 h0]; exact h2⟩
theorem BoxD.grown {w w' : World} {row : Option Nat} {b : Nat} {v0 v1 : Value} (h : BoxD w b v0 v1) (hg : w.grownBy w' row) (hne : some b ≠ row) : BoxD w' b v0 v1 := by
  obtain ⟨h0, h1, h2⟩ := h
  exact ⟨Nat.lt_of_lt_of_le h0 hg.size, hg.cell h1 hne, hg.cell h2 hne⟩
theorem own_lit (w : World) (cs : List Value) (e : TypeId) (n size base : Nat) (hb : base ≤ w.heap.size) (hs : cs.length = n * size) (hm : n ≤ maxLen) :
    (w.alloc (.cells cs.toArray e)).ownsRow base e size (.slice (some ⟨w.heap.size, 0, none⟩) n n) n cs :=
  ⟨hs, .inr ⟨w.heap.size, n, cs.toArray, rfl, hb, heap_alloc_new w _, Nat.le_refl _, hm, by simpa using hs, by simp [← hs]⟩⟩
def deskXs : List (Int × Int) := [(0, 3), (10, -2)]
set_option maxHeartbeats 2000000 in
theorem implFirstDesk (w : World) :
    Calls Try.prog 7 #[] w fun e w' => ∃ a, e = .returned (.agg #[.slice a 2 2, .int .i64 10]) ∧ OwnP w' w.heap.size a 2 deskXs ∧ Below w.heap.size w w' := by
  go_enter Try.func7, Try.ntmps7
  go_wp2_with fail
  refine bodyPost_ret (v := .agg #[.slice (some ⟨w.heap.size + 1, 0, none⟩) 2 2, .int .i64 10]) (by simp [results, Try.results7, go_sem]) rfl ⟨_, rfl, ?_, by (repeat (first | assumption | exact Below.refl _ _ | refine Below.drew ?_ | refine below_drewN ?_ _ | refine Below.setCell ?_ (by first | omega | (simp; done) | (simp; omega)) _ | refine Below.alloc ?_ (by first | omega | (simp; done) | (simp; omega)) _ | refine bchain ?_ (by assumption) (by first | omega | (simp; done) | (simp; omega))))⟩
  have hL := own_lit (w.alloc (.cells #[.slice (some ⟨w.heap.size + 1, 0, none⟩) 2 2, .int .i64 10] 24)) [.int .i64 0, .int .i64 3, .int .i64 10, .int .i64 (-2)] 50 2 2 (w.heap.size + 1) (by simp) rfl (by unfold maxLen; omega)
  rw [World.size_alloc] at hL
  exact row_low hL (by omega)
set_option maxHeartbeats 2000000 in
theorem specFirstDesk (w : World) :
    Calls Try.prog 6 #[] w fun e w' => ∃ a, e = .returned (.agg #[.slice a 2 2, .int .i64 10]) ∧ OwnP w' w.heap.size a 2 deskXs ∧ Below w.heap.size w w' := by
  go_enter Try.func6, Try.ntmps6
  go_wp2_with fail
  refine bodyPost_ret (v := .agg #[.slice (some ⟨w.heap.size + 1, 0, none⟩) 2 2, .int .i64 10]) (by simp [results, Try.results6, go_sem]) rfl ⟨_, rfl, ?_, by (repeat (first | assumption | exact Below.refl _ _ | refine Below.drew ?_ | refine below_drewN ?_ _ | refine Below.setCell ?_ (by first | omega | (simp; done) | (simp; omega)) _ | refine Below.alloc ?_ (by first | omega | (simp; done) | (simp; omega)) _ | refine bchain ?_ (by assumption) (by first | omega | (simp; done) | (simp; omega))))⟩
  have hL := own_lit (w.alloc (.cells #[.slice (some ⟨w.heap.size + 1, 0, none⟩) 2 2, .int .i64 10] 24)) [.int .i64 0, .int .i64 3, .int .i64 10, .int .i64 (-2)] 50 2 2 (w.heap.size + 1) (by simp) rfl (by unfold maxLen; omega)
  rw [World.size_alloc] at hL
  exact row_low hL (by omega)
end Go.Proofs.Ytemaoaepfepolaa
