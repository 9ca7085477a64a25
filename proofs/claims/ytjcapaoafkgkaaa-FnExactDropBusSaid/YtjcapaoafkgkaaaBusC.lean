/- Contracts: DropBus of the model and of the program, slices.Clone at []int, the laws' marks in a line; a struct's box of four cells. -/
import Derived.Test.YtjcapaoafkgkaaaBusA
import Derived.Test.YtjcapaoafkgkaaaBusMathB
import Derived.Test.YtjcapaoafkgkaaaTwoOrd
import Derived.Deep.AppendLies
import Derived.Lib.SliceRun
namespace Go.Proofs.Ytjcapaoafkgkaaa
open Go.RowKit
set_option linter.unusedVariables false
set_option linter.unusedSimpArgs false
/-- a block holds a struct of four cells -/
def Box (w : World) (b : Nat) (v0 v1 v2 v3 : Value) : Prop :=
  b < w.heap.size ∧ w.cell? ⟨b, 0, none⟩ = some v0 ∧ w.cell? ⟨b, 1, none⟩ = some v1 ∧ w.cell? ⟨b, 2, none⟩ = some v2 ∧ w.cell? ⟨b, 3, none⟩ = some v3
theorem Box.below {w w' : World} {b : Nat} {v0 v1 v2 v3 : Value} (h : Box w b v0 v1 v2 v3) (hb : Below w.heap.size w w') : Box w' b v0 v1 v2 v3 := by
  obtain ⟨h0, h1, h2, h3, h4⟩ := h
  have e := fun o => (bcell hb).1 b o h0
  exact ⟨Nat.lt_of_lt_of_le h0 hb.size, by rw [e]; exact h1, by rw [e]; exact h2, by rw [e]; exact h3, by rw [e]; exact h4⟩
theorem Box.grown {w w' : World} {row : Option Nat} {b : Nat} {v0 v1 v2 v3 : Value} (h : Box w b v0 v1 v2 v3) (hg : w.grownBy w' row) (hne : some b ≠ row) : Box w' b v0 v1 v2 v3 := by
  obtain ⟨h0, h1, h2, h3, h4⟩ := h
  have e := fun o => hg.cell_far ⟨b, o, none⟩ h0 hne
  exact ⟨Nat.lt_of_lt_of_le h0 hg.size, by rw [e]; exact h1, by rw [e]; exact h2, by rw [e]; exact h3, by rw [e]; exact h4⟩
/-- what a function of (Line, bool) answers: its stops are its own -/
def RetL (w : World) (F E C : Int) (ys : List Int) (ok : Bool) (r : Ending) (w' : World) : Prop :=
  ∃ (a : Option Addr) (cap : Nat), r = .returned (.tuple #[.agg #[.int .i64 F, .int .i64 E, .int .i64 C, .slice a ys.length cap], .bool ok]) ∧ Own w' w.heap.size a cap ys ∧ Below w.heap.size w w'
theorem own_nil (w : World) (base : Nat) : Own w base none 0 [] := ⟨rfl, .inl ⟨rfl, rfl⟩⟩
theorem rdz_of {w : World} {a : Option Addr} {cap : Nat} {xs : List Int} (h : Rd w a xs) (hn : 2 ≤ xs.length) : RdZ w a cap xs := by
  rcases h with h | ⟨b, off, h1, h2, h3⟩
  · rw [h] at hn; simp at hn
  · exact .inr ⟨b, off, h1, h2, h3⟩
set_option maxHeartbeats 1000000 in
set_option maxRecDepth 100000 in
/-- slices.Clone makes a copy of its own. -/
theorem cloneI_any (a : Option Addr) (cap n : Nat) (xs : List Int) (w : World) (h : Rd w a xs) (hp : 2 ≤ xs.length) (hn : xs.length = n) (h63 : n ≤ 1048576) :
    Calls Try.prog 43 #[.slice a n cap] w fun e w' => ∃ a2 c2, e = .returned (.slice a2 n c2) ∧ w'.ownsRow w.heap.size 3 1 (.slice a2 n c2) n (xs.map (Value.int .i64)) ∧ Below w.heap.size w w' := by
  obtain ⟨i0, hi, hz0, hz1, hz2⟩ := info_parts intInfo
  have hown : (w.alloc (.cells #[] 3)).ownsRow w.heap.size 3 1 (.slice (some ⟨w.heap.size, 0, none⟩) 0 0) 0 [] := World.ownsRow_lit w #[] 0 (Nat.le_refl _) (by decide) rfl
  have B0 : Below w.heap.size w (w.alloc (.cells #[] 3)) := (Below.refl _ _).alloc (Nat.le_refl _) _
  rcases h with h | ⟨b, off, rfl, hlt, hc⟩
  · rw [h] at hp; simp at hp
  · have hnews := ints_news (w := w.alloc (.cells #[] 3)) (b := b) (off := off) (xs := xs) (fun i hi => by rw [(bcell B0).1 b _ hlt]; exact hc i hi)
    clear hc
    have hnil : ∀ w : World, (binOp .eql 22 (.slice (some ⟨b, off, none⟩) n cap) (.slice none 0 0)).run Try.prog w = .ok (.bool false) w := fun w => Go.Lib.run_eql_slice_nil w 22 3 (some ⟨b, off, none⟩) n cap 0 0 Try.underlying22
    go_enter Try.func43, Try.ntmps43
    go_wp2_with (first | (at_builtin; refine wpList_append_own _ rfl _ _ 22 rfl w.heap.size 3 i0 (.int .i64 0) 1 8 Try.underlying22 hi hz0 hz1 hz2 rfl (by decide) _ 0 [] rfl hown ⟨b, off, none⟩ n cap (xs.map (Value.int .i64)) rfl (by simp; omega) hnews ints_one (by unfold maxLen; omega) (by omega) (by simp) ?_; intro v1 w1 hown1 hgrow hx; clear hx; have hb1 := B0.grown hgrow (by simp) (fun k hk => (hown.lt k hk).1); have HB1 := Lib.hid hb1; have HO1 := Lib.hid hown1; clear hown1 hgrow hb1) | fail)
    have hO := HO1.out
    rw [Nat.zero_add, List.nil_append] at hO
    obtain ⟨a1, c1, rfl⟩ := row_form hO
    go_ret
    exact ⟨_, _, rfl, hO, HB1.out⟩
set_option maxHeartbeats 2000000 in
theorem markLine_own (f e c : Int) (base : Nat) (a : Option Addr) (cap : Nat) (xs : List Int) (k : Int) (w : World) (h : Own w base a cap xs) (k0 : 0 ≤ k) (k1 : k + (xs.length : Int) ≤ 4611686018427387904) :
    Calls Try.prog 21 #[.agg #[.int .i64 f, .int .i64 e, .int .i64 c, .slice a xs.length cap], .int .i64 k] w fun r w' => r = .returned (.int .i64 (k + (xs.length : Int))) ∧ w'.ownsRow base 3 1 (.slice a xs.length cap) xs.length ((sq k xs.length).map (Value.int .i64)) ∧ w.grownBy w' (Value.slice a xs.length cap).ownBlock := by
  have b0 : Below w.heap.size w (w.alloc (.cells #[.int .i64 f, .int .i64 e, .int .i64 c, .slice a xs.length cap] 27)) := (Below.refl _ _).alloc (Nat.le_refl _) _
  have hO := h.below b0
  go_enter Try.func21, Try.ntmps21
  go_wp2_with fail
  refine (markIntS_own base a cap xs k _ hO k0 k1).mono ?_; rintro e1 w1 ⟨rfl, hO1, hg1⟩
  have HO := Lib.hid hO1
  have HG := Lib.hid ((World.grownBy_alloc w (.cells #[.int .i64 f, .int .i64 e, .int .i64 c, .slice a xs.length cap] 27) _).trans hg1)
  clear hO1 hg1 hO b0 h
  go_wp2_with fail
  go_ret
  exact ⟨rfl, HO.out, HG.out⟩
set_option maxHeartbeats 2000000 in
theorem heldLine_ok (f e c : Int) (a : Option Addr) (n cap : Nat) (k : Int) (w : World) (h : Rd w a (sq k n)) (k0 : 0 ≤ k) (k1 : k + (n : Int) ≤ 4611686018427387904) :
    Calls Try.prog 22 #[.agg #[.int .i64 f, .int .i64 e, .int .i64 c, .slice a n cap], .int .i64 k] w fun r w' => r = .returned (.int .i64 (k + (n : Int))) ∧ Below w.heap.size w w' := by
  have hk : ¬ (k + (n : Int) < 0) := by omega
  go_enter Try.func22, Try.ntmps22
  go_wp2_with (first | (go_at_call 45; refine (heldIntS_ok a n cap k _ (h.below (by (repeat (first | exact Below.refl _ _ | refine Below.drew ?_ | refine below_drewN ?_ _ | refine Below.setCell ?_ (by first | omega | (simp; done) | (simp; omega)) _ | refine Below.alloc ?_ (by first | omega | (simp; done) | (simp; omega)) _ | refine bchain ?_ (by assumption) (by first | omega | (simp; done) | (simp; omega)))))) k0 k1).mono ?_; rintro e w1 ⟨rfl, hb1⟩; have hs1 := hb1.size; (try simp only [World.size_alloc, World.size_drew, World.size_setCell] at hs1); (try (have hl1_0 : w.heap.size < w1.heap.size := (by first | omega | (simp; done) | (simp; omega)))); (try (have hc1_0 := fun o => (bcell hb1).1 (w.heap.size) o (by first | omega | (simp; done) | (simp; omega))))) | go_in)
  go_ret
  exact ⟨rfl, by (repeat (first | exact Below.refl _ _ | refine Below.drew ?_ | refine below_drewN ?_ _ | refine Below.setCell ?_ (by first | omega | (simp; done) | (simp; omega)) _ | refine Below.alloc ?_ (by first | omega | (simp; done) | (simp; omega)) _ | refine bchain ?_ (by assumption) (by first | omega | (simp; done) | (simp; omega))))⟩
set_option maxHeartbeats 2000000 in
theorem l1Least_any2 (x y : Int) (w : World) :
    Calls Try.prog 41 #[.int .i64 x, .int .i64 y] w fun r w' => r = .returned (.int .i64 (minI x y)) ∧ w = w' := by
  by_cases hxy : x < y
  all_goals
    go_enter Try.func41, Try.ntmps41
    go_wp2
    go_ret
    exact ⟨rI (by unfold minI; first | rw [if_pos hxy] | rw [if_neg (by omega)]), rfl⟩
/-- what DropBus answers -/
def dpR (f e c : Int) (xs : List Int) (n F E C : Int) (ys : List Int) (ok : Bool) : Prop :=
  (dpK f e c xs n = true → f = F ∧ e = E ∧ minI c n = C ∧ xs = ys ∧ true = ok) ∧ (dpK f e c xs n = false → 0 = F ∧ 0 = E ∧ 0 = C ∧ [] = ys ∧ false = ok)
theorem dpR_false {f e c : Int} {xs : List Int} {n F E C : Int} {ys : List Int} {ok : Bool} (h : dpR f e c xs n F E C ys ok) (k : dpK f e c xs n = false) : 0 = F ∧ 0 = E ∧ 0 = C ∧ [] = ys ∧ false = ok := h.2 k
theorem dpR_true {f e c : Int} {xs : List Int} {n F E C : Int} {ys : List Int} {ok : Bool} (h : dpR f e c xs n F E C ys ok) (k : dpK f e c xs n = true) : f = F ∧ e = E ∧ minI c n = C ∧ xs = ys ∧ true = ok := h.1 k
set_option maxHeartbeats 4000000 in
theorem specDropBus (f e c : Int) (a : Option Addr) (cap : Nat) (xs : List Int) (n : Int) (F E C : Int) (ys : List Int) (ok : Bool) (hR : Hid (dpR f e c xs n F E C ys ok)) (w : World) (h : Rd w a xs) (hx : xs.length ≤ 1048576) :
    Calls Try.prog 19 #[.agg #[.int .i64 f, .int .i64 e, .int .i64 c, .slice a xs.length cap], .int .i64 n] w (RetL w F E C ys ok) := by
  cases g1 : lnB f e c xs
  · obtain ⟨rfl, rfl, rfl, rfl, rfl⟩ := dpR_false hR.out (by unfold dpK; rw [g1]; rfl)
    go_enter Try.func19, Try.ntmps19
    go_wp2_with (first | (go_at_call 24; refine (buGood_any f e c a cap xs _ (h.below (by (repeat (first | exact Below.refl _ _ | refine Below.drew ?_ | refine below_drewN ?_ _ | refine Below.setCell ?_ (by first | omega | (simp; done) | (simp; omega)) _ | refine Below.alloc ?_ (by first | omega | (simp; done) | (simp; omega)) _ | refine bchain ?_ (by assumption) (by first | omega | (simp; done) | (simp; omega)))))) hx).mono ?_; rw [g1]; rintro e w1 ⟨rfl, hb1⟩; have hs1 := hb1.size; (try simp only [World.size_alloc, World.size_drew, World.size_setCell] at hs1); (try (have hl1_0 : w.heap.size < w1.heap.size := (by first | omega | (simp; done) | (simp; omega)))); (try (have hc1_0 := fun o => (bcell hb1).1 (w.heap.size) o (by first | omega | (simp; done) | (simp; omega)))); (try (have hl1_1 : w.heap.size + 1 < w1.heap.size := (by first | omega | (simp; done) | (simp; omega)))); (try (have hc1_1 := fun o => (bcell hb1).1 (w.heap.size + 1) o (by first | omega | (simp; done) | (simp; omega)))); have hf1 : ∀ o, w1.frozen? ⟨w.heap.size + 1, o, none⟩ = false := fun o => (by rw [(bcell hb1).2 _ o (by first | omega | (simp; done) | (simp; omega))]; go_simp); have hf0 : ∀ o, w1.frozen? ⟨w.heap.size, o, none⟩ = false := fun o => (by rw [(bcell hb1).2 _ o (by first | omega | (simp; done) | (simp; omega))]; go_simp)) | go_in)
    have z0 : w1.cell? ⟨w.heap.size + 1, 0, none⟩ = some (.int .i64 0) := by rw [hc1_1]; go_simp
    have z1 : w1.cell? ⟨w.heap.size + 1, 1, none⟩ = some (.int .i64 0) := by rw [hc1_1]; go_simp
    have z2 : w1.cell? ⟨w.heap.size + 1, 2, none⟩ = some (.int .i64 0) := by rw [hc1_1]; go_simp
    have z3 : w1.cell? ⟨w.heap.size + 1, 3, none⟩ = some (.slice none 0 0) := by rw [hc1_1]; go_simp
    refine bodyPost_ret (v := .tuple #[.agg #[.int .i64 0, .int .i64 0, .int .i64 0, .slice none 0 0], .bool false]) (by simp [results, Try.results19, go_sem, z0, z1, z2, z3]) rfl ⟨none, 0, rfl, own_nil _ _, ?_⟩
    (repeat (first | exact Below.refl _ _ | refine Below.drew ?_ | refine below_drewN ?_ _ | refine Below.setCell ?_ (by first | omega | (simp; done) | (simp; omega)) _ | refine Below.alloc ?_ (by first | omega | (simp; done) | (simp; omega)) _ | refine bchain ?_ (by assumption) (by first | omega | (simp; done) | (simp; omega))))
  · cases g2 : inB n 1 60
    · obtain ⟨rfl, rfl, rfl, rfl, rfl⟩ := dpR_false hR.out (by unfold dpK; rw [g2]; simp)
      go_enter Try.func19, Try.ntmps19
      go_wp2_with (first | (go_at_call 24; refine (buGood_any f e c a cap xs _ (h.below (by (repeat (first | exact Below.refl _ _ | refine Below.drew ?_ | refine below_drewN ?_ _ | refine Below.setCell ?_ (by first | omega | (simp; done) | (simp; omega)) _ | refine Below.alloc ?_ (by first | omega | (simp; done) | (simp; omega)) _ | refine bchain ?_ (by assumption) (by first | omega | (simp; done) | (simp; omega)))))) hx).mono ?_; rw [g1]; rintro e w1 ⟨rfl, hb1⟩; have hs1 := hb1.size; (try simp only [World.size_alloc, World.size_drew, World.size_setCell] at hs1); (try (have hl1_0 : w.heap.size < w1.heap.size := (by first | omega | (simp; done) | (simp; omega)))); (try (have hc1_0 := fun o => (bcell hb1).1 (w.heap.size) o (by first | omega | (simp; done) | (simp; omega)))); (try (have hl1_1 : w.heap.size + 1 < w1.heap.size := (by first | omega | (simp; done) | (simp; omega)))); (try (have hc1_1 := fun o => (bcell hb1).1 (w.heap.size + 1) o (by first | omega | (simp; done) | (simp; omega)))); have hf1 : ∀ o, w1.frozen? ⟨w.heap.size + 1, o, none⟩ = false := fun o => (by rw [(bcell hb1).2 _ o (by first | omega | (simp; done) | (simp; omega))]; go_simp); have hf0 : ∀ o, w1.frozen? ⟨w.heap.size, o, none⟩ = false := fun o => (by rw [(bcell hb1).2 _ o (by first | omega | (simp; done) | (simp; omega))]; go_simp)) | (go_at_call 31; refine (specIn _ _ _ _).mono ?_; rw [g2]; rintro e w1 ⟨rfl, rfl⟩) | go_in)
      have z0 : w1.cell? ⟨w.heap.size + 1, 0, none⟩ = some (.int .i64 0) := by rw [hc1_1]; go_simp
      have z1 : w1.cell? ⟨w.heap.size + 1, 1, none⟩ = some (.int .i64 0) := by rw [hc1_1]; go_simp
      have z2 : w1.cell? ⟨w.heap.size + 1, 2, none⟩ = some (.int .i64 0) := by rw [hc1_1]; go_simp
      have z3 : w1.cell? ⟨w.heap.size + 1, 3, none⟩ = some (.slice none 0 0) := by rw [hc1_1]; go_simp
      refine bodyPost_ret (v := .tuple #[.agg #[.int .i64 0, .int .i64 0, .int .i64 0, .slice none 0 0], .bool false]) (by simp [results, Try.results19, go_sem, z0, z1, z2, z3]) rfl ⟨none, 0, rfl, own_nil _ _, ?_⟩
      (repeat (first | exact Below.refl _ _ | refine Below.drew ?_ | refine below_drewN ?_ _ | refine Below.setCell ?_ (by first | omega | (simp; done) | (simp; omega)) _ | refine Below.alloc ?_ (by first | omega | (simp; done) | (simp; omega)) _ | refine bchain ?_ (by assumption) (by first | omega | (simp; done) | (simp; omega))))
    · obtain ⟨rfl, rfl, rfl, rfl, rfl⟩ := dpR_true hR.out (by unfold dpK; rw [g1, g2]; rfl)
      clear hR
      have L := lnB_iff.1 g1
      go_enter Try.func19, Try.ntmps19
      go_wp2_with (first | (go_at_call 24; refine (buGood_any f e c a cap xs _ (h.below (by (repeat (first | exact Below.refl _ _ | refine Below.drew ?_ | refine below_drewN ?_ _ | refine Below.setCell ?_ (by first | omega | (simp; done) | (simp; omega)) _ | refine Below.alloc ?_ (by first | omega | (simp; done) | (simp; omega)) _ | refine bchain ?_ (by assumption) (by first | omega | (simp; done) | (simp; omega)))))) hx).mono ?_; rw [g1]; rintro e w1 ⟨rfl, hb1⟩; have hs1 := hb1.size; (try simp only [World.size_alloc, World.size_drew, World.size_setCell] at hs1); (try (have hl1_0 : w.heap.size < w1.heap.size := (by first | omega | (simp; done) | (simp; omega)))); (try (have hc1_0 := fun o => (bcell hb1).1 (w.heap.size) o (by first | omega | (simp; done) | (simp; omega)))); (try (have hl1_1 : w.heap.size + 1 < w1.heap.size := (by first | omega | (simp; done) | (simp; omega)))); (try (have hc1_1 := fun o => (bcell hb1).1 (w.heap.size + 1) o (by first | omega | (simp; done) | (simp; omega)))); have hf1 : ∀ o, w1.frozen? ⟨w.heap.size + 1, o, none⟩ = false := fun o => (by rw [(bcell hb1).2 _ o (by first | omega | (simp; done) | (simp; omega))]; go_simp); have hf0 : ∀ o, w1.frozen? ⟨w.heap.size, o, none⟩ = false := fun o => (by rw [(bcell hb1).2 _ o (by first | omega | (simp; done) | (simp; omega))]; go_simp)) | (go_at_call 31; refine (specIn _ _ _ _).mono ?_; rw [g2]; rintro e w1 ⟨rfl, rfl⟩))
      have d0 : w1.cell? ⟨w.heap.size, 0, none⟩ = some (.int .i64 f) := by rw [hc1_0]; go_simp
      have d1 : w1.cell? ⟨w.heap.size, 1, none⟩ = some (.int .i64 e) := by rw [hc1_0]; go_simp
      have d2 : w1.cell? ⟨w.heap.size, 2, none⟩ = some (.int .i64 c) := by rw [hc1_0]; go_simp
      have d3 : w1.cell? ⟨w.heap.size, 3, none⟩ = some (.slice a xs.length cap) := by rw [hc1_0]; go_simp
      have z0 : w1.cell? ⟨w.heap.size + 1, 0, none⟩ = some (.int .i64 0) := by rw [hc1_1]; go_simp
      have z1 : w1.cell? ⟨w.heap.size + 1, 1, none⟩ = some (.int .i64 0) := by rw [hc1_1]; go_simp
      have z2 : w1.cell? ⟨w.heap.size + 1, 2, none⟩ = some (.int .i64 0) := by rw [hc1_1]; go_simp
      have z3 : w1.cell? ⟨w.heap.size + 1, 3, none⟩ = some (.slice none 0 0) := by rw [hc1_1]; go_simp
      have B1 : Below w.heap.size w w1 := by (repeat (first | exact Below.refl _ _ | refine Below.drew ?_ | refine below_drewN ?_ _ | refine Below.setCell ?_ (by first | omega | (simp; done) | (simp; omega)) _ | refine Below.alloc ?_ (by first | omega | (simp; done) | (simp; omega)) _ | refine bchain ?_ (by assumption) (by first | omega | (simp; done) | (simp; omega))))
      have n0 := L.n0
      have R1 : Rd w1 a xs := h.below B1
      have Z0 := Lib.hid z0
      have Z1 := Lib.hid z1
      have Z2 := Lib.hid z2
      have Z3 := Lib.hid z3
      have F1 := Lib.hid hf1
      have RW := Lib.hid h
      clear hc1_0 hc1_1 hb1 z0 z1 z2 z3 hf0 hf1 h L R1
      refine wp_region_held_drew (S := (fun v => Below w.heap.size w v ∧ v.cell? ⟨w.heap.size, 0, none⟩ = some (.int .i64 f) ∧ v.cell? ⟨w.heap.size, 1, none⟩ = some (.int .i64 e) ∧ v.cell? ⟨w.heap.size, 2, none⟩ = some (.int .i64 c) ∧ v.cell? ⟨w.heap.size, 3, none⟩ = some (.slice a xs.length cap))) (by kernel_rfl) ?_ (fun hHeld => ?_)
      · (try dsimp only); (refine ⟨?_, ?_, ?_, ?_, ?_⟩ <;> first | with_reducible assumption | (go_simp; done) | ((repeat (first | with_reducible refine Below.setCell ?_ (by first | omega | (simp; done) | (simp; omega)) _ | with_reducible refine Below.drew ?_ | with_reducible refine below_drewN ?_ _ | with_reducible refine Below.alloc ?_ (by first | omega | (simp; done) | (simp; omega)) _ | with_reducible exact Below.refl _ _ | with_reducible assumption | with_reducible refine bchain ?_ (by with_reducible assumption) (by first | omega | (simp; done) | (simp; omega)))); done))
      refine wpAnyH_take (i := 0) (v := ?_) rfl (by kernel_rfl) (by kernel_rfl) (by kernel_rfl) (fun _ _ _ h => h) (Or.inl ⟨by kernel_rfl, ?_⟩) (by assumption) ?_
      rotate_left 1
      · ((intro w hSw; (try dsimp only at hSw); go_simp) <;> (try with_reducible rfl))
      try simp only [Act.put, List.setIfInBounds_toArray, List.set_cons_zero, List.set_cons_succ]
      refine wpAnyH_take (i := 1) (v := ?_) rfl (by kernel_rfl) (by kernel_rfl) (by kernel_rfl) (fun _ _ _ h => h) (Or.inl ⟨by kernel_rfl, ?_⟩) (by assumption) ?_
      rotate_left 1
      · ((intro w hSw; (try dsimp only at hSw); go_simp) <;> (try with_reducible rfl))
      try simp only [Act.put, List.setIfInBounds_toArray, List.set_cons_zero, List.set_cons_succ]
      refine wpAnyH_take (i := 2) (v := ?_) rfl (by kernel_rfl) (by kernel_rfl) (by kernel_rfl) (fun _ _ _ h => h) (Or.inl ⟨by kernel_rfl, ?_⟩) (by assumption) ?_
      rotate_left 1
      · ((intro w hSw; (try dsimp only at hSw); go_simp) <;> (try with_reducible rfl))
      try simp only [Act.put, List.setIfInBounds_toArray, List.set_cons_zero, List.set_cons_succ]
      refine wpAnyH_take (i := 3) (v := ?_) rfl (by kernel_rfl) (by kernel_rfl) (by kernel_rfl) (fun _ _ _ h => h) (Or.inl ⟨by kernel_rfl, ?_⟩) (by assumption) ?_
      rotate_left 1
      · ((intro w hSw; (try dsimp only at hSw); go_simp) <;> (try with_reducible rfl))
      try simp only [Act.put, List.setIfInBounds_toArray, List.set_cons_zero, List.set_cons_succ]
      refine wpAnyH_take (i := 4) (v := ?_) rfl (by kernel_rfl) (by kernel_rfl) (by kernel_rfl) (fun _ _ _ h => h) (Or.inl ⟨by kernel_rfl, ?_⟩) (by assumption) ?_
      rotate_left 1
      · ((intro w hSw; (try dsimp only at hSw); go_simp) <;> (try with_reducible rfl))
      try simp only [Act.put, List.setIfInBounds_toArray, List.set_cons_zero, List.set_cons_succ]
      refine wpAnyH_take (i := 5) (v := ?_) rfl (by kernel_rfl) (by kernel_rfl) (by kernel_rfl) (fun _ _ _ h => h) (Or.inl ⟨by kernel_rfl, ?_⟩) (by assumption) ?_
      rotate_left 1
      · ((intro w hSw; (try dsimp only at hSw); go_simp) <;> (try with_reducible rfl))
      try simp only [Act.put, List.setIfInBounds_toArray, List.set_cons_zero, List.set_cons_succ]
      refine wpAnyH_take (i := 6) (v := ?_) rfl (by kernel_rfl) (by kernel_rfl) (by kernel_rfl) (fun _ _ _ h => h) (Or.inl ⟨by kernel_rfl, ?_⟩) (by assumption) ?_
      rotate_left 1
      · ((intro w hSw; (try dsimp only at hSw); go_simp) <;> (try with_reducible rfl))
      try simp only [Act.put, List.setIfInBounds_toArray, List.set_cons_zero, List.set_cons_succ]
      refine wpAnyH_take (i := 8) (v := ?_) rfl (by kernel_rfl) (by kernel_rfl) (by kernel_rfl) (fun _ _ _ h => h) (Or.inl ⟨by kernel_rfl, ?_⟩) (by assumption) ?_
      rotate_left 1
      · ((intro w hSw; (try dsimp only at hSw); go_simp) <;> (try with_reducible rfl))
      try simp only [Act.put, List.setIfInBounds_toArray, List.set_cons_zero, List.set_cons_succ]
      refine wpAnyH_take (i := 9) (v := ?_) rfl (by kernel_rfl) (by kernel_rfl) (by kernel_rfl) (fun _ _ _ h => h) (Or.inl ⟨by kernel_rfl, ?_⟩) (by assumption) ?_
      rotate_left 1
      · ((intro w hSw; (try dsimp only at hSw); go_simp) <;> (try with_reducible rfl))
      try simp only [Act.put, List.setIfInBounds_toArray, List.set_cons_zero, List.set_cons_succ]
      refine wpAnyH_ready (rs := [7]) (by kernel_rfl) (by simp) ?_
      refine AllReadyH.cons rfl (fun K hK => ?_) AllReadyH.nil
      go_simp
      (go_at_call 41; refine (l1Least_any2 c n _).mono ?_; rintro e1 w2 ⟨rfl, rfl⟩)
      refine hK.out _ _ ?_ (fun hHeld => ?_)
      · (try dsimp only); (refine ⟨?_, ?_, ?_, ?_, ?_⟩ <;> first | with_reducible assumption | (go_simp; done) | ((repeat (first | with_reducible refine Below.setCell ?_ (by first | omega | (simp; done) | (simp; omega)) _ | with_reducible refine Below.drew ?_ | with_reducible refine below_drewN ?_ _ | with_reducible refine Below.alloc ?_ (by first | omega | (simp; done) | (simp; omega)) _ | with_reducible exact Below.refl _ _ | with_reducible assumption | with_reducible refine bchain ?_ (by with_reducible assumption) (by first | omega | (simp; done) | (simp; omega)))); done))
      clear hK K
      try simp only [Act.put, List.setIfInBounds_toArray, List.set_cons_zero, List.set_cons_succ]
      refine wpAnyH_ready (rs := [10]) (by kernel_rfl) (by simp) ?_
      refine AllReadyH.cons rfl (fun K hK => ?_) AllReadyH.nil
      go_simp
      (go_at_call 42; refine (l1Own_any a cap xs.length xs _ (rdz_of (RW.out.below (by (repeat (first | with_reducible refine Below.setCell ?_ (by first | omega | (simp; done) | (simp; omega)) _ | with_reducible refine Below.drew ?_ | with_reducible refine below_drewN ?_ _ | with_reducible refine Below.alloc ?_ (by first | omega | (simp; done) | (simp; omega)) _ | with_reducible exact Below.refl _ _ | with_reducible assumption | with_reducible refine bchain ?_ (by with_reducible assumption) (by first | omega | (simp; done) | (simp; omega)))))) n0) rfl hx).mono ?_; rintro e1 w3 ⟨a2, c2, rfl, hO3, hb3⟩; have hs3 := hb3.size; (try simp only [World.size_alloc, World.size_drew] at hs3); have hcA3 := fun o => (bcell hb3).1 w.heap.size o (by first | omega | (simp; done) | (simp; omega)); have hcX3 := fun o => (bcell hb3).1 (w.heap.size + 1) o (by first | omega | (simp; done) | (simp; omega)); have hfX3 := fun o => (bcell hb3).2 (w.heap.size + 1) o (by first | omega | (simp; done) | (simp; omega)))
      refine hK.out _ _ ?_ (fun hHeld => ?_)
      · (try dsimp only); (refine ⟨?_, ?_, ?_, ?_, ?_⟩ <;> first | with_reducible assumption | (go_simp; done) | ((repeat (first | with_reducible refine Below.setCell ?_ (by first | omega | (simp; done) | (simp; omega)) _ | with_reducible refine Below.drew ?_ | with_reducible refine below_drewN ?_ _ | with_reducible refine Below.alloc ?_ (by first | omega | (simp; done) | (simp; omega)) _ | with_reducible exact Below.refl _ _ | with_reducible assumption | with_reducible refine bchain ?_ (by with_reducible assumption) (by first | omega | (simp; done) | (simp; omega)))); done))
      clear hK K
      try simp only [Act.put, List.setIfInBounds_toArray, List.set_cons_zero, List.set_cons_succ]
      refine wpAnyH_take (i := 11) (v := ?_) rfl (by kernel_rfl) (by kernel_rfl) (by kernel_rfl) (fun _ _ _ h => h) (Or.inl ⟨by kernel_rfl, ?_⟩) (by assumption) ?_
      rotate_left 1
      · ((intro w hSw; (try dsimp only at hSw); go_simp) <;> (try with_reducible rfl))
      try simp only [Act.put, List.setIfInBounds_toArray, List.set_cons_zero, List.set_cons_succ]
      have e0 : w3.cell? ⟨w.heap.size + 1, 0, none⟩ = some (.int .i64 0) := by rw [hcX3]; exact Z0.out
      have e1 : w3.cell? ⟨w.heap.size + 1, 1, none⟩ = some (.int .i64 0) := by rw [hcX3]; exact Z1.out
      have e2 : w3.cell? ⟨w.heap.size + 1, 2, none⟩ = some (.int .i64 0) := by rw [hcX3]; exact Z2.out
      have e3 : w3.cell? ⟨w.heap.size + 1, 3, none⟩ = some (.slice none 0 0) := by rw [hcX3]; exact Z3.out
      have q : ∀ o, w3.frozen? ⟨w.heap.size + 1, o, none⟩ = false := fun o => by rw [hfX3]; exact F1.out o
      clear hcX3 hfX3
      refine wpAnyH_ready (rs := [12]) (by kernel_rfl) (by simp) ?_
      refine AllReadyH.cons rfl (fun K hK => ?_) AllReadyH.nil
      go_simp
      refine hK.out _ _ ?_ (fun hHeld => ?_)
      · (try dsimp only); (refine ⟨?_, ?_, ?_, ?_, ?_⟩ <;> first | with_reducible assumption | (go_simp; done) | ((repeat (first | with_reducible refine Below.setCell ?_ (by first | omega | (simp; done) | (simp; omega)) _ | with_reducible refine Below.drew ?_ | with_reducible refine below_drewN ?_ _ | with_reducible refine Below.alloc ?_ (by first | omega | (simp; done) | (simp; omega)) _ | with_reducible exact Below.refl _ _ | with_reducible assumption | with_reducible refine bchain ?_ (by with_reducible assumption) (by first | omega | (simp; done) | (simp; omega)))); done))
      clear hK K
      try simp only [Act.put, List.setIfInBounds_toArray, List.set_cons_zero, List.set_cons_succ]
      refine wpAnyH_take (i := 13) (v := ?_) rfl (by kernel_rfl) (by kernel_rfl) (by kernel_rfl) (fun _ _ _ h => h) (Or.inl ⟨by kernel_rfl, ?_⟩) (by assumption) ?_
      rotate_left 1
      · ((intro w hSw; (try dsimp only at hSw); go_simp) <;> (try with_reducible rfl))
      try simp only [Act.put, List.setIfInBounds_toArray, List.set_cons_zero, List.set_cons_succ]
      simp only [List.getElem_toArray, List.getElem_cons_succ, List.getElem_cons_zero, List.set_cons_zero, List.set_cons_succ]
      refine wpAnyH_done (by kernel_rfl) ?_ _
      go_wp2_with fail
      have hO4 : Own w3 _ a2 c2 xs := hO3
      refine bodyPost_ret (v := .tuple #[.agg #[.int .i64 f, .int .i64 e, .int .i64 (minI c n), .slice a2 xs.length c2], .bool true]) (by simp [results, Try.results19, go_sem, e0, e1, e2, e3]) rfl ⟨a2, c2, rfl, ?_, (‹Below w.heap.size w _ ∧ _›).1⟩
      exact ((((hO4.setLow _ _ (by simp; omega)).setLow _ _ (by simp; omega)).setLow _ _ (by simp; omega)).setLow _ _ (by simp; omega)).low (by simp; omega)
set_option maxHeartbeats 4000000 in
theorem implDropBus (f e c : Int) (a : Option Addr) (cap : Nat) (xs : List Int) (n : Int) (F E C : Int) (ys : List Int) (ok : Bool) (hR : Hid (dpR f e c xs n F E C ys ok)) (w : World) (h : Rd w a xs) (hx : xs.length ≤ 1048576) :
    Calls Try.prog 20 #[.agg #[.int .i64 f, .int .i64 e, .int .i64 c, .slice a xs.length cap], .int .i64 n] w (RetL w F E C ys ok) := by
  cases g1 : lnB f e c xs
  · obtain ⟨rfl, rfl, rfl, rfl, rfl⟩ := dpR_false hR.out (by unfold dpK; rw [g1]; rfl)
    go_enter Try.func20, Try.ntmps20
    go_wp2_with (first | (go_at_call 11; refine (implIsLine f e c a cap xs _ (h.below (by (repeat (first | exact Below.refl _ _ | refine Below.drew ?_ | refine below_drewN ?_ _ | refine Below.setCell ?_ (by first | omega | (simp; done) | (simp; omega)) _ | refine Below.alloc ?_ (by first | omega | (simp; done) | (simp; omega)) _ | refine bchain ?_ (by assumption) (by first | omega | (simp; done) | (simp; omega)))))) hx).mono ?_; rw [g1]; rintro e w1 ⟨rfl, hb1⟩; have hs1 := hb1.size; (try simp only [World.size_alloc, World.size_drew, World.size_setCell] at hs1); (try (have hl1_0 : w.heap.size < w1.heap.size := (by first | omega | (simp; done) | (simp; omega)))); (try (have hc1_0 := fun o => (bcell hb1).1 (w.heap.size) o (by first | omega | (simp; done) | (simp; omega)))); (try (have hl1_1 : w.heap.size + 1 < w1.heap.size := (by first | omega | (simp; done) | (simp; omega)))); (try (have hc1_1 := fun o => (bcell hb1).1 (w.heap.size + 1) o (by first | omega | (simp; done) | (simp; omega)))); have hf1 : ∀ o, w1.frozen? ⟨w.heap.size + 1, o, none⟩ = false := fun o => (by rw [(bcell hb1).2 _ o (by first | omega | (simp; done) | (simp; omega))]; go_simp); have hf0 : ∀ o, w1.frozen? ⟨w.heap.size, o, none⟩ = false := fun o => (by rw [(bcell hb1).2 _ o (by first | omega | (simp; done) | (simp; omega))]; go_simp)) | go_in)
    have z0 : w1.cell? ⟨w.heap.size + 1, 0, none⟩ = some (.int .i64 0) := by rw [hc1_1]; go_simp
    have z1 : w1.cell? ⟨w.heap.size + 1, 1, none⟩ = some (.int .i64 0) := by rw [hc1_1]; go_simp
    have z2 : w1.cell? ⟨w.heap.size + 1, 2, none⟩ = some (.int .i64 0) := by rw [hc1_1]; go_simp
    have z3 : w1.cell? ⟨w.heap.size + 1, 3, none⟩ = some (.slice none 0 0) := by rw [hc1_1]; go_simp
    refine bodyPost_ret (v := .tuple #[.agg #[.int .i64 0, .int .i64 0, .int .i64 0, .slice none 0 0], .bool false]) (by simp [results, Try.results20, go_sem, z0, z1, z2, z3]) rfl ⟨none, 0, rfl, own_nil _ _, ?_⟩
    (repeat (first | exact Below.refl _ _ | refine Below.drew ?_ | refine below_drewN ?_ _ | refine Below.setCell ?_ (by first | omega | (simp; done) | (simp; omega)) _ | refine Below.alloc ?_ (by first | omega | (simp; done) | (simp; omega)) _ | refine bchain ?_ (by assumption) (by first | omega | (simp; done) | (simp; omega))))
  · cases g2 : inB n 1 60
    · obtain ⟨rfl, rfl, rfl, rfl, rfl⟩ := dpR_false hR.out (by unfold dpK; rw [g2]; simp)
      go_enter Try.func20, Try.ntmps20
      go_wp2_with (first | (go_at_call 11; refine (implIsLine f e c a cap xs _ (h.below (by (repeat (first | exact Below.refl _ _ | refine Below.drew ?_ | refine below_drewN ?_ _ | refine Below.setCell ?_ (by first | omega | (simp; done) | (simp; omega)) _ | refine Below.alloc ?_ (by first | omega | (simp; done) | (simp; omega)) _ | refine bchain ?_ (by assumption) (by first | omega | (simp; done) | (simp; omega)))))) hx).mono ?_; rw [g1]; rintro e w1 ⟨rfl, hb1⟩; have hs1 := hb1.size; (try simp only [World.size_alloc, World.size_drew, World.size_setCell] at hs1); (try (have hl1_0 : w.heap.size < w1.heap.size := (by first | omega | (simp; done) | (simp; omega)))); (try (have hc1_0 := fun o => (bcell hb1).1 (w.heap.size) o (by first | omega | (simp; done) | (simp; omega)))); (try (have hl1_1 : w.heap.size + 1 < w1.heap.size := (by first | omega | (simp; done) | (simp; omega)))); (try (have hc1_1 := fun o => (bcell hb1).1 (w.heap.size + 1) o (by first | omega | (simp; done) | (simp; omega)))); have hf1 : ∀ o, w1.frozen? ⟨w.heap.size + 1, o, none⟩ = false := fun o => (by rw [(bcell hb1).2 _ o (by first | omega | (simp; done) | (simp; omega))]; go_simp); have hf0 : ∀ o, w1.frozen? ⟨w.heap.size, o, none⟩ = false := fun o => (by rw [(bcell hb1).2 _ o (by first | omega | (simp; done) | (simp; omega))]; go_simp)) | (go_at_call 27; refine (implIn _ _ _ _).mono ?_; rw [g2]; rintro e w1 ⟨rfl, rfl⟩) | go_in)
      have z0 : w1.cell? ⟨w.heap.size + 1, 0, none⟩ = some (.int .i64 0) := by rw [hc1_1]; go_simp
      have z1 : w1.cell? ⟨w.heap.size + 1, 1, none⟩ = some (.int .i64 0) := by rw [hc1_1]; go_simp
      have z2 : w1.cell? ⟨w.heap.size + 1, 2, none⟩ = some (.int .i64 0) := by rw [hc1_1]; go_simp
      have z3 : w1.cell? ⟨w.heap.size + 1, 3, none⟩ = some (.slice none 0 0) := by rw [hc1_1]; go_simp
      refine bodyPost_ret (v := .tuple #[.agg #[.int .i64 0, .int .i64 0, .int .i64 0, .slice none 0 0], .bool false]) (by simp [results, Try.results20, go_sem, z0, z1, z2, z3]) rfl ⟨none, 0, rfl, own_nil _ _, ?_⟩
      (repeat (first | exact Below.refl _ _ | refine Below.drew ?_ | refine below_drewN ?_ _ | refine Below.setCell ?_ (by first | omega | (simp; done) | (simp; omega)) _ | refine Below.alloc ?_ (by first | omega | (simp; done) | (simp; omega)) _ | refine bchain ?_ (by assumption) (by first | omega | (simp; done) | (simp; omega))))
    · obtain ⟨rfl, rfl, rfl, rfl, rfl⟩ := dpR_true hR.out (by unfold dpK; rw [g1, g2]; rfl)
      clear hR
      have L := lnB_iff.1 g1
      by_cases hcn : c ≤ n
      · have hm : Hid (minI c n = c) := by unfold Hid minI; split <;> omega
        rw [hm.out]
        go_enter Try.func20, Try.ntmps20
        go_wp2_with (first | (go_at_call 11; refine (implIsLine f e c a cap xs _ (h.below (by (repeat (first | exact Below.refl _ _ | refine Below.drew ?_ | refine below_drewN ?_ _ | refine Below.setCell ?_ (by first | omega | (simp; done) | (simp; omega)) _ | refine Below.alloc ?_ (by first | omega | (simp; done) | (simp; omega)) _ | refine bchain ?_ (by assumption) (by first | omega | (simp; done) | (simp; omega)))))) hx).mono ?_; rw [g1]; rintro e w1 ⟨rfl, hb1⟩; have hs1 := hb1.size; (try simp only [World.size_alloc, World.size_drew, World.size_setCell] at hs1); (try (have hl1_0 : w.heap.size < w1.heap.size := (by first | omega | (simp; done) | (simp; omega)))); (try (have hc1_0 := fun o => (bcell hb1).1 (w.heap.size) o (by first | omega | (simp; done) | (simp; omega)))); (try (have hl1_1 : w.heap.size + 1 < w1.heap.size := (by first | omega | (simp; done) | (simp; omega)))); (try (have hc1_1 := fun o => (bcell hb1).1 (w.heap.size + 1) o (by first | omega | (simp; done) | (simp; omega)))); have hf1 : ∀ o, w1.frozen? ⟨w.heap.size + 1, o, none⟩ = false := fun o => (by rw [(bcell hb1).2 _ o (by first | omega | (simp; done) | (simp; omega))]; go_simp); have hf0 : ∀ o, w1.frozen? ⟨w.heap.size, o, none⟩ = false := fun o => (by rw [(bcell hb1).2 _ o (by first | omega | (simp; done) | (simp; omega))]; go_simp)) | (go_at_call 27; refine (implIn _ _ _ _).mono ?_; rw [g2]; rintro e w1 ⟨rfl, rfl⟩))
        have B1 : Below w.heap.size w (w1.setCell ⟨w.heap.size, 2, none⟩ (.int .i64 c)) := by (repeat (first | exact Below.refl _ _ | refine Below.drew ?_ | refine below_drewN ?_ _ | refine Below.setCell ?_ (by first | omega | (simp; done) | (simp; omega)) _ | refine Below.alloc ?_ (by first | omega | (simp; done) | (simp; omega)) _ | refine bchain ?_ (by assumption) (by first | omega | (simp; done) | (simp; omega))))
        have R1 : Rd (w1.setCell ⟨w.heap.size, 2, none⟩ (.int .i64 c)) a xs := (‹Rd w a xs›).below B1
        have d0 : w1.cell? ⟨w.heap.size, 0, none⟩ = some (.int .i64 f) := by rw [hc1_0]; go_simp
        have d1 : w1.cell? ⟨w.heap.size, 1, none⟩ = some (.int .i64 e) := by rw [hc1_0]; go_simp
        have d2 : w1.cell? ⟨w.heap.size, 2, none⟩ = some (.int .i64 c) := by rw [hc1_0]; go_simp
        have d3 : w1.cell? ⟨w.heap.size, 3, none⟩ = some (.slice a xs.length cap) := by rw [hc1_0]; go_simp
        have z0 : w1.cell? ⟨w.heap.size + 1, 0, none⟩ = some (.int .i64 0) := by rw [hc1_1]; go_simp
        have z1 : w1.cell? ⟨w.heap.size + 1, 1, none⟩ = some (.int .i64 0) := by rw [hc1_1]; go_simp
        have z2 : w1.cell? ⟨w.heap.size + 1, 2, none⟩ = some (.int .i64 0) := by rw [hc1_1]; go_simp
        have z3 : w1.cell? ⟨w.heap.size + 1, 3, none⟩ = some (.slice none 0 0) := by rw [hc1_1]; go_simp
        refine (cloneI_any a cap xs.length xs _ R1 L.n0 rfl hx).mono ?_; rintro e1 w3 ⟨a2, c2, rfl, hO3, hb3⟩
        have hs3 := hb3.size
        simp only [World.size_setCell] at hs3
        have hcA3 := fun o => (bcell hb3).1 w.heap.size o (by first | omega | (simp; done) | (simp; omega))
        have hcX3 := fun o => (bcell hb3).1 (w.heap.size + 1) o (by first | omega | (simp; done) | (simp; omega))
        have hfA3 := fun o => (bcell hb3).2 w.heap.size o (by first | omega | (simp; done) | (simp; omega))
        have hfX3 := fun o => (bcell hb3).2 (w.heap.size + 1) o (by first | omega | (simp; done) | (simp; omega))
        have B3 := Lib.hid (B1.trans (hb3.mono (by simp; omega)))
        have hO4 : Own w3 _ a2 c2 xs := hO3
        have hO := Lib.hid hO4
        clear hO4
        clear hO3 hb3 B1 R1
        go_wp2_with fail
        have e0 : w3.cell? ⟨w.heap.size + 1, 0, none⟩ = some (.int .i64 0) := by rw [hcX3]; go_simp
        have e1 : w3.cell? ⟨w.heap.size + 1, 1, none⟩ = some (.int .i64 0) := by rw [hcX3]; go_simp
        have e2 : w3.cell? ⟨w.heap.size + 1, 2, none⟩ = some (.int .i64 0) := by rw [hcX3]; go_simp
        have e3 : w3.cell? ⟨w.heap.size + 1, 3, none⟩ = some (.slice none 0 0) := by rw [hcX3]; go_simp
        refine bodyPost_ret (v := .tuple #[.agg #[.int .i64 f, .int .i64 e, .int .i64 c, .slice a2 xs.length c2], .bool true]) (by simp [results, Try.results20, go_sem, e0, e1, e2, e3]) rfl ⟨a2, c2, rfl, ?_, ?_⟩
        · exact (((((hO.out.setLow _ _ (by simp; omega)).setLow _ _ (by simp; omega)).setLow _ _ (by simp; omega)).setLow _ _ (by simp; omega)).setLow _ _ (by simp; omega)).low (by simp; omega)
        · exact ((((B3.out.setCell (by simp) _).setCell (by simp) _).setCell (by simp) _).setCell (by simp) _).setCell (by simp) _
      · have hm : Hid (minI c n = n) := by unfold Hid minI; split <;> omega
        rw [hm.out]
        go_enter Try.func20, Try.ntmps20
        go_wp2_with (first | (go_at_call 11; refine (implIsLine f e c a cap xs _ (h.below (by (repeat (first | exact Below.refl _ _ | refine Below.drew ?_ | refine below_drewN ?_ _ | refine Below.setCell ?_ (by first | omega | (simp; done) | (simp; omega)) _ | refine Below.alloc ?_ (by first | omega | (simp; done) | (simp; omega)) _ | refine bchain ?_ (by assumption) (by first | omega | (simp; done) | (simp; omega)))))) hx).mono ?_; rw [g1]; rintro e w1 ⟨rfl, hb1⟩; have hs1 := hb1.size; (try simp only [World.size_alloc, World.size_drew, World.size_setCell] at hs1); (try (have hl1_0 : w.heap.size < w1.heap.size := (by first | omega | (simp; done) | (simp; omega)))); (try (have hc1_0 := fun o => (bcell hb1).1 (w.heap.size) o (by first | omega | (simp; done) | (simp; omega)))); (try (have hl1_1 : w.heap.size + 1 < w1.heap.size := (by first | omega | (simp; done) | (simp; omega)))); (try (have hc1_1 := fun o => (bcell hb1).1 (w.heap.size + 1) o (by first | omega | (simp; done) | (simp; omega)))); have hf1 : ∀ o, w1.frozen? ⟨w.heap.size + 1, o, none⟩ = false := fun o => (by rw [(bcell hb1).2 _ o (by first | omega | (simp; done) | (simp; omega))]; go_simp); have hf0 : ∀ o, w1.frozen? ⟨w.heap.size, o, none⟩ = false := fun o => (by rw [(bcell hb1).2 _ o (by first | omega | (simp; done) | (simp; omega))]; go_simp)) | (go_at_call 27; refine (implIn _ _ _ _).mono ?_; rw [g2]; rintro e w1 ⟨rfl, rfl⟩))
        have B1 : Below w.heap.size w (w1.setCell ⟨w.heap.size, 2, none⟩ (.int .i64 n)) := by (repeat (first | exact Below.refl _ _ | refine Below.drew ?_ | refine below_drewN ?_ _ | refine Below.setCell ?_ (by first | omega | (simp; done) | (simp; omega)) _ | refine Below.alloc ?_ (by first | omega | (simp; done) | (simp; omega)) _ | refine bchain ?_ (by assumption) (by first | omega | (simp; done) | (simp; omega))))
        have R1 : Rd (w1.setCell ⟨w.heap.size, 2, none⟩ (.int .i64 n)) a xs := (‹Rd w a xs›).below B1
        have d0 : w1.cell? ⟨w.heap.size, 0, none⟩ = some (.int .i64 f) := by rw [hc1_0]; go_simp
        have d1 : w1.cell? ⟨w.heap.size, 1, none⟩ = some (.int .i64 e) := by rw [hc1_0]; go_simp
        have d2 : w1.cell? ⟨w.heap.size, 2, none⟩ = some (.int .i64 c) := by rw [hc1_0]; go_simp
        have d3 : w1.cell? ⟨w.heap.size, 3, none⟩ = some (.slice a xs.length cap) := by rw [hc1_0]; go_simp
        have z0 : w1.cell? ⟨w.heap.size + 1, 0, none⟩ = some (.int .i64 0) := by rw [hc1_1]; go_simp
        have z1 : w1.cell? ⟨w.heap.size + 1, 1, none⟩ = some (.int .i64 0) := by rw [hc1_1]; go_simp
        have z2 : w1.cell? ⟨w.heap.size + 1, 2, none⟩ = some (.int .i64 0) := by rw [hc1_1]; go_simp
        have z3 : w1.cell? ⟨w.heap.size + 1, 3, none⟩ = some (.slice none 0 0) := by rw [hc1_1]; go_simp
        refine (cloneI_any a cap xs.length xs _ R1 L.n0 rfl hx).mono ?_; rintro e1 w3 ⟨a2, c2, rfl, hO3, hb3⟩
        have hs3 := hb3.size
        simp only [World.size_setCell] at hs3
        have hcA3 := fun o => (bcell hb3).1 w.heap.size o (by first | omega | (simp; done) | (simp; omega))
        have hcX3 := fun o => (bcell hb3).1 (w.heap.size + 1) o (by first | omega | (simp; done) | (simp; omega))
        have hfA3 := fun o => (bcell hb3).2 w.heap.size o (by first | omega | (simp; done) | (simp; omega))
        have hfX3 := fun o => (bcell hb3).2 (w.heap.size + 1) o (by first | omega | (simp; done) | (simp; omega))
        have B3 := Lib.hid (B1.trans (hb3.mono (by simp; omega)))
        have hO4 : Own w3 _ a2 c2 xs := hO3
        have hO := Lib.hid hO4
        clear hO4
        clear hO3 hb3 B1 R1
        go_wp2_with fail
        have e0 : w3.cell? ⟨w.heap.size + 1, 0, none⟩ = some (.int .i64 0) := by rw [hcX3]; go_simp
        have e1 : w3.cell? ⟨w.heap.size + 1, 1, none⟩ = some (.int .i64 0) := by rw [hcX3]; go_simp
        have e2 : w3.cell? ⟨w.heap.size + 1, 2, none⟩ = some (.int .i64 0) := by rw [hcX3]; go_simp
        have e3 : w3.cell? ⟨w.heap.size + 1, 3, none⟩ = some (.slice none 0 0) := by rw [hcX3]; go_simp
        refine bodyPost_ret (v := .tuple #[.agg #[.int .i64 f, .int .i64 e, .int .i64 n, .slice a2 xs.length c2], .bool true]) (by simp [results, Try.results20, go_sem, e0, e1, e2, e3]) rfl ⟨a2, c2, rfl, ?_, ?_⟩
        · exact (((((hO.out.setLow _ _ (by simp; omega)).setLow _ _ (by simp; omega)).setLow _ _ (by simp; omega)).setLow _ _ (by simp; omega)).setLow _ _ (by simp; omega)).low (by simp; omega)
        · exact ((((B3.out.setCell (by simp) _).setCell (by simp) _).setCell (by simp) _).setCell (by simp) _).setCell (by simp) _
end Go.Proofs.Ytjcapaoafkgkaaa
