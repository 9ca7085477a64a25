/- The text of a line: the model's and the program's, by contracts. -/
import Derived.Test.YtjcapaoafkgkaaaDoorProg
import Derived.Test.YtjcapaoafkgkaaaDoorBusA
import Derived.Test.YtjcapaoafkgkaaaDoorJoin0
import Derived.Test.YtjcapaoafkgkaaaDoorTextWalks
import Derived.WalkKit
import Derived.WalkSpells
import Derived.WalkLawsBesides
import Derived.Lib.Hide
import Derived.Lib.Join
import Derived.Lib.ItoaNum
import Derived.Deep.LoopGhost
import Derived.Deep.QuietTactic
import Derived.Deep.RegionWith
import Derived.Deep.RegionHeld3
import Derived.BigQuiet
namespace Go.Proofs.YtjcapaoafkgkaaaDoor
open Go.RowKit
set_option linter.unusedVariables false
set_option linter.unusedSimpArgs false
/-- the head of a line's text -/
def lhd (f e c : Int) : ByteArray := ((((itx f ++ ⟨#[43]⟩) ++ itx e) ++ ⟨#[120]⟩) ++ itx c) ++ ⟨#[58]⟩
/-- the text of the first stops behind a head, as it grows -/
def stj (H : ByteArray) (xs : List Int) : Nat → ByteArray
  | 0 => H
  | 1 => H ++ itx (xs.getD 0 0)
  | k + 2 => (stj H xs (k + 1) ++ ⟨#[44]⟩) ++ itx (xs.getD (k + 1) 0)
def bdS (xs : List Int) : Prop := ∀ i, i < xs.length → 0 ≤ xs.getD i 0 ∧ xs.getD i 0 ≤ 1000000
theorem stj_size {H : ByteArray} {xs : List Int} (hH : H.size ≤ 100) (h : bdS xs) : ∀ k, k ≤ xs.length → (stj H xs k).size ≤ 100 + 9 * k
  | 0, _ => by simp only [stj]; omega
  | 1, hk => by
    have h1 := h 0 (by omega)
    have := itx_size (n := xs.getD 0 0) (by omega) (by omega)
    simp only [stj]
    rw [ByteArray.size_append]; omega
  | k + 2, hk => by
    have h1 := stj_size hH h (k + 1) (by omega)
    have h2 := h (k + 1) (by omega)
    have := itx_size (n := xs.getD (k + 1) 0) (by omega) (by omega)
    have h3 : (⟨#[44]⟩ : ByteArray).size = 1 := rfl
    simp only [stj]
    rw [ByteArray.size_append, ByteArray.size_append, h3]; omega
theorem stj_head (H : ByteArray) (xs : List Int) : ∀ k, 1 ≤ k → stj H xs k = H ++ stj ⟨#[]⟩ xs k
  | 0, h => by omega
  | 1, _ => by
    simp only [stj]
    apply ByteArray.ext; simp
  | k + 2, _ => by
    simp only [stj]
    rw [stj_head H xs (k + 1) (by omega)]
    apply ByteArray.ext; simp [Array.append_assoc]
theorem take_succ_i (xs : List Int) (k : Nat) (h : k < xs.length) : xs.take (k + 1) = xs.take k ++ [xs.getD k 0] := by
  rw [List.take_add_one, List.getElem?_eq_getElem h]
  simp [List.getD, List.getElem?_eq_getElem h]
theorem stj_join (xs : List Int) : ∀ k, k ≤ xs.length → (stj ⟨#[]⟩ xs k).data.toList = Lib.join ((xs.take k).map fun p => (itx p).data.toList) [44]
  | 0, _ => by simp [stj, Lib.join_nil]
  | 1, h => by
    rw [take_succ_i xs 0 (by omega)]
    simp [stj, Lib.join_one]
  | k + 2, h => by
    have ih := stj_join xs (k + 1) (by omega)
    rw [take_succ_i xs (k + 1) (by omega), List.map_append, List.map_cons, List.map_nil, join_snoc _ _ _ (by
      intro e
      have := congrArg List.length e
      rw [List.length_map, List.length_take, List.length_nil] at this
      omega), ← ih]
    simp [stj]
/-- the texts of the stops -/
def sts (xs : List Int) : List ByteArray := xs.map itx
theorem sts_length (xs : List Int) : (sts xs).length = xs.length := by simp [sts]
theorem sts_get {xs : List Int} {i : Nat} {x : ByteArray} (h : (sts xs)[i]? = some x) : ∃ _ : i < xs.length, x = itx (xs.getD i 0) := by
  unfold sts at h
  rw [List.getElem?_map] at h
  obtain ⟨y, hy, rfl⟩ := Option.map_eq_some_iff.1 h
  obtain ⟨hi, rfl⟩ := List.getElem?_eq_some_iff.1 hy
  exact ⟨hi, by simp [List.getD, List.getElem?_eq_getElem hi]⟩
theorem stj_sts (xs : List Int) : Lib.join ((sts xs).map (·.data.toList)) (⟨#[44]⟩ : ByteArray).data.toList = (stj ⟨#[]⟩ xs xs.length).data.toList := by
  rw [stj_join xs xs.length (Nat.le_refl _), List.take_length]
  simp [sts, Function.comp_def]
theorem lhd_size {f e c : Int} (h1 : 0 ≤ f ∧ f ≤ 2000) (h2 : 0 ≤ e ∧ e ≤ 2000) (h3 : 0 ≤ c ∧ c ≤ 2000) : (lhd f e c).size ≤ 100 := by
  have a1 := itx_size (n := f) (by omega) (by omega)
  have a2 := itx_size (n := e) (by omega) (by omega)
  have a3 := itx_size (n := c) (by omega) (by omega)
  have b1 : (⟨#[43]⟩ : ByteArray).size = 1 := rfl
  have b2 : (⟨#[120]⟩ : ByteArray).size = 1 := rfl
  have b3 : (⟨#[58]⟩ : ByteArray).size = 1 := rfl
  unfold lhd
  rw [ByteArray.size_append, ByteArray.size_append, ByteArray.size_append, ByteArray.size_append, ByteArray.size_append, b1, b2, b3]; omega
/-- the text of a line -/
def lntx (f e c : Int) (xs : List Int) : ByteArray := if lnB f e c xs then stj (lhd f e c) xs xs.length else ⟨#[]⟩
set_option maxHeartbeats 4000000 in
theorem buText_any (f e c : Int) (a : Option Addr) (cap : Nat) (xs : List Int) (L : Lin f e c xs) (w : World) (h : Rd w a xs) :
    Calls Tryd.prog 16 #[.agg #[.int .i64 f, .int .i64 e, .int .i64 c, .slice a xs.length cap]] w fun r w' => r = .returned (.string (stj (lhd f e c) xs xs.length)) ∧ Below w.heap.size w w' := by
  have f0 := L.f0
  have f1 := L.f1
  have e0 := L.e0
  have e1 := L.e1
  have c0 := L.c0
  have c1 := L.c1
  have n1 := L.n1
  have HS := Lib.hid (show bdS xs from fun i hi => by have := L.bd i hi; omega)
  have HHS := Lib.hid (lhd_size (f := f) (e := e) (c := c) (by omega) (by omega) (by omega))
  have hcF := Lib.hid (fun w => l1Nat_any f (by omega) (by omega) w)
  have hcE := Lib.hid (fun w => l1Nat_any e (by omega) (by omega) w)
  have hcC := Lib.hid (fun w => l1Nat_any c (by omega) (by omega) w)
  have X1 := itx_size (n := f) (by omega) (by omega)
  have X2 := itx_size (n := e) (by omega) (by omega)
  have X3 := itx_size (n := c) (by omega) (by omega)
  have HHD : Hid (lhd f e c = ((((itx f ++ ⟨#[43]⟩) ++ itx e) ++ ⟨#[120]⟩) ++ itx c) ++ ⟨#[58]⟩) := rfl
  generalize hF : itx f = TF at *
  generalize hE : itx e = TE at *
  generalize hC : itx c = TC at *
  clear hF hE hC
  have y1 : ¬ (9223372036854775807 < TF.size + 1) := by omega
  have y2 : ¬ (9223372036854775807 < TF.size + 1 + TE.size) := by omega
  have y3 : ¬ (9223372036854775807 < TF.size + 1 + TE.size + 1) := by omega
  have y4 : ¬ (9223372036854775807 < TF.size + 1 + TE.size + 1 + TC.size) := by omega
  have y5 : ¬ (9223372036854775807 < TF.size + 1 + TE.size + 1 + TC.size + 1) := by omega
  clear X1 X2 X3
  clear L
  go_enter Tryd.func16, Tryd.ntmps16
  go_wp2_with fail
  go_region_held3 (fun v => Below w.heap.size w v ∧ w.heap.size < v.heap.size ∧ v.cell? ⟨w.heap.size, 0, none⟩ = some (.int .i64 f) ∧ v.cell? ⟨w.heap.size, 1, none⟩ = some (.int .i64 e) ∧ v.cell? ⟨w.heap.size, 2, none⟩ = some (.int .i64 c) ∧ v.cell? ⟨w.heap.size, 3, none⟩ = some (.slice a xs.length cap))
    (refine ⟨?_, ?_, ?_, ?_, ?_, ?_⟩ <;> first | assumption | omega | (go_simp; done) | ((repeat (first | assumption | exact Below.refl _ _ | refine Below.drew ?_ | refine below_drewN ?_ _ | refine Below.alloc ?_ (by first | omega | (simp; done) | (simp; omega)) _ | refine bchain ?_ (by assumption) (by first | omega | (simp; done) | (simp; omega)))); done))
    (first | (go_at_call_of 29 (Value.int .i64 f); refine (hcF.out _).mono ?_; rintro e1 w2 ⟨rfl, hb2⟩; have hz2 := hb2.size; (try simp only [World.size_alloc, World.size_drew] at hz2); have hcA2 := fun o => (bcell hb2).1 w.heap.size o (by first | omega | (simp; done) | (simp; omega))) | (go_at_call_of 29 (Value.int .i64 e); refine (hcE.out _).mono ?_; rintro e1 w3 ⟨rfl, hb3⟩; have hz3 := hb3.size; (try simp only [World.size_alloc, World.size_drew] at hz3); have hcA3 := fun o => (bcell hb3).1 w.heap.size o (by first | omega | (simp; done) | (simp; omega))) | (go_at_call_of 29 (Value.int .i64 c); refine (hcC.out _).mono ?_; rintro e1 w4 ⟨rfl, hb4⟩; have hz4 := hb4.size; (try simp only [World.size_alloc, World.size_drew] at hz4); have hcA4 := fun o => (bcell hb4).1 w.heap.size o (by first | omega | (simp; done) | (simp; omega))))
  all_goals
    rename_i hS
    obtain ⟨hB4, hz4, d0, d1, d2, d3⟩ := hS
    obtain ⟨H, hH⟩ : ∃ H, Hid (lhd f e c = H) := ⟨_, rfl⟩
    rw [← HHD.out, hH.out]
    have HHS2 := HHS.out
    rw [hH.out] at HHS2
    have HHS := Lib.hid HHS2
    clear HHS2
    have HBB := Lib.hid hB4
    have hh := h.below hB4
    have hs4 := hB4.size
    clear hB4 HHD hcF hcE hcC h y1 y2 y3 y4 y5
    go_wp2_with fail
    clear d0 d1 d2 d3
    go_loopg [3, 23] xs.length (fun k v3 v23 wr => ∃ (j : Nat), v3 = .string (stj H xs j) ∧ v23 = .int .i64 (j : Int) ∧ j + k ≤ xs.length ∧ xs.length ≤ j + k ∧ Below w4.heap.size w4 wr)
    case atStart => exact ⟨0, rfl, rfl, by omega, by omega, Below.refl _ _⟩
    case round =>
      obtain ⟨j, rfl, rfl, h1, h2, hbel⟩ := hrel
      by_cases hj : j < xs.length
      · rcases hh with hh | ⟨b, off, rfl, hlt, hc⟩
        · rw [hh] at hj; exact absurd hj (Nat.not_lt_zero _)
        · have hcj := Rd.cellAt hc hlt hbel hj
          have hjI : (j : Int) < (xs.length : Int) := by omega
          have HBl := Lib.hid hbel
          have hT := stj_size HHS.out HS.out j (by omega)
          have hq := HS.out j hj
          have hcX := Lib.hid (fun w => l1Nat_any (xs.getD j 0) (by omega) (by omega) w)
          have hX := itx_size (n := xs.getD j 0) (by omega) (by omega)
          rcases Nat.eq_zero_or_pos j with hj0 | hj0
          · subst hj0
            have hcj0 : wr.cell? ⟨b, off, none⟩ = some (.int .i64 (xs.getD 0 0)) := hcj
            have hE : Hid (stj H xs (0 + 1) = stj H xs 0 ++ itx (xs.getD 0 0)) := rfl
            clear hbel hc hq
            generalize hTT : stj H xs 0 = T at *
            generalize hT2 : stj H xs (0 + 1) = T2 at *
            generalize xs.getD 0 0 = x at *
            generalize itx x = X at *
            have HT2 := Lib.hid hT2
            clear hTT hT2
            have f4 : ¬ (9223372036854775807 < T.size + X.size) := by omega
            clear hT hX
            go_wp2_with (first | (go_at_call 29; refine (hcX.out _).mono ?_; rintro e1 w5 ⟨rfl, hb5⟩; have hz5 := hb5.size) | go_in)
            go_roundg (gk - 1)
            case rel => exact ⟨1, by rw [← hE.out, ← HT2.out], rfl, by omega, by omega, HBl.out.trans (hb5.mono HBl.out.size)⟩
            case measure => omega
          · obtain ⟨i, rfl⟩ : ∃ i, j = i + 1 := ⟨j - 1, by omega⟩
            have hE : Hid (stj H xs (i + 1 + 1) = (stj H xs (i + 1) ++ ⟨#[44]⟩) ++ itx (xs.getD (i + 1) 0)) := rfl
            clear hbel hc hq
            generalize hTT : stj H xs (i + 1) = T at *
            generalize hT2 : stj H xs (i + 1 + 1) = T2 at *
            generalize xs.getD (i + 1) 0 = x at *
            generalize itx x = X at *
            have HT2 := Lib.hid hT2
            clear hTT hT2
            have f4 : ¬ (9223372036854775807 < T.size + 1) := by omega
            have f5 : ¬ (9223372036854775807 < T.size + 1 + X.size) := by omega
            clear hT hX
            go_wp2_with (first | (go_at_call 29; refine (hcX.out _).mono ?_; rintro e1 w5 ⟨rfl, hb5⟩; have hz5 := hb5.size) | go_in)
            go_roundg (gk - 1)
            case rel => exact ⟨i + 1 + 1, by rw [← hE.out, ← HT2.out], by go_num, by omega, by omega, HBl.out.trans (hb5.mono HBl.out.size)⟩
            case measure => omega
      · have e : Hid (j = xs.length) := by unfold Hid; omega
        have HBl := Lib.hid hbel
        clear hbel
        go_wp2_with fail
        go_ret
        exact ⟨by rw [hH.out, ← e.out]; rfl, HBB.out.trans (HBl.out.mono HBB.out.size)⟩
set_option maxHeartbeats 4000000 in
theorem specLineText (f e c : Int) (a : Option Addr) (cap : Nat) (xs : List Int) (w : World) (h : Rd w a xs) (hx : xs.length ≤ 1048576) :
    Calls Tryd.prog 6 #[.agg #[.int .i64 f, .int .i64 e, .int .i64 c, .slice a xs.length cap]] w fun r w' => r = .returned (.tuple #[.string (lntx f e c xs), .bool (lnB f e c xs)]) ∧ Below w.heap.size w w' := by
  cases g1 : lnB f e c xs
  · have hx1 : Hid (lntx f e c xs = ⟨#[]⟩) := by unfold Hid lntx; rw [g1]; rfl
    go_enter Tryd.func6, Tryd.ntmps6
    go_wp2_with (first | (go_at_call 15; refine (buGood_any f e c a cap xs _ (h.below (by (repeat (first | exact Below.refl _ _ | refine Below.drew ?_ | refine below_drewN ?_ _ | refine Below.setCell ?_ (by first | omega | (simp; done) | (simp; omega)) _ | refine Below.alloc ?_ (by first | omega | (simp; done) | (simp; omega)) _ | refine bchain ?_ (by assumption) (by first | omega | (simp; done) | (simp; omega)))))) hx).mono ?_; rw [g1]; rintro e w1 ⟨rfl, hb1⟩; have hs1 := hb1.size; (try simp only [World.size_alloc, World.size_drew, World.size_setCell] at hs1); (try (have hl1_0 : w.heap.size < w1.heap.size := (by first | omega | (simp; done) | (simp; omega)))); (try (have hc1_0 := fun o => (bcell hb1).1 (w.heap.size) o (by first | omega | (simp; done) | (simp; omega))))) | go_in)
    go_ret2
    exact ⟨by rw [hx1.out]; rfl, by (repeat (first | exact Below.refl _ _ | refine Below.drew ?_ | refine below_drewN ?_ _ | refine Below.setCell ?_ (by first | omega | (simp; done) | (simp; omega)) _ | refine Below.alloc ?_ (by first | omega | (simp; done) | (simp; omega)) _ | refine bchain ?_ (by assumption) (by first | omega | (simp; done) | (simp; omega))))⟩
  · have hx1 : Hid (lntx f e c xs = stj (lhd f e c) xs xs.length) := by unfold Hid lntx; rw [g1]; rfl
    have L := Lib.hid (lnB_iff.1 g1)
    go_enter Tryd.func6, Tryd.ntmps6
    go_wp2_with (first | (go_at_call 15; refine (buGood_any f e c a cap xs _ (h.below (by (repeat (first | exact Below.refl _ _ | refine Below.drew ?_ | refine below_drewN ?_ _ | refine Below.setCell ?_ (by first | omega | (simp; done) | (simp; omega)) _ | refine Below.alloc ?_ (by first | omega | (simp; done) | (simp; omega)) _ | refine bchain ?_ (by assumption) (by first | omega | (simp; done) | (simp; omega)))))) hx).mono ?_; rw [g1]; rintro e w1 ⟨rfl, hb1⟩; have hs1 := hb1.size; (try simp only [World.size_alloc, World.size_drew, World.size_setCell] at hs1); (try (have hl1_0 : w.heap.size < w1.heap.size := (by first | omega | (simp; done) | (simp; omega)))); (try (have hc1_0 := fun o => (bcell hb1).1 (w.heap.size) o (by first | omega | (simp; done) | (simp; omega))))) | (go_at_call 16; refine (buText_any f e c a cap xs L.out _ (h.below (by (repeat (first | exact Below.refl _ _ | refine Below.drew ?_ | refine below_drewN ?_ _ | refine Below.setCell ?_ (by first | omega | (simp; done) | (simp; omega)) _ | refine Below.alloc ?_ (by first | omega | (simp; done) | (simp; omega)) _ | refine bchain ?_ (by assumption) (by first | omega | (simp; done) | (simp; omega))))))).mono ?_; rintro e w2 ⟨rfl, hb2⟩; have hs2 := hb2.size; (try simp only [World.size_alloc, World.size_drew, World.size_setCell] at hs2); (try (have hl2_0 : w.heap.size < w2.heap.size := (by first | omega | (simp; done) | (simp; omega)))); (try (have hc2_0 := fun o => (bcell hb2).1 (w.heap.size) o (by first | omega | (simp; done) | (simp; omega))))) | go_in)
    go_ret2
    exact ⟨by rw [hx1.out]; rfl, by (repeat (first | exact Below.refl _ _ | refine Below.drew ?_ | refine below_drewN ?_ _ | refine Below.setCell ?_ (by first | omega | (simp; done) | (simp; omega)) _ | refine Below.alloc ?_ (by first | omega | (simp; done) | (simp; omega)) _ | refine bchain ?_ (by assumption) (by first | omega | (simp; done) | (simp; omega))))⟩
set_option maxHeartbeats 4000000 in
theorem stList_any (a : Option Addr) (cap : Nat) (xs : List Int) (w : World) (h : Rd w a xs) (hbd : bdS xs) (hn : xs.length ≤ 12) (ht : Lib.TabIs Tryd.prog w "internal/strconv.uint64pow10" .u64 Lib.pow10Tab) :
    Calls Tryd.prog 33 #[.slice a xs.length cap, .string ⟨#[44]⟩, .func (.func 20) #[] #[]] w fun e w' => e = .returned (.string (stj ⟨#[]⟩ xs xs.length)) ∧ Below w.heap.size w w' := by
  have hnI : (xs.length : Int) ≤ 12 := by omega
  obtain ⟨i0, hi, hz0, hz1, hz2⟩ := info_parts strInfoJ
  obtain ⟨w2, hrun, hown0, hgr0⟩ := run_make_full (P := Tryd.prog) w w.heap.size 49 9 i0 (.string ⟨#[]⟩) 1 Tryd.underlying49 hi hz0 hz1 .i64 .i64 xs.length (by rw [hz2]; omega) (by unfold maxLen; omega) (Nat.le_refl _)
  have B2 : Below w.heap.size w w2 := (Below.refl _ _).grown hgr0 (Nat.le_refl _) (fun k hk => by cases hk)
  obtain ⟨ys0, hy0⟩ : ∃ ys, ys = (madeCells (Value.string ⟨#[]⟩).cells (xs.length * 1)).toList := ⟨_, rfl⟩
  rw [← hy0] at hown0
  clear hy0 hgr0
  have hsz2 := B2.size
  go_enter Tryd.func33, Tryd.ntmps33
  go_wp2_with fail
  clear hrun
  go_loopg [15] xs.length (fun k v15 wr => ∃ (j : Nat) (ys : List Value), v15 = .int .i64 (j : Int) ∧ j + k ≤ xs.length ∧ xs.length ≤ j + k ∧ wr.ownsRow w.heap.size 9 1 (.slice (some ⟨w.heap.size, 0, none⟩) xs.length xs.length) xs.length ys ∧ Hid (∀ i, i < j → ys[i]? = some (.string (itx (xs.getD i 0)))) ∧ Below w.heap.size w wr)
  case atStart => exact ⟨0, ys0, rfl, by omega, by omega, hown0, fun i hi => absurd hi (Nat.not_lt_zero _), B2⟩
  case round =>
    obtain ⟨j, ys, rfl, h1, h2, hown, hys, hbel⟩ := hrel
    have hg0 := (hown.lt w.heap.size rfl).2
    have hlen : ys.length = xs.length * 1 := hown.1
    by_cases hj : j < xs.length
    · rcases h with h | ⟨b, off, rfl, hlt, hc⟩
      · rw [h] at hj; exact absurd hj (Nat.not_lt_zero _)
      · have hcj := Rd.cellAt hc hlt hbel hj
        have hjI : (j : Int) < (xs.length : Int) := by omega
        have hsz := hbel.size
        have hxb := hbd j hj
        have HT := Lib.hid (tab_below pow10G (tab_lt pow10G ht) ht hbel)
        have HBl := Lib.hid hbel
        have HA := Lib.hid hown
        have HJ := Lib.hid (And.intro h1 h2)
        have HW := Lib.hid (itoa_int (xs.getD j 0) (by omega) (by omega) wr HT.out)
        clear hbel hc hown h1 h2 ht B2 hown0 hxb
        generalize hxx : xs.getD j 0 = x at *
        have HXY := Lib.hid hxx
        clear hxx
        generalize hWT : itx x = WT at *
        have HWT := Lib.hid hWT
        clear hWT
        go_wp2_with fail
        refine HW.out.mono ?_; rintro e w3 ⟨rfl, hb3, ht3⟩
        have hO3 := row_below HA.out hb3
        obtain ⟨hst1, hst2⟩ := hO3.stored j (.string WT)
        have hcy0 := hO3.cellAt j (by omega)
        have hfy0 := hO3.frozenAt j
        rw [List.getElem?_eq_getElem (by omega)] at hcy0
        have HF := Lib.hid hst1
        have hs3 := HBl.out.size
        have HB3 := Lib.hid (bchain HBl.out hb3 hs3)
        clear hst1 hst2 hO3 hb3 ht3
        go_wp2_with fail
        go_roundg (gk - 1)
        case rel =>
          refine ⟨j + 1, _, by go_num, by have := HJ.out; omega, by have := HJ.out; omega, HF.out, ?_, HB3.out.setCell (Nat.le_refl _) _⟩
          intro i hi
          by_cases q : i = j
          · subst q; rw [List.getElem?_set_self (by omega), HXY.out, HWT.out]
          · rw [List.getElem?_set_ne (by omega)]; exact hys.out i (by omega)
        case measure => have := HJ.out; omega
    · have e : j = xs.length := by omega
      have hjn := Tryd.strings_Join w.heap.size 0 xs.length (sts xs) ⟨#[44]⟩ wr (fun i x hx => by obtain ⟨hi, rfl⟩ := sts_get hx; rw [Nat.zero_add, hown.cellAt i (by omega)]; exact hys.out i (by omega)) hg0 (by rw [sts_length]; omega) (by rw [sts_length]; exact Nat.le_refl _)
        (by rw [stj_sts, Array.length_toList]; have := stj_size (H := ⟨#[]⟩) (by simp [ByteArray.size]) hbd xs.length (Nat.le_refl _); have e2 : (stj ⟨#[]⟩ xs xs.length).data.size = (stj ⟨#[]⟩ xs xs.length).size := rfl; omega)
      rw [sts_length, stj_sts, Array.toArray_toList] at hjn
      have HBl := Lib.hid hbel
      have HJN := Lib.hid hjn
      clear hbel hown hjn ht B2 hown0 h
      go_wp2_with fail
      refine HJN.out.mono ?_; rintro e w5 ⟨rfl, hb5⟩
      go_wp2_with fail
      go_ret
      exact ⟨rfl, HBl.out.trans (hb5.mono HBl.out.size)⟩
/-- the text of stops -/
def sttx (xs : List Int) : ByteArray := if stP xs then stj ⟨#[]⟩ xs xs.length else ⟨#[]⟩
theorem stP_bd {xs : List Int} (h : stP xs = true) : bdS xs ∧ xs.length ≤ 12 := by
  rw [st_eq] at h
  unfold stB at h
  simp only [Bool.and_eq_true, inB_iff, rsK_iff] at h
  exact ⟨fun i hi => by have := h.2.1 i hi; omega, by omega⟩
set_option maxHeartbeats 2000000 in
theorem stopsText_any (a : Option Addr) (cap : Nat) (xs : List Int) (w : World) (h : Rd w a xs) (hx : xs.length ≤ 1048576) (ht : Lib.TabIs Tryd.prog w "internal/strconv.uint64pow10" .u64 Lib.pow10Tab) :
    Calls Tryd.prog 19 #[.slice a xs.length cap] w fun e w' => e = .returned (.tuple #[.string (sttx xs), .bool (stP xs)]) ∧ Below w.heap.size w w' := by
  have hmf : ∀ (fn : Fn) (first cap : Array Value) (w : World), (Instr.makeFunc fn first cap).run Tryd.prog w = .ok (.func fn first cap) w := fun _ _ _ _ => rfl
  cases hs : stP xs
  · have hx1 : Hid (sttx xs = ⟨#[]⟩) := by unfold Hid sttx; rw [hs]; rfl
    have HS := Lib.hid hs
    clear hs
    go_enter Tryd.func19, Tryd.ntmps19
    go_wp2_with fail
    refine (areStops_any a cap xs _ h hx).mono ?_; rw [HS.out]; rintro e w1 ⟨rfl, hb⟩
    go_wp2_with fail
    go_ret2
    exact ⟨by rw [hx1.out]; rfl, by assumption⟩
  · have hx1 : Hid (sttx xs = stj ⟨#[]⟩ xs xs.length) := by unfold Hid sttx; rw [hs]; rfl
    have hp := stP_bd hs
    have HS := Lib.hid hs
    clear hs
    go_enter Tryd.func19, Tryd.ntmps19
    go_wp2_with fail
    refine (areStops_any a cap xs _ h hx).mono ?_; rw [HS.out]; rintro e w1 ⟨rfl, hb1⟩
    go_wp2_with fail
    refine (stList_any a cap xs _ (h.below hb1) hp.1 hp.2 (tab_below pow10G (tab_lt pow10G ht) ht hb1)).mono ?_; rintro e w2 ⟨rfl, hb2⟩
    go_wp2_with fail
    go_ret2
    exact ⟨by rw [hx1.out]; rfl, hb1.trans (hb2.mono hb1.size)⟩
set_option maxHeartbeats 4000000 in
theorem implLineText (f e c : Int) (a : Option Addr) (cap : Nat) (xs : List Int) (w : World) (h : Rd w a xs) (hx : xs.length ≤ 1048576) (ht : Lib.TabIs Tryd.prog w "internal/strconv.uint64pow10" .u64 Lib.pow10Tab) :
    Calls Tryd.prog 8 #[.agg #[.int .i64 f, .int .i64 e, .int .i64 c, .slice a xs.length cap]] w fun r w' => r = .returned (.tuple #[.string (lntx f e c xs), .bool (lnB f e c xs)]) ∧ Below w.heap.size w w' := by
  have htT := Lib.hid (fun (v : World) (hb : Below w.heap.size w v) => tab_below pow10G (tab_lt pow10G ht) ht hb)
  clear ht
  cases g1 : lnB f e c xs
  · have hx1 : Hid (lntx f e c xs = ⟨#[]⟩) := by unfold Hid lntx; rw [g1]; rfl
    go_enter Tryd.func8, Tryd.ntmps8
    go_wp2_with (first | (go_at_call 18; refine (implIsLine f e c a cap xs _ (h.below (by (repeat (first | exact Below.refl _ _ | refine Below.drew ?_ | refine below_drewN ?_ _ | refine Below.setCell ?_ (by first | omega | (simp; done) | (simp; omega)) _ | refine Below.alloc ?_ (by first | omega | (simp; done) | (simp; omega)) _ | refine bchain ?_ (by assumption) (by first | omega | (simp; done) | (simp; omega)))))) hx).mono ?_; rw [g1]; rintro e w1 ⟨rfl, hb1⟩; have hs1 := hb1.size; (try simp only [World.size_alloc, World.size_drew, World.size_setCell] at hs1); (try (have hl1_0 : w.heap.size < w1.heap.size := (by first | omega | (simp; done) | (simp; omega)))); (try (have hc1_0 := fun o => (bcell hb1).1 (w.heap.size) o (by first | omega | (simp; done) | (simp; omega))))) | go_in)
    go_ret2
    exact ⟨by rw [hx1.out]; rfl, by (repeat (first | exact Below.refl _ _ | refine Below.drew ?_ | refine below_drewN ?_ _ | refine Below.setCell ?_ (by first | omega | (simp; done) | (simp; omega)) _ | refine Below.alloc ?_ (by first | omega | (simp; done) | (simp; omega)) _ | refine bchain ?_ (by assumption) (by first | omega | (simp; done) | (simp; omega))))⟩
  · have L := lnB_iff.1 g1
    have n0 := L.n0
    have n1 := L.n1
    have hst : stP xs = true := by
      rw [st_eq]; unfold lnB at g1; simp only [Bool.and_eq_true] at g1; exact g1.2
    have hx1 : Hid (lntx f e c xs = lhd f e c ++ sttx xs) := by
      unfold Hid lntx sttx; rw [g1, hst]; simp only [if_true]; exact stj_head _ _ _ (by omega)
    have f0 := L.f0
    have f1 := L.f1
    have e0 := L.e0
    have e1 := L.e1
    have c0 := L.c0
    have c1 := L.c1
    have HSZ : Hid ((sttx xs).size ≤ 208) := by
      unfold Hid sttx; rw [hst]; simp only [if_true]
      have := stj_size (H := ⟨#[]⟩) (by simp [ByteArray.size]) (stP_bd hst).1 xs.length (Nat.le_refl _)
      omega
    have hcF := Lib.hid (fun w ht => itoa_int f (by omega) (by omega) w ht)
    have hcE := Lib.hid (fun w ht => itoa_int e (by omega) (by omega) w ht)
    have hcC := Lib.hid (fun w ht => itoa_int c (by omega) (by omega) w ht)
    have X1 := itx_size (n := f) (by omega) (by omega)
    have X2 := itx_size (n := e) (by omega) (by omega)
    have X3 := itx_size (n := c) (by omega) (by omega)
    have HHD : Hid (lhd f e c = ((((itx f ++ ⟨#[43]⟩) ++ itx e) ++ ⟨#[120]⟩) ++ itx c) ++ ⟨#[58]⟩) := rfl
    generalize hF : itx f = TF at *
    generalize hE : itx e = TE at *
    generalize hC : itx c = TC at *
    clear hF hE hC
    have y1 : ¬ (9223372036854775807 < TF.size + 1) := by omega
    have y2 : ¬ (9223372036854775807 < TF.size + 1 + TE.size) := by omega
    have y3 : ¬ (9223372036854775807 < TF.size + 1 + TE.size + 1) := by omega
    have y4 : ¬ (9223372036854775807 < TF.size + 1 + TE.size + 1 + TC.size) := by omega
    have y5 : ¬ (9223372036854775807 < TF.size + 1 + TE.size + 1 + TC.size + 1) := by omega
    have sz := HSZ.out
    have y6 : ¬ (9223372036854775807 < TF.size + 1 + TE.size + 1 + TC.size + 1 + (sttx xs).size) := by omega
    clear X1 X2 X3 sz
    clear L f0 f1 e0 e1 c0 c1
    go_enter Tryd.func8, Tryd.ntmps8
    go_wp2_with (first | (go_at_call 18; refine (implIsLine f e c a cap xs _ (h.below (by (repeat (first | exact Below.refl _ _ | refine Below.drew ?_ | refine below_drewN ?_ _ | refine Below.setCell ?_ (by first | omega | (simp; done) | (simp; omega)) _ | refine Below.alloc ?_ (by first | omega | (simp; done) | (simp; omega)) _ | refine bchain ?_ (by assumption) (by first | omega | (simp; done) | (simp; omega)))))) hx).mono ?_; rw [g1]; rintro e w1 ⟨rfl, hb1⟩; have hs1 := hb1.size; (try simp only [World.size_alloc, World.size_drew, World.size_setCell] at hs1); (try (have hl1_0 : w.heap.size < w1.heap.size := (by first | omega | (simp; done) | (simp; omega)))); (try (have hc1_0 := fun o => (bcell hb1).1 (w.heap.size) o (by first | omega | (simp; done) | (simp; omega))))) | (go_at_call 19; refine (stopsText_any a cap xs _ (h.below (by (repeat (first | exact Below.refl _ _ | refine Below.drew ?_ | refine below_drewN ?_ _ | refine Below.setCell ?_ (by first | omega | (simp; done) | (simp; omega)) _ | refine Below.alloc ?_ (by first | omega | (simp; done) | (simp; omega)) _ | refine bchain ?_ (by assumption) (by first | omega | (simp; done) | (simp; omega)))))) hx (htT.out _ (by (repeat (first | exact Below.refl _ _ | refine Below.drew ?_ | refine below_drewN ?_ _ | refine Below.setCell ?_ (by first | omega | (simp; done) | (simp; omega)) _ | refine Below.alloc ?_ (by first | omega | (simp; done) | (simp; omega)) _ | refine bchain ?_ (by assumption) (by first | omega | (simp; done) | (simp; omega))))))).mono ?_; rw [hst]; rintro e1 w5 ⟨rfl, hb5⟩; have hs5 := hb5.size; (try simp only [World.size_alloc, World.size_drew, World.size_setCell] at hs5); (try (have hl5_0 : w.heap.size < w5.heap.size := (by first | omega | (simp; done) | (simp; omega)))); (try (have hc5_0 := fun o => (bcell hb5).1 (w.heap.size) o (by first | omega | (simp; done) | (simp; omega))))))
    have d0 : w5.cell? ⟨w.heap.size, 0, none⟩ = some (.int .i64 f) := by rw [hc5_0, hc1_0]; go_simp
    have d1 : w5.cell? ⟨w.heap.size, 1, none⟩ = some (.int .i64 e) := by rw [hc5_0, hc1_0]; go_simp
    have d2 : w5.cell? ⟨w.heap.size, 2, none⟩ = some (.int .i64 c) := by rw [hc5_0, hc1_0]; go_simp
    have B5 : Below w.heap.size w w5 := by (repeat (first | exact Below.refl _ _ | refine Below.drew ?_ | refine below_drewN ?_ _ | refine Below.setCell ?_ (by first | omega | (simp; done) | (simp; omega)) _ | refine Below.alloc ?_ (by first | omega | (simp; done) | (simp; omega)) _ | refine bchain ?_ (by assumption) (by first | omega | (simp; done) | (simp; omega))))
    have T5 := htT.out w5 B5
    clear hc5_0 hc1_0 hb1 hb5
    have s5 := B5.size
    have z5 : w.heap.size < w5.heap.size := hl5_0
    clear T5
    generalize hS : sttx xs = SX at *
    go_region_held3 (fun v => Below w.heap.size w v ∧ w.heap.size < v.heap.size ∧ v.cell? ⟨w.heap.size, 0, none⟩ = some (.int .i64 f) ∧ v.cell? ⟨w.heap.size, 1, none⟩ = some (.int .i64 e) ∧ v.cell? ⟨w.heap.size, 2, none⟩ = some (.int .i64 c))
      (refine ⟨?_, ?_, ?_, ?_, ?_⟩ <;> first | assumption | omega | (go_simp; done) | ((repeat (first | assumption | exact Below.refl _ _ | refine Below.drew ?_ | refine below_drewN ?_ _ | refine Below.alloc ?_ (by first | omega | (simp; done) | (simp; omega)) _ | refine bchain ?_ (by assumption) (by first | omega | (simp; done) | (simp; omega)))); done))
      (first | (go_at_call_of 20 (Value.int .i64 f); refine (hcF.out _ (htT.out _ (by (repeat (first | assumption | exact Below.refl _ _ | refine Below.drew ?_ | refine below_drewN ?_ _ | refine Below.alloc ?_ (by first | omega | (simp; done) | (simp; omega)) _ | refine bchain ?_ (by assumption) (by first | omega | (simp; done) | (simp; omega))))))).mono ?_; rintro e1 w2 ⟨rfl, hb2, ht2⟩; have hz2 := hb2.size; (try simp only [World.size_alloc, World.size_drew] at hz2); have hcA2 := fun o => (bcell hb2).1 w.heap.size o (by first | omega | (simp; done) | (simp; omega))) | (go_at_call_of 20 (Value.int .i64 e); refine (hcE.out _ (htT.out _ (by (repeat (first | assumption | exact Below.refl _ _ | refine Below.drew ?_ | refine below_drewN ?_ _ | refine Below.alloc ?_ (by first | omega | (simp; done) | (simp; omega)) _ | refine bchain ?_ (by assumption) (by first | omega | (simp; done) | (simp; omega))))))).mono ?_; rintro e1 w3 ⟨rfl, hb3, ht3⟩; have hz3 := hb3.size; (try simp only [World.size_alloc, World.size_drew] at hz3); have hcA3 := fun o => (bcell hb3).1 w.heap.size o (by first | omega | (simp; done) | (simp; omega))) | (go_at_call_of 20 (Value.int .i64 c); refine (hcC.out _ (htT.out _ (by (repeat (first | assumption | exact Below.refl _ _ | refine Below.drew ?_ | refine below_drewN ?_ _ | refine Below.alloc ?_ (by first | omega | (simp; done) | (simp; omega)) _ | refine bchain ?_ (by assumption) (by first | omega | (simp; done) | (simp; omega))))))).mono ?_; rintro e1 w4 ⟨rfl, hb4, ht4⟩; have hz4 := hb4.size; (try simp only [World.size_alloc, World.size_drew] at hz4); have hcA4 := fun o => (bcell hb4).1 w.heap.size o (by first | omega | (simp; done) | (simp; omega))))
    all_goals
      rename_i hS1
      have hB1 := hS1.1
      go_wp2_with fail
      go_ret2
      exact ⟨by rw [hx1.out, HHD.out]; rfl, hB1⟩
end Go.Proofs.YtjcapaoafkgkaaaDoor
