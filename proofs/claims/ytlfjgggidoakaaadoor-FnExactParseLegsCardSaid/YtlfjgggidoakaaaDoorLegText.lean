/- The text of legs: the model, by contracts. -/
import Derived.Test.YtlfjgggidoakaaaDoorProg
import Derived.Test.YtlfjgggidoakaaaDoorLegList
import Derived.Test.YtlfjgggidoakaaaDoorJoin0
import Derived.Test.YtlfjgggidoakaaaDoorTextWalks
import Derived.WalkKit
import Derived.WalkSpells
import Derived.WalkLawsBesides
import Derived.Lib.Hide
import Derived.Lib.Join
import Derived.Lib.ItoaNum
import Derived.Deep.LoopGhost
import Derived.Deep.QuietTactic
import Derived.Deep.RegionWith
import Derived.Deep.RegionHeld3
import Derived.BigQuiet
namespace Go.Proofs.YtlfjgggidoakaaaDoor
open Go.RowKit
set_option linter.unusedVariables false
set_option linter.unusedSimpArgs false
/-- the text of the first ones, as it grows -/
def gjp (c : UInt8) (xs : List (Int × Int)) : Nat → ByteArray
  | 0 => ⟨#[]⟩
  | 1 => ⟨#[]⟩ ++ gtx c (px xs 0) (py xs 0)
  | k + 2 => (gjp c xs (k + 1) ++ ⟨#[43]⟩) ++ gtx c (px xs (k + 1)) (py xs (k + 1))
theorem gjp_size {c : UInt8} {xs : List (Int × Int)} (h : bdX xs) : ∀ k, k ≤ xs.length → (gjp c xs k).size ≤ 18 * k
  | 0, _ => by simp [gjp, ByteArray.size]
  | 1, hk => by
    have := gtx_size (c := c) (h 0 (by omega))
    have h3 : (⟨#[]⟩ : ByteArray).size = 0 := rfl
    simp only [gjp]
    rw [ByteArray.size_append, h3]; omega
  | k + 2, hk => by
    have h1 := gjp_size (c := c) h (k + 1) (by omega)
    have := gtx_size (c := c) (h (k + 1) (by omega))
    have h3 : (⟨#[43]⟩ : ByteArray).size = 1 := rfl
    simp only [gjp]
    rw [ByteArray.size_append, ByteArray.size_append, h3]; omega
theorem gjp_join (c : UInt8) (xs : List (Int × Int)) : ∀ k, k ≤ xs.length → (gjp c xs k).data.toList = Lib.join ((xs.take k).map fun p => (gtx c p.1 p.2).data.toList) [43]
  | 0, _ => by simp [gjp, Lib.join_nil]
  | 1, h => by
    rw [take_succ_xy xs 0 (by omega)]
    simp [gjp, Lib.join_one]
  | k + 2, h => by
    have ih := gjp_join c xs (k + 1) (by omega)
    rw [take_succ_xy xs (k + 1) (by omega), List.map_append, List.map_cons, List.map_nil, join_snoc _ _ _ (by
      intro e
      have := congrArg List.length e
      rw [List.length_map, List.length_take, List.length_nil] at this
      omega), ← ih]
    simp [gjp]
theorem gjp_gts (c : UInt8) (xs : List (Int × Int)) : Lib.join ((gts c xs).map (·.data.toList)) (⟨#[43]⟩ : ByteArray).data.toList = (gjp c xs xs.length).data.toList := by
  rw [gjp_join c xs xs.length (Nat.le_refl _), List.take_length]
  simp [gts, Function.comp_def]
set_option maxHeartbeats 2000000 in
theorem reText_any (a : Option Addr) (cap : Nat) (xs : List (Int × Int)) (w : World) (h : RdP w a xs) (hw : bdX xs) (hp0 : ∀ i, i < xs.length → 0 ≤ px xs i ∧ 0 ≤ py xs i) (hn : xs.length ≤ 8) :
    Calls Tryd.prog 37 #[.slice a xs.length cap] w fun e w' => e = .returned (.string (gjp 47 xs xs.length)) ∧ Below w.heap.size w w' := by
  have hnI : (xs.length : Int) ≤ 8 := by omega
  have HW := Lib.hid hw
  have HP := Lib.hid hp0
  clear hw hp0
  go_enter Tryd.func37, Tryd.ntmps37
  go_wp2_with fail
  go_loopg [3, 8] xs.length (fun k v3 v8 wr => ∃ (j : Nat), v3 = .string (gjp 47 xs j) ∧ v8 = .int .i64 (j : Int) ∧ j + k ≤ xs.length ∧ xs.length ≤ j + k ∧ Below w.heap.size w wr)
  case atStart => exact ⟨0, rfl, rfl, by omega, by omega, Below.refl _ _⟩
  case round =>
    obtain ⟨j, rfl, rfl, h1, h2, hbel⟩ := hrel
    by_cases hj : j < xs.length
    · rcases h with h | ⟨b, off, rfl, hlt, hc⟩
      · rw [h] at hj; exact absurd hj (Nat.not_lt_zero _)
      · have hcj : wr.cell? ⟨b, off + j * 2, none⟩ = some (.int .i64 (px xs j)) := by rw [(bcell hbel).1 b _ hlt]; exact (hc j hj).1
        have hck : wr.cell? ⟨b, off + j * 2 + 1, none⟩ = some (.int .i64 (py xs j)) := by rw [(bcell hbel).1 b _ hlt]; exact (hc j hj).2
        have hjI : (j : Int) < (xs.length : Int) := by omega
        have HBl := Lib.hid hbel
        have hsz := hbel.size
        have hT := gjp_size (c := 47) HW.out j (by omega)
        have hq := HW.out j hj
        have hE0 : j = 0 → gjp 47 xs (j + 1) = gjp 47 xs j ++ ((itx (px xs j) ++ ⟨#[47]⟩) ++ itx (py xs j)) := by rintro rfl; rfl
        have hE1 : 0 < j → gjp 47 xs (j + 1) = (gjp 47 xs j ++ ⟨#[43]⟩) ++ ((itx (px xs j) ++ ⟨#[47]⟩) ++ itx (py xs j)) := by
          intro hp; obtain ⟨i, rfl⟩ : ∃ i, j = i + 1 := ⟨j - 1, by omega⟩; rfl
        have hcX := Lib.hid (fun w => l1Nat_any (px xs j) (by have := HP.out j hj; omega) (by omega) w)
        have hcY := Lib.hid (fun w => l1Nat_any (py xs j) (by have := HP.out j hj; omega) (by omega) w)
        have hX := itx_size (n := px xs j) (by omega) (by omega)
        have hY := itx_size (n := py xs j) (by omega) (by omega)
        clear hbel hc hq
        generalize px xs j = x at *
        generalize py xs j = y at *
        generalize hTT : gjp 47 xs j = T at *
        generalize hT2 : gjp 47 xs (j + 1) = T2 at *
        have HT2 := Lib.hid hT2
        clear hTT hT2
        generalize hXX : itx x = X at *
        generalize hYY : itx y = Y at *
        clear hXX hYY
        have f1 : ¬ (9223372036854775807 < X.size + 1) := by omega
        have f2 : ¬ (9223372036854775807 < X.size + 1 + Y.size) := by omega
        have f3 : ¬ (9223372036854775807 < T.size + (X.size + 1 + Y.size)) := by omega
        have f4 : ¬ (9223372036854775807 < T.size + 1 + (X.size + 1 + Y.size)) := by omega
        have f5 : ¬ (9223372036854775807 < T.size + 1) := by omega
        rcases Nat.eq_zero_or_pos j with hj0 | hj0
        · have HE := Lib.hid (hE0 hj0)
          have hjn : ¬ (0 : Int) < (j : Int) := by omega
          have HJ := Lib.hid (And.intro h1 h2)
          clear hE0 hE1 hT hX hY hj0 h1 h2
          go_wp2_with fail
          go_region_held3 (fun w' => Below wr.heap.size wr w' ∧ wr.heap.size < w'.heap.size ∧ w'.cell? ⟨wr.heap.size, 0, none⟩ = some (.int .i64 x) ∧ w'.cell? ⟨wr.heap.size, 1, none⟩ = some (.int .i64 y)) (refine ⟨?_, ?_, ?_, ?_⟩ <;> first | assumption | omega | (go_simp; done) | (repeat (first | exact Below.refl _ _ | refine Below.drew ?_ | refine Below.alloc ?_ (by first | omega | (simp; done) | (simp; omega)) _ | refine bchain ?_ (by assumption) (by first | omega | (simp; done) | (simp; omega))))) (first | (go_at_call_of 69 (Value.int .i64 x); refine (hcX.out _).mono ?_; rintro e w1 ⟨rfl, hb⟩; have hc := (bcell hb).1; have hz := hb.size) | (go_at_call_of 69 (Value.int .i64 y); refine (hcY.out _).mono ?_; rintro e w1 ⟨rfl, hb⟩; have hc := (bcell hb).1; have hz := hb.size))
          all_goals (rename_i hS; go_wp2_with fail)
          all_goals go_roundg (gk - 1)
          case rel =>
            refine ⟨j + 1, ?_, by go_num, by have := HJ.out; omega, by have := HJ.out; omega, HBl.out.trans (hS.1.mono HBl.out.size)⟩
            rw [HT2.out, HE.out]
          case measure => have := HJ.out; omega
        · have HE := Lib.hid (hE1 hj0)
          have hjn : (0 : Int) < (j : Int) := by omega
          have HJ := Lib.hid (And.intro h1 h2)
          clear hE0 hE1 hT hX hY hj0 h1 h2
          go_wp2_with fail
          go_region_held3 (fun w' => Below wr.heap.size wr w' ∧ wr.heap.size < w'.heap.size ∧ w'.cell? ⟨wr.heap.size, 0, none⟩ = some (.int .i64 x) ∧ w'.cell? ⟨wr.heap.size, 1, none⟩ = some (.int .i64 y)) (refine ⟨?_, ?_, ?_, ?_⟩ <;> first | assumption | omega | (go_simp; done) | (repeat (first | exact Below.refl _ _ | refine Below.drew ?_ | refine Below.alloc ?_ (by first | omega | (simp; done) | (simp; omega)) _ | refine bchain ?_ (by assumption) (by first | omega | (simp; done) | (simp; omega))))) (first | (go_at_call_of 69 (Value.int .i64 x); refine (hcX.out _).mono ?_; rintro e w1 ⟨rfl, hb⟩; have hc := (bcell hb).1; have hz := hb.size) | (go_at_call_of 69 (Value.int .i64 y); refine (hcY.out _).mono ?_; rintro e w1 ⟨rfl, hb⟩; have hc := (bcell hb).1; have hz := hb.size))
          all_goals (rename_i hS; go_wp2_with fail)
          all_goals go_roundg (gk - 1)
          case rel =>
            refine ⟨j + 1, ?_, by go_num, by have := HJ.out; omega, by have := HJ.out; omega, HBl.out.trans (hS.1.mono HBl.out.size)⟩
            rw [HT2.out, HE.out]
          case measure => have := HJ.out; omega
    · have e : j = xs.length := by omega
      have HBl := Lib.hid hbel
      clear hbel
      go_wp2_with fail
      go_ret
      exact ⟨by rw [e]; rfl, HBl.out⟩
def lgjx (xs : List (Int × Int)) : ByteArray := if lgS xs then gjp 47 xs xs.length else ⟨#[]⟩
theorem lg_parts {xs : List (Int × Int)} (h : lgS xs = true) : bdX xs ∧ xs.length ≤ 8 := by
  have hr := lgS_at h
  exact ⟨fun i hi => by have := lgOk_iff.1 (hr.2.2 i hi); omega, by omega⟩
theorem lg_pos {xs : List (Int × Int)} (h : lgS xs = true) : ∀ i, i < xs.length → 0 ≤ px xs i ∧ 0 ≤ py xs i := by
  have hr := lgS_at h
  exact fun i hi => by have := lgOk_iff.1 (hr.2.2 i hi); omega
set_option maxHeartbeats 1000000 in
theorem specLegsText (a : Option Addr) (cap : Nat) (xs : List (Int × Int)) (w : World) (h : RdP w a xs) (hn : xs.length ≤ 1048576) :
    Calls Tryd.prog 10 #[.slice a xs.length cap] w fun e w' => e = .returned (.tuple #[.string (lgjx xs), .bool (lgS xs)]) ∧ Below w.heap.size w w' := by
  cases hs : lgS xs
  · have hx : Hid (lgjx xs = ⟨#[]⟩) := by unfold Hid lgjx; rw [hs]; rfl
    have HS := Lib.hid hs
    clear hs
    go_enter Tryd.func10, Tryd.ntmps10
    go_wp2_with (first | (go_at_call 36; refine (reGood_any a cap xs _ h hn).mono ?_; rw [HS.out]; rintro e w1 ⟨rfl, hb⟩) | fail)
    go_ret2
    exact ⟨by rw [hx.out]; rfl, by assumption⟩
  · have hx : Hid (lgjx xs = gjp 47 xs xs.length) := by unfold Hid lgjx; rw [hs]; rfl
    have hp := lg_parts hs
    have hq0 := lg_pos hs
    have HS := Lib.hid hs
    clear hs
    go_enter Tryd.func10, Tryd.ntmps10
    go_wp2_with fail
    refine (reGood_any a cap xs _ h hn).mono ?_; rw [HS.out]; rintro e w1 ⟨rfl, hb⟩
    go_wp2_with fail
    refine (reText_any a cap xs _ (h.below hb) hp.1 hq0 hp.2).mono ?_; rintro e w2 ⟨rfl, hb2⟩
    go_wp2_with fail
    go_ret2
    exact ⟨by rw [hx.out]; rfl, hb.trans (hb2.mono hb.size)⟩
end Go.Proofs.YtlfjgggidoakaaaDoor
