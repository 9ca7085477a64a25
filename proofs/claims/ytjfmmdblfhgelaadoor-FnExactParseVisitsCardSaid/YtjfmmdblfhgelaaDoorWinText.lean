/- The text of visits, the model's way by contracts. -/
import Derived.Test.YtjfmmdblfhgelaaDoorProg
import Derived.Test.YtjfmmdblfhgelaaDoorWinList
import Derived.Test.YtjfmmdblfhgelaaDoorJoin0
import Derived.Test.YtjfmmdblfhgelaaDoorTextWalks
import Derived.WalkKit
import Derived.WalkSpells
import Derived.WalkLawsBesides
import Derived.Lib.Hide
import Derived.Lib.Join
import Derived.Lib.ItoaNum
import Derived.Deep.LoopGhost
import Derived.Deep.QuietTactic
import Derived.Deep.RegionWith
import Derived.Deep.RegionHeld3
import Derived.BigQuiet
namespace Go.Proofs.YtjfmmdblfhgelaaDoor
open Go.RowKit
set_option linter.unusedVariables false
set_option linter.unusedSimpArgs false
set_option maxHeartbeats 2000000 in
theorem wiText_any (a : Option Addr) (cap : Nat) (xs : List (Int × Int)) (w : World) (h : RdP w a xs) (hw : bdX xs) (hp0 : ∀ i, i < xs.length → 0 ≤ px xs i ∧ 0 ≤ py xs i) (hn : xs.length ≤ 8) :
    Calls Tryd.prog 15 #[.slice a xs.length cap] w fun e w' => e = .returned (.string (gjt 43 xs xs.length)) ∧ Below w.heap.size w w' := by
  have hnI : (xs.length : Int) ≤ 8 := by omega
  have HW := Lib.hid hw
  have HP := Lib.hid hp0
  clear hw hp0
  go_enter Tryd.func15, Tryd.ntmps15
  go_wp2_with fail
  go_loopg [3, 8] xs.length (fun k v3 v8 wr => ∃ (j : Nat), v3 = .string (gjt 43 xs j) ∧ v8 = .int .i64 (j : Int) ∧ j + k ≤ xs.length ∧ xs.length ≤ j + k ∧ Below w.heap.size w wr)
  case atStart => exact ⟨0, rfl, rfl, by omega, by omega, Below.refl _ _⟩
  case round =>
    obtain ⟨j, rfl, rfl, h1, h2, hbel⟩ := hrel
    by_cases hj : j < xs.length
    · rcases h with h | ⟨b, off, rfl, hlt, hc⟩
      · rw [h] at hj; exact absurd hj (Nat.not_lt_zero _)
      · have hcj : wr.cell? ⟨b, off + j * 2, none⟩ = some (.int .i64 (px xs j)) := by rw [(bcell hbel).1 b _ hlt]; exact (hc j hj).1
        have hck : wr.cell? ⟨b, off + j * 2 + 1, none⟩ = some (.int .i64 (py xs j)) := by rw [(bcell hbel).1 b _ hlt]; exact (hc j hj).2
        have hjI : (j : Int) < (xs.length : Int) := by omega
        have HBl := Lib.hid hbel
        have hsz := hbel.size
        have hT := gjt_size (c := 43) HW.out j (by omega)
        have hq := HW.out j hj
        have hE0 : j = 0 → gjt 43 xs (j + 1) = gjt 43 xs j ++ ((itx (px xs j) ++ ⟨#[43]⟩) ++ itx (py xs j)) := by rintro rfl; rfl
        have hE1 : 0 < j → gjt 43 xs (j + 1) = (gjt 43 xs j ++ ⟨#[44]⟩) ++ ((itx (px xs j) ++ ⟨#[43]⟩) ++ itx (py xs j)) := by
          intro hp; obtain ⟨i, rfl⟩ : ∃ i, j = i + 1 := ⟨j - 1, by omega⟩; rfl
        have hcX := Lib.hid (fun w => l1Nat_any (px xs j) (by have := HP.out j hj; omega) (by omega) w)
        have hcY := Lib.hid (fun w => l1Nat_any (py xs j) (by have := HP.out j hj; omega) (by omega) w)
        have hX := itx_size (n := px xs j) (by omega) (by omega)
        have hY := itx_size (n := py xs j) (by omega) (by omega)
        clear hbel hc hq
        generalize px xs j = x at *
        generalize py xs j = y at *
        generalize hTT : gjt 43 xs j = T at *
        generalize hT2 : gjt 43 xs (j + 1) = T2 at *
        have HT2 := Lib.hid hT2
        clear hTT hT2
        generalize hXX : itx x = X at *
        generalize hYY : itx y = Y at *
        clear hXX hYY
        have f1 : ¬ (9223372036854775807 < X.size + 1) := by omega
        have f2 : ¬ (9223372036854775807 < X.size + 1 + Y.size) := by omega
        have f3 : ¬ (9223372036854775807 < T.size + (X.size + 1 + Y.size)) := by omega
        have f4 : ¬ (9223372036854775807 < T.size + 1 + (X.size + 1 + Y.size)) := by omega
        have f5 : ¬ (9223372036854775807 < T.size + 1) := by omega
        rcases Nat.eq_zero_or_pos j with hj0 | hj0
        · have HE := Lib.hid (hE0 hj0)
          have hjn : ¬ (0 : Int) < (j : Int) := by omega
          have HJ := Lib.hid (And.intro h1 h2)
          clear hE0 hE1 hT hX hY hj0 h1 h2
          go_wp2_with fail
          go_region_held3 (fun w' => Below wr.heap.size wr w' ∧ wr.heap.size < w'.heap.size ∧ w'.cell? ⟨wr.heap.size, 0, none⟩ = some (.int .i64 x) ∧ w'.cell? ⟨wr.heap.size, 1, none⟩ = some (.int .i64 y)) (refine ⟨?_, ?_, ?_, ?_⟩ <;> first | assumption | omega | (go_simp; done) | (repeat (first | exact Below.refl _ _ | refine Below.drew ?_ | refine Below.alloc ?_ (by first | omega | (simp; done) | (simp; omega)) _ | refine bchain ?_ (by assumption) (by first | omega | (simp; done) | (simp; omega))))) (first | (go_at_call_of 26 (Value.int .i64 x); refine (hcX.out _).mono ?_; rintro e w1 ⟨rfl, hb⟩; have hc := (bcell hb).1; have hz := hb.size) | (go_at_call_of 26 (Value.int .i64 y); refine (hcY.out _).mono ?_; rintro e w1 ⟨rfl, hb⟩; have hc := (bcell hb).1; have hz := hb.size))
          all_goals (rename_i hS; go_wp2_with fail)
          all_goals go_roundg (gk - 1)
          case rel =>
            refine ⟨j + 1, ?_, by go_num, by have := HJ.out; omega, by have := HJ.out; omega, HBl.out.trans (hS.1.mono HBl.out.size)⟩
            rw [HT2.out, HE.out]
          case measure => have := HJ.out; omega
        · have HE := Lib.hid (hE1 hj0)
          have hjn : (0 : Int) < (j : Int) := by omega
          have HJ := Lib.hid (And.intro h1 h2)
          clear hE0 hE1 hT hX hY hj0 h1 h2
          go_wp2_with fail
          go_region_held3 (fun w' => Below wr.heap.size wr w' ∧ wr.heap.size < w'.heap.size ∧ w'.cell? ⟨wr.heap.size, 0, none⟩ = some (.int .i64 x) ∧ w'.cell? ⟨wr.heap.size, 1, none⟩ = some (.int .i64 y)) (refine ⟨?_, ?_, ?_, ?_⟩ <;> first | assumption | omega | (go_simp; done) | (repeat (first | exact Below.refl _ _ | refine Below.drew ?_ | refine Below.alloc ?_ (by first | omega | (simp; done) | (simp; omega)) _ | refine bchain ?_ (by assumption) (by first | omega | (simp; done) | (simp; omega))))) (first | (go_at_call_of 26 (Value.int .i64 x); refine (hcX.out _).mono ?_; rintro e w1 ⟨rfl, hb⟩; have hc := (bcell hb).1; have hz := hb.size) | (go_at_call_of 26 (Value.int .i64 y); refine (hcY.out _).mono ?_; rintro e w1 ⟨rfl, hb⟩; have hc := (bcell hb).1; have hz := hb.size))
          all_goals (rename_i hS; go_wp2_with fail)
          all_goals go_roundg (gk - 1)
          case rel =>
            refine ⟨j + 1, ?_, by go_num, by have := HJ.out; omega, by have := HJ.out; omega, HBl.out.trans (hS.1.mono HBl.out.size)⟩
            rw [HT2.out, HE.out]
          case measure => have := HJ.out; omega
    · have e : j = xs.length := by omega
      have HBl := Lib.hid hbel
      clear hbel
      go_wp2_with fail
      go_ret
      exact ⟨by rw [e]; rfl, HBl.out⟩
def vijx (xs : List (Int × Int)) : ByteArray := if viS xs then gjt 43 xs xs.length else ⟨#[]⟩
theorem vi_parts {xs : List (Int × Int)} (h : viS xs = true) : bdX xs ∧ xs.length ≤ 8 := by
  have hr := viS_at h
  exact ⟨fun i hi => by have := viOk_iff.1 (hr.2.2 i hi); omega, by omega⟩
theorem vi_pos {xs : List (Int × Int)} (h : viS xs = true) : ∀ i, i < xs.length → 0 ≤ px xs i ∧ 0 ≤ py xs i := by
  have hr := viS_at h
  exact fun i hi => by have := viOk_iff.1 (hr.2.2 i hi); omega
set_option maxHeartbeats 1000000 in
theorem specVisitsText (a : Option Addr) (cap : Nat) (xs : List (Int × Int)) (w : World) (h : RdP w a xs) (hn : xs.length ≤ 1048576) :
    Calls Tryd.prog 6 #[.slice a xs.length cap] w fun e w' => e = .returned (.tuple #[.string (vijx xs), .bool (viS xs)]) ∧ Below w.heap.size w w' := by
  cases hs : viS xs
  · have hx : Hid (vijx xs = ⟨#[]⟩) := by unfold Hid vijx; rw [hs]; rfl
    have HS := Lib.hid hs
    clear hs
    go_enter Tryd.func6, Tryd.ntmps6
    go_wp2_with (first | (go_at_call 14; refine (wiGood_any a cap xs _ h hn).mono ?_; rw [HS.out]; rintro e w1 ⟨rfl, hb⟩) | fail)
    go_ret2
    exact ⟨by rw [hx.out]; rfl, by assumption⟩
  · have hx : Hid (vijx xs = gjt 43 xs xs.length) := by unfold Hid vijx; rw [hs]; rfl
    have hp := vi_parts hs
    have hq0 := vi_pos hs
    have HS := Lib.hid hs
    clear hs
    go_enter Tryd.func6, Tryd.ntmps6
    go_wp2_with fail
    refine (wiGood_any a cap xs _ h hn).mono ?_; rw [HS.out]; rintro e w1 ⟨rfl, hb⟩
    go_wp2_with fail
    refine (wiText_any a cap xs _ (h.below hb) hp.1 hq0 hp.2).mono ?_; rintro e w2 ⟨rfl, hb2⟩
    go_wp2_with fail
    go_ret2
    exact ⟨by rw [hx.out]; rfl, hb.trans (hb2.mono hb.size)⟩
end Go.Proofs.YtjfmmdblfhgelaaDoor
