/- The text of a puzzle, the model's way by contracts. -/
import Derived.Test.YtpmnnfojmnmohaaDoorPzSpec
import Derived.Test.YtpmnnfojmnmohaaDoorPzTMath
import Derived.Test.YtpmnnfojmnmohaaDoorTwoWalks
import Derived.Test.YtpmnnfojmnmohaaDoorTextWalks
import Derived.WalkKit
import Derived.WalkSpells
import Derived.WalkLawsBesides
import Derived.Lib.Hide
import Derived.Deep.LoopGhost
import Derived.Deep.QuietTactic
import Derived.Deep.RegionWith
import Derived.Deep.RegionHeld3
import Derived.BigQuiet
namespace Go.Proofs.YtpmnnfojmnmohaaDoor
open Go.RowKit
set_option linter.unusedVariables false
set_option linter.unusedSimpArgs false
theorem itx_ab {z : Int} (h : ¬ z < 0) : itx (ab z) = itx z := by unfold ab; rw [if_neg h]
theorem itx_neg {z : Int} (h : z < 0) : itx z = ⟨#[45]⟩ ++ itx (ab z) := by
  apply ByteArray.ext
  apply Array.toList_inj.1
  rw [ByteArray.data_append, Array.toList_append, itx_listZ, itx_listZ, itoa_neg h]
  have e : ab z = (z.natAbs : Int) := by unfold ab; rw [if_pos h]; omega
  rw [e, itoa_pos (by omega)]
  simp
theorem ctx_pos (T : ByteArray) (x y z : Int) (h : ¬ z < 0) : T ++ ctx x y z = (T ++ (((itx x ++ ⟨#[46]⟩) ++ itx y) ++ ⟨#[46]⟩)) ++ itx (ab z) := by
  unfold ctx
  rw [itx_ab h, ByteArray.append_assoc (a := T)]
theorem ctx_neg (T : ByteArray) (x y z : Int) (h : z < 0) : T ++ ctx x y z = ((T ++ (((itx x ++ ⟨#[46]⟩) ++ itx y) ++ ⟨#[46]⟩)) ++ ⟨#[45]⟩) ++ itx (ab z) := by
  unfold ctx
  rw [itx_neg h, ByteArray.append_assoc (a := T ++ _), ByteArray.append_assoc (a := T)]
set_option maxHeartbeats 8000000 in
set_option maxRecDepth 100000 in
theorem pzText_any (a : Option Addr) (cap : Nat) (xs : List (Int × Int × Int)) (w : World) (h : RdC w a xs) (hg : pzG xs = true) :
    Calls Tryd.prog 16 #[.agg #[.slice a xs.length cap]] w fun e w' => e = .returned (.string (cjt xs xs.length)) ∧ Below w.heap.size w w' := by
  have hn := (pzG_iff.1 hg).1
  have hnI : (xs.length : Int) ≤ 6 := by omega
  have HP := Lib.hid (fun i (hi : i < xs.length) => clB_bd (clA_at (pzG_iff.1 hg).2 hi))
  have HW : Hid (bdC xs) := Lib.hid (fun i hi => by have := HP.out i hi; omega)
  clear hg
  go_enter Tryd.func16, Tryd.ntmps16
  go_wp2_with fail
  have HB0 := Lib.hid (show Below w.heap.size w (w.alloc (.cells #[.slice a xs.length cap] 30)) from (Below.refl _ _).alloc (Nat.le_refl _) _)
  go_loopg [3, 9] xs.length (fun k v3 v9 wr => ∃ (j : Nat), v3 = .string (cjt xs j) ∧ v9 = .int .i64 (j : Int) ∧ j + k ≤ xs.length ∧ xs.length ≤ j + k ∧ Below w.heap.size w wr)
  case atStart => exact ⟨0, rfl, rfl, by omega, by omega, HB0.out⟩
  case round =>
    obtain ⟨j, rfl, rfl, h1, h2, hbel⟩ := hrel
    by_cases hj : j < xs.length
    · rcases h with h | ⟨b, off, rfl, hlt, hc⟩
      · rw [h] at hj; exact absurd hj (Nat.not_lt_zero _)
      · have hcj : wr.cell? ⟨b, off + j * 3, none⟩ = some (.int .i64 (tk xs j)) := by rw [(bcell hbel).1 b _ hlt]; exact (hc j hj).1
        have hck : wr.cell? ⟨b, off + j * 3 + 1, none⟩ = some (.int .i64 (ta xs j)) := by rw [(bcell hbel).1 b _ hlt]; exact (hc j hj).2.1
        have hcl : wr.cell? ⟨b, off + j * 3 + 2, none⟩ = some (.int .i64 (tb xs j)) := by rw [(bcell hbel).1 b _ hlt]; exact (hc j hj).2.2
        have hjI : (j : Int) < (xs.length : Int) := by omega
        have HBl := Lib.hid hbel
        have hsz := hbel.size
        have hT := cjt_size HW.out j (by omega)
        have hq := HP.out j hj
        have hE0 : j = 0 → cjt xs (j + 1) = cjt xs j ++ ctx (tk xs j) (ta xs j) (tb xs j) := by rintro rfl; rfl
        have hE1 : 0 < j → cjt xs (j + 1) = (cjt xs j ++ ⟨#[44]⟩) ++ ctx (tk xs j) (ta xs j) (tb xs j) := by
          intro hp; obtain ⟨i, rfl⟩ : ∃ i, j = i + 1 := ⟨j - 1, by omega⟩; rfl
        have hcX := Lib.hid (fun w => l1Nat_any (tk xs j) (by omega) (by omega) w)
        have hcY := Lib.hid (fun w => l1Nat_any (ta xs j) (by omega) (by omega) w)
        have hcZ := Lib.hid (fun w => l1Nat_any (ab (tb xs j)) (by unfold ab; split <;> omega) (by unfold ab; split <;> omega) w)
        have hX := itx_size (n := tk xs j) (by omega) (by omega)
        have hY := itx_size (n := ta xs j) (by omega) (by omega)
        have hZ := itx_size (n := ab (tb xs j)) (by unfold ab; split <;> omega) (by unfold ab; split <;> omega)
        have hz9 : -1000000 ≤ tb xs j ∧ tb xs j ≤ 1000000 := by omega
        clear hbel hc hq
        generalize tk xs j = x at *
        generalize ta xs j = y at *
        generalize tb xs j = z at *
        generalize hTT : cjt xs j = T at *
        generalize hT2 : cjt xs (j + 1) = T2 at *
        have HT2 := Lib.hid hT2
        clear hTT hT2
        obtain ⟨X, hXX⟩ : ∃ X, itx x = X := ⟨_, rfl⟩
        obtain ⟨Y, hYY⟩ : ∃ Y, itx y = Y := ⟨_, rfl⟩
        obtain ⟨Z, hZZ⟩ : ∃ Z, itx (ab z) = Z := ⟨_, rfl⟩
        rw [hXX] at hX hcX
        rw [hYY] at hY hcY
        rw [hZZ] at hZ hcZ
        have f1 : ¬ (9223372036854775807 < X.size + 1) := by omega
        have f2 : ¬ (9223372036854775807 < X.size + 1 + Y.size) := by omega
        have f3 : ¬ (9223372036854775807 < X.size + 1 + Y.size + 1) := by omega
        have f4 : ¬ (9223372036854775807 < T.size + (X.size + 1 + Y.size + 1)) := by omega
        have f5 : ¬ (9223372036854775807 < T.size + 1 + (X.size + 1 + Y.size + 1)) := by omega
        have f6 : ¬ (9223372036854775807 < T.size + 1) := by omega
        have f7 : ¬ (9223372036854775807 < T.size + (X.size + 1 + Y.size + 1) + 1) := by omega
        have f8 : ¬ (9223372036854775807 < T.size + 1 + (X.size + 1 + Y.size + 1) + 1) := by omega
        have f9 : ¬ (9223372036854775807 < T.size + (X.size + 1 + Y.size + 1) + Z.size) := by omega
        have f10 : ¬ (9223372036854775807 < T.size + 1 + (X.size + 1 + Y.size + 1) + Z.size) := by omega
        have f11 : ¬ (9223372036854775807 < T.size + (X.size + 1 + Y.size + 1) + 1 + Z.size) := by omega
        have f12 : ¬ (9223372036854775807 < T.size + 1 + (X.size + 1 + Y.size + 1) + 1 + Z.size) := by omega
        rcases Nat.eq_zero_or_pos j with hj0 | hj0 <;> by_cases hzz : z < 0
        · have HE := Lib.hid (hE0 hj0)
          have HC := Lib.hid (ctx_neg T x y z hzz)
          have hjn : ¬ (0 : Int) < (j : Int) := by omega
          have HJ := Lib.hid (And.intro h1 h2)
          have HXX := Lib.hid hXX
          have HYY := Lib.hid hYY
          have HZZ := Lib.hid hZZ
          clear hE0 hE1 hT hX hY hZ hj0 h1 h2 hXX hYY hZZ
          go_wp2_with fail
          go_region_held3 (fun w' => Below wr.heap.size wr w' ∧ wr.heap.size < w'.heap.size ∧ w'.cell? ⟨wr.heap.size, 0, none⟩ = some (.int .i64 x) ∧ w'.cell? ⟨wr.heap.size, 1, none⟩ = some (.int .i64 y) ∧ w'.cell? ⟨wr.heap.size, 2, none⟩ = some (.int .i64 z)) (refine ⟨?_, ?_, ?_, ?_, ?_⟩ <;> first | assumption | omega | (go_simp; done) | (repeat (first | exact Below.refl _ _ | refine Below.drew ?_ | refine Below.alloc ?_ (by first | omega | (simp; done) | (simp; omega)) _ | refine bchain ?_ (by assumption) (by first | omega | (simp; done) | (simp; omega))))) (first | (go_at_call_of 26 (Value.int .i64 x); refine (hcX.out _).mono ?_; rintro e w1 ⟨rfl, hb⟩; have hc := (bcell hb).1; have hz := hb.size) | (go_at_call_of 26 (Value.int .i64 y); refine (hcY.out _).mono ?_; rintro e w1 ⟨rfl, hb⟩; have hc := (bcell hb).1; have hz := hb.size))
          all_goals
            rename_i hS
            obtain ⟨hSb, hS1, hS2, hS3, hS4⟩ := id hS
            have HS := Lib.hid hSb
            clear hS hSb
            go_wp2_with (first | (go_at_call 27; refine (l1Abs_any z (by omega) (by omega) _).mono ?_; rintro e w2 ⟨rfl, rfl⟩) | (go_at_call 26; refine (hcZ.out _).mono ?_; rintro e w3 ⟨rfl, hb3⟩))
            go_roundg (gk - 1)
            case rel =>
              refine ⟨j + 1, ?_, by go_num, by have := HJ.out; omega, by have := HJ.out; omega, HBl.out.trans ((HS.out.trans (hb3.mono HS.out.size)).mono HBl.out.size)⟩
              rw [HT2.out, HE.out, HC.out, HXX.out, HYY.out, HZZ.out]
            case measure => have := HJ.out; omega
        · have HE := Lib.hid (hE0 hj0)
          have HC := Lib.hid (ctx_pos T x y z hzz)
          have hjn : ¬ (0 : Int) < (j : Int) := by omega
          have HJ := Lib.hid (And.intro h1 h2)
          have HXX := Lib.hid hXX
          have HYY := Lib.hid hYY
          have HZZ := Lib.hid hZZ
          clear hE0 hE1 hT hX hY hZ hj0 h1 h2 hXX hYY hZZ
          go_wp2_with fail
          go_region_held3 (fun w' => Below wr.heap.size wr w' ∧ wr.heap.size < w'.heap.size ∧ w'.cell? ⟨wr.heap.size, 0, none⟩ = some (.int .i64 x) ∧ w'.cell? ⟨wr.heap.size, 1, none⟩ = some (.int .i64 y) ∧ w'.cell? ⟨wr.heap.size, 2, none⟩ = some (.int .i64 z)) (refine ⟨?_, ?_, ?_, ?_, ?_⟩ <;> first | assumption | omega | (go_simp; done) | (repeat (first | exact Below.refl _ _ | refine Below.drew ?_ | refine Below.alloc ?_ (by first | omega | (simp; done) | (simp; omega)) _ | refine bchain ?_ (by assumption) (by first | omega | (simp; done) | (simp; omega))))) (first | (go_at_call_of 26 (Value.int .i64 x); refine (hcX.out _).mono ?_; rintro e w1 ⟨rfl, hb⟩; have hc := (bcell hb).1; have hz := hb.size) | (go_at_call_of 26 (Value.int .i64 y); refine (hcY.out _).mono ?_; rintro e w1 ⟨rfl, hb⟩; have hc := (bcell hb).1; have hz := hb.size))
          all_goals
            rename_i hS
            obtain ⟨hSb, hS1, hS2, hS3, hS4⟩ := id hS
            have HS := Lib.hid hSb
            clear hS hSb
            go_wp2_with (first | (go_at_call 27; refine (l1Abs_any z (by omega) (by omega) _).mono ?_; rintro e w2 ⟨rfl, rfl⟩) | (go_at_call 26; refine (hcZ.out _).mono ?_; rintro e w3 ⟨rfl, hb3⟩))
            go_roundg (gk - 1)
            case rel =>
              refine ⟨j + 1, ?_, by go_num, by have := HJ.out; omega, by have := HJ.out; omega, HBl.out.trans ((HS.out.trans (hb3.mono HS.out.size)).mono HBl.out.size)⟩
              rw [HT2.out, HE.out, HC.out, HXX.out, HYY.out, HZZ.out]
            case measure => have := HJ.out; omega
        · have HE := Lib.hid (hE1 hj0)
          have HC := Lib.hid (ctx_neg (T ++ ⟨#[44]⟩) x y z hzz)
          have hjn : (0 : Int) < (j : Int) := by omega
          have HJ := Lib.hid (And.intro h1 h2)
          have HXX := Lib.hid hXX
          have HYY := Lib.hid hYY
          have HZZ := Lib.hid hZZ
          clear hE0 hE1 hT hX hY hZ hj0 h1 h2 hXX hYY hZZ
          go_wp2_with fail
          go_region_held3 (fun w' => Below wr.heap.size wr w' ∧ wr.heap.size < w'.heap.size ∧ w'.cell? ⟨wr.heap.size, 0, none⟩ = some (.int .i64 x) ∧ w'.cell? ⟨wr.heap.size, 1, none⟩ = some (.int .i64 y) ∧ w'.cell? ⟨wr.heap.size, 2, none⟩ = some (.int .i64 z)) (refine ⟨?_, ?_, ?_, ?_, ?_⟩ <;> first | assumption | omega | (go_simp; done) | (repeat (first | exact Below.refl _ _ | refine Below.drew ?_ | refine Below.alloc ?_ (by first | omega | (simp; done) | (simp; omega)) _ | refine bchain ?_ (by assumption) (by first | omega | (simp; done) | (simp; omega))))) (first | (go_at_call_of 26 (Value.int .i64 x); refine (hcX.out _).mono ?_; rintro e w1 ⟨rfl, hb⟩; have hc := (bcell hb).1; have hz := hb.size) | (go_at_call_of 26 (Value.int .i64 y); refine (hcY.out _).mono ?_; rintro e w1 ⟨rfl, hb⟩; have hc := (bcell hb).1; have hz := hb.size))
          all_goals
            rename_i hS
            obtain ⟨hSb, hS1, hS2, hS3, hS4⟩ := id hS
            have HS := Lib.hid hSb
            clear hS hSb
            go_wp2_with (first | (go_at_call 27; refine (l1Abs_any z (by omega) (by omega) _).mono ?_; rintro e w2 ⟨rfl, rfl⟩) | (go_at_call 26; refine (hcZ.out _).mono ?_; rintro e w3 ⟨rfl, hb3⟩))
            go_roundg (gk - 1)
            case rel =>
              refine ⟨j + 1, ?_, by go_num, by have := HJ.out; omega, by have := HJ.out; omega, HBl.out.trans ((HS.out.trans (hb3.mono HS.out.size)).mono HBl.out.size)⟩
              rw [HT2.out, HE.out, HC.out, HXX.out, HYY.out, HZZ.out]
            case measure => have := HJ.out; omega
        · have HE := Lib.hid (hE1 hj0)
          have HC := Lib.hid (ctx_pos (T ++ ⟨#[44]⟩) x y z hzz)
          have hjn : (0 : Int) < (j : Int) := by omega
          have HJ := Lib.hid (And.intro h1 h2)
          have HXX := Lib.hid hXX
          have HYY := Lib.hid hYY
          have HZZ := Lib.hid hZZ
          clear hE0 hE1 hT hX hY hZ hj0 h1 h2 hXX hYY hZZ
          go_wp2_with fail
          go_region_held3 (fun w' => Below wr.heap.size wr w' ∧ wr.heap.size < w'.heap.size ∧ w'.cell? ⟨wr.heap.size, 0, none⟩ = some (.int .i64 x) ∧ w'.cell? ⟨wr.heap.size, 1, none⟩ = some (.int .i64 y) ∧ w'.cell? ⟨wr.heap.size, 2, none⟩ = some (.int .i64 z)) (refine ⟨?_, ?_, ?_, ?_, ?_⟩ <;> first | assumption | omega | (go_simp; done) | (repeat (first | exact Below.refl _ _ | refine Below.drew ?_ | refine Below.alloc ?_ (by first | omega | (simp; done) | (simp; omega)) _ | refine bchain ?_ (by assumption) (by first | omega | (simp; done) | (simp; omega))))) (first | (go_at_call_of 26 (Value.int .i64 x); refine (hcX.out _).mono ?_; rintro e w1 ⟨rfl, hb⟩; have hc := (bcell hb).1; have hz := hb.size) | (go_at_call_of 26 (Value.int .i64 y); refine (hcY.out _).mono ?_; rintro e w1 ⟨rfl, hb⟩; have hc := (bcell hb).1; have hz := hb.size))
          all_goals
            rename_i hS
            obtain ⟨hSb, hS1, hS2, hS3, hS4⟩ := id hS
            have HS := Lib.hid hSb
            clear hS hSb
            go_wp2_with (first | (go_at_call 27; refine (l1Abs_any z (by omega) (by omega) _).mono ?_; rintro e w2 ⟨rfl, rfl⟩) | (go_at_call 26; refine (hcZ.out _).mono ?_; rintro e w3 ⟨rfl, hb3⟩))
            go_roundg (gk - 1)
            case rel =>
              refine ⟨j + 1, ?_, by go_num, by have := HJ.out; omega, by have := HJ.out; omega, HBl.out.trans ((HS.out.trans (hb3.mono HS.out.size)).mono HBl.out.size)⟩
              rw [HT2.out, HE.out, HC.out, HXX.out, HYY.out, HZZ.out]
            case measure => have := HJ.out; omega
    · have e : j = xs.length := by omega
      have HBl := Lib.hid hbel
      clear hbel
      go_wp2_with fail
      go_ret
      exact ⟨by rw [e]; rfl, HBl.out⟩
/-- the text of a puzzle, or none -/
def pcx (xs : List (Int × Int × Int)) : ByteArray := if pzG xs then cjt xs xs.length else ⟨#[]⟩
set_option maxHeartbeats 1000000 in
theorem specPuzzleText (a : Option Addr) (cap : Nat) (xs : List (Int × Int × Int)) (w : World) (h : RdC w a xs) (hn : xs.length ≤ 1048576) :
    Calls Tryd.prog 6 #[.agg #[.slice a xs.length cap]] w fun e w' => e = .returned (.tuple #[.string (pcx xs), .bool (pzG xs)]) ∧ Below w.heap.size w w' := by
  have HR := Lib.hid h
  clear h
  cases hs : pzG xs
  · have hx : Hid (pcx xs = ⟨#[]⟩) := by unfold Hid pcx; rw [hs]; rfl
    have HS := Lib.hid hs
    clear hs
    go_enter Tryd.func6, Tryd.ntmps6
    go_wp2_with (first | (go_at_call 15; refine (pzGood_any a cap xs _ (HR.out.below (by (repeat (first | assumption | exact Below.refl _ _ | refine Below.drew ?_ | refine below_drewN ?_ _ | refine Below.alloc ?_ (by first | omega | (simp; done) | (simp; omega)) _ | refine bchain ?_ (by assumption) (by first | omega | (simp; done) | (simp; omega)))))) hn).mono ?_; rw [HS.out]; rintro e w1 ⟨rfl, hb⟩))
    go_ret2
    exact ⟨by rw [hx.out]; rfl, by (repeat (first | assumption | exact Below.refl _ _ | refine Below.drew ?_ | refine below_drewN ?_ _ | refine Below.alloc ?_ (by first | omega | (simp; done) | (simp; omega)) _ | refine bchain ?_ (by assumption) (by first | omega | (simp; done) | (simp; omega))))⟩
  · have hx : Hid (pcx xs = cjt xs xs.length) := by unfold Hid pcx; rw [hs]; rfl
    have HT := Lib.hid (fun w h => pzText_any a cap xs w h hs)
    have HS := Lib.hid hs
    clear hs
    go_enter Tryd.func6, Tryd.ntmps6
    go_wp2_with (first | (go_at_call 15; refine (pzGood_any a cap xs _ (HR.out.below (by (repeat (first | assumption | exact Below.refl _ _ | refine Below.drew ?_ | refine below_drewN ?_ _ | refine Below.alloc ?_ (by first | omega | (simp; done) | (simp; omega)) _ | refine bchain ?_ (by assumption) (by first | omega | (simp; done) | (simp; omega)))))) hn).mono ?_; rw [HS.out]; rintro e w1 ⟨rfl, hb⟩; have hz1 := hb.size; (try simp only [World.size_alloc] at hz1); have hc1 : w1.cell? ⟨w.heap.size, 0, none⟩ = some (.slice a xs.length cap) := (by rw [(bcell hb).1 _ _ (by simp)]; go_simp); have B1 : Below w.heap.size w w1 := (by (repeat (first | assumption | exact Below.refl _ _ | refine Below.drew ?_ | refine below_drewN ?_ _ | refine Below.alloc ?_ (by first | omega | (simp; done) | (simp; omega)) _ | refine bchain ?_ (by assumption) (by first | omega | (simp; done) | (simp; omega))))); clear hb) | (go_at_call 16; refine (HT.out _ (HR.out.below (by (repeat (first | assumption | exact Below.refl _ _ | refine Below.drew ?_ | refine below_drewN ?_ _ | refine Below.alloc ?_ (by first | omega | (simp; done) | (simp; omega)) _ | refine bchain ?_ (by assumption) (by first | omega | (simp; done) | (simp; omega))))))).mono ?_; rintro e w2 ⟨rfl, hb2⟩))
    go_ret2
    exact ⟨by rw [hx.out]; rfl, by (repeat (first | assumption | exact Below.refl _ _ | refine Below.drew ?_ | refine below_drewN ?_ _ | refine Below.alloc ?_ (by first | omega | (simp; done) | (simp; omega)) _ | refine bchain ?_ (by assumption) (by first | omega | (simp; done) | (simp; omega))))⟩
end Go.Proofs.YtpmnnfojmnmohaaDoor
