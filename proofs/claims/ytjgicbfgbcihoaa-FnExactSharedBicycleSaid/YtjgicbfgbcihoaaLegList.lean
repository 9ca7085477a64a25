/- Lists of legs: the model's functions by contracts. -/
import Derived.Test.YtjgicbfgbcihoaaLegWalks
import Derived.Test.YtjgicbfgbcihoaaPairsG
import Derived.WalkKit
import Derived.WalkSpells
import Derived.WalkLawsBesides
import Derived.Lib.Hide
import Derived.Deep.LoopGhost
import Derived.Deep.QuietTactic
import Derived.Deep.RegionWith
import Derived.Deep.RegionHeld3
import Derived.BigQuiet
namespace Go.Proofs.Ytjgicbfgbcihoaa
open Go.RowKit
set_option linter.unusedVariables false
set_option linter.unusedSimpArgs false
set_option maxHeartbeats 2000000 in
theorem reGood_any (a : Option Addr) (cap : Nat) (xs : List (Int × Int)) (w : World) (h : RdP w a xs) (hn : xs.length ≤ 1048576) :
    Calls Try.prog 44 #[.slice a xs.length cap] w fun e w' => e = .returned (.bool (lgS xs)) ∧ Below w.heap.size w w' := by
  have hnI : (xs.length : Int) ≤ 1048576 := by omega
  cases hb : inB (xs.length : Int) 1 5
  · have HR := Lib.hid (show lgS xs = false by unfold lgS; rw [hb]; rfl)
    have HB := Lib.hid hb
    clear hb
    go_enter Try.func44, Try.ntmps44
    go_wp2_with (first | (go_at_call 72; refine (specIn _ _ _ _).mono ?_; rw [HB.out]; rintro e w1 ⟨rfl, rfl⟩))
    go_ret
    rw [HR.out]
    exact ⟨rfl, Below.refl _ _⟩
  · have HB := Lib.hid hb
    have HR := Lib.hid (show lgS xs = allP lgOk xs by unfold lgS; rw [hb]; rfl)
    clear hb
    go_enter Try.func44, Try.ntmps44
    go_wp2_with (first | (go_at_call 72; refine (specIn _ _ _ _).mono ?_; rw [HB.out]; rintro e w1 ⟨rfl, rfl⟩))
    go_loopg [11] xs.length (fun k v11 wr => ∃ (j : Nat), v11 = .int .i64 (j : Int) ∧ j + k ≤ xs.length ∧ xs.length ≤ j + k ∧ Hid (∀ i, i < j → lgOk (px xs i) (py xs i) = true) ∧ Below w.heap.size w wr)
    case atStart => exact ⟨0, rfl, by omega, by omega, fun i hi => absurd hi (Nat.not_lt_zero _), Below.refl _ _⟩
    case round =>
      obtain ⟨j, rfl, h1, h2, hall, hbel⟩ := hrel
      by_cases hj : j < xs.length
      · rcases h with h | ⟨b, off, rfl, hlt, hc⟩
        · rw [h] at hj; exact absurd hj (Nat.not_lt_zero _)
        · have hcj : wr.cell? ⟨b, off + j * 2, none⟩ = some (.int .i64 (px xs j)) := by rw [(bcell hbel).1 b _ hlt]; exact (hc j hj).1
          have hck : wr.cell? ⟨b, off + j * 2 + 1, none⟩ = some (.int .i64 (py xs j)) := by rw [(bcell hbel).1 b _ hlt]; exact (hc j hj).2
          have hjI : (j : Int) < (xs.length : Int) := by omega
          have HBl := Lib.hid hbel
          have hsz := hbel.size
          clear hbel hc
          cases k1 : inB (px xs j) 1 1000
          · have HX := Lib.hid (HR.out.trans (allP_no hj (by simp [lgOk, k1])))
            have H1 := Lib.hid k1
            clear k1
            go_wp2_with (first | (go_at_call 72; refine (specIn _ _ _ _).mono ?_; (first | rw [H1.out] | rw [H2.out]); rintro e w1 ⟨rfl, rfl⟩))
            go_ret
            rw [HX.out]
            exact ⟨rfl, by (repeat (first | exact HBl.out | exact Below.refl _ _ | refine Below.drew ?_ | refine below_drewN ?_ _ | refine Below.alloc ?_ (by first | omega | (simp; done) | (simp; omega)) _ | refine bchain ?_ (by assumption) (by first | omega | (simp; done) | (simp; omega))))⟩
          cases k2 : inB (py xs j) 1 100
          · have HX := Lib.hid (HR.out.trans (allP_no hj (by simp [lgOk, k2])))
            have H1 := Lib.hid k1
            have H2 := Lib.hid k2
            clear k1 k2
            go_wp2_with (first | (go_at_call 72; refine (specIn _ _ _ _).mono ?_; (first | rw [H1.out] | rw [H2.out]); rintro e w1 ⟨rfl, rfl⟩))
            go_ret
            rw [HX.out]
            exact ⟨rfl, by (repeat (first | exact HBl.out | exact Below.refl _ _ | refine Below.drew ?_ | refine below_drewN ?_ _ | refine Below.alloc ?_ (by first | omega | (simp; done) | (simp; omega)) _ | refine bchain ?_ (by assumption) (by first | omega | (simp; done) | (simp; omega))))⟩
          · have hall2 : Hid (∀ i, i < j + 1 → lgOk (px xs i) (py xs i) = true) := fun i hi => by
              by_cases q : i = j
              · subst q; simp [lgOk, k1, k2]
              · exact hall.out i (by omega)
            have H1 := Lib.hid k1
            have H2 := Lib.hid k2
            clear k1 k2
            go_wp2_with (first | (go_at_call 72; refine (specIn _ _ _ _).mono ?_; (first | rw [H1.out] | rw [H2.out]); rintro e w1 ⟨rfl, rfl⟩))
            go_roundg (gk - 1)
            case rel => exact ⟨j + 1, by go_num, by omega, by omega, hall2, by (repeat (first | exact HBl.out | exact Below.refl _ _ | refine Below.drew ?_ | refine below_drewN ?_ _ | refine Below.alloc ?_ (by first | omega | (simp; done) | (simp; omega)) _ | refine bchain ?_ (by assumption) (by first | omega | (simp; done) | (simp; omega))))⟩
            case measure => omega
      · have HX := Lib.hid (HR.out.trans (allP_of fun i hi => hall.out i (by omega)))
        have HBl := Lib.hid hbel
        clear hbel
        go_wp2_with fail
        go_ret
        rw [HX.out]
        exact ⟨rfl, HBl.out⟩
theorem specAreLegs (a : Option Addr) (cap : Nat) (xs : List (Int × Int)) (w : World) (h : RdP w a xs) (hn : xs.length ≤ 1048576) :
    Calls Try.prog 16 #[.slice a xs.length cap] w fun e w' => e = .returned (.bool (lgS xs)) ∧ Below w.heap.size w w' := by
  go_enter Try.func16, Try.ntmps16
  go_wp2_with fail
  refine (reGood_any a cap xs _ h hn).mono ?_; rintro e w1 ⟨rfl, hb⟩
  go_wp2_with fail
  go_ret
  exact ⟨rfl, hb⟩
set_option maxHeartbeats 2000000 in
theorem reLong_any (a : Option Addr) (cap : Nat) (xs : List (Int × Int)) (w : World) (h : RdP w a xs) (hl : xs.length ≤ 5) (ht : ∀ i, i < xs.length → lgOk (px xs i) (py xs i) = true) :
    Calls Try.prog 51 #[.slice a xs.length cap] w fun e w' => e = .returned (.int .i64 (lgL xs xs.length)) ∧ Below w.heap.size w w' := by
  have HT := Lib.hid ht
  have hbd := Lib.hid (lgL_bd ht)
  clear ht
  go_enter Try.func51, Try.ntmps51
  go_wp2_with fail
  go_loopg [3, 8] xs.length (fun k v6 v15 wr => ∃ (j : Nat) (s : Int), v6 = .int .i64 s ∧ v15 = .int .i64 (j : Int) ∧ j + k ≤ xs.length ∧ xs.length ≤ j + k ∧ Hid (lgL xs j = s) ∧ Below w.heap.size w wr)
  case atStart => exact ⟨0, 0, rfl, rfl, by omega, by omega, rfl, Below.refl _ _⟩
  case round =>
      obtain ⟨j, s, rfl, rfl, h1, h2, hsum, hbel⟩ := hrel
      by_cases hj : j < xs.length
      · rcases h with h | ⟨b, off, rfl, hlt, hc⟩
        · rw [h] at hj; exact absurd hj (Nat.not_lt_zero _)
        · have hcj : wr.cell? ⟨b, off + j * 2, none⟩ = some (.int .i64 (px xs j)) := by rw [(bcell hbel).1 b _ hlt]; exact (hc j hj).1
          have hck : wr.cell? ⟨b, off + j * 2 + 1, none⟩ = some (.int .i64 (py xs j)) := by rw [(bcell hbel).1 b _ hlt]; exact (hc j hj).2
          have hjI : (j : Int) < (xs.length : Int) := by omega
          have HBl := Lib.hid hbel
          have hsz := hbel.size
          clear hbel hc
          have bs := hbd.out j (by omega)
          have bt := lgOk_iff.1 (HT.out j hj)
          rw [hsum.out] at bs
          have hsum2 : Hid (lgL xs (j + 1) = s + px xs j) := by unfold Hid; rw [← hsum.out]; rfl
          clear hsum
          generalize px xs j = x at *
          generalize py xs j = y at *
          go_wp2_with fail
          go_roundg (gk - 1)
          case rel => exact ⟨j + 1, s + x, by go_num, by go_num, by omega, by omega, hsum2, by (repeat (first | exact HBl.out | exact Below.refl _ _ | refine Below.drew ?_ | refine below_drewN ?_ _ | refine Below.alloc ?_ (by first | omega | (simp; done) | (simp; omega)) _ | refine bchain ?_ (by assumption) (by first | omega | (simp; done) | (simp; omega))))⟩
          case measure => omega
      · obtain rfl : j = xs.length := by omega
        have HBl := Lib.hid hbel
        have HF := Lib.hid hsum
        clear hbel hsum
        go_wp2_with fail
        go_ret
        rw [HF.out]
        exact ⟨rfl, HBl.out⟩
set_option maxHeartbeats 1000000 in
theorem specLongOfLegs (a : Option Addr) (cap : Nat) (xs : List (Int × Int)) (w : World) (h : RdP w a xs) (hn : xs.length ≤ 1048576) :
    Calls Try.prog 20 #[.slice a xs.length cap] w fun e w' => e = .returned (.tuple #[.int .i64 (ifI (lgS xs) (lgL xs xs.length)), .bool (lgS xs)]) ∧ Below w.heap.size w w' := by
  cases hs : lgS xs
  · have HS := Lib.hid hs
    clear hs
    go_enter Try.func20, Try.ntmps20
    go_wp2_with fail
    refine (reGood_any a cap xs _ h hn).mono ?_; rw [HS.out]; rintro e w1 ⟨rfl, hb⟩
    go_wp2_with fail
    go_ret2
    exact ⟨rfl, hb⟩
  · have t := lgS_at hs
    have HS := Lib.hid hs
    clear hs
    go_enter Try.func20, Try.ntmps20
    go_wp2_with fail
    refine (reGood_any a cap xs _ h hn).mono ?_; rw [HS.out]; rintro e w1 ⟨rfl, hb⟩
    go_wp2_with fail
    refine (reLong_any a cap xs _ (h.below hb) t.2.1 t.2.2).mono ?_; rintro e w2 ⟨rfl, hb2⟩
    go_wp2_with fail
    go_ret2
    exact ⟨rfl, hb.trans (hb2.mono hb.size)⟩
set_option maxHeartbeats 2000000 in
theorem reTime_any (a : Option Addr) (cap : Nat) (xs : List (Int × Int)) (w : World) (h : RdP w a xs) (hl : xs.length ≤ 5) (ht : ∀ i, i < xs.length → lgOk (px xs i) (py xs i) = true) :
    Calls Try.prog 54 #[.slice a xs.length cap] w fun e w' => e = .returned (.tuple #[.int .i64 (lgT xs xs.length).1, .int .i64 (lgT xs xs.length).2]) ∧ Below w.heap.size w w' := by
  have HT := Lib.hid ht
  have hbd := Lib.hid (fun (j : Nat) (hj : j ≤ xs.length) => lgT_num ht hl hj)
  clear ht
  go_enter Try.func54, Try.ntmps54
  go_wp2_with fail
  go_loopg [4, 5, 10] xs.length (fun k v4 v5 v12 wr => ∃ (j : Nat) (p q : Int), v4 = .int .i64 p ∧ v5 = .int .i64 q ∧ v12 = .int .i64 (j : Int) ∧ j + k ≤ xs.length ∧ xs.length ≤ j + k ∧ Hid (lgT xs j = (p, q)) ∧ Below w.heap.size w wr)
  case atStart => exact ⟨0, 0, 1, rfl, rfl, rfl, by omega, by omega, rfl, Below.refl _ _⟩
  case round =>
      obtain ⟨j, p, q, rfl, rfl, rfl, h1, h2, hsum, hbel⟩ := hrel
      by_cases hj : j < xs.length
      · rcases h with h | ⟨b, off, rfl, hlt, hc⟩
        · rw [h] at hj; exact absurd hj (Nat.not_lt_zero _)
        · have hcj : wr.cell? ⟨b, off + j * 2, none⟩ = some (.int .i64 (px xs j)) := by rw [(bcell hbel).1 b _ hlt]; exact (hc j hj).1
          have hck : wr.cell? ⟨b, off + j * 2 + 1, none⟩ = some (.int .i64 (py xs j)) := by rw [(bcell hbel).1 b _ hlt]; exact (hc j hj).2
          have hjI : (j : Int) < (xs.length : Int) := by omega
          have HBl := Lib.hid hbel
          have hsz := hbel.size
          clear hbel hc
          have bs := hbd.out j (by omega)
          have bt := lgOk_iff.1 (HT.out j hj)
          rw [hsum.out] at bs
          have hsum2 : Hid (lgT xs (j + 1) = (lwN (p * py xs j + px xs j * q) (q * py xs j), lwD (p * py xs j + px xs j * q) (q * py xs j))) := by unfold Hid; show (lwN ((lgT xs j).1 * py xs j + px xs j * (lgT xs j).2) ((lgT xs j).2 * py xs j), _) = _; rw [hsum.out]
          clear hsum
          generalize px xs j = x at *
          generalize py xs j = y at *
          have m1 := mul_bd p y 50000000000000 100 (by omega) (by omega) (by omega) (by omega)
          have m2 := mul_bd x q 1000 10000000000 (by omega) (by omega) (by omega) (by omega)
          have m3 := mul_bd q y 10000000000 100 (by omega) (by omega) (by omega) (by omega)
          have m4 := mulG_pos bs.1 bt.2.2.1
          have HL := Lib.hid (fun w => meLow_pos (p * y + x * q) (q * y) (by omega) (by omega) (by omega) (by omega) w)
          go_wp2_with (first | (go_at_call 56; refine (HL.out _).mono ?_; rintro e w1 ⟨rfl, hb⟩))
          all_goals try (go_quiet (fail); go_wp2_with fail)
          go_roundg (gk - 1)
          case rel => exact ⟨j + 1, _, _, rfl, rfl, by go_num, by omega, by omega, hsum2, by (repeat (first | exact HBl.out | exact Below.refl _ _ | refine Below.drew ?_ | refine below_drewN ?_ _ | refine Below.alloc ?_ (by first | omega | (simp; done) | (simp; omega)) _ | refine bchain ?_ (by assumption) (by first | omega | (simp; done) | (simp; omega))))⟩
          case measure => omega
      · obtain rfl : j = xs.length := by omega
        have HBl := Lib.hid hbel
        have HF := Lib.hid hsum
        clear hbel hsum
        go_wp2_with fail
        go_ret2
        rw [HF.out]
        exact ⟨rfl, HBl.out⟩
theorem px_take {xs : List (Int × Int)} {n i : Nat} (h : i < n) : px (xs.take n) i = px xs i := by
  unfold px; simp [List.getD, List.getElem?_take, h]
theorem py_take {xs : List (Int × Int)} {n i : Nat} (h : i < n) : py (xs.take n) i = py xs i := by
  unfold py; simp [List.getD, List.getElem?_take, h]
theorem lgT_take (xs : List (Int × Int)) (n : Nat) : ∀ j, j ≤ n → lgT (xs.take n) j = lgT xs j
  | 0, _ => rfl
  | j + 1, h => by
    unfold lgT
    rw [lgT_take xs n j (by omega), px_take (by omega), py_take (by omega)]
theorem lgL_take (xs : List (Int × Int)) (n : Nat) : ∀ j, j ≤ n → lgL (xs.take n) j = lgL xs j
  | 0, _ => rfl
  | j + 1, h => by
    unfold lgL
    rw [lgL_take xs n j (by omega), px_take (by omega)]
theorem RdP_take {w : World} {a : Option Addr} {xs : List (Int × Int)} (h : RdP w a xs) (n : Nat) : RdP w a (xs.take n) := by
  rcases h with h | ⟨b, off, e, hlt, hc⟩
  · exact .inl (by rw [h]; simp)
  · refine .inr ⟨b, off, e, hlt, fun i hi => ?_⟩
    rw [List.length_take] at hi
    rw [px_take (by omega), py_take (by omega)]
    exact hc i (by omega)
theorem len_take {xs : List (Int × Int)} {n : Nat} (h : n ≤ xs.length) : (xs.take n).length = n := by rw [List.length_take]; omega
theorem ok_take {xs : List (Int × Int)} (ht : ∀ i, i < xs.length → lgOk (px xs i) (py xs i) = true) (n : Nat) : ∀ i, i < (xs.take n).length → lgOk (px (xs.take n) i) (py (xs.take n) i) = true := by
  intro i hi
  rw [List.length_take] at hi
  rw [px_take (by omega), py_take (by omega)]
  exact ht i (by omega)
set_option maxHeartbeats 4000000 in
theorem specTimeOfLegs (a : Option Addr) (cap : Nat) (xs : List (Int × Int))  (w : World) (h : RdP w a xs) (hn : xs.length ≤ 1048576) :
    Calls Try.prog 22 #[.slice a xs.length cap] w fun e w' => e = .returned (.tuple #[.int .i64 (ifI (lgS xs) (lgT xs xs.length).1), .int .i64 (ifI (lgS xs) (lgT xs xs.length).2), .bool (lgS xs)]) ∧ Below w.heap.size w w' := by
  cases hs : lgS xs
  · have HS := Lib.hid hs
    clear hs
    go_enter Try.func22, Try.ntmps22
    go_wp2_with (first | (go_at_call 44; refine (reGood_any a cap xs _ h hn).mono ?_; rw [HS.out]; rintro e w1 ⟨rfl, hb⟩))
    go_ret3
    exact ⟨rfl, hb⟩
  · have t := lgS_at hs
    have HS := Lib.hid hs
    have hl := t.2.1
    have hl1 := t.1
    have HT := Lib.hid t.2.2
    clear hs t
    go_enter Try.func22, Try.ntmps22
    go_wp2_with fail
    refine (reGood_any a cap xs _ h hn).mono ?_; rw [HS.out]; rintro e w1 ⟨rfl, hb⟩
    have HB := Lib.hid hb
    have h1 := Lib.hid (h.below hb)
    clear hb
    go_wp2_with fail
    refine (reTime_any a cap xs _ h1.out hl HT.out).mono ?_; rintro e w2 ⟨rfl, hb2⟩
    have HB2 := Lib.hid (HB.out.trans (hb2.mono HB.out.size))
    have h2 := Lib.hid (h1.out.below hb2)
    clear hb2
    go_wp2_with fail
    go_ret3
    exact ⟨rfl, HB2.out⟩
set_option maxHeartbeats 4000000 in
theorem specMeanSpeed (a : Option Addr) (cap : Nat) (xs : List (Int × Int))  (w : World) (h : RdP w a xs) (hn : xs.length ≤ 1048576) :
    Calls Try.prog 24 #[.slice a xs.length cap] w fun e w' => e = .returned (.tuple #[.int .i64 (ifI (lgS xs) (lwN (lgL xs xs.length * (lgT xs xs.length).2) (lgT xs xs.length).1)), .int .i64 (ifI (lgS xs) (lwD (lgL xs xs.length * (lgT xs xs.length).2) (lgT xs xs.length).1)), .bool (lgS xs)]) ∧ Below w.heap.size w w' := by
  cases hs : lgS xs
  · have HS := Lib.hid hs
    clear hs
    go_enter Try.func24, Try.ntmps24
    go_wp2_with (first | (go_at_call 44; refine (reGood_any a cap xs _ h hn).mono ?_; rw [HS.out]; rintro e w1 ⟨rfl, hb⟩))
    go_ret3
    exact ⟨rfl, hb⟩
  · have t := lgS_at hs
    have HS := Lib.hid hs
    have hl := t.2.1
    have hl1 := t.1
    have HT := Lib.hid t.2.2
    clear hs t
    have bt := lgT_num HT.out hl (Nat.le_refl _)
    have bl := lgL_bd HT.out _ (Nat.le_refl _)
    have b1 := bt.1
    have b2 := bt.2.1
    have b4 := bt.2.2.2.1
    have b5 := bt.2.2.2.2 hl1
    have HLo := Lib.hid (fun w h => reLong_any a cap xs w h hl HT.out)
    have HTi := Lib.hid (fun w h => reTime_any a cap xs w h hl HT.out)
    clear bt
    generalize (lgT xs xs.length).1 = p at *
    generalize (lgT xs xs.length).2 = q at *
    generalize lgL xs xs.length = s at *
    have m1 := mul_bd s q 5000 10000000000 (by omega) (by omega) (by omega) (by omega)
    have HL := Lib.hid (fun w => meLow_pos (s * q) p (by omega) (by omega) (by omega) (by omega) w)
    go_enter Try.func24, Try.ntmps24
    go_wp2_with fail
    refine (reGood_any a cap xs _ h hn).mono ?_; rw [HS.out]; rintro e w1 ⟨rfl, hb⟩
    have HB := Lib.hid hb
    have h1 := Lib.hid (h.below hb)
    clear hb
    go_wp2_with fail
    refine (HTi.out _ h1.out).mono ?_; rintro e w2 ⟨rfl, hb2⟩
    have HB2 := Lib.hid (HB.out.trans (hb2.mono HB.out.size))
    have h2 := Lib.hid (h1.out.below hb2)
    clear hb2
    go_wp2_with fail
    refine (HLo.out _ h2.out).mono ?_; rintro e w3 ⟨rfl, hb3⟩
    have HB3 := Lib.hid (HB2.out.trans (hb3.mono HB2.out.size))
    clear hb3
    go_wp2_with fail
    refine (HL.out _).mono ?_; rintro e w4 ⟨rfl, hb4⟩
    have HB4 := Lib.hid (HB3.out.trans (hb4.mono HB3.out.size))
    clear hb4
    go_wp2_with fail
    go_ret3
    exact ⟨rfl, HB4.out⟩
/-- the leg that takes the most time -/
def slw (xs : List (Int × Int)) : Nat → Nat
  | 0 => 0
  | j + 1 => if px xs (slw xs j) * py xs j < px xs j * py xs (slw xs j) then j else slw xs j
theorem slw_lt {xs : List (Int × Int)} (h : 1 ≤ xs.length) : ∀ j, j ≤ xs.length → slw xs j < xs.length
  | 0, _ => by simp only [slw]; omega
  | j + 1, hj => by
    have := slw_lt h j (by omega)
    unfold slw
    split <;> omega
set_option maxHeartbeats 4000000 in
theorem specSlowestLeg (a : Option Addr) (cap : Nat) (xs : List (Int × Int))  (w : World) (h : RdP w a xs) (hn : xs.length ≤ 1048576) :
    Calls Try.prog 38 #[.slice a xs.length cap] w fun e w' => e = .returned (.tuple #[.int .i64 (ifI (lgS xs) ((slw xs xs.length : Nat) : Int)), .bool (lgS xs)]) ∧ Below w.heap.size w w' := by
  cases hs : lgS xs
  · have HS := Lib.hid hs
    clear hs
    go_enter Try.func38, Try.ntmps38
    go_wp2_with (first | (go_at_call 44; refine (reGood_any a cap xs _ h hn).mono ?_; rw [HS.out]; rintro e w1 ⟨rfl, hb⟩))
    go_ret2
    exact ⟨rfl, hb⟩
  · have t := lgS_at hs
    have HS := Lib.hid hs
    have hl := t.2.1
    have hl1 := t.1
    have HT := Lib.hid t.2.2
    clear hs t
    go_enter Try.func38, Try.ntmps38
    go_wp2_with fail
    refine (reGood_any a cap xs _ h hn).mono ?_; rw [HS.out]; rintro e w1 ⟨rfl, hb⟩
    have HB := Lib.hid hb
    have h1 := Lib.hid (h.below hb)
    clear hb
    go_wp2_with fail
    have hsl := Lib.hid (fun j hj => slw_lt (xs := xs) hl1 j hj)
    have h := h1.out
    go_loopg [4, 12] xs.length (fun k v3 v9 wr => ∃ (j q : Nat), v3 = .int .i64 (q : Int) ∧ v9 = .int .i64 (j : Int) ∧ j + k ≤ xs.length ∧ xs.length ≤ j + k ∧ Hid (slw xs j = q) ∧ Below w1.heap.size w1 wr)
    case atStart => exact ⟨0, 0, rfl, rfl, by omega, by omega, rfl, Below.refl _ _⟩
    case round =>
      obtain ⟨j, q, rfl, rfl, g1, g2, hsum, hbel⟩ := hrel
      by_cases hj : j < xs.length
      · rcases h with h | ⟨b, off, rfl, hlt, hc⟩
        · rw [h] at hj; exact absurd hj (Nat.not_lt_zero _)
        · have hcj : wr.cell? ⟨b, off + j * 2, none⟩ = some (.int .i64 (px xs j)) := by rw [(bcell hbel).1 b _ hlt]; exact (hc j hj).1
          have hck : wr.cell? ⟨b, off + j * 2 + 1, none⟩ = some (.int .i64 (py xs j)) := by rw [(bcell hbel).1 b _ hlt]; exact (hc j hj).2
          have hjI : (j : Int) < (xs.length : Int) := by omega
          have HBl := Lib.hid hbel
          have hsz := hbel.size
          have hq := hsl.out j (by omega)
          rw [hsum.out] at hq
          have hcq : wr.cell? ⟨b, off + q * 2, none⟩ = some (.int .i64 (px xs q)) := by rw [(bcell hbel).1 b _ hlt]; exact (hc q hq).1
          have hcr : wr.cell? ⟨b, off + q * 2 + 1, none⟩ = some (.int .i64 (py xs q)) := by rw [(bcell hbel).1 b _ hlt]; exact (hc q hq).2
          clear hbel hc
          have bt := lgOk_iff.1 (HT.out j hj)
          have bq := lgOk_iff.1 (HT.out q hq)
          have hqI : (q : Int) < (xs.length : Int) := by omega
          have hs1 : b < wr.heap.size := Nat.lt_of_lt_of_le hlt hsz
          have hsum2 : Hid (slw xs (j + 1) = if px xs q * py xs j < px xs j * py xs q then j else q) := by unfold Hid; show (if px xs (slw xs j) * py xs j < px xs j * py xs (slw xs j) then j else slw xs j) = _; rw [hsum.out]
          clear hsum
          generalize px xs j = x at *
          generalize py xs j = y at *
          generalize px xs q = u at *
          generalize py xs q = v at *
          have m1 := mul_bd x v 1000 100 (by omega) (by omega) (by omega) (by omega)
          have m2 := mul_bd u y 1000 100 (by omega) (by omega) (by omega) (by omega)
          have e1 : IntKind.i64.wrap (x * v) = x * v := IntWalk.i64_in _ (by omega)
          have e2 : IntKind.i64.wrap (u * y) = u * y := IntWalk.i64_in _ (by omega)
          by_cases hlt2 : u * y < x * v
          · have hE := Lib.hid (hsum2.out.trans (if_pos hlt2))
            clear hsum2
            go_wp2_with fail
            go_region_held3 (fun w' => Below w1.heap.size w1 w' ∧ wr.heap.size < w'.heap.size ∧ w'.cell? ⟨wr.heap.size, 0, none⟩ = some (.int .i64 x) ∧ w'.cell? ⟨wr.heap.size, 1, none⟩ = some (.int .i64 y) ∧ w'.cell? ⟨b, off + q * 2, none⟩ = some (.int .i64 u) ∧ w'.cell? ⟨b, off + q * 2 + 1, none⟩ = some (.int .i64 v))
              (refine ⟨?_, ?_, ?_, ?_, ?_, ?_⟩ <;> first | assumption | omega | (simp; done) | (go_simp; done) | (repeat (first | exact HBl.out | exact Below.refl _ _ | refine Below.drew ?_ | refine below_drewN ?_ _ | refine Below.alloc ?_ (by first | omega | (simp; done) | (simp; omega)) _ | refine bchain ?_ (by assumption) (by first | omega | (simp; done) | (simp; omega)))))
              (fail)
            go_wp2_with fail
            go_roundg (gk - 1)
            case rel => exact ⟨j + 1, j, by go_num, by go_num, by omega, by omega, hE, by (repeat (first | exact HBl.out | exact Below.refl _ _ | refine Below.drew ?_ | refine below_drewN ?_ _ | refine Below.alloc ?_ (by first | omega | (simp; done) | (simp; omega)) _ | refine bchain ?_ (by assumption) (by first | omega | (simp; done) | (simp; omega))))⟩
            case measure => omega
          · have hE := Lib.hid (hsum2.out.trans (if_neg hlt2))
            clear hsum2
            go_wp2_with fail
            go_region_held3 (fun w' => Below w1.heap.size w1 w' ∧ wr.heap.size < w'.heap.size ∧ w'.cell? ⟨wr.heap.size, 0, none⟩ = some (.int .i64 x) ∧ w'.cell? ⟨wr.heap.size, 1, none⟩ = some (.int .i64 y) ∧ w'.cell? ⟨b, off + q * 2, none⟩ = some (.int .i64 u) ∧ w'.cell? ⟨b, off + q * 2 + 1, none⟩ = some (.int .i64 v))
              (refine ⟨?_, ?_, ?_, ?_, ?_, ?_⟩ <;> first | assumption | omega | (simp; done) | (go_simp; done) | (repeat (first | exact HBl.out | exact Below.refl _ _ | refine Below.drew ?_ | refine below_drewN ?_ _ | refine Below.alloc ?_ (by first | omega | (simp; done) | (simp; omega)) _ | refine bchain ?_ (by assumption) (by first | omega | (simp; done) | (simp; omega)))))
              (fail)
            go_wp2_with fail
            go_roundg (gk - 1)
            case rel => exact ⟨j + 1, q, by go_num, by go_num, by omega, by omega, hE, by (repeat (first | exact HBl.out | exact Below.refl _ _ | refine Below.drew ?_ | refine below_drewN ?_ _ | refine Below.alloc ?_ (by first | omega | (simp; done) | (simp; omega)) _ | refine bchain ?_ (by assumption) (by first | omega | (simp; done) | (simp; omega))))⟩
            case measure => omega
      · obtain rfl : j = xs.length := by omega
        have HBl := Lib.hid hbel
        have HF := Lib.hid hsum
        clear hbel hsum
        go_wp2_with fail
        go_ret2
        rw [HF.out]
        exact ⟨rfl, HB.out.trans (HBl.out.mono HB.out.size)⟩
/-- the time that is left, as many parts of the time's denominator -/
def nsL (xs : List (Int × Int)) (n m : Int) : Int := (lgL xs xs.length + n) * (lgT xs xs.length).2 - (lgT xs xs.length).1 * m
set_option maxHeartbeats 4000000 in
theorem specNeededSpeed (a : Option Addr) (cap : Nat) (xs : List (Int × Int)) (n m : Int) (w : World) (h : RdP w a xs) (hn : xs.length ≤ 1048576) :
    Calls Try.prog 36 #[.slice a xs.length cap, .int .i64 n, .int .i64 m] w fun e w' => e = .returned (.tuple #[.int .i64 (ifI (lgS xs && inB n 1 1000 && inB m 1 100 && decide (0 < nsL xs n m)) (lwN (n * m * (lgT xs xs.length).2) (nsL xs n m))), .int .i64 (ifI (lgS xs && inB n 1 1000 && inB m 1 100 && decide (0 < nsL xs n m)) (lwD (n * m * (lgT xs xs.length).2) (nsL xs n m))), .bool (lgS xs && inB n 1 1000 && inB m 1 100 && decide (0 < nsL xs n m))]) ∧ Below w.heap.size w w' := by
  cases hs : lgS xs
  · have HS := Lib.hid hs
    clear hs
    go_enter Try.func36, Try.ntmps36
    go_wp2_with (first | (go_at_call 44; refine (reGood_any a cap xs _ h hn).mono ?_; rw [HS.out]; rintro e w1 ⟨rfl, hb⟩))
    go_ret3
    exact ⟨rfl, hb⟩
  · have t := lgS_at hs
    have HS := Lib.hid hs
    have hl := t.2.1
    have hl1 := t.1
    have HT := Lib.hid t.2.2
    clear hs t
    cases k1 : inB n 1 1000
    · have K1 := Lib.hid k1
      clear k1
      go_enter Try.func36, Try.ntmps36
      go_wp2_with (first | (go_at_call 44; refine (reGood_any a cap xs _ h hn).mono ?_; rw [HS.out]; rintro e w1 ⟨rfl, hb⟩) | (go_at_call_of 72 (Value.int .i64 n); refine (specIn _ _ _ _).mono ?_; rw [K1.out]; rintro e w2 ⟨rfl, rfl⟩))
      go_ret3
      exact ⟨rfl, hb⟩
    cases k2 : inB m 1 100
    · have K1 := Lib.hid k1
      have K2 := Lib.hid k2
      clear k1 k2
      go_enter Try.func36, Try.ntmps36
      go_wp2_with (first | (go_at_call 44; refine (reGood_any a cap xs _ h hn).mono ?_; rw [HS.out]; rintro e w1 ⟨rfl, hb⟩) | (go_at_call_of 72 (Value.int .i64 n); refine (specIn _ _ _ _).mono ?_; rw [K1.out]; rintro e w2 ⟨rfl, rfl⟩) | (go_at_call_of 72 (Value.int .i64 m); refine (specIn _ _ _ _).mono ?_; rw [K2.out]; rintro e w2 ⟨rfl, rfl⟩))
      go_ret3
      exact ⟨rfl, hb⟩
    have K1 := Lib.hid k1
    have K2 := Lib.hid k2
    have n1 := (inB_iff.1 k1).1
    have n2 := (inB_iff.1 k1).2
    have q1 := (inB_iff.1 k2).1
    have q2 := (inB_iff.1 k2).2
    have bt := lgT_num HT.out hl (Nat.le_refl _)
    have bl := lgL_bd HT.out _ (Nat.le_refl _)
    have b1 := bt.1
    have b2 := bt.2.1
    have b3 := bt.2.2.1
    have b4 := bt.2.2.2.1
    have HLo := Lib.hid (fun w h => reLong_any a cap xs w h hl HT.out)
    have HTi := Lib.hid (fun w h => reTime_any a cap xs w h hl HT.out)
    simp only [Bool.true_and]
    clear bt k1 k2
    have eL : nsL xs n m = (lgL xs xs.length + n) * (lgT xs xs.length).2 - (lgT xs xs.length).1 * m := rfl
    rw [eL]
    clear eL
    generalize (lgT xs xs.length).1 = p at *
    generalize (lgT xs xs.length).2 = q at *
    generalize lgL xs xs.length = s at *
    have m1 := mul_bd (s + n) q 6000 10000000000 (by omega) (by omega) (by omega) (by omega)
    have m2 := mul_bd p m 50000000000000 100 (by omega) (by omega) (by omega) (by omega)
    have m3 := mul_bd n m 1000 100 (by omega) (by omega) (by omega) (by omega)
    have m4 := mul_bd (n * m) q 100000 10000000000 (by omega) (by omega) (by omega) (by omega)
    by_cases hx : 0 < (s + n) * q - p * m
    · have HL := Lib.hid (fun w => meLow_pos (n * m * q) ((s + n) * q - p * m) (by omega) (by omega) (by omega) (by omega) w)
      rw [decide_eq_true hx]
      go_enter Try.func36, Try.ntmps36
      go_wp2_with (first | (go_at_call 44; refine (reGood_any a cap xs _ h hn).mono ?_; rw [HS.out]; rintro e w1 ⟨rfl, hb⟩) | (go_at_call_of 72 (Value.int .i64 n); refine (specIn _ _ _ _).mono ?_; rw [K1.out]; rintro e w2 ⟨rfl, rfl⟩) | (go_at_call_of 72 (Value.int .i64 m); refine (specIn _ _ _ _).mono ?_; rw [K2.out]; rintro e w2 ⟨rfl, rfl⟩))
      have HB := Lib.hid hb
      have h1 := Lib.hid (h.below hb)
      clear hb
      refine (HTi.out _ h1.out).mono ?_; rintro e w2 ⟨rfl, hb2⟩
      have HB2 := Lib.hid (HB.out.trans (hb2.mono HB.out.size))
      have h2 := Lib.hid (h1.out.below hb2)
      clear hb2
      go_wp2_with fail
      refine (HLo.out _ h2.out).mono ?_; rintro e w3 ⟨rfl, hb3⟩
      have HB3 := Lib.hid (HB2.out.trans (hb3.mono HB2.out.size))
      clear hb3
      go_wp2_with fail
      refine (HL.out _).mono ?_; rintro e w4 ⟨rfl, hb4⟩
      have HB4 := Lib.hid (HB3.out.trans (hb4.mono HB3.out.size))
      clear hb4
      go_wp2_with fail
      go_ret3
      exact ⟨rfl, HB4.out⟩
    · rw [decide_eq_false hx]
      go_enter Try.func36, Try.ntmps36
      go_wp2_with (first | (go_at_call 44; refine (reGood_any a cap xs _ h hn).mono ?_; rw [HS.out]; rintro e w1 ⟨rfl, hb⟩) | (go_at_call_of 72 (Value.int .i64 n); refine (specIn _ _ _ _).mono ?_; rw [K1.out]; rintro e w2 ⟨rfl, rfl⟩) | (go_at_call_of 72 (Value.int .i64 m); refine (specIn _ _ _ _).mono ?_; rw [K2.out]; rintro e w2 ⟨rfl, rfl⟩))
      have HB := Lib.hid hb
      have h1 := Lib.hid (h.below hb)
      clear hb
      refine (HTi.out _ h1.out).mono ?_; rintro e w2 ⟨rfl, hb2⟩
      have HB2 := Lib.hid (HB.out.trans (hb2.mono HB.out.size))
      have h2 := Lib.hid (h1.out.below hb2)
      clear hb2
      go_wp2_with fail
      refine (HLo.out _ h2.out).mono ?_; rintro e w3 ⟨rfl, hb3⟩
      have HB3 := Lib.hid (HB2.out.trans (hb3.mono HB2.out.size))
      clear hb3
      go_wp2_with fail
      go_ret3
      exact ⟨rfl, HB3.out⟩
/-- how many legs are behind one, from the leg n on, among k more -/
def lgOn (xs : List (Int × Int)) (u v : Int) : Nat → Nat → Nat
  | 0, n => n
  | k + 1, n => if u * (lgT xs (n + 1)).2 < (lgT xs (n + 1)).1 * v then n else lgOn xs u v k (n + 1)
theorem lgOn_le (xs : List (Int × Int)) (u v : Int) : ∀ k n, lgOn xs u v k n ≤ k + n
  | 0, n => by simp [lgOn]
  | k + 1, n => by
    have := lgOn_le xs u v k (n + 1)
    unfold lgOn
    split <;> omega
set_option maxHeartbeats 4000000 in
theorem reOn_any (a : Option Addr) (cap : Nat) (xs : List (Int × Int)) (u v : Int) (w : World) (h : RdP w a xs) (hl : xs.length ≤ 5) (ht : ∀ i, i < xs.length → lgOk (px xs i) (py xs i) = true) (u1 : 0 ≤ u) (u2 : u ≤ 100000) (v1 : 1 ≤ v) (v2 : v ≤ 1000) (hcap : xs.length ≤ cap) :
    Calls Try.prog 64 #[.slice a xs.length cap, .int .i64 u, .int .i64 v] w fun e w' => e = .returned (.int .i64 ((lgOn xs u v xs.length 0 : Nat) : Int)) ∧ Below w.heap.size w w' := by
  have HT := Lib.hid ht
  have hbd := Lib.hid (fun (j : Nat) (hj : j ≤ xs.length) => lgT_num ht hl hj)
  have h0 := Lib.hid h
  clear ht
  go_enter Try.func64, Try.ntmps64
  go_wp2_with fail
  go_loopg [7] xs.length (fun k v5 wr => ∃ (j : Nat), v5 = .int .i64 (j : Int) ∧ j + k ≤ xs.length ∧ xs.length ≤ j + k ∧ Hid (lgOn xs u v k j = lgOn xs u v xs.length 0) ∧ Below w.heap.size w wr)
  case atStart => exact ⟨0, rfl, by omega, by omega, rfl, Below.refl _ _⟩
  case round =>
    obtain ⟨j, rfl, g1, g2, hon, hbel⟩ := hrel
    by_cases hj : j < xs.length
    · obtain ⟨k', rfl⟩ : ∃ k', gk = k' + 1 := ⟨gk - 1, by omega⟩
      have hjI : (j : Int) < (xs.length : Int) := by omega
      have HBl := Lib.hid hbel
      have hsz := hbel.size
      have el := len_take (xs := xs) (n := j + 1) (by omega)
      have HTk := reTime_any a cap (xs.take (j + 1)) wr (RdP_take (h0.out.below hbel) (j + 1)) (by omega) (ok_take HT.out (j + 1))
      rw [el, lgT_take xs (j + 1) (j + 1) (Nat.le_refl _)] at HTk
      have HR := Lib.hid HTk
      clear HTk el hbel h
      have bs := hbd.out (j + 1) (by omega)
      have hon2 : Hid ((if u * (lgT xs (j + 1)).2 < (lgT xs (j + 1)).1 * v then j else lgOn xs u v k' (j + 1)) = lgOn xs u v xs.length 0) := hon.out
      clear hon
      have b1 := bs.1
      have b2 := bs.2.1
      have b3 := bs.2.2.1
      have b4 := bs.2.2.2.1
      clear bs
      generalize (lgT xs (j + 1)).1 = p at *
      generalize (lgT xs (j + 1)).2 = q at *
      have m1 := mul_bd u q 100000 10000000000 (by omega) (by omega) (by omega) (by omega)
      have m2 := mul_bd p v 50000000000000 1000 (by omega) (by omega) (by omega) (by omega)
      by_cases hlt : u * q < p * v
      · have HE := Lib.hid ((if_pos hlt).symm.trans hon2.out)
        clear hon2
        go_wp2_with (first | (go_at_call 54; refine HR.out.mono ?_; rintro e w1 ⟨rfl, hb⟩))
        go_ret
        rw [← HE.out]
        exact ⟨rfl, by (repeat (first | exact HBl.out | exact Below.refl _ _ | refine Below.drew ?_ | refine below_drewN ?_ _ | refine Below.alloc ?_ (by first | omega | (simp; done) | (simp; omega)) _ | refine bchain ?_ (by assumption) (by first | omega | (simp; done) | (simp; omega))))⟩
      · have HE := Lib.hid ((if_neg hlt).symm.trans hon2.out)
        clear hon2
        go_wp2_with (first | (go_at_call 54; refine HR.out.mono ?_; rintro e w1 ⟨rfl, hb⟩))
        go_roundg k'
        case rel => exact ⟨j + 1, by go_num, by omega, by omega, HE.out, by (repeat (first | exact HBl.out | exact Below.refl _ _ | refine Below.drew ?_ | refine below_drewN ?_ _ | refine Below.alloc ?_ (by first | omega | (simp; done) | (simp; omega)) _ | refine bchain ?_ (by assumption) (by first | omega | (simp; done) | (simp; omega))))⟩
        case measure => omega
    · obtain rfl : gk = 0 := by omega
      have HBl := Lib.hid hbel
      have HE := Lib.hid (show j = lgOn xs u v xs.length 0 from hon.out)
      clear hbel hon
      go_wp2_with fail
      go_ret
      rw [← HE.out]
      exact ⟨rfl, HBl.out⟩
def mnG (a b : Int) : Int := if a ≤ b then a else b
set_option maxHeartbeats 1000000 in
theorem leastG_any (a b : Int) (w : World) :
    Calls Try.prog 71 #[.int .i64 a, .int .i64 b] w fun e w' => e = .returned (.int .i64 (mnG a b)) ∧ w = w' := by
  go_enter Try.func71, Try.ntmps71
  go_wp2
  all_goals (go_ret; refine ⟨rI ?_, rfl⟩)
  all_goals (unfold mnG; (repeat' split) <;> omega)
set_option maxHeartbeats 4000000 in
theorem specLegAt (a : Option Addr) (cap : Nat) (xs : List (Int × Int)) (u v : Int) (w : World) (h : RdP w a xs) (hn : xs.length ≤ 1048576) (hcap : xs.length ≤ cap) :
    Calls Try.prog 34 #[.slice a xs.length cap, .int .i64 u, .int .i64 v] w fun e w' => e = .returned (.tuple #[.int .i64 (ifI (lgS xs && gmOk u v) (mnG ((lgOn xs u v xs.length 0 : Nat) : Int) ((xs.length : Int) - 1))), .bool (lgS xs && gmOk u v)]) ∧ Below w.heap.size w w' := by
  cases hs : lgS xs
  · have HS := Lib.hid hs
    clear hs
    go_enter Try.func34, Try.ntmps34
    go_wp2_with (first | (go_at_call 44; refine (reGood_any a cap xs _ h hn).mono ?_; rw [HS.out]; rintro e w1 ⟨rfl, hb⟩))
    go_ret2
    exact ⟨rfl, hb⟩
  · have t := lgS_at hs
    have HS := Lib.hid hs
    have hl := t.2.1
    have hl1 := t.1
    have HT := Lib.hid t.2.2
    clear hs t
    cases k1 : gmOk u v
    · have M1 := Lib.hid k1
      clear k1
      go_enter Try.func34, Try.ntmps34
      go_wp2_with (first | (go_at_call 44; refine (reGood_any a cap xs _ h hn).mono ?_; rw [HS.out]; rintro e w1 ⟨rfl, hb⟩) | (go_at_call 63; refine (reMoment_any _ _ _).mono ?_; rw [M1.out]; rintro e w2 ⟨rfl, rfl⟩))
      go_ret2
      exact ⟨rfl, hb⟩
    have M1 := Lib.hid k1
    have gm := gmOk_iff.1 k1
    have u1 := gm.1
    have u2 := gm.2.1
    have v1 := gm.2.2.1
    have v2 := gm.2.2.2
    simp only [Bool.true_and]
    clear gm k1
    have HO := Lib.hid (fun w h => reOn_any a cap xs u v w h hl HT.out u1 u2 v1 v2 hcap)
    have hle := lgOn_le xs u v xs.length 0
    generalize lgOn xs u v xs.length 0 = q at *
    go_enter Try.func34, Try.ntmps34
    go_wp2_with (first | (go_at_call 44; refine (reGood_any a cap xs _ h hn).mono ?_; rw [HS.out]; rintro e w1 ⟨rfl, hb⟩) | (go_at_call 63; refine (reMoment_any _ _ _).mono ?_; rw [M1.out]; rintro e w2 ⟨rfl, rfl⟩))
    have HB := Lib.hid hb
    have h1 := Lib.hid (h.below hb)
    clear hb
    refine (HO.out _ h1.out).mono ?_; rintro e w3 ⟨rfl, hb3⟩
    have HB3 := Lib.hid (HB.out.trans (hb3.mono HB.out.size))
    clear hb3
    go_wp2_with (first | (go_at_call 71; refine (leastG_any _ _ _).mono ?_; rintro e w4 ⟨rfl, rfl⟩))
    go_ret2
    exact ⟨rfl, HB3.out⟩
/-- what is left of the time on the leg n, as a fraction -/
def plA (xs : List (Int × Int)) (u v : Int) (n : Nat) : Int := lwN (u * (lgT xs n).2 - (lgT xs n).1 * v) (v * (lgT xs n).2)
def plB (xs : List (Int × Int)) (u v : Int) (n : Nat) : Int := lwD (u * (lgT xs n).2 - (lgT xs n).1 * v) (v * (lgT xs n).2)
def plcN (xs : List (Int × Int)) (u v : Int) (n : Nat) : Int := if n = xs.length then lgL xs xs.length else lwN (lgL xs n * plB xs u v n + py xs n * plA xs u v n) (plB xs u v n)
def plcD (xs : List (Int × Int)) (u v : Int) (n : Nat) : Int := if n = xs.length then 1 else lwD (lgL xs n * plB xs u v n + py xs n * plA xs u v n) (plB xs u v n)
theorem lgOn_ok (xs : List (Int × Int)) (u v : Int) : ∀ k n, (lgT xs n).1 * v ≤ u * (lgT xs n).2 → (lgT xs (lgOn xs u v k n)).1 * v ≤ u * (lgT xs (lgOn xs u v k n)).2
  | 0, n, h => h
  | k + 1, n, h => by
    unfold lgOn
    split
    · exact h
    · exact lgOn_ok xs u v k (n + 1) (by omega)
set_option maxHeartbeats 4000000 in
theorem specPlaceOnLegs (a : Option Addr) (cap : Nat) (xs : List (Int × Int)) (u v : Int) (w : World) (h : RdP w a xs) (hn : xs.length ≤ 1048576) (hcap : xs.length ≤ cap) :
    Calls Try.prog 32 #[.slice a xs.length cap, .int .i64 u, .int .i64 v] w fun e w' => e = .returned (.tuple #[.int .i64 (ifI (lgS xs && gmOk u v) (plcN xs u v (lgOn xs u v xs.length 0))), .int .i64 (ifI (lgS xs && gmOk u v) (plcD xs u v (lgOn xs u v xs.length 0))), .bool (lgS xs && gmOk u v)]) ∧ Below w.heap.size w w' := by
  cases hs : lgS xs
  · have HS := Lib.hid hs
    clear hs
    go_enter Try.func32, Try.ntmps32
    go_wp2_with (first | (go_at_call 44; refine (reGood_any a cap xs _ h hn).mono ?_; rw [HS.out]; rintro e w1 ⟨rfl, hb⟩))
    go_ret3
    exact ⟨rfl, hb⟩
  · have t := lgS_at hs
    have HS := Lib.hid hs
    have hl := t.2.1
    have hl1 := t.1
    have HT := Lib.hid t.2.2
    clear hs t
    cases k1 : gmOk u v
    · have M1 := Lib.hid k1
      clear k1
      go_enter Try.func32, Try.ntmps32
      go_wp2_with (first | (go_at_call 44; refine (reGood_any a cap xs _ h hn).mono ?_; rw [HS.out]; rintro e w1 ⟨rfl, hb⟩) | (go_at_call 63; refine (reMoment_any _ _ _).mono ?_; rw [M1.out]; rintro e w2 ⟨rfl, rfl⟩))
      go_ret3
      exact ⟨rfl, hb⟩
    have M1 := Lib.hid k1
    have gm := gmOk_iff.1 k1
    have u1 := gm.1
    have u2 := gm.2.1
    have v1 := gm.2.2.1
    have v2 := gm.2.2.2
    simp only [Bool.true_and]
    clear gm k1
    have HO := Lib.hid (fun w h => reOn_any a cap xs u v w h hl HT.out u1 u2 v1 v2 hcap)
    have hle := lgOn_le xs u v xs.length 0
    have hok := lgOn_ok xs u v xs.length 0 (by show (0 : Int) * v ≤ u * 1; omega)
    generalize lgOn xs u v xs.length 0 = n at *
    have hn2 : n ≤ xs.length := by omega
    by_cases hx : n = xs.length
    · have eN : plcN xs u v n = lgL xs xs.length := by unfold plcN; rw [if_pos hx]
      have eD : plcD xs u v n = 1 := by unfold plcD; rw [if_pos hx]
      rw [eN, eD]
      clear eN eD hok
      have hxI : (n : Int) = (xs.length : Int) := by omega
      have HLo := Lib.hid (fun w h => reLong_any a cap xs w h hl HT.out)
      generalize lgL xs xs.length = s at *
      go_enter Try.func32, Try.ntmps32
      go_wp2_with (first | (go_at_call 44; refine (reGood_any a cap xs _ h hn).mono ?_; rw [HS.out]; rintro e w1 ⟨rfl, hb⟩) | (go_at_call 63; refine (reMoment_any _ _ _).mono ?_; rw [M1.out]; rintro e w2 ⟨rfl, rfl⟩))
      have HB := Lib.hid hb
      have h1 := Lib.hid (h.below hb)
      clear hb
      refine (HO.out _ h1.out).mono ?_; rintro e w3 ⟨rfl, hb3⟩
      have HB3 := Lib.hid (HB.out.trans (hb3.mono HB.out.size))
      have h3 := Lib.hid (h1.out.below hb3)
      clear hb3
      subst hx
      go_wp2_with fail
      refine (HLo.out _ h3.out).mono ?_; rintro e w4 ⟨rfl, hb4⟩
      have HB4 := Lib.hid (HB3.out.trans (hb4.mono HB3.out.size))
      clear hb4
      go_wp2_with fail
      go_ret3
      exact ⟨rfl, HB4.out⟩
    · have hnl : n < xs.length := by omega
      have eN : plcN xs u v n = lwN (lgL xs n * plB xs u v n + py xs n * plA xs u v n) (plB xs u v n) := by unfold plcN; rw [if_neg hx]
      have eD : plcD xs u v n = lwD (lgL xs n * plB xs u v n + py xs n * plA xs u v n) (plB xs u v n) := by unfold plcD; rw [if_neg hx]
      rw [eN, eD]
      clear eN eD
      have hnI : (n : Int) < (xs.length : Int) := by omega
      have hne : ((n : Int) == (xs.length : Int)) = false := by rw [beq_eq_false_iff_ne]; omega
      have el := len_take (xs := xs) (n := n) hn2
      have bt := lgT_num HT.out hl hn2
      have bl := lgL_bd HT.out n hn2
      have bq := lgOk_iff.1 (HT.out n hnl)
      have HTk := Lib.hid (fun w (h : RdP w a xs) => by have := reTime_any a cap (xs.take n) w (RdP_take h n) (by omega) (ok_take HT.out n); rw [el, lgT_take xs n n (Nat.le_refl _)] at this; exact this)
      have HLk := Lib.hid (fun w (h : RdP w a xs) => by have := reLong_any a cap (xs.take n) w (RdP_take h n) (by omega) (ok_take HT.out n); rw [el, lgL_take xs n n (Nat.le_refl _)] at this; exact this)
      have b1 := bt.1
      have b2 := bt.2.1
      have b3 := bt.2.2.1
      have b4 := bt.2.2.2.1
      unfold plA plB
      clear el bt
      generalize (lgT xs n).1 = p at *
      generalize (lgT xs n).2 = q at *
      generalize lgL xs n = s at *
      have m1 := mul_bd u q 100000 10000000000 (by omega) (by omega) (by omega) (by omega)
      have m2 := mul_bd p v 50000000000000 1000 (by omega) (by omega) (by omega) (by omega)
      have m3 := mul_bd v q 1000 10000000000 (by omega) (by omega) (by omega) (by omega)
      have m4 := mulG_pos v1 b1
      have x1 := lwN_bd (a := u * q - p * v) (b := v * q) (B := 1000000000000000) (by omega) (by omega) (by omega)
      have x2 := lwD_pos (a := u * q - p * v) (b := v * q) (by omega)
      have HL1 := Lib.hid (fun w => meLow_pos (u * q - p * v) (v * q) (by omega) (by omega) (by omega) (by omega) w)
      generalize lwN (u * q - p * v) (v * q) = aN at *
      generalize lwD (u * q - p * v) (v * q) = aD at *
      have m5 := mul_bd s aD 5000 10000000000000 (by omega) (by omega) (by omega) (by omega)
      have m6 := mul_ab (py xs n) aN 100 1000000000000000 (by omega) (by omega) (by omega) (by omega)
      have HL2 := Lib.hid (fun w => meLow_pos (s * aD + py xs n * aN) aD (by omega) (by omega) (by omega) (by omega) w)
      have i1 : IntKind.i64.wrap (s * aD) = s * aD := IntWalk.i64_in _ (by omega)
      have i2 : IntKind.i64.wrap (py xs n * aN) = py xs n * aN := IntWalk.i64_in _ (by omega)
      have i3 : IntKind.i64.wrap (s * aD + py xs n * aN) = s * aD + py xs n * aN := IntWalk.i64_in _ (by omega)
      have hnc : n ≤ cap := by omega
      clear bq
      generalize hyv : py xs n = yv at *
      have HY := Lib.hid hyv
      clear hyv
      go_enter Try.func32, Try.ntmps32
      go_wp2_with (first | (go_at_call 44; refine (reGood_any a cap xs _ h hn).mono ?_; rw [HS.out]; rintro e w1 ⟨rfl, hb⟩) | (go_at_call 63; refine (reMoment_any _ _ _).mono ?_; rw [M1.out]; rintro e w2 ⟨rfl, rfl⟩))
      have HB := Lib.hid hb
      have h1 := Lib.hid (h.below hb)
      clear hb
      refine (HO.out _ h1.out).mono ?_; rintro e w3 ⟨rfl, hb3⟩
      have HB3 := Lib.hid (HB.out.trans (hb3.mono HB.out.size))
      have h3 := Lib.hid (h1.out.below hb3)
      clear hb3
      go_wp2_with fail
      refine (HTk.out _ h3.out).mono ?_; rintro e w4 ⟨rfl, hb4⟩
      have HB4 := Lib.hid (HB3.out.trans (hb4.mono HB3.out.size))
      have h4 := Lib.hid (h3.out.below hb4)
      clear hb4
      go_wp2_with fail
      refine (HL1.out _).mono ?_; rintro e w5 ⟨rfl, hb5⟩
      have HB5 := Lib.hid (HB4.out.trans (hb5.mono HB4.out.size))
      have h5 := Lib.hid (h4.out.below hb5)
      clear hb5
      obtain ⟨b, off, rfl, hlt, hcl⟩ : ∃ b off, a = some ⟨b, off, none⟩ ∧ b < w5.heap.size ∧ w5.cell? ⟨b, off + n * 2 + 1, none⟩ = some (.int .i64 yv) := by
        rcases h5.out with e | ⟨b, off, e, e2, e3⟩
        · rw [e] at hnl; exact absurd hnl (Nat.not_lt_zero _)
        · exact ⟨b, off, e, e2, by rw [← HY.out]; exact (e3 n hnl).2⟩
      go_wp2_with fail
      go_region_held3 (fun w' => Below w5.heap.size w5 w' ∧ w'.cell? ⟨b, off + n * 2 + 1, none⟩ = some (.int .i64 yv))
        (refine ⟨?_, ?_⟩ <;> first | assumption | (go_simp; done) | (repeat (first | exact Below.refl _ _ | refine Below.drew ?_ | refine below_drewN ?_ _ | refine bchain ?_ (by assumption) (by first | omega | (simp; done) | (simp; omega)))))
        (first | (go_at_call 51; refine (HLk.out _ (h5.out.below (by first | exact (Below.refl _ _).drew | exact Below.refl _ _ | exact And.left (by assumption)))).mono ?_; rintro e w6 ⟨rfl, hb6⟩; have z6 := hb6.size; (try simp only [World.size_drew] at z6); have q6 := fun o => (bcell hb6).1 b o (by first | assumption | omega | (simp; omega))) | (go_at_call 56; refine (HL2.out _).mono ?_; rintro e w7 ⟨rfl, hb7⟩; have z7 := hb7.size; (try simp only [World.size_drew] at z7); have q7 := fun o => (bcell hb7).1 b o (by first | assumption | omega | (simp; omega))))
      all_goals (rename_i hHeld; go_wp2_with fail)
      all_goals go_ret3
      all_goals exact ⟨rfl, HB5.out.trans (hHeld.1.mono HB5.out.size)⟩
end Go.Proofs.Ytjgicbfgbcihoaa
