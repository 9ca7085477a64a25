/- Chapter 6's program: ways, times and means of legs, by contracts. -/
import Derived.Test.YtjgicbfgbcihoaaLegSum
import Derived.Test.YtjgicbfgbcihoaaLegMean
import Derived.Test.YtjgicbfgbcihoaaLegHalf
import Derived.WalkKit
import Derived.WalkSpells
import Derived.WalkLawsBesides
import Derived.Lib.Hide
import Derived.Deep.LoopGhost
import Derived.Deep.QuietTactic
import Derived.Deep.RegionWith
import Derived.Deep.RegionHeld3
import Derived.BigQuiet
import Derived.Shelf.Abstract
namespace Go.Proofs.Ytjgicbfgbcihoaa
open Go.RowKit
set_option linter.unusedVariables false
set_option linter.unusedSimpArgs false
theorem fld0 (a b : Int) (w : World) : (Instr.field 56 (.agg #[.int .i64 a, .int .i64 b]) 0).run Try.prog w = .ok (.int .i64 a) w := by
  have e : ∀ (xs : Array Value) (w : World), (asAgg (.agg xs)).run Try.prog w = .ok xs w := fun _ _ => rfl
  simp [Instr.field, go_sem, e]
theorem fld1 (a b : Int) (w : World) : (Instr.field 56 (.agg #[.int .i64 a, .int .i64 b]) 1).run Try.prog w = .ok (.int .i64 b) w := by
  have e : ∀ (xs : Array Value) (w : World), (asAgg (.agg xs)).run Try.prog w = .ok xs w := fun _ _ => rfl
  simp [Instr.field, go_sem, e]
theorem timB {xs : List (Int × Int)} (ht : ∀ i, i < xs.length → lgOk (px xs i) (py xs i) = true) : ∀ i, i < xs.length → 0 ≤ (timF (px xs i) (py xs i)).1 ∧ (timF (px xs i) (py xs i)).1 ≤ 1000 ∧ 1 ≤ (timF (px xs i) (py xs i)).2 ∧ (timF (px xs i) (py xs i)).2 ≤ 100 := fun i hi => by
  have b := timF_bd (ht i hi); omega
theorem wayB {xs : List (Int × Int)} (ht : ∀ i, i < xs.length → lgOk (px xs i) (py xs i) = true) : ∀ i, i < xs.length → 0 ≤ (wayF (px xs i) (py xs i)).1 ∧ (wayF (px xs i) (py xs i)).1 ≤ 1000 ∧ 1 ≤ (wayF (px xs i) (py xs i)).2 ∧ (wayF (px xs i) (py xs i)).2 ≤ 100 := fun i hi => by
  have b := lgOk_iff.1 (ht i hi)
  show 0 ≤ px xs i ∧ px xs i ≤ 1000 ∧ (1 : Int) ≤ 1 ∧ (1 : Int) ≤ 100
  omega
theorem sumW_any (B : Nat) (a : Option Addr) (cap : Nat) (xs : List (Int × Int)) (w : World) (h : RdP w a xs) (hl : xs.length ≤ 5) (ht : ∀ i, i < xs.length → lgOk (px xs i) (py xs i) = true) (hcl : w.cell? ⟨B, 0, none⟩ = some (.func (.func 53) #[] #[])) (hB : B < w.heap.size) :
    Calls Try.prog 74 #[.slice a xs.length cap, .pointer (some ⟨B, 0, none⟩)] w fun e w' => e = .returned (.agg #[.int .i64 (lgL xs xs.length), .int .i64 1]) ∧ Below w.heap.size w w' := by
  have H := sumPart_any 53 #[] wayF B a cap xs w h hl hcl hB (enters_of Try.func53 (by kernel_rfl) rfl) (fun i hi W => legWay_any (px xs i) (py xs i) W) (smW_bd ht hl) (wayB ht)
  rw [sm_way] at H
  exact H
theorem sumT_any (B : Nat) (a : Option Addr) (cap : Nat) (xs : List (Int × Int)) (w : World) (h : RdP w a xs) (hl : xs.length ≤ 5) (ht : ∀ i, i < xs.length → lgOk (px xs i) (py xs i) = true) (hcl : w.cell? ⟨B, 0, none⟩ = some (.func (.func 55) #[] #[])) (hB : B < w.heap.size) :
    Calls Try.prog 74 #[.slice a xs.length cap, .pointer (some ⟨B, 0, none⟩)] w fun e w' => e = .returned (.agg #[.int .i64 (lgT xs xs.length).1, .int .i64 (lgT xs xs.length).2]) ∧ Below w.heap.size w w' := by
  have H := sumPart_any 55 #[] timF B a cap xs w h hl hcl hB (enters_of Try.func55 (by kernel_rfl) rfl) (fun i hi W => legTime_any (px xs i) (py xs i) (ht i hi) W) (smT_bd ht hl) (timB ht)
  rw [sm_time ht _ (Nat.le_refl _)] at H
  exact H
/-- the same over the first n legs -/
theorem sumTk_any (n : Nat) (B : Nat) (a : Option Addr) (cap : Nat) (xs : List (Int × Int)) (w : World) (h : RdP w a xs) (hl : xs.length ≤ 5) (hn : n ≤ xs.length) (ht : ∀ i, i < xs.length → lgOk (px xs i) (py xs i) = true) (hcl : w.cell? ⟨B, 0, none⟩ = some (.func (.func 55) #[] #[])) (hB : B < w.heap.size) :
    Calls Try.prog 74 #[.slice a n cap, .pointer (some ⟨B, 0, none⟩)] w fun e w' => e = .returned (.agg #[.int .i64 (lgT xs n).1, .int .i64 (lgT xs n).2]) ∧ Below w.heap.size w w' := by
  have el := len_take (xs := xs) (n := n) hn
  have H := sumT_any B a cap (xs.take n) w (RdP_take h n) (by omega) (ok_take ht n) hcl hB
  rw [el, lgT_take xs n n (Nat.le_refl _)] at H
  exact H
theorem sumWk_any (n : Nat) (B : Nat) (a : Option Addr) (cap : Nat) (xs : List (Int × Int)) (w : World) (h : RdP w a xs) (hl : xs.length ≤ 5) (hn : n ≤ xs.length) (ht : ∀ i, i < xs.length → lgOk (px xs i) (py xs i) = true) (hcl : w.cell? ⟨B, 0, none⟩ = some (.func (.func 53) #[] #[])) (hB : B < w.heap.size) :
    Calls Try.prog 74 #[.slice a n cap, .pointer (some ⟨B, 0, none⟩)] w fun e w' => e = .returned (.agg #[.int .i64 (lgL xs n), .int .i64 1]) ∧ Below w.heap.size w w' := by
  have el := len_take (xs := xs) (n := n) hn
  have H := sumW_any B a cap (xs.take n) w (RdP_take h n) (by omega) (ok_take ht n) hcl hB
  rw [el, lgL_take xs n n (Nat.le_refl _)] at H
  exact H
set_option maxHeartbeats 2000000 in
theorem implLongOfLegs (a : Option Addr) (cap : Nat) (xs : List (Int × Int)) (w : World) (h : RdP w a xs) (hn : xs.length ≤ 1048576) :
    Calls Try.prog 21 #[.slice a xs.length cap] w fun e w' => e = .returned (.tuple #[.int .i64 (ifI (lgS xs) (lgL xs xs.length)), .bool (lgS xs)]) ∧ Below w.heap.size w w' := by
  cases hs : lgS xs
  · have HS := Lib.hid hs
    clear hs
    go_enter Try.func21, Try.ntmps21
    go_wp2_with (first | (go_at_call 18; refine (implAreLegs a cap xs _ h hn).mono ?_; rw [HS.out]; rintro e w1 ⟨rfl, hb⟩))
    go_ret2
    exact ⟨rfl, hb⟩
  · have t := lgS_at hs
    have HS := Lib.hid hs
    have hl := t.2.1
    have hl1 := t.1
    have HT := Lib.hid t.2.2
    clear hs t
    go_enter Try.func21, Try.ntmps21
    go_wp2_with (first | (go_at_call 18; refine (implAreLegs a cap xs _ h hn).mono ?_; rw [HS.out]; rintro e w1 ⟨rfl, hb⟩))
    have B0 := Lib.hid hb
    clear hb
    refine (sumOver_any 53 #[] _).mono ?_; rintro e s1 ⟨rfl, hs1, hz1, hc1⟩
    have B1 := Lib.hid (B0.out.trans (hs1.mono B0.out.size))
    have h1 := Lib.hid (h.below B1.out)
    clear hs1
    go_wp2_with fail
    refine (sumW_any _ a cap xs _ h1.out hl HT.out hc1 hz1).mono ?_; rintro e s2 ⟨rfl, hs2⟩
    have B2 := Lib.hid (B1.out.trans (hs2.mono B1.out.size))
    have y2 := B2.out.size
    clear hs2 hc1
    have hfl := fun w => fld0 (lgL xs xs.length) 1 w
    go_wp2_with (simp only [hfl])
    go_ret2
    exact ⟨rfl, B2.out⟩
set_option maxHeartbeats 2000000 in
theorem implTimeOfLegs (a : Option Addr) (cap : Nat) (xs : List (Int × Int))  (w : World) (h : RdP w a xs) (hn : xs.length ≤ 1048576) :
    Calls Try.prog 23 #[.slice a xs.length cap] w fun e w' => e = .returned (.tuple #[.int .i64 (ifI (lgS xs) (lgT xs xs.length).1), .int .i64 (ifI (lgS xs) (lgT xs xs.length).2), .bool (lgS xs)]) ∧ Below w.heap.size w w' := by
  cases hs : lgS xs
  · have HS := Lib.hid hs
    clear hs
    go_enter Try.func23, Try.ntmps23
    go_wp2_with (first | (go_at_call 18; refine (implAreLegs a cap xs _ h hn).mono ?_; rw [HS.out]; rintro e w1 ⟨rfl, hb⟩))
    go_ret3
    exact ⟨rfl, hb⟩
  · have t := lgS_at hs
    have HS := Lib.hid hs
    have hl := t.2.1
    have hl1 := t.1
    have HT := Lib.hid t.2.2
    clear hs t
    go_enter Try.func23, Try.ntmps23
    go_wp2_with (first | (go_at_call 18; refine (implAreLegs a cap xs _ h hn).mono ?_; rw [HS.out]; rintro e w1 ⟨rfl, hb⟩))
    have B0 := Lib.hid hb
    clear hb
    refine (sumOver_any 55 #[] _).mono ?_; rintro e s1 ⟨rfl, hs1, hz1, hc1⟩
    have B1 := Lib.hid (B0.out.trans (hs1.mono B0.out.size))
    have h1 := Lib.hid (h.below B1.out)
    clear hs1
    go_wp2_with fail
    refine (sumT_any _ a cap xs _ h1.out hl HT.out hc1 hz1).mono ?_; rintro e s2 ⟨rfl, hs2⟩
    have B2 := Lib.hid (B1.out.trans (hs2.mono B1.out.size))
    have y2 := B2.out.size
    clear hs2 hc1
    go_wp2_with fail
    all_goals try (go_quiet (fail); go_wp2_with fail)
    go_ret3
    exact ⟨rfl, by first | exact below_drewN (B2.out.alloc (by omega) _) _ | exact (B2.out.alloc (by omega) _).drew | exact B2.out.alloc (by omega) _⟩
set_option maxHeartbeats 2000000 in
theorem implMeanSpeed (a : Option Addr) (cap : Nat) (xs : List (Int × Int))  (w : World) (h : RdP w a xs) (hn : xs.length ≤ 1048576) :
    Calls Try.prog 25 #[.slice a xs.length cap] w fun e w' => e = .returned (.tuple #[.int .i64 (ifI (lgS xs) (lwN (lgL xs xs.length * (lgT xs xs.length).2) (lgT xs xs.length).1)), .int .i64 (ifI (lgS xs) (lwD (lgL xs xs.length * (lgT xs xs.length).2) (lgT xs xs.length).1)), .bool (lgS xs)]) ∧ Below w.heap.size w w' := by
  cases hs : lgS xs
  · have HS := Lib.hid hs
    clear hs
    go_enter Try.func25, Try.ntmps25
    go_wp2_with (first | (go_at_call 18; refine (implAreLegs a cap xs _ h hn).mono ?_; rw [HS.out]; rintro e w1 ⟨rfl, hb⟩))
    go_ret3
    exact ⟨rfl, hb⟩
  · have t := lgS_at hs
    have HS := Lib.hid hs
    have hl := t.2.1
    have hl1 := t.1
    have HT := Lib.hid t.2.2
    clear hs t
    have bt := lgT_num HT.out hl (Nat.le_refl _)
    have bl := lgL_bd HT.out _ (Nat.le_refl _)
    have b1 := bt.1
    have b2 := bt.2.1
    have b3 := bt.2.2.2.2 hl1
    have b4 := bt.2.2.2.1
    have HO := Lib.hid (fun w => overW (lgL xs xs.length) 1 (lgT xs xs.length).1 (lgT xs xs.length).2 5000 1 50000000000000 10000000000 (by omega) (by omega) (by omega) (by omega) (by omega) (by omega) (by omega) (by omega) (by omega) (by omega) w)
    rw [Int.one_mul] at HO
    clear bt bl
    go_enter Try.func25, Try.ntmps25
    go_wp2_with (first | (go_at_call 18; refine (implAreLegs a cap xs _ h hn).mono ?_; rw [HS.out]; rintro e w1 ⟨rfl, hb⟩))
    have B0 := Lib.hid hb
    clear hb
    refine (sumOver_any 53 #[] _).mono ?_; rintro e s1 ⟨rfl, hs1, hz1, hc1⟩
    have B1 := Lib.hid (B0.out.trans (hs1.mono B0.out.size))
    have h1 := Lib.hid (h.below B1.out)
    clear hs1
    go_wp2_with fail
    refine (sumW_any _ a cap xs _ h1.out hl HT.out hc1 hz1).mono ?_; rintro e s2 ⟨rfl, hs2⟩
    have B2 := Lib.hid (B1.out.trans (hs2.mono B1.out.size))
    have y2 := B2.out.size
    clear hs2 hc1
    go_wp2_with fail
    refine (sumOver_any 55 #[] _).mono ?_; rintro e s3 ⟨rfl, hs3, hz3, hc3⟩
    have B3 := Lib.hid (B2.out.trans (hs3.mono B2.out.size))
    have h3 := Lib.hid (h.below B3.out)
    clear hs3
    go_wp2_with fail
    refine (sumT_any _ a cap xs _ h3.out hl HT.out hc3 hz3).mono ?_; rintro e s4 ⟨rfl, hs4⟩
    have B4 := Lib.hid (B3.out.trans (hs4.mono B3.out.size))
    have y4 := B4.out.size
    clear hs4 hc3
    go_wp2_with fail
    refine (HO.out _).mono ?_; rintro e s5 ⟨rfl, hs5⟩
    have B5 := Lib.hid (B4.out.trans (hs5.mono B4.out.size))
    have y5 := B5.out.size
    clear hs5
    go_wp2_with fail
    all_goals try (go_quiet (fail); go_wp2_with fail)
    go_ret3
    exact ⟨rfl, by first | exact below_drewN (B5.out.alloc (by omega) _) _ | exact (B5.out.alloc (by omega) _).drew | exact B5.out.alloc (by omega) _⟩
end Go.Proofs.Ytjgicbfgbcihoaa
