/- WalkersAt and LastOrder of chapter 2 by contracts, the program's and the model's. -/
import Derived.Test.YtkmidpcglpeikaaProg
import Derived.Test.YtkmidpcglpeikaaPairs
import Derived.Test.YtkmidpcglpeikaaSortL
import Derived.Test.YtkmidpcglpeikaaCmpI
import Derived.WalkKit
import Derived.WalkSpells
import Derived.WalkLawsBesides
import Derived.Lib.Hide
import Derived.Deep.LoopGhost
import Derived.Deep.QuietTactic
import Derived.Deep.RegionWith
import Derived.Deep.RegionHeld3
import Derived.BigQuiet
namespace Go.Proofs.Ytkmidpcglpeikaa
open Go.RowKit
set_option linter.unusedVariables false
set_option linter.unusedSimpArgs false
theorem sliceInfo : (Try.prog.info? 24).map (fun i => (i.zero, i.size, i.bytes)) = some (some (.slice none 0 0), 1, 24) := by kernel_rfl
/-- a row of slices, each of integers -/
def KeysAt (w : World) (vs : List Value) (ks : List (List Int)) (j : Nat) : Prop :=
  ∀ i, i < j → ∃ bi ci, vs[i]? = some (.slice (some ⟨bi, 0, none⟩) (ks.getD i []).length ci) ∧ bi < w.heap.size ∧ ∀ q, q < (ks.getD i []).length → w.cell? ⟨bi, q, none⟩ = some (.int .i64 ((ks.getD i []).getD q 0))
theorem KeysAt.below {w w' : World} {vs : List Value} {ks : List (List Int)} {j : Nat} (h : KeysAt w vs ks j) (hb : Below w.heap.size w w') : KeysAt w' vs ks j := fun i hi => by
  obtain ⟨bi, ci, h1, h2, h3⟩ := h i hi
  exact ⟨bi, ci, h1, Nat.lt_of_lt_of_le h2 hb.size, fun q hq => by rw [(bcell hb).1 _ _ h2]; exact h3 q hq⟩
/-- behind an append to the row -/
theorem KeysAt.grown {w w' : World} {base j co : Nat} {ao : Option Addr} {vs : List Value} {ks : List (List Int)} {bn cn : Nat} (h : KeysAt w vs ks j) (hl : vs.length = j)
    (hown : w.ownsRow base 24 1 (.slice ao j co) j vs) (h0 : j = 0 → ao = none) (hpos : ∀ i, i ≤ j → 0 < (ks.getD i []).length) (hg : w.grownBy w' (Value.slice ao j co).ownBlock)
    (hn : bn < w.heap.size) (hnc : ∀ q, q < (ks.getD j []).length → w.cell? ⟨bn, q, none⟩ = some (.int .i64 ((ks.getD j []).getD q 0))) :
    KeysAt w' (vs ++ [.slice (some ⟨bn, 0, none⟩) (ks.getD j []).length cn]) ks (j + 1) := by
  have keep : ∀ b x, b < w.heap.size → w.cell? ⟨b, 0, none⟩ = some (.int .i64 x) → ∀ q, w'.cell? ⟨b, q, none⟩ = w.cell? ⟨b, q, none⟩ := by
    intro b x hb hx q
    refine World.cell?_of_block (hg.block b hb ?_)
    intro e
    by_cases j0 : j = 0
    · rw [h0 j0] at e; simp [Value.ownBlock] at e
    · obtain ⟨b0, c0, e0, _, _⟩ := h 0 (by omega)
      rcases hown.2 with ⟨q1, _⟩ | ⟨g, c', _, q1, _⟩
      · injection q1 with z1 z2 z3; omega
      · injection q1 with z1 z2 z3
        subst z1
        have : b = g := by simpa [Value.ownBlock] using e
        subst this
        have c1 := hown.cellAt 0 (by omega)
        rw [e0, hx] at c1
        cases c1
  intro i hi
  by_cases q : i < j
  · obtain ⟨bi, ci, h1, h2, h3⟩ := h i q
    exact ⟨bi, ci, by rw [List.getElem?_append_left (by omega)]; exact h1, Nat.lt_of_lt_of_le h2 hg.size, fun p hp => by rw [keep bi _ h2 (h3 0 (hpos i (by omega)))]; exact h3 p hp⟩
  · have e : i = j := by omega
    subst e
    exact ⟨bn, cn, by rw [List.getElem?_append_right (by omega), hl]; simp, Nat.lt_of_lt_of_le hn hg.size, fun p hp => by rw [keep bn _ hn (hnc 0 (hpos i (by omega)))]; exact hnc p hp⟩
theorem KeysAt.rdk {w : World} {base j co : Nat} {ao : Option Addr} {vs : List Value} {ks : List (List Int)} (h : KeysAt w vs ks j) (hl : ks.length = j) (hown : w.ownsRow base 24 1 (.slice ao j co) j vs) : RdK w ao ks := by
  rcases hown.2 with ⟨q1, _⟩ | ⟨g, c', _, q1, _⟩
  · injection q1 with z1 z2 z3
    exact .inl (List.length_eq_zero_iff.1 (by omega))
  · injection q1 with z1 z2 z3
    subst z1
    refine .inr ⟨g, 0, rfl, (hown.lt g rfl).2, fun i hi => ?_⟩
    obtain ⟨bi, ci, h1, h2, h3⟩ := h i (by omega)
    have hlv : vs.length = j * 1 := hown.1
    exact ⟨some ⟨bi, 0, none⟩, ci, by rw [Nat.zero_add, hown.cellAt i (by omega)]; exact h1, .inr ⟨bi, 0, rfl, h2, fun p hp => by rw [Nat.zero_add]; exact h3 p hp⟩⟩
theorem cell_one_new3 (w : World) (o1 o2 : Obj) (v : Value) (e : TypeId) : ∀ (j : Nat) (u : Value), [v][j]? = some u → (((w.alloc o1).alloc o2).alloc (.cells #[v] e)).cell? ((⟨w.heap.size + 2, 0, none⟩ : Addr).add j) = some u := by
  have h := cell_one_new ((w.alloc o1).alloc o2) v e
  have e1 : ((w.alloc o1).alloc o2).heap.size = w.heap.size + 2 := by simp
  rw [e1] at h; exact h
theorem row_form3 {w : World} {base e size n : Nat} {v : Value} {xs : List Value} (h : w.ownsRow base e size v n xs) : ∃ a c, v = .slice a n c := by
  rcases h.2 with ⟨rfl, rfl⟩ | ⟨g, c, _, rfl, _⟩
  · exact ⟨_, _, rfl⟩
  · exact ⟨_, _, rfl⟩
/-- the keys of LastOrder: speed, then place -/
def loK (xs : List (Int × Int)) : List (List Int) := xs.map fun p => [p.2, p.1]
theorem loK_at {xs : List (Int × Int)} {k : Nat} (h : k < xs.length) : (loK xs).getD k [] = [py xs k, px xs k] := by
  simp [loK, px, py, List.getD, List.getElem?_eq_getElem h]
def loL (xs : List (Int × Int)) : List Int := if wks xs then ordI (loK xs) xs.length else []
theorem wks_at {xs : List (Int × Int)} (h : wks xs = true) : 1 ≤ xs.length ∧ xs.length ≤ 8 ∧ ∀ i, i < xs.length → wkOk (px xs i) (py xs i) = true := by
  unfold wks at h
  rw [Bool.and_eq_true] at h
  have := inB_iff.1 h.1
  exact ⟨by omega, by omega, fun i hi => allW_at h.2 hi⟩
theorem loL_len (xs : List (Int × Int)) : (loL xs).length ≤ 1000 := by
  unfold loL
  split
  · rename_i h
    have := wks_at h
    rw [ordI_length]; omega
  · simp
theorem lo_cmp {xs : List (Int × Int)} {k j : Nat} (hk : k < xs.length) (hj : j < xs.length) : (orI (cmpI (py xs k) (py xs j)) (cmpI (px xs k) (px xs j)) < 0 ↔ lexB ((loK xs).getD k []) ((loK xs).getD j []) = true) := by
  rw [loK_at hk, loK_at hj]
  generalize py xs k = a
  generalize py xs j = b
  generalize px xs k = c
  generalize px xs j = d
  simp only [lexB]
  unfold orI cmpI
  (repeat' split) <;> first | omega | (simp; omega) | (simp; done)
set_option maxHeartbeats 4000000 in
theorem atLast_any (p s q r : Int) (W : World) :
    Calls Try.prog 41 #[.agg #[.int .i64 p, .int .i64 s], .agg #[.int .i64 q, .int .i64 r]] W fun e w' => e = .returned (.int .i64 (orI (cmpI s r) (cmpI p q))) ∧ Below W.heap.size W w' := by
  go_enter Try.func41, Try.ntmps41
  go_wp2_with fail
  go_region_held3 (fun w' => Below W.heap.size W w' ∧ W.heap.size + 1 < w'.heap.size ∧ w'.cell? ⟨W.heap.size, 0, none⟩ = some (.int .i64 p) ∧ w'.cell? ⟨W.heap.size, 1, none⟩ = some (.int .i64 s) ∧ w'.cell? ⟨W.heap.size + 1, 0, none⟩ = some (.int .i64 q) ∧ w'.cell? ⟨W.heap.size + 1, 1, none⟩ = some (.int .i64 r))
    (refine ⟨?_, ?_, ?_, ?_, ?_, ?_⟩ <;> first | assumption | omega | (go_simp; done) | (simp; omega) | (repeat (first | exact Below.refl _ _ | refine Below.drew ?_ | refine Below.alloc ?_ (by first | omega | (simp; done) | (simp; omega)) _ | refine bchain ?_ (by assumption) (by first | omega | (simp; done) | (simp; omega)))))
    (first | (go_at_call 51; refine (compare_any _ _ _).mono ?_; rintro e w1 ⟨rfl, rfl⟩) | (go_at_call 76; refine (or_any (cmpI s r) (cmpI p q) _ _ _ (by go_simp) (by go_simp)).mono ?_; rintro e w1 ⟨rfl, rfl⟩))
  rename_i hHeld
  go_wp2_with fail
  go_ret
  exact ⟨rfl, hHeld.1⟩
set_option maxHeartbeats 2000000 in
theorem implLastOrder (a : Option Addr) (cap : Nat) (xs : List (Int × Int)) (w : World) (h : RdP w a xs) (hn : xs.length ≤ 1048576) :
    Calls Try.prog 17 #[.slice a xs.length cap] w (RetS w (loL xs) (wks xs)) := by
  have hmf : ∀ (fn : Fn) (first cap : Array Value) (w : World), (Instr.makeFunc fn first cap).run Try.prog w = .ok (.func fn first cap) w := fun _ _ _ _ => rfl
  cases hk : wks xs
  · have HL := Lib.hid (show loL xs = [] by unfold loL; rw [hk]; rfl)
    have HK := Lib.hid hk
    clear hk
    go_enter Try.func17, Try.ntmps17
    go_wp2_with fail
    refine (implAreWalkers a cap xs _ h hn).mono ?_; rw [HK.out]; rintro e w0 ⟨rfl, hb0⟩
    go_wp2_with fail
    go_ret2
    rw [HL.out]
    exact ⟨none, 0, rfl, ⟨rfl, .inl ⟨rfl, rfl⟩⟩, hb0⟩
  have HL := Lib.hid (show loL xs = ordI (loK xs) xs.length by unfold loL; rw [hk]; rfl)
  have HR := wks_at hk
  have HK := Lib.hid hk
  clear hk
  go_enter Try.func17, Try.ntmps17
  go_wp2_with fail
  refine (implAreWalkers a cap xs _ h hn).mono ?_; rw [HK.out]; rintro e w0 ⟨rfl, hb0⟩
  go_wp2_with fail
  refine (inOrderW_any 41 #[] (fun k j => orI (cmpI (py xs k) (py xs j)) (cmpI (px xs k) (px xs j))) (loK xs) a cap xs w0 (h.below hb0) (enters_of Try.func41 (by kernel_rfl) rfl) ?_ (fun k j hk hj => lo_cmp hk hj) HR.1 (by omega)).mono ?_
  · intro k j W hk hj hB
    exact atLast_any _ _ _ _ W
  rintro e w5 ⟨⟨a2, c2, rfl, hO⟩, hb5⟩
  go_wp2_with fail
  go_ret2
  rw [HL.out]
  refine ⟨a2, c2, by rw [ordI_length]; rfl, ?_, hb0.trans (hb5.mono hb0.size)⟩
  unfold Own
  rw [ordI_length]
  exact row_base hO hb0.size
set_option maxHeartbeats 4000000 in
set_option maxRecDepth 100000 in
theorem specLastOrder (a : Option Addr) (cap : Nat) (xs : List (Int × Int)) (w : World) (h : RdP w a xs) (hn : xs.length ≤ 1048576) :
    Calls Try.prog 16 #[.slice a xs.length cap] w (RetS w (loL xs) (wks xs)) := by
  obtain ⟨i0, hi, hz0, hz1, hz2⟩ := info_parts sliceInfo
  cases hk : wks xs
  · have HL := Lib.hid (show loL xs = [] by unfold loL; rw [hk]; rfl)
    have HK := Lib.hid hk
    clear hk
    go_enter Try.func16, Try.ntmps16
    go_wp2_with fail
    refine (meAll_any a cap xs _ h hn).mono ?_; rw [HK.out]; rintro e w0 ⟨rfl, hb0⟩
    go_wp2_with fail
    go_ret2
    rw [HL.out]
    exact ⟨none, 0, rfl, ⟨rfl, .inl ⟨rfl, rfl⟩⟩, hb0⟩
  have HL := Lib.hid (show loL xs = ordI (loK xs) xs.length by unfold loL; rw [hk]; rfl)
  have HR := wks_at hk
  have n8 := HR.2.1
  have HK := Lib.hid hk
  have hlk : (loK xs).length = xs.length := by simp [loK]
  have HKA := Lib.hid (fun k (hk : k < xs.length) => loK_at hk)
  have HKL := Lib.hid (show ∀ k, k < xs.length → ((loK xs).getD k []).length = 2 from fun k hk => by rw [loK_at hk]; rfl)
  clear hk HR
  obtain ⟨ks, hks⟩ : ∃ ks, ks = loK xs := ⟨_, rfl⟩
  rw [← hks] at HL HKA HKL hlk
  go_enter Try.func16, Try.ntmps16
  go_wp2_with fail
  refine (meAll_any a cap xs _ h hn).mono ?_; rw [HK.out]; rintro e w0 ⟨rfl, hb0⟩
  go_wp2_with fail
  go_loopg [4, 12] xs.length (fun f vk vc wr => ∃ (j : Nat) (ao : Option Addr) (co : Nat) (vs : List Value), vk = .slice ao j co ∧ vc = .int .i64 (j : Int) ∧ j + f ≤ xs.length ∧ xs.length ≤ j + f ∧ wr.ownsRow w.heap.size 24 1 (.slice ao j co) j vs ∧ Hid (j = 0 → ao = none) ∧ Hid (KeysAt wr vs ks j) ∧ Below w.heap.size w wr)
  case atStart => exact ⟨0, none, 0, [], rfl, rfl, by omega, by omega, World.ownsRow_nil _ _ _ _, fun _ => rfl, fun i hi => absurd hi (Nat.not_lt_zero _), hb0⟩
  case round =>
    clear hb0
    obtain ⟨j, ao, co, vs, rfl, rfl, h1, h2, hown, hz, hK, hbel⟩ := hrel
    by_cases hj : j < xs.length
    · rcases h with h | ⟨b, off, rfl, hlt, hc⟩
      · rw [h] at hj; exact absurd hj (Nat.not_lt_zero _)
      · have cj0 : wr.cell? ⟨b, off + j * 2, none⟩ = some (.int .i64 (px xs j)) := by rw [(bcell hbel).1 b _ hlt]; exact (hc j hj).1
        have cj1 : wr.cell? ⟨b, off + j * 2 + 1, none⟩ = some (.int .i64 (py xs j)) := by rw [(bcell hbel).1 b _ hlt]; exact (hc j hj).2
        have hjI : (j : Int) < (xs.length : Int) := by omega
        have hkj := HKA.out j hj
        have hvl : vs.length = j * 1 := hown.1
        have hsz := hbel.size
        have HO := Lib.hid hown
        have HB := Lib.hid hbel
        have HKJ := Lib.hid hkj
        clear hown hbel hc hkj
        generalize px xs j = x at *
        generalize py xs j = y at *
        go_wp2_with (first | (at_builtin; refine wpList_append_own _ rfl _ _ 54 rfl w.heap.size 24 i0 (.slice none 0 0) 1 24 Try.underlying54 hi hz0 hz1 hz2 rfl (by decide) _ _ _ rfl (((HO.out.alloc _).alloc _).alloc _) ⟨wr.heap.size + 2, 0, none⟩ 1 1 [.slice (some ⟨wr.heap.size + 1, 0, none⟩) 2 2] rfl rfl (cell_one_new3 _ _ _ _ _) (fun u hu => by simp at hu; subst hu; rfl) (by unfold maxLen; omega) (by omega) (by simp; omega) ?_; intro v1 w3 hO3 hgrow hx; clear hx; have HG3 := Lib.hid hgrow; have HO3 := Lib.hid hO3; clear hgrow hO3))
        obtain ⟨a3, c3, rfl⟩ := row_form3 HO3.out
        have hbA : Below wr.heap.size wr (((wr.alloc (.cells #[.int .i64 x, .int .i64 y] 56)).alloc (.cells #[.int .i64 y, .int .i64 x] 3)).alloc (.cells #[.slice (some ⟨wr.heap.size + 1, 0, none⟩) 2 2] 24)) := (((Below.refl _ _).alloc (Nat.le_refl _) _).alloc (by simp) _).alloc (by simp; omega) _
        have hK3 := KeysAt.grown (cn := 2) (bn := wr.heap.size + 1) (hK.out.below hbA) (by omega) (((HO.out.alloc (.cells #[.int .i64 x, .int .i64 y] 56)).alloc (.cells #[.int .i64 y, .int .i64 x] 3)).alloc (.cells #[.slice (some ⟨wr.heap.size + 1, 0, none⟩) 2 2] 24)) hz.out (fun i hi => by rw [HKL.out i (by omega)]; decide) HG3.out (by simp) (fun q hq => by
          rw [HKJ.out] at hq ⊢
          have hq2 : q = 0 ∨ q = 1 := by simp at hq; omega
          rcases hq2 with rfl | rfl
          · go_simp
          · go_simp)
        rw [HKL.out j hj] at hK3
        have hB3 := (HB.out.trans (hbA.mono hsz)).grown HG3.out (by simp; omega) (fun k hk => (HO.out.lt k hk).1)
        go_roundg (gk - 1)
        case rel => exact ⟨j + 1, a3, c3, _, rfl, by go_num, by omega, by omega, HO3.out, fun e => absurd e (by omega), hK3, hB3⟩
        case measure => omega
    · have e : j = xs.length := by omega
      subst e
      have hM := Lib.hid (meOrder_any ao co xs.length 2 ks wr (hK.out.rdk hlk hown) hlk (by omega) (fun i hi => HKL.out i hi) (by decide))
      have HB := Lib.hid hbel
      clear hown hbel hK hz
      go_wp2_with fail
      refine hM.out.mono ?_; rintro e w5 ⟨a2, c2, rfl, hO, hb5⟩
      go_wp2_with fail
      go_ret2
      rw [HL.out]
      refine ⟨a2, c2, by rw [ordI_length]; rfl, ?_, HB.out.trans (hb5.mono HB.out.size)⟩
      unfold Own
      rw [ordI_length]
      exact row_base hO HB.out.size
/-- the keys of WalkersAt: the places, all with one denominator -/
def waK (n d : Int) (xs : List (Int × Int)) : List (List Int) := xs.map fun p => [plN p.1 p.2 n d]
theorem waK_at {n d : Int} {xs : List (Int × Int)} {k : Nat} (h : k < xs.length) : (waK n d xs).getD k [] = [plN (px xs k) (py xs k) n d] := by
  simp [waK, px, py, List.getD, List.getElem?_eq_getElem h]
def waB (n d : Int) (xs : List (Int × Int)) : Bool := wks xs && tmOk n d
def waL (n d : Int) (xs : List (Int × Int)) : List Int := if waB n d xs then ordI (waK n d xs) xs.length else []
theorem waL_len (n d : Int) (xs : List (Int × Int)) : (waL n d xs).length ≤ 1000 := by
  unfold waL
  split
  · rename_i h
    unfold waB at h
    rw [Bool.and_eq_true] at h
    have := wks_at h.1
    rw [ordI_length]; omega
  · simp
theorem low_mul (a d : Int) (hd : 1 ≤ d) : lwN a d * gc a d = a ∧ lwD a d * gc a d = d := by
  have g := gc_pos (a := a) (b := d) (by omega)
  unfold lwN lwD
  exact ⟨Int.tdiv_mul_cancel (gc_dvd_l a d), Int.tdiv_mul_cancel (gc_dvd_r a d)⟩
theorem low_lt (A B d : Int) (hd : 1 ≤ d) : lwN A d * lwD B d < lwN B d * lwD A d ↔ A < B := by
  have a1 := low_mul A d hd
  have b1 := low_mul B d hd
  have ga := gc_pos (a := A) (b := d) (by omega)
  have gb := gc_pos (a := B) (b := d) (by omega)
  generalize lwN A d = x at *
  generalize lwD A d = y at *
  generalize lwN B d = z at *
  generalize lwD B d = t at *
  generalize gc A d = g at *
  generalize gc B d = h at *
  have e1 : (x * t) * (g * h) = A * d := by
    rw [← a1.1, ← b1.2]; ac_rfl
  have e2 : (z * y) * (g * h) = B * d := by
    rw [← b1.1, ← a1.2]; ac_rfl
  have gh : 0 < g * h := Int.mul_pos (by omega) (by omega)
  constructor
  · intro q
    have := Int.mul_lt_mul_of_pos_right q gh
    rw [e1, e2] at this
    exact Int.lt_of_mul_lt_mul_right this (by omega)
  · intro q
    have := Int.mul_lt_mul_of_pos_right q (show 0 < d by omega)
    rw [← e1, ← e2] at this
    exact Int.lt_of_mul_lt_mul_right this (by omega)
theorem lexB_one (a b : Int) : lexB [a] [b] = decide (a < b) := by
  simp only [lexB]
  by_cases h : a = b
  · rw [if_pos h]; simp [h]
  · rw [if_neg h]
def waC (n d p s q r : Int) : Int := cmpI (lwN (plN p s n d) d * lwD (plN q r n d) d) (lwN (plN q r n d) d * lwD (plN p s n d) d)
theorem wa_cmp {n d : Int} {xs : List (Int × Int)} {k j : Nat} (hd : 1 ≤ d) (hk : k < xs.length) (hj : j < xs.length) : (waC n d (px xs k) (py xs k) (px xs j) (py xs j) < 0 ↔ lexB ((waK n d xs).getD k []) ((waK n d xs).getD j []) = true) := by
  rw [waK_at hk, waK_at hj, lexB_one]
  unfold waC
  rw [cmpI_lt, low_lt _ _ _ hd]; simp
set_option maxHeartbeats 4000000 in
theorem waCmp_any (p s q r n d : Int) (T : Nat) (W : World) (hT : W.cell? ⟨T, 0, none⟩ = some (.int .i64 n)) (hT1 : W.cell? ⟨T, 1, none⟩ = some (.int .i64 d)) (hl : T < W.heap.size) (hp : wkOk p s = true) (hq : wkOk q r = true) (ht : tmOk n d = true) :
    Calls Try.prog 37 #[.agg #[.int .i64 p, .int .i64 s], .agg #[.int .i64 q, .int .i64 r], .pointer (some ⟨T, 0, none⟩)] W fun e w' => e = .returned (.int .i64 (waC n d p s q r)) ∧ Below W.heap.size W w' := by
  have p1 := wkOk_iff.1 hp
  have q1 := wkOk_iff.1 hq
  have t1 := tmOk_iff.1 ht
  have a1 := plN_bd (p := p) (s := s) (n := n) (d := d) (P := 1000) (N := 1000000) (D := 1000) (by omega) (by omega) (by omega) (by omega) (by omega) (by omega) (by omega) (by omega)
  have a2 := plN_bd (p := q) (s := r) (n := n) (d := d) (P := 1000) (N := 1000000) (D := 1000) (by omega) (by omega) (by omega) (by omega) (by omega) (by omega) (by omega) (by omega)
  have b1 := lwN_bd (a := plN p s n d) (b := d) (B := 1000000000) (by omega) (by omega) (by omega)
  have b2 := lwN_bd (a := plN q r n d) (b := d) (B := 1000000000) (by omega) (by omega) (by omega)
  have c1 := lwD_pos (a := plN p s n d) (b := d) (by omega)
  have c2 := lwD_pos (a := plN q r n d) (b := d) (by omega)
  go_enter Try.func37, Try.ntmps37
  go_wp2_with fail
  go_region_held3 (fun w' => Below W.heap.size W w' ∧ W.heap.size + 1 < w'.heap.size ∧ w'.cell? ⟨T, 0, none⟩ = some (.int .i64 n) ∧ w'.cell? ⟨T, 1, none⟩ = some (.int .i64 d) ∧ w'.cell? ⟨W.heap.size, 0, none⟩ = some (.int .i64 p) ∧ w'.cell? ⟨W.heap.size, 1, none⟩ = some (.int .i64 s) ∧ w'.cell? ⟨W.heap.size + 1, 0, none⟩ = some (.int .i64 q) ∧ w'.cell? ⟨W.heap.size + 1, 1, none⟩ = some (.int .i64 r))
    (refine ⟨?_, ?_, ?_, ?_, ?_, ?_, ?_, ?_⟩ <;> first | assumption | omega | (go_simp; done) | (simp; omega) | (repeat (first | exact Below.refl _ _ | refine Below.drew ?_ | refine Below.alloc ?_ (by first | omega | (simp; done) | (simp; omega)) _ | refine bchain ?_ (by assumption) (by first | omega | (simp; done) | (simp; omega)))))
    (first | (go_at_call_of 38 (Value.agg #[.int .i64 p, .int .i64 s]); refine (placeAt_any p s n d (by omega) (by omega) (by omega) (by omega) (by omega) (by omega) (by omega) (by omega) _).mono ?_; rintro e w1 ⟨rfl, hb⟩; have k0 := fun o => (bcell hb).1 W.heap.size o (by first | omega | (simp; done) | (simp; omega)); have k1 := fun o => (bcell hb).1 (W.heap.size + 1) o (by first | omega | (simp; done) | (simp; omega)); have k2 := fun o => (bcell hb).1 T o (by first | omega | (simp; done) | (simp; omega)); have kz := hb.size; (try simp at kz)) | (go_at_call_of 38 (Value.agg #[.int .i64 q, .int .i64 r]); refine (placeAt_any q r n d (by omega) (by omega) (by omega) (by omega) (by omega) (by omega) (by omega) (by omega) _).mono ?_; rintro e w1 ⟨rfl, hb⟩; have k0 := fun o => (bcell hb).1 W.heap.size o (by first | omega | (simp; done) | (simp; omega)); have k1 := fun o => (bcell hb).1 (W.heap.size + 1) o (by first | omega | (simp; done) | (simp; omega)); have k2 := fun o => (bcell hb).1 T o (by first | omega | (simp; done) | (simp; omega)); have kz := hb.size; (try simp at kz)) | (go_at_call 39; refine (fcompare_any (lwN (plN p s n d) d) (lwD (plN p s n d) d) (lwN (plN q r n d) d) (lwD (plN q r n d) d) (by omega) (by omega) (by omega) (by omega) (by omega) (by omega) (by omega) (by omega) _).mono ?_; rintro e w1 ⟨rfl, hb⟩; have k0 := fun o => (bcell hb).1 W.heap.size o (by first | omega | (simp; done) | (simp; omega)); have k1 := fun o => (bcell hb).1 (W.heap.size + 1) o (by first | omega | (simp; done) | (simp; omega)); have k2 := fun o => (bcell hb).1 T o (by first | omega | (simp; done) | (simp; omega)); have kz := hb.size; (try simp at kz)))
  rename_i hHeld
  go_wp2_with fail
  go_ret
  exact ⟨rfl, hHeld.1⟩
set_option maxHeartbeats 2000000 in
theorem implWalkersAt (a : Option Addr) (cap : Nat) (xs : List (Int × Int)) (n d : Int) (w : World) (h : RdP w a xs) (hn : xs.length ≤ 1048576) :
    Calls Try.prog 10 #[.slice a xs.length cap, .int .i64 n, .int .i64 d] w (RetS w (waL n d xs) (waB n d xs)) := by
  have hmf : ∀ (fn : Fn) (first cap : Array Value) (w : World), (Instr.makeFunc fn first cap).run Try.prog w = .ok (.func fn first cap) w := fun _ _ _ _ => rfl
  cases hk : wks xs
  · have HL := Lib.hid (show waL n d xs = [] by unfold waL; rw [show waB n d xs = false by simp [waB, hk]]; rfl); have HV := Lib.hid (show waB n d xs = false by simp [waB, hk])
    have HK := Lib.hid hk
    clear hk
    go_enter Try.func10, Try.ntmps10
    go_wp2_with fail
    refine (implAreWalkers a cap xs _ h hn).mono ?_; rw [HK.out]; rintro e w0 ⟨rfl, hb0⟩
    go_wp2_with fail
    go_ret2
    rw [HL.out, HV.out]
    exact ⟨none, 0, rfl, ⟨rfl, .inl ⟨rfl, rfl⟩⟩, hb0⟩
  cases ht : tmOk n d
  · have HL := Lib.hid (show waL n d xs = [] by unfold waL; rw [show waB n d xs = false by simp [waB, ht]]; rfl); have HV := Lib.hid (show waB n d xs = false by simp [waB, ht])
    have HK := Lib.hid hk
    have HT := Lib.hid ht
    clear hk ht
    go_enter Try.func10, Try.ntmps10
    go_wp2_with fail
    refine (implAreWalkers a cap xs _ h hn).mono ?_; rw [HK.out]; rintro e w0 ⟨rfl, hb0⟩
    go_wp2_with (first | (go_at_call 35; refine (isTime_any n d _).mono ?_; rw [HT.out]; rintro e w1 ⟨rfl, rfl⟩))
    go_ret2
    rw [HL.out, HV.out]
    exact ⟨none, 0, rfl, ⟨rfl, .inl ⟨rfl, rfl⟩⟩, hb0⟩
  have HL := Lib.hid (show waL n d xs = ordI (waK n d xs) xs.length by unfold waL; rw [show waB n d xs = true by simp [waB, hk, ht]]; rfl)
  have HV := Lib.hid (show waB n d xs = true by simp [waB, hk, ht])
  have HR := wks_at hk
  have k1 := tmOk_iff.1 ht
  have HK := Lib.hid hk
  have HT := Lib.hid ht
  clear hk ht
  go_enter Try.func10, Try.ntmps10
  go_wp2_with fail
  refine (implAreWalkers a cap xs _ h hn).mono ?_; rw [HK.out]; rintro e w0 ⟨rfl, hb0⟩
  go_wp2_with (first | (go_at_call 35; refine (isTime_any n d _).mono ?_; rw [HT.out]; rintro e w1 ⟨rfl, rfl⟩))
  have BA : Below w0.heap.size w0 (w0.alloc (.cells #[.int .i64 n, .int .i64 d] 61)) := (Below.refl _ _).alloc (Nat.le_refl _) _
  have B0 := hb0.trans (BA.mono hb0.size)
  have hs1 : w0.heap.size < (w0.alloc (.cells #[.int .i64 n, .int .i64 d] 61)).heap.size := by simp
  have hc0 : (w0.alloc (.cells #[.int .i64 n, .int .i64 d] 61)).cell? ⟨w0.heap.size, 0, none⟩ = some (.int .i64 n) := by go_simp
  have hc1 : (w0.alloc (.cells #[.int .i64 n, .int .i64 d] 61)).cell? ⟨w0.heap.size, 1, none⟩ = some (.int .i64 d) := by go_simp
  refine (inOrderW_any 37 #[.pointer (some ⟨w0.heap.size, 0, none⟩)] (fun k j => waC n d (px xs k) (py xs k) (px xs j) (py xs j)) (waK n d xs) a cap xs _ (h.below B0) (enters_of Try.func37 (by kernel_rfl) rfl) ?_ (fun k j hk hj => wa_cmp (by omega) hk hj) HR.1 (by omega)).mono ?_
  · intro k j W hk hj hB
    have e2 : (#[.agg #[.int .i64 (px xs k), .int .i64 (py xs k)], .agg #[.int .i64 (px xs j), .int .i64 (py xs j)]] ++ #[.pointer (some ⟨w0.heap.size, 0, none⟩)] : Array Value) = #[.agg #[.int .i64 (px xs k), .int .i64 (py xs k)], .agg #[.int .i64 (px xs j), .int .i64 (py xs j)], .pointer (some ⟨w0.heap.size, 0, none⟩)] := by simp
    rw [e2]
    exact waCmp_any _ _ _ _ n d w0.heap.size W (by rw [(bcell hB).1 _ _ hs1]; exact hc0) (by rw [(bcell hB).1 _ _ hs1]; exact hc1) (Nat.lt_of_lt_of_le hs1 hB.size) (HR.2.2 k hk) (HR.2.2 j hj) HT.out
  rintro e w5 ⟨⟨a2, c2, rfl, hO⟩, hb5⟩
  go_wp2_with fail
  go_ret2
  rw [HL.out, HV.out]
  refine ⟨a2, c2, by rw [ordI_length]; rfl, ?_, B0.trans (hb5.mono B0.size)⟩
  unfold Own
  rw [ordI_length]
  exact row_base hO B0.size
set_option maxHeartbeats 4000000 in
set_option maxRecDepth 100000 in
theorem specWalkersAt (a : Option Addr) (cap : Nat) (xs : List (Int × Int)) (n d : Int) (w : World) (h : RdP w a xs) (hn : xs.length ≤ 1048576) :
    Calls Try.prog 8 #[.slice a xs.length cap, .int .i64 n, .int .i64 d] w (RetS w (waL n d xs) (waB n d xs)) := by
  obtain ⟨i0, hi, hz0, hz1, hz2⟩ := info_parts sliceInfo
  cases hk : wks xs
  · have HL := Lib.hid (show waL n d xs = [] by unfold waL; rw [show waB n d xs = false by simp [waB, hk]]; rfl); have HV := Lib.hid (show waB n d xs = false by simp [waB, hk])
    have HK := Lib.hid hk
    clear hk
    go_enter Try.func8, Try.ntmps8
    go_wp2_with fail
    refine (meAll_any a cap xs _ h hn).mono ?_; rw [HK.out]; rintro e w0 ⟨rfl, hb0⟩
    go_wp2_with fail
    go_ret2
    rw [HL.out, HV.out]
    exact ⟨none, 0, rfl, ⟨rfl, .inl ⟨rfl, rfl⟩⟩, hb0⟩
  cases ht : tmOk n d
  · have HL := Lib.hid (show waL n d xs = [] by unfold waL; rw [show waB n d xs = false by simp [waB, ht]]; rfl); have HV := Lib.hid (show waB n d xs = false by simp [waB, ht])
    have HK := Lib.hid hk
    have HT := Lib.hid ht
    clear hk ht
    go_enter Try.func8, Try.ntmps8
    go_wp2_with fail
    refine (meAll_any a cap xs _ h hn).mono ?_; rw [HK.out]; rintro e w0 ⟨rfl, hb0⟩
    go_wp2_with (first | (go_at_call 31; refine (meTime_any n d _).mono ?_; rw [HT.out]; rintro e w1 ⟨rfl, rfl⟩))
    go_ret2
    rw [HL.out, HV.out]
    exact ⟨none, 0, rfl, ⟨rfl, .inl ⟨rfl, rfl⟩⟩, hb0⟩
  have HL := Lib.hid (show waL n d xs = ordI (waK n d xs) xs.length by unfold waL; rw [show waB n d xs = true by simp [waB, hk, ht]]; rfl)
  have HV := Lib.hid (show waB n d xs = true by simp [waB, hk, ht])
  have HR := wks_at hk
  have tt := tmOk_iff.1 ht
  have n8 := HR.2.1
  have HK := Lib.hid hk
  have HT := Lib.hid ht
  have hlk : (waK n d xs).length = xs.length := by simp [waK]
  have HBD := Lib.hid (show ∀ i, i < xs.length → -1000 ≤ px xs i ∧ px xs i ≤ 1000 ∧ -100 ≤ py xs i ∧ py xs i ≤ 100 from fun i hi => wkOk_iff.1 (HR.2.2 i hi))
  have HKA := Lib.hid (fun k (hk : k < xs.length) => waK_at (n := n) (d := d) hk)
  have HKL := Lib.hid (show ∀ k, k < xs.length → ((waK n d xs).getD k []).length = 1 from fun k hk => by rw [waK_at hk]; rfl)
  clear hk ht HR
  obtain ⟨ks, hks⟩ : ∃ ks, ks = waK n d xs := ⟨_, rfl⟩
  rw [← hks] at HL HKA HKL hlk
  go_enter Try.func8, Try.ntmps8
  go_wp2_with fail
  refine (meAll_any a cap xs _ h hn).mono ?_; rw [HK.out]; rintro e w0 ⟨rfl, hb0⟩
  go_wp2_with (first | (go_at_call 31; refine (meTime_any n d _).mono ?_; rw [HT.out]; rintro e w1 ⟨rfl, rfl⟩))
  go_loopg [8, 22] xs.length (fun f vk vc wr => ∃ (j : Nat) (ao : Option Addr) (co : Nat) (vs : List Value), vk = .slice ao j co ∧ vc = .int .i64 (j : Int) ∧ j + f ≤ xs.length ∧ xs.length ≤ j + f ∧ wr.ownsRow w.heap.size 24 1 (.slice ao j co) j vs ∧ Hid (j = 0 → ao = none) ∧ Hid (KeysAt wr vs ks j) ∧ Below w.heap.size w wr)
  case atStart => exact ⟨0, none, 0, [], rfl, rfl, by omega, by omega, World.ownsRow_nil _ _ _ _, fun _ => rfl, fun i hi => absurd hi (Nat.not_lt_zero _), hb0⟩
  case round =>
    clear hb0
    obtain ⟨j, ao, co, vs, rfl, rfl, h1, h2, hown, hz, hK, hbel⟩ := hrel
    by_cases hj : j < xs.length
    · rcases h with h | ⟨b, off, rfl, hlt, hc⟩
      · rw [h] at hj; exact absurd hj (Nat.not_lt_zero _)
      · have cj0 : wr.cell? ⟨b, off + j * 2, none⟩ = some (.int .i64 (px xs j)) := by rw [(bcell hbel).1 b _ hlt]; exact (hc j hj).1
        have cj1 : wr.cell? ⟨b, off + j * 2 + 1, none⟩ = some (.int .i64 (py xs j)) := by rw [(bcell hbel).1 b _ hlt]; exact (hc j hj).2
        have hjI : (j : Int) < (xs.length : Int) := by omega
        have hkj := HKA.out j hj
        have hvl : vs.length = j * 1 := hown.1
        have hsz := hbel.size
        have hbo := HBD.out j hj
        have HO := Lib.hid hown
        have HB := Lib.hid hbel
        have HKJ := Lib.hid hkj
        clear hown hbel hc hkj
        generalize px xs j = x at *
        generalize py xs j = y at *
        have m1 := mul_ab x d 1000 1000 (by omega) (by omega) (by omega) (by omega)
        have m2 := mul_ab y n 100 1000000 (by omega) (by omega) (by omega) (by omega)
        go_wp2_with (first | (at_builtin; refine wpList_append_own _ rfl _ _ 54 rfl w.heap.size 24 i0 (.slice none 0 0) 1 24 Try.underlying54 hi hz0 hz1 hz2 rfl (by decide) _ _ _ rfl (((HO.out.alloc _).alloc _).alloc _) ⟨wr.heap.size + 2, 0, none⟩ 1 1 [.slice (some ⟨wr.heap.size + 1, 0, none⟩) 1 1] rfl rfl (cell_one_new3 _ _ _ _ _) (fun u hu => by simp at hu; subst hu; rfl) (by unfold maxLen; omega) (by omega) (by simp; omega) ?_; intro v1 w3 hO3 hgrow hx; clear hx; have HG3 := Lib.hid hgrow; have HO3 := Lib.hid hO3; clear hgrow hO3))
        obtain ⟨a3, c3, rfl⟩ := row_form3 HO3.out
        have hbA : Below wr.heap.size wr (((wr.alloc (.cells #[.int .i64 x, .int .i64 y] 56)).alloc (.cells #[.int .i64 (x * d + y * n)] 3)).alloc (.cells #[.slice (some ⟨wr.heap.size + 1, 0, none⟩) 1 1] 24)) := (((Below.refl _ _).alloc (Nat.le_refl _) _).alloc (by simp) _).alloc (by simp; omega) _
        have hK3 := KeysAt.grown (cn := 1) (bn := wr.heap.size + 1) (hK.out.below hbA) (by omega) (((HO.out.alloc (.cells #[.int .i64 x, .int .i64 y] 56)).alloc (.cells #[.int .i64 (x * d + y * n)] 3)).alloc (.cells #[.slice (some ⟨wr.heap.size + 1, 0, none⟩) 1 1] 24)) hz.out (fun i hi => by rw [HKL.out i (by omega)]; decide) HG3.out (by simp) (fun q hq => by
          rw [HKJ.out] at hq ⊢
          have hq2 : q = 0 := by simp at hq; omega
          subst hq2
          go_simp; rfl)
        rw [HKL.out j hj] at hK3
        have hB3 := (HB.out.trans (hbA.mono hsz)).grown HG3.out (by simp; omega) (fun k hk => (HO.out.lt k hk).1)
        go_roundg (gk - 1)
        case rel => exact ⟨j + 1, a3, c3, _, rfl, by go_num, by omega, by omega, HO3.out, fun e => absurd e (by omega), hK3, hB3⟩
        case measure => omega
    · have e : j = xs.length := by omega
      subst e
      have hM := Lib.hid (meOrder_any ao co xs.length 1 ks wr (hK.out.rdk hlk hown) hlk (by omega) (fun i hi => HKL.out i hi) (by decide))
      have HB := Lib.hid hbel
      clear hown hbel hK hz
      go_wp2_with fail
      refine hM.out.mono ?_; rintro e w5 ⟨a2, c2, rfl, hO, hb5⟩
      go_wp2_with fail
      go_ret2
      rw [HL.out, HV.out]
      refine ⟨a2, c2, by rw [ordI_length]; rfl, ?_, HB.out.trans (hb5.mono HB.out.size)⟩
      unfold Own
      rw [ordI_length]
      exact row_base hO HB.out.size
end Go.Proofs.Ytkmidpcglpeikaa
