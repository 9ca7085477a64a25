/- OrderOnTrack of chapter 3 by contracts, the program's and the model's. -/
import Derived.Test.YtkmidpcglpeikaaProg
import Derived.Test.YtkmidpcglpeikaaThrRun
import Derived.Test.YtkmidpcglpeikaaSortL
import Derived.Test.YtkmidpcglpeikaaCmpI
import Derived.WalkKit
import Derived.WalkSpells
import Derived.WalkLawsBesides
import Derived.Lib.Hide
import Derived.Deep.LoopGhost
import Derived.Deep.QuietTactic
import Derived.Deep.RegionWith
import Derived.Deep.RegionHeld3
import Derived.BigQuiet
namespace Go.Proofs.Ytkmidpcglpeikaa
open Go.RowKit
set_option linter.unusedVariables false
set_option linter.unusedSimpArgs false
/-- the keys: the farthest one first -/
def otK (t : Int) (xs : List (Int × Int)) : List (List Int) := xs.map fun p => [-(fr p.1 p.2 t)]
theorem otK_at {t : Int} {xs : List (Int × Int)} {k : Nat} (h : k < xs.length) : (otK t xs).getD k [] = [-(fr (px xs k) (py xs k) t)] := by
  simp [otK, px, py, List.getD, List.getElem?_eq_getElem h]
theorem lexB_neg (a b : Int) : lexB [-a] [-b] = decide (b < a) := by
  simp only [lexB]
  by_cases h : a = b
  · rw [if_pos (by omega)]; simp [h]
  · rw [if_neg (by omega), Bool.eq_iff_iff]; first | (simp; done) | (simp; omega)
theorem ot_cmp {t : Int} {xs : List (Int × Int)} {k j : Nat} (hk : k < xs.length) (hj : j < xs.length) : (cmpI (fr (px xs j) (py xs j) t) (fr (px xs k) (py xs k) t) < 0 ↔ lexB ((otK t xs).getD k []) ((otK t xs).getD j []) = true) := by
  rw [otK_at hk, otK_at hj, lexB_neg, cmpI_lt]; simp
def otB (l t : Int) (xs : List (Int × Int)) : Bool := rns l xs && rtOk t
def otL (l t : Int) (xs : List (Int × Int)) : List Int := if otB l t xs then ordI (otK t xs) xs.length else []
theorem otL_len (l t : Int) (xs : List (Int × Int)) : (otL l t xs).length ≤ 1000 := by
  unfold otL
  split
  · rename_i h
    unfold otB at h
    rw [Bool.and_eq_true] at h
    have := rns_at h.1
    rw [ordI_length]; omega
  · simp
set_option maxHeartbeats 4000000 in
theorem otCmp_any (p s q r t : Int) (T : Nat) (W : World) (hT : W.cell? ⟨T, 0, none⟩ = some (.int .i64 t)) (hl : T < W.heap.size) (p1 : 0 ≤ p) (p2 : p ≤ 1000) (s1 : 0 ≤ s) (s2 : s ≤ 100) (q1 : 0 ≤ q) (q2 : q ≤ 1000) (r1 : 0 ≤ r) (r2 : r ≤ 100) (t1 : 0 ≤ t) (t2 : t ≤ 1000000) :
    Calls Try.prog 50 #[.agg #[.int .i64 p, .int .i64 s], .agg #[.int .i64 q, .int .i64 r], .pointer (some ⟨T, 0, none⟩)] W fun e w' => e = .returned (.int .i64 (cmpI (fr q r t) (fr p s t))) ∧ Below W.heap.size W w' := by
  go_enter Try.func50, Try.ntmps50
  go_wp2_with fail
  go_region_held3 (fun w' => Below W.heap.size W w' ∧ W.heap.size + 1 < w'.heap.size ∧ w'.cell? ⟨T, 0, none⟩ = some (.int .i64 t) ∧ w'.cell? ⟨W.heap.size, 0, none⟩ = some (.int .i64 p) ∧ w'.cell? ⟨W.heap.size, 1, none⟩ = some (.int .i64 s) ∧ w'.cell? ⟨W.heap.size + 1, 0, none⟩ = some (.int .i64 q) ∧ w'.cell? ⟨W.heap.size + 1, 1, none⟩ = some (.int .i64 r))
    (refine ⟨?_, ?_, ?_, ?_, ?_, ?_, ?_⟩ <;> first | assumption | omega | (go_simp; done) | (simp; omega) | (repeat (first | exact Below.refl _ _ | refine Below.drew ?_ | refine Below.alloc ?_ (by first | omega | (simp; done) | (simp; omega)) _ | refine bchain ?_ (by assumption) (by first | omega | (simp; done) | (simp; omega)))))
    (first | (go_at_call_of 52 (Value.agg #[.int .i64 p, .int .i64 s]); refine (farAt_any p s t (by omega) (by omega) (by omega) (by omega) (by omega) (by omega) _).mono ?_; rintro e w1 ⟨rfl, hb⟩; have k0 := fun o => (bcell hb).1 W.heap.size o (by first | omega | (simp; done) | (simp; omega)); have k1 := fun o => (bcell hb).1 (W.heap.size + 1) o (by first | omega | (simp; done) | (simp; omega)); have k2 := fun o => (bcell hb).1 T o (by first | omega | (simp; done) | (simp; omega)); have kz := hb.size; (try simp at kz)) | (go_at_call_of 52 (Value.agg #[.int .i64 q, .int .i64 r]); refine (farAt_any q r t (by omega) (by omega) (by omega) (by omega) (by omega) (by omega) _).mono ?_; rintro e w1 ⟨rfl, hb⟩; have k0 := fun o => (bcell hb).1 W.heap.size o (by first | omega | (simp; done) | (simp; omega)); have k1 := fun o => (bcell hb).1 (W.heap.size + 1) o (by first | omega | (simp; done) | (simp; omega)); have k2 := fun o => (bcell hb).1 T o (by first | omega | (simp; done) | (simp; omega)); have kz := hb.size; (try simp at kz)) | (go_at_call 51; refine (compare_any _ _ _).mono ?_; rintro e w1 ⟨rfl, rfl⟩))
  rename_i hHeld
  go_wp2_with fail
  go_ret
  exact ⟨rfl, hHeld.1⟩
set_option maxHeartbeats 2000000 in
theorem implOrderOnTrack (l : Int) (a : Option Addr) (cap : Nat) (xs : List (Int × Int)) (t : Int) (w : World) (h : RdP w a xs) (hn : xs.length ≤ 1048576) :
    Calls Try.prog 21 #[.int .i64 l, .slice a xs.length cap, .int .i64 t] w (RetS w (otL l t xs) (otB l t xs)) := by
  have hmf : ∀ (fn : Fn) (first cap : Array Value) (w : World), (Instr.makeFunc fn first cap).run Try.prog w = .ok (.func fn first cap) w := fun _ _ _ _ => rfl
  have BA : Below w.heap.size w (w.alloc (.cells #[.int .i64 t] 3)) := (Below.refl _ _).alloc (Nat.le_refl _) _
  have hR0 := h.below BA
  cases hk : rns l xs
  · have HL := Lib.hid (show otL l t xs = [] by unfold otL; rw [show otB l t xs = false by simp [otB, hk]]; rfl)
    have HV := Lib.hid (show otB l t xs = false by simp [otB, hk])
    have HK := Lib.hid hk
    clear hk
    go_enter Try.func21, Try.ntmps21
    go_wp2_with fail
    refine (implAreRunners l a cap xs _ hR0 hn).mono ?_; rw [HK.out]; rintro e w0 ⟨rfl, hb0⟩
    go_wp2_with fail
    go_ret2
    rw [HL.out, HV.out]
    exact ⟨none, 0, rfl, ⟨rfl, .inl ⟨rfl, rfl⟩⟩, BA.trans (hb0.mono BA.size)⟩
  cases ht : rtOk t
  · have HL := Lib.hid (show otL l t xs = [] by unfold otL; rw [show otB l t xs = false by simp [otB, ht]]; rfl)
    have HV := Lib.hid (show otB l t xs = false by simp [otB, ht])
    have HK := Lib.hid hk
    have HT := Lib.hid ht
    clear hk ht
    go_enter Try.func21, Try.ntmps21
    go_wp2_with fail
    refine (implAreRunners l a cap xs _ hR0 hn).mono ?_; rw [HK.out]; rintro e w0 ⟨rfl, hb0⟩
    have hc0 : w0.cell? ⟨w.heap.size, 0, none⟩ = some (.int .i64 t) := by rw [(bcell hb0).1 _ _ (by simp)]; go_simp
    go_wp2_with (first | (go_at_call 48; refine (isRunTime_any t _).mono ?_; rw [HT.out]; rintro e w1 ⟨rfl, rfl⟩))
    go_ret2
    rw [HL.out, HV.out]
    exact ⟨none, 0, rfl, ⟨rfl, .inl ⟨rfl, rfl⟩⟩, BA.trans (hb0.mono BA.size)⟩
  have HL := Lib.hid (show otL l t xs = ordI (otK t xs) xs.length by unfold otL; rw [show otB l t xs = true by simp [otB, hk, ht]]; rfl)
  have HV := Lib.hid (show otB l t xs = true by simp [otB, hk, ht])
  have HR := rns_at hk
  have k1 := rtOk_iff.1 ht
  have HK := Lib.hid hk
  have HT := Lib.hid ht
  clear hk ht
  go_enter Try.func21, Try.ntmps21
  go_wp2_with fail
  refine (implAreRunners l a cap xs _ hR0 hn).mono ?_; rw [HK.out]; rintro e w0 ⟨rfl, hb0⟩
  have hs0 : w.heap.size + 1 ≤ w0.heap.size := by have := hb0.size; simpa using this
  have hc0 : w0.cell? ⟨w.heap.size, 0, none⟩ = some (.int .i64 t) := by rw [(bcell hb0).1 _ _ (by simp)]; go_simp
  have B0 := BA.trans (hb0.mono BA.size)
  go_wp2_with (first | (go_at_call 48; refine (isRunTime_any t _).mono ?_; rw [HT.out]; rintro e w1 ⟨rfl, rfl⟩))
  refine (inOrderR_any 50 #[.pointer (some ⟨w.heap.size, 0, none⟩)] (fun k j => cmpI (fr (px xs j) (py xs j) t) (fr (px xs k) (py xs k) t)) (otK t xs) a cap xs w0 (h.below B0) (enters_of Try.func50 (by kernel_rfl) rfl) ?_ (fun k j hk hj => ot_cmp hk hj) HR.1 (by omega)).mono ?_
  · intro k j W hk hj hB
    have r1 := rn1_iff.1 (HR.2.2 k hk)
    have r2 := rn1_iff.1 (HR.2.2 j hj)
    have e2 : (#[.agg #[.int .i64 (px xs k), .int .i64 (py xs k)], .agg #[.int .i64 (px xs j), .int .i64 (py xs j)]] ++ #[.pointer (some ⟨w.heap.size, 0, none⟩)] : Array Value) = #[.agg #[.int .i64 (px xs k), .int .i64 (py xs k)], .agg #[.int .i64 (px xs j), .int .i64 (py xs j)], .pointer (some ⟨w.heap.size, 0, none⟩)] := by simp
    rw [e2]
    exact otCmp_any _ _ _ _ t w.heap.size W (by rw [(bcell hB).1 _ _ (by omega)]; exact hc0) (by have := hB.size; omega) (by omega) (by omega) (by omega) (by omega) (by omega) (by omega) (by omega) (by omega) (by omega) (by omega)
  rintro e w5 ⟨⟨a2, c2, rfl, hO⟩, hb5⟩
  go_wp2_with fail
  go_ret2
  rw [HL.out, HV.out]
  refine ⟨a2, c2, by rw [ordI_length]; rfl, ?_, B0.trans (hb5.mono B0.size)⟩
  unfold Own
  rw [ordI_length]
  exact row_base hO (by omega)
set_option maxHeartbeats 4000000 in
set_option maxRecDepth 100000 in
theorem specOrderOnTrack (l : Int) (a : Option Addr) (cap : Nat) (xs : List (Int × Int)) (t : Int) (w : World) (h : RdP w a xs) (hn : xs.length ≤ 1048576) :
    Calls Try.prog 19 #[.int .i64 l, .slice a xs.length cap, .int .i64 t] w (RetS w (otL l t xs) (otB l t xs)) := by
  obtain ⟨i0, hi, hz0, hz1, hz2⟩ := info_parts intInfo
  cases hk : rns l xs
  · have HL := Lib.hid (show otL l t xs = [] by unfold otL; rw [show otB l t xs = false by simp [otB, hk]]; rfl); have HV := Lib.hid (show otB l t xs = false by simp [otB, hk])
    have HK := Lib.hid hk
    clear hk
    go_enter Try.func19, Try.ntmps19
    go_wp2_with fail
    refine (trList_any l a cap xs _ h hn).mono ?_; rw [HK.out]; rintro e w0 ⟨rfl, hb0⟩
    go_wp2_with fail
    go_ret2
    rw [HL.out, HV.out]
    exact ⟨none, 0, rfl, ⟨rfl, .inl ⟨rfl, rfl⟩⟩, hb0⟩
  cases ht : rtOk t
  · have HL := Lib.hid (show otL l t xs = [] by unfold otL; rw [show otB l t xs = false by simp [otB, ht]]; rfl); have HV := Lib.hid (show otB l t xs = false by simp [otB, ht])
    have HK := Lib.hid hk
    have HT := Lib.hid ht
    clear hk ht
    go_enter Try.func19, Try.ntmps19
    go_wp2_with fail
    refine (trList_any l a cap xs _ h hn).mono ?_; rw [HK.out]; rintro e w0 ⟨rfl, hb0⟩
    go_wp2_with (first | (go_at_call 43; refine (trTime_any t _).mono ?_; rw [HT.out]; rintro e w1 ⟨rfl, rfl⟩))
    go_ret2
    rw [HL.out, HV.out]
    exact ⟨none, 0, rfl, ⟨rfl, .inl ⟨rfl, rfl⟩⟩, hb0⟩
  have HL := Lib.hid (show otL l t xs = ordI (otK t xs) xs.length by unfold otL; rw [show otB l t xs = true by simp [otB, hk, ht]]; rfl)
  have HV := Lib.hid (show otB l t xs = true by simp [otB, hk, ht])
  have HR := rns_at hk
  have tt := rtOk_iff.1 ht
  have t1 := tt.1
  have t2 := tt.2
  have HK := Lib.hid hk
  have HT := Lib.hid ht
  have n6 := HR.2.1
  have HBD := Lib.hid (show ∀ i, i < xs.length → 0 ≤ px xs i ∧ px xs i ≤ 1000 ∧ 0 ≤ py xs i ∧ py xs i ≤ 100 from fun i hi => by have := rn1_iff.1 (HR.2.2 i hi); omega)
  have HKA := Lib.hid (fun k (hk : k < xs.length) => otK_at (t := t) hk)
  clear hk ht HR tt
  obtain ⟨ks, hks⟩ : ∃ ks, ks = otK t xs := ⟨_, rfl⟩
  rw [← hks] at HL HKA
  obtain ⟨n, hn'⟩ : ∃ n, n = xs.length := ⟨_, rfl⟩
  have HN := Lib.hid hn'
  go_enter Try.func19, Try.ntmps19
  go_wp2_with fail
  refine (trList_any l a cap xs _ h hn).mono ?_; rw [HK.out]; rintro e w0 ⟨rfl, hb0⟩
  go_wp2_with (first | (go_at_call 43; refine (trTime_any t _).mono ?_; rw [HT.out]; rintro e w1 ⟨rfl, rfl⟩))
  go_loopg [8, 24] n (fun k v3 v10 wr => ∃ (j : Nat) (ao : Option Addr) (co : Nat), v3 = .slice ao j co ∧ v10 = .int .i64 (j : Int) ∧ j + k ≤ n ∧ n ≤ j + k ∧ wr.ownsRow w.heap.size 3 1 (.slice ao j co) j ((ordI ks j).map (Value.int .i64)) ∧ Below w.heap.size w wr)
  case atStart => exact ⟨0, none, 0, rfl, rfl, by omega, by omega, World.ownsRow_nil _ _ _ _, hb0⟩
  case round =>
    clear hb0
    obtain ⟨j, ao, co, rfl, rfl, h1, h2, hown, hbel⟩ := hrel
    by_cases hj : j < n
    · rcases h with h | ⟨b, off, rfl, hlt, hc⟩
      · rw [h] at hn'; simp at hn'; omega
      · obtain ⟨OG, rfl⟩ : ∃ G, G = gk := ⟨_, rfl⟩
        have hxy := HBD.out j (by omega)
        have hkj := HKA.out j (by omega)
        have cj0 : wr.cell? ⟨b, off + j * 2, none⟩ = some (.int .i64 (px xs j)) := by rw [(bcell hbel).1 b _ hlt]; exact (hc j (by omega)).1
        have cj1 : wr.cell? ⟨b, off + j * 2 + 1, none⟩ = some (.int .i64 (py xs j)) := by rw [(bcell hbel).1 b _ hlt]; exact (hc j (by omega)).2
        generalize px xs j = x at *
        generalize py xs j = y at *
        obtain ⟨wo, hwo⟩ : ∃ W, W = wr.alloc (.cells #[.int .i64 x, .int .i64 y] 71) := ⟨_, rfl⟩
        obtain ⟨RB, hRB⟩ : ∃ B, B = wr.heap.size := ⟨_, rfl⟩
        have hown1 : wo.ownsRow w.heap.size 3 1 (.slice ao j co) j ((ordI ks j).map (Value.int .i64)) := by rw [hwo]; exact hown.alloc _
        have hbel1 : Below w.heap.size w wo := by rw [hwo]; exact hbel.alloc hbel.size _
        have r0 : wo.cell? ⟨RB, 0, none⟩ = some (.int .i64 x) := by rw [hwo, hRB]; go_simp
        have r1 : wo.cell? ⟨RB, 1, none⟩ = some (.int .i64 y) := by rw [hwo, hRB]; go_simp
        have rs : RB < wo.heap.size := by rw [hwo, hRB]; simp
        have hjI : (j : Int) < (n : Int) := by omega
        have hjI2 : (j : Int) < (xs.length : Int) := by omega
        obtain ⟨AT, hAT⟩ : ∃ t, insAt ks (ks.getD j []) (ordK ks j) j = t := ⟨_, rfl⟩
        have HO := Lib.hid hown1
        have HB := Lib.hid hbel1
        have HC := Lib.hid hc
        have HAT := Lib.hid hAT
        have HKJ := Lib.hid hkj
        have HJ := Lib.hid (And.intro h1 h2)
        have HWO := Lib.hid hwo
        have HRB := Lib.hid hRB
        have hsz := hbel1.size
        clear hown hbel hown1 hbel1 hc hAT h1 h2 hkj hwo
        go_wp2_with fail
        rw [← HWO.out, ← HRB.out]
        clear HWO hRB HRB cj0 cj1
        go_loopg [11] j (fun k v6 wi => ∃ (t : Nat), v6 = .int .i64 (t : Int) ∧ t = k ∧ t ≤ j ∧ Hid (insAt ks (ks.getD j []) (ordK ks j) t = AT) ∧ Below wo.heap.size wo wi)
        case atStart => exact ⟨j, rfl, rfl, Nat.le_refl _, HAT.out, Below.refl _ _⟩
        case round =>
          obtain ⟨t, rfl, htk, htj, hins, hbi⟩ := hrel
          have hszi := hbi.size
          have HBI := Lib.hid hbi
          have HTK := Lib.hid htk
          clear htk
          by_cases t0 : t = 0
          · subst t0
            have hT : Hid (AT = 0) := by unfold Hid; rw [← hins.out]; rfl
            have hOi := rowB HO.out hbi
            clear hins hbi
            go_wp2_with fail
            go_quiet (fail)
            have hOz : (wr.drewN nq).ownsRow w.heap.size 3 1 (.slice ao j co) j ((ordI ks j).map (Value.int .i64)) := hOi
            have HBZ := Lib.hid (below_drewN HBI.out nq)
            clear hOi HBI
            have hOi := hOz
            have HBI := HBZ
            clear hOz HBZ
            generalize wr.drewN nq = wr at *
            have hszi := HBI.out.size
            rcases row_two hOi with ⟨rfl, rfl, rfl⟩ | ⟨g, rfl, hg1, hg2⟩
            · have hL := Lib.hid (l1Own_any none 0 0 [] wr (.inl ⟨rfl, rfl, rfl⟩) rfl (by omega))
              clear hOi
              have hszw : w.heap.size ≤ wr.heap.size := by omega
              go_wp2_with (first
                | (go_at_call 45; refine hL.out.mono ?_; rintro e w6 ⟨a2, c2, rfl, hO2, hb6⟩; have hz6 := hb6.size)
                | (at_builtin; refine wpList_append_own _ rfl _ _ 24 rfl wr.heap.size 3 i0 (.int .i64 0) 1 8 Try.underlying24 hi hz0 hz1 hz2 rfl (by decide) _ _ _ rfl (hO2.alloc _) ⟨w6.heap.size, 0, none⟩ 1 1 [.int .i64 0] rfl rfl (cell_one_new _ _ _) (fun u hu => by simp at hu; subst hu; rfl) (by unfold maxLen; omega) (by omega) (by simp; omega) ?_; intro v1 w7 hO7 hgrow hx; clear hx; have HG7 := Lib.hid hgrow; clear hgrow)
                | (at_builtin; refine wpList_append_own_none rfl _ _ 24 rfl wr.heap.size 3 i0 1 Try.underlying24 hi _ _ _ rfl hO7 rfl ?_)
                | fail)
              have hb7 := ((hb6.alloc hb6.size _).grown HG7.out (by simp; omega) (fun k hk => (hO2.lt k hk).1))
              have B7 := (HB.out.trans (HBI.out.mono hsz)).trans (hb7.mono hszw)
              have hO8 := row_base hO7 hszw
              obtain ⟨a7, c7, rfl⟩ := row_form hO8
              have e1 : ordI ks 1 = [(0 : Int)] := by simp [ordI, ordK, insAt]
              go_roundg (OG - 1)
              case rel => exact ⟨1, a7, c7, rfl, rfl, by have := HJ.out; omega, by have := HJ.out; omega, by rw [e1]; exact hO8, B7⟩
              case measure => have := HJ.out; omega
            · have hcells := ints_at hOi (ordI_length ks j)
              have hL := Lib.hid (l1Own_any (some ⟨g, 0, none⟩) co 0 ((ordI ks j).take 0) wr (.inr ⟨g, 0, rfl, hg2, fun i hi => by simp at hi⟩) (by simp) (by omega))
              have hszw : w.heap.size ≤ wr.heap.size := by omega
              clear hOi
              go_wp2_with (first
                | (go_at_call 45; refine hL.out.mono ?_; rintro e w6 ⟨a2, c2, rfl, hO2, hb6⟩; have hz6 := hb6.size)
                | (at_builtin; refine wpList_append_own _ rfl _ _ 24 rfl wr.heap.size 3 i0 (.int .i64 0) 1 8 Try.underlying24 hi hz0 hz1 hz2 rfl (by decide) _ _ _ rfl (hO2.alloc _) ⟨w6.heap.size, 0, none⟩ 1 1 [.int .i64 (j : Int)] rfl rfl (cell_one_new _ _ _) (fun u hu => by simp at hu; subst hu; rfl) (by unfold maxLen; omega) (by omega) (by simp; omega) ?_; intro v1 w7 hO7 hgrow hx; clear hx; have HG7 := Lib.hid hgrow; clear hgrow)
                | (at_builtin; have hb7 := Lib.hid ((hb6.alloc hb6.size _).grown HG7.out (by simp; omega) (fun k hk => (hO2.lt k hk).1)); refine wpList_append_own _ rfl _ _ 24 rfl wr.heap.size 3 i0 (.int .i64 0) 1 8 Try.underlying24 hi hz0 hz1 hz2 rfl (by decide) _ _ _ rfl hO7 ⟨g, 0, none⟩ j co ((ordI ks j).map (Value.int .i64)) rfl (by rw [List.length_map, ordI_length]; omega) (ints_news (fun i hi => by rw [(bcell hb7.out).1 g _ hg2, Nat.zero_add]; exact hcells i (by rw [ordI_length] at hi; exact hi))) ints_one (by unfold maxLen; omega) (by omega) (by have := hb7.out.size; omega) ?_; intro v8 w8 hO8 hgrow hx; clear hx; have HG8 := Lib.hid hgrow; clear hgrow)
                | fail)
              have hb8 := hb7.out.grown HG8.out hb7.out.size (fun k hk => (hO7.lt k hk).1)
              have B8 := (HB.out.trans (HBI.out.mono hsz)).trans (hb8.mono hszw)
              have hO9 := row_base hO8 hszw
              rw [show 0 + 1 + j = j + 1 from by omega] at hO9
              obtain ⟨a7, c7, rfl⟩ := row_form hO9
              have e1 := ordI_succ ks j 0 (HAT.out.trans hT.out)
              go_roundg (OG - 1)
              case rel => exact ⟨j + 1, a7, c7, rfl, by go_num, by have := HJ.out; omega, by have := HJ.out; omega, by rw [e1, List.map_append, List.map_append]; exact hO9, B8⟩
              case measure => have := HJ.out; omega
          · obtain ⟨s, rfl⟩ : ∃ s, t = s + 1 := ⟨t - 1, by omega⟩
            have hOi := rowB HO.out hbi
            obtain ⟨g, rfl, hg1, hg2, hcap⟩ := row_some hOi (by omega)
            have ho : (ordK ks j).getD s 0 < j := ordK_at ks (by omega)
            have hco : wr.cell? ⟨g, s, none⟩ = some (.int .i64 (((ordK ks j).getD s 0 : Nat) : Int)) := by
              rw [hOi.cellAt s (by omega), List.getElem?_map, ← ordI_at ks (by omega)]
              rw [List.getElem?_eq_getElem (by rw [ordI_length]; omega)]
              simp [List.getD, List.getElem?_eq_getElem (show s < (ordI ks j).length by rw [ordI_length]; omega)]
            have hBa := HB.out.trans (hbi.mono hsz)
            have ci0 : wr.cell? ⟨b, off + (ordK ks j).getD s 0 * 2, none⟩ = some (.int .i64 (px xs ((ordK ks j).getD s 0))) := by rw [(bcell hBa).1 b _ hlt]; exact (HC.out _ (by omega)).1
            have ci1 : wr.cell? ⟨b, off + (ordK ks j).getD s 0 * 2 + 1, none⟩ = some (.int .i64 (py xs ((ordK ks j).getD s 0))) := by rw [(bcell hBa).1 b _ hlt]; exact (HC.out _ (by omega)).2
            have q0 : wr.cell? ⟨RB, 0, none⟩ = some (.int .i64 x) := by rw [(bcell hbi).1 RB _ rs]; exact r0
            have q1 : wr.cell? ⟨RB, 1, none⟩ = some (.int .i64 y) := by rw [(bcell hbi).1 RB _ rs]; exact r1
            have hzR : RB < wr.heap.size := by omega
            have hzb : b < wr.heap.size := by have := hBa.size; omega
            have hbo := HBD.out ((ordK ks j).getD s 0) (by omega)
            have hKo := Lib.hid (HKA.out ((ordK ks j).getD s 0) (by omega))
            have hX : Hid (insAt ks (ks.getD j []) (ordK ks j) (s + 1) = if lexB (ks.getD j []) (ks.getD ((ordK ks j).getD s 0) []) then insAt ks (ks.getD j []) (ordK ks j) s else s + 1) := rfl
            clear hBa hOi
            have hLX : lexB (ks.getD j []) (ks.getD ((ordK ks j).getD s 0) []) = decide (fr (px xs ((ordK ks j).getD s 0)) (py xs ((ordK ks j).getD s 0)) t < fr x y t) := by rw [HKJ.out, hKo.out, lexB_neg]
            clear hKo
            generalize (ordK ks j).getD s 0 = o at *
            generalize px xs o = p at *
            generalize py xs o = q at *
            have hoI : (o : Int) < (xs.length : Int) := by omega
            have hsI : (s : Int) < (j : Int) := by omega
            have eS : ((s + 1 : Nat) : Int) = (s : Int) + 1 := by omega
            have ec : ((s : Int)).toNat = s := by omega
            have pc : (0 : Int) ≤ (s : Int) := by omega
            have rc : IntKind.i64.wrap ((s : Int)) = (s : Int) := by rw [IntKind.wrap_i64]; omega
            have po : (0 : Int) ≤ (o : Int) := by omega
            have eo : ((o : Int)).toNat = o := by omega
            have n6I : (xs.length : Int) ≤ 6 := by omega
            have jsI : (j : Int) ≤ 6 := by omega
            have dg2 : decide ((0 : Int) < (s : Int) + 1) = true := decide_eq_true (by omega)
            have sI : (0 : Int) < (s : Int) + 1 := by omega
            have sjI : (s : Int) + 1 ≤ (j : Int) := by omega
            rw [eS]
            cases hl : lexB (ks.getD j []) (ks.getD o []) with
            | true =>
              have hdl : decide (fr p q t < fr x y t) = true := hLX.symm.trans hl
              have hins2 : Hid (insAt ks (ks.getD j []) (ordK ks j) s = AT) := by
                unfold Hid; have := hins.out; rw [hX.out, hl] at this; exact this
              clear hins hl hX hbi
              go_wp2_with fail
              go_region_held3 (fun w' => Below wr.heap.size wr w' ∧ w'.cell? ⟨g, s, none⟩ = some (.int .i64 (o : Int)) ∧ w'.cell? ⟨b, off + o * 2, none⟩ = some (.int .i64 p) ∧ w'.cell? ⟨b, off + o * 2 + 1, none⟩ = some (.int .i64 q) ∧ w'.cell? ⟨RB, 0, none⟩ = some (.int .i64 x) ∧ w'.cell? ⟨RB, 1, none⟩ = some (.int .i64 y))
                (refine ⟨?_, ?_, ?_, ?_, ?_, ?_⟩ <;> first | assumption | (go_simp; done) | (repeat (first | exact Below.refl _ _ | refine Below.drew ?_ | refine bchain ?_ (by assumption) (by first | omega | (simp; done) | (simp; omega)))))
                (first | (go_at_call_of 44 (Value.agg #[.int .i64 p, .int .i64 q]); refine (trFar_any p q t (by omega) (by omega) (by omega) (by omega) t1 t2 _).mono ?_; rintro e w3 ⟨rfl, hb3⟩; have hz3 := hb3.size; have u1 := fun o => (bcell hb3).1 g o (by first | omega | (simp; omega)); have u2 := fun o => (bcell hb3).1 b o (by first | omega | (simp; omega)); have u3 := fun o => (bcell hb3).1 RB o (by first | omega | (simp; omega)); (try simp at hz3)) | (go_at_call_of 44 (Value.agg #[.int .i64 x, .int .i64 y]); refine (trFar_any x y t (by omega) (by omega) (by omega) (by omega) t1 t2 _).mono ?_; rintro e w5 ⟨rfl, hb5⟩; have hz5 := hb5.size; have v1 := fun o => (bcell hb5).1 g o (by first | omega | (simp; omega)); have v2 := fun o => (bcell hb5).1 b o (by first | omega | (simp; omega)); have v3 := fun o => (bcell hb5).1 RB o (by first | omega | (simp; omega)); (try simp at hz5)))
              rename_i hHeld
              have hb5 := hHeld.1
              go_wp2_with fail
              go_roundg s
              case rel => exact ⟨s, rfl, rfl, by omega, hins2, HBI.out.trans (hb5.mono HBI.out.size)⟩
              case measure => have := HTK.out; omega
            | false =>
              have hdl : decide (fr p q t < fr x y t) = false := hLX.symm.trans hl
              have hT : Hid (AT = s + 1) := by
                unfold Hid; have := hins.out; rw [hX.out, hl] at this; exact this.symm
              clear hins hl hX hbi
              have hcI2 : (s : Int) + 1 ≤ (co : Int) := by omega
              go_wp2_with fail
              go_region_held3 (fun w' => Below wr.heap.size wr w' ∧ w'.cell? ⟨g, s, none⟩ = some (.int .i64 (o : Int)) ∧ w'.cell? ⟨b, off + o * 2, none⟩ = some (.int .i64 p) ∧ w'.cell? ⟨b, off + o * 2 + 1, none⟩ = some (.int .i64 q) ∧ w'.cell? ⟨RB, 0, none⟩ = some (.int .i64 x) ∧ w'.cell? ⟨RB, 1, none⟩ = some (.int .i64 y))
                (refine ⟨?_, ?_, ?_, ?_, ?_, ?_⟩ <;> first | assumption | (go_simp; done) | (repeat (first | exact Below.refl _ _ | refine Below.drew ?_ | refine bchain ?_ (by assumption) (by first | omega | (simp; done) | (simp; omega)))))
                (first | (go_at_call_of 44 (Value.agg #[.int .i64 p, .int .i64 q]); refine (trFar_any p q t (by omega) (by omega) (by omega) (by omega) t1 t2 _).mono ?_; rintro e w3 ⟨rfl, hb3⟩; have hz3 := hb3.size; have u1 := fun o => (bcell hb3).1 g o (by first | omega | (simp; omega)); have u2 := fun o => (bcell hb3).1 b o (by first | omega | (simp; omega)); have u3 := fun o => (bcell hb3).1 RB o (by first | omega | (simp; omega)); (try simp at hz3)) | (go_at_call_of 44 (Value.agg #[.int .i64 x, .int .i64 y]); refine (trFar_any x y t (by omega) (by omega) (by omega) (by omega) t1 t2 _).mono ?_; rintro e w5 ⟨rfl, hb5⟩; have hz5 := hb5.size; have v1 := fun o => (bcell hb5).1 g o (by first | omega | (simp; omega)); have v2 := fun o => (bcell hb5).1 b o (by first | omega | (simp; omega)); have v3 := fun o => (bcell hb5).1 RB o (by first | omega | (simp; omega)); (try simp at hz5)))
              rename_i hHeld
              have hb5 := hHeld.1
              go_wp2_with fail
              have hbx := HBI.out.trans (hb5.mono HBI.out.size)
              have hOx := rowB HO.out hbx
              have hcells := ints_at hOx (ordI_length ks j)
              have hgx : g < w5.heap.size := (hOx.lt g rfl).2
              have hszw : w.heap.size ≤ w5.heap.size := Nat.le_trans hsz hbx.size
              have HBX := Lib.hid hbx
              clear hOx hbx hb5
              refine (l1Own_any (some ⟨g, 0, none⟩) co (s + 1) ((ordI ks j).take (s + 1)) w5 (.inr ⟨g, 0, rfl, hgx, fun i hi => by
                rw [List.length_take] at hi
                rw [Nat.zero_add, take_at (by omega)]; exact hcells i (by omega)⟩) (by rw [List.length_take, ordI_length]; omega) (by omega)).mono ?_
              rintro e w6 ⟨a2, c2, rfl, hO2, hb6⟩
              have hz6 := hb6.size
              by_cases hct : co = s + 1
              · have hjs : j = s + 1 := by omega
                subst hct
                subst hjs
                have hd : (ordI ks (s + 1)).drop (s + 1) = [] := List.drop_of_length_le (by rw [ordI_length]; exact Nat.le_refl _)
                go_wp2_with (first
                  | (at_builtin; refine wpList_append_own _ rfl _ _ 24 rfl w5.heap.size 3 i0 (.int .i64 0) 1 8 Try.underlying24 hi hz0 hz1 hz2 rfl (by decide) _ _ _ rfl (hO2.alloc _) ⟨w6.heap.size, 0, none⟩ 1 1 [.int .i64 ((s : Int) + 1)] rfl rfl (cell_one_new _ _ _) (fun u hu => by simp at hu; subst hu; rfl) (by unfold maxLen; omega) (by omega) (by simp; omega) ?_; intro v1 w7 hO7 hgrow hx; clear hx; have HG7 := Lib.hid hgrow; clear hgrow)
                  | (at_builtin; have hb7 := Lib.hid ((hb6.alloc hb6.size _).grown HG7.out (by simp; omega) (fun k hk => (hO2.lt k hk).1)); refine wpList_append_own _ rfl _ _ 24 rfl w5.heap.size 3 i0 (.int .i64 0) 1 8 Try.underlying24 hi hz0 hz1 hz2 rfl (by decide) _ _ _ rfl hO7 ⟨g, 0, none⟩ 0 0 [] rfl rfl (fun i u hu => by simp at hu) (fun u hu => by simp at hu) (by unfold maxLen; omega) (by omega) (by have := hb7.out.size; omega) ?_; intro v8 w8 hO8 hgrow hx; clear hx; have HG8 := Lib.hid hgrow; clear hgrow)
                  | fail)
                have hb8 := hb7.out.grown HG8.out hb7.out.size (fun k hk => (hO7.lt k hk).1)
                have B8 := (HB.out.trans (HBX.out.mono hsz)).trans (hb8.mono hszw)
                have hO9 := row_base hO8 hszw
                rw [show s + 1 + 1 + 0 = s + 1 + 1 from by omega, List.append_nil] at hO9
                obtain ⟨a7, c7, rfl⟩ := row_form hO9
                have e1 := ordI_succ ks (s + 1) (s + 1) (HAT.out.trans hT.out)
                rw [hd, List.append_nil] at e1
                go_roundg (OG - 1)
                case rel => exact ⟨s + 1 + 1, a7, c7, rfl, by go_num, by have := HJ.out; omega, by have := HJ.out; omega, by rw [e1, List.map_append]; exact hO9, B8⟩
                case measure => have := HJ.out; omega
              · go_wp2_with (first
                  | (at_builtin; refine wpList_append_own _ rfl _ _ 24 rfl w5.heap.size 3 i0 (.int .i64 0) 1 8 Try.underlying24 hi hz0 hz1 hz2 rfl (by decide) _ _ _ rfl (hO2.alloc _) ⟨w6.heap.size, 0, none⟩ 1 1 [.int .i64 (j : Int)] rfl rfl (cell_one_new _ _ _) (fun u hu => by simp at hu; subst hu; rfl) (by unfold maxLen; omega) (by omega) (by simp; omega) ?_; intro v1 w7 hO7 hgrow hx; clear hx; have HG7 := Lib.hid hgrow; clear hgrow)
                  | (at_builtin; have hb7 := Lib.hid ((hb6.alloc hb6.size _).grown HG7.out (by simp; omega) (fun k hk => (hO2.lt k hk).1)); refine wpList_append_own _ rfl _ _ 24 rfl w5.heap.size 3 i0 (.int .i64 0) 1 8 Try.underlying24 hi hz0 hz1 hz2 rfl (by decide) _ _ _ rfl hO7 ⟨g, s + 1, none⟩ (j - (s + 1)) (co - (s + 1)) (((ordI ks j).drop (s + 1)).map (Value.int .i64)) rfl (by rw [List.length_map, List.length_drop, ordI_length]; omega) (ints_news (fun i hi => by rw [List.length_drop, ordI_length] at hi; rw [(bcell hb7.out).1 g _ hgx, drop_at]; exact hcells (s + 1 + i) (by omega))) ints_one (by unfold maxLen; omega) (by omega) (by have := hb7.out.size; omega) ?_; intro v8 w8 hO8 hgrow hx; clear hx; have HG8 := Lib.hid hgrow; clear hgrow)
                  | fail)
                have hb8 := hb7.out.grown HG8.out hb7.out.size (fun k hk => (hO7.lt k hk).1)
                have B8 := (HB.out.trans (HBX.out.mono hsz)).trans (hb8.mono hszw)
                have hO9 := row_base hO8 hszw
                rw [show s + 1 + 1 + (j - (s + 1)) = j + 1 from by omega] at hO9
                obtain ⟨a7, c7, rfl⟩ := row_form hO9
                have e1 := ordI_succ ks j (s + 1) (HAT.out.trans hT.out)
                go_roundg (OG - 1)
                case rel => exact ⟨j + 1, a7, c7, rfl, by go_num, by have := HJ.out; omega, by have := HJ.out; omega, by rw [e1, List.map_append, List.map_append]; exact hO9, B8⟩
                case measure => have := HJ.out; omega
    · have e : j = n := by omega
      have HP := Lib.hid (And.intro hown hbel)
      clear hown hbel
      subst e
      subst hn'
      go_wp2_with fail
      go_ret2
      rw [HL.out, HV.out]
      refine ⟨ao, co, by rw [ordI_length]; rfl, ?_, HP.out.2⟩
      unfold Own
      rw [ordI_length]
      exact HP.out.1
end Go.Proofs.Ytkmidpcglpeikaa
