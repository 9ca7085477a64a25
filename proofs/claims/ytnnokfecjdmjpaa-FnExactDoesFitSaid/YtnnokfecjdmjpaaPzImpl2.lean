/- Puzzles (chapter 9): the program's riddles without a clue, copied, needless clues, how many are left, the best clue, harder puzzles. -/
import Derived.Test.YtnnokfecjdmjpaaPzImpl
import Derived.Test.YtnnokfecjdmjpaaPzPart
import Derived.Test.YtnnokfecjdmjpaaPzSpec5
import Derived.WalkKit
import Derived.WalkSpells
import Derived.WalkLawsBesides
import Derived.Lib.Hide
import Derived.Lib.SliceRun
import Derived.Deep.LoopGhost
import Derived.Deep.QuietTactic
import Derived.Deep.RegionWith
import Derived.Deep.RegionLaw
import Derived.Deep.RegionHeld3
import Derived.BigQuiet
namespace Go.Proofs.Ytnnokfecjdmjpaa
open Go.RowKit
set_option linter.unusedVariables false
set_option linter.unusedSimpArgs false
set_option maxHeartbeats 4000000 in
set_option maxRecDepth 100000 in
theorem without_any (a : Option Addr) (cap : Nat) (xs : List (Int × Int × Int)) (k : Nat) (w : World) (h : RdT w a xs) (hn : xs.length ≤ 1048576) (hcap : xs.length ≤ cap) (hk : k < xs.length) :
    Calls Try.prog 88 #[.slice a xs.length cap, .int .i64 (k : Int)] w fun e w' => ∃ (A' : Addr) (c' : Nat), e = .returned (.slice (some A') (drp xs k).length c') ∧ RdT w' (some A') (drp xs k) ∧ (drp xs k).length ≤ c' ∧ Below w.heap.size w w' := by
  obtain ⟨i0, hi, hz0, hz1, hz2⟩ := info_parts cluesInfo
  rcases h with h | ⟨b, off, rfl, hlt, hc⟩
  · rw [h] at hk; exact absurd hk (Nat.not_lt_zero _)
  have hkI : (k : Int) < (xs.length : Int) := by omega
  have hwr : IntKind.i64.wrap ((k : Int) + 1) = (k : Int) + 1 := IntWalk.i64_in _ (by omega)
  have hp0 : (0 : Int) ≤ (k : Int) + 1 := by omega
  have hp1 : (k : Int) + 1 ≤ (xs.length : Int) := by omega
  have hp2 : ((k : Int) + 1).toNat = k + 1 := by omega
  have hp3 : k ≤ cap := by omega
  have hp4 : (k : Int) ≤ (cap : Int) := by omega
  have hd : (drp xs k).length = k + (xs.length - (k + 1)) := by rw [drp_len hk]; omega
  have hnews1 := Lib.hid (take_news hc k)
  obtain ⟨A, hA, hAb, hnews2⟩ := drop_news hc k hk hcap
  have Hnews2 := Lib.hid hnews2
  have hl1 := Lib.hid (show (cs3 (xs.take k)).length = k * 3 by rw [cs3_length, List.length_take]; congr 1; omega)
  have hl2 := Lib.hid (show (cs3 (xs.drop (k + 1))).length = (xs.length - (k + 1)) * 3 by rw [cs3_length, List.length_drop])
  have hAb' := Lib.hid (show A.block < w.heap.size by rw [hAb]; exact hlt)
  have hcs := Lib.hid (show cs3 (xs.take k) ++ cs3 (xs.drop (k + 1)) = cs3 (drp xs k) by unfold drp; rw [cs3_append])
  have hD := Lib.hid hd
  clear hd hnews2 hAb hc
  go_enter Try.func88, Try.ntmps88
  go_wp2_with fail
  go_region_law (first
    | (refine step_append_part _ rfl (.tmp 8) (.tmp 12) 78 rfl 25 i0 (.agg #[.int .i64 0, .int .i64 0, .int .i64 0]) 3 24 Try.underlying78 hi hz0 hz1 hz2 rfl b off k (by simp [Act.eval, Act.put]) (cs3 (xs.take k)) hl1.out (news_below hnews1.out hlt (by (repeat (first | exact Below.refl _ _ | refine Below.drew ?_)))) (by first | assumption | (simp; done) | (simp; omega)) A (xs.length - (k + 1)) (cap - (k + 1)) (by simp [Act.eval, Act.put]) (cs3 (xs.drop (k + 1))) hl2.out (news_below Hnews2.out hAb'.out (by (repeat (first | exact Below.refl _ _ | refine Below.drew ?_)))) (cs3_one _) (by unfold maxLen; omega) (by omega) (k + (xs.length - (k + 1))) rfl ?_; intro b2 off2 c2 w2 hN2 hlt2 hc2 hb2; have HN2 := Lib.hid hN2; have B2 : Below w.heap.size w w2 := bchain (by (repeat (first | exact Below.refl _ _ | refine Below.drew ?_))) hb2 (by first | exact Nat.le_refl _ | (simp; done)); clear hN2 hb2))
  all_goals
    go_wp2_with fail
    go_ret
    refine ⟨⟨b2, off2, none⟩, c2, by rw [hD.out]; rfl, rd_of_newsT hlt2 (by rw [← hcs.out]; exact HN2.out), by rw [hD.out]; exact hc2, B2⟩
set_option maxHeartbeats 1000000 in
set_option maxRecDepth 100000 in
theorem cloneC_any (A : Addr) (cap : Nat) (xs : List (Int × Int × Int)) (w : World) (h : RdT w (some A) xs) (hn : xs.length ≤ 1048576) :
    Calls Try.prog 95 #[.slice (some A) xs.length cap] w fun e w' => ∃ a2 c2, e = .returned (.slice a2 xs.length c2) ∧ OwnC w' w.heap.size a2 c2 xs ∧ Below w.heap.size w w' := by
  obtain ⟨i0, hi, hz0, hz1, hz2⟩ := info_parts cluesInfo
  have hnil : ∀ w : World, (binOp .eql 78 (.slice (some A) xs.length cap) (.slice none 0 0)).run Try.prog w = .ok (.bool false) w := fun w => Go.Lib.run_eql_slice_nil w 78 25 (some A) xs.length cap 0 0 Try.underlying78
  have HNW := Lib.hid (fun (W : World) (hb : Below w.heap.size w W) => h.newsAt hb)
  go_enter Try.func95, Try.ntmps95
  go_wp2_with (first | (at_builtin; refine wpList_append_anyN _ rfl _ _ 78 rfl w.heap.size 25 i0 (.agg #[.int .i64 0, .int .i64 0, .int .i64 0]) 3 24 Try.underlying78 hi hz0 hz1 hz2 rfl (by decide) _ _ _ rfl (own_lit_at w w.heap.size w.heap.size 25 rfl (Nat.le_refl _)) A xs.length cap (cs3 xs) rfl (cs3_length xs) (HNW.out _ (by (repeat (first | assumption | exact Below.refl _ _ | refine Below.drew ?_ | refine below_drewN ?_ _ | refine Below.setCell ?_ (by first | omega | (simp; done) | (simp; omega)) _ | refine Below.alloc ?_ (by first | omega | (simp; done) | (simp; omega)) _ | refine bchain ?_ (by assumption) (by first | omega | (simp; done) | (simp; omega)))))) (cs3_one _) (by unfold maxLen; omega) (by omega) (by first | omega | (simp; done) | (simp; omega)) xs.length (Nat.zero_add _) ?_; intro a2 c2 w2 hO2 hg2; have B2 : Below w.heap.size w w2 := Below.grown (show Below w.heap.size w _ from by (repeat (first | assumption | exact Below.refl _ _ | refine Below.drew ?_ | refine below_drewN ?_ _ | refine Below.setCell ?_ (by first | omega | (simp; done) | (simp; omega)) _ | refine Below.alloc ?_ (by first | omega | (simp; done) | (simp; omega)) _ | refine bchain ?_ (by assumption) (by first | omega | (simp; done) | (simp; omega))))) hg2 (by first | omega | (simp; done) | (simp; omega)) (fun x hx => by have e : w.heap.size = x := Option.some.inj hx; omega); have HO2 := Lib.hid hO2; clear hg2))
  go_ret
  exact ⟨a2, c2, rfl, HO2.out, B2⟩
set_option maxHeartbeats 1000000 in
set_option maxRecDepth 100000 in
theorem puzzle_any (A : Addr) (cap : Nat) (xs : List (Int × Int × Int)) (w : World) (h : RdT w (some A) xs) (hn : xs.length ≤ 1048576) :
    Calls Try.prog 60 #[.slice (some A) xs.length cap] w fun e w' => ∃ a2 c2, e = .returned (.agg #[.slice a2 xs.length c2]) ∧ OwnC w' w.heap.size a2 c2 xs ∧ Below w.heap.size w w' := by
  go_enter Try.func60, Try.ntmps60
  go_wp2_with (first | (go_at_call 95; refine (cloneC_any A cap xs _ (h.below (by (repeat (first | assumption | exact Below.refl _ _ | refine Below.drew ?_ | refine below_drewN ?_ _ | refine Below.setCell ?_ (by first | omega | (simp; done) | (simp; omega)) _ | refine Below.alloc ?_ (by first | omega | (simp; done) | (simp; omega)) _ | refine bchain ?_ (by assumption) (by first | omega | (simp; done) | (simp; omega)))))) hn).mono ?_; rintro e w1 ⟨a2, c2, rfl, hO, hb⟩; have hs := hb.size; (try simp only [World.size_alloc] at hs); have hcA := fun o => (bcell hb).1 w.heap.size o (by first | omega | (simp; done) | (simp; omega)); have hfA := fun o => (bcell hb).2 w.heap.size o (by first | omega | (simp; done) | (simp; omega))))
  have z0 : w1.cell? ⟨w.heap.size, 0, none⟩ = some (.slice none 0 0) := by rw [hcA]; go_simp
  refine bodyPost_ret (v := .agg #[.slice a2 xs.length c2]) (by simp [results, Try.results60, go_sem, z0]) rfl ⟨_, _, rfl, ?_, by (repeat (first | assumption | exact Below.refl _ _ | refine Below.drew ?_ | refine below_drewN ?_ _ | refine Below.setCell ?_ (by first | omega | (simp; done) | (simp; omega)) _ | refine Below.alloc ?_ (by first | omega | (simp; done) | (simp; omega)) _ | refine bchain ?_ (by assumption) (by first | omega | (simp; done) | (simp; omega))))⟩
  unfold OwnC at hO
  simp only [World.size_alloc] at hO
  exact row_low (row_setLow hO _ _ (by simp)) (by omega)
set_option maxHeartbeats 4000000 in
set_option maxRecDepth 100000 in
theorem needless_any (a : Option Addr) (cap : Nat) (xs : List (Int × Int × Int)) (w : World) (h : RdT w a xs) (h6 : xs.length ≤ 6) (hcap : xs.length ≤ cap) (hcl : clA xs = true) :
    Calls Try.prog 85 #[.slice a xs.length cap] w fun e w' => ∃ a' c', e = .returned (.slice a' (ndN xs xs.length).length c') ∧ Own w' w.heap.size a' c' (ndN xs xs.length) ∧ Below w.heap.size w w' := by
  obtain ⟨i0, hi, hz0, hz1, hz2⟩ := info_parts intInfo
  have HN := Lib.hid (fun k => ndN_len xs k)
  have HT := Lib.hid (fun k => drp_cl k hcl)
  have HDL := Lib.hid (fun k (hk : k < xs.length) => drp_len hk)
  obtain ⟨N, hN⟩ : ∃ N, N = (sol xs).length := ⟨_, rfl⟩
  have hN2 : N ≤ 156 := by rw [hN]; exact sol_len xs
  have HNK := Lib.hid (fun k => (show ndN xs (k + 1) = ndN xs k ++ (if (sol (drp xs k)).length = N then [(k : Int)] else []) by rw [hN]; rfl))
  have HA := Lib.hid (fun w h => count_any a cap xs w h (by omega) hcl)
  rw [← hN] at HA
  have HR := Lib.hid h
  clear hN hcl h
  have HO0 := Lib.hid (show (w.alloc (.cells #[] 3)).ownsRow w.heap.size 3 1 (.slice (some ⟨w.heap.size, 0, none⟩) 0 0) 0 [] from World.ownsRow_lit w #[] 0 (Nat.le_refl _) (by decide) rfl)
  go_enter Try.func85, Try.ntmps85
  go_wp2_with (first | (go_at_call 76; refine (HA.out _ (HR.out.below (by (repeat (first | assumption | exact Below.refl _ _ | refine Below.drew ?_ | refine below_drewN ?_ _ | refine Below.setCell ?_ (by first | omega | (simp; done) | (simp; omega)) _ | refine Below.alloc ?_ (by first | omega | (simp; done) | (simp; omega)) _ | refine bchain ?_ (by assumption) (by first | omega | (simp; done) | (simp; omega))))))).mono ?_; rintro e w1 ⟨rfl, hb1⟩; have HB1 := Lib.hid (show Below w.heap.size w w1 by (repeat (first | assumption | exact Below.refl _ _ | refine Below.drew ?_ | refine below_drewN ?_ _ | refine Below.setCell ?_ (by first | omega | (simp; done) | (simp; omega)) _ | refine Below.alloc ?_ (by first | omega | (simp; done) | (simp; omega)) _ | refine bchain ?_ (by assumption) (by first | omega | (simp; done) | (simp; omega))))); have HO1 := Lib.hid (row_below HO0.out hb1); clear hb1))
  go_loopg [3, 11] xs.length (fun f v3 v11 wr => ∃ (k : Nat) (ao : Option Addr) (co : Nat), v3 = .slice ao (ndN xs k).length co ∧ v11 = .int .i64 (k : Int) ∧ k + f = xs.length ∧ wr.ownsRow w.heap.size 3 1 (.slice ao (ndN xs k).length co) (ndN xs k).length ((ndN xs k).map (Value.int .i64)) ∧ Below w.heap.size w wr)
  case atStart => exact ⟨0, _, _, rfl, rfl, by omega, HO1.out, HB1.out⟩
  case round =>
    obtain ⟨k, ao, co, rfl, rfl, q1, hO, hbel⟩ := hrel
    have hsz := hbel.size
    by_cases hk : k < xs.length
    · have hkI : (k : Int) < (xs.length : Int) := by omega
      have HW := Lib.hid (fun w h => without_any a cap xs k w h (by omega) hcap hk)
      have HD := Lib.hid (fun a c w h => count_any a c (drp xs k) w h (by rw [HDL.out k hk]; omega) (HT.out k))
      have HDn := Lib.hid (HNK.out k)
      have hll := HN.out k
      have HO := Lib.hid hO
      have HB := Lib.hid hbel
      have Q1 := Lib.hid q1
      clear hO hbel q1
      generalize hDD : drp xs k = Dr at *
      clear hDD
      generalize hS : (sol Dr).length = S at *
      have hS2 : S ≤ 156 := by rw [← hS]; exact sol_len Dr
      clear hS
      generalize ndN xs k = L at *
      by_cases hq : S = N
      · have HE := Lib.hid (HDn.out.trans (by rw [if_pos hq]))
        have ex : ((S : Int) == (N : Int)) = true := by rw [hq]; simp
        clear hq HDn
        go_wp2_with (first | (go_at_call 88; refine (HW.out _ (HR.out.below HB.out)).mono ?_; rintro e w2 ⟨a2, c2, rfl, hR2, hc2, hb2⟩; have HR2 := Lib.hid hR2; have HP2 := Lib.hid (row_below HO.out hb2); have HB2 := Lib.hid (HB.out.trans (hb2.mono HB.out.size)); clear hR2 hb2) | (go_at_call 76; refine (HD.out _ _ _ HR2.out).mono ?_; rintro e w3 ⟨rfl, hb3⟩; have HP3 := Lib.hid (row_below HP2.out hb3); have HB3 := Lib.hid (HB2.out.trans (hb3.mono HB2.out.size)); clear hb3) | (at_builtin; refine wpList_append_own _ rfl _ _ 60 rfl w.heap.size 3 i0 (.int .i64 0) 1 8 Try.underlying60 hi hz0 hz1 hz2 rfl (by decide) _ _ _ rfl (HP3.out.alloc _) ⟨w3.heap.size, 0, none⟩ 1 1 [.int .i64 (k : Int)] rfl rfl (cell_one_new _ _ _) (fun u hu => by simp at hu; subst hu; rfl) (by unfold maxLen; omega) (by omega) (by have := HB3.out.size; simp; omega) ?_; intro v1 w4 hO4 hgrow hx; clear hx; have HG4 := Lib.hid hgrow; have HO4 := Lib.hid hO4; clear hgrow hO4))
        obtain ⟨a4, c4, rfl⟩ := own_formP HO4.out
        have hB4 := (HB3.out.alloc HB3.out.size _).grown HG4.out (by have := HB3.out.size; simp; omega) (fun x hx => (HP3.out.lt x hx).1)
        have hcs : (L ++ [(k : Int)]).map (Value.int .i64) = L.map (Value.int .i64) ++ [.int .i64 (k : Int)] := by rw [List.map_append]; rfl
        have hln : (L ++ [(k : Int)]).length = L.length + 1 := by simp
        go_roundg (gk - 1)
        case rel => exact ⟨k + 1, a4, c4, by rw [HE.out, hln], by go_num, by have := Q1.out; omega, by rw [HE.out, hcs, hln]; exact HO4.out, hB4⟩
        case measure => have := Q1.out; omega
      · have HE := Lib.hid (HDn.out.trans (by rw [if_neg hq, List.append_nil]))
        have ex : ((S : Int) == (N : Int)) = false := by rw [beq_eq_false_iff_ne]; omega
        clear hq HDn
        go_wp2_with (first | (go_at_call 88; refine (HW.out _ (HR.out.below HB.out)).mono ?_; rintro e w2 ⟨a2, c2, rfl, hR2, hc2, hb2⟩; have HR2 := Lib.hid hR2; have HP2 := Lib.hid (row_below HO.out hb2); have HB2 := Lib.hid (HB.out.trans (hb2.mono HB.out.size)); clear hR2 hb2) | (go_at_call 76; refine (HD.out _ _ _ HR2.out).mono ?_; rintro e w3 ⟨rfl, hb3⟩; have HP3 := Lib.hid (row_below HP2.out hb3); have HB3 := Lib.hid (HB2.out.trans (hb3.mono HB2.out.size)); clear hb3))
        go_roundg (gk - 1)
        case rel => exact ⟨k + 1, ao, co, by rw [HE.out], by go_num, by have := Q1.out; omega, by rw [HE.out]; exact HP3.out, HB3.out⟩
        case measure => have := Q1.out; omega
    · have HK := Lib.hid (show xs.length = k by omega)
      have HO := Lib.hid hO
      have HB := Lib.hid hbel
      have hkI : ¬ ((k : Int) < (xs.length : Int)) := by omega
      clear hO hbel q1
      go_wp2_with fail
      go_ret
      exact ⟨ao, co, by rw [HK.out]; rfl, by unfold Own; rw [HK.out]; exact HO.out, HB.out⟩
theorem lfN_at (xs : List (Int × Int × Int)) : ∀ (n i : Nat), i < n → ((lfN xs n).map (Value.int .i64))[i]? = some (.int .i64 ((sol (xs.take i)).length : Int))
  | 0, i, h => absurd h (Nat.not_lt_zero _)
  | n + 1, i, h => by
    have hl := lfN_len xs n
    by_cases q : i < n
    · have := lfN_at xs n i q
      simp only [lfN, List.map_append]
      rw [List.getElem?_append_left (by rw [List.length_map, hl]; exact q)]
      exact this
    · obtain rfl : i = n := by omega
      simp only [lfN, List.map_append]
      rw [List.getElem?_append_right (by rw [List.length_map, hl]; omega), List.length_map, hl, Nat.sub_self]
      rfl
set_option maxHeartbeats 4000000 in
set_option maxRecDepth 100000 in
theorem leftByFirst_any (a : Option Addr) (cap : Nat) (xs : List (Int × Int × Int)) (w : World) (h : RdT w a xs) (h6 : xs.length ≤ 6) (hcap : xs.length ≤ cap) (hcl : clA xs = true) :
    Calls Try.prog 91 #[.slice a xs.length cap] w fun e w' => ∃ a' c', e = .returned (.slice a' (lfN xs (xs.length + 1)).length c') ∧ Own w' w.heap.size a' c' (lfN xs (xs.length + 1)) ∧ Below w.heap.size w w' := by
  obtain ⟨i0, hi, hz0, hz1, hz2⟩ := info_parts intInfo
  have HLN := Lib.hid (fun k => lfN_len xs k)
  have HT := Lib.hid (fun k => clA_take k hcl)
  have hwr : IntKind.i64.wrap ((xs.length : Int) + 1) = (xs.length : Int) + 1 := IntWalk.i64_in _ (by omega)
  obtain ⟨N, hN⟩ : ∃ N, N = xs.length + 1 := ⟨_, rfl⟩
  have hNI : (xs.length : Int) + 1 = (N : Int) := by omega
  have hN7 : N ≤ 7 := by omega
  obtain ⟨w0, hrun, hown0, hgr0⟩ := run_make_full (P := Try.prog) w w.heap.size 60 3 i0 (.int .i64 0) 1 Try.underlying60 hi hz0 hz1 .i64 .i64 N (by rw [hz2]; omega) (by unfold maxLen; omega) (Nat.le_refl _)
  have hbel0 : Below w.heap.size w w0 := (Below.refl _ _).grown hgr0 (Nat.le_refl _) (fun k hk => by cases hk)
  obtain ⟨ys0, hy0⟩ : ∃ ys, ys = (madeCells (Value.int .i64 0).cells (N * 1)).toList := ⟨_, rfl⟩
  rw [← hy0] at hown0
  rw [← hN]
  have HR := Lib.hid h
  clear hy0 hgr0 hcl h
  have HNN := Lib.hid hN
  clear hN
  go_enter Try.func91, Try.ntmps91
  go_wp2_with fail
  have HB0 := Lib.hid hbel0
  have HO0 := Lib.hid hown0
  clear hrun hbel0 hown0
  go_loopg [11] N (fun f v11 wr => ∃ (k : Nat) (ys : List Value), v11 = .int .i64 (k : Int) ∧ k + f = N ∧ wr.ownsRow w.heap.size 3 1 (.slice (some ⟨w.heap.size, 0, none⟩) N N) N ys ∧ Hid (∀ i, i < k → ys[i]? = some (.int .i64 ((sol (xs.take i)).length : Int))) ∧ Below w.heap.size w wr)
  case atStart => exact ⟨0, ys0, rfl, by omega, HO0.out, fun i hi => absurd hi (Nat.not_lt_zero _), HB0.out⟩
  case round =>
    obtain ⟨k, ys, rfl, q1, hown, hys, hbel⟩ := hrel
    have hlen : ys.length = N * 1 := hown.1
    by_cases hk : k < N
    · have hkI : (k : Int) < (N : Int) := by omega
      have hkx : k ≤ xs.length := by have := HNN.out; omega
      have hkxI : (k : Int) ≤ (xs.length : Int) := by omega
      have hkc : k ≤ cap := by omega
      have hkcI : (k : Int) ≤ (cap : Int) := by omega
      have hlk : (xs.take k).length = k := by rw [List.length_take]; omega
      have HA := Lib.hid (count_any a k (xs.take k) wr ((HR.out.below hbel).first k) (by omega) (HT.out k))
      rw [hlk] at HA
      have HSk := Lib.hid (show ((sol (xs.take k)).length : Int) = ((sol (xs.take k)).length : Int) from rfl)
      obtain ⟨S, hS⟩ : ∃ S, (sol (xs.take k)).length = S := ⟨_, rfl⟩
      rw [hS] at HA
      have HS := Lib.hid hS
      have hg0 := (hown.lt w.heap.size rfl).2
      have HO := Lib.hid hown
      have HB := Lib.hid hbel
      have Q1 := Lib.hid (And.intro q1 hlen)
      clear hown hbel q1 hlk hS HSk
      go_wp2_with (first | (go_at_call 76; refine HA.out.mono ?_; rintro e w2 ⟨rfl, hb2⟩; have hO2 := row_below HO.out hb2; have hcy := hO2.cellAt k (by omega); have hfy := hO2.frozenAt k; rw [List.getElem?_eq_getElem (by rw [Q1.out.2]; omega)] at hcy; have HO2 := Lib.hid hO2; have HB2 := Lib.hid (HB.out.trans (hb2.mono HB.out.size)); clear hO2 hb2))
      go_roundg (gk - 1)
      case rel =>
        obtain ⟨hst, hst2⟩ := HO2.out.stored k (.int .i64 (S : Int))
        refine ⟨k + 1, _, by go_num, by have := Q1.out.1; omega, hst, ?_, HB2.out.setCell (Nat.le_refl _) _⟩
        intro i hi
        by_cases q : i = k
        · subst q; rw [List.getElem?_set_self (by rw [Q1.out.2]; omega), HS.out]
        · rw [List.getElem?_set_ne (by omega)]; exact hys.out i (by omega)
      case measure => have := Q1.out.1; omega
    · have HK := Lib.hid (show N = k by omega)
      have hyx : ys = (lfN xs N).map (Value.int .i64) := by
        apply List.ext_getElem?
        intro i
        by_cases q : i < N
        · rw [hys.out i (by omega), lfN_at xs N i q]
        · rw [List.getElem?_eq_none (by omega), List.getElem?_eq_none (by rw [List.length_map, HLN.out]; omega)]
      have hkI : ¬ ((k : Int) < (N : Int)) := by omega
      subst hyx
      have HO := Lib.hid hown
      have HB := Lib.hid hbel
      have hl := Lib.hid (HLN.out N)
      clear hown hbel q1 hlen hys
      go_wp2_with fail
      go_ret
      exact ⟨some ⟨w.heap.size, 0, none⟩, N, by rw [hl.out]; rfl, by unfold Own; rw [hl.out]; exact HO.out, HB.out⟩
end Go.Proofs.Ytnnokfecjdmjpaa
