/- Puzzles (chapter 9): the program's riddles without a clue, copied, needless clues, how many are left, the best clue, harder puzzles. -/
import Derived.Test.YtnnokfecjdmjpabPzImpl
import Derived.Test.YtnnokfecjdmjpabPzPart
import Derived.Test.YtnnokfecjdmjpabPzSpec5
import Derived.WalkKit
import Derived.WalkSpells
import Derived.WalkLawsBesides
import Derived.Lib.Hide
import Derived.Lib.SliceRun
import Derived.Deep.LoopGhost
import Derived.Deep.QuietTactic
import Derived.Deep.RegionWith
import Derived.Deep.RegionLaw
import Derived.Deep.RegionHeld3
import Derived.BigQuiet
namespace Go.Proofs.Ytnnokfecjdmjpab
open Go.RowKit
set_option linter.unusedVariables false
set_option linter.unusedSimpArgs false
set_option maxHeartbeats 4000000 in
set_option maxRecDepth 100000 in
theorem without_any (a : Option Addr) (cap : Nat) (xs : List (Int × Int × Int)) (k : Nat) (w : World) (h : RdT w a xs) (hn : xs.length ≤ 1048576) (hcap : xs.length ≤ cap) (hk : k < xs.length) :
    Calls Try.prog 49 #[.slice a xs.length cap, .int .i64 (k : Int)] w fun e w' => ∃ (A' : Addr) (c' : Nat), e = .returned (.slice (some A') (drp xs k).length c') ∧ RdT w' (some A') (drp xs k) ∧ (drp xs k).length ≤ c' ∧ Below w.heap.size w w' := by
  obtain ⟨i0, hi, hz0, hz1, hz2⟩ := info_parts cluesInfo
  rcases h with h | ⟨b, off, rfl, hlt, hc⟩
  · rw [h] at hk; exact absurd hk (Nat.not_lt_zero _)
  have hkI : (k : Int) < (xs.length : Int) := by omega
  have hwr : IntKind.i64.wrap ((k : Int) + 1) = (k : Int) + 1 := IntWalk.i64_in _ (by omega)
  have hp0 : (0 : Int) ≤ (k : Int) + 1 := by omega
  have hp1 : (k : Int) + 1 ≤ (xs.length : Int) := by omega
  have hp2 : ((k : Int) + 1).toNat = k + 1 := by omega
  have hp3 : k ≤ cap := by omega
  have hp4 : (k : Int) ≤ (cap : Int) := by omega
  have hd : (drp xs k).length = k + (xs.length - (k + 1)) := by rw [drp_len hk]; omega
  have hnews1 := Lib.hid (take_news hc k)
  obtain ⟨A, hA, hAb, hnews2⟩ := drop_news hc k hk hcap
  have Hnews2 := Lib.hid hnews2
  have hl1 := Lib.hid (show (cs3 (xs.take k)).length = k * 3 by rw [cs3_length, List.length_take]; congr 1; omega)
  have hl2 := Lib.hid (show (cs3 (xs.drop (k + 1))).length = (xs.length - (k + 1)) * 3 by rw [cs3_length, List.length_drop])
  have hAb' := Lib.hid (show A.block < w.heap.size by rw [hAb]; exact hlt)
  have hcs := Lib.hid (show cs3 (xs.take k) ++ cs3 (xs.drop (k + 1)) = cs3 (drp xs k) by unfold drp; rw [cs3_append])
  have hD := Lib.hid hd
  clear hd hnews2 hAb hc
  go_enter Try.func49, Try.ntmps49
  go_wp2_with fail
  go_region_law (first
    | (refine step_append_part _ rfl (.tmp 8) (.tmp 12) 51 rfl 63 i0 (.agg #[.int .i64 0, .int .i64 0, .int .i64 0]) 3 24 Try.underlying51 hi hz0 hz1 hz2 rfl b off k (by simp [Act.eval, Act.put]) (cs3 (xs.take k)) hl1.out (news_below hnews1.out hlt (by (repeat (first | exact Below.refl _ _ | refine Below.drew ?_)))) (by first | assumption | (simp; done) | (simp; omega)) A (xs.length - (k + 1)) (cap - (k + 1)) (by simp [Act.eval, Act.put]) (cs3 (xs.drop (k + 1))) hl2.out (news_below Hnews2.out hAb'.out (by (repeat (first | exact Below.refl _ _ | refine Below.drew ?_)))) (cs3_one _) (by unfold maxLen; omega) (by omega) (k + (xs.length - (k + 1))) rfl ?_; intro b2 off2 c2 w2 hN2 hlt2 hc2 hb2; have HN2 := Lib.hid hN2; have B2 : Below w.heap.size w w2 := bchain (by (repeat (first | exact Below.refl _ _ | refine Below.drew ?_))) hb2 (by first | exact Nat.le_refl _ | (simp; done)); clear hN2 hb2))
  all_goals
    go_wp2_with fail
    go_ret
    refine ⟨⟨b2, off2, none⟩, c2, by rw [hD.out]; rfl, rd_of_newsT hlt2 (by rw [← hcs.out]; exact HN2.out), by rw [hD.out]; exact hc2, B2⟩
set_option maxHeartbeats 1000000 in
set_option maxRecDepth 100000 in
theorem cloneC_any (A : Addr) (cap : Nat) (xs : List (Int × Int × Int)) (w : World) (h : RdT w (some A) xs) (hn : xs.length ≤ 1048576) :
    Calls Try.prog 58 #[.slice (some A) xs.length cap] w fun e w' => ∃ a2 c2, e = .returned (.slice a2 xs.length c2) ∧ OwnC w' w.heap.size a2 c2 xs ∧ Below w.heap.size w w' := by
  obtain ⟨i0, hi, hz0, hz1, hz2⟩ := info_parts cluesInfo
  have hnil : ∀ w : World, (binOp .eql 51 (.slice (some A) xs.length cap) (.slice none 0 0)).run Try.prog w = .ok (.bool false) w := fun w => Go.Lib.run_eql_slice_nil w 51 63 (some A) xs.length cap 0 0 Try.underlying51
  have HNW := Lib.hid (fun (W : World) (hb : Below w.heap.size w W) => h.newsAt hb)
  go_enter Try.func58, Try.ntmps58
  go_wp2_with (first | (at_builtin; refine wpList_append_anyN _ rfl _ _ 51 rfl w.heap.size 63 i0 (.agg #[.int .i64 0, .int .i64 0, .int .i64 0]) 3 24 Try.underlying51 hi hz0 hz1 hz2 rfl (by decide) _ _ _ rfl (own_lit_at w w.heap.size w.heap.size 63 rfl (Nat.le_refl _)) A xs.length cap (cs3 xs) rfl (cs3_length xs) (HNW.out _ (by (repeat (first | assumption | exact Below.refl _ _ | refine Below.drew ?_ | refine below_drewN ?_ _ | refine Below.setCell ?_ (by first | omega | (simp; done) | (simp; omega)) _ | refine Below.alloc ?_ (by first | omega | (simp; done) | (simp; omega)) _ | refine bchain ?_ (by assumption) (by first | omega | (simp; done) | (simp; omega)))))) (cs3_one _) (by unfold maxLen; omega) (by omega) (by first | omega | (simp; done) | (simp; omega)) xs.length (Nat.zero_add _) ?_; intro a2 c2 w2 hO2 hg2; have B2 : Below w.heap.size w w2 := Below.grown (show Below w.heap.size w _ from by (repeat (first | assumption | exact Below.refl _ _ | refine Below.drew ?_ | refine below_drewN ?_ _ | refine Below.setCell ?_ (by first | omega | (simp; done) | (simp; omega)) _ | refine Below.alloc ?_ (by first | omega | (simp; done) | (simp; omega)) _ | refine bchain ?_ (by assumption) (by first | omega | (simp; done) | (simp; omega))))) hg2 (by first | omega | (simp; done) | (simp; omega)) (fun x hx => by have e : w.heap.size = x := Option.some.inj hx; omega); have HO2 := Lib.hid hO2; clear hg2))
  go_ret
  exact ⟨a2, c2, rfl, HO2.out, B2⟩
set_option maxHeartbeats 1000000 in
set_option maxRecDepth 100000 in
theorem puzzle_any (A : Addr) (cap : Nat) (xs : List (Int × Int × Int)) (w : World) (h : RdT w (some A) xs) (hn : xs.length ≤ 1048576) :
    Calls Try.prog 50 #[.slice (some A) xs.length cap] w fun e w' => ∃ a2 c2, e = .returned (.agg #[.slice a2 xs.length c2]) ∧ OwnC w' w.heap.size a2 c2 xs ∧ Below w.heap.size w w' := by
  go_enter Try.func50, Try.ntmps50
  go_wp2_with (first | (go_at_call 58; refine (cloneC_any A cap xs _ (h.below (by (repeat (first | assumption | exact Below.refl _ _ | refine Below.drew ?_ | refine below_drewN ?_ _ | refine Below.setCell ?_ (by first | omega | (simp; done) | (simp; omega)) _ | refine Below.alloc ?_ (by first | omega | (simp; done) | (simp; omega)) _ | refine bchain ?_ (by assumption) (by first | omega | (simp; done) | (simp; omega)))))) hn).mono ?_; rintro e w1 ⟨a2, c2, rfl, hO, hb⟩; have hs := hb.size; (try simp only [World.size_alloc] at hs); have hcA := fun o => (bcell hb).1 w.heap.size o (by first | omega | (simp; done) | (simp; omega)); have hfA := fun o => (bcell hb).2 w.heap.size o (by first | omega | (simp; done) | (simp; omega))))
  have z0 : w1.cell? ⟨w.heap.size, 0, none⟩ = some (.slice none 0 0) := by rw [hcA]; go_simp
  refine bodyPost_ret (v := .agg #[.slice a2 xs.length c2]) (by simp [results, Try.results50, go_sem, z0]) rfl ⟨_, _, rfl, ?_, by (repeat (first | assumption | exact Below.refl _ _ | refine Below.drew ?_ | refine below_drewN ?_ _ | refine Below.setCell ?_ (by first | omega | (simp; done) | (simp; omega)) _ | refine Below.alloc ?_ (by first | omega | (simp; done) | (simp; omega)) _ | refine bchain ?_ (by assumption) (by first | omega | (simp; done) | (simp; omega))))⟩
  unfold OwnC at hO
  simp only [World.size_alloc] at hO
  exact row_low (row_setLow hO _ _ (by simp)) (by omega)
set_option maxHeartbeats 4000000 in
set_option maxRecDepth 100000 in
theorem best_any (a : Option Addr) (cap : Nat) (xs : List (Int × Int × Int)) (w : World) (h : RdT w a xs) (h6 : xs.length ≤ 6) (hcap : xs.length ≤ cap) (hcl : clA xs = true) :
    Calls Try.prog 23 #[.slice a xs.length cap] w fun e w' => e = .returned (.tuple #[.int .i64 (bsN (onF xs) xs.length).1, .bool (decide (0 < xs.length))]) ∧ Below w.heap.size w w' := by
  have HBN := Lib.hid (fun k => (show bsN (onF xs) (k + 1) = if k = 0 ∨ onF xs k < (bsN (onF xs) k).2 then ((k : Int), onF xs k) else bsN (onF xs) k from rfl))
  have HCL := Lib.hid hcl
  have hcapI : (xs.length : Int) ≤ (cap : Int) := by omega
  clear hcl
  go_enter Try.func23, Try.ntmps23
  go_wp2_with fail
  go_loopg [4, 5, 10] xs.length (fun f v4 v5 v10 wr => ∃ (k : Nat), v4 = .int .i64 (bsN (onF xs) k).1 ∧ v5 = .int .i64 (bsN (onF xs) k).2 ∧ v10 = .int .i64 (k : Int) ∧ k + f = xs.length ∧ Below w.heap.size w wr)
  case atStart => exact ⟨0, rfl, rfl, rfl, by omega, Below.refl _ _⟩
  case round =>
    obtain ⟨k, rfl, rfl, rfl, q1, hbel⟩ := hrel
    have hsz := hbel.size
    by_cases hk : k < xs.length
    · rcases h with h | ⟨b, off, rfl, hlt, hc⟩
      · rw [h] at hk; exact absurd hk (Nat.not_lt_zero _)
      have hkI : (k : Int) < (xs.length : Int) := by omega
      have hkI1 : (k : Int) + 1 ≤ (xs.length : Int) := by omega
      have hkI2 : (k : Int) + 1 ≤ (cap : Int) := by omega
      have hne : ¬ cap = k := by omega
      have hne1 : ¬ k + 1 = k := by omega
      have hkc : k + 1 ≤ cap := by omega
      have hwr : IntKind.i64.wrap ((k : Int) + 1) = (k : Int) + 1 := IntWalk.i64_in _ (by omega)
      have hp0 : (0 : Int) ≤ (k : Int) + 1 := by omega
      have hp2 : ((k : Int) + 1).toNat = k + 1 := by omega
      have hp3 : k + 1 - k = 1 := by omega
      have hl1 : ((xs.drop k).take 1).length = 1 := by simp; omega
      have HA := Lib.hid (count_any (some ⟨b, off + k * 3, none⟩) 1 ((xs.drop k).take 1) wr ((RdT.part hlt hc k 1).below hbel) (by omega) (clA_one k HCL.out))
      rw [hl1] at HA
      have HBk := Lib.hid (HBN.out k)
      have hob := onF_bd xs k
      have HOF := Lib.hid (show onF xs k = ((sol ((xs.drop k).take 1)).length : Int) from rfl)
      have HB := Lib.hid hbel
      have Q1 := Lib.hid q1
      clear hbel hl1 hc q1
      rw [← HOF.out] at HA
      generalize onF xs k = F at *
      generalize bsN (onF xs) k = bn at *
      obtain ⟨bi, bf⟩ := bn
      simp only at HBk
      by_cases hz : k = 0
      · subst hz
        have HE := Lib.hid (HBk.out.trans (if_pos (.inl rfl)))
        clear HBk HOF
        go_wp2_with (first | (go_at_call 45; refine HA.out.mono ?_; rintro e w1 ⟨rfl, hb1⟩; have HB1 := Lib.hid (HB.out.trans (hb1.mono HB.out.size)); clear hb1))
        all_goals
          go_roundg (gk - 1)
          case rel => exact ⟨0 + 1, by rw [HE.out]; rfl, by rw [HE.out], by go_num, by have := Q1.out; omega, HB1.out⟩
          case measure => have := Q1.out; omega
      · have ez : ((k : Int) == 0) = false := by rw [beq_eq_false_iff_ne]; omega
        by_cases hq : F < bf
        · have HE := Lib.hid (HBk.out.trans (if_pos (.inr hq)))
          clear HBk HOF
          go_wp2_with (first | (go_at_call 45; refine HA.out.mono ?_; rintro e w1 ⟨rfl, hb1⟩; have HB1 := Lib.hid (HB.out.trans (hb1.mono HB.out.size)); clear hb1))
          all_goals
            go_roundg (gk - 1)
            case rel => exact ⟨k + 1, by rw [HE.out], by rw [HE.out], by go_num, by have := Q1.out; omega, HB1.out⟩
            case measure => have := Q1.out; omega
        · have HE := Lib.hid (HBk.out.trans (if_neg (by rintro (q | q); exact hz q; exact hq q)))
          clear HBk HOF
          go_wp2_with (first | (go_at_call 45; refine HA.out.mono ?_; rintro e w1 ⟨rfl, hb1⟩; have HB1 := Lib.hid (HB.out.trans (hb1.mono HB.out.size)); clear hb1))
          all_goals
            go_roundg (gk - 1)
            case rel => exact ⟨k + 1, by rw [HE.out], by rw [HE.out], by go_num, by have := Q1.out; omega, HB1.out⟩
            case measure => have := Q1.out; omega
    · obtain ⟨L, hL⟩ : ∃ L, xs.length = L := ⟨_, rfl⟩
      have HK := Lib.hid (show xs.length = k by omega)
      have HB := Lib.hid hbel
      have hkI : ¬ ((k : Int) < (xs.length : Int)) := by omega
      clear hbel q1 hL
      by_cases h0 : 0 < xs.length
      · have h0I : (0 : Int) < (xs.length : Int) := by omega
        go_wp2_with fail
        go_ret2
        first | rw [decide_eq_true h0] | skip
        rw [HK.out]
        exact ⟨rfl, HB.out⟩
      · have h0I : ¬ (0 : Int) < (xs.length : Int) := by omega
        go_wp2_with fail
        go_ret2
        first | rw [decide_eq_false h0] | skip
        rw [HK.out]
        exact ⟨rfl, HB.out⟩
set_option maxHeartbeats 4000000 in
set_option maxRecDepth 100000 in
theorem harder_any (A : Addr) (cap : Nat) (xs : List (Int × Int × Int)) (w : World) (h : RdT w (some A) xs) (h6 : xs.length ≤ 6) (hcap : xs.length ≤ cap) (hcl : clA xs = true) :
    Calls Try.prog 28 #[.slice (some A) xs.length cap] w (RetP9 w (if (sol xs).length = 1 then hrd xs.length xs 0 else []) (decide ((sol xs).length = 1))) := by
  have HS := Lib.hid (fun w h => isSolved_any (some A) cap xs w h (by omega) hcl)
  by_cases h1 : (sol xs).length = 1
  · rw [if_pos h1, decide_eq_true h1]
    rw [decide_eq_true h1] at HS
    have hne : 0 < xs.length := by
      rcases Nat.eq_zero_or_pos xs.length with q | q
      · rw [List.length_eq_zero_iff.1 q] at h1; exact absurd h1 (by decide +kernel)
      · exact q
    have HCL := Lib.hid hcl
    obtain ⟨R, hR⟩ : ∃ R, hrd xs.length xs 0 = R := ⟨_, rfl⟩
    rw [hR]
    have hR := Lib.hid hR
    have HR := Lib.hid h
    clear h1 hcl h
    go_enter Try.func28, Try.ntmps28
    go_wp2_with (first | (go_at_call 48; refine (HS.out _ (HR.out.below (by (repeat (first | assumption | exact Below.refl _ _ | refine Below.drew ?_ | refine below_drewN ?_ _ | refine Below.setCell ?_ (by first | omega | (simp; done) | (simp; omega)) _ | refine Below.alloc ?_ (by first | omega | (simp; done) | (simp; omega)) _ | refine bchain ?_ (by assumption) (by first | omega | (simp; done) | (simp; omega))))))).mono ?_; rintro e w1 ⟨rfl, hb1⟩; have hs1 := hb1.size; (try simp only [World.size_alloc] at hs1); have hx1 : w1.cell? ⟨w.heap.size, 0, none⟩ = some (.slice none 0 0) := (by rw [(bcell hb1).1 _ _ (by first | omega | (simp; done) | (simp; omega))]; go_simp); have hf1 : ∀ o, w1.frozen? ⟨w.heap.size, o, none⟩ = false := (fun o => by rw [(bcell hb1).2 _ _ (by first | omega | (simp; done) | (simp; omega))]; go_simp); have B1 : Below w.heap.size w w1 := (by (repeat (first | assumption | exact Below.refl _ _ | refine Below.drew ?_ | refine below_drewN ?_ _ | refine Below.setCell ?_ (by first | omega | (simp; done) | (simp; omega)) _ | refine Below.alloc ?_ (by first | omega | (simp; done) | (simp; omega)) _ | refine bchain ?_ (by assumption) (by first | omega | (simp; done) | (simp; omega))))); clear hb1))
    have HB1 := Lib.hid B1
    have HX1 := Lib.hid (And.intro (show w.heap.size < w1.heap.size by omega) (And.intro hx1 hf1))
    have HR1 := Lib.hid (HR.out.below B1)
    clear B1 hx1 hf1
    go_loopg [0, 4] xs.length (fun f v0 v4 wr => ∃ (k : Nat) (ys : List (Int × Int × Int)) (Ao : Addr) (co : Nat), v0 = .slice (some Ao) ys.length co ∧ v4 = .int .i64 (k : Int) ∧ ys.length = k + f ∧ ys.length ≤ 6 ∧ ys.length ≤ co ∧ Hid (hrd f ys k = R) ∧ Hid (clA ys = true) ∧ RdT wr (some Ao) ys ∧ (w.heap.size < wr.heap.size ∧ wr.cell? ⟨w.heap.size, 0, none⟩ = some (.slice none 0 0) ∧ ∀ o, wr.frozen? ⟨w.heap.size, o, none⟩ = false) ∧ Below w.heap.size w wr)
    case atStart => exact ⟨0, xs, A, cap, rfl, rfl, by omega, h6, hcap, hR, HCL, HR1.out, HX1.out, HB1.out⟩
    case round =>
      obtain ⟨k, ys, Ao, co, rfl, rfl, q1, q2, q3, hhr, hcl, hRd, ⟨hlw, hxw, hfw⟩, hbel⟩ := hrel
      have hsz := hbel.size
      by_cases hk : k < ys.length
      · have hkI : (k : Int) < (ys.length : Int) := by omega
        have hkb : (k : Int) ≤ 6 := by omega
        obtain ⟨G, rfl⟩ : ∃ G, gk = G + 1 := ⟨gk - 1, by omega⟩
        have hdl := drp_len hk
        have hstep := Lib.hid (show hrd (G + 1) ys k = if (sol (drp ys k)).length = 1 then hrd G (drp ys k) k else hrd G ys (k + 1) from rfl)
        have HB := Lib.hid hbel
        have Hk := Lib.hid hk
        have H1 := Lib.hid (And.intro q1 (And.intro q2 (And.intro q3 hdl)))
        have HW := Lib.hid (without_any (some Ao) co ys k wr hRd (by omega) q3 hk)
        have HSv := Lib.hid (fun a3 c3 w3 h => isSolved_any a3 c3 (drp ys k) w3 h (by rw [hdl]; omega) (drp_cl k hcl.out))
        have hcd := Lib.hid (drp_cl k hcl.out)
        clear hbel q1 q2 q3 hdl hk
        generalize drp ys k = D at *
        by_cases hq : (sol D).length = 1
        · have HE := Lib.hid (show hrd G D k = R from ((hstep.out.trans (if_pos hq)).symm.trans hhr.out))
          rw [decide_eq_true hq] at HSv
          clear hq hstep
          go_wp2_with (first | (go_at_call 49; refine HW.out.mono ?_; rintro e w3 ⟨A3, c3, rfl, hR3, hc3, hb3⟩; have hs3 := hb3.size; have hx3 : w3.cell? ⟨w.heap.size, 0, none⟩ = some (.slice none 0 0) := ((bcell hb3).1 _ _ hlw).trans hxw; have hf3 : ∀ o, w3.frozen? ⟨w.heap.size, o, none⟩ = false := (fun o => ((bcell hb3).2 _ _ hlw).trans (hfw o)); have HR3 := Lib.hid hR3; have HC3 := Lib.hid hc3; have HB3 := Lib.hid (HB.out.trans (hb3.mono HB.out.size)); have HP3 := Lib.hid (hRd.below hb3); clear hR3 hb3 hc3) | (go_at_call 48; refine (HSv.out _ _ _ HR3.out).mono ?_; rintro e w4 ⟨rfl, hb4⟩; have hs4 := hb4.size; have hx4 : w4.cell? ⟨w.heap.size, 0, none⟩ = some (.slice none 0 0) := ((bcell hb4).1 _ _ (by omega)).trans hx3; have hf4 : ∀ o, w4.frozen? ⟨w.heap.size, o, none⟩ = false := (fun o => ((bcell hb4).2 _ _ (by omega)).trans (hf3 o)); have HB4 := Lib.hid (HB3.out.trans (hb4.mono HB3.out.size)); have HR4 := Lib.hid (HR3.out.below hb4); have HP4 := Lib.hid (HP3.out.below hb4); clear hb4))
          go_roundg G
          case rel => exact ⟨k, D, A3, c3, rfl, rfl, by have := H1.out; omega, by have := H1.out; omega, HC3.out, HE, hcd, HR4.out, ⟨by omega, hx4, hf4⟩, HB4.out⟩
          case measure => omega
        · have HE := Lib.hid (show hrd G ys (k + 1) = R from ((hstep.out.trans (if_neg hq)).symm.trans hhr.out))
          rw [decide_eq_false hq] at HSv
          clear hq hstep
          go_wp2_with (first | (go_at_call 49; refine HW.out.mono ?_; rintro e w3 ⟨A3, c3, rfl, hR3, hc3, hb3⟩; have hs3 := hb3.size; have hx3 : w3.cell? ⟨w.heap.size, 0, none⟩ = some (.slice none 0 0) := ((bcell hb3).1 _ _ hlw).trans hxw; have hf3 : ∀ o, w3.frozen? ⟨w.heap.size, o, none⟩ = false := (fun o => ((bcell hb3).2 _ _ hlw).trans (hfw o)); have HR3 := Lib.hid hR3; have HC3 := Lib.hid hc3; have HB3 := Lib.hid (HB.out.trans (hb3.mono HB.out.size)); have HP3 := Lib.hid (hRd.below hb3); clear hR3 hb3 hc3) | (go_at_call 48; refine (HSv.out _ _ _ HR3.out).mono ?_; rintro e w4 ⟨rfl, hb4⟩; have hs4 := hb4.size; have hx4 : w4.cell? ⟨w.heap.size, 0, none⟩ = some (.slice none 0 0) := ((bcell hb4).1 _ _ (by omega)).trans hx3; have hf4 : ∀ o, w4.frozen? ⟨w.heap.size, o, none⟩ = false := (fun o => ((bcell hb4).2 _ _ (by omega)).trans (hf3 o)); have HB4 := Lib.hid (HB3.out.trans (hb4.mono HB3.out.size)); have HR4 := Lib.hid (HR3.out.below hb4); have HP4 := Lib.hid (HP3.out.below hb4); clear hb4))
          go_roundg G
          case rel => exact ⟨k + 1, ys, Ao, co, rfl, by go_num, by have := H1.out; omega, by have := H1.out; omega, by have := H1.out; omega, HE, hcl, HP4.out, ⟨by omega, hx4, hf4⟩, HB4.out⟩
          case measure => omega
      · have hkI : ¬ ((k : Int) < (ys.length : Int)) := by omega
        obtain rfl : gk = 0 := by omega
        obtain rfl : ys = R := hhr.out
        have HB := Lib.hid hbel
        have HPz := Lib.hid (puzzle_any Ao co ys wr hRd (by omega))
        clear hbel hRd hhr q1 q2 q3
        go_wp2_with (first | (go_at_call 50; refine HPz.out.mono ?_; rintro e w3 ⟨a3, c3, rfl, hO3, hb3⟩; have hs3 := hb3.size; have hx3 : w3.cell? ⟨w.heap.size, 0, none⟩ = some (.slice none 0 0) := ((bcell hb3).1 _ _ hlw).trans hxw; have hf3 : ∀ o, w3.frozen? ⟨w.heap.size, o, none⟩ = false := (fun o => ((bcell hb3).2 _ _ hlw).trans (hfw o)); have HB3 := Lib.hid (HB.out.trans (hb3.mono HB.out.size)); have HO3 := Lib.hid hO3; clear hb3 hO3))
        refine bodyPost_ret (v := .tuple #[.agg #[.slice a3 ys.length c3], .bool true]) (by simp [results, Try.results28, go_sem, hx3]) rfl ⟨a3, c3, rfl, ?_, ?_⟩
        · exact row_low (row_setLow HO3.out _ _ (by simpa using hlw)) (by omega)
        · exact HB3.out.setCell (by simp) _
  · rw [if_neg h1, decide_eq_false h1]
    rw [decide_eq_false h1] at HS
    have HR := Lib.hid h
    clear h1 hcl h
    go_enter Try.func28, Try.ntmps28
    go_wp2_with (first | (go_at_call 48; refine (HS.out _ (HR.out.below (by (repeat (first | assumption | exact Below.refl _ _ | refine Below.drew ?_ | refine below_drewN ?_ _ | refine Below.setCell ?_ (by first | omega | (simp; done) | (simp; omega)) _ | refine Below.alloc ?_ (by first | omega | (simp; done) | (simp; omega)) _ | refine bchain ?_ (by assumption) (by first | omega | (simp; done) | (simp; omega))))))).mono ?_; rintro e w1 ⟨rfl, hb1⟩; have hs1 := hb1.size; (try simp only [World.size_alloc] at hs1); have hx1 : w1.cell? ⟨w.heap.size, 0, none⟩ = some (.slice none 0 0) := (by rw [(bcell hb1).1 _ _ (by first | omega | (simp; done) | (simp; omega))]; go_simp); have hf1 : ∀ o, w1.frozen? ⟨w.heap.size, o, none⟩ = false := (fun o => by rw [(bcell hb1).2 _ _ (by first | omega | (simp; done) | (simp; omega))]; go_simp); have B1 : Below w.heap.size w w1 := (by (repeat (first | assumption | exact Below.refl _ _ | refine Below.drew ?_ | refine below_drewN ?_ _ | refine Below.setCell ?_ (by first | omega | (simp; done) | (simp; omega)) _ | refine Below.alloc ?_ (by first | omega | (simp; done) | (simp; omega)) _ | refine bchain ?_ (by assumption) (by first | omega | (simp; done) | (simp; omega))))); clear hb1))
    refine bodyPost_ret (v := .tuple #[.agg #[.slice none 0 0], .bool false]) (by simp [results, Try.results28, go_sem, hx1]) rfl ⟨none, 0, rfl, World.ownsRow_nil _ _ _ _, by (repeat (first | assumption | exact Below.refl _ _ | refine Below.drew ?_ | refine below_drewN ?_ _ | refine Below.setCell ?_ (by first | omega | (simp; done) | (simp; omega)) _ | refine Below.alloc ?_ (by first | omega | (simp; done) | (simp; omega)) _ | refine bchain ?_ (by assumption) (by first | omega | (simp; done) | (simp; omega))))⟩
end Go.Proofs.Ytnnokfecjdmjpab
