/- Puzzles (chapter 9): the model's BestClue, HarderPuzzle and MakePuzzle by contracts. -/
import Derived.Test.YtnnokfecjdmjpabPzSpec4
import Derived.WalkKit
import Derived.WalkSpells
import Derived.WalkLawsBesides
import Derived.Lib.Hide
import Derived.Deep.LoopGhost
import Derived.Deep.QuietTactic
import Derived.Deep.RegionWith
import Derived.Deep.RegionHeld3
import Derived.Deep.RegionHeldLaw
import Derived.BigQuiet
namespace Go.Proofs.Ytnnokfecjdmjpab
open Go.RowKit
set_option linter.unusedVariables false
set_option linter.unusedSimpArgs false
/-- the best one of the first, and how many fit it -/
def bsN (f : Nat → Int) : Nat → Int × Int
  | 0 => (0, 0)
  | k + 1 => if k = 0 ∨ f k < (bsN f k).2 then ((k : Int), f k) else bsN f k
/-- how many fit one clue alone -/
def onF (xs : List (Int × Int × Int)) (k : Nat) : Int := ((sol ((xs.drop k).take 1)).length : Int)
theorem onF_bd (xs : List (Int × Int × Int)) (k : Nat) : 0 ≤ onF xs k ∧ onF xs k ≤ 156 := by
  have := sol_len ((xs.drop k).take 1)
  unfold onF; omega
def bsO (xs : List (Int × Int × Int)) : Bool := pzG xs && !decide (xs.length = 0)
def bsI (xs : List (Int × Int × Int)) : Int := if bsO xs then (bsN (onF xs) xs.length).1 else 0
theorem clA_one {xs : List (Int × Int × Int)} (k : Nat) (h : clA xs = true) : clA ((xs.drop k).take 1) = true := clA_sub h fun _ hp => List.mem_of_mem_drop (List.mem_of_mem_take hp)
/-- the clues from which the needless ones are taken out -/
def hrd : Nat → List (Int × Int × Int) → Nat → List (Int × Int × Int)
  | 0, xs, k => xs
  | f + 1, xs, k => if (sol (drp xs k)).length = 1 then hrd f (drp xs k) k else hrd f xs (k + 1)
def hrO (xs : List (Int × Int × Int)) : Bool := pzG xs && decide ((sol xs).length = 1)
def hrL (xs : List (Int × Int × Int)) : List (Int × Int × Int) := if hrO xs then hrd xs.length xs 0 else []
theorem hrd_len : ∀ (f : Nat) (xs : List (Int × Int × Int)) (k : Nat), xs.length = k + f → (hrd f xs k).length ≤ xs.length
  | 0, xs, k, h => Nat.le_refl _
  | f + 1, xs, k, h => by
    unfold hrd
    have hd : (drp xs k).length = xs.length - 1 := drp_len (by omega)
    split
    · have := hrd_len f (drp xs k) k (by omega); omega
    · exact hrd_len f xs (k + 1) (by omega)
set_option maxHeartbeats 4000000 in
set_option maxRecDepth 100000 in
theorem specBestClue (a : Option Addr) (cap : Nat) (xs : List (Int × Int × Int)) (w : World) (h : RdT w a xs) (hn : xs.length ≤ 1048576) (hcap : xs.length ≤ cap) :
    Calls Try.prog 7 #[.agg #[.slice a xs.length cap]] w fun e w' => e = .returned (.tuple #[.int .i64 (bsI xs), .bool (bsO xs)]) ∧ Below w.heap.size w w' := by
  cases hg : pzG xs
  · rw [show bsO xs = false by simp [bsO, hg], show bsI xs = 0 by simp [bsI, bsO, hg]]
    have HG := Lib.hid hg
    clear hg
    go_enter Try.func7, Try.ntmps7
    go_wp2_with (first | (go_at_call 19; refine (pzGood_any a cap xs _ (h.below (by (repeat (first | assumption | exact Below.refl _ _ | refine Below.drew ?_ | refine below_drewN ?_ _ | refine Below.setCell ?_ (by first | omega | (simp; done) | (simp; omega)) _ | refine Below.alloc ?_ (by first | omega | (simp; done) | (simp; omega)) _ | refine bchain ?_ (by assumption) (by first | omega | (simp; done) | (simp; omega)))))) hn).mono ?_; rw [HG.out]; rintro e w0 ⟨rfl, hb0⟩; have hs0 := hb0.size; (try simp only [World.size_alloc] at hs0); have hc0 : w0.cell? ⟨w.heap.size, 0, none⟩ = some (.slice a xs.length cap) := (by rw [(bcell hb0).1 _ _ (by first | omega | (simp; done) | (simp; omega))]; go_simp); have B0 : Below w.heap.size w w0 := (by (repeat (first | assumption | exact Below.refl _ _ | refine Below.drew ?_ | refine below_drewN ?_ _ | refine Below.setCell ?_ (by first | omega | (simp; done) | (simp; omega)) _ | refine Below.alloc ?_ (by first | omega | (simp; done) | (simp; omega)) _ | refine bchain ?_ (by assumption) (by first | omega | (simp; done) | (simp; omega)))))))
    go_ret2
    exact ⟨rfl, B0⟩
  by_cases h0 : xs.length = 0
  · rw [show bsO xs = false by simp [bsO, h0], show bsI xs = 0 by simp [bsI, bsO, h0]]
    have HG := Lib.hid hg
    have e0 : ((xs.length : Int) == 0) = true := by rw [h0]; rfl
    clear hg h0
    go_enter Try.func7, Try.ntmps7
    go_wp2_with (first | (go_at_call 19; refine (pzGood_any a cap xs _ (h.below (by (repeat (first | assumption | exact Below.refl _ _ | refine Below.drew ?_ | refine below_drewN ?_ _ | refine Below.setCell ?_ (by first | omega | (simp; done) | (simp; omega)) _ | refine Below.alloc ?_ (by first | omega | (simp; done) | (simp; omega)) _ | refine bchain ?_ (by assumption) (by first | omega | (simp; done) | (simp; omega)))))) hn).mono ?_; rw [HG.out]; rintro e w0 ⟨rfl, hb0⟩; have hs0 := hb0.size; (try simp only [World.size_alloc] at hs0); have hc0 : w0.cell? ⟨w.heap.size, 0, none⟩ = some (.slice a xs.length cap) := (by rw [(bcell hb0).1 _ _ (by first | omega | (simp; done) | (simp; omega))]; go_simp); have B0 : Below w.heap.size w w0 := (by (repeat (first | assumption | exact Below.refl _ _ | refine Below.drew ?_ | refine below_drewN ?_ _ | refine Below.setCell ?_ (by first | omega | (simp; done) | (simp; omega)) _ | refine Below.alloc ?_ (by first | omega | (simp; done) | (simp; omega)) _ | refine bchain ?_ (by assumption) (by first | omega | (simp; done) | (simp; omega)))))))
    go_ret2
    exact ⟨rfl, B0⟩
  · have HL := Lib.hid (show bsI xs = (bsN (onF xs) xs.length).1 by simp [bsI, bsO, hg, h0])
    rw [show bsO xs = true by simp [bsO, hg, h0]]
    have HCL := Lib.hid (pzG_iff.1 hg).2
    have h6 := (pzG_iff.1 hg).1
    have HG := Lib.hid hg
    have e0 : ((xs.length : Int) == 0) = false := by rw [beq_eq_false_iff_ne]; omega
    have hcapI : (xs.length : Int) ≤ (cap : Int) := by omega
    rcases h with h | ⟨b, off, rfl, hlt, hc⟩
    · rw [h] at h0; exact absurd rfl h0
    have h : RdT w (some ⟨b, off, none⟩) xs := .inr ⟨b, off, rfl, hlt, hc⟩
    have HP := Lib.hid (fun k => RdT.part hlt hc k 1)
    have HBN := Lib.hid (fun k => (show bsN (onF xs) (k + 1) = if k = 0 ∨ onF xs k < (bsN (onF xs) k).2 then ((k : Int), onF xs k) else bsN (onF xs) k from rfl))
    clear hg hc h0
    go_enter Try.func7, Try.ntmps7
    have HA : ∃ a : Option Addr, a = some ⟨b, off, none⟩ := ⟨_, rfl⟩
    obtain ⟨a, ha⟩ := HA
    go_wp2_with (first | (go_at_call 19; refine (pzGood_any (some ⟨b, off, none⟩) cap xs _ (h.below (by (repeat (first | assumption | exact Below.refl _ _ | refine Below.drew ?_ | refine below_drewN ?_ _ | refine Below.setCell ?_ (by first | omega | (simp; done) | (simp; omega)) _ | refine Below.alloc ?_ (by first | omega | (simp; done) | (simp; omega)) _ | refine bchain ?_ (by assumption) (by first | omega | (simp; done) | (simp; omega)))))) hn).mono ?_; rw [HG.out]; rintro e w0 ⟨rfl, hb0⟩; have hs0 := hb0.size; (try simp only [World.size_alloc] at hs0); have hc0 : w0.cell? ⟨w.heap.size, 0, none⟩ = some (.slice (some ⟨b, off, none⟩) xs.length cap) := (by rw [(bcell hb0).1 _ _ (by first | omega | (simp; done) | (simp; omega))]; go_simp); have B0 : Below w.heap.size w w0 := (by (repeat (first | assumption | exact Below.refl _ _ | refine Below.drew ?_ | refine below_drewN ?_ _ | refine Below.setCell ?_ (by first | omega | (simp; done) | (simp; omega)) _ | refine Below.alloc ?_ (by first | omega | (simp; done) | (simp; omega)) _ | refine bchain ?_ (by assumption) (by first | omega | (simp; done) | (simp; omega)))))))
    have HB0 := Lib.hid B0
    have HX := Lib.hid (And.intro (show w.heap.size < w0.heap.size by omega) hc0)
    clear B0 hb0 hc0
    go_loopg [4, 5, 20] xs.length (fun f v4 v5 v20 wr => ∃ (k : Nat), v4 = .int .i64 (bsN (onF xs) k).1 ∧ v5 = .int .i64 (bsN (onF xs) k).2 ∧ v20 = .int .i64 (k : Int) ∧ k + f = xs.length ∧ (w.heap.size < wr.heap.size ∧ wr.cell? ⟨w.heap.size, 0, none⟩ = some (.slice (some ⟨b, off, none⟩) xs.length cap)) ∧ Below w.heap.size w wr)
    case atStart => exact ⟨0, rfl, rfl, rfl, by omega, HX.out, HB0.out⟩
    case round =>
      obtain ⟨k, rfl, rfl, rfl, q1, ⟨hlw, hcx⟩, hbel⟩ := hrel
      have hsz := hbel.size
      by_cases hk : k < xs.length
      · have hkI : (k : Int) < (xs.length : Int) := by omega
        have hkI1 : (k : Int) + 1 ≤ (xs.length : Int) := by omega
        have hkI2 : (k : Int) + 1 ≤ (cap : Int) := by omega
        have hne : ¬ cap = k := by omega
        have hwr : IntKind.i64.wrap ((k : Int) + 1) = (k : Int) + 1 := IntWalk.i64_in _ (by omega)
        have hp0 : (0 : Int) ≤ (k : Int) + 1 := by omega
        have hp2 : ((k : Int) + 1).toNat = k + 1 := by omega
        have hp3 : k + 1 - k = 1 := by omega
        have hl1 : ((xs.drop k).take 1).length = 1 := by simp; omega
        have HA := Lib.hid (pzAll_any (some ⟨b, off + k * 3, none⟩) (cap - k) ((xs.drop k).take 1) wr ((HP.out k).below hbel) (by omega) (clA_one k HCL.out))
        rw [hl1] at HA
        have HBk := Lib.hid (HBN.out k)
        have hob := onF_bd xs k
        have HOF := Lib.hid (show onF xs k = ((sol ((xs.drop k).take 1)).length : Int) from rfl)
        have HB := Lib.hid hbel
        clear hbel hl1
        generalize (sol ((xs.drop k).take 1)) = S at *
        have hSI := HOF.out
        generalize onF xs k = F at *
        subst hSI
        generalize bsN (onF xs) k = bn at *
        obtain ⟨bi, bf⟩ := bn
        simp only at HBk
        by_cases hz : k = 0
        · subst hz
          have HE := Lib.hid (HBk.out.trans (if_pos (.inl rfl)))
          clear HBk
          go_wp2_with (first | (go_at_call 20; refine HA.out.mono ?_; rintro e w1 ⟨a1, c1, rfl, hO1, hb1⟩; have hs1 := hb1.size; have hcx1 : w1.cell? ⟨w.heap.size, 0, none⟩ = some (.slice (some ⟨b, off, none⟩) xs.length cap) := (by rw [(bcell hb1).1 _ _ hlw]; exact hcx); have HB1 := Lib.hid (HB.out.trans (hb1.mono HB.out.size)); clear hO1 hb1))
          all_goals
            go_roundg (gk - 1)
            case rel => exact ⟨0 + 1, by rw [HE.out]; rfl, by rw [HE.out], by go_num, by omega, ⟨by omega, hcx1⟩, HB1.out⟩
            case measure => omega
        · have ez : ((k : Int) == 0) = false := by rw [beq_eq_false_iff_ne]; omega
          by_cases hq : (S.length : Int) < bf
          · have HE := Lib.hid (HBk.out.trans (if_pos (.inr hq)))
            clear HBk
            go_wp2_with (first | (go_at_call 20; refine HA.out.mono ?_; rintro e w1 ⟨a1, c1, rfl, hO1, hb1⟩; have hs1 := hb1.size; have hcx1 : w1.cell? ⟨w.heap.size, 0, none⟩ = some (.slice (some ⟨b, off, none⟩) xs.length cap) := (by rw [(bcell hb1).1 _ _ hlw]; exact hcx); have HB1 := Lib.hid (HB.out.trans (hb1.mono HB.out.size)); clear hO1 hb1))
            all_goals
              go_roundg (gk - 1)
              case rel => exact ⟨k + 1, by rw [HE.out], by rw [HE.out], by go_num, by omega, ⟨by omega, hcx1⟩, HB1.out⟩
              case measure => omega
          · have HE := Lib.hid (HBk.out.trans (if_neg (by rintro (q | q); exact hz q; exact hq q)))
            clear HBk
            go_wp2_with (first | (go_at_call 20; refine HA.out.mono ?_; rintro e w1 ⟨a1, c1, rfl, hO1, hb1⟩; have hs1 := hb1.size; have hcx1 : w1.cell? ⟨w.heap.size, 0, none⟩ = some (.slice (some ⟨b, off, none⟩) xs.length cap) := (by rw [(bcell hb1).1 _ _ hlw]; exact hcx); have HB1 := Lib.hid (HB.out.trans (hb1.mono HB.out.size)); clear hO1 hb1))
            all_goals
              go_roundg (gk - 1)
              case rel => exact ⟨k + 1, by rw [HE.out], by rw [HE.out], by go_num, by omega, ⟨by omega, hcx1⟩, HB1.out⟩
              case measure => omega
      · have HK := Lib.hid (show xs.length = k by omega)
        have HB := Lib.hid hbel
        have hkI : ¬ ((k : Int) < (xs.length : Int)) := by omega
        clear hbel q1
        go_wp2_with fail
        go_ret2
        rw [HL.out, HK.out]
        exact ⟨rfl, HB.out⟩
set_option maxHeartbeats 4000000 in
set_option maxRecDepth 100000 in
theorem specHarderPuzzle (a : Option Addr) (cap : Nat) (xs : List (Int × Int × Int)) (w : World) (h : RdT w a xs) (hn : xs.length ≤ 1048576) (hcap : xs.length ≤ cap) :
    Calls Try.prog 11 #[.agg #[.slice a xs.length cap]] w (RetP9 w (hrL xs) (hrO xs)) := by
  cases hg : pzG xs
  · rw [show hrO xs = false by simp [hrO, hg], show hrL xs = [] by simp [hrL, hrO, hg]]
    have HG := Lib.hid hg
    clear hg
    go_enter Try.func11, Try.ntmps11
    go_wp2_with (first | (go_at_call 19; refine (pzGood_any a cap xs _ (h.below (by (repeat (first | assumption | exact Below.refl _ _ | refine Below.drew ?_ | refine below_drewN ?_ _ | refine Below.setCell ?_ (by first | omega | (simp; done) | (simp; omega)) _ | refine Below.alloc ?_ (by first | omega | (simp; done) | (simp; omega)) _ | refine bchain ?_ (by assumption) (by first | omega | (simp; done) | (simp; omega)))))) hn).mono ?_; rw [HG.out]; rintro e w0 ⟨rfl, hb0⟩; have hs0 := hb0.size; (try simp only [World.size_alloc] at hs0); have hc0 : w0.cell? ⟨w.heap.size, 0, none⟩ = some (.slice a xs.length cap) := (by rw [(bcell hb0).1 _ _ (by first | omega | (simp; done) | (simp; omega))]; go_simp); have hx0 : w0.cell? ⟨w.heap.size + 1, 0, none⟩ = some (.slice none 0 0) := (by rw [(bcell hb0).1 _ _ (by first | omega | (simp; done) | (simp; omega))]; go_simp); have hfx : ∀ o, w0.frozen? ⟨w.heap.size + 1, o, none⟩ = false := (fun o => by rw [(bcell hb0).2 _ _ (by first | omega | (simp; done) | (simp; omega))]; go_simp); have B0 : Below w.heap.size w w0 := (by (repeat (first | assumption | exact Below.refl _ _ | refine Below.drew ?_ | refine below_drewN ?_ _ | refine Below.setCell ?_ (by first | omega | (simp; done) | (simp; omega)) _ | refine Below.alloc ?_ (by first | omega | (simp; done) | (simp; omega)) _ | refine bchain ?_ (by assumption) (by first | omega | (simp; done) | (simp; omega)))))))
    refine bodyPost_ret (v := .tuple #[.agg #[.slice none 0 0], .bool false]) (by simp [results, Try.results11, go_sem, hx0]) rfl ⟨none, 0, rfl, World.ownsRow_nil _ _ _ _, by (repeat (first | assumption | exact Below.refl _ _ | refine Below.drew ?_ | refine below_drewN ?_ _ | refine Below.setCell ?_ (by first | omega | (simp; done) | (simp; omega)) _ | refine Below.alloc ?_ (by first | omega | (simp; done) | (simp; omega)) _ | refine bchain ?_ (by assumption) (by first | omega | (simp; done) | (simp; omega))))⟩
  have HCL := Lib.hid (pzG_iff.1 hg).2
  have h6 := (pzG_iff.1 hg).1
  by_cases h1 : (sol xs).length = 1
  · rw [show hrO xs = true by simp [hrO, hg, h1], show hrL xs = hrd xs.length xs 0 by simp [hrL, hrO, hg, h1]]
    have HG := Lib.hid hg
    have HS := Lib.hid (fun w h => pzSolved_any a cap xs w h hn HCL.out)
    rw [decide_eq_true h1] at HS
    have hne : 0 < xs.length := by
      rcases Nat.eq_zero_or_pos xs.length with q | q
      · rw [List.length_eq_zero_iff.1 q] at h1; exact absurd h1 (by decide +kernel)
      · exact q
    obtain ⟨A, rfl⟩ : ∃ A, a = some A := by
      rcases h with h | ⟨b, off, rfl, _⟩
      · rw [h] at hne; simp at hne
      · exact ⟨_, rfl⟩
    have HNW := Lib.hid (fun (W0 W : World) (B0 : Below w.heap.size w W0) (hb : Below W0.heap.size W0 W) => (h.below B0).newsAt hb)
    clear hg h1
    obtain ⟨i0, hi, hz0', hz1', hz2'⟩ := info_parts cluesInfo
    obtain ⟨R, hR⟩ : ∃ R, hrd xs.length xs 0 = R := ⟨_, rfl⟩
    rw [hR]
    have hR := Lib.hid hR
    go_enter Try.func11, Try.ntmps11
    go_wp2_with (first | (go_at_call 19; refine (pzGood_any (some A) cap xs _ (h.below (by (repeat (first | assumption | exact Below.refl _ _ | refine Below.drew ?_ | refine below_drewN ?_ _ | refine Below.setCell ?_ (by first | omega | (simp; done) | (simp; omega)) _ | refine Below.alloc ?_ (by first | omega | (simp; done) | (simp; omega)) _ | refine bchain ?_ (by assumption) (by first | omega | (simp; done) | (simp; omega)))))) hn).mono ?_; rw [HG.out]; rintro e w0 ⟨rfl, hb0⟩; have hs0 := hb0.size; (try simp only [World.size_alloc] at hs0); have hc0 : w0.cell? ⟨w.heap.size, 0, none⟩ = some (.slice (some A) xs.length cap) := (by rw [(bcell hb0).1 _ _ (by first | omega | (simp; done) | (simp; omega))]; go_simp); have hx0 : w0.cell? ⟨w.heap.size + 1, 0, none⟩ = some (.slice none 0 0) := (by rw [(bcell hb0).1 _ _ (by first | omega | (simp; done) | (simp; omega))]; go_simp); have hfx : ∀ o, w0.frozen? ⟨w.heap.size + 1, o, none⟩ = false := (fun o => by rw [(bcell hb0).2 _ _ (by first | omega | (simp; done) | (simp; omega))]; go_simp); have B0 : Below w.heap.size w w0 := (by (repeat (first | assumption | exact Below.refl _ _ | refine Below.drew ?_ | refine below_drewN ?_ _ | refine Below.setCell ?_ (by first | omega | (simp; done) | (simp; omega)) _ | refine Below.alloc ?_ (by first | omega | (simp; done) | (simp; omega)) _ | refine bchain ?_ (by assumption) (by first | omega | (simp; done) | (simp; omega)))))) | (go_at_call 25; refine (HS.out _ (h.below B0)).mono ?_; rintro e w1 ⟨rfl, hb1⟩; have hs1 := hb1.size; have hc1 : w1.cell? ⟨w.heap.size, 0, none⟩ = some (.slice (some A) xs.length cap) := (by rw [(bcell hb1).1 _ _ (by omega)]; exact hc0); have hx1 : w1.cell? ⟨w.heap.size + 1, 0, none⟩ = some (.slice none 0 0) := (by rw [(bcell hb1).1 _ _ (by omega)]; exact hx0); have hf1 : ∀ o, w1.frozen? ⟨w.heap.size + 1, o, none⟩ = false := (fun o => by rw [(bcell hb1).2 _ _ (by omega)]; exact hfx o); have B1 : Below w.heap.size w w1 := B0.trans (hb1.mono B0.size); have hlt0 : w.heap.size < w1.heap.size := (by omega); have hlt1 : w.heap.size + 1 < w1.heap.size := (by omega)) | (at_builtin; refine wpList_append_anyN _ rfl _ _ 28 rfl w1.heap.size 63 i0 (.agg #[.int .i64 0, .int .i64 0, .int .i64 0]) 3 24 Try.underlying28 hi hz0' hz1' hz2' rfl (by decide) _ _ _ rfl (own_lit_at w1 w1.heap.size w1.heap.size 63 rfl (Nat.le_refl _)) A xs.length cap (cs3 xs) rfl (cs3_length xs) (HNW.out w1 _ B1 (by (repeat (first | assumption | exact Below.refl _ _ | refine Below.drew ?_ | refine below_drewN ?_ _ | refine Below.setCell ?_ (by first | omega | (simp; done) | (simp; omega)) _ | refine Below.alloc ?_ (by first | omega | (simp; done) | (simp; omega)) _ | refine bchain ?_ (by assumption) (by first | omega | (simp; done) | (simp; omega)))))) (cs3_one _) (by unfold maxLen; omega) (by omega) (by first | omega | (simp; done) | (simp; omega)) xs.length (Nat.zero_add _) ?_; intro a2 c2 w2 hO2 hg2; have B2 : Below w1.heap.size w1 w2 := Below.grown (show Below w1.heap.size w1 _ from by (repeat (first | assumption | exact Below.refl _ _ | refine Below.drew ?_ | refine below_drewN ?_ _ | refine Below.setCell ?_ (by first | omega | (simp; done) | (simp; omega)) _ | refine Below.alloc ?_ (by first | omega | (simp; done) | (simp; omega)) _ | refine bchain ?_ (by assumption) (by first | omega | (simp; done) | (simp; omega))))) hg2 (by first | omega | (simp; done) | (simp; omega)) (fun x hx => by have e : w1.heap.size = x := Option.some.inj hx; omega); have z2 := B2.size; have HO2 := Lib.hid hO2; clear hg2))
    have HC2 := Lib.hid (show OwnC w2 (w.heap.size + 1 + 1) a2 c2 xs from row_low HO2.out (by omega))
    have HX2 := Lib.hid (And.intro ((bcell B2).1 (w.heap.size + 1) 0 (by omega) |>.trans hx1) (fun o => ((bcell B2).2 (w.heap.size + 1) o (by omega)).trans (hf1 o)))
    have HB2 := Lib.hid (B1.trans (B2.mono B1.size))
    have hlt2 : w.heap.size + 1 < w2.heap.size := by omega
    clear HO2 B2 B1 hx1 hf1 hc1 hb1 hx0 hfx hc0 hb0 B0 hO2
    go_loopg [4, 5] xs.length (fun f v4 v5 wr => ∃ (k : Nat) (ys : List (Int × Int × Int)) (ao : Option Addr) (co : Nat), v4 = .slice ao ys.length co ∧ v5 = .int .i64 (k : Int) ∧ ys.length = k + f ∧ ys.length ≤ 6 ∧ Hid (hrd f ys k = R) ∧ Hid (clA ys = true) ∧ OwnC wr (w.heap.size + 1 + 1) ao co ys ∧ (w.heap.size + 1 < wr.heap.size ∧ wr.cell? ⟨w.heap.size + 1, 0, none⟩ = some (.slice none 0 0) ∧ ∀ o, wr.frozen? ⟨w.heap.size + 1, o, none⟩ = false) ∧ Below w.heap.size w wr)
    case atStart => exact ⟨0, xs, a2, c2, rfl, rfl, by omega, h6, hR, HCL, HC2.out, ⟨hlt2, HX2.out⟩, HB2.out⟩
    case round =>
      obtain ⟨k, ys, ao, co, rfl, rfl, q1, q2, hhr, hcl, hO, ⟨hlw, hxw, hfw⟩, hbel⟩ := hrel
      have hsz := hbel.size
      by_cases hk : k < ys.length
      · have hkI : (k : Int) < (ys.length : Int) := by omega
        obtain ⟨G, rfl⟩ : ∃ G, gk = G + 1 := ⟨gk - 1, by omega⟩
        have hdl := drp_len hk
        have hkb : (k : Int) ≤ 6 := by omega
        have hstep := Lib.hid (show hrd (G + 1) ys k = if (sol (drp ys k)).length = 1 then hrd G (drp ys k) k else hrd G ys (k + 1) from rfl)
        have HB := Lib.hid hbel
        have Hk := Lib.hid hk
        have H1 := Lib.hid (And.intro q1 (And.intro q2 hdl))
        have HW := Lib.hid (pzWithout_any ao co ys k wr hO.rd (by omega) (row_cap hO) hk)
        have HSv := Lib.hid (fun a3 c3 w3 h => pzSolved_any a3 c3 (drp ys k) w3 h (by rw [hdl]; omega) (drp_cl k hcl.out))
        have hcd := Lib.hid (drp_cl k hcl.out)
        clear hbel q1 q2 hdl hk
        generalize drp ys k = D at *
        by_cases hq : (sol D).length = 1
        · have HE := Lib.hid (show hrd G D k = R from ((hstep.out.trans (if_pos hq)).symm.trans hhr.out))
          rw [decide_eq_true hq] at HSv
          clear hq hstep
          go_wp2_with (first | (go_at_call 26; refine HW.out.mono ?_; rintro e w3 ⟨a3, c3, rfl, hO3, hb3⟩; have hs3 := hb3.size; have hx3 : w3.cell? ⟨w.heap.size + 1, 0, none⟩ = some (.slice none 0 0) := ((bcell hb3).1 _ _ hlw).trans hxw; have hf3 : ∀ o, w3.frozen? ⟨w.heap.size + 1, o, none⟩ = false := (fun o => ((bcell hb3).2 _ _ hlw).trans (hfw o)); have HO3 := Lib.hid hO3; have HB3 := Lib.hid (HB.out.trans (hb3.mono HB.out.size)); have HP3 := Lib.hid (hO.below hb3); clear hO3 hb3) | (go_at_call 25; refine (HSv.out _ _ _ HO3.out.rd).mono ?_; rintro e w4 ⟨rfl, hb4⟩; have hs4 := hb4.size; have hx4 : w4.cell? ⟨w.heap.size + 1, 0, none⟩ = some (.slice none 0 0) := ((bcell hb4).1 _ _ (by omega)).trans hx3; have hf4 : ∀ o, w4.frozen? ⟨w.heap.size + 1, o, none⟩ = false := (fun o => ((bcell hb4).2 _ _ (by omega)).trans (hf3 o)); have HB4 := Lib.hid (HB3.out.trans (hb4.mono HB3.out.size)); have HO4 := Lib.hid (HO3.out.below hb4); have HP4 := Lib.hid (HP3.out.below hb4); clear hb4))
          go_roundg G
          case rel => exact ⟨k, D, a3, c3, rfl, rfl, by have := H1.out; omega, by have := H1.out; omega, HE, hcd, row_low HO4.out hlw, ⟨by omega, hx4, hf4⟩, HB4.out⟩
          case measure => omega
        · have HE := Lib.hid (show hrd G ys (k + 1) = R from ((hstep.out.trans (if_neg hq)).symm.trans hhr.out))
          rw [decide_eq_false hq] at HSv
          clear hq hstep
          go_wp2_with (first | (go_at_call 26; refine HW.out.mono ?_; rintro e w3 ⟨a3, c3, rfl, hO3, hb3⟩; have hs3 := hb3.size; have hx3 : w3.cell? ⟨w.heap.size + 1, 0, none⟩ = some (.slice none 0 0) := ((bcell hb3).1 _ _ hlw).trans hxw; have hf3 : ∀ o, w3.frozen? ⟨w.heap.size + 1, o, none⟩ = false := (fun o => ((bcell hb3).2 _ _ hlw).trans (hfw o)); have HO3 := Lib.hid hO3; have HB3 := Lib.hid (HB.out.trans (hb3.mono HB.out.size)); have HP3 := Lib.hid (hO.below hb3); clear hO3 hb3) | (go_at_call 25; refine (HSv.out _ _ _ HO3.out.rd).mono ?_; rintro e w4 ⟨rfl, hb4⟩; have hs4 := hb4.size; have hx4 : w4.cell? ⟨w.heap.size + 1, 0, none⟩ = some (.slice none 0 0) := ((bcell hb4).1 _ _ (by omega)).trans hx3; have hf4 : ∀ o, w4.frozen? ⟨w.heap.size + 1, o, none⟩ = false := (fun o => ((bcell hb4).2 _ _ (by omega)).trans (hf3 o)); have HB4 := Lib.hid (HB3.out.trans (hb4.mono HB3.out.size)); have HO4 := Lib.hid (HO3.out.below hb4); have HP4 := Lib.hid (HP3.out.below hb4); clear hb4))
          go_roundg G
          case rel => exact ⟨k + 1, ys, ao, co, rfl, by go_num, by have := H1.out; omega, by have := H1.out; omega, HE, hcl, HP4.out, ⟨by omega, hx4, hf4⟩, HB4.out⟩
          case measure => omega
      · have hkI : ¬ ((k : Int) < (ys.length : Int)) := by omega
        obtain rfl : gk = 0 := by omega
        obtain rfl : ys = R := hhr.out
        have HB := Lib.hid hbel
        have HO := Lib.hid hO
        clear hbel hO hhr q1
        go_wp2_with fail
        refine bodyPost_ret (v := .tuple #[.agg #[.slice ao ys.length co], .bool true]) (by simp [results, Try.results11, go_sem, hxw]) rfl ⟨ao, co, rfl, ?_, ?_⟩
        · exact row_low (row_setLow HO.out _ _ (by simp)) (by omega)
        · exact HB.out.setCell (by simp) _
  · rw [show hrO xs = false by simp [hrO, h1], show hrL xs = [] by simp [hrL, hrO, h1]]
    have HG := Lib.hid hg
    have HS := Lib.hid (fun w h => pzSolved_any a cap xs w h hn HCL.out)
    rw [decide_eq_false h1] at HS
    clear hg h1
    go_enter Try.func11, Try.ntmps11
    go_wp2_with (first | (go_at_call 19; refine (pzGood_any a cap xs _ (h.below (by (repeat (first | assumption | exact Below.refl _ _ | refine Below.drew ?_ | refine below_drewN ?_ _ | refine Below.setCell ?_ (by first | omega | (simp; done) | (simp; omega)) _ | refine Below.alloc ?_ (by first | omega | (simp; done) | (simp; omega)) _ | refine bchain ?_ (by assumption) (by first | omega | (simp; done) | (simp; omega)))))) hn).mono ?_; rw [HG.out]; rintro e w0 ⟨rfl, hb0⟩; have hs0 := hb0.size; (try simp only [World.size_alloc] at hs0); have hc0 : w0.cell? ⟨w.heap.size, 0, none⟩ = some (.slice a xs.length cap) := (by rw [(bcell hb0).1 _ _ (by first | omega | (simp; done) | (simp; omega))]; go_simp); have hx0 : w0.cell? ⟨w.heap.size + 1, 0, none⟩ = some (.slice none 0 0) := (by rw [(bcell hb0).1 _ _ (by first | omega | (simp; done) | (simp; omega))]; go_simp); have hfx : ∀ o, w0.frozen? ⟨w.heap.size + 1, o, none⟩ = false := (fun o => by rw [(bcell hb0).2 _ _ (by first | omega | (simp; done) | (simp; omega))]; go_simp); have B0 : Below w.heap.size w w0 := (by (repeat (first | assumption | exact Below.refl _ _ | refine Below.drew ?_ | refine below_drewN ?_ _ | refine Below.setCell ?_ (by first | omega | (simp; done) | (simp; omega)) _ | refine Below.alloc ?_ (by first | omega | (simp; done) | (simp; omega)) _ | refine bchain ?_ (by assumption) (by first | omega | (simp; done) | (simp; omega)))))) | (go_at_call 25; refine (HS.out _ (h.below B0)).mono ?_; rintro e w1 ⟨rfl, hb1⟩; have hs1 := hb1.size; have hc1 : w1.cell? ⟨w.heap.size, 0, none⟩ = some (.slice a xs.length cap) := (by rw [(bcell hb1).1 _ _ (by omega)]; exact hc0); have hx1 : w1.cell? ⟨w.heap.size + 1, 0, none⟩ = some (.slice none 0 0) := (by rw [(bcell hb1).1 _ _ (by omega)]; exact hx0); have hf1 : ∀ o, w1.frozen? ⟨w.heap.size + 1, o, none⟩ = false := (fun o => by rw [(bcell hb1).2 _ _ (by omega)]; exact hfx o); have B1 : Below w.heap.size w w1 := B0.trans (hb1.mono B0.size)))
    refine bodyPost_ret (v := .tuple #[.agg #[.slice none 0 0], .bool false]) (by simp [results, Try.results11, go_sem, hx1]) rfl ⟨none, 0, rfl, World.ownsRow_nil _ _ _ _, by (repeat (first | assumption | exact Below.refl _ _ | refine Below.drew ?_ | refine below_drewN ?_ _ | refine Below.setCell ?_ (by first | omega | (simp; done) | (simp; omega)) _ | refine Below.alloc ?_ (by first | omega | (simp; done) | (simp; omega)) _ | refine bchain ?_ (by assumption) (by first | omega | (simp; done) | (simp; omega))))⟩
end Go.Proofs.Ytnnokfecjdmjpab
