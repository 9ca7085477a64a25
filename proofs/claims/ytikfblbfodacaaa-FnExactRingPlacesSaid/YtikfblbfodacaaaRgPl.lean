/- RingPlaces: the program's places before they are sorted: a row that is made and filled. -/
import Derived.Test.YtikfblbfodacaaaRgA
import Derived.Test.YtikfblbfodacaaaRgSort
import Derived.Test.YtikfblbfodacaaaRgComp
import Derived.Test.YtikfblbfodacaaaPairs0
import Derived.Test.YtikfblbfodacaaaCmpI
import Derived.WalkKit
import Derived.WalkSpells
import Derived.WalkLawsBesides
import Derived.Lib.Hide
import Derived.Deep.LoopGhost
import Derived.Deep.QuietTactic
import Derived.Deep.RegionWith
import Derived.Deep.RegionLaw
import Derived.Deep.RegionHeld3
import Derived.BigQuiet
import Derived.Shelf.RegionOpenPlain
namespace Go.Proofs.Ytikfblbfodacaaa
open Go.RowKit
set_option linter.unusedVariables false
set_option linter.unusedSimpArgs false
theorem cell_blockR {w w' : World} {g : Nat} (h : w'.heap[g]? = w.heap[g]?) (o : Nat) : w'.cell? ⟨g, o, none⟩ = w.cell? ⟨g, o, none⟩ ∧ w'.frozen? ⟨g, o, none⟩ = w.frozen? ⟨g, o, none⟩ := by
  simp [World.cell?, World.frozen?, h]
theorem wp_name {P : Program} {c : Code} {Q : Exit → Act → World → Prop} {a : Act} {w : World} (h : ∀ W, W = w → Code.wp P c Q a W) : Code.wp P c Q a w := h w rfl
/-- the pairs of the program's row -/
def prR (K : Nat → Int) (N : Int) (n : Nat) : List (Int × Int) := (List.range n).map fun i => (lwN (K i) N, lwD (K i) N)
theorem prR_len (K : Nat → Int) (N : Int) (n : Nat) : (prR K N n).length = n := by simp [prR]
theorem prR_at {K : Nat → Int} {N : Int} {n i : Nat} (h : i < n) : px (prR K N n) i = lwN (K i) N ∧ py (prR K N n) i = lwD (K i) N := by
  have e : (prR K N n).getD i (0, 0) = (lwN (K i) N, lwD (K i) N) := by unfold prR; simp [List.getD, h]
  unfold px py
  rw [e]
  exact ⟨rfl, rfl⟩
theorem fracInfo : (Try.prog.info? 66).map (fun i => (i.zero, i.size, i.bytes)) = some (some (.agg #[.int .i64 0, .int .i64 0]), 2, 16) := by kernel_rfl
set_option maxHeartbeats 8000000 in
set_option maxRecDepth 100000 in
theorem places_any (m p s q r : Int) (h1 : 1 ≤ m) (h2 : m ≤ 1000) (hv : wkOk p s = true) (hw : wkOk q r = true) (hne : s ≠ r) (w : World) :
    Calls Try.prog 31 #[.agg #[.int .i64 p, .int .i64 s, .int .i64 q, .int .i64 r, .int .i64 m]] w fun e w' => ∃ g cap, e = .returned (.slice (some ⟨g, 0, none⟩) (rgP (rgK m p s q r) (nrr s r).toNat).length cap) ∧ w.heap.size ≤ g ∧ RdP w' (some ⟨g, 0, none⟩) ((rgP (rgK m p s q r) (nrr s r).toNat).map fun k => (lwN k (nrr s r), lwD k (nrr s r))) ∧ Below w.heap.size w w' := by
  obtain ⟨i0, hi, hz0, hz1, hz2⟩ := info_parts fracInfo
  have HRA := Lib.hid (fun w => rapproach_any m p s q r h1 h2 hv hw w)
  obtain ⟨p1, p2, s1, s2⟩ := wkOk_iff.1 hv
  have b2 : 0 ≤ bm m p s q r ∧ bm m p s q r < m := mo_bd (bhd p s q r) m h1
  have b3 := nrr_bd hv hw
  have x4 : 1 ≤ nrr s r := by have : nrr s r ≠ 0 := fun h => hne (nrr_zero.1 h); omega
  have HKE := Lib.hid (show ∀ j : Nat, mo (plN p s (bm m p s q r + (j : Int) * m) (nrr s r)) (m * nrr s r) = rgK m p s q r j from fun j => rfl)
  have HKB := Lib.hid (fun k => rgK_bd (m := m) (p := p) (s := s) (q := q) (r := r) h1 x4 k)
  obtain ⟨n, hn⟩ : ∃ n : Nat, (n : Int) = nrr s r := ⟨(nrr s r).toNat, by omega⟩
  have hn2 : (nrr s r).toNat = n := by omega
  have HN := Lib.hid hn
  rw [hn2]
  clear hn hn2 hv hw hne
  generalize rgK m p s q r = K at *
  generalize bm m p s q r = A0 at *
  generalize nrr s r = N at *
  go_enter Try.func31, Try.ntmps31
  go_wp2_with fail
  refine (HRA.out _).mono ?_; rintro e w1 ⟨rfl, hb⟩
  have hc := (bcell hb).1
  have e0 : w1.cell? ⟨w.heap.size, 0, none⟩ = some (.int .i64 p) := by rw [hc _ _ (by simp)]; go_simp
  have e1 : w1.cell? ⟨w.heap.size, 1, none⟩ = some (.int .i64 s) := by rw [hc _ _ (by simp)]; go_simp
  have e4 : w1.cell? ⟨w.heap.size, 4, none⟩ = some (.int .i64 m) := by rw [hc _ _ (by simp)]; go_simp
  have z1 := hb.size
  rw [World.size_alloc] at z1
  have B1 := Lib.hid (((Below.refl w.heap.size w).alloc (Nat.le_refl _) (.cells #[.int .i64 p, .int .i64 s, .int .i64 q, .int .i64 r, .int .i64 m] 62)).trans (hb.mono (by simp)))
  clear hc hb
  have hNn := HN.out
  obtain ⟨w2, hrun, hown0, hgr0⟩ := run_make_full (P := Try.prog) w1 w1.heap.size 58 66 i0 (.agg #[.int .i64 0, .int .i64 0]) 2 Try.underlying58 hi hz0 hz1 .i64 .i64 n (by rw [hz2]; omega) (by unfold maxLen; omega) (Nat.le_refl _)
  rw [hNn] at hrun
  clear hNn
  have hbel0 : Below w1.heap.size w1 w2 := (Below.refl _ _).grown hgr0 (Nat.le_refl _) (fun k hk => by cases hk)
  obtain ⟨ys0, hy0⟩ : ∃ ys, ys = (madeCells (Value.agg #[.int .i64 0, .int .i64 0]).cells (n * 2)).toList := ⟨_, rfl⟩
  rw [← hy0] at hown0
  clear hy0 hgr0
  have hsz0 := hbel0.size
  have f0 : w2.cell? ⟨w.heap.size, 0, none⟩ = some (.int .i64 p) := by rw [(bcell hbel0).1 _ _ (by omega)]; exact e0
  have f1 : w2.cell? ⟨w.heap.size, 1, none⟩ = some (.int .i64 s) := by rw [(bcell hbel0).1 _ _ (by omega)]; exact e1
  have f4 : w2.cell? ⟨w.heap.size, 4, none⟩ = some (.int .i64 m) := by rw [(bcell hbel0).1 _ _ (by omega)]; exact e4
  have B2 := Lib.hid (B1.out.trans (hbel0.mono (by omega)))
  clear hbel0 e0 e1 e4 B1
  go_wp2_with fail
  clear hrun
  obtain ⟨G, hG⟩ : ∃ G, G = w1.heap.size := ⟨_, rfl⟩
  rw [← hG] at hown0 hsz0 z1 ⊢
  clear hG
  go_loopg [17] n (fun f v17 wr => ∃ (j : Nat) (ys : List Value), v17 = .int .i64 (j : Int) ∧ j + f = n ∧ wr.ownsRow G 66 2 (.slice (some ⟨G, 0, none⟩) n n) n ys ∧ Hid (∀ i, i < j * 2 → ys[i]? = (cs2 (prR K N n))[i]?) ∧ Below w.heap.size w wr ∧ wr.cell? ⟨w.heap.size, 0, none⟩ = some (.int .i64 p) ∧ wr.cell? ⟨w.heap.size, 1, none⟩ = some (.int .i64 s) ∧ wr.cell? ⟨w.heap.size, 4, none⟩ = some (.int .i64 m))
  case atStart => exact ⟨0, ys0, by first | rfl | simp, by omega, hown0, fun i hi => absurd hi (by omega), B2.out, f0, f1, f4⟩
  case round =>
    clear hown0 f0 f1 f4 B2 hsz0
    obtain ⟨j, ys, rfl, hj, hown, hys, hB, e0, e1, e4⟩ := hrel
    have HB := Lib.hid hB
    have hg0 := (hown.lt G rfl).2
    have hzr := hB.size
    by_cases qj : j < n
    · have hjI : (j : Int) < N := by have := HN.out; omega
      obtain ⟨c1, c2, c3, c4, c5, c6, c7, c8⟩ := rg_small h1 h2 p1 p2 s1 s2 b2.1 b2.2 x4 b3.2 HN.out qj
      have u2 : IntKind.i64.wrap ((j : Int) * m) = (j : Int) * m := IntWalk.i64_in _ (by omega)
      have u3 : IntKind.i64.wrap (A0 + (j : Int) * m) = A0 + (j : Int) * m := IntWalk.i64_in _ (by omega)
      have u7 : IntKind.i64.wrap ((j : Int) + 1) = (j : Int) + 1 := IntWalk.i64_in _ (by omega)
      have HPA := Lib.hid (fun W => placeAt_any p s (A0 + (j : Int) * m) N p1 p2 s1 s2 (by omega) (by omega) x4 (by omega) W)
      have hpl : -20300000 ≤ plN p s (A0 + (j : Int) * m) N ∧ plN p s (A0 + (j : Int) * m) N ≤ 20300000 := by unfold plN; omega
      have hbd := lwN_bd (a := plN p s (A0 + (j : Int) * m) N) (b := N) (B := 20300000) (by omega) hpl.1 hpl.2
      have hdp := lwD_pos (a := plN p s (A0 + (j : Int) * m) N) (b := N) (by omega)
      have hlm := low_mo (plN p s (A0 + (j : Int) * m) N) (m := m) (n := N) h1 x4
      have hOR := fun W => onRing_any m (lwN (plN p s (A0 + (j : Int) * m) N) N) (lwD (plN p s (A0 + (j : Int) * m) N) N) h1 h2 hdp.1 (by omega) (by omega) (by omega) W
      rw [hlm.1, HKE.out j] at hOR
      have hlm2 := hlm.2
      rw [HKE.out j] at hlm2
      have hOR2 : ∀ W, Calls Try.prog 47 #[.agg #[.int .i64 (lwN (plN p s (A0 + (j : Int) * m) N) N), .int .i64 (lwD (plN p s (A0 + (j : Int) * m) N) N)], .int .i64 m] W fun e w' => e = .returned (.agg #[.int .i64 (lwN (K j) N), .int .i64 (lwD (K j) N)]) ∧ Below W.heap.size W w' := fun W => (hOR W).mono fun e w' h => by rw [hlm2] at h; exact h
      have HOR := Lib.hid hOR2
      have hlen : ys.length = n * 2 := hown.1
      have hp0 := px_get (xs := prR K N n) (by rw [prR_len]; exact qj)
      have hp1 := py_get (xs := prR K N n) (by rw [prR_len]; exact qj)
      rw [(prR_at qj).1] at hp0
      rw [(prR_at qj).2] at hp1
      have HP := Lib.hid (And.intro hp0 hp1)
      have hcy0 := hown.cellAt (j * 2) (by omega)
      have hcy1 := hown.cellAt (j * 2 + 1) (by omega)
      have hfy0 := hown.frozenAt (j * 2)
      have hfy1 := hown.frozenAt (j * 2 + 1)
      rw [List.getElem?_eq_getElem (by omega)] at hcy0 hcy1
      have HO := Lib.hid hown
      clear hOR hOR2 hlm hlm2 hbd hdp hpl c1 c2 c3 c4 c5 c6 c7 c8 hp0 hp1 hown hB
      generalize lwN (K j) N = X at *
      generalize lwD (K j) N = Y at *
      generalize lwN (plN p s (A0 + (j : Int) * m) N) N = X0 at *
      generalize lwD (plN p s (A0 + (j : Int) * m) N) N = Y0 at *
      generalize hav : A0 + (j : Int) * m = av at *
      go_wp2_with fail
      refine wp_name fun W7 hW7 => ?_
      have hbW : Below wr.heap.size wr W7 := by rw [hW7]; exact (Below.refl _ _).alloc (Nat.le_refl _) _
      have zW : W7.heap.size = wr.heap.size + 1 := by rw [hW7]; simp
      have g0 : W7.cell? ⟨w.heap.size, 0, none⟩ = some (.int .i64 p) := by rw [(bcell hbW).1 _ _ (by omega)]; exact e0
      have g1 : W7.cell? ⟨w.heap.size, 1, none⟩ = some (.int .i64 s) := by rw [(bcell hbW).1 _ _ (by omega)]; exact e1
      have g4 : W7.cell? ⟨w.heap.size, 4, none⟩ = some (.int .i64 m) := by rw [(bcell hbW).1 _ _ (by omega)]; exact e4
      have t0 : W7.cell? ⟨wr.heap.size, 0, none⟩ = some (.int .i64 av) := by rw [hW7]; go_simp
      have t1 : W7.cell? ⟨wr.heap.size, 1, none⟩ = some (.int .i64 N) := by rw [hW7]; go_simp
      have y0 : W7.cell? ⟨G, j * 2, none⟩ = some (ys[j * 2]'(by omega)) := by rw [(bcell hbW).1 _ _ (by omega)]; exact hcy0
      have y1 : W7.cell? ⟨G, j * 2 + 1, none⟩ = some (ys[j * 2 + 1]'(by omega)) := by rw [(bcell hbW).1 _ _ (by omega)]; exact hcy1
      have yf0 : W7.frozen? ⟨G, j * 2, none⟩ = false := by rw [(bcell hbW).2 _ _ (by omega)]; exact hfy0
      have yf1 : W7.frozen? ⟨G, j * 2 + 1, none⟩ = false := by rw [(bcell hbW).2 _ _ (by omega)]; exact hfy1
      have key : ∀ W8, Below (w.heap.size + 1) wr W8 → Below w.heap.size w W8 ∧ W8.cell? ⟨w.heap.size, 0, none⟩ = some (.int .i64 p) ∧ W8.cell? ⟨w.heap.size, 1, none⟩ = some (.int .i64 s) ∧ W8.cell? ⟨w.heap.size, 4, none⟩ = some (.int .i64 m) := fun W8 h => by
        have hk := h.block w.heap.size (by omega)
        exact ⟨HB.out.trans (h.mono (by omega)), (by rw [(cell_blockR hk 0).1]; exact e0), (by rw [(cell_blockR hk 1).1]; exact e1), (by rw [(cell_blockR hk 4).1]; exact e4)⟩
      clear hW7 hcy0 hcy1 hfy0 hfy1 e0 e1 e4 u2 u3
      go_region_law (first | (go_simp; go_at_call 46; refine (HPA.out _).mono ?_; rintro e w3 ⟨rfl, hb3⟩; have k4 : w3.cell? ⟨w.heap.size, 4, none⟩ = some (.int .i64 m) := (by rw [(bcell hb3).1 _ _ (by first | omega | (simp; omega))]; first | assumption | (simp; assumption) | (go_simp; done)); have ky0 : w3.cell? ⟨G, j * 2, none⟩ = some (ys[j * 2]'(by omega)) := (by rw [(bcell hb3).1 _ _ (by first | omega | (simp; omega))]; first | assumption | (simp; assumption) | (go_simp; done)); have ky1 : w3.cell? ⟨G, j * 2 + 1, none⟩ = some (ys[j * 2 + 1]'(by omega)) := (by rw [(bcell hb3).1 _ _ (by first | omega | (simp; omega))]; first | assumption | (simp; assumption) | (go_simp; done)); have kf0 : w3.frozen? ⟨G, j * 2, none⟩ = false := (by rw [(bcell hb3).2 _ _ (by first | omega | (simp; omega))]; first | assumption | (simp; assumption) | (go_simp; done)); have kf1 : w3.frozen? ⟨G, j * 2 + 1, none⟩ = false := (by rw [(bcell hb3).2 _ _ (by first | omega | (simp; omega))]; first | assumption | (simp; assumption) | (go_simp; done)); have kz : W7.heap.size ≤ w3.heap.size := (by have := hb3.size; (try simp at this); omega); have kB : Below wr.heap.size wr w3 := (Below.trans (by first | exact hbW | exact hbW.drew | exact hbW.drew.drew | exact hbW.drew.drew.drew) (hb3.mono (by first | omega | (simp; omega))))) | (go_simp; go_at_call 47; refine (HOR.out _).mono ?_; rintro e w5 ⟨rfl, hb5⟩; have l4 : w5.cell? ⟨w.heap.size, 4, none⟩ = some (.int .i64 m) := (by rw [(bcell hb5).1 _ _ (by first | omega | (simp; omega))]; first | assumption | (simp; assumption) | (go_simp; done)); have ly0 : w5.cell? ⟨G, j * 2, none⟩ = some (ys[j * 2]'(by omega)) := (by rw [(bcell hb5).1 _ _ (by first | omega | (simp; omega))]; first | assumption | (simp; assumption) | (go_simp; done)); have ly1 : w5.cell? ⟨G, j * 2 + 1, none⟩ = some (ys[j * 2 + 1]'(by omega)) := (by rw [(bcell hb5).1 _ _ (by first | omega | (simp; omega))]; first | assumption | (simp; assumption) | (go_simp; done)); have lf0 : w5.frozen? ⟨G, j * 2, none⟩ = false := (by rw [(bcell hb5).2 _ _ (by first | omega | (simp; omega))]; first | assumption | (simp; assumption) | (go_simp; done)); have lf1 : w5.frozen? ⟨G, j * 2 + 1, none⟩ = false := (by rw [(bcell hb5).2 _ _ (by first | omega | (simp; omega))]; first | assumption | (simp; assumption) | (go_simp; done)); have lz : W7.heap.size ≤ w5.heap.size := (by have := hb5.size; (try simp at this); omega); have lB : Below wr.heap.size wr w5 := (Below.trans (by first | exact kB | exact kB.drew | exact kB.drew.drew | exact kB.drew.drew.drew) (hb5.mono (by first | omega | (simp; omega))))))
      all_goals
        clear k4 ky0 ky1 kf0 kf1 kz kB hb3 hb5 l4 ly0 ly1 lf0 lf1 g0 g1 g4 t0 t1 y0 y1 yf0 yf1
        go_wp2_with fail
        go_roundg (gk - 1)
        case rel =>
          refine ⟨j + 1, _, by go_num, by omega, (((rowB HO.out (by first | exact lB | exact lB.drew | exact lB.drew.drew | exact lB.drew.drew.drew)).stored (j * 2) (.int .i64 X)).1.stored (j * 2 + 1) (.int .i64 Y)).1, ?_, key _ ?_⟩
          · intro i hi
            by_cases q : i = j * 2 + 1
            · subst q; rw [List.getElem?_set_self (by rw [List.length_set]; omega), HP.out.2]
            · rw [List.getElem?_set_ne (by omega)]
              by_cases q' : i = j * 2
              · subst q'; rw [List.getElem?_set_self (by omega), HP.out.1]
              · rw [List.getElem?_set_ne (by omega)]; exact hys.out i (by omega)
          · exact Below.setCell (Below.setCell (by first | exact lB.mono (by omega) | exact (lB.mono (by omega)).drew | exact (lB.mono (by omega)).drew.drew | exact (lB.mono (by omega)).drew.drew.drew) (by omega) _) (by omega) _
        case measure => omega
    · obtain rfl : j = n := by omega
      have hjN := HN.out
      have hL := (mul_ab m N 1000 200 (by omega) (by omega) (by omega) (by omega)).2
      have hLp : 0 < m * N := Int.mul_pos (by omega) (by omega)
      have hlen : ys.length = j * 2 := hown.1
      have hcz : ∀ i, i < j → wr.cell? ⟨G, i * 2, none⟩ = some (.int .i64 (lwN (K i) N)) ∧ wr.cell? ⟨G, i * 2 + 1, none⟩ = some (.int .i64 (lwD (K i) N)) := by
        intro i hi
        have hp0 := px_get (xs := prR K N j) (by rw [prR_len]; exact hi)
        have hp1 := py_get (xs := prR K N j) (by rw [prR_len]; exact hi)
        rw [(prR_at hi).1] at hp0
        rw [(prR_at hi).2] at hp1
        rw [hown.cellAt (i * 2) (by omega), hown.cellAt (i * 2 + 1) (by omega), hys.out _ (by omega), hys.out _ (by omega)]
        exact ⟨hp0, hp1⟩
      have HS := Lib.hid (sortFr_any hLp x4 b3.2 (by omega) G j j K (fun i _ => HKB.out i) (by omega) wr hg0 hcz (fun o => hown.frozenAt o))
      clear hcz hown hys hlen e0 e1 e4 hL hLp hB
      go_wp2_with fail
      refine HS.out.mono ?_
      rintro e w5 ⟨rfl, z, hcz, hfz, hsz, hmz, hb5⟩
      have hG5 := hb5.size
      have HC := Lib.hid (compact_any N x4 G j z w5 ⟨hcz, hfz, by omega, Below.refl _ _⟩ (by omega) (by omega))
      have HE := Lib.hid (cp_all hsz hmz)
      have HB5 := Lib.hid hb5
      clear hcz hfz hsz hmz hb5 HS
      go_wp2_with fail
      refine HC.out.mono ?_
      rintro e w6 ⟨rfl, hc6, hb6⟩
      rw [HE.out] at hc6 ⊢
      have hz6 := hb6.size
      have HC6 := Lib.hid hc6
      have HB6 := Lib.hid hb6
      clear hc6 hb6
      go_wp2_with fail
      go_ret
      refine ⟨G, j, rfl, by omega, .inr ⟨G, 0, rfl, by omega, fun i hi => ?_⟩, HB.out.trans ((HB5.out.mono (by omega)).trans (HB6.out.mono (by omega)))⟩
      rw [List.length_map] at hi
      have := HC6.out i hi
      rw [Nat.zero_add]
      have ex : px ((rgP K j).map fun k => (lwN k N, lwD k N)) i = lwN ((rgP K j).getD i 0) N ∧ py ((rgP K j).map fun k => (lwN k N, lwD k N)) i = lwD ((rgP K j).getD i 0) N := by
        unfold px py
        rw [List.getD, List.getElem?_map, List.getD, List.getElem?_eq_getElem hi]
        exact ⟨rfl, rfl⟩
      rw [ex.1, ex.2]
      exact this
end Go.Proofs.Ytikfblbfodacaaa
