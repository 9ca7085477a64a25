/- Who is there (chapter 8), the program's ways by contracts. -/
import Derived.Test.YtjfmmdblfhgelaaWinMost
import Derived.Test.YtjfmmdblfhgelaaWinWho
import Derived.Test.YtjfmmdblfhgelaaWinLI
import Derived.Test.YtjfmmdblfhgelaaWinNumI
import Derived.Test.YtjfmmdblfhgelaaSlices
import Derived.WalkKit
import Derived.WalkSpells
import Derived.WalkLawsBesides
import Derived.Lib.Hide
import Derived.Deep.LoopGhost
import Derived.Deep.QuietTactic
import Derived.Deep.RegionHeld3
import Derived.BigQuiet
namespace Go.Proofs.Ytjfmmdblfhgelaa
open Go.RowKit
set_option linter.unusedVariables false
set_option linter.unusedSimpArgs false
set_option maxHeartbeats 2000000 in
theorem isThere_any (f s t : Int) (h1 : 0 ≤ f) (h2 : f ≤ 200) (h3 : 0 ≤ s) (h4 : s ≤ 200) (w : World) :
    Calls Try.prog 49 #[.agg #[.int .i64 f, .int .i64 s], .int .i64 t] w fun e w' => e = .returned (.bool (inB t f (f + s))) ∧ Below w.heap.size w w' := by
  have hE := Lib.hid (fun w => end_any f s h1 h2 h3 h4 w)
  have hI := Lib.hid (fun w => implIn t f (f + s) w)
  generalize inB t f (f + s) = b at *
  generalize f + s = g at *
  go_enter Try.func49, Try.ntmps49
  go_wp2_with fail
  go_region_held3 (fun w' => Below w.heap.size w w' ∧ w.heap.size < w'.heap.size ∧ w'.cell? ⟨w.heap.size, 0, none⟩ = some (.int .i64 f) ∧ w'.cell? ⟨w.heap.size, 1, none⟩ = some (.int .i64 s)) (refine ⟨?_, ?_, ?_, ?_⟩ <;> first | assumption | omega | (go_simp; done) | (repeat (first | exact HBl.out | exact Below.refl _ _ | refine Below.drew ?_ | refine below_drewN ?_ _ | refine Below.alloc ?_ (by first | omega | (simp; done) | (simp; omega)) _ | refine bchain ?_ (by assumption) (by first | omega | (simp; done) | (simp; omega))))) (first | (go_at_call 50; refine (hE.out _).mono ?_; rintro e w1 ⟨rfl, hb⟩; have hzz := hb.size; (try simp at hzz); have hcA := fun o => (bcell hb).1 (w.heap.size) o (by first | omega | (simp; omega) | (simp; done))) | (go_at_call 48; refine (hI.out _).mono ?_; rintro e w1 ⟨rfl, rfl⟩))
  all_goals go_wp2_with fail
  all_goals (go_ret; refine ⟨rB ?_, ?_⟩)
  all_goals first | rfl | (exact hHeld.1) | (repeat (first | exact HBl.out | exact Below.refl _ _ | refine Below.drew ?_ | refine below_drewN ?_ _ | refine Below.alloc ?_ (by first | omega | (simp; done) | (simp; omega)) _ | refine bchain ?_ (by assumption) (by first | omega | (simp; done) | (simp; omega))))
set_option maxHeartbeats 4000000 in
set_option maxRecDepth 100000 in
theorem thereAt_any (t : Int) (a : Option Addr) (cap : Nat) (xs : List (Int × Int)) (w : World) (h : RdP w a xs) (hl : xs.length ≤ 6) (h0 : 0 < xs.length) (ht : ∀ i, i < xs.length → viOk (px xs i) (py xs i) = true) :
    Calls Try.prog 38 #[.slice a xs.length cap, .int .i64 t] w fun e w' => ∃ (ao : Option Addr) (co : Nat), e = .returned (.slice ao (thL xs t xs.length).length co) ∧ Own w' w.heap.size ao co (thL xs t xs.length) ∧ Below w.heap.size w w' := by
  obtain ⟨i0, hi, hz0, hz1, hz2⟩ := info_parts intInfo
  have hnI : (xs.length : Int) ≤ 6 := by omega
  have HT := Lib.hid ht
  clear ht
  rcases h with h | ⟨b, off, rfl, hlt, hc⟩
  · rw [h] at h0; exact absurd h0 (Nat.not_lt_zero _)
  have HC := Lib.hid hc
  clear hc
  have hown0 : World.ownsRow (w.alloc (.cells #[] 3)) w.heap.size 3 1 (.slice (some ⟨w.heap.size, 0, none⟩) 0 0) 0 [] := World.ownsRow_lit w #[] 0 (Nat.le_refl _) (by decide) rfl
  have hbA := (Below.refl w.heap.size w).alloc (Nat.le_refl _) (.cells #[] 3)
  go_enter Try.func38, Try.ntmps38
  go_wp2_with fail
  go_loopg [5, 11] xs.length (fun k v5 v10 w2 => ∃ (j : Nat) (ao : Option Addr) (co : Nat), v5 = .slice ao (thL xs t j).length co ∧ v10 = .int .i64 (j : Int) ∧ j + k ≤ xs.length ∧ xs.length ≤ j + k ∧ w2.ownsRow w.heap.size 3 1 (.slice ao (thL xs t j).length co) (thL xs t j).length ((thL xs t j).map (Value.int .i64)) ∧ Below w.heap.size w w2)
  case atStart => exact ⟨0, some ⟨w.heap.size, 0, none⟩, 0, rfl, rfl, by omega, by omega, hown0, hbA⟩
  case round =>
    clear hown0 hbA
    obtain ⟨j, ao, co, rfl, rfl, h1, h2, hown, hbel⟩ := hrel
    have hsz2 := hbel.size
    by_cases hj : j < xs.length
    · have hcj : wr.cell? ⟨b, off + j * 2, none⟩ = some (.int .i64 (px xs j)) := by rw [(bcell hbel).1 b _ hlt]; exact (HC.out j hj).1
      have hck : wr.cell? ⟨b, off + j * 2 + 1, none⟩ = some (.int .i64 (py xs j)) := by rw [(bcell hbel).1 b _ hlt]; exact (HC.out j hj).2
      have hjI : (j : Int) < (xs.length : Int) := by omega
      have bt := viOk_iff.1 (HT.out j hj)
      have hw := thL_len xs t j
      have hO1 := hown.alloc (.cells #[.int .i64 (px xs j), .int .i64 (py xs j)] 50)
      have hB1 := hbel.alloc hsz2 (.cells #[.int .i64 (px xs j), .int .i64 (py xs j)] 50)
      have HO1 := Lib.hid hO1
      have HB1 := Lib.hid hB1
      clear hown hbel hO1 hB1
      cases hf : thB xs t j
      · have HW := Lib.hid (show thL xs t (j + 1) = thL xs t j by simp only [thL]; rw [hf]; rfl)
        have HI := Lib.hid (fun w => (show inB t (px xs j) (px xs j + py xs j) = false from hf) ▸ isThere_any (px xs j) (py xs j) t (by omega) (by omega) (by omega) (by omega) w)
        clear hf
        generalize px xs j = x at *
        generalize py xs j = y at *
        go_wp2_with (first | (go_at_call 49; refine (HI.out _).mono ?_; rintro e w2 ⟨rfl, hb2⟩; have HO2 := Lib.hid (row_below HO1.out hb2); have HB2 := Lib.hid (bchain HB1.out hb2 HB1.out.size); have hs2 := HB2.out.size))
        go_roundg (gk - 1)
        case rel => exact ⟨j + 1, ao, co, by rw [HW.out], by go_num, by omega, by omega, by rw [HW.out]; exact HO2.out, HB2.out⟩
        case measure => omega
      · have HW := Lib.hid (show thL xs t (j + 1) = thL xs t j ++ [(j : Int)] by simp only [thL]; rw [hf]; rfl)
        have HI := Lib.hid (fun w => (show inB t (px xs j) (px xs j + py xs j) = true from hf) ▸ isThere_any (px xs j) (py xs j) t (by omega) (by omega) (by omega) (by omega) w)
        clear hf
        generalize px xs j = x at *
        generalize py xs j = y at *
        generalize hWJ : thL xs t j = WJ at *
        have HWJ := Lib.hid hWJ
        clear hWJ
        go_wp2_with (first | (go_at_call 49; refine (HI.out _).mono ?_; rintro e w2 ⟨rfl, hb2⟩; have HO2 := Lib.hid (row_below HO1.out hb2); have HB2 := Lib.hid (bchain HB1.out hb2 HB1.out.size); have hs2 := HB2.out.size) | (at_builtin; refine wpList_append_own _ rfl _ _ 24 rfl w.heap.size 3 i0 (.int .i64 0) 1 8 Try.underlying24 hi hz0 hz1 hz2 rfl (by decide) _ _ _ rfl (HO2.out.alloc _) ⟨w2.heap.size, 0, none⟩ 1 1 [.int .i64 (j : Int)] rfl rfl (cell_one_new _ _ _) (fun u hu => by simp at hu; subst hu; rfl) (by unfold maxLen; omega) (by omega) (by first | omega | (simp; omega)) ?_; intro v1 w3 hown1 hgrow hx; clear hx; have hO3 := Lib.hid hown1; have HG3 := Lib.hid hgrow; clear hown1 hgrow))
        have hB3 := (HB2.out.alloc hs2 _).grown HG3.out (by simp; omega) (fun k hk => (HO2.out.lt k hk).1)
        have hO4 := hO3.out
        obtain ⟨a3, c3, rfl⟩ := ownV_form hO4
        go_roundg (gk - 1)
        case rel => exact ⟨j + 1, a3, c3, by rw [HW.out]; simp, by go_num, by omega, by omega, by rw [HW.out]; simpa using hO4, hB3⟩
        case measure => omega
    · have e : j = xs.length := by omega
      subst e
      have HO := Lib.hid hown
      have HB2 := Lib.hid hbel
      clear hown hbel
      go_wp2_with fail
      go_ret
      exact ⟨ao, co, rfl, HO.out, HB2.out⟩
theorem whL_len (xs : List (Int × Int)) (t : Int) : (whL xs t).length ≤ 1000 := by
  unfold whL
  split
  · rename_i h
    unfold whB at h
    rw [Bool.and_eq_true] at h
    have := (viS_at h.1).2.1
    have := thL_len xs t xs.length
    omega
  · simp
set_option maxHeartbeats 2000000 in
theorem implWhoIsThere (a : Option Addr) (cap : Nat) (xs : List (Int × Int)) (t : Int) (w : World) (h : RdP w a xs) (hn : xs.length ≤ 1048576) :
    Calls Try.prog 12 #[.slice a xs.length cap, .int .i64 t] w (RetS w (whL xs t) (whB xs t)) := by
  cases h1 : viS xs
  · have H1 := Lib.hid h1
    have HL := Lib.hid (show whL xs t = [] by simp [whL, whB, h1])
    have HV := Lib.hid (show whB xs t = false by simp [whB, h1])
    clear h1
    go_enter Try.func12, Try.ntmps12
    go_wp2_with (first | (go_at_call 36; refine (implAreVisits a cap xs _ h hn).mono ?_; rw [H1.out]; rintro e w0 ⟨rfl, hb0⟩))
    go_ret2
    rw [HL.out, HV.out]
    exact ⟨none, 0, rfl, ⟨rfl, .inl ⟨rfl, rfl⟩⟩, hb0⟩
  cases h2 : inB t 0 1000
  · have H1 := Lib.hid h1
    have HL := Lib.hid (show whL xs t = [] by simp [whL, whB, h2])
    have HV := Lib.hid (show whB xs t = false by simp [whB, h2])
    have HI := Lib.hid (fun w => h2 ▸ isWatched_any t w)
    clear h1 h2
    go_enter Try.func12, Try.ntmps12
    go_wp2_with (first | (go_at_call 36; refine (implAreVisits a cap xs _ h hn).mono ?_; rw [H1.out]; rintro e w0 ⟨rfl, hb0⟩) | (go_at_call 37; refine (HI.out _).mono ?_; rintro e w1 ⟨rfl, rfl⟩))
    go_ret2
    rw [HL.out, HV.out]
    exact ⟨none, 0, rfl, ⟨rfl, .inl ⟨rfl, rfl⟩⟩, hb0⟩
  · have H1 := Lib.hid h1
    have HT := Lib.hid (viS_at h1)
    have HL := Lib.hid (show whL xs t = thL xs t xs.length by simp [whL, whB, h1, h2])
    have HV := Lib.hid (show whB xs t = true by simp [whB, h1, h2])
    have HI := Lib.hid (fun w => h2 ▸ isWatched_any t w)
    clear h1 h2
    go_enter Try.func12, Try.ntmps12
    go_wp2_with (first | (go_at_call 36; refine (implAreVisits a cap xs _ h hn).mono ?_; rw [H1.out]; rintro e w0 ⟨rfl, hb0⟩) | (go_at_call 37; refine (HI.out _).mono ?_; rintro e w1 ⟨rfl, rfl⟩) | (go_at_call 38; refine (thereAt_any t a cap xs _ (h.below hb0) HT.out.2.1 HT.out.1 HT.out.2.2).mono ?_; rintro e w2 ⟨ao, co, rfl, hown, hb2⟩))
    go_ret2
    rw [HL.out, HV.out]
    exact ⟨ao, co, rfl, Own.lowV hown hb0.size, hb0.trans (hb2.mono hb0.size)⟩
set_option maxHeartbeats 4000000 in
theorem implMostTogether (a : Option Addr) (cap : Nat) (xs : List (Int × Int)) (w : World) (h : RdP w a xs) (hn : xs.length ≤ 1048576) :
    Calls Try.prog 24 #[.slice a xs.length cap] w fun e w' => e = .returned (.tuple #[.int .i64 (ifI (viS xs) (mtS xs 201).1), .int .i64 (ifI (viS xs) (mtS xs 201).2), .bool (viS xs)]) ∧ Below w.heap.size w w' := by
  cases hs : viS xs
  · have H1 := Lib.hid hs
    clear hs
    go_enter Try.func24, Try.ntmps24
    go_wp2_with (first | (go_at_call 36; refine (implAreVisits a cap xs _ h hn).mono ?_; rw [H1.out]; rintro e w0 ⟨rfl, hb0⟩))
    go_ret3
    exact ⟨rfl, hb0⟩
  · have H1 := Lib.hid hs
    have HT := Lib.hid (viS_at hs)
    have HS := Lib.hid (most_same hs)
    have hnI : (xs.length : Int) ≤ 6 := by have := (viS_at hs).2.1; omega
    clear hs
    go_enter Try.func24, Try.ntmps24
    go_wp2_with fail
    refine (implAreVisits a cap xs _ h hn).mono ?_; rw [H1.out]; rintro e w0 ⟨rfl, hb0⟩
    have HB0 := Lib.hid hb0
    clear hb0
    go_wp2_with fail
    go_loopg [5, 6, 15] xs.length (fun k v5 v6 v15 wr => ∃ (j : Nat) (p q : Int), v5 = .int .i64 p ∧ v6 = .int .i64 q ∧ v15 = .int .i64 (j : Int) ∧ j + k ≤ xs.length ∧ xs.length ≤ j + k ∧ Hid (mpS xs j = (p, q)) ∧ Below w.heap.size w wr)
    case atStart => exact ⟨0, 0, 0, rfl, rfl, rfl, by omega, by omega, rfl, HB0.out⟩
    case round =>
      obtain ⟨j, p, q, rfl, rfl, rfl, h1, h2, hp, hbel⟩ := hrel
      have hsz := hbel.size
      by_cases hj : j < xs.length
      · obtain ⟨b, off, rfl, hlt, hc⟩ : ∃ b off, a = some ⟨b, off, none⟩ ∧ b < w.heap.size ∧ (∀ i, i < xs.length → w.cell? ⟨b, off + i * 2, none⟩ = some (.int .i64 (px xs i)) ∧ w.cell? ⟨b, off + i * 2 + 1, none⟩ = some (.int .i64 (py xs i))) := by
          rcases h with h | h
          · rw [h] at hj; exact absurd hj (Nat.not_lt_zero _)
          · exact h
        have HC := Lib.hid hc
        clear hc
        have hcj : wr.cell? ⟨b, off + j * 2, none⟩ = some (.int .i64 (px xs j)) := by rw [(bcell hbel).1 b _ hlt]; exact (HC.out j hj).1
        have hck : wr.cell? ⟨b, off + j * 2 + 1, none⟩ = some (.int .i64 (py xs j)) := by rw [(bcell hbel).1 b _ hlt]; exact (HC.out j hj).2
        have hjI : (j : Int) < (xs.length : Int) := by omega
        have HB1 := Lib.hid (hbel.alloc hsz (.cells #[.int .i64 (px xs j), .int .i64 (py xs j)] 50))
        clear hbel
        have bt := viOk_iff.1 (HT.out.2.2 j hj)
        have HN := Lib.hid (show mpS xs (j + 1) = if p < cnI xs (px xs j) ∨ (cnI xs (px xs j) = p ∧ px xs j < q) then (cnI xs (px xs j), px xs j) else (p, q) by unfold mpS; rw [hp.out])
        have hle := thL_len xs (px xs j) xs.length
        have HTA := Lib.hid (fun w h => thereAt_any (px xs j) (some ⟨b, off, none⟩) cap xs w h HT.out.2.1 HT.out.1 HT.out.2.2)
        have hcn : cnI xs (px xs j) = ((thL xs (px xs j) xs.length).length : Int) := rfl
        rw [hcn] at HN
        clear hcn hp
        generalize thL xs (px xs j) xs.length = L at *
        generalize px xs j = x at *
        generalize py xs j = y at *
        by_cases hlt1 : p < (L.length : Int)
        · have HN2 := Lib.hid (HN.out.trans (if_pos (.inl hlt1)))
          clear HN
          go_wp2_with (first | (go_at_call 38; refine (HTA.out _ ((h.below HB1.out))).mono ?_; rintro e w2 ⟨ao, co, rfl, hown, hb2⟩; have hc0 := (bcell hb2).1 wr.heap.size 0 (by simp); have hc1 := (bcell hb2).1 wr.heap.size 1 (by simp); have hzz := hb2.size; (try simp at hzz)))
          all_goals (try (go_quiet (fail); go_wp2_with fail))
          all_goals go_roundg (gk - 1)
          all_goals first | omega | exact ⟨j + 1, _, _, rfl, rfl, by go_num, by omega, by omega, HN2.out, by first | exact bchain HB1.out hb2 HB1.out.size | exact below_drewN (bchain HB1.out hb2 HB1.out.size) _⟩
        · by_cases he : (L.length : Int) = p
          · by_cases hx : x < q
            · have HN2 := Lib.hid (HN.out.trans (if_pos (.inr ⟨he, hx⟩)))
              clear HN
              subst he
              go_wp2_with (first | (go_at_call 38; refine (HTA.out _ ((h.below HB1.out))).mono ?_; rintro e w2 ⟨ao, co, rfl, hown, hb2⟩; have hc0 := (bcell hb2).1 wr.heap.size 0 (by simp); have hc1 := (bcell hb2).1 wr.heap.size 1 (by simp); have hzz := hb2.size; (try simp at hzz)))
              all_goals (try (go_quiet (fail); go_wp2_with fail))
              all_goals go_roundg (gk - 1)
              all_goals first | omega | exact ⟨j + 1, _, _, rfl, rfl, by go_num, by omega, by omega, HN2.out, by first | exact bchain HB1.out hb2 HB1.out.size | exact below_drewN (bchain HB1.out hb2 HB1.out.size) _⟩
            · have HN2 := Lib.hid (HN.out.trans (if_neg (by omega)))
              clear HN
              subst he
              go_wp2_with (first | (go_at_call 38; refine (HTA.out _ ((h.below HB1.out))).mono ?_; rintro e w2 ⟨ao, co, rfl, hown, hb2⟩; have hc0 := (bcell hb2).1 wr.heap.size 0 (by simp); have hc1 := (bcell hb2).1 wr.heap.size 1 (by simp); have hzz := hb2.size; (try simp at hzz)))
              all_goals (try (go_quiet (fail); go_wp2_with fail))
              all_goals go_roundg (gk - 1)
              all_goals first | omega | exact ⟨j + 1, _, _, rfl, rfl, by go_num, by omega, by omega, HN2.out, by first | exact bchain HB1.out hb2 HB1.out.size | exact below_drewN (bchain HB1.out hb2 HB1.out.size) _⟩
          · have HN2 := Lib.hid (HN.out.trans (if_neg (by omega)))
            have he2 : ((L.length : Int) == p) = false := by rw [beq_eq_false_iff_ne]; exact he
            clear HN
            go_wp2_with (first | (go_at_call 38; refine (HTA.out _ ((h.below HB1.out))).mono ?_; rintro e w2 ⟨ao, co, rfl, hown, hb2⟩; have hc0 := (bcell hb2).1 wr.heap.size 0 (by simp); have hc1 := (bcell hb2).1 wr.heap.size 1 (by simp); have hzz := hb2.size; (try simp at hzz)))
            all_goals (try (go_quiet (fail); go_wp2_with fail))
            all_goals go_roundg (gk - 1)
            all_goals first | omega | exact ⟨j + 1, _, _, rfl, rfl, by go_num, by omega, by omega, HN2.out, by first | exact bchain HB1.out hb2 HB1.out.size | exact below_drewN (bchain HB1.out hb2 HB1.out.size) _⟩
      · obtain rfl : j = xs.length := by omega
        have HB := Lib.hid hbel
        have HP := Lib.hid (HS.out.symm.trans hp.out)
        clear hbel hp
        go_wp2_with fail
        all_goals (try (go_quiet (fail); go_wp2_with fail))
        go_ret3
        refine ⟨rII ?_ ?_ ?_, by first | exact HB.out | exact below_drewN HB.out _⟩
        all_goals simp [H1.out, HP.out, ifI]
end Go.Proofs.Ytjfmmdblfhgelaa
