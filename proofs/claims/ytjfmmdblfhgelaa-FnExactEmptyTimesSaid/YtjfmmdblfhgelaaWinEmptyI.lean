/- EmptyTimes (chapter 8), the program's way by contracts. -/
import Derived.Test.YtjfmmdblfhgelaaWinEmMath
import Derived.Test.YtjfmmdblfhgelaaWinEmpty
import Derived.Test.YtjfmmdblfhgelaaWinWhoI
import Derived.WalkKit
import Derived.WalkSpells
import Derived.WalkLawsBesides
import Derived.Lib.Hide
import Derived.Deep.LoopGhost
import Derived.Deep.QuietTactic
import Derived.Deep.RegionHeld3
import Derived.BigQuiet
namespace Go.Proofs.Ytjfmmdblfhgelaa
open Go.RowKit
set_option linter.unusedVariables false
set_option linter.unusedSimpArgs false
set_option maxHeartbeats 8000000 in
set_option maxRecDepth 100000 in
theorem implEmptyTimes (a : Option Addr) (cap : Nat) (xs : List (Int × Int)) (u : Int) (w : World) (h : RdP w a xs) (hn : xs.length ≤ 1048576) :
    Calls Try.prog 26 #[.slice a xs.length cap, .int .i64 u] w (RetSSV w (emL xs u) (emB xs u)) := by
  cases h1 : viS xs
  · have H1 := Lib.hid h1
    have HL := Lib.hid (show emL xs u = [] by simp [emL, emB, h1])
    have HV := Lib.hid (show emB xs u = false by simp [emB, h1])
    clear h1
    go_enter Try.func26, Try.ntmps26
    go_wp2_with (first | (go_at_call 36; refine (implAreVisits a cap xs _ h hn).mono ?_; rw [H1.out]; rintro e w0 ⟨rfl, hb0⟩))
    go_ret2
    rw [HL.out, HV.out]
    exact ⟨none, 0, rfl, (RowsX.nil _ _ (fun _ => 0) []).own rfl, hb0⟩
  cases h2 : inB u 0 1000
  · have H1 := Lib.hid h1
    have HL := Lib.hid (show emL xs u = [] by simp [emL, emB, h2])
    have HV := Lib.hid (show emB xs u = false by simp [emB, h2])
    have HI := Lib.hid (fun w => h2 ▸ isWatched_any u w)
    clear h1 h2
    go_enter Try.func26, Try.ntmps26
    go_wp2_with (first | (go_at_call 36; refine (implAreVisits a cap xs _ h hn).mono ?_; rw [H1.out]; rintro e w0 ⟨rfl, hb0⟩) | (go_at_call 37; refine (HI.out _).mono ?_; rintro e w9 ⟨rfl, rfl⟩))
    go_ret2
    rw [HL.out, HV.out]
    exact ⟨none, 0, rfl, (RowsX.nil _ _ (fun _ => 0) []).own rfl, hb0⟩
  · obtain ⟨i0, hi, hz0, hz1, hz2⟩ := info_parts sliceInfoX
    have H1 := Lib.hid h1
    have HT := Lib.hid (viS_at h1)
    have b1 := inB_iff.1 h2
    have HI := Lib.hid (fun w => h2 ▸ isWatched_any u w)
    obtain ⟨U, rfl⟩ : ∃ U : Nat, u = (U : Int) := ⟨u.toNat, by omega⟩
    have HL := Lib.hid (show emL xs (U : Int) = emK xs (U + 1) by unfold emL emB; rw [h1, h2]; simp)
    have HV := Lib.hid (show emB xs (U : Int) = true by simp [emB, h1, h2])
    clear h1 h2
    go_enter Try.func26, Try.ntmps26
    go_wp2_with (first | (go_at_call 36; refine (implAreVisits a cap xs _ h hn).mono ?_; rw [H1.out]; rintro e w0 ⟨rfl, hb0⟩) | (go_at_call 37; refine (HI.out _).mono ?_; rintro e w9 ⟨rfl, rfl⟩))
    have HB0 := Lib.hid hb0
    clear hb0
    have hX00 := RowsX.empty (w := w0) (base := w.heap.size) HB0.out.size (fun _ => 0) (emK xs 0)
    have hbA0 := HB0.out.alloc HB0.out.size (.cells #[] 24)
    go_loopg [6, 7, 21] (U + 1) (fun k v6 v7 v21 wr => ∃ (t : Nat) (ao : Option Addr) (co : Nat) (β : Nat → Nat), v6 = .slice ao (emK xs t).length co ∧ v7 = .bool (emE xs t) ∧ v21 = .int .i64 (t : Int) ∧ t + k ≤ U + 1 ∧ U + 1 ≤ t + k ∧ RowsX wr w.heap.size ao co (emK xs t).length β (emK xs t) ∧ Below w.heap.size w wr)
    case atStart => exact ⟨0, some ⟨w0.heap.size, 0, none⟩, 0, fun _ => 0, rfl, rfl, rfl, by omega, by omega, hX00, hbA0⟩
    case round =>
      (try clear hX00 hbA0)
      obtain ⟨t, ao, co, β, rfl, rfl, rfl, g1, g2, hX, hbel⟩ := hrel
      have HB := Lib.hid hbel
      have hsz := hbel.size
      have HX := Lib.hid hX
      clear hbel hX
      by_cases ht : t ≤ U
      · have htI : (t : Int) ≤ (U : Int) := by omega
        have htL : (t : Int) < (U : Int) + 1 := by omega
        have hle := thL_len xs (t : Int) xs.length
        have hkl := emK_len xs t
        have hl6 := HT.out.2.1
        have HC := Lib.hid (thereAt_any (t : Int) a cap xs wr (h.below HB.out) HT.out.2.1 HT.out.1 HT.out.2.2)
        have hcn : cnI xs (t : Int) = ((thL xs (t : Int) xs.length).length : Int) := rfl
        generalize thL xs (t : Int) xs.length = L at *
        by_cases c : cnI xs (t : Int) = 0
        · have hL0 : L.length = 0 := by omega
          have HQ := Lib.hid (And.intro (emK_app (xs := xs) (t := t) c) (And.intro (emK_put (xs := xs) (t := t) c) (emK_no (xs := xs) (t := t))))
          have HEc := Lib.hid c
          rw [hL0] at HC
          clear c hcn
          go_wp2_with fail
          refine HC.out.mono ?_; rintro e w2 ⟨ar, cr, rfl, hown, hb2⟩
          have HX2 := Lib.hid (HX.out.below hb2)
          have HBS := Lib.hid (HB.out.trans (hb2.mono hsz))
          have hszw : w.heap.size ≤ w2.heap.size := Nat.le_trans hsz hb2.size
          clear hb2 hown HX HB
          cases hE : emE xs t
          · have HQ1 := Lib.hid (HQ.out.1 hE)
            have HX0 := Lib.hid (HX2.out.ext (ks' := emK xs t ++ [[(t : Int), (t : Int)]]) (fun q hq => snoc_at hq))
            have HO := Lib.hid HX0.out.1
            have hsl := Lib.hid (snoc_last (L := emK xs t) (x := [(t : Int), (t : Int)]))
            rcases HQ.out.2.2 hE with hk | ⟨F, s, v, hk, hv⟩
            · obtain ⟨N, hNN⟩ : ∃ N, N = (emK xs t).length := ⟨_, rfl⟩
              have hN0 : N = 0 := by rw [hNN, hk]; rfl
              have HNL := Lib.hid hNN.symm
              rw [← hNN] at HX0 HO hsl hkl
              rw [← hNN]
              clear hNN hk HX2 HQ
              generalize emK xs t = E at *
              subst hN0
              go_wp2_with (first | (at_builtin; refine wpList_append_own _ rfl _ _ 34 rfl w.heap.size 24 i0 (.slice none 0 0) 1 24 Try.underlying34 hi hz0 hz1 hz2 rfl (by decide) _ _ _ rfl ((HO.out.alloc _).alloc _) ⟨w2.heap.size + 1, 0, none⟩ 1 1 [.slice (some ⟨w2.heap.size, 0, none⟩) 2 2] rfl rfl (cell_one_newX _ _ _ _) (fun u hu => by simp at hu; subst hu; rfl) (by unfold maxLen; omega) (by omega) (by simp; omega) ?_; intro v1 w3 hO3 hgrow hx; clear hx; have HG3 := Lib.hid hgrow; have HO3 := Lib.hid hO3; clear hgrow hO3))
              all_goals (try (go_quiet (fail); go_wp2_with (first | (at_builtin; refine wpList_append_own _ rfl _ _ 34 rfl w.heap.size 24 i0 (.slice none 0 0) 1 24 Try.underlying34 hi hz0 hz1 hz2 rfl (by decide) _ _ _ rfl ((HO.out.alloc _).alloc _) ⟨w2.heap.size + 1, 0, none⟩ 1 1 [.slice (some ⟨w2.heap.size, 0, none⟩) 2 2] rfl rfl (cell_one_newX _ _ _ _) (fun u hu => by simp at hu; subst hu; rfl) (by unfold maxLen; omega) (by omega) (by simp; omega) ?_; intro v1 w3 hO3 hgrow hx; clear hx; have HG3 := Lib.hid hgrow; have HO3 := Lib.hid hO3; clear hgrow hO3))))
              obtain ⟨a3, c3, rfl⟩ := row_formX HO3.out
              have hbA : Below w2.heap.size w2 ((w2.alloc (.cells #[.int .i64 (t : Int), .int .i64 (t : Int)] 3)).alloc (.cells #[.slice (some ⟨w2.heap.size, 0, none⟩) 2 2] 24)) := ((Below.refl _ _).alloc (Nat.le_refl _) _).alloc (by simp) _
              have hN := own_twoX w2 (base := w.heap.size) hszw (t : Int) (t : Int)
              have hX3 := RowsX.grown (β := β) (ks := E ++ [[(t : Int), (t : Int)]]) HX0.out (B := w2.heap.size) hbA (Nat.le_refl _) (by rw [hsl.out]; exact hN.below ((Below.refl _ _).alloc (Nat.le_refl _) _)) HG3.out (by rw [hsl.out]; exact HO3.out)
              have hB3 := (HBS.out.trans (hbA.mono hszw)).grown HG3.out (by simp; omega) (fun k hk => (HO.out.lt k hk).1)
              have hlq : (E ++ [[(t : Int), (t : Int)]]).length = 0 + 1 := by rw [← HNL.out]; simp
              go_roundg (gk - 1)
              case rel => exact ⟨t + 1, a3, c3, _, by rw [HQ1.out, hlq], by first | (rw [emE_next, HEc.out]; done) | (rw [emE_next, HEc.out]; simp; done), by go_num, by omega, by omega, by rw [HQ1.out, hlq]; exact hX3, hB3⟩
              case measure => omega
            · obtain ⟨N, hNN⟩ : ∃ N, N = F.length := ⟨_, rfl⟩
              have hN1 : (emK xs t).length = N + 1 := by rw [hk]; simp [hNN]
              rw [hk] at HX2
              have hR := HX2.out
              rw [show (F ++ [[s, v]]).length = N + 1 by simp [hNN]] at hR
              obtain ⟨g, hg0, hg1, hg2, hg3, hg4, hg5, hg6⟩ := RowsX.last hR hNN.symm
              subst hg0
              clear hR HX2
              obtain ⟨M, hM⟩ : ∃ M, M = N + 1 := ⟨_, rfl⟩
              have hNM : N = M - 1 := by omega
              have hN1' : (emK xs t).length = M := by omega
              have HNL := Lib.hid hN1'
              rw [hN1'] at HX0 HO hsl hkl
              rw [hN1']
              clear hk HQ hNN hN1 hN1'
              generalize emK xs t = E at *
              have hMI : (0 : Int) < (M : Int) := by omega
              have hM1 : (M : Int) - 1 = (N : Int) := by omega
              have hM2 : IntKind.i64.wrap ((M : Int) - 1) = (N : Int) := by rw [hM1]; exact IntWalk.i64_in _ (by omega)
              have hNl : (N : Int) < (M : Int) := by omega
              have hvf : (v == (t : Int) - 1) = false := by rw [beq_eq_false_iff_ne]; exact hv
              have HM := Lib.hid (And.intro hM hNM)
              clear hM hNM hv
              go_wp2_with (first | (at_builtin; refine wpList_append_own _ rfl _ _ 34 rfl w.heap.size 24 i0 (.slice none 0 0) 1 24 Try.underlying34 hi hz0 hz1 hz2 rfl (by decide) _ _ _ rfl ((HO.out.alloc _).alloc _) ⟨w2.heap.size + 1, 0, none⟩ 1 1 [.slice (some ⟨w2.heap.size, 0, none⟩) 2 2] rfl rfl (cell_one_newX _ _ _ _) (fun u hu => by simp at hu; subst hu; rfl) (by unfold maxLen; omega) (by omega) (by simp; omega) ?_; intro v1 w3 hO3 hgrow hx; clear hx; have HG3 := Lib.hid hgrow; have HO3 := Lib.hid hO3; clear hgrow hO3))
              all_goals (try (go_quiet (fail); go_wp2_with (first | (at_builtin; refine wpList_append_own _ rfl _ _ 34 rfl w.heap.size 24 i0 (.slice none 0 0) 1 24 Try.underlying34 hi hz0 hz1 hz2 rfl (by decide) _ _ _ rfl ((HO.out.alloc _).alloc _) ⟨w2.heap.size + 1, 0, none⟩ 1 1 [.slice (some ⟨w2.heap.size, 0, none⟩) 2 2] rfl rfl (cell_one_newX _ _ _ _) (fun u hu => by simp at hu; subst hu; rfl) (by unfold maxLen; omega) (by omega) (by simp; omega) ?_; intro v1 w3 hO3 hgrow hx; clear hx; have HG3 := Lib.hid hgrow; have HO3 := Lib.hid hO3; clear hgrow hO3))))
              obtain ⟨a3, c3, rfl⟩ := row_formX HO3.out
              have hbA : Below w2.heap.size w2 ((w2.alloc (.cells #[.int .i64 (t : Int), .int .i64 (t : Int)] 3)).alloc (.cells #[.slice (some ⟨w2.heap.size, 0, none⟩) 2 2] 24)) := ((Below.refl _ _).alloc (Nat.le_refl _) _).alloc (by simp) _
              have hN := own_twoX w2 (base := w.heap.size) hszw (t : Int) (t : Int)
              have hX3 := RowsX.grown (β := β) (ks := E ++ [[(t : Int), (t : Int)]]) HX0.out (B := w2.heap.size) hbA (Nat.le_refl _) (by rw [hsl.out]; exact hN.below ((Below.refl _ _).alloc (Nat.le_refl _) _)) HG3.out (by rw [hsl.out]; exact HO3.out)
              have hB3 := (HBS.out.trans (hbA.mono hszw)).grown HG3.out (by simp; omega) (fun k hk => (HO.out.lt k hk).1)
              have hlq : (E ++ [[(t : Int), (t : Int)]]).length = M + 1 := by rw [← HNL.out]; simp
              go_roundg (gk - 1)
              case rel => exact ⟨t + 1, a3, c3, _, by rw [HQ1.out, hlq], by first | (rw [emE_next, HEc.out]; done) | (rw [emE_next, HEc.out]; simp; done), by go_num, by omega, by omega, by rw [HQ1.out, hlq]; exact hX3, hB3⟩
              case measure => omega
          · obtain ⟨F, s, hk, hk2⟩ := HQ.out.2.1 hE
            obtain ⟨N, hNN⟩ : ∃ N, N = F.length := ⟨_, rfl⟩
            have hN1 : (emK xs t).length = N + 1 := by rw [hk]; simp [hNN]
            have hN2 : (emK xs (t + 1)).length = N + 1 := by rw [hk2]; simp [hNN]
            rw [hk] at HX2
            have hR := HX2.out
            rw [show (F ++ [[s, (t : Int) - 1]]).length = N + 1 by simp [hNN]] at hR
            obtain ⟨g, hg0, hg1, hg2, hg3, hg4, hg5, hg6⟩ := RowsX.last hR hNN.symm
            subst hg0
            have HP := Lib.hid (RowsX.put hR hNN.symm (t : Int))
            clear hR HX2 HQ hk
            rw [hN1] at hkl ⊢
            clear hN1
            have HK2 := Lib.hid hk2
            have HN2 := Lib.hid hN2
            clear hk2 hN2
            obtain ⟨M, hM⟩ : ∃ M, M = N + 1 := ⟨_, rfl⟩
            rw [← hM] at hkl HP HN2 ⊢
            have hMI : (0 : Int) < (M : Int) := by omega
            have hM1 : (M : Int) - 1 = (N : Int) := by omega
            have hM2 : IntKind.i64.wrap ((M : Int) - 1) = (N : Int) := by rw [hM1]; exact IntWalk.i64_in _ (by omega)
            have hNl : (N : Int) < (M : Int) := by omega
            have HM := Lib.hid (And.intro hM hNN)
            clear hM hNN
            go_wp2_with fail
            all_goals (try (go_quiet (fail); go_wp2_with fail))
            go_roundg (gk - 1)
            case rel => exact ⟨t + 1, _, _, β, by rw [HN2.out], by first | (rw [emE_next, HEc.out]; done) | (rw [emE_next, HEc.out]; simp; done), by go_num, by omega, by omega, by rw [HN2.out, HK2.out]; exact HP.out, HBS.out.setCell (by omega) _⟩
            case measure => omega
        · have hL0 : 0 < (L.length : Int) := by
            have := Int.natCast_nonneg L.length
            omega
          have hL1 : ¬ L.length = 0 := by omega
          have HQ := Lib.hid (emK_out (xs := xs) (t := t) c)
          have HEc := Lib.hid (show decide (cnI xs (t : Int) = 0) = false from decide_eq_false c)
          have hL2 : ((L.length : Int) == 0) = false := by rw [beq_eq_false_iff_ne]; omega
          clear c hcn
          go_wp2_with fail
          refine HC.out.mono ?_; rintro e w2 ⟨ar, cr, rfl, hown, hb2⟩
          have HX2 := Lib.hid (HX.out.below hb2)
          have HBS := Lib.hid (HB.out.trans (hb2.mono hsz))
          clear hb2 hown HX HB
          go_wp2_with fail
          all_goals (try (go_quiet (fail); go_wp2_with fail))
          go_roundg (gk - 1)
          case rel => exact ⟨t + 1, ao, co, β, by rw [HQ.out], by first | (rw [emE_next, HEc.out]; done) | (rw [emE_next, HEc.out]; simp; done), by go_num, by omega, by omega, by rw [HQ.out]; exact HX2.out, HBS.out⟩
          case measure => omega
      · obtain rfl : t = U + 1 := by omega
        have HF := Lib.hid (HX.out.own rfl)
        go_wp2_with fail
        go_ret2
        rw [HL.out, HV.out]
        exact ⟨ao, co, rfl, HF.out, HB.out⟩
end Go.Proofs.Ytjfmmdblfhgelaa
