/- The best order of runners: the model's functions by contracts. -/
import Derived.Test.YtlfjgggidoakaaaLegRun
import Derived.Test.YtlfjgggidoakaaaTwoOrd
import Derived.WalkKit
import Derived.WalkSpells
import Derived.WalkLawsBesides
import Derived.Lib.Hide
import Derived.Deep.LoopGhost
import Derived.Deep.QuietTactic
import Derived.Deep.RegionHeld3
import Derived.BigQuiet
namespace Go.Proofs.Ytlfjgggidoakaaa
open Go.RowKit
set_option linter.unusedVariables false
set_option linter.unusedSimpArgs false
theorem RdZ.rd {w : World} {a : Option Addr} {cap : Nat} {xs : List Int} (h : RdZ w a cap xs) : Rd w a xs := by
  rcases h with ⟨_, _, h⟩ | h
  · exact .inl h
  · exact .inr h
theorem RdZ.below {w w' : World} {a : Option Addr} {cap : Nat} {xs : List Int} (h : RdZ w a cap xs) (hb : Below w.heap.size w w') : RdZ w' a cap xs := by
  rcases h with h | ⟨b, off, e, hlt, hc⟩
  · exact .inl h
  · exact .inr ⟨b, off, e, Nat.lt_of_lt_of_le hlt hb.size, fun i hi => by rw [(bcell hb).1 _ _ hlt]; exact hc i hi⟩
theorem row_rdZ {w : World} {base n c : Nat} {a : Option Addr} {xs : List Int} (h : w.ownsRow base 3 1 (.slice a n c) n (xs.map (Value.int .i64))) (hn : xs.length = n) : RdZ w a c xs := by
  rcases row_two h with ⟨rfl, h0, rfl⟩ | ⟨g, rfl, _, hg⟩
  · exact .inl ⟨rfl, rfl, List.length_eq_zero_iff.1 (by omega)⟩
  · refine .inr ⟨g, 0, rfl, hg, fun i hi => ?_⟩
    rw [Nat.zero_add, h.cellAt i (by omega)]
    simp [List.getD, List.getElem?_eq_getElem hi]
theorem row_formR2 {w : World} {base e size n : Nat} {v : Value} {xs : List Value} (h : w.ownsRow base e size v n xs) : ∃ a c, v = .slice a n c := by
  rcases h.2 with ⟨rfl, rfl⟩ | ⟨g, c, _, rfl, _⟩
  · exact ⟨_, _, rfl⟩
  · exact ⟨_, _, rfl⟩
theorem hW4f {w wr w3 w4 : World} (h : Below w.heap.size w wr) (h3 : Below wr.heap.size wr w3) (h4 : Below w3.heap.size w3 w4) : Below wr.heap.size wr w4 := h3.trans (h4.mono h3.size)
set_option maxHeartbeats 4000000 in
set_option maxRecDepth 100000 in
theorem reRunners_any (la sa : Option Addr) (lc sc : Nat) (ls ss : List Int) (least : Bool)
    (h1 : ∀ i, i < ls.length → 1 ≤ ls.getD i 0 ∧ ls.getD i 0 ≤ 1000) (h2 : ∀ i, i < ss.length → 1 ≤ ss.getD i 0 ∧ ss.getD i 0 ≤ 100) (hl1 : 1 ≤ ls.length) (hl : ls.length ≤ 6) (he : ss.length = ls.length) :
    ∀ (f : Nat) (bg : List Int) (ba : Option Addr) (bc : Nat) (w : World), Rd w la ls → Rd w sa ss → RdZ w ba bc bg → bg.length + f = ls.length → (∀ i, i < bg.length → 0 ≤ bg.getD i 0 ∧ bg.getD i 0 < (ls.length : Int)) →
    Calls Try.prog 35 #[.slice la ls.length lc, .slice sa ss.length sc, .slice ba bg.length bc, .bool least] w fun e w' => ∃ a2 c2, e = .returned (.slice a2 ls.length c2) ∧ w'.ownsRow w.heap.size 3 1 (.slice a2 ls.length c2) ls.length ((rrL ls ss least f bg).map (Value.int .i64)) ∧ Below w.heap.size w w' := by
  intro f
  induction f with
  | zero =>
    intro bg ba bc w hL hS hB hlen hbd
    have hO := Lib.hid (l1Own_any ba bc bg.length bg w hB rfl (by omega))
    have hlen' : bg.length = ls.length := by omega
    have HR := Lib.hid (show rrL ls ss least 0 bg = bg from rfl)
    go_enter Try.func35, Try.ntmps35
    rw [HR.out]
    rw [hlen'] at hO ⊢
    go_wp2_with fail
    refine hO.out.mono ?_; rintro e w1 ⟨a2, c2, rfl, ho, hb⟩
    have HX := Lib.hid (And.intro ho hb)
    clear ho hb
    go_wp2_with fail
    go_ret
    exact ⟨a2, c2, rfl, HX.out.1, HX.out.2⟩
  | succ f ih =>
    intro bg ba bc w hL hS hB hlen hbd
    obtain ⟨i0, hi, hz0, hz1, hz2⟩ := info_parts intInfo
    have HIH := Lib.hid ih
    have HGD := Lib.hid (rrL_good (least := least) hl1 he f)
    have HE := Lib.hid he
    have hs6 : (ss.length : Int) ≤ 6 := by omega
    have hs6n : ss.length ≤ 6 := by omega
    have HL := Lib.hid hL
    have HS := Lib.hid hS
    have HZ := Lib.hid hB
    have HBD := Lib.hid hbd
    have hne : ((bg.length : Int) == (ls.length : Int)) = false := by rw [beq_eq_false_iff_ne]; omega
    have hneI : ¬ (bg.length : Int) = (ls.length : Int) := by omega
    clear ih hL hS hB hbd he
    go_enter Try.func35, Try.ntmps35
    go_wp2_with fail
    go_loopg [9, 21] ss.length (fun k vb vi wr => ∃ (j : Nat) (ab : Option Addr) (cb : Nat) (B : List Int), vb = .slice ab B.length cb ∧ vi = .int .i64 (j : Int) ∧ j + k ≤ ss.length ∧ ss.length ≤ j + k ∧ wr.ownsRow w.heap.size 3 1 (.slice ab B.length cb) B.length (B.map (Value.int .i64)) ∧ Hid (B = rrF (rrL ls ss least f) ls ss least bg j) ∧ Below w.heap.size w wr)
    case atStart => exact ⟨0, none, 0, [], rfl, rfl, by omega, by omega, World.ownsRow_nil _ _ _ _, rfl, Below.refl _ _⟩
    case round =>
      obtain ⟨j, ab, cb, B, rfl, rfl, g1, g2, hown, hBe, hbel⟩ := hrel
      have hsz := hbel.size
      by_cases hj : j < ss.length
      · have hjI : (j : Int) < (ss.length : Int) := by omega
        have HHs := Lib.hid (l1Has_any ba bc bg (j : Int) wr ((HZ.out.below hbel).rd) (by omega))
        have HB := Lib.hid hbel
        have HO := Lib.hid hown
        clear hbel hown
        cases hk : bg.contains (j : Int)
        · rw [hk] at HHs
          have HN := Lib.hid (show rrF (rrL ls ss least f) ls ss least bg (j + 1) = if B.length = 0 ∨ btO ls ss (rrL ls ss least f (bg ++ [(j : Int)])) B least = true then rrL ls ss least f (bg ++ [(j : Int)]) else B by simp only [rrF]; rw [if_neg (by rw [hk]; decide), ← hBe.out])
          have hbd2 : Hid (∀ i, i < (bg ++ [(j : Int)]).length → 0 ≤ (bg ++ [(j : Int)]).getD i 0 ∧ (bg ++ [(j : Int)]).getD i 0 < (ls.length : Int)) := fun i hi => by
            rw [List.length_append, List.length_singleton] at hi
            by_cases q : i < bg.length
            · rw [List.getD, List.getElem?_append_left q]; exact HBD.out i q
            · rw [List.getD, List.getElem?_append_right (by omega), show i - bg.length = 0 by omega]
              show 0 ≤ (j : Int) ∧ (j : Int) < _
              have := HE.out
              omega
          have hg2 := HGD.out (bg ++ [(j : Int)]) (by rw [List.length_append, List.length_singleton]; omega) hbd2.out
          have hBg := Lib.hid (rrF_good (ls := ls) (ss := ss) (least := least) (N := ls.length) (M := ls.length) (bg := bg) hl1 (fun i hi => HGD.out (bg ++ [(i : Int)]) (by rw [List.length_append, List.length_singleton]; omega) (fun q hq => by
            rw [List.length_append, List.length_singleton] at hq
            by_cases c : q < bg.length
            · rw [List.getD, List.getElem?_append_left c]; exact HBD.out q c
            · rw [List.getD, List.getElem?_append_right (by omega), show q - bg.length = 0 by omega]
              show 0 ≤ (i : Int) ∧ (i : Int) < _
              omega)) j (by have := HE.out; omega)).1
          obtain ⟨ot, hot⟩ : ∃ ot, ot = rrL ls ss least f (bg ++ [(j : Int)]) := ⟨_, rfl⟩
          rw [← hot] at hg2 HN
          rw [← hBe.out] at hBg
          have hol := hg2.1
          have HG2 := Lib.hid hg2
          have HOT := Lib.hid hot
          clear hk hg2 hot
          go_wp2_with fail
          refine HHs.out.mono ?_; rintro e w1 ⟨rfl, rfl⟩
          go_wp2_with fail
          refine (l1Own_any ba bc bg.length bg wr (HZ.out.below HB.out) rfl (by omega)).mono ?_; rintro e w2 ⟨a2, c2, rfl, ho2, hb2⟩
          have HO2 := Lib.hid ho2
          have HB2 := Lib.hid hb2
          have hs2 := hb2.size
          clear ho2 hb2
          go_wp2_with (first | (at_builtin; refine wpList_append_own _ rfl _ _ 34 rfl wr.heap.size 3 i0 (.int .i64 0) 1 8 Try.underlying34 hi hz0 hz1 hz2 rfl (by decide) _ _ _ rfl (HO2.out.alloc _) ⟨w2.heap.size, 0, none⟩ 1 1 [.int .i64 (j : Int)] rfl rfl (cell_one_new _ _ _) (fun u hu => by simp at hu; subst hu; rfl) (by unfold maxLen; omega) (by omega) (by simp; omega) ?_; intro v1 w3 hO3 hgrow hx; clear hx; have HG3 := Lib.hid hgrow; have HO3 := Lib.hid hO3; clear hgrow hO3; obtain ⟨a3, c3, rfl⟩ := row_formR2 HO3.out))
          have hs3 : w2.heap.size ≤ w3.heap.size := Nat.le_trans (by simp) HG3.out.size
          have hB3 := (HB2.out.alloc hs2 (.cells #[.int .i64 (j : Int)] 3)).grown HG3.out (by simp; omega) (fun k hk => (HO2.out.lt k hk).1)
          have hW3 := HB.out.trans (hB3.mono hsz)
          have hz3 : RdZ w3 a3 c3 (bg ++ [(j : Int)]) := row_rdZ (by rw [List.map_append]; exact HO3.out) (by rw [List.length_append, List.length_singleton])
          have HI := HIH.out (bg ++ [(j : Int)]) a3 c3 w3 (HL.out.below hW3) (HS.out.below hW3) hz3 (by rw [List.length_append, List.length_singleton]; omega) hbd2.out
          rw [List.length_append, List.length_singleton, ← HOT.out] at HI
          refine HI.mono ?_; rintro e w4 ⟨a4, c4, rfl, ho4, hb4⟩
          have hW4 := hW3.trans (hb4.mono (Nat.le_trans hsz hB3.size))
          have HO4 := Lib.hid (row_base ho4 (show w.heap.size ≤ w3.heap.size from Nat.le_trans hsz hB3.size))
          have HBo := Lib.hid (rowB HO.out (hW4f HB.out hB3 hb4))
          have HW4 := Lib.hid hW4
          clear HI ho4 hb4 hW3 hW4 hz3 hB3
          by_cases hB0 : B.length = 0
          · have HN2 := Lib.hid (show ot = rrF (rrL ls ss least f) ls ss least bg (j + 1) by rw [HN.out, if_pos (.inl hB0)])
            have hb0 : ((B.length : Int) == 0) = true := by rw [hB0]; rfl
            clear HN
            go_wp2_with fail
            go_roundg (gk - 1)
            case rel => exact ⟨j + 1, a4, c4, ot, by rw [hol], by go_num, by omega, by omega, by rw [hol]; exact HO4.out, HN2.out, HW4.out⟩
            case measure => omega
          · have hb0 : ((B.length : Int) == 0) = false := by rw [beq_eq_false_iff_ne]; omega
            have hBn := hBg.out.resolve_left (fun q => hB0 (by rw [q]; rfl))
            have hbl := hBn.1
            have HBT := Lib.hid (reBetter_any la sa a4 ab lc sc c4 cb ls.length B.length ls ss ot B least w4 (HL.out.below HW4.out) (HS.out.below HW4.out) (row_rdZ HO4.out hol).rd (row_rdZ HBo.out rfl).rd h1 h2 hl (by rw [HE.out]; exact hl) (by rw [HE.out]; exact HG2.out.2) (by rw [HE.out]; exact hBn.2) hol hbl)
            rw [hol] at HBT
            have hb0I : ¬ (B.length : Int) = 0 := by omega
            have hb0N : ¬ B.length = 0 := hB0
            clear hbl hBn
            cases hbt : btO ls ss ot B least
            · have HN2 := Lib.hid (show B = rrF (rrL ls ss least f) ls ss least bg (j + 1) by rw [HN.out, if_neg (by rw [hbt]; simp; exact fun q => hB0 (by rw [q]; rfl))])
              rw [hbt] at HBT
              have HBT2 := Lib.hid HBT
              clear HN hbt HBT
              go_wp2_with fail
              refine HBT2.out.mono ?_; rintro e w5 ⟨rfl, rfl⟩
              go_wp2_with fail
              go_roundg (gk - 1)
              case rel => exact ⟨j + 1, ab, cb, B, rfl, by go_num, by omega, by omega, HBo.out, HN2.out, HW4.out⟩
              case measure => omega
            · have HN2 := Lib.hid (show ot = rrF (rrL ls ss least f) ls ss least bg (j + 1) by rw [HN.out, if_pos (.inr hbt)])
              rw [hbt] at HBT
              have HBT2 := Lib.hid HBT
              clear HN hbt HBT
              go_wp2_with fail
              refine HBT2.out.mono ?_; rintro e w5 ⟨rfl, rfl⟩
              go_wp2_with fail
              go_roundg (gk - 1)
              case rel => exact ⟨j + 1, a4, c4, ot, by rw [hol], by go_num, by omega, by omega, by rw [hol]; exact HO4.out, HN2.out, HW4.out⟩
              case measure => omega
        · have HN := Lib.hid (show B = rrF (rrL ls ss least f) ls ss least bg (j + 1) by simp only [rrF]; rw [if_pos hk]; exact hBe.out)
          rw [hk] at HHs
          clear hk
          go_wp2_with fail
          refine HHs.out.mono ?_; rintro e w1 ⟨rfl, rfl⟩
          go_wp2_with fail
          go_roundg (gk - 1)
          case rel => exact ⟨j + 1, ab, cb, B, rfl, by go_num, by omega, by omega, HO.out, HN.out, HB.out⟩
          case measure => omega
      · obtain rfl : j = ss.length := by omega
        have hC := Lib.hid (show rrF (rrL ls ss least f) ls ss least bg ss.length = rrL ls ss least (f + 1) bg from rfl)
        have hgg := (rrL_good (least := least) hl1 HE.out (f + 1) bg hlen HBD.out).1
        rw [← hC.out, ← hBe.out] at hgg
        have HO := Lib.hid hown
        have HB := Lib.hid hbel
        rw [hgg] at HO
        clear hown hbel
        go_wp2_with fail
        go_ret
        exact ⟨ab, cb, by first | rfl | (rw [hgg]; rfl), by rw [← hC.out, ← hBe.out]; exact HO.out, HB.out⟩
end Go.Proofs.Ytlfjgggidoakaaa
