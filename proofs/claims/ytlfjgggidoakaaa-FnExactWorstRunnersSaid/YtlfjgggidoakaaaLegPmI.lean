/- The best order of runners: the program's parts, by contracts. -/
import Derived.Test.YtlfjgggidoakaaaLegPm
import Derived.Test.YtlfjgggidoakaaaLegTeam
import Derived.Test.YtlfjgggidoakaaaLegNumI
import Derived.Test.YtlfjgggidoakaaaSortL
import Derived.Test.YtlfjgggidoakaaaShelf
import Derived.WalkKit
import Derived.WalkSpells
import Derived.WalkLawsBesides
import Derived.Lib.Hide
import Derived.Deep.LoopGhost
import Derived.Deep.QuietTactic
import Derived.Deep.RegionWith
import Derived.Deep.RegionHeld3
import Derived.BigQuiet
import Derived.Shelf.Abstract
import Derived.Shelf.RegionOpenPlain
import Derived.Laws.CopyOwn
namespace Go.Proofs.Ytlfjgggidoakaaa
open Go.RowKit
set_option linter.unusedVariables false
set_option linter.unusedSimpArgs false
set_option maxHeartbeats 2000000 in
theorem areTeam_any (la sa : Option Addr) (lc sc : Nat) (ls ss : List Int) (w : World) (hL : Rd w la ls) (hS : Rd w sa ss) (hl : ls.length ≤ 1048576) (hs : ss.length ≤ 1048576) :
    Calls Try.prog 54 #[.slice la ls.length lc, .slice sa ss.length sc] w fun e w' => e = .returned (.bool (tmG ls ss)) ∧ w = w' := by
  have e : tmG ls ss = (((ls.length : Int) == (ss.length : Int)) && ((inB (ls.length : Int) 1 6 && allV (fun n => inB n 1 1000) ls) && (inB (ss.length : Int) 1 6 && allV (fun n => inB n 1 100) ss))) := by
    unfold tmG
    show (_ && _ && allV (fun n => inB n 1 1000) ls && allV (fun n => inB n 1 100) ss) = _
    by_cases h : ls.length = ss.length
    · have h1 : ((ss.length : Int) == (ls.length : Int)) = true := by rw [beq_iff_eq]; omega
      have h2 : ((ls.length : Int) == (ss.length : Int)) = true := by rw [beq_iff_eq]; omega
      rw [h1, h2, h]
      cases inB (ss.length : Int) 1 6 <;> cases allV (fun n => inB n 1 1000) ls <;> cases allV (fun n => inB n 1 100) ss <;> rfl
    · have h1 : ((ss.length : Int) == (ls.length : Int)) = false := by rw [beq_eq_false_iff_ne]; omega
      have h2 : ((ls.length : Int) == (ss.length : Int)) = false := by rw [beq_eq_false_iff_ne]; omega
      rw [h1, h2]
      cases inB (ls.length : Int) 1 6 <;> rfl
  rw [e]
  clear e
  have H1 := Lib.hid (areAllI 45 #[] (fun n => inB n 1 1000) la lc ls 6 w hL (by omega) (enters_of Try.func45 (by kernel_rfl) rfl) (fun x W => isLong_any x W))
  have H2 := Lib.hid (areAllI 46 #[] (fun n => inB n 1 100) sa sc ss 6 w hS (by omega) (enters_of Try.func46 (by kernel_rfl) rfl) (fun x W => isFast_any x W))
  generalize (inB (ls.length : Int) 1 6 && allV (fun n => inB n 1 1000) ls) = p at *
  generalize (inB (ss.length : Int) 1 6 && allV (fun n => inB n 1 100) ss) = q at *
  by_cases h : ls.length = ss.length
  · have h2 : ((ls.length : Int) == (ss.length : Int)) = true := by rw [beq_iff_eq]; omega
    rw [h2, Bool.true_and]
    clear h2
    rw [← h] at H2 ⊢
    have HH := Lib.hid h
    clear h hs
    cases p
    · go_enter Try.func54, Try.ntmps54
      go_wp2_with fail
      refine H1.out.mono ?_; rintro e w1 ⟨rfl, rfl⟩
      go_wp2_with fail
      go_ret
      exact ⟨rfl, rfl⟩
    · go_enter Try.func54, Try.ntmps54
      go_wp2_with fail
      refine H1.out.mono ?_; rintro e w1 ⟨rfl, rfl⟩
      go_wp2_with fail
      refine H2.out.mono ?_; rintro e w2 ⟨rfl, rfl⟩
      go_wp2_with fail
      go_ret
      exact ⟨rfl, rfl⟩
  · have h2 : ((ls.length : Int) == (ss.length : Int)) = false := by rw [beq_eq_false_iff_ne]; omega
    have h3 : ¬ (ls.length : Int) = (ss.length : Int) := by omega
    rw [h2, Bool.false_and]
    go_enter Try.func54, Try.ntmps54
    go_wp2_with fail
    go_ret
    exact ⟨rfl, rfl⟩
set_option maxHeartbeats 4000000 in
set_option maxRecDepth 100000 in
theorem slowness_any (sa : Option Addr) (sc : Nat) (ss : List Int) (w : World) (hS : Rd w sa ss) (h : ∀ i, i < ss.length → 1 ≤ ss.getD i 0 ∧ ss.getD i 0 ≤ 100) (hl : ss.length ≤ 6) :
    Calls Try.prog 55 #[.slice sa ss.length sc] w fun e w' => ∃ g, e = .returned (.slice (some ⟨g, 0, none⟩) ss.length ss.length) ∧ w'.ownsRow w.heap.size 3 1 (.slice (some ⟨g, 0, none⟩) ss.length ss.length) ss.length ((slL ss).map (Value.int .i64)) ∧ Below w.heap.size w w' := by
  obtain ⟨i0, hi, hz0, hz1, hz2⟩ := info_parts intInfo
  have HN := Lib.hid (fun j (hj : j ≤ ss.length) => lcU_num h hl hj)
  have HH := Lib.hid h
  have hlI : (ss.length : Int) ≤ 6 := by omega
  clear h
  go_enter Try.func55, Try.ntmps55
  go_wp2_with fail
  go_loopg [3, 11] ss.length (fun k v3 v11 wr => ∃ (j : Nat) (u : Int), v3 = .int .i64 u ∧ v11 = .int .i64 (j : Int) ∧ j + k ≤ ss.length ∧ ss.length ≤ j + k ∧ Hid (lcU ss j = u) ∧ Below w.heap.size w wr)
  case atStart => exact ⟨0, 1, rfl, rfl, by omega, by omega, rfl, Below.refl _ _⟩
  case round =>
    obtain ⟨j, u, rfl, rfl, g1, g2, hu, hbel⟩ := hrel
    have hsz := hbel.size
    by_cases hj : j < ss.length
    · have h' := hS.below hbel
      rcases h' with h' | ⟨b, off, rfl, hlt, hc⟩
      · rw [h'] at hj; exact absurd hj (Nat.not_lt_zero _)
      · have hcj := hc j hj
        have hjI : (j : Int) < (ss.length : Int) := by omega
        have bu := HN.out j (by omega)
        have bu2 := HN.out (j + 1) (by omega)
        have bs := HH.out j hj
        have hu2 : Hid (lcU ss (j + 1) = u * (ss.getD j 0).tdiv (gc u (ss.getD j 0))) := by unfold Hid; rw [← hu.out]; rfl
        rw [hu2.out] at bu2
        rw [hu.out] at bu
        clear hc hu
        generalize ss.getD j 0 = s at *
        have gp := gc_pos (a := u) (b := s) (by omega)
        have HG := Lib.hid (fun w => gcd_any u s (by omega) (by omega) (by omega) (by omega) w)
        have d3 : (gc u s == 0) = false := by rw [beq_eq_false_iff_ne]; omega
        have d4 : ¬ gc u s = 0 := by omega
        have d5 : ¬ gc u s = -1 := by omega
        have tq := tdiv_pos (gc_dvd_r u s) bs.1 gp
        generalize gc u s = g at *
        have e1 : IntKind.i64.wrap (s.tdiv g) = s.tdiv g := IntWalk.i64_in _ (by omega)
        have e2 : IntKind.i64.wrap (u * s.tdiv g) = u * s.tdiv g := IntWalk.i64_in _ (by omega)
        have HB := Lib.hid hbel
        clear hbel
        go_wp2_with fail
        refine (HG.out _).mono ?_; rintro e w1 ⟨rfl, hb⟩
        have HB1 := Lib.hid (HB.out.trans (hb.mono hsz))
        clear hb
        go_wp2_with fail
        go_roundg (gk - 1)
        case rel => exact ⟨j + 1, u * s.tdiv g, by first | rfl | (rw [e1, e2]), by go_num, by omega, by omega, hu2, HB1.out⟩
        case measure => omega
    · obtain rfl : j = ss.length := by omega
      have hU := hu
      have bu := HN.out ss.length (Nat.le_refl _)
      rw [hu.out] at bu
      obtain ⟨w3, hrun, hown0, hgr0⟩ := run_make_full (P := Try.prog) wr wr.heap.size 34 3 i0 (.int .i64 0) 1 Try.underlying34 hi hz0 hz1 .i64 .i64 ss.length (by rw [hz2]; omega) (by unfold maxLen; omega) (Nat.le_refl _)
      have hbel0 : Below wr.heap.size wr w3 := (Below.refl _ _).grown hgr0 (Nat.le_refl _) (fun k hk => by cases hk)
      obtain ⟨ys0, hy0⟩ : ∃ ys, ys = (madeCells (Value.int .i64 0).cells (ss.length * 1)).toList := ⟨_, rfl⟩
      rw [← hy0] at hown0
      have HB := Lib.hid hbel
      have hS2 := Lib.hid (hS.below hbel)
      clear hy0 hgr0 hbel hS hu
      obtain ⟨OG, rfl⟩ : ∃ G, G = gk := ⟨_, rfl⟩
      go_wp2_with fail
      clear hrun
      go_loopg [28] ss.length (fun f v28 wi => ∃ (j : Nat) (ys : List Value), v28 = .int .i64 (j : Int) ∧ j + f ≤ ss.length ∧ ss.length ≤ j + f ∧ wi.ownsRow wr.heap.size 3 1 (.slice (some ⟨wr.heap.size, 0, none⟩) ss.length ss.length) ss.length ys ∧ Hid (∀ i, i < j → ys[i]? = some (.int .i64 (u.tdiv (ss.getD i 0)))) ∧ Below wr.heap.size wr wi)
      case atStart => exact ⟨0, ys0, rfl, by omega, by omega, hown0, fun i hi => absurd hi (Nat.not_lt_zero _), hbel0⟩
      case round =>
        clear hown0 hbel0
        obtain ⟨j, ys, rfl, g3, g4, hown, hys, hbel⟩ := hrel
        have hlen : ys.length = ss.length * 1 := hown.1
        by_cases hj : j < ss.length
        · have h' := hS2.out.below hbel
          rcases h' with h' | ⟨b, off, rfl, hlt, hc⟩
          · rw [h'] at hj; exact absurd hj (Nat.not_lt_zero _)
          · have hcj := hc j hj
            have hjI : (j : Int) < (ss.length : Int) := by omega
            have bs := HH.out j hj
            obtain ⟨s, hs⟩ : ∃ s, s = ss.getD j 0 := ⟨_, rfl⟩
            rw [← hs] at hcj bs
            have d3 : (s == 0) = false := by rw [beq_eq_false_iff_ne]; omega
            have d4 : ¬ s = 0 := by omega
            have d5 : ¬ s = -1 := by omega
            have tq := tdv_bd bu.1 bu.2 bs.1
            have e1 : IntKind.i64.wrap (u.tdiv s) = u.tdiv s := IntWalk.i64_in _ (by omega)
            have HS := Lib.hid hs
            obtain ⟨hst1, hst2⟩ := hown.stored j (.int .i64 (u.tdiv s))
            have hcy0 := hown.cellAt j (by omega)
            have hfy0 := hown.frozenAt j
            rw [List.getElem?_eq_getElem (by omega)] at hcy0
            have HF := Lib.hid hst1
            have HBi := Lib.hid hbel
            clear hst1 hst2 hown hbel hc hs
            go_wp2_with fail
            go_roundg (gk - 1)
            case rel =>
              refine ⟨j + 1, _, by go_num, by omega, by omega, HF.out, ?_, HBi.out.setCell (Nat.le_refl _) _⟩
              intro i hi
              by_cases q : i = j
              · subst q; rw [List.getElem?_set_self (by omega), ← HS.out]
              · rw [List.getElem?_set_ne (by omega)]; exact hys.out i (by omega)
            case measure => omega
        · have e : ys = (slL ss).map (Value.int .i64) := by
            apply List.ext_getElem?
            intro p
            by_cases hp : p < ss.length
            · rw [hys.out p (by omega), List.getElem?_map]
              simp [slL, List.getElem?_eq_getElem hp, List.getD, hU.out]
            · rw [List.getElem?_eq_none (by omega), List.getElem?_eq_none (by rw [List.length_map, slL_len]; omega)]
          subst e
          have HO := Lib.hid (row_base hown HB.out.size)
          have HBi := Lib.hid (HB.out.trans (hbel.mono HB.out.size))
          clear hown hbel
          go_wp2_with fail
          go_ret
          exact ⟨_, rfl, HO.out, HBi.out⟩
set_option maxHeartbeats 4000000 in
set_option maxRecDepth 100000 in
theorem orderTime_any (la sa oa : Option Addr) (lc sc oc : Nat) (ls ss ord : List Int) (w : World) (hL : Rd w la ls) (hS : Rd w sa (slL ss)) (hO : Rd w oa ord)
    (h1 : ∀ i, i < ls.length → 1 ≤ ls.getD i 0 ∧ ls.getD i 0 ≤ 1000) (h2 : ∀ i, i < ss.length → 1 ≤ ss.getD i 0 ∧ ss.getD i 0 ≤ 100) (hl : ss.length ≤ 6) (he : ss.length = ls.length) (hol : ord.length = ls.length)
    (ho : ∀ i, i < ls.length → 0 ≤ ord.getD i 0 ∧ ord.getD i 0 < (ss.length : Int)) :
    Calls Try.prog 58 #[.slice la ls.length lc, .slice sa ls.length sc, .slice oa ls.length oc] w fun e w' => e = .returned (.int .i64 (tmU ls (slL ss) ord ls.length)) ∧ Below w.heap.size w w' := by
  have HB1 := Lib.hid (tmU_bd h1 h2 hl ho)
  have H1 := Lib.hid h1
  have H2 := Lib.hid h2
  have HO := Lib.hid ho
  have HE := Lib.hid he
  have HSL := Lib.hid (fun i (hi : i < ss.length) => slL_at hi)
  have HU := Lib.hid (lcU_num h2 hl (Nat.le_refl _))
  have hnI : (ls.length : Int) ≤ 6 := by omega
  have hol' := Lib.hid hol
  clear h1 h2 ho he hol
  go_enter Try.func58, Try.ntmps58
  go_wp2_with fail
  go_loopg [7, 12] ls.length (fun k v7 v12 wr => ∃ (j : Nat) (s : Int), v7 = .int .i64 s ∧ v12 = .int .i64 (j : Int) ∧ j + k ≤ ls.length ∧ ls.length ≤ j + k ∧ Hid (tmU ls (slL ss) ord j = s) ∧ Below w.heap.size w wr)
  case atStart => exact ⟨0, 0, rfl, rfl, by omega, by omega, rfl, Below.refl _ _⟩
  case round =>
    obtain ⟨j, s, rfl, rfl, g1, g2, hs, hbel⟩ := hrel
    have hsz := hbel.size
    by_cases hj : j < ls.length
    · obtain ⟨lb, lo, rfl, hlt1, hc1⟩ := rd_at (hL.below hbel) hj
      obtain ⟨ob, oo, rfl, hlt2, hc2⟩ := rd_at (hO.below hbel) (show j < ord.length by rw [hol'.out]; exact hj)
      have bo := HO.out j hj
      obtain ⟨r, hr⟩ : ∃ r : Nat, ord.getD j 0 = (r : Int) := ⟨(ord.getD j 0).toNat, by omega⟩
      rw [hr] at bo
      have hrs : r < ss.length := by omega
      obtain ⟨sb, so, rfl, hlt3, hc3⟩ := rd_at (hS.below hbel) (show r < (slL ss).length by rw [slL_len]; exact hrs)
      have c1 := hc1 j hj
      have c2 := hc2 j (by rw [hol'.out]; exact hj)
      have c3 := hc3 r (by rw [slL_len]; exact hrs)
      rw [hr] at c2
      have bs := HB1.out j (by omega)
      have bs2 := HB1.out (j + 1) (by omega)
      have bl := H1.out j hj
      have bt := tdv_bd HU.out.1 HU.out.2 (H2.out r hrs).1
      rw [← HSL.out r hrs] at bt
      have hs2 : Hid (tmU ls (slL ss) ord (j + 1) = s + ls.getD j 0 * (slL ss).getD r 0) := by
        unfold Hid
        show tmU ls (slL ss) ord j + ls.getD j 0 * (slL ss).getD (ord.getD j 0).toNat 0 = _
        rw [hs.out, hr, Int.toNat_natCast]
      rw [hs2.out] at bs2
      rw [hs.out] at bs
      have HBl := Lib.hid hbel
      clear hs hc1 hc2 hc3 hbel
      generalize ls.getD j 0 = x at *
      generalize (slL ss).getD r 0 = y at *
      have m := mul_bd x y 1000 1000000000000 (by omega) (by omega) (by omega) (by omega)
      have e1 : IntKind.i64.wrap (x * y) = x * y := IntWalk.i64_in _ (by omega)
      have e2 : IntKind.i64.wrap (s + x * y) = s + x * y := IntWalk.i64_in _ (by omega)
      have hjI : (j : Int) < (ls.length : Int) := by omega
      have hrI : (r : Int) < (ls.length : Int) := by have := HE.out; omega
      have r0 : (0 : Int) ≤ (r : Int) := by omega
      have j0 : (0 : Int) ≤ (j : Int) := by omega
      go_wp2_with fail
      go_region_held3 (fun w' => Below wr.heap.size wr w' ∧ w'.cell? ⟨lb, lo + j, none⟩ = some (.int .i64 x) ∧ w'.cell? ⟨sb, so + r, none⟩ = some (.int .i64 y))
        (refine ⟨?_, ?_, ?_⟩ <;> first | assumption | (exact (Below.refl _ _).drew) | (go_simp; done))
        (fail)
      all_goals rename_i hHeld
      go_wp2_with fail
      go_roundg (gk - 1)
      case rel => exact ⟨j + 1, s + x * y, by first | rfl | (rw [e1, e2]), by go_num, by omega, by omega, hs2, HBl.out.trans (hHeld.1.mono hsz)⟩
      case measure => omega
    · obtain rfl : j = ls.length := by omega
      have HF := Lib.hid hs
      have HBl := Lib.hid hbel
      clear hs hbel
      go_wp2_with fail
      go_ret
      rw [HF.out]
      exact ⟨rfl, HBl.out⟩
/-- a row with a piece laid over it -/
def setL : List Value → Nat → List Value → List Value
  | xs, _, [] => xs
  | xs, o, v :: vs => setL (xs.set o v) (o + 1) vs
theorem setL_get : ∀ (vs xs : List Value) (o i : Nat), o + vs.length ≤ xs.length → (setL xs o vs)[i]? = if o ≤ i ∧ i < o + vs.length then vs[i - o]? else xs[i]?
  | [], xs, o, i, h => by simp only [setL, List.length_nil, Nat.add_zero]; rw [if_neg (by omega)]
  | v :: vs, xs, o, i, h => by
    rw [List.length_cons] at h
    simp only [setL]
    rw [setL_get vs (xs.set o v) (o + 1) i (by rw [List.length_set]; omega), List.length_cons]
    by_cases q : i = o
    · subst q
      rw [if_neg (by omega), if_pos (by omega), List.getElem?_set_self (by omega), Nat.sub_self]; rfl
    · by_cases r : o + 1 ≤ i ∧ i < o + 1 + vs.length
      · rw [if_pos r, if_pos (by omega), show i - o = (i - (o + 1)) + 1 by omega]; rfl
      · rw [if_neg r, if_neg (by omega), List.getElem?_set_ne (by omega)]
theorem own_setCells {g n cap base : Nat} {e : TypeId} : ∀ (vs : List Value) (o : Nat) (w : World) (xs : List Value), w.ownsRow base e 1 (.slice (some ⟨g, 0, none⟩) n cap) n xs → (w.setCells g o vs).ownsRow base e 1 (.slice (some ⟨g, 0, none⟩) n cap) n (setL xs o vs) ∧ w.grownBy (w.setCells g o vs) (some g)
  | [], o, w, xs, h => ⟨h, World.grownBy.refl _ _⟩
  | v :: vs, o, w, xs, h => by
    obtain ⟨s1, s2⟩ := h.stored o v
    have r := own_setCells vs (o + 1) _ _ s1
    exact ⟨r.1, s2.trans r.2⟩
/-- the piece from k on backwards -/
theorem setL_rv (p : List Int) {k : Nat} (hk : k ≤ p.length) : setL (p.map (Value.int .i64)) k ((p.drop k).reverse.map (Value.int .i64)) = (rvP p k).map (Value.int .i64) := by
  apply List.ext_getElem?
  intro i
  rw [setL_get _ _ _ _ (by simp; omega)]
  unfold rvP
  rw [List.map_append]
  have ht : ((p.take k).map (Value.int .i64)).length = k := by simp; omega
  by_cases q : i < k
  · rw [if_neg (by omega), List.getElem?_append_left (by omega), List.getElem?_map, List.getElem?_map, List.getElem?_take, if_pos q]
  · rw [List.getElem?_append_right (by omega), ht]
    split
    · rfl
    · rename_i r
      rw [List.getElem?_eq_none (by simp; simp at r; omega), List.getElem?_eq_none (by simp; simp at r; omega)]
theorem nxK_le (p : List Int) : ∀ m, nxK p m ≤ m
  | 0 => Nat.le_refl _
  | m + 1 => by unfold nxK; split; · have := nxK_le p m; omega
                · omega
theorem nxK_stop (p : List Int) : ∀ m, nxK p m ≠ 0 → ¬ p.getD (nxK p m) 0 < p.getD (nxK p m - 1) 0
  | 0, h => absurd rfl h
  | m + 1, h => by
    unfold nxK at h ⊢
    split
    · rename_i q
      rw [if_pos q] at h
      exact nxK_stop p m h
    · assumption
set_option maxHeartbeats 8000000 in
set_option maxRecDepth 100000 in
theorem nextOrder_any (base g n : Nat) (p : List Int) (w : World) (hown : w.ownsRow base 3 1 (.slice (some ⟨g, 0, none⟩) n n) n (p.map (Value.int .i64))) (hp : p.length = n) (n1 : 1 ≤ n) (n2 : n ≤ 6) :
    Calls Try.prog 59 #[.slice (some ⟨g, 0, none⟩) n n] w fun e w' => e = .returned (.bool (nxB p)) ∧ w'.ownsRow base 3 1 (.slice (some ⟨g, 0, none⟩) n n) n ((nxP p).map (Value.int .i64)) ∧ w.grownBy w' (some g) := by
  have mixed : Try.prog.follows Departure.mixedOrders = true := by kernel_rfl
  have hnI : (n : Int) ≤ 6 := by omega
  have hn1I : (1 : Int) ≤ (n : Int) := by omega
  obtain ⟨K, hK⟩ : ∃ K, K = nxK p (n - 1) := ⟨_, rfl⟩
  have HKB := Lib.hid (show nxB p = decide (K ≠ 0) by unfold nxB; rw [hp, hK])
  have HKP := Lib.hid (show nxP p = if K = 0 then p else rvP (swP p (K - 1) (nxJ p (K - 1) (n - 1))) K by unfold nxP; rw [hp, hK])
  have HKS := Lib.hid (fun h => by have := nxK_stop p (n - 1); rw [← hK] at this; exact this h : K ≠ 0 → ¬ p.getD K 0 < p.getD (K - 1) 0)
  obtain ⟨bb, hbb⟩ : ∃ b, b = nxB p := ⟨_, rfl⟩
  obtain ⟨pp, hpp⟩ : ∃ q, q = nxP p := ⟨_, rfl⟩
  rw [← hbb, ← hpp]
  have HBB := Lib.hid (hbb.trans HKB.out)
  have HPP := Lib.hid (hpp.trans HKP.out)
  clear hbb hpp HKB HKP
  have HK := Lib.hid hK
  have hcell : Hid (∀ (W : World), W.ownsRow base 3 1 (.slice (some ⟨g, 0, none⟩) n n) n (p.map (Value.int .i64)) → ∀ i, i < n → W.cell? ⟨g, i, none⟩ = some (.int .i64 (p.getD i 0))) := fun W h i hi => by
    rw [h.cellAt i (by omega), List.getElem?_map, List.getElem?_eq_getElem (by omega)]
    simp [List.getD, List.getElem?_eq_getElem (show i < p.length by omega)]
  clear hK
  go_enter Try.func59, Try.ntmps59
  go_wp2_with fail
  go_loopg [3] (n - 1) (fun f v3 wr => ∃ (m : Nat), v3 = .int .i64 ((m : Int) - 1) ∧ m = f ∧ m + 1 ≤ n ∧ Hid (nxK p m = K) ∧ wr.ownsRow base 3 1 (.slice (some ⟨g, 0, none⟩) n n) n (p.map (Value.int .i64)) ∧ w.grownBy wr (some g))
  case atStart => exact ⟨n - 1, by first | rfl | (congr 1; omega), rfl, by omega, HK.out.symm, hown, World.grownBy.refl _ _⟩
  case round =>
    clear hown
    obtain ⟨m, rfl, hmf, hm1, hmK, hown, hgr⟩ := hrel
    have HG := Lib.hid hgr
    have HMF := Lib.hid hmf
    clear hgr hmf
    rcases m with _ | m
    · have hK0 : K = 0 := by rw [← hmK.out]; rfl
      have HO := Lib.hid hown
      have hb0 : bb = false := by rw [HBB.out, hK0]; rfl
      have hp0 : pp = p := by rw [HPP.out, hK0]; rfl
      have HB0 := Lib.hid (And.intro hb0 hp0)
      clear hb0 hp0 hK0
      clear hown
      have e0 : ((0 : Nat) : Int) - 1 = -1 := by omega
      rw [e0]
      go_wp2_with fail
      all_goals try (go_quiet (fail); go_wp2_with fail)
      go_ret
      rw [HB0.out.1, HB0.out.2]
      exact ⟨rfl, by first | exact HO.out | exact HO.out.drew, by first | exact HG.out | exact ⟨HG.out.os, HG.out.tape, HG.out.output, HG.out.size, HG.out.block⟩⟩
    · have eS : ((m + 1 : Nat) : Int) - 1 = (m : Int) := by omega
      rw [eS]
      have c1 := hcell.out _ hown (m + 1) hm1
      have c0 := hcell.out _ hown m (by omega)
      have HO := Lib.hid hown
      have m0 : (0 : Int) ≤ (m : Int) := by omega
      have mI : (m : Int) < (n : Int) := by omega
      have m1I : (m : Int) + 1 < (n : Int) := by omega
      have m1P : (0 : Int) ≤ (m : Int) + 1 := by omega
      have ea : ((m : Int) + 1).toNat = m + 1 := by omega
      have ra : IntKind.i64.wrap ((m : Int) + 1) = (m : Int) + 1 := IntWalk.i64_in _ (by omega)
      have d0 : decide ((m : Int) ≥ 0) = true := decide_eq_true (by omega)
      clear hown
      by_cases hlt : p.getD (m + 1) 0 < p.getD m 0
      · have HK2 := Lib.hid (show nxK p m = K by have := hmK.out; unfold nxK at this; rw [if_pos hlt] at this; exact this)
        clear hmK
        generalize p.getD (m + 1) 0 = y at *
        generalize p.getD m 0 = x at *
        go_wp2_with fail
        all_goals try (go_quiet (fail); go_wp2_with fail)
        go_roundg (gk - 1)
        case rel => exact ⟨m, rfl, by have := HMF.out; omega, by omega, HK2.out, by first | exact HO.out | exact HO.out.drew, by first | exact HG.out | exact ⟨HG.out.os, HG.out.tape, HG.out.output, HG.out.size, HG.out.block⟩⟩
        case measure => have := HMF.out; omega
      · have hKm : K = m + 1 := by have := hmK.out; unfold nxK at this; rw [if_neg hlt] at this; exact this.symm
        have HLT := Lib.hid hlt
        clear hmK
        obtain ⟨y1, hy1⟩ : ∃ y, y = p.getD (m + 1) 0 := ⟨_, rfl⟩
        obtain ⟨x, hx⟩ : ∃ x, x = p.getD m 0 := ⟨_, rfl⟩
        rw [← hy1, ← hx] at hlt
        rw [← hy1] at c1
        rw [← hx] at c0
        have HX := Lib.hid hx
        have HY1 := Lib.hid hy1
        clear hy1 hx
        obtain ⟨J, hJ⟩ : ∃ J, J = nxJ p m (n - 1) := ⟨_, rfl⟩
        have HJ := Lib.hid hJ
        clear hJ
        obtain ⟨OG, rfl⟩ : ∃ G, G = gk := ⟨_, rfl⟩
        go_wp2_with fail
        all_goals try (go_quiet (fail); go_wp2_with fail)
        clear c0 c1
        go_loopg [4] (n - 1) (fun f v4 wi => ∃ (j : Nat), v4 = .int .i64 (j : Int) ∧ j = f ∧ m + 1 ≤ j ∧ j + 1 ≤ n ∧ Hid (nxJ p m j = J) ∧ wi.ownsRow base 3 1 (.slice (some ⟨g, 0, none⟩) n n) n (p.map (Value.int .i64)) ∧ w.grownBy wi (some g))
        case atStart => exact ⟨n - 1, by first | rfl | (congr 1; omega), rfl, by omega, by omega, HJ.out.symm, by first | exact HO.out | exact HO.out.drew, by first | exact HG.out | exact ⟨HG.out.os, HG.out.tape, HG.out.output, HG.out.size, HG.out.block⟩⟩
        case round =>
          obtain ⟨j, rfl, hjf, hj1, hj2, hjJ, hown, hgr⟩ := hrel
          have HG2 := Lib.hid hgr
          have HJF := Lib.hid hjf
          clear hjf
          have HO2 := Lib.hid hown
          have c0 := hcell.out _ hown m (by omega)
          have cj := hcell.out _ hown j (by omega)
          have f0 := hown.frozenAt m
          have fj := hown.frozenAt j
          rw [← HX.out] at c0
          have jI : (j : Int) < (n : Int) := by omega
          have j0 : (0 : Int) ≤ (j : Int) := by omega
          clear hgr
          by_cases hlt2 : p.getD j 0 < x
          · have hjm : j ≠ m + 1 := fun q => by
              rw [q, HX.out] at hlt2
              have h5 := HLT.out
              first | exact h5 hlt2 | omega
            obtain ⟨j', rfl⟩ : ∃ j', j = j' + 1 := ⟨j - 1, by omega⟩
            have hJ2 := Lib.hid (show nxJ p m j' = J by have := hjJ.out; unfold nxJ at this; rw [if_pos (by rw [← HX.out]; exact hlt2)] at this; exact this)
            have eJ : ((j' + 1 : Nat) : Int).toNat = j' + 1 := by omega
            clear hjJ hown
            generalize p.getD (j' + 1) 0 = z at *
            go_wp2_with fail
            all_goals try (go_quiet (fail); go_wp2_with fail)
            go_roundg (gk - 1)
            case rel => exact ⟨j', by go_num, by have := HJF.out; omega, by omega, by omega, hJ2.out, by first | exact HO2.out | exact HO2.out.drew, by first | exact HG2.out | exact ⟨HG2.out.os, HG2.out.tape, HG2.out.output, HG2.out.size, HG2.out.block⟩⟩
            case measure => have := HJF.out; omega
          · have hJj : J = j := by
              obtain ⟨j', rfl⟩ : ∃ j', j = j' + 1 := ⟨j - 1, by omega⟩
              have := hjJ.out
              unfold nxJ at this
              rw [if_neg (by rw [← HX.out]; exact hlt2)] at this
              exact this.symm
            obtain ⟨z, hz⟩ : ∃ z, z = p.getD j 0 := ⟨_, rfl⟩
            rw [← hz] at cj hlt2
            have HZ := Lib.hid hz
            have hmj : m ≠ j := by omega
            obtain ⟨st1, gr1⟩ := hown.stored m (.int .i64 z)
            obtain ⟨st2, gr2⟩ := st1.stored j (.int .i64 x)
            have hsw : ((p.map (Value.int .i64)).set m (.int .i64 z)).set j (.int .i64 x) = (swP p m j).map (Value.int .i64) := by
              unfold swP
              rw [List.map_set, List.map_set, HZ.out, HX.out]
            rw [hsw] at st2
            have HST := Lib.hid st2
            have HGR := Lib.hid ((HG2.out.trans gr1).trans gr2)
            have kc : (wr.setCell ⟨g, m, none⟩ (.int .i64 z)).cell? ⟨g, j, none⟩ = some (.int .i64 z) := by
              rw [World.cell?_setCell_other _ _ _ _ (by intro e'; simp only [Addr.mk.injEq] at e'; omega)]; exact cj
            clear hz hjJ hown st1 st2 gr1 gr2
            have q0 : ∀ q : Nat, (wr.drewN q).cell? ⟨g, m, none⟩ = some (.int .i64 x) := fun q => c0
            have qj : ∀ q : Nat, (wr.drewN q).cell? ⟨g, j, none⟩ = some (.int .i64 z) := fun q => cj
            have qf0 : ∀ q : Nat, (wr.drewN q).frozen? ⟨g, m, none⟩ = false := fun q => f0
            have qfj : ∀ q : Nat, (wr.drewN q).frozen? ⟨g, j, none⟩ = false := fun q => fj
            have r0 : ∀ q : Nat, (wr.drewN q).drew.cell? ⟨g, m, none⟩ = some (.int .i64 x) := fun q => c0
            have rj : ∀ q : Nat, (wr.drewN q).drew.cell? ⟨g, j, none⟩ = some (.int .i64 z) := fun q => cj
            have rf0 : ∀ q : Nat, (wr.drewN q).drew.frozen? ⟨g, m, none⟩ = false := fun q => f0
            have rfj : ∀ q : Nat, (wr.drewN q).drew.frozen? ⟨g, j, none⟩ = false := fun q => fj
            have rkc : ∀ q : Nat, ((wr.drewN q).drew.setCell ⟨g, m, none⟩ (.int .i64 z)).cell? ⟨g, j, none⟩ = some (.int .i64 z) := fun q => kc
            go_wp2_with fail
            all_goals try (go_quiet (fail); go_wp2_with fail)
            go_big_region_o
            all_goals go_wp2_with fail
            have hswl : (swP p m j).length = n := by simp [swP, hp]
            have hzl : ((swP p m j).drop (m + 1)).length = n - (m + 1) := by rw [List.length_drop, hswl]
            refine (Try.slices_Reverse_int_cells g (m + 1) (n - (m + 1)) (n - (m + 1)) ((swP p m j).drop (m + 1)) _ (by rw [hzl]; exact Nat.le_refl _) (by omega) (fun i hi => ?_) (fun i hi => ?_)).mono ?_
            · rw [hzl] at hi
              have hh := HST.out.cellAt (m + 1 + i) (by omega)
              rw [List.getElem?_map, List.getElem?_eq_getElem (by omega)] at hh
              have e2 : ((swP p m j).drop (m + 1)).getD i 0 = (swP p m j)[m + 1 + i]'(by omega) := by
                rw [List.getD, List.getElem?_drop, List.getElem?_eq_getElem (by omega)]; rfl
              rw [e2]
              exact hh
            · exact HST.out.frozenAt (m + 1 + i)
            · rintro e w9 ⟨rfl, q9, hw9⟩
              have etk : ((swP p m j).drop (m + 1)).take (n - (m + 1)) = (swP p m j).drop (m + 1) := List.take_of_length_le (by omega)
              rw [etk] at hw9
              have hos1 : w9.ownsRow base 3 1 (.slice (some ⟨g, 0, none⟩) n n) n ((rvP (swP p m j) (m + 1)).map (Value.int .i64)) := by
                rw [hw9, ← setL_rv _ (by omega)]
                refine And.left (own_setCells _ (m + 1) _ _ ?_)
                exact HST.out
              have hgr1 : w.grownBy w9 (some g) := by
                rw [hw9]
                refine World.grownBy.trans ?_ (And.right (own_setCells (base := base) (e := 3) (n := n) (cap := n) _ (m + 1) _ ((swP p m j).map (Value.int .i64)) ?_))
                · exact ⟨HGR.out.os, HGR.out.tape, HGR.out.output, HGR.out.size, HGR.out.block⟩
                · exact HST.out
              have HOS := Lib.hid hos1
              have HGF := Lib.hid hgr1
              have eK : K = m + 1 := hKm
              have HEK := Lib.hid eK
              clear hos1 hgr1 hw9 eK hKm
              have hb1 : bb = true := by rw [HBB.out, HEK.out]; rfl
              have hp1 : pp = rvP (swP p m j) (m + 1) := by rw [HPP.out, HEK.out, if_neg (by omega), Nat.add_sub_cancel, ← HJ.out, hJj]
              have HE3 := Lib.hid (And.intro hb1 hp1)
              clear hb1 hp1
              go_wp2_with fail
              go_ret
              rw [HE3.out.1, HE3.out.2]
              exact ⟨rfl, HOS.out, HGF.out⟩
theorem grown_setRow (w : World) (g : Nat) (cs : Array Value) : w.grownBy (w.setRow g cs) (some g) :=
  ⟨rfl, rfl, rfl, by simp [World.setRow], fun k hk hne => setRow_other w g k cs (by intro e; exact hne (by rw [e]))⟩
/-- a row with other cells laid over its own -/
theorem own_setRow {w : World} {base g n cap : Nat} {e : TypeId} {cur : Array Value} {xs : List Value} (hg : w.heap[g]? = some (.cells cur e (0, 0))) (hb : base ≤ g) (hn : n ≤ cap) (hm : cap ≤ maxLen) (hc : cur.size = cap) (hx : xs.length = n) :
    (w.setRow g (cur.toList.take 0 ++ (xs ++ cur.toList.drop (0 + xs.length))).toArray).ownsRow base e 1 (.slice (some ⟨g, 0, none⟩) n cap) n xs := by
  refine ⟨by omega, .inr ⟨g, cap, _, rfl, hb, setRow_heap w g _ _ e _ hg, hn, hm, ?_, ?_⟩⟩
  · simp; omega
  · simp [← hx]
theorem row_parts {w : World} {base e n g cap : Nat} {xs : List Value} (h : w.ownsRow base e 1 (.slice (some ⟨g, 0, none⟩) n cap) n xs) : ∃ cur, w.heap[g]? = some (.cells cur e (0, 0)) ∧ base ≤ g ∧ n ≤ cap ∧ cap ≤ maxLen ∧ cur.size = cap := by
  rcases h.2 with ⟨q, _⟩ | ⟨g', cap', cur, q, h1, h2, h3, h4, h5, h6⟩
  · simp at q
  · simp at q
    obtain ⟨rfl, rfl⟩ := q
    exact ⟨cur, h2, h1, h3, h4, by omega⟩
theorem own_splice {w : World} {base g n cap : Nat} {e : TypeId} {cur : Array Value} {xs : List Value} (hg : w.heap[g]? = some (.cells (splice cur.toList 0 xs).toArray e (0, 0))) (hb : base ≤ g) (hn : n ≤ cap) (hm : cap ≤ maxLen) (hc : cur.size = cap) (hx : xs.length = n) :
    w.ownsRow base e 1 (.slice (some ⟨g, 0, none⟩) n cap) n xs := by
  refine ⟨by omega, .inr ⟨g, cap, _, rfl, hb, hg, hn, hm, ?_, ?_⟩⟩
  · simp [splice]; omega
  · simp [splice, ← hx]
theorem own_low {w w' : World} {base g n c B : Nat} {e : TypeId} {xs : List Value} (h : w.ownsRow base e 1 (.slice (some ⟨g, 0, none⟩) n c) n xs) (hb : Below B w w') (hg : g < B) : w'.ownsRow base e 1 (.slice (some ⟨g, 0, none⟩) n c) n xs := by
  refine ⟨h.1, ?_⟩
  rcases h.2 with ⟨q, _⟩ | ⟨g', cap', cur, q, h1, h2, h3⟩
  · simp at q
  · have q' := q
    simp at q'
    obtain ⟨rfl, rfl⟩ := q'
    exact .inr ⟨g, c, cur, rfl, h1, by rw [hb.block g hg]; exact h2, h3⟩
/-- an order of n runners -/
def okO (n : Nat) (y : List Int) : Prop := y.length = n ∧ ∀ i, i < n → 0 ≤ y.getD i 0 ∧ y.getD i 0 < (n : Int)
theorem idL_rl (n : Nat) : rl (fun p => (p : Int)) n = (idL n).map (Value.int .i64) := by
  unfold rl idL
  rw [List.map_map]; rfl
/-- the orders one after another, to begin with -/
theorem chain_start {n : Nat} (h1 : 1 ≤ n) (h2 : n ≤ 6) : ∃ r, pmL n n [] = idL n :: r ∧ chN (idL n :: r) = true ∧ ∀ y ∈ idL n :: r, okO n y := by
  have c := chk_all h1 h2
  unfold chk at c
  simp only [Bool.and_eq_true] at c
  obtain ⟨⟨c1, c2⟩, c3⟩ := c
  have hl := pmL_len n n []
  rcases hp : pmL n n [] with _ | ⟨x, r⟩
  · rw [hp] at c1; simp [chN] at c1
  · rw [hp] at c1 c2 c3 hl
    have e : x = idL n := by simpa using c2
    subst e
    refine ⟨r, rfl, c1, fun y hy => ?_⟩
    have l := hl y hy
    simp only [List.length_nil, Nat.zero_add] at l
    refine ⟨l, fun i hi => ?_⟩
    have a := List.all_eq_true.1 c3 y hy
    have b := List.all_eq_true.1 a (y.getD i 0) (by rw [List.getD, List.getElem?_eq_getElem (by omega)]; exact List.getElem_mem (by omega))
    have := inB_iff.1 b
    omega
theorem chain_next {x y : List Int} {r : List (List Int)} (h : chN (x :: y :: r) = true) : nxB x = true ∧ nxP x = y ∧ chN (y :: r) = true := by
  simp only [chN, Bool.and_eq_true, beq_iff_eq] at h
  exact ⟨h.1.1, h.1.2, h.2⟩
theorem chain_end {x : List Int} (h : chN [x] = true) : nxB x = false := by simpa [chN] using h
theorem own_rd1 {w : World} {base n g cap : Nat} {xs : List Int} (h : w.ownsRow base 3 1 (.slice (some ⟨g, 0, none⟩) n cap) n (xs.map (Value.int .i64))) (hn : xs.length = n) : Rd w (some ⟨g, 0, none⟩) xs := by
  refine .inr ⟨g, 0, rfl, (h.lt g rfl).2, fun i hi => ?_⟩
  rw [Nat.zero_add, h.cellAt i (by omega), List.getElem?_map, List.getElem?_eq_getElem hi]
  simp [List.getD, List.getElem?_eq_getElem hi]
set_option maxHeartbeats 16000000 in
set_option maxRecDepth 100000 in
theorem firstOrder_any (F : Nat) (cb : Array Value) (least : Bool) (la sa : Option Addr) (lc sc : Nat) (ls ss : List Int) (w : World) (hL : Rd w la ls) (hS : Rd w sa ss) (hl : ls.length ≤ 1048576) (hs : ss.length ≤ 1048576)
    (eg : ∀ args w, (callFunc F args).run Try.prog w = .ok (.enter F args) w)
    (hc : ∀ (x y : Int) (W : World), Calls Try.prog F (#[.int .i64 x, .int .i64 y] ++ cb) W fun e w' => e = .returned (.bool (if least then decide (x < y) else decide (y < x))) ∧ W = w') :
    Calls Try.prog 36 #[.slice la ls.length lc, .slice sa ss.length sc, .func (.func F) #[] cb] w (RetS w (rrA ls ss least) (tmG ls ss)) := by
  have HC := Lib.hid hc
  clear hc
  cases hg : tmG ls ss
  · have HR := Lib.hid (show rrA ls ss least = [] by unfold rrA; rw [hg]; rfl)
    have HG := Lib.hid hg
    clear hg
    rw [HR.out]
    go_enter Try.func36, Try.ntmps36
    go_wp2_with fail
    refine (areTeam_any la sa lc sc ls ss w hL hS hl hs).mono ?_; rw [HG.out]; rintro e w1 ⟨rfl, rfl⟩
    go_wp2_with fail
    go_ret2
    exact ⟨none, 0, rfl, World.ownsRow_nil _ _ _ _, Below.refl _ _⟩
  · obtain ⟨n1, n6, he, h1, h2⟩ := tmG_at hg
    have HR := Lib.hid (show rrA ls ss least = rrL ls ss least ls.length [] by unfold rrA; rw [hg]; rfl)
    have HG := Lib.hid hg
    have HA := Lib.hid (by have := areTeam_any la sa lc sc ls ss w hL hS hl hs; rw [he] at this; exact this)
    have hs6 : ss.length ≤ 6 := by omega
    obtain ⟨r0, hp, hch, hok⟩ := chain_start n1 n6
    have HRES := Lib.hid (show fbL (fun x y => btO ls ss x y least) (idL ls.length) r0 = rrL ls ss least ls.length [] by
      rw [rrL_pm n1 he ls.length [] (by simp) (fun i hi => absurd hi (by simp)), hp]; rfl)
    have HBT := Lib.hid (fun (y B : List Int) (hy : okO ls.length y) (hB : okO ls.length B) => btO_U least h2 (a := y) (b := B) (ls := ls) (by rw [he]; exact hy.2) (by rw [he]; exact hB.2))
    have HH1 := Lib.hid h1
    have HH2 := Lib.hid h2
    have HE := Lib.hid he
    have HCH := Lib.hid hch
    have HOK := Lib.hid hok
    rw [HR.out]
    obtain ⟨RES, hRES⟩ : ∃ R, R = rrL ls ss least ls.length [] := ⟨_, rfl⟩
    rw [← hRES] at HRES ⊢
    have HTM := Lib.hid (fun (oa : Option Addr) (oc : Nat) (gs : Nat) (ord : List Int) (w : World) (hL : Rd w la ls) hS hO (ho : okO ls.length ord) => orderTime_any la (some ⟨gs, 0, none⟩) oa lc ls.length oc ls ss ord w hL hS hO h1 h2 hs6 he ho.1 (by rw [he]; exact ho.2))
    have HSW := Lib.hid (fun w h => by have := slowness_any sa sc ss w h h2 hs6; rw [he] at this; exact this)
    have hlI : (ls.length : Int) ≤ 6 := by omega
    rw [he]
    clear hg h1 h2 hch hok hRES hp HR he hs
    go_enter Try.func36, Try.ntmps36
    go_wp2_with fail
    refine HA.out.mono ?_; rw [HG.out]; rintro e w0 ⟨rfl, rfl⟩
    go_wp2_with fail
    refine (HSW.out _ hS).mono ?_; rintro e w1 ⟨gs, rfl, hO1, hb1⟩
    have hgs := hO1.lt gs rfl
    have HO1 := Lib.hid hO1
    have HB1 := Lib.hid hb1
    have z1 := hb1.size
    clear hO1 hb1
    go_wp2_with fail
    refine (firstIndices_any ls.length w1 hl).mono ?_; rintro e w2 ⟨rfl, hO2, hb2⟩
    rw [idL_rl] at hO2
    have z2 := (hO2.lt _ rfl).2
    have HO2 := Lib.hid hO2
    have HB2 := Lib.hid hb2
    have hidl : (idL ls.length).length = ls.length := by simp [idL]
    have hcl := Try.slices_Clone_int w1.heap.size 0 ls.length ls.length (idL ls.length) w2 (by omega) (by omega) (fun j hj => by
      rw [Nat.zero_add, hO2.cellAt j (by omega), List.getElem?_map, List.getElem?_eq_getElem hj]
      simp [List.getD, List.getElem?_eq_getElem hj])
    rw [show (idL ls.length).take ls.length = idL ls.length from List.take_of_length_le (Nat.le_of_eq hidl)] at hcl
    have HCL := Lib.hid hcl
    clear hO2 hb2 hcl
    go_wp2_with fail
    refine HCL.out.mono ?_; rintro e w3 ⟨vb, rfl, hO3, hvn, hb3⟩
    obtain ⟨gb, cbb, rfl⟩ : ∃ gb c, vb = .slice (some ⟨gb, 0, none⟩) ls.length c := by
      rcases hO3.2 with ⟨q, _⟩ | ⟨g', c', cur, q, _⟩
      · exact absurd q hvn
      · exact ⟨g', c', q⟩
    have hgb := hO3.lt gb rfl
    have HO3 := Lib.hid hO3
    have HB3 := Lib.hid hb3
    have z3 := hb3.size
    clear hO3 hb3 hvn
    have HW3 := Lib.hid (HB1.out.trans ((HB2.out.trans (HB3.out.mono (by have := HB2.out.size; omega))).mono HB1.out.size))
    have HO23 := Lib.hid (rowB HO2.out HB3.out)
    have HO13 := Lib.hid (rowB (rowB HO1.out HB2.out) HB3.out)
    go_wp2_with fail
    refine (HTM.out _ _ gs (idL ls.length) w3 (hL.below HW3.out) (own_rd1 HO13.out (by rw [slL_len]; exact HE.out)) (own_rd1 HO23.out hidl) (HOK.out _ (List.mem_cons_self ..))).mono ?_; rintro e w4 ⟨rfl, hb4⟩
    have HO34 := Lib.hid (rowB HO3.out hb4)
    have HO24 := Lib.hid (rowB HO23.out hb4)
    have HO14 := Lib.hid (rowB HO13.out hb4)
    have HW4 := Lib.hid (HW3.out.trans (hb4.mono HW3.out.size))
    clear hb4
    go_wp2_with fail
    go_loopg [11] r0.length (fun k v11 wr => ∃ (x : List Int) (r : List (List Int)) (B : List Int), v11 = .int .i64 (tmU ls (slL ss) B ls.length) ∧ r.length = k ∧ Hid (chN (x :: r) = true) ∧ Hid (∀ y ∈ x :: r, okO ls.length y) ∧ Hid (okO ls.length B) ∧ Hid (fbL (fun x y => btO ls ss x y least) B r = RES) ∧ wr.ownsRow w1.heap.size 3 1 (.slice (some ⟨w1.heap.size, 0, none⟩) ls.length ls.length) ls.length (x.map (Value.int .i64)) ∧ wr.ownsRow w2.heap.size 3 1 (.slice (some ⟨gb, 0, none⟩) ls.length cbb) ls.length (B.map (Value.int .i64)) ∧ wr.ownsRow w.heap.size 3 1 (.slice (some ⟨gs, 0, none⟩) ls.length ls.length) ls.length ((slL ss).map (Value.int .i64)) ∧ Below w.heap.size w wr)
    case atStart => exact ⟨idL ls.length, r0, idL ls.length, rfl, rfl, HCH.out, HOK.out, HOK.out _ (List.mem_cons_self ..), HRES.out, HO24.out, HO34.out, HO14.out, HW4.out⟩
    case round =>
      obtain ⟨x, r, B, rfl, hrk, hch, hok, hokB, hres, ho, hb, hsl, hbel⟩ := hrel
      have hx := hok.out x (List.mem_cons_self ..)
      have hxl := hx.1
      have HNX := Lib.hid (nextOrder_any w1.heap.size w1.heap.size ls.length x wr ho hxl n1 n6)
      have HOb := Lib.hid hb
      have HOs := Lib.hid hsl
      have HBl := Lib.hid hbel
      clear ho hb hsl hbel hx
      rcases r with _ | ⟨y, r⟩
      · have e0 := chain_end hch.out
        rw [e0] at HNX
        have e1 : B = RES := hres.out
        have HNX2 := Lib.hid HNX
        subst e1
        have hBl := hokB.out.1
        clear e0 HNX hres hch hok
        go_wp2_with fail
        refine HNX2.out.out.mono ?_; rintro e w5 ⟨rfl, ho5, hg5⟩
        have hb5 := HOb.out.kept hg5 (.inr (by simp [Value.ownBlock]; omega))
        have hB5 := HBl.out.grown hg5 HBl.out.size (fun k hk => by cases hk; omega)
        have HF := Lib.hid (And.intro hb5 hB5)
        clear hb5 hB5 hg5 ho5
        go_wp2_with fail
        go_ret2
        exact ⟨some ⟨gb, 0, none⟩, cbb, by rw [hBl]; rfl, by unfold Own; rw [hBl]; exact row_base HF.out.1 (by omega), HF.out.2⟩
      · obtain ⟨e0, e1, e2⟩ := chain_next hch.out
        rw [e0, e1] at HNX
        have HNX2 := Lib.hid HNX
        have hy := hok.out y (List.mem_cons_of_mem _ (List.mem_cons_self ..))
        have HE2 := Lib.hid e2
        have hok2 := Lib.hid (fun z hz => hok.out z (List.mem_cons_of_mem _ hz) : ∀ z ∈ y :: r, okO ls.length z)
        have hbt := HBT.out y B hy hokB.out
        have hBn : B.length ≠ 0 := by have := hokB.out.1; omega
        have HSTEP := Lib.hid (show fbL (fun x y => btO ls ss x y least) (fbS (fun x y => btO ls ss x y least) B y) r = RES from hres.out)
        have HY := Lib.hid hy
        clear e0 e1 e2 HNX hres hch hok hy
        obtain ⟨k', rfl⟩ : ∃ k', gk = k' + 1 := ⟨r.length, by simpa using hrk.symm⟩
        have hrk2 : r.length = k' := by simpa using hrk
        clear hrk
        go_wp2_with fail
        refine HNX2.out.out.mono ?_; rintro e w5 ⟨rfl, ho5, hg5⟩
        have HO5 := Lib.hid ho5
        have HB5 := Lib.hid (HBl.out.grown hg5 HBl.out.size (fun k hk => by cases hk; omega))
        have HOb5 := Lib.hid (HOb.out.kept hg5 (.inr (by simp [Value.ownBlock]; omega)))
        have HOs5 := Lib.hid (HOs.out.kept hg5 (.inr (by simp [Value.ownBlock]; omega)))
        clear ho5 hg5
        go_wp2_with fail
        refine (HTM.out _ _ gs y w5 (hL.below HB5.out) (own_rd1 HOs5.out (by rw [slL_len]; exact HE.out)) (own_rd1 HO5.out HY.out.1) HY.out).mono ?_; rintro e w6 ⟨rfl, hb6⟩
        have HO6 := Lib.hid (rowB HO5.out hb6)
        have HOb6 := Lib.hid (rowB HOb5.out hb6)
        have HOs6 := Lib.hid (rowB HOs5.out hb6)
        have HB6 := Lib.hid (HB5.out.trans (hb6.mono HB5.out.size))
        clear hb6
        go_wp2_with fail
        have HCC := HC.out (tmU ls (slL ss) y ls.length) (tmU ls (slL ss) B ls.length) w6
        rw [← hbt] at HCC
        cases hbb : btO ls ss y B least
        · rw [hbb] at HCC
          have HCC2 := Lib.hid HCC
          have HST := Lib.hid (show fbL (fun x y => btO ls ss x y least) B r = RES by have := HSTEP.out; unfold fbS at this; rw [if_neg (by rintro (q | q); exact hBn q; exact absurd (show btO ls ss y B least = true from q) (by rw [hbb]; decide))] at this; exact this)
          clear hbb hbt HCC HSTEP
          (first | (go_at_fn F; refine HCC2.out.mono ?_) | (refine HCC2.out.mono ?_)); rintro e w7 ⟨rfl, rfl⟩
          go_wp2_with fail
          go_roundg k'
          case rel => exact ⟨y, r, B, rfl, hrk2, HE2.out, hok2.out, hokB.out, HST.out, HO6.out, HOb6.out, HOs6.out, HB6.out⟩
          case measure => omega
        · rw [hbb] at HCC
          have HCC2 := Lib.hid HCC
          have HST := Lib.hid (show fbL (fun x y => btO ls ss x y least) y r = RES by have := HSTEP.out; unfold fbS at this; rw [if_pos (.inr hbb)] at this; exact this)
          clear hbb hbt HCC HSTEP
          obtain ⟨cur, hcu, hcb, hcn, hcm, hcs⟩ := row_parts HOb6.out
          have hsrc : ∀ (j : Nat) (v : Value), (y.map (Value.int .i64))[j]? = some v → w6.cell? ((⟨w1.heap.size, 0, none⟩ : Addr).add j) = some v := HO6.out.cells rfl
          have hyl := HY.out.1
          (first | (go_at_fn F; refine HCC2.out.mono ?_) | (refine HCC2.out.mono ?_)); rintro e w7 ⟨rfl, rfl⟩
          go_wp2_with (first | (refine wpList_copy_splice rfl _ _ _ _ rfl 3 Try.underlying34 (by kernel_rfl) _ _ ls.length cbb ls.length ls.length rfl rfl gb 0 cur.toList 3 (by simpa using hcu) (y.map (Value.int .i64)) (by simp [hyl]) (fun _ => ⟨rfl, _, rfl, hsrc⟩) (by simp [hyl, hcs]; omega) (fun v hv => by obtain ⟨q, _, rfl⟩ := List.mem_map.1 hv; rfl) gb w6 (Below.refl _ _) (Nat.le_refl _) ?_; intro w8 hw8 hb8))
          have hOb7 := own_splice hw8.out hcb hcn hcm hcs (by simp [hyl])
          have hO7 := own_low HO6.out hb8 (by omega)
          have hOs7 := own_low HOs6.out hb8 (by omega)
          have hB7 := HB6.out.trans (hb8.mono (by have := HB2.out.size; omega))
          go_roundg k'
          case rel => exact ⟨y, r, y, rfl, hrk2, HE2.out, hok2.out, HY.out, HST.out, hO7, hOb7, hOs7, hB7⟩
          case measure => omega
set_option maxHeartbeats 1000000 in
theorem best1_any (x y : Int) (W : World) :
    Calls Try.prog 37 #[.int .i64 x, .int .i64 y] W fun e w' => e = .returned (.bool (if true then decide (x < y) else decide (y < x))) ∧ W = w' := by
  rw [if_pos rfl]
  go_enter Try.func37, Try.ntmps37
  go_wp2_with fail
  go_ret
  exact ⟨rfl, rfl⟩
theorem implBestRunners (la sa : Option Addr) (lc sc : Nat) (ls ss : List Int) (w : World) (hL : Rd w la ls) (hS : Rd w sa ss) (hl : ls.length ≤ 1048576) (hs : ss.length ≤ 1048576) :
    Calls Try.prog 18 #[.slice la ls.length lc, .slice sa ss.length sc] w (RetS w (rrA ls ss true) (tmG ls ss)) := by
  have H := Lib.hid (firstOrder_any 37 #[] true la sa lc sc ls ss w hL hS hl hs (enters_of Try.func37 (by kernel_rfl) rfl) (fun x y W => best1_any x y W))
  go_enter Try.func18, Try.ntmps18
  go_wp2_with fail
  refine H.out.mono ?_; rintro e w1 ⟨a, c, rfl, ho, hb⟩
  have HX := Lib.hid (And.intro ho hb)
  clear ho hb
  go_wp2_with fail
  go_ret2
  exact ⟨a, c, rfl, HX.out.1, HX.out.2⟩
set_option maxHeartbeats 1000000 in
theorem worst1_any (x y : Int) (W : World) :
    Calls Try.prog 38 #[.int .i64 x, .int .i64 y] W fun e w' => e = .returned (.bool (if false then decide (x < y) else decide (y < x))) ∧ W = w' := by
  rw [if_neg (by decide)]
  go_enter Try.func38, Try.ntmps38
  go_wp2_with fail
  go_ret
  exact ⟨rfl, rfl⟩
theorem implWorstRunners (la sa : Option Addr) (lc sc : Nat) (ls ss : List Int) (w : World) (hL : Rd w la ls) (hS : Rd w sa ss) (hl : ls.length ≤ 1048576) (hs : ss.length ≤ 1048576) :
    Calls Try.prog 23 #[.slice la ls.length lc, .slice sa ss.length sc] w (RetS w (rrA ls ss false) (tmG ls ss)) := by
  have H := Lib.hid (firstOrder_any 38 #[] false la sa lc sc ls ss w hL hS hl hs (enters_of Try.func38 (by kernel_rfl) rfl) (fun x y W => worst1_any x y W))
  go_enter Try.func23, Try.ntmps23
  go_wp2_with fail
  refine H.out.mono ?_; rintro e w1 ⟨a, c, rfl, ho, hb⟩
  have HX := Lib.hid (And.intro ho hb)
  clear ho hb
  go_wp2_with fail
  go_ret2
  exact ⟨a, c, rfl, HX.out.1, HX.out.2⟩
end Go.Proofs.Ytlfjgggidoakaaa
