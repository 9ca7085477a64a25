/- MostInSiding of chapter 5: the model's side. -/
import Derived.Test.YtolgpjlliaoneaaTrnList
import Derived.Test.YtolgpjlliaoneaaPut
namespace Go.Proofs.Ytolgpjlliaoneaa
open Go.RowKit
set_option linter.unusedVariables false
set_option linter.unusedSimpArgs false
/-- is number j a better one than the best so far -/
def btB (xs : List (Int × Int)) (b : Int) (j : Nat) : Bool := decide (b < 0) || decide (px xs j < px xs b.toNat)
/-- the shortest of the first ones that is not yet taken, or -1 -/
def bst (xs : List (Int × Int)) (out : List Int) : Nat → Int
  | 0 => -1
  | j + 1 => if (!out.contains (j : Int) && btB xs (bst xs out j) j) = true then (j : Int) else bst xs out j
theorem bst_bd (xs : List (Int × Int)) (out : List Int) : ∀ j, -1 ≤ bst xs out j ∧ bst xs out j < (j : Int)
  | 0 => by simp [bst]
  | j + 1 => by
    have := bst_bd xs out j
    unfold bst
    split <;> omega
theorem bst_new (xs : List (Int × Int)) (out : List Int) : ∀ j, 0 ≤ bst xs out j → out.contains (bst xs out j) = false
  | 0, h => by simp [bst] at h
  | j + 1, h => by
    unfold bst at h ⊢
    split
    · rename_i q
      rw [Bool.and_eq_true] at q
      simpa using q.1
    · rename_i q
      rw [if_neg q] at h
      exact bst_new xs out j h
/-- what is taken, one after the other -/
def msF (xs : List (Int × Int)) : Nat → List Int → Int → List Int
  | 0, out, _ => out
  | k + 1, out, s => if bst xs out xs.length < 0 ∨ s < px xs (bst xs out xs.length).toNat then out else msF xs k (putI out (bst xs out xs.length)) (s - px xs (bst xs out xs.length).toNat)
/-- how many are not yet taken -/
def nin (out : List Int) : Nat → Nat
  | 0 => 0
  | j + 1 => nin out j + (if out.contains (j : Int) then 0 else 1)
theorem put_mem (out : List Int) (b x : Int) : (putI out b).contains x = (out.contains x || decide (x = b)) := by
  rw [Bool.eq_iff_iff]
  simp only [List.contains_iff_mem, Bool.or_eq_true, decide_eq_true_eq]
  unfold putI
  have h : x ∈ out ↔ x ∈ out.take (lowI out b) ∨ x ∈ out.drop (lowI out b) := by
    rw [← List.mem_append, List.take_append_drop]
  rw [h]
  simp only [List.mem_append, List.mem_singleton]
  constructor
  · rintro ((h | h) | h)
    · exact .inl (.inl h)
    · exact .inr h
    · exact .inl (.inr h)
  · rintro ((h | h) | h)
    · exact .inl (.inl h)
    · exact .inr h
    · exact .inl (.inr h)
theorem nin_le (out : List Int) (b : Int) : ∀ j, nin (putI out b) j ≤ nin out j
  | 0 => Nat.le_refl _
  | j + 1 => by
    have := nin_le out b j
    unfold nin
    rw [put_mem]
    cases out.contains (j : Int) <;> simp <;> (try split) <;> omega
theorem nin_lt (out : List Int) (b : Nat) (hb : out.contains (b : Int) = false) : ∀ j, b < j → nin (putI out b) j < nin out j
  | 0, h => absurd h (by omega)
  | j + 1, h => by
    unfold nin
    rw [put_mem]
    by_cases e : b = j
    · subst e
      have := nin_le out b b
      rw [hb]; simp; omega
    · have := nin_lt out b hb j (by omega)
      cases out.contains (j : Int) <;> simp <;> (try split) <;> omega
theorem put_no {out : List Int} {v : Int} (h : out.contains v = false) : putB out v = false := by
  cases hp : putB out v
  · rfl
  · exfalso
    unfold putB at hp
    rw [Bool.and_eq_true, decide_eq_true_eq, decide_eq_true_eq] at hp
    have : v ∈ out := by
      have e := hp.2
      rw [List.getD, List.getElem?_eq_getElem hp.1] at e
      simp at e
      rw [← e]; exact List.getElem_mem hp.1
    rw [← List.contains_iff_mem] at this
    rw [this] at h; cases h
theorem put_len (out : List Int) (v : Int) : (putI out v).length = out.length + 1 := by
  have h : (out.take (lowI out v)).length + (out.drop (lowI out v)).length = out.length := by rw [← List.length_append, List.take_append_drop]
  unfold putI
  simp only [List.length_append, List.length_singleton]
  omega
theorem nin_nil : ∀ j, nin [] j = j
  | 0 => rfl
  | j + 1 => by unfold nin; rw [nin_nil j]; simp
/-- a slice of the call's own, as l1Put takes it -/
def OwZ (w : World) (base : Nat) (a : Option Addr) (cap : Nat) (xs : List Int) : Prop :=
  (a = none ∧ cap = 0 ∧ xs = []) ∨ ∃ g, a = some ⟨g, 0, none⟩ ∧ base ≤ g ∧ xs.length ≤ cap ∧ w.ownsRow base 3 1 (.slice a xs.length cap) xs.length (xs.map (Value.int .i64))
theorem OwZ.below {w w' : World} {base : Nat} {a : Option Addr} {cap : Nat} {xs : List Int} (h : OwZ w base a cap xs) (hb : Below w.heap.size w w') : OwZ w' base a cap xs := by
  rcases h with h | ⟨g, e, hg, hc, ho⟩
  · exact .inl h
  · exact .inr ⟨g, e, hg, hc, rowB ho hb⟩
theorem OwZ.rd {w : World} {base : Nat} {a : Option Addr} {cap : Nat} {xs : List Int} (h : OwZ w base a cap xs) : Rd w a xs := by
  rcases h with ⟨_, _, h⟩ | ⟨g, e, hg, hc, ho⟩
  · exact .inl h
  · exact Own.rd (base := base) (cap := cap) ho
theorem OwZ.own {w : World} {base : Nat} {a : Option Addr} {cap : Nat} {xs : List Int} (h : OwZ w base a cap xs) : Own w base a cap xs := by
  rcases h with ⟨rfl, rfl, rfl⟩ | ⟨g, e, hg, hc, ho⟩
  · exact ⟨rfl, .inl ⟨rfl, rfl⟩⟩
  · exact ho
/-- l1Put at either -/
theorem l1Put_any (a : Option Addr) (cap base : Nat) (xs : List Int) (v : Int) (w : World) (h : OwZ w base a cap xs) (hb : base ≤ w.heap.size) (hv : xs.contains v = false) (h63 : xs.length ≤ 1000000) :
    Calls Try.prog 59 #[.slice a xs.length cap, .int .i64 v] w fun e w' => ∃ a2 c2, e = .returned (.slice a2 (putI xs v).length c2) ∧ Below w.heap.size w w' ∧ OwZ w' base a2 c2 (putI xs v) := by
  rcases h with ⟨rfl, rfl, rfl⟩ | ⟨g, rfl, hg, hc, ho⟩
  · refine (l1Put_none v w).mono ?_
    rintro e w' ⟨a2, c2, rfl, hbl, hO⟩
    obtain ⟨g, rfl, h1, h2, h3⟩ := row_someP hO (by omega)
    exact ⟨_, _, rfl, hbl, .inr ⟨g, rfl, by omega, h3, row_base hO hb⟩⟩
  · have hlt := (ho.lt g rfl).2
    refine (l1Put_some g 0 cap xs.length xs v w rfl hc h63 hlt (fun i hi => by
      rw [Nat.zero_add, ho.cellAt i (by omega), List.getElem?_map, List.getElem?_eq_getElem hi]
      simp [List.getD, List.getElem?_eq_getElem hi])).mono ?_
    rintro e w' ⟨a2, m, c2, rfl, hbl, hr⟩
    rcases hr with ⟨q, _⟩ | ⟨_, rfl, hO⟩
    · rw [put_no hv] at q; cases q
    · obtain ⟨g2, rfl, h1, h2, h3⟩ := row_someP hO (by omega)
      exact ⟨_, _, by rw [put_len], hbl, .inr ⟨g2, rfl, by omega, by rw [put_len]; exact h3, by rw [put_len]; exact row_base hO hb⟩⟩
def msR (xs : List (Int × Int)) (n : Int) : List Int := if tnS xs n then msF xs (xs.length + 1) [] n else []
theorem bst_yes {xs : List (Int × Int)} {out : List Int} {j : Nat} (h1 : out.contains (j : Int) = false) (h2 : btB xs (bst xs out j) j = true) : bst xs out (j + 1) = (j : Int) := by
  unfold bst; rw [h1, h2]; rfl
theorem bst_no {xs : List (Int × Int)} {out : List Int} {j : Nat} (h : out.contains (j : Int) = true ∨ btB xs (bst xs out j) j = false) : bst xs out (j + 1) = bst xs out j := by
  conv => lhs; unfold bst
  rcases h with h | h <;> rw [h] <;> simp
set_option maxHeartbeats 8000000 in
set_option maxRecDepth 100000 in
theorem specMostInSiding (a : Option Addr) (cap : Nat) (xs : List (Int × Int)) (n : Int) (w : World) (h : RdP w a xs) (hn : xs.length ≤ 1048576) :
    Calls Try.prog 23 #[.slice a xs.length cap, .int .i64 n] w fun e w' => ∃ a2 c2, e = .returned (.tuple #[.slice a2 (msR xs n).length c2, .bool (tnS xs n)]) ∧ Own w' w.heap.size a2 c2 (msR xs n) ∧ Below w.heap.size w w' := by
  cases hs : tnS xs n
  · have HS := Lib.hid hs
    have HR := Lib.hid (show msR xs n = [] from by unfold msR; rw [hs]; rfl)
    clear hs
    go_enter Try.func23, Try.ntmps23
    go_wp2_with fail
    refine (tiList_any a cap xs n _ h hn).mono ?_; rw [HS.out]; rintro e w1 ⟨rfl, hb⟩
    go_wp2_with fail
    go_ret2
    rw [HR.out]
    exact ⟨none, 0, rfl, OwZ.own (.inl ⟨rfl, rfl, rfl⟩), hb⟩
  · have t := tnS_at hs
    have HS := Lib.hid hs
    have HT := Lib.hid t.2.2.2.2
    have hl := t.2.1
    have hn0 := t.2.2.1
    have hn1 := t.2.2.2.1
    have HR := Lib.hid (show msR xs n = msF xs (xs.length + 1) [] n from by unfold msR; rw [hs]; rfl)
    clear hs t
    go_enter Try.func23, Try.ntmps23
    go_wp2_with fail
    refine (tiList_any a cap xs n _ h hn).mono ?_; rw [HS.out]; rintro e w1 ⟨rfl, hb1⟩
    go_wp2_with fail
    go_loopg [1, 6] (xs.length + 1) (fun k v1 v6 wr => ∃ (s : Int) (out : List Int) (ao : Option Addr) (co : Nat), v1 = .int .i64 s ∧ v6 = .slice ao out.length co ∧ 0 ≤ s ∧ s ≤ 100000 ∧ nin out xs.length < k ∧ out.length + k ≤ xs.length + 1 ∧ OwZ wr w.heap.size ao co out ∧ Hid (msF xs k out s = msF xs (xs.length + 1) [] n) ∧ Below w.heap.size w wr)
    case atStart => exact ⟨n, [], none, 0, rfl, rfl, hn0, hn1, by rw [nin_nil]; omega, by simp, .inl ⟨rfl, rfl, rfl⟩, rfl, hb1⟩
    case round =>
      clear hb1
      obtain ⟨s, out, ao, co, rfl, rfl, s0, s1, hnin, hlen, how, hms, hbel⟩ := hrel
      obtain ⟨wo, rfl⟩ : ∃ x, x = wr := ⟨_, rfl⟩
      obtain ⟨OG, rfl⟩ : ∃ x, gk = x + 1 := ⟨gk - 1, by omega⟩
      have HB := Lib.hid hbel
      have HM := Lib.hid hms.out
      have HO := Lib.hid how
      have hwz := hbel.size
      have hrd := how.rd
      have hxo := h.below hbel
      clear hbel hms how
      go_wp2_with fail
      go_loopg [7, 16] xs.length (fun f v7 v16 wi => ∃ (j : Nat), v7 = .int .i64 (bst xs out j) ∧ v16 = .int .i64 (j : Int) ∧ j + f = xs.length ∧ Below wo.heap.size wo wi)
      case atStart => exact ⟨0, rfl, rfl, by omega, Below.refl _ _⟩
      case round =>
        obtain ⟨j, rfl, rfl, hj1, hbi⟩ := hrel
        have bb := bst_bd xs out j
        by_cases hj : j < xs.length
        · rcases hxo with hxo | ⟨b, off, rfl, hlt, hc⟩
          · rw [hxo] at hj; exact absurd hj (Nat.not_lt_zero _)
          · have hcj : wr.cell? ⟨b, off + j * 2, none⟩ = some (.int .i64 (px xs j)) := by rw [(bcell hbi).1 b _ hlt]; exact (hc j hj).1
            have hck : wr.cell? ⟨b, off + j * 2 + 1, none⟩ = some (.int .i64 (py xs j)) := by rw [(bcell hbi).1 b _ hlt]; exact (hc j hj).2
            have hjI : (j : Int) < (xs.length : Int) := by omega
            have HBi := Lib.hid hbi
            have hsz := hbi.size
            have hblt : b < wr.heap.size := by omega
            have hrdi := hrd.below hbi
            have HH := Lib.hid (fun (wz : World) (hz : Below wr.heap.size wr wz) => (l1Has_any ao co out (j : Int) wz (hrdi.below hz) (by omega)).mono fun _ _ q => (⟨q.1, q.2.symm⟩ : _ ∧ _))
            obtain ⟨bj, hbj⟩ : ∃ x, bst xs out j = x := ⟨_, rfl⟩
            rw [hbj] at bb
            cases c1 : out.contains (j : Int)
            · rw [c1] at HH
              by_cases c2 : bj < 0
              · have hv := Lib.hid (bst_yes (xs := xs) c1 (by rw [hbj]; unfold btB; rw [decide_eq_true c2]; rfl))
                have HBJ := Lib.hid hbj
                have c2d : decide (bj < 0) = true := decide_eq_true c2
                rw [hbj]
                clear hbj hrdi hbi hc c1
                go_wp2_with fail
                go_quiet (first | (go_at_call 58; exact Calls.quiet_of_same (HH.out _ (by (repeat (first | exact Below.refl _ _ | refine Below.drew ?_ | refine below_drewN ?_ _ | refine Below.alloc ?_ (by first | omega | (simp; done) | (simp; omega)) _))))))
                go_wp2_with fail
                go_roundg (gk - 1)
                case rel => exact ⟨j + 1, by rw [hv.out], by go_num, by omega, by (repeat (first | exact HBi.out | refine Below.drew ?_ | refine below_drewN ?_ _ | refine Below.alloc ?_ (by first | omega | (simp; done) | (simp; omega)) _))⟩
                case measure => omega
              · obtain ⟨B, rfl⟩ := Int.eq_ofNat_of_zero_le (show 0 ≤ bj by omega)
                have hBl : B < xs.length := by omega
                have hcB : wr.cell? ⟨b, off + B * 2, none⟩ = some (.int .i64 (px xs B)) := by rw [(bcell hbi).1 b _ hlt]; exact (hc B hBl).1
                have hBI : (B : Int) < (xs.length : Int) := by omega
                have c2d : decide ((B : Int) < 0) = false := decide_eq_false c2
                cases c3 : decide (px xs j < px xs B)
                · have hv := Lib.hid (bst_no (xs := xs) (out := out) (j := j) (.inr (by rw [hbj]; unfold btB; rw [c2d, Int.toNat_natCast, c3]; rfl)))
                  have HBJ := Lib.hid hbj
                  rw [hbj]
                  generalize px xs j = pj at *
                  generalize px xs B = pB at *
                  clear hbj hrdi hbi hc c1
                  go_wp2_with fail
                  go_quiet (first | (go_at_call 58; exact Calls.quiet_of_same (HH.out _ (by (repeat (first | exact Below.refl _ _ | refine Below.drew ?_ | refine below_drewN ?_ _ | refine Below.alloc ?_ (by first | omega | (simp; done) | (simp; omega)) _))))))
                  go_wp2_with fail
                  go_roundg (gk - 1)
                  case rel => exact ⟨j + 1, by rw [hv.out, HBJ.out], by go_num, by omega, by (repeat (first | exact HBi.out | refine Below.drew ?_ | refine below_drewN ?_ _ | refine Below.alloc ?_ (by first | omega | (simp; done) | (simp; omega)) _))⟩
                  case measure => omega
                · have hv := Lib.hid (bst_yes (xs := xs) c1 (by rw [hbj]; unfold btB; rw [c2d, Int.toNat_natCast, c3]; rfl))
                  have HBJ := Lib.hid hbj
                  rw [hbj]
                  generalize px xs j = pj at *
                  generalize px xs B = pB at *
                  clear hbj hrdi hbi hc c1
                  go_wp2_with fail
                  go_quiet (first | (go_at_call 58; exact Calls.quiet_of_same (HH.out _ (by (repeat (first | exact Below.refl _ _ | refine Below.drew ?_ | refine below_drewN ?_ _ | refine Below.alloc ?_ (by first | omega | (simp; done) | (simp; omega)) _))))))
                  go_wp2_with fail
                  go_roundg (gk - 1)
                  case rel => exact ⟨j + 1, by rw [hv.out], by go_num, by omega, by (repeat (first | exact HBi.out | refine Below.drew ?_ | refine below_drewN ?_ _ | refine Below.alloc ?_ (by first | omega | (simp; done) | (simp; omega)) _))⟩
                  case measure => omega
            · rw [c1] at HH
              have hv := Lib.hid (bst_no (xs := xs) (out := out) (j := j) (.inl c1))
              have HBJ := Lib.hid hbj
              rw [hbj]
              clear hbj hrdi hbi hc c1
              go_wp2_with fail
              go_quiet (first | (go_at_call 58; exact Calls.quiet_of_same (HH.out _ (by (repeat (first | exact Below.refl _ _ | refine Below.drew ?_ | refine below_drewN ?_ _ | refine Below.alloc ?_ (by first | omega | (simp; done) | (simp; omega)) _))))))
              go_wp2_with fail
              go_roundg (gk - 1)
              case rel => exact ⟨j + 1, by rw [hv.out, HBJ.out], by go_num, by omega, by (repeat (first | exact HBi.out | refine Below.drew ?_ | refine below_drewN ?_ _ | refine Below.alloc ?_ (by first | omega | (simp; done) | (simp; omega)) _))⟩
              case measure => omega
        · obtain rfl : j = xs.length := by omega
          have hnew := bst_new xs out xs.length
          obtain ⟨bj, hbj⟩ : ∃ x, bst xs out xs.length = x := ⟨_, rfl⟩
          have hu : msF xs (OG + 1) out s = if bj < 0 ∨ s < px xs bj.toNat then out else msF xs OG (putI out bj) (s - px xs bj.toNat) := by rw [← hbj]; rfl
          rw [hbj] at bb hnew
          rw [hbj]
          by_cases c2 : bj < 0
          · have hR := Lib.hid (HR.out.trans (HM.out.symm.trans (hu.trans (if_pos (.inl c2)))))
            have HB2 := Lib.hid (HB.out.trans (hbi.mono hwz))
            have HO2 := Lib.hid (HO.out.below hbi)
            clear hu hnew hbj hbi
            go_wp2_with fail
            go_ret2
            rw [hR.out]
            exact ⟨_, _, rfl, OwZ.own HO2.out, HB2.out⟩
          · obtain ⟨B, rfl⟩ := Int.eq_ofNat_of_zero_le (show 0 ≤ bj by omega)
            have hBl : B < xs.length := by omega
            have hnw := hnew (by omega)
            rw [Int.toNat_natCast] at hu
            rcases hxo with hxo | ⟨b, off, rfl, hlt, hc⟩
            · rw [hxo] at hBl; exact absurd hBl (Nat.not_lt_zero _)
            · have hcB : wr.cell? ⟨b, off + B * 2, none⟩ = some (.int .i64 (px xs B)) := by rw [(bcell hbi).1 b _ hlt]; exact (hc B hBl).1
              have hBI : (B : Int) < (xs.length : Int) := by omega
              have c2n : ¬ ((B : Int) < 0) := c2
              have hpB := (tnOk_iff.1 (HT.out B hBl)).1
              have hpB2 := (tnOk_iff.1 (HT.out B hBl)).2.1
              have HB2 := Lib.hid (HB.out.trans (hbi.mono hwz))
              have HO2 := Lib.hid (HO.out.below hbi)
              have hw2 := hbi.size
              have hnlt := nin_lt out B hnw xs.length hBl
              by_cases c3 : s < px xs B
              · have hR := Lib.hid (HR.out.trans (HM.out.symm.trans (hu.trans (if_pos (.inr c3)))))
                clear hu hnew hbj hbi hc
                generalize px xs B = pB at *
                go_wp2_with fail
                go_ret2
                rw [hR.out]
                exact ⟨_, _, rfl, OwZ.own HO2.out, HB2.out⟩
              · have hR := Lib.hid (hu.trans (if_neg (by omega)))
                have hPut := Lib.hid (fun (wz : World) (hz : Below wr.heap.size wr wz) => l1Put_any ao co w.heap.size out (B : Int) wz (HO2.out.below hz) (by have := hz.size; omega) hnw (by omega))
                have hpl := put_len out (B : Int)
                clear hu hnew hbj hbi hc
                generalize px xs B = pB at *
                go_wp2_with fail
                refine (hPut.out _ (by (repeat (first | exact Below.refl _ _ | refine Below.drew ?_ | refine below_drewN ?_ _)))).mono ?_
                rintro e w5 ⟨a5, c5, rfl, hb5, ho5⟩
                have HB5 := Lib.hid (HB2.out.trans ((by first | exact hb5 | exact below_drewN hb5 _ | exact hb5.drew : Below wr.heap.size wr _).mono (by omega)))
                have HO5 := Lib.hid ho5
                clear hb5 ho5 hPut
                go_wp2_with fail
                go_roundg OG
                case rel => exact ⟨s - pB, putI out (B : Int), a5, c5, by go_num, (by first | rfl | rw [hpl]), by omega, by omega, by omega, by rw [hpl]; omega, HO5.out, hR.out.symm.trans HM.out, HB5.out⟩
                case measure => omega
end Go.Proofs.Ytolgpjlliaoneaa
