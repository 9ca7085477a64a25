/- The mean of equal parts: the model's function by contracts. -/
import Derived.Test.YtjgicbfgbcihoaaLegMean
import Derived.WalkKit
import Derived.WalkSpells
import Derived.WalkLawsBesides
import Derived.Lib.Hide
import Derived.Deep.LoopGhost
import Derived.Deep.QuietTactic
import Derived.Deep.RegionHeld3
import Derived.BigQuiet
namespace Go.Proofs.Ytjgicbfgbcihoaa
open Go.RowKit
set_option linter.unusedVariables false
set_option linter.unusedSimpArgs false
/-- legs of length one -/
def hvs (xs : List Int) : List (Int × Int) := xs.map fun s => (1, s)
theorem hvs_length (xs : List Int) : (hvs xs).length = xs.length := by simp [hvs]
theorem hvs_at {xs : List Int} {i : Nat} (h : i < xs.length) : px (hvs xs) i = 1 ∧ py (hvs xs) i = xs.getD i 0 := by
  unfold px py hvs
  simp [List.getD, List.getElem?_eq_getElem h]
theorem hvs_ok {xs : List Int} (h : spS xs = true) : lgS (hvs xs) = true := by
  have t := spS_at h
  unfold lgS
  rw [Bool.and_eq_true, inB_iff, hvs_length]
  refine ⟨by omega, ?_⟩
  refine allP_of ?_
  intro i hi
  rw [hvs_length] at hi
  rw [(hvs_at hi).1, (hvs_at hi).2, lgOk_iff]
  have := t.2.2 i hi
  omega
theorem cs2_snocH (out : List (Int × Int)) (u v : Int) : cs2 (out ++ [(u, v)]) = cs2 out ++ [.int .i64 u, .int .i64 v] := by
  induction out with
  | nil => rfl
  | cons p t ih => simp [cs2, ih]
theorem hvs_take {xs : List Int} {j : Nat} (h : j < xs.length) : hvs (xs.take (j + 1)) = hvs (xs.take j) ++ [(1, xs.getD j 0)] := by
  unfold hvs
  rw [List.take_add_one, List.getElem?_eq_getElem h, List.map_append]
  congr 1
  simp [List.getD, List.getElem?_eq_getElem h]
theorem cell_two_newH (w : World) (u v : Value) (e : TypeId) : ∀ (j : Nat) (x : Value), [u, v][j]? = some x → (w.alloc (.cells #[u, v] e)).cell? ((⟨w.heap.size, 0, none⟩ : Addr).add j) = some x := by
  intro j x hx
  have ea : (⟨w.heap.size, 0, none⟩ : Addr).add j = ⟨w.heap.size, j, none⟩ := by unfold Addr.add; split <;> simp_all
  rw [ea]
  match j, hx with
  | 0, hx => simp at hx; subst hx; go_simp
  | 1, hx => simp at hx; subst hx; go_simp
  | j + 2, hx => simp at hx
theorem own_formH {w : World} {base e size n : Nat} {v : Value} {xs : List Value} (h : w.ownsRow base e size v n xs) : ∃ a c, v = .slice a n c := by
  rcases h.2 with ⟨rfl, rfl⟩ | ⟨g, c, _, rfl, _⟩
  · exact ⟨_, _, rfl⟩
  · exact ⟨_, _, rfl⟩
set_option maxHeartbeats 4000000 in
theorem specMeanByHalves (a : Option Addr) (cap : Nat) (xs : List Int) (w : World) (h : Rd w a xs) (hn : xs.length ≤ 1048576) :
    Calls Try.prog 30 #[.slice a xs.length cap] w fun e w' => e = .returned (.tuple #[.int .i64 (ifI (spS xs) (lwN (lgL (hvs xs) xs.length * (lgT (hvs xs) xs.length).2) (lgT (hvs xs) xs.length).1)), .int .i64 (ifI (spS xs) (lwD (lgL (hvs xs) xs.length * (lgT (hvs xs) xs.length).2) (lgT (hvs xs) xs.length).1)), .bool (spS xs)]) ∧ Below w.heap.size w w' := by
  cases hs : spS xs
  · have HS := Lib.hid hs
    clear hs
    go_enter Try.func30, Try.ntmps30
    go_wp2_with (first | (go_at_call 58; refine (reSpeeds_any a cap xs _ h hn).mono ?_; rw [HS.out]; rintro e w1 ⟨rfl, rfl⟩))
    go_ret3
    exact ⟨rfl, Below.refl _ _⟩
  · obtain ⟨i0, hi, hz0, hz1, hz2⟩ := info_parts pairInfoG
    have t := spS_at hs
    have HG := Lib.hid (hvs_ok hs)
    have HS := Lib.hid hs
    have hl := t.2.1
    clear hs t
    have HL := Lib.hid (hvs_length xs)
    generalize hPQ : lwN (lgL (hvs xs) xs.length * (lgT (hvs xs) xs.length).2) (lgT (hvs xs) xs.length).1 = P
    generalize hQQ : lwD (lgL (hvs xs) xs.length * (lgT (hvs xs) xs.length).2) (lgT (hvs xs) xs.length).1 = Q
    have HPQ := Lib.hid (And.intro hPQ hQQ)
    clear hPQ hQQ
    go_enter Try.func30, Try.ntmps30
    go_wp2_with (first | (go_at_call 58; refine (reSpeeds_any a cap xs _ h hn).mono ?_; rw [HS.out]; rintro e w1 ⟨rfl, rfl⟩))
    go_loopg [5, 13] xs.length (fun f v4 v14 wr => ∃ (j : Nat) (ao : Option Addr) (co : Nat), v4 = .slice ao j co ∧ v14 = .int .i64 (j : Int) ∧ j + f ≤ xs.length ∧ xs.length ≤ j + f ∧ wr.ownsRow w.heap.size 47 2 (.slice ao j co) j (cs2 (hvs (xs.take j))) ∧ Below w.heap.size w wr)
    case atStart => exact ⟨0, none, 0, rfl, rfl, by omega, by omega, World.ownsRow_nil _ _ _ _, Below.refl _ _⟩
    case round =>
      obtain ⟨j, ao, co, rfl, rfl, g1, g2, hown, hbel⟩ := hrel
      have hsz := hbel.size
      by_cases hj : j < xs.length
      · have h' := h.below hbel
        rcases h' with h' | ⟨b, off, rfl, hlt, hc⟩
        · rw [h'] at hj; exact absurd hj (Nat.not_lt_zero _)
        · have hcj := hc j hj
          have hjI : (j : Int) < (xs.length : Int) := by omega
          have HT := Lib.hid (hvs_take hj)
          clear hc
          generalize xs.getD j 0 = x at *
          have HO := Lib.hid hown
          have HB := Lib.hid hbel
          clear hown hbel
          go_wp2_with (first | (at_builtin; refine wpList_append_own _ rfl _ _ 25 rfl w.heap.size 47 i0 (.agg #[.int .i64 0, .int .i64 0]) 2 16 Try.underlying25 hi hz0 hz1 hz2 rfl (by decide) _ _ _ rfl (HO.out.alloc _) ⟨wr.heap.size, 0, none⟩ 1 1 [.int .i64 1, .int .i64 x] rfl rfl (cell_two_newH _ _ _ _) (fun x hx => by simp at hx; rcases hx with rfl | rfl <;> rfl) (by unfold maxLen; omega) (by omega) (by first | omega | (simp; omega)) ?_; intro v1 w6 hO6 hgrow hx; clear hx; have HO6 := Lib.hid hO6; have HG6 := Lib.hid hgrow; clear hgrow hO6))
          obtain ⟨a4, c4, rfl⟩ := own_formH HO6.out
          have hBa := HB.out.alloc hsz (.cells #[.int .i64 1, .int .i64 x] 47)
          have hB6 := hBa.grown HG6.out hBa.size (fun k hk => (HO.out.lt k hk).1)
          go_roundg (gk - 1)
          case rel => exact ⟨j + 1, a4, c4, rfl, by go_num, by omega, by omega, by rw [HT.out, cs2_snocH]; exact HO6.out, hB6⟩
          case measure => omega
      · obtain rfl : j = xs.length := by omega
        rw [List.take_length] at hown
        have hR : RdP wr ao (hvs xs) := rowP_rd HL.out hown
        have HM := Lib.hid (specMeanSpeed ao co (hvs xs) wr hR (by rw [HL.out]; omega))
        rw [HL.out, HG.out, HPQ.out.1, HPQ.out.2] at HM
        have HB := Lib.hid hbel
        clear hown hbel hR
        go_wp2_with fail
        refine HM.out.mono ?_; rintro e w2 ⟨rfl, hb⟩
        have HB2 := Lib.hid (HB.out.trans (hb.mono HB.out.size))
        clear hb
        go_wp2_with fail
        go_ret3
        exact ⟨rfl, HB2.out⟩
end Go.Proofs.Ytjgicbfgbcihoaa
