/- Puzzles (chapter 9): the model's functions on lists of clues by contracts. -/
import Derived.Test.YtnnokfecjdmjpabTriC
import Derived.Test.YtnnokfecjdmjpabPairsK
import Derived.WalkKit
import Derived.WalkSpells
import Derived.WalkLawsBesides
import Derived.Lib.Hide
import Derived.Deep.LoopGhost
import Derived.Deep.QuietTactic
import Derived.Deep.RegionWith
import Derived.Deep.RegionHeld3
import Derived.BigQuiet
namespace Go.Proofs.Ytnnokfecjdmjpab
open Go.RowKit
set_option linter.unusedVariables false
set_option linter.unusedSimpArgs false
theorem cs2_snocP (out : List (Int × Int)) (u v : Int) : cs2 (out ++ [(u, v)]) = cs2 out ++ [.int .i64 u, .int .i64 v] := by
  induction out with
  | nil => rfl
  | cons p t ih => simp [cs2, ih]
theorem cell_two_newP (w : World) (u v : Value) (e : TypeId) : ∀ (j : Nat) (x : Value), [u, v][j]? = some x → (w.alloc (.cells #[u, v] e)).cell? ((⟨w.heap.size, 0, none⟩ : Addr).add j) = some x := by
  intro j x hx
  have ea : (⟨w.heap.size, 0, none⟩ : Addr).add j = ⟨w.heap.size, j, none⟩ := by unfold Addr.add; split <;> simp_all
  rw [ea]
  match j, hx with
  | 0, hx => simp at hx; subst hx; go_simp
  | 1, hx => simp at hx; subst hx; go_simp
  | j + 2, hx => simp at hx
theorem own_formP {w : World} {base e size n : Nat} {v : Value} {xs : List Value} (h : w.ownsRow base e size v n xs) : ∃ a c, v = .slice a n c := by
  rcases h.2 with ⟨rfl, rfl⟩ | ⟨g, c, _, rfl, _⟩
  · exact ⟨_, _, rfl⟩
  · exact ⟨_, _, rfl⟩
/-- a block of two numbers -/
def Bx2 (w : World) (b : Nat) (x y : Int) : Prop := b < w.heap.size ∧ w.cell? ⟨b, 0, none⟩ = some (.int .i64 x) ∧ w.cell? ⟨b, 1, none⟩ = some (.int .i64 y)
theorem Bx2.below {w w' : World} {b : Nat} {x y : Int} (h : Bx2 w b x y) (hb : Below w.heap.size w w') : Bx2 w' b x y :=
  ⟨Nat.lt_of_lt_of_le h.1 hb.size, by rw [(bcell hb).1 b _ h.1]; exact h.2.1, by rw [(bcell hb).1 b _ h.1]; exact h.2.2⟩
theorem Bx2.new (w : World) (x y : Int) (e : TypeId) : Bx2 (w.alloc (.cells #[.int .i64 x, .int .i64 y] e)) w.heap.size x y := ⟨by simp, by go_simp, by go_simp⟩
set_option maxHeartbeats 2000000 in
theorem pzGood_any (a : Option Addr) (cap : Nat) (xs : List (Int × Int × Int)) (w : World) (h : RdT w a xs) (hn : xs.length ≤ 1048576) :
    Calls Try.prog 19 #[.agg #[.slice a xs.length cap]] w fun e w' => e = .returned (.bool (pzG xs)) ∧ Below w.heap.size w w' := by
  by_cases hb : xs.length ≤ 6
  · have hbI : ¬ (6 < (xs.length : Int)) := by omega
    have HR := Lib.hid (show pzG xs = clA xs by unfold pzG; rw [decide_eq_true hb]; rfl)
    clear hb
    go_enter Try.func19, Try.ntmps19
    go_wp2_with fail
    have HB0 := Lib.hid (show Below w.heap.size w (w.alloc (.cells #[.slice a xs.length cap] 30)) from (Below.refl _ _).alloc (Nat.le_refl _) _)
    go_loopg [12] xs.length (fun k v12 wr => ∃ (j : Nat), v12 = .int .i64 (j : Int) ∧ j + k ≤ xs.length ∧ xs.length ≤ j + k ∧ Hid (∀ i, i < j → clB (tk xs i) (ta xs i) (tb xs i) = true) ∧ Below w.heap.size w wr)
    case atStart => exact ⟨0, rfl, by omega, by omega, fun i hi => absurd hi (Nat.not_lt_zero _), HB0.out⟩
    case round =>
      obtain ⟨j, rfl, h1, h2, hall, hbel⟩ := hrel
      by_cases hj : j < xs.length
      · rcases h with h | ⟨b, off, rfl, hlt, hc⟩
        · rw [h] at hj; exact absurd hj (Nat.not_lt_zero _)
        · have hcj : wr.cell? ⟨b, off + j * 3, none⟩ = some (.int .i64 (tk xs j)) := by rw [(bcell hbel).1 b _ hlt]; exact (hc j hj).1
          have hck : wr.cell? ⟨b, off + j * 3 + 1, none⟩ = some (.int .i64 (ta xs j)) := by rw [(bcell hbel).1 b _ hlt]; exact (hc j hj).2.1
          have hcl : wr.cell? ⟨b, off + j * 3 + 2, none⟩ = some (.int .i64 (tb xs j)) := by rw [(bcell hbel).1 b _ hlt]; exact (hc j hj).2.2
          have hjI : (j : Int) < (xs.length : Int) := by omega
          have HBl := Lib.hid hbel
          have hsz := hbel.size
          clear hbel hc
          cases k1 : clB (tk xs j) (ta xs j) (tb xs j)
          · have HX := Lib.hid (HR.out.trans (clA_no hj k1))
            have H1 := Lib.hid (fun w => k1 ▸ pzClue_any (tk xs j) (ta xs j) (tb xs j) w)
            clear k1
            generalize tk xs j = x at *
            generalize ta xs j = y at *
            generalize tb xs j = z at *
            go_wp2_with (first | (go_at_call 40; refine (H1.out _).mono ?_; rintro e w1 ⟨rfl, hb⟩))
            go_ret
            rw [HX.out]
            exact ⟨rfl, by (repeat (first | assumption | exact HBl.out | exact Below.refl _ _ | refine Below.drew ?_ | refine below_drewN ?_ _ | refine Below.setCell ?_ (by first | omega | (simp; done) | (simp; omega)) _ | refine Below.alloc ?_ (by first | omega | (simp; done) | (simp; omega)) _ | refine bchain ?_ (by assumption) (by first | omega | (simp; done) | (simp; omega))))⟩
          · have hall2 : Hid (∀ i, i < j + 1 → clB (tk xs i) (ta xs i) (tb xs i) = true) := fun i hi => by
              by_cases q : i = j
              · subst q; exact k1
              · exact hall.out i (by omega)
            have H1 := Lib.hid (fun w => k1 ▸ pzClue_any (tk xs j) (ta xs j) (tb xs j) w)
            clear k1
            generalize tk xs j = x at *
            generalize ta xs j = y at *
            generalize tb xs j = z at *
            go_wp2_with (first | (go_at_call 40; refine (H1.out _).mono ?_; rintro e w1 ⟨rfl, hb⟩))
            go_roundg (gk - 1)
            case rel => exact ⟨j + 1, by go_num, by omega, by omega, hall2, by (repeat (first | assumption | exact HBl.out | exact Below.refl _ _ | refine Below.drew ?_ | refine below_drewN ?_ _ | refine Below.setCell ?_ (by first | omega | (simp; done) | (simp; omega)) _ | refine Below.alloc ?_ (by first | omega | (simp; done) | (simp; omega)) _ | refine bchain ?_ (by assumption) (by first | omega | (simp; done) | (simp; omega))))⟩
            case measure => omega
      · have HX := Lib.hid (HR.out.trans (clA_of fun i hi => hall.out i (by omega)))
        have HBl := Lib.hid hbel
        clear hbel
        go_wp2_with fail
        go_ret
        rw [HX.out]
        exact ⟨rfl, HBl.out⟩
  · have hbI : (6 < (xs.length : Int)) := by omega
    have HR := Lib.hid (show pzG xs = false by unfold pzG; rw [decide_eq_false hb]; rfl)
    go_enter Try.func19, Try.ntmps19
    go_wp2_with fail
    go_ret
    rw [HR.out]
    exact ⟨rfl, by (repeat (first | assumption | exact Below.refl _ _ | refine Below.drew ?_ | refine below_drewN ?_ _ | refine Below.setCell ?_ (by first | omega | (simp; done) | (simp; omega)) _ | refine Below.alloc ?_ (by first | omega | (simp; done) | (simp; omega)) _ | refine bchain ?_ (by assumption) (by first | omega | (simp; done) | (simp; omega))))⟩
set_option maxHeartbeats 8000000 in
set_option maxRecDepth 100000 in
theorem pzAll_any (a : Option Addr) (cap : Nat) (xs : List (Int × Int × Int)) (w : World) (h : RdT w a xs) (hn : xs.length ≤ 1048576) (hcl : clA xs = true) :
    Calls Try.prog 20 #[.slice a xs.length cap] w fun e w' => ∃ a' c', e = .returned (.slice a' (sol xs).length c') ∧ OwnK w' w.heap.size a' c' (sol xs) ∧ Below w.heap.size w w' := by
  obtain ⟨i0, hi, hz0, hz1, hz2⟩ := info_parts pairInfoK
  have HK := Lib.hid (fun i (hi : i < xs.length) => clB_ka (clA_at hcl hi))
  have HL := Lib.hid (fun n => slN_len xs n)
  have HR := Lib.hid h
  have hnI : (xs.length : Int) ≤ 1048576 := by omega
  clear hcl h
  go_enter Try.func20, Try.ntmps20
  go_wp2_with fail
  go_loopg [3, 4] 12 (fun k v3 v4 wr => ∃ (i : Nat) (ao : Option Addr) (co : Nat), v3 = .slice ao (slN xs (13 * i)).length co ∧ v4 = .int .i64 ((i : Int) + 1) ∧ i + k = 12 ∧ OwnK wr w.heap.size ao co (slN xs (13 * i)) ∧ Below w.heap.size w wr)
  case atStart => exact ⟨0, none, 0, rfl, rfl, rfl, World.ownsRow_nil _ _ _ _, Below.refl _ _⟩
  case round =>
    obtain ⟨i, ao, co, rfl, rfl, hk, hown, hbel⟩ := hrel
    by_cases hi12 : i < 12
    · have hiI : (i : Int) + 1 ≤ 12 := by omega
      have HO := Lib.hid hown
      have HB := Lib.hid hbel
      have HE := Lib.hid (show 13 * (i + 1) = 13 * i + 13 by omega)
      obtain ⟨G, rfl⟩ : ∃ G, gk = G + 1 := ⟨gk - 1, by omega⟩
      clear hown hbel
      go_wp2_with fail
      go_loopg [3, 5] 13 (fun k v3 v5 wq => ∃ (j : Nat) (ap : Option Addr) (cp : Nat), v3 = .slice ap (slN xs (13 * i + j)).length cp ∧ v5 = .int .i64 (j : Int) ∧ j + k = 13 ∧ OwnK wq w.heap.size ap cp (slN xs (13 * i + j)) ∧ Below w.heap.size w wq)
      case atStart => exact ⟨0, ao, co, rfl, rfl, rfl, HO.out, HB.out⟩
      case round =>
        obtain ⟨j, ap, cp, rfl, rfl, hk2, hown, hbel⟩ := hrel
        by_cases hj13 : j < 13
        · have hjI : (j : Int) ≤ 12 := by omega
          have hh : hdB ((i : Int) + 1) (j : Int) = true := hdB_iff.2 (by omega)
          have HO2 := Lib.hid hown
          have HB2 := Lib.hid hbel
          have hszq := hbel.size
          have hlen := HL.out (13 * i + j)
          have HY := Lib.hid (fun (q : fiA xs ((i : Int) + 1) (j : Int) = true) => slN_yes (xs := xs) hj13 q)
          have HN := Lib.hid (fun (q : fiA xs ((i : Int) + 1) (j : Int) = false) => slN_no (xs := xs) hj13 q)
          have HF := Lib.hid (fiN_all xs ((i : Int) + 1) (j : Int))
          have HFS := Lib.hid (fun (m : Nat) => (show fiN xs ((i : Int) + 1) (j : Int) (m + 1) = (fiN xs ((i : Int) + 1) (j : Int) m && decide (pzV (tk xs m) (ta xs m) ((i : Int) + 1) (j : Int) = tb xs m)) from rfl))
          have HF0 := Lib.hid (show fiN xs ((i : Int) + 1) (j : Int) 0 = true from rfl)
          have HH := Lib.hid hh
          have HX1 := Lib.hid (Bx2.new wr ((i : Int) + 1) (j : Int) 40)
          have HO1 := Lib.hid (HO2.out.below ((Below.refl _ _).alloc (Nat.le_refl _) (.cells #[.int .i64 ((i : Int) + 1), .int .i64 (j : Int)] 40)))
          have HB1 := Lib.hid (HB2.out.alloc hszq (.cells #[.int .i64 ((i : Int) + 1), .int .i64 (j : Int)] 40))
          obtain ⟨G2, rfl⟩ : ∃ G2, gk = G2 + 1 := ⟨gk - 1, by omega⟩
          obtain ⟨V, hV⟩ : ∃ V, V = wr.heap.size := ⟨_, rfl⟩
          clear hown hbel hh
          go_wp2_with fail
          obtain ⟨W1, hW1⟩ : ∃ W1, W1 = wr.alloc (.cells #[.int .i64 ((i : Int) + 1), .int .i64 (j : Int)] 40) := ⟨_, rfl⟩
          rw [← hW1] at HX1 HO1 HB1 ⊢
          clear hW1 HO2 HB2
          rw [← hV] at HX1 ⊢
          clear hV
          go_loopg [7, 23] xs.length (fun k v7 v23 wz => ∃ (m : Nat), v7 = .bool (fiN xs ((i : Int) + 1) (j : Int) m) ∧ v23 = .int .i64 (m : Int) ∧ m + k = xs.length ∧ Bx2 wz V ((i : Int) + 1) (j : Int) ∧ OwnK wz w.heap.size ap cp (slN xs (13 * i + j)) ∧ Below w.heap.size w wz)
          case atStart => exact ⟨0, by rw [HF0.out], rfl, by omega, HX1.out, HO1.out, HB1.out⟩
          case round =>
            obtain ⟨m, rfl, rfl, hk3, hx, hown, hbel⟩ := hrel
            have hszz := hbel.size
            by_cases hm : m < xs.length
            · have HR2 := Lib.hid (HR.out.below hbel)
              rcases HR2.out with h | ⟨b, off, rfl, hlt, hc⟩
              · rw [h] at hm; exact absurd hm (Nat.not_lt_zero _)
              · obtain ⟨q0, q1, q2⟩ := hc m hm
                have hka := HK.out m hm
                have hmI : (m : Int) < (xs.length : Int) := by omega
                have HFM := Lib.hid (HFS.out m)
                have HX := Lib.hid hx
                obtain ⟨hVl, hx0, hx1⟩ := hx
                have HO := Lib.hid hown
                have HB := Lib.hid hbel
                have HP := Lib.hid (fun w => pzFits_any (tk xs m) (ta xs m) (tb xs m) ((i : Int) + 1) (j : Int) hka HH.out w)
                clear hc hown hbel hka HR2
                cases hf : fiN xs ((i : Int) + 1) (j : Int) m
                · have HF1 := Lib.hid (show fiN xs ((i : Int) + 1) (j : Int) (m + 1) = false by rw [HFM.out, hf]; rfl)
                  clear HFM hf HP
                  generalize tk xs m = x at *
                  generalize ta xs m = y at *
                  generalize tb xs m = z at *
                  go_wp2_with fail
                  go_roundg (gk - 1)
                  case rel => exact ⟨m + 1, by rw [HF1.out], by go_num, by omega, HX.out.below (by (repeat (first | assumption | exact Below.refl _ _ | refine Below.drew ?_ | refine below_drewN ?_ _ | refine Below.setCell ?_ (by first | omega | (simp; done) | (simp; omega)) _ | refine Below.alloc ?_ (by first | omega | (simp; done) | (simp; omega)) _ | refine bchain ?_ (by assumption) (by first | omega | (simp; done) | (simp; omega))))), HO.out.below (by (repeat (first | assumption | exact Below.refl _ _ | refine Below.drew ?_ | refine below_drewN ?_ _ | refine Below.setCell ?_ (by first | omega | (simp; done) | (simp; omega)) _ | refine Below.alloc ?_ (by first | omega | (simp; done) | (simp; omega)) _ | refine bchain ?_ (by assumption) (by first | omega | (simp; done) | (simp; omega))))), by (repeat (first | assumption | exact HB.out | exact Below.refl _ _ | refine Below.drew ?_ | refine below_drewN ?_ _ | refine Below.setCell ?_ (by first | omega | (simp; done) | (simp; omega)) _ | refine Below.alloc ?_ (by first | omega | (simp; done) | (simp; omega)) _ | refine bchain ?_ (by assumption) (by first | omega | (simp; done) | (simp; omega))))⟩
                  case measure => omega
                · have HF1 := Lib.hid (show fiN xs ((i : Int) + 1) (j : Int) (m + 1) = decide (pzV (tk xs m) (ta xs m) ((i : Int) + 1) (j : Int) = tb xs m) by rw [HFM.out, hf]; rfl)
                  clear HFM hf
                  generalize decide (pzV (tk xs m) (ta xs m) ((i : Int) + 1) (j : Int) = tb xs m) = D at *
                  generalize tk xs m = x at *
                  generalize ta xs m = y at *
                  generalize tb xs m = z at *
                  go_wp2_with (first | (go_at_call 41; refine (HP.out _).mono ?_; rintro e w1 ⟨rfl, hb⟩))
                  go_roundg (gk - 1)
                  case rel => exact ⟨m + 1, by rw [HF1.out], by go_num, by omega, HX.out.below (by (repeat (first | assumption | exact Below.refl _ _ | refine Below.drew ?_ | refine below_drewN ?_ _ | refine Below.setCell ?_ (by first | omega | (simp; done) | (simp; omega)) _ | refine Below.alloc ?_ (by first | omega | (simp; done) | (simp; omega)) _ | refine bchain ?_ (by assumption) (by first | omega | (simp; done) | (simp; omega))))), HO.out.below (by (repeat (first | assumption | exact Below.refl _ _ | refine Below.drew ?_ | refine below_drewN ?_ _ | refine Below.setCell ?_ (by first | omega | (simp; done) | (simp; omega)) _ | refine Below.alloc ?_ (by first | omega | (simp; done) | (simp; omega)) _ | refine bchain ?_ (by assumption) (by first | omega | (simp; done) | (simp; omega))))), by (repeat (first | assumption | exact HB.out | exact Below.refl _ _ | refine Below.drew ?_ | refine below_drewN ?_ _ | refine Below.setCell ?_ (by first | omega | (simp; done) | (simp; omega)) _ | refine Below.alloc ?_ (by first | omega | (simp; done) | (simp; omega)) _ | refine bchain ?_ (by assumption) (by first | omega | (simp; done) | (simp; omega))))⟩
                  case measure => omega
            · obtain rfl : m = xs.length := by omega
              have HO := Lib.hid hown
              have HB := Lib.hid hbel
              obtain ⟨hVl, hx0, hx1⟩ := hx
              clear hown hbel
              rw [HF.out]
              cases hf : fiA xs ((i : Int) + 1) (j : Int)
              · have HE2 := Lib.hid (HN.out hf)
                clear hf
                go_wp2_with fail
                go_roundg G2
                case rel => exact ⟨j + 1, ap, cp, by rw [← Nat.add_assoc, HE2.out], by go_num, by omega, by rw [← Nat.add_assoc, HE2.out]; exact HO.out, HB.out⟩
                case measure => omega
              · have HE2 := Lib.hid (HY.out hf)
                have hle : (slN xs (13 * i + j)).length ≤ 156 := by omega
                clear hf
                generalize slN xs (13 * i + j) = L at *
                have HO' := Lib.hid (show wr.ownsRow w.heap.size 40 2 (.slice ap L.length cp) L.length (cs2 L) from HO.out)
                go_wp2_with (first | (at_builtin; refine wpList_append_own _ rfl _ _ 45 rfl w.heap.size 40 i0 (.agg #[.int .i64 0, .int .i64 0]) 2 16 Try.underlying45 hi hz0 hz1 hz2 rfl (by decide) _ _ _ rfl (HO'.out.alloc _) ⟨wr.heap.size, 0, none⟩ 1 1 [.int .i64 ((i : Int) + 1), .int .i64 (j : Int)] rfl rfl (cell_two_newP _ _ _ _) (fun x hx => by simp at hx; rcases hx with rfl | rfl <;> rfl) (by unfold maxLen; omega) (by omega) (by first | omega | (simp; omega)) ?_; intro v1 w6 hO6 hgrow hx; clear hx; have HO6 := Lib.hid hO6; have HG6 := Lib.hid hgrow; clear hgrow hO6))
                obtain ⟨a4, c4, rfl⟩ := own_formP HO6.out
                have hB6 := (HB.out.alloc hszz _).grown HG6.out (by simp; omega) (fun k hk => (HO'.out.lt k hk).1)
                have hln : (L ++ [((i : Int) + 1, (j : Int))]).length = L.length + 1 := by simp
                go_roundg G2
                case rel => exact ⟨j + 1, a4, c4, by rw [← Nat.add_assoc, HE2.out, hln], by go_num, by omega, by rw [← Nat.add_assoc, HE2.out]; unfold OwnK; rw [hln, cs2_snocP]; exact HO6.out, hB6⟩
                case measure => omega
        · obtain rfl : j = 13 := by omega
          have HO := Lib.hid hown
          have HB := Lib.hid hbel
          clear hown hbel
          go_wp2_with fail
          go_roundg G
          case rel => exact ⟨i + 1, ap, cp, by rw [HE.out], by go_num, by omega, by rw [HE.out]; exact HO.out, HB.out⟩
          case measure => omega
    · obtain rfl : i = 12 := by omega
      have HO := Lib.hid (show OwnK wr w.heap.size ao co (sol xs) from hown)
      have HB := Lib.hid hbel
      clear hown hbel
      go_wp2_with fail
      go_ret
      exact ⟨ao, co, rfl, HO.out, HB.out⟩
end Go.Proofs.Ytnnokfecjdmjpab
