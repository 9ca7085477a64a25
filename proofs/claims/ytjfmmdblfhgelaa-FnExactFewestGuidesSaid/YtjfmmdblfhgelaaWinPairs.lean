/- PairsMeeting (chapter 8), the model's way by contracts. -/
import Derived.Test.YtjfmmdblfhgelaaWinList
import Derived.Test.YtjfmmdblfhgelaaRowsX
import Derived.WalkKit
import Derived.WalkSpells
import Derived.WalkLawsBesides
import Derived.Lib.Hide
import Derived.Deep.LoopGhost
import Derived.Deep.QuietTactic
import Derived.Deep.RegionHeld3
import Derived.BigQuiet
namespace Go.Proofs.Ytjfmmdblfhgelaa
open Go.RowKit
set_option linter.unusedVariables false
set_option linter.unusedSimpArgs false
theorem RowsX.ext {w : World} {base : Nat} {a : Option Addr} {cap j : Nat} {β : Nat → Nat} {ks ks' : List (List Int)} (h : RowsX w base a cap j β ks) (e : ∀ i, i < j → ks.getD i [] = ks'.getD i []) : RowsX w base a cap j β ks' := by
  have ev : valsX β ks j = valsX β ks' j := by
    unfold valsX
    apply List.map_congr_left
    intro i hi
    rw [e i (List.mem_range.1 hi)]
  refine ⟨by rw [← ev]; exact h.1, fun i hi => by rw [← e i hi]; exact h.2.1 i hi, h.2.2⟩
theorem snoc_at {L : List (List Int)} {x : List Int} {i : Nat} (h : i < L.length) : L.getD i [] = (L ++ [x]).getD i [] := by
  simp [List.getD, List.getElem?_append_left h]
theorem snoc_last {L : List (List Int)} {x : List Int} : (L ++ [x]).getD L.length [] = x := by
  simp [List.getD]
/-- two visits meet -/
def prB (xs : List (Int × Int)) (i k : Nat) : Bool := decide (hig (px xs i) (px xs k) ≤ low (px xs i + py xs i) (px xs k + py xs k))
def prR (xs : List (Int × Int)) (i : Nat) : Nat → List (List Int)
  | 0 => []
  | m + 1 => if prB xs i (i + 1 + m) then prR xs i m ++ [[(i : Int), ((i + 1 + m : Nat) : Int)]] else prR xs i m
def prA (xs : List (Int × Int)) : Nat → List (List Int)
  | 0 => []
  | i + 1 => prA xs i ++ prR xs i (xs.length - 1 - i)
theorem prR_len (xs : List (Int × Int)) (i : Nat) : ∀ m, (prR xs i m).length ≤ m
  | 0 => by simp [prR]
  | m + 1 => by
    have := prR_len xs i m
    simp only [prR]; split
    · simp; omega
    · omega
theorem prA_len {xs : List (Int × Int)} (h : xs.length ≤ 6) : ∀ i, (prA xs i).length ≤ 5 * i
  | 0 => by simp [prA]
  | i + 1 => by
    have := prA_len h i
    have := prR_len xs i (xs.length - 1 - i)
    simp only [prA, List.length_append]; omega
def prL (xs : List (Int × Int)) : List (List Int) := if viS xs then prA xs xs.length else []
/-- what a function of ([][]int, bool) answers -/
def RetSSV (w : World) (ks : List (List Int)) (ok : Bool) (e : Ending) (w' : World) : Prop :=
  ∃ (a : Option Addr) (cap : Nat), e = .returned (.tuple #[.slice a ks.length cap, .bool ok]) ∧ OwnSS w' w.heap.size a cap ks ∧ Below w.heap.size w w'
/-- a visit in a block of its own -/
def BoxV (w : World) (V : Nat) (x y : Int) : Prop := w.ownsRow V 50 2 (.slice (some ⟨V, 0, none⟩) 1 1) 1 [.int .i64 x, .int .i64 y]
theorem visit_ne_slice : 50 ≠ 24 := by decide
theorem BoxV.new (w : World) (x y : Int) : BoxV (w.alloc (.cells #[.int .i64 x, .int .i64 y] 50)) w.heap.size x y :=
  ⟨by simp, .inr ⟨w.heap.size, 1, #[.int .i64 x, .int .i64 y], rfl, Nat.le_refl _, heap_alloc_new w _, Nat.le_refl _, by simp [maxLen], by simp, by simp⟩⟩
theorem BoxV.lt {w : World} {V : Nat} {x y : Int} (h : BoxV w V x y) : V < w.heap.size := (World.ownsRow.lt h V rfl).2
theorem BoxV.cells {w : World} {V : Nat} {x y : Int} (h : BoxV w V x y) : w.cell? ⟨V, 0, none⟩ = some (.int .i64 x) ∧ w.cell? ⟨V, 1, none⟩ = some (.int .i64 y) :=
  ⟨World.ownsRow.cellAt h 0 (by omega), World.ownsRow.cellAt h 1 (by omega)⟩
theorem BoxV.below {w w' : World} {V : Nat} {x y : Int} (h : BoxV w V x y) (hb : Below w.heap.size w w') : BoxV w' V x y := row_below h hb
theorem BoxV.kept {w w' : World} {V b s n : Nat} {x y : Int} {v : Value} {l : List Value} (h : BoxV w V x y) (k : w.ownsRow b 24 s v n l) (hg : w.grownBy w' v.ownBlock) : BoxV w' V x y :=
  World.ownsRow.kept h hg (own_neX h k visit_ne_slice)
theorem RowsX.empty {w : World} {base : Nat} (hb : base ≤ w.heap.size) (β : Nat → Nat) (ks : List (List Int)) : RowsX (w.alloc (.cells #[] 24)) base (some ⟨w.heap.size, 0, none⟩) 0 0 β ks :=
  ⟨World.ownsRow_lit w #[] 0 hb (by decide) rfl, fun i hi => absurd hi (Nat.not_lt_zero _), fun i k _ hk => absurd hk (Nat.not_lt_zero _)⟩
theorem prA_all (xs : List (Int × Int)) : ∀ i, ∀ k, k < (prA xs i).length → ((prA xs i).getD k []).length ≤ 1048576 := by
  have hR : ∀ i m, ∀ l ∈ prR xs i m, l.length ≤ 1048576 := by
    intro i m
    induction m with
    | zero => intro l hl; simp [prR] at hl
    | succ m ih =>
      intro l hl
      simp only [prR] at hl
      split at hl
      · rw [List.mem_append] at hl
        rcases hl with hl | hl
        · exact ih l hl
        · simp at hl; subst hl; simp
      · exact ih l hl
  have hA : ∀ i, ∀ l ∈ prA xs i, l.length ≤ 1048576 := by
    intro i
    induction i with
    | zero => intro l hl; simp [prA] at hl
    | succ i ih =>
      intro l hl
      simp only [prA] at hl
      rw [List.mem_append] at hl
      rcases hl with hl | hl
      · exact ih l hl
      · exact hR _ _ l hl
  intro i k hk
  simp only [List.getD, List.getElem?_eq_getElem hk, Option.getD_some]
  exact hA i _ (List.getElem_mem hk)
theorem prL_len (xs : List (Int × Int)) : (prL xs).length ≤ 30 := by
  unfold prL
  split
  · rename_i h
    have t := viS_at h
    have := prA_len (xs := xs) t.2.1 xs.length
    omega
  · simp
theorem prL_two (xs : List (Int × Int)) : ∀ i, i < (prL xs).length → ((prL xs).getD i []).length ≤ 1048576 := by
  unfold prL
  split
  · exact prA_all xs xs.length
  · intro i hi; simp at hi
set_option maxHeartbeats 8000000 in
set_option maxRecDepth 100000 in
theorem specPairsMeeting (a : Option Addr) (cap : Nat) (xs : List (Int × Int)) (w : World) (h : RdP w a xs) (hn : xs.length ≤ 1048576) :
    Calls Try.prog 18 #[.slice a xs.length cap] w (RetSSV w (prL xs) (viS xs)) := by
  obtain ⟨i0, hi, hz0, hz1, hz2⟩ := info_parts sliceInfoX
  cases hs : viS xs
  · have HR := Lib.hid (show prL xs = [] by unfold prL; rw [hs]; rfl)
    have HS := Lib.hid hs
    clear hs
    rw [HR.out]
    go_enter Try.func18, Try.ntmps18
    go_wp2_with (first | (go_at_call 32; refine (wiGood_any a cap xs _ h hn).mono ?_; rw [HS.out]; rintro e w1 ⟨rfl, hb⟩))
    go_ret2
    exact ⟨none, 0, rfl, (RowsX.nil _ _ (fun _ => 0) []).own rfl, hb⟩
  · have HR := Lib.hid (show prL xs = prA xs xs.length by unfold prL; rw [hs]; rfl)
    have t := viS_at hs
    have HS := Lib.hid hs
    have hl := t.2.1
    have hlI : (xs.length : Int) ≤ 6 := by omega
    have HT := Lib.hid t.2.2
    clear hs
    rw [HR.out]
    have HG := Lib.hid (wiGood_any a cap xs w h hn)
    rw [HS.out] at HG
    rcases h with h | ⟨b, off, rfl, hlt, hc⟩
    · exfalso; have := t.1; rw [h] at this; simp at this
    have HC := Lib.hid hc
    clear hc t
    go_enter Try.func18, Try.ntmps18
    go_wp2_with (first | (go_at_call 32; refine HG.out.mono ?_; rintro e w1 ⟨rfl, hb⟩))
    go_loopg [4, 14] xs.length (fun f vk vc wr => ∃ (j : Nat) (ao : Option Addr) (co : Nat) (β : Nat → Nat), vk = .slice ao (prA xs j).length co ∧ vc = .int .i64 (j : Int) ∧ j + f ≤ xs.length ∧ xs.length ≤ j + f ∧ RowsX wr w.heap.size ao co (prA xs j).length β (prA xs j) ∧ Below w.heap.size w wr)
    case atStart => exact ⟨0, none, 0, fun _ => 0, rfl, rfl, by omega, by omega, RowsX.nil _ _ _ _, hb⟩
    case round =>
      (try clear hb)
      (try clear hX00 hbA0)
      obtain ⟨i, ao, co, β, rfl, rfl, g1, g2, hX, hbel⟩ := hrel
      have hsz := hbel.size
      by_cases hj : i < xs.length
      · obtain ⟨G, rfl⟩ : ∃ G, gk = G + 1 := ⟨gk - 1, by omega⟩
        have hiI : (i : Int) < (xs.length : Int) := by omega
        have hA := prA_len hl i
        have hci : wr.cell? ⟨b, off + i * 2, none⟩ = some (.int .i64 (px xs i)) := by rw [(bcell hbel).1 b _ hlt]; exact (HC.out i hj).1
        have hdi : wr.cell? ⟨b, off + i * 2 + 1, none⟩ = some (.int .i64 (py xs i)) := by rw [(bcell hbel).1 b _ hlt]; exact (HC.out i hj).2
        have HX := Lib.hid hX
        have HB := Lib.hid hbel
        have HN := Lib.hid (show prA xs (i + 1) = prA xs i ++ prR xs i (xs.length - 1 - i) from rfl)
        have HQ := Lib.hid (fun m => prR_len xs i m)
        have HM := Lib.hid (fun k (hk : k < xs.length) => viOk_iff.1 (HT.out k hk))
        have bi := HM.out i hj
        have HPB := Lib.hid (show ∀ k, prB xs i k = decide (hig (px xs i) (px xs k) ≤ low (px xs i + py xs i) (px xs k + py xs k)) from fun k => rfl)
        clear hX hbel
        generalize px xs i = x at *
        generalize py xs i = y at *
        generalize prA xs i = PA at *
        have HX1 := Lib.hid (HX.out.below (w' := wr.alloc (.cells #[.int .i64 x, .int .i64 y] 50)) ((Below.refl _ _).alloc (Nat.le_refl _) _))
        have HB1 := Lib.hid (HB.out.alloc hsz (.cells #[.int .i64 x, .int .i64 y] 50))
        have HV1 := Lib.hid (BoxV.new wr x y)
        obtain ⟨V, hV⟩ : ∃ V, V = wr.heap.size := ⟨_, rfl⟩
        go_wp2_with fail
        obtain ⟨W1, hW1⟩ : ∃ W1, W1 = wr.alloc (.cells #[.int .i64 x, .int .i64 y] 50) := ⟨_, rfl⟩
        rw [← hW1] at HX1 HB1 HV1 ⊢
        clear hW1 HX HB hci hdi
        rw [← hV] at HV1 ⊢
        clear hV
        go_loopg [4, 7] (xs.length - 1 - i) (fun k v4 v7 wq => ∃ (m : Nat) (ap : Option Addr) (cp : Nat) (γ : Nat → Nat), v4 = .slice ap (PA ++ prR xs i m).length cp ∧ v7 = .int .i64 ((i : Int) + 1 + (m : Int)) ∧ m + k ≤ xs.length - 1 - i ∧ xs.length - 1 - i ≤ m + k ∧ RowsX wq w.heap.size ap cp (PA ++ prR xs i m).length γ (PA ++ prR xs i m) ∧ BoxV wq V x y ∧ Below w.heap.size w wq)
        case atStart => exact ⟨0, ao, co, β, by simp [prR], by go_num, by omega, by omega, by simpa [prR] using HX1.out, HV1.out, HB1.out⟩
        case round =>
          obtain ⟨m, ap, cp, γ, rfl, rfl, p1, p2, hY, hV, hbelq⟩ := hrel
          have hszq := hbelq.size
          have hpl := HQ.out m
          by_cases hm : i + 1 + m < xs.length
          · have hmI : (i : Int) + 1 + (m : Int) < (xs.length : Int) := by omega
            have ek : (i : Int) + 1 + (m : Int) = ((i + 1 + m : Nat) : Int) := by omega
            rw [ek]
            have hck : wr.cell? ⟨b, off + (i + 1 + m) * 2, none⟩ = some (.int .i64 (px xs (i + 1 + m))) := by rw [(bcell hbelq).1 b _ hlt]; exact (HC.out _ hm).1
            have hdk : wr.cell? ⟨b, off + (i + 1 + m) * 2 + 1, none⟩ = some (.int .i64 (py xs (i + 1 + m))) := by rw [(bcell hbelq).1 b _ hlt]; exact (HC.out _ hm).2
            obtain ⟨hx0, hx1⟩ := hV.cells
            have hV2 := hV.lt
            have bk := HM.out (i + 1 + m) hm
            have HPK := Lib.hid (HPB.out (i + 1 + m))
            have HPN := Lib.hid (show prR xs i (m + 1) = if prB xs i (i + 1 + m) then prR xs i m ++ [[(i : Int), ((i + 1 + m : Nat) : Int)]] else prR xs i m from rfl)
            have HY := Lib.hid hY
            have HV := Lib.hid hV
            have HBq := Lib.hid hbelq
            clear hY hbelq hV
            generalize px xs (i + 1 + m) = u at *
            generalize py xs (i + 1 + m) = v at *
            generalize prR xs i m = PR at *
            generalize hK : i + 1 + m = K at *
            have hb2 : b < wr.heap.size := by omega
            have hKI : (K : Int) < (xs.length : Int) := by omega
            have HCl := Lib.hid (And.intro (And.intro p1 p2) (And.intro hpl hA))
            have HMO := Lib.hid (fun w => most_hig x u w)
            have HLE := Lib.hid (fun w => least_any (x + y) (u + v) w)
            have ew1 : IntKind.i64.wrap (x + y) = x + y := IntWalk.i64_in _ (by omega)
            have ew2 : IntKind.i64.wrap (u + v) = u + v := IntWalk.i64_in _ (by omega)
            clear ek hmI hpl hA p1 p2 bk bi
            cases hpb : prB xs i K
            · have hle : ¬ (hig x u ≤ low (x + y) (u + v)) := by have := HPK.out; rw [hpb] at this; exact of_decide_eq_false this.symm
              have HP2 := Lib.hid (show prR xs i (m + 1) = PR from HPN.out.trans (by simp [hpb]))
              clear hpb
              generalize hig x u = g at *
              generalize low (x + y) (u + v) = l at *
              go_wp2_with fail
              go_region_held3 (fun w' => Below wr.heap.size wr w' ∧ wr.heap.size < w'.heap.size ∧ w'.cell? ⟨V, 0, none⟩ = some (.int .i64 x) ∧ w'.cell? ⟨V, 1, none⟩ = some (.int .i64 y) ∧ w'.cell? ⟨wr.heap.size, 0, none⟩ = some (.int .i64 u) ∧ w'.cell? ⟨wr.heap.size, 1, none⟩ = some (.int .i64 v)) (refine ⟨?_, ?_, ?_, ?_, ?_, ?_⟩ <;> first | assumption | omega | (go_simp; done) | (repeat (first | exact Below.refl _ _ | refine Below.drew ?_ | refine Below.alloc ?_ (by first | omega | (simp; done) | (simp; omega)) _ | refine bchain ?_ (by assumption) (by first | omega | (simp; done) | (simp; omega))))) (first | (go_at_call 40; refine (HMO.out _).mono ?_; rintro e w1 ⟨rfl, rfl⟩) | (go_at_call 41; refine (HLE.out _).mono ?_; rintro e w1 ⟨rfl, rfl⟩))
              all_goals (rename_i hS; go_wp2_with fail)
              go_roundg (gk - 1)
              case rel => exact ⟨m + 1, ap, cp, γ, by rw [HP2.out, List.length_append], by go_num, by have := HCl.out; omega, by have := HCl.out; omega, by rw [HP2.out]; exact HY.out.below hS.1, HV.out.below hS.1, HBq.out.trans (hS.1.mono hszq)⟩
              case measure => have := HCl.out; omega
            · have hle : hig x u ≤ low (x + y) (u + v) := by have := HPK.out; rw [hpb] at this; exact of_decide_eq_true this.symm
              have HP2 := Lib.hid (show prR xs i (m + 1) = PR ++ [[(i : Int), (K : Int)]] from HPN.out.trans (by simp [hpb]))
              clear hpb
              generalize hig x u = g at *
              generalize low (x + y) (u + v) = l at *
              go_wp2_with fail
              go_region_held3 (fun w' => Below wr.heap.size wr w' ∧ wr.heap.size < w'.heap.size ∧ w'.cell? ⟨V, 0, none⟩ = some (.int .i64 x) ∧ w'.cell? ⟨V, 1, none⟩ = some (.int .i64 y) ∧ w'.cell? ⟨wr.heap.size, 0, none⟩ = some (.int .i64 u) ∧ w'.cell? ⟨wr.heap.size, 1, none⟩ = some (.int .i64 v)) (refine ⟨?_, ?_, ?_, ?_, ?_, ?_⟩ <;> first | assumption | omega | (go_simp; done) | (repeat (first | exact Below.refl _ _ | refine Below.drew ?_ | refine Below.alloc ?_ (by first | omega | (simp; done) | (simp; omega)) _ | refine bchain ?_ (by assumption) (by first | omega | (simp; done) | (simp; omega))))) (first | (go_at_call 40; refine (HMO.out _).mono ?_; rintro e w1 ⟨rfl, rfl⟩) | (go_at_call 41; refine (HLE.out _).mono ?_; rintro e w1 ⟨rfl, rfl⟩))
              all_goals (rename_i hS)
              obtain ⟨wS, hwS⟩ : ∃ wS, wS = (wr.alloc (.cells #[.int .i64 u, .int .i64 v] 50)).drew := ⟨_, rfl⟩
              rw [← hwS] at hS ⊢
              clear hwS
              have hYS := HY.out.below hS.1
              have HVS := Lib.hid (HV.out.below hS.1)
              have HBS := Lib.hid (HBq.out.trans (hS.1.mono hszq))
              have hszw : w.heap.size ≤ wS.heap.size := by have := hS.2.1; omega
              clear hS
              obtain ⟨N, hNN⟩ : ∃ N, N = PA.length + PR.length := ⟨_, rfl⟩
              have hNL : (PA ++ PR).length = N := by rw [hNN, List.length_append]
              (try simp only [List.length_append] at hYS)
              (try simp only [List.length_append])
              rw [← hNN] at hYS
              (try rw [← hNN])
              have HYS := Lib.hid hYS
              have hlen : N ≤ 60 := by have := HCl.out; omega
              have HNL := Lib.hid hNL
              clear hNL hNN
              clear hYS
              have HX0 := Lib.hid (HYS.out.ext (ks' := (PA ++ PR) ++ [[(i : Int), (K : Int)]]) (fun q hq => snoc_at (by rw [HNL.out]; exact hq)))
              have HO := Lib.hid HX0.out.1
              go_wp2_with (first | (at_builtin; refine wpList_append_own _ rfl _ _ 34 rfl w.heap.size 24 i0 (.slice none 0 0) 1 24 Try.underlying34 hi hz0 hz1 hz2 rfl (by decide) _ _ _ rfl ((HO.out.alloc _).alloc _) ⟨wS.heap.size + 1, 0, none⟩ 1 1 [.slice (some ⟨wS.heap.size, 0, none⟩) 2 2] rfl rfl (cell_one_newX _ _ _ _) (fun u hu => by simp at hu; subst hu; rfl) (by unfold maxLen; omega) (by omega) (by simp; omega) ?_; intro v1 w3 hO3 hgrow hx; clear hx; have HG3 := Lib.hid hgrow; have HO3 := Lib.hid hO3; clear hgrow hO3))
              obtain ⟨a3, c3, rfl⟩ := row_formX HO3.out
              have hbA : Below wS.heap.size wS ((wS.alloc (.cells #[.int .i64 (i : Int), .int .i64 (K : Int)] 3)).alloc (.cells #[.slice (some ⟨wS.heap.size, 0, none⟩) 2 2] 24)) := ((Below.refl _ _).alloc (Nat.le_refl _) _).alloc (by simp) _
              have hN := own_twoX wS (base := w.heap.size) hszw (i : Int) (K : Int)
              have hsl : ((PA ++ PR) ++ [[(i : Int), (K : Int)]]).getD N [] = [(i : Int), (K : Int)] := by have := snoc_last (L := PA ++ PR) (x := [(i : Int), (K : Int)]); rwa [HNL.out] at this
              have hX3 := RowsX.grown (β := γ) (ks := (PA ++ PR) ++ [[(i : Int), (K : Int)]]) HX0.out (B := wS.heap.size) hbA (Nat.le_refl _) (by rw [hsl]; exact hN.below ((Below.refl _ _).alloc (Nat.le_refl _) _)) HG3.out (by rw [hsl]; exact HO3.out)
              have hV3 := (HVS.out.below hbA).kept ((HO.out.alloc _).alloc _) HG3.out
              have hB3 := (HBS.out.trans (hbA.mono hszw)).grown HG3.out (by simp; omega) (fun k hk => (HO.out.lt k hk).1)
              have hlq : (PA ++ (PR ++ [[(i : Int), (K : Int)]])).length = N + 1 := by rw [← HNL.out]; simp; omega
              go_roundg (gk - 1)
              case rel => exact ⟨m + 1, a3, c3, _, by rw [HP2.out, hlq], by go_num, by have := HCl.out; omega, by have := HCl.out; omega, by rw [HP2.out, hlq, ← List.append_assoc]; exact hX3, hV3, hB3⟩
              case measure => have := HCl.out; omega
          · obtain rfl : m = xs.length - 1 - i := by omega
            have HY := Lib.hid hY
            have HBq := Lib.hid hbelq
            clear hY hbelq hV
            go_wp2_with fail
            go_roundg G
            case rel => exact ⟨i + 1, ap, cp, γ, by rw [HN.out], by go_num, by omega, by omega, by rw [HN.out]; exact HY.out, HBq.out⟩
            case measure => omega
      · obtain rfl : i = xs.length := by omega
        have HF := Lib.hid (hX.own rfl)
        have HB := Lib.hid hbel
        clear hX hbel
        go_wp2_with fail
        go_ret2
        exact ⟨ao, co, rfl, HF.out, HB.out⟩
end Go.Proofs.Ytjfmmdblfhgelaa
