/- The model's stable order of keys, by contracts. -/
import Derived.Test.YtkmidpcglpeikaaProg
import Derived.Test.YtkmidpcglpeikaaSlices
import Derived.WalkKit
import Derived.WalkSpells
import Derived.WalkLawsBesides
import Derived.Lib.Hide
import Derived.Deep.LoopGhost
import Derived.Laws.AppendOwnNone
import Derived.Deep.QuietTactic
import Derived.Deep.RegionHeld3
import Derived.BigQuiet
namespace Go.Proofs.Ytkmidpcglpeikaa
open Go.RowKit
set_option linter.unusedVariables false
set_option linter.unusedSimpArgs false
/-- does a list come before another one -/
def lexB : List Int → List Int → Bool
  | x :: xs, y :: ys => if x = y then lexB xs ys else decide (x < y)
  | _, _ => false
theorem lexB_at : ∀ {xs ys : List Int} {j : Nat}, (∀ i, i < j → xs.getD i 0 = ys.getD i 0) → j < xs.length → j < ys.length → xs.getD j 0 ≠ ys.getD j 0 → lexB xs ys = decide (xs.getD j 0 < ys.getD j 0)
  | [], _, j, _, h, _, _ => absurd h (Nat.not_lt_zero _)
  | _ :: _, [], j, _, _, h, _ => absurd h (Nat.not_lt_zero _)
  | x :: xs, y :: ys, 0, _, _, _, hn => by
    have : ¬ x = y := by simpa using hn
    simp [lexB, this]
  | x :: xs, y :: ys, j + 1, h, h1, h2, hn => by
    have e : x = y := by simpa using h 0 (by omega)
    have := lexB_at (xs := xs) (ys := ys) (j := j) (fun i hi => by have := h (i + 1) (by omega); simpa using this) (by simpa using h1) (by simpa using h2) (by simpa using hn)
    simp only [lexB, if_pos e, this]; simp
theorem lexB_same : ∀ {xs ys : List Int}, xs.length = ys.length → (∀ i, i < xs.length → xs.getD i 0 = ys.getD i 0) → lexB xs ys = false
  | [], _, _, _ => by simp [lexB]
  | _ :: _, [], h, _ => by simp at h
  | x :: xs, y :: ys, hl, h => by
    have e : x = y := by simpa using h 0 (by simp)
    have := lexB_same (xs := xs) (ys := ys) (by simpa using hl) (fun i hi => by have := h (i + 1) (by simp; omega); simpa using this)
    simp only [lexB, if_pos e, this]
set_option maxHeartbeats 1000000 in
theorem meBefore_any (a a2 : Option Addr) (cap cap2 n : Nat) (xs ys : List Int) (w : World) (h : Rd w a xs) (g : Rd w a2 ys) (hx : xs.length = n) (hy : ys.length = n) (hn : n ≤ 4611686018427387904) :
    Calls Try.prog 68 #[.slice a n cap, .slice a2 n cap2] w fun e w' => e = .returned (.bool (lexB xs ys)) ∧ Below w.heap.size w w' := by
  go_enter Try.func68, Try.ntmps68
  go_wp2_with fail
  go_loopg [8] n (fun k v8 wr => ∃ (j : Nat), v8 = .int .i64 (j : Int) ∧ j + k ≤ n ∧ n ≤ j + k ∧ Hid (∀ i, i < j → xs.getD i 0 = ys.getD i 0) ∧ Below w.heap.size w wr)
  case atStart => exact ⟨0, rfl, by omega, by omega, fun i hi => absurd hi (Nat.not_lt_zero _), Below.refl _ _⟩
  case round =>
    obtain ⟨j, rfl, h1, h2, heq, hbel⟩ := hrel
    by_cases hj : j < n
    · rcases h with h | ⟨b, off, rfl, hlt, hc⟩
      · rw [h] at hx; simp at hx; omega
      · rcases g with g | ⟨b2, off2, rfl, hlt2, hc2⟩
        · rw [g] at hy; simp at hy; omega
        · have hcj : wr.cell? ⟨b, off + j, none⟩ = some (.int .i64 (xs.getD j 0)) := by rw [(bcell hbel).1 b _ hlt]; exact hc j (by omega)
          have hdj : wr.cell? ⟨b2, off2 + j, none⟩ = some (.int .i64 (ys.getD j 0)) := by rw [(bcell hbel).1 b2 _ hlt2]; exact hc2 j (by omega)
          have hjI : (j : Int) < (n : Int) := by omega
          have HB := Lib.hid hbel
          have HJ := Lib.hid (And.intro h1 h2)
          by_cases hq : xs.getD j 0 = ys.getD j 0
          · have heq2 : Hid (∀ i, i < j + 1 → xs.getD i 0 = ys.getD i 0) := fun i hi => by
              by_cases q : i = j
              · rw [q]; exact hq
              · exact heq.out i (by omega)
            rw [← hq] at hdj
            clear hbel hc hc2 h1 h2 hq
            generalize xs.getD j 0 = x at *
            go_wp2_with fail
            go_quiet (fail)
            go_wp2_with fail
            go_roundg (gk - 1)
            case rel => exact ⟨j + 1, by go_num, by have := HJ.out; omega, by have := HJ.out; omega, heq2, below_drewN HB.out _⟩
            case measure => have := HJ.out; omega
          · have HR := Lib.hid (lexB_at heq.out (by omega) (by omega) hq)
            have HQ := Lib.hid hq
            clear hbel hc hc2 h1 h2 hq
            generalize xs.getD j 0 = x at *
            generalize ys.getD j 0 = y at *
            have hq := HQ.out
            clear HQ
            go_wp2_with fail
            go_quiet (fail)
            go_wp2_with fail
            go_quiet (fail)
            go_wp2_with fail
            go_ret
            rw [HR.out]
            exact ⟨rfl, by first | exact below_drewN HB.out _ | exact below_drewN (below_drewN HB.out _) _⟩
    · have e : j = n := by omega
      have HR := Lib.hid (lexB_same (by omega) (fun i hi => heq.out i (by omega)) : lexB xs ys = false)
      have HB := Lib.hid hbel
      clear hbel
      go_wp2_with fail
      go_ret
      rw [HR.out]
      exact ⟨rfl, HB.out⟩
/-- what a slice of integers reads as, the nil slice told apart -/
def RdZ (w : World) (a : Option Addr) (cap : Nat) (xs : List Int) : Prop :=
  (a = none ∧ cap = 0 ∧ xs = []) ∨ ∃ b off, a = some ⟨b, off, none⟩ ∧ b < w.heap.size ∧ ∀ i, i < xs.length → w.cell? ⟨b, off + i, none⟩ = some (.int .i64 (xs.getD i 0))
theorem rowB {w w' : World} {base : Nat} {e : TypeId} {size : Nat} {v : Value} {n : Nat} {xs : List Value} (h : w.ownsRow base e size v n xs) (hb : Below w.heap.size w w') : w'.ownsRow base e size v n xs := by
  obtain ⟨hl, h⟩ := h
  refine ⟨hl, ?_⟩
  rcases h with h | ⟨g, c, cur, e, h1, h2, h3⟩
  · exact .inl h
  · have hg : g < w.heap.size := by
      rcases Nat.lt_or_ge g w.heap.size with q | q
      · exact q
      · rw [Array.getElem?_eq_none q] at h2; cases h2
    exact .inr ⟨g, c, cur, e, h1, by rw [hb.block g hg]; exact h2, h3⟩
theorem row_two {w : World} {base e size n c : Nat} {a : Option Addr} {xs : List Value} (h : w.ownsRow base e size (.slice a n c) n xs) : (a = none ∧ n = 0 ∧ c = 0) ∨ ∃ g, a = some ⟨g, 0, none⟩ ∧ base ≤ g ∧ g < w.heap.size := by
  have h' := h
  rcases h.2 with ⟨q, _⟩ | ⟨g, c', _, q, _⟩
  · injection q with q1 q2 q3; exact .inl ⟨q1, q2, q3⟩
  · injection q with q1 q2 q3
    subst q1
    have := h'.lt g rfl
    exact .inr ⟨g, rfl, this.1, this.2⟩
theorem row_base {w : World} {base base2 : Nat} {e : TypeId} {size : Nat} {v : Value} {n : Nat} {xs : List Value} (h : w.ownsRow base e size v n xs) (hb : base2 ≤ base) : w.ownsRow base2 e size v n xs := by
  obtain ⟨hl, h⟩ := h
  refine ⟨hl, ?_⟩
  rcases h with h | ⟨g, c, cur, e, h1, h2⟩
  · exact .inl h
  · exact .inr ⟨g, c, cur, e, Nat.le_trans hb h1, h2⟩
theorem ints_news {w : World} {b off : Nat} {xs : List Int} (hc : ∀ i, i < xs.length → w.cell? ⟨b, off + i, none⟩ = some (.int .i64 (xs.getD i 0))) : ∀ (j : Nat) u, (xs.map (Value.int .i64))[j]? = some u → w.cell? ((⟨b, off, none⟩ : Addr).add j) = some u := by
  intro j u hu
  have hj : j < xs.length := by
    rcases Nat.lt_or_ge j xs.length with q | q
    · exact q
    · rw [List.getElem?_eq_none (by simpa using q)] at hu; cases hu
  rw [List.getElem?_map, List.getElem?_eq_getElem hj] at hu
  simp at hu; subst hu
  have ea : (⟨b, off, none⟩ : Addr).add j = ⟨b, off + j, none⟩ := by unfold Addr.add; split <;> simp_all
  rw [ea, hc j hj]; simp [List.getD, List.getElem?_eq_getElem hj]
theorem ints_one {xs : List Int} : ∀ u ∈ xs.map (Value.int .i64), u.oneCell' = true := by
  intro u hu
  obtain ⟨y, _, rfl⟩ := List.mem_map.1 hu
  rfl
theorem row_form {w : World} {base e size n : Nat} {v : Value} {xs : List Value} (h : w.ownsRow base e size v n xs) : ∃ a c, v = .slice a n c := by
  rcases h.2 with ⟨rfl, rfl⟩ | ⟨g, c, _, rfl, _⟩
  · exact ⟨_, _, rfl⟩
  · exact ⟨_, _, rfl⟩
set_option maxHeartbeats 1000000 in
set_option maxRecDepth 100000 in
/-- l1Own makes a copy of its own. -/
theorem l1Own_any (a : Option Addr) (cap n : Nat) (xs : List Int) (w : World) (h : RdZ w a cap xs) (hn : xs.length = n) (h63 : n ≤ 1048576) :
    Calls Try.prog 45 #[.slice a n cap] w fun e w' => ∃ a2 c2, e = .returned (.slice a2 n c2) ∧ w'.ownsRow w.heap.size 3 1 (.slice a2 n c2) n (xs.map (Value.int .i64)) ∧ Below w.heap.size w w' := by
  obtain ⟨i0, hi, hz0, hz1, hz2⟩ := info_parts intInfo
  have hown : (w.alloc (.cells #[] 3)).ownsRow w.heap.size 3 1 (.slice (some ⟨w.heap.size, 0, none⟩) 0 0) 0 [] := World.ownsRow_lit w #[] 0 (Nat.le_refl _) (by decide) rfl
  have B0 : Below w.heap.size w (w.alloc (.cells #[] 3)) := (Below.refl _ _).alloc (Nat.le_refl _) _
  rcases h with ⟨rfl, rfl, rfl⟩ | ⟨b, off, rfl, hlt, hc⟩
  · simp at hn
    subst hn
    go_enter Try.func45, Try.ntmps45
    go_wp2_with (first | (at_builtin; refine wpList_append_own_none rfl _ _ 24 rfl w.heap.size 3 i0 1 Try.underlying24 hi _ 0 [] rfl hown rfl ?_) | fail)
    go_ret
    exact ⟨_, _, rfl, hown, B0⟩
  · have hnews := ints_news (w := w.alloc (.cells #[] 3)) (b := b) (off := off) (xs := xs) (fun i hi => by rw [(bcell B0).1 b _ hlt]; exact hc i hi)
    clear hc
    go_enter Try.func45, Try.ntmps45
    go_wp2_with (first | (at_builtin; refine wpList_append_own _ rfl _ _ 24 rfl w.heap.size 3 i0 (.int .i64 0) 1 8 Try.underlying24 hi hz0 hz1 hz2 rfl (by decide) _ 0 [] rfl hown ⟨b, off, none⟩ n cap (xs.map (Value.int .i64)) rfl (by simp; omega) hnews ints_one (by unfold maxLen; omega) (by omega) (by simp) ?_; intro v1 w1 hown1 hgrow hx; clear hx; have hb1 := B0.grown hgrow (by simp) (fun k hk => (hown.lt k hk).1); have HB1 := Lib.hid hb1; have HO1 := Lib.hid hown1; clear hown1 hgrow hb1) | fail)
    have hO := HO1.out
    rw [Nat.zero_add, List.nil_append] at hO
    obtain ⟨a1, c1, rfl⟩ := row_form hO
    go_ret
    exact ⟨_, _, rfl, hO, HB1.out⟩
/-- the slice of keys -/
def RdK (w : World) (a : Option Addr) (ks : List (List Int)) : Prop :=
  ks = [] ∨ ∃ b off, a = some ⟨b, off, none⟩ ∧ b < w.heap.size ∧ ∀ i, i < ks.length → ∃ ai ci, w.cell? ⟨b, off + i, none⟩ = some (.slice ai (ks.getD i []).length ci) ∧ Rd w ai (ks.getD i [])
theorem RdK.below {w w' : World} {a : Option Addr} {ks : List (List Int)} (h : RdK w a ks) (hb : Below w.heap.size w w') : RdK w' a ks := by
  rcases h with h | ⟨b, off, e, hlt, hc⟩
  · exact .inl h
  · refine .inr ⟨b, off, e, Nat.lt_of_lt_of_le hlt hb.size, fun i hi => ?_⟩
    obtain ⟨ai, ci, h1, h2⟩ := hc i hi
    exact ⟨ai, ci, by rw [(bcell hb).1 b _ hlt]; exact h1, h2.below hb⟩
/-- where the next one goes -/
def insAt (ks : List (List Int)) (key : List Int) (out : List Nat) : Nat → Nat
  | 0 => 0
  | k + 1 => if lexB key (ks.getD (out.getD k 0) []) then insAt ks key out k else k + 1
/-- the order of the first ones -/
def ordK (ks : List (List Int)) : Nat → List Nat
  | 0 => []
  | k + 1 => let out := ordK ks k; let at_ := insAt ks (ks.getD k []) out out.length; out.take at_ ++ [k] ++ out.drop at_
theorem ints_at {w : World} {base j c g : Nat} {xs : List Int} (h : w.ownsRow base 3 1 (.slice (some ⟨g, 0, none⟩) j c) j (xs.map (Value.int .i64))) (hl : xs.length = j) : ∀ i, i < j → w.cell? ⟨g, i, none⟩ = some (.int .i64 (xs.getD i 0)) := by
  intro i hi
  rw [h.cellAt i (by omega), List.getElem?_map, List.getElem?_eq_getElem (by omega)]
  simp [List.getD, List.getElem?_eq_getElem (show i < xs.length by omega)]
theorem take_at {xs : List Int} {t i : Nat} (h : i < t) : (xs.take t).getD i 0 = xs.getD i 0 := by
  simp [List.getD, List.getElem?_take, h]
theorem drop_at {xs : List Int} {t i : Nat} : (xs.drop t).getD i 0 = xs.getD (t + i) 0 := by
  simp [List.getD, List.getElem?_drop]
theorem row_some {w : World} {base e size n c : Nat} {a : Option Addr} {xs : List Value} (h : w.ownsRow base e size (.slice a n c) n xs) (hn : 0 < n) : ∃ g, a = some ⟨g, 0, none⟩ ∧ base ≤ g ∧ g < w.heap.size ∧ n ≤ c := by
  have h' := h
  rcases h.2 with ⟨q, _⟩ | ⟨g, c', _, q, _, _, hc, _⟩
  · injection q with q1 q2 q3; omega
  · injection q with q1 q2 q3
    subst q1
    have := h'.lt g rfl
    exact ⟨g, rfl, this.1, this.2, by omega⟩
theorem insAt_le (ks : List (List Int)) (key : List Int) (out : List Nat) : ∀ k, insAt ks key out k ≤ k
  | 0 => Nat.le_refl _
  | k + 1 => by
    unfold insAt
    split
    · exact Nat.le_trans (insAt_le ks key out k) (by omega)
    · exact Nat.le_refl _
theorem ordK_length (ks : List (List Int)) : ∀ k, (ordK ks k).length = k
  | 0 => rfl
  | k + 1 => by
    have := ordK_length ks k
    have h := insAt_le ks (ks.getD k []) (ordK ks k) (ordK ks k).length
    simp only [ordK, List.length_append, List.length_take, List.length_drop, List.length_cons, List.length_nil]
    omega
theorem ordK_lt (ks : List (List Int)) : ∀ k, ∀ i ∈ ordK ks k, i < k
  | 0, i, h => by simp [ordK] at h
  | k + 1, i, h => by
    simp only [ordK, List.mem_append, List.mem_cons, List.not_mem_nil, or_false] at h
    rcases h with (h | h) | h
    · have := ordK_lt ks k i (List.mem_of_mem_take h); omega
    · omega
    · have := ordK_lt ks k i (List.mem_of_mem_drop h); omega
theorem ordK_at (ks : List (List Int)) {k j : Nat} (h : j < k) : (ordK ks k).getD j 0 < k := by
  have hj : j < (ordK ks k).length := by rw [ordK_length]; exact h
  rw [List.getD, List.getElem?_eq_getElem hj]
  exact ordK_lt ks k _ (List.getElem_mem hj)
def ordI (ks : List (List Int)) (k : Nat) : List Int := (ordK ks k).map fun (i : Nat) => (i : Int)
theorem ordI_length (ks : List (List Int)) (k : Nat) : (ordI ks k).length = k := by unfold ordI; rw [List.length_map, ordK_length]
theorem ordI_at (ks : List (List Int)) {k j : Nat} (h : j < k) : (ordI ks k).getD j 0 = (((ordK ks k).getD j 0 : Nat) : Int) := by
  have hj : j < (ordK ks k).length := by rw [ordK_length]; exact h
  simp [ordI, List.getD, List.getElem?_eq_getElem hj]
theorem ordI_succ (ks : List (List Int)) (k t : Nat) (h : insAt ks (ks.getD k []) (ordK ks k) k = t) : ordI ks (k + 1) = (ordI ks k).take t ++ [(k : Int)] ++ (ordI ks k).drop t := by
  unfold ordI
  simp only [ordK, ordK_length, h, List.map_append, List.map_take, List.map_drop, List.map_cons, List.map_nil]
set_option maxHeartbeats 4000000 in
set_option maxRecDepth 100000 in
theorem meOrder_any (a : Option Addr) (cap n m : Nat) (ks : List (List Int)) (w : World) (h : RdK w a ks) (hn : ks.length = n) (h8 : n ≤ 64) (hm : ∀ i, i < n → (ks.getD i []).length = m) (hm63 : m ≤ 1048576) :
    Calls Try.prog 32 #[.slice a n cap] w fun e w' => ∃ a2 c2, e = .returned (.slice a2 n c2) ∧ w'.ownsRow w.heap.size 3 1 (.slice a2 n c2) n ((ordI ks n).map (Value.int .i64)) ∧ Below w.heap.size w w' := by
  obtain ⟨i0, hi, hz0, hz1, hz2⟩ := info_parts intInfo
  go_enter Try.func32, Try.ntmps32
  go_wp2_with fail
  go_loopg [3, 10] n (fun k v3 v10 wr => ∃ (j : Nat) (ao : Option Addr) (co : Nat), v3 = .slice ao j co ∧ v10 = .int .i64 (j : Int) ∧ j + k ≤ n ∧ n ≤ j + k ∧ wr.ownsRow w.heap.size 3 1 (.slice ao j co) j ((ordI ks j).map (Value.int .i64)) ∧ Below w.heap.size w wr)
  case atStart => exact ⟨0, none, 0, rfl, rfl, by omega, by omega, World.ownsRow_nil _ _ _ _, Below.refl _ _⟩
  case round =>
    obtain ⟨j, ao, co, rfl, rfl, h1, h2, hown, hbel⟩ := hrel
    by_cases hj : j < n
    · rcases h with h | ⟨b, off, rfl, hlt, hc⟩
      · rw [h] at hn; simp at hn; omega
      · obtain ⟨OG, rfl⟩ : ∃ G, G = gk := ⟨_, rfl⟩
        obtain ⟨wo, rfl⟩ : ∃ W, W = wr := ⟨_, rfl⟩
        obtain ⟨aj, cj, hcj, hRj⟩ := hc j (by omega)
        rw [hm j hj] at hcj
        have hcK : wo.cell? ⟨b, off + j, none⟩ = some (.slice aj m cj) := by rw [(bcell hbel).1 b _ hlt]; exact hcj
        have hjI : (j : Int) < (n : Int) := by omega
        obtain ⟨AT, hAT⟩ : ∃ t, insAt ks (ks.getD j []) (ordK ks j) j = t := ⟨_, rfl⟩
        have HO := Lib.hid hown
        have HB := Lib.hid hbel
        have HC := Lib.hid hc
        have HAT := Lib.hid hAT
        have HJ := Lib.hid (And.intro h1 h2)
        have hsz := hbel.size
        clear hown hbel hc hcj hAT h1 h2
        go_wp2_with fail
        go_loopg [6] j (fun k v6 wi => ∃ (t : Nat), v6 = .int .i64 (t : Int) ∧ t = k ∧ t ≤ j ∧ Hid (insAt ks (ks.getD j []) (ordK ks j) t = AT) ∧ Below wo.heap.size wo wi)
        case atStart => exact ⟨j, rfl, rfl, Nat.le_refl _, HAT.out, Below.refl _ _⟩
        case round =>
          obtain ⟨t, rfl, htk, htj, hins, hbi⟩ := hrel
          have hszi := hbi.size
          have HBI := Lib.hid hbi
          have HTK := Lib.hid htk
          clear htk
          by_cases t0 : t = 0
          · subst t0
            have hT : Hid (AT = 0) := by unfold Hid; rw [← hins.out]; rfl
            have hOi := rowB HO.out hbi
            clear hins hbi
            rcases row_two hOi with ⟨rfl, rfl, rfl⟩ | ⟨g, rfl, hg1, hg2⟩
            · have hL := Lib.hid (l1Own_any none 0 0 [] wr (.inl ⟨rfl, rfl, rfl⟩) rfl (by omega))
              clear hOi
              have hszw : w.heap.size ≤ wr.heap.size := by omega
              go_wp2_with (first
                | (go_at_call 45; refine hL.out.mono ?_; rintro e w6 ⟨a2, c2, rfl, hO2, hb6⟩; have hz6 := hb6.size)
                | (at_builtin; refine wpList_append_own _ rfl _ _ 24 rfl wr.heap.size 3 i0 (.int .i64 0) 1 8 Try.underlying24 hi hz0 hz1 hz2 rfl (by decide) _ _ _ rfl (hO2.alloc _) ⟨w6.heap.size, 0, none⟩ 1 1 [.int .i64 0] rfl rfl (cell_one_new _ _ _) (fun u hu => by simp at hu; subst hu; rfl) (by unfold maxLen; omega) (by omega) (by simp; omega) ?_; intro v1 w7 hO7 hgrow hx; clear hx; have HG7 := Lib.hid hgrow; clear hgrow)
                | (at_builtin; refine wpList_append_own_none rfl _ _ 24 rfl wr.heap.size 3 i0 1 Try.underlying24 hi _ _ _ rfl hO7 rfl ?_)
                | fail)
              have hb7 := ((hb6.alloc hb6.size _).grown HG7.out (by simp; omega) (fun k hk => (hO2.lt k hk).1))
              have B7 := (HB.out.trans (HBI.out.mono hsz)).trans (hb7.mono hszw)
              have hO8 := row_base hO7 hszw
              obtain ⟨a7, c7, rfl⟩ := row_form hO8
              have e1 : ordI ks 1 = [(0 : Int)] := by simp [ordI, ordK, insAt]
              go_roundg (OG - 1)
              case rel => exact ⟨1, a7, c7, rfl, rfl, by have := HJ.out; omega, by have := HJ.out; omega, by rw [e1]; exact hO8, B7⟩
              case measure => have := HJ.out; omega
            · have hcells := ints_at hOi (ordI_length ks j)
              have hL := Lib.hid (l1Own_any (some ⟨g, 0, none⟩) co 0 ((ordI ks j).take 0) wr (.inr ⟨g, 0, rfl, hg2, fun i hi => by simp at hi⟩) (by simp) (by omega))
              have hszw : w.heap.size ≤ wr.heap.size := by omega
              clear hOi
              go_wp2_with (first
                | (go_at_call 45; refine hL.out.mono ?_; rintro e w6 ⟨a2, c2, rfl, hO2, hb6⟩; have hz6 := hb6.size)
                | (at_builtin; refine wpList_append_own _ rfl _ _ 24 rfl wr.heap.size 3 i0 (.int .i64 0) 1 8 Try.underlying24 hi hz0 hz1 hz2 rfl (by decide) _ _ _ rfl (hO2.alloc _) ⟨w6.heap.size, 0, none⟩ 1 1 [.int .i64 (j : Int)] rfl rfl (cell_one_new _ _ _) (fun u hu => by simp at hu; subst hu; rfl) (by unfold maxLen; omega) (by omega) (by simp; omega) ?_; intro v1 w7 hO7 hgrow hx; clear hx; have HG7 := Lib.hid hgrow; clear hgrow)
                | (at_builtin; have hb7 := Lib.hid ((hb6.alloc hb6.size _).grown HG7.out (by simp; omega) (fun k hk => (hO2.lt k hk).1)); refine wpList_append_own _ rfl _ _ 24 rfl wr.heap.size 3 i0 (.int .i64 0) 1 8 Try.underlying24 hi hz0 hz1 hz2 rfl (by decide) _ _ _ rfl hO7 ⟨g, 0, none⟩ j co ((ordI ks j).map (Value.int .i64)) rfl (by rw [List.length_map, ordI_length]; omega) (ints_news (fun i hi => by rw [(bcell hb7.out).1 g _ hg2, Nat.zero_add]; exact hcells i (by rw [ordI_length] at hi; exact hi))) ints_one (by unfold maxLen; omega) (by omega) (by have := hb7.out.size; omega) ?_; intro v8 w8 hO8 hgrow hx; clear hx; have HG8 := Lib.hid hgrow; clear hgrow)
                | fail)
              have hb8 := hb7.out.grown HG8.out hb7.out.size (fun k hk => (hO7.lt k hk).1)
              have B8 := (HB.out.trans (HBI.out.mono hsz)).trans (hb8.mono hszw)
              have hO9 := row_base hO8 hszw
              rw [show 0 + 1 + j = j + 1 from by omega] at hO9
              obtain ⟨a7, c7, rfl⟩ := row_form hO9
              have e1 := ordI_succ ks j 0 (HAT.out.trans hT.out)
              go_roundg (OG - 1)
              case rel => exact ⟨j + 1, a7, c7, rfl, by go_num, by have := HJ.out; omega, by have := HJ.out; omega, by rw [e1, List.map_append, List.map_append]; exact hO9, B8⟩
              case measure => have := HJ.out; omega
          · obtain ⟨s, rfl⟩ : ∃ s, t = s + 1 := ⟨t - 1, by omega⟩
            have hOi := rowB HO.out hbi
            obtain ⟨g, rfl, hg1, hg2, hcap⟩ := row_some hOi (by omega)
            have ho : (ordK ks j).getD s 0 < j := ordK_at ks (by omega)
            have hco : wr.cell? ⟨g, s, none⟩ = some (.int .i64 (((ordK ks j).getD s 0 : Nat) : Int)) := by
              rw [hOi.cellAt s (by omega), List.getElem?_map, ← ordI_at ks (by omega)]
              rw [List.getElem?_eq_getElem (by rw [ordI_length]; omega)]
              simp [List.getD, List.getElem?_eq_getElem (show s < (ordI ks j).length by rw [ordI_length]; omega)]
            obtain ⟨ai, ci, hci, hRi⟩ := HC.out ((ordK ks j).getD s 0) (by omega)
            rw [hm _ (by omega)] at hci
            have hBa := HB.out.trans (hbi.mono hsz)
            have hcI : wr.cell? ⟨b, off + (ordK ks j).getD s 0, none⟩ = some (.slice ai m ci) := by rw [(bcell hBa).1 b _ hlt]; exact hci
            have HM := Lib.hid (meBefore_any aj ai cj ci m (ks.getD j []) (ks.getD ((ordK ks j).getD s 0) []) wr (hRj.below hBa) (hRi.below hBa) (hm j hj) (hm _ (by omega)) (by omega))
            have hX : Hid (insAt ks (ks.getD j []) (ordK ks j) (s + 1) = if lexB (ks.getD j []) (ks.getD ((ordK ks j).getD s 0) []) then insAt ks (ks.getD j []) (ordK ks j) s else s + 1) := rfl
            clear hci hRi hBa hOi
            generalize (ordK ks j).getD s 0 = o at *
            have hoI : (o : Int) < (n : Int) := by omega
            have hsI : (s : Int) < (j : Int) := by omega
            cases hl : lexB (ks.getD j []) (ks.getD o []) with
            | true =>
              rw [hl] at HM
              have hins2 : Hid (insAt ks (ks.getD j []) (ordK ks j) s = AT) := by
                unfold Hid; have := hins.out; rw [hX.out, hl] at this; exact this
              clear hins hl hX hbi
              go_wp2_with (first | (go_at_call 68; refine HM.out.mono ?_; rintro e w5 ⟨rfl, hb5⟩) | fail)
              go_roundg s
              case rel => exact ⟨s, rfl, rfl, by omega, hins2, HBI.out.trans (hb5.mono HBI.out.size)⟩
              case measure => have := HTK.out; omega
            | false =>
              rw [hl] at HM
              have hT : Hid (AT = s + 1) := by
                unfold Hid; have := hins.out; rw [hX.out, hl] at this; exact this.symm
              clear hins hl hX hbi
              go_wp2_with (first | (go_at_call 68; refine HM.out.mono ?_; rintro e w5 ⟨rfl, hb5⟩; have hcI2 : (s : Int) + 1 ≤ (co : Int) := by omega) | fail)
              have hbx := HBI.out.trans (hb5.mono HBI.out.size)
              have hOx := rowB HO.out hbx
              have hcells := ints_at hOx (ordI_length ks j)
              have hgx : g < w5.heap.size := (hOx.lt g rfl).2
              have hszw : w.heap.size ≤ w5.heap.size := Nat.le_trans hsz hbx.size
              have HBX := Lib.hid hbx
              clear hOx hbx hb5
              refine (l1Own_any (some ⟨g, 0, none⟩) co (s + 1) ((ordI ks j).take (s + 1)) w5 (.inr ⟨g, 0, rfl, hgx, fun i hi => by
                rw [List.length_take] at hi
                rw [Nat.zero_add, take_at (by omega)]; exact hcells i (by omega)⟩) (by rw [List.length_take, ordI_length]; omega) (by omega)).mono ?_
              rintro e w6 ⟨a2, c2, rfl, hO2, hb6⟩
              have hz6 := hb6.size
              by_cases hct : co = s + 1
              · have hjs : j = s + 1 := by omega
                subst hct
                subst hjs
                have hd : (ordI ks (s + 1)).drop (s + 1) = [] := List.drop_of_length_le (by rw [ordI_length]; exact Nat.le_refl _)
                go_wp2_with (first
                  | (at_builtin; refine wpList_append_own _ rfl _ _ 24 rfl w5.heap.size 3 i0 (.int .i64 0) 1 8 Try.underlying24 hi hz0 hz1 hz2 rfl (by decide) _ _ _ rfl (hO2.alloc _) ⟨w6.heap.size, 0, none⟩ 1 1 [.int .i64 ((s : Int) + 1)] rfl rfl (cell_one_new _ _ _) (fun u hu => by simp at hu; subst hu; rfl) (by unfold maxLen; omega) (by omega) (by simp; omega) ?_; intro v1 w7 hO7 hgrow hx; clear hx; have HG7 := Lib.hid hgrow; clear hgrow)
                  | (at_builtin; have hb7 := Lib.hid ((hb6.alloc hb6.size _).grown HG7.out (by simp; omega) (fun k hk => (hO2.lt k hk).1)); refine wpList_append_own _ rfl _ _ 24 rfl w5.heap.size 3 i0 (.int .i64 0) 1 8 Try.underlying24 hi hz0 hz1 hz2 rfl (by decide) _ _ _ rfl hO7 ⟨g, 0, none⟩ 0 0 [] rfl rfl (fun i u hu => by simp at hu) (fun u hu => by simp at hu) (by unfold maxLen; omega) (by omega) (by have := hb7.out.size; omega) ?_; intro v8 w8 hO8 hgrow hx; clear hx; have HG8 := Lib.hid hgrow; clear hgrow)
                  | fail)
                have hb8 := hb7.out.grown HG8.out hb7.out.size (fun k hk => (hO7.lt k hk).1)
                have B8 := (HB.out.trans (HBX.out.mono hsz)).trans (hb8.mono hszw)
                have hO9 := row_base hO8 hszw
                rw [show s + 1 + 1 + 0 = s + 1 + 1 from by omega, List.append_nil] at hO9
                obtain ⟨a7, c7, rfl⟩ := row_form hO9
                have e1 := ordI_succ ks (s + 1) (s + 1) (HAT.out.trans hT.out)
                rw [hd, List.append_nil] at e1
                go_roundg (OG - 1)
                case rel => exact ⟨s + 1 + 1, a7, c7, rfl, by go_num, by have := HJ.out; omega, by have := HJ.out; omega, by rw [e1, List.map_append]; exact hO9, B8⟩
                case measure => have := HJ.out; omega
              · go_wp2_with (first
                  | (at_builtin; refine wpList_append_own _ rfl _ _ 24 rfl w5.heap.size 3 i0 (.int .i64 0) 1 8 Try.underlying24 hi hz0 hz1 hz2 rfl (by decide) _ _ _ rfl (hO2.alloc _) ⟨w6.heap.size, 0, none⟩ 1 1 [.int .i64 (j : Int)] rfl rfl (cell_one_new _ _ _) (fun u hu => by simp at hu; subst hu; rfl) (by unfold maxLen; omega) (by omega) (by simp; omega) ?_; intro v1 w7 hO7 hgrow hx; clear hx; have HG7 := Lib.hid hgrow; clear hgrow)
                  | (at_builtin; have hb7 := Lib.hid ((hb6.alloc hb6.size _).grown HG7.out (by simp; omega) (fun k hk => (hO2.lt k hk).1)); refine wpList_append_own _ rfl _ _ 24 rfl w5.heap.size 3 i0 (.int .i64 0) 1 8 Try.underlying24 hi hz0 hz1 hz2 rfl (by decide) _ _ _ rfl hO7 ⟨g, s + 1, none⟩ (j - (s + 1)) (co - (s + 1)) (((ordI ks j).drop (s + 1)).map (Value.int .i64)) rfl (by rw [List.length_map, List.length_drop, ordI_length]; omega) (ints_news (fun i hi => by rw [List.length_drop, ordI_length] at hi; rw [(bcell hb7.out).1 g _ hgx, drop_at]; exact hcells (s + 1 + i) (by omega))) ints_one (by unfold maxLen; omega) (by omega) (by have := hb7.out.size; omega) ?_; intro v8 w8 hO8 hgrow hx; clear hx; have HG8 := Lib.hid hgrow; clear hgrow)
                  | fail)
                have hb8 := hb7.out.grown HG8.out hb7.out.size (fun k hk => (hO7.lt k hk).1)
                have B8 := (HB.out.trans (HBX.out.mono hsz)).trans (hb8.mono hszw)
                have hO9 := row_base hO8 hszw
                rw [show s + 1 + 1 + (j - (s + 1)) = j + 1 from by omega] at hO9
                obtain ⟨a7, c7, rfl⟩ := row_form hO9
                have e1 := ordI_succ ks j (s + 1) (HAT.out.trans hT.out)
                go_roundg (OG - 1)
                case rel => exact ⟨j + 1, a7, c7, rfl, by go_num, by have := HJ.out; omega, by have := HJ.out; omega, by rw [e1, List.map_append, List.map_append]; exact hO9, B8⟩
                case measure => have := HJ.out; omega
    · have e : j = n := by omega
      have HP := Lib.hid (And.intro hown hbel)
      clear hown hbel
      subst e
      go_wp2_with fail
      go_ret
      exact ⟨_, _, rfl, HP.out.1, HP.out.2⟩
end Go.Proofs.Ytkmidpcglpeikaa
