/- The model's l1Has and l1Put (a number into an increasing list) by contracts. -/
import Derived.Test.YtolgpjlliaoneaaTwoOrd
namespace Go.Proofs.Ytolgpjlliaoneaa
open Go.RowKit
set_option linter.unusedVariables false
set_option linter.unusedSimpArgs false
/-- how many elements at the beginning are less -/
def lowI (xs : List Int) (v : Int) : Nat := (xs.takeWhile fun x => decide (x < v)).length
theorem low_eq (v : Int) : ∀ (xs : List Int) (j : Nat), j ≤ xs.length → (∀ i, i < j → xs.getD i 0 < v) → (j < xs.length → v ≤ xs.getD j 0) → lowI xs v = j
  | [], j, hj, _, _ => by simp at hj; subst hj; rfl
  | x :: r, 0, _, _, h => by
    have := h (by simp)
    simp at this
    unfold lowI
    rw [List.takeWhile_cons, if_neg (by simp; omega)]; rfl
  | x :: r, j + 1, hj, h1, h2 => by
    have hx := h1 0 (by omega)
    simp at hx
    have ih := low_eq v r j (by simp at hj; omega) (fun i hi => by have := h1 (i + 1) (by omega); simpa using this) (fun hjr => by have := h2 (by simp; omega); simpa using this)
    unfold lowI at *
    rw [List.takeWhile_cons, if_pos (by simpa using hx), List.length_cons, ih]
/-- is it there, where it would go -/
def putB (xs : List Int) (v : Int) : Bool := decide (lowI xs v < xs.length) && decide (xs.getD (lowI xs v) 0 = v)
/-- with it, where it goes -/
def putI (xs : List Int) (v : Int) : List Int := xs.take (lowI xs v) ++ [v] ++ xs.drop (lowI xs v)
theorem take_atP {xs : List Int} {t i : Nat} (h : i < t) : (xs.take t).getD i 0 = xs.getD i 0 := by
  simp [List.getD, List.getElem?_take, h]
theorem drop_atP {xs : List Int} {t i : Nat} : (xs.drop t).getD i 0 = xs.getD (t + i) 0 := by
  simp [List.getD, List.getElem?_drop]
theorem row_someP {w : World} {base e size n c : Nat} {a : Option Addr} {xs : List Value} (h : w.ownsRow base e size (.slice a n c) n xs) (hn : 0 < n) : ∃ g, a = some ⟨g, 0, none⟩ ∧ base ≤ g ∧ g < w.heap.size ∧ n ≤ c := by
  have h' := h
  rcases h.2 with ⟨q, _⟩ | ⟨g, c', _, q, _, _, hc, _⟩
  · injection q with q1 q2 q3; omega
  · injection q with q1 q2 q3
    subst q1
    have := h'.lt g rfl
    exact ⟨g, rfl, this.1, this.2, by omega⟩
set_option maxHeartbeats 1000000 in
theorem l1Has_any (a : Option Addr) (cap : Nat) (xs : List Int) (v : Int) (w : World) (h : Rd w a xs) (hn : xs.length ≤ 1048576) :
    Calls Try.prog 58 #[.slice a xs.length cap, .int .i64 v] w fun e w' => e = .returned (.bool (xs.contains v)) ∧ w = w' := by
  have hnI : (xs.length : Int) ≤ 1048576 := by omega
  go_enter Try.func58, Try.ntmps58
  go_wp2_with fail
  go_loopg [9] xs.length (fun k v9 wr => ∃ (j : Nat), v9 = .int .i64 (j : Int) ∧ j + k ≤ xs.length ∧ xs.length ≤ j + k ∧ Hid (∀ i, i < j → xs.getD i 0 ≠ v) ∧ w = wr)
  case atStart => exact ⟨0, rfl, by omega, by omega, fun i hi => absurd hi (Nat.not_lt_zero _), rfl⟩
  case round =>
    obtain ⟨j, rfl, q1, q2, hp, rfl⟩ := hrel
    by_cases hj : j < xs.length
    · rcases h with h | ⟨b, off, rfl, hlt, hc⟩
      · rw [h] at hj; exact absurd hj (Nat.not_lt_zero _)
      · have hcj := hc j hj
        have hjI : (j : Int) < (xs.length : Int) := by omega
        have hmem : xs.getD j 0 ∈ xs := by rw [List.getD, List.getElem?_eq_getElem hj]; exact List.getElem_mem hj
        clear hc
        by_cases hx : xs.getD j 0 = v
        · have HT := Lib.hid (show xs.contains v = true from by rw [List.contains_iff_mem, ← hx]; exact hmem)
          have hxe : (xs.getD j 0 == v) = true := by rw [hx]; simp
          clear hp hmem hx
          generalize xs.getD j 0 = x at *
          go_wp2_with fail
          go_ret
          rw [HT.out]
          exact ⟨rfl, rfl⟩
        · have hp2 : Hid (∀ i, i < j + 1 → xs.getD i 0 ≠ v) := by
            intro i hi
            by_cases q : i = j
            · rw [q]; exact hx
            · exact hp.out i (by omega)
          have hxe : (xs.getD j 0 == v) = false := by rw [beq_eq_false_iff_ne]; exact hx
          clear hp hmem hx
          generalize xs.getD j 0 = x at *
          go_wp2_with fail
          go_roundg (gk - 1)
          case rel => exact ⟨j + 1, by go_num, by omega, by omega, hp2, rfl⟩
          case measure => omega
    · have HT := Lib.hid (show xs.contains v = false from by
        rw [Bool.eq_false_iff]
        intro hm
        rw [List.contains_iff_mem] at hm
        obtain ⟨i, hi, e⟩ := List.getElem_of_mem hm
        exact hp.out i (by omega) (by rw [List.getD, List.getElem?_eq_getElem hi]; exact e))
      clear hp
      go_wp2_with fail
      go_ret
      rw [HT.out]
      exact ⟨rfl, rfl⟩
set_option maxHeartbeats 4000000 in
set_option maxRecDepth 100000 in
theorem l1Put_some (b off cap n : Nat) (xs : List Int) (v : Int) (w : World) (hn : xs.length = n) (hcap : n ≤ cap) (h63 : n ≤ 1000000) (hlt : b < w.heap.size) (hc : ∀ i, i < xs.length → w.cell? ⟨b, off + i, none⟩ = some (.int .i64 (xs.getD i 0))) :
    Calls Try.prog 59 #[.slice (some ⟨b, off, none⟩) n cap, .int .i64 v] w fun e w' => ∃ a2 m c2, e = .returned (.slice a2 m c2) ∧ Below w.heap.size w w' ∧ ((putB xs v = true ∧ a2 = some ⟨b, off, none⟩ ∧ m = n ∧ c2 = cap) ∨ (putB xs v = false ∧ m = n + 1 ∧ w'.ownsRow w.heap.size 3 1 (.slice a2 m c2) m ((putI xs v).map (Value.int .i64)))) := by
  obtain ⟨i0, hi, hz0, hz1, hz2⟩ := info_parts intInfo
  have hown : (w.alloc (.cells #[] 3)).ownsRow w.heap.size 3 1 (.slice (some ⟨w.heap.size, 0, none⟩) 0 0) 0 [] := World.ownsRow_lit w #[] 0 (Nat.le_refl _) (by decide) rfl
  have B0 : Below w.heap.size w (w.alloc (.cells #[] 3)) := (Below.refl _ _).alloc (Nat.le_refl _) _
  have hnI : (n : Int) ≤ 1000000 := by omega
  have hcI : (n : Int) ≤ (cap : Int) := by omega
  have HC := Lib.hid hc
  clear hc
  go_enter Try.func59, Try.ntmps59
  go_wp2_with fail
  go_loopg [5] n (fun k v5 wr => ∃ (j : Nat), v5 = .int .i64 (j : Int) ∧ j + k = n ∧ Hid (∀ i, i < j → xs.getD i 0 < v) ∧ w = wr)
  case atStart => exact ⟨0, rfl, by omega, fun i hi => absurd hi (Nat.not_lt_zero _), rfl⟩
  case round =>
    obtain ⟨j, rfl, hj, hp, rfl⟩ := hrel
    by_cases hjn : j < n
    · have hcj := HC.out j (by omega)
      have hjI : (j : Int) < (n : Int) := by omega
      obtain ⟨x, hx⟩ : ∃ x, xs.getD j 0 = x := ⟨_, rfl⟩
      rw [hx] at hcj
      have HX := Lib.hid hx
      clear hx
      rcases Int.lt_trichotomy x v with q | q | q
      · have hp2 : Hid (∀ i, i < j + 1 → xs.getD i 0 < v) := by
          intro i hi
          by_cases e : i = j
          · rw [e, HX.out]; exact q
          · exact hp.out i (by omega)
        clear hp hown B0
        go_wp2_with fail
        go_roundg (gk - 1)
        case rel => exact ⟨j + 1, by go_num, by omega, hp2, rfl⟩
        case measure => omega
      · subst q
        have hlow : lowI xs x = j := low_eq x xs j (by omega) (fun i hi => hp.out i hi) (fun _ => by rw [HX.out]; exact Int.le_refl _)
        have HB := Lib.hid (show putB xs x = true from by unfold putB; rw [hlow, HX.out, decide_eq_true (by omega), decide_eq_true rfl]; rfl)
        have hxx : ¬ x < x := Int.lt_irrefl x
        clear hp hown B0 hlow
        go_wp2_with fail
        go_ret
        exact ⟨_, _, _, rfl, Below.refl _ _, .inl ⟨HB.out, rfl, rfl, rfl⟩⟩
      · have hlow := Lib.hid (low_eq v xs j (by omega) (fun i hi => hp.out i hi) (fun _ => by rw [HX.out]; omega))
        have HB := Lib.hid (show putB xs v = false from by unfold putB; rw [hlow.out, HX.out, decide_eq_false (show ¬ x = v by omega), Bool.and_false])
        have q1 : ¬ x < v := by omega
        have q2 : (x == v) = false := by rw [beq_eq_false_iff_ne]; omega
        have hjc : (j : Int) ≤ (cap : Int) := by omega
        have hjn2 : (j : Int) ≤ (n : Int) := by omega
        clear hp
        go_wp2_with (first
          | (at_builtin; have hb7 := Lib.hid ((hb6.out.alloc hz6 _).grown HG7.out (by simp; omega) (fun k hk => (hO6.lt k hk).1)); have hz7 := hb7.out.size; refine wpList_append_own _ rfl _ _ 44 rfl w.heap.size 3 i0 (.int .i64 0) 1 8 Try.underlying44 hi hz0 hz1 hz2 rfl (by decide) _ _ _ rfl hO7 ⟨b, off + j, none⟩ (n - j) (cap - j) ((xs.drop j).map (Value.int .i64)) rfl (by rw [List.length_map, List.length_drop]; omega) (ints_news (fun i hi => by rw [List.length_drop] at hi; rw [(bcell hb7.out).1 b _ hlt, drop_atP, Nat.add_assoc]; exact HC.out (j + i) (by omega))) ints_one (by unfold maxLen; omega) (by omega) (by omega) ?_; intro v3 w8 hO8 hgrow hx; clear hx; have HG8 := Lib.hid hgrow; clear hgrow)
          | (at_builtin; have hb6 := Lib.hid (B0.grown HG6.out (by simp) (fun k hk => (hown.lt k hk).1)); have hz6 := hb6.out.size; refine wpList_append_own _ rfl _ _ 44 rfl w.heap.size 3 i0 (.int .i64 0) 1 8 Try.underlying44 hi hz0 hz1 hz2 rfl (by decide) _ _ _ rfl (hO6.alloc _) ⟨w6.heap.size, 0, none⟩ 1 1 [.int .i64 v] rfl rfl (cell_one_new _ _ _) (fun u hu => by simp at hu; subst hu; rfl) (by unfold maxLen; omega) (by omega) (by simp; omega) ?_; intro v2 w7 hO7 hgrow hx; clear hx; have HG7 := Lib.hid hgrow; clear hgrow)
          | (at_builtin; refine wpList_append_own _ rfl _ _ 44 rfl w.heap.size 3 i0 (.int .i64 0) 1 8 Try.underlying44 hi hz0 hz1 hz2 rfl (by decide) _ _ _ rfl hown ⟨b, off, none⟩ j cap ((xs.take j).map (Value.int .i64)) rfl (by rw [List.length_map, List.length_take]; omega) (ints_news (fun i hi => by rw [List.length_take] at hi; rw [(bcell B0).1 b _ hlt, take_atP (by omega)]; exact HC.out i (by omega))) ints_one (by unfold maxLen; omega) (by omega) (by simp) ?_; intro v1 w6 hO6 hgrow hx; clear hx; have HG6 := Lib.hid hgrow; clear hgrow)
          | fail)
        have hb8 := hb7.out.grown HG8.out hb7.out.size (fun k hk => (hO7.lt k hk).1)
        have hO9 := hO8
        rw [show 0 + j + 1 + (n - j) = n + 1 from by omega] at hO9
        obtain ⟨a7, c7, rfl⟩ := row_form hO9
        go_ret
        exact ⟨_, _, _, rfl, hb8, .inr ⟨HB.out, rfl, by unfold putI; rw [hlow.out, List.map_append, List.map_append]; simpa using hO9⟩⟩
    · obtain rfl : j = n := by omega
      have hlow := Lib.hid (low_eq v xs j (by omega) (fun i hi => hp.out i hi) (fun h => absurd h (by omega)))
      have HB := Lib.hid (show putB xs v = false from by unfold putB; rw [hlow.out, decide_eq_false (by omega)]; rfl)
      have hd : xs.drop j = [] := List.drop_of_length_le (by omega)
      have ht : xs.take j = xs := List.take_of_length_le (by omega)
      clear hp
      by_cases hct : cap = j
      · subst hct
        go_wp2_with (first
          | (at_builtin; have hb7 := Lib.hid ((hb6.out.alloc hz6 _).grown HG7.out (by simp; omega) (fun k hk => (hO6.lt k hk).1)); have hz7 := hb7.out.size; refine wpList_append_own _ rfl _ _ 44 rfl w.heap.size 3 i0 (.int .i64 0) 1 8 Try.underlying44 hi hz0 hz1 hz2 rfl (by decide) _ _ _ rfl hO7 ⟨b, off, none⟩ 0 0 [] rfl rfl (fun i u hu => by simp at hu) (fun u hu => by simp at hu) (by unfold maxLen; omega) (by omega) (by omega) ?_; intro v3 w8 hO8 hgrow hx; clear hx; have HG8 := Lib.hid hgrow; clear hgrow)
          | (at_builtin; have hb6 := Lib.hid (B0.grown HG6.out (by simp) (fun k hk => (hown.lt k hk).1)); have hz6 := hb6.out.size; refine wpList_append_own _ rfl _ _ 44 rfl w.heap.size 3 i0 (.int .i64 0) 1 8 Try.underlying44 hi hz0 hz1 hz2 rfl (by decide) _ _ _ rfl (hO6.alloc _) ⟨w6.heap.size, 0, none⟩ 1 1 [.int .i64 v] rfl rfl (cell_one_new _ _ _) (fun u hu => by simp at hu; subst hu; rfl) (by unfold maxLen; omega) (by omega) (by simp; omega) ?_; intro v2 w7 hO7 hgrow hx; clear hx; have HG7 := Lib.hid hgrow; clear hgrow)
          | (at_builtin; refine wpList_append_own _ rfl _ _ 44 rfl w.heap.size 3 i0 (.int .i64 0) 1 8 Try.underlying44 hi hz0 hz1 hz2 rfl (by decide) _ _ _ rfl hown ⟨b, off, none⟩ cap cap (xs.map (Value.int .i64)) rfl (by rw [List.length_map]; omega) (ints_news (fun i hi => by rw [(bcell B0).1 b _ hlt]; exact HC.out i (by omega))) ints_one (by unfold maxLen; omega) (by omega) (by simp) ?_; intro v1 w6 hO6 hgrow hx; clear hx; have HG6 := Lib.hid hgrow; clear hgrow)
          | fail)
        have hb8 := hb7.out.grown HG8.out hb7.out.size (fun k hk => (hO7.lt k hk).1)
        have hO9 := hO8
        rw [show 0 + cap + 1 + 0 = cap + 1 from by omega] at hO9
        obtain ⟨a7, c7, rfl⟩ := row_form hO9
        go_ret
        exact ⟨_, _, _, rfl, hb8, .inr ⟨HB.out, rfl, by unfold putI; rw [hlow.out, hd, ht]; simpa using hO9⟩⟩
      · have hjc : (j : Int) < (cap : Int) := by omega
        go_wp2_with (first
          | (at_builtin; have hb7 := Lib.hid ((hb6.out.alloc hz6 _).grown HG7.out (by simp; omega) (fun k hk => (hO6.lt k hk).1)); have hz7 := hb7.out.size; refine wpList_append_own _ rfl _ _ 44 rfl w.heap.size 3 i0 (.int .i64 0) 1 8 Try.underlying44 hi hz0 hz1 hz2 rfl (by decide) _ _ _ rfl hO7 ⟨b, off + j, none⟩ 0 (cap - j) [] rfl rfl (fun i u hu => by simp at hu) (fun u hu => by simp at hu) (by unfold maxLen; omega) (by omega) (by omega) ?_; intro v3 w8 hO8 hgrow hx; clear hx; have HG8 := Lib.hid hgrow; clear hgrow)
          | (at_builtin; have hb6 := Lib.hid (B0.grown HG6.out (by simp) (fun k hk => (hown.lt k hk).1)); have hz6 := hb6.out.size; refine wpList_append_own _ rfl _ _ 44 rfl w.heap.size 3 i0 (.int .i64 0) 1 8 Try.underlying44 hi hz0 hz1 hz2 rfl (by decide) _ _ _ rfl (hO6.alloc _) ⟨w6.heap.size, 0, none⟩ 1 1 [.int .i64 v] rfl rfl (cell_one_new _ _ _) (fun u hu => by simp at hu; subst hu; rfl) (by unfold maxLen; omega) (by omega) (by simp; omega) ?_; intro v2 w7 hO7 hgrow hx; clear hx; have HG7 := Lib.hid hgrow; clear hgrow)
          | (at_builtin; refine wpList_append_own _ rfl _ _ 44 rfl w.heap.size 3 i0 (.int .i64 0) 1 8 Try.underlying44 hi hz0 hz1 hz2 rfl (by decide) _ _ _ rfl hown ⟨b, off, none⟩ j cap (xs.map (Value.int .i64)) rfl (by rw [List.length_map]; omega) (ints_news (fun i hi => by rw [(bcell B0).1 b _ hlt]; exact HC.out i (by omega))) ints_one (by unfold maxLen; omega) (by omega) (by simp) ?_; intro v1 w6 hO6 hgrow hx; clear hx; have HG6 := Lib.hid hgrow; clear hgrow)
          | fail)
        have hb8 := hb7.out.grown HG8.out hb7.out.size (fun k hk => (hO7.lt k hk).1)
        have hO9 := hO8
        rw [show 0 + j + 1 + 0 = j + 1 from by omega] at hO9
        obtain ⟨a7, c7, rfl⟩ := row_form hO9
        go_ret
        exact ⟨_, _, _, rfl, hb8, .inr ⟨HB.out, rfl, by unfold putI; rw [hlow.out, hd, ht]; simpa using hO9⟩⟩
set_option maxHeartbeats 4000000 in
set_option maxRecDepth 100000 in
theorem l1Put_none (v : Int) (w : World) :
    Calls Try.prog 59 #[.slice none 0 0, .int .i64 v] w fun e w' => ∃ a2 c2, e = .returned (.slice a2 1 c2) ∧ Below w.heap.size w w' ∧ w'.ownsRow w.heap.size 3 1 (.slice a2 1 c2) 1 [.int .i64 v] := by
  obtain ⟨i0, hi, hz0, hz1, hz2⟩ := info_parts intInfo
  have hown : (w.alloc (.cells #[] 3)).ownsRow w.heap.size 3 1 (.slice (some ⟨w.heap.size, 0, none⟩) 0 0) 0 [] := World.ownsRow_lit w #[] 0 (Nat.le_refl _) (by decide) rfl
  have B0 : Below w.heap.size w (w.alloc (.cells #[] 3)) := (Below.refl _ _).alloc (Nat.le_refl _) _
  go_enter Try.func59, Try.ntmps59
  go_wp2_with fail
  go_loopg [5] 0 (fun k v5 wr => v5 = .int .i64 0 ∧ w = wr)
  case atStart => exact ⟨rfl, rfl⟩
  case round =>
    obtain ⟨rfl, rfl⟩ := hrel
    go_wp2_with (first
      | (at_builtin; have _q := HG7; refine wpList_append_own_none rfl _ _ 44 rfl w.heap.size 3 i0 1 Try.underlying44 hi _ _ _ rfl hO7 rfl ?_)
      | (at_builtin; refine wpList_append_own _ rfl _ _ 44 rfl w.heap.size 3 i0 (.int .i64 0) 1 8 Try.underlying44 hi hz0 hz1 hz2 rfl (by decide) _ _ _ rfl (hown.alloc _) ⟨w.heap.size + 1, 0, none⟩ 1 1 [.int .i64 v] rfl rfl (by have := cell_one_new (w.alloc (.cells #[] 3)) (.int .i64 v) 3; simpa using this) (fun u hu => by simp at hu; subst hu; rfl) (by unfold maxLen; omega) (by omega) (by simp; omega) ?_; intro v2 w7 hO7 hgrow hx; clear hx; have HG7 := Lib.hid hgrow; clear hgrow)
      | (at_builtin; refine wpList_append_own_none rfl _ _ 44 rfl w.heap.size 3 i0 1 Try.underlying44 hi _ _ _ rfl hown rfl ?_)
      | fail)
    have hb7 := (B0.alloc (by simp) _).grown HG7.out (by simp; omega) (fun k hk => (hown.lt k hk).1)
    obtain ⟨a7, c7, rfl⟩ := row_form hO7
    go_ret
    exact ⟨_, _, rfl, hb7, by simpa using hO7⟩
end Go.Proofs.Ytolgpjlliaoneaa
