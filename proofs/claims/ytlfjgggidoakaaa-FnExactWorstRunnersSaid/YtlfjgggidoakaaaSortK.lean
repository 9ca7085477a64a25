/- The library's stable sort of a short slice of indices, by contracts: it gives the model's order of keys. -/
import Derived.Test.YtlfjgggidoakaaaProg
import Derived.Test.YtlfjgggidoakaaaTwoOrd
import Derived.WalkKit
import Derived.WalkSpells
import Derived.WalkLawsBesides
import Derived.Lib.Hide
import Derived.Deep.LoopGhost
import Derived.Deep.QuietTactic
import Derived.Deep.RegionWith
import Derived.Deep.RegionHeld3
import Derived.BigQuiet
import Derived.Shelf.Abstract
import Derived.Shelf.RegionOpenPlain
namespace Go.Proofs.Ytlfjgggidoakaaa
open Go.RowKit
set_option linter.unusedVariables false
set_option linter.unusedSimpArgs false
/-- a row of integers by their places -/
def rl (f : Nat → Int) (n : Nat) : List Value := (List.range n).map fun p => Value.int .i64 (f p)
theorem rl_length (f : Nat → Int) (n : Nat) : (rl f n).length = n := by simp [rl]
theorem rl_get {f : Nat → Int} {n p : Nat} (h : p < n) : (rl f n)[p]? = some (.int .i64 (f p)) := by simp [rl, h]
theorem rl_congr {f f' : Nat → Int} {n : Nat} (h : ∀ p, p < n → f p = f' p) : rl f n = rl f' n := by
  unfold rl
  apply List.map_congr_left
  intro p hp
  rw [h p (by simpa using hp)]
theorem rl_set {f f' : Nat → Int} {n j k : Nat} {a b : Int} (h : ∀ p, p < n → f' p = if p = k then b else if p = j then a else f p) : ((rl f n).set j (.int .i64 a)).set k (.int .i64 b) = rl f' n := by
  apply List.ext_getElem?
  intro p
  by_cases hp : p < n
  · rw [rl_get hp, h p hp]
    by_cases e : p = k
    · subst e; rw [List.getElem?_set_self (by rw [List.length_set, rl_length]; exact hp), if_pos rfl]
    · rw [List.getElem?_set_ne (by omega), if_neg e]
      by_cases e2 : p = j
      · subst e2; rw [List.getElem?_set_self (by rw [rl_length]; exact hp), if_pos rfl]
      · rw [List.getElem?_set_ne (by omega), if_neg e2, rl_get hp]
  · rw [List.getElem?_eq_none (by rw [List.length_set, List.length_set, rl_length]; omega), List.getElem?_eq_none (by rw [rl_length]; omega)]
theorem rl_one {f f' : Nat → Int} {n j : Nat} {a : Int} (h : ∀ p, p < n → f' p = if p = j then a else f p) : (rl f n).set j (.int .i64 a) = rl f' n := by
  apply List.ext_getElem?
  intro p
  by_cases hp : p < n
  · rw [rl_get hp, h p hp]
    by_cases e2 : p = j
    · subst e2; rw [List.getElem?_set_self (by rw [rl_length]; exact hp), if_pos rfl]
    · rw [List.getElem?_set_ne (by omega), if_neg e2, rl_get hp]
  · rw [List.getElem?_eq_none (by rw [List.length_set, rl_length]; omega), List.getElem?_eq_none (by rw [rl_length]; omega)]
/-- the place in the order, as a number -/
def oI (ks : List (List Int)) (i p : Nat) : Int := (((ordK ks i).getD p 0 : Nat) : Int)
/-- the row when the first i are in order -/
def fO (ks : List (List Int)) (i p : Nat) : Int := if p < i then oI ks i p else (p : Int)
/-- the row while i goes down, now at j -/
def fM (ks : List (List Int)) (i j p : Nat) : Int := if p < j then oI ks i p else if p = j then (i : Int) else if p ≤ i then oI ks i (p - 1) else (p : Int)
theorem ordK_next (ks : List (List Int)) {i t : Nat} (h : insAt ks (ks.getD i []) (ordK ks i) i = t) (ht : t ≤ i) : ∀ p, p ≤ i → (ordK ks (i + 1)).getD p 0 = if p < t then (ordK ks i).getD p 0 else if p = t then i else (ordK ks i).getD (p - 1) 0 := by
  intro p hp
  have e : ordK ks (i + 1) = (ordK ks i).take t ++ [i] ++ (ordK ks i).drop t := by simp only [ordK, ordK_length, h]
  have hl := ordK_length ks i
  rw [e]
  simp only [List.getD, List.append_assoc]
  by_cases c1 : p < t
  · rw [if_pos c1, List.getElem?_append_left (by rw [List.length_take]; omega), List.getElem?_take, if_pos c1]
  · rw [if_neg c1, List.getElem?_append_right (by rw [List.length_take]; omega), List.length_take, hl, Nat.min_eq_left ht]
    by_cases c2 : p = t
    · subst c2; simp
    · rw [if_neg c2, List.getElem?_append_right (by simp; omega), List.getElem?_drop]
      congr 2
      simp; omega
theorem fM_start (ks : List (List Int)) (i p : Nat) : fM ks i i p = fO ks i p := by
  unfold fM fO
  by_cases c : p < i
  · rw [if_pos c, if_pos c]
  · rw [if_neg c, if_neg c]
    by_cases c2 : p = i
    · subst c2; rw [if_pos rfl]
    · rw [if_neg c2, if_neg (by omega)]
theorem fM_end (ks : List (List Int)) {i t : Nat} (h : insAt ks (ks.getD i []) (ordK ks i) i = t) (ht : t ≤ i) (p : Nat) : fM ks i t p = fO ks (i + 1) p := by
  unfold fM fO
  by_cases c : p < i + 1
  · rw [if_pos c]
    unfold oI
    rw [ordK_next ks h ht p (by omega)]
    by_cases c1 : p < t
    · rw [if_pos c1, if_pos c1]
    · rw [if_neg c1, if_neg c1]
      by_cases c2 : p = t
      · rw [if_pos c2, if_pos c2]
      · rw [if_neg c2, if_neg c2, if_pos (by omega)]
  · rw [if_neg c, if_neg (by omega), if_neg (by omega), if_neg (by omega)]
theorem fM_step (ks : List (List Int)) {i s n : Nat} (hs : s < i) : ∀ p, p < n → fM ks i s p = if p = s then (i : Int) else if p = s + 1 then oI ks i s else fM ks i (s + 1) p := by
  intro p _
  by_cases c : p = s
  · subst c; unfold fM; simp
  · rw [if_neg c]
    by_cases c2 : p = s + 1
    · subst c2; unfold fM; rw [if_pos rfl, if_neg (by omega), if_neg (by omega), if_pos (by omega)]; simp
    · rw [if_neg c2]
      unfold fM
      by_cases c3 : p < s
      · rw [if_pos c3, if_pos (show p < s + 1 by omega)]
      · rw [if_neg c3, if_neg (show ¬ p < s + 1 by omega), if_neg c, if_neg c2]
theorem fO_one (ks : List (List Int)) (p : Nat) : fO ks 1 p = (p : Int) := by
  unfold fO oI
  split
  · have : p = 0 := by omega
    subst this; simp [ordK, insAt]
  · rfl
theorem rl_end (ks : List (List Int)) (n : Nat) : rl (fO ks n) n = (ordI ks n).map (Value.int .i64) := by
  apply List.ext_getElem?
  intro p
  by_cases hp : p < n
  · rw [rl_get hp]
    unfold fO oI
    rw [if_pos hp, List.getElem?_map, ← ordI_at ks hp, List.getD, List.getElem?_eq_getElem (by rw [ordI_length]; exact hp)]; rfl
  · rw [List.getElem?_eq_none (by rw [rl_length]; omega), List.getElem?_eq_none (by rw [List.length_map, ordI_length]; omega)]
theorem insAt_gt (ks : List (List Int)) {i s : Nat} (hl : lexB (ks.getD i []) (ks.getD ((ordK ks i).getD s 0) []) = true) : insAt ks (ks.getD i []) (ordK ks i) (s + 1) = insAt ks (ks.getD i []) (ordK ks i) s := by
  conv => lhs; unfold insAt
  rw [if_pos hl]
theorem insAt_stop (ks : List (List Int)) {i s : Nat} (hl : lexB (ks.getD i []) (ks.getD ((ordK ks i).getD s 0) []) = false) : insAt ks (ks.getD i []) (ordK ks i) (s + 1) = s + 1 := by
  conv => lhs; unfold insAt
  rw [if_neg (by rw [hl]; simp)]
/-- What the sort asks of the comparison. -/
def CmpOk (F : Nat) (cb : Array Value) (cf : Nat → Nat → Int) (n g : Nat) (W0 : World) : Prop :=
  ∀ (k j : Nat) (W : World), k < n → j < n → Below g W0 W → Calls Try.prog F (#[.int .i64 (k : Int), .int .i64 (j : Int)] ++ cb) W fun e w' => e = .returned (.int .i64 (cf k j)) ∧ Below W.heap.size W w'
end Go.Proofs.Ytlfjgggidoakaaa
