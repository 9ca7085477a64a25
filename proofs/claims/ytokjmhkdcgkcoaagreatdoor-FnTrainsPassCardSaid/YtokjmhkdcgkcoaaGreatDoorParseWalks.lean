/- Reading a snail's text: the model's reader and the program's, by contracts. -/
import Derived.Test.YtokjmhkdcgkcoaaGreatDoorProg
import Derived.Test.YtokjmhkdcgkcoaaGreatDoorMath
import Derived.Test.YtokjmhkdcgkcoaaGreatDoorOneWalks
import Derived.Test.YtokjmhkdcgkcoaaGreatDoorShelf
import Derived.Test.YtokjmhkdcgkcoaaGreatDoorTextWalks
import Derived.Test.YtokjmhkdcgkcoaaGreatDoorReadWalks
import Derived.WalkKit
import Derived.WalkSpells
import Derived.WalkLawsBesides
import Derived.Lib.Hide
import Derived.Lib.ItoaNum
import Derived.Lib.AtoiTie
import Derived.Lib.AtoiErrMem
import Derived.Lib.IndexLaws
import Derived.Lib.IndexMore
import Derived.Lib.LaidTab
import Derived.Deep.RegionWith
import Derived.Deep.RegionHeld3
namespace Go.Proofs.YtokjmhkdcgkcoaaGreatDoor
open Go.RowKit
set_option linter.unusedVariables false
set_option linter.unusedSimpArgs false

theorem decFrom_snoc (l : List UInt8) (b : UInt8) (d : Nat) (hd : Lib.digitVal b = some d) : ∀ acc, Lib.decFrom acc (l ++ [b]) = (Lib.decFrom acc l).map fun m => m * 10 + d := by
  induction l with
  | nil => intro acc; simp [Lib.decFrom, hd]
  | cons x r ih =>
    intro acc
    simp only [List.cons_append, Lib.decFrom]
    cases Lib.digitVal x with
    | none => rfl
    | some e => simp only []; exact ih _
theorem digit_of (d : Nat) (h : d < 10) : Lib.digitVal (UInt8.ofNat (48 + d)) = some d := by
  have : (UInt8.ofNat (48 + d)).toNat = 48 + d := by rw [UInt8.toNat_ofNat']; omega
  unfold Lib.digitVal; rw [this, if_pos (by omega)]; congr 1; omega
theorem decDigits_big {n : Nat} (h : ¬ n < 10) : Lib.decDigits n = Lib.decDigits (n / 10) ++ [UInt8.ofNat (48 + n % 10)] := by rw [Lib.decDigits, dif_neg h]
theorem decDigits_one {n : Nat} (h : n < 10) : Lib.decDigits n = [UInt8.ofNat (48 + n)] := by rw [Lib.decDigits, dif_pos h]
theorem decFrom_digits (n : Nat) : Lib.decFrom 0 (Lib.decDigits n) = some n := by
  induction n using Nat.strongRecOn with
  | ind n ih =>
    by_cases h : n < 10
    · rw [decDigits_one h]; simp only [Lib.decFrom, digit_of n h]; simp
    · rw [decDigits_big h, decFrom_snoc _ _ _ (digit_of (n % 10) (by omega)), ih (n / 10) (by omega)]
      simp only [Option.map_some]; congr 1; omega
theorem decDigits_ne (n : Nat) : Lib.decDigits n ≠ [] := by
  by_cases h : n < 10
  · rw [decDigits_one h]; simp
  · rw [decDigits_big h]; simp
theorem decDigits_mem (n : Nat) : ∀ b ∈ Lib.decDigits n, 48 ≤ b.toNat ∧ b.toNat ≤ 57 := by
  induction n using Nat.strongRecOn with
  | ind n ih =>
    intro b hb
    have key : ∀ d, d < 10 → 48 ≤ (UInt8.ofNat (48 + d)).toNat ∧ (UInt8.ofNat (48 + d)).toNat ≤ 57 := by
      intro d hd
      have : (UInt8.ofNat (48 + d)).toNat = 48 + d := by rw [UInt8.toNat_ofNat']; omega
      omega
    by_cases h : n < 10
    · rw [decDigits_one h] at hb
      simp only [List.mem_singleton] at hb
      rw [hb]; exact key n h
    · rw [decDigits_big h] at hb
      rcases List.mem_append.1 hb with hb | hb
      · exact ih (n / 10) (by omega) b hb
      · simp only [List.mem_singleton] at hb
        rw [hb]; exact key _ (by omega)
theorem decDigits_head (n : Nat) : 1 ≤ n → (Lib.decDigits n).head? ≠ some 48 := by
  induction n using Nat.strongRecOn with
  | ind n ih =>
    intro h1
    by_cases h : n < 10
    · rw [decDigits_one h]
      intro q
      simp only [List.head?_cons, Option.some.injEq] at q
      have : (UInt8.ofNat (48 + n)).toNat = 48 + n := by rw [UInt8.toNat_ofNat']; omega
      rw [q] at this
      have e : (48 : UInt8).toNat = 48 := rfl
      omega
    · rw [decDigits_big h]
      have i := ih (n / 10) (by omega) (by omega)
      have ne := decDigits_ne (n / 10)
      revert i ne
      cases Lib.decDigits (n / 10) with
      | nil => intro _ ne; exact absurd rfl ne
      | cons x r => intro i _; exact i
theorem rdL_digits (n : Nat) (h : n ≤ 999999) : rdL (Lib.decDigits n) = n := by
  have hl := decDigits_len 5 n (by omega)
  have hne := decDigits_ne n
  refine rdL_some ?_ (by omega) ?_ (decFrom_digits n)
  · cases hd : Lib.decDigits n with
    | nil => exact absurd hd hne
    | cons _ _ => simp
  · intro q
    by_cases h1 : 1 ≤ n
    · exact absurd q (decDigits_head n h1)
    · rw [decDigits_one (by omega)]; simp
theorem atoi_digits (n : Nat) (h : n ≤ 999999) : Lib.atoiAll (Lib.decDigits n) = .ok (n : Int) := by
  have hl := decDigits_len 5 n (by omega)
  rw [Lib.atoiAll_short _ (by omega)]
  have hm := decDigits_mem n
  have hd := decFrom_digits n
  cases he : Lib.decDigits n with
  | nil => exact absurd he (decDigits_ne n)
  | cons b r =>
    rw [he] at hm hd
    have hb := hm b (by simp)
    have b1 : (b == 45) = false := by
      rw [beq_eq_false_iff_ne]; intro q; rw [q] at hb; exact absurd hb.1 (by decide)
    have b2 : (b == 43) = false := by
      rw [beq_eq_false_iff_ne]; intro q; rw [q] at hb; exact absurd hb.1 (by decide)
    simp [Lib.atoi, b1, b2, Lib.decNat, hd, Lib.NumEnd.ofOption]
theorem dash_free (n : Nat) : (45 : UInt8) ∉ Lib.decDigits n := fun q => absurd (decDigits_mem n 45 q).1 (by decide)
theorem spl_free {c : UInt8} : ∀ {u : List UInt8}, c ∉ u → spl c u = [u] := by
  intro u
  induction u with
  | nil => intro _; rfl
  | cons x r ih =>
    intro h
    have h1 : ¬ x = c := fun q => h (by rw [q]; simp)
    simp only [spl, h1, if_false]
    rw [ih (fun q => h (by simp [q]))]; rfl
theorem spl_cons {c : UInt8} {d : List UInt8} : ∀ {u : List UInt8}, c ∉ u → spl c (u ++ c :: d) = u :: spl c d := by
  intro u
  induction u with
  | nil => intro _; simp [spl]
  | cons x r ih =>
    intro h
    have h1 : ¬ x = c := fun q => h (by rw [q]; simp)
    simp only [List.cons_append, spl, h1, if_false]
    rw [ih (fun q => h (by simp [q]))]; rfl
theorem spl_len (c : UInt8) : ∀ (l p : List UInt8), p ∈ spl c l → p.length ≤ l.length := by
  intro l
  induction l with
  | nil => intro p h; simp [spl] at h; simp [h]
  | cons x r ih =>
    intro p h
    simp only [spl] at h
    by_cases hx : x = c
    · rw [if_pos hx] at h
      rcases List.mem_cons.1 h with h | h
      · simp [h]
      · have := ih p h; simp; omega
    · rw [if_neg hx] at h
      cases hs : spl c r with
      | nil => rw [hs] at h; simp [prep] at h
      | cons a zs =>
        rw [hs, prep_cons] at h
        rcases List.mem_cons.1 h with h | h
        · have := ih a (by rw [hs]; simp)
          rw [h]; simp; omega
        · have := ih p (by rw [hs]; simp [h])
          simp; omega
theorem stx_list (U D : Nat) : (stx U D).data.toList = Lib.decDigits U ++ 45 :: Lib.decDigits D := by
  unfold stx; simp [bytes_app]
theorem stx_size (U D : Nat) (hU : U ≤ 1000) (hD : D ≤ 1000) : (stx U D).size ≤ 9 := by
  have k1 := decDigits_len 3 U (by omega)
  have k2 := decDigits_len 3 D (by omega)
  have : (stx U D).size = (stx U D).data.toList.length := by simp
  rw [this, stx_list]; simp; omega
theorem spl_stx (U D : Nat) : spl 45 (stx U D).data.toList = [Lib.decDigits U, Lib.decDigits D] := by
  rw [stx_list, spl_cons (dash_free U), spl_free (dash_free D)]
theorem indexByte_here {c : UInt8} {d : List UInt8} : ∀ {u : List UInt8}, c ∉ u → Lib.indexByte (u ++ c :: d) c = u.length := by
  intro u
  induction u with
  | nil => intro _; simp [Lib.indexByte]
  | cons x r ih =>
    intro h
    have h1 : (x == c) = false := by rw [beq_eq_false_iff_ne]; exact fun q => h (by rw [q]; simp)
    have := ih (fun q => h (by simp [q]))
    simp only [List.cons_append, Lib.indexByte, h1, this]
    have h2 : (((r.length : Nat) : Int) == -1) = false := by rw [beq_eq_false_iff_ne]; omega
    simp [h2]
theorem cut_stx (U D : Nat) : Lib.cut (stx U D).data.toList [45] = (Lib.decDigits U, Lib.decDigits D, true) := by
  have : Lib.index (stx U D).data.toList [45] = ((Lib.decDigits U).length : Int) := by
    rw [Lib.index_one, stx_list]; exact indexByte_here (dash_free U)
  unfold Lib.cut
  rw [this, if_pos (by omega), stx_list]
  simp [List.drop_append]
theorem two_of {ss : List ByteArray} {x y : List UInt8} (h : ss.map lst = [x, y]) : ∃ a b, ss = [a, b] ∧ a.data.toList = x ∧ b.data.toList = y := by
  match ss, h with
  | [a, b], h => simp [lst] at h; exact ⟨a, b, rfl, h.1, h.2⟩
theorem two_len {ss : List ByteArray} (h : ss.length = 2) : ∃ a b, ss = [a, b] := by
  match ss, h with
  | [a, b], _ => exact ⟨a, b, rfl⟩
end Go.Proofs.YtokjmhkdcgkcoaaGreatDoor
