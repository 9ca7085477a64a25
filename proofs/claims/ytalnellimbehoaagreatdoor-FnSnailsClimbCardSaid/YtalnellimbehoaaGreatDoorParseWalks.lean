/- Reading a snail's text: the model's reader and the program's, by contracts. -/
import Derived.Test.YtalnellimbehoaaGreatDoorProg
import Derived.Test.YtalnellimbehoaaGreatDoorMath
import Derived.Test.YtalnellimbehoaaGreatDoorOneWalks
import Derived.Test.YtalnellimbehoaaGreatDoorShelf
import Derived.Test.YtalnellimbehoaaGreatDoorTextWalks
import Derived.Test.YtalnellimbehoaaGreatDoorReadWalks
import Derived.WalkKit
import Derived.WalkSpells
import Derived.WalkLawsBesides
import Derived.Lib.Hide
import Derived.Lib.ItoaNum
import Derived.Lib.AtoiTie
import Derived.Lib.AtoiErrMem
import Derived.Lib.IndexLaws
import Derived.Lib.IndexMore
import Derived.Lib.LaidTab
import Derived.Deep.RegionWith
import Derived.Deep.RegionHeld3
namespace Go.Proofs.YtalnellimbehoaaGreatDoor
open Go.RowKit
set_option linter.unusedVariables false
set_option linter.unusedSimpArgs false

theorem decFrom_snoc (l : List UInt8) (b : UInt8) (d : Nat) (hd : Lib.digitVal b = some d) : ∀ acc, Lib.decFrom acc (l ++ [b]) = (Lib.decFrom acc l).map fun m => m * 10 + d := by
  induction l with
  | nil => intro acc; simp [Lib.decFrom, hd]
  | cons x r ih =>
    intro acc
    simp only [List.cons_append, Lib.decFrom]
    cases Lib.digitVal x with
    | none => rfl
    | some e => simp only []; exact ih _
theorem digit_of (d : Nat) (h : d < 10) : Lib.digitVal (UInt8.ofNat (48 + d)) = some d := by
  have : (UInt8.ofNat (48 + d)).toNat = 48 + d := by rw [UInt8.toNat_ofNat']; omega
  unfold Lib.digitVal; rw [this, if_pos (by omega)]; congr 1; omega
theorem decDigits_big {n : Nat} (h : ¬ n < 10) : Lib.decDigits n = Lib.decDigits (n / 10) ++ [UInt8.ofNat (48 + n % 10)] := by rw [Lib.decDigits, dif_neg h]
theorem decDigits_one {n : Nat} (h : n < 10) : Lib.decDigits n = [UInt8.ofNat (48 + n)] := by rw [Lib.decDigits, dif_pos h]
theorem decFrom_digits (n : Nat) : Lib.decFrom 0 (Lib.decDigits n) = some n := by
  induction n using Nat.strongRecOn with
  | ind n ih =>
    by_cases h : n < 10
    · rw [decDigits_one h]; simp only [Lib.decFrom, digit_of n h]; simp
    · rw [decDigits_big h, decFrom_snoc _ _ _ (digit_of (n % 10) (by omega)), ih (n / 10) (by omega)]
      simp only [Option.map_some]; congr 1; omega
theorem decDigits_ne (n : Nat) : Lib.decDigits n ≠ [] := by
  by_cases h : n < 10
  · rw [decDigits_one h]; simp
  · rw [decDigits_big h]; simp
theorem decDigits_mem (n : Nat) : ∀ b ∈ Lib.decDigits n, 48 ≤ b.toNat ∧ b.toNat ≤ 57 := by
  induction n using Nat.strongRecOn with
  | ind n ih =>
    intro b hb
    have key : ∀ d, d < 10 → 48 ≤ (UInt8.ofNat (48 + d)).toNat ∧ (UInt8.ofNat (48 + d)).toNat ≤ 57 := by
      intro d hd
      have : (UInt8.ofNat (48 + d)).toNat = 48 + d := by rw [UInt8.toNat_ofNat']; omega
      omega
    by_cases h : n < 10
    · rw [decDigits_one h] at hb
      simp only [List.mem_singleton] at hb
      rw [hb]; exact key n h
    · rw [decDigits_big h] at hb
      rcases List.mem_append.1 hb with hb | hb
      · exact ih (n / 10) (by omega) b hb
      · simp only [List.mem_singleton] at hb
        rw [hb]; exact key _ (by omega)
theorem decDigits_head (n : Nat) : 1 ≤ n → (Lib.decDigits n).head? ≠ some 48 := by
  induction n using Nat.strongRecOn with
  | ind n ih =>
    intro h1
    by_cases h : n < 10
    · rw [decDigits_one h]
      intro q
      simp only [List.head?_cons, Option.some.injEq] at q
      have : (UInt8.ofNat (48 + n)).toNat = 48 + n := by rw [UInt8.toNat_ofNat']; omega
      rw [q] at this
      have e : (48 : UInt8).toNat = 48 := rfl
      omega
    · rw [decDigits_big h]
      have i := ih (n / 10) (by omega) (by omega)
      have ne := decDigits_ne (n / 10)
      revert i ne
      cases Lib.decDigits (n / 10) with
      | nil => intro _ ne; exact absurd rfl ne
      | cons x r => intro i _; exact i
theorem rdL_digits (n : Nat) (h : n ≤ 999999) : rdL (Lib.decDigits n) = n := by
  have hl := decDigits_len 5 n (by omega)
  have hne := decDigits_ne n
  refine rdL_some ?_ (by omega) ?_ (decFrom_digits n)
  · cases hd : Lib.decDigits n with
    | nil => exact absurd hd hne
    | cons _ _ => simp
  · intro q
    by_cases h1 : 1 ≤ n
    · exact absurd q (decDigits_head n h1)
    · rw [decDigits_one (by omega)]; simp
theorem atoi_digits (n : Nat) (h : n ≤ 999999) : Lib.atoiAll (Lib.decDigits n) = .ok (n : Int) := by
  have hl := decDigits_len 5 n (by omega)
  rw [Lib.atoiAll_short _ (by omega)]
  have hm := decDigits_mem n
  have hd := decFrom_digits n
  cases he : Lib.decDigits n with
  | nil => exact absurd he (decDigits_ne n)
  | cons b r =>
    rw [he] at hm hd
    have hb := hm b (by simp)
    have b1 : (b == 45) = false := by
      rw [beq_eq_false_iff_ne]; intro q; rw [q] at hb; exact absurd hb.1 (by decide)
    have b2 : (b == 43) = false := by
      rw [beq_eq_false_iff_ne]; intro q; rw [q] at hb; exact absurd hb.1 (by decide)
    simp [Lib.atoi, b1, b2, Lib.decNat, hd, Lib.NumEnd.ofOption]
theorem dash_free (n : Nat) : (45 : UInt8) ∉ Lib.decDigits n := fun q => absurd (decDigits_mem n 45 q).1 (by decide)
theorem spl_free {c : UInt8} : ∀ {u : List UInt8}, c ∉ u → spl c u = [u] := by
  intro u
  induction u with
  | nil => intro _; rfl
  | cons x r ih =>
    intro h
    have h1 : ¬ x = c := fun q => h (by rw [q]; simp)
    simp only [spl, h1, if_false]
    rw [ih (fun q => h (by simp [q]))]; rfl
theorem spl_cons {c : UInt8} {d : List UInt8} : ∀ {u : List UInt8}, c ∉ u → spl c (u ++ c :: d) = u :: spl c d := by
  intro u
  induction u with
  | nil => intro _; simp [spl]
  | cons x r ih =>
    intro h
    have h1 : ¬ x = c := fun q => h (by rw [q]; simp)
    simp only [List.cons_append, spl, h1, if_false]
    rw [ih (fun q => h (by simp [q]))]; rfl
theorem spl_len (c : UInt8) : ∀ (l p : List UInt8), p ∈ spl c l → p.length ≤ l.length := by
  intro l
  induction l with
  | nil => intro p h; simp [spl] at h; simp [h]
  | cons x r ih =>
    intro p h
    simp only [spl] at h
    by_cases hx : x = c
    · rw [if_pos hx] at h
      rcases List.mem_cons.1 h with h | h
      · simp [h]
      · have := ih p h; simp; omega
    · rw [if_neg hx] at h
      cases hs : spl c r with
      | nil => rw [hs] at h; simp [prep] at h
      | cons a zs =>
        rw [hs, prep_cons] at h
        rcases List.mem_cons.1 h with h | h
        · have := ih a (by rw [hs]; simp)
          rw [h]; simp; omega
        · have := ih p (by rw [hs]; simp [h])
          simp; omega
theorem stx_list (U D : Nat) : (stx U D).data.toList = Lib.decDigits U ++ 45 :: Lib.decDigits D := by
  unfold stx; simp [bytes_app]
theorem stx_size (U D : Nat) (hU : U ≤ 1000) (hD : D ≤ 1000) : (stx U D).size ≤ 9 := by
  have k1 := decDigits_len 3 U (by omega)
  have k2 := decDigits_len 3 D (by omega)
  have : (stx U D).size = (stx U D).data.toList.length := by simp
  rw [this, stx_list]; simp; omega
theorem spl_stx (U D : Nat) : spl 45 (stx U D).data.toList = [Lib.decDigits U, Lib.decDigits D] := by
  rw [stx_list, spl_cons (dash_free U), spl_free (dash_free D)]
theorem indexByte_here {c : UInt8} {d : List UInt8} : ∀ {u : List UInt8}, c ∉ u → Lib.indexByte (u ++ c :: d) c = u.length := by
  intro u
  induction u with
  | nil => intro _; simp [Lib.indexByte]
  | cons x r ih =>
    intro h
    have h1 : (x == c) = false := by rw [beq_eq_false_iff_ne]; exact fun q => h (by rw [q]; simp)
    have := ih (fun q => h (by simp [q]))
    simp only [List.cons_append, Lib.indexByte, h1, this]
    have h2 : (((r.length : Nat) : Int) == -1) = false := by rw [beq_eq_false_iff_ne]; omega
    simp [h2]
theorem cut_stx (U D : Nat) : Lib.cut (stx U D).data.toList [45] = (Lib.decDigits U, Lib.decDigits D, true) := by
  have : Lib.index (stx U D).data.toList [45] = ((Lib.decDigits U).length : Int) := by
    rw [Lib.index_one, stx_list]; exact indexByte_here (dash_free U)
  unfold Lib.cut
  rw [this, if_pos (by omega), stx_list]
  simp [List.drop_append]
theorem two_of {ss : List ByteArray} {x y : List UInt8} (h : ss.map lst = [x, y]) : ∃ a b, ss = [a, b] ∧ a.data.toList = x ∧ b.data.toList = y := by
  match ss, h with
  | [a, b], h => simp [lst] at h; exact ⟨a, b, rfl, h.1, h.2⟩
theorem two_len {ss : List ByteArray} (h : ss.length = 2) : ∃ a b, ss = [a, b] := by
  match ss, h with
  | [a, b], _ => exact ⟨a, b, rfl⟩
theorem l1Split_dash (s : ByteArray) (hs : s.size ≤ 1048576) (w : World) :
    Calls Tryz.prog 66 #[.string s, .int .u8 45] w fun e w' => ∃ (a : Option Addr) (cap : Nat) (ss : List ByteArray), e = .returned (.slice a ss.length cap) ∧ OwnT w' w.heap.size a cap ss ∧ Below w.heap.size w w' ∧ ss.map lst = spl 45 s.data.toList := l1Split_any s 45 hs w
theorem rdT_two {w : World} {a : Option Addr} {p q : ByteArray} (h : RdT w a [p, q]) : ∃ b off, a = some ⟨b, off, none⟩ ∧ b < w.heap.size ∧ w.cell? ⟨b, off, none⟩ = some (.string p) ∧ w.cell? ⟨b, off + 1, none⟩ = some (.string q) := by
  rcases h with h | ⟨b, off, rfl, hlt, hc⟩
  · cases h
  · exact ⟨b, off, rfl, hlt, hc 0 (by simp), hc 1 (by simp)⟩
set_option maxHeartbeats 1000000 in
theorem specParse_yes (U D : Nat) (ok : snOk U D = true) (w : World) :
    Calls Tryz.prog 33 #[.string (stx U D)] w fun e w' => e = .returned (.tuple #[.agg #[.int .i64 (U : Int), .int .i64 (D : Int)], .bool true]) ∧ Below w.heap.size w w' := by
  have sl := snOk_iff.1 ok
  have hU : U ≤ 1000 := by omega
  have hD : D ≤ 1000 := by omega
  have hsz := stx_size U D hU hD
  have hrU := rdL_digits U (by omega)
  have hrD := rdL_digits D (by omega)
  have hsp := spl_stx U D
  clear sl
  go_enter Tryz.func33, Tryz.ntmps33
  go_wp2_with fail
  refine (l1Split_dash (stx U D) (by omega) _).mono ?_; rintro e w1 ⟨a1, c1, ss, rfl, hown, hb, hss⟩
  obtain ⟨p, q, rfl, hp, hq⟩ := two_of (hss.trans hsp)
  obtain ⟨b, off, rfl, hlt, hc0, hc1⟩ := rdT_two hown.rd
  have hsp' : p.size ≤ 100 := by
    have k1 := decDigits_len 3 U (by omega)
    have : p.size = p.data.toList.length := by simp
    rw [this, hp]; omega
  have hsq' : q.size ≤ 100 := by
    have k1 := decDigits_len 3 D (by omega)
    have : q.size = q.data.toList.length := by simp
    rw [this, hq]; omega
  clear hss hown hsp
  have hcP := Lib.hid (fun w => l1Read_any p (by omega) w)
  have hcQ := Lib.hid (fun w => l1Read_any q (by omega) w)
  rw [hp, hrU] at hcP
  rw [hq, hrD] at hcQ
  clear hp hq hrU hrD
  have hsz1 : w.heap.size < w1.heap.size := by have := hb.size; simp at this; omega
  have hcA := fun o => (bcell hb).1 w.heap.size o (by simp)
  have hfA := fun o => (bcell hb).2 w.heap.size o (by simp)
  go_wp2_with fail
  have hB0 : Below w.heap.size w w1 := ((Below.refl _ _).alloc (Nat.le_refl _) _).trans (hb.mono (by simp))
  clear hb
  go_region_held3 (fun w' => Below w.heap.size w w' ∧ w.heap.size < w'.heap.size ∧ w'.cell? ⟨b, off, none⟩ = some (.string p) ∧ w'.cell? ⟨b, off + 1, none⟩ = some (.string q))
    ((refine ⟨?_, ?_, ?_, ?_⟩; (focus (repeat (first | assumption | exact Below.refl _ _ | refine Below.drew ?_ | refine Below.alloc ?_ (by first | omega | (simp; done) | (simp; omega)) _ | refine bchain ?_ (by assumption) (by first | omega | (simp; done) | (simp; omega))))); (focus (first | assumption | omega | (simp; omega))); (focus (first | assumption | (go_simp; done))); (focus (first | assumption | (go_simp; done)))))
    (first | (go_at_call_of 67 (Value.string p); refine (hcP.out _).mono ?_; rintro e w2 ⟨rfl, rfl⟩) | (go_at_call_of 67 (Value.string q); refine (hcQ.out _).mono ?_; rintro e w2 ⟨rfl, rfl⟩))
  all_goals clear hc0 hc1
  all_goals go_wp2_with (first | (go_at_call 48; refine (snGood_any _ _ _).mono ?_; rintro e w2 ⟨rfl, hb2⟩; have hz2 := hb2.size; have hcB := fun o => (bcell hb2).1 w1.heap.size o (by first | (simp; done) | (simp; omega)); have hcC := fun o => (bcell hb2).1 w.heap.size o (by simp; omega); have hfC := fun o => (bcell hb2).2 w.heap.size o (by simp; omega)) | (go_at_call 50; refine (snText_any U D hU hD _).mono ?_; rintro e w3 ⟨rfl, hb3⟩; have hz3 := hb3.size; have hcD := fun o => (bcell hb3).1 w1.heap.size o (by first | omega | (simp at hz2; omega) | (simp at hz2; simp; omega)); have hcE := fun o => (bcell hb3).1 w.heap.size o (by first | omega | (simp at hz2; omega) | (simp at hz2; simp; omega)); have hfE := fun o => (bcell hb3).2 w.heap.size o (by first | omega | (simp at hz2; omega) | (simp at hz2; simp; omega))))
  all_goals refine bodyPost_ret (v := .tuple #[.agg #[.int .i64 (U : Int), .int .i64 (D : Int)], .bool true]) (by have e0 : (w3.cell? ⟨w.heap.size, 0, none⟩).isSome = true := (by rw [hcE, hcC]; go_simp); have e1 : (w3.cell? ⟨w.heap.size, 1, none⟩).isSome = true := (by rw [hcE, hcC]; go_simp); clear hcA hfA hcB hcC hfC hcD hcE hfE; simp [results, Tryz.results33, go_sem, e0, e1]) rfl ⟨rfl, ?_⟩
  all_goals (repeat (first | assumption | exact Below.refl _ _ | refine Below.setCell ?_ (by first | omega | simp) _ | refine Below.drew ?_ | refine Below.alloc ?_ (by first | omega | (simp; done) | (simp; omega)) _ | refine bchain ?_ (by assumption) (by first | omega | (simp; done) | (simp; omega) | (simp at hz2; omega))))
set_option maxHeartbeats 1000000 in
theorem specParse_no (t : ByteArray) (ht : t.size ≤ 1048576) (h : ∀ U D : Nat, snOk U D = true → stx U D ≠ t) (w : World) :
    Calls Tryz.prog 33 #[.string t] w fun e w' => e = .returned (.tuple #[.agg #[.int .i64 0, .int .i64 0], .bool false]) ∧ Below w.heap.size w w' := by
  have HN := Lib.hid h
  clear h
  go_enter Tryz.func33, Tryz.ntmps33
  go_wp2_with fail
  refine (l1Split_dash t ht _).mono ?_; rintro e w1 ⟨a1, c1, ss, rfl, hown, hb, hss⟩
  have hsz1 : w.heap.size < w1.heap.size := by have := hb.size; simp at this; omega
  have hcA := fun o => (bcell hb).1 w.heap.size o (by simp)
  have hfA := fun o => (bcell hb).2 w.heap.size o (by simp)
  have hB0 : Below w.heap.size w w1 := ((Below.refl _ _).alloc (Nat.le_refl _) _).trans (hb.mono (by simp))
  have HSS := Lib.hid hss
  clear hb hss
  by_cases h2 : t.size ≤ 9 ∧ ss.length = 2
  · obtain ⟨h9, h2⟩ := h2
    obtain ⟨p, q, rfl⟩ := two_len h2
    obtain ⟨b, off, rfl, hlt, hc0, hc1⟩ := rdT_two hown.rd
    clear hown h2
    have h9' : ¬ (9 : Int) < (t.size : Int) := by omega
    have hpl : p.size ≤ 1048576 := by
      have q1 := spl_len 45 t.data.toList (lst p) (by rw [← HSS.out]; simp)
      have q2 : (lst p).length = p.size := by unfold lst; simp
      have q3 : t.data.toList.length = t.size := by simp
      omega
    have hql : q.size ≤ 1048576 := by
      have q1 := spl_len 45 t.data.toList (lst q) (by rw [← HSS.out]; simp)
      have q2 : (lst q).length = q.size := by unfold lst; simp
      have q3 : t.data.toList.length = t.size := by simp
      omega
    clear HSS h9
    have hcP := Lib.hid (fun w => l1Read_any p (by omega) w)
    have hcQ := Lib.hid (fun w => l1Read_any q (by omega) w)
    have hup := rdL_bd p.data.toList
    have huq := rdL_bd q.data.toList
    clear hpl hql
    obtain ⟨u, hu⟩ : ∃ u, u = rdL p.data.toList := ⟨_, rfl⟩
    obtain ⟨d, hd⟩ : ∃ u, u = rdL q.data.toList := ⟨_, rfl⟩
    rw [← hu] at hcP hup
    rw [← hd] at hcQ huq
    clear hu hd
    cases hs : snOk u d
    · clear HN
      go_wp2_with fail
      go_region_held3 (fun w' => Below w.heap.size w w' ∧ w.heap.size < w'.heap.size ∧ w'.cell? ⟨b, off, none⟩ = some (.string p) ∧ w'.cell? ⟨b, off + 1, none⟩ = some (.string q))
        ((refine ⟨?_, ?_, ?_, ?_⟩; (focus (repeat (first | assumption | exact Below.refl _ _ | refine Below.drew ?_ | refine Below.alloc ?_ (by first | omega | (simp; done) | (simp; omega)) _ | refine bchain ?_ (by assumption) (by first | omega | (simp; done) | (simp; omega))))); (focus (first | assumption | omega | (simp; omega))); (focus (first | assumption | (go_simp; done))); (focus (first | assumption | (go_simp; done)))))
        (first | (go_at_call_of 67 (Value.string p); refine (hcP.out _).mono ?_; rintro e w2 ⟨rfl, rfl⟩) | (go_at_call_of 67 (Value.string q); refine (hcQ.out _).mono ?_; rintro e w2 ⟨rfl, rfl⟩))
      all_goals clear hc0 hc1
      all_goals go_wp2_with (go_at_call 48; refine (snGood_any _ _ _).mono ?_; rintro e w2 ⟨rfl, hb2⟩; have hz2 := hb2.size; have hcB := fun o => (bcell hb2).1 w1.heap.size o (by first | (simp; done) | (simp; omega)); have hcC := fun o => (bcell hb2).1 w.heap.size o (by simp; omega); have hfC := fun o => (bcell hb2).2 w.heap.size o (by simp; omega))
      all_goals refine bodyPost_ret (v := .tuple #[.agg #[.int .i64 0, .int .i64 0], .bool false]) (by have e0 : (w2.cell? ⟨w.heap.size, 0, none⟩).isSome = true := (by rw [hcC]; go_simp); have e1 : (w2.cell? ⟨w.heap.size, 1, none⟩).isSome = true := (by rw [hcC]; go_simp); clear hcA hfA hcB hcC hfC; simp [results, Tryz.results33, go_sem, e0, e1]) rfl ⟨rfl, ?_⟩
      all_goals (repeat (first | assumption | exact Below.refl _ _ | refine Below.setCell ?_ (by first | omega | simp) _ | refine Below.drew ?_ | refine Below.alloc ?_ (by first | omega | (simp; done) | (simp; omega)) _ | refine bchain ?_ (by assumption) (by first | omega | (simp; done) | (simp; omega) | (simp at hz2; omega))))
    · have sl := snOk_iff.1 hs
      obtain ⟨U, rfl⟩ := Int.eq_ofNat_of_zero_le (show 0 ≤ u by omega)
      obtain ⟨D, rfl⟩ := Int.eq_ofNat_of_zero_le (show 0 ≤ d by omega)
      have hU : U ≤ 1000 := by omega
      have hD : D ≤ 1000 := by omega
      have hne : stx U D ≠ t := HN.out U D hs
      have hne' : ((stx U D).toList == t.toList) = false := by
        rw [beq_eq_false_iff_ne, ByteArray.toList_eq, ByteArray.toList_eq]; intro q; exact hne (by cases hx : stx U D; cases t; rw [hx] at q; congr 1; exact Array.toList_inj.1 q)
      clear HN sl
      go_wp2_with fail
      go_region_held3 (fun w' => Below w.heap.size w w' ∧ w.heap.size < w'.heap.size ∧ w'.cell? ⟨b, off, none⟩ = some (.string p) ∧ w'.cell? ⟨b, off + 1, none⟩ = some (.string q))
        ((refine ⟨?_, ?_, ?_, ?_⟩; (focus (repeat (first | assumption | exact Below.refl _ _ | refine Below.drew ?_ | refine Below.alloc ?_ (by first | omega | (simp; done) | (simp; omega)) _ | refine bchain ?_ (by assumption) (by first | omega | (simp; done) | (simp; omega))))); (focus (first | assumption | omega | (simp; omega))); (focus (first | assumption | (go_simp; done))); (focus (first | assumption | (go_simp; done)))))
        (first | (go_at_call_of 67 (Value.string p); refine (hcP.out _).mono ?_; rintro e w2 ⟨rfl, rfl⟩) | (go_at_call_of 67 (Value.string q); refine (hcQ.out _).mono ?_; rintro e w2 ⟨rfl, rfl⟩))
      all_goals clear hc0 hc1
      all_goals go_wp2_with (first | (go_at_call 48; refine (snGood_any _ _ _).mono ?_; rintro e w2 ⟨rfl, hb2⟩; have hz2 := hb2.size; have hcB := fun o => (bcell hb2).1 w1.heap.size o (by first | (simp; done) | (simp; omega)); have hcC := fun o => (bcell hb2).1 w.heap.size o (by simp; omega); have hfC := fun o => (bcell hb2).2 w.heap.size o (by simp; omega)) | (go_at_call 50; refine (snText_any U D hU hD _).mono ?_; rintro e w3 ⟨rfl, hb3⟩; have hz3 := hb3.size; have hcD := fun o => (bcell hb3).1 w1.heap.size o (by first | omega | (simp at hz2; omega) | (simp at hz2; simp; omega)); have hcE := fun o => (bcell hb3).1 w.heap.size o (by first | omega | (simp at hz2; omega) | (simp at hz2; simp; omega)); have hfE := fun o => (bcell hb3).2 w.heap.size o (by first | omega | (simp at hz2; omega) | (simp at hz2; simp; omega))))
      all_goals first | (exfalso; omega; done) | skip
      all_goals refine bodyPost_ret (v := .tuple #[.agg #[.int .i64 0, .int .i64 0], .bool false]) (by have e0 : (w3.cell? ⟨w.heap.size, 0, none⟩).isSome = true := (by rw [hcE, hcC]; go_simp); have e1 : (w3.cell? ⟨w.heap.size, 1, none⟩).isSome = true := (by rw [hcE, hcC]; go_simp); clear hcA hfA hcB hcC hfC hcD hcE hfE; simp [results, Tryz.results33, go_sem, e0, e1]) rfl ⟨rfl, ?_⟩
      all_goals (repeat (first | assumption | exact Below.refl _ _ | refine Below.setCell ?_ (by first | omega | simp) _ | refine Below.drew ?_ | refine Below.alloc ?_ (by first | omega | (simp; done) | (simp; omega)) _ | refine bchain ?_ (by assumption) (by first | omega | (simp; done) | (simp; omega) | (simp at hz2; omega))))
  · by_cases h9 : t.size ≤ 9
    · have hne : ((ss.length : Int) != 2) = true := by rw [bne_iff_ne]; omega
      have h9' : ¬ (9 : Int) < (t.size : Int) := by omega
      clear hown h2 h9
      go_wp2_with fail
      all_goals refine bodyPost_ret (v := .tuple #[.agg #[.int .i64 0, .int .i64 0], .bool false]) (by have e0 : (w1.cell? ⟨w.heap.size, 0, none⟩).isSome = true := (by rw [hcA]; go_simp); have e1 : (w1.cell? ⟨w.heap.size, 1, none⟩).isSome = true := (by rw [hcA]; go_simp); clear hcA hfA; simp [results, Tryz.results33, go_sem, e0, e1]) rfl ⟨rfl, ?_⟩
      all_goals (repeat (first | assumption | exact Below.refl _ _ | refine Below.setCell ?_ (by first | omega | simp) _ | refine Below.drew ?_ | refine Below.alloc ?_ (by first | omega | (simp; done) | (simp; omega)) _ | refine bchain ?_ (by assumption) (by first | omega | (simp; done) | (simp; omega))))
    · have h9' : (9 : Int) < (t.size : Int) := by omega
      clear hown h2 h9
      go_wp2_with fail
      all_goals refine bodyPost_ret (v := .tuple #[.agg #[.int .i64 0, .int .i64 0], .bool false]) (by have e0 : (w1.cell? ⟨w.heap.size, 0, none⟩).isSome = true := (by rw [hcA]; go_simp); have e1 : (w1.cell? ⟨w.heap.size, 1, none⟩).isSome = true := (by rw [hcA]; go_simp); clear hcA hfA; simp [results, Tryz.results33, go_sem, e0, e1]) rfl ⟨rfl, ?_⟩
      all_goals (repeat (first | assumption | exact Below.refl _ _ | refine Below.setCell ?_ (by first | omega | simp) _ | refine Below.drew ?_ | refine Below.alloc ?_ (by first | omega | (simp; done) | (simp; omega)) _ | refine bchain ?_ (by assumption) (by first | omega | (simp; done) | (simp; omega))))
end Go.Proofs.YtalnellimbehoaaGreatDoor
