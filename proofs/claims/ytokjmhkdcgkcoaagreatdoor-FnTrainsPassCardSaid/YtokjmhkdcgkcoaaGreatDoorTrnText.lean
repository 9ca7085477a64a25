/- The texts of trains: the model's side. -/
import Derived.Test.YtokjmhkdcgkcoaaGreatDoorTrnWalks
import Derived.Test.YtokjmhkdcgkcoaaGreatDoorTextWalks
import Derived.Test.YtokjmhkdcgkcoaaGreatDoorReadWalks
import Derived.Test.YtokjmhkdcgkcoaaGreatDoorParseWalks
namespace Go.Proofs.YtokjmhkdcgkcoaaGreatDoor
open Go.RowKit
set_option linter.unusedVariables false
set_option linter.unusedSimpArgs false
def ttx (U D : Nat) : ByteArray := (⟨(Lib.decDigits U).toArray⟩ ++ ⟨#[47]⟩) ++ ⟨(Lib.decDigits D).toArray⟩
def txt (u d : Int) : ByteArray := if tnOk u d then ttx u.toNat d.toNat else ⟨#[]⟩
set_option maxHeartbeats 1000000 in
theorem tiText_any (U D : Nat) (hU : U ≤ 1000) (hD : D ≤ 1000) (w : World) :
    Calls Tryz.prog 42 #[.agg #[.int .i64 (U : Int), .int .i64 (D : Int)]] w fun e w' => e = .returned (.string (ttx U D)) ∧ Below w.heap.size w w' := by
  have k1 := decDigits_len 3 U (by omega)
  have k2 := decDigits_len 3 D (by omega)
  have hst : Hid (ttx U D = (⟨(Lib.decDigits U).toArray⟩ ++ ⟨#[47]⟩) ++ ⟨(Lib.decDigits D).toArray⟩) := rfl
  have hcU := Lib.hid (fun w => l1Num_any U (by omega) w)
  have hcD := Lib.hid (fun w => l1Num_any D (by omega) w)
  have f1 : ¬ (9223372036854775807 < (Lib.decDigits U).length + 1) := by omega
  have f2 : ¬ (9223372036854775807 < (Lib.decDigits U).length + 1 + (Lib.decDigits D).length) := by omega
  go_enter Tryz.func42, Tryz.ntmps42
  go_wp2_with fail
  go_region_held3 (fun w' => Below w.heap.size w w' ∧ w.heap.size < w'.heap.size ∧ w'.cell? ⟨w.heap.size, 0, none⟩ = some (.int .i64 (U : Int)) ∧ w'.cell? ⟨w.heap.size, 1, none⟩ = some (.int .i64 (D : Int)))
    (refine ⟨?_, ?_, ?_, ?_⟩ <;> first | assumption | omega | (go_simp; done) | (repeat (first | exact Below.refl _ _ | refine Below.drew ?_ | refine Below.alloc ?_ (by first | omega | (simp; done) | (simp; omega)) _ | refine bchain ?_ (by assumption) (by first | omega | (simp; done) | (simp; omega)))))
    (first | (go_at_call_of 65 (Value.int .i64 (U : Int)); refine (hcU.out _).mono ?_; rintro e w1 ⟨rfl, hb⟩; have hc := (bcell hb).1; have hz := hb.size) | (go_at_call_of 65 (Value.int .i64 (D : Int)); refine (hcD.out _).mono ?_; rintro e w1 ⟨rfl, hb⟩; have hc := (bcell hb).1; have hz := hb.size))
  all_goals (rename_i hS; go_wp2_with fail; go_ret; exact ⟨rfl, hS.1⟩)
set_option maxHeartbeats 1000000 in
theorem specTrainText (u d : Int) (w : World) :
    Calls Tryz.prog 13 #[.agg #[.int .i64 u, .int .i64 d]] w fun e w' => e = .returned (.tuple #[.string (txt u d), .bool (tnOk u d)]) ∧ Below w.heap.size w w' := by
  cases hs : tnOk u d
  · have hx : Hid (txt u d = ⟨#[]⟩) := by unfold Hid txt; rw [hs]; rfl
    go_enter Tryz.func13, Tryz.ntmps13
    go_wp2_with (first | (go_at_call 38; refine (tiGood_any _ _ _).mono ?_; rintro e w1 ⟨rfl, hb⟩; have hc := (bcell hb).1; have hz : w.heap.size < w1.heap.size := (by have := hb.size; (try simp at this); omega)) | go_in)
    go_ret2
    refine ⟨by rw [hx.out]; rfl, ?_⟩
    (repeat (first | exact Below.refl _ _ | refine Below.drew ?_ | refine Below.alloc ?_ (by first | omega | (simp; done) | (simp; omega)) _ | refine bchain ?_ (by assumption) (by first | omega | (simp; done) | (simp; omega))))
  · have sl := tnOk_iff.1 hs
    obtain ⟨U, rfl⟩ := Int.eq_ofNat_of_zero_le (show 0 ≤ u by omega)
    obtain ⟨D, rfl⟩ := Int.eq_ofNat_of_zero_le (show 0 ≤ d by omega)
    have hU : U ≤ 1000 := by omega
    have hD : D ≤ 1000 := by omega
    have hx : Hid (txt U D = ttx U D) := by unfold Hid txt; rw [hs]; rfl
    go_enter Tryz.func13, Tryz.ntmps13
    go_wp2_with (first | (go_at_call 38; refine (tiGood_any _ _ _).mono ?_; rintro e w1 ⟨rfl, hb⟩; have hc := (bcell hb).1; have hz : w.heap.size < w1.heap.size := (by have := hb.size; (try simp at this); omega)) | (go_at_call 42; refine (tiText_any U D hU hD _).mono ?_; rintro e w1 ⟨rfl, hb⟩; have hz : w.heap.size < w1.heap.size := (by have := hb.size; (try simp at this); omega)) | go_in)
    go_ret2
    refine ⟨by rw [hx.out]; rfl, ?_⟩
    (repeat (first | exact Below.refl _ _ | refine Below.drew ?_ | refine Below.alloc ?_ (by first | omega | (simp; done) | (simp; omega)) _ | refine bchain ?_ (by assumption) (by first | omega | (simp; done) | (simp; omega))))
theorem slash_free (n : Nat) : (47 : UInt8) ∉ Lib.decDigits n := fun q => absurd (decDigits_mem n 47 q).1 (by decide)
theorem ttx_list (U D : Nat) : (ttx U D).data.toList = Lib.decDigits U ++ 47 :: Lib.decDigits D := by
  unfold ttx; simp [bytes_app]
theorem ttx_size (U D : Nat) (hU : U ≤ 1000) (hD : D ≤ 100) : (ttx U D).size ≤ 8 := by
  have k1 := decDigits_len 3 U (by omega)
  have k2 := decDigits_len 2 D (by omega)
  have : (ttx U D).size = (ttx U D).data.toList.length := by simp
  rw [this, ttx_list]; simp; omega
theorem spl_ttx (U D : Nat) : spl 47 (ttx U D).data.toList = [Lib.decDigits U, Lib.decDigits D] := by
  rw [ttx_list, spl_cons (slash_free U), spl_free (slash_free D)]
theorem two_ofN {ss : List ByteArray} {x y : List UInt8} (h : ss.map lst = [x, y]) : ∃ a b, ss = [a, b] ∧ a.data.toList = x ∧ b.data.toList = y := by
  match ss, h with
  | [a, b], h => simp [lst] at h; exact ⟨a, b, rfl, h.1, h.2⟩
theorem two_lenN {ss : List ByteArray} (h : ss.length = 2) : ∃ a b, ss = [a, b] := by
  match ss, h with
  | [a, b], _ => exact ⟨a, b, rfl⟩
theorem l1Split_slash (s : ByteArray) (hs : s.size ≤ 1048576) (w : World) :
    Calls Tryz.prog 61 #[.string s, .int .u8 47] w fun e w' => ∃ (a : Option Addr) (cap : Nat) (ss : List ByteArray), e = .returned (.slice a ss.length cap) ∧ OwnT w' w.heap.size a cap ss ∧ Below w.heap.size w w' ∧ ss.map lst = spl 47 s.data.toList := l1Split_any s 47 hs w
theorem rdT_twoN {w : World} {a : Option Addr} {p q : ByteArray} (h : RdT w a [p, q]) : ∃ b off, a = some ⟨b, off, none⟩ ∧ b < w.heap.size ∧ w.cell? ⟨b, off, none⟩ = some (.string p) ∧ w.cell? ⟨b, off + 1, none⟩ = some (.string q) := by
  rcases h with h | ⟨b, off, rfl, hlt, hc⟩
  · cases h
  · exact ⟨b, off, rfl, hlt, hc 0 (by simp), hc 1 (by simp)⟩
set_option maxHeartbeats 1000000 in
theorem specParseTrain_yes (U D : Nat) (ok : tnOk U D = true) (w : World) :
    Calls Tryz.prog 33 #[.string (ttx U D)] w fun e w' => e = .returned (.tuple #[.agg #[.int .i64 (U : Int), .int .i64 (D : Int)], .bool true]) ∧ Below w.heap.size w w' := by
  have sl := tnOk_iff.1 ok
  have hU : U ≤ 1000 := by omega
  have hD : D ≤ 100 := by omega
  have hsz := ttx_size U D hU hD
  have hrU := rdL_digits U (by omega)
  have hrD := rdL_digits D (by omega)
  have hsp := spl_ttx U D
  clear sl
  go_enter Tryz.func33, Tryz.ntmps33
  go_wp2_with fail
  refine (l1Split_slash (ttx U D) (by omega) _).mono ?_; rintro e w1 ⟨a1, c1, ss, rfl, hown, hb, hss⟩
  obtain ⟨p, q, rfl, hp, hq⟩ := two_ofN (hss.trans hsp)
  obtain ⟨b, off, rfl, hlt, hc0, hc1⟩ := rdT_twoN hown.rd
  have hsp' : p.size ≤ 100 := by
    have k1 := decDigits_len 3 U (by omega)
    have : p.size = p.data.toList.length := by simp
    rw [this, hp]; omega
  have hsq' : q.size ≤ 100 := by
    have k1 := decDigits_len 3 D (by omega)
    have : q.size = q.data.toList.length := by simp
    rw [this, hq]; omega
  clear hss hown hsp
  have hcP := Lib.hid (fun w => l1Read_any p (by omega) w)
  have hcQ := Lib.hid (fun w => l1Read_any q (by omega) w)
  rw [hp, hrU] at hcP
  rw [hq, hrD] at hcQ
  clear hp hq hrU hrD
  have hsz1 : w.heap.size < w1.heap.size := by have := hb.size; simp at this; omega
  have hcA := fun o => (bcell hb).1 w.heap.size o (by simp)
  have hfA := fun o => (bcell hb).2 w.heap.size o (by simp)
  go_wp2_with fail
  have hB0 : Below w.heap.size w w1 := ((Below.refl _ _).alloc (Nat.le_refl _) _).trans (hb.mono (by simp))
  clear hb
  go_region_held3 (fun w' => Below w.heap.size w w' ∧ w.heap.size < w'.heap.size ∧ w'.cell? ⟨b, off, none⟩ = some (.string p) ∧ w'.cell? ⟨b, off + 1, none⟩ = some (.string q))
    ((refine ⟨?_, ?_, ?_, ?_⟩; (focus (repeat (first | assumption | exact Below.refl _ _ | refine Below.drew ?_ | refine Below.alloc ?_ (by first | omega | (simp; done) | (simp; omega)) _ | refine bchain ?_ (by assumption) (by first | omega | (simp; done) | (simp; omega))))); (focus (first | assumption | omega | (simp; omega))); (focus (first | assumption | (go_simp; done))); (focus (first | assumption | (go_simp; done)))))
    (first | (go_at_call_of 62 (Value.string p); refine (hcP.out _).mono ?_; rintro e w2 ⟨rfl, rfl⟩) | (go_at_call_of 62 (Value.string q); refine (hcQ.out _).mono ?_; rintro e w2 ⟨rfl, rfl⟩))
  all_goals clear hc0 hc1
  all_goals go_wp2_with (first | (go_at_call 38; refine (tiGood_any _ _ _).mono ?_; rintro e w2 ⟨rfl, hb2⟩; have hz2 := hb2.size; have hcB := fun o => (bcell hb2).1 w1.heap.size o (by first | (simp; done) | (simp; omega)); have hcC := fun o => (bcell hb2).1 w.heap.size o (by simp; omega); have hfC := fun o => (bcell hb2).2 w.heap.size o (by simp; omega)) | (go_at_call 42; refine (tiText_any U D hU (by omega) _).mono ?_; rintro e w3 ⟨rfl, hb3⟩; have hz3 := hb3.size; have hcD := fun o => (bcell hb3).1 w1.heap.size o (by first | omega | (simp at hz2; omega) | (simp at hz2; simp; omega)); have hcE := fun o => (bcell hb3).1 w.heap.size o (by first | omega | (simp at hz2; omega) | (simp at hz2; simp; omega)); have hfE := fun o => (bcell hb3).2 w.heap.size o (by first | omega | (simp at hz2; omega) | (simp at hz2; simp; omega))))
  all_goals refine bodyPost_ret (v := .tuple #[.agg #[.int .i64 (U : Int), .int .i64 (D : Int)], .bool true]) (by have e0 : (w3.cell? ⟨w.heap.size, 0, none⟩).isSome = true := (by rw [hcE, hcC]; go_simp); have e1 : (w3.cell? ⟨w.heap.size, 1, none⟩).isSome = true := (by rw [hcE, hcC]; go_simp); clear hcA hfA hcB hcC hfC hcD hcE hfE; simp [results, Tryz.results33, go_sem, e0, e1]) rfl ⟨rfl, ?_⟩
  all_goals (repeat (first | assumption | exact Below.refl _ _ | refine Below.setCell ?_ (by first | omega | simp) _ | refine Below.drew ?_ | refine Below.alloc ?_ (by first | omega | (simp; done) | (simp; omega)) _ | refine bchain ?_ (by assumption) (by first | omega | (simp; done) | (simp; omega) | (simp at hz2; omega))))
set_option maxHeartbeats 1000000 in
theorem specParseTrain_no (t : ByteArray) (ht : t.size ≤ 1048576) (h : ∀ U D : Nat, tnOk U D = true → ttx U D ≠ t) (w : World) :
    Calls Tryz.prog 33 #[.string t] w fun e w' => e = .returned (.tuple #[.agg #[.int .i64 0, .int .i64 0], .bool false]) ∧ Below w.heap.size w w' := by
  have HN := Lib.hid h
  clear h
  go_enter Tryz.func33, Tryz.ntmps33
  go_wp2_with fail
  refine (l1Split_slash t ht _).mono ?_; rintro e w1 ⟨a1, c1, ss, rfl, hown, hb, hss⟩
  have hsz1 : w.heap.size < w1.heap.size := by have := hb.size; simp at this; omega
  have hcA := fun o => (bcell hb).1 w.heap.size o (by simp)
  have hfA := fun o => (bcell hb).2 w.heap.size o (by simp)
  have hB0 : Below w.heap.size w w1 := ((Below.refl _ _).alloc (Nat.le_refl _) _).trans (hb.mono (by simp))
  have HSS := Lib.hid hss
  clear hb hss
  by_cases h2 : t.size ≤ 8 ∧ ss.length = 2
  · obtain ⟨h9, h2⟩ := h2
    obtain ⟨p, q, rfl⟩ := two_lenN h2
    obtain ⟨b, off, rfl, hlt, hc0, hc1⟩ := rdT_twoN hown.rd
    clear hown h2
    have h9' : ¬ (8 : Int) < (t.size : Int) := by omega
    have hpl : p.size ≤ 1048576 := by
      have q1 := spl_len 47 t.data.toList (lst p) (by rw [← HSS.out]; simp)
      have q2 : (lst p).length = p.size := by unfold lst; simp
      have q3 : t.data.toList.length = t.size := by simp
      omega
    have hql : q.size ≤ 1048576 := by
      have q1 := spl_len 47 t.data.toList (lst q) (by rw [← HSS.out]; simp)
      have q2 : (lst q).length = q.size := by unfold lst; simp
      have q3 : t.data.toList.length = t.size := by simp
      omega
    clear HSS h9
    have hcP := Lib.hid (fun w => l1Read_any p (by omega) w)
    have hcQ := Lib.hid (fun w => l1Read_any q (by omega) w)
    have hup := rdL_bd p.data.toList
    have huq := rdL_bd q.data.toList
    clear hpl hql
    obtain ⟨u, hu⟩ : ∃ u, u = rdL p.data.toList := ⟨_, rfl⟩
    obtain ⟨d, hd⟩ : ∃ u, u = rdL q.data.toList := ⟨_, rfl⟩
    rw [← hu] at hcP hup
    rw [← hd] at hcQ huq
    clear hu hd
    cases hs : tnOk u d
    · clear HN
      go_wp2_with fail
      go_region_held3 (fun w' => Below w.heap.size w w' ∧ w.heap.size < w'.heap.size ∧ w'.cell? ⟨b, off, none⟩ = some (.string p) ∧ w'.cell? ⟨b, off + 1, none⟩ = some (.string q))
        ((refine ⟨?_, ?_, ?_, ?_⟩; (focus (repeat (first | assumption | exact Below.refl _ _ | refine Below.drew ?_ | refine Below.alloc ?_ (by first | omega | (simp; done) | (simp; omega)) _ | refine bchain ?_ (by assumption) (by first | omega | (simp; done) | (simp; omega))))); (focus (first | assumption | omega | (simp; omega))); (focus (first | assumption | (go_simp; done))); (focus (first | assumption | (go_simp; done)))))
        (first | (go_at_call_of 62 (Value.string p); refine (hcP.out _).mono ?_; rintro e w2 ⟨rfl, rfl⟩) | (go_at_call_of 62 (Value.string q); refine (hcQ.out _).mono ?_; rintro e w2 ⟨rfl, rfl⟩))
      all_goals clear hc0 hc1
      all_goals go_wp2_with (go_at_call 38; refine (tiGood_any _ _ _).mono ?_; rintro e w2 ⟨rfl, hb2⟩; have hz2 := hb2.size; have hcB := fun o => (bcell hb2).1 w1.heap.size o (by first | (simp; done) | (simp; omega)); have hcC := fun o => (bcell hb2).1 w.heap.size o (by simp; omega); have hfC := fun o => (bcell hb2).2 w.heap.size o (by simp; omega))
      all_goals refine bodyPost_ret (v := .tuple #[.agg #[.int .i64 0, .int .i64 0], .bool false]) (by have e0 : (w2.cell? ⟨w.heap.size, 0, none⟩).isSome = true := (by rw [hcC]; go_simp); have e1 : (w2.cell? ⟨w.heap.size, 1, none⟩).isSome = true := (by rw [hcC]; go_simp); clear hcA hfA hcB hcC hfC; simp [results, Tryz.results33, go_sem, e0, e1]) rfl ⟨rfl, ?_⟩
      all_goals (repeat (first | assumption | exact Below.refl _ _ | refine Below.setCell ?_ (by first | omega | simp) _ | refine Below.drew ?_ | refine Below.alloc ?_ (by first | omega | (simp; done) | (simp; omega)) _ | refine bchain ?_ (by assumption) (by first | omega | (simp; done) | (simp; omega) | (simp at hz2; omega))))
    · have sl := tnOk_iff.1 hs
      obtain ⟨U, rfl⟩ := Int.eq_ofNat_of_zero_le (show 0 ≤ u by omega)
      obtain ⟨D, rfl⟩ := Int.eq_ofNat_of_zero_le (show 0 ≤ d by omega)
      have hU : U ≤ 1000 := by omega
      have hD : D ≤ 1000 := by omega
      have hne : ttx U D ≠ t := HN.out U D hs
      have hne' : ((ttx U D).toList == t.toList) = false := by
        rw [beq_eq_false_iff_ne, ByteArray.toList_eq, ByteArray.toList_eq]; intro q; exact hne (by cases hx : ttx U D; cases t; rw [hx] at q; congr 1; exact Array.toList_inj.1 q)
      clear HN sl
      go_wp2_with fail
      go_region_held3 (fun w' => Below w.heap.size w w' ∧ w.heap.size < w'.heap.size ∧ w'.cell? ⟨b, off, none⟩ = some (.string p) ∧ w'.cell? ⟨b, off + 1, none⟩ = some (.string q))
        ((refine ⟨?_, ?_, ?_, ?_⟩; (focus (repeat (first | assumption | exact Below.refl _ _ | refine Below.drew ?_ | refine Below.alloc ?_ (by first | omega | (simp; done) | (simp; omega)) _ | refine bchain ?_ (by assumption) (by first | omega | (simp; done) | (simp; omega))))); (focus (first | assumption | omega | (simp; omega))); (focus (first | assumption | (go_simp; done))); (focus (first | assumption | (go_simp; done)))))
        (first | (go_at_call_of 62 (Value.string p); refine (hcP.out _).mono ?_; rintro e w2 ⟨rfl, rfl⟩) | (go_at_call_of 62 (Value.string q); refine (hcQ.out _).mono ?_; rintro e w2 ⟨rfl, rfl⟩))
      all_goals clear hc0 hc1
      all_goals go_wp2_with (first | (go_at_call 38; refine (tiGood_any _ _ _).mono ?_; rintro e w2 ⟨rfl, hb2⟩; have hz2 := hb2.size; have hcB := fun o => (bcell hb2).1 w1.heap.size o (by first | (simp; done) | (simp; omega)); have hcC := fun o => (bcell hb2).1 w.heap.size o (by simp; omega); have hfC := fun o => (bcell hb2).2 w.heap.size o (by simp; omega)) | (go_at_call 42; refine (tiText_any U D hU (by omega) _).mono ?_; rintro e w3 ⟨rfl, hb3⟩; have hz3 := hb3.size; have hcD := fun o => (bcell hb3).1 w1.heap.size o (by first | omega | (simp at hz2; omega) | (simp at hz2; simp; omega)); have hcE := fun o => (bcell hb3).1 w.heap.size o (by first | omega | (simp at hz2; omega) | (simp at hz2; simp; omega)); have hfE := fun o => (bcell hb3).2 w.heap.size o (by first | omega | (simp at hz2; omega) | (simp at hz2; simp; omega))))
      all_goals first | (exfalso; omega; done) | skip
      all_goals refine bodyPost_ret (v := .tuple #[.agg #[.int .i64 0, .int .i64 0], .bool false]) (by have e0 : (w3.cell? ⟨w.heap.size, 0, none⟩).isSome = true := (by rw [hcE, hcC]; go_simp); have e1 : (w3.cell? ⟨w.heap.size, 1, none⟩).isSome = true := (by rw [hcE, hcC]; go_simp); clear hcA hfA hcB hcC hfC hcD hcE hfE; simp [results, Tryz.results33, go_sem, e0, e1]) rfl ⟨rfl, ?_⟩
      all_goals (repeat (first | assumption | exact Below.refl _ _ | refine Below.setCell ?_ (by first | omega | simp) _ | refine Below.drew ?_ | refine Below.alloc ?_ (by first | omega | (simp; done) | (simp; omega)) _ | refine bchain ?_ (by assumption) (by first | omega | (simp; done) | (simp; omega) | (simp at hz2; omega))))
  · by_cases h9 : t.size ≤ 8
    · have hne : ((ss.length : Int) != 2) = true := by rw [bne_iff_ne]; omega
      have h9' : ¬ (8 : Int) < (t.size : Int) := by omega
      clear hown h2 h9
      go_wp2_with fail
      all_goals refine bodyPost_ret (v := .tuple #[.agg #[.int .i64 0, .int .i64 0], .bool false]) (by have e0 : (w1.cell? ⟨w.heap.size, 0, none⟩).isSome = true := (by rw [hcA]; go_simp); have e1 : (w1.cell? ⟨w.heap.size, 1, none⟩).isSome = true := (by rw [hcA]; go_simp); clear hcA hfA; simp [results, Tryz.results33, go_sem, e0, e1]) rfl ⟨rfl, ?_⟩
      all_goals (repeat (first | assumption | exact Below.refl _ _ | refine Below.setCell ?_ (by first | omega | simp) _ | refine Below.drew ?_ | refine Below.alloc ?_ (by first | omega | (simp; done) | (simp; omega)) _ | refine bchain ?_ (by assumption) (by first | omega | (simp; done) | (simp; omega))))
    · have h9' : (8 : Int) < (t.size : Int) := by omega
      clear hown h2 h9
      go_wp2_with fail
      all_goals refine bodyPost_ret (v := .tuple #[.agg #[.int .i64 0, .int .i64 0], .bool false]) (by have e0 : (w1.cell? ⟨w.heap.size, 0, none⟩).isSome = true := (by rw [hcA]; go_simp); have e1 : (w1.cell? ⟨w.heap.size, 1, none⟩).isSome = true := (by rw [hcA]; go_simp); clear hcA hfA; simp [results, Tryz.results33, go_sem, e0, e1]) rfl ⟨rfl, ?_⟩
      all_goals (repeat (first | assumption | exact Below.refl _ _ | refine Below.setCell ?_ (by first | omega | simp) _ | refine Below.drew ?_ | refine Below.alloc ?_ (by first | omega | (simp; done) | (simp; omega)) _ | refine bchain ?_ (by assumption) (by first | omega | (simp; done) | (simp; omega))))
end Go.Proofs.YtokjmhkdcgkcoaaGreatDoor
