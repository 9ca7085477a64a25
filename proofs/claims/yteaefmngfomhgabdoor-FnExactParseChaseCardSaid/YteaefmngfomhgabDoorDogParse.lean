/- ParseChase: the model's and the program's, by contracts. -/
import Derived.Test.YteaefmngfomhgabDoorDogText
import Derived.Test.YteaefmngfomhgabDoorTextOfC
import Derived.Test.YteaefmngfomhgabDoorReadWalks
import Derived.Test.YteaefmngfomhgabDoorWalksMath
import Derived.Test.YteaefmngfomhgabDoorParseEnv
import Derived.Deep.LoopGhost
import Derived.Deep.QuietTactic
import Derived.Deep.RegionHeld3
import Derived.BigQuiet
namespace Go.Proofs.YteaefmngfomhgabDoor
open Go.RowKit
set_option linter.unusedVariables false
set_option linter.unusedSimpArgs false
/-- the numbers between the dashes of a text, as the model reads them -/
def cvp (t : ByteArray) (i : Nat) : Int := rdL ((spl 45 t.data.toList).getD i [])
def cvB (t : ByteArray) : Bool := decide (t.size ≤ 16) && decide ((spl 45 t.data.toList).length = 4) && chOk (cvp t 0) (cvp t 1) (cvp t 2) (cvp t 3)
theorem ctx_spl (A L R G : Nat) : spl 45 (ctx A L R G).data.toList = [Lib.decDigits A, Lib.decDigits L, Lib.decDigits R, Lib.decDigits G] := by
  rw [ctx_list, spl_cons (dash_free A), spl_cons (dash_free L), spl_cons (dash_free R), spl_free (dash_free G)]
theorem ctx_size (A L R G : Nat) (hA : A ≤ 1000) (hL : L ≤ 20) (hR : R ≤ 20) (hG : G ≤ 20) : (ctx A L R G).size ≤ 16 := by
  have k1 := decDigits_len 3 A (by omega)
  have k2 := decDigits_len 1 L (by omega)
  have k3 := decDigits_len 1 R (by omega)
  have k4 := decDigits_len 1 G (by omega)
  have e : (ctx A L R G).size = (ctx A L R G).data.toList.length := by simp
  rw [e, ctx_list]
  simp only [List.length_append, List.length_cons]
  omega
theorem chOk_nat {A L R G : Nat} (h : chOk A L R G = true) : A ≤ 1000 ∧ L ≤ 20 ∧ R ≤ 20 ∧ G ≤ 20 := by
  have := chOk_iff.1 h; omega
theorem cvp_ctx (A L R G : Nat) (hA : A ≤ 1000) (hL : L ≤ 20) (hR : R ≤ 20) (hG : G ≤ 20) : cvp (ctx A L R G) 0 = A ∧ cvp (ctx A L R G) 1 = L ∧ cvp (ctx A L R G) 2 = R ∧ cvp (ctx A L R G) 3 = G := by
  unfold cvp
  rw [ctx_spl]
  exact ⟨rdL_digits A (by omega), rdL_digits L (by omega), rdL_digits R (by omega), rdL_digits G (by omega)⟩
theorem cv_of {A L R G : Nat} (h : chOk A L R G = true) : cvB (ctx A L R G) = true := by
  obtain ⟨hA, hL, hR, hG⟩ := chOk_nat h
  have p := cvp_ctx A L R G hA hL hR hG
  unfold cvB
  rw [p.1, p.2.1, p.2.2.1, p.2.2.2, ctx_spl, h, decide_eq_true (ctx_size A L R G hA hL hR hG)]
  rfl
theorem cv_text {t : ByteArray} (h : cvB t = true) : ∃ A L R G : Nat, chOk A L R G = true ∧ ctx A L R G = t ∧ cvp t 0 = A ∧ cvp t 1 = L ∧ cvp t 2 = R ∧ cvp t 3 = G := by
  unfold cvB at h
  rw [Bool.and_eq_true, Bool.and_eq_true, decide_eq_true_eq, decide_eq_true_eq] at h
  obtain ⟨⟨_, h4⟩, hc⟩ := h
  have b := chOk_iff.1 hc
  obtain ⟨A, hA⟩ := Int.eq_ofNat_of_zero_le (show 0 ≤ cvp t 0 by omega)
  obtain ⟨L, hL⟩ := Int.eq_ofNat_of_zero_le (show 0 ≤ cvp t 1 by omega)
  obtain ⟨R, hR⟩ := Int.eq_ofNat_of_zero_le (show 0 ≤ cvp t 2 by omega)
  obtain ⟨G, hG⟩ := Int.eq_ofNat_of_zero_le (show 0 ≤ cvp t 3 by omega)
  refine ⟨A, L, R, G, by rw [← hA, ← hL, ← hR, ← hG]; exact hc, ?_, hA, hL, hR, hG⟩
  have hj := jnc_spl 45 t.data.toList
  unfold cvp at hA hL hR hG
  match hs : spl 45 t.data.toList, h4 with
  | [p, q, r, s], _ =>
    rw [hs] at hA hL hR hG hj
    simp only [List.getD_cons_zero, List.getD_cons_succ] at hA hL hR hG
    have e1 := rdL_inv hA (by omega)
    have e2 := rdL_inv hL (by omega)
    have e3 := rdL_inv hR (by omega)
    have e4 := rdL_inv hG (by omega)
    simp only [Int.toNat_natCast] at e1 e2 e3 e4
    apply ByteArray.ext
    apply Array.toList_inj.1
    rw [ctx_list, ← hj, e1, e2, e3, e4]
    simp [jnc]
theorem four_len {ss : List ByteArray} (h : ss.length = 4) : ∃ a b c d, ss = [a, b, c, d] := by
  match ss, h with
  | [a, b, c, d], _ => exact ⟨a, b, c, d, rfl⟩
theorem rdT_four {w : World} {a : Option Addr} {p q r s : ByteArray} (h : RdT w a [p, q, r, s]) : ∃ b off, a = some ⟨b, off, none⟩ ∧ b < w.heap.size ∧ w.cell? ⟨b, off, none⟩ = some (.string p) ∧ w.cell? ⟨b, off + 1, none⟩ = some (.string q) ∧ w.cell? ⟨b, off + 2, none⟩ = some (.string r) ∧ w.cell? ⟨b, off + 3, none⟩ = some (.string s) := by
  rcases h with h | ⟨b, off, rfl, hlt, hc⟩
  · cases h
  · exact ⟨b, off, rfl, hlt, hc 0 (by simp), hc 1 (by simp), hc 2 (by simp), hc 3 (by simp)⟩
set_option maxHeartbeats 4000000 in
theorem doParse_any (t : ByteArray) (ht : t.size ≤ 1048576) (w : World) :
    Calls Tryd.prog 60 #[.string t] w fun e w' => e = .returned (.tuple #[.agg #[.int .i64 (ifI (cvB t) (cvp t 0)), .int .i64 (ifI (cvB t) (cvp t 1)), .int .i64 (ifI (cvB t) (cvp t 2)), .int .i64 (ifI (cvB t) (cvp t 3))], .bool (cvB t)]) ∧ Below w.heap.size w w' := by
  go_enter Tryd.func60, Tryd.ntmps60
  go_wp2_with fail
  refine (l1Split_any t 45 ht _).mono ?_; rintro e w1 ⟨a1, c1, ss, rfl, hown, hb, hss⟩
  have hsz1 : w.heap.size < w1.heap.size := by have := hb.size; simp at this; omega
  have hcA := fun o => (bcell hb).1 w.heap.size o (by simp)
  have hfA := fun o => (bcell hb).2 w.heap.size o (by simp)
  have hB0 : Below w.heap.size w w1 := ((Below.refl _ _).alloc (Nat.le_refl _) _).trans (hb.mono (by simp))
  clear hb
  have hsl : (spl 45 t.data.toList).length = ss.length := by rw [← hss, List.length_map]
  by_cases h2 : t.size ≤ 16 ∧ ss.length = 4
  · obtain ⟨h16, h4⟩ := h2
    obtain ⟨p, q, r, s, rfl⟩ := four_len h4
    obtain ⟨b, off, rfl, hlt, hc0, hc1, hc2, hc3⟩ := rdT_four hown.rd
    clear hown
    have h16' : ¬ (16 : Int) < (t.size : Int) := by omega
    have hle : ∀ x ∈ [p, q, r, s], x.size ≤ 1048576 := fun x hx => by
      have q1 := spl_len 45 t.data.toList (lst x) (by rw [← hss]; exact List.mem_map_of_mem hx)
      have q2 : (lst x).length = x.size := by unfold lst; simp
      have q3 : t.data.toList.length = t.size := by simp
      omega
    have hp0 : cvp t 0 = rdL p.data.toList := by unfold cvp; rw [← hss]; rfl
    have hp1 : cvp t 1 = rdL q.data.toList := by unfold cvp; rw [← hss]; rfl
    have hp2 : cvp t 2 = rdL r.data.toList := by unfold cvp; rw [← hss]; rfl
    have hp3 : cvp t 3 = rdL s.data.toList := by unfold cvp; rw [← hss]; rfl
    have hBt : cvB t = chOk (cvp t 0) (cvp t 1) (cvp t 2) (cvp t 3) := by unfold cvB; rw [hsl, decide_eq_true h16]; rfl
    have hcp := Lib.hid (fun w => l1Read_any p (by have := hle p (by simp); omega) w)
    have hcq := Lib.hid (fun w => l1Read_any q (by have := hle q (by simp); omega) w)
    have hcr := Lib.hid (fun w => l1Read_any r (by have := hle r (by simp); omega) w)
    have hcs := Lib.hid (fun w => l1Read_any s (by have := hle s (by simp); omega) w)
    rw [← hp0] at hcp
    rw [← hp1] at hcq
    rw [← hp2] at hcr
    rw [← hp3] at hcs
    clear hle hp0 hp1 hp2 hp3 hss hsl h16 h4
    obtain ⟨u0, g0⟩ : ∃ u, cvp t 0 = u := ⟨_, rfl⟩
    obtain ⟨u1, g1⟩ : ∃ u, cvp t 1 = u := ⟨_, rfl⟩
    obtain ⟨u2, g2⟩ : ∃ u, cvp t 2 = u := ⟨_, rfl⟩
    obtain ⟨u3, g3⟩ : ∃ u, cvp t 3 = u := ⟨_, rfl⟩
    rw [g0] at hcp
    rw [g1] at hcq
    rw [g2] at hcr
    rw [g3] at hcs
    rw [g0, g1, g2, g3] at hBt
    have G0 := Lib.hid g0
    have G1 := Lib.hid g1
    have G2 := Lib.hid g2
    have G3 := Lib.hid g3
    have GB := Lib.hid hBt
    clear g0 g1 g2 g3 hBt
    cases hs : chOk u0 u1 u2 u3
    · go_wp2_with fail
      go_region_held3 (fun w' => Below w.heap.size w w' ∧ w.heap.size < w'.heap.size ∧ w'.cell? ⟨b, off, none⟩ = some (.string p) ∧ w'.cell? ⟨b, off + 1, none⟩ = some (.string q) ∧ w'.cell? ⟨b, off + 2, none⟩ = some (.string r) ∧ w'.cell? ⟨b, off + 3, none⟩ = some (.string s) ∧ (∀ o, w'.cell? ⟨w.heap.size, o, none⟩ = w1.cell? ⟨w.heap.size, o, none⟩) ∧ (∀ o, w'.frozen? ⟨w.heap.size, o, none⟩ = w1.frozen? ⟨w.heap.size, o, none⟩))
        ((refine ⟨?_, ?_, ?_, ?_, ?_, ?_, ?_, ?_⟩; (focus (repeat (first | assumption | exact Below.refl _ _ | refine Below.setCell ?_ (by first | omega | (simp; done) | (simp; omega)) _ | refine Below.drew ?_ | refine Below.alloc ?_ (by first | omega | (simp; done) | (simp; omega)) _ | refine bchain ?_ (by assumption) (by first | omega | (simp; done) | (simp; omega))))); (focus (first | assumption | omega | (simp; omega))); (focus (first | assumption | (go_simp; done))); (focus (first | assumption | (go_simp; done))); (focus (first | assumption | (go_simp; done))); (focus (first | assumption | (go_simp; done))); (focus (first | assumption | (intro o; first | rfl | (go_simp; done)))); (focus (first | assumption | (intro o; first | rfl | (go_simp; done))))))
        (first | (go_at_call_of 34 (Value.string p); refine (hcp.out _).mono ?_; rintro e w2 ⟨rfl, rfl⟩) | (go_at_call_of 34 (Value.string q); refine (hcq.out _).mono ?_; rintro e w2 ⟨rfl, rfl⟩) | (go_at_call_of 34 (Value.string r); refine (hcr.out _).mono ?_; rintro e w2 ⟨rfl, rfl⟩) | (go_at_call_of 34 (Value.string s); refine (hcs.out _).mono ?_; rintro e w2 ⟨rfl, rfl⟩))
      all_goals clear hc0 hc1 hc2 hc3
      all_goals go_wp2_with (go_at_call 83; refine (doGood_any _ _ _ _ _).mono ?_; rw [hs]; rintro e w2 ⟨rfl, hb2⟩; have hz2 := hb2.size; have hcC := fun o => (bcell hb2).1 w.heap.size o (by first | omega | (simp; omega)); have hfC := fun o => (bcell hb2).2 w.heap.size o (by first | omega | (simp; omega)); have hcD := fun o => (bcell hb2).1 w1.heap.size o (by first | omega | (simp; omega) | (simp; done)))
      all_goals refine bodyPost_ret (v := .tuple #[.agg #[.int .i64 0, .int .i64 0, .int .i64 0, .int .i64 0], .bool false]) (by have e0 : (w2.cell? ⟨w.heap.size, 0, none⟩).isSome = true := (by first | (rw [hcC]; go_simp; done) | (go_simp; done)); have e1 : (w2.cell? ⟨w.heap.size, 1, none⟩).isSome = true := (by first | (rw [hcC]; go_simp; done) | (go_simp; done)); have e2 : (w2.cell? ⟨w.heap.size, 2, none⟩).isSome = true := (by first | (rw [hcC]; go_simp; done) | (go_simp; done)); have e3 : (w2.cell? ⟨w.heap.size, 3, none⟩).isSome = true := (by first | (rw [hcC]; go_simp; done) | (go_simp; done)); (try clear hcA hfA hcC hfC hcD); simp [results, Tryd.results60, go_sem, e0, e1, e2, e3]; done) rfl ⟨by rw [GB.out.trans hs]; rfl, ?_⟩
      all_goals (repeat (first | assumption | exact Below.refl _ _ | refine Below.setCell ?_ (by first | omega | (simp; done) | (simp; omega)) _ | refine Below.drew ?_ | refine Below.alloc ?_ (by first | omega | (simp; done) | (simp; omega)) _ | refine bchain ?_ (by assumption) (by first | omega | (simp; done) | (simp; omega))))
    · go_wp2_with fail
      go_region_held3 (fun w' => Below w.heap.size w w' ∧ w.heap.size < w'.heap.size ∧ w'.cell? ⟨b, off, none⟩ = some (.string p) ∧ w'.cell? ⟨b, off + 1, none⟩ = some (.string q) ∧ w'.cell? ⟨b, off + 2, none⟩ = some (.string r) ∧ w'.cell? ⟨b, off + 3, none⟩ = some (.string s) ∧ (∀ o, w'.cell? ⟨w.heap.size, o, none⟩ = w1.cell? ⟨w.heap.size, o, none⟩) ∧ (∀ o, w'.frozen? ⟨w.heap.size, o, none⟩ = w1.frozen? ⟨w.heap.size, o, none⟩))
        ((refine ⟨?_, ?_, ?_, ?_, ?_, ?_, ?_, ?_⟩; (focus (repeat (first | assumption | exact Below.refl _ _ | refine Below.setCell ?_ (by first | omega | (simp; done) | (simp; omega)) _ | refine Below.drew ?_ | refine Below.alloc ?_ (by first | omega | (simp; done) | (simp; omega)) _ | refine bchain ?_ (by assumption) (by first | omega | (simp; done) | (simp; omega))))); (focus (first | assumption | omega | (simp; omega))); (focus (first | assumption | (go_simp; done))); (focus (first | assumption | (go_simp; done))); (focus (first | assumption | (go_simp; done))); (focus (first | assumption | (go_simp; done))); (focus (first | assumption | (intro o; first | rfl | (go_simp; done)))); (focus (first | assumption | (intro o; first | rfl | (go_simp; done))))))
        (first | (go_at_call_of 34 (Value.string p); refine (hcp.out _).mono ?_; rintro e w2 ⟨rfl, rfl⟩) | (go_at_call_of 34 (Value.string q); refine (hcq.out _).mono ?_; rintro e w2 ⟨rfl, rfl⟩) | (go_at_call_of 34 (Value.string r); refine (hcr.out _).mono ?_; rintro e w2 ⟨rfl, rfl⟩) | (go_at_call_of 34 (Value.string s); refine (hcs.out _).mono ?_; rintro e w2 ⟨rfl, rfl⟩))
      all_goals clear hc0 hc1 hc2 hc3
      all_goals go_wp2_with (go_at_call 83; refine (doGood_any _ _ _ _ _).mono ?_; rw [hs]; rintro e w2 ⟨rfl, hb2⟩; have hz2 := hb2.size; have hcC := fun o => (bcell hb2).1 w.heap.size o (by first | omega | (simp; omega)); have hfC := fun o => (bcell hb2).2 w.heap.size o (by first | omega | (simp; omega)); have hcD := fun o => (bcell hb2).1 w1.heap.size o (by first | omega | (simp; omega) | (simp; done)))
      all_goals refine bodyPost_ret (v := .tuple #[.agg #[.int .i64 u0, .int .i64 u1, .int .i64 u2, .int .i64 u3], .bool true]) (by have e0 : (w2.cell? ⟨w.heap.size, 0, none⟩).isSome = true := (by first | (rw [hcC]; go_simp; done) | (go_simp; done)); have e1 : (w2.cell? ⟨w.heap.size, 1, none⟩).isSome = true := (by first | (rw [hcC]; go_simp; done) | (go_simp; done)); have e2 : (w2.cell? ⟨w.heap.size, 2, none⟩).isSome = true := (by first | (rw [hcC]; go_simp; done) | (go_simp; done)); have e3 : (w2.cell? ⟨w.heap.size, 3, none⟩).isSome = true := (by first | (rw [hcC]; go_simp; done) | (go_simp; done)); (try clear hcA hfA hcC hfC hcD); simp [results, Tryd.results60, go_sem, e0, e1, e2, e3]; done) rfl ⟨by rw [GB.out.trans hs, G0.out, G1.out, G2.out, G3.out]; rfl, ?_⟩
      all_goals (repeat (first | assumption | exact Below.refl _ _ | refine Below.setCell ?_ (by first | omega | (simp; done) | (simp; omega)) _ | refine Below.drew ?_ | refine Below.alloc ?_ (by first | omega | (simp; done) | (simp; omega)) _ | refine bchain ?_ (by assumption) (by first | omega | (simp; done) | (simp; omega))))
  · have hBt : cvB t = false := by
      unfold cvB
      rw [hsl]
      rcases Nat.lt_or_ge 16 t.size with q | q
      · rw [decide_eq_false (by omega)]; rfl
      · rw [decide_eq_false (fun e => h2 ⟨q, e⟩), Bool.and_false]; rfl
    have hBt := Lib.hid hBt
    clear hown hsl hss
    by_cases h16 : t.size ≤ 16
    · have hne : ((ss.length : Int) != 4) = true := by rw [bne_iff_ne]; omega
      have h16' : ¬ (16 : Int) < (t.size : Int) := by omega
      clear h2 h16
      go_wp2_with fail
      all_goals refine bodyPost_ret (v := .tuple #[.agg #[.int .i64 0, .int .i64 0, .int .i64 0, .int .i64 0], .bool false]) (by have e0 : (w1.cell? ⟨w.heap.size, 0, none⟩).isSome = true := (by first | (rw [hcA]; go_simp; done) | (go_simp; done)); have e1 : (w1.cell? ⟨w.heap.size, 1, none⟩).isSome = true := (by first | (rw [hcA]; go_simp; done) | (go_simp; done)); have e2 : (w1.cell? ⟨w.heap.size, 2, none⟩).isSome = true := (by first | (rw [hcA]; go_simp; done) | (go_simp; done)); have e3 : (w1.cell? ⟨w.heap.size, 3, none⟩).isSome = true := (by first | (rw [hcA]; go_simp; done) | (go_simp; done)); (try clear hcA hfA); simp [results, Tryd.results60, go_sem, e0, e1, e2, e3]; done) rfl ⟨by rw [hBt.out]; rfl, ?_⟩
      all_goals (repeat (first | assumption | exact Below.refl _ _ | refine Below.setCell ?_ (by first | omega | (simp; done) | (simp; omega)) _ | refine Below.drew ?_ | refine Below.alloc ?_ (by first | omega | (simp; done) | (simp; omega)) _ | refine bchain ?_ (by assumption) (by first | omega | (simp; done) | (simp; omega))))
    · have h16' : (16 : Int) < (t.size : Int) := by omega
      clear h2 h16
      go_wp2_with fail
      all_goals refine bodyPost_ret (v := .tuple #[.agg #[.int .i64 0, .int .i64 0, .int .i64 0, .int .i64 0], .bool false]) (by have e0 : (w1.cell? ⟨w.heap.size, 0, none⟩).isSome = true := (by first | (rw [hcA]; go_simp; done) | (go_simp; done)); have e1 : (w1.cell? ⟨w.heap.size, 1, none⟩).isSome = true := (by first | (rw [hcA]; go_simp; done) | (go_simp; done)); have e2 : (w1.cell? ⟨w.heap.size, 2, none⟩).isSome = true := (by first | (rw [hcA]; go_simp; done) | (go_simp; done)); have e3 : (w1.cell? ⟨w.heap.size, 3, none⟩).isSome = true := (by first | (rw [hcA]; go_simp; done) | (go_simp; done)); (try clear hcA hfA); simp [results, Tryd.results60, go_sem, e0, e1, e2, e3]; done) rfl ⟨by rw [hBt.out]; rfl, ?_⟩
      all_goals (repeat (first | assumption | exact Below.refl _ _ | refine Below.setCell ?_ (by first | omega | (simp; done) | (simp; omega)) _ | refine Below.drew ?_ | refine Below.alloc ?_ (by first | omega | (simp; done) | (simp; omega)) _ | refine bchain ?_ (by assumption) (by first | omega | (simp; done) | (simp; omega))))
set_option maxHeartbeats 1000000 in
theorem specParseChase (t : ByteArray) (ht : t.size ≤ 1048576) (w : World) :
    Calls Tryd.prog 30 #[.string t] w fun e w' => e = .returned (.tuple #[.agg #[.int .i64 (ifI (cvB t) (cvp t 0)), .int .i64 (ifI (cvB t) (cvp t 1)), .int .i64 (ifI (cvB t) (cvp t 2)), .int .i64 (ifI (cvB t) (cvp t 3))], .bool (cvB t)]) ∧ Below w.heap.size w w' := by
  have H := Lib.hid (doParse_any t ht (w.alloc (.cells #[.int .i64 0, .int .i64 0, .int .i64 0, .int .i64 0] 50)))
  generalize hcb : cvB t = cb at *
  generalize ifI cb (cvp t 0) = u0 at *
  generalize ifI cb (cvp t 1) = u1 at *
  generalize ifI cb (cvp t 2) = u2 at *
  generalize ifI cb (cvp t 3) = u3 at *
  clear hcb
  go_enter Tryd.func30, Tryd.ntmps30
  go_wp2_with fail
  refine H.out.mono ?_; rintro e w1 ⟨rfl, hb⟩
  have hsz1 : w.heap.size < w1.heap.size := by have := hb.size; simp at this; omega
  have hcA := fun o => (bcell hb).1 w.heap.size o (by simp)
  have hfA := fun o => (bcell hb).2 w.heap.size o (by simp)
  go_wp2_with fail
  all_goals refine bodyPost_ret (v := .tuple #[.agg #[.int .i64 u0, .int .i64 u1, .int .i64 u2, .int .i64 u3], .bool cb]) (by have e0 : (w1.cell? ⟨w.heap.size, 0, none⟩).isSome = true := (by first | (rw [hcA]; go_simp; done) | (go_simp; done)); have e1 : (w1.cell? ⟨w.heap.size, 1, none⟩).isSome = true := (by first | (rw [hcA]; go_simp; done) | (go_simp; done)); have e2 : (w1.cell? ⟨w.heap.size, 2, none⟩).isSome = true := (by first | (rw [hcA]; go_simp; done) | (go_simp; done)); have e3 : (w1.cell? ⟨w.heap.size, 3, none⟩).isSome = true := (by first | (rw [hcA]; go_simp; done) | (go_simp; done)); (try clear hcA hfA); simp [results, Tryd.results30, go_sem, e0, e1, e2, e3]; done) rfl ⟨rfl, ?_⟩
  all_goals (repeat (first | assumption | exact Below.refl _ _ | refine Below.setCell ?_ (by first | omega | (simp; done) | (simp; omega)) _ | refine Below.drew ?_ | refine Below.alloc ?_ (by first | omega | (simp; done) | (simp; omega)) _ | refine bchain ?_ (by assumption) (by first | omega | (simp; done) | (simp; omega))))
end Go.Proofs.YteaefmngfomhgabDoor
