/- The program's reader of a snail's text. -/
import Derived.Test.YtalnellimbehoaaGreatDoorParseWalks
import Derived.Test.YtalnellimbehoaaGreatDoorParseOneS
import Derived.Stop.LaidErr
import Derived.Lib.AtoiAllCases
import Derived.Deep.QuietTactic
import Derived.BigQuiet
namespace Go.Proofs.YtalnellimbehoaaGreatDoor
open Go.RowKit
set_option linter.unusedVariables false
set_option linter.unusedSimpArgs false
/-- what the two parts of a text tell -/
def TRS (l r : List UInt8) (u d : Int) (k : Bool) : Prop := (k = true ∧ Lib.atoiAll l = .ok u ∧ Lib.atoiAll r = .ok d) ∨ (k = false ∧ ¬ ∃ u d, Lib.atoiAll l = .ok u ∧ Lib.atoiAll r = .ok d)
set_option maxHeartbeats 1000000 in
theorem parseSnail_any (t : ByteArray) (l r : List UInt8) (f : Bool) (n : Nat) (hn : n ≤ 1048576) (hcut : ∀ w, Env w → Calls Tryz.prog 74 #[.string t, .string ⟨#[45]⟩] w fun e w' => e = .returned (.tuple #[.string ⟨l.toArray⟩, .string ⟨r.toArray⟩, .bool f]) ∧ Below w.heap.size w w') (hl : l.length ≤ n) (hr : r.length ≤ n) (w : World) (E : Env w) :
    Calls Tryz.prog 53 #[.string t] w fun e w' => ∃ (u d : Int) (k : Bool), e = .returned (.tuple #[.agg #[.int .i64 u, .int .i64 d], .bool k]) ∧ Below w.heap.size w w' ∧ TRS l r u d k := by
  have W0 : Below w.heap.size w (w.alloc (.cells #[.int .i64 0, .int .i64 0] 25)) := (Below.refl _ _).alloc (Nat.le_refl _) _
  go_enter Tryz.func53, Tryz.ntmps53
  go_wp2_with fail
  refine (two_any t ⟨#[45]⟩ l r f n hn hcut hl hr _ (E.below W0)).mono ?_; rintro e w3 ⟨u, d, k, rfl, hb3, hv⟩
  have hz3 : w.heap.size < w3.heap.size := by have := hb3.size; simp at this; omega
  have B3 := Lib.hid (W0.trans (hb3.mono (by simp)))
  have hcA := fun o => (bcell hb3).1 w.heap.size o (by simp)
  have hfA := fun o => (bcell hb3).2 w.heap.size o (by simp)
  clear hb3
  go_wp2_with fail
  refine bodyPost_ret (v := .tuple #[.agg #[.int .i64 u, .int .i64 d], .bool k]) (by have e0 : (w3.cell? ⟨w.heap.size, 0, none⟩).isSome = true := (by rw [hcA]; go_simp); have e1 : (w3.cell? ⟨w.heap.size, 1, none⟩).isSome = true := (by rw [hcA]; go_simp); clear hcA hfA; simp [results, Tryz.results53, go_sem, e0, e1]; done) rfl ⟨u, d, k, rfl, ?_, hv⟩
  have BB := B3.out
  (repeat (first | assumption | exact Below.refl _ _ | refine Below.setCell ?_ (by first | omega | simp) _ | refine Below.drew ?_ | refine Below.alloc ?_ (by first | omega | (simp; done) | (simp; omega)) _ | refine bchain ?_ (by assumption) (by first | omega | (simp; done) | (simp; omega))))
set_option maxHeartbeats 1000000 in
theorem implParse_yes (U D : Nat) (ok : snOk U D = true) (w : World) (E : Env w) :
    Calls Tryz.prog 20 #[.string (stx U D)] w fun e w' => e = .returned (.tuple #[.agg #[.int .i64 (U : Int), .int .i64 (D : Int)], .bool true]) ∧ Below w.heap.size w w' := by
  have sl := snOk_iff.1 ok
  have hU : U ≤ 1000 := by omega
  have hD : D ≤ 1000 := by omega
  have hsz := stx_size U D hU hD
  have aU := Lib.hid (atoi_digits U (by omega))
  have aD := Lib.hid (atoi_digits D (by omega))
  have k1 := decDigits_len 3 U (by omega)
  have k2 := decDigits_len 3 D (by omega)
  have hcutc : ∀ w, Env w → Calls Tryz.prog 74 #[.string (stx U D), .string ⟨#[45]⟩] w fun e w' => e = .returned (.tuple #[.string ⟨(Lib.decDigits U).toArray⟩, .string ⟨(Lib.decDigits D).toArray⟩, .bool true]) ∧ Below w.heap.size w w' := fun w E => by
    have := cut_sep 45 (stx U D) (by omega) w E
    rw [cut_stx U D] at this; exact this
  have W0 : Below w.heap.size w (w.alloc (.cells #[.int .i64 0, .int .i64 0] 25)) := (Below.refl _ _).alloc (Nat.le_refl _) _
  have hx : sxt U D = stx U D := by unfold sxt; rw [ok]; rfl
  have hg : (true && (snOk U D && decide (sxt U D = stx U D))) = true := by rw [hx, ok]; simp
  have HG := Lib.hid hg
  have HC := Lib.hid (fun w E => parseSnail_any (stx U D) _ _ true 1048576 (by omega) hcutc (by omega) (by omega) w E)
  clear sl hcutc hx hg
  go_enter Tryz.func20, Tryz.ntmps20
  go_wp2_with fail
  refine (parseOneS 53 (stx U D) (TRS (Lib.decDigits U) (Lib.decDigits D)) _ (E.below W0) (enters_of Tryz.func53 (by kernel_rfl) rfl) HC.out).mono ?_; rintro e w3 ⟨u, d, k, hR, rfl, hb3⟩
  obtain ⟨rfl, rfl, rfl⟩ : k = true ∧ u = (U : Int) ∧ d = (D : Int) := by
    rcases hR with ⟨a, b, c⟩ | ⟨_, b⟩
    · exact ⟨a, by have := b.symm.trans aU.out; injection this, by have := c.symm.trans aD.out; injection this⟩
    · exact absurd ⟨_, _, aU.out, aD.out⟩ b
  rw [HG.out]
  simp only [ifI, if_true]
  have hz3 : w.heap.size < w3.heap.size := by have := hb3.size; simp at this; omega
  have B3 := Lib.hid (W0.trans (hb3.mono (by simp)))
  have hcA := fun o => (bcell hb3).1 w.heap.size o (by simp)
  have hfA := fun o => (bcell hb3).2 w.heap.size o (by simp)
  clear hb3
  go_wp2_with fail
  refine bodyPost_ret (v := .tuple #[.agg #[.int .i64 (U : Int), .int .i64 (D : Int)], .bool true]) (by have e0 : (w3.cell? ⟨w.heap.size, 0, none⟩).isSome = true := (by rw [hcA]; go_simp); have e1 : (w3.cell? ⟨w.heap.size, 1, none⟩).isSome = true := (by rw [hcA]; go_simp); clear hcA hfA; simp [results, Tryz.results20, go_sem, e0, e1]; done) rfl ⟨rfl, ?_⟩
  have BB := B3.out
  (repeat (first | assumption | exact Below.refl _ _ | refine Below.setCell ?_ (by first | omega | simp) _ | refine Below.drew ?_ | refine Below.alloc ?_ (by first | omega | (simp; done) | (simp; omega)) _ | refine bchain ?_ (by assumption) (by first | omega | (simp; done) | (simp; omega))))
set_option maxHeartbeats 1000000 in
theorem implParse_no (t : ByteArray) (ht : t.size ≤ 1048576) (h : ∀ U D : Nat, snOk U D = true → stx U D ≠ t) (w : World) (E : Env w) :
    Calls Tryz.prog 20 #[.string t] w fun e w' => e = .returned (.tuple #[.agg #[.int .i64 0, .int .i64 0], .bool false]) ∧ Below w.heap.size w w' := by
  have HN := Lib.hid h
  clear h
  have hlen : t.data.toList.length = t.size := by simp
  obtain ⟨l, r, f, hcut, hl, hr⟩ : ∃ l r f, Lib.cut t.data.toList [45] = (l, r, f) ∧ l.length ≤ t.size ∧ r.length ≤ t.size := by
    refine ⟨(Lib.cut t.data.toList [45]).1, (Lib.cut t.data.toList [45]).2.1, (Lib.cut t.data.toList [45]).2.2, rfl, ?_, ?_⟩ <;> (unfold Lib.cut; split) <;> simp <;> omega
  have hcutc : ∀ w, Env w → Calls Tryz.prog 74 #[.string t, .string ⟨#[45]⟩] w fun e w' => e = .returned (.tuple #[.string ⟨l.toArray⟩, .string ⟨r.toArray⟩, .bool f]) ∧ Below w.heap.size w w' := fun w E => by
    have := cut_sep 45 t ht w E
    rw [hcut] at this; exact this
  have W0 : Below w.heap.size w (w.alloc (.cells #[.int .i64 0, .int .i64 0] 25)) := (Below.refl _ _).alloc (Nat.le_refl _) _
  have HC := Lib.hid (fun w E => parseSnail_any t l r f t.size ht hcutc hl hr w E)
  clear hcutc hcut hlen
  go_enter Tryz.func20, Tryz.ntmps20
  go_wp2_with fail
  refine (parseOneS 53 t (TRS l r) _ (E.below W0) (enters_of Tryz.func53 (by kernel_rfl) rfl) HC.out).mono ?_; rintro e w3 ⟨u, d, k, hR, rfl, hb3⟩
  have hg : (k && (snOk u d && decide (sxt u d = t))) = false := by
    cases k
    · rfl
    · cases hs : snOk u d
      · rfl
      · have sl := snOk_iff.1 hs
        obtain ⟨U, rfl⟩ := Int.eq_ofNat_of_zero_le (show 0 ≤ u by omega)
        obtain ⟨D, rfl⟩ := Int.eq_ofNat_of_zero_le (show 0 ≤ d by omega)
        have hne : stx U D ≠ t := HN.out U D hs
        have hx : sxt U D = stx U D := by unfold sxt; rw [hs]; rfl
        rw [hx, decide_eq_false hne]; rfl
  clear HN HC hR
  rw [hg]
  simp only [ifI, Bool.false_eq_true, if_false]
  clear hg
  have hz3 : w.heap.size < w3.heap.size := by have := hb3.size; simp at this; omega
  have B3 := Lib.hid (W0.trans (hb3.mono (by simp)))
  have hcA := fun o => (bcell hb3).1 w.heap.size o (by simp)
  have hfA := fun o => (bcell hb3).2 w.heap.size o (by simp)
  clear hb3
  go_wp2_with fail
  refine bodyPost_ret (v := .tuple #[.agg #[.int .i64 0, .int .i64 0], .bool false]) (by have e0 : (w3.cell? ⟨w.heap.size, 0, none⟩).isSome = true := (by rw [hcA]; go_simp); have e1 : (w3.cell? ⟨w.heap.size, 1, none⟩).isSome = true := (by rw [hcA]; go_simp); clear hcA hfA; simp [results, Tryz.results20, go_sem, e0, e1]; done) rfl ⟨rfl, ?_⟩
  have BB := B3.out
  (repeat (first | assumption | exact Below.refl _ _ | refine Below.setCell ?_ (by first | omega | simp) _ | refine Below.drew ?_ | refine Below.alloc ?_ (by first | omega | (simp; done) | (simp; omega)) _ | refine bchain ?_ (by assumption) (by first | omega | (simp; done) | (simp; omega))))
end Go.Proofs.YtalnellimbehoaaGreatDoor
