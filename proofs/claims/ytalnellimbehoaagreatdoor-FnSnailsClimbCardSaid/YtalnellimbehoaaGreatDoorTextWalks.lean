/- Texts of numbers: the model's own digits, and the library's, by contracts. -/
import Derived.Test.YtalnellimbehoaaGreatDoorProg
import Derived.Test.YtalnellimbehoaaGreatDoorMath
import Derived.Test.YtalnellimbehoaaGreatDoorOneWalks
import Derived.Test.YtalnellimbehoaaGreatDoorShelf
import Derived.WalkKit
import Derived.WalkSpells
import Derived.WalkLawsBesides
import Derived.Lib.Hide
import Derived.Lib.ItoaNum
import Derived.Deep.RegionWith
import Derived.Deep.RegionHeld3
import Derived.Lib.LaidTab
namespace Go.Proofs.YtalnellimbehoaaGreatDoor
open Go.RowKit
set_option linter.unusedVariables false
set_option linter.unusedSimpArgs false

theorem conv_one (src dst e : TypeId) (hs : Tryz.prog.underlying src = some (.slice e)) (he : Tryz.prog.underlying e = some (.int .u8)) (hd : Tryz.prog.underlying dst = some .string) (W : World) (A : Nat) (m : Int) (m0 : 0 ≤ m) (m1 : m < 256) (hc : W.cell? ⟨A, 0, none⟩ = some (.int .u8 m)) :
    (convert src dst (.slice (some ⟨A, 0, none⟩) 1 1)).run Tryz.prog W = .ok (.string ⟨#[UInt8.ofNat m.toNat]⟩) W := by
  have hm : ((UInt8.ofNat m.toNat).toNat : Int) = m := by
    rw [UInt8.toNat_ofNat']; omega
  have := run_convert_bytes_back (P := Tryz.prog) W src dst e ⟨A, 0, none⟩ 1 [UInt8.ofNat m.toNat] hs he hd (fun j hj => by
    have : j = 0 := by simpa using hj
    subst this
    have e2 : (⟨A, 0, none⟩ : Addr).add 0 = ⟨A, 0, none⟩ := by unfold Addr.add; simp
    rw [e2, hc]; simp; omega)
  simpa using this
theorem decDigits_len (k : Nat) : ∀ n, n < 10 ^ (k + 1) → (Lib.decDigits n).length ≤ k + 1 := by
  induction k with
  | zero => intro n h; rw [Lib.decDigits, dif_pos (by omega)]; simp
  | succ k ih =>
    intro n h
    rw [Lib.decDigits]
    split
    · simp
    · have := ih (n / 10) (by rw [Nat.pow_succ] at h; omega)
      simp; omega
theorem bytes_app (x y : Array UInt8) : (⟨x⟩ : ByteArray) ++ ⟨y⟩ = ⟨x ++ y⟩ := by
  apply ByteArray.ext; simp
theorem below_grow (w : World) (n : Nat) (os : Array Obj) : Below w.heap.size w (Sort.grow (w.drewN n) os) :=
  ⟨rfl, rfl, rfl, by simp [Sort.grow, World.drewN], fun k hk => by simp only [Sort.grow, World.drewN]; rw [Array.getElem?_append_left hk]⟩
theorem tab_below {P : Program} {w w' : World} {name : String} {k : IntKind} {zs : List Int} {g : Nat} (hg : P.globalNamed name = some g) (hlt : g < w.heap.size) (h : Lib.TabIs P w name k zs) (hb : Below w.heap.size w w') : Lib.TabIs P w' name k zs := by
  unfold Lib.TabIs at *
  exact var?_below hb hg hlt h
set_option maxHeartbeats 400000 in
theorem l1Num_base (n : Nat) (h : n < 10) (w : World) :
    Calls Tryz.prog 69 #[.int .i64 n] w fun e w' => e = .returned (.string ⟨(Lib.decDigits n).toArray⟩) ∧ Below w.heap.size w w' := by
  have hI : (n : Int) < 10 := by omega
  have hcv := fun W A => conv_one 22 9 5 Tryz.underlying22 Tryz.underlying5 Tryz.underlying9 W A (48 + (n : Int)) (by omega) (by omega)
  have hd : Hid (Lib.decDigits n = [UInt8.ofNat (48 + n)]) := by
    unfold Hid; rw [Lib.decDigits, dif_pos h]
  go_enter Tryz.func69, Tryz.ntmps69
  go_wp2
  go_ret
  exact ⟨by rw [hd.out]; rfl, (Below.refl _ _).alloc (Nat.le_refl _) _⟩
set_option maxHeartbeats 1000000 in
theorem l1Num_step (n : Nat) (h : ¬ n < 10) (hb : n ≤ 1000000) (ih : ∀ w, Calls Tryz.prog 69 #[.int .i64 ((n : Int) / 10)] w fun e w' => e = .returned (.string ⟨(Lib.decDigits (n / 10)).toArray⟩) ∧ Below w.heap.size w w') (w : World) :
    Calls Tryz.prog 69 #[.int .i64 n] w fun e w' => e = .returned (.string ⟨(Lib.decDigits n).toArray⟩) ∧ Below w.heap.size w w' := by
  have hI : ¬ (n : Int) < 10 := by omega
  have H := Lib.hid ih
  clear ih
  have hlen := decDigits_len 6 (n / 10) (by omega)
  have hd : Hid (Value.string ((⟨(Lib.decDigits (n / 10)).toArray⟩ : ByteArray) ++ ⟨#[48 + UInt8.ofNat (n % 10)]⟩) = Value.string ⟨(Lib.decDigits n).toArray⟩) := by
    unfold Hid
    have e : Lib.decDigits n = Lib.decDigits (n / 10) ++ [UInt8.ofNat (48 + n % 10)] := by rw [Lib.decDigits, dif_neg h]
    rw [e, bytes_app]; simp
  have hcv := fun W A => conv_one 22 9 5 Tryz.underlying22 Tryz.underlying5 Tryz.underlying9 W A (48 + (n : Int) % 10) (by omega) (by omega)
  have w1 : IntKind.i64.wrap ((n : Int) / 10) = (n : Int) / 10 := IntWalk.i64_in _ (by omega)
  have w2 : (n : Int).tmod 10 = (n : Int) % 10 := Int.tmod_eq_emod_of_nonneg (by omega)
  have w3 : IntKind.i64.wrap (48 + (n : Int) % 10) = 48 + (n : Int) % 10 := IntWalk.i64_in _ (by omega)
  have w4 : IntKind.u8.wrap (48 + (n : Int) % 10) = 48 + (n : Int) % 10 := IntWalk.u8_in _ (by omega)
  generalize hD : Lib.decDigits (n / 10) = D at *
  clear hD
  go_enter Tryz.func69, Tryz.ntmps69
  go_wp2_with fail
  go_region_with (go_at_call 69; refine (H.out _).mono ?_; rintro e w1 ⟨rfl, hb⟩; have hc := (bcell hb).1)
  all_goals go_wp2_with fail
  all_goals go_ret
  all_goals refine ⟨congrArg Ending.returned hd.out, ?_⟩
  all_goals (repeat (first | exact Below.refl _ _ | refine Below.drew ?_ | refine Below.alloc ?_ (by first | omega | (simp; done) | (simp; omega) | (have := hb.size; simp at this; omega)) _ | refine bchain ?_ (by assumption) (by first | omega | (simp; done) | (simp; omega))))
theorem l1Num_any (n : Nat) : n ≤ 1000000 → ∀ w : World,
    Calls Tryz.prog 69 #[.int .i64 n] w fun e w' => e = .returned (.string ⟨(Lib.decDigits n).toArray⟩) ∧ Below w.heap.size w w' := by
  induction n using Nat.strongRecOn with
  | ind n ih =>
    intro hn w
    by_cases h : n < 10
    · exact l1Num_base n h w
    · refine l1Num_step n h hn (fun w => ?_) w
      have := ih (n / 10) (by omega) (by omega) w
      rw [show ((n / 10 : Nat) : Int) = (n : Int) / 10 from by omega] at this
      exact this
/-- the text of a snail -/
def stx (U D : Nat) : ByteArray := (⟨(Lib.decDigits U).toArray⟩ ++ ⟨#[45]⟩) ++ ⟨(Lib.decDigits D).toArray⟩
def sxt (u d : Int) : ByteArray := if snOk u d then stx u.toNat d.toNat else ⟨#[]⟩
set_option maxHeartbeats 1000000 in
theorem snText_any (U D : Nat) (hU : U ≤ 1000) (hD : D ≤ 1000) (w : World) :
    Calls Tryz.prog 50 #[.agg #[.int .i64 (U : Int), .int .i64 (D : Int)]] w fun e w' => e = .returned (.string (stx U D)) ∧ Below w.heap.size w w' := by
  have k1 := decDigits_len 3 U (by omega)
  have k2 := decDigits_len 3 D (by omega)
  have hst : Hid (stx U D = (⟨(Lib.decDigits U).toArray⟩ ++ ⟨#[45]⟩) ++ ⟨(Lib.decDigits D).toArray⟩) := rfl
  have hcU := Lib.hid (fun w => l1Num_any U (by omega) w)
  have hcD := Lib.hid (fun w => l1Num_any D (by omega) w)
  have f1 : ¬ (9223372036854775807 < (Lib.decDigits U).length + 1) := by omega
  have f2 : ¬ (9223372036854775807 < (Lib.decDigits U).length + 1 + (Lib.decDigits D).length) := by omega
  go_enter Tryz.func50, Tryz.ntmps50
  go_wp2_with fail
  go_region_held3 (fun w' => Below w.heap.size w w' ∧ w.heap.size < w'.heap.size ∧ w'.cell? ⟨w.heap.size, 0, none⟩ = some (.int .i64 (U : Int)) ∧ w'.cell? ⟨w.heap.size, 1, none⟩ = some (.int .i64 (D : Int)))
    (refine ⟨?_, ?_, ?_, ?_⟩ <;> first | assumption | omega | (go_simp; done) | (repeat (first | exact Below.refl _ _ | refine Below.drew ?_ | refine Below.alloc ?_ (by first | omega | (simp; done) | (simp; omega)) _ | refine bchain ?_ (by assumption) (by first | omega | (simp; done) | (simp; omega)))))
    (first | (go_at_call_of 69 (Value.int .i64 (U : Int)); refine (hcU.out _).mono ?_; rintro e w1 ⟨rfl, hb⟩; have hc := (bcell hb).1; have hz := hb.size) | (go_at_call_of 69 (Value.int .i64 (D : Int)); refine (hcD.out _).mono ?_; rintro e w1 ⟨rfl, hb⟩; have hc := (bcell hb).1; have hz := hb.size))
  all_goals (rename_i hS; go_wp2_with fail; go_ret; exact ⟨rfl, hS.1⟩)
set_option maxHeartbeats 1000000 in
theorem specSnailText (u d : Int) (w : World) :
    Calls Tryz.prog 17 #[.agg #[.int .i64 u, .int .i64 d]] w fun e w' => e = .returned (.tuple #[.string (sxt u d), .bool (snOk u d)]) ∧ Below w.heap.size w w' := by
  cases hs : snOk u d
  · have hx : Hid (sxt u d = ⟨#[]⟩) := by unfold Hid sxt; rw [hs]; rfl
    go_enter Tryz.func17, Tryz.ntmps17
    go_wp2_with (first | (go_at_call 48; refine (snGood_any _ _ _).mono ?_; rintro e w1 ⟨rfl, hb⟩; have hc := (bcell hb).1; have hz : w.heap.size < w1.heap.size := (by have := hb.size; (try simp at this); omega)) | go_in)
    go_ret2
    refine ⟨by rw [hx.out]; rfl, ?_⟩
    (repeat (first | exact Below.refl _ _ | refine Below.drew ?_ | refine Below.alloc ?_ (by first | omega | (simp; done) | (simp; omega)) _ | refine bchain ?_ (by assumption) (by first | omega | (simp; done) | (simp; omega))))
  · have sl := snOk_iff.1 hs
    obtain ⟨U, rfl⟩ := Int.eq_ofNat_of_zero_le (show 0 ≤ u by omega)
    obtain ⟨D, rfl⟩ := Int.eq_ofNat_of_zero_le (show 0 ≤ d by omega)
    have hU : U ≤ 1000 := by omega
    have hD : D ≤ 1000 := by omega
    have hx : Hid (sxt U D = stx U D) := by unfold Hid sxt; rw [hs]; rfl
    go_enter Tryz.func17, Tryz.ntmps17
    go_wp2_with (first | (go_at_call 48; refine (snGood_any _ _ _).mono ?_; rintro e w1 ⟨rfl, hb⟩; have hc := (bcell hb).1; have hz : w.heap.size < w1.heap.size := (by have := hb.size; (try simp at this); omega)) | (go_at_call 50; refine (snText_any U D hU hD _).mono ?_; rintro e w1 ⟨rfl, hb⟩; have hz : w.heap.size < w1.heap.size := (by have := hb.size; (try simp at this); omega)) | go_in)
    go_ret2
    refine ⟨by rw [hx.out]; rfl, ?_⟩
    (repeat (first | exact Below.refl _ _ | refine Below.drew ?_ | refine Below.alloc ?_ (by first | omega | (simp; done) | (simp; omega)) _ | refine bchain ?_ (by assumption) (by first | omega | (simp; done) | (simp; omega))))
theorem pow10G : Tryz.prog.globalNamed "internal/strconv.uint64pow10" = some 0 := by kernel_rfl
theorem tab_lt {P : Program} {w : World} {name : String} {k : IntKind} {zs : List Int} {g : Nat} (hg : P.globalNamed name = some g) (h : Lib.TabIs P w name k zs) : g < w.heap.size := by
  rcases Nat.lt_or_ge g w.heap.size with q | q
  · exact q
  · exfalso
    unfold Lib.TabIs World.var? at h
    rw [hg] at h
    simp [Array.getElem?_eq_none q] at h
theorem tab_drew {P : Program} {w : World} {name : String} {k : IntKind} {zs : List Int} (h : Lib.TabIs P w name k zs) : Lib.TabIs P w.drew name k zs := h
theorem itoa_any (U : Nat) (hU : U ≤ 1000000) (w : World) (ht : Lib.TabIs Tryz.prog w "internal/strconv.uint64pow10" .u64 Lib.pow10Tab) :
    Calls Tryz.prog 49 #[.int .i64 (U : Int)] w fun e w' => e = .returned (.string ⟨(Lib.decDigits U).toArray⟩) ∧ Below w.heap.size w w' ∧ Lib.TabIs Tryz.prog w' "internal/strconv.uint64pow10" .u64 Lib.pow10Tab :=
  (Tryz.strconv_Itoa (U : Int) (by omega) (by omega) w ht).mono fun e w' ⟨he, k, os, hw⟩ => ⟨by rw [he, show Lib.itoa (U : Int) = Lib.decDigits U from by unfold Lib.itoa; rw [if_neg (by omega)]; simp], by rw [hw]; exact below_grow w k os, by rw [hw]; exact tab_below pow10G (tab_lt pow10G ht) ht (below_grow w k os)⟩
set_option maxHeartbeats 1000000 in
theorem implSnailText (u d : Int) (w : World) (ht : Lib.TabIs Tryz.prog w "internal/strconv.uint64pow10" .u64 Lib.pow10Tab) :
    Calls Tryz.prog 16 #[.agg #[.int .i64 u, .int .i64 d]] w fun e w' => e = .returned (.tuple #[.string (sxt u d), .bool (snOk u d)]) ∧ Below w.heap.size w w' := by
  cases hs : snOk u d
  · have hx : Hid (sxt u d = ⟨#[]⟩) := by unfold Hid sxt; rw [hs]; rfl
    go_enter Tryz.func16, Tryz.ntmps16
    go_wp2_with (first | (go_at_call 18; refine (implIsSnail _ _ _).mono ?_; rintro e w1 ⟨rfl, hb⟩; have hc := (bcell hb).1; have hz : w.heap.size < w1.heap.size := (by have := hb.size; (try simp at this); omega)) | go_in)
    go_ret2
    refine ⟨by rw [hx.out]; rfl, ?_⟩
    (repeat (first | exact Below.refl _ _ | refine Below.drew ?_ | refine Below.alloc ?_ (by first | omega | (simp; done) | (simp; omega)) _ | refine bchain ?_ (by assumption) (by first | omega | (simp; done) | (simp; omega))))
  · have sl := snOk_iff.1 hs
    obtain ⟨U, rfl⟩ := Int.eq_ofNat_of_zero_le (show 0 ≤ u by omega)
    obtain ⟨D, rfl⟩ := Int.eq_ofNat_of_zero_le (show 0 ≤ d by omega)
    have hU : U ≤ 1000 := by omega
    have hD : D ≤ 1000 := by omega
    have hx : Hid (sxt U D = stx U D) := by unfold Hid sxt; rw [hs]; rfl
    have k1 := decDigits_len 3 U (by omega)
    have k2 := decDigits_len 3 D (by omega)
    have f1 : ¬ (9223372036854775807 < (Lib.decDigits U).length + 1) := by omega
    have f2 : ¬ (9223372036854775807 < (Lib.decDigits U).length + 1 + (Lib.decDigits D).length) := by omega
    have hcU := Lib.hid (fun w => itoa_any U (by omega) w)
    have hcD := Lib.hid (fun w => itoa_any D (by omega) w)
    clear sl
    go_enter Tryz.func16, Tryz.ntmps16
    go_wp2_with (first | (go_at_call 18; refine (implIsSnail _ _ _).mono ?_; rintro e w1 ⟨rfl, hb⟩; have hc := (bcell hb).1; have ht1 := tab_below pow10G (by have := tab_lt pow10G ht; first | omega | (simp; done) | (simp; omega)) (show Lib.TabIs Tryz.prog (w.alloc _) _ _ _ from tab_below pow10G (tab_lt pow10G ht) ht ((Below.refl _ _).alloc (Nat.le_refl _) _)) hb; have hz : w.heap.size < w1.heap.size := (by have := hb.size; (try simp at this); omega)) | fail)
    go_region_held3 (fun w' => Below w.heap.size w w' ∧ w.heap.size < w'.heap.size ∧ w'.cell? ⟨w.heap.size, 0, none⟩ = some (.int .i64 (U : Int)) ∧ w'.cell? ⟨w.heap.size, 1, none⟩ = some (.int .i64 (D : Int)) ∧ Lib.TabIs Tryz.prog w' "internal/strconv.uint64pow10" .u64 Lib.pow10Tab)
      ((refine ⟨?_, ?_, ?_, ?_, ?_⟩; (focus (repeat (first | assumption | exact Below.refl _ _ | refine Below.drew ?_ | refine Below.alloc ?_ (by first | omega | (simp; done) | (simp; omega)) _ | refine bchain ?_ (by assumption) (by first | omega | (simp; done) | (simp; omega))))); (focus (first | assumption | omega | (simp; omega))); (focus (first | assumption | (go_simp; done))); (focus (first | assumption | (go_simp; done))); (focus (first | assumption | exact tab_drew ht1))))
      (first | (go_at_call_of 49 (Value.int .i64 (U : Int)); refine (hcU.out _ (by assumption)).mono ?_; rintro e w2 ⟨rfl, hb, ht2⟩; have hz := hb.size; have hcA := fun o => (bcell hb).1 w.heap.size o (by first | omega | (simp; omega) | (simp; done))) | (go_at_call_of 49 (Value.int .i64 (D : Int)); refine (hcD.out _ (by assumption)).mono ?_; rintro e w2 ⟨rfl, hb, ht2⟩; have hz := hb.size; have hcA := fun o => (bcell hb).1 w.heap.size o (by first | omega | (simp; omega) | (simp; done))))
    all_goals (rename_i hS; go_wp2_with fail; go_ret2; exact ⟨by rw [hx.out]; rfl, hS.1⟩)
end Go.Proofs.YtalnellimbehoaaGreatDoor
