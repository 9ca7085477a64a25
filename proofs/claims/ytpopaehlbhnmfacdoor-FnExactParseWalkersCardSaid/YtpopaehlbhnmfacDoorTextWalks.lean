/- Texts of numbers: the model's own digits, and the library's, by contracts. -/
import Derived.Test.YtpopaehlbhnmfacDoorProg
import Derived.Test.YtpopaehlbhnmfacDoorMath
import Derived.Test.YtpopaehlbhnmfacDoorOneWalks
import Derived.Test.YtpopaehlbhnmfacDoorShelf
import Derived.WalkKit
import Derived.WalkSpells
import Derived.WalkLawsBesides
import Derived.Lib.Hide
import Derived.Lib.ItoaNum
import Derived.Deep.RegionWith
import Derived.Deep.RegionHeld3
import Derived.Lib.LaidTab
namespace Go.Proofs.YtpopaehlbhnmfacDoor
open Go.RowKit
set_option linter.unusedVariables false
set_option linter.unusedSimpArgs false

theorem conv_one (src dst e : TypeId) (hs : Tryd.prog.underlying src = some (.slice e)) (he : Tryd.prog.underlying e = some (.int .u8)) (hd : Tryd.prog.underlying dst = some .string) (W : World) (A : Nat) (m : Int) (m0 : 0 ≤ m) (m1 : m < 256) (hc : W.cell? ⟨A, 0, none⟩ = some (.int .u8 m)) :
    (convert src dst (.slice (some ⟨A, 0, none⟩) 1 1)).run Tryd.prog W = .ok (.string ⟨#[UInt8.ofNat m.toNat]⟩) W := by
  have hm : ((UInt8.ofNat m.toNat).toNat : Int) = m := by
    rw [UInt8.toNat_ofNat']; omega
  have := run_convert_bytes_back (P := Tryd.prog) W src dst e ⟨A, 0, none⟩ 1 [UInt8.ofNat m.toNat] hs he hd (fun j hj => by
    have : j = 0 := by simpa using hj
    subst this
    have e2 : (⟨A, 0, none⟩ : Addr).add 0 = ⟨A, 0, none⟩ := by unfold Addr.add; simp
    rw [e2, hc]; simp; omega)
  simpa using this
theorem decDigits_len (k : Nat) : ∀ n, n < 10 ^ (k + 1) → (Lib.decDigits n).length ≤ k + 1 := by
  induction k with
  | zero => intro n h; rw [Lib.decDigits, dif_pos (by omega)]; simp
  | succ k ih =>
    intro n h
    rw [Lib.decDigits]
    split
    · simp
    · have := ih (n / 10) (by rw [Nat.pow_succ] at h; omega)
      simp; omega
theorem bytes_app (x y : Array UInt8) : (⟨x⟩ : ByteArray) ++ ⟨y⟩ = ⟨x ++ y⟩ := by
  apply ByteArray.ext; simp
theorem below_grow (w : World) (n : Nat) (os : Array Obj) : Below w.heap.size w (Sort.grow (w.drewN n) os) :=
  ⟨rfl, rfl, rfl, by simp [Sort.grow, World.drewN], fun k hk => by simp only [Sort.grow, World.drewN]; rw [Array.getElem?_append_left hk]⟩
theorem tab_below {P : Program} {w w' : World} {name : String} {k : IntKind} {zs : List Int} {g : Nat} (hg : P.globalNamed name = some g) (hlt : g < w.heap.size) (h : Lib.TabIs P w name k zs) (hb : Below w.heap.size w w') : Lib.TabIs P w' name k zs := by
  unfold Lib.TabIs at *
  exact var?_below hb hg hlt h
/-- the text of a snail -/
def stx (U D : Nat) : ByteArray := (⟨(Lib.decDigits U).toArray⟩ ++ ⟨#[45]⟩) ++ ⟨(Lib.decDigits D).toArray⟩
def sxt (u d : Int) : ByteArray := if snOk u d then stx u.toNat d.toNat else ⟨#[]⟩
theorem pow10G : Tryd.prog.globalNamed "internal/strconv.uint64pow10" = some 3 := by kernel_rfl
theorem tab_lt {P : Program} {w : World} {name : String} {k : IntKind} {zs : List Int} {g : Nat} (hg : P.globalNamed name = some g) (h : Lib.TabIs P w name k zs) : g < w.heap.size := by
  rcases Nat.lt_or_ge g w.heap.size with q | q
  · exact q
  · exfalso
    unfold Lib.TabIs World.var? at h
    rw [hg] at h
    simp [Array.getElem?_eq_none q] at h
theorem tab_drew {P : Program} {w : World} {name : String} {k : IntKind} {zs : List Int} (h : Lib.TabIs P w name k zs) : Lib.TabIs P w.drew name k zs := h
theorem itoa_any (U : Nat) (hU : U ≤ 1000000) (w : World) (ht : Lib.TabIs Tryd.prog w "internal/strconv.uint64pow10" .u64 Lib.pow10Tab) :
    Calls Tryd.prog 22 #[.int .i64 (U : Int)] w fun e w' => e = .returned (.string ⟨(Lib.decDigits U).toArray⟩) ∧ Below w.heap.size w w' ∧ Lib.TabIs Tryd.prog w' "internal/strconv.uint64pow10" .u64 Lib.pow10Tab :=
  (Tryd.strconv_Itoa (U : Int) (by omega) (by omega) w ht).mono fun e w' ⟨he, k, os, hw⟩ => ⟨by rw [he, show Lib.itoa (U : Int) = Lib.decDigits U from by unfold Lib.itoa; rw [if_neg (by omega)]; simp], by rw [hw]; exact below_grow w k os, by rw [hw]; exact tab_below pow10G (tab_lt pow10G ht) ht (below_grow w k os)⟩
end Go.Proofs.YtpopaehlbhnmfacDoor
