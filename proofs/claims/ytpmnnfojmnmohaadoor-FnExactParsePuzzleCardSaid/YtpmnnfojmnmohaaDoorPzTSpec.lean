/- ParsePuzzle of chapter 9: the model's, by contracts. -/
import Derived.Test.YtpmnnfojmnmohaaDoorPzText
import Derived.Test.YtpmnnfojmnmohaaDoorPzApp
import Derived.Test.YtpmnnfojmnmohaaDoorReadWalks
import Derived.Test.YtpmnnfojmnmohaaDoorTriC
import Derived.Deep.LoopGhost
import Derived.Deep.QuietTactic
import Derived.Deep.RegionLaw
import Derived.Deep.RegionWith
import Derived.Deep.AppendLies
import Derived.Deep.RegionHeld3
import Derived.Deep.RegionHeldLaw
import Derived.BigQuiet
namespace Go.Proofs.YtpmnnfojmnmohaaDoor
open Go.RowKit
set_option linter.unusedVariables false
set_option linter.unusedSimpArgs false
/-- what the model's own reader answers: clues of its own; they are these, if it tells so -/
def RetPP (w : World) (R : List (Int × Int × Int)) (ok : Bool) (e : Ending) (w' : World) : Prop :=
  ∃ (a : Option Addr) (cap : Nat) (out : List (Int × Int × Int)), e = .returned (.tuple #[.agg #[.slice a out.length cap], .bool ok]) ∧ OwnC w' w.heap.size a cap out ∧ (ok = true → out = R) ∧ Below w.heap.size w w'
/-- what a function of (Puzzle, bool) answers: a list of its own in new memory -/
def RetPQ (w : World) (L : List (Int × Int × Int)) (ok : Bool) (e : Ending) (w' : World) : Prop :=
  ∃ (a : Option Addr) (cap : Nat), e = .returned (.tuple #[.agg #[.slice a L.length cap], .bool ok]) ∧ OwnC w' w.heap.size a cap L ∧ Below w.heap.size w w'
theorem retPP_none {w w' : World} {R : List (Int × Int × Int)} (hb : Below w.heap.size w w') {e : Ending} (he : e = .returned (.tuple #[.agg #[.slice none 0 0], .bool false])) : RetPP w R false e w' :=
  ⟨none, 0, [], he, World.ownsRow_nil _ _ _ _, fun h => (by cases h), hb⟩
theorem far_cellT {wr X w4 : World} {r : Option Nat} {b o : Nat} (hB : Below wr.heap.size wr X) (hg : X.grownBy w4 r) (hr : ∀ k, r = some k → b < k) (hb : b < wr.heap.size) : w4.cell? ⟨b, o, none⟩ = wr.cell? ⟨b, o, none⟩ ∧ w4.frozen? ⟨b, o, none⟩ = wr.frozen? ⟨b, o, none⟩ :=
  have hne : some b ≠ r := fun e => by have := hr b e.symm; omega
  have hlt : b < X.heap.size := Nat.lt_of_lt_of_le hb hB.size
  ⟨(hg.cell_far ⟨b, o, none⟩ hlt hne).trans ((bcell hB).1 b o hb), (hg.frozen_far ⟨b, o, none⟩ hlt hne).trans ((bcell hB).2 b o hb)⟩
theorem rdT_atZ {w : World} {a : Option Addr} {ss : List ByteArray} (h : RdT w a ss) {j : Nat} (hj : j < ss.length) : ∃ b off, a = some ⟨b, off, none⟩ ∧ b < w.heap.size ∧ w.cell? ⟨b, off + j, none⟩ = some (.string (ss.getD j ⟨#[]⟩)) := by
  rcases h with h | ⟨b, off, rfl, hlt, hc⟩
  · rw [h] at hj; exact absurd hj (Nat.not_lt_zero _)
  · exact ⟨b, off, rfl, hlt, hc j hj⟩
theorem rdT_triZ {w : World} {a : Option Addr} {p q r : ByteArray} (h : RdT w a [p, q, r]) : ∃ b off, a = some ⟨b, off, none⟩ ∧ b < w.heap.size ∧ w.cell? ⟨b, off, none⟩ = some (.string p) ∧ w.cell? ⟨b, off + 1, none⟩ = some (.string q) ∧ w.cell? ⟨b, off + 2, none⟩ = some (.string r) := by
  rcases h with h | ⟨b, off, rfl, hlt, hc⟩
  · cases h
  · exact ⟨b, off, rfl, hlt, hc 0 (by simp), hc 1 (by simp), hc 2 (by simp)⟩
theorem bytes_beqZ (x t : ByteArray) : (x.toList == t.toList) = decide (x = t) := by
  by_cases h : x = t
  · subst h; simp
  · rw [decide_eq_false h, beq_eq_false_iff_ne, ByteArray.toList_eq, ByteArray.toList_eq]
    exact fun q => h (ByteArray.ext (Array.toList_inj.1 q))
theorem three_lenZ {α : Type} {l : List α} (h : l.length = 3) : ∃ x y z, l = [x, y, z] := by
  match l, h with
  | [x, y, z], _ => exact ⟨x, y, z, rfl⟩
theorem spl_lenZ (c : UInt8) (l p : List UInt8) (h : p ∈ spl c l) : p.length ≤ l.length := spl_len c l p h
set_option maxHeartbeats 40000000 in
set_option maxRecDepth 100000 in
theorem pzParse_any (t : ByteArray) (R : List (Int × Int × Int)) (ok : Bool) (H : PHC t R ok) (ht : t.size ≤ 1048576) (w : World) :
    Calls Tryd.prog 20 #[.string t] w (RetPP w R ok) := by
  by_cases hbig : 100 < t.size
  · obtain ⟨rfl, rfl⟩ := H.no fun y => by have := y.size; omega
    have hbI : (100 : Int) < (t.size : Int) := by omega
    clear H
    go_enter Tryd.func20, Tryd.ntmps20
    go_wp2_with fail
    refine bodyPost_ret (v := .tuple #[.agg #[.slice none 0 0], .bool false]) (by simp [results, Tryd.results20, go_sem]) rfl (retPP_none (by (repeat (first | assumption | exact Below.refl _ _ | refine Below.drew ?_ | refine below_drewN ?_ _ | refine Below.setCell ?_ (by first | omega | (simp; done) | (simp; omega)) _ | refine Below.alloc ?_ (by first | omega | (simp; done) | (simp; omega)) _ | refine bchain ?_ (by assumption) (by first | omega | (simp; done) | (simp; omega))))) rfl)
  have hbI : ¬ (100 : Int) < (t.size : Int) := by omega
  by_cases h0 : t.size = 0
  · obtain ⟨rfl, rfl⟩ := H.empty h0
    have he : t = ⟨#[]⟩ := ByteArray.ext (Array.eq_empty_of_size_eq_zero h0)
    subst he
    have HG := Lib.hid (show ∀ w, Calls Tryd.prog 15 #[.agg #[.slice none 0 0]] w fun e w' => e = .returned (.bool true) ∧ Below w.heap.size w w' from fun w => pzGood_any none 0 [] w (.inl rfl) (by decide))
    have HT := Lib.hid (show ∀ w, Calls Tryd.prog 16 #[.agg #[.slice none 0 0]] w fun e w' => e = .returned (.string ⟨#[]⟩) ∧ Below w.heap.size w w' from fun w => pzText_any none 0 [] w (.inl rfl) rfl)
    clear H
    go_enter Tryd.func20, Tryd.ntmps20
    go_wp2_with fail
    have hP0 : ((w.alloc (Obj.cells #[Value.slice none 0 0] 30)).alloc (Obj.cells #[Value.slice none 0 0] 30)).cell? ⟨w.heap.size + 1, 0, none⟩ = some (.slice none 0 0) := by go_simp
    have hR0 : ∀ o, ((w.alloc (Obj.cells #[Value.slice none 0 0] 30)).alloc (Obj.cells #[Value.slice none 0 0] 30)).frozen? ⟨w.heap.size, o, none⟩ = false := fun o => by go_simp
    have hR1 : ((w.alloc (Obj.cells #[Value.slice none 0 0] 30)).alloc (Obj.cells #[Value.slice none 0 0] 30)).cell? ⟨w.heap.size, 0, none⟩ = some (.slice none 0 0) := by go_simp
    have hB0 : Below w.heap.size w ((w.alloc (Obj.cells #[Value.slice none 0 0] 30)).alloc (Obj.cells #[Value.slice none 0 0] 30)) := by (repeat (first | assumption | exact Below.refl _ _ | refine Below.drew ?_ | refine below_drewN ?_ _ | refine Below.setCell ?_ (by first | omega | (simp; done) | (simp; omega)) _ | refine Below.alloc ?_ (by first | omega | (simp; done) | (simp; omega)) _ | refine bchain ?_ (by assumption) (by first | omega | (simp; done) | (simp; omega))))
    have hz0 : ((w.alloc (Obj.cells #[Value.slice none 0 0] 30)).alloc (Obj.cells #[Value.slice none 0 0] 30)).heap.size = w.heap.size + 2 := by simp
    generalize (w.alloc (Obj.cells #[Value.slice none 0 0] 30)).alloc (Obj.cells #[Value.slice none 0 0] 30) = W0 at *
    go_region_law (first
      | (go_simp; go_at_call 15; refine (HG.out _).mono ?_; rintro e w1 ⟨rfl, hb1⟩; have Zw1 := hb1.size; (try simp only [World.size_alloc, World.size_drew] at Zw1); have Bw1 : Below W0.heap.size W0 w1 := (by (repeat (first | assumption | exact Below.refl _ _ | refine Below.drew ?_ | refine below_drewN ?_ _ | refine Below.setCell ?_ (by first | omega | (simp; done) | (simp; omega)) _ | refine Below.alloc ?_ (by first | omega | (simp; done) | (simp; omega)) _ | refine bchain ?_ (by assumption) (by first | omega | (simp; done) | (simp; omega))))); have Pw1 : w1.cell? ⟨w.heap.size + 1, 0, none⟩ = some _ := ((bcell Bw1).1 _ _ (by omega)).trans hP0; have Qw1 : ∀ o, w1.frozen? ⟨w.heap.size, o, none⟩ = false := (fun o => ((bcell Bw1).2 _ _ (by omega)).trans (hR0 o)); have Uw1 : w1.cell? ⟨w.heap.size, 0, none⟩ = some _ := ((bcell Bw1).1 _ _ (by omega)).trans hR1; have Lw1 : w.heap.size < w1.heap.size := (by omega); have Mw1 : w.heap.size + 1 < w1.heap.size := (by omega); clear hb1)
      | (go_simp; go_at_call 16; refine (HT.out _).mono ?_; rintro e w2 ⟨rfl, hb2⟩; have Zw2 := hb2.size; (try simp only [World.size_alloc, World.size_drew] at Zw2); have Bw2 : Below W0.heap.size W0 w2 := (by (repeat (first | assumption | exact Below.refl _ _ | refine Below.drew ?_ | refine below_drewN ?_ _ | refine Below.setCell ?_ (by first | omega | (simp; done) | (simp; omega)) _ | refine Below.alloc ?_ (by first | omega | (simp; done) | (simp; omega)) _ | refine bchain ?_ (by assumption) (by first | omega | (simp; done) | (simp; omega))))); have Pw2 : w2.cell? ⟨w.heap.size + 1, 0, none⟩ = some _ := ((bcell Bw2).1 _ _ (by omega)).trans hP0; have Qw2 : ∀ o, w2.frozen? ⟨w.heap.size, o, none⟩ = false := (fun o => ((bcell Bw2).2 _ _ (by omega)).trans (hR0 o)); have Uw2 : w2.cell? ⟨w.heap.size, 0, none⟩ = some _ := ((bcell Bw2).1 _ _ (by omega)).trans hR1; have Lw2 : w.heap.size < w2.heap.size := (by omega); have Mw2 : w.heap.size + 1 < w2.heap.size := (by omega); clear hb2))
    all_goals
      go_wp2_with fail
      have e0 : (w2.setCell ⟨w.heap.size, 0, none⟩ (.slice none 0 0)).cell? ⟨w.heap.size, 0, none⟩ = some (.slice none 0 0) := by go_simp
      refine bodyPost_ret (v := .tuple #[.agg #[.slice none 0 0], .bool true]) (by simp [results, Tryd.results20, go_sem, e0]) rfl ⟨none, 0, [], rfl, World.ownsRow_nil _ _ _ _, fun _ => rfl, (hB0.trans (Bw2.mono hB0.size)).setCell (by simp) _⟩
  have htp : 0 < t.size := by omega
  have h0I : (0 : Int) < (t.size : Int) := by omega
  obtain ⟨i0, hi, hz0', hz1', hz2'⟩ := info_parts cluesInfo
  have HH := Lib.hid H
  clear H h0
  go_enter Tryd.func20, Tryd.ntmps20
  go_wp2_with fail
  have hP0 : ((w.alloc (Obj.cells #[Value.slice none 0 0] 30)).alloc (Obj.cells #[Value.slice none 0 0] 30)).cell? ⟨w.heap.size + 1, 0, none⟩ = some (.slice none 0 0) ∧ ∀ o, ((w.alloc (Obj.cells #[Value.slice none 0 0] 30)).alloc (Obj.cells #[Value.slice none 0 0] 30)).frozen? ⟨w.heap.size + 1, o, none⟩ = false := ⟨by go_simp, fun o => by go_simp⟩
  have hR0 : ((w.alloc (Obj.cells #[Value.slice none 0 0] 30)).alloc (Obj.cells #[Value.slice none 0 0] 30)).cell? ⟨w.heap.size, 0, none⟩ = some (.slice none 0 0) ∧ ∀ o, ((w.alloc (Obj.cells #[Value.slice none 0 0] 30)).alloc (Obj.cells #[Value.slice none 0 0] 30)).frozen? ⟨w.heap.size, o, none⟩ = false := ⟨by go_simp, fun o => by go_simp⟩
  have hB0 : Below w.heap.size w ((w.alloc (Obj.cells #[Value.slice none 0 0] 30)).alloc (Obj.cells #[Value.slice none 0 0] 30)) := by (repeat (first | assumption | exact Below.refl _ _ | refine Below.drew ?_ | refine below_drewN ?_ _ | refine Below.setCell ?_ (by first | omega | (simp; done) | (simp; omega)) _ | refine Below.alloc ?_ (by first | omega | (simp; done) | (simp; omega)) _ | refine bchain ?_ (by assumption) (by first | omega | (simp; done) | (simp; omega))))
  have hz0 : (((w.alloc (Obj.cells #[Value.slice none 0 0] 30)).alloc (Obj.cells #[Value.slice none 0 0] 30))).heap.size = w.heap.size + 2 := by simp
  generalize (w.alloc (Obj.cells #[Value.slice none 0 0] 30)).alloc (Obj.cells #[Value.slice none 0 0] 30) = V0 at *
  refine (l1Split_any t 44 ht _).mono ?_; rintro e w1 ⟨a1, c1, ss, rfl, hown1, hb1, hss⟩
  have hlt : t.data.toList.length = t.size := by simp
  have hn1 : ss.length ≤ 101 := by
    have := spl_countZ 44 t.data.toList
    rw [← hss, List.length_map] at this; omega
  have HSS := Lib.hid hss
  have hps : Hid (∀ j, j < ss.length → (ss.getD j ⟨#[]⟩).size ≤ 100) := fun j hj => by
    have hm : (ss.getD j ⟨#[]⟩).data.toList ∈ spl 44 t.data.toList := by
      rw [← hss, List.mem_map]
      exact ⟨ss.getD j ⟨#[]⟩, by rw [List.getD, List.getElem?_eq_getElem hj]; exact List.getElem_mem hj, rfl⟩
    have := spl_len 44 _ _ hm
    have e2 : (ss.getD j ⟨#[]⟩).size = (ss.getD j ⟨#[]⟩).data.toList.length := by simp
    omega
  have hP1 : w1.cell? ⟨w.heap.size + 1, 0, none⟩ = some (.slice none 0 0) ∧ ∀ o, w1.frozen? ⟨w.heap.size + 1, o, none⟩ = false := ⟨((bcell hb1).1 _ _ (by omega)).trans hP0.1, fun o => ((bcell hb1).2 _ _ (by omega)).trans (hP0.2 o)⟩
  have hR1 : w1.cell? ⟨w.heap.size, 0, none⟩ = some (.slice none 0 0) ∧ ∀ o, w1.frozen? ⟨w.heap.size, o, none⟩ = false := ⟨((bcell hb1).1 _ _ (by omega)).trans hR0.1, fun o => ((bcell hb1).2 _ _ (by omega)).trans (hR0.2 o)⟩
  have B1 := hB0.trans (hb1.mono hB0.size)
  have hz1 := hb1.size
  have hlw : w.heap.size + 1 < w1.heap.size := by omega
  have hkS := Lib.hid (fun k hk => (hown1.lt k hk))
  rw [hz0] at hkS
  unfold OwnT at hown1
  rw [hz0] at hown1
  clear hss hlt hP0 hR0 hb1 hB0 hz0
  go_wp2_with fail
  go_loopg [19] ss.length (fun f v19 wr => ∃ (j : Nat) (ao : Option Addr) (co : Nat) (out : List (Int × Int × Int)), v19 = .int .i64 (j : Int) ∧ j + f ≤ ss.length ∧ ss.length ≤ j + f ∧ out.length = j ∧ (w1.heap.size ≤ wr.heap.size ∧ wr.cell? ⟨w.heap.size + 1, 0, none⟩ = some (.slice ao j co) ∧ ∀ o, wr.frozen? ⟨w.heap.size + 1, o, none⟩ = false) ∧ (wr.cell? ⟨w.heap.size, 0, none⟩ = some (.slice none 0 0) ∧ ∀ o, wr.frozen? ⟨w.heap.size, o, none⟩ = false) ∧ wr.ownsRow w1.heap.size 47 3 (.slice ao j co) j (cs3 out) ∧ wr.ownsRow (w.heap.size + 2) 9 1 (.slice a1 ss.length c1) ss.length (ss.map Value.string) ∧ Hid (∀ xs, YC t xs → out = xs.take j) ∧ Below w.heap.size w wr)
  case atStart => exact ⟨0, none, 0, [], rfl, by omega, by omega, rfl, ⟨Nat.le_refl _, hP1⟩, hR1, World.ownsRow_nil _ _ _ _, hown1, fun xs _ => by simp, B1⟩
  case round =>
    clear hP1 hR1 hown1 B1
    obtain ⟨j, ao, co, out, rfl, h1, h2, hol, ⟨hPs, hPc, hPf⟩, ⟨hRc, hRf⟩, hown, hownS, hY, hbel⟩ := hrel
    have hlw0 : w.heap.size < wr.heap.size := by omega
    have hlw1 : w.heap.size + 1 < wr.heap.size := by omega
    by_cases hj : j < ss.length
    · obtain ⟨b, off, rfl, hlt, hcj⟩ := rdT_atZ (OwnT.rd hownS) hj
      have hjI : (j : Int) < (ss.length : Int) := by omega
      have hpj := hps.out j hj
      have HP := Lib.hid (fun xs (y : YC t xs) => (piece_atZ htp HSS.out y).2 j hj)
      have HL := Lib.hid (fun xs (y : YC t xs) => (piece_atZ htp HSS.out y).1)
      obtain ⟨q, hq⟩ : ∃ q, q = ss.getD j ⟨#[]⟩ := ⟨_, rfl⟩
      rw [← hq] at hcj hpj HP
      clear hq
      have hS := Lib.hid (l1Split_any q 46 (by omega) wr)
      have HO := Lib.hid hown
      have HOS := Lib.hid hownS
      have HB := Lib.hid hbel
      clear hown hownS hbel
      go_wp2_with fail
      refine hS.out.mono ?_; rintro e w2 ⟨a2, c2, es, rfl, hown2, hb2, hes⟩
      have hO2 := Lib.hid (row_below HO.out hb2)
      have hOS2 := Lib.hid (row_below HOS.out hb2)
      have hz2 := hb2.size
      have hP2 : w2.cell? ⟨w.heap.size + 1, 0, none⟩ = some (.slice ao j co) := ((bcell hb2).1 _ _ hlw1).trans hPc
      have hPf2 : ∀ o, w2.frozen? ⟨w.heap.size + 1, o, none⟩ = false := fun o => ((bcell hb2).2 _ _ hlw1).trans (hPf o)
      have hR2 : w2.cell? ⟨w.heap.size, 0, none⟩ = some (.slice none 0 0) := ((bcell hb2).1 _ _ hlw0).trans hRc
      have hRf2 : ∀ o, w2.frozen? ⟨w.heap.size, o, none⟩ = false := fun o => ((bcell hb2).2 _ _ hlw0).trans (hRf o)
      have hB2 := Lib.hid (HB.out.trans (hb2.mono HB.out.size))
      have hl20 : w.heap.size < w2.heap.size := by omega
      have hl21 : w.heap.size + 1 < w2.heap.size := by omega
      have e2 : q.size = q.data.toList.length := by simp
      have hel : es.length ≤ 101 := by
        have := spl_countZ 46 q.data.toList
        rw [← hes, List.length_map] at this; omega
      clear HO HOS HB hS hb2 hPc hPf hRc hRf hcj
      by_cases he : es.length = 3
      · obtain ⟨p1, p2, p3, rfl⟩ := three_lenZ he
        obtain ⟨b3, off3, rfl, hlt3, hc30, hc31, hc32⟩ := rdT_triZ (OwnT.rd hown2)
        have hl1 : p1.size ≤ 1000 := by
          have := spl_len 46 q.data.toList p1.data.toList (by rw [← hes]; simp [lst])
          have e3 : p1.size = p1.data.toList.length := by simp
          omega
        have hl2 : p2.size ≤ 1000 := by
          have := spl_len 46 q.data.toList p2.data.toList (by rw [← hes]; simp [lst])
          have e3 : p2.size = p2.data.toList.length := by simp
          omega
        have hl3 : p3.size ≤ 1000 := by
          have := spl_len 46 q.data.toList p3.data.toList (by rw [← hes]; simp [lst])
          have e3 : p3.size = p3.data.toList.length := by simp
          omega
        have hcP := Lib.hid (fun w => l1Read_any p1 (by omega) w)
        have hcQ := Lib.hid (fun w => l1Read_any p2 (by omega) w)
        have hcZ := Lib.hid (fun w => l1Read_any p3 (by omega) w)
        have bd1 := rdL_bd p1.data.toList
        have bd2 := rdL_bd p2.data.toList
        have bd3 := rdS_bd p3.data.toList
        have bd4 := rdL_bd p3.data.toList
        have hY2 : Hid (∀ xs, YC t xs → out ++ [(rdL p1.data.toList, rdL p2.data.toList, rdS p3.data.toList)] = xs.take (j + 1)) := fun xs y => by
          have hlen := HL.out xs y
          have hb := y.bd.2 j (by omega)
          have e1 := HP.out xs y
          rw [e1, spl_ctxZ] at hes
          simp [lst] at hes
          rw [hY.out xs y, take_succ_t xs j (by omega), hes.1, hes.2.1, hes.2.2, rdS_itoa (by omega) (by omega), itoa_pos (by omega), itoa_pos (by omega), rdL_intZ (by omega) (by omega), rdL_intZ (by omega) (by omega)]
        have hhd : ∀ h : 0 < p3.size, p3.data.toList.head? = some (p3[0]'h) := fun l3 => by
          have := bytes_drop p3 0 l3
          rw [List.drop_zero] at this; rw [this]; rfl
        clear hes hown2 HP HL hY he e2
        generalize rdL p1.data.toList = u at *
        generalize rdL p2.data.toList = v at *
        have hlen3 : p3.data.toList.length = p3.size := by simp
        have HK : Hid ((Value.slice (some ⟨b, off, none⟩) ss.length c1).ownBlock = none ∨ (Value.slice (some ⟨b, off, none⟩) ss.length c1).ownBlock ≠ (Value.slice ao j co).ownBlock) := by
          rcases hb : (Value.slice (some ⟨b, off, none⟩) ss.length c1).ownBlock with _ | k
          · exact .inl rfl
          · refine .inr fun q => ?_
            have x1 := (hkS.out k hb).2
            have x2 := (hO2.out.lt k q.symm).1
            omega
        by_cases s1 : 1 < p3.size
        · have s1I : (1 : Int) < (p3.size : Int) := by omega
          have s0 : 0 < p3.size := by omega
          by_cases s2 : p3[0].toNat = 45
          · have s2I : (p3[0].toNat : Int) = 45 := by omega
            have htl : (p3.extract 1 p3.size).data.toList = p3.data.toList.tail := by
              rw [ByteArray.data_extract, Array.toList_extract, List.extract_eq_take_drop, ← List.drop_one]
              rw [List.take_of_length_le]
              rw [List.length_drop, hlen3]; exact Nat.le_refl _
            have hzz : rdS p3.data.toList = -(rdL (p3.extract 1 p3.size).data.toList) := by
              unfold rdS; rw [htl, if_pos ⟨by omega, by rw [hhd s0]; congr 1; exact UInt8.toNat_inj.1 s2⟩]
            have hcT := Lib.hid (fun w => l1Read_any (p3.extract 1 p3.size) (by simp [ByteArray.size_extract]; omega) w)
            have bd5 := rdL_bd (p3.extract 1 p3.size).data.toList
            rw [hzz] at bd3 hY2
            clear hzz htl hhd hlen3
            generalize rdL (p3.extract 1 p3.size).data.toList = r at *
            generalize rdL p3.data.toList = z at *
            go_wp2_with (first | (go_at_call_of 34 (Value.string p3); refine (hcZ.out _).mono ?_; rintro e w3 ⟨rfl, rfl⟩) | (go_at_call_of 34 (Value.string (p3.extract 1 p3.size)); refine (hcT.out _).mono ?_; rintro e w3 ⟨rfl, rfl⟩))
            go_region_law (first | (refine step_append_anyN _ rfl _ _ 28 rfl w1.heap.size 47 i0 (.agg #[.int .i64 0, .int .i64 0, .int .i64 0]) 3 24 Tryd.underlying28 hi hz0' hz1' hz2' rfl (by decide) _ _ _ rfl (row_below (w := w2) hO2.out (by (repeat (first | assumption | exact Below.refl _ _ | refine Below.drew ?_ | refine below_drewN ?_ _ | refine Below.setCell ?_ (by first | omega | (simp; done) | (simp; omega)) _ | refine Below.alloc ?_ (by first | omega | (simp; done) | (simp; omega)) _ | refine bchain ?_ (by assumption) (by first | omega | (simp; done) | (simp; omega)))))) ⟨w2.heap.size, 0, none⟩ 1 1 [.int .i64 u, .int .i64 v, .int .i64 (-r)] rfl rfl (cell_three_new _ _ _ _ _) (fun u hu => by simp at hu; rcases hu with rfl | rfl | rfl <;> rfl) (by unfold maxLen; omega) (by omega) (by first | omega | (simp; done) | (simp; omega)) (j + 1) rfl ?_; intro a4 c4 w4 hO4 hg4; have hfar := fun b o (hb : b < w2.heap.size) (hP : b < w1.heap.size) => far_cellT (o := o) (show Below w2.heap.size w2 _ from by (repeat (first | assumption | exact Below.refl _ _ | refine Below.drew ?_ | refine below_drewN ?_ _ | refine Below.setCell ?_ (by first | omega | (simp; done) | (simp; omega)) _ | refine Below.alloc ?_ (by first | omega | (simp; done) | (simp; omega)) _ | refine bchain ?_ (by assumption) (by first | omega | (simp; done) | (simp; omega))))) hg4 (fun x hx => by have := (hO2.out.lt x hx).1; omega) hb; have z4 := hg4.size; (try simp only [World.size_alloc, World.size_drew] at z4); have D4 : Below w.heap.size w w4 := Below.grown (show Below w.heap.size w _ from by (repeat (first | assumption | exact Below.refl _ _ | refine Below.drew ?_ | refine below_drewN ?_ _ | refine Below.setCell ?_ (by first | omega | (simp; done) | (simp; omega)) _ | refine Below.alloc ?_ (by first | omega | (simp; done) | (simp; omega)) _ | refine bchain ?_ (by assumption) (by first | omega | (simp; done) | (simp; omega))))) hg4 (by first | omega | (simp; done) | (simp; omega)) (fun x hx => by have := (hO2.out.lt x hx).1; omega); have hPc4 : w4.cell? ⟨w.heap.size + 1, 0, none⟩ = some (.slice ao j co) := (hfar _ 0 hl21 (by omega)).1.trans hP2; have hPf4 : ∀ o, w4.frozen? ⟨w.heap.size + 1, o, none⟩ = false := (fun o => (hfar _ o hl21 (by omega)).2.trans (hPf2 o)); have hR4 : w4.cell? ⟨w.heap.size, 0, none⟩ = some (.slice none 0 0) := (hfar _ 0 hl20 (by omega)).1.trans hR2; have hRf4 : ∀ o, w4.frozen? ⟨w.heap.size, o, none⟩ = false := (fun o => (hfar _ o hl20 (by omega)).2.trans (hRf2 o)); have HO4 := Lib.hid hO4; have HOS4 := Lib.hid (World.ownsRow.kept (row_below hOS2.out (show Below w2.heap.size w2 _ from by (repeat (first | assumption | exact Below.refl _ _ | refine Below.drew ?_ | refine below_drewN ?_ _ | refine Below.setCell ?_ (by first | omega | (simp; done) | (simp; omega)) _ | refine Below.alloc ?_ (by first | omega | (simp; done) | (simp; omega)) _ | refine bchain ?_ (by assumption) (by first | omega | (simp; done) | (simp; omega)))))) hg4 HK.out); clear hg4 hfar) | (go_simp; go_at_call_of 34 (Value.string p1); refine (hcP.out _).mono ?_; rintro e w3 ⟨rfl, rfl⟩) | (go_simp; go_at_call_of 34 (Value.string p2); refine (hcQ.out _).mono ?_; rintro e w3 ⟨rfl, rfl⟩))
            all_goals
              go_wp2_with fail
              have hcs : cs3 (out ++ [(u, v, (-r))]) = cs3 out ++ [.int .i64 u, .int .i64 v, .int .i64 (-r)] := by rw [cs3_append]; rfl
              go_roundg (gk - 1)
              case rel => exact ⟨j + 1, a4, c4, out ++ [(u, v, (-r))], by go_num, by omega, by omega, by simp [hol], ⟨by simp; omega, by go_simp, fun o => by go_simp⟩, ⟨by go_simp, fun o => by go_simp⟩, by rw [hcs]; exact row_setLow HO4.out _ _ (by simp; omega), row_setLow HOS4.out _ _ (by simp), hY2, D4.setCell (by simp) _⟩
              case measure => omega
          · have s2I : ¬ (p3[0].toNat : Int) = 45 := by omega
            have hzz : rdS p3.data.toList = rdL p3.data.toList := by
              unfold rdS; rw [if_neg (fun h => s2 (by have h2 := h.2; rw [hhd s0] at h2; injection h2 with h2; rw [h2]; rfl))]
            rw [hzz] at bd3 hY2
            generalize rdL p3.data.toList = z at *
            clear hzz hhd hlen3
            go_wp2_with (first | (go_at_call_of 34 (Value.string p3); refine (hcZ.out _).mono ?_; rintro e w3 ⟨rfl, rfl⟩))
            go_region_law (first | (refine step_append_anyN _ rfl _ _ 28 rfl w1.heap.size 47 i0 (.agg #[.int .i64 0, .int .i64 0, .int .i64 0]) 3 24 Tryd.underlying28 hi hz0' hz1' hz2' rfl (by decide) _ _ _ rfl (row_below (w := w2) hO2.out (by (repeat (first | assumption | exact Below.refl _ _ | refine Below.drew ?_ | refine below_drewN ?_ _ | refine Below.setCell ?_ (by first | omega | (simp; done) | (simp; omega)) _ | refine Below.alloc ?_ (by first | omega | (simp; done) | (simp; omega)) _ | refine bchain ?_ (by assumption) (by first | omega | (simp; done) | (simp; omega)))))) ⟨w2.heap.size, 0, none⟩ 1 1 [.int .i64 u, .int .i64 v, .int .i64 z] rfl rfl (cell_three_new _ _ _ _ _) (fun u hu => by simp at hu; rcases hu with rfl | rfl | rfl <;> rfl) (by unfold maxLen; omega) (by omega) (by first | omega | (simp; done) | (simp; omega)) (j + 1) rfl ?_; intro a4 c4 w4 hO4 hg4; have hfar := fun b o (hb : b < w2.heap.size) (hP : b < w1.heap.size) => far_cellT (o := o) (show Below w2.heap.size w2 _ from by (repeat (first | assumption | exact Below.refl _ _ | refine Below.drew ?_ | refine below_drewN ?_ _ | refine Below.setCell ?_ (by first | omega | (simp; done) | (simp; omega)) _ | refine Below.alloc ?_ (by first | omega | (simp; done) | (simp; omega)) _ | refine bchain ?_ (by assumption) (by first | omega | (simp; done) | (simp; omega))))) hg4 (fun x hx => by have := (hO2.out.lt x hx).1; omega) hb; have z4 := hg4.size; (try simp only [World.size_alloc, World.size_drew] at z4); have D4 : Below w.heap.size w w4 := Below.grown (show Below w.heap.size w _ from by (repeat (first | assumption | exact Below.refl _ _ | refine Below.drew ?_ | refine below_drewN ?_ _ | refine Below.setCell ?_ (by first | omega | (simp; done) | (simp; omega)) _ | refine Below.alloc ?_ (by first | omega | (simp; done) | (simp; omega)) _ | refine bchain ?_ (by assumption) (by first | omega | (simp; done) | (simp; omega))))) hg4 (by first | omega | (simp; done) | (simp; omega)) (fun x hx => by have := (hO2.out.lt x hx).1; omega); have hPc4 : w4.cell? ⟨w.heap.size + 1, 0, none⟩ = some (.slice ao j co) := (hfar _ 0 hl21 (by omega)).1.trans hP2; have hPf4 : ∀ o, w4.frozen? ⟨w.heap.size + 1, o, none⟩ = false := (fun o => (hfar _ o hl21 (by omega)).2.trans (hPf2 o)); have hR4 : w4.cell? ⟨w.heap.size, 0, none⟩ = some (.slice none 0 0) := (hfar _ 0 hl20 (by omega)).1.trans hR2; have hRf4 : ∀ o, w4.frozen? ⟨w.heap.size, o, none⟩ = false := (fun o => (hfar _ o hl20 (by omega)).2.trans (hRf2 o)); have HO4 := Lib.hid hO4; have HOS4 := Lib.hid (World.ownsRow.kept (row_below hOS2.out (show Below w2.heap.size w2 _ from by (repeat (first | assumption | exact Below.refl _ _ | refine Below.drew ?_ | refine below_drewN ?_ _ | refine Below.setCell ?_ (by first | omega | (simp; done) | (simp; omega)) _ | refine Below.alloc ?_ (by first | omega | (simp; done) | (simp; omega)) _ | refine bchain ?_ (by assumption) (by first | omega | (simp; done) | (simp; omega)))))) hg4 HK.out); clear hg4 hfar) | (go_simp; go_at_call_of 34 (Value.string p1); refine (hcP.out _).mono ?_; rintro e w3 ⟨rfl, rfl⟩) | (go_simp; go_at_call_of 34 (Value.string p2); refine (hcQ.out _).mono ?_; rintro e w3 ⟨rfl, rfl⟩))
            all_goals
              go_wp2_with fail
              have hcs : cs3 (out ++ [(u, v, z)]) = cs3 out ++ [.int .i64 u, .int .i64 v, .int .i64 z] := by rw [cs3_append]; rfl
              go_roundg (gk - 1)
              case rel => exact ⟨j + 1, a4, c4, out ++ [(u, v, z)], by go_num, by omega, by omega, by simp [hol], ⟨by simp; omega, by go_simp, fun o => by go_simp⟩, ⟨by go_simp, fun o => by go_simp⟩, by rw [hcs]; exact row_setLow HO4.out _ _ (by simp; omega), row_setLow HOS4.out _ _ (by simp), hY2, D4.setCell (by simp) _⟩
              case measure => omega
        · have s1I : ¬ (1 : Int) < (p3.size : Int) := by omega
          have hzz : rdS p3.data.toList = rdL p3.data.toList := by
            unfold rdS; rw [if_neg (fun h => s1 (by have := h.1; omega))]
          rw [hzz] at bd3 hY2
          generalize rdL p3.data.toList = z at *
          clear hzz hhd hlen3
          go_wp2_with (first | (go_at_call_of 34 (Value.string p3); refine (hcZ.out _).mono ?_; rintro e w3 ⟨rfl, rfl⟩))
          go_region_law (first | (refine step_append_anyN _ rfl _ _ 28 rfl w1.heap.size 47 i0 (.agg #[.int .i64 0, .int .i64 0, .int .i64 0]) 3 24 Tryd.underlying28 hi hz0' hz1' hz2' rfl (by decide) _ _ _ rfl (row_below (w := w2) hO2.out (by (repeat (first | assumption | exact Below.refl _ _ | refine Below.drew ?_ | refine below_drewN ?_ _ | refine Below.setCell ?_ (by first | omega | (simp; done) | (simp; omega)) _ | refine Below.alloc ?_ (by first | omega | (simp; done) | (simp; omega)) _ | refine bchain ?_ (by assumption) (by first | omega | (simp; done) | (simp; omega)))))) ⟨w2.heap.size, 0, none⟩ 1 1 [.int .i64 u, .int .i64 v, .int .i64 z] rfl rfl (cell_three_new _ _ _ _ _) (fun u hu => by simp at hu; rcases hu with rfl | rfl | rfl <;> rfl) (by unfold maxLen; omega) (by omega) (by first | omega | (simp; done) | (simp; omega)) (j + 1) rfl ?_; intro a4 c4 w4 hO4 hg4; have hfar := fun b o (hb : b < w2.heap.size) (hP : b < w1.heap.size) => far_cellT (o := o) (show Below w2.heap.size w2 _ from by (repeat (first | assumption | exact Below.refl _ _ | refine Below.drew ?_ | refine below_drewN ?_ _ | refine Below.setCell ?_ (by first | omega | (simp; done) | (simp; omega)) _ | refine Below.alloc ?_ (by first | omega | (simp; done) | (simp; omega)) _ | refine bchain ?_ (by assumption) (by first | omega | (simp; done) | (simp; omega))))) hg4 (fun x hx => by have := (hO2.out.lt x hx).1; omega) hb; have z4 := hg4.size; (try simp only [World.size_alloc, World.size_drew] at z4); have D4 : Below w.heap.size w w4 := Below.grown (show Below w.heap.size w _ from by (repeat (first | assumption | exact Below.refl _ _ | refine Below.drew ?_ | refine below_drewN ?_ _ | refine Below.setCell ?_ (by first | omega | (simp; done) | (simp; omega)) _ | refine Below.alloc ?_ (by first | omega | (simp; done) | (simp; omega)) _ | refine bchain ?_ (by assumption) (by first | omega | (simp; done) | (simp; omega))))) hg4 (by first | omega | (simp; done) | (simp; omega)) (fun x hx => by have := (hO2.out.lt x hx).1; omega); have hPc4 : w4.cell? ⟨w.heap.size + 1, 0, none⟩ = some (.slice ao j co) := (hfar _ 0 hl21 (by omega)).1.trans hP2; have hPf4 : ∀ o, w4.frozen? ⟨w.heap.size + 1, o, none⟩ = false := (fun o => (hfar _ o hl21 (by omega)).2.trans (hPf2 o)); have hR4 : w4.cell? ⟨w.heap.size, 0, none⟩ = some (.slice none 0 0) := (hfar _ 0 hl20 (by omega)).1.trans hR2; have hRf4 : ∀ o, w4.frozen? ⟨w.heap.size, o, none⟩ = false := (fun o => (hfar _ o hl20 (by omega)).2.trans (hRf2 o)); have HO4 := Lib.hid hO4; have HOS4 := Lib.hid (World.ownsRow.kept (row_below hOS2.out (show Below w2.heap.size w2 _ from by (repeat (first | assumption | exact Below.refl _ _ | refine Below.drew ?_ | refine below_drewN ?_ _ | refine Below.setCell ?_ (by first | omega | (simp; done) | (simp; omega)) _ | refine Below.alloc ?_ (by first | omega | (simp; done) | (simp; omega)) _ | refine bchain ?_ (by assumption) (by first | omega | (simp; done) | (simp; omega)))))) hg4 HK.out); clear hg4 hfar) | (go_simp; go_at_call_of 34 (Value.string p1); refine (hcP.out _).mono ?_; rintro e w3 ⟨rfl, rfl⟩) | (go_simp; go_at_call_of 34 (Value.string p2); refine (hcQ.out _).mono ?_; rintro e w3 ⟨rfl, rfl⟩))
          all_goals
            go_wp2_with fail
            have hcs : cs3 (out ++ [(u, v, z)]) = cs3 out ++ [.int .i64 u, .int .i64 v, .int .i64 z] := by rw [cs3_append]; rfl
            go_roundg (gk - 1)
            case rel => exact ⟨j + 1, a4, c4, out ++ [(u, v, z)], by go_num, by omega, by omega, by simp [hol], ⟨by simp; omega, by go_simp, fun o => by go_simp⟩, ⟨by go_simp, fun o => by go_simp⟩, by rw [hcs]; exact row_setLow HO4.out _ _ (by simp; omega), row_setLow HOS4.out _ _ (by simp), hY2, D4.setCell (by simp) _⟩
            case measure => omega
      · obtain ⟨rfl, rfl⟩ := HH.out.no fun y => he (by
          have e1 := HP.out R y
          rw [e1, spl_ctxZ] at hes
          have := congrArg List.length hes
          simpa using this)
        have heI : ¬ (es.length : Int) = 3 := by omega
        have heB : ((es.length : Int) == 3) = false := by simp; omega
        clear hO2 hOS2 hown2 hes HP HL
        go_wp2_with fail
        have e0 : (w2.setCell ⟨w.heap.size, 0, none⟩ (.slice none 0 0)).cell? ⟨w.heap.size, 0, none⟩ = some (.slice none 0 0) := by go_simp
        refine bodyPost_ret (v := .tuple #[.agg #[.slice none 0 0], .bool false]) (by simp [results, Tryd.results20, go_sem, e0]) rfl (retPP_none (hB2.out.setCell (by simp) _) rfl)
    · have e : j = ss.length := by omega
      have hfull : ∀ xs, YC t xs → out = xs := fun xs y => by
        have hL := (piece_atZ htp HSS.out y).1
        rw [hY.out xs y, e, hL, List.take_length]
      have HF := Lib.hid hfull
      have hRd : RdC wr ao out := rowT_rd hol hown
      have HG := Lib.hid (fun W (hb : Below wr.heap.size wr W) => pzGood_any ao co out W (hRd.below hb) (by omega))
      have HT := Lib.hid (fun (hg : pzG out = true) W (hb : Below wr.heap.size wr W) => pzText_any ao co out W (hRd.below hb) hg)
      rw [hol] at HG
      have hlx : Hid (out.length = j) := hol
      have HO := Lib.hid hown
      have HB := Lib.hid hbel
      have hP0 := hPc
      have hR0 := hRf
      have hR1 := hRc
      have hjl : j ≤ ss.length := by omega
      clear hown hownS hbel hRd hfull hY hkS hPc hRf hRc hol e
      cases hg : pzG out
      · obtain ⟨rfl, rfl⟩ := HH.out.no fun y => by rw [HF.out R y] at hg; rw [y.1] at hg; cases hg
        rw [hg] at HG
        clear hg HT
        go_wp2_with fail
        first | (go_region_law (first
          | (go_simp; go_at_call 15; refine (HG.out _ (by (repeat (first | assumption | exact Below.refl _ _ | refine Below.drew ?_ | refine below_drewN ?_ _ | refine Below.setCell ?_ (by first | omega | (simp; done) | (simp; omega)) _ | refine Below.alloc ?_ (by first | omega | (simp; done) | (simp; omega)) _ | refine bchain ?_ (by assumption) (by first | omega | (simp; done) | (simp; omega)))))).mono ?_; rintro e w5 ⟨rfl, hb1⟩; have Zw5 := hb1.size; (try simp only [World.size_alloc, World.size_drew] at Zw5); have Bw5 : Below wr.heap.size wr w5 := (by (repeat (first | assumption | exact Below.refl _ _ | refine Below.drew ?_ | refine below_drewN ?_ _ | refine Below.setCell ?_ (by first | omega | (simp; done) | (simp; omega)) _ | refine Below.alloc ?_ (by first | omega | (simp; done) | (simp; omega)) _ | refine bchain ?_ (by assumption) (by first | omega | (simp; done) | (simp; omega))))); have Pw5 : w5.cell? ⟨w.heap.size + 1, 0, none⟩ = some _ := ((bcell Bw5).1 _ _ (by omega)).trans hP0; have Qw5 : ∀ o, w5.frozen? ⟨w.heap.size, o, none⟩ = false := (fun o => ((bcell Bw5).2 _ _ (by omega)).trans (hR0 o)); have Uw5 : w5.cell? ⟨w.heap.size, 0, none⟩ = some _ := ((bcell Bw5).1 _ _ (by omega)).trans hR1; have Lw5 : w.heap.size < w5.heap.size := (by omega); have Mw5 : w.heap.size + 1 < w5.heap.size := (by omega); clear hb1))) | fail
        all_goals
          go_wp2_with fail
          have e0 : (w5.setCell ⟨w.heap.size, 0, none⟩ (.slice ao j co)).cell? ⟨w.heap.size, 0, none⟩ = some (.slice ao j co) := by go_simp
          refine bodyPost_ret (v := .tuple #[.agg #[.slice ao j co], .bool false]) (by simp [results, Tryd.results20, go_sem, e0]) rfl ⟨ao, co, out, by rw [hlx.out], ?_, fun h => (by cases h), (HB.out.trans (Bw5.mono HB.out.size)).setCell (by simp) _⟩
          unfold OwnC
          rw [hlx.out]
          exact row_low (row_setLow (row_below HO.out Bw5) _ _ (by simp; omega)) (by omega)
      · have HG2 := Lib.hid hg
        have HT2 := Lib.hid (HT.out hg)
        rw [hlx.out] at HT2
        rw [hg] at HG
        have hq1 := bytes_beqZ (cjt out j) t
        by_cases hx : cjt out j = t
        · have hy : YC t out := ⟨HG2.out, by rw [hlx.out]; exact hx⟩
          have hRo : R = out ∧ ok = true := by
            rcases HH.out with ⟨y, k⟩ | ⟨n, _⟩
            · exact ⟨(HF.out R y).symm, k⟩
            · exact absurd hy (n out)
          obtain ⟨rfl, rfl⟩ := hRo
          rw [decide_eq_true hx] at hq1
          clear hy hx hg HT HG2 HH HF
          generalize cjt R j = X at *
          go_wp2_with fail
          go_region_law (first
            | (go_simp; go_at_call 15; refine (HG.out _ (by (repeat (first | assumption | exact Below.refl _ _ | refine Below.drew ?_ | refine below_drewN ?_ _ | refine Below.setCell ?_ (by first | omega | (simp; done) | (simp; omega)) _ | refine Below.alloc ?_ (by first | omega | (simp; done) | (simp; omega)) _ | refine bchain ?_ (by assumption) (by first | omega | (simp; done) | (simp; omega)))))).mono ?_; rintro e w5 ⟨rfl, hb1⟩; have Zw5 := hb1.size; (try simp only [World.size_alloc, World.size_drew] at Zw5); have Bw5 : Below wr.heap.size wr w5 := (by (repeat (first | assumption | exact Below.refl _ _ | refine Below.drew ?_ | refine below_drewN ?_ _ | refine Below.setCell ?_ (by first | omega | (simp; done) | (simp; omega)) _ | refine Below.alloc ?_ (by first | omega | (simp; done) | (simp; omega)) _ | refine bchain ?_ (by assumption) (by first | omega | (simp; done) | (simp; omega))))); have Pw5 : w5.cell? ⟨w.heap.size + 1, 0, none⟩ = some _ := ((bcell Bw5).1 _ _ (by omega)).trans hP0; have Qw5 : ∀ o, w5.frozen? ⟨w.heap.size, o, none⟩ = false := (fun o => ((bcell Bw5).2 _ _ (by omega)).trans (hR0 o)); have Uw5 : w5.cell? ⟨w.heap.size, 0, none⟩ = some _ := ((bcell Bw5).1 _ _ (by omega)).trans hR1; have Lw5 : w.heap.size < w5.heap.size := (by omega); have Mw5 : w.heap.size + 1 < w5.heap.size := (by omega); clear hb1)
            | (go_simp; go_at_call 16; refine (HT2.out _ (by (repeat (first | assumption | exact Below.refl _ _ | refine Below.drew ?_ | refine below_drewN ?_ _ | refine Below.setCell ?_ (by first | omega | (simp; done) | (simp; omega)) _ | refine Below.alloc ?_ (by first | omega | (simp; done) | (simp; omega)) _ | refine bchain ?_ (by assumption) (by first | omega | (simp; done) | (simp; omega)))))).mono ?_; rintro e w6 ⟨rfl, hb2⟩; have Zw6 := hb2.size; (try simp only [World.size_alloc, World.size_drew] at Zw6); have Bw6 : Below wr.heap.size wr w6 := (by (repeat (first | assumption | exact Below.refl _ _ | refine Below.drew ?_ | refine below_drewN ?_ _ | refine Below.setCell ?_ (by first | omega | (simp; done) | (simp; omega)) _ | refine Below.alloc ?_ (by first | omega | (simp; done) | (simp; omega)) _ | refine bchain ?_ (by assumption) (by first | omega | (simp; done) | (simp; omega))))); have Pw6 : w6.cell? ⟨w.heap.size + 1, 0, none⟩ = some _ := ((bcell Bw6).1 _ _ (by omega)).trans hP0; have Qw6 : ∀ o, w6.frozen? ⟨w.heap.size, o, none⟩ = false := (fun o => ((bcell Bw6).2 _ _ (by omega)).trans (hR0 o)); have Uw6 : w6.cell? ⟨w.heap.size, 0, none⟩ = some _ := ((bcell Bw6).1 _ _ (by omega)).trans hR1; have Lw6 : w.heap.size < w6.heap.size := (by omega); have Mw6 : w.heap.size + 1 < w6.heap.size := (by omega); clear hb2))
          all_goals
            go_wp2_with fail
            have e0 : (w6.setCell ⟨w.heap.size, 0, none⟩ (.slice ao j co)).cell? ⟨w.heap.size, 0, none⟩ = some (.slice ao j co) := by go_simp
            refine bodyPost_ret (v := .tuple #[.agg #[.slice ao j co], .bool true]) (by simp [results, Tryd.results20, go_sem, e0]) rfl ⟨ao, co, R, by rw [hlx.out], ?_, fun _ => rfl, (HB.out.trans (Bw6.mono HB.out.size)).setCell (by simp) _⟩
            unfold OwnC
            rw [hlx.out]
            exact row_low (row_setLow (row_below HO.out Bw6) _ _ (by simp; omega)) (by omega)
        · obtain ⟨rfl, rfl⟩ := HH.out.no fun y => hx (by rw [← HF.out R y] at y; have := y.2; rw [hlx.out] at this; exact this)
          rw [decide_eq_false hx] at hq1
          clear hx hg HT HG2 HH HF
          generalize cjt out j = X at *
          go_wp2_with fail
          go_region_law (first
            | (go_simp; go_at_call 15; refine (HG.out _ (by (repeat (first | assumption | exact Below.refl _ _ | refine Below.drew ?_ | refine below_drewN ?_ _ | refine Below.setCell ?_ (by first | omega | (simp; done) | (simp; omega)) _ | refine Below.alloc ?_ (by first | omega | (simp; done) | (simp; omega)) _ | refine bchain ?_ (by assumption) (by first | omega | (simp; done) | (simp; omega)))))).mono ?_; rintro e w5 ⟨rfl, hb1⟩; have Zw5 := hb1.size; (try simp only [World.size_alloc, World.size_drew] at Zw5); have Bw5 : Below wr.heap.size wr w5 := (by (repeat (first | assumption | exact Below.refl _ _ | refine Below.drew ?_ | refine below_drewN ?_ _ | refine Below.setCell ?_ (by first | omega | (simp; done) | (simp; omega)) _ | refine Below.alloc ?_ (by first | omega | (simp; done) | (simp; omega)) _ | refine bchain ?_ (by assumption) (by first | omega | (simp; done) | (simp; omega))))); have Pw5 : w5.cell? ⟨w.heap.size + 1, 0, none⟩ = some _ := ((bcell Bw5).1 _ _ (by omega)).trans hP0; have Qw5 : ∀ o, w5.frozen? ⟨w.heap.size, o, none⟩ = false := (fun o => ((bcell Bw5).2 _ _ (by omega)).trans (hR0 o)); have Uw5 : w5.cell? ⟨w.heap.size, 0, none⟩ = some _ := ((bcell Bw5).1 _ _ (by omega)).trans hR1; have Lw5 : w.heap.size < w5.heap.size := (by omega); have Mw5 : w.heap.size + 1 < w5.heap.size := (by omega); clear hb1)
            | (go_simp; go_at_call 16; refine (HT2.out _ (by (repeat (first | assumption | exact Below.refl _ _ | refine Below.drew ?_ | refine below_drewN ?_ _ | refine Below.setCell ?_ (by first | omega | (simp; done) | (simp; omega)) _ | refine Below.alloc ?_ (by first | omega | (simp; done) | (simp; omega)) _ | refine bchain ?_ (by assumption) (by first | omega | (simp; done) | (simp; omega)))))).mono ?_; rintro e w6 ⟨rfl, hb2⟩; have Zw6 := hb2.size; (try simp only [World.size_alloc, World.size_drew] at Zw6); have Bw6 : Below wr.heap.size wr w6 := (by (repeat (first | assumption | exact Below.refl _ _ | refine Below.drew ?_ | refine below_drewN ?_ _ | refine Below.setCell ?_ (by first | omega | (simp; done) | (simp; omega)) _ | refine Below.alloc ?_ (by first | omega | (simp; done) | (simp; omega)) _ | refine bchain ?_ (by assumption) (by first | omega | (simp; done) | (simp; omega))))); have Pw6 : w6.cell? ⟨w.heap.size + 1, 0, none⟩ = some _ := ((bcell Bw6).1 _ _ (by omega)).trans hP0; have Qw6 : ∀ o, w6.frozen? ⟨w.heap.size, o, none⟩ = false := (fun o => ((bcell Bw6).2 _ _ (by omega)).trans (hR0 o)); have Uw6 : w6.cell? ⟨w.heap.size, 0, none⟩ = some _ := ((bcell Bw6).1 _ _ (by omega)).trans hR1; have Lw6 : w.heap.size < w6.heap.size := (by omega); have Mw6 : w.heap.size + 1 < w6.heap.size := (by omega); clear hb2))
          all_goals
            go_wp2_with fail
            have e0 : (w6.setCell ⟨w.heap.size, 0, none⟩ (.slice ao j co)).cell? ⟨w.heap.size, 0, none⟩ = some (.slice ao j co) := by go_simp
            refine bodyPost_ret (v := .tuple #[.agg #[.slice ao j co], .bool false]) (by simp [results, Tryd.results20, go_sem, e0]) rfl ⟨ao, co, out, by rw [hlx.out], ?_, fun h => (by cases h), (HB.out.trans (Bw6.mono HB.out.size)).setCell (by simp) _⟩
            unfold OwnC
            rw [hlx.out]
            exact row_low (row_setLow (row_below HO.out Bw6) _ _ (by simp; omega)) (by omega)
set_option maxHeartbeats 4000000 in
theorem specParsePuzzle (t : ByteArray) (R : List (Int × Int × Int)) (ok : Bool) (H : PHC t R ok) (ht : t.size ≤ 1048576) (w : World) :
    Calls Tryd.prog 10 #[.string t] w (RetPQ w R ok) := by
  have HS := Lib.hid (pzParse_any t R ok H ht)
  have HN : Hid (ok = false → R = []) := fun h => by
    rcases H with ⟨_, k⟩ | ⟨_, k, _⟩
    · rw [h] at k; cases k
    · exact k
  clear H
  go_enter Tryd.func10, Tryd.ntmps10
  go_wp2_with fail
  refine (HS.out _).mono ?_; rintro e w1 ⟨a, cap, out, rfl, hO, hR, hb⟩
  have hz := hb.size
  (try simp only [World.size_alloc] at hz)
  have hlt : w.heap.size < w1.heap.size := by omega
  have hc0 : w1.cell? ⟨w.heap.size, 0, none⟩ = some (.slice none 0 0) := by rw [(bcell hb).1 _ _ (by first | omega | (simp; done) | (simp; omega))]; go_simp
  have hf0 : ∀ o, w1.frozen? ⟨w.heap.size, o, none⟩ = false := fun o => by rw [(bcell hb).2 _ _ (by first | omega | (simp; done) | (simp; omega))]; go_simp
  have B1 : Below w.heap.size w w1 := by (repeat (first | assumption | exact Below.refl _ _ | refine Below.drew ?_ | refine below_drewN ?_ _ | refine Below.setCell ?_ (by first | omega | (simp; done) | (simp; omega)) _ | refine Below.alloc ?_ (by first | omega | (simp; done) | (simp; omega)) _ | refine bchain ?_ (by assumption) (by first | omega | (simp; done) | (simp; omega))))
  have HO := Lib.hid hO
  have HR := Lib.hid hR
  clear hO hR hb
  cases ok
  · obtain rfl := HN.out rfl
    go_wp2_with fail
    have e0 : ((w1.setCell ⟨w.heap.size, 0, none⟩ (.slice none 0 0)).alloc (.cells #[.slice a out.length cap] 30)).cell? ⟨w.heap.size, 0, none⟩ = some (.slice none 0 0) := by go_simp
    refine bodyPost_ret (v := .tuple #[.agg #[.slice none 0 0], .bool false]) (by simp [results, Tryd.results10, go_sem, e0]) rfl ⟨none, 0, rfl, World.ownsRow_nil _ _ _ _, by (repeat (first | assumption | exact Below.refl _ _ | refine Below.drew ?_ | refine below_drewN ?_ _ | refine Below.setCell ?_ (by first | omega | (simp; done) | (simp; omega)) _ | refine Below.alloc ?_ (by first | omega | (simp; done) | (simp; omega)) _ | refine bchain ?_ (by assumption) (by first | omega | (simp; done) | (simp; omega))))⟩
  · obtain rfl := HR.out rfl
    go_wp2_with fail
    have e0 : ((w1.setCell ⟨w.heap.size, 0, none⟩ (.slice a out.length cap)).alloc (.cells #[.slice a out.length cap] 30)).cell? ⟨w.heap.size, 0, none⟩ = some (.slice a out.length cap) := by go_simp
    refine bodyPost_ret (v := .tuple #[.agg #[.slice a out.length cap], .bool true]) (by simp [results, Tryd.results10, go_sem, e0]) rfl ⟨a, cap, rfl, ?_, by (repeat (first | assumption | exact Below.refl _ _ | refine Below.drew ?_ | refine below_drewN ?_ _ | refine Below.setCell ?_ (by first | omega | (simp; done) | (simp; omega)) _ | refine Below.alloc ?_ (by first | omega | (simp; done) | (simp; omega)) _ | refine bchain ?_ (by assumption) (by first | omega | (simp; done) | (simp; omega))))⟩
    refine OwnC.below (row_low (row_setLow HO.out ⟨w.heap.size, 0, none⟩ (.slice a out.length cap) (by simp)) (by simp)) (by (repeat (first | assumption | exact Below.refl _ _ | refine Below.drew ?_ | refine below_drewN ?_ _ | refine Below.setCell ?_ (by first | omega | (simp; done) | (simp; omega)) _ | refine Below.alloc ?_ (by first | omega | (simp; done) | (simp; omega)) _ | refine bchain ?_ (by assumption) (by first | omega | (simp; done) | (simp; omega)))))
end Go.Proofs.YtpmnnfojmnmohaaDoor
