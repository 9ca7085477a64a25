/- The model's own readers of texts: l1Read (a numeral) and l1Split (at a byte), by contracts. -/
import Derived.Test.YtalnellimbehoaaGreatDoorProg
import Derived.Test.YtalnellimbehoaaGreatDoorMath
import Derived.WalkKit
import Derived.WalkSpells
import Derived.WalkLawsBesides
import Derived.Lib.Hide
import Derived.Lib.Atoi
import Derived.Lib.ItoaNum
import Derived.Deep.LoopGhost
import Derived.Deep.QuietTactic
import Derived.BigQuiet
namespace Go.Proofs.YtalnellimbehoaaGreatDoor
open Go.RowKit
set_option linter.unusedVariables false
set_option linter.unusedSimpArgs false

/-- What l1Read answers: the number of a numeral of 1 to 6 digits with no leading zero, or -1. -/
def rdL (l : List UInt8) : Int := if 1 ≤ l.length ∧ l.length ≤ 6 ∧ (l.head? = some 48 → l.length ≤ 1) then match Lib.decFrom 0 l with | some n => (n : Int) | none => -1 else -1
theorem decFrom_bd : ∀ (l : List UInt8) (acc n : Nat), Lib.decFrom acc l = some n → n < (acc + 1) * 10 ^ l.length := Lib.decFrom_lt
theorem rdL_bd (l : List UInt8) : -1 ≤ rdL l ∧ rdL l ≤ 999999 := by
  unfold rdL
  split
  · rename_i h
    cases hd : Lib.decFrom 0 l with
    | none => simp
    | some n =>
      have := decFrom_bd l 0 n hd
      have h2 : 10 ^ l.length ≤ 10 ^ 6 := Nat.pow_le_pow_right (by omega) h.2.1
      simp only []
      omega
  · omega
theorem bytes_drop (s : ByteArray) (j : Nat) (hj : j < s.size) : s.data.toList.drop j = s[j] :: s.data.toList.drop (j + 1) := by
  have h : j < s.data.toList.length := by simpa using hj
  rw [List.drop_eq_getElem_cons h]; simp [ByteArray.getElem_eq_getElem_data]
theorem rdL_dig {l : List UInt8} {n : Nat} {c : UInt8} {r : List UInt8} (h : Lib.decFrom 0 l = Lib.decFrom n (c :: r)) (h0 : 48 ≤ c.toNat) (h1 : c.toNat ≤ 57) : Lib.decFrom 0 l = Lib.decFrom (n * 10 + (c.toNat - 48)) r := by
  rw [h]; simp [Lib.decFrom, Lib.digitVal, h0, h1]
theorem rdL_bad {l : List UInt8} {n : Nat} {c : UInt8} {r : List UInt8} (h : Lib.decFrom 0 l = Lib.decFrom n (c :: r)) (h0 : c.toNat < 48 ∨ 57 < c.toNat) : Lib.decFrom 0 l = none := by
  have : ¬ (48 ≤ c.toNat ∧ c.toNat ≤ 57) := by omega
  rw [h]; simp [Lib.decFrom, Lib.digitVal, this]
theorem rdL_none {l : List UInt8} (h : Lib.decFrom 0 l = none) : rdL l = -1 := by
  unfold rdL; rw [h]; split <;> rfl
theorem rdL_some {l : List UInt8} {n : Nat} (h1 : 1 ≤ l.length) (h2 : l.length ≤ 6) (h3 : l.head? = some 48 → l.length ≤ 1) (h : Lib.decFrom 0 l = some n) : rdL l = n := by
  unfold rdL; rw [h, if_pos ⟨h1, h2, h3⟩]
theorem rdL_out {l : List UInt8} (h : ¬ (1 ≤ l.length ∧ l.length ≤ 6)) : rdL l = -1 := by
  unfold rdL; rw [if_neg (fun q => h ⟨q.1, q.2.1⟩)]
theorem rdL_zero {l : List UInt8} (h : l.head? = some 48) (h1 : 1 < l.length) : rdL l = -1 := by
  unfold rdL; rw [if_neg (fun q => by have := q.2.2 h; omega)]
set_option maxHeartbeats 1000000 in
theorem l1Read_any (s : ByteArray) (hs : s.size ≤ 4611686018427387904) (w : World) :
    Calls Tryz.prog 67 #[.string s] w fun e w' => e = .returned (.int .i64 (rdL s.data.toList)) ∧ w = w' := by
  have hlen : s.data.toList.length = s.size := by simp
  by_cases hl : 1 ≤ s.size ∧ s.size ≤ 6
  · obtain ⟨l1, l2⟩ := hl
    have l3 : 0 < s.size := by omega
    have hhd : s.data.toList.head? = some s[0] := by
      have := bytes_drop s 0 l3
      rw [List.drop_zero] at this; rw [this]; rfl
    by_cases hz : s[0].toNat = 48 ∧ 1 < s.size
    · obtain ⟨z1, z2⟩ := hz
      have z1' : (s[0].toNat : Int) = 48 := by omega
      have hout : Hid (rdL s.data.toList = -1) := rdL_zero (by rw [hhd]; congr 1; exact UInt8.toNat_inj.1 z1) (by omega)
      clear hlen hhd z1
      go_enter Tryz.func67, Tryz.ntmps67
      go_wp2
      all_goals go_ret
      all_goals exact ⟨by rw [hout.out]; rfl, rfl⟩
    · have hz3 : Hid (s.data.toList.head? = some 48 → s.data.toList.length ≤ 1) := by
        intro q; rw [hhd] at q; injection q with q
        have : s[0].toNat = 48 := by rw [q]; rfl
        omega
      have hz' : (s[0].toNat : Int) = 48 → ¬ (1 : Int) < (s.size : Int) := by intro q r; exact hz ⟨by omega, by omega⟩
      clear hz hhd
      have HL := Lib.hid hlen
      clear hlen
      go_enter Tryz.func67, Tryz.ntmps67
      go_wp2
      all_goals first | (exfalso; omega; done) | skip
      all_goals
        go_loopg [3, 4] s.size (fun k v3 v4 wr => ∃ (n j : Nat), v3 = .int .i64 (n : Int) ∧ v4 = .int .i64 (j : Int) ∧ j + k ≤ s.size ∧ s.size ≤ j + k ∧ n < 10 ^ j ∧ Hid (Lib.decFrom 0 s.data.toList = Lib.decFrom n (s.data.toList.drop j)) ∧ w = wr)
        case atStart => exact ⟨0, 0, rfl, rfl, by omega, by omega, by decide, by rw [List.drop_zero]; exact rfl, rfl⟩
        case round =>
          obtain ⟨n, j, rfl, rfl, h1, h2, hn, hd, rfl⟩ := hrel
          by_cases hj : j < s.size
          · have hn6 : n < 100000 := Nat.lt_of_lt_of_le hn (show 10 ^ j ≤ 100000 from Nat.le_trans (Nat.pow_le_pow_right (by omega) (show j ≤ 5 by omega)) (by decide))
            have hjI : (j : Int) < (s.size : Int) := by omega
            have hd' := bytes_drop s j hj
            have hc := hd.out
            rw [hd'] at hc
            have c2 : s[j].toNat < 256 := s[j].toNat_lt
            by_cases hg : 48 ≤ s[j].toNat ∧ s[j].toNat ≤ 57
            · obtain ⟨g1, g2⟩ := hg
              have HC : Hid (Lib.decFrom 0 s.data.toList = Lib.decFrom (n * 10 + (s[j].toNat - 48)) (s.data.toList.drop (j + 1))) := rdL_dig hc g1 g2
              have HN : Hid (n * 10 + (s[j].toNat - 48) < 10 ^ (j + 1)) := by unfold Hid; rw [Nat.pow_succ]; omega
              have g1' : (48 : Int) ≤ (s[j].toNat : Int) := by omega
              have g2' : (s[j].toNat : Int) ≤ 57 := by omega
              have wr1 : IntKind.u8.wrap ((s[j].toNat : Int) - 48) = (s[j].toNat : Int) - 48 := IntWalk.u8_in _ (by omega)
              clear hc hd' hd hn
              go_wp2
              go_roundg (gk - 1)
              case rel => exact ⟨n * 10 + (s[j].toNat - 48), j + 1, by congr 1; omega, by go_num, by omega, by omega, HN.out, HC, rfl⟩
              case measure => omega
            · have HB : Hid (rdL s.data.toList = -1) := rdL_none (rdL_bad hc (by omega))
              have g3 : (s[j].toNat : Int) < 48 ∨ 57 < (s[j].toNat : Int) := by omega
              clear hc hd' hd hn hg
              go_wp2
              all_goals first | (exfalso; omega; done) | skip
              all_goals go_ret
              all_goals exact ⟨by rw [HB.out]; rfl, rfl⟩
          · have e : j = s.size := by omega
            have HE : Hid (rdL s.data.toList = (n : Int)) := by
              refine rdL_some (by rw [HL.out]; omega) (by rw [HL.out]; omega) hz3.out ?_
              rw [hd.out, e, ← HL.out, List.drop_length]; rfl
            clear hd hn
            subst e
            go_wp2
            all_goals first | (exfalso; omega; done) | skip
            all_goals go_ret
            all_goals exact ⟨by rw [HE.out]; rfl, rfl⟩
  · have hout : Hid (rdL s.data.toList = -1) := rdL_out (by rw [hlen]; exact hl)
    have hl' : (s.size : Int) < 1 ∨ 6 < (s.size : Int) := by omega
    clear hlen hl
    go_enter Tryz.func67, Tryz.ntmps67
    go_wp2
    all_goals first | (exfalso; omega; done) | skip
    all_goals go_ret
    all_goals exact ⟨by rw [hout.out]; rfl, rfl⟩
/-- the pieces between a byte -/
def prep (u : List UInt8) : List (List UInt8) → List (List UInt8)
  | [] => []
  | p :: ps => (u ++ p) :: ps
def spl (c : UInt8) : List UInt8 → List (List UInt8)
  | [] => [[]]
  | x :: r => if x = c then [] :: spl c r else prep [x] (spl c r)
def lst (s : ByteArray) : List UInt8 := s.data.toList
theorem prep_cons (u p : List UInt8) (ps : List (List UInt8)) : prep u (p :: ps) = (u ++ p) :: ps := rfl
theorem prep_nil (s : List (List UInt8)) : prep [] s = s := by cases s <;> rfl
theorem prep_prep (u v : List UInt8) (s : List (List UInt8)) : prep u (prep v s) = prep (u ++ v) s := by cases s <;> simp [prep]
theorem lst_extract (s : ByteArray) (f j : Nat) : lst (s.extract f j) = (s.data.toList.drop f).take (j - f) := by
  unfold lst; simp [ByteArray.data_extract, List.extract_eq_take_drop]
theorem lst_end (s : ByteArray) (f : Nat) : lst (s.extract f s.size) = s.data.toList.drop f := by
  rw [lst_extract, List.take_of_length_le (by simp)]
theorem take_more (s : ByteArray) (f j : Nat) (hf : f ≤ j) (hj : j < s.size) : (s.data.toList.drop f).take (j + 1 - f) = (s.data.toList.drop f).take (j - f) ++ [s[j]] := by
  rw [show j + 1 - f = (j - f) + 1 from by omega, List.take_add_one, List.getElem?_drop, show f + (j - f) = j from by omega]
  congr 1
  rw [List.getElem?_eq_getElem (by simpa using hj)]; simp [ByteArray.getElem_eq_getElem_data]
/-- the elements of a slice of strings -/
def RdT (w : World) (a : Option Addr) (ss : List ByteArray) : Prop :=
  ss = [] ∨ ∃ b off, a = some ⟨b, off, none⟩ ∧ b < w.heap.size ∧ ∀ i, i < ss.length → w.cell? ⟨b, off + i, none⟩ = some (.string (ss.getD i ⟨#[]⟩))
def OwnT (w : World) (base : Nat) (a : Option Addr) (cap : Nat) (ss : List ByteArray) : Prop :=
  w.ownsRow base 9 1 (.slice a ss.length cap) ss.length (ss.map Value.string)
theorem RdT.below {w w' : World} {a : Option Addr} {xs : List ByteArray} (h : RdT w a xs) (hb : Below w.heap.size w w') : RdT w' a xs := by
  rcases h with h | ⟨b, off, e, hlt, hc⟩
  · exact .inl h
  · exact .inr ⟨b, off, e, Nat.lt_of_lt_of_le hlt hb.size, fun i hi => by rw [(bcell hb).1 b _ hlt]; exact hc i hi⟩
theorem OwnT.rd {w : World} {base : Nat} {a : Option Addr} {cap : Nat} {xs : List ByteArray} (h : OwnT w base a cap xs) : RdT w a xs := by
  obtain ⟨hl, h⟩ := h
  rcases h with ⟨_, h0⟩ | ⟨g, c, cur, e, h1, h2, h3, h4, h5, h6⟩
  · exact .inl (List.length_eq_zero_iff.1 h0)
  · refine .inr ⟨g, 0, by injection e, ?_, fun i hi => ?_⟩
    · rcases Nat.lt_or_ge g w.heap.size with q | q
      · exact q
      · rw [Array.getElem?_eq_none q] at h2; cases h2
    · have hc := World.ownsRow.cells (base := base) (e := 9) (size := 1) (n := xs.length) (xs := xs.map Value.string) (v := .slice a xs.length cap) (w := w) ⟨hl, .inr ⟨g, c, cur, e, h1, h2, h3, h4, h5, h6⟩⟩ (g := g) (by rw [e]; rfl) i (.string (xs.getD i ⟨#[]⟩)) (by rw [List.getElem?_map, List.getElem?_eq_getElem hi]; simp [List.getD, List.getElem?_eq_getElem hi])
      have e2 : (⟨g, 0, none⟩ : Addr).add i = ⟨g, 0 + i, none⟩ := by unfold Addr.add; split <;> simp_all
      rw [← e2]; exact hc
theorem own_formT {w : World} {base e size n : Nat} {v : Value} {xs : List Value} (h : w.ownsRow base e size v n xs) : ∃ a c, v = .slice a n c := by
  rcases h.2 with ⟨rfl, rfl⟩ | ⟨g, c, _, rfl, _⟩
  · exact ⟨_, _, rfl⟩
  · exact ⟨_, _, rfl⟩
theorem strInfo : (Tryz.prog.info? 9).map (fun i => (i.zero, i.size, i.bytes)) = some (some (.string ⟨#[]⟩), 1, 16) := by kernel_rfl
set_option maxHeartbeats 1000000 in
set_option maxRecDepth 100000 in
theorem l1Split_any (s : ByteArray) (c : UInt8) (hs : s.size ≤ 1048576) (w : World) :
    Calls Tryz.prog 66 #[.string s, .int .u8 (c.toNat : Int)] w fun e w' => ∃ (a : Option Addr) (cap : Nat) (ss : List ByteArray), e = .returned (.slice a ss.length cap) ∧ OwnT w' w.heap.size a cap ss ∧ Below w.heap.size w w' ∧ ss.map lst = spl c s.data.toList := by
  obtain ⟨i0, hi, hz0, hz1, hz2⟩ := info_parts strInfo
  have hlen : s.data.toList.length = s.size := by simp
  go_enter Tryz.func66, Tryz.ntmps66
  go_wp2
  go_loopg [5, 6, 7] s.size (fun k v3 v4 v5 wr => ∃ (ps : List ByteArray) (f j : Nat) (v : Value), v3 = v ∧ v4 = .int .i64 (f : Int) ∧ v5 = .int .i64 (j : Int) ∧ j + k ≤ s.size ∧ s.size ≤ j + k ∧ f ≤ j ∧ ps.length ≤ j ∧ wr.ownsRow w.heap.size 9 1 v ps.length (ps.map Value.string) ∧ Below w.heap.size w wr ∧ Hid (spl c s.data.toList = ps.map lst ++ prep ((s.data.toList.drop f).take (j - f)) (spl c (s.data.toList.drop j))))
  case atStart => exact ⟨[], 0, 0, _, rfl, rfl, rfl, by omega, by omega, by omega, by simp, World.ownsRow_nil _ _ _ _, Below.refl _ _, by show _ = _; simp only [List.drop_zero, List.map_nil, List.nil_append, Nat.sub_self, List.take_zero, prep_nil]⟩
  case round =>
    obtain ⟨ps, f, j, v, rfl, rfl, rfl, h1, h2, hf, hps, hown, hbel, hsp⟩ := hrel
    have hsz := hbel.size
    by_cases hj : j < s.size
    · have hjI : (j : Int) < (s.size : Int) := by omega
      have hd := bytes_drop s j hj
      by_cases hc : s[j].toNat = c.toNat
      · have hcI : (s[j].toNat : Int) = (c.toNat : Int) := by omega
        have HS : Hid (spl c s.data.toList = (ps ++ [s.extract f j]).map lst ++ prep ((s.data.toList.drop (j + 1)).take (j + 1 - (j + 1))) (spl c (s.data.toList.drop (j + 1)))) := by
          unfold Hid
          rw [hsp.out, hd]
          have : s[j] = c := UInt8.toNat_inj.1 hc
          simp only [spl, this, if_true, prep_cons, List.map_append, List.map_cons, List.map_nil, List.append_assoc, List.cons_append, List.nil_append, lst_extract, Nat.sub_self, List.take_zero, prep_nil, List.append_nil]
        clear hd hsp hc
        go_wp2_with (first | (at_builtin; refine wpList_append_own _ rfl _ _ 63 rfl w.heap.size 9 i0 (.string ⟨#[]⟩) 1 16 Tryz.underlying63 hi hz0 hz1 hz2 rfl (by decide) _ _ _ rfl (hown.alloc _) ⟨wr.heap.size, 0, none⟩ 1 1 [.string (s.extract f j)] rfl rfl (cell_one_new _ _ _) (fun u hu => by simp at hu; subst hu; rfl) (by unfold maxLen; omega) (by omega) (by simp; omega) ?_; intro v1 w1 hown1 hgrow hx; clear hx; have hb1 : Below w.heap.size w w1 := (hbel.alloc hsz _).grown hgrow (by first | omega | (simp; omega) | (simp; done)) (fun k hk => (hown.lt k hk).1); have HB1 := Lib.hid hb1; have HO1 := Lib.hid hown1; clear hown1 hgrow hb1) | go_in)
        go_roundg (gk - 1)
        case rel => exact ⟨ps ++ [s.extract f j], j + 1, j + 1, v1, rfl, by go_num, by go_num, by omega, by omega, by omega, by simp; omega, by rw [List.map_append, List.length_append]; exact HO1.out, HB1.out, HS⟩
        case measure => omega
      · have hcI : ¬ (s[j].toNat : Int) = (c.toNat : Int) := by omega
        have HS : Hid (spl c s.data.toList = ps.map lst ++ prep ((s.data.toList.drop f).take (j + 1 - f)) (spl c (s.data.toList.drop (j + 1)))) := by
          unfold Hid
          rw [hsp.out, hd]
          have : ¬ s[j] = c := fun q => hc (by rw [q])
          simp only [spl, this, if_false, prep_prep]; rw [take_more s f j hf hj]
        clear hd hsp hc
        go_wp2
        go_roundg (gk - 1)
        case rel => exact ⟨ps, f, j + 1, _, rfl, rfl, by go_num, by omega, by omega, by omega, by omega, hown, hbel, HS⟩
        case measure => omega
    · have e : j = s.size := by omega
      have HS : Hid ((ps ++ [s.extract f s.size]).map lst = spl c s.data.toList) := by
        unfold Hid
        rw [hsp.out, e, List.drop_of_length_le (l := s.data.toList) (i := s.size) (by simp), List.take_of_length_le (l := s.data.toList.drop f) (by simp)]
        simp [spl, prep, lst_end]
      clear hsp
      subst e
      go_wp2_with (first | (at_builtin; refine wpList_append_own _ rfl _ _ 63 rfl w.heap.size 9 i0 (.string ⟨#[]⟩) 1 16 Tryz.underlying63 hi hz0 hz1 hz2 rfl (by decide) _ _ _ rfl (hown.alloc _) ⟨wr.heap.size, 0, none⟩ 1 1 [.string (s.extract f s.size)] rfl rfl (cell_one_new _ _ _) (fun u hu => by simp at hu; subst hu; rfl) (by unfold maxLen; omega) (by omega) (by simp; omega) ?_; intro v1 w1 hown1 hgrow hx; clear hx; have hb1 : Below w.heap.size w w1 := (hbel.alloc hsz _).grown hgrow (by first | omega | (simp; omega) | (simp; done)) (fun k hk => (hown.lt k hk).1); have HB1 := Lib.hid hb1; have HO1 := Lib.hid hown1; clear hown1 hgrow hb1) | go_in)
      have HO2 : w1.ownsRow w.heap.size 9 1 v1 (ps ++ [s.extract f s.size]).length ((ps ++ [s.extract f s.size]).map Value.string) := by rw [List.map_append, List.length_append]; exact HO1.out
      obtain ⟨a1, c1, rfl⟩ := own_formT HO2
      go_ret
      exact ⟨a1, c1, _, rfl, HO2, HB1.out, HS.out⟩
end Go.Proofs.YtalnellimbehoaaGreatDoor
