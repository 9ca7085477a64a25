/- ShiftVisits (chapter 8), the model's way by contracts. -/
import Derived.Test.YtjfmmdblfhgelaaWinList
import Derived.Test.YtjfmmdblfhgelaaPairsV
import Derived.WalkKit
import Derived.WalkSpells
import Derived.WalkLawsBesides
import Derived.Lib.Hide
import Derived.Deep.LoopGhost
import Derived.Deep.QuietTactic
import Derived.Deep.RegionHeld3
import Derived.BigQuiet
namespace Go.Proofs.Ytjfmmdblfhgelaa
open Go.RowKit
set_option linter.unusedVariables false
set_option linter.unusedSimpArgs false
theorem cs2_snocV (out : List (Int × Int)) (u v : Int) : cs2 (out ++ [(u, v)]) = cs2 out ++ [.int .i64 u, .int .i64 v] := by
  induction out with
  | nil => rfl
  | cons p t ih => simp [cs2, ih]
theorem cell_two_newV (w : World) (o : Obj) (u v : Value) (e : TypeId) : ∀ (j : Nat) (x : Value), [u, v][j]? = some x → ((w.alloc o).alloc (.cells #[u, v] e)).cell? ((⟨w.heap.size + 1, 0, none⟩ : Addr).add j) = some x := by
  intro j x hx
  have ea : (⟨w.heap.size + 1, 0, none⟩ : Addr).add j = ⟨w.heap.size + 1, j, none⟩ := by unfold Addr.add; split <;> simp_all
  rw [ea]
  match j, hx with
  | 0, hx => simp at hx; subst hx; go_simp
  | 1, hx => simp at hx; subst hx; go_simp
  | j + 2, hx => simp at hx
theorem own_formV {w : World} {base e size n : Nat} {v : Value} {xs : List Value} (h : w.ownsRow base e size v n xs) : ∃ a c, v = .slice a n c := by
  rcases h.2 with ⟨rfl, rfl⟩ | ⟨g, c, _, rfl, _⟩
  · exact ⟨_, _, rfl⟩
  · exact ⟨_, _, rfl⟩
/-- the first visits, later -/
def shK (xs : List (Int × Int)) (d : Int) : Nat → List (Int × Int)
  | 0 => []
  | j + 1 => shK xs d j ++ [(px xs j + d, py xs j)]
theorem shK_len (xs : List (Int × Int)) (d : Int) : ∀ j, (shK xs d j).length = j
  | 0 => rfl
  | j + 1 => by simp [shK, shK_len xs d j]
def shB (xs : List (Int × Int)) (d : Int) : Bool := viS xs && inB d (-200) 200 && viS (shK xs d xs.length)
def shL (xs : List (Int × Int)) (d : Int) : List (Int × Int) := if shB xs d then shK xs d xs.length else []
def RetV (w : World) (ys : List (Int × Int)) (ok : Bool) (e : Ending) (w' : World) : Prop :=
  ∃ (a : Option Addr) (cap : Nat), e = .returned (.tuple #[.slice a ys.length cap, .bool ok]) ∧ OwnV w' w.heap.size a cap ys ∧ Below w.heap.size w w'
set_option maxHeartbeats 2000000 in
set_option maxRecDepth 100000 in
theorem specShiftVisits (a : Option Addr) (cap : Nat) (xs : List (Int × Int)) (d : Int) (w : World) (h : RdP w a xs) (hn : xs.length ≤ 1048576) :
    Calls Try.prog 29 #[.slice a xs.length cap, .int .i64 d] w (RetV w (shL xs d) (shB xs d)) := by
  cases h1 : viS xs
  · have H1 := Lib.hid h1
    have HL := Lib.hid (show shL xs d = [] by simp [shL, shB, h1])
    have HV := Lib.hid (show shB xs d = false by simp [shB, h1])
    clear h1
    go_enter Try.func29, Try.ntmps29
    go_wp2_with (first | (go_at_call 32; refine (wiGood_any a cap xs _ h hn).mono ?_; rw [H1.out]; rintro e w0 ⟨rfl, hb0⟩))
    go_ret2
    rw [HL.out, HV.out]
    exact ⟨none, 0, rfl, ⟨rfl, .inl ⟨rfl, rfl⟩⟩, hb0⟩
  cases h2 : inB d (-200) 200
  · have H1 := Lib.hid h1
    have HL := Lib.hid (show shL xs d = [] by simp [shL, shB, h2])
    have HV := Lib.hid (show shB xs d = false by simp [shB, h2])
    have HI := Lib.hid (fun w => h2 ▸ specIn d (-200) 200 w)
    clear h1 h2
    go_enter Try.func29, Try.ntmps29
    go_wp2_with (first | (go_at_call 32; refine (wiGood_any a cap xs _ h hn).mono ?_; rw [H1.out]; rintro e w0 ⟨rfl, hb0⟩) | (go_at_call 33; refine (HI.out _).mono ?_; rintro e w1 ⟨rfl, rfl⟩))
    go_ret2
    rw [HL.out, HV.out]
    exact ⟨none, 0, rfl, ⟨rfl, .inl ⟨rfl, rfl⟩⟩, hb0⟩
  · obtain ⟨i0, hi, hz0, hz1, hz2⟩ := info_parts pairInfoV
    have H1 := Lib.hid h1
    have HT := Lib.hid (viS_at h1)
    have hl := (viS_at h1).2.1
    have db := inB_iff.1 h2
    have HI := Lib.hid (fun w => h2 ▸ specIn d (-200) 200 w)
    have HF := Lib.hid (show shB xs d = viS (shK xs d xs.length) by simp [shB, h1, h2])
    clear h1 h2
    go_enter Try.func29, Try.ntmps29
    go_wp2_with (first | (go_at_call 32; refine (wiGood_any a cap xs _ h hn).mono ?_; rw [H1.out]; rintro e w0 ⟨rfl, hb0⟩) | (go_at_call 33; refine (HI.out _).mono ?_; rintro e w1 ⟨rfl, rfl⟩))
    have HB0 := Lib.hid hb0
    clear hb0
    go_loopg [6, 19] xs.length (fun f v6 v19 wr => ∃ (j : Nat) (ao : Option Addr) (co : Nat), v6 = .slice ao j co ∧ v19 = .int .i64 (j : Int) ∧ j + f ≤ xs.length ∧ xs.length ≤ j + f ∧ wr.ownsRow w.heap.size 50 2 (.slice ao j co) j (cs2 (shK xs d j)) ∧ Below w.heap.size w wr)
    case atStart => exact ⟨0, none, 0, rfl, rfl, by omega, by omega, World.ownsRow_nil _ _ _ _, HB0.out⟩
    case round =>
      obtain ⟨j, ao, co, rfl, rfl, g1, g2, hown, hbel⟩ := hrel
      have hsz := hbel.size
      by_cases hj : j < xs.length
      · have h' := h.below hbel
        rcases h' with h' | ⟨b, off, rfl, hlt, hc⟩
        · rw [h'] at hj; exact absurd hj (Nat.not_lt_zero _)
        · have hcj := (hc j hj).1
          have hck := (hc j hj).2
          have hjI : (j : Int) < (xs.length : Int) := by omega
          have bt := viOk_iff.1 (HT.out.2.2 j hj)
          have HN := Lib.hid (show shK xs d (j + 1) = shK xs d j ++ [(px xs j + d, py xs j)] from rfl)
          clear hc
          generalize px xs j = x at *
          generalize py xs j = y at *
          have HO := Lib.hid hown
          have HB := Lib.hid hbel
          clear hown hbel
          have HO1 := Lib.hid (HO.out.alloc (.cells #[.int .i64 x, .int .i64 y] 50))
          have HB1 := Lib.hid (HB.out.alloc hsz (.cells #[.int .i64 x, .int .i64 y] 50))
          go_wp2_with (first | (at_builtin; refine wpList_append_own _ rfl _ _ 27 rfl w.heap.size 50 i0 (.agg #[.int .i64 0, .int .i64 0]) 2 16 Try.underlying27 hi hz0 hz1 hz2 rfl (by decide) _ _ _ rfl (HO1.out.alloc _) ⟨wr.heap.size + 1, 0, none⟩ 1 1 [.int .i64 (x + d), .int .i64 y] rfl rfl (cell_two_newV _ _ _ _ _) (fun x hx => by simp at hx; rcases hx with rfl | rfl <;> rfl) (by unfold maxLen; omega) (by omega) (by first | omega | (simp; omega)) ?_; intro v1 w6 hO6 hgrow hx; clear hx; have HO6 := Lib.hid hO6; have HG6 := Lib.hid hgrow; clear hgrow hO6))
          obtain ⟨a4, c4, rfl⟩ := own_formV HO6.out
          have hB6 := (HB1.out.alloc (by simp; omega) _).grown HG6.out (by simp; omega) (fun k hk => (HO1.out.lt k hk).1)
          go_roundg (gk - 1)
          case rel => exact ⟨j + 1, a4, c4, rfl, by go_num, by omega, by omega, by rw [HN.out, cs2_snocV]; exact HO6.out, hB6⟩
          case measure => omega
      · obtain rfl : j = xs.length := by omega
        have HLN := Lib.hid (shK_len xs d xs.length)
        have hO : OwnV wr w.heap.size ao co (shK xs d xs.length) := by unfold OwnV; rw [HLN.out]; exact hown
        have HG := Lib.hid (wiGood_any ao co (shK xs d xs.length) wr hO.rd (by rw [HLN.out]; omega))
        rw [HLN.out] at HG
        have HB := Lib.hid hbel
        have HO := Lib.hid hO
        clear hown hbel hO
        cases hg : viS (shK xs d xs.length)
        · have HL := Lib.hid (show shL xs d = [] by simp [shL, HF.out, hg])
          have HV := Lib.hid (show shB xs d = false by rw [HF.out, hg])
          rw [hg] at HG
          clear hg
          go_wp2_with fail
          refine HG.out.mono ?_; rintro e w2 ⟨rfl, hb⟩
          go_wp2_with fail
          go_ret2
          rw [HL.out, HV.out]
          exact ⟨none, 0, rfl, ⟨rfl, .inl ⟨rfl, rfl⟩⟩, HB.out.trans (hb.mono HB.out.size)⟩
        · have HL := Lib.hid (show shL xs d = shK xs d xs.length by simp [shL, HF.out, hg])
          have HV := Lib.hid (show shB xs d = true by rw [HF.out, hg])
          rw [hg] at HG
          clear hg
          go_wp2_with fail
          refine HG.out.mono ?_; rintro e w2 ⟨rfl, hb⟩
          go_wp2_with fail
          go_ret2
          rw [HL.out, HV.out]
          exact ⟨ao, co, by rw [HLN.out]; rfl, HO.out.below hb, HB.out.trans (hb.mono HB.out.size)⟩
end Go.Proofs.Ytjfmmdblfhgelaa
