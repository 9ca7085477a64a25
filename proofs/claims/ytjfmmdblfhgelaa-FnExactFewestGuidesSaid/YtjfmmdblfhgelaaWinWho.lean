/- Who is there (chapter 8), the model's way by contracts. -/
import Derived.Test.YtjfmmdblfhgelaaWinList
import Derived.Test.YtjfmmdblfhgelaaSlices
import Derived.WalkKit
import Derived.WalkSpells
import Derived.WalkLawsBesides
import Derived.Lib.Hide
import Derived.Deep.LoopGhost
import Derived.Deep.QuietTactic
import Derived.Deep.RegionHeld3
import Derived.BigQuiet
namespace Go.Proofs.Ytjfmmdblfhgelaa
open Go.RowKit
set_option linter.unusedVariables false
set_option linter.unusedSimpArgs false
/-- one is there at a time -/
def thB (xs : List (Int × Int)) (t : Int) (j : Nat) : Bool := inB t (px xs j) (px xs j + py xs j)
/-- who of the first ones is there at a time -/
def thL (xs : List (Int × Int)) (t : Int) : Nat → List Int
  | 0 => []
  | j + 1 => if thB xs t j then thL xs t j ++ [(j : Int)] else thL xs t j
theorem thL_len (xs : List (Int × Int)) (t : Int) : ∀ j, (thL xs t j).length ≤ j
  | 0 => by simp [thL]
  | j + 1 => by
    have := thL_len xs t j
    simp only [thL]; split
    · simp; omega
    · omega
theorem ownV_form {w : World} {base e size n : Nat} {v : Value} {xs : List Value} (h : w.ownsRow base e size v n xs) : ∃ a c, v = .slice a n c := by
  rcases h.2 with ⟨rfl, rfl⟩ | ⟨g, c, _, rfl, _⟩
  · exact ⟨_, _, rfl⟩
  · exact ⟨_, _, rfl⟩
theorem cell_one_newV (w : World) (o : Obj) (v : Value) (e : TypeId) : ∀ (j : Nat) (u : Value), [v][j]? = some u → ((w.alloc o).alloc (.cells #[v] e)).cell? ((⟨w.heap.size + 1, 0, none⟩ : Addr).add j) = some u := by
  have h := cell_one_new (w.alloc o) v e
  have e1 : (w.alloc o).heap.size = w.heap.size + 1 := by simp
  rw [e1] at h; exact h
theorem Own.lowV {w : World} {base base' : Nat} {a : Option Addr} {cap : Nat} {xs : List Int} (h : Own w base a cap xs) (hb : base' ≤ base) : Own w base' a cap xs := by
  obtain ⟨hl, h⟩ := h
  refine ⟨hl, ?_⟩
  rcases h with h | ⟨g, c, cur, e, h1, h2⟩
  · exact .inl h
  · exact .inr ⟨g, c, cur, e, Nat.le_trans hb h1, h2⟩
set_option maxHeartbeats 2000000 in
set_option maxRecDepth 100000 in
theorem wiThere_any (t : Int) (a : Option Addr) (cap : Nat) (xs : List (Int × Int)) (w : World) (h : RdP w a xs) (hl : xs.length ≤ 6) (ht : ∀ i, i < xs.length → viOk (px xs i) (py xs i) = true) :
    Calls Try.prog 34 #[.slice a xs.length cap, .int .i64 t] w fun e w' => ∃ (ao : Option Addr) (co : Nat), e = .returned (.slice ao (thL xs t xs.length).length co) ∧ Own w' w.heap.size ao co (thL xs t xs.length) ∧ Below w.heap.size w w' := by
  obtain ⟨i0, hi, hz0, hz1, hz2⟩ := info_parts intInfo
  have hnI : (xs.length : Int) ≤ 6 := by omega
  have HT := Lib.hid ht
  clear ht
  go_enter Try.func34, Try.ntmps34
  go_wp2_with fail
  go_loopg [5, 10] xs.length (fun k v5 v10 w2 => ∃ (j : Nat) (ao : Option Addr) (co : Nat), v5 = .slice ao (thL xs t j).length co ∧ v10 = .int .i64 (j : Int) ∧ j + k ≤ xs.length ∧ xs.length ≤ j + k ∧ w2.ownsRow w.heap.size 3 1 (.slice ao (thL xs t j).length co) (thL xs t j).length ((thL xs t j).map (Value.int .i64)) ∧ Below w.heap.size w w2)
  case atStart => exact ⟨0, none, 0, rfl, rfl, by omega, by omega, World.ownsRow_nil _ _ _ _, Below.refl _ _⟩
  case round =>
    obtain ⟨j, ao, co, rfl, rfl, h1, h2, hown, hbel⟩ := hrel
    have hsz2 := hbel.size
    by_cases hj : j < xs.length
    · rcases h with h | ⟨b, off, rfl, hlt, hc⟩
      · rw [h] at hj; exact absurd hj (Nat.not_lt_zero _)
      · have hcj : wr.cell? ⟨b, off + j * 2, none⟩ = some (.int .i64 (px xs j)) := by rw [(bcell hbel).1 b _ hlt]; exact (hc j hj).1
        have hck : wr.cell? ⟨b, off + j * 2 + 1, none⟩ = some (.int .i64 (py xs j)) := by rw [(bcell hbel).1 b _ hlt]; exact (hc j hj).2
        have hjI : (j : Int) < (xs.length : Int) := by omega
        have bt := viOk_iff.1 (HT.out j hj)
        have hw := thL_len xs t j
        have HO := Lib.hid hown
        have HB2 := Lib.hid hbel
        have HC := Lib.hid hc
        clear hown hbel hc
        cases hf : thB xs t j
        · have HW := Lib.hid (show thL xs t (j + 1) = thL xs t j by simp only [thL]; rw [hf]; rfl)
          have HI := Lib.hid (fun w => (show inB t (px xs j) (px xs j + py xs j) = false from hf) ▸ specIn t (px xs j) (px xs j + py xs j) w)
          clear hf
          generalize px xs j = x at *
          generalize py xs j = y at *
          go_wp2_with (first | (go_at_call 33; refine (HI.out _).mono ?_; rintro e w1 ⟨rfl, rfl⟩))
          go_roundg (gk - 1)
          case rel => exact ⟨j + 1, ao, co, by rw [HW.out], by go_num, by omega, by omega, by rw [HW.out]; exact HO.out.alloc _, HB2.out.alloc hsz2 _⟩
          case measure => omega
        · have HW := Lib.hid (show thL xs t (j + 1) = thL xs t j ++ [(j : Int)] by simp only [thL]; rw [hf]; rfl)
          have HI := Lib.hid (fun w => (show inB t (px xs j) (px xs j + py xs j) = true from hf) ▸ specIn t (px xs j) (px xs j + py xs j) w)
          clear hf
          generalize px xs j = x at *
          generalize py xs j = y at *
          generalize hWJ : thL xs t j = WJ at *
          have HWJ := Lib.hid hWJ
          clear hWJ
          have hO1 := HO.out.alloc (.cells #[.int .i64 x, .int .i64 y] 50)
          have hB1 := HB2.out.alloc hsz2 (.cells #[.int .i64 x, .int .i64 y] 50)
          have HO1 := Lib.hid hO1
          have HB1 := Lib.hid hB1
          clear hO1 hB1
          go_wp2_with (first | (go_at_call 33; refine (HI.out _).mono ?_; rintro e w1 ⟨rfl, rfl⟩) | (at_builtin; refine wpList_append_own _ rfl _ _ 24 rfl w.heap.size 3 i0 (.int .i64 0) 1 8 Try.underlying24 hi hz0 hz1 hz2 rfl (by decide) _ _ _ rfl (HO1.out.alloc _) ⟨wr.heap.size + 1, 0, none⟩ 1 1 [.int .i64 (j : Int)] rfl rfl (cell_one_newV _ _ _ _) (fun u hu => by simp at hu; subst hu; rfl) (by unfold maxLen; omega) (by omega) (by first | omega | (simp; omega)) ?_; intro v1 w3 hown1 hgrow hx; clear hx; have hO3 := Lib.hid hown1; have HG3 := Lib.hid hgrow; clear hown1 hgrow))
          have hB3 := (HB1.out.alloc (by simp; omega) _).grown HG3.out (by simp; omega) (fun k hk => (HO1.out.lt k hk).1)
          have hO4 := hO3.out
          obtain ⟨a3, c3, rfl⟩ := ownV_form hO4
          go_roundg (gk - 1)
          case rel => exact ⟨j + 1, a3, c3, by rw [HW.out]; simp, by go_num, by omega, by omega, by rw [HW.out]; simpa using hO4, hB3⟩
          case measure => omega
    · have e : j = xs.length := by omega
      subst e
      have HO := Lib.hid hown
      have HB2 := Lib.hid hbel
      clear hown hbel
      go_wp2_with fail
      go_ret
      exact ⟨ao, co, rfl, HO.out, HB2.out⟩
/-- who is there, as the function answers -/
def whB (xs : List (Int × Int)) (t : Int) : Bool := viS xs && inB t 0 1000
def whL (xs : List (Int × Int)) (t : Int) : List Int := if whB xs t then thL xs t xs.length else []
set_option maxHeartbeats 2000000 in
theorem specWhoIsThere (a : Option Addr) (cap : Nat) (xs : List (Int × Int)) (t : Int) (w : World) (h : RdP w a xs) (hn : xs.length ≤ 1048576) :
    Calls Try.prog 10 #[.slice a xs.length cap, .int .i64 t] w (RetS w (whL xs t) (whB xs t)) := by
  cases h1 : viS xs
  · have H1 := Lib.hid h1
    have HL := Lib.hid (show whL xs t = [] by simp [whL, whB, h1])
    have HV := Lib.hid (show whB xs t = false by simp [whB, h1])
    clear h1
    go_enter Try.func10, Try.ntmps10
    go_wp2_with (first | (go_at_call 32; refine (wiGood_any a cap xs _ h hn).mono ?_; rw [H1.out]; rintro e w0 ⟨rfl, hb0⟩))
    go_ret2
    rw [HL.out, HV.out]
    exact ⟨none, 0, rfl, ⟨rfl, .inl ⟨rfl, rfl⟩⟩, hb0⟩
  cases h2 : inB t 0 1000
  · have H1 := Lib.hid h1
    have HL := Lib.hid (show whL xs t = [] by simp [whL, whB, h2])
    have HV := Lib.hid (show whB xs t = false by simp [whB, h2])
    have HI := Lib.hid (fun w => h2 ▸ specIn t 0 1000 w)
    clear h1 h2
    go_enter Try.func10, Try.ntmps10
    go_wp2_with (first | (go_at_call 32; refine (wiGood_any a cap xs _ h hn).mono ?_; rw [H1.out]; rintro e w0 ⟨rfl, hb0⟩) | (go_at_call 33; refine (HI.out _).mono ?_; rintro e w1 ⟨rfl, rfl⟩))
    go_ret2
    rw [HL.out, HV.out]
    exact ⟨none, 0, rfl, ⟨rfl, .inl ⟨rfl, rfl⟩⟩, hb0⟩
  · have H1 := Lib.hid h1
    have HT := Lib.hid (viS_at h1)
    have HL := Lib.hid (show whL xs t = thL xs t xs.length by simp [whL, whB, h1, h2])
    have HV := Lib.hid (show whB xs t = true by simp [whB, h1, h2])
    have HI := Lib.hid (fun w => h2 ▸ specIn t 0 1000 w)
    clear h1 h2
    go_enter Try.func10, Try.ntmps10
    go_wp2_with (first | (go_at_call 32; refine (wiGood_any a cap xs _ h hn).mono ?_; rw [H1.out]; rintro e w0 ⟨rfl, hb0⟩) | (go_at_call 33; refine (HI.out _).mono ?_; rintro e w1 ⟨rfl, rfl⟩) | (go_at_call 34; refine (wiThere_any t a cap xs _ (h.below hb0) HT.out.2.1 HT.out.2.2).mono ?_; rintro e w2 ⟨ao, co, rfl, hown, hb2⟩))
    go_ret2
    rw [HL.out, HV.out]
    exact ⟨ao, co, rfl, Own.lowV hown hb0.size, hb0.trans (hb2.mono hb0.size)⟩
/-- the greatest number of people at one of the first times, and the first such time -/
def mtS (xs : List (Int × Int)) : Nat → Int × Int
  | 0 => (0, 0)
  | j + 1 => if (mtS xs j).1 < ((thL xs (j : Int) xs.length).length : Int) then (((thL xs (j : Int) xs.length).length : Int), (j : Int)) else mtS xs j
set_option maxHeartbeats 2000000 in
theorem specMostTogether (a : Option Addr) (cap : Nat) (xs : List (Int × Int)) (w : World) (h : RdP w a xs) (hn : xs.length ≤ 1048576) :
    Calls Try.prog 23 #[.slice a xs.length cap] w fun e w' => e = .returned (.tuple #[.int .i64 (ifI (viS xs) (mtS xs 201).1), .int .i64 (ifI (viS xs) (mtS xs 201).2), .bool (viS xs)]) ∧ Below w.heap.size w w' := by
  cases hs : viS xs
  · have HS := Lib.hid hs
    clear hs
    go_enter Try.func23, Try.ntmps23
    go_wp2_with fail
    refine (wiGood_any a cap xs _ h hn).mono ?_; rw [HS.out]; rintro e w1 ⟨rfl, hb⟩
    go_wp2_with fail
    go_ret3
    exact ⟨rfl, hb⟩
  · have HS := Lib.hid hs
    have HT := Lib.hid (viS_at hs)
    clear hs
    go_enter Try.func23, Try.ntmps23
    go_wp2_with fail
    refine (wiGood_any a cap xs _ h hn).mono ?_; rw [HS.out]; rintro e w0 ⟨rfl, hb0⟩
    have HB0 := Lib.hid hb0
    clear hb0
    go_wp2_with fail
    go_loopg [5, 6, 7] 201 (fun k v5 v6 v7 wr => ∃ (j : Nat) (p q : Int), v5 = .int .i64 p ∧ v6 = .int .i64 q ∧ v7 = .int .i64 (j : Int) ∧ j + k = 201 ∧ Hid (mtS xs j = (p, q)) ∧ Below w.heap.size w wr)
    case atStart => exact ⟨0, 0, 0, rfl, rfl, rfl, rfl, rfl, HB0.out⟩
    case round =>
      obtain ⟨j, p, q, rfl, rfl, rfl, h1, hp, hbel⟩ := hrel
      have HB := Lib.hid hbel
      have hsz := hbel.size
      clear hbel
      by_cases hj : j ≤ 200
      · have hjI : (j : Int) ≤ 200 := by omega
        have HN := Lib.hid (show mtS xs (j + 1) = if p < ((thL xs (j : Int) xs.length).length : Int) then (((thL xs (j : Int) xs.length).length : Int), (j : Int)) else (p, q) by show (if (mtS xs j).1 < ((thL xs (j : Int) xs.length).length : Int) then _ else mtS xs j) = _; rw [hp.out])
        have hle := thL_len xs (j : Int) xs.length
        have HC := Lib.hid (wiThere_any (j : Int) a cap xs wr (h.below HB.out) HT.out.2.1 HT.out.2.2)
        generalize thL xs (j : Int) xs.length = L at *
        by_cases hlt : p < (L.length : Int)
        · have HN2 := Lib.hid (HN.out.trans (if_pos hlt))
          go_wp2_with fail
          refine HC.out.mono ?_; rintro e w2 ⟨ao, co, rfl, hown, hb2⟩
          go_wp2_with fail
          go_roundg (gk - 1)
          case rel => exact ⟨j + 1, _, _, rfl, rfl, by go_num, by omega, HN2.out, HB.out.trans (hb2.mono hsz)⟩
          case measure => omega
        · have HN2 := Lib.hid (HN.out.trans (if_neg hlt))
          go_wp2_with fail
          refine HC.out.mono ?_; rintro e w2 ⟨ao, co, rfl, hown, hb2⟩
          go_wp2_with fail
          go_roundg (gk - 1)
          case rel => exact ⟨j + 1, _, _, rfl, rfl, by go_num, by omega, HN2.out, HB.out.trans (hb2.mono hsz)⟩
          case measure => omega
      · obtain rfl : j = 201 := by omega
        go_wp2_with fail
        go_ret3
        refine ⟨rII ?_ ?_ ?_, HB.out⟩
        all_goals simp [HS.out, hp.out, ifI]
end Go.Proofs.Ytjfmmdblfhgelaa
