/- Neighbours of one speed joined: the model's function by contracts. -/
import Derived.Test.YtikfblbfodacaaaLegHalf
import Derived.WalkKit
import Derived.WalkSpells
import Derived.WalkLawsBesides
import Derived.Lib.Hide
import Derived.Deep.LoopGhost
import Derived.Deep.QuietTactic
import Derived.Deep.RegionLaw
import Derived.Deep.RegionHeld3
import Derived.BigQuiet
import Derived.Shelf.RegionOpenPlain
namespace Go.Proofs.Ytikfblbfodacaaa
open Go.RowKit
set_option linter.unusedVariables false
set_option linter.unusedSimpArgs false
/-- one more leg behind -/
def jnS (out : List (Int × Int)) (l f : Int) : List (Int × Int) :=
  if 0 < out.length ∧ py out (out.length - 1) = f then out.set (out.length - 1) (px out (out.length - 1) + l, f) else out ++ [(l, f)]
/-- the first j legs joined -/
def jnL (xs : List (Int × Int)) : Nat → List (Int × Int)
  | 0 => []
  | j + 1 => jnS (jnL xs j) (px xs j) (py xs j)
theorem jnS_len (out : List (Int × Int)) (l f : Int) : 1 ≤ (jnS out l f).length ∧ (jnS out l f).length ≤ out.length + 1 := by
  unfold jnS
  split
  · rename_i h
    rw [List.length_set]; omega
  · simp
theorem jnL_len (xs : List (Int × Int)) : ∀ j, (jnL xs j).length ≤ j
  | 0 => by simp [jnL]
  | j + 1 => by
    have := jnL_len xs j
    have := (jnS_len (jnL xs j) (px xs j) (py xs j)).2
    simp only [jnL]; omega
theorem cs2_len (xs : List (Int × Int)) : (cs2 xs).length = xs.length * 2 := by
  induction xs with
  | nil => rfl
  | cons p t ih => simp [cs2, ih]; omega
theorem cs2_atJ : ∀ (xs : List (Int × Int)) (k : Nat), k < xs.length → (cs2 xs)[k * 2]? = some (.int .i64 (px xs k)) ∧ (cs2 xs)[k * 2 + 1]? = some (.int .i64 (py xs k))
  | [], k, h => absurd h (Nat.not_lt_zero _)
  | p :: t, 0, _ => by simp [cs2, px, py]
  | p :: t, k + 1, h => by
    have ih := cs2_atJ t k (by simpa using h)
    have e : (k + 1) * 2 = k * 2 + 2 := by omega
    rw [e]
    simp only [cs2, px, py, List.getD_cons_succ] at ih ⊢
    simpa using ih
theorem cs2_setJ : ∀ (xs : List (Int × Int)) (k : Nat) (u : Int), k < xs.length → cs2 (xs.set k (u, py xs k)) = (cs2 xs).set (k * 2) (.int .i64 u)
  | [], k, _, h => absurd h (Nat.not_lt_zero _)
  | p :: t, 0, u, _ => by simp [cs2, py]
  | p :: t, k + 1, u, h => by
    have ih := cs2_setJ t k u (by simpa using h)
    have e : (k + 1) * 2 = k * 2 + 2 := by omega
    rw [e]
    simp only [cs2, py, List.getD_cons_succ, List.set_cons_succ] at ih ⊢
    rw [ih]
theorem px_setJ {out : List (Int × Int)} {j m : Nat} (h : ∀ i, i < out.length → 0 ≤ px out i ∧ px out i ≤ 1000 * (j : Int)) (hm : m < out.length) {l f : Int} (l0 : 0 ≤ l) (l1 : l ≤ 1000) :
    ∀ i, i < (out.set m (px out m + l, f)).length → 0 ≤ px (out.set m (px out m + l, f)) i ∧ px (out.set m (px out m + l, f)) i ≤ 1000 * ((j + 1 : Nat) : Int) := by
  intro i hi
  rw [List.length_set] at hi
  by_cases q : m = i
  · subst q
    have e : px (out.set m (px out m + l, f)) m = px out m + l := by
      conv => lhs; unfold px
      rw [List.getD, List.getElem?_set_self hm]; rfl
    rw [e]
    have := h m hm
    omega
  · have e : px (out.set m (px out m + l, f)) i = px out i := by
      conv => lhs; unfold px
      rw [List.getD, List.getElem?_set_ne q]; rfl
    rw [e]
    have := h i hi
    omega
theorem px_appJ {out : List (Int × Int)} {j : Nat} (h : ∀ i, i < out.length → 0 ≤ px out i ∧ px out i ≤ 1000 * (j : Int)) {l f : Int} (l0 : 0 ≤ l) (l1 : l ≤ 1000) :
    ∀ i, i < (out ++ [(l, f)]).length → 0 ≤ px (out ++ [(l, f)]) i ∧ px (out ++ [(l, f)]) i ≤ 1000 * ((j + 1 : Nat) : Int) := by
  intro i hi
  rw [List.length_append, List.length_singleton] at hi
  by_cases q : i < out.length
  · have e : px (out ++ [(l, f)]) i = px out i := by
      unfold px
      rw [List.getD, List.getElem?_append_left q]; rfl
    rw [e]
    have := h i q
    omega
  · have e : px (out ++ [(l, f)]) i = l := by
      unfold px
      rw [List.getD, List.getElem?_append_right (by omega), show i - out.length = 0 by omega]; rfl
    rw [e]; omega
/-- what JoinLegs answers -/
def jlB (xs : List (Int × Int)) : Bool := lgS xs && lgS (jnL xs xs.length)
def jlL (xs : List (Int × Int)) : List (Int × Int) := if jlB xs then jnL xs xs.length else []
/-- what a function of ([]Leg, bool) answers -/
def RetG (w : World) (xs : List (Int × Int)) (ok : Bool) (e : Ending) (w' : World) : Prop :=
  ∃ (a : Option Addr) (cap : Nat), e = .returned (.tuple #[.slice a xs.length cap, .bool ok]) ∧ OwnG w' w.heap.size a cap xs ∧ Below w.heap.size w w'
theorem retG_none {w w' : World} (hb : Below w.heap.size w w') {e : Ending} (he : e = .returned (.tuple #[.slice none 0 0, .bool false])) : RetG w [] false e w' :=
  ⟨none, 0, he, ⟨rfl, .inl ⟨rfl, rfl⟩⟩, hb⟩
theorem row_formJ {w : World} {base e size n : Nat} {a : Option Addr} {c : Nat} {xs : List Value} (h : w.ownsRow base e size (.slice a n c) n xs) (hn : 0 < n) : ∃ g, a = some ⟨g, 0, none⟩ := by
  rcases h.2 with ⟨_, q⟩ | ⟨g, c', _, q, _⟩
  · omega
  · injection q with q1 q2 q3; exact ⟨g, q1⟩
set_option maxRecDepth 100000 in
set_option maxHeartbeats 4000000 in
theorem specJoinLegs (a : Option Addr) (cap : Nat) (xs : List (Int × Int)) (w : World) (h : RdP w a xs) (hn : xs.length ≤ 1048576) :
    Calls Try.prog 6 #[.slice a xs.length cap] w (RetG w (jlL xs) (jlB xs)) := by
  have hmix : Try.prog.follows Departure.mixedOrders = true := by kernel_rfl
  obtain ⟨i0, hi, hz0, hz1, hz2⟩ := info_parts pairInfoG
  cases hs : lgS xs
  · have HR := Lib.hid (show jlL xs = [] by unfold jlL jlB; rw [hs]; rfl)
    have HJ := Lib.hid (show jlB xs = false by unfold jlB; rw [hs]; rfl)
    have HS := Lib.hid hs
    clear hs
    rw [HR.out, HJ.out]
    go_enter Try.func6, Try.ntmps6
    go_wp2_with (first | (go_at_call 18; refine (reGood_any a cap xs _ h hn).mono ?_; rw [HS.out]; rintro e w1 ⟨rfl, hb⟩))
    go_ret2
    exact retG_none hb rfl
  · have t := lgS_at hs
    have HS := Lib.hid hs
    have hl := t.2.1
    have HT := Lib.hid (fun i hi => lgOk_iff.1 (t.2.2 i hi))
    have HLn := Lib.hid (jnL_len xs)
    clear hs t
    go_enter Try.func6, Try.ntmps6
    go_wp2_with fail
    refine (reGood_any a cap xs _ h hn).mono ?_; rw [HS.out]; rintro e w1 ⟨rfl, hb⟩
    go_wp2_with fail
    have h0 := Lib.hid h
    clear h
    go_loopg [4, 13] xs.length (fun f vk vc wr => ∃ (j : Nat) (ao : Option Addr) (co : Nat) (out : List (Int × Int)), vk = .slice ao out.length co ∧ vc = .int .i64 (j : Int) ∧ j + f ≤ xs.length ∧ xs.length ≤ j + f ∧ Hid (out = jnL xs j) ∧ Hid (∀ i, i < out.length → 0 ≤ px out i ∧ px out i ≤ 1000 * (j : Int)) ∧ wr.ownsRow w.heap.size 43 2 (.slice ao out.length co) out.length (cs2 out) ∧ Below w.heap.size w wr)
    case atStart => exact ⟨0, none, 0, [], rfl, rfl, by omega, by omega, rfl, fun i hi => absurd hi (Nat.not_lt_zero _), World.ownsRow_nil _ _ _ _, hb⟩
    case round =>
      clear hb
      obtain ⟨j, ao, co, out, rfl, rfl, g1, g2, hO, hbd, hown, hbel⟩ := hrel
      have hsz := hbel.size
      by_cases hj : j < xs.length
      · have h' := h0.out.below hbel
        rcases h' with h' | ⟨b, off, rfl, hlt, hc⟩
        · rw [h'] at hj; exact absurd hj (Nat.not_lt_zero _)
        · have cj0 := (hc j hj).1
          have cj1 := (hc j hj).2
          have hjI : (j : Int) < (xs.length : Int) := by omega
          have hol := HLn.out j
          rw [← hO.out] at hol
          have bx := HT.out j hj
          have HST := Lib.hid (show jnL xs (j + 1) = jnS out (px xs j) (py xs j) by rw [hO.out]; rfl)
          have HO := Lib.hid hown
          have HB := Lib.hid hbel
          clear hown hbel hc hO
          generalize px xs j = x at *
          generalize py xs j = y at *
          by_cases h1 : 0 < out.length
          · obtain ⟨g, rfl⟩ := row_formJ HO.out h1
            have hI1 : (0 : Int) < (out.length : Int) := by omega
            have hg := (HO.out.lt g rfl).2
            have k0 : wr.cell? ⟨g, (out.length - 1) * 2, none⟩ = some (.int .i64 (px out (out.length - 1))) := by rw [HO.out.cellAt _ (by omega)]; exact (cs2_atJ out (out.length - 1) (by omega)).1
            have k1 : wr.cell? ⟨g, (out.length - 1) * 2 + 1, none⟩ = some (.int .i64 (py out (out.length - 1))) := by rw [HO.out.cellAt _ (by omega)]; exact (cs2_atJ out (out.length - 1) (by omega)).2
            have bo := hbd.out (out.length - 1) (by omega)
            have e1 : ((out.length : Int) - 1).toNat = out.length - 1 := by omega
            by_cases h2 : py out (out.length - 1) = y
            · obtain ⟨m, hm⟩ : ∃ m, out.length - 1 = m := ⟨_, rfl⟩
              have hmo : m < out.length := by omega
              have HNL := Lib.hid (show out.set m (px out m + x, y) = jnL xs (j + 1) by rw [HST.out]; unfold jnS; rw [if_pos ⟨h1, h2⟩, hm])
              rw [hm] at k0 k1 bo e1 h2
              have HCS := Lib.hid (show cs2 (out.set m (px out m + x, y)) = (cs2 out).set (m * 2) (.int .i64 (px out m + x)) by have q := cs2_setJ out m (px out m + x) hmo; rw [h2] at q; exact q)
              have HNB := Lib.hid (px_setJ hbd.out hmo (l := x) (f := y) (by omega) (by omega))
              rw [h2] at k1
              generalize px out m = z at *
              have hw1 : IntKind.i64.wrap ((out.length : Int) - 1) = (out.length : Int) - 1 := IntWalk.i64_in _ (by omega)
              have hw3 : (m : Int) < (out.length : Int) := by omega
              have hw4 : (0 : Int) ≤ (m : Int) := by omega
              have hw5 : (1 : Int) ≤ (out.length : Int) := by omega
              have hw6 : (out.length : Int) - 1 < (out.length : Int) := by omega
              have hw7 : ((out.length : Int) - 1).toNat = m := by omega
              have hw8 : (0 : Int) ≤ (out.length : Int) - 1 := by omega
              clear h2 hm e1
              go_wp2_with fail
              go_region_held3 (fun w' => Below wr.heap.size wr w' ∧ wr.heap.size < w'.heap.size ∧ w'.cell? ⟨wr.heap.size, 0, none⟩ = some (.int .i64 x) ∧ w'.cell? ⟨wr.heap.size, 1, none⟩ = some (.int .i64 y) ∧ w'.cell? ⟨g, m * 2, none⟩ = some (.int .i64 z) ∧ w'.cell? ⟨g, m * 2 + 1, none⟩ = some (.int .i64 y))
                (refine ⟨?_, ?_, ?_, ?_, ?_, ?_⟩ <;> first | assumption | omega | (go_simp; done) | (simp; omega) | (repeat (first | exact Below.refl _ _ | refine Below.drew ?_ | refine Below.alloc ?_ (by first | omega | (simp; done) | (simp; omega)) _ | refine bchain ?_ (by assumption) (by first | omega | (simp; done) | (simp; omega)))))
                (fail)
              rename_i hHeld
              generalize (wr.alloc (Obj.cells #[Value.int IntKind.i64 x, Value.int IntKind.i64 y] 43)).drew = w5 at *
              have B5 := Lib.hid (HB.out.trans (hHeld.1.mono hsz))
              have hO5 := row_below HO.out hHeld.1
              have c0 := hHeld.2.2.1
              have c1 := hHeld.2.2.2.1
              have c2 := hHeld.2.2.2.2.1
              have c3 := hHeld.2.2.2.2.2
              have f0 := hO5.frozenAt (m * 2)
              have s1 := hHeld.2.1
              have s2 := Nat.lt_of_lt_of_le hg hHeld.1.size
              have s3 := (HO.out.lt g rfl).1
              obtain ⟨st1, _⟩ := hO5.stored (m * 2) (.int .i64 (z + x))
              rw [← HCS.out] at st1
              have HST2 := Lib.hid st1
              have hz1' : IntKind.i64.wrap (z + x) = z + x := IntWalk.i64_in _ (by omega)
              clear st1 hO5 hHeld k0 k1 cj0 cj1
              have c0d : w5.drew.cell? ⟨wr.heap.size, 0, none⟩ = some (.int .i64 x) := c0
              have c2d : w5.drew.cell? ⟨g, m * 2, none⟩ = some (.int .i64 z) := c2
              have f0d : w5.drew.frozen? ⟨g, m * 2, none⟩ = false := f0
              have c0e : w5.drew.drew.cell? ⟨wr.heap.size, 0, none⟩ = some (.int .i64 x) := c0
              have c2e : w5.drew.drew.cell? ⟨g, m * 2, none⟩ = some (.int .i64 z) := c2
              have f0e : w5.drew.drew.frozen? ⟨g, m * 2, none⟩ = false := f0
              go_wp2_with fail
              go_big_region_o
              all_goals go_wp2_with fail
              all_goals
                go_roundg (gk - 1)
                case rel => exact ⟨j + 1, some ⟨g, 0, none⟩, co, out.set m (z + x, y), by rw [List.length_set], by go_num, by omega, by omega, HNL.out, HNB.out, by rw [List.length_set]; exact HST2.out, by first | exact (B5.out.setCell s3 _).drew | exact B5.out.setCell s3 _⟩
                case measure => omega
            · obtain ⟨m, hm⟩ : ∃ m, out.length - 1 = m := ⟨_, rfl⟩
              have HNL := Lib.hid (show out ++ [(x, y)] = jnL xs (j + 1) by rw [HST.out]; unfold jnS; rw [if_neg (fun q => h2 q.2)])
              have HNB := Lib.hid (px_appJ hbd.out (l := x) (f := y) (by omega) (by omega))
              rw [hm] at k0 k1 bo e1 h2
              generalize hyo : py out m = yo at *
              have hne : (yo == y) = false := by rw [beq_eq_false_iff_ne]; exact h2
              have hw1 : IntKind.i64.wrap ((out.length : Int) - 1) = (out.length : Int) - 1 := IntWalk.i64_in _ (by omega)
              have hw3 : (m : Int) < (out.length : Int) := by omega
              have hw4 : (0 : Int) ≤ (m : Int) := by omega
              have hw5 : (1 : Int) ≤ (out.length : Int) := by omega
              have hw6 : (out.length : Int) - 1 < (out.length : Int) := by omega
              have hw7 : ((out.length : Int) - 1).toNat = m := by omega
              have hw8 : (0 : Int) ≤ (out.length : Int) - 1 := by omega
              clear hm e1 k0 hyo
              go_wp2_with fail
              go_region_held3 (fun w' => Below wr.heap.size wr w' ∧ wr.heap.size < w'.heap.size ∧ w'.cell? ⟨wr.heap.size, 0, none⟩ = some (.int .i64 x) ∧ w'.cell? ⟨wr.heap.size, 1, none⟩ = some (.int .i64 y) ∧ w'.cell? ⟨g, m * 2 + 1, none⟩ = some (.int .i64 yo))
                (refine ⟨?_, ?_, ?_, ?_, ?_⟩ <;> first | assumption | omega | (go_simp; done) | (simp; omega) | (repeat (first | exact Below.refl _ _ | refine Below.drew ?_ | refine Below.alloc ?_ (by first | omega | (simp; done) | (simp; omega)) _ | refine bchain ?_ (by assumption) (by first | omega | (simp; done) | (simp; omega)))))
                (fail)
              rename_i hHeld
              generalize (wr.alloc (Obj.cells #[Value.int IntKind.i64 x, Value.int IntKind.i64 y] 43)).drew = w5 at *
              have HBW := Lib.hid (HB.out.trans (hHeld.1.mono hsz))
              have HO5 := Lib.hid (row_below HO.out hHeld.1)
              have c0 := hHeld.2.2.1
              have c1 := hHeld.2.2.2.1
              have s1 := hHeld.2.1
              clear hHeld k1 cj0 cj1
              have hs5 := HBW.out.size
              go_wp2_with (first | (at_builtin; refine wpList_append_own _ rfl _ _ 24 rfl w.heap.size 43 i0 (.agg #[.int .i64 0, .int .i64 0]) 2 16 Try.underlying24 hi hz0 hz1 hz2 rfl (by decide) _ _ _ rfl (HO5.out.alloc _) ⟨w5.heap.size, 0, none⟩ 1 1 [.int .i64 x, .int .i64 y] rfl rfl (cell_two_newH _ _ _ _) (fun x hx => by simp at hx; rcases hx with rfl | rfl <;> rfl) (by unfold maxLen; omega) (by omega) (by first | omega | (simp; omega)) ?_; intro v1 w6 hO6 hgrow hx; clear hx; have HO6 := Lib.hid hO6; have HG6 := Lib.hid hgrow; clear hgrow hO6))
              obtain ⟨a4, c4, rfl⟩ := own_formH HO6.out
              have hBa := HBW.out.alloc hs5 (.cells #[.int .i64 x, .int .i64 y] 43)
              have hB6 := hBa.grown HG6.out hBa.size (fun k hk => (HO5.out.lt k hk).1)
              go_roundg (gk - 1)
              case rel => exact ⟨j + 1, a4, c4, out ++ [(x, y)], by rw [List.length_append]; rfl, by go_num, by omega, by omega, HNL.out, HNB.out, by rw [List.length_append, cs2_snocH]; exact HO6.out, hB6⟩
              case measure => omega
          · have h1n : out.length = 0 := by omega
            have HNL := Lib.hid (show out ++ [(x, y)] = jnL xs (j + 1) by rw [HST.out]; unfold jnS; rw [if_neg (fun q => h1 q.1)])
            have HNB := Lib.hid (px_appJ hbd.out (l := x) (f := y) (by omega) (by omega))
            obtain rfl : out = [] := List.length_eq_zero_iff.1 h1n
            clear h1n h1 hol
            have HO0 := Lib.hid (show wr.ownsRow w.heap.size 43 2 (.slice ao 0 co) 0 [] from HO.out)
            clear HO
            simp only [List.length_nil] at *
            go_wp2_with fail
            have hI0 : ¬ (0 : Int) < ((0 : Nat) : Int) := by omega
            go_quiet (fail)
            have hA := (Below.refl wr.heap.size wr).alloc (Nat.le_refl _) (Obj.cells #[Value.int IntKind.i64 x, Value.int IntKind.i64 y] 43)
            have d0 : (wr.alloc (Obj.cells #[Value.int IntKind.i64 x, Value.int IntKind.i64 y] 43)).cell? ⟨wr.heap.size, 0, none⟩ = some (.int .i64 x) := by go_simp
            have d1 : (wr.alloc (Obj.cells #[Value.int IntKind.i64 x, Value.int IntKind.i64 y] 43)).cell? ⟨wr.heap.size, 1, none⟩ = some (.int .i64 y) := by go_simp
            have hsA : wr.heap.size < (wr.alloc (Obj.cells #[Value.int IntKind.i64 x, Value.int IntKind.i64 y] 43)).heap.size := by simp
            generalize wr.alloc (Obj.cells #[Value.int IntKind.i64 x, Value.int IntKind.i64 y] 43) = w4 at *
            have hD := below_drewN (Below.refl w4.heap.size w4) nq
            have c0 : (w4.drewN nq).cell? ⟨wr.heap.size, 0, none⟩ = some (.int .i64 x) := by rw [(bcell hD).1 _ _ hsA]; exact d0
            have c1 : (w4.drewN nq).cell? ⟨wr.heap.size, 1, none⟩ = some (.int .i64 y) := by rw [(bcell hD).1 _ _ hsA]; exact d1
            have s1 : wr.heap.size < (w4.drewN nq).heap.size := Nat.lt_of_lt_of_le hsA hD.size
            have hAD := hA.trans (hD.mono hA.size)
            generalize w4.drewN nq = w5 at *
            have HBW := Lib.hid (HB.out.trans (hAD.mono hsz))
            have HO5 := Lib.hid (row_below HO0.out hAD)
            clear hA hAD hD d0 d1 cj0 cj1
            have hs5 := HBW.out.size
            go_wp2_with (first | (at_builtin; refine wpList_append_own _ rfl _ _ 24 rfl w.heap.size 43 i0 (.agg #[.int .i64 0, .int .i64 0]) 2 16 Try.underlying24 hi hz0 hz1 hz2 rfl (by decide) _ _ _ rfl (HO5.out.alloc _) ⟨w5.heap.size, 0, none⟩ 1 1 [.int .i64 x, .int .i64 y] rfl rfl (cell_two_newH _ _ _ _) (fun x hx => by simp at hx; rcases hx with rfl | rfl <;> rfl) (by unfold maxLen; omega) (by omega) (by first | omega | (simp; omega)) ?_; intro v1 w6 hO6 hgrow hx; clear hx; have HO6 := Lib.hid hO6; have HG6 := Lib.hid hgrow; clear hgrow hO6))
            obtain ⟨a4, c4, rfl⟩ := own_formH HO6.out
            have hBa := HBW.out.alloc hs5 (.cells #[.int .i64 x, .int .i64 y] 43)
            have hB6 := hBa.grown HG6.out hBa.size (fun k hk => (HO5.out.lt k hk).1)
            go_roundg (gk - 1)
            case rel => exact ⟨j + 1, a4, c4, [] ++ [(x, y)], rfl, by go_num, by omega, by omega, HNL.out, HNB.out, by exact HO6.out, hB6⟩
            case measure => omega
      · obtain rfl : j = xs.length := by omega
        have hR : RdP wr ao out := rowP_rd rfl hown
        have hG := Lib.hid (reGood_any ao co out wr hR (by have := HLn.out xs.length; rw [← hO.out] at this; omega))
        have HF := Lib.hid hown
        have HB := Lib.hid hbel
        have HE := Lib.hid hO.out
        have hsw := hbel.size
        clear hown hbel hR hbd
        cases hk : lgS out
        · have HR := Lib.hid (show jlB xs = false by unfold jlB; rw [HS.out, ← HE.out, hk]; rfl)
          have HR2 := Lib.hid (show jlL xs = [] by unfold jlL; rw [HR.out]; rfl)
          have HK := Lib.hid hk
          clear hk
          rw [HK.out] at hG
          go_wp2_with fail
          refine hG.out.mono ?_; rintro e w5 ⟨rfl, hb5⟩
          go_wp2_with fail
          go_ret2
          rw [HR.out, HR2.out]
          exact retG_none (HB.out.trans (hb5.mono hsw)) rfl
        · have HR := Lib.hid (show jlB xs = true by unfold jlB; rw [HS.out, ← HE.out, hk]; rfl)
          have HR2 := Lib.hid (show jlL xs = out by unfold jlL; rw [HR.out, if_pos rfl, HE.out])
          have HK := Lib.hid hk
          clear hk
          rw [HK.out] at hG
          go_wp2_with fail
          refine hG.out.mono ?_; rintro e w5 ⟨rfl, hb5⟩
          have hO5 := row_below HF.out hb5
          go_wp2_with fail
          go_ret2
          rw [HR.out, HR2.out]
          exact ⟨ao, co, rfl, hO5, HB.out.trans (hb5.mono hsw)⟩
end Go.Proofs.Ytikfblbfodacaaa
