/- The orders of runners one after another: plain mathematics for the program. -/
import Derived.Test.YtlfjgggidoakaaaLegRun
import Derived.Test.YtlfjgggidoakaaaHeadMath
namespace Go.Proofs.Ytlfjgggidoakaaa
open Go.RowKit
set_option linter.unusedVariables false
/-- the first best one of a list of orders -/
def fbS (bt : List Int → List Int → Bool) (best x : List Int) : List Int := if best.length = 0 ∨ bt x best = true then x else best
def fbL (bt : List Int → List Int → Bool) (o : List Int) (l : List (List Int)) : List Int := l.foldl (fbS bt) o
/-- all orders that begin with bg -/
def pmF (rec : List Int → List (List Int)) (bg : List Int) : Nat → List (List Int)
  | 0 => []
  | j + 1 => pmF rec bg j ++ (if bg.contains (j : Int) then [] else rec (bg ++ [(j : Int)]))
def pmL (N : Nat) : Nat → List Int → List (List Int)
  | 0, bg => [bg]
  | f + 1, bg => pmF (pmL N f) bg N
/-- a comparison that goes by a number -/
def byKey (bt : List Int → List Int → Bool) : Prop := ∃ key : List Int → Int, ∀ x y, bt x y = decide (key x < key y)
theorem fbS_assoc {bt : List Int → List Int → Bool} (hb : byKey bt) (o : List Int) {x y : List Int} (hx : x.length ≠ 0) (hy : y.length ≠ 0) : fbS bt (fbS bt o x) y = fbS bt o (fbS bt x y) := by
  obtain ⟨key, hk⟩ := hb
  have e : ∀ a b : List Int, a.length ≠ 0 → fbS bt a b = if key b < key a then b else a := fun a b ha => by
    unfold fbS
    have k : bt b a = true ↔ key b < key a := by rw [hk, decide_eq_true_eq]
    by_cases q : key b < key a
    · rw [if_pos (.inr (k.2 q)), if_pos q]
    · rw [if_neg (fun h => h.elim ha fun r => q (k.1 r)), if_neg q]
  by_cases ho : o.length = 0
  · have e0 : ∀ b, fbS bt o b = b := fun b => by unfold fbS; rw [if_pos (.inl ho)]
    rw [e0, e0]
  · rw [e o x ho, e x y hx]
    have h1 : (if key x < key o then x else o).length ≠ 0 := by split <;> assumption
    rw [e _ y h1, e o _ ho]
    by_cases a : key x < key o <;> by_cases b : key y < key x <;> by_cases c : key y < key o
    all_goals (try simp only [a, b, c, if_true, if_false])
    all_goals omega
theorem fbL_ne {bt : List Int → List Int → Bool} : ∀ (l : List (List Int)) (o : List Int), (∀ x ∈ l, x.length ≠ 0) → (o.length ≠ 0 ∨ l ≠ []) → (fbL bt o l).length ≠ 0
  | [], o, _, h => h.elim id fun k => absurd rfl k
  | x :: l, o, h, _ => by
    show (fbL bt (fbS bt o x) l).length ≠ 0
    refine fbL_ne l _ (fun y hy => h y (List.mem_cons_of_mem _ hy)) (.inl ?_)
    unfold fbS
    have := h x (List.mem_cons_self ..)
    split
    · exact this
    · rename_i q; exact fun k => q (.inl k)
theorem fbL_out {bt : List Int → List Int → Bool} (hb : byKey bt) : ∀ (l : List (List Int)) (o : List Int), (∀ x ∈ l, x.length ≠ 0) → fbL bt o l = if l = [] then o else fbS bt o (fbL bt [] l)
  | [], o, _ => by rw [if_pos rfl]; rfl
  | x :: l, o, h => by
    have h2 : ∀ y ∈ l, y.length ≠ 0 := fun y hy => h y (List.mem_cons_of_mem _ hy)
    have hx := h x (List.mem_cons_self ..)
    rw [if_neg (List.cons_ne_nil _ _)]
    show fbL bt (fbS bt o x) l = fbS bt o (fbL bt (fbS bt [] x) l)
    have e0 : fbS bt [] x = x := by unfold fbS; rw [if_pos (.inl rfl)]
    rw [e0, fbL_out hb l _ h2, fbL_out hb l x h2]
    by_cases q : l = []
    · rw [if_pos q, if_pos q]
    · rw [if_neg q, if_neg q]
      exact fbS_assoc hb o hx (fbL_ne l [] h2 (.inr q))
theorem btO_key (ls ss : List Int) (least : Bool) : byKey (fun x y => btO ls ss x y least) := by
  cases least
  · refine ⟨fun a => - tmO ls ss a (prS ss ss.length) ls.length, fun x y => ?_⟩
    show (if (false : Bool) = true then _ else _) = _
    rw [if_neg (by decide)]
    congr 1
    exact propext (by show tmO ls ss y _ _ < tmO ls ss x _ _ ↔ - tmO ls ss x _ _ < - tmO ls ss y _ _; omega)
  · exact ⟨fun a => tmO ls ss a (prS ss ss.length) ls.length, fun x y => by show (if (true : Bool) = true then _ else _) = _; rw [if_pos rfl]⟩
theorem pmF_mem {rec : List Int → List (List Int)} {bg : List Int} {P : List Int → Prop} : ∀ j : Nat, (∀ i, i < j → ∀ x ∈ rec (bg ++ [(i : Int)]), P x) → ∀ x ∈ pmF rec bg j, P x
  | 0, _, x, hx => absurd hx (by simp [pmF])
  | j + 1, h, x, hx => by
    simp only [pmF, List.mem_append] at hx
    rcases hx with q | q
    · exact pmF_mem j (fun i hi => h i (by omega)) x q
    · split at q
      · simp at q
      · exact h j (by omega) x q
theorem pmL_len (N : Nat) : ∀ (f : Nat) (bg : List Int), ∀ x ∈ pmL N f bg, x.length = bg.length + f
  | 0, bg, x, hx => by simp only [pmL, List.mem_singleton] at hx; rw [hx]; omega
  | f + 1, bg, x, hx => by
    refine pmF_mem (P := fun x => x.length = bg.length + (f + 1)) N (fun i hi y hy => ?_) x hx
    have := pmL_len N f _ y hy
    rw [List.length_append, List.length_singleton] at this
    omega
/-- the model's search is the first best one of all orders -/
theorem rrF_pm {ls ss : List Int} {least : Bool} {rec : List Int → List Int} {rep : List Int → List (List Int)} {bg : List Int} : ∀ j : Nat,
    (∀ i, i < j → rec (bg ++ [(i : Int)]) = fbL (fun x y => btO ls ss x y least) [] (rep (bg ++ [(i : Int)])) ∧ rep (bg ++ [(i : Int)]) ≠ [] ∧ ∀ x ∈ rep (bg ++ [(i : Int)]), x.length ≠ 0) →
    rrF rec ls ss least bg j = fbL (fun x y => btO ls ss x y least) [] (pmF rep bg j)
  | 0, _ => rfl
  | j + 1, h => by
    have ih := rrF_pm j (fun i hi => h i (by omega))
    obtain ⟨h1, h2, h3⟩ := h j (by omega)
    simp only [rrF, pmF]
    by_cases c : bg.contains (j : Int) = true
    · rw [if_pos c, if_pos c, List.append_nil, ih]
    · rw [if_neg c, if_neg c, ih]
      unfold fbL
      rw [List.foldl_append]
      have o := fbL_out (btO_key ls ss least) (rep (bg ++ [(j : Int)])) (fbL (fun x y => btO ls ss x y least) [] (pmF rep bg j)) h3
      rw [if_neg h2, ← h1] at o
      unfold fbL at o
      rw [o]; rfl
theorem rrL_pm {ls ss : List Int} {least : Bool} (hn : 1 ≤ ls.length) (he : ss.length = ls.length) : ∀ (f : Nat) (bg : List Int), bg.length + f = ls.length → (∀ i, i < bg.length → 0 ≤ bg.getD i 0 ∧ bg.getD i 0 < (ls.length : Int)) →
    rrL ls ss least f bg = fbL (fun x y => btO ls ss x y least) [] (pmL ls.length f bg)
  | 0, bg, h, _ => by simp [rrL, pmL, fbL, fbS]
  | f + 1, bg, h, k => by
    simp only [rrL, pmL]
    rw [he]
    refine rrF_pm ls.length (fun j hj => ?_)
    have hb : (bg ++ [(j : Int)]).length + f = ls.length := by rw [List.length_append, List.length_singleton]; omega
    have hk : ∀ i, i < (bg ++ [(j : Int)]).length → 0 ≤ (bg ++ [(j : Int)]).getD i 0 ∧ (bg ++ [(j : Int)]).getD i 0 < (ls.length : Int) := fun i hi => by
      rw [List.length_append, List.length_singleton] at hi
      by_cases q : i < bg.length
      · rw [List.getD, List.getElem?_append_left q]; exact k i q
      · rw [List.getD, List.getElem?_append_right (by omega), show i - bg.length = 0 by omega]
        show 0 ≤ (j : Int) ∧ (j : Int) < _
        omega
    have r := rrL_pm (least := least) hn he f _ hb hk
    have g := (rrL_good (least := least) hn he f _ hb hk).1
    refine ⟨r, fun q => ?_, fun x hx => ?_⟩
    · rw [r, q] at g
      simp [fbL] at g
      omega
    · have := pmL_len ls.length f _ x hx
      omega
/-- the lexicographically next order -/
def nxK (p : List Int) : Nat → Nat
  | 0 => 0
  | m + 1 => if p.getD (m + 1) 0 < p.getD m 0 then nxK p m else m + 1
def nxJ (p : List Int) (k : Nat) : Nat → Nat
  | 0 => 0
  | j + 1 => if p.getD (j + 1) 0 < p.getD k 0 then nxJ p k j else j + 1
def swP (p : List Int) (k j : Nat) : List Int := (p.set k (p.getD j 0)).set j (p.getD k 0)
def rvP (p : List Int) (k : Nat) : List Int := p.take k ++ (p.drop k).reverse
def nxB (p : List Int) : Bool := decide (nxK p (p.length - 1) ≠ 0)
def nxP (p : List Int) : List Int := if nxK p (p.length - 1) = 0 then p else rvP (swP p (nxK p (p.length - 1) - 1) (nxJ p (nxK p (p.length - 1) - 1) (p.length - 1))) (nxK p (p.length - 1))
/-- orders each of which is the one before's next one -/
def chN : List (List Int) → Bool
  | [] => false
  | [x] => !nxB x
  | x :: y :: r => nxB x && nxP x == y && chN (y :: r)
def idL (n : Nat) : List Int := (List.range n).map Int.ofNat
def chk (n : Nat) : Bool := chN (pmL n n []) && (pmL n n []).headD [] == idL n && (pmL n n []).all fun x => x.all fun i => inB i 0 (n - 1)
theorem chk1 : chk 1 = true := by kernel_rfl
theorem chk2 : chk 2 = true := by kernel_rfl
theorem chk3 : chk 3 = true := by kernel_rfl
theorem chk4 : chk 4 = true := by kernel_rfl
theorem chk5 : chk 5 = true := by kernel_rfl
theorem chk6 : chk 6 = true := by kernel_rfl
theorem chk_all {n : Nat} (h1 : 1 ≤ n) (h2 : n ≤ 6) : chk n = true := by
  match n, h1, h2 with
  | 1, _, _ => exact chk1
  | 2, _, _ => exact chk2
  | 3, _, _ => exact chk3
  | 4, _, _ => exact chk4
  | 5, _, _ => exact chk5
  | 6, _, _ => exact chk6
/-- a unit in which the times of all speeds are whole numbers -/
def lcU (ss : List Int) : Nat → Int
  | 0 => 1
  | j + 1 => lcU ss j * (ss.getD j 0).tdiv (gc (lcU ss j) (ss.getD j 0))
theorem lcU_bd {ss : List Int} (h : ∀ i, i < ss.length → 1 ≤ ss.getD i 0 ∧ ss.getD i 0 ≤ 100) : ∀ j, j ≤ ss.length → 1 ≤ lcU ss j ∧ (∀ i, i < j → ss.getD i 0 ∣ lcU ss j) ∧ lcU ss j ∣ prS ss j
  | 0, _ => ⟨by simp [lcU], fun i hi => absurd hi (Nat.not_lt_zero _), by simp [lcU, prS]⟩
  | j + 1, hj => by
    obtain ⟨u1, u2, u3⟩ := lcU_bd h j (by omega)
    have b := h j (by omega)
    have g1 := gc_pos (a := lcU ss j) (b := ss.getD j 0) (by omega)
    have e1 := Int.mul_tdiv_cancel' (gc_dvd_l (lcU ss j) (ss.getD j 0))
    have e2 := Int.mul_tdiv_cancel' (gc_dvd_r (lcU ss j) (ss.getD j 0))
    have t := tdiv_pos (gc_dvd_r (lcU ss j) (ss.getD j 0)) b.1 g1
    simp only [lcU, prS]
    generalize hs : ss.getD j 0 = s at *
    generalize hq : s.tdiv (gc (lcU ss j) s) = q at *
    generalize hr : (lcU ss j).tdiv (gc (lcU ss j) s) = r at *
    refine ⟨mul_pos1 u1 t.1, fun i hi => ?_, Int.mul_dvd_mul u3 ⟨gc (lcU ss j) s, by rw [Int.mul_comm]; exact e2.symm⟩⟩
    by_cases c : i = j
    · subst c
      rw [hs]
      refine ⟨r, ?_⟩
      calc lcU ss i * q = gc (lcU ss i) s * r * q := by rw [e1]
        _ = gc (lcU ss i) s * q * r := by ac_rfl
        _ = s * r := by rw [e2]
    · exact Int.dvd_trans (u2 i (by omega)) (Int.dvd_mul_right _ _)
theorem lcU_num {ss : List Int} (h : ∀ i, i < ss.length → 1 ≤ ss.getD i 0 ∧ ss.getD i 0 ≤ 100) (hl : ss.length ≤ 6) {j : Nat} (hj : j ≤ ss.length) : 1 ≤ lcU ss j ∧ lcU ss j ≤ 1000000000000 := by
  have b := lcU_bd h j hj
  have p := prS_num h hl hj
  exact ⟨b.1, Int.le_trans (Int.le_of_dvd (by omega) b.2.2) p.2⟩
/-- how long each speed takes for a unit of length -/
def slL (ss : List Int) : List Int := ss.map fun s => (lcU ss ss.length).tdiv s
theorem slL_len (ss : List Int) : (slL ss).length = ss.length := by simp [slL]
theorem slL_at {ss : List Int} {i : Nat} (h : i < ss.length) : (slL ss).getD i 0 = (lcU ss ss.length).tdiv (ss.getD i 0) := by
  simp [slL, List.getD, List.getElem?_eq_getElem h]
/-- the time of an order in the program's units -/
def tmU (ls sl a : List Int) : Nat → Int
  | 0 => 0
  | j + 1 => tmU ls sl a j + ls.getD j 0 * sl.getD (a.getD j 0).toNat 0
theorem tmU_eq {ls ss a : List Int} (h : ∀ i, i < ss.length → 1 ≤ ss.getD i 0 ∧ ss.getD i 0 ≤ 100) (ha : ∀ i, i < ls.length → 0 ≤ a.getD i 0 ∧ a.getD i 0 < (ss.length : Int)) {c : Int} (hc : prS ss ss.length = lcU ss ss.length * c) :
    ∀ j, j ≤ ls.length → tmO ls ss a (prS ss ss.length) j = tmU ls (slL ss) a j * c
  | 0, _ => by simp [tmO, tmU]
  | j + 1, hj => by
    have ih := tmU_eq h ha hc j (by omega)
    have k := ha j (by omega)
    simp only [tmO, tmU]
    rw [ih, Int.add_mul, slL_at (by omega)]
    have d := (lcU_bd h ss.length (Nat.le_refl _)).2.1 (a.getD j 0).toNat (by omega)
    have p := (h (a.getD j 0).toNat (by omega)).1
    have e : (prS ss ss.length).tdiv (ss.getD (a.getD j 0).toNat 0) = (lcU ss ss.length).tdiv (ss.getD (a.getD j 0).toNat 0) * c := by
      rw [hc]
      generalize ss.getD (a.getD j 0).toNat 0 = s at *
      obtain ⟨x, hx⟩ := d
      rw [hx, Int.mul_assoc, Int.mul_tdiv_cancel_left _ (by omega), Int.mul_tdiv_cancel_left _ (by omega)]
    rw [e, Int.mul_assoc]
theorem btO_U {ls ss a b : List Int} (least : Bool) (h : ∀ i, i < ss.length → 1 ≤ ss.getD i 0 ∧ ss.getD i 0 ≤ 100) (ha : ∀ i, i < ls.length → 0 ≤ a.getD i 0 ∧ a.getD i 0 < (ss.length : Int)) (hb : ∀ i, i < ls.length → 0 ≤ b.getD i 0 ∧ b.getD i 0 < (ss.length : Int)) :
    btO ls ss a b least = if least then decide (tmU ls (slL ss) a ls.length < tmU ls (slL ss) b ls.length) else decide (tmU ls (slL ss) b ls.length < tmU ls (slL ss) a ls.length) := by
  obtain ⟨l1, _, c, hc⟩ := lcU_bd h ss.length (Nat.le_refl _)
  have p := (prS_bd h ss.length (Nat.le_refl _)).1
  have c0 : 0 < c := by
    rcases Int.lt_or_le 0 c with q | q
    · exact q
    · have := Int.mul_nonneg (show 0 ≤ lcU ss ss.length by omega) (show 0 ≤ -c by omega)
      rw [Int.mul_neg] at this; omega
  unfold btO
  rw [tmU_eq h ha hc _ (Nat.le_refl _), tmU_eq h hb hc _ (Nat.le_refl _)]
  have e : ∀ x y : Int, decide (x * c < y * c) = decide (x < y) := fun x y => by
    congr 1
    exact propext ⟨fun h => Int.lt_of_mul_lt_mul_right h (by omega), fun h => Int.mul_lt_mul_of_pos_right h c0⟩
  rw [e, e]
theorem tmU_bd {ls ss a : List Int} (h1 : ∀ i, i < ls.length → 1 ≤ ls.getD i 0 ∧ ls.getD i 0 ≤ 1000) (h2 : ∀ i, i < ss.length → 1 ≤ ss.getD i 0 ∧ ss.getD i 0 ≤ 100) (hl : ss.length ≤ 6) (ha : ∀ i, i < ls.length → 0 ≤ a.getD i 0 ∧ a.getD i 0 < (ss.length : Int)) :
    ∀ j, j ≤ ls.length → 0 ≤ tmU ls (slL ss) a j ∧ tmU ls (slL ss) a j ≤ 1000000000000000 * (j : Int)
  | 0, _ => by simp [tmU]
  | j + 1, hj => by
    have ih := tmU_bd h1 h2 hl ha j (by omega)
    have b := h1 j (by omega)
    have c := ha j (by omega)
    have d := h2 (a.getD j 0).toNat (by omega)
    have u := lcU_num h2 hl (Nat.le_refl _)
    have e := tdv_bd u.1 u.2 d.1
    simp only [tmU]
    rw [slL_at (by omega)]
    have m := mul_bd (ls.getD j 0) ((lcU ss ss.length).tdiv (ss.getD (a.getD j 0).toNat 0)) 1000 1000000000000 (by omega) b.2 e.1 e.2
    omega
end Go.Proofs.Ytlfjgggidoakaaa
