/- Chapter 6's program: sums of fractions over parts of legs, by contracts over any function value. -/
import Derived.Test.YtlfjgggidoakaaaLegNumI
import Derived.Test.YtlfjgggidoakaaaUni
import Derived.Test.YtlfjgggidoakaaaLegCalc
import Derived.Test.YtlfjgggidoakaaaLegList
import Derived.WalkKit
import Derived.WalkSpells
import Derived.WalkLawsBesides
import Derived.Lib.Hide
import Derived.Deep.LoopGhost
import Derived.Deep.QuietTactic
import Derived.Deep.RegionWith
import Derived.Deep.RegionHeld3
import Derived.BigQuiet
import Derived.Shelf.Abstract
namespace Go.Proofs.Ytlfjgggidoakaaa
open Go.RowKit
set_option linter.unusedVariables false
set_option linter.unusedSimpArgs false
theorem smT_bd {xs : List (Int × Int)} (h : ∀ i, i < xs.length → lgOk (px xs i) (py xs i) = true) (hl : xs.length ≤ 5) : ∀ j, j ≤ xs.length → 0 ≤ (smF timF xs j).1 ∧ (smF timF xs j).1 ≤ 50000000000000 ∧ 1 ≤ (smF timF xs j).2 ∧ (smF timF xs j).2 ≤ 10000000000 := fun j hj => by
  rw [sm_time h j hj]
  have b := lgT_num h hl hj
  omega
theorem smW_bd {xs : List (Int × Int)} (h : ∀ i, i < xs.length → lgOk (px xs i) (py xs i) = true) (hl : xs.length ≤ 5) : ∀ j, j ≤ xs.length → 0 ≤ (smF wayF xs j).1 ∧ (smF wayF xs j).1 ≤ 50000000000000 ∧ 1 ≤ (smF wayF xs j).2 ∧ (smF wayF xs j).2 ≤ 10000000000 := fun j hj => by
  rw [sm_way xs j]
  have b := lgL_bd h j hj
  show 0 ≤ lgL xs j ∧ lgL xs j ≤ _ ∧ (1 : Int) ≤ 1 ∧ (1 : Int) ≤ _
  omega
set_option maxHeartbeats 1000000 in
theorem sumOver_any (F : Nat) (cb : Array Value) (w : World) :
    Calls Try.prog 31 #[.func (.func F) #[] cb] w fun e w' => e = .returned (.func (.func 47) #[] #[.pointer (some ⟨w.heap.size, 0, none⟩)]) ∧ Below w.heap.size w w' ∧ w.heap.size < w'.heap.size ∧ w'.cell? ⟨w.heap.size, 0, none⟩ = some (.func (.func F) #[] cb) := by
  go_enter Try.func31, Try.ntmps31
  go_wp2_with fail
  go_ret
  exact ⟨rfl, by (repeat (first | exact Below.refl _ _ | refine Below.drew ?_ | refine below_drewN ?_ _ | refine Below.setCell ?_ (by first | omega | (simp; done) | (simp; omega)) _ | refine Below.alloc ?_ (by first | omega | (simp; done) | (simp; omega)) _ | refine bchain ?_ (by assumption) (by first | omega | (simp; done) | (simp; omega)))), by simp, by go_simp⟩
set_option maxHeartbeats 4000000 in
set_option maxRecDepth 100000 in
theorem sumPart_any (F : Nat) (cb : Array Value) (g : Int → Int → Int × Int) (B : Nat) (a : Option Addr) (cap : Nat) (xs : List (Int × Int)) (w : World) (h : RdP w a xs) (hl : xs.length ≤ 5)
    (hcl : w.cell? ⟨B, 0, none⟩ = some (.func (.func F) #[] cb)) (hB : B < w.heap.size)
    (eg : ∀ args w, (callFunc F args).run Try.prog w = .ok (.enter F args) w)
    (hc : ∀ i, i < xs.length → ∀ W, Calls Try.prog F (#[.agg #[.int .i64 (px xs i), .int .i64 (py xs i)]] ++ cb) W fun e w' => e = .returned (.agg #[.int .i64 (g (px xs i) (py xs i)).1, .int .i64 (g (px xs i) (py xs i)).2]) ∧ Below W.heap.size W w')
    (hb1 : ∀ j, j ≤ xs.length → 0 ≤ (smF g xs j).1 ∧ (smF g xs j).1 ≤ 50000000000000 ∧ 1 ≤ (smF g xs j).2 ∧ (smF g xs j).2 ≤ 10000000000)
    (hb2 : ∀ i, i < xs.length → 0 ≤ (g (px xs i) (py xs i)).1 ∧ (g (px xs i) (py xs i)).1 ≤ 1000 ∧ 1 ≤ (g (px xs i) (py xs i)).2 ∧ (g (px xs i) (py xs i)).2 ≤ 100) :
    Calls Try.prog 47 #[.slice a xs.length cap, .pointer (some ⟨B, 0, none⟩)] w fun e w' => e = .returned (.agg #[.int .i64 (smF g xs xs.length).1, .int .i64 (smF g xs xs.length).2]) ∧ Below w.heap.size w w' := by
  have HC := Lib.hid hc
  have HB1 := Lib.hid hb1
  have HB2 := Lib.hid hb2
  clear hc hb1 hb2
  go_enter Try.func47, Try.ntmps47
  go_wp2_with fail
  go_loopg [10] xs.length (fun k v10 wr => ∃ (j : Nat) (n d : Int), v10 = .int .i64 (j : Int) ∧ j + k ≤ xs.length ∧ xs.length ≤ j + k ∧ Hid ((smF g xs j).1 = n ∧ (smF g xs j).2 = d) ∧ w.heap.size + 1 < wr.heap.size ∧ wr.cell? ⟨w.heap.size + 1, 0, none⟩ = some (.int .i64 n) ∧ wr.cell? ⟨w.heap.size + 1, 1, none⟩ = some (.int .i64 d) ∧ (∃ r0 r1, wr.cell? ⟨w.heap.size, 0, none⟩ = some (.int .i64 r0) ∧ wr.cell? ⟨w.heap.size, 1, none⟩ = some (.int .i64 r1)) ∧ wr.frozen? ⟨w.heap.size, 0, none⟩ = false ∧ wr.frozen? ⟨w.heap.size, 1, none⟩ = false ∧ wr.frozen? ⟨w.heap.size + 1, 0, none⟩ = false ∧ wr.frozen? ⟨w.heap.size + 1, 1, none⟩ = false ∧ Below w.heap.size w wr)
  case atStart => exact ⟨0, 0, 1, rfl, by omega, by omega, ⟨rfl, rfl⟩, by simp, by go_simp, by go_simp, ⟨0, 0, by go_simp, by go_simp⟩, by go_simp, by go_simp, by go_simp, by go_simp, by (repeat (first | exact Below.refl _ _ | refine Below.drew ?_ | refine below_drewN ?_ _ | refine Below.setCell ?_ (by first | omega | (simp; done) | (simp; omega)) _ | refine Below.alloc ?_ (by first | omega | (simp; done) | (simp; omega)) _ | refine bchain ?_ (by assumption) (by first | omega | (simp; done) | (simp; omega))))⟩
  case round =>
    obtain ⟨j, n, d, rfl, h1, h2, hsm, hz, hcn, hcd, ⟨r0, r1, hr0, hr1⟩, hfr0, hfr1, hfn, hfd, hbel⟩ := hrel
    by_cases hj : j < xs.length
    · rcases h with h | ⟨b, off, rfl, hlt, hcc⟩
      · rw [h] at hj; exact absurd hj (Nat.not_lt_zero _)
      · have hcj : wr.cell? ⟨b, off + j * 2, none⟩ = some (.int .i64 (px xs j)) := by rw [(bcell hbel).1 b _ hlt]; exact (hcc j hj).1
        have hck : wr.cell? ⟨b, off + j * 2 + 1, none⟩ = some (.int .i64 (py xs j)) := by rw [(bcell hbel).1 b _ hlt]; exact (hcc j hj).2
        have hcf : wr.cell? ⟨B, 0, none⟩ = some (.func (.func F) #[] cb) := by rw [(bcell hbel).1 B _ hB]; exact hcl
        have hjI : (j : Int) < (xs.length : Int) := by omega
        have HBl := Lib.hid hbel
        have hsz := hbel.size
        have hBw : B < wr.heap.size := by omega
        have hz0 : w.heap.size < wr.heap.size := by omega
        have bs := HB1.out j (by omega)
        have bg := HB2.out j hj
        have HF := Lib.hid (fun W => HC.out j hj W)
        rw [hsm.out.1, hsm.out.2] at bs
        have hsm2 : Hid (smF g xs (j + 1) = (lwN (plN2 n d (g (px xs j) (py xs j)).1 (g (px xs j) (py xs j)).2) (plD2 d (g (px xs j) (py xs j)).2), lwD (plN2 n d (g (px xs j) (py xs j)).1 (g (px xs j) (py xs j)).2) (plD2 d (g (px xs j) (py xs j)).2))) := by
          unfold Hid
          rw [← hsm.out.1, ← hsm.out.2]; rfl
        clear hbel hcc hsm
        generalize px xs j = x at *
        generalize py xs j = y at *
        generalize (g x y).1 = p at *
        generalize (g x y).2 = q at *
        have HP := Lib.hid (fun w => plusW n d p q 50000000000000 10000000000 1000 100 (by omega) (by omega) (by omega) (by omega) (by omega) (by omega) (by omega) (by omega) (by omega) (by omega) (by omega) (by omega) (by omega) w)
        generalize lwN (plN2 n d p q) (plD2 d q) = X at *
        generalize lwD (plN2 n d p q) (plD2 d q) = Y at *
        clear bs bg
        go_wp2_with fail
        go_region_with (first | (go_at_call 48; refine (HP.out _).mono ?_; rintro e w2 ⟨rfl, hb2⟩; have hq2 := hb2.size; (try simp at hq2); have hcR2 := fun o => (bcell hb2).1 (w.heap.size) o (by first | omega | (simp; done) | (simp; omega)); have hfR2 := fun o => (bcell hb2).2 (w.heap.size) o (by first | omega | (simp; done) | (simp; omega)); have hcS2 := fun o => (bcell hb2).1 (w.heap.size + 1) o (by first | omega | (simp; done) | (simp; omega)); have hfS2 := fun o => (bcell hb2).2 (w.heap.size + 1) o (by first | omega | (simp; done) | (simp; omega)); have hcL2 := fun o => (bcell hb2).1 (wr.heap.size) o (by first | omega | (simp; done) | (simp; omega)); have hfL2 := fun o => (bcell hb2).2 (wr.heap.size) o (by first | omega | (simp; done) | (simp; omega)); have hcB2 := fun o => (bcell hb2).1 (B) o (by first | omega | (simp; done) | (simp; omega)); have hfB2 := fun o => (bcell hb2).2 (B) o (by first | omega | (simp; done) | (simp; omega))) | (go_at_fn F; refine (HF.out _).mono ?_; rintro e w1 ⟨rfl, hb1⟩; have hq1 := hb1.size; (try simp at hq1); have hcR1 := fun o => (bcell hb1).1 (w.heap.size) o (by first | omega | (simp; done) | (simp; omega)); have hfR1 := fun o => (bcell hb1).2 (w.heap.size) o (by first | omega | (simp; done) | (simp; omega)); have hcS1 := fun o => (bcell hb1).1 (w.heap.size + 1) o (by first | omega | (simp; done) | (simp; omega)); have hfS1 := fun o => (bcell hb1).2 (w.heap.size + 1) o (by first | omega | (simp; done) | (simp; omega)); have hcL1 := fun o => (bcell hb1).1 (wr.heap.size) o (by first | omega | (simp; done) | (simp; omega)); have hfL1 := fun o => (bcell hb1).2 (wr.heap.size) o (by first | omega | (simp; done) | (simp; omega)); have hcB1 := fun o => (bcell hb1).1 (B) o (by first | omega | (simp; done) | (simp; omega)); have hfB1 := fun o => (bcell hb1).2 (B) o (by first | omega | (simp; done) | (simp; omega))))
        all_goals go_wp2_with fail
        all_goals go_roundg (gk - 1)
        all_goals first
          | (refine ⟨j + 1, X, Y, by go_num, by omega, by omega, ⟨congrArg Prod.fst hsm2.out, congrArg Prod.snd hsm2.out⟩, by (simp; omega), ?_, ?_, ⟨r0, r1, ?_, ?_⟩, ?_, ?_, ?_, ?_, ?_⟩ <;> first | (go_simp; done) | (have hBB := HBl.out; (repeat (first | exact Below.refl _ _ | refine Below.drew ?_ | refine below_drewN ?_ _ | refine Below.setCell ?_ (by first | omega | (simp; done) | (simp; omega)) _ | refine Below.alloc ?_ (by first | omega | (simp; done) | (simp; omega)) _ | refine bchain ?_ (by assumption) (by first | omega | (simp; done) | (simp; omega))))))
          | omega
    · obtain rfl : j = xs.length := by omega
      have HBl := Lib.hid hbel
      have HE := Lib.hid hsm
      have hlt : ¬ ((xs.length : Int) < (xs.length : Int)) := by omega
      clear hbel hsm
      go_wp2_with fail
      have e0 : ((wr.setCell ⟨w.heap.size, 0, none⟩ (.int .i64 n)).setCell ⟨w.heap.size, 1, none⟩ (.int .i64 d)).cell? ⟨w.heap.size, 0, none⟩ = some (.int .i64 n) := by go_simp
      have e1 : ((wr.setCell ⟨w.heap.size, 0, none⟩ (.int .i64 n)).setCell ⟨w.heap.size, 1, none⟩ (.int .i64 d)).cell? ⟨w.heap.size, 1, none⟩ = some (.int .i64 d) := by go_simp
      refine bodyPost_ret (v := .agg #[.int .i64 n, .int .i64 d]) (by simp [results, Try.results47, go_sem, e0, e1]; done) rfl ⟨by rw [HE.out.1, HE.out.2], ?_⟩
      have hBB := HBl.out
      (repeat (first | exact Below.refl _ _ | refine Below.drew ?_ | refine below_drewN ?_ _ | refine Below.setCell ?_ (by first | omega | (simp; done) | (simp; omega)) _ | refine Below.alloc ?_ (by first | omega | (simp; done) | (simp; omega)) _ | refine bchain ?_ (by assumption) (by first | omega | (simp; done) | (simp; omega))))
end Go.Proofs.Ytlfjgggidoakaaa
