/- The named law of snails that climb (chapter 1) holds at whatever is drawn from whatever bytes: it answers true, it does not panic, and it writes into nothing that was there before the call. Conditions: the library's own tables hold what its text lays (the card ties them). -/
import Derived.Test.YtalnellimbehoaaGreatDoorCards
import Derived.Test.YtalnellimbehoaaGreatDoorTie
import Derived.Test.YtalnellimbehoaaGreatDoorScTailB
import Derived.Test.YtalnellimbehoaaGreatDoorScFacts
import Derived.Test.YtalnellimbehoaaGreatDoorCurSc
import Derived.Test.YtalnellimbehoaaGreatDoorCurFrame
import Derived.Test.YtalnellimbehoaaGreatDoorParse2S
import Derived.Test.YtalnellimbehoaaGreatDoorQuietC
import Derived.Test.YtalnellimbehoaaGreatDoorScLex
import Derived.OpenShut
import Derived.ShutString
import Derived.ChangeOld
import Derived.Deep.DeepHandedRow
import Derived.Lib.LaidTab
import Derived.Stop.LaidErr
import Derived.Deep.Cut
import Derived.Deep.CutRange
import Derived.WalkKit
import Derived.ProofKit
import Derived.Below
import Derived.Lib.SmallJoins
import Derived.Lib.Hide
namespace Go.Proofs.YtalnellimbehoaaGreatDoor
open Go.ChangeShapes Go.WideShapes Go.ChangeAt Go.RowKit Go.Joins
set_option linter.unusedVariables false
set_option linter.unusedSimpArgs false
namespace fnSnailsClimb
theorem own : ownKnob Tryz.prog.godebug = none := by kernel_rfl
theorem laidOut : laidOutB Tryz.prog = true := by kernel_rfl
theorem star : "*" ++ "errors.errorString" = "*errors.errorString" := by decide
theorem tpOnly : ∀ u, Tryz.prog.typeName? 3 u = some "*errors.errorString" → u = 110 := fun u h =>
  typeName_ptr_named (nm := "errors.errorString") (by rw [star]; kernel_rfl) (by kernel_rfl) (by decide) u (by rw [star]; exact h)
theorem gTabType : (Tryz.prog.globals[0]?).map (·.type) = some 84 := by kernel_rfl
theorem cellsT : Tryz.prog.cellsOf 84 = 20 := by kernel_rfl
theorem cellsE : Tryz.prog.cellsOf 53 = 1 := by kernel_rfl
theorem powData : (Rows.laid_internal_strconv_uint64pow10 : DataW Unit) = Lib.tabData .u64 Lib.pow10Tab := by kernel_rfl
/-- What the row's list gives: the library's variables. -/
theorem env {W : World} (h : laidMetH Tryz.prog Rows.fnSnailsClimbRow.laid W) (hsh : W.ShapedOpen Tryz.prog) : Env W := by
  have h1 : laidMet Tryz.prog Rows.fnSnailsClimbRow.laid W := h
  have h2 := (laidMet.tail (laidMet.tail h1))
  have h3 := laidMet.tail h2
  have h4 := laidMet.tail h3
  rw [powData] at h2
  refine ⟨Lib.tabIs_of_head pow10G gTabType Tryz.underlying84 Tryz.underlying53 cellsE cellsT h2, Tryz.laysM145.s1_3 W hsh, ?_, ?_⟩
  · obtain ⟨x, s, hv, _⟩ := Go.laid_sentinel (ti := 73) (tp := 110) (te := 112) (ts := 9) h4 esG (by kernel_rfl) Tryz.underlying73 tpOnly Tryz.underlying110 Tryz.underlying112 rfl rfl Tryz.underlying9 (by kernel_rfl) (by kernel_rfl)
    exact ⟨_, _, hv⟩
  · obtain ⟨x, s, hv, _⟩ := Go.laid_sentinel (ti := 73) (tp := 110) (te := 112) (ts := 9) h3 erG (by kernel_rfl) Tryz.underlying73 tpOnly Tryz.underlying110 Tryz.underlying112 rfl rfl Tryz.underlying9 (by kernel_rfl) (by kernel_rfl)
    exact ⟨_, _, hv⟩
theorem big_any (a b : Option Addr) (n m c k : Nat) (w : World) (hn : n ≤ 9223372036854775807) (hm : m ≤ 9223372036854775807) :
    Calls Tryz.prog 4 #[.slice a n c, .slice b m k] w fun e w' => e = .returned (.bool (decide (1048576 < (n : Int)) || decide (1048576 - (n : Int) < (m : Int)))) ∧ w = w' := by
  by_cases h1 : (1048576 : Int) < (n : Int)
  · go_enter Tryz.func4, Tryz.ntmps4
    go_wp2_with fail
    go_ret
    exact ⟨by simp [h1], rfl⟩
  · by_cases h2 : (1048576 : Int) - (n : Int) < (m : Int)
    · go_enter Tryz.func4, Tryz.ntmps4
      go_wp2_with fail
      go_ret
      exact ⟨by simp [h1, h2], rfl⟩
    · go_enter Tryz.func4, Tryz.ntmps4
      go_wp2_with fail
      go_ret
      exact ⟨by simp [h1, h2], rfl⟩
set_option maxHeartbeats 16000000 in
set_option maxRecDepth 100000 in
theorem walk (ca ma : Option Addr) (cn mn ccap mcap : Nat) (w : World) (E0 : Hid (Env w)) (hc : RdY w ca cn) (hm0 : RdY w ma mn) (hbig : (decide (1048576 < (cn : Int)) || decide (1048576 - (cn : Int) < (mn : Int))) = false) :
    Calls Tryz.prog 3 #[.slice ca cn ccap, .slice ma mn mcap] w fun e w' => e = .returned (.bool true) ∧ Below w.heap.size w w' := by
  have hcn := hc.1
  have hmn := hm0.1
  go_enter Tryz.func3, Tryz.ntmps3
  dsimp only [List.append]
  go_wp2_with fail
  refine (big_any ca ma cn mn ccap mcap _ (by omega) (by omega)).mono ?_; rw [hbig]; rintro e w0 ⟨rfl, rfl⟩
  go_wp2_with fail
  refine (drawMorningHeight ca cn ccap _ hc).mono ?_; rintro e wD ⟨u, d, n, y, rfl, hb⟩
  have HB := Lib.hid hb
  have hM := hm0.below hb
  obtain ⟨M, E, Dy, F, V, ok, three, five, seven, nine, cMi, cMs, cEi, cEs, cDi, cDs, cCi, cCs, cGi, cGs, cIi, cIs, f1, f2, fO, T, cXi, cXs, fX⟩ := scFactsA u d n y
  clear hb hc hm0 hbig
  have g1 := Lib.hid f1
  have g2 := Lib.hid f2
  have gO := Lib.hid fO
  have gX := Lib.hid fX
  clear f1 f2 fO fX
  go_wp2_with fail
  generalize hq : World.alloc wD _ = wA
  have hb : Below wD.heap.size wD wA := by subst hq; exact (Below.alloc (Below.refl _ _) (Nat.le_refl _) _)
  have X1 : Bx wD.heap.size u d wA := by subst hq; exact ⟨by simp, by go_simp, by go_simp⟩
  clear hq
  replace HB := hbs HB hb
  replace hM := hM.below hb
  clear hb
  generalize wD.heap.size = b1 at *
  obtain ⟨-, a1, c1⟩ := id X1
  refine (cMi _).mono ?_; rintro e w1 ⟨rfl, hb⟩; replace HB := hbs HB hb; replace hM := hM.below hb; replace X1 := X1.below hb; clear hb a1 c1; obtain ⟨-, a1, c1⟩ := id X1
  go_wp2_with fail
  refine (cMs _).mono ?_; rintro e w1 ⟨rfl, hb⟩; replace HB := hbs HB hb; replace hM := hM.below hb; replace X1 := X1.below hb; clear hb a1 c1; obtain ⟨-, a1, c1⟩ := id X1
  go_wp2_with fail
  refine (cEi _).mono ?_; rintro e w1 ⟨rfl, hb⟩; replace HB := hbs HB hb; replace hM := hM.below hb; replace X1 := X1.below hb; clear hb a1 c1; obtain ⟨-, a1, c1⟩ := id X1
  go_wp2_with fail
  refine (cEs _).mono ?_; rintro e w1 ⟨rfl, hb⟩; replace HB := hbs HB hb; replace hM := hM.below hb; replace X1 := X1.below hb; clear hb a1 c1; obtain ⟨-, a1, c1⟩ := id X1
  go_wp2_with fail
  refine (cDi _).mono ?_; rintro e w1 ⟨rfl, hb⟩; replace HB := hbs HB hb; replace hM := hM.below hb; replace X1 := X1.below hb; clear hb a1 c1; obtain ⟨-, a1, c1⟩ := id X1
  go_wp2_with fail
  refine (cDs _).mono ?_; rintro e w1 ⟨rfl, hb⟩; replace HB := hbs HB hb; replace hM := hM.below hb; replace X1 := X1.below hb; clear hb a1 c1; obtain ⟨-, a1, c1⟩ := id X1
  go_wp2_with fail
  refine (cCi _).mono ?_; rintro e w1 ⟨rfl, hb⟩; replace HB := hbs HB hb; replace hM := hM.below hb; replace X1 := X1.below hb; clear hb a1 c1; obtain ⟨-, a1, c1⟩ := id X1
  go_wp2_with fail
  refine (cCs _).mono ?_; rintro e w1 ⟨rfl, hb⟩; replace HB := hbs HB hb; replace hM := hM.below hb; replace X1 := X1.below hb; clear hb a1 c1; obtain ⟨-, a1, c1⟩ := id X1
  go_wp2_with fail
  refine (cGi _).mono ?_; rintro e w1 ⟨rfl, hb⟩; replace HB := hbs HB hb; replace hM := hM.below hb; replace X1 := X1.below hb; clear hb a1 c1; obtain ⟨-, a1, c1⟩ := id X1
  go_wp2_with fail
  refine (cGs _).mono ?_; rintro e w1 ⟨rfl, hb⟩; replace HB := hbs HB hb; replace hM := hM.below hb; replace X1 := X1.below hb; clear hb a1 c1; obtain ⟨-, a1, c1⟩ := id X1
  go_wp2_with fail
  refine (cXi _ (E0.out.below HB.out).tab).mono ?_; rintro e w1 ⟨rfl, hb⟩; replace HB := hbs HB hb; replace hM := hM.below hb; replace X1 := X1.below hb; clear hb a1 c1; obtain ⟨-, a1, c1⟩ := id X1
  go_wp2_with fail
  refine (cXs _).mono ?_; rintro e w1 ⟨rfl, hb⟩; replace HB := hbs HB hb; replace hM := hM.below hb; replace X1 := X1.below hb; clear hb a1 c1; obtain ⟨-, a1, c1⟩ := id X1
  clear cMi cMs cEi cEs cDi cDs cCi cCs cGi cGs cXi cXs
  go_upto_region 16 with fail
  go_cut [253] from 163 to 252 (fun vv wx => vv = .bool false ∧ Below w1.heap.size w1 wx)
  case first => as_aux_lemma =>
    have f1 := g1.out
    have f2 := g2.out
    clear g1 g2 gO gX HB E0 hM
    obtain ⟨z1, -, -⟩ := id X1
    have hs := held_start z1 a1 c1
    haveI hne : Nonempty (Held b1 u d w1) := hs.elim fun s _ => ⟨s⟩
    have k0 := fun s : Held b1 u d w1 => s.c0
    have k1 := fun s : Held b1 u d w1 => s.c1
    clear a1 c1 X1 z1
    obtain ⟨rfl, rfl, rfl⟩ | ⟨rfl, rfl, rfl⟩ | ⟨rfl, rfl, rfl⟩ := f1
    all_goals cases ok
    all_goals (try (exfalso; exact absurd (f2 rfl).1 (by decide)))
    all_goals
      clear f2
      (refine wp_region_quietC (Held.w (b := b1) (l := u) (r := d) (w0 := w1)) (by kernel_rfl) (by exact lex16) hs ?_; (repeat (first | go_big_quiet_skip | (go_big_quiet_want; go_big_quiet_op; first | go_big_quiet_on | go_big_quiet_call (first | exact held_call _ cIi | exact held_call _ cIs)))); refine wpQuiet_nil ?_)
      rintro w' ⟨s, rfl⟩
      have HX := s.below
      clear k0 k1 hs hne cIi cIs
      go_wp2_with fail
      go_meet
      case rel => exact ⟨by first | rfl | simp, HX⟩
  case rest =>
    obtain ⟨rfl, hA⟩ := hcut
    replace HB := hbs HB hA
    replace hM := hM.below hA
    replace X1 := X1.below hA
    clear hA a1 c1 g1 g2 cIi cIs
    obtain ⟨-, a1, c1⟩ := id X1
    go_upto_if 254 with fail
    go_cut [] from 255 to 357 (fun wx => Below wc.heap.size wc wx)
    case first => as_aux_lemma =>
      clear gX hM E0 HB
      cases ok
      · clear gO
        go_wp2_with fail
        go_meet
        case rel => exact Below.refl _ _
      · obtain ⟨⟨b1', b2', b3', b4', b5', b6', b7', b8'⟩, ⟨m0, m1, m2, rfl, m4⟩, hE, hN, hNx⟩ := gO.out rfl
        clear gO
        have n1 : ¬ M < 0 := by omega
        have n2 : ¬ E < M := by omega
        have n3 : ¬ n < E := by omega
        have n4 : ¬ F < E := by omega
        clear m0 m1 m2 m4
        go_upto_region 19 with fail
        go_cut [305] from 255 to 304 (fun vv wx => vv = .bool false ∧ wx = wc)
        case first => as_aux_lemma =>
          clear hNx X1
          by_cases he : E = n
          · obtain ⟨h3, hy⟩ := hE.1 he
            clear hE hN
            subst h3
            subst he
            by_cases hm : M < E
            all_goals
              go_wp2_with fail
              go_meet
              case rel => exact ⟨by first | rfl | (simp; done) | (simp; omega), rfl⟩
          · have hne : ¬ (three = true ∧ Dy ≤ y) := fun q => he (hE.2 q)
            clear hE
            by_cases hm : M < n
            · obtain rfl := hN hm he
              clear hN
              cases three
              · go_wp2_with fail
                go_meet
                case rel => exact ⟨by first | rfl | (simp; done) | (simp; omega), rfl⟩
              · have hd : ¬ Dy ≤ y := fun q => hne ⟨rfl, q⟩
                go_wp2_with fail
                go_meet
                case rel => exact ⟨by first | rfl | (simp; done) | (simp; omega), rfl⟩
            · clear hN
              cases three
              · go_wp2_with fail
                go_meet
                case rel => exact ⟨by first | rfl | (simp; done) | (simp; omega), rfl⟩
              · have hd : ¬ Dy ≤ y := fun q => hne ⟨rfl, q⟩
                go_wp2_with fail
                go_meet
                case rel => exact ⟨by first | rfl | (simp; done) | (simp; omega), rfl⟩
        case rest =>
          obtain ⟨rfl, hwc⟩ := hcut
          obtain rfl := hwc
          have hE0 : 0 ≤ E := by omega
          clear hE hN n1 n2 n4
          by_cases hy1 : y < 1000000
          · obtain ⟨N, cN, hN1, hN2⟩ := hNx hy1
            clear hNx
            go_wp2_with fail
            refine (cN _).mono ?_; rintro e w1 ⟨rfl, hb⟩
            replace X1 := X1.below hb
            have HX := Lib.hid hb
            clear hb a1 c1 cN
            obtain ⟨-, a1, c1⟩ := id X1
            by_cases he : E = n
            · have hNn := hN1 he
              clear hN1 hN2
              subst he
              subst hNn
              go_wp2_with fail
              go_meet
              case rel => exact HX.out
            · obtain ⟨hor, hle⟩ := hN2 (by omega)
              clear hN1 hN2
              have hlt : E < n := by omega
              clear n3
              rcases hor with rfl | rfl
              · go_wp2_with fail
                go_meet
                case rel => exact HX.out
              · have n5 : ¬ (0 : Int) < E - d := by omega
                by_cases hz : E - d = 0
                · obtain rfl : E = d := by omega
                  clear hz n5
                  go_wp2_with fail
                  go_meet
                  case rel => exact HX.out
                · have hz2 : ¬ (0 : Int) = E - d := fun q => hz q.symm
                  go_wp2_with fail
                  go_meet
                  case rel => exact HX.out
          · go_wp2_with fail
            go_meet
            case rel => exact Below.refl _ _
    case rest =>
      have hA := hcut
      replace HB := hbs HB hA
      replace hM := hM.below hA
      replace X1 := X1.below hA
      clear hA hcut a1 c1 gO
      obtain ⟨-, a1, c1⟩ := id X1
      go_upto_if 358 with fail
      go_cut [] from 359 to 370 (fun wx => Below wc.heap.size wc wx)
      case first => as_aux_lemma =>
        clear hM
        cases nine
        · clear gX E0 HB
          go_wp2_with fail
          go_meet
          case rel => exact Below.refl _ _
        · have cX := gX.out rfl
          clear gX
          go_wp2_with fail
          refine (cX _ (E0.out.below HB.out)).mono ?_; rintro e wE ⟨rfl, hb⟩
          replace X1 := X1.below hb
          have HX := Lib.hid hb
          clear hb E0 HB a1 c1 cX
          obtain ⟨z1, a1, c1⟩ := id X1
          go_wp2_with fail
          go_meet
          case rel => exact HX.out.trans ((Below.alloc (Below.refl _ _) (Nat.le_refl _) _).mono HX.out.size)
      case rest =>
        replace HB := hbs HB hcut
        replace hM := hM.below hcut
        rename_i hK
        exact hK _ _ (tail29 E0 HB hM)
set_option maxHeartbeats 4000000 in
set_option maxRecDepth 100000 in
theorem fnSnailsClimb_walk (ca : Option Addr) (cn ccap : Nat) (ma : Option Addr) (mn mcap : Nat) (w : World) (E : Env w) (hc : cn ≤ 1048576 → RdY w ca cn) (hc2 : cn ≤ maxLen) (hm : mn ≤ 1048576 → RdY w ma mn) (hm2 : mn ≤ maxLen) :
    Calls Tryz.prog 3 #[.slice ca cn ccap, .slice ma mn mcap] w fun e w' => e = .returned (.bool true) ∧ Below w.heap.size w w' := by
  unfold maxLen at hc2 hm2
  cases hbig : (decide (1048576 < (cn : Int)) || decide (1048576 - (cn : Int) < (mn : Int)))
  · have h2 := hbig
    rw [Bool.or_eq_false_iff, decide_eq_false_iff_not, decide_eq_false_iff_not] at h2
    exact walk ca ma cn mn ccap mcap w (Lib.hid E) (hc (by omega)) (hm (by omega)) hbig
  · clear hc hm
    go_enter Tryz.func3, Tryz.ntmps3
    dsimp only [List.append]
    go_wp2_with fail
    refine (big_any ca ma cn mn ccap mcap _ (by omega) (by omega)).mono ?_; rw [hbig]; rintro e w0 ⟨rfl, rfl⟩
    go_wp2_with fail
    go_ret
    exact ⟨rfl, Below.refl _ _⟩
set_option maxRecDepth 100000 in
/-- What the walk gives, for every argument and every world that holds the tables. -/
theorem contract (H : Type) (enc : TypeId × Value → H) (W : World) (base : Nat) (args : Array Value) (ds gs : List (DataW H)) (before : List MemPlace)
    (hval : ∀ (j : Nat) t v, Tryz.f3.params[j]? = some t → args[j]? = some v → Value.okWide Tryz.prog W .any base t v)
    (hW : DataW.Whole enc Tryz.prog Tryz.f3.params.toList Rows.fnSnailsClimbSpec.vars false W args.toList ds gs before) (hsh : W.ShapedOpen Tryz.prog) (hL : laidMetH Tryz.prog Rows.fnSnailsClimbRow.laid W) :
    Calls Tryz.prog 3 args W fun e W' => ∃ v, e = .returned v ∧ Rows.fnSnailsClimbSpec.post enc Tryz.prog Tryz.f3 false true false false W args v W' := by
  have hW' := hW
  obtain ⟨p, q, hA0, hV, rfl, hfz, hnd⟩ := hW
  have hA : DataW.TrodAll enc Tryz.prog W 0 (fun _ => true) true Tryz.f3.params.toList args.toList ds p := hA0
  rw [Tryz.params3] at hA hval
  obtain ⟨v0, vs0, d0, ds0, p0, q0, hargs, rfl, rfl, h0, r0⟩ := trodAll_cons hA
  obtain ⟨v1, vs1, d1, ds1, p1, q1, rfl, rfl, rfl, h1, r1⟩ := trodAll_cons r0
  obtain ⟨rfl, rfl, rfl⟩ := trodAll_nil r1
  obtain rfl : args = #[v0, v1] := by cases args; simp_all
  obtain ⟨rfl, rfl⟩ := trodVars_none hV
  have k0 := h0
  have lt0 : ∀ x ∈ p0, x.block < W.heap.size := by obtain ⟨m, hm⟩ := k0; exact DataW.trod_lt m _ _ _ hm
  have k1 := h1
  have lt1 : ∀ x ∈ p1, x.block < W.heap.size := by obtain ⟨m, hm⟩ := k1; exact DataW.trod_lt m _ _ _ hm
  obtain ⟨b0, len0, cap0, rfl⟩ := okWide_slice Tryz.underlying22 (hval 0 22 v0 rfl rfl)
  obtain ⟨R0, M0⟩ : (len0 ≤ 1048576 → RdY W b0 len0) ∧ len0 ≤ maxLen := by
    obtain ⟨fuel, hf⟩ := h0
    rcases open_ints Tryz.underlying22 Tryz.underlying5 (by kernel_rfl) hf with ⟨hcs, _⟩ | ⟨x, l, c, zs, hcs, _, hl, hm, hz, _, hcell, hwz⟩
    · simp [Value.cells] at hcs
      obtain ⟨rfl, rfl, rfl⟩ := hcs
      exact ⟨fun _ => ⟨Nat.zero_le _, .inl rfl⟩, Nat.zero_le _⟩
    · simp [Value.cells] at hcs
      obtain ⟨rfl, rfl, rfl⟩ := hcs
      have hz' : zs.length = cap0 := by simpa using hz
      exact ⟨fun q => rdY_of (by omega) q hcell hwz, by omega⟩
  obtain ⟨b1, len1, cap1, rfl⟩ := okWide_slice Tryz.underlying22 (hval 1 22 v1 rfl rfl)
  obtain ⟨R1, M1⟩ : (len1 ≤ 1048576 → RdY W b1 len1) ∧ len1 ≤ maxLen := by
    obtain ⟨fuel, hf⟩ := h1
    rcases open_ints Tryz.underlying22 Tryz.underlying5 (by kernel_rfl) hf with ⟨hcs, _⟩ | ⟨x, l, c, zs, hcs, _, hl, hm, hz, _, hcell, hwz⟩
    · simp [Value.cells] at hcs
      obtain ⟨rfl, rfl, rfl⟩ := hcs
      exact ⟨fun _ => ⟨Nat.zero_le _, .inl rfl⟩, Nat.zero_le _⟩
    · simp [Value.cells] at hcs
      obtain ⟨rfl, rfl, rfl⟩ := hcs
      have hz' : zs.length = cap1 := by simpa using hz
      exact ⟨fun q => rdY_of (by omega) q hcell hwz, by omega⟩
  clear hA0
  refine (fnSnailsClimb_walk b0 len0 cap0 b1 len1 cap1 W (env hL hsh) R0 M0 R1 M1).mono fun e W' ⟨he, bel⟩ => ?_
  subst he
  exact ⟨_, rfl, _, _, _, [], _, [], hW', trodAll_mk1 (shut_bool Tryz.underlying4 _), (trodAll_cons_mk (Below.trod laidOut (by kernel_rfl) (of_decide_eq_true (by kernel_rfl)) k0 bel lt0) (trodAll_cons_mk (Below.trod laidOut (by kernel_rfl) (of_decide_eq_true (by kernel_rfl)) k1 bel lt1) trodAll_mk0)), rfl, bel.frame _, fun h => by cases h⟩
def vals : DataW Unit → Array Value
  | .agg l => (l.map fun | .lit (.int k n) => Value.int k n | _ => undef).toArray
  | _ => #[]
def lay (vs : Array Value) : Obj → Obj
  | .cells _ t frozen => .cells vs t frozen
  | o => o
/-- A world for the witness: the settled one, the three tables holding what their initialisers lay. -/
noncomputable def baseHeap (os : Os) : Array Obj := (((World.holding Tryz.prog os ⟨#[], #[], []⟩).heap.modify 0 (lay (vals Rows.laid_internal_strconv_uint64pow10))).modify 4 (lay (vals Rows.laid_math_bits_deBruijn32tab))).modify 5 (lay (vals Rows.laid_math_bits_deBruijn64tab))
def txt : DataW Unit → Value
  | .iface _ (.ptr (.agg [.lit (.string l)])) => .string ⟨l.toArray⟩
  | _ => undef
noncomputable def laidWorld (os : Os) : World :=
  { World.holding Tryz.prog os ⟨#[], #[], []⟩ with heap := ((((baseHeap os).modify 3 (lay #[.iface 110 (.pointer (some ⟨(baseHeap os).size, 0, none⟩))])).modify 2 (lay #[.iface 110 (.pointer (some ⟨(baseHeap os).size + 1, 0, none⟩))])).push (.cells #[txt Rows.laid_strconv_ErrRange] 112)).push (.cells #[txt Rows.laid_strconv_ErrSyntax] 112) }
theorem laid_met (os : Os) : laidMet Tryz.prog Rows.fnSnailsClimbRow.laid ((laidWorld os).forCall (fun _ _ => 0) ⟨#[], #[.slice none 0 0, .slice none 0 0], []⟩).memory :=
  laidMet_of_run' 8 (by kernel_rfl) (by kernel_rfl)
theorem reads (os : Os) {H : Type} (enc : TypeId × Value → H) : ∃ places, DataW.whole enc Tryz.prog ((laidWorld os).forCall (fun _ _ => 0) ⟨#[], #[.slice none 0 0, .slice none 0 0], []⟩).memory Tryz.f3.params.toList Rows.fnSnailsClimbSpec.vars false #[Value.slice none 0 0, Value.slice none 0 0].toList 8 = some ([.nil, .nil], [], places) :=
  ⟨[], by kernel_rfl⟩
set_option maxRecDepth 100000 in
theorem lifted (os : Os) (started : os.Started) (H : Type) (enc : TypeId × Value → H) (F : Stop.Interp) :
    ReturnsInHanded {} Tryz.checked os 3 .any ((OpenSpec.ofChange Rows.fnSnailsClimbSpec).preRow enc Tryz.prog Tryz.f3 Rows.fnSnailsClimbRow.domain false Rows.fnSnailsClimbRow.laid) (((OpenSpec.ofChange Rows.fnSnailsClimbSpec).at F).post enc Tryz.prog Tryz.f3 false true false false) := by
  obtain ⟨places, hx⟩ := reads os enc
  refine returnsInHanded_of_row (C := Tryz.checked) (s := OpenSpec.ofChange Rows.fnSnailsClimbSpec) own started (by kernel_rfl) Tryz.func3
    (witness_row_at (enc := enc) (C := Tryz.checked) false (laidWorld os) #[.slice none 0 0, .slice none 0 0] rfl (by kernel_rfl) (by kernel_rfl) (by kernel_rfl)
      (OpenSpec.preRow_of_cond 8 hx (by kernel_rfl) (fun k hk => by cases hk) (by kernel_rfl) (laid_met os))) ?_
  intro W base args ds gs before hval hW _ _ _ hL hsh _
  exact contract H enc W base args ds gs before hval hW hsh hL
theorem said : Rows.FnSnailsClimbSaid :=
  OpenClaim.holds_of_cond 3 Tryz.f3 rfl rfl rfl rfl rfl rfl rfl ⟨rfl, rfl, rfl, rfl, rfl⟩ rfl rfl rfl rfl rfl (by kernel_rfl) Tryz.func3 (by kernel_rfl)
    (of_decide_eq_true (by kernel_rfl)) (by unfold Func.isWrapper; first | (rw [if_pos (by decide +kernel)]; kernel_rfl) | (rw [if_neg (by decide +kernel)]; exact ⟨rfl, rfl⟩))
    (fun os started H enc _ F => by rw [OpenClaim.pre_eq_preRow]; exact lifted os started H enc F)
theorem plain (f : FuncId) (fn : Func) (hf : Tryz.pinned.checked.prog.funcNamed Rows.fnSnailsClimbRow.func = some f) (hfn : Tryz.pinned.checked.prog.funcs[f]? = some fn) :
    true = Tryz.pinned.checked.prog.looks [] ∧ ∀ (j : Nat) t, fn.params[j]? = some t → Tryz.pinned.checked.prog.wantsStandIn t = false := by
  obtain rfl : f = 3 := Option.some.inj ((show Tryz.prog.funcNamed Rows.fnSnailsClimbRow.func = some 3 by kernel_rfl).symm.trans hf) |>.symm
  obtain rfl : fn = Tryz.f3 := (Option.some.inj (Tryz.func3.symm.trans hfn)).symm
  refine ⟨by kernel_rfl, fun j t ht => ?_⟩
  rw [Tryz.params3] at ht
  obtain rfl : t = 22 := by simpa using Array.mem_of_getElem? ht
  exact (show Tryz.prog.wantsStandIn 22 = false by kernel_rfl)
/-- The card, as it is given. -/
theorem fnSnailsClimb_holds : Rows.FnSnailsClimbCardSaid :=
  Claim7.holds_tied_plain_at .later [] _ _ _ _ said (fun _ h => by cases h) (by kernel_rfl) (fun _ h => by cases h) fnSnailsClimb_row_tie rfl ⟨rfl, rfl⟩ (by kernel_rfl) rfl plain (by kernel_rfl)
end fnSnailsClimb
end Go.Proofs.YtalnellimbehoaaGreatDoor
