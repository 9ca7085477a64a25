/- The last part of the walk of the named law of chances: from the condition on even chances on. -/
import Derived.Test.YtlmbcbopahpagaaVcBase
import Derived.Test.YtlmbcbopahpagaaVcMath
import Derived.Deep.Cut
import Derived.Deep.CutRange
import Derived.WalkKit
import Derived.ProofKit
import Derived.Below
import Derived.Lib.SmallJoins
import Derived.Lib.Hide
namespace Go.Proofs.Ytlmbcbopahpagaa
open Go.ChangeShapes Go.WideShapes Go.ChangeAt Go.RowKit Go.Joins
set_option linter.unusedVariables false
set_option linter.unusedSimpArgs false
namespace fnVisitsChance
set_option maxHeartbeats 16000000 in
set_option maxRecDepth 100000 in
theorem tail49 {s0 s1 s2 s3 s4 s5 s6 s7 s8 s9 s10 s11 s12 s13 s14 s15 s16 s17 s18 s19 s20 s21 s22 s23 s24 s25 s31 s32 s33 s40 s41 s42 s48 s49 s55 s56 s61 s62 s63 s64 s65 s66 s67 s68 s69 s70 s71 s72 s73 s74 s75 s76 s77 s78 s79 s80 s81 s82 s83 s84 s85 s86 s87 s88 s89 s90 s91 s92 s93 s94 s95 s96 s97 s98 s99 s100 s101 s102 s103 s104 s105 s106 s107 s108 s109 s110 s111 s112 s113 s114 s115 s116 s117 s118 s119 s120 s121 s122 s123 s124 s125 s126 s127 s128 s129 s130 s131 s132 s133 s134 s135 s136 s137 s138 s139 s140 s141 s142 s143 s144 s145 s146 s147 s148 s149 s150 s151 s152 s153 s154 s155 s156 s157 s158 s159 s160 s161 s162 s163 s164 s165 s166 s167 s168 s169 s170 s171 s172 s173 s174 s175 s176 s177 s178 s179 s180 s181 s182 s183 s184 s185 s186 s187 s188 s189 s190 s191 s192 s193 s194 s195 s196 s197 s198 s199 s200 s201 s202 s203 s204 s205 s206 s207 s208 s209 s210 s211 s212 s213 s214 s215 s216 s217 s218 s219 s220 s221 s222 s223 s224 s225 s226 s227 s228 s229 s230 s231 s232 s233 s234 s235 s236 s237 s238 s239 s240 s241 s242 s243 s244 s245 s246 s247 s248 s249 s250 s251 s252 s253 s254 s255 s256 s257 s258 s259 s260 s261 s262 s263 s264 s265 s266 s267 s268 s269 s270 s271 s272 s273 s274 s275 s276 s277 s278 s279 s280 s281 s282 s283 s284 s285 s286 s287 s288 s289 s290 s291 s292 s293 s294 s295 s296 s297 s298 s299 s300 s301 s302 s303 s304 s305 s306 s307 s308 s309 s310 s311 s312 s313 s314 s315 s316 s317 s318 s319 s320 s321 s322 s323 s324 s325 s326 s327 s328 s329 s330 s331 s332 s333 s334 s335 s336 s337 s338 s339 s340 s341 s342 s343 s344 s345 s346 s347 s348 s349 s350 s351 s352 s353 s354 s355 s356 s357 s358 s359 s360 s361 s362 s363 s364 s365 s366 s367 s368 s369 s370 s371 s372 s373 s374 s375 s376 s377 s378 s379 s380 s381 s382 s383 s384 s385 s386 s387 s388 s389 s390 s391 s392 s393 s394 s395 s396 s397 s398 s399 s400 s401 s402 s403 s404 s405 s406 s407 s408 s409 s410 s411 s412 s413 s414 s415 s416 s417 s418 s419 s420 s421 s422 s423 s424 s425 s426 s427 s428 s429 s430 s431 s432 s433 s434 s435 s436 s437 s438 s439 s440 s441 s442 s443 s444 s445 s446 s447 s448 s449 s450 s451 s452 s453 s454 s455 s456 s457 s458 s459 s460 s461 s462 s463 s464 s465 s466 s467 s468 s469 s470 s471 s472 s473 s474 s475 s476 s477 s478 s479 s480 s481 s482 s483 s484 s485 s486 s487 s488 s489 s490 s491 s492 s493 s494 s495 s496 s497 s498 s499 s500 s501 s502 s503 s504 s505 s506 s507 s508 s509 s510 s511 s512 s513 s514 s515 s516 s517 s518 s519 s520 s521 s522 s523 s524 s525 s526 s527 s528 s529 s530 s531 s532 s533 s534 s535 s536 s537 s538 s539 s540 s541 s542 s543 s544 s545 s546 s547 s548 s549 s550 s551 s552 s553 s554 s555 s556 s557 s558 s559 s560 s561 s562 s563 s564 s565 s566 s567 s568 s569 s570 s571 s572 s573 s574 s575 s576 s577 s578 s579 s580 s581 s582 s583 s584 s585 s586 s587 s588 s589 s590 s591 : Value} {lg st p q l3 c3 d3 r s sp tp lo S m pe wt A n mean part : Int} {three five seven nine eleven : Bool} {w wc : World}
    (HB : Hid (Below w.heap.size w wc))
    (gB : Hid (three = true → (∀ w : World, Calls Try.prog 10 #[.int .i64 p, .int .i64 q] w fun e w' => e = .returned (.bool true) ∧ Below w.heap.size w w') ∧ ∃ X1 X2 Y1 Y2 Y3 Y4, IntKind.i64.wrap (p * lg) = X1 ∧ IntKind.i64.wrap (X1 * lg) = X2 ∧ IntKind.i64.wrap (lg * lg) = Y1 ∧ IntKind.i64.wrap (lg - st) = Y2 ∧ IntKind.i64.wrap (Y2 * Y2) = Y3 ∧ IntKind.i64.wrap (Y1 - Y3) = Y4 ∧ IntKind.i64.wrap (q * Y4) = X2))
    (gC : Hid (five = true → (∀ w : World, Calls Try.prog 10 #[.int .i64 r, .int .i64 s] w fun e w' => e = .returned (.bool true) ∧ Below w.heap.size w w') ∧ (∀ w : World, Calls Try.prog 17 #[.int .i64 l3, .int .i64 d3, .int .i64 c3] w fun e w' => e = .returned (.tuple #[.int .i64 (r), .int .i64 (s), .bool true]) ∧ Below w.heap.size w w') ∧ r ≤ s))
    (gD : Hid (seven = true → (0 ≤ S ∧ S ≤ 200) ∧ (∃ z y X Y, (∀ w : World, Calls Try.prog 14 #[.int .i64 sp, .int .i64 S] w fun e w' => e = .returned (.tuple #[.int .i64 (z), .int .i64 (y), .bool true]) ∧ Below w.heap.size w w') ∧ IntKind.i64.wrap (z * lo) = X ∧ IntKind.i64.wrap (tp * y) = Y ∧ Y ≤ X) ∧
      (0 < S → ∃ z y X Y, (∀ w : World, Calls Try.prog 14 #[.int .i64 sp, .int .i64 (S - 1)] w fun e w' => e = .returned (.tuple #[.int .i64 (z), .int .i64 (y), .bool true]) ∧ Below w.heap.size w w') ∧ IntKind.i64.wrap (z * lo) = X ∧ IntKind.i64.wrap (tp * y) = Y ∧ X < Y)))
    (gE : Hid (nine = true → (1 ≤ m ∧ m ≤ 50 ∧ 1 ≤ pe ∧ pe ≤ 6 ∧ 0 ≤ wt ∧ wt ≤ 50) ∧ ∃ PW : Nat → Int, PW 0 = 1 ∧ (∀ i : Nat, (i : Int) < pe → (0 ≤ PW i ∧ PW i ≤ 1000000000000) ∧ IntKind.i64.wrap (PW i * m) = PW (i + 1)) ∧
      (∀ i : Nat, (i : Int) = pe → m ≤ A ∧ A ≤ PW i ∧ ((A = PW i ∧ (m - 1 ≤ wt ∨ pe = 1)) ∨ (¬ A = PW i ∧ wt < m - 1 ∧ ¬ pe = 1)))))
    (gF : Hid (eleven = true → (1 ≤ n ∧ n ≤ 200) ∧ (∀ w : World, Calls Try.prog 10 #[.int .i64 mean, .int .i64 part] w fun e w' => e = .returned (.bool true) ∧ Below w.heap.size w w') ∧ (∀ i : Nat, (i : Int) < n → (∀ w : World, Calls Try.prog 11 #[.int .i64 n, .int .i64 (i : Int)] w fun e w' => e = .returned (.tuple #[.int .i64 (caN n i), .bool true]) ∧ Below w.heap.size w w') ∧ (0 ≤ gpS n i ∧ gpS n i ≤ 16000000) ∧ ∃ X, IntKind.i64.wrap ((i : Int) * caN n i) = X ∧ IntKind.i64.wrap (gpS n i + X) = gpS n (i + 1)) ∧
      (∀ i : Nat, (i : Int) = n → ∃ X1 X2, IntKind.i64.wrap (mean * n) = X1 ∧ IntKind.i64.wrap (X1 * n) = X2 ∧ IntKind.i64.wrap (part * gpS n i) = X2))) :
    Code.wp Try.prog code49 (bodyPost Try.prog Try.f3 fun e w' => e = .returned (.bool true) ∧ Below w.heap.size w w') ⟨#[s0, s1, s2, s3, s4, s5, s6, s7, s8, s9, s10, s11, s12, s13, s14, s15, s16, s17, s18, s19, s20, s21, s22, s23, s24, s25, .int .i64 lg, .int .i64 st, .int .i64 p, .int .i64 q, .bool three, s31, s32, s33, .int .i64 l3, .int .i64 c3, .int .i64 d3, .int .i64 r, .int .i64 s, .bool five, s40, s41, s42, .int .i64 sp, .int .i64 tp, .int .i64 lo, .int .i64 S, .bool seven, s48, s49, .int .i64 m, .int .i64 pe, .int .i64 wt, .int .i64 A, .bool nine, s55, s56, .int .i64 n, .int .i64 mean, .int .i64 part, .bool eleven, s61, s62, s63, s64, s65, s66, s67, s68, s69, s70, s71, s72, s73, s74, s75, s76, s77, s78, s79, s80, s81, s82, s83, s84, s85, s86, s87, s88, s89, s90, s91, s92, s93, s94, s95, s96, s97, s98, s99, s100, s101, s102, s103, s104, s105, s106, s107, s108, s109, s110, s111, s112, s113, s114, s115, s116, s117, s118, s119, s120, s121, s122, s123, s124, s125, s126, s127, s128, s129, s130, s131, s132, s133, s134, s135, s136, s137, s138, s139, s140, s141, s142, s143, s144, s145, s146, s147, s148, s149, s150, s151, s152, s153, s154, s155, s156, s157, s158, s159, s160, s161, s162, s163, s164, s165, s166, s167, s168, s169, s170, s171, s172, s173, s174, s175, s176, s177, s178, s179, s180, s181, s182, s183, s184, s185, s186, s187, s188, s189, s190, s191, s192, s193, s194, s195, s196, s197, s198, s199, s200, s201, s202, s203, s204, s205, s206, s207, s208, s209, s210, s211, s212, s213, s214, s215, s216, s217, s218, s219, s220, s221, s222, s223, s224, s225, s226, s227, s228, s229, s230, s231, s232, s233, s234, s235, s236, s237, s238, s239, s240, s241, s242, s243, s244, s245, s246, s247, s248, s249, s250, s251, s252, s253, s254, s255, s256, s257, s258, s259, s260, s261, s262, s263, s264, s265, s266, s267, s268, s269, s270, s271, s272, s273, s274, s275, s276, s277, s278, s279, s280, s281, s282, s283, s284, s285, s286, s287, s288, s289, s290, s291, s292, s293, s294, s295, s296, s297, s298, s299, s300, s301, s302, s303, s304, s305, s306, s307, s308, s309, s310, s311, s312, s313, s314, s315, s316, s317, s318, s319, s320, s321, s322, s323, s324, s325, s326, s327, s328, s329, s330, s331, s332, s333, s334, s335, s336, s337, s338, s339, s340, s341, s342, s343, s344, s345, s346, s347, s348, s349, s350, s351, s352, s353, s354, s355, s356, s357, s358, s359, s360, s361, s362, s363, s364, s365, s366, s367, s368, s369, s370, s371, s372, s373, s374, s375, s376, s377, s378, s379, s380, s381, s382, s383, s384, s385, s386, s387, s388, s389, s390, s391, s392, s393, s394, s395, s396, s397, s398, s399, s400, s401, s402, s403, s404, s405, s406, s407, s408, s409, s410, s411, s412, s413, s414, s415, s416, s417, s418, s419, s420, s421, s422, s423, s424, s425, s426, s427, s428, s429, s430, s431, s432, s433, s434, s435, s436, s437, s438, s439, s440, s441, s442, s443, s444, s445, s446, s447, s448, s449, s450, s451, s452, s453, s454, s455, s456, s457, s458, s459, s460, s461, s462, s463, s464, s465, s466, s467, s468, s469, s470, s471, s472, s473, s474, s475, s476, s477, s478, s479, s480, s481, s482, s483, s484, s485, s486, s487, s488, s489, s490, s491, s492, s493, s494, s495, s496, s497, s498, s499, s500, s501, s502, s503, s504, s505, s506, s507, s508, s509, s510, s511, s512, s513, s514, s515, s516, s517, s518, s519, s520, s521, s522, s523, s524, s525, s526, s527, s528, s529, s530, s531, s532, s533, s534, s535, s536, s537, s538, s539, s540, s541, s542, s543, s544, s545, s546, s547, s548, s549, s550, s551, s552, s553, s554, s555, s556, s557, s558, s559, s560, s561, s562, s563, s564, s565, s566, s567, s568, s569, s570, s571, s572, s573, s574, s575, s576, s577, s578, s579, s580, s581, s582, s583, s584, s585, s586, s587, s588, s589, s590, s591], []⟩ wc := by
  conv => arg 2; whnf
  dsimp only [List.append]
  go_upto_region 49 with fail
  go_cut [454] from 427 to 453 (fun vv wx => vv = .bool false ∧ Below wc.heap.size wc wx)
  case first => as_aux_lemma =>
    clear gC gD gE gF HB
    cases three
    · clear gB
      go_wp2_with fail
      go_meet
      case rel => exact ⟨by first | rfl | (simp; done), Below.refl _ _⟩
    · obtain ⟨cY, X1, X2, Y1, Y2, Y3, Y4, e1, e2, e3, e4, e5, e6, e7⟩ := gB.out rfl
      clear gB
      go_wp2_with fail
      refine (cY _).mono ?_; rintro e w1 ⟨rfl, hb⟩
      have HX := Lib.hid hb
      clear hb cY
      go_wp2_with fail
      go_meet
      case rel => exact ⟨by first | rfl | (simp; done) | (simp; omega), HX.out⟩
  case rest =>
    obtain ⟨rfl, hA⟩ := hcut
    replace HB := hbs HB hA
    clear hA gB
    go_upto_if 455 with fail
    go_cut [] from 456 to 486 (fun wx => Below wc.heap.size wc wx)
    case first => as_aux_lemma =>
      clear gD gE gF HB
      cases five
      · clear gC
        go_wp2_with fail
        go_meet
        case rel => exact Below.refl _ _
      · obtain ⟨cY, cB, hlt⟩ := gC.out rfl
        clear gC
        go_wp2_with fail
        refine (cB _).mono ?_; rintro e w1 ⟨rfl, hb⟩
        have HX := Lib.hid hb
        clear hb cB
        go_wp2_with fail
        refine (cY _).mono ?_; rintro e w2 ⟨rfl, hb⟩
        replace HX := hbs HX hb
        clear hb cY
        go_wp2_with fail
        go_meet
        case rel => exact HX.out
    case rest =>
      replace HB := hbs HB hcut
      clear hcut gC
      go_upto_if 487 with fail
      go_cut [] from 488 to 526 (fun wx => Below wc.heap.size wc wx)
      case first => as_aux_lemma =>
        clear gE gF HB
        cases seven
        · clear gD
          go_wp2_with fail
          go_meet
          case rel => exact Below.refl _ _
        · obtain ⟨⟨b1, b2⟩, ⟨z, y, X, Y, cG, e1, e2, hG⟩, hlt⟩ := gD.out rfl
          clear gD
          go_wp2_with fail
          refine (cG _).mono ?_; rintro e w1 ⟨rfl, hb⟩
          have HX := Lib.hid hb
          clear hb cG
          by_cases hS : 0 < S
          · obtain ⟨z', y', X', Y', cG', e1', e2', hG'⟩ := hlt hS
            clear hlt
            go_wp2_with fail
            refine (cG' _).mono ?_; rintro e w2 ⟨rfl, hb⟩
            replace HX := hbs HX hb
            clear hb cG'
            go_wp2_with fail
            go_meet
            case rel => exact HX.out
          · clear hlt
            go_wp2_with fail
            go_meet
            case rel => exact HX.out
      case rest =>
        replace HB := hbs HB hcut
        clear hcut gD
        go_upto_if 527 with fail
        go_cut [] from 528 to 557 (fun wx => Below wc.heap.size wc wx)
        case first => as_aux_lemma =>
          clear gF HB
          cases nine
          · clear gE
            go_wp2_with fail
            go_meet
            case rel => exact Below.refl _ _
          · obtain ⟨⟨b1, b2, b3, b4, b5, b6⟩, PW, h0, hstep, hend⟩ := gE.out rfl
            clear gE
            have GS := Lib.hid hstep
            have GE := Lib.hid hend
            have G0 := Lib.hid h0
            clear hstep hend h0
            go_wp2_with fail
            go_loopg [80, 79] pe.toNat (fun k v80 v79 wr => ∃ i : Nat, v80 = .int .i64 (i : Int) ∧ v79 = .int .i64 (PW i) ∧ (i : Int) + (k : Int) = pe ∧ Below wc.heap.size wc wr)
            case atStart => exact ⟨0, rfl, by rw [G0.out], by omega, Below.refl _ _⟩
            case round => as_aux_lemma =>
              obtain ⟨i, rfl, rfl, hk, hbel⟩ := hrel
              have HX := Lib.hid hbel
              clear hbel G0
              by_cases hi : (i : Int) < pe
              · obtain ⟨bb, e1⟩ := GS.out i hi
                have HE := Lib.hid e1
                generalize PW (i + 1) = W1 at e1
                go_wp2_with fail
                go_roundg (gk - 1)
                case rel => exact ⟨i + 1, by go_num, by first | rfl | (rw [← e1, HE.out]), by omega, HX.out⟩
                case measure => omega
              · obtain ⟨h1, h2, h3⟩ := GE.out i (by omega)
                clear GS GE
                generalize PW i = W at *
                go_upto_region 69 with fail
                go_cut [557] from 536 to 556 (fun vv wx => vv = .bool false ∧ wx = wr)
                case first =>
                  clear HX
                  rcases h3 with ⟨rfl, h3⟩ | ⟨h3, h4, h5⟩
                  · by_cases h4 : m - 1 ≤ wt
                    · clear h3
                      go_wp2_with fail
                      all_goals
                        go_meet
                        case rel => exact ⟨by first | rfl | (simp; done) | (simp; omega) | (simp [*]; done) | (simp [*]; omega), rfl⟩
                    · obtain rfl : pe = 1 := by omega
                      clear h3
                      go_wp2_with fail
                      all_goals
                        go_meet
                        case rel => exact ⟨by first | rfl | (simp; done) | (simp; omega) | (simp [*]; done) | (simp [*]; omega), rfl⟩
                  · go_wp2_with fail
                    all_goals
                      go_meet
                      case rel => exact ⟨by first | rfl | (rw [show decide (A < m) = false from decide_eq_false (by omega), show decide (W < A) = false from decide_eq_false (by omega), show decide (m - 1 ≤ wt) = false from decide_eq_false (by omega), show (pe == 1) = false from by rw [beq_eq_false_iff_ne]; omega, show (A == W) = false from by rw [beq_eq_false_iff_ne]; omega]; rfl), rfl⟩
                case rest =>
                  obtain ⟨rfl, hwc⟩ := hcut
                  obtain rfl := hwc
                  go_wp2_with fail
                  go_meet
                  case rel => exact HX.out
        case rest =>
          replace HB := hbs HB hcut
          clear hcut gE
          cases eleven
          · clear gF
            go_wp2_with fail
            go_ret
            exact ⟨rfl, HB.out⟩
          · obtain ⟨⟨b1, b2⟩, cY, hstep, hend⟩ := gF.out rfl
            clear gF
            have GS := Lib.hid hstep
            have GE := Lib.hid hend
            have GY := Lib.hid cY
            clear hstep hend cY
            go_wp2_with fail
            go_loopg [82, 81] n.toNat (fun k v82 v81 wr => ∃ i : Nat, v82 = .int .i64 (i : Int) ∧ v81 = .int .i64 (gpS n i) ∧ (i : Int) + (k : Int) = n ∧ Below wc.heap.size wc wr)
            case atStart => exact ⟨0, rfl, rfl, by omega, Below.refl _ _⟩
            case round => as_aux_lemma =>
              obtain ⟨i, rfl, rfl, hk, hbel⟩ := hrel
              by_cases hi : (i : Int) < n
              · obtain ⟨cA, bb, X, e1, e2⟩ := GS.out i hi
                have HE := Lib.hid (show ∃ G, gpS n (i + 1) = G from ⟨_, rfl⟩)
                have HX := Lib.hid hbel
                clear hbel
                go_wp2_with fail
                refine (cA _).mono ?_; rintro e w1 ⟨rfl, hb⟩
                replace HX := hbs HX hb
                clear hb cA
                generalize hg1 : gpS n (i + 1) = G1 at e2
                have HG1 := Lib.hid hg1
                clear hg1
                go_wp2_with fail
                go_roundg (gk - 1)
                case rel => exact ⟨i + 1, by go_num, by rw [HG1.out], by omega, HX.out⟩
                case measure => omega
              · obtain ⟨X1, X2, e1, e2, e3⟩ := GE.out i (by omega)
                have HX := hbs HB hbel
                clear hbel
                go_wp2_with fail
                refine (GY.out _).mono ?_; rintro e w1 ⟨rfl, hb⟩
                replace HX := hbs HX hb
                clear hb
                go_wp2_with fail
                go_ret
                exact ⟨rfl, HX.out⟩
end fnVisitsChance
end Go.Proofs.Ytlmbcbopahpagaa
