/- The last part of the walk of the named law of snails that climb: from the condition on first days on. -/
import Derived.Test.YtalnellimbehoaaGreatDoorScBase
import Derived.Lib.LaidTab
import Derived.Lib.ItoaNum
import Derived.Deep.Cut
import Derived.Deep.CutRange
import Derived.WalkKit
import Derived.ProofKit
import Derived.Below
import Derived.Lib.SmallJoins
import Derived.Lib.Hide
namespace Go.Proofs.YtalnellimbehoaaGreatDoor
open Go.ChangeShapes Go.WideShapes Go.ChangeAt Go.RowKit Go.Joins
set_option linter.unusedVariables false
set_option linter.unusedSimpArgs false
namespace fnSnailsClimb
set_option maxHeartbeats 16000000 in
set_option maxRecDepth 100000 in
theorem tail45 {s0 s1 s2 s3 s4 s5 s6 s7 s8 s9 s10 s11 s12 s13 s14 s15 s16 s17 s18 s19 s20 s21 s22 s23 s24 s25 s26 s27 s28 s29 s30 s31 s32 s33 s34 s35 s41 s42 s45 s46 s52 s53 s59 s60 s64 s65 s66 s67 s68 s69 s70 s71 s72 s73 s74 s75 s76 s77 s78 s79 s80 s81 s82 s83 s84 s85 s86 s87 s88 s89 s90 s91 s92 s93 s94 s95 s96 s97 s98 s99 s100 s101 s102 s103 s104 s105 s106 s107 s108 s109 s110 s111 s112 s113 s114 s115 s116 s117 s118 s119 s120 s121 s122 s123 s124 s125 s126 s127 s128 s129 s130 s131 s132 s133 s134 s135 s136 s137 s138 s139 s140 s141 s142 s143 s144 s145 s146 s147 s148 s149 s150 s151 s152 s153 s154 s155 s156 s157 s158 s159 s160 s161 s162 s163 s164 s165 s166 s167 s168 s169 s170 s171 s172 s173 s174 s175 s176 s177 s178 s179 s180 s181 s182 s183 s184 s185 s186 s187 s188 s189 s190 s191 s192 s193 s194 s195 s196 s197 s198 s199 s200 s201 s202 s203 s204 s205 s206 s207 s208 s209 s210 s211 s212 s213 s214 s215 s216 s217 s218 s219 s220 s221 s222 s223 s224 s225 s226 s227 s228 s229 s230 s231 s232 s233 s234 s235 s236 s237 s238 s239 s240 s241 s242 s243 s244 s245 s246 s247 s248 s249 s250 s251 s252 s253 s254 s255 s256 s257 s258 s259 s260 s261 s262 s263 s264 s265 s266 s267 s268 s269 s270 s271 s272 s273 s274 s275 s276 s277 s278 s279 s280 s281 s282 s283 s284 s285 s286 s287 s288 s289 s290 s291 s292 s293 s294 s295 s296 s297 s298 s299 s300 s301 s302 s303 s304 s305 s306 s307 s308 s309 s310 s311 s312 s313 s314 s315 s316 s317 s318 s319 s320 s321 s322 s323 s324 s325 s326 s327 s328 s329 s330 s331 s332 s333 s334 s335 s336 s337 s338 s339 s340 s341 s342 s343 s344 s345 s346 s347 s348 s349 s350 s351 s352 s353 s354 s355 s356 s357 s358 s359 s360 s361 s362 s363 s364 s365 s366 s367 s368 s369 s370 s371 s372 s373 s374 s375 s376 s377 s378 s379 s380 s381 s382 s383 s384 s385 s386 s387 s388 s389 s390 s391 s392 s393 s394 s395 s396 s397 s398 s399 s400 s401 s402 s403 s404 s405 s406 s407 s408 s409 s410 s411 s412 s413 s414 s415 s416 s417 s418 s419 s420 s421 s422 s423 s424 s425 s426 s427 s428 s429 s430 s431 s432 s433 s434 s435 s436 s437 s438 s439 s440 s441 s442 s443 s444 s445 s446 s447 s448 s449 s450 s451 s452 s453 s454 s455 s456 s457 s458 s459 s460 s461 s462 s463 s464 s465 s466 s467 s468 s469 s470 s471 s472 s473 s474 s475 s476 s477 s478 s479 s480 s481 s482 s483 s484 s485 s486 s487 s488 s489 s490 s491 s492 s493 s494 s495 s496 s497 s498 s499 s500 s501 s502 s503 s504 s505 s506 s507 s508 s509 s510 s511 s512 s513 s514 s515 s516 s517 s518 s519 s520 s521 s522 s523 s524 s525 s526 s527 s528 s529 s530 s531 s532 s533 s534 s535 s536 s537 s538 s539 s540 s541 s542 s543 s544 s545 s546 s547 s548 s549 s550 s551 s552 s553 s554 s555 s556 s557 s558 s559 s560 s561 s562 s563 s564 s565 s566 s567 s568 s569 s570 s571 s572 s573 s574 s575 s576 s577 s578 s579 s580 s581 s582 s583 s584 s585 s586 s587 s588 s589 s590 s591 s592 s593 s594 s595 s596 s597 s598 s599 s600 s601 s602 s603 s604 s605 s606 s607 s608 s609 s610 s611 s612 s613 s614 s615 s616 s617 s618 s619 s620 s621 s622 s623 s624 s625 s626 s627 s628 s629 s630 s631 s632 : Value} {b1 b2 : Nat} {u d n h p1 q1 n2 y2 dn S n3 y3 up R U D : Int} {eleven thirteen fifteen seventeen nineteen : Bool} {t : ByteArray} {w wc : World}
    (HB : Hid (Below w.heap.size w wc)) (X1 : Bx b1 u d wc) (X2 : Bx b2 U D wc)
    (gB : Hid (eleven = true → (1 ≤ p1 ∧ p1 ≤ 1000000) ∧ (∃ G, (∀ w : World, Calls Tryz.prog 8 #[.agg #[.int .i64 u, .int .i64 d], .int .i64 n, .int .i64 p1] w fun e w' => e = .returned (.tuple #[.int .i64 G, .bool true]) ∧ Below w.heap.size w w') ∧ h ≤ G) ∧ (1 < p1 → ∃ G, (∀ w : World, Calls Tryz.prog 8 #[.agg #[.int .i64 u, .int .i64 d], .int .i64 n, .int .i64 (p1 - 1)] w fun e w' => e = .returned (.tuple #[.int .i64 G, .bool true]) ∧ Below w.heap.size w w') ∧ G < h) ∧ (0 < h → thirteen = true → 1 ≤ q1)))
    (gB2 : Hid (thirteen = true → eleven = false → q1 = 0))
    (gC : Hid (fifteen = true → (1 ≤ S ∧ S ≤ 1000) ∧ (∃ t, (∀ w : World, Calls Tryz.prog 10 #[.agg #[.int .i64 S, .int .i64 dn], .int .i64 n2] w fun e w' => e = .returned (.tuple #[.int .i64 t, .bool true]) ∧ Below w.heap.size w w') ∧ t ≤ y2) ∧ (1 < S → ∃ t b, (∀ w : World, Calls Tryz.prog 10 #[.agg #[.int .i64 (S - 1), .int .i64 dn], .int .i64 n2] w fun e w' => e = .returned (.tuple #[.int .i64 t, .bool b]) ∧ Below w.heap.size w w') ∧ (b = true → y2 < t))))
    (gD : Hid (seventeen = true → (0 ≤ R ∧ R ≤ 1000) ∧ (∃ t, (∀ w : World, Calls Tryz.prog 10 #[.agg #[.int .i64 up, .int .i64 R], .int .i64 n3] w fun e w' => e = .returned (.tuple #[.int .i64 t, .bool true]) ∧ Below w.heap.size w w') ∧ t ≤ y3) ∧ (R < 1000 → ∃ t b, (∀ w : World, Calls Tryz.prog 10 #[.agg #[.int .i64 up, .int .i64 (R + 1)], .int .i64 n3] w fun e w' => e = .returned (.tuple #[.int .i64 t, .bool b]) ∧ Below w.heap.size w w') ∧ (b = true → y3 < t))))
    (gE : Hid (nineteen = true → ∀ w, Lib.TabIs Tryz.prog w "internal/strconv.uint64pow10" .u64 Lib.pow10Tab → Calls Tryz.prog 16 #[.agg #[.int .i64 U, .int .i64 D]] w fun e w' => e = .returned (.tuple #[.string t, .bool true]) ∧ Below w.heap.size w w'))
    (hT : ∀ w', Below wc.heap.size wc w' → Lib.TabIs Tryz.prog w' "internal/strconv.uint64pow10" .u64 Lib.pow10Tab) :
    Code.wp Tryz.prog code45 (bodyPost Tryz.prog Tryz.f3 fun e w' => e = .returned (.bool true) ∧ Below w.heap.size w w') ⟨#[s0, s1, s2, s3, s4, s5, s6, s7, s8, s9, s10, s11, s12, s13, s14, s15, s16, s17, s18, s19, s20, s21, s22, s23, s24, s25, s26, s27, s28, s29, s30, s31, s32, s33, s34, s35, .pointer (some ⟨b1, 0, none⟩), .int .i64 n, .int .i64 h, .int .i64 p1, .bool eleven, s41, s42, .int .i64 q1, .bool thirteen, s45, s46, .int .i64 n2, .int .i64 y2, .int .i64 dn, .int .i64 S, .bool fifteen, s52, s53, .int .i64 n3, .int .i64 y3, .int .i64 up, .int .i64 R, .bool seventeen, s59, s60, .string t, .pointer (some ⟨b2, 0, none⟩), .bool nineteen, s64, s65, s66, s67, s68, s69, s70, s71, s72, s73, s74, s75, s76, s77, s78, s79, s80, s81, s82, s83, s84, s85, s86, s87, s88, s89, s90, s91, s92, s93, s94, s95, s96, s97, s98, s99, s100, s101, s102, s103, s104, s105, s106, s107, s108, s109, s110, s111, s112, s113, s114, s115, s116, s117, s118, s119, s120, s121, s122, s123, s124, s125, s126, s127, s128, s129, s130, s131, s132, s133, s134, s135, s136, s137, s138, s139, s140, s141, s142, s143, s144, s145, s146, s147, s148, s149, s150, s151, s152, s153, s154, s155, s156, s157, s158, s159, s160, s161, s162, s163, s164, s165, s166, s167, s168, s169, s170, s171, s172, s173, s174, s175, s176, s177, s178, s179, s180, s181, s182, s183, s184, s185, s186, s187, s188, s189, s190, s191, s192, s193, s194, s195, s196, s197, s198, s199, s200, s201, s202, s203, s204, s205, s206, s207, s208, s209, s210, s211, s212, s213, s214, s215, s216, s217, s218, s219, s220, s221, s222, s223, s224, s225, s226, s227, s228, s229, s230, s231, s232, s233, s234, s235, s236, s237, s238, s239, s240, s241, s242, s243, s244, s245, s246, s247, s248, s249, s250, s251, s252, s253, s254, s255, s256, s257, s258, s259, s260, s261, s262, s263, s264, s265, s266, s267, s268, s269, s270, s271, s272, s273, s274, s275, s276, s277, s278, s279, s280, s281, s282, s283, s284, s285, s286, s287, s288, s289, s290, s291, s292, s293, s294, s295, s296, s297, s298, s299, s300, s301, s302, s303, s304, s305, s306, s307, s308, s309, s310, s311, s312, s313, s314, s315, s316, s317, s318, s319, s320, s321, s322, s323, s324, s325, s326, s327, s328, s329, s330, s331, s332, s333, s334, s335, s336, s337, s338, s339, s340, s341, s342, s343, s344, s345, s346, s347, s348, s349, s350, s351, s352, s353, s354, s355, s356, s357, s358, s359, s360, s361, s362, s363, s364, s365, s366, s367, s368, s369, s370, s371, s372, s373, s374, s375, s376, s377, s378, s379, s380, s381, s382, s383, s384, s385, s386, s387, s388, s389, s390, s391, s392, s393, s394, s395, s396, s397, s398, s399, s400, s401, s402, s403, s404, s405, s406, s407, s408, s409, s410, s411, s412, s413, s414, s415, s416, s417, s418, s419, s420, s421, s422, s423, s424, s425, s426, s427, s428, s429, s430, s431, s432, s433, s434, s435, s436, s437, s438, s439, s440, s441, s442, s443, s444, s445, s446, s447, s448, s449, s450, s451, s452, s453, s454, s455, s456, s457, s458, s459, s460, s461, s462, s463, s464, s465, s466, s467, s468, s469, s470, s471, s472, s473, s474, s475, s476, s477, s478, s479, s480, s481, s482, s483, s484, s485, s486, s487, s488, s489, s490, s491, s492, s493, s494, s495, s496, s497, s498, s499, s500, s501, s502, s503, s504, s505, s506, s507, s508, s509, s510, s511, s512, s513, s514, s515, s516, s517, s518, s519, s520, s521, s522, s523, s524, s525, s526, s527, s528, s529, s530, s531, s532, s533, s534, s535, s536, s537, s538, s539, s540, s541, s542, s543, s544, s545, s546, s547, s548, s549, s550, s551, s552, s553, s554, s555, s556, s557, s558, s559, s560, s561, s562, s563, s564, s565, s566, s567, s568, s569, s570, s571, s572, s573, s574, s575, s576, s577, s578, s579, s580, s581, s582, s583, s584, s585, s586, s587, s588, s589, s590, s591, s592, s593, s594, s595, s596, s597, s598, s599, s600, s601, s602, s603, s604, s605, s606, s607, s608, s609, s610, s611, s612, s613, s614, s615, s616, s617, s618, s619, s620, s621, s622, s623, s624, s625, s626, s627, s628, s629, s630, s631, s632], []⟩ wc := by
  conv => arg 2; whnf
  dsimp only [List.append]
  go_upto_if 505 with fail
  go_cut [] from 506 to 545 (fun wx => Below wc.heap.size wc wx)
  case first => as_aux_lemma =>
    obtain ⟨-, a1, c1⟩ := id X1
    clear gB2 gC gD gE hT HB X2
    cases eleven
    · clear gB
      go_wp2_with fail
      go_meet
      case rel => exact Below.refl _ _
    · obtain ⟨⟨p2, p3⟩, ⟨G, cG, hG⟩, hlt, hq⟩ := gB.out rfl
      clear gB
      go_wp2_with fail
      refine (cG _).mono ?_; rintro e w1 ⟨rfl, hb⟩
      have HX := Lib.hid hb
      replace X1 := X1.below hb
      clear hb a1 c1 cG
      obtain ⟨-, a1, c1⟩ := id X1
      by_cases hp : 1 < p1
      · obtain ⟨G', cG', hG'⟩ := hlt hp
        clear hlt
        have hp2 : ¬ p1 ≤ 1 := by omega
        go_wp2_with fail
        refine (cG' _).mono ?_; rintro e w2 ⟨rfl, hb⟩
        replace HX := hbs HX hb
        clear hb a1 c1 cG' X1
        have hG2 : ¬ h ≤ G' := by omega
        by_cases h0 : 0 < h
        · cases thirteen
          · go_wp2_with fail
            go_meet
            case rel => exact HX.out
          · have hq1 := hq h0 rfl
            have hq2 : ¬ q1 < 1 := by omega
            go_wp2_with fail
            go_meet
            case rel => exact HX.out
        · go_wp2_with fail
          go_meet
          case rel => exact HX.out
      · clear hlt
        by_cases h0 : 0 < h
        · cases thirteen
          · go_wp2_with fail
            go_meet
            case rel => exact HX.out
          · have hq1 := hq h0 rfl
            have hq2 : ¬ q1 < 1 := by omega
            go_wp2_with fail
            go_meet
            case rel => exact HX.out
        · go_wp2_with fail
          go_meet
          case rel => exact HX.out
  case rest =>
    have hA := hcut
    replace HB := hbs HB hA
    replace X2 := X2.below hA
    replace hT := Lib.hid (fun w' hb => hT w' (hA.trans (Below.mono hb hA.size)))
    clear hA hcut gB X1
    go_upto_region 55 with fail
    go_cut [554] from 546 to 553 (fun vv wx => vv = .bool false ∧ wx = wc)
    case first => as_aux_lemma =>
      have f := gB2.out
      clear gB2 gC gD gE hT HB X2
      cases thirteen
      · clear f
        go_wp2_with fail
        go_meet
        case rel => exact ⟨by first | rfl | (simp; done) | (simp; omega), rfl⟩
      · cases eleven
        · have f := f rfl rfl
          subst f
          go_wp2_with fail
          go_meet
          case rel => exact ⟨by first | rfl | (simp; done) | (simp; omega), rfl⟩
        · clear f
          go_wp2_with fail
          go_meet
          case rel => exact ⟨by first | rfl | (simp; done) | (simp; omega), rfl⟩
    case rest =>
      obtain ⟨rfl, hwc⟩ := hcut
      obtain rfl := hwc
      clear gB2
      go_upto_if 555 with fail
      go_cut [] from 556 to 587 (fun wx => Below wc.heap.size wc wx)
      case first => as_aux_lemma =>
        clear gD gE hT HB X2
        cases fifteen
        · clear gC
          go_wp2_with fail
          go_meet
          case rel => exact Below.refl _ _
        · obtain ⟨⟨p2, p3⟩, ⟨G, cG, hG⟩, hlt⟩ := gC.out rfl
          clear gC
          go_wp2_with fail
          refine (cG _).mono ?_; rintro e w1 ⟨rfl, hb⟩
          have HX := Lib.hid hb
          clear hb cG
          by_cases hp : 1 < S
          · obtain ⟨G', b, cG', hG'⟩ := hlt hp
            clear hlt
            go_wp2_with fail
            refine (cG' _).mono ?_; rintro e w2 ⟨rfl, hb⟩
            replace HX := hbs HX hb
            clear hb cG'
            cases b
            · clear hG'
              go_wp2_with fail
              go_meet
              case rel => exact HX.out
            · have hG2 := hG' rfl
              clear hG'
              have hG3 : ¬ G' ≤ y2 := by omega
              go_wp2_with fail
              go_meet
              case rel => exact HX.out
          · clear hlt
            go_wp2_with fail
            go_meet
            case rel => exact HX.out
      case rest =>
        have hA := hcut
        replace HB := hbs HB hA
        replace X2 := X2.below hA
        replace hT := Lib.hid (fun w' hb => hT.out w' (hA.trans (Below.mono hb hA.size)))
        clear hA hcut gC
        go_upto_if 588 with fail
        go_cut [] from 589 to 620 (fun wx => Below wc.heap.size wc wx)
        case first => as_aux_lemma =>
          clear gE hT HB X2
          cases seventeen
          · clear gD
            go_wp2_with fail
            go_meet
            case rel => exact Below.refl _ _
          · obtain ⟨⟨p2, p3⟩, ⟨G, cG, hG⟩, hlt⟩ := gD.out rfl
            clear gD
            go_wp2_with fail
            refine (cG _).mono ?_; rintro e w1 ⟨rfl, hb⟩
            have HX := Lib.hid hb
            clear hb cG
            by_cases hp : R < 1000
            · obtain ⟨G', b, cG', hG'⟩ := hlt hp
              clear hlt
              go_wp2_with fail
              refine (cG' _).mono ?_; rintro e w2 ⟨rfl, hb⟩
              replace HX := hbs HX hb
              clear hb cG'
              cases b
              · clear hG'
                go_wp2_with fail
                go_meet
                case rel => exact HX.out
              · have hG2 := hG' rfl
                clear hG'
                have hG3 : ¬ G' ≤ y3 := by omega
                go_wp2_with fail
                go_meet
                case rel => exact HX.out
            · clear hlt
              go_wp2_with fail
              go_meet
              case rel => exact HX.out
        case rest =>
          have hA := hcut
          replace HB := hbs HB hA
          replace X2 := X2.below hA
          replace hT := hT.out _ hA
          clear hA hcut gD
          obtain ⟨-, a1, c1⟩ := id X2
          cases nineteen
          · clear gE hT X2
            go_wp2_with fail
            go_ret
            exact ⟨rfl, HB.out⟩
          · have cX := gE.out rfl
            clear gE X2
            go_wp2_with fail
            refine (cX _ hT).mono ?_; rintro e w1 ⟨rfl, hb⟩
            have HX := hbs HB hb
            clear hb HB hT a1 c1
            go_wp2_with fail
            go_ret
            exact ⟨by first | rfl | simp, HX.out⟩
end fnSnailsClimb
end Go.Proofs.YtalnellimbehoaaGreatDoor
