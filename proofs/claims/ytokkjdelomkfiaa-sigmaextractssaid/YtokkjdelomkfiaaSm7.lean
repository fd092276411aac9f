/- The reference's ExtractAny, of even lists. -/
import Derived.Test.YtokkjdelomkfiaaSr
import Derived.Test.YtokkjdelomkfiaaSr6
import Derived.Test.YtokkjdelomkfiaaSn
set_option linter.unusedSimpArgs false
set_option linter.unusedVariables false
set_option maxRecDepth 100000
namespace Go.Proofs.Ytokkjdelomkfiaa
open Go.RowKit Go.Deep Go.PlainAid

section
variable {z : Int} {G : Array Value} {S Wd M low one sq Ri Wd2 M2 low2 one2 sq2 Ri2 : Nat}
set_option maxHeartbeats 4000000 in
theorem ref10_even (k : KD z G S Wd M low one sq Ri Wd2 M2 low2 one2 sq2 Ri2) {w : World} {a1 a2 b1 b2 : Option Addr} {xs ys : List ByteArray} {ll mm : List (List ByteArray)} {n c1 c2 d1 d2 : Nat} (hn : n ≤ 8796093022207) (h0 : n ≠ 0) (hx : xs.length = n) (hy : ys.length = n) (hl : ll.length = n) (hm : mm.length = n) (ln : ∀ i (h : i < ll.length), (ll[i]).length ≤ 8796093022207) (ln2 : ∀ i (h : i < mm.length), (mm[i]).length ≤ 8796093022207) (s1 : SL w a1 xs) (s2 : SLL w a2 ll) (t1 : SL w b1 ys) (t2 : SLL w b2 mm) (ev : evenB ll mm = true) (R : Ending → World → Prop) (R6 : AG (isSc S M) xs ys ll mm = false → ∀ w', R (.returned (.tuple #[.int .i64 0, .slice none 0 0, .int .i64 6])) w')
    (R9 : AG (isSc S M) xs ys ll mm = true → xs = ys → ∀ w', R (.returned (.tuple #[.int .i64 0, .slice none 0 0, .int .i64 9])) w')
    (RG : AG (isSc S M) xs ys ll mm = true → ∀ q (hq : FD xs ys q) (g1 : q < ll.length) (g2 : q < mm.length) w' a' c', SL w' a' (exRow S M (xs[q]'hq.lt1) (ys[q]'hq.lt2) ll[q] mm[q]) → R (.returned (.tuple #[.int .i64 (q : Int), .slice a' (exRow S M (xs[q]'hq.lt1) (ys[q]'hq.lt2) ll[q] mm[q]).length c', .int .i64 0])) w') :
    Calls Try.prog 10 #[.int .i64 z, .agg #[.slice a1 n c1, .slice a2 n c2], .agg #[.slice b1 n d1, .slice b2 n d2]] w fun e w' => R e w' ∧ Below w.heap.size w w' := by
  have HEv : Hid (evenB ll mm = true) := ev
  clear ev
  have HLN : Hid (∀ i (h : i < ll.length), (ll[i]).length ≤ 8796093022207) := ln
  have HLN2 : Hid (∀ i (h : i < mm.length), (mm[i]).length ≤ 8796093022207) := ln2
  clear ln ln2
  have HR6 : Hid _ := R6
  have HR9 : Hid _ := R9
  have HRG : Hid _ := RG
  clear R6 R9 RG
  generalize hW : (w.alloc (.cells #[.slice a1 n c1, .slice a2 n c2] 27)).alloc (.cells #[.slice b1 n d1, .slice b2 n d2] 27) = W
  have J : Hid (Below w.heap.size w W) := by rw [← hW]; exact ((Below.refl _ w).alloc (Nat.le_refl _) _).alloc (by simp) _
  have I1 : Hid (IHolds W w.heap.size 27 [.slice a1 n c1, .slice a2 n c2]) := by rw [← hW]; exact (IHolds.new' w 27 [.slice a1 n c1, .slice a2 n c2] rfl).alloc _
  have I2 : Hid (IHolds W (w.heap.size + 1) 27 [.slice b1 n d1, .slice b2 n d2]) := by rw [← hW]; exact IHolds.new' (w.alloc _) 27 [.slice b1 n d1, .slice b2 n d2] (by simp)
  have S1 : Hid (SL W a1 xs) := s1.of_below J.out
  have S2 : Hid (SLL W a2 ll) := s2.of_below J.out
  have T1 : Hid (SL W b1 ys) := t1.of_below J.out
  have T2 : Hid (SLL W b2 mm) := t2.of_below J.out
  clear s1 s2 t1 t2
  have hz : ((n : Int) == 0) = false := beq_eq_false_iff_ne.2 (by omega)
  have HX : Hid (xs.length = n) := hx
  have HY : Hid (ys.length = n) := hy
  have HL : Hid (ll.length = n) := hl
  have HM : Hid (mm.length = n) := hm
  clear hx hy hl hm h0
  go_enter Try.func10, Try.ntmps10
  go_wp2_with fail
  clear hW
  refine (k.K9 _).mono ?_
  rintro e w1 ⟨⟨u1, u2, rfl, n1, n2⟩, hB1⟩
  obtain ⟨qa, ql, qc, rfl⟩ := sN (show Hid (NumV w1 65536 M u1) from n1)
  obtain ⟨pa, pl, pc, rfl⟩ := sN (show Hid (NumV w1 65536 M2 u2) from n2)
  obtain ⟨U, hU⟩ : ∃ U, w1.alloc (.cells #[.int .i64 (S : Int), .slice qa ql qc, .slice pa pl pc] 54) = U := ⟨_, rfl⟩
  have B1 : Hid (Below W.heap.size W U) := by rw [← hU]; exact hB1.trans ((nB _ _).mono hB1.size)
  have N1 : Hid (NumV U 65536 M (.slice qa ql qc)) := by rw [← hU]; exact n1.of_below (nB _ _)
  have N2 : Hid (NumV U 65536 M2 (.slice pa pl pc)) := by rw [← hU]; exact n2.of_below (nB _ _)
  have J0 : Hid (IHolds U w1.heap.size 54 [.int .i64 (S : Int), .slice qa ql qc, .slice pa pl pc]) := by rw [← hU]; exact IHolds.new' w1 54 [.int .i64 (S : Int), .slice qa ql qc, .slice pa pl pc] rfl
  have J1 : Hid (IHolds U w.heap.size 27 [.slice a1 n c1, .slice a2 n c2]) := I1.out.of_below B1.out
  have J2 : Hid (IHolds U (w.heap.size + 1) 27 [.slice b1 n d1, .slice b2 n d2]) := I2.out.of_below B1.out
  replace S1 : Hid (SL U a1 xs) := S1.out.of_below B1.out
  replace S2 : Hid (SLL U a2 ll) := S2.out.of_below B1.out
  replace T1 : Hid (SL U b1 ys) := T1.out.of_below B1.out
  replace T2 : Hid (SLL U b2 mm) := T2.out.of_below B1.out
  clear I1 I2 n1 n2 hB1
  have KC : Hid (∀ V, Below U.heap.size U V → V.cell? ⟨w1.heap.size, 0, none⟩ = some (.int .i64 (S : Int)) ∧ V.cell? ⟨w1.heap.size, 1, none⟩ = some (.slice qa ql qc) ∧ V.cell? ⟨w1.heap.size, 2, none⟩ = some (.slice pa pl pc) ∧ V.cell? ⟨w.heap.size, 0, none⟩ = some (.slice a1 n c1) ∧ V.cell? ⟨w.heap.size, 1, none⟩ = some (.slice a2 n c2) ∧ V.cell? ⟨w.heap.size + 1, 0, none⟩ = some (.slice b1 n d1) ∧ V.cell? ⟨w.heap.size + 1, 1, none⟩ = some (.slice b2 n d2)) := fun V hV => ⟨cell_keep (J0.out.cell 0 (by simp)) hV, cell_keep (J0.out.cell 1 (by simp)) hV, cell_keep (J0.out.cell 2 (by simp)) hV, cell_keep J1.out.two0 hV, cell_keep J1.out.two1 hV, cell_keep J2.out.two0 hV, cell_keep J2.out.two1 hV⟩
  have hS0 := k.hS0
  obtain ⟨y0, y1, y2, y3, y4, y5, y6⟩ := KC.out U (Below.refl _ _)
  go_wp2_with fail
  clear hU
  go_loopg [11] n (fun gk v11 wr => ∃ i : Nat, i + gk = n ∧ v11 = .int .i64 (i : Int) ∧ Below U.heap.size U wr ∧ evenB (ll.take i) (mm.take i) = true)
  case atStart => exact ⟨0, by omega, rfl, Below.refl _ _, by simp [evenB]⟩
  case round =>
    clear y0 y1 y2 y3 y4 y5 y6
    obtain ⟨i, hig, rfl, hB, he⟩ := hrel
    have B : Hid (Below U.heap.size U wr) := hB
    have HN : Hid (evenB (ll.take i) (mm.take i) = true) := he
    clear hB he
    obtain ⟨y0, y1, y2, y3, y4, y5, y6⟩ := KC.out wr B.out
    by_cases hi : i < n
    · have hi1 : i < ll.length := by have := HL.out; omega
      have hi2 : i < mm.length := by have := HM.out; omega
      have il : (i : Int) < (n : Int) := by omega
      obtain ⟨bl, ol, al, cl, rfl, hcl, hsl⟩ := (S2.out.of_below B.out) i hi1
      obtain ⟨bm, om, am, cm, rfl, hcm, hsm⟩ := (T2.out.of_below B.out) i hi2
      clear hsl hsm
      have HT : Hid _ := evenB_take (HL.out.trans HM.out.symm) hi1 hi2
      have HF : Hid (¬ ((ll[i]).length = (mm[i]).length ∧ 0 < (ll[i]).length) → evenB ll mm = false) := fun h => by
        cases he : evenB ll mm with
        | false => rfl
        | true => exact absurd (evenB_at ll mm he i hi1 hi2) h
      generalize (ll[i]).length = p1 at *
      generalize (mm[i]).length = p2 at *
      clear hi1 hi2
      by_cases h1 : p1 = p2
      · subst h1
        by_cases h2 : p1 = 0
        · subst h2
          have := HEv.out.symm.trans (HF.out (by omega))
          cases this
        · have h2' : ((p1 : Int) == 0) = false := beq_eq_false_iff_ne.2 (by omega)
          have HNX : Hid (evenB (ll.take (i + 1)) (mm.take (i + 1)) = true) := by
            show _ = _
            rw [HT.out, HN.out, decide_eq_true ⟨rfl, by omega⟩]; rfl
          clear HT HF h2
          go_wp2_with fail
          go_quiet (fail)
          have BQ : Hid (Below U.heap.size U (World.drewN wr nq)) := B.out.trans ⟨rfl, rfl, rfl, Nat.le_refl _, fun _ _ => rfl⟩
          clear y0 y1 y2 y3 y4 y5 y6 hcl hcm
          generalize World.drewN wr nq = wq at *
          go_wp2_with fail
          go_roundg (gk - 1)
          case measure => omega
          case rel => exact ⟨i + 1, by omega, by go_num, BQ.out, HNX.out⟩
      · have h1' : ((p1 : Int) != (p2 : Int)) = true := bne_iff_ne.2 (by omega)
        have := HEv.out.symm.trans (HF.out (fun q => h1 q.1))
        cases this
    · have il : ¬ (i : Int) < (n : Int) := by omega
      have HTT : Hid (evenB ll mm = true) := by
        have h := HN.out
        rw [List.take_of_length_le (by have := HL.out; omega), List.take_of_length_le (by have := HM.out; omega)] at h
        exact h
      go_wp2_with fail
      clear HN hig hi il y0 y1 y2 y3 y4 y5 y6
      go_loopg [12, 13] n (fun gk v12 v13 wr => ∃ (i : Nat) (f : Int), i + gk = n ∧ v13 = .int .i64 (i : Int) ∧ v12 = .int .i64 f ∧ DF xs ys i f ∧ Below U.heap.size U wr ∧ AG (isSc S M) (xs.take i) (ys.take i) (ll.take i) (mm.take i) = true)
      case atStart => exact ⟨0, -1, by omega, rfl, rfl, Or.inl ⟨rfl, by simp⟩, B.out, by simp [AG, allP]⟩
      case round =>
        clear B
        obtain ⟨i, f, hig, rfl, rfl, hD, hB, hA⟩ := hrel
        have B : Hid (Below U.heap.size U wr) := hB
        have HD : Hid (DF xs ys i f) := hD
        have HA : Hid (AG (isSc S M) (xs.take i) (ys.take i) (ll.take i) (mm.take i) = true) := hA
        clear hB hD hA
        by_cases hi : i < n
        · have il : (i : Int) < (n : Int) := by omega
          have h1 : i < xs.length := by have := HX.out; omega
          have h2 : i < ys.length := by have := HY.out; omega
          have h3 : i < ll.length := by have := HL.out; omega
          have h4 : i < mm.length := by have := HM.out; omega
          obtain ⟨bx, ox, rfl, hcx⟩ := S1.out i h1
          obtain ⟨by', oy, rfl, hcy⟩ := T1.out i h2
          obtain ⟨bl, ol, al, cl, rfl, hcl, hsl⟩ := S2.out i h3
          obtain ⟨bm, om, am, cm, rfl, hcm, hsm⟩ := T2.out i h4
          have HSL : Hid (SL U al ll[i]) := hsl
          have HSM : Hid (SL U am mm[i]) := hsm
          have HL1 : Hid ((ll[i]).length ≤ 8796093022207) := HLN.out i h3
          have HL2 : Hid ((mm[i]).length ≤ 8796093022207) := HLN2.out i h4
          have HAT : Hid _ := AG_take h1 h2 h3 h4 HA.out
          have HAA : Hid (AG (isSc S M) xs ys ll mm = true → _) := AG_at h1 h2 h3 h4
          have HTK : Hid (xs[i] = ys[i] → DF xs ys i f → DF xs ys (i + 1) f) := fun e h => by
            rcases h with ⟨rfl, h⟩ | ⟨q, hq, hf, rfl⟩
            · exact Or.inl ⟨rfl, by rw [List.take_succ_eq_append_getElem h1, List.take_succ_eq_append_getElem h2, h, e]⟩
            · exact Or.inr ⟨q, by omega, hf, rfl⟩
          have HTN : Hid (xs[i] ≠ ys[i] → xs.take i = ys.take i → DF xs ys (i + 1) (i : Int)) := fun e h => Or.inr ⟨i, by omega, ⟨h1, h2, h, e⟩, rfl⟩
          have HTB : Hid (∀ q : Nat, q < i → FD xs ys q → DF xs ys (i + 1) (q : Int)) := fun q hq h => Or.inr ⟨q, by omega, h, rfl⟩
          clear hsl hsm
          generalize ll[i] = L at *
          generalize mm[i] = N at *
          generalize xs[i] = x at *
          generalize ys[i] = y at *
          have HBad : Hid (¬ (L.all (isSc S M) = true ∧ N.all (isSc S M) = true ∧ isSc S M x = true ∧ isSc S M y = true) → AG (isSc S M) xs ys ll mm = false) := fun h => by
            cases hA : AG (isSc S M) xs ys ll mm with
            | false => rfl
            | true => exact absurd (HAA.out hA) h
          have KQ : Hid (∀ V, Below U.heap.size U V → (Below U.heap.size U V ∧ V.cell? ⟨w1.heap.size, 0, none⟩ = some (.int .i64 (S : Int)) ∧ V.cell? ⟨w1.heap.size, 1, none⟩ = some (.slice qa ql qc) ∧ V.cell? ⟨w1.heap.size, 2, none⟩ = some (.slice pa pl pc) ∧ V.cell? ⟨w.heap.size, 0, none⟩ = some (.slice (some ⟨bx, ox, none⟩) n c1) ∧ V.cell? ⟨w.heap.size, 1, none⟩ = some (.slice (some ⟨bl, ol, none⟩) n c2) ∧ V.cell? ⟨w.heap.size + 1, 0, none⟩ = some (.slice (some ⟨by', oy, none⟩) n d1) ∧ V.cell? ⟨w.heap.size + 1, 1, none⟩ = some (.slice (some ⟨bm, om, none⟩) n d2) ∧ V.cell? ⟨bl, ol + i, none⟩ = some (.slice al L.length cl) ∧ V.cell? ⟨bm, om + i, none⟩ = some (.slice am N.length cm) ∧ V.cell? ⟨bx, ox + i, none⟩ = some (.string x) ∧ V.cell? ⟨by', oy + i, none⟩ = some (.string y))) := fun V hV => by
            obtain ⟨q0, q1, q2, q3, q4, q5, q6⟩ := KC.out V hV
            exact ⟨hV, q0, q1, q2, q3, q4, q5, q6, cell_keep hcl hV, cell_keep hcm hV, cell_keep hcx hV, cell_keep hcy hV⟩
          have sB : Hid (∀ V V', Below V.heap.size V V' → Below U.heap.size U V → Below U.heap.size U V') := fun V V' h h' => h'.trans (h.mono h'.size)
          have CX : Hid (∀ V, Below U.heap.size U V → Calls Try.prog 24 #[.agg #[.int .i64 (S : Int), .slice qa ql qc, .slice pa pl pc], .string x] V fun e w' => e = .returned (.bool (isSc S M x)) ∧ Below V.heap.size V w') := fun V hV => isScalarV (N1.out.of_below hV) (N2.out.of_below hV) x k.hS k.l6
          have CY : Hid (∀ V, Below U.heap.size U V → Calls Try.prog 24 #[.agg #[.int .i64 (S : Int), .slice qa ql qc, .slice pa pl pc], .string y] V fun e w' => e = .returned (.bool (isSc S M y)) ∧ Below V.heap.size V w') := fun V hV => isScalarV (N1.out.of_below hV) (N2.out.of_below hV) y k.hS k.l6
          have CL : Hid (∀ V, Below U.heap.size U V → Calls Try.prog 23 #[.agg #[.int .i64 (S : Int), .slice qa ql qc, .slice pa pl pc], .int .i64 (L.length : Int), .slice al L.length cl] V fun e w' => e = .returned (.int .i64 (if L.all (isSc S M) = true then 0 else 6)) ∧ Below V.heap.size V w') := fun V hV => wrongScalars23 (isSc S M) HL1.out (HSL.out.of_below hV) (fun s V2 h2 => isScalarV ((N1.out.of_below hV).of_below h2) ((N2.out.of_below hV).of_below h2) s k.hS k.l6)
          have CM : Hid (∀ V, Below U.heap.size U V → Calls Try.prog 23 #[.agg #[.int .i64 (S : Int), .slice qa ql qc, .slice pa pl pc], .int .i64 (N.length : Int), .slice am N.length cm] V fun e w' => e = .returned (.int .i64 (if N.all (isSc S M) = true then 0 else 6)) ∧ Below V.heap.size V w') := fun V hV => wrongScalars23 (isSc S M) HL2.out (HSM.out.of_below hV) (fun s V2 h2 => isScalarV ((N1.out.of_below hV).of_below h2) ((N2.out.of_below hV).of_below h2) s k.hS k.l6)
          clear hcx hcy hcl hcm HSL HSM HAA h1 h2 h3 h4
          go_wp2_with fail
          refine Code.wp_mono (Q := fun e aa ww => match e with | .normal => (?R : Act → World → Prop) aa ww | _ => False) ?next ?here
          case next =>
            intro ex aa ww h
            cases ex with
            | normal => exact h
            | _ => exact h.elim
          case here =>
            refine reg16 il B.out KQ.out CL.out CM.out CX.out CY.out ?_
            intro v4 u79 u80 u81 u82 u83 u84 u85 u86 u87 u88 u89 u90 u91 u92 u93 u94 u95 u96 u97 u98 u99 u100 u101 u102 u103 u104 u105 u106 u107 u108 u109 u110 u111 u112 u113 u114 u115 u116 u117 u118 u119 u120 u121 u122 u123 u124 u125 u126 u127 hV
            try dsimp only
            have D4 : Hid (Below U.heap.size U v4) := hV
            clear hV CL CM CX CY B
            obtain ⟨_, q0, q1, q2, q3, q4, q5, q6, q7, q8, q9, q10⟩ := KQ.out _ D4.out.drew
            clear KQ
            cases hG : (L.all (isSc S M) && N.all (isSc S M) && isSc S M x && isSc S M y) with
            | false =>
              simp only [Bool.not_false]
              go_wp2_with fail
              exact bodyPost_ret (v := .tuple #[.int .i64 0, .slice none 0 0, .int .i64 6]) (by simp [results, Try.results10, go_sem]) rfl ⟨HR6.out (HBad.out (fun q => by rw [q.1, q.2.1, q.2.2.1, q.2.2.2] at hG; cases hG)) _, J.out.trans ((B1.out.trans (D4.out.mono B1.out.size)).mono J.out.size)⟩
            | true =>
              simp only [Bool.not_true]
              simp only [Bool.and_eq_true] at hG
              obtain ⟨⟨⟨g1, g2⟩, g3⟩, g4⟩ := hG
              have HAN : Hid _ := HAT.out g1 g2 g3 g4
              clear HAT g1 g2 g3 g4 HBad
              rcases HD.out with ⟨rfl, ht⟩ | ⟨q, hq, hf, rfl⟩
              · have hlo : (-1 : Int) < 0 := by decide
                by_cases hxy : x = y
                · have h2 : (x.toList == y.toList) = !false := by rw [hxy]; simp
                  have HDN : Hid (DF xs ys (i + 1) (-1)) := HTK.out hxy HD.out
                  clear hxy HTK HTN HTB HD ht
                  go_wp2_with fail
                  refine Code.wp_mono (Q := fun e aa ww => match e with | .normal => (?R1 : Act → World → Prop) aa ww | _ => False) ?next1 ?here1
                  case next1 =>
                    intro ex aa ww h
                    cases ex with
                    | normal => exact h
                    | _ => exact h.elim
                  case here1 =>
                    refine reg18_lo il q3 q5 q9 q10 hlo h2 ?_
                    intro V x129 x130 x131 x132 x133 x134 x135 x136 x137 x138 x139 x140 x141 x142 hV
                    try dsimp only
                    have BQ : Hid (Below U.heap.size U V) := by rw [hV]; exact D4.out.drew
                    clear hV q0 q1 q2 q3 q4 q5 q6 q7 q8 q9 q10 D4
                    go_wp2_with fail
                    go_roundg (gk - 1)
                    case measure => omega
                    case rel => exact ⟨i + 1, -1, by omega, by go_num, rfl, HDN.out, BQ.out, HAN.out⟩
                · have h2 : (x.toList == y.toList) = !true := toList_ne hxy
                  have HDN : Hid (DF xs ys (i + 1) (i : Int)) := HTN.out hxy ht
                  clear hxy HTK HTN HTB HD ht
                  go_wp2_with fail
                  refine Code.wp_mono (Q := fun e aa ww => match e with | .normal => (?R2 : Act → World → Prop) aa ww | _ => False) ?next2 ?here2
                  case next2 =>
                    intro ex aa ww h
                    cases ex with
                    | normal => exact h
                    | _ => exact h.elim
                  case here2 =>
                    refine reg18_lo il q3 q5 q9 q10 hlo h2 ?_
                    intro V x129 x130 x131 x132 x133 x134 x135 x136 x137 x138 x139 x140 x141 x142 hV
                    try dsimp only
                    have BQ : Hid (Below U.heap.size U V) := by rw [hV]; exact D4.out.drew
                    clear hV q0 q1 q2 q3 q4 q5 q6 q7 q8 q9 q10 D4
                    go_wp2_with fail
                    go_roundg (gk - 1)
                    case measure => omega
                    case rel => exact ⟨i + 1, (i : Int), by omega, by go_num, rfl, HDN.out, BQ.out, HAN.out⟩
              · have hlt : ¬ (q : Int) < 0 := by omega
                have HDN : Hid (DF xs ys (i + 1) (q : Int)) := HTB.out q hq hf
                clear HTK HTN HTB HD hf
                go_wp2_with fail
                refine Code.wp_mono (Q := fun e aa ww => match e with | .normal => (?R3 : Act → World → Prop) aa ww | _ => False) ?next3 ?here3
                case next3 =>
                  intro ex aa ww h
                  cases ex with
                  | normal => exact h
                  | _ => exact h.elim
                case here3 =>
                  refine reg18_hi il q3 q5 q9 q10 (by omega) ?_
                  intro V x129 x130 x131 x132 x133 x134 x135 x136 x137 x138 x139 x140 x141 x142 hV
                  try dsimp only
                  have BQ : Hid (Below U.heap.size U V) := by rw [hV]; exact D4.out.drew
                  clear hV q0 q1 q2 q3 q4 q5 q6 q7 q8 q9 q10 D4
                  go_wp2_with fail
                  go_roundg (gk - 1)
                  case measure => omega
                  case rel => exact ⟨i + 1, (q : Int), by omega, by go_num, rfl, HDN.out, BQ.out, HAN.out⟩
        · have il : ¬ (i : Int) < (n : Int) := by omega
          have HAG : Hid (AG (isSc S M) xs ys ll mm = true) := by
            have h := HA.out
            rw [List.take_of_length_le (by have := HX.out; omega), List.take_of_length_le (by have := HY.out; omega), List.take_of_length_le (by have := HL.out; omega), List.take_of_length_le (by have := HM.out; omega)] at h
            exact h
          rcases HD.out with ⟨rfl, ht⟩ | ⟨q, hq, hf, rfl⟩
          · have HXY : Hid (xs = ys) := by
              rw [List.take_of_length_le (by have := HX.out; omega), List.take_of_length_le (by have := HY.out; omega)] at ht
              exact ht
            clear ht
            go_wp2_with fail
            exact bodyPost_ret (v := .tuple #[.int .i64 0, .slice none 0 0, .int .i64 9]) (by simp [results, Try.results10, go_sem]) rfl ⟨HR9.out HAG.out HXY.out _, J.out.trans ((B1.out.trans (B.out.mono B1.out.size)).mono J.out.size)⟩
          · have hlt : ¬ (q : Int) < 0 := by omega
            have g1 : q < ll.length := by have := HL.out; omega
            have g2 : q < mm.length := by have := HM.out; omega
            have h1 := hf.lt1
            have h2 := hf.lt2
            have HRR : Hid _ := HRG.out HAG.out q hf g1 g2
            obtain ⟨bx, ox, rfl, hcx⟩ := S1.out q h1
            obtain ⟨by', oy, rfl, hcy⟩ := T1.out q h2
            obtain ⟨bl, ol, al, cl, rfl, hcl, hsl⟩ := S2.out q g1
            obtain ⟨bm, om, am, cm, rfl, hcm, hsm⟩ := T2.out q g2
            have HSL : Hid (SL U al ll[q]) := hsl
            have HSM : Hid (SL U am mm[q]) := hsm
            have HL1 : Hid ((ll[q]).length ≤ 8796093022207) := HLN.out q g1
            have HL2 : Hid ((mm[q]).length ≤ 8796093022207) := HLN2.out q g2
            have HEE : Hid _ := evenB_at ll mm HEv.out q g1 g2
            have HAA : Hid _ := AG_at h1 h2 g1 g2 HAG.out
            have HNE : Hid (xs[q] ≠ ys[q]) := hf.ne
            have il2 : (q : Int) < (n : Int) := by have := HX.out; omega
            clear hsl hsm HD HA
            generalize ll[q] = L at *
            generalize mm[q] = N at *
            generalize xs[q] = x at *
            generalize ys[q] = y at *
            clear hf
            have KQ : Hid (∀ V, Below U.heap.size U V → (Below U.heap.size U V ∧ V.cell? ⟨w1.heap.size, 0, none⟩ = some (.int .i64 (S : Int)) ∧ V.cell? ⟨w1.heap.size, 1, none⟩ = some (.slice qa ql qc) ∧ V.cell? ⟨w1.heap.size, 2, none⟩ = some (.slice pa pl pc) ∧ V.cell? ⟨w.heap.size, 0, none⟩ = some (.slice (some ⟨bx, ox, none⟩) n c1) ∧ V.cell? ⟨w.heap.size, 1, none⟩ = some (.slice (some ⟨bl, ol, none⟩) n c2) ∧ V.cell? ⟨w.heap.size + 1, 0, none⟩ = some (.slice (some ⟨by', oy, none⟩) n d1) ∧ V.cell? ⟨w.heap.size + 1, 1, none⟩ = some (.slice (some ⟨bm, om, none⟩) n d2) ∧ V.cell? ⟨bl, ol + q, none⟩ = some (.slice al L.length cl) ∧ V.cell? ⟨bm, om + q, none⟩ = some (.slice am N.length cm) ∧ V.cell? ⟨bx, ox + q, none⟩ = some (.string x) ∧ V.cell? ⟨by', oy + q, none⟩ = some (.string y))) := fun V hV => by
              obtain ⟨q0, q1, q2, q3, q4, q5, q6⟩ := KC.out V hV
              exact ⟨hV, q0, q1, q2, q3, q4, q5, q6, cell_keep hcl hV, cell_keep hcm hV, cell_keep hcx hV, cell_keep hcy hV⟩
            have C7 : Hid (∀ V, Below U.heap.size U V → Calls Try.prog 7 #[.int .i64 z, .agg #[.string x, .slice al L.length cl], .agg #[.string y, .slice am N.length cm]] V fun e w' => (∃ a' c', e = .returned (.tuple #[.slice a' (exRow S M x y L N).length c', .int .i64 0]) ∧ SL w' a' (exRow S M x y L N)) ∧ Below V.heap.size V w') := fun V hV => ref7_good k HL1.out HL2.out (HSL.out.of_below hV) (HSM.out.of_below hV) HEE.out.1.symm (by have := HEE.out.2; omega) HAA.out.1 HAA.out.2.1 HAA.out.2.2.1 HAA.out.2.2.2 HNE.out
            have sB : Hid (∀ V V', Below V.heap.size V V' → Below U.heap.size U V → Below U.heap.size U V') := fun V V' h h' => h'.trans (h.mono h'.size)
            clear hcx hcy hcl hcm HSL HSM HEE HAA HNE HL1 HL2 h1 h2 g1 g2 N1 N2 J0 J1 J2 S1 S2 T1 T2 KC HR6 HR9 HRG HEv HTT HX HY HL HM HLN HLN2 HAG
            go_wp2_with fail
            go_region_held3 (fun V => Below U.heap.size U V ∧ V.cell? ⟨w1.heap.size, 0, none⟩ = some (.int .i64 (S : Int)) ∧ V.cell? ⟨w1.heap.size, 1, none⟩ = some (.slice qa ql qc) ∧ V.cell? ⟨w1.heap.size, 2, none⟩ = some (.slice pa pl pc) ∧ V.cell? ⟨w.heap.size, 0, none⟩ = some (.slice (some ⟨bx, ox, none⟩) n c1) ∧ V.cell? ⟨w.heap.size, 1, none⟩ = some (.slice (some ⟨bl, ol, none⟩) n c2) ∧ V.cell? ⟨w.heap.size + 1, 0, none⟩ = some (.slice (some ⟨by', oy, none⟩) n d1) ∧ V.cell? ⟨w.heap.size + 1, 1, none⟩ = some (.slice (some ⟨bm, om, none⟩) n d2) ∧ V.cell? ⟨bl, ol + q, none⟩ = some (.slice al L.length cl) ∧ V.cell? ⟨bm, om + q, none⟩ = some (.slice am N.length cm) ∧ V.cell? ⟨bx, ox + q, none⟩ = some (.string x) ∧ V.cell? ⟨by', oy + q, none⟩ = some (.string y))
              (first | exact KQ.out _ B.out.drew | assumption | exact KQ.out _ D1.out | fail)
              (first
                | (go_at_call 7; refine (C7.out _ B.out.drew).mono ?_; rintro e v1 ⟨⟨a7, c7, rfl, hs7⟩, hD1⟩; have D1 : Hid (Below U.heap.size U v1) := sB.out _ _ hD1 B.out.drew; have S7 : Hid (SL v1 a7 (exRow S M x y L N)) := hs7; clear hs7 hD1)
                | fail)
            go_wp2_with fail
            exact bodyPost_ret (v := .tuple #[.int .i64 (q : Int), .slice a7 (exRow S M x y L N).length c7, .int .i64 0]) (by simp [results, Try.results10, go_sem]) rfl ⟨HRR.out _ _ _ S7.out, J.out.trans ((B1.out.trans (D1.out.mono B1.out.size)).mono J.out.size)⟩

end
end Go.Proofs.Ytokkjdelomkfiaa
