/- Halves put together by a stack: the program's. -/
import Derived.Test.YteomefhjglnghaaDoorKa
set_option linter.unusedSimpArgs false
set_option linter.unusedVariables false
set_option maxRecDepth 100000
namespace Go.Proofs.YteomefhjglnghaaDoor
open Go.RowKit Go.Deep Go.PlainAid


set_option maxHeartbeats 4000000 in
theorem joined24 {w : World} {a : Option Addr} {c z : Nat} {l : List P3} (hl : l.length ≤ 1048576) (hz : z ≤ 1048576) (hA : Al 0 z l) (h32 : ∀ p ∈ l, p.2.size = 32) (h : PTL w a l) (T : TagC tgF 35 w) :
    Calls Tryd.prog 15 #[.slice a l.length c] w fun e w' => (∃ a' c', e = .returned (.slice a' (joinedL l).length c') ∧ PTL w' a' (joinedL l)) ∧ Below w.heap.size w w' := by
  have HP : Hid (PTL w a l) := h
  have HT : Hid (TagC tgF 35 w) := T
  have HA : Hid (Al 0 z l) := hA
  have H32 : Hid (∀ p ∈ l, p.2.size = 32) := h32
  obtain ⟨i0, hi0, hz0, hz1, hz2⟩ := info_parts info50
  clear h T hA h32
  go_enter Tryd.func15, Tryd.ntmps15
  go_wp2_with fail
  go_loopg [3, 5, 8] (l.length) (fun gk v3 v5 v8 wr => ∃ (i : Nat) (s : List P3), i + gk = l.length ∧ v8 = .int .i64 (i : Int) ∧ wr.ownsRow w.heap.size 46 3 v3 s.length (flat3 s.reverse) ∧ pushAll s (l.drop i) = pushAll [] l ∧ Al 0 z (s.reverse ++ l.drop i) ∧ (∀ p ∈ s, p.2.size = 32) ∧ s.length ≤ i ∧ Below w.heap.size w wr)
  case atStart => exact ⟨0, [], by omega, rfl, World.ownsRow_nil _ _ _ _, rfl, HA.out, by simp, by simp, Below.refl _ _⟩
  case round =>
    obtain ⟨i, s, hig, rfl, hO, hp, hA, h3, hsi, hB⟩ := hrel
    have B : Hid (Below w.heap.size w wr) := hB
    have O : Hid (wr.ownsRow w.heap.size 46 3 u3 s.length (flat3 s.reverse)) := hO
    have AA : Hid (Al 0 z (s.reverse ++ l.drop i)) := hA
    have PP : Hid (pushAll s (l.drop i) = pushAll [] l) := hp
    have S3 : Hid (∀ p ∈ s, p.2.size = 32) := h3
    clear hB hO hA hp h3
    by_cases hi : i < l.length
    · have il : (i : Int) < (l.length : Int) := by omega
      obtain ⟨b, o, rfl, q1, q2, q3⟩ := (HP.out.of_below B.out).three i hi
      have HD : Hid (l.drop i = l[i] :: l.drop (i + 1)) := List.drop_eq_getElem_cons hi
      have h3i : Hid (l[i].2.size = 32) := H32.out _ (List.getElem_mem hi)
      generalize l[i] = p at *
      obtain ⟨⟨p1, p2⟩, t⟩ := p
      dsimp only at q1 q2 q3 h3i
      have I4 : Hid (IHolds (wr.alloc (.cells #[.int .i64 (p1 : Int), .int .i64 (p2 : Int), .string t] 46)) wr.heap.size 46 [.int .i64 (p1 : Int), .int .i64 (p2 : Int), .string t]) := IHolds.new wr 46 [.int .i64 (p1 : Int), .int .i64 (p2 : Int), .string t]
      have B4 : Hid (Below wr.heap.size wr (wr.alloc (.cells #[.int .i64 (p1 : Int), .int .i64 (p2 : Int), .string t] 46))) := nB wr _
      obtain ⟨G, rfl⟩ : ∃ G, G = gk := ⟨gk, rfl⟩
      obtain ⟨V0, rfl⟩ : ∃ V0, V0 = wr := ⟨wr, rfl⟩
      obtain ⟨U3, rfl⟩ : ∃ U3, U3 = u3 := ⟨u3, rfl⟩
      go_wp2_with fail
      go_loopg [3] (s.length) (fun gk2 v3 wr2 => ∃ (s2 : List P3) (b2 : P3), s2.length = gk2 ∧ s2.length ≤ s.length ∧ wr2.ownsRow w.heap.size 46 3 v3 s2.length (flat3 s2.reverse) ∧ (∀ k, v3.ownBlock = some k → k < V0.heap.size) ∧ IHolds wr2 V0.heap.size 46 [.int .i64 (b2.1.1 : Int), .int .i64 (b2.1.2 : Int), .string b2.2] ∧ push s2 b2 = push s ((p1, p2), t) ∧ Al 0 z (s2.reverse ++ b2 :: l.drop (i + 1)) ∧ (∀ p ∈ s2, p.2.size = 32) ∧ b2.2.size = 32 ∧ Below w.heap.size w wr2)
      case atStart => exact ⟨s, ((p1, p2), t), rfl, Nat.le_refl _, O.out.alloc _, fun k hk => (O.out.lt k hk).2, I4.out, rfl, by have := AA.out; rw [HD.out] at this; exact this, S3.out, h3i.out, B.out.trans (B4.out.mono B.out.size)⟩
      case round =>
        obtain ⟨s2, ⟨⟨c1, c2⟩, d⟩, hsg, hss, hO2, hg2, hI2, hp2, hA2, h32', hd2, hB2⟩ := hrel
        dsimp only at hI2 hd2
        have O2 : Hid (wr.ownsRow w.heap.size 46 3 u3 s2.length (flat3 s2.reverse)) := hO2
        have G2 : Hid (∀ k, u3.ownBlock = some k → k < V0.heap.size) := hg2
        have I2 : Hid (IHolds wr V0.heap.size 46 [.int .i64 (c1 : Int), .int .i64 (c2 : Int), .string d]) := hI2
        have P2 : Hid (push s2 ((c1, c2), d) = push s ((p1, p2), t)) := hp2
        have A2 : Hid (Al 0 z (s2.reverse ++ ((c1, c2), d) :: l.drop (i + 1))) := hA2
        have S2 : Hid (∀ p ∈ s2, p.2.size = 32) := h32'
        have D2 : Hid (d.size = 32) := hd2
        have B2 : Hid (Below w.heap.size w wr) := hB2
        clear hO2 hg2 hI2 hp2 hA2 h32' hd2 hB2 q1 q2 q3
        cases s2 with
        | nil =>
          obtain ⟨a3, cp3, rfl, _⟩ := own_ptl (l := []) (n := 0) rfl O2.out
          have HN : Hid (push [] ((c1, c2), d) = [((c1, c2), d)]) := rfl
          refine wp_seq (wp_seq ?_)
          refine Code.wp_mono (Q := fun e aa ww => match e with | .normal => (?R : Act → World → Prop) aa ww | _ => False) ?next ?here
          case next =>
            intro ex aa ww hh
            cases ex with
            | normal => exact hh
            | _ => exact hh.elim
          case here =>
            refine r5_empty ?_
            intro u12 u13 u14 u15 u16 u17 u18 u19 u20 u21 u22 u23
            have OX : Hid (wr.drew.ownsRow w.heap.size 46 3 (.slice a3 0 cp3) 0 (flat3 ([] : List P3).reverse)) := O2.out
            have IX : Hid (IHolds wr.drew V0.heap.size 46 [.int .i64 (c1 : Int), .int .i64 (c2 : Int), .string d]) := I2.out
            have BX : Hid (Below w.heap.size w wr.drew) := B2.out.drew
            generalize wr.drew = X at *
            have x1 : X.cell? ⟨V0.heap.size, 0, none⟩ = some (.int .i64 (c1 : Int)) := IX.out.cell 0 (by simp)
            have x2 : X.cell? ⟨V0.heap.size, 1, none⟩ = some (.int .i64 (c2 : Int)) := IX.out.cell 1 (by simp)
            have x3 : X.cell? ⟨V0.heap.size, 2, none⟩ = some (.string d) := IX.out.cell 2 (by simp)
            have hlen : 0 ≤ 1048576 := by omega
            have hsX : w.heap.size ≤ (X.alloc (.cells #[.int .i64 (c1 : Int), .int .i64 (c2 : Int), .string d] 46)).heap.size := Nat.le_trans BX.out.size (nB X _).size
            go_wp2_with (at_builtin; refine wpList_append_own _ rfl (.tmp 38) (.tmp 40) 40 rfl w.heap.size 46 i0 (.agg #[.int .i64 0, .int .i64 0, .string ⟨#[]⟩]) 3 32 Tryd.underlying40 hi0 hz0 hz1 hz2 rfl (by decide) (.slice a3 0 cp3) 0 (flat3 ([] : List P3).reverse) rfl (OX.out.alloc (.cells #[.int .i64 (c1 : Int), .int .i64 (c2 : Int), .string d] 46)) ⟨X.heap.size, 0, none⟩ 1 1 [.int .i64 (c1 : Int), .int .i64 (c2 : Int), .string d] rfl rfl (three_news X _ _ _) (fun u hu => by simp at hu; rcases hu with rfl | rfl | rfl <;> rfl) (by unfold maxLen; omega) (by omega) hsX ?_; intro v5 w5 hown hgrow hn; have O5 : Hid (w5.ownsRow w.heap.size 46 3 v5 (0 + 1) (flat3 ([] : List P3).reverse ++ [.int .i64 (c1 : Int), .int .i64 (c2 : Int), .string d])) := hown; have B5 : Hid (Below w.heap.size w w5) := (BX.out.trans ((nB X (.cells #[.int .i64 (c1 : Int), .int .i64 (c2 : Int), .string d] 46)).mono BX.out.size)).grown hgrow hsX (fun k hk => ((OX.out.alloc (.cells #[.int .i64 (c1 : Int), .int .i64 (c2 : Int), .string d] 46)).lt k hk).1); clear hown hgrow hn)
            go_roundg (G - 1)
            case measure => omega
            case rel =>
              refine ⟨i + 1, ((c1, c2), d) :: ([] : List P3), by omega, by go_num, by rw [flat3_rev]; exact O5.out, ?_, ?_, ?_, by simp only [List.length_cons, List.length_nil]; simp only [List.length_cons, List.length_nil] at hss; omega, B5.out⟩
              · rw [← PP.out, HD.out, pushAll, ← P2.out, HN.out]
              · rw [List.reverse_cons, List.append_assoc]; exact A2.out
              · intro p hp
                rcases List.mem_cons.1 hp with rfl | hp
                · exact D2.out
                · exact S2.out p hp
        | cons e s2 =>
          obtain ⟨g, cap, rfl, k1, k2, t1, t2, t3, hpop⟩ := row_top O2.out
          obtain ⟨⟨e1, e2⟩, f⟩ := e
          dsimp only at t1 t2 t3
          have hA3 : Al 0 z (s2.reverse ++ ((e1, e2), f) :: ((c1, c2), d) :: l.drop (i + 1)) := by
            have := A2.out
            rw [List.reverse_cons, List.append_assoc] at this
            exact this
          have A3 : Hid _ := hA3
          obtain ⟨⟨ka, hka, _⟩, ⟨kb, hkb⟩, hab, hbz⟩ := hA3.two
          dsimp only at hka hkb hab hbz
          have p1' := Nat.two_pow_pos ka
          have p2' := Nat.two_pow_pos kb
          have hf32 : f.size = 32 := S2.out ((e1, e2), f) (by simp)
          obtain ⟨hb, hhb⟩ : ∃ hb, half ((e1, e2), f) ((c1, c2), d) = hb := ⟨_, rfl⟩
          have C38 : ∀ V, Calls Tryd.prog 31 #[.agg #[.int .i64 (e1 : Int), .int .i64 (e2 : Int), .string f], .agg #[.int .i64 (c1 : Int), .int .i64 (c2 : Int), .string d]] V fun e w' => e = .returned (.bool hb) ∧ Below V.heap.size V w' := fun V => by
            have q := half38 (w := V) ((e1, e2), f) ((c1, c2), d) (by show e1 < e2; omega) (by show e2 ≤ 1048576; omega) (by show c1 < c2; omega) (by show c2 ≤ 1048576; omega)
            rw [hhb] at q
            exact q
          have C39 : Hid (∀ V, Below w.heap.size w V → Calls Tryd.prog 32 #[.agg #[.int .i64 (e1 : Int), .int .i64 (e2 : Int), .string f], .agg #[.int .i64 (c1 : Int), .int .i64 (c2 : Int), .string d]] V fun e w' => e = .returned (.agg #[.int .i64 (e1 : Int), .int .i64 (c2 : Int), .string (tgF lBlock [f, d])]) ∧ Below V.heap.size V w') := fun V hV => with39 (HT.out.of hV) ((e1, e2), f) ((c1, c2), d) hf32 D2.out
          have hgV : g < V0.heap.size := G2.out g rfl
          have hlen2 : s2.length + 1 ≤ 1048576 := by simp only [List.length_cons] at hss; omega
          have POP : Hid (wr.ownsRow w.heap.size 46 3 (.slice (some ⟨g, 0, none⟩) s2.length cap) s2.length (flat3 s2.reverse)) := hpop
          clear hpop hA3 hka hkb hab p1' p2'
          refine wp_seq (wp_seq ?_)
          refine Code.wp_mono (Q := fun e aa ww => match e with | .normal => (?R : Act → World → Prop) aa ww | _ => False) ?next ?here
          case next =>
            intro ex aa ww hh
            cases ex with
            | normal => exact hh
            | _ => exact hh.elim
          case here =>
            refine r5_top (hb := hb) (n := s2.length) (by omega) (by omega) (by omega) hlen2 t1 t2 t3 (I2.out.cell 0 (by simp)) (I2.out.cell 1 (by simp)) (I2.out.cell 2 (by simp)) C38 ?_
            intro X u12 u13 u14 u15 u16 u17 u18 u19 u20 u21 u22 u23 hX
            have HX : Hid (Below wr.heap.size wr X) := hX
            have OX : Hid (X.ownsRow w.heap.size 46 3 (.slice (some ⟨g, 0, none⟩) (s2.length + 1) cap) (s2.length + 1) (flat3 (((e1, e2), f) :: s2).reverse)) := row_keep O2.out hX
            have IX : Hid (IHolds X V0.heap.size 46 [.int .i64 (c1 : Int), .int .i64 (c2 : Int), .string d]) := I2.out.of_below hX
            have BX : Hid (Below w.heap.size w X) := B2.out.trans (hX.mono B2.out.size)
            clear hX C38
            cases hb with
            | false =>
              have HN : Hid (push (((e1, e2), f) :: s2) ((c1, c2), d) = ((c1, c2), d) :: ((e1, e2), f) :: s2) := by
                show _ = _
                rw [push, hhb]
                rfl
              clear t1 t2 t3 hhb
              have x1 : X.cell? ⟨V0.heap.size, 0, none⟩ = some (.int .i64 (c1 : Int)) := IX.out.cell 0 (by simp)
              have x2 : X.cell? ⟨V0.heap.size, 1, none⟩ = some (.int .i64 (c2 : Int)) := IX.out.cell 1 (by simp)
              have x3 : X.cell? ⟨V0.heap.size, 2, none⟩ = some (.string d) := IX.out.cell 2 (by simp)
              have hlen : (s2.length + 1) ≤ 1048576 := by omega
              have hsX : w.heap.size ≤ (X.alloc (.cells #[.int .i64 (c1 : Int), .int .i64 (c2 : Int), .string d] 46)).heap.size := Nat.le_trans BX.out.size (nB X _).size
              go_wp2_with (at_builtin; refine wpList_append_own _ rfl (.tmp 38) (.tmp 40) 40 rfl w.heap.size 46 i0 (.agg #[.int .i64 0, .int .i64 0, .string ⟨#[]⟩]) 3 32 Tryd.underlying40 hi0 hz0 hz1 hz2 rfl (by decide) (.slice (some ⟨g, 0, none⟩) (s2.length + 1) cap) (s2.length + 1) (flat3 (((e1, e2), f) :: s2).reverse) rfl (OX.out.alloc (.cells #[.int .i64 (c1 : Int), .int .i64 (c2 : Int), .string d] 46)) ⟨X.heap.size, 0, none⟩ 1 1 [.int .i64 (c1 : Int), .int .i64 (c2 : Int), .string d] rfl rfl (three_news X _ _ _) (fun u hu => by simp at hu; rcases hu with rfl | rfl | rfl <;> rfl) (by unfold maxLen; omega) (by omega) hsX ?_; intro v5 w5 hown hgrow hn; have O5 : Hid (w5.ownsRow w.heap.size 46 3 v5 ((s2.length + 1) + 1) (flat3 (((e1, e2), f) :: s2).reverse ++ [.int .i64 (c1 : Int), .int .i64 (c2 : Int), .string d])) := hown; have B5 : Hid (Below w.heap.size w w5) := (BX.out.trans ((nB X (.cells #[.int .i64 (c1 : Int), .int .i64 (c2 : Int), .string d] 46)).mono BX.out.size)).grown hgrow hsX (fun k hk => ((OX.out.alloc (.cells #[.int .i64 (c1 : Int), .int .i64 (c2 : Int), .string d] 46)).lt k hk).1); clear hown hgrow hn)
              go_roundg (G - 1)
              case measure => omega
              case rel =>
                refine ⟨i + 1, ((c1, c2), d) :: (((e1, e2), f) :: s2), by omega, by go_num, by rw [flat3_rev]; exact O5.out, ?_, ?_, ?_, by simp only [List.length_cons, List.length_nil]; simp only [List.length_cons, List.length_nil] at hss; omega, B5.out⟩
                · rw [← PP.out, HD.out, pushAll, ← P2.out, HN.out]
                · rw [List.reverse_cons, List.append_assoc]; exact A2.out
                · intro p hp
                  rcases List.mem_cons.1 hp with rfl | hp
                  · exact D2.out
                  · exact S2.out p hp
            | true =>
              have y1 := cell_keep t1 HX.out
              have y2 := cell_keep t2 HX.out
              have y3 := cell_keep t3 HX.out
              have HH : Hid _ := hhb
              clear t1 t2 t3 hhb
              go_wp2_with fail
              refine Code.wp_mono (Q := fun e aa ww => match e with | .normal => (?R2 : Act → World → Prop) aa ww | _ => False) ?next2 ?here2
              case next2 =>
                intro ex aa ww hh
                cases ex with
                | normal => exact hh
                | _ => exact hh.elim
              case here2 =>
                refine r6_top (n := s2.length) (D := tgF lBlock [f, d]) (by omega) (by omega) (by omega) hlen2 (by omega) y1 y2 y3 IX.out (fun V hV => C39.out V (BX.out.trans (hV.mono BX.out.size))) ?_
                intro V u25 u26 u27 u28 u29 u30 u31 u32 hV
                have HV : Hid (Below X.heap.size X V) := hV
                clear hV y1 y2 y3
                have m1 : ((s2.length + 1 : Nat) : Int) - 1 = (s2.length : Int) := by omega
                have m2 : (s2.length : Int) ≤ (cap : Int) := by omega
                go_wp2_with fail
                go_roundg (gk - 1)
                case measure => simp only [List.length_cons] at hsg; omega
                case rel =>
                  have hw0 := B.out.size
                  refine ⟨s2, join2 ((e1, e2), f) ((c1, c2), d), by simp only [List.length_cons] at hsg; omega, by simp only [List.length_cons] at hss; omega, ?_, fun k hk => (by cases hk; exact hgV), (((IX.out.of_below HV.out).set 0 _).set 1 _).set 2 _, ?_, A3.out.join HH.out, fun p hp => S2.out p (by simp [hp]), tgF_size _ _, ?_⟩
                  · refine row_same (row_keep (row_keep POP.out HX.out) HV.out) (fun k hk => ?_)
                    cases hk
                    exact (Below.heap_setCell _ _ _ _ (show g ≠ V0.heap.size by omega)).trans ((Below.heap_setCell _ _ _ _ (show g ≠ V0.heap.size by omega)).trans (Below.heap_setCell _ _ _ _ (show g ≠ V0.heap.size by omega)))
                  · have := P2.out
                    rw [push, if_pos HH.out] at this
                    exact this
                  · exact (((BX.out.trans (HV.out.mono BX.out.size)).setCell (p := ⟨V0.heap.size, 0, none⟩) hw0 _).setCell (p := ⟨V0.heap.size, 1, none⟩) hw0 _).setCell (p := ⟨V0.heap.size, 2, none⟩) hw0 _
    · have il : ¬ (i : Int) < (l.length : Int) := by omega
      have e0 : l.drop i = [] := List.drop_of_length_le (by omega)
      have hj : joinedL l = s.reverse := by
        unfold joinedL
        rw [← PP.out, e0]
        rfl
      obtain ⟨a5, c5, e5, s5⟩ := own_ptl (n := s.length) (by simp) O.out
      subst e5
      have S5 : Hid (PTL wr a5 s.reverse) := s5
      have HJ : Hid _ := hj
      clear s5 hj e0
      go_wp2_with fail
      go_ret
      rw [HJ.out, List.length_reverse]
      exact ⟨⟨_, ⟨_, rfl⟩, S5.out⟩, B.out⟩
end Go.Proofs.YteomefhjglnghaaDoor
