/- The walk of the reference's Stir: step by step, the same words as ten rounds give. -/
import Derived.Test.YteomefhjglnghaaDoorFRefSteps
import Derived.StillTailTactics
set_option linter.unusedSimpArgs false
set_option linter.unusedVariables false
set_option maxRecDepth 100000
namespace Go.Proofs.YteomefhjglnghaaDoor.F
open Go.RowKit

theorem mixed : Tryd.prog.follows .mixedOrders = true := by kernel_rfl

/-- A slice of steps: where it lies. -/
theorem own_steps {w : World} {base : Nat} {v : Value} (h : w.ownsRow base 90 4 v 640 (stpCs (stpAll 10))) :
    ∃ g cap, v = .slice (some ⟨g, 0, none⟩) 640 cap ∧ base ≤ g ∧ g < w.heap.size ∧ ∀ (k : Nat) (hk : k < (stpAll 10).length) (j : Nat) (u : Value), (stpC (stpAll 10)[k])[j]? = some u → w.cell? ⟨g, k * 4 + j, none⟩ = some u := by
  rcases h.2 with ⟨_, h0⟩ | ⟨g, cap, cur, hv, hb, hg, _, _, _, ht⟩
  · omega
  · refine ⟨g, cap, hv, hb, (Array.getElem?_eq_some_iff.1 hg).1, fun k hk j u hu => ?_⟩
    have hj : j < 4 := by
      have := (List.getElem?_eq_some_iff.1 hu).1
      simpa [stpC] using this
    have h1 := stpCs_get (stpAll 10) k hk j hj
    rw [hu, ← ht] at h1
    have hl := stpAll_length 10
    rw [List.getElem?_take, if_pos (by omega)] at h1
    simp only [World.cell?, hg]
    simpa using h1

set_option maxRecDepth 100000 in
set_option maxHeartbeats 1000000 in
theorem refStir_any (l m : List UInt32) (hl : l.length = 16) (hm : m.length = 16) (w : World) :
    Calls Tryd.prog 43 #[.agg (arr l), .agg (arr m)] w fun e w' => e = .returned (.agg (arr (stirs m 10 l))) ∧ Below w.heap.size w w' := by
  have s1 := arr_size
  go_enter Tryd.func43, Tryd.ntmps43
  go_wp2_with fail
  obtain ⟨w2, hw2⟩ : ∃ w2, w2 = ((w.alloc (Obj.cells (arr l) 74)).alloc (Obj.cells (arr m) 74)).alloc (Obj.cells (arr (List.replicate 16 0)) 74) := ⟨_, rfl⟩
  have a1 : Holds w2 w.heap.size 74 l := by rw [hw2]; exact ((Holds.new w 74 l).alloc _).alloc _
  have a2 : Holds w2 (w.heap.size + 1) 74 m := by rw [hw2]; have := Holds.new (w.alloc (Obj.cells (arr l) 74)) 74 m; rw [World.size_alloc] at this; exact this.alloc _
  have a3 : Holds w2 (w.heap.size + 1 + 1) 74 (List.replicate 16 0) := by rw [hw2]; have := Holds.new ((w.alloc (Obj.cells (arr l) 74)).alloc (Obj.cells (arr m) 74)) 74 (List.replicate 16 0); rw [World.size_alloc, World.size_alloc] at this; exact this
  have a4 : Hid (Below w.heap.size w w2) := by rw [hw2]; exact (((Below.refl _ w).alloc (Nat.le_refl _) _).alloc (by simp) _).alloc (by simp; omega) _
  have a5 : Hid (w.heap.size + 3 = w2.heap.size) := by rw [hw2]; simp [Hid]
  change Calls _ _ _ (((w.alloc (Obj.cells (arr l) 74)).alloc (Obj.cells (arr m) 74)).alloc (Obj.cells (arr (List.replicate 16 0)) 74)) _
  rw [← hw2]
  clear hw2
  refine (steps_any w2).mono ?_
  rintro e ws ⟨v, rfl, hbs, hos⟩
  obtain ⟨g, cap, rfl, hg1, hg2, hcs⟩ := own_steps hos
  have hcs' : Hid (∀ (k : Nat) (hk : k < (stpAll 10).length) (j : Nat) (u : Value), (stpC (stpAll 10)[k])[j]? = some u → ws.cell? ⟨g, k * 4 + j, none⟩ = some u) := hcs
  have b1 : Holds ws w.heap.size 74 l := by unfold Holds; rw [hbs.block _ a1.lt]; exact a1
  have b2 : Holds ws (w.heap.size + 1) 74 m := by unfold Holds; rw [hbs.block _ a2.lt]; exact a2
  have b3 : Holds ws (w.heap.size + 1 + 1) 74 (List.replicate 16 0) := by unfold Holds; rw [hbs.block _ a3.lt]; exact a3
  have b4 : Hid (Below w.heap.size w ws) := a4.out.trans (hbs.mono a4.out.size)
  have b5 : Hid (w.heap.size + 3 ≤ g) := by have := a5.out; show _ ≤ _; omega
  have b6 : Hid (g < ws.heap.size) := hg2
  have hlen : Hid ((stpAll 10).length = 640) := stpAll_length 10
  have hokS : Hid (∀ s ∈ stpAll 10, s.ok) := stpAll_ok 10 (by omega)
  have hfin : Hid ((stpAll 10).foldl (app m) l = stirs m 10 l) := appAll m l hl 10
  generalize stpAll 10 = SS at *
  clear hcs hg1 hg2 hos hbs a1 a2 a3 a4 a5
  go_wp2_with fail
  go_loopg [9] 640 (fun kk v9 wr => ∃ k : Nat, k + kk = 640 ∧ v9 = .int .i64 k ∧ Holds wr w.heap.size 74 ((SS.take k).foldl (app m) l) ∧ But w.heap.size ws wr)
  case atStart => exact ⟨0, rfl, rfl, b1, But.refl _ _⟩
  case round =>
    obtain ⟨k, hk, rfl, hv, hb⟩ := hrel
    by_cases hlt : k < 640
    · have hk640 : (k : Int) < 640 := by omega
      have hkl : k < SS.length := by rw [hlen.out]; exact hlt
      have hLl : ((SS.take k).foldl (app m) l).length = 16 := by rw [foldl_app_length, hl]
      have hnext : Hid ((SS.take (k + 1)).foldl (app m) l = app m ((SS.take k).foldl (app m) l) SS[k]) := by
        show _ = _
        rw [List.take_succ_eq_append_getElem hkl, List.foldl_append]; rfl
      have hok := hokS.out SS[k] (List.getElem_mem hkl)
      have hcell := hcs'.out k hkl
      have hgB : g ≠ w.heap.size := by have := b5.out; omega
      have c0 : wr.cell? ⟨g, k * 4, none⟩ = some (.int .i64 (SS[k].at_ : Int)) := by rw [hb.cell b6.out hgB]; exact hcell 0 _ rfl
      have c1 : wr.cell? ⟨g, k * 4 + 1, none⟩ = some (.int .i64 (SS[k].other : Int)) := by rw [hb.cell b6.out hgB]; exact hcell 1 _ rfl
      have c2 : wr.cell? ⟨g, k * 4 + 2, none⟩ = some (.int .i64 SS[k].more) := by rw [hb.cell b6.out hgB]; exact hcell 2 _ rfl
      have c3 : wr.cell? ⟨g, k * 4 + 3, none⟩ = some (.int .i64 (SS[k].turn : Int)) := by rw [hb.cell b6.out hgB]; exact hcell 3 _ rfl
      clear hcell
      generalize (SS.take k).foldl (app m) l = L at *
      generalize SS[k] = s at *
      obtain ⟨at_, other, more, turn⟩ := s
      simp only at c0 c1 c2 c3
      obtain ⟨o1, o2, o3, o4, o5⟩ := hok
      simp only at o1 o2 o3 o4 o5
      by_cases ht : 0 < turn
      · have ht' : (0 : Int) < (turn : Int) := by omega
        go_wp2_with fail
        generalize hW : World.alloc wr _ = W
        have hd : Hid (Holds W w.heap.size 74 L) := by rw [← hW]; exact hv.alloc _
        have hbW : Hid (But w.heap.size ws W) := by rw [← hW]; exact hb.alloc _
        have hzW : Hid (wr.heap.size < W.heap.size) := by show _ < _; rw [← hW]; simp
        have hne : Hid (wr.heap.size ≠ w.heap.size) := by have := hv.lt; show ¬ _; omega
        have z0 : W.cell? ⟨wr.heap.size, 0, none⟩ = some (.int .i64 (at_ : Int)) := by rw [← hW]; simp
        have z1 : W.cell? ⟨wr.heap.size, 1, none⟩ = some (.int .i64 (other : Int)) := by rw [← hW]; simp
        have z2 : W.cell? ⟨wr.heap.size, 2, none⟩ = some (.int .i64 more) := by rw [← hW]; simp
        have z3 : W.cell? ⟨wr.heap.size, 3, none⟩ = some (.int .i64 (turn : Int)) := by rw [← hW]; simp
        have va : W.cell? ⟨w.heap.size, at_, none⟩ = some (U (L.getD at_ 0)) := hd.out.cell at_ (by omega)
        have vo : W.cell? ⟨w.heap.size, other, none⟩ = some (U (L.getD other 0)) := hd.out.cell other (by omega)
        have fa : W.frozen? ⟨w.heap.size, at_, none⟩ = false := hd.out.frozen at_
        have i1 : (at_ : Int) < 16 := by omega
        have i2 : (other : Int) < 16 := by omega
        clear hW c0 c1 c2 c3
        have hx := xor_u
        generalize hA : L.getD at_ 0 = A at *
        generalize hO : L.getD other 0 = O at *
        have HA : Hid (L.getD at_ 0 = A) := hA
        have HO : Hid (L.getD other 0 = O) := hO
        clear hA hO
        refine wp_region_still_tail 14 mixed (by kernel_rfl) ?_
        simp only [List.take_succ_cons, List.take_zero, List.drop_succ_cons, List.drop_zero]
        show wpStill _ _ W.drew _ _ _
        repeat still_step
        still_call (right_any _ _ (by omega) _)
        try refine wpStill_nil ?_
        go_wp2_with fail
        go_roundg (gk - 1)
        case measure => omega
        case rel =>
          refine ⟨k + 1, by omega, by go_num, ?_, (hbW.out.drew).setCell _ _⟩
          rw [hnext.out]
          simp only [app, ht, if_true]
          rw [HA.out, HO.out]
          exact (show Holds W.drew w.heap.size 74 L from hd.out).set _ _
      · have ht' : ¬ (0 : Int) < (turn : Int) := by omega
        have hadd := add_u
        by_cases hmo : 0 ≤ more
        · have hmo' := hmo
          go_wp2_with fail
          generalize hW : World.alloc wr _ = W
          have hd : Hid (Holds W w.heap.size 74 L) := by rw [← hW]; exact hv.alloc _
          have hbW : Hid (But w.heap.size ws W) := by rw [← hW]; exact hb.alloc _
          have hzW : Hid (wr.heap.size < W.heap.size) := by show _ < _; rw [← hW]; simp
          have hne : Hid (wr.heap.size ≠ w.heap.size) := by have := hv.lt; show ¬ _; omega
          have z0 : W.cell? ⟨wr.heap.size, 0, none⟩ = some (.int .i64 (at_ : Int)) := by rw [← hW]; simp
          have z1 : W.cell? ⟨wr.heap.size, 1, none⟩ = some (.int .i64 (other : Int)) := by rw [← hW]; simp
          have z2 : W.cell? ⟨wr.heap.size, 2, none⟩ = some (.int .i64 more) := by rw [← hW]; simp
          have z3 : W.cell? ⟨wr.heap.size, 3, none⟩ = some (.int .i64 (turn : Int)) := by rw [← hW]; simp
          have va : W.cell? ⟨w.heap.size, at_, none⟩ = some (U (L.getD at_ 0)) := hd.out.cell at_ (by omega)
          have vo : W.cell? ⟨w.heap.size, other, none⟩ = some (U (L.getD other 0)) := hd.out.cell other (by omega)
          have fa : W.frozen? ⟨w.heap.size, at_, none⟩ = false := hd.out.frozen at_
          have i1 : (at_ : Int) < 16 := by omega
          have i2 : (other : Int) < 16 := by omega
          clear hW c0 c1 c2 c3
          generalize hA : L.getD at_ 0 = A at *
          generalize hO : L.getD other 0 = O at *
          have HA : Hid (L.getD at_ 0 = A) := hA
          have HO : Hid (L.getD other 0 = O) := hO
          clear hA hO
          refine wp_region_still_tail 11 mixed (by kernel_rfl) ?_
          simp only [List.take_succ_cons, List.take_zero, List.drop_succ_cons, List.drop_zero]
          show wpStill _ _ W.drew _ _ _
          repeat still_step
          refine wpStill_nil ?_
          have hne1 : ¬ w.heap.size = wr.heap.size := fun h => hne.out h.symm
          have hne2 : ¬ wr.heap.size = w.heap.size := hne.out
          have i3 : more < 16 := o3
          have hmW : Hid (Holds W (w.heap.size + 1) 74 m) := hbW.out.holds b2 (by omega)
          have mm : W.cell? ⟨w.heap.size + 1, more.toNat, none⟩ = some (U (m.getD more.toNat 0)) := hmW.out.cell _ (by omega)
          go_wp2_with fail
          generalize hW1 : World.drew (W.setCell _ _) = W1
          have hd1 : Hid (Holds W1 w.heap.size 74 (L.set at_ (uadd A O))) := by rw [← hW1]; exact hd.out.set _ _
          have hb1 : Hid (But w.heap.size ws W1) := by rw [← hW1]; exact (hbW.out.setCell _ _).drew
          have y0 : W1.cell? ⟨wr.heap.size, 0, none⟩ = some (.int .i64 (at_ : Int)) := by rw [← hW1]; simp [World.cell?_setCell_other, hne1, z0]
          have y2 : W1.cell? ⟨wr.heap.size, 2, none⟩ = some (.int .i64 more) := by rw [← hW1]; simp [World.cell?_setCell_other, hne1, z2]
          have ya : W1.cell? ⟨w.heap.size, at_, none⟩ = some (U (uadd A O)) := by
            have := hd1.out.cell at_ (by simp; omega)
            rw [getD_set_self _ _ _ (by omega)] at this
            exact this
          have yf : W1.frozen? ⟨w.heap.size, at_, none⟩ = false := hd1.out.frozen at_
          have ym : W1.cell? ⟨w.heap.size + 1, more.toNat, none⟩ = some (U (m.getD more.toNat 0)) := (hb1.out.holds b2 (by omega)).cell _ (by omega)
          clear hW1 z0 z1 z2 z3 va vo fa mm
          generalize hMm : m.getD more.toNat 0 = M at *
          have HM : Hid (m.getD more.toNat 0 = M) := hMm
          clear hMm
          refine wp_region_still_tail 11 mixed (by kernel_rfl) ?_
          simp only [List.take_succ_cons, List.take_zero, List.drop_succ_cons, List.drop_zero]
          show wpStill _ _ W1.drew _ _ _
          repeat still_step
          refine wpStill_nil ?_
          go_wp2_with fail
          go_roundg (gk - 1)
          case measure => omega
          case rel =>
            refine ⟨k + 1, by omega, by go_num, ?_, (hb1.out.drew).setCell _ _⟩
            rw [hnext.out]
            simp only [app, if_neg ht, if_pos hmo]
            rw [HA.out, HO.out, HM.out, getD_set_self _ _ _ (by omega)]
            exact (show Holds W1.drew w.heap.size 74 _ from hd1.out).set _ _
        · have hmo' : ¬ 0 ≤ more := hmo
          go_wp2_with fail
          generalize hW : World.alloc wr _ = W
          have hd : Hid (Holds W w.heap.size 74 L) := by rw [← hW]; exact hv.alloc _
          have hbW : Hid (But w.heap.size ws W) := by rw [← hW]; exact hb.alloc _
          have hzW : Hid (wr.heap.size < W.heap.size) := by show _ < _; rw [← hW]; simp
          have hne : Hid (wr.heap.size ≠ w.heap.size) := by have := hv.lt; show ¬ _; omega
          have z0 : W.cell? ⟨wr.heap.size, 0, none⟩ = some (.int .i64 (at_ : Int)) := by rw [← hW]; simp
          have z1 : W.cell? ⟨wr.heap.size, 1, none⟩ = some (.int .i64 (other : Int)) := by rw [← hW]; simp
          have z2 : W.cell? ⟨wr.heap.size, 2, none⟩ = some (.int .i64 more) := by rw [← hW]; simp
          have z3 : W.cell? ⟨wr.heap.size, 3, none⟩ = some (.int .i64 (turn : Int)) := by rw [← hW]; simp
          have va : W.cell? ⟨w.heap.size, at_, none⟩ = some (U (L.getD at_ 0)) := hd.out.cell at_ (by omega)
          have vo : W.cell? ⟨w.heap.size, other, none⟩ = some (U (L.getD other 0)) := hd.out.cell other (by omega)
          have fa : W.frozen? ⟨w.heap.size, at_, none⟩ = false := hd.out.frozen at_
          have i1 : (at_ : Int) < 16 := by omega
          have i2 : (other : Int) < 16 := by omega
          clear hW c0 c1 c2 c3
          generalize hA : L.getD at_ 0 = A at *
          generalize hO : L.getD other 0 = O at *
          have HA : Hid (L.getD at_ 0 = A) := hA
          have HO : Hid (L.getD other 0 = O) := hO
          clear hA hO
          refine wp_region_still_tail 11 mixed (by kernel_rfl) ?_
          simp only [List.take_succ_cons, List.take_zero, List.drop_succ_cons, List.drop_zero]
          show wpStill _ _ W.drew _ _ _
          repeat still_step
          refine wpStill_nil ?_
          have hne1 : ¬ w.heap.size = wr.heap.size := fun h => hne.out h.symm
          have hne2 : ¬ wr.heap.size = w.heap.size := hne.out
          go_wp2_with fail
          go_roundg (gk - 1)
          case measure => omega
          case rel =>
            refine ⟨k + 1, by omega, by go_num, ?_, (hbW.out.drew).setCell _ _⟩
            rw [hnext.out]
            simp only [app, if_neg ht, if_neg (show ¬ 0 ≤ more by omega)]
            rw [HA.out, HO.out]
            exact (show Holds W.drew w.heap.size 74 L from hd.out).set _ _
    · have hrd : Hid (k = 640) := by show k = 640; omega
      have hLl : ((SS.take k).foldl (app m) l).length = 16 := by rw [foldl_app_length, hl]
      generalize hLd : (SS.take k).foldl (app m) l = L at *
      have HL : Hid ((SS.take k).foldl (app m) l = L) := hLd
      clear hLd
      have hrg := hv.range
      have h3 := hb.holds b3 (by omega)
      have hth : wr.there (w.heap.size + 1 + 1) 0 (L.map U).toArray.size := by
        intro j hj
        rw [List.size_toArray, List.length_map, hLl] at hj
        rw [Nat.zero_add, h3.cell j (by simpa using hj), h3.frozen]
        exact ⟨rfl, rfl⟩
      have hi23 : (Tryd.prog.info? 74).map (·.size) = some (L.map U).length := by rw [size23, List.length_map, hLl]
      have hi23' : (Tryd.prog.info? 74).map (·.size) = some (L.map U).toArray.size := by rw [size23, List.size_toArray, List.length_map, hLl]
      have h1c := arr_one L
      generalize hAd : L.map U = A at *
      have HA : Hid (L.map U = A) := hAd
      clear hAd
      have h1c' : A.toArray.all (·.oneCell') = true := by rw [← HA.out]; exact h1c
      clear h1c hLl
      go_wp2_with (first
        | (refine wpList_load_mid rfl 74 (.tmp 2) rfl w.heap.size 0 rfl A _ hrg Tryd.underlying74 rfl hi23 ?_)
        | (refine wpList_store_mid rfl 74 (.tmp 4) (.tmp 59) rfl (w.heap.size + 1 + 1) 0 A.toArray rfl rfl hth hi23' h1c' ?_))
      refine bodyPost_ret (v := .agg A.toArray) (results_cell Tryd.results43 _ _ (w.heap.size + 1 + 1) 0 A _ rfl (World.rangeAt_setCells_same _ _ _ _ (by simpa using hth)) Tryd.underlying74 rfl hi23) rfl ⟨?_, ?_⟩
      · rw [← HA.out, ← HL.out, hrd.out, List.take_of_length_le (by rw [hlen.out]; exact Nat.le_refl _), hfin.out]; rfl
      · exact Below.setNews (by omega) _ _ _ (b4.out.trans (hb.below b4.out.size (Nat.le_refl _)))
end Go.Proofs.YteomefhjglnghaaDoor.F
