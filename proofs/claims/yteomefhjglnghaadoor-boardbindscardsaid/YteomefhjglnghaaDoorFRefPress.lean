/- The walk of the reference's Press: the same words. -/
import Derived.Test.YteomefhjglnghaaDoorFPress
import Derived.Test.YteomefhjglnghaaDoorFRefStir
set_option linter.unusedSimpArgs false
set_option linter.unusedVariables false
set_option maxRecDepth 100000
namespace Go.Proofs.YteomefhjglnghaaDoor.F
open Go.RowKit

abbrev staV : List Value := [.int .u32 1779033703, .int .u32 3144134277, .int .u32 1013904242, .int .u32 2773480762, .int .u32 1359893119, .int .u32 2600822924, .int .u32 528734635, .int .u32 1541459225]
theorem staV_eq : arr staL = staV.toArray := by kernel_rfl
theorem range_new (w : World) (cs : List Value) (t : TypeId) : (w.alloc (.cells cs.toArray t)).rangeAt w.heap.size 0 cs := by
  intro j v hv
  rw [Nat.zero_add, World.cell?_alloc_new]
  simpa using hv
set_option maxHeartbeats 400000 in
theorem refStart_any (w : World) : Calls Tryd.prog 37 #[] w fun e w' => e = .returned (.agg (arr staL)) ∧ Below w.heap.size w w' := by
  rw [staV_eq]
  go_enter Tryd.func37, Tryd.ntmps37
  go_wp2_with fail
  refine bodyPost_ret (v := .agg staV.toArray) (results_cell Tryd.results37 _ _ w.heap.size 0 staV _ rfl (range_new w staV 72) Tryd.underlying72 rfl size27) rfl ⟨rfl, ?_⟩
  exact (Below.refl _ w).alloc (Nat.le_refl _) _

theorem xor_lo3 (x : UInt32) (n : Nat) : bits .xor .u32 (x.toNat : Int) (IntKind.u32.wrap ((n : Int) % 4294967296)) = ((uxor x (loU n)).toNat : Int) := by
  have e : IntKind.u32.wrap ((n : Int) % 4294967296) = ((loU n).toNat : Int) := by rw [loU_toNat, IntKind.wrap_u32]; omega
  rw [e, xor_u]
theorem xor_hi3 (x : UInt32) (n : Nat) (h : n < 18446744073709551616) : bits .xor .u32 (x.toNat : Int) (IntKind.u32.wrap ((n : Int) / 4294967296)) = ((uxor x (hiU n)).toNat : Int) := by
  have e : IntKind.u32.wrap ((n : Int) / 4294967296) = ((hiU n).toNat : Int) := by rw [hiU_toNat n h, IntKind.wrap_u32]; omega
  rw [e, xor_u]
theorem not_s (x : UInt32) : (4294967295 - (x.toNat : Int)) % 4294967296 = ((unot x).toNat : Int) := by
  have := ult x
  rw [unot_toNat]; omega

set_option maxRecDepth 100000 in
set_option maxHeartbeats 2000000 in
theorem refPress_false (h m : List UInt32) (hh : h.length = 8) (hm : m.length = 16) (n : Nat) (hn : n < 18446744073709551616) (w : World) :
    Calls Tryd.prog 39 #[.agg (arr h), .agg (arr m), .int .u64 (n : Int), .bool false] w fun e w' => e = .returned (.agg (arr (pressL h m n false))) ∧ Below w.heap.size w w' := by
  have s1 := arr_size
  go_enter Tryd.func39, Tryd.ntmps39
  go_wp2_with fail
  obtain ⟨w2, hw2⟩ : ∃ w2, w2 = (((w.alloc (Obj.cells (arr h) 72)).alloc (Obj.cells (arr m) 74)).alloc (Obj.cells (arr (List.replicate 8 0)) 72)).alloc (Obj.cells (arr (List.replicate 16 0)) 74) := ⟨_, rfl⟩
  have a1 : Holds w2 w.heap.size 72 h := by rw [hw2]; exact (((Holds.new w 72 h).alloc _).alloc _).alloc _
  have a2 : Holds w2 (w.heap.size + 1) 74 m := by rw [hw2]; have := Holds.new (w.alloc (Obj.cells (arr h) 72)) 74 m; rw [World.size_alloc] at this; exact (this.alloc _).alloc _
  have a3 : Holds w2 (w.heap.size + 1 + 1) 72 (List.replicate 8 0) := by rw [hw2]; have := Holds.new ((w.alloc (Obj.cells (arr h) 72)).alloc (Obj.cells (arr m) 74)) 72 (List.replicate 8 0); rw [World.size_alloc, World.size_alloc] at this; exact this.alloc _
  have a4 : Holds w2 (w.heap.size + 1 + 1 + 1) 74 (List.replicate 16 0) := by rw [hw2]; have := Holds.new (((w.alloc (Obj.cells (arr h) 72)).alloc (Obj.cells (arr m) 74)).alloc (Obj.cells (arr (List.replicate 8 0)) 72)) 74 (List.replicate 16 0); rw [World.size_alloc, World.size_alloc, World.size_alloc] at this; exact this
  have a5 : Hid (Below w.heap.size w w2) := by rw [hw2]; exact ((((Below.refl _ w).alloc (Nat.le_refl _) _).alloc (by simp) _).alloc (by simp; omega) _).alloc (by simp; omega) _
  change Calls _ _ _ ((((w.alloc (Obj.cells (arr h) 72)).alloc (Obj.cells (arr m) 74)).alloc (Obj.cells (arr (List.replicate 8 0)) 72)).alloc (Obj.cells (arr (List.replicate 16 0)) 74)) _
  rw [← hw2]
  clear hw2
  refine (refStart_any w2).mono ?_
  rintro e wq ⟨rfl, hbq⟩
  have aq1 : Holds wq w.heap.size 72 h := a1.of_below hbq a1.lt
  have aq2 : Holds wq (w.heap.size + 1) 74 m := a2.of_below hbq a2.lt
  have aq3 : Holds wq (w.heap.size + 1 + 1) 72 (List.replicate 8 0) := a3.of_below hbq a3.lt
  have aq4 : Holds wq (w.heap.size + 1 + 1 + 1) 74 (List.replicate 16 0) := a4.of_below hbq a4.lt
  have aq5 : Hid (Below w.heap.size w wq) := a5.out.trans (hbq.mono a5.out.size)
  have hq4 : Hid (w.heap.size + 1 + 1 + 1 < wq.heap.size) := aq4.lt
  have t27 : (wq.alloc (Obj.cells (arr (List.replicate 8 0)) 72)).there wq.heap.size 0 (arr staL).size := by
    intro j hj
    have hj' : j < 8 := by rw [arr_size] at hj; exact hj
    have hn := Holds.new wq 72 (List.replicate 8 0)
    rw [Nat.zero_add, hn.cell j (by simpa using hj'), hn.frozen]
    exact ⟨rfl, rfl⟩
  have hi27 : (Tryd.prog.info? 72).map (·.size) = some (arr staL).size := by rw [size27, arr_size]; rfl
  have o27 := arr_one staL
  clear a1 a2 a3 a4 a5 hbq
  go_wp2_with (refine wpList_store_mid rfl 72 (.tmp 10) (.tmp 14) rfl wq.heap.size 0 (arr staL) rfl rfl t27 hi27 o27 ?_)
  obtain ⟨w3, hw3⟩ : ∃ w3, w3 = (wq.alloc (Obj.cells (arr (List.replicate 8 0)) 72)).setCells wq.heap.size 0 (arr staL).toList := ⟨_, rfl⟩
  have b1 : Holds w3 w.heap.size 72 h := by rw [hw3]; exact Holds.others (by have := hq4.out; omega) _ _ _ (aq1.alloc _)
  have b2 : Holds w3 (w.heap.size + 1) 74 m := by rw [hw3]; exact Holds.others (by have := hq4.out; omega) _ _ _ (aq2.alloc _)
  have b3 : Holds w3 (w.heap.size + 1 + 1) 72 (List.replicate 8 0) := by rw [hw3]; exact Holds.others (by have := hq4.out; omega) _ _ _ (aq3.alloc _)
  have b4 : Holds w3 (w.heap.size + 1 + 1 + 1) 74 (List.replicate 16 0) := by rw [hw3]; exact Holds.others (by have := hq4.out; omega) _ _ _ (aq4.alloc _)
  have b6 : Holds w3 wq.heap.size 72 staL := by
    rw [hw3, show (arr staL).toList = staL.map U by simp [arr]]
    exact (Holds.new wq 72 (List.replicate 8 0)).setCells staL rfl
  have b5 : Hid (Below w.heap.size w w3) := by rw [hw3]; exact Below.setNews (by have := hq4.out; omega) _ _ _ (aq5.out.alloc aq5.out.size _)
  change Code.wp _ _ _ _ ((wq.alloc (Obj.cells (arr (List.replicate 8 0)) 72)).setCells wq.heap.size 0 (arr staL).toList)
  rw [← hw3]
  clear hw3 t27 aq1 aq2 aq3 aq4 aq5
  generalize wq.heap.size = bs at *
  go_loopg [11] 8 (fun k v12 wr => ∃ i : Nat, i + k = 8 ∧ v12 = .int .i64 i ∧ Holds wr w.heap.size 72 h ∧ Holds wr (w.heap.size + 1) 74 m ∧ Holds wr (w.heap.size + 1 + 1) 72 (List.replicate 8 0) ∧ Holds wr (w.heap.size + 1 + 1 + 1) 74 (fillV h i) ∧ Below w.heap.size w wr ∧ Holds wr bs 72 staL)
  case atStart => exact ⟨0, rfl, rfl, b1, b2, b3, b4, b5.out, b6⟩
  case round =>
    obtain ⟨i, hi, rfl, h1, h2, h3, h4, h5, h6⟩ := hrel
    have hbs := hq4.out
    by_cases hlt : i < 8
    · have hi8 : (i : Int) < 8 := by omega
      have c1 : wr.cell? ⟨w.heap.size, i, none⟩ = some (U (h.getD i 0)) := h1.cell i (by omega)
      have c2 : wr.cell? ⟨bs, i, none⟩ = some (U (staL.getD i 0)) := h6.cell i hlt
      have ne1 : ¬ bs = w.heap.size + 1 + 1 + 1 := by omega
      have ne2 : ¬ w.heap.size + 1 + 1 + 1 = bs := by omega
      have c3 := h4.cell i (by rw [fillV_length]; omega)
      have c4 := h4.cell (i + 8) (by rw [fillV_length]; omega)
      have f3 := h4.frozen i
      have f4 := h4.frozen (i + 8)
      have k1 : (i : Int) + 8 < 16 := by omega
      have k2 : (0 : Int) ≤ (i : Int) + 8 := by omega
      have k3 : ((i : Int) + 8).toNat = i + 8 := by omega
      have kw : IntKind.i64.wrap ((i : Int) + 8) = (i : Int) + 8 := IntWalk.i64_in _ ⟨by omega, by omega⟩
      have nn : ¬ i = i + 8 := by omega
      have nn' : ¬ i + 8 = i := by omega
      have hnx : Hid (fillV h (i + 1) = ((fillV h i).set i (h.getD i 0)).set (i + 8) (staL.getD i 0)) := rfl
      generalize h.getD i 0 = X at *
      generalize staL.getD i 0 = Y at *
      go_wp2_with fail
      go_roundg (gk - 1)
      case measure => omega
      case rel =>
        refine ⟨i + 1, by omega, by go_num, (h1.oth (by omega) _ _).oth (by omega) _ _, (h2.oth (by omega) _ _).oth (by omega) _ _, (h3.oth (by omega) _ _).oth (by omega) _ _, ?_, Below.own (Below.own h5 (by omega) _ _) (by omega) _ _, (h6.oth (by omega) _ _).oth (by omega) _ _⟩
        rw [hnx.out]
        exact (h4.set _ _).set _ _
    · obtain rfl : i = 8 := by omega
      have hVl : (fillV h 8).length = 16 := fillV_length h 8
      have hfin : Hid (mixV h n false = mix14 (mix13 (mix12 (fillV h 8) n) n) false) := rfl
      generalize fillV h 8 = V at *
      have c12 := h4.cell 12 (by omega)
      have c13 := h4.cell 13 (by omega)
      have c14 := h4.cell 14 (by omega)
      have f12 := h4.frozen 12
      have f13 := h4.frozen 13
      have f14 := h4.frozen 14
      have x1 := fun x => xor_lo x n
      have x2 := fun x => xor_lo' x n
      have x3 := fun x => xor_hi x n hn
      have x4 := not_s
      have x5 := fun x => xor_lo3 x n
      have x6 := fun x => xor_hi3 x n hn
      generalize e12 : V.getD 12 0 = V12 at *
      generalize e13 : V.getD 13 0 = V13 at *
      generalize e14 : V.getD 14 0 = V14 at *
      have HV12 : Hid (V.getD 12 0 = V12) := e12
      have HV13 : Hid (V.getD 13 0 = V13) := e13
      have HV14 : Hid (V.getD 14 0 = V14) := e14
      clear e12 e13 e14
      obtain ⟨X, hX0⟩ : ∃ X, X = (wr.setCell ⟨w.heap.size + 1 + 1 + 1, 12, none⟩ (U (uxor V12 (loU n)))).setCell ⟨w.heap.size + 1 + 1 + 1, 13, none⟩ (U (uxor V13 (hiU n))) := ⟨_, rfl⟩
      have g1 : Holds X w.heap.size 72 h := by rw [hX0]; exact (h1.oth (by omega) _ _).oth (by omega) _ _
      have g2 : Holds X (w.heap.size + 1) 74 m := by rw [hX0]; exact (h2.oth (by omega) _ _).oth (by omega) _ _
      have g3 : Holds X (w.heap.size + 1 + 1) 72 (List.replicate 8 0) := by rw [hX0]; exact (h3.oth (by omega) _ _).oth (by omega) _ _
      have g4 : Holds X (w.heap.size + 1 + 1 + 1) 74 ((V.set 12 (uxor V12 (loU n))).set 13 (uxor V13 (hiU n))) := by rw [hX0]; exact (h4.set _ _).set _ _
      have g5 : Hid (Below w.heap.size w X) := by rw [hX0]; exact Below.own (Below.own h5 (by omega) _ _) (by omega) _ _
      have hX : Hid (X = (wr.setCell ⟨w.heap.size + 1 + 1 + 1, 12, none⟩ (U (uxor V12 (loU n)))).setCell ⟨w.heap.size + 1 + 1 + 1, 13, none⟩ (U (uxor V13 (hiU n)))) := hX0
      clear hX0
      have hVV : Hid (mixV h n false = ((V.set 12 (uxor V12 (loU n))).set 13 (uxor V13 (hiU n)))) := by
        show _ = _
        rw [hfin.out]
        unfold mix14 mix13 mix12
        rw [if_neg (by decide), getD_set_ne _ _ _ _ (by decide), HV12.out, HV13.out]
      have hVl2 : (((V.set 12 (uxor V12 (loU n))).set 13 (uxor V13 (hiU n)))).length = 16 := by simp [hVl]
      generalize ((V.set 12 (uxor V12 (loU n))).set 13 (uxor V13 (hiU n))) = VV at *
      have r1 : Hid (((wr.setCell ⟨w.heap.size + 1 + 1 + 1, 12, none⟩ (U (uxor V12 (loU n)))).setCell ⟨w.heap.size + 1 + 1 + 1, 13, none⟩ (U (uxor V13 (hiU n)))).rangeAt (w.heap.size + 1 + 1 + 1) 0 (arr VV).toList) := by rw [← hX.out]; exact range_arr g4
      have r2 : Hid (((wr.setCell ⟨w.heap.size + 1 + 1 + 1, 12, none⟩ (U (uxor V12 (loU n)))).setCell ⟨w.heap.size + 1 + 1 + 1, 13, none⟩ (U (uxor V13 (hiU n)))).rangeAt (w.heap.size + 1) 0 (arr m).toList) := by rw [← hX.out]; exact range_arr g2
      have i1 := hi_arr VV hVl2
      have i2 := hi_arr m hm
      clear h1 h2 h3 h4
      go_wp2_with (first
        | (refine wpList_load_mid rfl 74 (.tmp 9) rfl (w.heap.size + 1 + 1 + 1) 0 rfl (arr VV).toList _ r1.out Tryd.underlying74 rfl i1 ?_)
        | (refine wpList_load_mid rfl 74 (.tmp 5) rfl (w.heap.size + 1) 0 rfl (arr m).toList _ r2.out Tryd.underlying74 rfl i2 ?_))
      rw [← hX.out]
      clear r1 r2 c12 c13 c14 f12 f13 f14 x1 x2 x3 x4
      refine (refStir_any VV m hVl2 hm X).mono ?_
      rintro e wk ⟨rfl, hbk⟩
      have q1 : Holds wk w.heap.size 72 h := g1.of_below hbk g1.lt
      have q3 : Holds wk (w.heap.size + 1 + 1) 72 (List.replicate 8 0) := g3.of_below hbk g3.lt
      have q4 : Holds wk (w.heap.size + 1 + 1 + 1) 74 VV := g4.of_below hbk g4.lt
      have q5 : Hid (Below w.heap.size w wk) := g5.out.trans (hbk.mono g5.out.size)
      have hSl : (stirs m 10 VV).length = 16 := by rw [stirs_length, hVl2]
      have hSS : Hid (stirs m 10 (mixV h n false) = stirs m 10 VV) := by show _ = _; rw [hVV.out]
      generalize stirs m 10 VV = SV at *
      have hth : (wk.alloc (Obj.cells (arr (List.replicate 16 0)) 74)).there wk.heap.size 0 (arr SV).size := by
        intro j hj
        rw [arr_size, hSl] at hj
        have hn := Holds.new wk 74 (List.replicate 16 0)
        rw [Nat.zero_add, hn.cell j (by simpa using hj), hn.frozen]
        exact ⟨rfl, rfl⟩
      have hi23' : (Tryd.prog.info? 74).map (·.size) = some (arr SV).size := by rw [size23, arr_size, hSl]
      have h1c := arr_one SV
      go_wp2_with (refine wpList_store_mid rfl 74 (.tmp 12) (.tmp 51) rfl wk.heap.size 0 (arr SV) rfl rfl hth hi23' h1c ?_)
      obtain ⟨Z, hZ⟩ : ∃ Z, Z = (wk.alloc (Obj.cells (arr (List.replicate 16 0)) 74)).setCells wk.heap.size 0 (arr SV).toList := ⟨_, rfl⟩
      have wkl : Hid (w.heap.size + 1 + 1 + 1 < wk.heap.size) := q4.lt
      have p1 : Holds Z w.heap.size 72 h := by rw [hZ]; exact Holds.others (by have := wkl.out; omega) _ _ _ (q1.alloc _)
      have p3 : Holds Z (w.heap.size + 1 + 1) 72 (List.replicate 8 0) := by rw [hZ]; exact Holds.others (by have := wkl.out; omega) _ _ _ (q3.alloc _)
      have p4 : Holds Z wk.heap.size 74 SV := by
        rw [hZ, show (arr SV).toList = SV.map U by simp [arr]]
        exact (Holds.new wk 74 (List.replicate 16 0)).setCells SV (by rw [hSl]; rfl)
      have p5 : Hid (Below w.heap.size w Z) := by rw [hZ]; exact Below.setNews (by have := wkl.out; omega) _ _ _ (q5.out.alloc q5.out.size _)
      change Code.wp _ _ _ _ ((wk.alloc (Obj.cells (arr (List.replicate 16 0)) 74)).setCells wk.heap.size 0 (arr SV).toList)
      rw [← hZ]
      clear hZ hth hbk q4
      generalize wk.heap.size = bw at *
      go_loopg [13] 8 (fun k v48 wz => ∃ i : Nat, i + k = 8 ∧ v48 = .int .i64 i ∧ Holds wz w.heap.size 72 (outV h SV i) ∧ Holds wz (w.heap.size + 1 + 1) 72 (List.replicate 8 0) ∧ Holds wz bw 74 SV ∧ Below w.heap.size w wz)
      case atStart => exact ⟨0, rfl, rfl, p1, p3, p4, p5.out⟩
      case round =>
        obtain ⟨i, hi, rfl, h1, h3, h4, h5⟩ := hrel
        have hbw := wkl.out
        have hOl : (outV h SV i).length = 8 := by rw [outV_length, hh]
        by_cases hlt : i < 8
        · have hi8 : (i : Int) < 8 := by omega
          have i16 : (i : Int) < 16 := by omega
          have hnx : Hid (outV h SV (i + 1) = (outV h SV i).set i (uxor (uxor ((outV h SV i).getD i 0) (SV.getD i 0)) (SV.getD (i + 8) 0))) := by show _ = _; rw [uxor_assoc]; rfl
          have c1 := h1.cell i (by omega)
          have c2 := h4.cell i (by omega)
          have c3 := h4.cell (i + 8) (by omega)
          have f1 := h1.frozen i
          have k1 : (i : Int) + 8 < 16 := by omega
          have k2 : (0 : Int) ≤ (i : Int) + 8 := by omega
          have k3 : ((i : Int) + 8).toNat = i + 8 := by omega
          have kw : IntKind.i64.wrap ((i : Int) + 8) = (i : Int) + 8 := IntWalk.i64_in _ ⟨by omega, by omega⟩
          have hx := xor_u
          generalize outV h SV i = OV at *
          generalize OV.getD i 0 = X1 at *
          generalize SV.getD i 0 = X2 at *
          generalize SV.getD (i + 8) 0 = X3 at *
          go_wp2_with fail
          refine wp_region_still_tail 13 mixedP (by kernel_rfl) ?_
          simp only [List.take_succ_cons, List.take_zero, List.drop_succ_cons, List.drop_zero]
          show wpStill _ _ wr.drew _ _ _
          repeat still_step
          refine wpStill_nil ?_
          go_wp2_with fail
          go_roundg (gk - 1)
          case measure => omega
          case rel =>
            refine ⟨i + 1, by omega, by go_num, ?_, (h3.oth (by omega) _ _).drew, (h4.oth (by omega) _ _).drew, (Below.own h5 (by omega) _ _).drew⟩
            rw [hnx.out]
            exact (h1.set _ _).drew
        · obtain rfl : i = 8 := by omega
          have hpr : Hid (pressL h m n false = outV h SV 8) := by show outV h (stirs m 10 (mixV h n false)) 8 = _; rw [hSS.out]
          generalize outV h SV 8 = OV at *
          have r1 := range_arr h1
          have i27 : (Tryd.prog.info? 72).map (·.size) = some (arr OV).toList.length := by rw [size27, Array.length_toList, arr_size, hOl]
          have i27' : (Tryd.prog.info? 72).map (·.size) = some (arr OV).size := by rw [size27, arr_size, hOl]
          have t27 : wr.there (w.heap.size + 1 + 1) 0 (arr OV).size := by
            intro j hj
            rw [arr_size, hOl] at hj
            rw [Nat.zero_add, h3.cell j (by simpa using hj), h3.frozen]
            exact ⟨rfl, rfl⟩
          have o27 := arr_one OV
          go_wp2_with (first
            | (refine wpList_load_mid rfl 72 (.tmp 4) rfl w.heap.size 0 rfl (arr OV).toList _ r1 Tryd.underlying72 rfl i27 ?_)
            | (refine wpList_store_mid rfl 72 (.tmp 8) (.tmp 70) rfl (w.heap.size + 1 + 1) 0 (arr OV) rfl rfl t27 i27' o27 ?_))
          refine bodyPost_ret (v := .agg (arr OV).toList.toArray) (results_cell Tryd.results39 _ _ (w.heap.size + 1 + 1) 0 (arr OV).toList _ rfl (World.rangeAt_setCells_same _ _ _ _ (by simpa using t27)) Tryd.underlying72 rfl i27) rfl ⟨?_, ?_⟩
          · rw [hpr.out]
          · exact Below.setNews (by omega) _ _ _ h5

set_option maxRecDepth 100000 in
set_option maxHeartbeats 2000000 in
theorem refPress_true (h m : List UInt32) (hh : h.length = 8) (hm : m.length = 16) (n : Nat) (hn : n < 18446744073709551616) (w : World) :
    Calls Tryd.prog 39 #[.agg (arr h), .agg (arr m), .int .u64 (n : Int), .bool true] w fun e w' => e = .returned (.agg (arr (pressL h m n true))) ∧ Below w.heap.size w w' := by
  have s1 := arr_size
  go_enter Tryd.func39, Tryd.ntmps39
  go_wp2_with fail
  obtain ⟨w2, hw2⟩ : ∃ w2, w2 = (((w.alloc (Obj.cells (arr h) 72)).alloc (Obj.cells (arr m) 74)).alloc (Obj.cells (arr (List.replicate 8 0)) 72)).alloc (Obj.cells (arr (List.replicate 16 0)) 74) := ⟨_, rfl⟩
  have a1 : Holds w2 w.heap.size 72 h := by rw [hw2]; exact (((Holds.new w 72 h).alloc _).alloc _).alloc _
  have a2 : Holds w2 (w.heap.size + 1) 74 m := by rw [hw2]; have := Holds.new (w.alloc (Obj.cells (arr h) 72)) 74 m; rw [World.size_alloc] at this; exact (this.alloc _).alloc _
  have a3 : Holds w2 (w.heap.size + 1 + 1) 72 (List.replicate 8 0) := by rw [hw2]; have := Holds.new ((w.alloc (Obj.cells (arr h) 72)).alloc (Obj.cells (arr m) 74)) 72 (List.replicate 8 0); rw [World.size_alloc, World.size_alloc] at this; exact this.alloc _
  have a4 : Holds w2 (w.heap.size + 1 + 1 + 1) 74 (List.replicate 16 0) := by rw [hw2]; have := Holds.new (((w.alloc (Obj.cells (arr h) 72)).alloc (Obj.cells (arr m) 74)).alloc (Obj.cells (arr (List.replicate 8 0)) 72)) 74 (List.replicate 16 0); rw [World.size_alloc, World.size_alloc, World.size_alloc] at this; exact this
  have a5 : Hid (Below w.heap.size w w2) := by rw [hw2]; exact ((((Below.refl _ w).alloc (Nat.le_refl _) _).alloc (by simp) _).alloc (by simp; omega) _).alloc (by simp; omega) _
  change Calls _ _ _ ((((w.alloc (Obj.cells (arr h) 72)).alloc (Obj.cells (arr m) 74)).alloc (Obj.cells (arr (List.replicate 8 0)) 72)).alloc (Obj.cells (arr (List.replicate 16 0)) 74)) _
  rw [← hw2]
  clear hw2
  refine (refStart_any w2).mono ?_
  rintro e wq ⟨rfl, hbq⟩
  have aq1 : Holds wq w.heap.size 72 h := a1.of_below hbq a1.lt
  have aq2 : Holds wq (w.heap.size + 1) 74 m := a2.of_below hbq a2.lt
  have aq3 : Holds wq (w.heap.size + 1 + 1) 72 (List.replicate 8 0) := a3.of_below hbq a3.lt
  have aq4 : Holds wq (w.heap.size + 1 + 1 + 1) 74 (List.replicate 16 0) := a4.of_below hbq a4.lt
  have aq5 : Hid (Below w.heap.size w wq) := a5.out.trans (hbq.mono a5.out.size)
  have hq4 : Hid (w.heap.size + 1 + 1 + 1 < wq.heap.size) := aq4.lt
  have t27 : (wq.alloc (Obj.cells (arr (List.replicate 8 0)) 72)).there wq.heap.size 0 (arr staL).size := by
    intro j hj
    have hj' : j < 8 := by rw [arr_size] at hj; exact hj
    have hn := Holds.new wq 72 (List.replicate 8 0)
    rw [Nat.zero_add, hn.cell j (by simpa using hj'), hn.frozen]
    exact ⟨rfl, rfl⟩
  have hi27 : (Tryd.prog.info? 72).map (·.size) = some (arr staL).size := by rw [size27, arr_size]; rfl
  have o27 := arr_one staL
  clear a1 a2 a3 a4 a5 hbq
  go_wp2_with (refine wpList_store_mid rfl 72 (.tmp 10) (.tmp 14) rfl wq.heap.size 0 (arr staL) rfl rfl t27 hi27 o27 ?_)
  obtain ⟨w3, hw3⟩ : ∃ w3, w3 = (wq.alloc (Obj.cells (arr (List.replicate 8 0)) 72)).setCells wq.heap.size 0 (arr staL).toList := ⟨_, rfl⟩
  have b1 : Holds w3 w.heap.size 72 h := by rw [hw3]; exact Holds.others (by have := hq4.out; omega) _ _ _ (aq1.alloc _)
  have b2 : Holds w3 (w.heap.size + 1) 74 m := by rw [hw3]; exact Holds.others (by have := hq4.out; omega) _ _ _ (aq2.alloc _)
  have b3 : Holds w3 (w.heap.size + 1 + 1) 72 (List.replicate 8 0) := by rw [hw3]; exact Holds.others (by have := hq4.out; omega) _ _ _ (aq3.alloc _)
  have b4 : Holds w3 (w.heap.size + 1 + 1 + 1) 74 (List.replicate 16 0) := by rw [hw3]; exact Holds.others (by have := hq4.out; omega) _ _ _ (aq4.alloc _)
  have b6 : Holds w3 wq.heap.size 72 staL := by
    rw [hw3, show (arr staL).toList = staL.map U by simp [arr]]
    exact (Holds.new wq 72 (List.replicate 8 0)).setCells staL rfl
  have b5 : Hid (Below w.heap.size w w3) := by rw [hw3]; exact Below.setNews (by have := hq4.out; omega) _ _ _ (aq5.out.alloc aq5.out.size _)
  change Code.wp _ _ _ _ ((wq.alloc (Obj.cells (arr (List.replicate 8 0)) 72)).setCells wq.heap.size 0 (arr staL).toList)
  rw [← hw3]
  clear hw3 t27 aq1 aq2 aq3 aq4 aq5
  generalize wq.heap.size = bs at *
  go_loopg [11] 8 (fun k v12 wr => ∃ i : Nat, i + k = 8 ∧ v12 = .int .i64 i ∧ Holds wr w.heap.size 72 h ∧ Holds wr (w.heap.size + 1) 74 m ∧ Holds wr (w.heap.size + 1 + 1) 72 (List.replicate 8 0) ∧ Holds wr (w.heap.size + 1 + 1 + 1) 74 (fillV h i) ∧ Below w.heap.size w wr ∧ Holds wr bs 72 staL)
  case atStart => exact ⟨0, rfl, rfl, b1, b2, b3, b4, b5.out, b6⟩
  case round =>
    obtain ⟨i, hi, rfl, h1, h2, h3, h4, h5, h6⟩ := hrel
    have hbs := hq4.out
    by_cases hlt : i < 8
    · have hi8 : (i : Int) < 8 := by omega
      have c1 : wr.cell? ⟨w.heap.size, i, none⟩ = some (U (h.getD i 0)) := h1.cell i (by omega)
      have c2 : wr.cell? ⟨bs, i, none⟩ = some (U (staL.getD i 0)) := h6.cell i hlt
      have ne1 : ¬ bs = w.heap.size + 1 + 1 + 1 := by omega
      have ne2 : ¬ w.heap.size + 1 + 1 + 1 = bs := by omega
      have c3 := h4.cell i (by rw [fillV_length]; omega)
      have c4 := h4.cell (i + 8) (by rw [fillV_length]; omega)
      have f3 := h4.frozen i
      have f4 := h4.frozen (i + 8)
      have k1 : (i : Int) + 8 < 16 := by omega
      have k2 : (0 : Int) ≤ (i : Int) + 8 := by omega
      have k3 : ((i : Int) + 8).toNat = i + 8 := by omega
      have kw : IntKind.i64.wrap ((i : Int) + 8) = (i : Int) + 8 := IntWalk.i64_in _ ⟨by omega, by omega⟩
      have nn : ¬ i = i + 8 := by omega
      have nn' : ¬ i + 8 = i := by omega
      have hnx : Hid (fillV h (i + 1) = ((fillV h i).set i (h.getD i 0)).set (i + 8) (staL.getD i 0)) := rfl
      generalize h.getD i 0 = X at *
      generalize staL.getD i 0 = Y at *
      go_wp2_with fail
      go_roundg (gk - 1)
      case measure => omega
      case rel =>
        refine ⟨i + 1, by omega, by go_num, (h1.oth (by omega) _ _).oth (by omega) _ _, (h2.oth (by omega) _ _).oth (by omega) _ _, (h3.oth (by omega) _ _).oth (by omega) _ _, ?_, Below.own (Below.own h5 (by omega) _ _) (by omega) _ _, (h6.oth (by omega) _ _).oth (by omega) _ _⟩
        rw [hnx.out]
        exact (h4.set _ _).set _ _
    · obtain rfl : i = 8 := by omega
      have hVl : (fillV h 8).length = 16 := fillV_length h 8
      have hfin : Hid (mixV h n true = mix14 (mix13 (mix12 (fillV h 8) n) n) true) := rfl
      generalize fillV h 8 = V at *
      have c12 := h4.cell 12 (by omega)
      have c13 := h4.cell 13 (by omega)
      have c14 := h4.cell 14 (by omega)
      have f12 := h4.frozen 12
      have f13 := h4.frozen 13
      have f14 := h4.frozen 14
      have x1 := fun x => xor_lo x n
      have x2 := fun x => xor_lo' x n
      have x3 := fun x => xor_hi x n hn
      have x4 := not_s
      have x5 := fun x => xor_lo3 x n
      have x6 := fun x => xor_hi3 x n hn
      generalize e12 : V.getD 12 0 = V12 at *
      generalize e13 : V.getD 13 0 = V13 at *
      generalize e14 : V.getD 14 0 = V14 at *
      have HV12 : Hid (V.getD 12 0 = V12) := e12
      have HV13 : Hid (V.getD 13 0 = V13) := e13
      have HV14 : Hid (V.getD 14 0 = V14) := e14
      clear e12 e13 e14
      obtain ⟨X, hX0⟩ : ∃ X, X = ((wr.setCell ⟨w.heap.size + 1 + 1 + 1, 12, none⟩ (U (uxor V12 (loU n)))).setCell ⟨w.heap.size + 1 + 1 + 1, 13, none⟩ (U (uxor V13 (hiU n)))).setCell ⟨w.heap.size + 1 + 1 + 1, 14, none⟩ (U (unot V14)) := ⟨_, rfl⟩
      have g1 : Holds X w.heap.size 72 h := by rw [hX0]; exact ((h1.oth (by omega) _ _).oth (by omega) _ _).oth (by omega) _ _
      have g2 : Holds X (w.heap.size + 1) 74 m := by rw [hX0]; exact ((h2.oth (by omega) _ _).oth (by omega) _ _).oth (by omega) _ _
      have g3 : Holds X (w.heap.size + 1 + 1) 72 (List.replicate 8 0) := by rw [hX0]; exact ((h3.oth (by omega) _ _).oth (by omega) _ _).oth (by omega) _ _
      have g4 : Holds X (w.heap.size + 1 + 1 + 1) 74 (((V.set 12 (uxor V12 (loU n))).set 13 (uxor V13 (hiU n))).set 14 (unot V14)) := by rw [hX0]; exact ((h4.set _ _).set _ _).set _ _
      have g5 : Hid (Below w.heap.size w X) := by rw [hX0]; exact Below.own (Below.own (Below.own h5 (by omega) _ _) (by omega) _ _) (by omega) _ _
      have hX : Hid (X = ((wr.setCell ⟨w.heap.size + 1 + 1 + 1, 12, none⟩ (U (uxor V12 (loU n)))).setCell ⟨w.heap.size + 1 + 1 + 1, 13, none⟩ (U (uxor V13 (hiU n)))).setCell ⟨w.heap.size + 1 + 1 + 1, 14, none⟩ (U (unot V14))) := hX0
      clear hX0
      have hVV : Hid (mixV h n true = (((V.set 12 (uxor V12 (loU n))).set 13 (uxor V13 (hiU n))).set 14 (unot V14))) := by
        show _ = _
        rw [hfin.out]
        unfold mix14 mix13 mix12
        rw [if_pos rfl, getD_set_ne _ _ _ _ (by decide), getD_set_ne _ _ _ _ (by decide), getD_set_ne _ _ _ _ (by decide), HV12.out, HV13.out, HV14.out]
      have hVl2 : ((((V.set 12 (uxor V12 (loU n))).set 13 (uxor V13 (hiU n))).set 14 (unot V14))).length = 16 := by simp [hVl]
      generalize (((V.set 12 (uxor V12 (loU n))).set 13 (uxor V13 (hiU n))).set 14 (unot V14)) = VV at *
      have r1 : Hid ((((wr.setCell ⟨w.heap.size + 1 + 1 + 1, 12, none⟩ (U (uxor V12 (loU n)))).setCell ⟨w.heap.size + 1 + 1 + 1, 13, none⟩ (U (uxor V13 (hiU n)))).setCell ⟨w.heap.size + 1 + 1 + 1, 14, none⟩ (U (unot V14))).rangeAt (w.heap.size + 1 + 1 + 1) 0 (arr VV).toList) := by rw [← hX.out]; exact range_arr g4
      have r2 : Hid ((((wr.setCell ⟨w.heap.size + 1 + 1 + 1, 12, none⟩ (U (uxor V12 (loU n)))).setCell ⟨w.heap.size + 1 + 1 + 1, 13, none⟩ (U (uxor V13 (hiU n)))).setCell ⟨w.heap.size + 1 + 1 + 1, 14, none⟩ (U (unot V14))).rangeAt (w.heap.size + 1) 0 (arr m).toList) := by rw [← hX.out]; exact range_arr g2
      have i1 := hi_arr VV hVl2
      have i2 := hi_arr m hm
      clear h1 h2 h3 h4
      go_wp2_with (first
        | (refine wpList_load_mid rfl 74 (.tmp 9) rfl (w.heap.size + 1 + 1 + 1) 0 rfl (arr VV).toList _ r1.out Tryd.underlying74 rfl i1 ?_)
        | (refine wpList_load_mid rfl 74 (.tmp 5) rfl (w.heap.size + 1) 0 rfl (arr m).toList _ r2.out Tryd.underlying74 rfl i2 ?_))
      rw [← hX.out]
      clear r1 r2 c12 c13 c14 f12 f13 f14 x1 x2 x3 x4
      refine (refStir_any VV m hVl2 hm X).mono ?_
      rintro e wk ⟨rfl, hbk⟩
      have q1 : Holds wk w.heap.size 72 h := g1.of_below hbk g1.lt
      have q3 : Holds wk (w.heap.size + 1 + 1) 72 (List.replicate 8 0) := g3.of_below hbk g3.lt
      have q4 : Holds wk (w.heap.size + 1 + 1 + 1) 74 VV := g4.of_below hbk g4.lt
      have q5 : Hid (Below w.heap.size w wk) := g5.out.trans (hbk.mono g5.out.size)
      have hSl : (stirs m 10 VV).length = 16 := by rw [stirs_length, hVl2]
      have hSS : Hid (stirs m 10 (mixV h n true) = stirs m 10 VV) := by show _ = _; rw [hVV.out]
      generalize stirs m 10 VV = SV at *
      have hth : (wk.alloc (Obj.cells (arr (List.replicate 16 0)) 74)).there wk.heap.size 0 (arr SV).size := by
        intro j hj
        rw [arr_size, hSl] at hj
        have hn := Holds.new wk 74 (List.replicate 16 0)
        rw [Nat.zero_add, hn.cell j (by simpa using hj), hn.frozen]
        exact ⟨rfl, rfl⟩
      have hi23' : (Tryd.prog.info? 74).map (·.size) = some (arr SV).size := by rw [size23, arr_size, hSl]
      have h1c := arr_one SV
      go_wp2_with (refine wpList_store_mid rfl 74 (.tmp 12) (.tmp 51) rfl wk.heap.size 0 (arr SV) rfl rfl hth hi23' h1c ?_)
      obtain ⟨Z, hZ⟩ : ∃ Z, Z = (wk.alloc (Obj.cells (arr (List.replicate 16 0)) 74)).setCells wk.heap.size 0 (arr SV).toList := ⟨_, rfl⟩
      have wkl : Hid (w.heap.size + 1 + 1 + 1 < wk.heap.size) := q4.lt
      have p1 : Holds Z w.heap.size 72 h := by rw [hZ]; exact Holds.others (by have := wkl.out; omega) _ _ _ (q1.alloc _)
      have p3 : Holds Z (w.heap.size + 1 + 1) 72 (List.replicate 8 0) := by rw [hZ]; exact Holds.others (by have := wkl.out; omega) _ _ _ (q3.alloc _)
      have p4 : Holds Z wk.heap.size 74 SV := by
        rw [hZ, show (arr SV).toList = SV.map U by simp [arr]]
        exact (Holds.new wk 74 (List.replicate 16 0)).setCells SV (by rw [hSl]; rfl)
      have p5 : Hid (Below w.heap.size w Z) := by rw [hZ]; exact Below.setNews (by have := wkl.out; omega) _ _ _ (q5.out.alloc q5.out.size _)
      change Code.wp _ _ _ _ ((wk.alloc (Obj.cells (arr (List.replicate 16 0)) 74)).setCells wk.heap.size 0 (arr SV).toList)
      rw [← hZ]
      clear hZ hth hbk q4
      generalize wk.heap.size = bw at *
      go_loopg [13] 8 (fun k v48 wz => ∃ i : Nat, i + k = 8 ∧ v48 = .int .i64 i ∧ Holds wz w.heap.size 72 (outV h SV i) ∧ Holds wz (w.heap.size + 1 + 1) 72 (List.replicate 8 0) ∧ Holds wz bw 74 SV ∧ Below w.heap.size w wz)
      case atStart => exact ⟨0, rfl, rfl, p1, p3, p4, p5.out⟩
      case round =>
        obtain ⟨i, hi, rfl, h1, h3, h4, h5⟩ := hrel
        have hbw := wkl.out
        have hOl : (outV h SV i).length = 8 := by rw [outV_length, hh]
        by_cases hlt : i < 8
        · have hi8 : (i : Int) < 8 := by omega
          have i16 : (i : Int) < 16 := by omega
          have hnx : Hid (outV h SV (i + 1) = (outV h SV i).set i (uxor (uxor ((outV h SV i).getD i 0) (SV.getD i 0)) (SV.getD (i + 8) 0))) := by show _ = _; rw [uxor_assoc]; rfl
          have c1 := h1.cell i (by omega)
          have c2 := h4.cell i (by omega)
          have c3 := h4.cell (i + 8) (by omega)
          have f1 := h1.frozen i
          have k1 : (i : Int) + 8 < 16 := by omega
          have k2 : (0 : Int) ≤ (i : Int) + 8 := by omega
          have k3 : ((i : Int) + 8).toNat = i + 8 := by omega
          have kw : IntKind.i64.wrap ((i : Int) + 8) = (i : Int) + 8 := IntWalk.i64_in _ ⟨by omega, by omega⟩
          have hx := xor_u
          generalize outV h SV i = OV at *
          generalize OV.getD i 0 = X1 at *
          generalize SV.getD i 0 = X2 at *
          generalize SV.getD (i + 8) 0 = X3 at *
          go_wp2_with fail
          refine wp_region_still_tail 13 mixedP (by kernel_rfl) ?_
          simp only [List.take_succ_cons, List.take_zero, List.drop_succ_cons, List.drop_zero]
          show wpStill _ _ wr.drew _ _ _
          repeat still_step
          refine wpStill_nil ?_
          go_wp2_with fail
          go_roundg (gk - 1)
          case measure => omega
          case rel =>
            refine ⟨i + 1, by omega, by go_num, ?_, (h3.oth (by omega) _ _).drew, (h4.oth (by omega) _ _).drew, (Below.own h5 (by omega) _ _).drew⟩
            rw [hnx.out]
            exact (h1.set _ _).drew
        · obtain rfl : i = 8 := by omega
          have hpr : Hid (pressL h m n true = outV h SV 8) := by show outV h (stirs m 10 (mixV h n true)) 8 = _; rw [hSS.out]
          generalize outV h SV 8 = OV at *
          have r1 := range_arr h1
          have i27 : (Tryd.prog.info? 72).map (·.size) = some (arr OV).toList.length := by rw [size27, Array.length_toList, arr_size, hOl]
          have i27' : (Tryd.prog.info? 72).map (·.size) = some (arr OV).size := by rw [size27, arr_size, hOl]
          have t27 : wr.there (w.heap.size + 1 + 1) 0 (arr OV).size := by
            intro j hj
            rw [arr_size, hOl] at hj
            rw [Nat.zero_add, h3.cell j (by simpa using hj), h3.frozen]
            exact ⟨rfl, rfl⟩
          have o27 := arr_one OV
          go_wp2_with (first
            | (refine wpList_load_mid rfl 72 (.tmp 4) rfl w.heap.size 0 rfl (arr OV).toList _ r1 Tryd.underlying72 rfl i27 ?_)
            | (refine wpList_store_mid rfl 72 (.tmp 8) (.tmp 70) rfl (w.heap.size + 1 + 1) 0 (arr OV) rfl rfl t27 i27' o27 ?_))
          refine bodyPost_ret (v := .agg (arr OV).toList.toArray) (results_cell Tryd.results39 _ _ (w.heap.size + 1 + 1) 0 (arr OV).toList _ rfl (World.rangeAt_setCells_same _ _ _ _ (by simpa using t27)) Tryd.underlying72 rfl i27) rfl ⟨?_, ?_⟩
          · rw [hpr.out]
          · exact Below.setNews (by omega) _ _ _ h5

theorem refPress_any (h m : List UInt32) (hh : h.length = 8) (hm : m.length = 16) (n : Nat) (hn : n < 18446744073709551616) (last : Bool) (w : World) :
    Calls Tryd.prog 39 #[.agg (arr h), .agg (arr m), .int .u64 (n : Int), .bool last] w fun e w' => e = .returned (.agg (arr (pressL h m n last))) ∧ Below w.heap.size w w' := by
  cases last
  · exact refPress_false h m hh hm n hn w
  · exact refPress_true h m hh hm n hn w
end Go.Proofs.YteomefhjglnghaaDoor.F
