/- The walk of Press: for any words what it answers; nothing that was there turns. -/
import Derived.Test.YteomefhjglnghaaDoorFEq
import Derived.Test.YteomefhjglnghaaDoorFPressPlain
import Derived.Test.YteomefhjglnghaaDoorFSteps
import Derived.StillTailTactics
import Derived.BigRegion
set_option linter.unusedSimpArgs false
set_option linter.unusedVariables false
set_option maxRecDepth 100000
namespace Go.Proofs.YteomefhjglnghaaDoor.F
open Go.RowKit

theorem mixedP : Tryd.prog.follows .mixedOrders = true := by kernel_rfl
theorem size27 : (Tryd.prog.info? 72).map (·.size) = some 8 := by kernel_rfl
theorem xor_lo (x : UInt32) (n : Nat) : bits .xor .u32 (x.toNat : Int) (IntKind.u32.wrap (n : Int)) = ((uxor x (loU n)).toNat : Int) := by
  have e : IntKind.u32.wrap (n : Int) = ((loU n).toNat : Int) := by rw [loU_toNat, IntKind.wrap_u32]; omega
  rw [e, xor_u]
theorem xor_lo' (x : UInt32) (n : Nat) : bits .xor .u32 (x.toNat : Int) ((n : Int) % 4294967296) = ((uxor x (loU n)).toNat : Int) := by
  have e : (n : Int) % 4294967296 = ((loU n).toNat : Int) := by rw [loU_toNat]; omega
  rw [e, xor_u]
theorem xor_hi (x : UInt32) (n : Nat) (h : n < 18446744073709551616) : bits .xor .u32 (x.toNat : Int) ((n : Int) / 4294967296) = ((uxor x (hiU n)).toNat : Int) := by
  have e : (n : Int) / 4294967296 = ((hiU n).toNat : Int) := by rw [hiU_toNat n h]; omega
  rw [e, xor_u]
theorem not_u (x : UInt32) : bits .xor .u32 4294967295 (x.toNat : Int) = ((unot x).toNat : Int) := by
  have hx := ult x
  have h1 : (4294967295 : Int) = ((4294967295 : UInt32).toNat : Int) := rfl
  rw [h1, xor_u, unot_toNat]
  unfold uxor
  rw [UInt32.toNat_xor]
  have h2 : (4294967295 : UInt32).toNat ^^^ x.toNat = 4294967295 - x.toNat := by
    have h3 : (4294967295 : UInt32).toNat = 2 ^ 32 - 1 := rfl
    rw [h3]
    apply Nat.eq_of_testBit_eq
    intro i
    rw [Nat.testBit_xor, Nat.testBit_two_pow_sub_one, show 4294967295 - x.toNat = 2 ^ 32 - (x.toNat + 1) by omega, Nat.testBit_two_pow_sub_succ (by omega)]
    by_cases hi : i < 32
    · simp [hi]
    · have : x.toNat.testBit i = false := Nat.testBit_lt_two_pow (Nat.lt_of_lt_of_le hx (by
        have : 2 ^ 32 ≤ 2 ^ i := Nat.pow_le_pow_right (by omega) (by omega)
        omega))
      simp [hi, this]
  rw [h2]

theorem not_u' (x : UInt32) : bits .xor .u32 (if IntKind.u32.signed = true then -1 else IntKind.u32.max) (x.toNat : Int) = ((unot x).toNat : Int) := by
  have e : (if IntKind.u32.signed = true then -1 else IntKind.u32.max) = 4294967295 := by decide
  rw [e]; exact not_u x

set_option maxRecDepth 100000 in
set_option maxHeartbeats 2000000 in
theorem press_false (h m : List UInt32) (hh : h.length = 8) (hm : m.length = 16) (n : Nat) (hn : n < 18446744073709551616) (w : World) (hT : Tabs w) (hS : Starts w) :
    Calls Tryd.prog 55 #[.agg (arr h), .agg (arr m), .int .u64 (n : Int), .bool false] w fun e w' => e = .returned (.agg (arr (pressL h m n false))) ∧ Below w.heap.size w w' := by
  have s1 := arr_size
  have hT0 : Hid (2 < w.heap.size) := hT.size
  go_enter Tryd.func55, Tryd.ntmps55
  go_wp2_with fail
  obtain ⟨w2, hw2⟩ : ∃ w2, w2 = (((w.alloc (Obj.cells (arr h) 72)).alloc (Obj.cells (arr m) 74)).alloc (Obj.cells (arr (List.replicate 8 0)) 72)).alloc (Obj.cells (arr (List.replicate 16 0)) 74) := ⟨_, rfl⟩
  have a1 : Holds w2 w.heap.size 72 h := by rw [hw2]; exact (((Holds.new w 72 h).alloc _).alloc _).alloc _
  have a2 : Holds w2 (w.heap.size + 1) 74 m := by rw [hw2]; have := Holds.new (w.alloc (Obj.cells (arr h) 72)) 74 m; rw [World.size_alloc] at this; exact (this.alloc _).alloc _
  have a3 : Holds w2 (w.heap.size + 1 + 1) 72 (List.replicate 8 0) := by rw [hw2]; have := Holds.new ((w.alloc (Obj.cells (arr h) 72)).alloc (Obj.cells (arr m) 74)) 72 (List.replicate 8 0); rw [World.size_alloc, World.size_alloc] at this; exact this.alloc _
  have a4 : Holds w2 (w.heap.size + 1 + 1 + 1) 74 (List.replicate 16 0) := by rw [hw2]; have := Holds.new (((w.alloc (Obj.cells (arr h) 72)).alloc (Obj.cells (arr m) 74)).alloc (Obj.cells (arr (List.replicate 8 0)) 72)) 74 (List.replicate 16 0); rw [World.size_alloc, World.size_alloc, World.size_alloc] at this; exact this
  have a5 : Hid (Below w.heap.size w w2) := by rw [hw2]; exact ((((Below.refl _ w).alloc (Nat.le_refl _) _).alloc (by simp) _).alloc (by simp; omega) _).alloc (by simp; omega) _
  change Code.wp _ _ _ _ ((((w.alloc (Obj.cells (arr h) 72)).alloc (Obj.cells (arr m) 74)).alloc (Obj.cells (arr (List.replicate 8 0)) 72)).alloc (Obj.cells (arr (List.replicate 16 0)) 74))
  rw [← hw2]
  clear hw2
  go_loopg [12] 8 (fun k v12 wr => ∃ i : Nat, i + k = 8 ∧ v12 = .int .i64 i ∧ Holds wr w.heap.size 72 h ∧ Holds wr (w.heap.size + 1) 74 m ∧ Holds wr (w.heap.size + 1 + 1) 72 (List.replicate 8 0) ∧ Holds wr (w.heap.size + 1 + 1 + 1) 74 (fillV h i) ∧ Below w.heap.size w wr)
  case atStart => exact ⟨0, rfl, rfl, a1, a2, a3, a4, a5.out⟩
  case round =>
    obtain ⟨i, hi, rfl, h1, h2, h3, h4, h5⟩ := hrel
    by_cases hlt : i < 8
    · have hi8 : (i : Int) < 8 := by omega
      have c1 : wr.cell? ⟨w.heap.size, i, none⟩ = some (U (h.getD i 0)) := h1.cell i (by omega)
      have c2 : wr.cell? ⟨0, i, none⟩ = some (U (staL.getD i 0)) := (hS.of_below h5 hT0.out).sta i hlt
      have c3 := h4.cell i (by rw [fillV_length]; omega)
      have c4 := h4.cell (i + 8) (by rw [fillV_length]; omega)
      have f3 := h4.frozen i
      have f4 := h4.frozen (i + 8)
      have k1 : (i : Int) + 8 < 16 := by omega
      have k2 : (0 : Int) ≤ (i : Int) + 8 := by omega
      have k3 : ((i : Int) + 8).toNat = i + 8 := by omega
      have kw : IntKind.i64.wrap ((i : Int) + 8) = (i : Int) + 8 := IntWalk.i64_in _ ⟨by omega, by omega⟩
      have nn : ¬ i = i + 8 := by omega
      have nn' : ¬ i + 8 = i := by omega
      have hnx : Hid (fillV h (i + 1) = ((fillV h i).set i (h.getD i 0)).set (i + 8) (staL.getD i 0)) := rfl
      generalize h.getD i 0 = X at *
      generalize staL.getD i 0 = Y at *
      go_wp2_with fail
      go_region
      go_wp2_with fail
      go_roundg (gk - 1)
      case measure => omega
      case rel =>
        refine ⟨i + 1, by omega, by go_num, ((h1.oth (by omega) _ _).oth (by omega) _ _).drew, ((h2.oth (by omega) _ _).oth (by omega) _ _).drew, ((h3.oth (by omega) _ _).oth (by omega) _ _).drew, ?_, (Below.own (Below.own h5 (by omega) _ _) (by omega) _ _).drew⟩
        rw [hnx.out]
        exact ((h4.set _ _).set _ _).drew
    · obtain rfl : i = 8 := by omega
      have hVl : (fillV h 8).length = 16 := fillV_length h 8
      have hfin : Hid (mixV h n false = mix14 (mix13 (mix12 (fillV h 8) n) n) false) := rfl
      generalize fillV h 8 = V at *
      have c12 := h4.cell 12 (by omega)
      have c13 := h4.cell 13 (by omega)
      have c14 := h4.cell 14 (by omega)
      have f12 := h4.frozen 12
      have f13 := h4.frozen 13
      have f14 := h4.frozen 14
      have x1 := fun x => xor_lo x n
      have x2 := fun x => xor_lo' x n
      have x3 := fun x => xor_hi x n hn
      have x4 := not_u'
      generalize e12 : V.getD 12 0 = V12 at *
      generalize e13 : V.getD 13 0 = V13 at *
      generalize e14 : V.getD 14 0 = V14 at *
      have HV12 : Hid (V.getD 12 0 = V12) := e12
      have HV13 : Hid (V.getD 13 0 = V13) := e13
      have HV14 : Hid (V.getD 14 0 = V14) := e14
      clear e12 e13 e14
      obtain ⟨X, hX0⟩ : ∃ X, X = (wr.setCell ⟨w.heap.size + 1 + 1 + 1, 12, none⟩ (U (uxor V12 (loU n)))).setCell ⟨w.heap.size + 1 + 1 + 1, 13, none⟩ (U (uxor V13 (hiU n))) := ⟨_, rfl⟩
      have g1 : Holds X w.heap.size 72 h := by rw [hX0]; exact (h1.oth (by omega) _ _).oth (by omega) _ _
      have g2 : Holds X (w.heap.size + 1) 74 m := by rw [hX0]; exact (h2.oth (by omega) _ _).oth (by omega) _ _
      have g3 : Holds X (w.heap.size + 1 + 1) 72 (List.replicate 8 0) := by rw [hX0]; exact (h3.oth (by omega) _ _).oth (by omega) _ _
      have g4 : Holds X (w.heap.size + 1 + 1 + 1) 74 ((V.set 12 (uxor V12 (loU n))).set 13 (uxor V13 (hiU n))) := by rw [hX0]; exact (h4.set _ _).set _ _
      have g5 : Hid (Below w.heap.size w X) := by rw [hX0]; exact Below.own (Below.own h5 (by omega) _ _) (by omega) _ _
      have hX : Hid (X = (wr.setCell ⟨w.heap.size + 1 + 1 + 1, 12, none⟩ (U (uxor V12 (loU n)))).setCell ⟨w.heap.size + 1 + 1 + 1, 13, none⟩ (U (uxor V13 (hiU n)))) := hX0
      clear hX0
      have hVV : Hid (mixV h n false = ((V.set 12 (uxor V12 (loU n))).set 13 (uxor V13 (hiU n)))) := by
        show _ = _
        rw [hfin.out]
        unfold mix14 mix13 mix12
        rw [if_neg (by decide), getD_set_ne _ _ _ _ (by decide), HV12.out, HV13.out]
      have hVl2 : (((V.set 12 (uxor V12 (loU n))).set 13 (uxor V13 (hiU n)))).length = 16 := by simp [hVl]
      generalize ((V.set 12 (uxor V12 (loU n))).set 13 (uxor V13 (hiU n))) = VV at *
      have r1 : Hid (((wr.setCell ⟨w.heap.size + 1 + 1 + 1, 12, none⟩ (U (uxor V12 (loU n)))).setCell ⟨w.heap.size + 1 + 1 + 1, 13, none⟩ (U (uxor V13 (hiU n)))).rangeAt (w.heap.size + 1 + 1 + 1) 0 (arr VV).toList) := by rw [← hX.out]; exact range_arr g4
      have r2 : Hid (((wr.setCell ⟨w.heap.size + 1 + 1 + 1, 12, none⟩ (U (uxor V12 (loU n)))).setCell ⟨w.heap.size + 1 + 1 + 1, 13, none⟩ (U (uxor V13 (hiU n)))).rangeAt (w.heap.size + 1) 0 (arr m).toList) := by rw [← hX.out]; exact range_arr g2
      have i1 := hi_arr VV hVl2
      have i2 := hi_arr m hm
      clear h1 h2 h3 h4
      go_wp2_with (first
        | (refine wpList_load_mid rfl 74 (.tmp 9) rfl (w.heap.size + 1 + 1 + 1) 0 rfl (arr VV).toList _ r1.out Tryd.underlying74 rfl i1 ?_)
        | (refine wpList_load_mid rfl 74 (.tmp 5) rfl (w.heap.size + 1) 0 rfl (arr m).toList _ r2.out Tryd.underlying74 rfl i2 ?_))
      rw [← hX.out]
      clear r1 r2 c12 c13 c14 f12 f13 f14 x1 x2 x3 x4
      refine (stir_any VV m hVl2 hm X ((hT.of_below g5.out hT0.out))).mono ?_
      rintro e wk ⟨rfl, hbk⟩
      have q1 : Holds wk w.heap.size 72 h := g1.of_below hbk g1.lt
      have q3 : Holds wk (w.heap.size + 1 + 1) 72 (List.replicate 8 0) := g3.of_below hbk g3.lt
      have q4 : Holds wk (w.heap.size + 1 + 1 + 1) 74 VV := g4.of_below hbk g4.lt
      have q5 : Hid (Below w.heap.size w wk) := g5.out.trans (hbk.mono g5.out.size)
      have hSl : (stirs m 10 VV).length = 16 := by rw [stirs_length, hVl2]
      have hSS : Hid (stirs m 10 (mixV h n false) = stirs m 10 VV) := by show _ = _; rw [hVV.out]
      generalize stirs m 10 VV = SV at *
      have hth : wk.there (w.heap.size + 1 + 1 + 1) 0 (arr SV).size := by
        intro j hj
        rw [arr_size, hSl] at hj
        rw [Nat.zero_add, q4.cell j (by omega), q4.frozen]
        exact ⟨rfl, rfl⟩
      have hi23' : (Tryd.prog.info? 74).map (·.size) = some (arr SV).size := by rw [size23, arr_size, hSl]
      have h1c := arr_one SV
      go_wp2_with (refine wpList_store_mid rfl 74 (.tmp 9) (.tmp 47) rfl (w.heap.size + 1 + 1 + 1) 0 (arr SV) rfl rfl hth hi23' h1c ?_)
      generalize hZ : wk.setCells (w.heap.size + 1 + 1 + 1) 0 (arr SV).toList = Z
      have p1 : Holds Z w.heap.size 72 h := by rw [← hZ]; exact Holds.others (by omega) _ _ _ q1
      have p3 : Holds Z (w.heap.size + 1 + 1) 72 (List.replicate 8 0) := by rw [← hZ]; exact Holds.others (by omega) _ _ _ q3
      have p4 : Holds Z (w.heap.size + 1 + 1 + 1) 74 SV := by
        rw [← hZ, show (arr SV).toList = SV.map U by simp [arr]]
        exact q4.setCells SV (by omega)
      have p5 : Hid (Below w.heap.size w Z) := by rw [← hZ]; exact Below.setNews (by omega) _ _ _ q5.out
      clear hZ hth hbk
      go_loopg [48] 8 (fun k v48 wz => ∃ i : Nat, i + k = 8 ∧ v48 = .int .i64 i ∧ Holds wz w.heap.size 72 (outV h SV i) ∧ Holds wz (w.heap.size + 1 + 1) 72 (List.replicate 8 0) ∧ Holds wz (w.heap.size + 1 + 1 + 1) 74 SV ∧ Below w.heap.size w wz)
      case atStart => exact ⟨0, rfl, rfl, p1, p3, p4, p5.out⟩
      case round =>
        obtain ⟨i, hi, rfl, h1, h3, h4, h5⟩ := hrel
        have hOl : (outV h SV i).length = 8 := by rw [outV_length, hh]
        by_cases hlt : i < 8
        · have hi8 : (i : Int) < 8 := by omega
          have i16 : (i : Int) < 16 := by omega
          have hnx : Hid (outV h SV (i + 1) = (outV h SV i).set i (uxor ((outV h SV i).getD i 0) (uxor (SV.getD i 0) (SV.getD (i + 8) 0)))) := rfl
          have c1 := h1.cell i (by omega)
          have c2 := h4.cell i (by omega)
          have c3 := h4.cell (i + 8) (by omega)
          have f1 := h1.frozen i
          have k1 : (i : Int) + 8 < 16 := by omega
          have k2 : (0 : Int) ≤ (i : Int) + 8 := by omega
          have k3 : ((i : Int) + 8).toNat = i + 8 := by omega
          have kw : IntKind.i64.wrap ((i : Int) + 8) = (i : Int) + 8 := IntWalk.i64_in _ ⟨by omega, by omega⟩
          have hx := xor_u
          generalize outV h SV i = OV at *
          generalize OV.getD i 0 = X1 at *
          generalize SV.getD i 0 = X2 at *
          generalize SV.getD (i + 8) 0 = X3 at *
          go_wp2_with fail
          refine wp_region_still_tail 12 mixedP (by kernel_rfl) ?_
          simp only [List.take_succ_cons, List.take_zero, List.drop_succ_cons, List.drop_zero]
          show wpStill _ _ wr.drew _ _ _
          repeat still_step
          refine wpStill_nil ?_
          go_wp2_with fail
          go_roundg (gk - 1)
          case measure => omega
          case rel =>
            refine ⟨i + 1, by omega, by go_num, ?_, (h3.oth (by omega) _ _).drew, (h4.oth (by omega) _ _).drew, (Below.own h5 (by omega) _ _).drew⟩
            rw [hnx.out]
            exact (h1.set _ _).drew
        · obtain rfl : i = 8 := by omega
          have hpr : Hid (pressL h m n false = outV h SV 8) := by show outV h (stirs m 10 (mixV h n false)) 8 = _; rw [hSS.out]
          generalize outV h SV 8 = OV at *
          have r1 := range_arr h1
          have i27 : (Tryd.prog.info? 72).map (·.size) = some (arr OV).toList.length := by rw [size27, Array.length_toList, arr_size, hOl]
          have i27' : (Tryd.prog.info? 72).map (·.size) = some (arr OV).size := by rw [size27, arr_size, hOl]
          have t27 : wr.there (w.heap.size + 1 + 1) 0 (arr OV).size := by
            intro j hj
            rw [arr_size, hOl] at hj
            rw [Nat.zero_add, h3.cell j (by simpa using hj), h3.frozen]
            exact ⟨rfl, rfl⟩
          have o27 := arr_one OV
          go_wp2_with (first
            | (refine wpList_load_mid rfl 72 (.tmp 4) rfl w.heap.size 0 rfl (arr OV).toList _ r1 Tryd.underlying72 rfl i27 ?_)
            | (refine wpList_store_mid rfl 72 (.tmp 8) (.tmp 65) rfl (w.heap.size + 1 + 1) 0 (arr OV) rfl rfl t27 i27' o27 ?_))
          refine bodyPost_ret (v := .agg (arr OV).toList.toArray) (results_cell Tryd.results55 _ _ (w.heap.size + 1 + 1) 0 (arr OV).toList _ rfl (World.rangeAt_setCells_same _ _ _ _ (by simpa using t27)) Tryd.underlying72 rfl i27) rfl ⟨?_, ?_⟩
          · rw [hpr.out]
          · exact Below.setNews (by omega) _ _ _ h5

set_option maxRecDepth 100000 in
set_option maxHeartbeats 2000000 in
theorem press_true (h m : List UInt32) (hh : h.length = 8) (hm : m.length = 16) (n : Nat) (hn : n < 18446744073709551616) (w : World) (hT : Tabs w) (hS : Starts w) :
    Calls Tryd.prog 55 #[.agg (arr h), .agg (arr m), .int .u64 (n : Int), .bool true] w fun e w' => e = .returned (.agg (arr (pressL h m n true))) ∧ Below w.heap.size w w' := by
  have s1 := arr_size
  have hT0 : Hid (2 < w.heap.size) := hT.size
  go_enter Tryd.func55, Tryd.ntmps55
  go_wp2_with fail
  obtain ⟨w2, hw2⟩ : ∃ w2, w2 = (((w.alloc (Obj.cells (arr h) 72)).alloc (Obj.cells (arr m) 74)).alloc (Obj.cells (arr (List.replicate 8 0)) 72)).alloc (Obj.cells (arr (List.replicate 16 0)) 74) := ⟨_, rfl⟩
  have a1 : Holds w2 w.heap.size 72 h := by rw [hw2]; exact (((Holds.new w 72 h).alloc _).alloc _).alloc _
  have a2 : Holds w2 (w.heap.size + 1) 74 m := by rw [hw2]; have := Holds.new (w.alloc (Obj.cells (arr h) 72)) 74 m; rw [World.size_alloc] at this; exact (this.alloc _).alloc _
  have a3 : Holds w2 (w.heap.size + 1 + 1) 72 (List.replicate 8 0) := by rw [hw2]; have := Holds.new ((w.alloc (Obj.cells (arr h) 72)).alloc (Obj.cells (arr m) 74)) 72 (List.replicate 8 0); rw [World.size_alloc, World.size_alloc] at this; exact this.alloc _
  have a4 : Holds w2 (w.heap.size + 1 + 1 + 1) 74 (List.replicate 16 0) := by rw [hw2]; have := Holds.new (((w.alloc (Obj.cells (arr h) 72)).alloc (Obj.cells (arr m) 74)).alloc (Obj.cells (arr (List.replicate 8 0)) 72)) 74 (List.replicate 16 0); rw [World.size_alloc, World.size_alloc, World.size_alloc] at this; exact this
  have a5 : Hid (Below w.heap.size w w2) := by rw [hw2]; exact ((((Below.refl _ w).alloc (Nat.le_refl _) _).alloc (by simp) _).alloc (by simp; omega) _).alloc (by simp; omega) _
  change Code.wp _ _ _ _ ((((w.alloc (Obj.cells (arr h) 72)).alloc (Obj.cells (arr m) 74)).alloc (Obj.cells (arr (List.replicate 8 0)) 72)).alloc (Obj.cells (arr (List.replicate 16 0)) 74))
  rw [← hw2]
  clear hw2
  go_loopg [12] 8 (fun k v12 wr => ∃ i : Nat, i + k = 8 ∧ v12 = .int .i64 i ∧ Holds wr w.heap.size 72 h ∧ Holds wr (w.heap.size + 1) 74 m ∧ Holds wr (w.heap.size + 1 + 1) 72 (List.replicate 8 0) ∧ Holds wr (w.heap.size + 1 + 1 + 1) 74 (fillV h i) ∧ Below w.heap.size w wr)
  case atStart => exact ⟨0, rfl, rfl, a1, a2, a3, a4, a5.out⟩
  case round =>
    obtain ⟨i, hi, rfl, h1, h2, h3, h4, h5⟩ := hrel
    by_cases hlt : i < 8
    · have hi8 : (i : Int) < 8 := by omega
      have c1 : wr.cell? ⟨w.heap.size, i, none⟩ = some (U (h.getD i 0)) := h1.cell i (by omega)
      have c2 : wr.cell? ⟨0, i, none⟩ = some (U (staL.getD i 0)) := (hS.of_below h5 hT0.out).sta i hlt
      have c3 := h4.cell i (by rw [fillV_length]; omega)
      have c4 := h4.cell (i + 8) (by rw [fillV_length]; omega)
      have f3 := h4.frozen i
      have f4 := h4.frozen (i + 8)
      have k1 : (i : Int) + 8 < 16 := by omega
      have k2 : (0 : Int) ≤ (i : Int) + 8 := by omega
      have k3 : ((i : Int) + 8).toNat = i + 8 := by omega
      have kw : IntKind.i64.wrap ((i : Int) + 8) = (i : Int) + 8 := IntWalk.i64_in _ ⟨by omega, by omega⟩
      have nn : ¬ i = i + 8 := by omega
      have nn' : ¬ i + 8 = i := by omega
      have hnx : Hid (fillV h (i + 1) = ((fillV h i).set i (h.getD i 0)).set (i + 8) (staL.getD i 0)) := rfl
      generalize h.getD i 0 = X at *
      generalize staL.getD i 0 = Y at *
      go_wp2_with fail
      go_region
      go_wp2_with fail
      go_roundg (gk - 1)
      case measure => omega
      case rel =>
        refine ⟨i + 1, by omega, by go_num, ((h1.oth (by omega) _ _).oth (by omega) _ _).drew, ((h2.oth (by omega) _ _).oth (by omega) _ _).drew, ((h3.oth (by omega) _ _).oth (by omega) _ _).drew, ?_, (Below.own (Below.own h5 (by omega) _ _) (by omega) _ _).drew⟩
        rw [hnx.out]
        exact ((h4.set _ _).set _ _).drew
    · obtain rfl : i = 8 := by omega
      have hVl : (fillV h 8).length = 16 := fillV_length h 8
      have hfin : Hid (mixV h n true = mix14 (mix13 (mix12 (fillV h 8) n) n) true) := rfl
      generalize fillV h 8 = V at *
      have c12 := h4.cell 12 (by omega)
      have c13 := h4.cell 13 (by omega)
      have c14 := h4.cell 14 (by omega)
      have f12 := h4.frozen 12
      have f13 := h4.frozen 13
      have f14 := h4.frozen 14
      have x1 := fun x => xor_lo x n
      have x2 := fun x => xor_lo' x n
      have x3 := fun x => xor_hi x n hn
      have x4 := not_u'
      generalize e12 : V.getD 12 0 = V12 at *
      generalize e13 : V.getD 13 0 = V13 at *
      generalize e14 : V.getD 14 0 = V14 at *
      have HV12 : Hid (V.getD 12 0 = V12) := e12
      have HV13 : Hid (V.getD 13 0 = V13) := e13
      have HV14 : Hid (V.getD 14 0 = V14) := e14
      clear e12 e13 e14
      obtain ⟨X, hX0⟩ : ∃ X, X = ((wr.setCell ⟨w.heap.size + 1 + 1 + 1, 12, none⟩ (U (uxor V12 (loU n)))).setCell ⟨w.heap.size + 1 + 1 + 1, 13, none⟩ (U (uxor V13 (hiU n)))).setCell ⟨w.heap.size + 1 + 1 + 1, 14, none⟩ (U (unot V14)) := ⟨_, rfl⟩
      have g1 : Holds X w.heap.size 72 h := by rw [hX0]; exact ((h1.oth (by omega) _ _).oth (by omega) _ _).oth (by omega) _ _
      have g2 : Holds X (w.heap.size + 1) 74 m := by rw [hX0]; exact ((h2.oth (by omega) _ _).oth (by omega) _ _).oth (by omega) _ _
      have g3 : Holds X (w.heap.size + 1 + 1) 72 (List.replicate 8 0) := by rw [hX0]; exact ((h3.oth (by omega) _ _).oth (by omega) _ _).oth (by omega) _ _
      have g4 : Holds X (w.heap.size + 1 + 1 + 1) 74 (((V.set 12 (uxor V12 (loU n))).set 13 (uxor V13 (hiU n))).set 14 (unot V14)) := by rw [hX0]; exact ((h4.set _ _).set _ _).set _ _
      have g5 : Hid (Below w.heap.size w X) := by rw [hX0]; exact Below.own (Below.own (Below.own h5 (by omega) _ _) (by omega) _ _) (by omega) _ _
      have hX : Hid (X = ((wr.setCell ⟨w.heap.size + 1 + 1 + 1, 12, none⟩ (U (uxor V12 (loU n)))).setCell ⟨w.heap.size + 1 + 1 + 1, 13, none⟩ (U (uxor V13 (hiU n)))).setCell ⟨w.heap.size + 1 + 1 + 1, 14, none⟩ (U (unot V14))) := hX0
      clear hX0
      have hVV : Hid (mixV h n true = (((V.set 12 (uxor V12 (loU n))).set 13 (uxor V13 (hiU n))).set 14 (unot V14))) := by
        show _ = _
        rw [hfin.out]
        unfold mix14 mix13 mix12
        rw [if_pos rfl, getD_set_ne _ _ _ _ (by decide), getD_set_ne _ _ _ _ (by decide), getD_set_ne _ _ _ _ (by decide), HV12.out, HV13.out, HV14.out]
      have hVl2 : ((((V.set 12 (uxor V12 (loU n))).set 13 (uxor V13 (hiU n))).set 14 (unot V14))).length = 16 := by simp [hVl]
      generalize (((V.set 12 (uxor V12 (loU n))).set 13 (uxor V13 (hiU n))).set 14 (unot V14)) = VV at *
      have r1 : Hid ((((wr.setCell ⟨w.heap.size + 1 + 1 + 1, 12, none⟩ (U (uxor V12 (loU n)))).setCell ⟨w.heap.size + 1 + 1 + 1, 13, none⟩ (U (uxor V13 (hiU n)))).setCell ⟨w.heap.size + 1 + 1 + 1, 14, none⟩ (U (unot V14))).rangeAt (w.heap.size + 1 + 1 + 1) 0 (arr VV).toList) := by rw [← hX.out]; exact range_arr g4
      have r2 : Hid ((((wr.setCell ⟨w.heap.size + 1 + 1 + 1, 12, none⟩ (U (uxor V12 (loU n)))).setCell ⟨w.heap.size + 1 + 1 + 1, 13, none⟩ (U (uxor V13 (hiU n)))).setCell ⟨w.heap.size + 1 + 1 + 1, 14, none⟩ (U (unot V14))).rangeAt (w.heap.size + 1) 0 (arr m).toList) := by rw [← hX.out]; exact range_arr g2
      have i1 := hi_arr VV hVl2
      have i2 := hi_arr m hm
      clear h1 h2 h3 h4
      go_wp2_with (first
        | (refine wpList_load_mid rfl 74 (.tmp 9) rfl (w.heap.size + 1 + 1 + 1) 0 rfl (arr VV).toList _ r1.out Tryd.underlying74 rfl i1 ?_)
        | (refine wpList_load_mid rfl 74 (.tmp 5) rfl (w.heap.size + 1) 0 rfl (arr m).toList _ r2.out Tryd.underlying74 rfl i2 ?_))
      rw [← hX.out]
      clear r1 r2 c12 c13 c14 f12 f13 f14 x1 x2 x3 x4
      refine (stir_any VV m hVl2 hm X ((hT.of_below g5.out hT0.out))).mono ?_
      rintro e wk ⟨rfl, hbk⟩
      have q1 : Holds wk w.heap.size 72 h := g1.of_below hbk g1.lt
      have q3 : Holds wk (w.heap.size + 1 + 1) 72 (List.replicate 8 0) := g3.of_below hbk g3.lt
      have q4 : Holds wk (w.heap.size + 1 + 1 + 1) 74 VV := g4.of_below hbk g4.lt
      have q5 : Hid (Below w.heap.size w wk) := g5.out.trans (hbk.mono g5.out.size)
      have hSl : (stirs m 10 VV).length = 16 := by rw [stirs_length, hVl2]
      have hSS : Hid (stirs m 10 (mixV h n true) = stirs m 10 VV) := by show _ = _; rw [hVV.out]
      generalize stirs m 10 VV = SV at *
      have hth : wk.there (w.heap.size + 1 + 1 + 1) 0 (arr SV).size := by
        intro j hj
        rw [arr_size, hSl] at hj
        rw [Nat.zero_add, q4.cell j (by omega), q4.frozen]
        exact ⟨rfl, rfl⟩
      have hi23' : (Tryd.prog.info? 74).map (·.size) = some (arr SV).size := by rw [size23, arr_size, hSl]
      have h1c := arr_one SV
      go_wp2_with (refine wpList_store_mid rfl 74 (.tmp 9) (.tmp 47) rfl (w.heap.size + 1 + 1 + 1) 0 (arr SV) rfl rfl hth hi23' h1c ?_)
      generalize hZ : wk.setCells (w.heap.size + 1 + 1 + 1) 0 (arr SV).toList = Z
      have p1 : Holds Z w.heap.size 72 h := by rw [← hZ]; exact Holds.others (by omega) _ _ _ q1
      have p3 : Holds Z (w.heap.size + 1 + 1) 72 (List.replicate 8 0) := by rw [← hZ]; exact Holds.others (by omega) _ _ _ q3
      have p4 : Holds Z (w.heap.size + 1 + 1 + 1) 74 SV := by
        rw [← hZ, show (arr SV).toList = SV.map U by simp [arr]]
        exact q4.setCells SV (by omega)
      have p5 : Hid (Below w.heap.size w Z) := by rw [← hZ]; exact Below.setNews (by omega) _ _ _ q5.out
      clear hZ hth hbk
      go_loopg [48] 8 (fun k v48 wz => ∃ i : Nat, i + k = 8 ∧ v48 = .int .i64 i ∧ Holds wz w.heap.size 72 (outV h SV i) ∧ Holds wz (w.heap.size + 1 + 1) 72 (List.replicate 8 0) ∧ Holds wz (w.heap.size + 1 + 1 + 1) 74 SV ∧ Below w.heap.size w wz)
      case atStart => exact ⟨0, rfl, rfl, p1, p3, p4, p5.out⟩
      case round =>
        obtain ⟨i, hi, rfl, h1, h3, h4, h5⟩ := hrel
        have hOl : (outV h SV i).length = 8 := by rw [outV_length, hh]
        by_cases hlt : i < 8
        · have hi8 : (i : Int) < 8 := by omega
          have i16 : (i : Int) < 16 := by omega
          have hnx : Hid (outV h SV (i + 1) = (outV h SV i).set i (uxor ((outV h SV i).getD i 0) (uxor (SV.getD i 0) (SV.getD (i + 8) 0)))) := rfl
          have c1 := h1.cell i (by omega)
          have c2 := h4.cell i (by omega)
          have c3 := h4.cell (i + 8) (by omega)
          have f1 := h1.frozen i
          have k1 : (i : Int) + 8 < 16 := by omega
          have k2 : (0 : Int) ≤ (i : Int) + 8 := by omega
          have k3 : ((i : Int) + 8).toNat = i + 8 := by omega
          have kw : IntKind.i64.wrap ((i : Int) + 8) = (i : Int) + 8 := IntWalk.i64_in _ ⟨by omega, by omega⟩
          have hx := xor_u
          generalize outV h SV i = OV at *
          generalize OV.getD i 0 = X1 at *
          generalize SV.getD i 0 = X2 at *
          generalize SV.getD (i + 8) 0 = X3 at *
          go_wp2_with fail
          refine wp_region_still_tail 12 mixedP (by kernel_rfl) ?_
          simp only [List.take_succ_cons, List.take_zero, List.drop_succ_cons, List.drop_zero]
          show wpStill _ _ wr.drew _ _ _
          repeat still_step
          refine wpStill_nil ?_
          go_wp2_with fail
          go_roundg (gk - 1)
          case measure => omega
          case rel =>
            refine ⟨i + 1, by omega, by go_num, ?_, (h3.oth (by omega) _ _).drew, (h4.oth (by omega) _ _).drew, (Below.own h5 (by omega) _ _).drew⟩
            rw [hnx.out]
            exact (h1.set _ _).drew
        · obtain rfl : i = 8 := by omega
          have hpr : Hid (pressL h m n true = outV h SV 8) := by show outV h (stirs m 10 (mixV h n true)) 8 = _; rw [hSS.out]
          generalize outV h SV 8 = OV at *
          have r1 := range_arr h1
          have i27 : (Tryd.prog.info? 72).map (·.size) = some (arr OV).toList.length := by rw [size27, Array.length_toList, arr_size, hOl]
          have i27' : (Tryd.prog.info? 72).map (·.size) = some (arr OV).size := by rw [size27, arr_size, hOl]
          have t27 : wr.there (w.heap.size + 1 + 1) 0 (arr OV).size := by
            intro j hj
            rw [arr_size, hOl] at hj
            rw [Nat.zero_add, h3.cell j (by simpa using hj), h3.frozen]
            exact ⟨rfl, rfl⟩
          have o27 := arr_one OV
          go_wp2_with (first
            | (refine wpList_load_mid rfl 72 (.tmp 4) rfl w.heap.size 0 rfl (arr OV).toList _ r1 Tryd.underlying72 rfl i27 ?_)
            | (refine wpList_store_mid rfl 72 (.tmp 8) (.tmp 65) rfl (w.heap.size + 1 + 1) 0 (arr OV) rfl rfl t27 i27' o27 ?_))
          refine bodyPost_ret (v := .agg (arr OV).toList.toArray) (results_cell Tryd.results55 _ _ (w.heap.size + 1 + 1) 0 (arr OV).toList _ rfl (World.rangeAt_setCells_same _ _ _ _ (by simpa using t27)) Tryd.underlying72 rfl i27) rfl ⟨?_, ?_⟩
          · rw [hpr.out]
          · exact Below.setNews (by omega) _ _ _ h5

theorem press_any (h m : List UInt32) (hh : h.length = 8) (hm : m.length = 16) (n : Nat) (hn : n < 18446744073709551616) (last : Bool) (w : World) (hT : Tabs w) (hS : Starts w) :
    Calls Tryd.prog 55 #[.agg (arr h), .agg (arr m), .int .u64 (n : Int), .bool last] w fun e w' => e = .returned (.agg (arr (pressL h m n last))) ∧ Below w.heap.size w w' := by
  cases last
  · exact press_false h m hh hm n hn w hT hS
  · exact press_true h m hh hm n hn w hT hS
end Go.Proofs.YteomefhjglnghaaDoor.F
