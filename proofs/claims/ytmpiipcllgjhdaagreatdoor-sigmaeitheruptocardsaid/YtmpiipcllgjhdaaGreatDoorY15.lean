/- The walk of Press: for any words what it answers; nothing that was there turns. The walk of a folder's press: its piece folded into its words; the next piece begins with zeros. The walk of a folder's press. A folder and the text that has gone into it. -/
import Derived.Test.YtmpiipcllgjhdaaGreatDoorY01
import Derived.Test.YtmpiipcllgjhdaaGreatDoorY14
import Derived.StillTailTactics
import Derived.BigRegion
import Derived.Deep.RegionHeld3
set_option linter.unusedSimpArgs false
set_option linter.unusedVariables false
set_option maxRecDepth 100000
namespace Go.Proofs.YtmpiipcllgjhdaaGreatDoor.F
open Go.RowKit

theorem mixedP : Tryz.prog.follows .mixedOrders = true := by kernel_rfl
theorem size27 : (Tryz.prog.info? 173).map (·.size) = some 8 := by kernel_rfl
theorem xor_lo (x : UInt32) (n : Nat) : bits .xor .u32 (x.toNat : Int) (IntKind.u32.wrap (n : Int)) = ((uxor x (loU n)).toNat : Int) := by
  have e : IntKind.u32.wrap (n : Int) = ((loU n).toNat : Int) := by rw [loU_toNat, IntKind.wrap_u32]; omega
  rw [e, xor_u]
theorem xor_lo' (x : UInt32) (n : Nat) : bits .xor .u32 (x.toNat : Int) ((n : Int) % 4294967296) = ((uxor x (loU n)).toNat : Int) := by
  have e : (n : Int) % 4294967296 = ((loU n).toNat : Int) := by rw [loU_toNat]; omega
  rw [e, xor_u]
theorem xor_hi (x : UInt32) (n : Nat) (h : n < 18446744073709551616) : bits .xor .u32 (x.toNat : Int) ((n : Int) / 4294967296) = ((uxor x (hiU n)).toNat : Int) := by
  have e : (n : Int) / 4294967296 = ((hiU n).toNat : Int) := by rw [hiU_toNat n h]; omega
  rw [e, xor_u]
theorem not_u (x : UInt32) : bits .xor .u32 4294967295 (x.toNat : Int) = ((unot x).toNat : Int) := by
  have hx := ult x
  have h1 : (4294967295 : Int) = ((4294967295 : UInt32).toNat : Int) := rfl
  rw [h1, xor_u, unot_toNat]
  unfold uxor
  rw [UInt32.toNat_xor]
  have h2 : (4294967295 : UInt32).toNat ^^^ x.toNat = 4294967295 - x.toNat := by
    have h3 : (4294967295 : UInt32).toNat = 2 ^ 32 - 1 := rfl
    rw [h3]
    apply Nat.eq_of_testBit_eq
    intro i
    rw [Nat.testBit_xor, Nat.testBit_two_pow_sub_one, show 4294967295 - x.toNat = 2 ^ 32 - (x.toNat + 1) by omega, Nat.testBit_two_pow_sub_succ (by omega)]
    by_cases hi : i < 32
    · simp [hi]
    · have : x.toNat.testBit i = false := Nat.testBit_lt_two_pow (Nat.lt_of_lt_of_le hx (by
        have : 2 ^ 32 ≤ 2 ^ i := Nat.pow_le_pow_right (by omega) (by omega)
        omega))
      simp [hi, this]
  rw [h2]

theorem not_u' (x : UInt32) : bits .xor .u32 (if IntKind.u32.signed = true then -1 else IntKind.u32.max) (x.toNat : Int) = ((unot x).toNat : Int) := by
  have e : (if IntKind.u32.signed = true then -1 else IntKind.u32.max) = 4294967295 := by decide
  rw [e]; exact not_u x

set_option maxRecDepth 100000 in
set_option maxHeartbeats 2000000 in
theorem press_false (h m : List UInt32) (hh : h.length = 8) (hm : m.length = 16) (n : Nat) (hn : n < 18446744073709551616) (w : World) (hT : Tabs w) (hS : Starts w) :
    Calls Tryz.prog 154 #[.agg (arr h), .agg (arr m), .int .u64 (n : Int), .bool false] w fun e w' => e = .returned (.agg (arr (pressL h m n false))) ∧ Below w.heap.size w w' := by
  have s1 := arr_size
  have hT0 : Hid (3 < w.heap.size) := hT.size
  go_enter Tryz.func154, Tryz.ntmps154
  go_wp2_with fail
  obtain ⟨w2, hw2⟩ : ∃ w2, w2 = (((w.alloc (Obj.cells (arr h) 173)).alloc (Obj.cells (arr m) 199)).alloc (Obj.cells (arr (List.replicate 8 0)) 173)).alloc (Obj.cells (arr (List.replicate 16 0)) 199) := ⟨_, rfl⟩
  have a1 : Holds w2 w.heap.size 173 h := by rw [hw2]; exact (((Holds.new w 173 h).alloc _).alloc _).alloc _
  have a2 : Holds w2 (w.heap.size + 1) 199 m := by rw [hw2]; have := Holds.new (w.alloc (Obj.cells (arr h) 173)) 199 m; rw [World.size_alloc] at this; exact (this.alloc _).alloc _
  have a3 : Holds w2 (w.heap.size + 1 + 1) 173 (List.replicate 8 0) := by rw [hw2]; have := Holds.new ((w.alloc (Obj.cells (arr h) 173)).alloc (Obj.cells (arr m) 199)) 173 (List.replicate 8 0); rw [World.size_alloc, World.size_alloc] at this; exact this.alloc _
  have a4 : Holds w2 (w.heap.size + 1 + 1 + 1) 199 (List.replicate 16 0) := by rw [hw2]; have := Holds.new (((w.alloc (Obj.cells (arr h) 173)).alloc (Obj.cells (arr m) 199)).alloc (Obj.cells (arr (List.replicate 8 0)) 173)) 199 (List.replicate 16 0); rw [World.size_alloc, World.size_alloc, World.size_alloc] at this; exact this
  have a5 : Hid (Below w.heap.size w w2) := by rw [hw2]; exact ((((Below.refl _ w).alloc (Nat.le_refl _) _).alloc (by simp) _).alloc (by simp; omega) _).alloc (by simp; omega) _
  change Code.wp _ _ _ _ ((((w.alloc (Obj.cells (arr h) 173)).alloc (Obj.cells (arr m) 199)).alloc (Obj.cells (arr (List.replicate 8 0)) 173)).alloc (Obj.cells (arr (List.replicate 16 0)) 199))
  rw [← hw2]
  clear hw2
  go_loopg [12] 8 (fun k v12 wr => ∃ i : Nat, i + k = 8 ∧ v12 = .int .i64 i ∧ Holds wr w.heap.size 173 h ∧ Holds wr (w.heap.size + 1) 199 m ∧ Holds wr (w.heap.size + 1 + 1) 173 (List.replicate 8 0) ∧ Holds wr (w.heap.size + 1 + 1 + 1) 199 (fillV h i) ∧ Below w.heap.size w wr)
  case atStart => exact ⟨0, rfl, rfl, a1, a2, a3, a4, a5.out⟩
  case round =>
    obtain ⟨i, hi, rfl, h1, h2, h3, h4, h5⟩ := hrel
    by_cases hlt : i < 8
    · have hi8 : (i : Int) < 8 := by omega
      have c1 : wr.cell? ⟨w.heap.size, i, none⟩ = some (U (h.getD i 0)) := h1.cell i (by omega)
      have c2 : wr.cell? ⟨0, i, none⟩ = some (U (staL.getD i 0)) := (hS.of_below h5 hT0.out).sta i hlt
      have c3 := h4.cell i (by rw [fillV_length]; omega)
      have c4 := h4.cell (i + 8) (by rw [fillV_length]; omega)
      have f3 := h4.frozen i
      have f4 := h4.frozen (i + 8)
      have k1 : (i : Int) + 8 < 16 := by omega
      have k2 : (0 : Int) ≤ (i : Int) + 8 := by omega
      have k3 : ((i : Int) + 8).toNat = i + 8 := by omega
      have kw : IntKind.i64.wrap ((i : Int) + 8) = (i : Int) + 8 := IntWalk.i64_in _ ⟨by omega, by omega⟩
      have nn : ¬ i = i + 8 := by omega
      have nn' : ¬ i + 8 = i := by omega
      have hnx : Hid (fillV h (i + 1) = ((fillV h i).set i (h.getD i 0)).set (i + 8) (staL.getD i 0)) := rfl
      generalize h.getD i 0 = X at *
      generalize staL.getD i 0 = Y at *
      go_wp2_with fail
      go_region
      go_wp2_with fail
      go_roundg (gk - 1)
      case measure => omega
      case rel =>
        refine ⟨i + 1, by omega, by go_num, ((h1.oth (by omega) _ _).oth (by omega) _ _).drew, ((h2.oth (by omega) _ _).oth (by omega) _ _).drew, ((h3.oth (by omega) _ _).oth (by omega) _ _).drew, ?_, (Below.own (Below.own h5 (by omega) _ _) (by omega) _ _).drew⟩
        rw [hnx.out]
        exact ((h4.set _ _).set _ _).drew
    · obtain rfl : i = 8 := by omega
      have hVl : (fillV h 8).length = 16 := fillV_length h 8
      have hfin : Hid (mixV h n false = mix14 (mix13 (mix12 (fillV h 8) n) n) false) := rfl
      generalize fillV h 8 = V at *
      have c12 := h4.cell 12 (by omega)
      have c13 := h4.cell 13 (by omega)
      have c14 := h4.cell 14 (by omega)
      have f12 := h4.frozen 12
      have f13 := h4.frozen 13
      have f14 := h4.frozen 14
      have x1 := fun x => xor_lo x n
      have x2 := fun x => xor_lo' x n
      have x3 := fun x => xor_hi x n hn
      have x4 := not_u'
      generalize e12 : V.getD 12 0 = V12 at *
      generalize e13 : V.getD 13 0 = V13 at *
      generalize e14 : V.getD 14 0 = V14 at *
      have HV12 : Hid (V.getD 12 0 = V12) := e12
      have HV13 : Hid (V.getD 13 0 = V13) := e13
      have HV14 : Hid (V.getD 14 0 = V14) := e14
      clear e12 e13 e14
      obtain ⟨X, hX0⟩ : ∃ X, X = (wr.setCell ⟨w.heap.size + 1 + 1 + 1, 12, none⟩ (U (uxor V12 (loU n)))).setCell ⟨w.heap.size + 1 + 1 + 1, 13, none⟩ (U (uxor V13 (hiU n))) := ⟨_, rfl⟩
      have g1 : Holds X w.heap.size 173 h := by rw [hX0]; exact (h1.oth (by omega) _ _).oth (by omega) _ _
      have g2 : Holds X (w.heap.size + 1) 199 m := by rw [hX0]; exact (h2.oth (by omega) _ _).oth (by omega) _ _
      have g3 : Holds X (w.heap.size + 1 + 1) 173 (List.replicate 8 0) := by rw [hX0]; exact (h3.oth (by omega) _ _).oth (by omega) _ _
      have g4 : Holds X (w.heap.size + 1 + 1 + 1) 199 ((V.set 12 (uxor V12 (loU n))).set 13 (uxor V13 (hiU n))) := by rw [hX0]; exact (h4.set _ _).set _ _
      have g5 : Hid (Below w.heap.size w X) := by rw [hX0]; exact Below.own (Below.own h5 (by omega) _ _) (by omega) _ _
      have hX : Hid (X = (wr.setCell ⟨w.heap.size + 1 + 1 + 1, 12, none⟩ (U (uxor V12 (loU n)))).setCell ⟨w.heap.size + 1 + 1 + 1, 13, none⟩ (U (uxor V13 (hiU n)))) := hX0
      clear hX0
      have hVV : Hid (mixV h n false = ((V.set 12 (uxor V12 (loU n))).set 13 (uxor V13 (hiU n)))) := by
        show _ = _
        rw [hfin.out]
        unfold mix14 mix13 mix12
        rw [if_neg (by decide), getD_set_ne _ _ _ _ (by decide), HV12.out, HV13.out]
      have hVl2 : (((V.set 12 (uxor V12 (loU n))).set 13 (uxor V13 (hiU n)))).length = 16 := by simp [hVl]
      generalize ((V.set 12 (uxor V12 (loU n))).set 13 (uxor V13 (hiU n))) = VV at *
      have r1 : Hid (((wr.setCell ⟨w.heap.size + 1 + 1 + 1, 12, none⟩ (U (uxor V12 (loU n)))).setCell ⟨w.heap.size + 1 + 1 + 1, 13, none⟩ (U (uxor V13 (hiU n)))).rangeAt (w.heap.size + 1 + 1 + 1) 0 (arr VV).toList) := by rw [← hX.out]; exact range_arr g4
      have r2 : Hid (((wr.setCell ⟨w.heap.size + 1 + 1 + 1, 12, none⟩ (U (uxor V12 (loU n)))).setCell ⟨w.heap.size + 1 + 1 + 1, 13, none⟩ (U (uxor V13 (hiU n)))).rangeAt (w.heap.size + 1) 0 (arr m).toList) := by rw [← hX.out]; exact range_arr g2
      have i1 := hi_arr VV hVl2
      have i2 := hi_arr m hm
      clear h1 h2 h3 h4
      go_wp2_with (first
        | (refine wpList_load_mid rfl 199 (.tmp 9) rfl (w.heap.size + 1 + 1 + 1) 0 rfl (arr VV).toList _ r1.out Tryz.underlying199 rfl i1 ?_)
        | (refine wpList_load_mid rfl 199 (.tmp 5) rfl (w.heap.size + 1) 0 rfl (arr m).toList _ r2.out Tryz.underlying199 rfl i2 ?_))
      rw [← hX.out]
      clear r1 r2 c12 c13 c14 f12 f13 f14 x1 x2 x3 x4
      refine (stir_any VV m hVl2 hm X ((hT.of_below g5.out hT0.out))).mono ?_
      rintro e wk ⟨rfl, hbk⟩
      have q1 : Holds wk w.heap.size 173 h := g1.of_below hbk g1.lt
      have q3 : Holds wk (w.heap.size + 1 + 1) 173 (List.replicate 8 0) := g3.of_below hbk g3.lt
      have q4 : Holds wk (w.heap.size + 1 + 1 + 1) 199 VV := g4.of_below hbk g4.lt
      have q5 : Hid (Below w.heap.size w wk) := g5.out.trans (hbk.mono g5.out.size)
      have hSl : (stirs m 10 VV).length = 16 := by rw [stirs_length, hVl2]
      have hSS : Hid (stirs m 10 (mixV h n false) = stirs m 10 VV) := by show _ = _; rw [hVV.out]
      generalize stirs m 10 VV = SV at *
      have hth : wk.there (w.heap.size + 1 + 1 + 1) 0 (arr SV).size := by
        intro j hj
        rw [arr_size, hSl] at hj
        rw [Nat.zero_add, q4.cell j (by omega), q4.frozen]
        exact ⟨rfl, rfl⟩
      have hi23' : (Tryz.prog.info? 199).map (·.size) = some (arr SV).size := by rw [size23, arr_size, hSl]
      have h1c := arr_one SV
      go_wp2_with (refine wpList_store_mid rfl 199 (.tmp 9) (.tmp 47) rfl (w.heap.size + 1 + 1 + 1) 0 (arr SV) rfl rfl hth hi23' h1c ?_)
      generalize hZ : wk.setCells (w.heap.size + 1 + 1 + 1) 0 (arr SV).toList = Z
      have p1 : Holds Z w.heap.size 173 h := by rw [← hZ]; exact Holds.others (by omega) _ _ _ q1
      have p3 : Holds Z (w.heap.size + 1 + 1) 173 (List.replicate 8 0) := by rw [← hZ]; exact Holds.others (by omega) _ _ _ q3
      have p4 : Holds Z (w.heap.size + 1 + 1 + 1) 199 SV := by
        rw [← hZ, show (arr SV).toList = SV.map U by simp [arr]]
        exact q4.setCells SV (by omega)
      have p5 : Hid (Below w.heap.size w Z) := by rw [← hZ]; exact Below.setNews (by omega) _ _ _ q5.out
      clear hZ hth hbk
      go_loopg [48] 8 (fun k v48 wz => ∃ i : Nat, i + k = 8 ∧ v48 = .int .i64 i ∧ Holds wz w.heap.size 173 (outV h SV i) ∧ Holds wz (w.heap.size + 1 + 1) 173 (List.replicate 8 0) ∧ Holds wz (w.heap.size + 1 + 1 + 1) 199 SV ∧ Below w.heap.size w wz)
      case atStart => exact ⟨0, rfl, rfl, p1, p3, p4, p5.out⟩
      case round =>
        obtain ⟨i, hi, rfl, h1, h3, h4, h5⟩ := hrel
        have hOl : (outV h SV i).length = 8 := by rw [outV_length, hh]
        by_cases hlt : i < 8
        · have hi8 : (i : Int) < 8 := by omega
          have i16 : (i : Int) < 16 := by omega
          have hnx : Hid (outV h SV (i + 1) = (outV h SV i).set i (uxor ((outV h SV i).getD i 0) (uxor (SV.getD i 0) (SV.getD (i + 8) 0)))) := rfl
          have c1 := h1.cell i (by omega)
          have c2 := h4.cell i (by omega)
          have c3 := h4.cell (i + 8) (by omega)
          have f1 := h1.frozen i
          have k1 : (i : Int) + 8 < 16 := by omega
          have k2 : (0 : Int) ≤ (i : Int) + 8 := by omega
          have k3 : ((i : Int) + 8).toNat = i + 8 := by omega
          have kw : IntKind.i64.wrap ((i : Int) + 8) = (i : Int) + 8 := IntWalk.i64_in _ ⟨by omega, by omega⟩
          have hx := xor_u
          generalize outV h SV i = OV at *
          generalize OV.getD i 0 = X1 at *
          generalize SV.getD i 0 = X2 at *
          generalize SV.getD (i + 8) 0 = X3 at *
          go_wp2_with fail
          refine wp_region_still_tail 12 mixedP (by kernel_rfl) ?_
          simp only [List.take_succ_cons, List.take_zero, List.drop_succ_cons, List.drop_zero]
          show wpStill _ _ wr.drew _ _ _
          repeat still_step
          refine wpStill_nil ?_
          go_wp2_with fail
          go_roundg (gk - 1)
          case measure => omega
          case rel =>
            refine ⟨i + 1, by omega, by go_num, ?_, (h3.oth (by omega) _ _).drew, (h4.oth (by omega) _ _).drew, (Below.own h5 (by omega) _ _).drew⟩
            rw [hnx.out]
            exact (h1.set _ _).drew
        · obtain rfl : i = 8 := by omega
          have hpr : Hid (pressL h m n false = outV h SV 8) := by show outV h (stirs m 10 (mixV h n false)) 8 = _; rw [hSS.out]
          generalize outV h SV 8 = OV at *
          have r1 := range_arr h1
          have i27 : (Tryz.prog.info? 173).map (·.size) = some (arr OV).toList.length := by rw [size27, Array.length_toList, arr_size, hOl]
          have i27' : (Tryz.prog.info? 173).map (·.size) = some (arr OV).size := by rw [size27, arr_size, hOl]
          have t27 : wr.there (w.heap.size + 1 + 1) 0 (arr OV).size := by
            intro j hj
            rw [arr_size, hOl] at hj
            rw [Nat.zero_add, h3.cell j (by simpa using hj), h3.frozen]
            exact ⟨rfl, rfl⟩
          have o27 := arr_one OV
          go_wp2_with (first
            | (refine wpList_load_mid rfl 173 (.tmp 4) rfl w.heap.size 0 rfl (arr OV).toList _ r1 Tryz.underlying173 rfl i27 ?_)
            | (refine wpList_store_mid rfl 173 (.tmp 8) (.tmp 65) rfl (w.heap.size + 1 + 1) 0 (arr OV) rfl rfl t27 i27' o27 ?_))
          refine bodyPost_ret (v := .agg (arr OV).toList.toArray) (results_cell Tryz.results154 _ _ (w.heap.size + 1 + 1) 0 (arr OV).toList _ rfl (World.rangeAt_setCells_same _ _ _ _ (by simpa using t27)) Tryz.underlying173 rfl i27) rfl ⟨?_, ?_⟩
          · rw [hpr.out]
          · exact Below.setNews (by omega) _ _ _ h5

set_option maxRecDepth 100000 in
set_option maxHeartbeats 2000000 in
theorem press_true (h m : List UInt32) (hh : h.length = 8) (hm : m.length = 16) (n : Nat) (hn : n < 18446744073709551616) (w : World) (hT : Tabs w) (hS : Starts w) :
    Calls Tryz.prog 154 #[.agg (arr h), .agg (arr m), .int .u64 (n : Int), .bool true] w fun e w' => e = .returned (.agg (arr (pressL h m n true))) ∧ Below w.heap.size w w' := by
  have s1 := arr_size
  have hT0 : Hid (3 < w.heap.size) := hT.size
  go_enter Tryz.func154, Tryz.ntmps154
  go_wp2_with fail
  obtain ⟨w2, hw2⟩ : ∃ w2, w2 = (((w.alloc (Obj.cells (arr h) 173)).alloc (Obj.cells (arr m) 199)).alloc (Obj.cells (arr (List.replicate 8 0)) 173)).alloc (Obj.cells (arr (List.replicate 16 0)) 199) := ⟨_, rfl⟩
  have a1 : Holds w2 w.heap.size 173 h := by rw [hw2]; exact (((Holds.new w 173 h).alloc _).alloc _).alloc _
  have a2 : Holds w2 (w.heap.size + 1) 199 m := by rw [hw2]; have := Holds.new (w.alloc (Obj.cells (arr h) 173)) 199 m; rw [World.size_alloc] at this; exact (this.alloc _).alloc _
  have a3 : Holds w2 (w.heap.size + 1 + 1) 173 (List.replicate 8 0) := by rw [hw2]; have := Holds.new ((w.alloc (Obj.cells (arr h) 173)).alloc (Obj.cells (arr m) 199)) 173 (List.replicate 8 0); rw [World.size_alloc, World.size_alloc] at this; exact this.alloc _
  have a4 : Holds w2 (w.heap.size + 1 + 1 + 1) 199 (List.replicate 16 0) := by rw [hw2]; have := Holds.new (((w.alloc (Obj.cells (arr h) 173)).alloc (Obj.cells (arr m) 199)).alloc (Obj.cells (arr (List.replicate 8 0)) 173)) 199 (List.replicate 16 0); rw [World.size_alloc, World.size_alloc, World.size_alloc] at this; exact this
  have a5 : Hid (Below w.heap.size w w2) := by rw [hw2]; exact ((((Below.refl _ w).alloc (Nat.le_refl _) _).alloc (by simp) _).alloc (by simp; omega) _).alloc (by simp; omega) _
  change Code.wp _ _ _ _ ((((w.alloc (Obj.cells (arr h) 173)).alloc (Obj.cells (arr m) 199)).alloc (Obj.cells (arr (List.replicate 8 0)) 173)).alloc (Obj.cells (arr (List.replicate 16 0)) 199))
  rw [← hw2]
  clear hw2
  go_loopg [12] 8 (fun k v12 wr => ∃ i : Nat, i + k = 8 ∧ v12 = .int .i64 i ∧ Holds wr w.heap.size 173 h ∧ Holds wr (w.heap.size + 1) 199 m ∧ Holds wr (w.heap.size + 1 + 1) 173 (List.replicate 8 0) ∧ Holds wr (w.heap.size + 1 + 1 + 1) 199 (fillV h i) ∧ Below w.heap.size w wr)
  case atStart => exact ⟨0, rfl, rfl, a1, a2, a3, a4, a5.out⟩
  case round =>
    obtain ⟨i, hi, rfl, h1, h2, h3, h4, h5⟩ := hrel
    by_cases hlt : i < 8
    · have hi8 : (i : Int) < 8 := by omega
      have c1 : wr.cell? ⟨w.heap.size, i, none⟩ = some (U (h.getD i 0)) := h1.cell i (by omega)
      have c2 : wr.cell? ⟨0, i, none⟩ = some (U (staL.getD i 0)) := (hS.of_below h5 hT0.out).sta i hlt
      have c3 := h4.cell i (by rw [fillV_length]; omega)
      have c4 := h4.cell (i + 8) (by rw [fillV_length]; omega)
      have f3 := h4.frozen i
      have f4 := h4.frozen (i + 8)
      have k1 : (i : Int) + 8 < 16 := by omega
      have k2 : (0 : Int) ≤ (i : Int) + 8 := by omega
      have k3 : ((i : Int) + 8).toNat = i + 8 := by omega
      have kw : IntKind.i64.wrap ((i : Int) + 8) = (i : Int) + 8 := IntWalk.i64_in _ ⟨by omega, by omega⟩
      have nn : ¬ i = i + 8 := by omega
      have nn' : ¬ i + 8 = i := by omega
      have hnx : Hid (fillV h (i + 1) = ((fillV h i).set i (h.getD i 0)).set (i + 8) (staL.getD i 0)) := rfl
      generalize h.getD i 0 = X at *
      generalize staL.getD i 0 = Y at *
      go_wp2_with fail
      go_region
      go_wp2_with fail
      go_roundg (gk - 1)
      case measure => omega
      case rel =>
        refine ⟨i + 1, by omega, by go_num, ((h1.oth (by omega) _ _).oth (by omega) _ _).drew, ((h2.oth (by omega) _ _).oth (by omega) _ _).drew, ((h3.oth (by omega) _ _).oth (by omega) _ _).drew, ?_, (Below.own (Below.own h5 (by omega) _ _) (by omega) _ _).drew⟩
        rw [hnx.out]
        exact ((h4.set _ _).set _ _).drew
    · obtain rfl : i = 8 := by omega
      have hVl : (fillV h 8).length = 16 := fillV_length h 8
      have hfin : Hid (mixV h n true = mix14 (mix13 (mix12 (fillV h 8) n) n) true) := rfl
      generalize fillV h 8 = V at *
      have c12 := h4.cell 12 (by omega)
      have c13 := h4.cell 13 (by omega)
      have c14 := h4.cell 14 (by omega)
      have f12 := h4.frozen 12
      have f13 := h4.frozen 13
      have f14 := h4.frozen 14
      have x1 := fun x => xor_lo x n
      have x2 := fun x => xor_lo' x n
      have x3 := fun x => xor_hi x n hn
      have x4 := not_u'
      generalize e12 : V.getD 12 0 = V12 at *
      generalize e13 : V.getD 13 0 = V13 at *
      generalize e14 : V.getD 14 0 = V14 at *
      have HV12 : Hid (V.getD 12 0 = V12) := e12
      have HV13 : Hid (V.getD 13 0 = V13) := e13
      have HV14 : Hid (V.getD 14 0 = V14) := e14
      clear e12 e13 e14
      obtain ⟨X, hX0⟩ : ∃ X, X = ((wr.setCell ⟨w.heap.size + 1 + 1 + 1, 12, none⟩ (U (uxor V12 (loU n)))).setCell ⟨w.heap.size + 1 + 1 + 1, 13, none⟩ (U (uxor V13 (hiU n)))).setCell ⟨w.heap.size + 1 + 1 + 1, 14, none⟩ (U (unot V14)) := ⟨_, rfl⟩
      have g1 : Holds X w.heap.size 173 h := by rw [hX0]; exact ((h1.oth (by omega) _ _).oth (by omega) _ _).oth (by omega) _ _
      have g2 : Holds X (w.heap.size + 1) 199 m := by rw [hX0]; exact ((h2.oth (by omega) _ _).oth (by omega) _ _).oth (by omega) _ _
      have g3 : Holds X (w.heap.size + 1 + 1) 173 (List.replicate 8 0) := by rw [hX0]; exact ((h3.oth (by omega) _ _).oth (by omega) _ _).oth (by omega) _ _
      have g4 : Holds X (w.heap.size + 1 + 1 + 1) 199 (((V.set 12 (uxor V12 (loU n))).set 13 (uxor V13 (hiU n))).set 14 (unot V14)) := by rw [hX0]; exact ((h4.set _ _).set _ _).set _ _
      have g5 : Hid (Below w.heap.size w X) := by rw [hX0]; exact Below.own (Below.own (Below.own h5 (by omega) _ _) (by omega) _ _) (by omega) _ _
      have hX : Hid (X = ((wr.setCell ⟨w.heap.size + 1 + 1 + 1, 12, none⟩ (U (uxor V12 (loU n)))).setCell ⟨w.heap.size + 1 + 1 + 1, 13, none⟩ (U (uxor V13 (hiU n)))).setCell ⟨w.heap.size + 1 + 1 + 1, 14, none⟩ (U (unot V14))) := hX0
      clear hX0
      have hVV : Hid (mixV h n true = (((V.set 12 (uxor V12 (loU n))).set 13 (uxor V13 (hiU n))).set 14 (unot V14))) := by
        show _ = _
        rw [hfin.out]
        unfold mix14 mix13 mix12
        rw [if_pos rfl, getD_set_ne _ _ _ _ (by decide), getD_set_ne _ _ _ _ (by decide), getD_set_ne _ _ _ _ (by decide), HV12.out, HV13.out, HV14.out]
      have hVl2 : ((((V.set 12 (uxor V12 (loU n))).set 13 (uxor V13 (hiU n))).set 14 (unot V14))).length = 16 := by simp [hVl]
      generalize (((V.set 12 (uxor V12 (loU n))).set 13 (uxor V13 (hiU n))).set 14 (unot V14)) = VV at *
      have r1 : Hid ((((wr.setCell ⟨w.heap.size + 1 + 1 + 1, 12, none⟩ (U (uxor V12 (loU n)))).setCell ⟨w.heap.size + 1 + 1 + 1, 13, none⟩ (U (uxor V13 (hiU n)))).setCell ⟨w.heap.size + 1 + 1 + 1, 14, none⟩ (U (unot V14))).rangeAt (w.heap.size + 1 + 1 + 1) 0 (arr VV).toList) := by rw [← hX.out]; exact range_arr g4
      have r2 : Hid ((((wr.setCell ⟨w.heap.size + 1 + 1 + 1, 12, none⟩ (U (uxor V12 (loU n)))).setCell ⟨w.heap.size + 1 + 1 + 1, 13, none⟩ (U (uxor V13 (hiU n)))).setCell ⟨w.heap.size + 1 + 1 + 1, 14, none⟩ (U (unot V14))).rangeAt (w.heap.size + 1) 0 (arr m).toList) := by rw [← hX.out]; exact range_arr g2
      have i1 := hi_arr VV hVl2
      have i2 := hi_arr m hm
      clear h1 h2 h3 h4
      go_wp2_with (first
        | (refine wpList_load_mid rfl 199 (.tmp 9) rfl (w.heap.size + 1 + 1 + 1) 0 rfl (arr VV).toList _ r1.out Tryz.underlying199 rfl i1 ?_)
        | (refine wpList_load_mid rfl 199 (.tmp 5) rfl (w.heap.size + 1) 0 rfl (arr m).toList _ r2.out Tryz.underlying199 rfl i2 ?_))
      rw [← hX.out]
      clear r1 r2 c12 c13 c14 f12 f13 f14 x1 x2 x3 x4
      refine (stir_any VV m hVl2 hm X ((hT.of_below g5.out hT0.out))).mono ?_
      rintro e wk ⟨rfl, hbk⟩
      have q1 : Holds wk w.heap.size 173 h := g1.of_below hbk g1.lt
      have q3 : Holds wk (w.heap.size + 1 + 1) 173 (List.replicate 8 0) := g3.of_below hbk g3.lt
      have q4 : Holds wk (w.heap.size + 1 + 1 + 1) 199 VV := g4.of_below hbk g4.lt
      have q5 : Hid (Below w.heap.size w wk) := g5.out.trans (hbk.mono g5.out.size)
      have hSl : (stirs m 10 VV).length = 16 := by rw [stirs_length, hVl2]
      have hSS : Hid (stirs m 10 (mixV h n true) = stirs m 10 VV) := by show _ = _; rw [hVV.out]
      generalize stirs m 10 VV = SV at *
      have hth : wk.there (w.heap.size + 1 + 1 + 1) 0 (arr SV).size := by
        intro j hj
        rw [arr_size, hSl] at hj
        rw [Nat.zero_add, q4.cell j (by omega), q4.frozen]
        exact ⟨rfl, rfl⟩
      have hi23' : (Tryz.prog.info? 199).map (·.size) = some (arr SV).size := by rw [size23, arr_size, hSl]
      have h1c := arr_one SV
      go_wp2_with (refine wpList_store_mid rfl 199 (.tmp 9) (.tmp 47) rfl (w.heap.size + 1 + 1 + 1) 0 (arr SV) rfl rfl hth hi23' h1c ?_)
      generalize hZ : wk.setCells (w.heap.size + 1 + 1 + 1) 0 (arr SV).toList = Z
      have p1 : Holds Z w.heap.size 173 h := by rw [← hZ]; exact Holds.others (by omega) _ _ _ q1
      have p3 : Holds Z (w.heap.size + 1 + 1) 173 (List.replicate 8 0) := by rw [← hZ]; exact Holds.others (by omega) _ _ _ q3
      have p4 : Holds Z (w.heap.size + 1 + 1 + 1) 199 SV := by
        rw [← hZ, show (arr SV).toList = SV.map U by simp [arr]]
        exact q4.setCells SV (by omega)
      have p5 : Hid (Below w.heap.size w Z) := by rw [← hZ]; exact Below.setNews (by omega) _ _ _ q5.out
      clear hZ hth hbk
      go_loopg [48] 8 (fun k v48 wz => ∃ i : Nat, i + k = 8 ∧ v48 = .int .i64 i ∧ Holds wz w.heap.size 173 (outV h SV i) ∧ Holds wz (w.heap.size + 1 + 1) 173 (List.replicate 8 0) ∧ Holds wz (w.heap.size + 1 + 1 + 1) 199 SV ∧ Below w.heap.size w wz)
      case atStart => exact ⟨0, rfl, rfl, p1, p3, p4, p5.out⟩
      case round =>
        obtain ⟨i, hi, rfl, h1, h3, h4, h5⟩ := hrel
        have hOl : (outV h SV i).length = 8 := by rw [outV_length, hh]
        by_cases hlt : i < 8
        · have hi8 : (i : Int) < 8 := by omega
          have i16 : (i : Int) < 16 := by omega
          have hnx : Hid (outV h SV (i + 1) = (outV h SV i).set i (uxor ((outV h SV i).getD i 0) (uxor (SV.getD i 0) (SV.getD (i + 8) 0)))) := rfl
          have c1 := h1.cell i (by omega)
          have c2 := h4.cell i (by omega)
          have c3 := h4.cell (i + 8) (by omega)
          have f1 := h1.frozen i
          have k1 : (i : Int) + 8 < 16 := by omega
          have k2 : (0 : Int) ≤ (i : Int) + 8 := by omega
          have k3 : ((i : Int) + 8).toNat = i + 8 := by omega
          have kw : IntKind.i64.wrap ((i : Int) + 8) = (i : Int) + 8 := IntWalk.i64_in _ ⟨by omega, by omega⟩
          have hx := xor_u
          generalize outV h SV i = OV at *
          generalize OV.getD i 0 = X1 at *
          generalize SV.getD i 0 = X2 at *
          generalize SV.getD (i + 8) 0 = X3 at *
          go_wp2_with fail
          refine wp_region_still_tail 12 mixedP (by kernel_rfl) ?_
          simp only [List.take_succ_cons, List.take_zero, List.drop_succ_cons, List.drop_zero]
          show wpStill _ _ wr.drew _ _ _
          repeat still_step
          refine wpStill_nil ?_
          go_wp2_with fail
          go_roundg (gk - 1)
          case measure => omega
          case rel =>
            refine ⟨i + 1, by omega, by go_num, ?_, (h3.oth (by omega) _ _).drew, (h4.oth (by omega) _ _).drew, (Below.own h5 (by omega) _ _).drew⟩
            rw [hnx.out]
            exact (h1.set _ _).drew
        · obtain rfl : i = 8 := by omega
          have hpr : Hid (pressL h m n true = outV h SV 8) := by show outV h (stirs m 10 (mixV h n true)) 8 = _; rw [hSS.out]
          generalize outV h SV 8 = OV at *
          have r1 := range_arr h1
          have i27 : (Tryz.prog.info? 173).map (·.size) = some (arr OV).toList.length := by rw [size27, Array.length_toList, arr_size, hOl]
          have i27' : (Tryz.prog.info? 173).map (·.size) = some (arr OV).size := by rw [size27, arr_size, hOl]
          have t27 : wr.there (w.heap.size + 1 + 1) 0 (arr OV).size := by
            intro j hj
            rw [arr_size, hOl] at hj
            rw [Nat.zero_add, h3.cell j (by simpa using hj), h3.frozen]
            exact ⟨rfl, rfl⟩
          have o27 := arr_one OV
          go_wp2_with (first
            | (refine wpList_load_mid rfl 173 (.tmp 4) rfl w.heap.size 0 rfl (arr OV).toList _ r1 Tryz.underlying173 rfl i27 ?_)
            | (refine wpList_store_mid rfl 173 (.tmp 8) (.tmp 65) rfl (w.heap.size + 1 + 1) 0 (arr OV) rfl rfl t27 i27' o27 ?_))
          refine bodyPost_ret (v := .agg (arr OV).toList.toArray) (results_cell Tryz.results154 _ _ (w.heap.size + 1 + 1) 0 (arr OV).toList _ rfl (World.rangeAt_setCells_same _ _ _ _ (by simpa using t27)) Tryz.underlying173 rfl i27) rfl ⟨?_, ?_⟩
          · rw [hpr.out]
          · exact Below.setNews (by omega) _ _ _ h5

theorem press_any (h m : List UInt32) (hh : h.length = 8) (hm : m.length = 16) (n : Nat) (hn : n < 18446744073709551616) (last : Bool) (w : World) (hT : Tabs w) (hS : Starts w) :
    Calls Tryz.prog 154 #[.agg (arr h), .agg (arr m), .int .u64 (n : Int), .bool last] w fun e w' => e = .returned (.agg (arr (pressL h m n last))) ∧ Below w.heap.size w w' := by
  cases last
  · exact press_false h m hh hm n hn w hT hS
  · exact press_true h m hh hm n hn w hT hS
end Go.Proofs.YtmpiipcllgjhdaaGreatDoor.F
namespace Go.Proofs.YtmpiipcllgjhdaaGreatDoor.F
open Go.RowKit

/-- A folder: its words, its piece, how many bytes of it are there, how many of the text. -/
structure Fol where
  h : List UInt32
  p : List UInt8
  held : Nat
  n : Nat
def Fol.ok (f : Fol) : Prop := f.h.length = 8 ∧ f.p.length = 64 ∧ f.held ≤ 64 ∧ f.n < 18446744073709551616
def folC (f : Fol) : List Value := f.h.map U ++ (f.p.map Y ++ [.int .i64 (f.held : Int), .int .u64 (f.n : Int)])
theorem folC_length {f : Fol} (h : f.ok) : (folC f).length = 74 := by simp [folC, h.1, h.2.1]
/-- A folder lies in block b. -/
def FAt (w : World) (b : Nat) (f : Fol) : Prop := w.heap[b]? = some (.cells (folC f).toArray 176)
theorem FAt.lt {w : World} {b : Nat} {f : Fol} (h : FAt w b f) : b < w.heap.size := (Array.getElem?_eq_some_iff.1 h).1
theorem FAt.cell {w : World} {b : Nat} {f : Fol} (h : FAt w b f) (i : Nat) : w.cell? ⟨b, i, none⟩ = (folC f)[i]? := by
  unfold FAt at h
  simp [World.cell?, h]
theorem FAt.frozen {w : World} {b : Nat} {f : Fol} (h : FAt w b f) (i : Nat) : w.frozen? ⟨b, i, none⟩ = false := by
  unfold FAt at h
  simp [World.frozen?, h]
theorem FAt.of_below {w w' : World} {b B : Nat} {f : Fol} (h : FAt w b f) (hb : Below B w w') (hB : b < B) : FAt w' b f := by
  unfold FAt; rw [hb.block b hB]; exact h
theorem FAt.alloc {w : World} {b : Nat} {f : Fol} (h : FAt w b f) (o : Obj) : FAt (w.alloc o) b f := by
  unfold FAt; rw [Below.heap_alloc _ _ _ h.lt]; exact h
theorem FAt.words {w : World} {b : Nat} {f : Fol} (h : FAt w b f) (ok : f.ok) : w.rangeAt b 0 (arr f.h).toList := by
  intro j v hv
  have hj : j < 8 := by
    have := (List.getElem?_eq_some_iff.1 hv).1
    simpa [arr, ok.1] using this
  rw [Nat.zero_add, h.cell, folC, List.getElem?_append_left (by simp [ok.1]; omega)]
  simpa [arr] using hv
theorem FAt.piece {w : World} {b : Nat} {f : Fol} (h : FAt w b f) (ok : f.ok) : w.rangeAt b 8 (barr f.p).toList := by
  intro j v hv
  have hj : j < 64 := by
    have := (List.getElem?_eq_some_iff.1 hv).1
    simpa [barr, ok.2.1] using this
  rw [h.cell, folC, List.getElem?_append_right (by simp [ok.1]), List.getElem?_append_left (by simp [ok.1, ok.2.1]; omega)]
  have e : 8 + j - (f.h.map U).length = j := by simp [ok.1]
  rw [e]
  simpa [barr] using hv
theorem FAt.held {w : World} {b : Nat} {f : Fol} (h : FAt w b f) (ok : f.ok) : w.cell? ⟨b, 72, none⟩ = some (.int .i64 (f.held : Int)) := by
  rw [h.cell, folC, List.getElem?_append_right (by simp [ok.1]), List.getElem?_append_right (by simp [ok.1, ok.2.1])]
  simp [ok.1, ok.2.1]
theorem FAt.n {w : World} {b : Nat} {f : Fol} (h : FAt w b f) (ok : f.ok) : w.cell? ⟨b, 73, none⟩ = some (.int .u64 (f.n : Int)) := by
  rw [h.cell, folC, List.getElem?_append_right (by simp [ok.1]), List.getElem?_append_right (by simp [ok.1, ok.2.1])]
  simp [ok.1, ok.2.1]
theorem FAt.there {w : World} {b : Nat} {f : Fol} (h : FAt w b f) (ok : f.ok) (o n : Nat) (hn : o + n ≤ 74) : w.there b o n := by
  intro j hj
  rw [h.cell, h.frozen]
  refine ⟨?_, rfl⟩
  rw [List.getElem?_eq_getElem (by rw [folC_length ok]; omega)]
  rfl
/-- Cells of a block set one by one. -/
theorem block_setCells {w : World} {b : Nat} {t : TypeId} : ∀ (vs : List Value) (o : Nat) (cs : List Value) (w : World), w.heap[b]? = some (.cells cs.toArray t) → o + vs.length ≤ cs.length →
    (w.setCells b o vs).heap[b]? = some (.cells (cs.take o ++ vs ++ cs.drop (o + vs.length)).toArray t)
  | [], o, cs, w, h, _ => by simpa [World.setCells] using h
  | v :: r, o, cs, w, h, hle => by
    simp only [List.length_cons] at hle
    have h1 : (w.setCell ⟨b, o, none⟩ v).heap[b]? = some (.cells (cs.set o v).toArray t) := by
      simp [World.setCell, Array.getElem?_modify, h]
    have := block_setCells (w := w) (b := b) (t := t) r (o + 1) (cs.set o v) _ h1 (by simp; omega)
    simp only [World.setCells]
    rw [this]
    have e : (cs.set o v).take (o + 1) ++ r ++ (cs.set o v).drop (o + 1 + r.length) = cs.take o ++ (v :: r) ++ cs.drop (o + (r.length + 1)) := by
      rw [List.drop_set_of_lt (by omega), List.take_add_one]
      simp [List.take_set_of_le, show o < cs.length by omega, Nat.add_assoc, Nat.add_comm]
      omega
    rw [e]; rfl
theorem drop72 (A B C : List Value) (hA : A.length = 8) (hB : B.length = 64) : (A ++ (B ++ C)).drop (8 + 64) = C := by
  rw [← List.append_assoc, List.drop_left' (by simp [hA, hB])]
theorem set72 (A B : List Value) (x y z : Value) (hA : A.length = 8) (hB : B.length = 64) : (A ++ (B ++ [x, y])).set 72 z = A ++ (B ++ [z, y]) := by
  rw [List.set_append, if_neg (by omega), List.set_append, if_neg (by omega), hA, hB]; rfl
theorem set73 (A B : List Value) (x y z : Value) (hA : A.length = 8) (hB : B.length = 64) : (A ++ (B ++ [x, y])).set 73 z = A ++ (B ++ [x, z]) := by
  rw [List.set_append, if_neg (by omega), List.set_append, if_neg (by omega), hA, hB]; rfl
theorem FAt.setWords {w : World} {b : Nat} {f : Fol} (h : FAt w b f) (ok : f.ok) (h' : List UInt32) (hh : h'.length = 8) : FAt (w.setCells b 0 (arr h').toList) b { f with h := h' } := by
  have := block_setCells (w := w) (arr h').toList 0 (folC f) w h (by simp [arr, hh, folC_length ok])
  unfold FAt
  rw [this]
  congr 3
  have e : (arr h').toList = h'.map U := by simp [arr]
  rw [e]
  simp [folC, hh, ok.1]
theorem FAt.setPiece {w : World} {b : Nat} {f : Fol} (h : FAt w b f) (ok : f.ok) (p' : List UInt8) (hp : p'.length = 64) : FAt (w.setCells b 8 (barr p').toList) b { f with p := p' } := by
  have := block_setCells (w := w) (barr p').toList 8 (folC f) w h (by simp [barr, hp, folC_length ok])
  unfold FAt
  rw [this]
  congr 3
  have e : (barr p').toList = p'.map Y := by simp [barr]
  have l1 : (f.h.map U).length = 8 := by simp [ok.1]
  have l2 : (f.p.map Y).length = 64 := by simp [ok.2.1]
  rw [e]
  simp only [folC, List.length_map, hp]
  rw [List.take_left' l1, drop72 _ _ _ l1 l2, List.append_assoc]
theorem FAt.setHeld {w : World} {b : Nat} {f : Fol} (h : FAt w b f) (ok : f.ok) (k : Nat) : FAt (w.setCell ⟨b, 72, none⟩ (.int .i64 (k : Int))) b { f with held := k } := by
  have l1 : (f.h.map U).length = 8 := by simp [ok.1]
  have l2 : (f.p.map Y).length = 64 := by simp [ok.2.1]
  unfold FAt at *
  simp only [World.setCell, Array.getElem?_modify, if_true, h, Option.map_some]
  congr 2
  simp only [folC, List.setIfInBounds_toArray, Option.isSome_none, Bool.false_eq_true, if_false]
  rw [set72 _ _ _ _ _ l1 l2]
theorem FAt.setN {w : World} {b : Nat} {f : Fol} (h : FAt w b f) (ok : f.ok) (k : Nat) : FAt (w.setCell ⟨b, 73, none⟩ (.int .u64 (k : Int))) b { f with n := k } := by
  have l1 : (f.h.map U).length = 8 := by simp [ok.1]
  have l2 : (f.p.map Y).length = 64 := by simp [ok.2.1]
  unfold FAt at *
  simp only [World.setCell, Array.getElem?_modify, if_true, h, Option.map_some]
  congr 2
  simp only [folC, List.setIfInBounds_toArray, Option.isSome_none, Bool.false_eq_true, if_false]
  rw [set73 _ _ _ _ _ l1 l2]

/-- The folder behind a press. -/
def pressF (f : Fol) (last : Bool) : Fol := { h := pressL f.h (wordsL f.p) f.n last, p := List.replicate 64 0, held := 0, n := f.n }
theorem pressF_ok {f : Fol} (ok : f.ok) (last : Bool) : (pressF f last).ok := ⟨by rw [pressF, pressL_length]; exact ok.1, by simp [pressF], by simp [pressF], ok.2.2.2⟩
theorem size57 : (Tryz.prog.info? 174).map (·.size) = some 64 := by kernel_rfl
theorem barr_one (l : List UInt8) : (barr l).all (·.oneCell') = true := all_oneCell_toArray (fun v hv => by obtain ⟨x, _, rfl⟩ := List.mem_map.1 hv; rfl)
end Go.Proofs.YtmpiipcllgjhdaaGreatDoor.F
namespace Go.Proofs.YtmpiipcllgjhdaaGreatDoor.F
open Go.RowKit

set_option maxRecDepth 100000 in
set_option maxHeartbeats 1000000 in
theorem folPress_any (b : Nat) (f : Fol) (ok : f.ok) (last : Bool) (w : World) (hF : FAt w b f) (hb2 : 3 < b) (hT : Tabs w) (hS : Starts w) :
    Calls Tryz.prog 147 #[.pointer (some ⟨b, 0, none⟩), .bool last] w fun e w' => e = .returned (.tuple #[]) ∧ FAt w' b (pressF f last) ∧ But b w w' := by
  have hT0 : Hid (3 < w.heap.size) := hT.size
  have hu27 := Tryz.underlying173
  have hu57 := Tryz.underlying174
  have i27 : (Tryz.prog.info? 173).map (·.size) = some (arr f.h).toList.length := by rw [size27, Array.length_toList, arr_size, ok.1]
  have i57 : (Tryz.prog.info? 174).map (·.size) = some (barr f.p).toList.length := by rw [size57, Array.length_toList, barr_size, ok.2.1]
  go_enter Tryz.func147, Tryz.ntmps147
  go_wp2_with fail
  have HS : Hid (∀ w', Below w.heap.size w w' → (w'.rangeAt b 8 (barr f.p).toList ∧ w'.cell? ⟨b, 73, none⟩ = some (.int .u64 (f.n : Int)))) := fun w' h => ⟨(hF.of_below h hF.lt).piece ok, (hF.of_below h hF.lt).n ok⟩
  have HW : Hid (∀ w', Below w.heap.size w w' → w'.rangeAt b 0 (arr f.h).toList) := fun w' h => (hF.of_below h hF.lt).words ok
  have b0 : Hid (Below w.heap.size w w.drew) := (Below.refl _ _).drew
  refine wp_region_held_drew (S := fun w' => w'.rangeAt b 8 (barr f.p).toList ∧ w'.cell? ⟨b, 73, none⟩ = some (.int .u64 (f.n : Int))) (by kernel_rfl) (HS.out _ b0.out) (fun hHeld => ?_)
  refine wpAnyH_take (i := 0) (v := .pointer (some ⟨b, 0, none⟩)) rfl (by kernel_rfl) (by kernel_rfl) (by kernel_rfl) (fun _ _ _ h => h) (Or.inl ⟨by rfl, ?_⟩) hHeld ?_
  · intro w _; go_simp
  simp only [Act.put, List.getElem_toArray, List.getElem_cons_succ, List.getElem_cons_zero, List.setIfInBounds_toArray, List.set_cons_zero, List.set_cons_succ, Array.toArray_toList]
  refine wpAnyH_take (i := 1) (v := .pointer (some ⟨b, 0, none⟩)) rfl (by kernel_rfl) (by kernel_rfl) (by kernel_rfl) (fun _ _ _ h => h) (Or.inl ⟨by rfl, ?_⟩) hHeld ?_
  · intro w _; go_simp
  simp only [Act.put, List.getElem_toArray, List.getElem_cons_succ, List.getElem_cons_zero, List.setIfInBounds_toArray, List.set_cons_zero, List.set_cons_succ, Array.toArray_toList]
  refine wpAnyH_take (i := 2) (v := .pointer (some ⟨b, 0, none⟩)) rfl (by kernel_rfl) (by kernel_rfl) (by kernel_rfl) (fun _ _ _ h => h) (Or.inl ⟨by rfl, ?_⟩) hHeld ?_
  · intro w _; go_simp
  simp only [Act.put, List.getElem_toArray, List.getElem_cons_succ, List.getElem_cons_zero, List.setIfInBounds_toArray, List.set_cons_zero, List.set_cons_succ, Array.toArray_toList]
  refine wpAnyH_take (i := 3) (v := .pointer (some ⟨b, 0, none⟩)) rfl (by kernel_rfl) (by kernel_rfl) (by kernel_rfl) (fun _ _ _ h => h) (Or.inl ⟨by rfl, ?_⟩) hHeld ?_
  · intro w _; go_simp
  simp only [Act.put, List.getElem_toArray, List.getElem_cons_succ, List.getElem_cons_zero, List.setIfInBounds_toArray, List.set_cons_zero, List.set_cons_succ, Array.toArray_toList]
  refine wpAnyH_take (i := 5) (v := .pointer (some ⟨b, 0, none⟩)) rfl (by kernel_rfl) (by kernel_rfl) (by kernel_rfl) (fun _ _ _ h => h) (Or.inl ⟨by rfl, ?_⟩) hHeld ?_
  · intro w _; go_simp
  simp only [Act.put, List.getElem_toArray, List.getElem_cons_succ, List.getElem_cons_zero, List.setIfInBounds_toArray, List.set_cons_zero, List.set_cons_succ, Array.toArray_toList]
  refine wpAnyH_take (i := 6) (v := .pointer (some ⟨b, 0, none⟩)) rfl (by kernel_rfl) (by kernel_rfl) (by kernel_rfl) (fun _ _ _ h => h) (Or.inl ⟨by rfl, ?_⟩) hHeld ?_
  · intro w _; go_simp
  simp only [Act.put, List.getElem_toArray, List.getElem_cons_succ, List.getElem_cons_zero, List.setIfInBounds_toArray, List.set_cons_zero, List.set_cons_succ, Array.toArray_toList]
  refine wpAnyH_take (i := 7) (v := .pointer (some ⟨b, 8, none⟩)) rfl (by kernel_rfl) (by kernel_rfl) (by kernel_rfl) (fun _ _ _ h => h) (Or.inl ⟨by rfl, ?_⟩) hHeld ?_
  · intro w _; go_simp
  simp only [Act.put, List.getElem_toArray, List.getElem_cons_succ, List.getElem_cons_zero, List.setIfInBounds_toArray, List.set_cons_zero, List.set_cons_succ, Array.toArray_toList]
  refine wpAnyH_take (i := 10) (v := .pointer (some ⟨b, 0, none⟩)) rfl (by kernel_rfl) (by kernel_rfl) (by kernel_rfl) (fun _ _ _ h => h) (Or.inl ⟨by rfl, ?_⟩) hHeld ?_
  · intro w _; go_simp
  simp only [Act.put, List.getElem_toArray, List.getElem_cons_succ, List.getElem_cons_zero, List.setIfInBounds_toArray, List.set_cons_zero, List.set_cons_succ, Array.toArray_toList]
  refine wpAnyH_take (i := 11) (v := .pointer (some ⟨b, 0, none⟩)) rfl (by kernel_rfl) (by kernel_rfl) (by kernel_rfl) (fun _ _ _ h => h) (Or.inl ⟨by rfl, ?_⟩) hHeld ?_
  · intro w _; go_simp
  simp only [Act.put, List.getElem_toArray, List.getElem_cons_succ, List.getElem_cons_zero, List.setIfInBounds_toArray, List.set_cons_zero, List.set_cons_succ, Array.toArray_toList]
  refine wpAnyH_take (i := 12) (v := .pointer (some ⟨b, 73, none⟩)) rfl (by kernel_rfl) (by kernel_rfl) (by kernel_rfl) (fun _ _ _ h => h) (Or.inl ⟨by rfl, ?_⟩) hHeld ?_
  · intro w _; go_simp
  simp only [Act.put, List.getElem_toArray, List.getElem_cons_succ, List.getElem_cons_zero, List.setIfInBounds_toArray, List.set_cons_zero, List.set_cons_succ, Array.toArray_toList]
  refine wpAnyH_take (i := 14) (v := .bool last) rfl (by kernel_rfl) (by kernel_rfl) (by kernel_rfl) (fun _ _ _ h => h) (Or.inl ⟨by rfl, ?_⟩) hHeld ?_
  · intro w _; go_simp
  simp only [Act.put, List.getElem_toArray, List.getElem_cons_succ, List.getElem_cons_zero, List.setIfInBounds_toArray, List.set_cons_zero, List.set_cons_succ, Array.toArray_toList]
  refine wpAnyH_take (i := 8) rfl (by kernel_rfl) (by kernel_rfl) (by kernel_rfl) (fun _ _ _ h => h) (yieldsIf_load_mid (by rfl) 174 (.tmp 11) rfl _ 8 rfl (barr f.p).toList _ (fun _ h => h.1) hu57 rfl i57) hHeld ?_
  simp only [Act.put, List.getElem_toArray, List.getElem_cons_succ, List.getElem_cons_zero, List.setIfInBounds_toArray, List.set_cons_zero, List.set_cons_succ, Array.toArray_toList]
  refine wpAnyH_take (i := 13) (v := .int .u64 (f.n : Int)) rfl (by kernel_rfl) (by kernel_rfl) (by kernel_rfl) (fun _ _ _ h => h) (Or.inl ⟨by rfl, ?_⟩) hHeld ?_
  · intro w' hS'; obtain ⟨_, hc⟩ := hS'; go_simp
  simp only [Act.put, List.getElem_toArray, List.getElem_cons_succ, List.getElem_cons_zero, List.setIfInBounds_toArray, List.set_cons_zero, List.set_cons_succ, Array.toArray_toList]
  refine wpAnyH_ready (rs := [4, 9]) (by kernel_rfl) (by simp) ?_
  refine AllReadyH.cons rfl (fun K hK => ?_) (AllReadyH.cons rfl (fun K hK => ?_) AllReadyH.nil)
  · rw [if_pos (by rfl)]
    refine wp_load_mid 173 (.tmp 7) rfl b 0 rfl (arr f.h).toList _ (HW.out _ b0.out) hu27 rfl i27 ?_
    simp only [Act.put, List.getElem_toArray, List.getElem_cons_succ, List.getElem_cons_zero, List.setIfInBounds_toArray, List.set_cons_zero, List.set_cons_succ, Array.toArray_toList]
    refine hK.out _ _ (HS.out _ b0.out) (fun hHeld2 => ?_)
    clear hK K
    try simp only [Act.put, List.getElem_toArray, List.getElem_cons_succ, List.getElem_cons_zero, List.setIfInBounds_toArray, List.set_cons_zero, List.set_cons_succ, Array.toArray_toList]
    refine wpAnyH_ready (rs := [9]) (by kernel_rfl) (by simp) ?_
    refine AllReadyH.cons rfl (fun K hK => ?_) AllReadyH.nil
    go_simp
    refine (words_any f.p ok.2.1 _).mono ?_
    rintro e wa ⟨rfl, hbx⟩
    have b1 : Hid (Below w.heap.size w wa) := b0.out.trans (hbx.mono b0.out.size)
    clear hbx
    go_wp2_with fail
    refine hK.out _ _ (HS.out _ b1.out) (fun hHeld3 => ?_)
    clear hK K
    try simp only [Act.put, List.getElem_toArray, List.getElem_cons_succ, List.getElem_cons_zero, List.setIfInBounds_toArray, List.set_cons_zero, List.set_cons_succ, Array.toArray_toList]
    refine wpAnyH_ready (rs := [15]) (by kernel_rfl) (by simp) ?_
    refine AllReadyH.cons rfl (fun K hK => ?_) AllReadyH.nil
    go_simp
    refine (press_any f.h (wordsL f.p) ok.1 (wordsL_length _) f.n ok.2.2.2 last _ (hT.of_below b1.out hT0.out) (hS.of_below b1.out hT0.out)).mono ?_
    rintro e wp ⟨rfl, hbx⟩
    have b9 : Hid (Below w.heap.size w wp) := b1.out.trans (hbx.mono b1.out.size)
    clear hbx
    go_wp2_with fail
    refine hK.out _ _ (HS.out _ b9.out) (fun hHeld9 => ?_)
    clear hK K
    try simp only [Act.put, List.getElem_toArray, List.getElem_cons_succ, List.getElem_cons_zero, List.setIfInBounds_toArray, List.set_cons_zero, List.set_cons_succ, Array.toArray_toList]
    have hP : (pressL f.h (wordsL f.p) f.n last).length = 8 := by rw [pressL_length, ok.1]
    have hPe : Hid (pressF f last = { h := pressL f.h (wordsL f.p) f.n last, p := List.replicate 64 0, held := 0, n := f.n }) := rfl
    have hF9 := hF.of_below b9.out hF.lt
    generalize pressL f.h (wordsL f.p) f.n last = H' at *
    refine wpAnyH_take (i := 16) (v := .pointer (some ⟨b, 0, none⟩)) rfl (by kernel_rfl) (by kernel_rfl) (by kernel_rfl) (fun _ _ _ h => h) (Or.inl ⟨by rfl, ?_⟩) hHeld9 ?_
    · intro w _; go_simp
    simp only [Act.put, List.getElem_toArray, List.getElem_cons_succ, List.getElem_cons_zero, List.setIfInBounds_toArray, List.set_cons_zero, List.set_cons_succ, Array.toArray_toList]
    refine wpAnyH_take (i := 17) (v := .pointer (some ⟨b, 0, none⟩)) rfl (by kernel_rfl) (by kernel_rfl) (by kernel_rfl) (fun _ _ _ h => h) (Or.inl ⟨by rfl, ?_⟩) hHeld9 ?_
    · intro w _; go_simp
    simp only [Act.put, List.getElem_toArray, List.getElem_cons_succ, List.getElem_cons_zero, List.setIfInBounds_toArray, List.set_cons_zero, List.set_cons_succ, Array.toArray_toList]
    have t9 : wp.there b 0 (arr H').size := by rw [arr_size, hP]; exact hF9.there ok 0 8 (by omega)
    have i9 : (Tryz.prog.info? 173).map (·.size) = some (arr H').size := by rw [size27, arr_size, hP]
    have ok1 : Fol.ok { f with h := H' } := ⟨hP, ok.2.1, ok.2.2.1, ok.2.2.2⟩
    have hF10 := hF9.setWords ok H' hP
    refine wpAnyH_ready (rs := [18]) (by kernel_rfl) (by simp) ?_
    refine AllReadyH.cons rfl (fun K hK => ?_) AllReadyH.nil
    rw [if_pos (by rfl)]
    refine wp_store_mid 173 (.tmp 21) (.tmp 19) rfl b 0 (arr H') rfl rfl t9 i9 (arr_one H') ?_
    try simp only [Act.put, List.getElem_toArray, List.getElem_cons_succ, List.getElem_cons_zero, List.setIfInBounds_toArray, List.set_cons_zero, List.set_cons_succ, Array.toArray_toList]
    refine hK.out _ _ ⟨hF10.piece ok1, hF10.n ok1⟩ (fun hHeld10 => ?_)
    clear hK K
    try simp only [Act.put, List.getElem_toArray, List.getElem_cons_succ, List.getElem_cons_zero, List.setIfInBounds_toArray, List.set_cons_zero, List.set_cons_succ, Array.toArray_toList]
    refine wpAnyH_done (by kernel_rfl) ?_ _
    have bX : Hid (But b w (wp.setCells b 0 (arr H').toList)) := But.setOwn _ _ _ ⟨b9.out.os, b9.out.tape, b9.out.output, b9.out.size, fun k hk _ => b9.out.block k hk⟩
    clear hHeld10 hHeld9 t9
    generalize wp.setCells b 0 (arr H').toList = X at *
    have t57 : X.there b 8 (barr (List.replicate 64 0)).size := hF10.there ok1 8 64 (by omega)
    have ok2 : Fol.ok { h := H', p := List.replicate 64 0, held := f.held, n := f.n } := ⟨hP, by simp, ok.2.2.1, ok.2.2.2⟩
    have HZ : Hid (∀ Z, X.setCells b 8 (barr (List.replicate 64 0)).toList = Z → FAt Z b { h := H', p := List.replicate 64 0, held := f.held, n := f.n } ∧ But b w Z) := fun Z hZ => by rw [← hZ]; exact ⟨hF10.setPiece ok1 _ (by simp), But.setOwn _ _ _ bX.out⟩
    have i57' : (Tryz.prog.info? 174).map (·.size) = some (barr (List.replicate 64 0)).size := by rw [size57, barr_size]; simp
    have o57 := barr_one (List.replicate 64 0)
    go_wp2_with (refine wpList_store_mid rfl 174 (.tmp 25) (.tmp 23) rfl b 8 (barr (List.replicate 64 0)) rfl rfl t57 i57' o57 ?_; generalize hZ : X.setCells b 8 (barr (List.replicate 64 0)).toList = Z; have hFZ := HZ.out _ hZ; have c72 := hFZ.1.held ok2; have f72 := hFZ.1.frozen 72; clear hZ)
    go_end0
    refine ⟨rfl, ?_, hFZ.2.setCell _ _⟩
    rw [hPe.out]
    exact hFZ.1.setHeld ok2 0
  · go_simp
    refine (words_any f.p ok.2.1 _).mono ?_
    rintro e wa ⟨rfl, hbx⟩
    have b1 : Hid (Below w.heap.size w wa) := b0.out.trans (hbx.mono b0.out.size)
    clear hbx
    go_wp2_with fail
    refine hK.out _ _ (HS.out _ b1.out) (fun hHeld2 => ?_)
    clear hK K
    try simp only [Act.put, List.getElem_toArray, List.getElem_cons_succ, List.getElem_cons_zero, List.setIfInBounds_toArray, List.set_cons_zero, List.set_cons_succ, Array.toArray_toList]
    refine wpAnyH_ready (rs := [4]) (by kernel_rfl) (by simp) ?_
    refine AllReadyH.cons rfl (fun K hK => ?_) AllReadyH.nil
    rw [if_pos (by rfl)]
    refine wp_load_mid 173 (.tmp 7) rfl b 0 rfl (arr f.h).toList _ (HW.out _ b1.out) hu27 rfl i27 ?_
    simp only [Act.put, List.getElem_toArray, List.getElem_cons_succ, List.getElem_cons_zero, List.setIfInBounds_toArray, List.set_cons_zero, List.set_cons_succ, Array.toArray_toList]
    refine hK.out _ _ (HS.out _ b1.out) (fun hHeld3 => ?_)
    clear hK K
    try simp only [Act.put, List.getElem_toArray, List.getElem_cons_succ, List.getElem_cons_zero, List.setIfInBounds_toArray, List.set_cons_zero, List.set_cons_succ, Array.toArray_toList]
    refine wpAnyH_ready (rs := [15]) (by kernel_rfl) (by simp) ?_
    refine AllReadyH.cons rfl (fun K hK => ?_) AllReadyH.nil
    go_simp
    refine (press_any f.h (wordsL f.p) ok.1 (wordsL_length _) f.n ok.2.2.2 last _ (hT.of_below b1.out hT0.out) (hS.of_below b1.out hT0.out)).mono ?_
    rintro e wp ⟨rfl, hbx⟩
    have b9 : Hid (Below w.heap.size w wp) := b1.out.trans (hbx.mono b1.out.size)
    clear hbx
    go_wp2_with fail
    refine hK.out _ _ (HS.out _ b9.out) (fun hHeld9 => ?_)
    clear hK K
    try simp only [Act.put, List.getElem_toArray, List.getElem_cons_succ, List.getElem_cons_zero, List.setIfInBounds_toArray, List.set_cons_zero, List.set_cons_succ, Array.toArray_toList]
    have hP : (pressL f.h (wordsL f.p) f.n last).length = 8 := by rw [pressL_length, ok.1]
    have hPe : Hid (pressF f last = { h := pressL f.h (wordsL f.p) f.n last, p := List.replicate 64 0, held := 0, n := f.n }) := rfl
    have hF9 := hF.of_below b9.out hF.lt
    generalize pressL f.h (wordsL f.p) f.n last = H' at *
    refine wpAnyH_take (i := 16) (v := .pointer (some ⟨b, 0, none⟩)) rfl (by kernel_rfl) (by kernel_rfl) (by kernel_rfl) (fun _ _ _ h => h) (Or.inl ⟨by rfl, ?_⟩) hHeld9 ?_
    · intro w _; go_simp
    simp only [Act.put, List.getElem_toArray, List.getElem_cons_succ, List.getElem_cons_zero, List.setIfInBounds_toArray, List.set_cons_zero, List.set_cons_succ, Array.toArray_toList]
    refine wpAnyH_take (i := 17) (v := .pointer (some ⟨b, 0, none⟩)) rfl (by kernel_rfl) (by kernel_rfl) (by kernel_rfl) (fun _ _ _ h => h) (Or.inl ⟨by rfl, ?_⟩) hHeld9 ?_
    · intro w _; go_simp
    simp only [Act.put, List.getElem_toArray, List.getElem_cons_succ, List.getElem_cons_zero, List.setIfInBounds_toArray, List.set_cons_zero, List.set_cons_succ, Array.toArray_toList]
    have t9 : wp.there b 0 (arr H').size := by rw [arr_size, hP]; exact hF9.there ok 0 8 (by omega)
    have i9 : (Tryz.prog.info? 173).map (·.size) = some (arr H').size := by rw [size27, arr_size, hP]
    have ok1 : Fol.ok { f with h := H' } := ⟨hP, ok.2.1, ok.2.2.1, ok.2.2.2⟩
    have hF10 := hF9.setWords ok H' hP
    refine wpAnyH_ready (rs := [18]) (by kernel_rfl) (by simp) ?_
    refine AllReadyH.cons rfl (fun K hK => ?_) AllReadyH.nil
    rw [if_pos (by rfl)]
    refine wp_store_mid 173 (.tmp 21) (.tmp 19) rfl b 0 (arr H') rfl rfl t9 i9 (arr_one H') ?_
    try simp only [Act.put, List.getElem_toArray, List.getElem_cons_succ, List.getElem_cons_zero, List.setIfInBounds_toArray, List.set_cons_zero, List.set_cons_succ, Array.toArray_toList]
    refine hK.out _ _ ⟨hF10.piece ok1, hF10.n ok1⟩ (fun hHeld10 => ?_)
    clear hK K
    try simp only [Act.put, List.getElem_toArray, List.getElem_cons_succ, List.getElem_cons_zero, List.setIfInBounds_toArray, List.set_cons_zero, List.set_cons_succ, Array.toArray_toList]
    refine wpAnyH_done (by kernel_rfl) ?_ _
    have bX : Hid (But b w (wp.setCells b 0 (arr H').toList)) := But.setOwn _ _ _ ⟨b9.out.os, b9.out.tape, b9.out.output, b9.out.size, fun k hk _ => b9.out.block k hk⟩
    clear hHeld10 hHeld9 t9
    generalize wp.setCells b 0 (arr H').toList = X at *
    have t57 : X.there b 8 (barr (List.replicate 64 0)).size := hF10.there ok1 8 64 (by omega)
    have ok2 : Fol.ok { h := H', p := List.replicate 64 0, held := f.held, n := f.n } := ⟨hP, by simp, ok.2.2.1, ok.2.2.2⟩
    have HZ : Hid (∀ Z, X.setCells b 8 (barr (List.replicate 64 0)).toList = Z → FAt Z b { h := H', p := List.replicate 64 0, held := f.held, n := f.n } ∧ But b w Z) := fun Z hZ => by rw [← hZ]; exact ⟨hF10.setPiece ok1 _ (by simp), But.setOwn _ _ _ bX.out⟩
    have i57' : (Tryz.prog.info? 174).map (·.size) = some (barr (List.replicate 64 0)).size := by rw [size57, barr_size]; simp
    have o57 := barr_one (List.replicate 64 0)
    go_wp2_with (refine wpList_store_mid rfl 174 (.tmp 25) (.tmp 23) rfl b 8 (barr (List.replicate 64 0)) rfl rfl t57 i57' o57 ?_; generalize hZ : X.setCells b 8 (barr (List.replicate 64 0)).toList = Z; have hFZ := HZ.out _ hZ; have c72 := hFZ.1.held ok2; have f72 := hFZ.1.frozen 72; clear hZ)
    go_end0
    refine ⟨rfl, ?_, hFZ.2.setCell _ _⟩
    rw [hPe.out]
    exact hFZ.1.setHeld ok2 0
end Go.Proofs.YtmpiipcllgjhdaaGreatDoor.F
namespace Go.Proofs.YtmpiipcllgjhdaaGreatDoor.F
open Go.RowKit

/-- Bytes with zeros behind, 64 in all. -/
def pad64 (l : List UInt8) : List UInt8 := l ++ List.replicate (64 - l.length) 0
theorem pad64_length (l : List UInt8) (h : l.length ≤ 64) : (pad64 l).length = 64 := by simp [pad64]; omega
/-- The piece of a text with number k. -/
def pieceAt (T : List UInt8) (k : Nat) : List UInt8 := pad64 ((T.drop (64 * k)).take 64)
theorem pieceAt_length (T : List UInt8) (k : Nat) : (pieceAt T k).length = 64 := pad64_length _ (by simp; omega)
/-- The words behind k full pieces. -/
def hashTo (h0 : List UInt32) (T : List UInt8) : Nat → List UInt32
  | 0 => h0
  | k + 1 => pressL (hashTo h0 T k) (wordsL (pieceAt T k)) (64 * (k + 1)) false
theorem hashTo_length (h0 : List UInt32) (hh : h0.length = 8) (T : List UInt8) : ∀ k, (hashTo h0 T k).length = 8
  | 0 => hh
  | k + 1 => by rw [hashTo, pressL_length, hashTo_length h0 hh T k]
theorem pieceAt_more (T b : List UInt8) (k : Nat) (h : 64 * (k + 1) ≤ T.length) : pieceAt (T ++ b) k = pieceAt T k := by
  unfold pieceAt
  rw [List.drop_append_of_le_length (by omega), List.take_append_of_le_length (by simp; omega)]
theorem hashTo_more (h0 : List UInt32) (T b : List UInt8) : ∀ k, 64 * k ≤ T.length → hashTo h0 (T ++ b) k = hashTo h0 T k
  | 0, _ => rfl
  | k + 1, h => by rw [hashTo, hashTo, hashTo_more h0 T b k (by omega), pieceAt_more T b k h]
/-- A folder holds a text. -/
structure Rep (h0 : List UInt32) (T : List UInt8) (f : Fol) : Prop where
  h : f.h = hashTo h0 T ((T.length - 1) / 64)
  p : f.p = pieceAt T ((T.length - 1) / 64)
  held : f.held = T.length - 64 * ((T.length - 1) / 64)
  n : f.n = T.length
theorem Rep.ok {h0 : List UInt32} {T : List UInt8} {f : Fol} (r : Rep h0 T f) (hh : h0.length = 8) (hn : T.length < 18446744073709551616) : f.ok :=
  ⟨by rw [r.h]; exact hashTo_length h0 hh T _, by rw [r.p]; exact pieceAt_length _ _, by rw [r.held]; omega, by rw [r.n]; exact hn⟩
/-- What comes into the piece. -/
def putF (f : Fol) (c : List UInt8) : Fol := { h := f.h, p := f.p.take f.held ++ c ++ f.p.drop (f.held + c.length), held := f.held + c.length, n := f.n + c.length }
theorem putF_length {f : Fol} (ok : f.ok) (c : List UInt8) (hc : f.held + c.length ≤ 64) : (putF f c).p.length = 64 := by
  have := ok.2.1
  have := ok.2.2.1
  simp [putF]; omega
theorem pad_put (l c : List UInt8) (h : l.length + c.length ≤ 64) : (pad64 l).take l.length ++ c ++ (pad64 l).drop (l.length + c.length) = pad64 (l ++ c) := by
  unfold pad64
  rw [List.take_left' rfl, List.drop_append, List.drop_of_length_le (by omega)]
  simp
  omega
theorem Rep.put {h0 : List UInt32} {T : List UInt8} {f : Fol} (r : Rep h0 T f) (c : List UInt8) (hl : f.held < 64) (hc : f.held + c.length ≤ 64) : Rep h0 (T ++ c) (putF f c) := by
  have e1 := r.held
  have hk : ((T ++ c).length - 1) / 64 = (T.length - 1) / 64 := by simp; omega
  generalize hK : (T.length - 1) / 64 = k at *
  have hT : 64 * k ≤ T.length := by omega
  refine ⟨?_, ?_, ?_, ?_⟩
  · rw [hk]; show f.h = _; rw [r.h, hK, hashTo_more h0 T c k hT]
  · rw [hk]
    show f.p.take f.held ++ c ++ f.p.drop (f.held + c.length) = _
    have e2 : (T.drop (64 * k)).take 64 = T.drop (64 * k) := List.take_of_length_le (by simp; omega)
    have e3 : f.held = (T.drop (64 * k)).length := by rw [e1, List.length_drop]
    rw [r.p, hK, pieceAt, e2, e3, pad_put _ _ (by rw [← e3]; exact hc), pieceAt, List.drop_append_of_le_length hT, List.take_of_length_le (by simp; omega)]
  · rw [hk]; show f.held + c.length = _; rw [e1]; simp; omega
  · show f.n + c.length = _; rw [r.n]; simp
theorem Rep.full {h0 : List UInt32} {T : List UInt8} {f : Fol} (r : Rep h0 T f) (c : List UInt8) (hl : f.held = 64) (hc : c.length ≤ 64) (hp : 0 < c.length) : Rep h0 (T ++ c) (putF (pressF f false) c) := by
  have e1 := r.held
  have e4 := r.n
  have hk : ((T ++ c).length - 1) / 64 = (T.length - 1) / 64 + 1 := by simp; omega
  generalize hK : (T.length - 1) / 64 = k at *
  have hT : T.length = 64 * (k + 1) := by omega
  refine ⟨?_, ?_, ?_, ?_⟩
  · rw [hk, hashTo_more h0 T c (k + 1) (by omega)]
    show pressL f.h (wordsL f.p) f.n false = pressL (hashTo h0 T k) (wordsL (pieceAt T k)) (64 * (k + 1)) false
    rw [r.h, r.p, hK, e4, hT]
  · rw [hk]
    show (List.replicate 64 0).take 0 ++ c ++ (List.replicate 64 0).drop (0 + c.length) = _
    have e5 : (T ++ c).drop (64 * (k + 1)) = c := by rw [← hT]; exact List.drop_left' rfl
    rw [pieceAt, e5, List.take_of_length_le hc, pad64, List.drop_replicate, List.take_zero, List.nil_append, Nat.zero_add]
  · rw [hk]; show 0 + c.length = _; simp [hT]
  · show f.n + c.length = _; rw [e4]; simp
end Go.Proofs.YtmpiipcllgjhdaaGreatDoor.F
