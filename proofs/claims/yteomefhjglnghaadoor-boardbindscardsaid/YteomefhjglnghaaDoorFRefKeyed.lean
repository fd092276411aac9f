/- The walk of the reference's Keyed: the digest of the same text. -/
import Derived.Test.YteomefhjglnghaaDoorFDigest
import Derived.Test.YteomefhjglnghaaDoorFPower
import Derived.Test.YteomefhjglnghaaDoorFRefPress
import Derived.Deep.CutBlock
import Derived.Deep.DeepCutAuto
set_option linter.unusedSimpArgs false
set_option linter.unusedVariables false
set_option maxRecDepth 100000
namespace Go.Proofs.YteomefhjglnghaaDoor.F
open Go.RowKit

theorem bytes_append (a b : ByteArray) : (a ++ b).data.toList = a.data.toList ++ b.data.toList := by simp
theorem z8_eq : arr (List.replicate 8 0) = #[.int .u32 0, .int .u32 0, .int .u32 0, .int .u32 0, .int .u32 0, .int .u32 0, .int .u32 0, .int .u32 0] := rfl
theorem z16_eq : arr (List.replicate 16 0) = #[.int .u32 0, .int .u32 0, .int .u32 0, .int .u32 0, .int .u32 0, .int .u32 0, .int .u32 0, .int .u32 0, .int .u32 0, .int .u32 0, .int .u32 0, .int .u32 0, .int .u32 0, .int .u32 0, .int .u32 0, .int .u32 0] := rfl
theorem Holds.of_but {w w' : World} {b g : Nat} {t : TypeId} {l : List UInt32} (h : Holds w b t l) (hb : But g w w') (hg : b ≠ g) : Holds w' b t l := by
  unfold Holds; rw [hb.block b h.lt hg]; exact h
theorem word_val (x : UInt32) (y : UInt8) (p : Nat) : Value.int .u32 (((x.toNat : Int) + (y.toNat : Int) * (p : Int)) % 4294967296) = U (UInt32.ofNat (x.toNat + y.toNat * p)) := by
  rw [U, UInt32.toNat_ofNat', Int.natCast_emod, Int.natCast_add, Int.natCast_mul]; rfl
theorem info5 : (Tryd.prog.info? 5).map (fun i => (i.zero, i.size, i.bytes)) = some (some (.int .u8 0), 1, 1) := by kernel_rfl
def z32B : List UInt8 := List.replicate 32 0
theorem made32 : madeCells #[.int .u8 0] 32 = barr z32B := by kernel_rfl
theorem make32 (w : World) : (Instr.makeSlice 68 (.int .i64 32) (.int .i64 32)).run Tryd.prog w = .ok (.slice (some ⟨w.heap.size, 0, none⟩) 32 32) (w.alloc (.cells (barr z32B) 5)) := by
  have := run_make_row' (P := Tryd.prog) 68 5 (.int .u8 0) 1 Tryd.underlying68 info5 rfl .i64 .i64 32 (by omega) (by omega) w
  rw [made32] at this
  exact this
theorem pad_grow (l : List UInt8) (j : Nat) : l ++ List.replicate (j + 1) 0 = (l ++ List.replicate j 0) ++ [0] := by
  rw [List.replicate_succ', List.append_assoc]

set_option maxRecDepth 100000 in
set_option maxHeartbeats 2000000 in
theorem refKeyed_any (key t : ByteArray) (hk : key.size ≤ 32) (ht : t.size < 4611686018427387904) (w : World) :
    Calls Tryd.prog 33 #[.string key, .string t] w fun e w' => e = .returned (.tuple #[.string ⟨(digL (hK key.size) (keyT key.data.toList ++ t.data.toList)).toArray⟩, .bool true]) ∧ Below w.heap.size w w' := by
  have hkl : key.data.toList.length = key.size := (Lib.size_eq key).symm
  go_enter Tryd.func33, Tryd.ntmps33
  go_upto_if 23 with fail
  go_cut [6, 7] (fun v6 v7 wx => w = wx ∧ ∃ S : ByteArray, v6 = .string S ∧ S.data.toList = keyT key.data.toList ++ t.data.toList)
  case first =>
    by_cases hs : key.size = 0
    · have HKT : Hid (keyT key.data.toList = []) := by show _ = _; rw [keyT, if_pos (by omega)]
      go_wp2_with fail
      go_meet
      case rel => exact ⟨rfl, t, rfl, by rw [HKT.out]; rfl⟩
    · have HKT : Hid (keyT key.data.toList = key.data.toList ++ List.replicate (64 - key.size) 0) := by show _ = _; rw [keyT, if_neg (by omega), pad64, hkl]
      have hp : (0 : Int) < (key.size : Int) := by omega
      go_wp2_with fail
      go_loopg [7] (64 - key.size) (fun g z wx => w = wx ∧ ∃ (Z : ByteArray) (j : Nat), z = .string Z ∧ Z.data.toList = key.data.toList ++ List.replicate j 0 ∧ j + g + key.size = 64)
      case atStart => exact ⟨rfl, key, 0, rfl, by simp, by omega⟩
      case round =>
        obtain ⟨rfl, Z, j, rfl, hZ, hj⟩ := hrel
        have hzs : Z.size = key.size + j := by rw [Lib.size_eq, hZ]; simp [hkl]
        have HZ : Hid (Z.data.toList = key.data.toList ++ List.replicate j 0) := hZ
        clear hZ
        have HS : Hid (j + gk + key.size = 64 ∧ Z.size = key.size + j) := ⟨hj, hzs⟩
        clear hj hzs
        by_cases hlt : Z.size < 64
        · go_wp2_with fail
          go_roundg (gk - 1)
          case measure => have := HS.out; omega
          case rel =>
            refine ⟨rfl, Z ++ ⟨#[0]⟩, j + 1, rfl, ?_, by have := HS.out; omega⟩
            rw [pad_grow, ← HZ.out, bytes_append]
        · have h64 : Z.size = 64 := by have := HS.out; omega
          clear hlt
          go_wp2_with fail
          go_meet
          case rel =>
            refine ⟨rfl, Z ++ t, rfl, ?_⟩
            rw [HKT.out, bytes_append, HZ.out]
            have : j = 64 - key.size := by have := HS.out; omega
            rw [this]
  case rest =>
    obtain ⟨rfl, S, rfl, hS⟩ := hcut
    have HS : Hid (S.data.toList = keyT key.data.toList ++ t.data.toList) := hS
    have hsz : S.size < 4611686018427388000 := by
      have h1 : (keyT key.data.toList).length ≤ 64 := by
        unfold keyT; split
        · simp
        · rw [pad64_length _ (by omega)]; omega
      rw [Lib.size_eq, hS, List.length_append, ← Lib.size_eq]; omega
    clear hS hkl
    obtain ⟨P, hP⟩ : ∃ P, P = (S.size - 1) / 64 + 1 := ⟨_, rfl⟩
    go_upto_if 39 with fail
    go_cut [9] (fun v9 wx => w = wx ∧ v9 = .int .i64 (P : Int))
    case first =>
      by_cases h0 : S.size = 0
      · have HP : Hid (P = 1) := by show _ = _; rw [hP, h0]
        clear hP
        go_wp2_with fail
        go_meet
        case rel => exact ⟨rfl, by rw [HP.out]; rfl⟩
      · have HP : Hid ((P : Int) = ((S.size : Int) + 63) / 64) := by show _ = _; omega
        clear hP
        go_wp2_with fail
        go_meet
        case rel => exact ⟨rfl, by rw [HP.out]⟩
    case rest =>
      obtain ⟨rfl, rfl⟩ := hcut
      have HP : Hid (P = (S.size - 1) / 64 + 1) := hP
      clear hP
      go_wp2_with fail
      refine (refStart_any w).mono ?_
      rintro e X ⟨rfl, hbX⟩
      have i27 : (Tryd.prog.info? 72).map (·.size) = some (arr staL).size := by rw [size27, arr_size]; rfl
      have o27 := arr_one staL
      have u1 := Holds.new X 72 (List.replicate 8 0)
      have t27 : (X.alloc (Obj.cells (arr (List.replicate 8 0)) 72)).there X.heap.size 0 (arr staL).size := by
        intro j hj
        have hj' : j < 8 := by rw [arr_size] at hj; exact hj
        rw [Nat.zero_add, u1.cell j (by simpa using hj'), u1.frozen]
        exact ⟨rfl, rfl⟩
      obtain ⟨X1, hX1⟩ : ∃ X1, X1 = (X.alloc (Obj.cells (arr (List.replicate 8 0)) 72)).setCells X.heap.size 0 (arr staL).toList := ⟨_, rfl⟩
      have hgw : Hid (w.heap.size ≤ X.heap.size) := hbX.size
      have x1 : Holds X1 X.heap.size 72 staL := by
        rw [hX1, show (arr staL).toList = staL.map U by simp [arr]]
        exact u1.setCells staL rfl
      have xb : Hid (Below w.heap.size w X1) := by show Below _ _ _; rw [hX1]; exact Below.setNews hgw.out _ _ _ (hbX.alloc hbX.size _)
      have c0 : X1.cell? ⟨X.heap.size, 0, none⟩ = some (U 1779033703) := x1.cell 0 (by decide)
      have f0 := x1.frozen 0
      have kx : bits .xor .u32 1779033703 (16842784 + 256 * (key.size : Int)) = ((uxor 1779033703 (UInt32.ofNat (16842784 + 256 * key.size))).toNat : Int) := by
        have h1 := xor_u 1779033703 (UInt32.ofNat (16842784 + 256 * key.size))
        rw [UInt32.toNat_ofNat', Nat.mod_eq_of_lt (by omega)] at h1
        exact h1
      have y1 : Hid (Holds (X1.setCell ⟨X.heap.size, 0, none⟩ (U (uxor 1779033703 (UInt32.ofNat (16842784 + 256 * key.size))))) X.heap.size 72 (hK key.size)) := x1.set 0 _
      have yb : Hid (Below w.heap.size w (X1.setCell ⟨X.heap.size, 0, none⟩ (U (uxor 1779033703 (UInt32.ofNat (16842784 + 256 * key.size)))))) := Below.own xb.out hgw.out _ _
      generalize uxor 1779033703 (UInt32.ofNat (16842784 + 256 * key.size)) = NW at *
      clear u1 x1 hbX
      rw [z8_eq] at hX1 t27
      generalize arr staL = AS at *
      go_wp2_with (refine wpList_store_mid rfl 72 (.tmp 10) (.tmp 40) rfl X.heap.size 0 AS rfl rfl t27 i27 o27 ?_; rw [← hX1]; clear hX1)
      generalize X1.setCell ⟨X.heap.size, 0, none⟩ (U NW) = Y1 at *
      clear t27 i27 o27 c0 f0 kx xb
      generalize X.heap.size = g at *
      have HPb : Hid (P < 72057594037928000) := by have := HP.out; show _ < _; omega
      have hHl : Hid (∀ k, (refH (hK key.size) S.data.toList P k).length = 8) := refH_length _ (hK_length _) _ _
      go_loopg [11] P (fun gk v11 wr => ∃ k : Nat, k + gk = P ∧ v11 = .int .i64 k ∧ Holds wr g 72 (refH (hK key.size) S.data.toList P k) ∧ Below w.heap.size w wr)
      case atStart => exact ⟨0, by omega, rfl, y1.out, yb.out⟩
      case round =>
        obtain ⟨k, hk', rfl, h1, h2⟩ := hrel
        have HK' : Hid (k + gk = P) := hk'
        by_cases hlt : k < P
        · have hkb : k < 72057594037928000 := Nat.lt_trans hlt HPb.out
          have hnx : Hid (refH (hK key.size) S.data.toList P (k + 1) = pressL (refH (hK key.size) S.data.toList P k) (wordsL (pieceAt S.data.toList k)) (min (64 * k + 64) S.size) (decide (k + 1 = P))) := by show _ = _; rw [refH, ← Lib.size_eq]
          have hHk := hHl.out k
          generalize refH (hK key.size) S.data.toList P k = H at *
          have hacc : Hid (accTo ((S.data.toList.drop (64 * k)).take 64) ((S.data.toList.drop (64 * k)).take 64).length = wordsL (pieceAt S.data.toList k)) := acc_piece _ _
          have hpl : Hid (((S.data.toList.drop (64 * k)).take 64).length = min 64 (S.size - 64 * k)) := by show _ = _; rw [List.length_take, List.length_drop, ← Lib.size_eq]
          have hpg : Hid (∀ i, i < 64 → PlainAid.bt S (64 * k + i) = ((((S.data.toList.drop (64 * k)).take 64).getD i 0).toNat : Int)) := by
            intro i hi
            rw [List.getD_eq_getElem?_getD, List.getElem?_take, if_pos hi, List.getElem?_drop]
            unfold PlainAid.bt
            split
            · rename_i hb
              rw [List.getElem?_eq_getElem (by rw [← Lib.size_eq]; exact hb)]; rfl
            · rename_i hb
              rw [List.getElem?_eq_none (by rw [← Lib.size_eq]; omega)]; rfl
          generalize (S.data.toList.drop (64 * k)).take 64 = p at *
          generalize wordsL (pieceAt S.data.toList k) = M at *
          go_upto_block 4 with fail
          generalize hW : World.alloc wr _ = W
          have w1 : Hid (Holds W g 72 H) := by show Holds _ _ _ _; rw [← hW]; exact h1.alloc _
          have w2 : Hid (Below w.heap.size w W) := by show Below _ _ _; rw [← hW]; exact h2.alloc h2.size _
          have w3 : Hid (Holds W wr.heap.size 74 (List.replicate 16 0)) := by show Holds _ _ _ _; rw [← hW]; exact Holds.new wr 74 (List.replicate 16 0)
          have w4 : Hid (w.heap.size ≤ wr.heap.size) := h2.size
          have w5 : Hid (g ≠ wr.heap.size) := by have := h1.lt; show ¬ _; omega
          clear hW h1 h2
          generalize wr.heap.size = gm at *
          go_cut [13] (fun v13 wx => Holds wx g 72 H ∧ Holds wx gm 74 M ∧ Below w.heap.size w wx)
          case first =>
            go_wp2_with fail
            go_loopg [13] 64 (fun gi v13 wx => ∃ i : Nat, i + gi = 64 ∧ v13 = .int .i64 i ∧ i ≤ p.length ∧ Holds wx gm 74 (accTo p i) ∧ But gm W wx)
            case atStart => exact ⟨0, rfl, rfl, Nat.zero_le _, w3.out, But.refl _ _⟩
            case round =>
              obtain ⟨i, hi, rfl, hip, v1, vb⟩ := hrel
              have hl := accTo_length p i
              have HPL := hpl.out
              by_cases hlt2 : i < p.length
              · have i64 : (i : Int) < 64 := by omega
                have iS : 64 * (k : Int) + (i : Int) < (S.size : Int) := by omega
                have c0 := v1.cell (i / 4) (by omega)
                have f0 := v1.frozen (i / 4)
                have hb := PlainAid.get_bt S
                have hbt := hpg.out i (by omega)
                have hyl := ylt (p.getD i 0)
                have hnx2 : Hid (accTo p (i + 1) = (accTo p i).set (i / 4) (UInt32.ofNat (((accTo p i).getD (i / 4) 0).toNat + (p.getD i 0).toNat * 256 ^ (i % 4)))) := rfl
                have hpw := pow_lt (i % 4) (by omega)
                generalize p.getD i 0 = yb at *
                generalize accTo p i = L at *
                generalize L.getD (i / 4) 0 = xw at *
                have hxl := ult xw
                have HI : Hid (i + 1 ≤ p.length) := hlt2
                clear HPL hlt2 hip
                have kq : IntKind.i64.wrap ((i : Int) / 4) = ((i / 4 : Nat) : Int) := by rw [IntWalk.i64_in _ ⟨by omega, by omega⟩]; omega
                have kr : (i : Int).tmod 4 = ((i % 4 : Nat) : Int) := by rw [Int.tmod_eq_emod_of_nonneg (by omega)]; omega
                have hq16 : ((i / 4 : Nat) : Int) < 16 := by omega
                have hr4 : i % 4 < 4 := by omega
                have hpwc : ((256 ^ (i % 4) : Nat) : Int) < 4294967296 := Int.ofNat_lt.2 hpw
                have hpc := power_any (i % 4) (by omega) wr.drew
                have hmv : (xw.toNat : Int) + (yb.toNat : Int) * ((256 ^ (i % 4) : Nat) : Int) = ((xw.toNat + yb.toNat * 256 ^ (i % 4) : Nat) : Int) := by rw [Int.natCast_add, Int.natCast_mul]
                generalize 256 ^ (i % 4) = pw at *
                generalize i / 4 = q at *
                generalize i % 4 = r at *
                have km : IntKind.i64.wrap (64 * (k : Int)) = 64 * (k : Int) := IntWalk.i64_in _ ⟨by omega, by omega⟩
                have ka : IntKind.i64.wrap (64 * (k : Int) + (i : Int)) = 64 * (k : Int) + (i : Int) := IntWalk.i64_in _ ⟨by omega, by omega⟩
                have ks : (0 : Int) ≤ 64 * (k : Int) + (i : Int) := by omega
                have kt : (64 * (k : Int) + (i : Int)).toNat = 64 * k + i := by omega
                go_wp2_with fail
                refine wp_region_still_tail 19 mixed (by kernel_rfl) ?_
                simp only [List.take_succ_cons, List.take_zero, List.drop_succ_cons, List.drop_zero]
                show wpStill _ _ wr.drew _ _ _
                repeat still_step
                still_call hpc
                repeat still_step
                try refine wpStill_nil ?_
                clear hmv kq kr km ka ks kt hpc hbt hb hpw hpwc iS hr4
                go_wp2_with fail
                go_roundg (gk - 1)
                case measure => omega
                case rel =>
                  refine ⟨i + 1, by omega, by go_num, HI.out, ?_, (vb.setCell _ _).drew⟩
                  rw [hnx2.out, word_val]
                  exact (v1.set _ _)
              · have hie : i = p.length := by omega
                have HM : Hid (accTo p i = M) := by show _ = _; rw [hie]; exact hacc.out
                generalize accTo p i = L at *
                have hd : Hid (Holds wr g 72 H ∧ Holds wr gm 74 M ∧ Below w.heap.size w wr) := ⟨w1.out.of_but vb w5.out, by rw [← HM.out]; exact v1, w2.out.trans (vb.below w2.out.size w4.out)⟩
                by_cases h64 : i < 64
                · have i64 : (i : Int) < 64 := by omega
                  have iS : (S.size : Int) ≤ 64 * (k : Int) + (i : Int) := by omega
                  clear HPL hlt2 hip hie
                  go_wp2_with fail
                  go_meet
                  case rel => exact hd.out
                · have i64 : (64 : Int) ≤ (i : Int) := by omega
                  clear HPL hlt2 hip hie
                  go_wp2_with fail
                  go_meet
                  case rel => exact hd.out
          case rest =>
            obtain ⟨q1, q2, q3⟩ := hcut
            have hMl : M.length = 16 := by rw [← hacc.out]; exact accTo_length _ _
            have Q1 : Hid (Holds wc g 72 H) := q1
            have Q2 : Hid (Holds wc gm 74 M) := q2
            have Q3 : Hid (Below w.heap.size w wc) := q3
            clear q1 q2 q3 hacc hpl hpg w1 w2 w3
            go_upto_if 91 with fail
            go_cut [14] (fun v14 wx => wc = wx ∧ v14 = .int .i64 ((min (64 * k + 64) S.size : Nat) : Int))
            case first =>
              by_cases hn : 64 * k + 64 ≤ S.size
              · have hn' : 64 * (k : Int) + 64 ≤ (S.size : Int) := by omega
                go_wp2_with fail
                go_meet
                case rel => exact ⟨rfl, by rw [Nat.min_eq_left hn]; go_num⟩
              · have hn' : (S.size : Int) < 64 * (k : Int) + 64 := by omega
                go_wp2_with fail
                go_meet
                case rel => exact ⟨rfl, by rw [Nat.min_eq_right (by omega)]⟩
            case rest =>
              obtain ⟨rfl, rfl⟩ := hcut
              have hnl : min (64 * k + 64) S.size < 9223372036854775808 := by omega
              generalize min (64 * k + 64) S.size = n at *
              have r1 : wc.rangeAt g 0 (arr H).toList := by have := Q1.out.range; simpa [arr] using this
              have r2 : wc.rangeAt gm 0 (arr M).toList := by have := Q2.out.range; simpa [arr] using this
              have i27 : (Tryd.prog.info? 72).map (·.size) = some (arr H).toList.length := by rw [size27, Array.length_toList, arr_size, hHk]
              have i23 : (Tryd.prog.info? 74).map (·.size) = some (arr M).toList.length := by rw [size23, Array.length_toList, arr_size, hMl]
              have hbl : ((k : Int) == wrap64 ((P : Int) - 1)) = decide (k + 1 = P) := by
                have e : wrap64 ((P : Int) - 1) = (P : Int) - 1 := by have := HPb.out; unfold RowKit.wrap64; omega
                rw [e, Bool.eq_iff_iff]; simp; omega
              generalize decide (k + 1 = P) = last at *
              go_wp2_with (first
                | (refine wpList_load_mid rfl 72 (.tmp 10) rfl g 0 rfl (arr H).toList _ r1 Tryd.underlying72 rfl i27 ?_)
                | (refine wpList_load_mid rfl 74 (.tmp 12) rfl gm 0 rfl (arr M).toList _ r2 Tryd.underlying74 rfl i23 ?_))
              try rw [hbl]
              refine (refPress_any H M hHk hMl n (by omega) last wc).mono ?_
              rintro e wq ⟨rfl, hbq⟩
              have z1 := Q1.out.of_below hbq Q1.out.lt
              have hPl : (pressL H M n last).length = 8 := by rw [pressL_length, hHk]
              generalize pressL H M n last = PR at *
              have t27 : wq.there g 0 (arr PR).size := by
                intro j hj
                have hj' : j < 8 := by rw [arr_size] at hj; omega
                rw [Nat.zero_add, z1.cell j (by omega), z1.frozen]
                exact ⟨rfl, rfl⟩
              have i27' : (Tryd.prog.info? 72).map (·.size) = some (arr PR).size := by rw [size27, arr_size, hPl]
              have o27 := arr_one PR
              have zP : Hid (Holds (wq.setCells g 0 (arr PR).toList) g 72 PR) := by
                show Holds _ _ _ _
                rw [show (arr PR).toList = PR.map U by simp [arr]]
                exact z1.setCells PR (by omega)
              have zB : Hid (Below w.heap.size w (wq.setCells g 0 (arr PR).toList)) := Below.setNews hgw.out _ _ _ (Q3.out.trans (hbq.mono Q3.out.size))
              generalize arr PR = AP at *
              clear r1 r2 i27 i23 hbl z1 hbq
              go_wp2_with (refine wpList_store_mid rfl 72 (.tmp 10) (.tmp 101) rfl g 0 AP rfl rfl t27 i27' o27 ?_)
              go_roundg (gk - 1)
              case measure => omega
              case rel =>
                refine ⟨k + 1, by omega, by go_num, ?_, zB.out⟩
                rw [hnx.out]; exact zP.out
        · obtain rfl : k = P := by omega
          have hfin : Hid (outL (refH (hK key.size) S.data.toList k k) = digL (hK key.size) (keyT key.data.toList ++ t.data.toList)) := by
            show _ = _
            rw [refH_all _ _ _ (by rw [← Lib.size_eq]; exact HP.out), HS.out]
          have hHk := hHl.out k
          generalize refH (hK key.size) S.data.toList k k = H at *
          have hmk := make32
          go_wp2_with fail
          have go1 : Hid (BHolds (wr.alloc (Obj.cells (barr z32B) 5)) wr.heap.size 5 z32B) := BHolds.new wr 5 _
          have go2 : Hid (Holds (wr.alloc (Obj.cells (barr z32B) 5)) g 72 H) := h1.alloc _
          have go3 : Hid (Below w.heap.size w (wr.alloc (Obj.cells (barr z32B) 5))) := h2.alloc h2.size _
          have go4 : Hid (w.heap.size ≤ wr.heap.size) := h2.size
          have go5 : Hid (g ≠ wr.heap.size) := by have := h1.lt; show ¬ _; omega
          clear h1 h2 hk' HK' hlt hmk
          generalize wr.alloc (Obj.cells (barr z32B) 5) = W at *
          generalize wr.heap.size = go at *
          go_loopg [16] 32 (fun gi v16 wx => ∃ i : Nat, i + gi = 32 ∧ v16 = .int .i64 i ∧ BHolds wx go 5 (outTo H i) ∧ But go W wx)
          case atStart => exact ⟨0, rfl, rfl, go1.out, But.refl _ _⟩
          case round =>
            obtain ⟨i, hi, rfl, v1, vb⟩ := hrel
            have hl := outTo_length H i
            by_cases hlt : i < 32
            · have i32 : (i : Int) < 32 := by omega
              have d0 := v1.cell i (by omega)
              have e0 := v1.frozen i
              have c0 := (go2.out.of_but vb go5.out).cell (i / 4) (by omega)
              have hnx2 : Hid (outTo H (i + 1) = (outTo H i).set i (byteOf (H.getD (i / 4) 0) (i % 4))) := rfl
              have kq : IntKind.i64.wrap ((i : Int) / 4) = ((i / 4 : Nat) : Int) := by rw [IntWalk.i64_in _ ⟨by omega, by omega⟩]; omega
              have kr : (i : Int).tmod 4 = ((i % 4 : Nat) : Int) := by rw [Int.tmod_eq_emod_of_nonneg (by omega)]; omega
              have hq8 : ((i / 4 : Nat) : Int) < 8 := by omega
              have hpc := power_any (i % 4) (by omega) wr.drew
              have hpp : 0 < 256 ^ (i % 4) := Nat.pow_pos (by omega)
              have HPW : Hid (256 ^ (i % 4) = 2 ^ (8 * (i % 4))) := by show _ = _; rw [Nat.pow_mul]
              have hpn : ¬ ((256 ^ (i % 4) : Nat) : Int) = 0 := by omega
              generalize 256 ^ (i % 4) = pw at *
              generalize i / 4 = q at *
              generalize i % 4 = r at *
              generalize outTo H i = L at *
              generalize H.getD q 0 = xw at *
              generalize L.getD i 0 = y0 at *
              have hp0 : ¬ pw = 0 := by omega
              have hdl : xw.toNat / pw < 4294967296 := Nat.lt_of_le_of_lt (Nat.div_le_self _ _) (ult xw)
              have kd : IntKind.u32.wrap ((xw.toNat : Int) / (pw : Int)) = ((xw.toNat / pw : Nat) : Int) := by
                rw [← Int.natCast_ediv, IntKind.wrap_u32]; exact Int.emod_eq_of_lt (Int.natCast_nonneg _) (Int.ofNat_lt.2 hdl)
              have HDV : Hid (byteOf xw r = UInt8.ofNat (xw.toNat / pw)) := by show _ = _; rw [byteOf, HPW.out]
              generalize xw.toNat / pw = dv at *
              have kt : (dv : Int).tmod 256 = ((dv % 256 : Nat) : Int) := by rw [Int.tmod_eq_emod_of_nonneg (by omega)]; omega
              have hr256 : dv % 256 < 256 := by omega
              have HY : Hid (Value.int .u8 ((dv % 256 : Nat) : Int) = Y (UInt8.ofNat dv)) := by show _ = _; rw [Y, UInt8.toNat_ofNat']
              generalize dv % 256 = dr at *
              go_wp2_with fail
              refine wp_region_still_tail 13 mixed (by kernel_rfl) ?_
              simp only [List.take_succ_cons, List.take_zero, List.drop_succ_cons, List.drop_zero]
              show wpStill _ _ wr.drew _ _ _
              repeat still_step
              still_call hpc
              repeat still_step
              try refine wpStill_nil ?_
              clear hpc kq kr hq8 hpn kd kt hp0
              go_wp2_with fail
              go_roundg (gk - 1)
              case measure => omega
              case rel =>
                refine ⟨i + 1, by omega, by go_num, ?_, (vb.setCell _ _).drew⟩
                rw [hnx2.out, HDV.out, HY.out]
                exact v1.set _ _
            · have hid : Hid (i = 32) := by show i = 32; omega
              have hf2 : Hid (outTo H i = digL (hK key.size) (keyT key.data.toList ++ t.data.toList)) := by show _ = _; rw [hid.out, outTo_all, hfin.out]
              generalize outTo H i = L at *
              have hcv := run_convert_bytes_arg (P := Tryd.prog) wr 68 5 Tryd.underlying68 Tryd.underlying5 go 0 32 32 (L.map fun x => (x.toNat : Int)) (by simpa using hl) (fun j hj => by rw [Nat.zero_add, v1.cell j (by omega)]; simp [hl, hj]) 9 Tryd.underlying9
              rw [Lib.Lz.strOfNums_map] at hcv
              go_wp2_with fail
              go_ret2
              exact ⟨by rw [← hf2.out]; rfl, go3.out.trans (vb.below go3.out.size go4.out)⟩
set_option maxHeartbeats 400000 in
theorem refKeyed_long (key t : ByteArray) (hk : 32 < key.size) (hk2 : key.size < 9223372036854775808) (w : World) :
    Calls Tryd.prog 33 #[.string key, .string t] w fun e w' => e = .returned (.tuple #[.string ⟨#[]⟩, .bool false]) ∧ w' = w := by
  go_enter Tryd.func33, Tryd.ntmps33
  go_wp2_with fail
  go_ret2
  exact ⟨rfl, rfl⟩
set_option maxHeartbeats 400000 in
theorem refDigest_any (t : ByteArray) (ht : t.size < 4611686018427387904) (w : World) :
    Calls Tryd.prog 18 #[.string t] w fun e w' => e = .returned (.string ⟨(digL (hK 0) t.data.toList).toArray⟩) ∧ Below w.heap.size w w' := by
  go_enter Tryd.func18, Tryd.ntmps18
  go_wp2_with fail
  refine (refKeyed_any ⟨#[]⟩ t (by decide) ht w).mono ?_
  rintro e X ⟨rfl, hbX⟩
  have HD : Hid (keyT (⟨#[]⟩ : ByteArray).data.toList ++ t.data.toList = t.data.toList ∧ (⟨#[]⟩ : ByteArray).size = 0) := ⟨rfl, rfl⟩
  rw [HD.out.1, HD.out.2]
  generalize hD : digL (hK 0) t.data.toList = D at *
  have HD2 : Hid (digL (hK 0) t.data.toList = D) := hD
  clear hD
  go_wp2_with fail
  go_ret
  exact ⟨by rw [HD2.out]; rfl, hbX⟩
end Go.Proofs.YteomefhjglnghaaDoor.F
