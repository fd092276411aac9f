/- The walk of the reference's Press: the same words. The walk of the reference's Keyed: the digest of the same text. The walks of four and of the reference's Four: a number as four bytes. The walks of addParts, tag, and of the reference's Joined and Tag: texts, each behind its length. -/
import Derived.Test.YtkcnpcjogfhkbaaGreatDoorZ05
import Derived.Test.YtkcnpcjogfhkbaaGreatDoorZ08
import Derived.Deep.CutBlock
import Derived.Deep.DeepCutAuto
set_option linter.unusedSimpArgs false
set_option linter.unusedVariables false
set_option maxRecDepth 100000
namespace Go.Proofs.YtkcnpcjogfhkbaaGreatDoor.F
open Go.RowKit

abbrev staV : List Value := [.int .u32 1779033703, .int .u32 3144134277, .int .u32 1013904242, .int .u32 2773480762, .int .u32 1359893119, .int .u32 2600822924, .int .u32 528734635, .int .u32 1541459225]
theorem staV_eq : arr staL = staV.toArray := by kernel_rfl
theorem range_new (w : World) (cs : List Value) (t : TypeId) : (w.alloc (.cells cs.toArray t)).rangeAt w.heap.size 0 cs := by
  intro j v hv
  rw [Nat.zero_add, World.cell?_alloc_new]
  simpa using hv
theorem xor_lo3 (x : UInt32) (n : Nat) : bits .xor .u32 (x.toNat : Int) (IntKind.u32.wrap ((n : Int) % 4294967296)) = ((uxor x (loU n)).toNat : Int) := by
  have e : IntKind.u32.wrap ((n : Int) % 4294967296) = ((loU n).toNat : Int) := by rw [loU_toNat, IntKind.wrap_u32]; omega
  rw [e, xor_u]
theorem xor_hi3 (x : UInt32) (n : Nat) (h : n < 18446744073709551616) : bits .xor .u32 (x.toNat : Int) (IntKind.u32.wrap ((n : Int) / 4294967296)) = ((uxor x (hiU n)).toNat : Int) := by
  have e : IntKind.u32.wrap ((n : Int) / 4294967296) = ((hiU n).toNat : Int) := by rw [hiU_toNat n h, IntKind.wrap_u32]; omega
  rw [e, xor_u]
theorem not_s (x : UInt32) : (4294967295 - (x.toNat : Int)) % 4294967296 = ((unot x).toNat : Int) := by
  have := ult x
  rw [unot_toNat]; omega

end Go.Proofs.YtkcnpcjogfhkbaaGreatDoor.F
namespace Go.Proofs.YtkcnpcjogfhkbaaGreatDoor.F
open Go.RowKit

theorem bytes_append (a b : ByteArray) : (a ++ b).data.toList = a.data.toList ++ b.data.toList := by simp
theorem z8_eq : arr (List.replicate 8 0) = #[.int .u32 0, .int .u32 0, .int .u32 0, .int .u32 0, .int .u32 0, .int .u32 0, .int .u32 0, .int .u32 0] := rfl
theorem z16_eq : arr (List.replicate 16 0) = #[.int .u32 0, .int .u32 0, .int .u32 0, .int .u32 0, .int .u32 0, .int .u32 0, .int .u32 0, .int .u32 0, .int .u32 0, .int .u32 0, .int .u32 0, .int .u32 0, .int .u32 0, .int .u32 0, .int .u32 0, .int .u32 0] := rfl
theorem Holds.of_but {w w' : World} {b g : Nat} {t : TypeId} {l : List UInt32} (h : Holds w b t l) (hb : But g w w') (hg : b ≠ g) : Holds w' b t l := by
  unfold Holds; rw [hb.block b h.lt hg]; exact h
theorem word_val (x : UInt32) (y : UInt8) (p : Nat) : Value.int .u32 (((x.toNat : Int) + (y.toNat : Int) * (p : Int)) % 4294967296) = U (UInt32.ofNat (x.toNat + y.toNat * p)) := by
  rw [U, UInt32.toNat_ofNat', Int.natCast_emod, Int.natCast_add, Int.natCast_mul]; rfl
theorem info5 : (Tryz.prog.info? 5).map (fun i => (i.zero, i.size, i.bytes)) = some (some (.int .u8 0), 1, 1) := by kernel_rfl
def z32B : List UInt8 := List.replicate 32 0
theorem made32 : madeCells #[.int .u8 0] 32 = barr z32B := by kernel_rfl
theorem make32 (w : World) : (Instr.makeSlice 127 (.int .i64 32) (.int .i64 32)).run Tryz.prog w = .ok (.slice (some ⟨w.heap.size, 0, none⟩) 32 32) (w.alloc (.cells (barr z32B) 5)) := by
  have := run_make_row' (P := Tryz.prog) 127 5 (.int .u8 0) 1 Tryz.underlying127 info5 rfl .i64 .i64 32 (by omega) (by omega) w
  rw [made32] at this
  exact this
theorem pad_grow (l : List UInt8) (j : Nat) : l ++ List.replicate (j + 1) 0 = (l ++ List.replicate j 0) ++ [0] := by
  rw [List.replicate_succ', List.append_assoc]

end Go.Proofs.YtkcnpcjogfhkbaaGreatDoor.F
namespace Go.Proofs.YtkcnpcjogfhkbaaGreatDoor.F
open Go.RowKit

def fourL (n : Nat) : List UInt8 := [UInt8.ofNat (n / 16777216), UInt8.ofNat (n / 65536), UInt8.ofNat (n / 256), UInt8.ofNat n]
theorem fourL_length (n : Nat) : (fourL n).length = 4 := rfl

theorem four_cells (n : Nat) : #[Value.int .u8 ((n : Int) / 16777216 % 256), Value.int .u8 ((n : Int) / 65536 % 256), Value.int .u8 ((n : Int) / 256 % 256), Value.int .u8 ((n : Int) % 256)] = barr (fourL n) := by
  have e : ∀ m : Nat, Value.int .u8 ((m : Int) % 256) = Y (UInt8.ofNat m) := fun m => by rw [Y, UInt8.toNat_ofNat']; rfl
  have e1 := e (n / 16777216)
  have e2 := e (n / 65536)
  have e3 := e (n / 256)
  rw [Int.natCast_ediv] at e1 e2 e3
  simp only [barr, fourL, List.map_cons, List.map_nil]
  rw [← e1, ← e2, ← e3, ← e n]
  rfl
theorem four_convert (n : Nat) (w : World) :
    (convert 127 9 (.slice (some ⟨w.heap.size, 0, none⟩) 4 4)).run Tryz.prog (w.alloc (.cells #[Value.int .u8 ((n : Int) / 16777216 % 256), Value.int .u8 ((n : Int) / 65536 % 256), Value.int .u8 ((n : Int) / 256 % 256), Value.int .u8 ((n : Int) % 256)] 5)) =
      .ok (.string ⟨(fourL n).toArray⟩) (w.alloc (.cells #[Value.int .u8 ((n : Int) / 16777216 % 256), Value.int .u8 ((n : Int) / 65536 % 256), Value.int .u8 ((n : Int) / 256 % 256), Value.int .u8 ((n : Int) % 256)] 5)) := by
  rw [four_cells]
  have hv := BHolds.new w 5 (fourL n)
  have hcv := run_convert_bytes_arg (P := Tryz.prog) (w.alloc (.cells (barr (fourL n)) 5)) 127 5 Tryz.underlying127 Tryz.underlying5 w.heap.size 0 4 4 ((fourL n).map fun x => (x.toNat : Int)) (by simp [fourL]) (fun j hj => by rw [Nat.zero_add, hv.cell j hj]; simp [List.getElem?_eq_getElem (show j < (fourL n).length from hj)]) 9 Tryz.underlying9
  rw [Lib.Lz.strOfNums_map] at hcv
  exact hcv
set_option maxRecDepth 100000 in
set_option maxHeartbeats 400000 in
theorem fourB_any (n : Nat) (hn : n < 9223372036854775808) (w : World) :
    Calls Tryz.prog 115 #[.int .i64 (n : Int)] w fun e w' => e = .returned (.string ⟨(fourL n).toArray⟩) ∧ Below w.heap.size w w' := by
  have hcv := four_convert n w
  have HB : Hid (Below w.heap.size w (w.alloc (.cells #[Value.int .u8 ((n : Int) / 16777216 % 256), Value.int .u8 ((n : Int) / 65536 % 256), Value.int .u8 ((n : Int) / 256 % 256), Value.int .u8 ((n : Int) % 256)] 5))) := (Below.refl _ w).alloc (Nat.le_refl _) _
  generalize fourL n = F4 at *
  go_enter Tryz.func115, Tryz.ntmps115
  go_wp2_with fail
  go_ret
  exact ⟨rfl, HB.out⟩
end Go.Proofs.YtkcnpcjogfhkbaaGreatDoor.F
namespace Go.Proofs.YtkcnpcjogfhkbaaGreatDoor.F
open Go.RowKit

/-- Texts, each behind its length. -/
def partsL (ps : List ByteArray) : List UInt8 := ps.flatMap fun p => fourL p.size ++ p.data.toList
theorem partsL_nil : partsL [] = [] := rfl
theorem partsL_cons (p : ByteArray) (ps : List ByteArray) : partsL (p :: ps) = fourL p.size ++ p.data.toList ++ partsL ps := rfl
theorem partsL_append (a b : List ByteArray) : partsL (a ++ b) = partsL a ++ partsL b := by simp [partsL]
theorem partsL_one (p : ByteArray) : partsL [p] = fourL p.size ++ p.data.toList := by simp [partsL]
theorem partsL_take (ps : List ByteArray) (i : Nat) (h : i < ps.length) : partsL (ps.take (i + 1)) = partsL (ps.take i) ++ fourL ps[i].size ++ ps[i].data.toList := by
  rw [List.take_succ_eq_append_getElem h, partsL_append, partsL_one, List.append_assoc]
theorem partsL_le (ps : List ByteArray) (i : Nat) : (partsL (ps.take i)).length ≤ (partsL ps).length := by
  have h : partsL ps = partsL (ps.take i) ++ partsL (ps.drop i) := by rw [← partsL_append, List.take_append_drop]
  rw [h, List.length_append]; omega
theorem But.of_below {b : Nat} {u v w : World} (h : But b u v) (k : Below v.heap.size v w) : But b u w :=
  ⟨k.os.trans h.os, k.tape.trans h.tape, k.output.trans h.output, Nat.le_trans h.size k.size, fun i hi hb => (k.block i (Nat.lt_of_lt_of_le hi h.size)).trans (h.block i hi hb)⟩

set_option maxRecDepth 100000 in
set_option maxHeartbeats 1000000 in
theorem addParts_any (fb : Nat) (h0 : List UInt32) (hh : h0.length = 8) (T : List UInt8) (f : Fol) (r : Rep h0 T f) (a : Option Addr) (cap : Nat) (ps : List ByteArray) (w : World)
    (hps : ∀ i (h : i < ps.length), ∃ b o, a = some ⟨b, o, none⟩ ∧ b ≠ fb ∧ w.cell? ⟨b, o + i, none⟩ = some (.string ps[i])) (hl : ps.length < 4611686018427387904)
    (hsz : ∀ i (h : i < ps.length), ps[i].size < 4611686018427387904) (hn : T.length + (partsL ps).length < 18446744073709551616)
    (hF : FAt w fb f) (hb2 : 4 < fb) (hT : Tabs w) (hS : Starts w) :
    Calls Tryz.prog 93 #[.pointer (some ⟨fb, 0, none⟩), .slice a ps.length cap] w fun e w' => e = .returned (.tuple #[]) ∧ (∃ f', Rep h0 (T ++ partsL ps) f' ∧ FAt w' fb f') ∧ But fb w w' := by
  have HPS : Hid (∀ i (h : i < ps.length), ∃ b o, a = some ⟨b, o, none⟩ ∧ b ≠ fb ∧ w.cell? ⟨b, o + i, none⟩ = some (.string ps[i])) := hps
  have HSZ : Hid (∀ i (h : i < ps.length), ps[i].size < 4611686018427387904) := hsz
  clear hps hsz
  go_enter Tryz.func93, Tryz.ntmps93
  go_wp2_with fail
  go_loopg [8] ps.length (fun gk v8 wr => ∃ (i : Nat) (f' : Fol), i + gk = ps.length ∧ v8 = .int .i64 i ∧ Rep h0 (T ++ partsL (ps.take i)) f' ∧ FAt wr fb f' ∧ But fb w wr)
  case atStart => exact ⟨0, f, by omega, rfl, by rw [List.take_zero, partsL_nil, List.append_nil]; exact r, hF, But.refl _ _⟩
  case round =>
    obtain ⟨i, f', hi, rfl, r', hF', hb⟩ := hrel
    by_cases hlt : i < ps.length
    · obtain ⟨b, o, rfl, hne, hc⟩ := HPS.out i hlt
      have hps := HSZ.out i hlt
      have hnx : Hid (T ++ partsL (ps.take (i + 1)) = T ++ partsL (ps.take i) ++ fourL ps[i].size ++ ps[i].data.toList) := by
        show _ = _
        rw [partsL_take ps i hlt]; simp only [List.append_assoc]
      have hln : (T ++ partsL (ps.take i)).length + 4 + ps[i].size < 18446744073709551616 := by
        have h1 := congrArg List.length hnx.out
        have h2 := partsL_le ps (i + 1)
        simp only [List.length_append, fourL_length, ← Lib.size_eq] at h1 ⊢
        omega
      have c0 : wr.cell? ⟨b, o + i, none⟩ = some (.string ps[i]) := by rw [hb.cell (World.block_lt_of_cell? _ _ hc) hne]; exact hc
      have il : (i : Int) < (ps.length : Int) := by omega
      generalize T ++ partsL (ps.take i) = T1 at *
      generalize ps[i] = p at *
      have HB : Hid (But fb w wr) := hb
      clear hc hb
      go_wp2_with fail
      refine (fourB_any p.size (by omega) wr).mono ?_
      rintro e X ⟨rfl, hbX⟩
      have HBX : Hid (But fb w X) := HB.out.of_below hbX
      have FX : Hid (FAt X fb f') := hF'.of_below hbX hF'.lt
      have hf4 := fourL_length p.size
      generalize fourL p.size = F4 at *
      clear hF' HB hbX c0
      go_wp2_with fail
      have hs4 : (⟨F4.toArray⟩ : ByteArray).size = 4 := by show F4.toArray.size = 4; simpa using hf4
      refine (add_any fb h0 hh T1 f' r' ⟨F4.toArray⟩ (by rw [hs4]; omega) X FX.out hb2 (hT.of_but HBX.out hb2) (hS.of_but HBX.out hb2 hT.size)).mono ?_
      rintro e Z ⟨rfl, ⟨f2, r2, F2⟩, hbZ⟩
      have HBZ : Hid (But fb w Z) := HBX.out.trans hbZ
      have FZ : Hid (FAt Z fb f2) := F2
      clear FX HBX hbZ F2
      go_wp2_with fail
      refine (add_any fb h0 hh _ f2 r2 p (by simp; omega) Z FZ.out hb2 (hT.of_but HBZ.out hb2) (hS.of_but HBZ.out hb2 hT.size)).mono ?_
      rintro e V ⟨rfl, ⟨f3, r3, F3⟩, hbV⟩
      have HBV : Hid (But fb w V) := HBZ.out.trans hbV
      clear HBZ FZ hbV
      go_wp2_with fail
      go_roundg (gk - 1)
      case measure => omega
      case rel => exact ⟨i + 1, f3, by omega, by go_num, by rw [hnx.out]; simpa using r3, F3, HBV.out⟩
    · obtain rfl : i = ps.length := by omega
      go_wp2_with fail
      go_end0
      rw [List.take_length] at r'
      exact ⟨rfl, ⟨f', r', hF'⟩, hb⟩

/-- What a slice of texts reads as. -/
def SAt (w : World) (a : Option Addr) (ps : List ByteArray) : Prop := ∀ i (h : i < ps.length), ∃ b o, a = some ⟨b, o, none⟩ ∧ w.cell? ⟨b, o + i, none⟩ = some (.string ps[i])
theorem SAt.of_below {w w' : World} {a : Option Addr} {ps : List ByteArray} {B : Nat} (h : SAt w a ps) (hb : Below B w w') (hB : ∀ b o, a = some ⟨b, o, none⟩ → 0 < ps.length → b < B) : SAt w' a ps := by
  intro i hi
  obtain ⟨b, o, ha, hc⟩ := h i hi
  exact ⟨b, o, ha, by rw [hb.cell (by exact hB b o ha (by omega))]; exact hc⟩
theorem SAt.lt {w : World} {a : Option Addr} {ps : List ByteArray} (h : SAt w a ps) : ∀ b o, a = some ⟨b, o, none⟩ → 0 < ps.length → b < w.heap.size := by
  intro b o ha hp
  obtain ⟨b', o', ha', hc⟩ := h 0 hp
  have e : some (⟨b, o, none⟩ : Addr) = some ⟨b', o', none⟩ := ha.symm.trans ha'
  obtain rfl : b = b' := by injection e with e; injection e
  exact World.block_lt_of_cell? _ _ hc
theorem SAt.apart {w : World} {a : Option Addr} {ps : List ByteArray} {fb : Nat} (h : SAt w a ps) (hne : ∀ b o, a = some ⟨b, o, none⟩ → 0 < ps.length → b ≠ fb) :
    ∀ i (hi : i < ps.length), ∃ b o, a = some ⟨b, o, none⟩ ∧ b ≠ fb ∧ w.cell? ⟨b, o + i, none⟩ = some (.string ps[i]) := by
  intro i hi
  obtain ⟨b, o, ha, hc⟩ := h i hi
  exact ⟨b, o, ha, hne b o ha (by omega), hc⟩
theorem SAt.new (w : World) (ps : List ByteArray) (t : TypeId) : SAt (w.alloc (.cells (ps.map Value.string).toArray t)) (some ⟨w.heap.size, 0, none⟩) ps := by
  intro i hi
  exact ⟨w.heap.size, 0, rfl, by rw [Nat.zero_add, World.cell?_alloc_new]; simp [hi]⟩

set_option maxRecDepth 100000 in
set_option maxHeartbeats 1000000 in
theorem tag_any (label : ByteArray) (a : Option Addr) (cap : Nat) (ps : List ByteArray) (w : World) (hps : SAt w a ps) (hl : ps.length < 4611686018427387904)
    (hll : label.size < 4611686018427387904) (hsz : ∀ i (h : i < ps.length), ps[i].size < 4611686018427387904) (hn : (partsL (label :: ps)).length < 18446744073709551616) (hT : Tabs w) (hS : Starts w) :
    Calls Tryz.prog 71 #[.string label, .slice a ps.length cap] w fun e w' => e = .returned (.string ⟨(digL (hK 0) (partsL (label :: ps))).toArray⟩) ∧ Below w.heap.size w w' := by
  have hz59 := zeroValue59
  have hT0 : Hid (4 < w.heap.size) := hT.size
  go_enter Tryz.func71, Tryz.ntmps71
  go_wp2_with fail
  refine (begin_any ⟨#[]⟩ (by decide) w hT hS).mono ?_
  rintro e X ⟨rfl, hbX⟩
  have r0 : Hid (Rep (hK 0) [] (beginF (⟨#[]⟩ : ByteArray).data.toList)) := beginF_rep (⟨#[]⟩ : ByteArray).data.toList (by decide)
  have ok0 := beginF_ok (⟨#[]⟩ : ByteArray).data.toList (by decide)
  generalize beginF (⟨#[]⟩ : ByteArray).data.toList = F at *
  have hg2 : Hid (4 < X.heap.size) := Nat.lt_of_lt_of_le hT0.out hbX.size
  have hgw : Hid (w.heap.size ≤ X.heap.size) := hbX.size
  have u1 := FAt.new X zeroF
  have t59 : (X.alloc (Obj.cells (folC zeroF).toArray 137)).there X.heap.size 0 (folC F).toArray.size := by
    have e74 : (folC F).toArray.size = 74 := by rw [List.size_toArray, folC_length ok0]
    rw [e74]; exact u1.thereAll zeroF_ok
  have i59 : (Tryz.prog.info? 137).map (·.size) = some (folC F).toArray.size := by rw [size59, List.size_toArray, folC_length ok0]
  have o59 := folC_one F
  obtain ⟨X1, hX1⟩ : ∃ X1, X1 = (X.alloc (Obj.cells (folC zeroF).toArray 137)).setCells X.heap.size 0 (folC F).toArray.toList := ⟨_, rfl⟩
  have x1 : Hid (FAt X1 X.heap.size F) := by show FAt _ _ _; rw [hX1]; exact u1.setAll zeroF_ok F ok0
  have xb : Hid (Below w.heap.size w X1) := by show Below _ _ _; rw [hX1]; exact Below.setNews hgw.out _ _ _ (hbX.alloc hbX.size _)
  have xs : Hid (X.heap.size < X1.heap.size) := x1.out.lt
  clear u1
  generalize folC zeroF = CZ at *
  generalize folC F = CF at *
  go_wp2_with (refine wpList_store_mid rfl 137 (.tmp 5) (.tmp 6) rfl X.heap.size 0 CF.toArray rfl rfl t59 i59 o59 ?_; rw [← hX1]; clear hX1)
  have hln : Hid ((partsL [label]).length + (partsL ps).length < 18446744073709551616) := by
    have : partsL (label :: ps) = partsL [label] ++ partsL ps := partsL_append [label] ps
    rw [this, List.length_append] at hn; exact hn
  have sl : SAt (X1.alloc (Obj.cells #[Value.string label] 9)) (some ⟨X1.heap.size, 0, none⟩) [label] := SAt.new X1 [label] 9
  have yb : Hid (Below w.heap.size w (X1.alloc (Obj.cells #[Value.string label] 9))) := xb.out.alloc xb.out.size _
  have yf : FAt (X1.alloc (Obj.cells #[Value.string label] 9)) X.heap.size F := x1.out.alloc _
  have yne : X1.heap.size ≠ X.heap.size := by have := xs.out; omega
  generalize X1.alloc (Obj.cells #[Value.string label] 9) = Y1 at *
  have hTY : Hid (Tabs Y1) := hT.of_below yb.out hT0.out
  have hSY : Hid (Starts Y1) := hS.of_below yb.out hT0.out
  refine (addParts_any X.heap.size (hK 0) (hK_length 0) [] F r0.out (some ⟨X1.heap.size, 0, none⟩) 1 [label] Y1 (sl.apart (fun b o hb _ => by injection hb with hb; injection hb with h1 _; rw [← h1]; exact yne)) (by simp) (by
    intro i hi
    obtain rfl : i = 0 := by simpa using hi
    exact hll) (by have := hln.out; simp only [List.length_nil]; omega) yf hg2.out hTY.out hSY.out).mono ?_
  rintro e X2 ⟨rfl, ⟨F2, r2, hF2⟩, hb2⟩
  rw [List.nil_append] at r2
  have HF2 : Hid (FAt X2 X.heap.size F2) := hF2
  have zb : Hid (Below w.heap.size w X2) := yb.out.trans (hb2.below yb.out.size hgw.out)
  have hT2 : Hid (Tabs X2) := hTY.out.of_but hb2 hg2.out
  have hS2 : Hid (Starts X2) := hSY.out.of_but hb2 hg2.out hTY.out.size
  clear hF2 sl yf hb2
  go_wp2_with fail
  refine (addParts_any X.heap.size (hK 0) (hK_length 0) _ F2 r2 a cap ps X2 ((hps.of_below zb.out hps.lt).apart (fun b o hb hp => by have := hps.lt b o hb hp; have := hgw.out; omega)) hl hsz hln.out HF2.out hg2.out hT2.out hS2.out).mono ?_
  rintro e X3 ⟨rfl, ⟨F3, r3, hF3⟩, hb3⟩
  rw [← partsL_append] at r3
  have r4 : Rep (hK 0) (partsL (label :: ps)) F3 := r3
  have ok3 := r4.ok (hK_length 0) hn
  have vb : Hid (Below w.heap.size w X3) := zb.out.trans (hb3.below zb.out.size hgw.out)
  have hT3 := hT2.out.of_but hb3 hg2.out
  have hS3 := hS2.out.of_but hb3 hg2.out hT2.out.size
  go_wp2_with fail
  refine (end_any X.heap.size F3 ok3 X3 hF3 hg2.out hT3 hS3).mono ?_
  rintro e X4 ⟨rfl, hb4⟩
  rw [r4.dig]
  have wb : Hid (Below w.heap.size w X4) := vb.out.trans (hb4.below vb.out.size hgw.out)
  generalize hD : digL (hK 0) (partsL (label :: ps)) = D at *
  have HD : Hid (digL (hK 0) (partsL (label :: ps)) = D) := hD
  clear hD
  go_wp2_with fail
  go_ret
  exact ⟨by rw [HD.out]; rfl, wb.out⟩

set_option maxHeartbeats 400000 in
theorem tagFace_any (label : ByteArray) (a : Option Addr) (cap : Nat) (ps : List ByteArray) (w : World) (hps : SAt w a ps) (hl : ps.length < 4611686018427387904)
    (hll : label.size < 4611686018427387904) (hsz : ∀ i (h : i < ps.length), ps[i].size < 4611686018427387904) (hn : (partsL (label :: ps)).length < 18446744073709551616) (hT : Tabs w) (hS : Starts w) :
    Calls Tryz.prog 49 #[.string label, .slice a ps.length cap] w fun e w' => e = .returned (.string ⟨(digL (hK 0) (partsL (label :: ps))).toArray⟩) ∧ Below w.heap.size w w' := by
  go_enter Tryz.func49, Tryz.ntmps49
  go_wp2_with fail
  refine (tag_any label a cap ps w hps hl hll hsz hn hT hS).mono ?_
  rintro e X ⟨rfl, hb⟩
  generalize hD : digL (hK 0) (partsL (label :: ps)) = D at *
  have HD : Hid (digL (hK 0) (partsL (label :: ps)) = D) := hD
  clear hD
  go_wp2_with fail
  go_ret
  exact ⟨by rw [HD.out]; rfl, hb⟩

end Go.Proofs.YtkcnpcjogfhkbaaGreatDoor.F
