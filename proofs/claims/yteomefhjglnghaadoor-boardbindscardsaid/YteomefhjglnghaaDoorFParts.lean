/- The walks of addParts, tag, and of the reference's Joined and Tag: texts, each behind its length. -/
import Derived.Test.YteomefhjglnghaaDoorFFour
set_option linter.unusedSimpArgs false
set_option linter.unusedVariables false
set_option maxRecDepth 100000
namespace Go.Proofs.YteomefhjglnghaaDoor.F
open Go.RowKit

/-- Texts, each behind its length. -/
def partsL (ps : List ByteArray) : List UInt8 := ps.flatMap fun p => fourL p.size ++ p.data.toList
theorem partsL_nil : partsL [] = [] := rfl
theorem partsL_cons (p : ByteArray) (ps : List ByteArray) : partsL (p :: ps) = fourL p.size ++ p.data.toList ++ partsL ps := rfl
theorem partsL_append (a b : List ByteArray) : partsL (a ++ b) = partsL a ++ partsL b := by simp [partsL]
theorem partsL_one (p : ByteArray) : partsL [p] = fourL p.size ++ p.data.toList := by simp [partsL]
theorem partsL_take (ps : List ByteArray) (i : Nat) (h : i < ps.length) : partsL (ps.take (i + 1)) = partsL (ps.take i) ++ fourL ps[i].size ++ ps[i].data.toList := by
  rw [List.take_succ_eq_append_getElem h, partsL_append, partsL_one, List.append_assoc]
theorem partsL_le (ps : List ByteArray) (i : Nat) : (partsL (ps.take i)).length ≤ (partsL ps).length := by
  have h : partsL ps = partsL (ps.take i) ++ partsL (ps.drop i) := by rw [← partsL_append, List.take_append_drop]
  rw [h, List.length_append]; omega
theorem But.of_below {b : Nat} {u v w : World} (h : But b u v) (k : Below v.heap.size v w) : But b u w :=
  ⟨k.os.trans h.os, k.tape.trans h.tape, k.output.trans h.output, Nat.le_trans h.size k.size, fun i hi hb => (k.block i (Nat.lt_of_lt_of_le hi h.size)).trans (h.block i hi hb)⟩

set_option maxRecDepth 100000 in
set_option maxHeartbeats 1000000 in
theorem addParts_any (fb : Nat) (h0 : List UInt32) (hh : h0.length = 8) (T : List UInt8) (f : Fol) (r : Rep h0 T f) (a : Option Addr) (cap : Nat) (ps : List ByteArray) (w : World)
    (hps : ∀ i (h : i < ps.length), ∃ b o, a = some ⟨b, o, none⟩ ∧ b ≠ fb ∧ w.cell? ⟨b, o + i, none⟩ = some (.string ps[i])) (hl : ps.length < 4611686018427387904)
    (hsz : ∀ i (h : i < ps.length), ps[i].size < 4611686018427387904) (hn : T.length + (partsL ps).length < 18446744073709551616)
    (hF : FAt w fb f) (hb2 : 2 < fb) (hT : Tabs w) (hS : Starts w) :
    Calls Tryd.prog 45 #[.pointer (some ⟨fb, 0, none⟩), .slice a ps.length cap] w fun e w' => e = .returned (.tuple #[]) ∧ (∃ f', Rep h0 (T ++ partsL ps) f' ∧ FAt w' fb f') ∧ But fb w w' := by
  have HPS : Hid (∀ i (h : i < ps.length), ∃ b o, a = some ⟨b, o, none⟩ ∧ b ≠ fb ∧ w.cell? ⟨b, o + i, none⟩ = some (.string ps[i])) := hps
  have HSZ : Hid (∀ i (h : i < ps.length), ps[i].size < 4611686018427387904) := hsz
  clear hps hsz
  go_enter Tryd.func45, Tryd.ntmps45
  go_wp2_with fail
  go_loopg [8] ps.length (fun gk v8 wr => ∃ (i : Nat) (f' : Fol), i + gk = ps.length ∧ v8 = .int .i64 i ∧ Rep h0 (T ++ partsL (ps.take i)) f' ∧ FAt wr fb f' ∧ But fb w wr)
  case atStart => exact ⟨0, f, by omega, rfl, by rw [List.take_zero, partsL_nil, List.append_nil]; exact r, hF, But.refl _ _⟩
  case round =>
    obtain ⟨i, f', hi, rfl, r', hF', hb⟩ := hrel
    by_cases hlt : i < ps.length
    · obtain ⟨b, o, rfl, hne, hc⟩ := HPS.out i hlt
      have hps := HSZ.out i hlt
      have hnx : Hid (T ++ partsL (ps.take (i + 1)) = T ++ partsL (ps.take i) ++ fourL ps[i].size ++ ps[i].data.toList) := by
        show _ = _
        rw [partsL_take ps i hlt]; simp only [List.append_assoc]
      have hln : (T ++ partsL (ps.take i)).length + 4 + ps[i].size < 18446744073709551616 := by
        have h1 := congrArg List.length hnx.out
        have h2 := partsL_le ps (i + 1)
        simp only [List.length_append, fourL_length, ← Lib.size_eq] at h1 ⊢
        omega
      have c0 : wr.cell? ⟨b, o + i, none⟩ = some (.string ps[i]) := by rw [hb.cell (World.block_lt_of_cell? _ _ hc) hne]; exact hc
      have il : (i : Int) < (ps.length : Int) := by omega
      generalize T ++ partsL (ps.take i) = T1 at *
      generalize ps[i] = p at *
      have HB : Hid (But fb w wr) := hb
      clear hc hb
      go_wp2_with fail
      refine (fourB_any p.size (by omega) wr).mono ?_
      rintro e X ⟨rfl, hbX⟩
      have HBX : Hid (But fb w X) := HB.out.of_below hbX
      have FX : Hid (FAt X fb f') := hF'.of_below hbX hF'.lt
      have hf4 := fourL_length p.size
      generalize fourL p.size = F4 at *
      clear hF' HB hbX c0
      go_wp2_with fail
      have hs4 : (⟨F4.toArray⟩ : ByteArray).size = 4 := by show F4.toArray.size = 4; simpa using hf4
      refine (add_any fb h0 hh T1 f' r' ⟨F4.toArray⟩ (by rw [hs4]; omega) X FX.out hb2 (hT.of_but HBX.out hb2) (hS.of_but HBX.out hb2 hT.size)).mono ?_
      rintro e Z ⟨rfl, ⟨f2, r2, F2⟩, hbZ⟩
      have HBZ : Hid (But fb w Z) := HBX.out.trans hbZ
      have FZ : Hid (FAt Z fb f2) := F2
      clear FX HBX hbZ F2
      go_wp2_with fail
      refine (add_any fb h0 hh _ f2 r2 p (by simp; omega) Z FZ.out hb2 (hT.of_but HBZ.out hb2) (hS.of_but HBZ.out hb2 hT.size)).mono ?_
      rintro e V ⟨rfl, ⟨f3, r3, F3⟩, hbV⟩
      have HBV : Hid (But fb w V) := HBZ.out.trans hbV
      clear HBZ FZ hbV
      go_wp2_with fail
      go_roundg (gk - 1)
      case measure => omega
      case rel => exact ⟨i + 1, f3, by omega, by go_num, by rw [hnx.out]; simpa using r3, F3, HBV.out⟩
    · obtain rfl : i = ps.length := by omega
      go_wp2_with fail
      go_end0
      rw [List.take_length] at r'
      exact ⟨rfl, ⟨f', r', hF'⟩, hb⟩

/-- What a slice of texts reads as. -/
def SAt (w : World) (a : Option Addr) (ps : List ByteArray) : Prop := ∀ i (h : i < ps.length), ∃ b o, a = some ⟨b, o, none⟩ ∧ w.cell? ⟨b, o + i, none⟩ = some (.string ps[i])
theorem SAt.of_below {w w' : World} {a : Option Addr} {ps : List ByteArray} {B : Nat} (h : SAt w a ps) (hb : Below B w w') (hB : ∀ b o, a = some ⟨b, o, none⟩ → 0 < ps.length → b < B) : SAt w' a ps := by
  intro i hi
  obtain ⟨b, o, ha, hc⟩ := h i hi
  exact ⟨b, o, ha, by rw [hb.cell (by exact hB b o ha (by omega))]; exact hc⟩
theorem SAt.lt {w : World} {a : Option Addr} {ps : List ByteArray} (h : SAt w a ps) : ∀ b o, a = some ⟨b, o, none⟩ → 0 < ps.length → b < w.heap.size := by
  intro b o ha hp
  obtain ⟨b', o', ha', hc⟩ := h 0 hp
  have e : some (⟨b, o, none⟩ : Addr) = some ⟨b', o', none⟩ := ha.symm.trans ha'
  obtain rfl : b = b' := by injection e with e; injection e
  exact World.block_lt_of_cell? _ _ hc
theorem SAt.apart {w : World} {a : Option Addr} {ps : List ByteArray} {fb : Nat} (h : SAt w a ps) (hne : ∀ b o, a = some ⟨b, o, none⟩ → 0 < ps.length → b ≠ fb) :
    ∀ i (hi : i < ps.length), ∃ b o, a = some ⟨b, o, none⟩ ∧ b ≠ fb ∧ w.cell? ⟨b, o + i, none⟩ = some (.string ps[i]) := by
  intro i hi
  obtain ⟨b, o, ha, hc⟩ := h i hi
  exact ⟨b, o, ha, hne b o ha (by omega), hc⟩
theorem SAt.new (w : World) (ps : List ByteArray) (t : TypeId) : SAt (w.alloc (.cells (ps.map Value.string).toArray t)) (some ⟨w.heap.size, 0, none⟩) ps := by
  intro i hi
  exact ⟨w.heap.size, 0, rfl, by rw [Nat.zero_add, World.cell?_alloc_new]; simp [hi]⟩

set_option maxRecDepth 100000 in
set_option maxHeartbeats 1000000 in
theorem tag_any (label : ByteArray) (a : Option Addr) (cap : Nat) (ps : List ByteArray) (w : World) (hps : SAt w a ps) (hl : ps.length < 4611686018427387904)
    (hll : label.size < 4611686018427387904) (hsz : ∀ i (h : i < ps.length), ps[i].size < 4611686018427387904) (hn : (partsL (label :: ps)).length < 18446744073709551616) (hT : Tabs w) (hS : Starts w) :
    Calls Tryd.prog 42 #[.string label, .slice a ps.length cap] w fun e w' => e = .returned (.string ⟨(digL (hK 0) (partsL (label :: ps))).toArray⟩) ∧ Below w.heap.size w w' := by
  have hz59 := zeroValue59
  have hT0 : Hid (2 < w.heap.size) := hT.size
  go_enter Tryd.func42, Tryd.ntmps42
  go_wp2_with fail
  refine (begin_any ⟨#[]⟩ (by decide) w hT hS).mono ?_
  rintro e X ⟨rfl, hbX⟩
  have r0 : Hid (Rep (hK 0) [] (beginF (⟨#[]⟩ : ByteArray).data.toList)) := beginF_rep (⟨#[]⟩ : ByteArray).data.toList (by decide)
  have ok0 := beginF_ok (⟨#[]⟩ : ByteArray).data.toList (by decide)
  generalize beginF (⟨#[]⟩ : ByteArray).data.toList = F at *
  have hg2 : Hid (2 < X.heap.size) := Nat.lt_of_lt_of_le hT0.out hbX.size
  have hgw : Hid (w.heap.size ≤ X.heap.size) := hbX.size
  have u1 := FAt.new X zeroF
  have t59 : (X.alloc (Obj.cells (folC zeroF).toArray 84)).there X.heap.size 0 (folC F).toArray.size := by
    have e74 : (folC F).toArray.size = 74 := by rw [List.size_toArray, folC_length ok0]
    rw [e74]; exact u1.thereAll zeroF_ok
  have i59 : (Tryd.prog.info? 84).map (·.size) = some (folC F).toArray.size := by rw [size59, List.size_toArray, folC_length ok0]
  have o59 := folC_one F
  obtain ⟨X1, hX1⟩ : ∃ X1, X1 = (X.alloc (Obj.cells (folC zeroF).toArray 84)).setCells X.heap.size 0 (folC F).toArray.toList := ⟨_, rfl⟩
  have x1 : Hid (FAt X1 X.heap.size F) := by show FAt _ _ _; rw [hX1]; exact u1.setAll zeroF_ok F ok0
  have xb : Hid (Below w.heap.size w X1) := by show Below _ _ _; rw [hX1]; exact Below.setNews hgw.out _ _ _ (hbX.alloc hbX.size _)
  have xs : Hid (X.heap.size < X1.heap.size) := x1.out.lt
  clear u1
  generalize folC zeroF = CZ at *
  generalize folC F = CF at *
  go_wp2_with (refine wpList_store_mid rfl 84 (.tmp 5) (.tmp 6) rfl X.heap.size 0 CF.toArray rfl rfl t59 i59 o59 ?_; rw [← hX1]; clear hX1)
  have hln : Hid ((partsL [label]).length + (partsL ps).length < 18446744073709551616) := by
    have : partsL (label :: ps) = partsL [label] ++ partsL ps := partsL_append [label] ps
    rw [this, List.length_append] at hn; exact hn
  have sl : SAt (X1.alloc (Obj.cells #[Value.string label] 9)) (some ⟨X1.heap.size, 0, none⟩) [label] := SAt.new X1 [label] 9
  have yb : Hid (Below w.heap.size w (X1.alloc (Obj.cells #[Value.string label] 9))) := xb.out.alloc xb.out.size _
  have yf : FAt (X1.alloc (Obj.cells #[Value.string label] 9)) X.heap.size F := x1.out.alloc _
  have yne : X1.heap.size ≠ X.heap.size := by have := xs.out; omega
  generalize X1.alloc (Obj.cells #[Value.string label] 9) = Y1 at *
  have hTY : Hid (Tabs Y1) := hT.of_below yb.out hT0.out
  have hSY : Hid (Starts Y1) := hS.of_below yb.out hT0.out
  refine (addParts_any X.heap.size (hK 0) (hK_length 0) [] F r0.out (some ⟨X1.heap.size, 0, none⟩) 1 [label] Y1 (sl.apart (fun b o hb _ => by injection hb with hb; injection hb with h1 _; rw [← h1]; exact yne)) (by simp) (by
    intro i hi
    obtain rfl : i = 0 := by simpa using hi
    exact hll) (by have := hln.out; simp only [List.length_nil]; omega) yf hg2.out hTY.out hSY.out).mono ?_
  rintro e X2 ⟨rfl, ⟨F2, r2, hF2⟩, hb2⟩
  rw [List.nil_append] at r2
  have HF2 : Hid (FAt X2 X.heap.size F2) := hF2
  have zb : Hid (Below w.heap.size w X2) := yb.out.trans (hb2.below yb.out.size hgw.out)
  have hT2 : Hid (Tabs X2) := hTY.out.of_but hb2 hg2.out
  have hS2 : Hid (Starts X2) := hSY.out.of_but hb2 hg2.out hTY.out.size
  clear hF2 sl yf hb2
  go_wp2_with fail
  refine (addParts_any X.heap.size (hK 0) (hK_length 0) _ F2 r2 a cap ps X2 ((hps.of_below zb.out hps.lt).apart (fun b o hb hp => by have := hps.lt b o hb hp; have := hgw.out; omega)) hl hsz hln.out HF2.out hg2.out hT2.out hS2.out).mono ?_
  rintro e X3 ⟨rfl, ⟨F3, r3, hF3⟩, hb3⟩
  rw [← partsL_append] at r3
  have r4 : Rep (hK 0) (partsL (label :: ps)) F3 := r3
  have ok3 := r4.ok (hK_length 0) hn
  have vb : Hid (Below w.heap.size w X3) := zb.out.trans (hb3.below zb.out.size hgw.out)
  have hT3 := hT2.out.of_but hb3 hg2.out
  have hS3 := hS2.out.of_but hb3 hg2.out hT2.out.size
  go_wp2_with fail
  refine (end_any X.heap.size F3 ok3 X3 hF3 hg2.out hT3 hS3).mono ?_
  rintro e X4 ⟨rfl, hb4⟩
  rw [r4.dig]
  have wb : Hid (Below w.heap.size w X4) := vb.out.trans (hb4.below vb.out.size hgw.out)
  generalize hD : digL (hK 0) (partsL (label :: ps)) = D at *
  have HD : Hid (digL (hK 0) (partsL (label :: ps)) = D) := hD
  clear hD
  go_wp2_with fail
  go_ret
  exact ⟨by rw [HD.out]; rfl, wb.out⟩

set_option maxHeartbeats 400000 in
theorem tagFace_any (label : ByteArray) (a : Option Addr) (cap : Nat) (ps : List ByteArray) (w : World) (hps : SAt w a ps) (hl : ps.length < 4611686018427387904)
    (hll : label.size < 4611686018427387904) (hsz : ∀ i (h : i < ps.length), ps[i].size < 4611686018427387904) (hn : (partsL (label :: ps)).length < 18446744073709551616) (hT : Tabs w) (hS : Starts w) :
    Calls Tryd.prog 35 #[.string label, .slice a ps.length cap] w fun e w' => e = .returned (.string ⟨(digL (hK 0) (partsL (label :: ps))).toArray⟩) ∧ Below w.heap.size w w' := by
  go_enter Tryd.func35, Tryd.ntmps35
  go_wp2_with fail
  refine (tag_any label a cap ps w hps hl hll hsz hn hT hS).mono ?_
  rintro e X ⟨rfl, hb⟩
  generalize hD : digL (hK 0) (partsL (label :: ps)) = D at *
  have HD : Hid (digL (hK 0) (partsL (label :: ps)) = D) := hD
  clear hD
  go_wp2_with fail
  go_ret
  exact ⟨by rw [HD.out]; rfl, hb⟩

set_option maxRecDepth 100000 in
set_option maxHeartbeats 1000000 in
theorem joined_any (label : ByteArray) (a : Option Addr) (cap : Nat) (ps : List ByteArray) (w : World) (hps : SAt w a ps) (hl : ps.length < 4611686018427387904)
    (hll : label.size < 4611686018427387904) (hsz : ∀ i (h : i < ps.length), ps[i].size < 4611686018427387904) (hn : (partsL (label :: ps)).length < 4611686018427387904) :
    Calls Tryd.prog 17 #[.string label, .slice a ps.length cap] w fun e w' => (∃ S : ByteArray, e = .returned (.string S) ∧ S.data.toList = partsL (label :: ps)) ∧ Below w.heap.size w w' := by
  have HPS : Hid (SAt w a ps) := hps
  have HSZ : Hid (∀ i (h : i < ps.length), ps[i].size < 4611686018427387904) := hsz
  clear hps hsz
  go_enter Tryd.func17, Tryd.ntmps17
  go_wp2_with fail
  refine (refFourB_any label.size (by omega) w).mono ?_
  rintro e X ⟨rfl, hbX⟩
  have HF4 : Hid (partsL [label] = fourL label.size ++ label.data.toList) := partsL_one label
  have hf4 := fourL_length label.size
  generalize fourL label.size = F4 at *
  have HN : Hid ((partsL (label :: ps)).length < 4611686018427387904) := hn
  clear hn
  go_wp2_with fail
  go_loopg [5, 15] ps.length (fun gk v5 v15 wr => ∃ (i : Nat) (S : ByteArray), i + gk = ps.length ∧ v15 = .int .i64 i ∧ v5 = .string S ∧ S.data.toList = partsL (label :: ps.take i) ∧ Below w.heap.size w wr)
  case atStart => exact ⟨0, _, by omega, rfl, rfl, by rw [bytes_append, List.take_zero, HF4.out], hbX⟩
  case round =>
    obtain ⟨i, S, hi, rfl, rfl, hS, hb⟩ := hrel
    have HS : Hid (S.data.toList = partsL (label :: ps.take i)) := hS
    have HB : Hid (Below w.heap.size w wr) := hb
    by_cases hlt : i < ps.length
    · obtain ⟨b, o, ha, hc⟩ := HPS.out i hlt
      have hbl := World.block_lt_of_cell? _ _ hc
      have c0 : wr.cell? ⟨b, o + i, none⟩ = some (.string ps[i]) := by rw [hb.cell hbl]; exact hc
      have hps := HSZ.out i hlt
      have hnx : Hid (partsL (label :: ps.take (i + 1)) = partsL (label :: ps.take i) ++ fourL ps[i].size ++ ps[i].data.toList) := by
        show _ = _
        rw [partsL_cons, partsL_cons, partsL_take ps i hlt]; simp only [List.append_assoc]
      have il : (i : Int) < (ps.length : Int) := by omega
      have hss : S.size + (4 + ps[i].size) < 4611686018427387904 := by
        have h1 := congrArg List.length hnx.out
        have h2 : (partsL (label :: ps.take (i + 1))).length ≤ (partsL (label :: ps)).length := partsL_le (label :: ps) (i + 2)
        have h3 := HN.out
        rw [Lib.size_eq, hS]
        simp only [List.length_append, fourL_length, ← Lib.size_eq] at h1
        omega
      subst ha
      generalize ps[i] = p at *
      clear hS hb hc HPS
      go_wp2_with fail
      refine (refFourB_any p.size (by omega) wr).mono ?_
      rintro e Z ⟨rfl, hbZ⟩
      have HBZ : Hid (Below w.heap.size w Z) := HB.out.trans (hbZ.mono HB.out.size)
      have hg4 := fourL_length p.size
      generalize fourL p.size = G4 at *
      clear hbZ c0
      go_wp2_with fail
      go_roundg (gk - 1)
      case measure => omega
      case rel => exact ⟨i + 1, _, by omega, by go_num, rfl, by rw [hnx.out, bytes_append, bytes_append, HS.out], HBZ.out⟩
    · obtain rfl : i = ps.length := by omega
      clear hS hb
      go_wp2_with fail
      go_ret
      exact ⟨⟨S, rfl, by rw [HS.out, List.take_length]⟩, HB.out⟩

end Go.Proofs.YteomefhjglnghaaDoor.F
