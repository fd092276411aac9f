/- The walks of Digest and Keyed. -/
import Derived.Test.YtalagjmjpoacmaaDoorBegin
import Derived.Test.YtalagjmjpoacmaaDoorKeyPlain
set_option linter.unusedSimpArgs false
set_option linter.unusedVariables false
namespace Go.Proofs.YtalagjmjpoacmaaDoor
open Go.RowKit

set_option maxRecDepth 100000 in
set_option maxHeartbeats 1000000 in
theorem digest_any (t : ByteArray) (ht : t.size < 9223372036854775808) (w : World) (hT : Tabs w) (hS : Starts w) :
    Calls Tryd.prog 15 #[.string t] w fun e w' => e = .returned (.string ⟨(digL (hK 0) t.data.toList).toArray⟩) ∧ Below w.heap.size w w' := by
  have hz59 := zeroValue59
  have hT0 : Hid (2 < w.heap.size) := hT.size
  go_enter Tryd.func15, Tryd.ntmps15
  go_wp2_with fail
  refine (begin_any ⟨#[]⟩ (by decide) w hT hS).mono ?_
  rintro e X ⟨rfl, hbX⟩
  have r0 : Hid (Rep (hK 0) [] (beginF (⟨#[]⟩ : ByteArray).data.toList)) := beginF_rep (⟨#[]⟩ : ByteArray).data.toList (by decide)
  have ok0 := beginF_ok (⟨#[]⟩ : ByteArray).data.toList (by decide)
  generalize beginF (⟨#[]⟩ : ByteArray).data.toList = F at *
  have hg2 : Hid (2 < X.heap.size) := Nat.lt_of_lt_of_le hT0.out hbX.size
  have hgw : Hid (w.heap.size ≤ X.heap.size) := hbX.size
  have u1 := FAt.new X zeroF
  have t59 : (X.alloc (Obj.cells (folC zeroF).toArray 59)).there X.heap.size 0 (folC F).toArray.size := by
    have e74 : (folC F).toArray.size = 74 := by rw [List.size_toArray, folC_length ok0]
    rw [e74]; exact u1.thereAll zeroF_ok
  have i59 : (Tryd.prog.info? 59).map (·.size) = some (folC F).toArray.size := by rw [size59, List.size_toArray, folC_length ok0]
  have o59 := folC_one F
  obtain ⟨X1, hX1⟩ : ∃ X1, X1 = (X.alloc (Obj.cells (folC zeroF).toArray 59)).setCells X.heap.size 0 (folC F).toArray.toList := ⟨_, rfl⟩
  have x1 : Hid (FAt X1 X.heap.size F) := by show FAt _ _ _; rw [hX1]; exact u1.setAll zeroF_ok F ok0
  have xb : Hid (Below w.heap.size w X1) := by show Below _ _ _; rw [hX1]; exact Below.setNews hgw.out _ _ _ (hbX.alloc hbX.size _)
  have hT1 : Hid (Tabs X1) := hT.of_below xb.out hT0.out
  have hS1 : Hid (Starts X1) := hS.of_below xb.out hT0.out
  clear u1
  generalize folC zeroF = CZ at *
  generalize folC F = CF at *
  go_wp2_with (refine wpList_store_mid rfl 59 (.tmp 3) (.tmp 4) rfl X.heap.size 0 CF.toArray rfl rfl t59 i59 o59 ?_; rw [← hX1]; clear hX1)
  refine (add_any X.heap.size (hK 0) (hK_length 0) [] F r0.out t (by simp; omega) X1 x1.out hg2.out hT1.out hS1.out).mono ?_
  rintro e X2 ⟨rfl, ⟨F2, r2, hF2⟩, hb2⟩
  rw [List.nil_append] at r2
  have ok2 := r2.ok (hK_length 0) (by rw [← Lib.size_eq]; omega)
  have hT2 : Tabs X2 := hT1.out.of_but hb2 hg2.out
  have hS2 : Starts X2 := hS1.out.of_but hb2 hg2.out hT1.out.size
  have yb : Hid (Below w.heap.size w X2) := xb.out.trans (hb2.below xb.out.size hgw.out)
  go_wp2_with fail
  refine (end_any X.heap.size F2 ok2 X2 hF2 hg2.out hT2 hS2).mono ?_
  rintro e X3 ⟨rfl, hb3⟩
  rw [r2.dig]
  have zb : Hid (Below w.heap.size w X3) := yb.out.trans (hb3.below yb.out.size hgw.out)
  generalize hD : digL (hK 0) t.data.toList = D at *
  have HD : Hid (digL (hK 0) t.data.toList = D) := hD
  clear hD
  go_wp2_with fail
  go_ret
  exact ⟨by rw [HD.out]; rfl, zb.out⟩

set_option maxRecDepth 100000 in
set_option maxHeartbeats 1000000 in
theorem keyed_any (key t : ByteArray) (hk : key.size ≤ 32) (ht : t.size < 9223372036854775808) (w : World) (hT : Tabs w) (hS : Starts w) :
    Calls Tryd.prog 17 #[.string key, .string t] w fun e w' => e = .returned (.tuple #[.string ⟨(digL (hK key.size) (keyT key.data.toList ++ t.data.toList)).toArray⟩, .int .i64 0]) ∧ Below w.heap.size w w' := by
  have hz59 := zeroValue59
  have hT0 : Hid (2 < w.heap.size) := hT.size
  have hkl : key.data.toList.length = key.size := (Lib.size_eq key).symm
  go_enter Tryd.func17, Tryd.ntmps17
  go_wp2_with fail
  refine (begin_any key (by omega) w hT hS).mono ?_
  rintro e X ⟨rfl, hbX⟩
  have r0 : Hid (Rep (hK key.size) (keyT key.data.toList) (beginF key.data.toList)) := by show Rep _ _ _; rw [← hkl]; exact beginF_rep key.data.toList (by omega)
  have ok0 := beginF_ok key.data.toList (by omega)
  have kl : (keyT key.data.toList).length ≤ 64 := by
    unfold keyT; split
    · simp
    · rw [pad64_length _ (by omega)]; omega
  generalize beginF key.data.toList = F at *
  generalize hKT : keyT key.data.toList = KT at *
  have HKT : Hid (keyT key.data.toList = KT) := hKT
  clear hKT
  have hg2 : Hid (2 < X.heap.size) := Nat.lt_of_lt_of_le hT0.out hbX.size
  have hgw : Hid (w.heap.size ≤ X.heap.size) := hbX.size
  have u1 := FAt.new X zeroF
  have t59 : (X.alloc (Obj.cells (folC zeroF).toArray 59)).there X.heap.size 0 (folC F).toArray.size := by
    have e74 : (folC F).toArray.size = 74 := by rw [List.size_toArray, folC_length ok0]
    rw [e74]; exact u1.thereAll zeroF_ok
  have i59 : (Tryd.prog.info? 59).map (·.size) = some (folC F).toArray.size := by rw [size59, List.size_toArray, folC_length ok0]
  have o59 := folC_one F
  obtain ⟨X1, hX1⟩ : ∃ X1, X1 = (X.alloc (Obj.cells (folC zeroF).toArray 59)).setCells X.heap.size 0 (folC F).toArray.toList := ⟨_, rfl⟩
  have x1 : Hid (FAt X1 X.heap.size F) := by show FAt _ _ _; rw [hX1]; exact u1.setAll zeroF_ok F ok0
  have xb : Hid (Below w.heap.size w X1) := by show Below _ _ _; rw [hX1]; exact Below.setNews hgw.out _ _ _ (hbX.alloc hbX.size _)
  have hT1 : Hid (Tabs X1) := hT.of_below xb.out hT0.out
  have hS1 : Hid (Starts X1) := hS.of_below xb.out hT0.out
  clear u1
  generalize folC zeroF = CZ at *
  generalize folC F = CF at *
  go_wp2_with (refine wpList_store_mid rfl 59 (.tmp 6) (.tmp 11) rfl X.heap.size 0 CF.toArray rfl rfl t59 i59 o59 ?_; rw [← hX1]; clear hX1)
  refine (add_any X.heap.size (hK key.size) (hK_length _) KT F r0.out t (by omega) X1 x1.out hg2.out hT1.out hS1.out).mono ?_
  rintro e X2 ⟨rfl, ⟨F2, r2, hF2⟩, hb2⟩
  have ok2 := r2.ok (hK_length _) (by rw [List.length_append, ← Lib.size_eq]; omega)
  have hT2 : Tabs X2 := hT1.out.of_but hb2 hg2.out
  have hS2 : Starts X2 := hS1.out.of_but hb2 hg2.out hT1.out.size
  have yb : Hid (Below w.heap.size w X2) := xb.out.trans (hb2.below xb.out.size hgw.out)
  go_wp2_with fail
  refine (end_any X.heap.size F2 ok2 X2 hF2 hg2.out hT2 hS2).mono ?_
  rintro e X3 ⟨rfl, hb3⟩
  rw [r2.dig]
  have zb : Hid (Below w.heap.size w X3) := yb.out.trans (hb3.below yb.out.size hgw.out)
  generalize hD : digL (hK key.size) (KT ++ t.data.toList) = D at *
  have HD : Hid (digL (hK key.size) (KT ++ t.data.toList) = D) := hD
  clear hD
  go_wp2_with fail
  go_ret2
  exact ⟨by rw [HKT.out, HD.out]; rfl, zb.out⟩
set_option maxHeartbeats 400000 in
theorem keyed_long (key t : ByteArray) (hk : 32 < key.size) (hk2 : key.size < 9223372036854775808) (w : World) :
    Calls Tryd.prog 17 #[.string key, .string t] w fun e w' => e = .returned (.tuple #[.string ⟨#[]⟩, .int .i64 3]) ∧ w' = w := by
  go_enter Tryd.func17, Tryd.ntmps17
  go_wp2_with fail
  go_ret2
  exact ⟨rfl, rfl⟩
end Go.Proofs.YtalagjmjpoacmaaDoor
