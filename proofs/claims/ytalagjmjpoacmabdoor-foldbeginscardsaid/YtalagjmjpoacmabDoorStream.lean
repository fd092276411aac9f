/- The walk of Stream. -/
import Derived.Test.YtalagjmjpoacmabDoorStreamPlain
set_option linter.unusedSimpArgs false
set_option linter.unusedVariables false
namespace Go.Proofs.YtalagjmjpoacmabDoor
open Go.RowKit

theorem made_bytes (n : Nat) : madeCells #[.int .u8 0] n = barr (List.replicate n 0) := by
  apply Array.toList_inj.1
  rw [toList_madeCells_one]
  simp [barr]
theorem makeN (n : Nat) (hn : n ≤ 65536) (w : World) : (Instr.makeSlice 51 (.int .i64 (n : Int)) (.int .i64 (n : Int))).run Tryd.prog w = .ok (.slice (some ⟨w.heap.size, 0, none⟩) n n) (w.alloc (.cells (barr (List.replicate n 0)) 5)) := by
  have := run_make_row' (P := Tryd.prog) 51 5 (.int .u8 0) 1 Tryd.underlying51 info5 rfl .i64 .i64 n (by omega) (by omega) w
  rw [made_bytes] at this
  exact this
theorem BHolds.setPart {w : World} {b : Nat} {t : TypeId} {l : List UInt8} (h : BHolds w b t l) (o : Nat) (c : List UInt8) (hc : o + c.length ≤ l.length) : BHolds (w.setCells b o (c.map Y)) b t (l.take o ++ c ++ l.drop (o + c.length)) := by
  have := block_setCells (w := w) (c.map Y) o (l.map Y) w h (by simpa using hc)
  unfold BHolds
  rw [this]
  simp [barr]
theorem BHolds.of_below {w w' : World} {b B : Nat} {t : TypeId} {l : List UInt8} (h : BHolds w b t l) (hb : Below B w w') (hB : b < B) : BHolds w' b t l := by
  unfold BHolds; rw [hb.block b hB]; exact h
theorem BHolds.of_but {w w' : World} {b g : Nat} {t : TypeId} {l : List UInt8} (h : BHolds w b t l) (hb : But g w w') (hg : b ≠ g) : BHolds w' b t l := by
  unfold BHolds; rw [hb.block b h.lt hg]; exact h
theorem BHolds.alloc {w : World} {b : Nat} {t : TypeId} {l : List UInt8} (h : BHolds w b t l) (o : Obj) : BHolds (w.alloc o) b t l := by
  unfold BHolds; rw [Below.heap_alloc _ _ _ h.lt]; exact h
theorem BHolds.there {w : World} {b : Nat} {t : TypeId} {l : List UInt8} (h : BHolds w b t l) (o n : Nat) (hn : o + n ≤ l.length) : w.there b o n := by
  intro j hj
  rw [h.cell (o + j) (by omega), h.frozen]
  exact ⟨rfl, rfl⟩

theorem elem64 : Tryd.prog.elem 51 = 5 := by kernel_rfl
theorem slice64_from (b n : Nat) (l : Int) (lo : Nat) (el : l = (lo : Int)) (h : lo < n) (w : World) :
    (Instr.sliceAt 51 (.slice (some ⟨b, 0, none⟩) n n) (some (.int .i64 l)) none none).run Tryd.prog w = .ok (.slice (some ⟨b, lo, none⟩) (n - lo) (n - lo)) w := by
  subst el
  have ht : Tryd.prog.underlying 51 = some (.slice (Tryd.prog.elem 51)) := by rw [elem64]; exact Tryd.underlying51
  rw [run_sliceAt_slice _ _ _ _ _ _ ht, run_slice_l _ _ _ _ _ ht .i64 (lo : Int) (by omega) (by omega), elem64, sizeOf5]
  simp only [Result.andThen_ok, sliced, Int.toNat_natCast, Nat.mul_one]
  rw [if_neg (by omega), Option.map_some, Addr.add_mid, Nat.zero_add]
set_option maxHeartbeats 400000 in
theorem stream_bad (seed label : ByteArray) (n : Int) (hn : n < 0 ∨ 65536 < n) (w : World) :
    Calls Tryd.prog 5 #[.string seed, .string label, .int .i64 n] w fun e w' => e = .returned (.tuple #[.string ⟨#[]⟩, .int .i64 4]) ∧ w' = w := by
  go_enter Tryd.func5, Tryd.ntmps5
  rcases hn with h | h
  · go_wp2_with fail
    go_ret2
    exact ⟨rfl, rfl⟩
  · have h0 : 0 ≤ n := by omega
    go_wp2_with fail
    go_ret2
    exact ⟨rfl, rfl⟩

set_option maxRecDepth 100000 in
set_option maxHeartbeats 1000000 in
theorem stream_any (seed label : ByteArray) (n : Nat) (hn : n ≤ 65536) (hs : seed.size < 4611686018427387904) (hl : label.size < 4611686018427387904) (w : World) (hT : Tabs w) (hS : Starts w) :
    Calls Tryd.prog 5 #[.string seed, .string label, .int .i64 (n : Int)] w fun e w' => e = .returned (.tuple #[.string ⟨((streamL (blockL seed label) (blocksOf n)).take n).toArray⟩, .int .i64 0]) ∧ Below w.heap.size w w' := by
  have hz59 := zeroValue59
  have hT0 : Hid (2 < w.heap.size) := hT.size
  go_enter Tryd.func5, Tryd.ntmps5
  go_wp2_with fail
  refine (begin_any ⟨#[]⟩ (by decide) w hT hS).mono ?_
  rintro e X ⟨rfl, hbX⟩
  have r0 : Hid (Rep (hK 0) [] (beginF (⟨#[]⟩ : ByteArray).data.toList)) := beginF_rep (⟨#[]⟩ : ByteArray).data.toList (by decide)
  have ok0 := beginF_ok (⟨#[]⟩ : ByteArray).data.toList (by decide)
  generalize beginF (⟨#[]⟩ : ByteArray).data.toList = F at *
  have hg2 : Hid (2 < X.heap.size) := Nat.lt_of_lt_of_le hT0.out hbX.size
  have hgw : Hid (w.heap.size ≤ X.heap.size) := hbX.size
  have u1 := FAt.new X zeroF
  have t59 : (X.alloc (Obj.cells (folC zeroF).toArray 48)).there X.heap.size 0 (folC F).toArray.size := by
    have e74 : (folC F).toArray.size = 74 := by rw [List.size_toArray, folC_length ok0]
    rw [e74]; exact u1.thereAll zeroF_ok
  have i59 : (Tryd.prog.info? 48).map (·.size) = some (folC F).toArray.size := by rw [size59, List.size_toArray, folC_length ok0]
  have o59 := folC_one F
  obtain ⟨X1, hX1⟩ : ∃ X1, X1 = (X.alloc (Obj.cells (folC zeroF).toArray 48)).setCells X.heap.size 0 (folC F).toArray.toList := ⟨_, rfl⟩
  have x1 : Hid (FAt X1 X.heap.size F) := by show FAt _ _ _; rw [hX1]; exact u1.setAll zeroF_ok F ok0
  have xb : Hid (Below w.heap.size w X1) := by show Below _ _ _; rw [hX1]; exact Below.setNews hgw.out _ _ _ (hbX.alloc hbX.size _)
  have xs : Hid (X.heap.size < X1.heap.size) := x1.out.lt
  clear u1
  generalize hCZ : folC zeroF = CZ at *
  have HCZ : Hid (folC zeroF = CZ) := hCZ
  clear hCZ
  generalize folC F = CF at *
  go_wp2_with (refine wpList_store_mid rfl 48 (.tmp 8) (.tmp 18) rfl X.heap.size 0 CF.toArray rfl rfl t59 i59 o59 ?_; rw [← hX1]; clear hX1)
  have sl : SAt (X1.alloc (Obj.cells #[Value.string streamB, Value.string seed, Value.string label] 9)) (some ⟨X1.heap.size, 0, none⟩) [streamB, seed, label] := SAt.new X1 [streamB, seed, label] 9
  have yb : Hid (Below w.heap.size w (X1.alloc (Obj.cells #[Value.string streamB, Value.string seed, Value.string label] 9))) := xb.out.alloc xb.out.size _
  have yf : FAt (X1.alloc (Obj.cells #[Value.string streamB, Value.string seed, Value.string label] 9)) X.heap.size F := x1.out.alloc _
  have yne : X1.heap.size ≠ X.heap.size := by have := xs.out; omega
  generalize X1.alloc (Obj.cells #[Value.string streamB, Value.string seed, Value.string label] 9) = Y1 at *
  have hTY : Hid (Tabs Y1) := hT.of_below yb.out hT0.out
  have hSY : Hid (Starts Y1) := hS.of_below yb.out hT0.out
  have hpl : Hid ((partsL [streamB, seed, label]).length = 18 + seed.size + label.size) := by
    show _ = _
    simp only [partsL, List.flatMap_cons, List.flatMap_nil, List.length_append, fourL_length, List.length_nil, ← Lib.size_eq]
    have h6 : ([115, 116, 114, 101, 97, 109] : List UInt8).length = 6 := rfl
    omega
  refine (addParts_any X.heap.size (hK 0) (hK_length 0) [] F r0.out (some ⟨X1.heap.size, 0, none⟩) 3 [streamB, seed, label] Y1 (sl.apart (fun b o hb _ => by injection hb with hb; injection hb with h1 _; rw [← h1]; exact yne)) (by simp) (by
    intro i hi
    have hi' : i < 3 := hi
    obtain rfl | rfl | rfl : i = 0 ∨ i = 1 ∨ i = 2 := by omega
    · exact (by decide : streamB.size < 4611686018427387904)
    · exact hs
    · exact hl) (by rw [hpl.out, List.length_nil]; omega) yf hg2.out hTY.out hSY.out).mono ?_
  rintro e X2 ⟨rfl, ⟨F2, r2, hF2⟩, hb2⟩
  rw [List.nil_append] at r2
  have R2 : Hid (Rep (hK 0) (partsL [streamB, seed, label]) F2) := r2
  have ok2 := r2.ok (hK_length 0) (by rw [hpl.out]; omega)
  have zb : Hid (Below w.heap.size w X2) := yb.out.trans (hb2.below yb.out.size hgw.out)
  have HF2 : Hid (FAt X2 X.heap.size F2) := hF2
  have hmk := makeN n hn
  clear sl yf hb2 hF2 r2 hbX t59 i59 o59
  go_wp2_with fail
  have q1 : Hid (BHolds (X2.alloc (Obj.cells (barr (List.replicate n 0)) 5)) X2.heap.size 5 (List.replicate n 0)) := BHolds.new X2 5 _
  have q2 : Hid (FAt (X2.alloc (Obj.cells (barr (List.replicate n 0)) 5)) X.heap.size F2) := HF2.out.alloc _
  have q3 : Hid (Below w.heap.size w (X2.alloc (Obj.cells (barr (List.replicate n 0)) 5))) := zb.out.alloc zb.out.size _
  have q4 : Hid (w.heap.size ≤ X2.heap.size) := zb.out.size
  have q5 : Hid (X.heap.size < X2.heap.size) := HF2.out.lt
  clear hmk HF2
  generalize X2.alloc (Obj.cells (barr (List.replicate n 0)) 5) = W at *
  generalize X2.heap.size = ob at *
  generalize X.heap.size = g at *
  have hBl : Hid (∀ k, (blockL seed label k).length = 32) := blockL_length seed label
  have hBd : Hid (∀ k, blockL seed label k = digL (hK 0) (partsL [streamB, seed, label] ++ partsL [fourB k])) := fun k => by rw [← partsL_append]; rfl
  generalize hB0 : blockL seed label = B at *
  have HB0 : Hid (blockL seed label = B) := hB0
  clear hB0
  obtain ⟨M, hM⟩ : ∃ M, M = blocksOf n := ⟨_, rfl⟩
  have HM : Hid (M = (n + 31) / 32) := hM
  have kM : ((n : Int) + 32 - 1) / 32 = (M : Int) := by rw [hM]; unfold blocksOf; omega
  clear hM
  rw [kM]
  go_loopg [29] M (fun gk v29 wr => ∃ i : Nat, i + gk = M ∧ v29 = .int .i64 i ∧ FAt wr g F2 ∧ BHolds wr ob 5 (outS B n i) ∧ Below w.heap.size w wr)
  case atStart => exact ⟨0, by omega, rfl, q2.out, by rw [outS_zero]; exact q1.out, q3.out⟩
  case round =>
    obtain ⟨i, hi, rfl, h1, h2, h3⟩ := hrel
    by_cases hlM : i < M
    · have hlt : 32 * i < n := by have := HM.out; omega
      have iM : (i : Int) < (M : Int) := by omega
      have hi5 : i < 65536 := by omega
      have rG := h1.all
      have iG : (Tryd.prog.info? 48).map (·.size) = some (folC F2).length := by rw [size59, folC_length ok2]
      have iG' : (Tryd.prog.info? 48).map (·.size) = some (folC F2).toArray.size := by rw [size59, List.size_toArray, folC_length ok2]
      have oG := folC_one F2
      have u1 := FAt.new wr zeroF
      rw [HCZ.out] at u1
      have tG : (wr.alloc (Obj.cells CZ.toArray 48)).there wr.heap.size 0 (folC F2).toArray.size := by
        have e74 : (folC F2).toArray.size = 74 := by rw [List.size_toArray, folC_length ok2]
        rw [e74]; exact u1.thereAll zeroF_ok
      obtain ⟨V1, hV1⟩ : ∃ V1, V1 = (wr.alloc (Obj.cells CZ.toArray 48)).setCells wr.heap.size 0 (folC F2).toArray.toList := ⟨_, rfl⟩
      have he1 : Hid (w.heap.size ≤ wr.heap.size) := h3.size
      have he2 : Hid (2 < wr.heap.size) := Nat.lt_of_lt_of_le hT0.out he1.out
      have hne : Hid (ob ≠ wr.heap.size) := by have := h2.lt; show ¬ _; omega
      have hne2 : Hid (g ≠ wr.heap.size) := by have := h1.lt; show ¬ _; omega
      have hbo : But wr.heap.size (wr.alloc (Obj.cells CZ.toArray 48)) V1 := by rw [hV1]; exact But.setOwn _ _ _ (But.refl _ _)
      have E1 : Hid (FAt V1 wr.heap.size F2) := by show FAt _ _ _; rw [hV1]; exact u1.setAll zeroF_ok F2 ok2
      have G1 : Hid (FAt V1 g F2) := (h1.alloc _).of_but hbo hne2.out
      have H1 : Hid (BHolds V1 ob 5 (outS B n i)) := (h2.alloc _).of_but hbo hne.out
      have B1 : Hid (Below w.heap.size w V1) := by show Below _ _ _; rw [hV1]; exact Below.setNews he1.out _ _ _ (h3.alloc h3.size _)
      clear u1 hbo h1 h2 h3
      generalize folC F2 = C2 at *
      go_wp2_with (first
        | (refine wpList_load_mid rfl 48 (.tmp 8) rfl g 0 rfl C2 _ rG Tryd.underlying48 rfl iG ?_)
        | (refine wpList_store_mid rfl 48 (.tmp 11) (.tmp 32) rfl wr.heap.size 0 C2.toArray rfl rfl tG iG' oG ?_; rw [← hV1]; clear hV1))
      clear tG
      generalize wr.heap.size = eb at *
      refine (fourB_any i (by omega) V1).mono ?_
      rintro e V2 ⟨rfl, hb2⟩
      have E2 : Hid (FAt V2 eb F2) := E1.out.of_below hb2 E1.out.lt
      have G2 : Hid (FAt V2 g F2) := G1.out.of_below hb2 G1.out.lt
      have H2 : Hid (BHolds V2 ob 5 (outS B n i)) := H1.out.of_below hb2 H1.out.lt
      have B2 : Hid (Below w.heap.size w V2) := B1.out.trans (hb2.mono B1.out.size)
      have hfb : (⟨(fourL i).toArray⟩ : ByteArray) = fourB i := rfl
      rw [hfb]
      have hf4 := fourB_size i
      generalize hFB : fourB i = FB at *
      have HFB : Hid (fourB i = FB) := hFB
      clear hFB hfb hb2 E1 G1 H1 B1 rG iG iG' oG
      go_wp2_with fail
      have sl2 : SAt (V2.alloc (Obj.cells #[Value.string FB] 9)) (some ⟨V2.heap.size, 0, none⟩) [FB] := SAt.new V2 [FB] 9
      have E3 : FAt (V2.alloc (Obj.cells #[Value.string FB] 9)) eb F2 := E2.out.alloc _
      have G3 : Hid (FAt (V2.alloc (Obj.cells #[Value.string FB] 9)) g F2) := G2.out.alloc _
      have H3 : Hid (BHolds (V2.alloc (Obj.cells #[Value.string FB] 9)) ob 5 (outS B n i)) := H2.out.alloc _
      have B3 : Hid (Below w.heap.size w (V2.alloc (Obj.cells #[Value.string FB] 9))) := B2.out.alloc B2.out.size _
      have nne : V2.heap.size ≠ eb := by have := E2.out.lt; omega
      generalize V2.alloc (Obj.cells #[Value.string FB] 9) = V3 at *
      refine (addParts_any eb (hK 0) (hK_length 0) _ F2 R2.out (some ⟨V2.heap.size, 0, none⟩) 1 [FB] V3 (sl2.apart (fun b o hb _ => by injection hb with hb; injection hb with h1 _; rw [← h1]; exact nne)) (by simp) (by
        intro j hj
        obtain rfl : j = 0 := by simpa using hj
        show FB.size < _
        omega) (by rw [hpl.out, partsL_one, List.length_append, fourL_length, ← Lib.size_eq]; omega) E3 he2.out (hT.of_below B3.out hT0.out) (hS.of_below B3.out hT0.out)).mono ?_
      rintro e V4 ⟨rfl, ⟨F3, r3, hF3⟩, hb4⟩
      rw [← HFB.out] at r3
      have ok3 := r3.ok (hK_length 0) (by rw [List.length_append, hpl.out, partsL_one, List.length_append, fourL_length, ← Lib.size_eq, fourB_size]; omega)
      have G4 : Hid (FAt V4 g F2) := G3.out.of_but hb4 hne2.out
      have H4 : Hid (BHolds V4 ob 5 (outS B n i)) := H3.out.of_but hb4 hne.out
      have B4 : Hid (Below w.heap.size w V4) := B3.out.trans (hb4.below B3.out.size he1.out)
      have hT4 : Hid (Tabs V4.drew) := hT.of_below B4.out.drew hT0.out
      have hS4 : Hid (Starts V4.drew) := hS.of_below B4.out.drew hT0.out
      clear sl2 E3 G3 H3 B3 E2 G2 H2 B2 hb4
      have km : IntKind.i64.wrap ((i : Int) * 32) = (i : Int) * 32 := IntWalk.i64_in _ ⟨by omega, by omega⟩
      have hsl := fun w' => slice64_from ob n ((i : Int) * 32) (32 * i) (by omega) hlt w'
      go_wp2_with fail
      refine wp_region_held_drew (S := fun _ => True) (by kernel_rfl) (trivial) (fun hHeld => ?_)
      refine wpAnyH_take (i := 0) (v := .slice (some ⟨ob, 0, none⟩) n n) rfl (by kernel_rfl) (by kernel_rfl) (by kernel_rfl) (fun _ _ _ h => h) (Or.inl ⟨by rfl, ?_⟩) hHeld ?_
      · intro w _; go_simp
      simp only [Act.put, List.getElem_toArray, List.getElem_cons_succ, List.getElem_cons_zero, List.setIfInBounds_toArray, List.set_cons_zero, List.set_cons_succ, Array.toArray_toList]
      refine wpAnyH_take (i := 1) (v := .int .i64 (i : Int)) rfl (by kernel_rfl) (by kernel_rfl) (by kernel_rfl) (fun _ _ _ h => h) (Or.inl ⟨by rfl, ?_⟩) hHeld ?_
      · intro w _; go_simp
      simp only [Act.put, List.getElem_toArray, List.getElem_cons_succ, List.getElem_cons_zero, List.setIfInBounds_toArray, List.set_cons_zero, List.set_cons_succ, Array.toArray_toList]
      refine wpAnyH_take (i := 2) (v := .int .i64 ((i : Int) * 32)) rfl (by kernel_rfl) (by kernel_rfl) (by kernel_rfl) (fun _ _ _ h => h) (Or.inl ⟨by rfl, ?_⟩) hHeld ?_
      · intro w _; go_simp
      simp only [Act.put, List.getElem_toArray, List.getElem_cons_succ, List.getElem_cons_zero, List.setIfInBounds_toArray, List.set_cons_zero, List.set_cons_succ, Array.toArray_toList]
      refine wpAnyH_take (i := 3) (v := .slice (some ⟨ob, 32 * i, none⟩) (n - 32 * i) (n - 32 * i)) rfl (by kernel_rfl) (by kernel_rfl) (by kernel_rfl) (fun _ _ _ h => h) (Or.inl ⟨by rfl, ?_⟩) hHeld ?_
      · intro w _; go_simp
      simp only [Act.put, List.getElem_toArray, List.getElem_cons_succ, List.getElem_cons_zero, List.setIfInBounds_toArray, List.set_cons_zero, List.set_cons_succ, Array.toArray_toList]
      refine wpAnyH_ready (rs := [4]) (by kernel_rfl) (by simp) ?_
      refine AllReadyH.cons rfl (fun K hK => ?_) AllReadyH.nil
      go_simp
      refine (end_any eb F3 ok3 V4.drew hF3 he2.out hT4.out hS4.out).mono ?_
      rintro e V5 ⟨rfl, hb50⟩
      have hb5 : But eb V4 V5 := ⟨hb50.os, hb50.tape, hb50.output, hb50.size, hb50.block⟩
      rw [r3.dig, ← hBd.out i]
      have v1 : BHolds V5 ob 5 (outS B n i) := H4.out.of_but hb5 hne.out
      have v2 : Hid (FAt V5 g F2) := G4.out.of_but hb5 hne2.out
      have v3 : Hid (Below w.heap.size w V5) := B4.out.trans (hb5.below B4.out.size he1.out)
      have hDl := hBl.out i
      have hst : Hid (∀ m, m = min 32 (n - 32 * i) → (outS B n i).take (32 * i) ++ (B i).take m ++ (outS B n i).drop (32 * i + m) = outS B n (i + 1)) := fun m hm => outS_step hBl.out n i m hlt hm
      have hol := outS_length hBl.out n i
      generalize B i = D at *
      generalize outS B n i = L at *
      clear hb5 hb50 r3
      go_wp2_with fail
      refine hK.out _ _ (trivial) (fun hHeld2 => ?_)
      clear hK K
      try simp only [Act.put, List.getElem_toArray, List.getElem_cons_succ, List.getElem_cons_zero, List.setIfInBounds_toArray, List.set_cons_zero, List.set_cons_succ, Array.toArray_toList]
      obtain ⟨m, hm⟩ : ∃ m, m = min 32 (n - 32 * i) := ⟨_, rfl⟩
      have hstep := hst.out m hm
      have hDs : (⟨D.toArray⟩ : ByteArray).size = 32 := by show D.toArray.size = 32; simpa using hDl
      have hth : V5.there ob (32 * i) m := v1.there _ _ (by omega)
      have hcp := run_copy_some V5 51 9 3 5 ob (32 * i) (n - 32 * i) (n - 32 * i) m ⟨D.toArray⟩ Tryd.underlying51 sizeOf5 (by rw [hDs]; exact hm) hth
      have hml : (D.take m).length = m := by rw [List.length_take]; omega
      have z1 := v1.setPart (32 * i) (D.take m) (by omega)
      rw [hml, hstep] at z1
      have Z1 : Hid (BHolds (V5.setCells ob (32 * i) ((D.take m).map Y)) ob 5 (outS B n (i + 1))) := z1
      have hne3 : g ≠ ob := by have := q5.out; omega
      have Z2 : Hid (FAt (V5.setCells ob (32 * i) ((D.take m).map Y)) g F2) := v2.out.of_but (But.setOwn _ _ _ (But.refl _ _)) hne3
      have Z3 : Hid (Below w.heap.size w (V5.setCells ob (32 * i) ((D.take m).map Y))) := Below.setNews q4.out _ _ _ v3.out
      have hcp' : (Builtin.copy_ #[51, 9] 3 #[.slice (some ⟨ob, 32 * i, none⟩) (n - 32 * i) (n - 32 * i), .string ⟨D.toArray⟩]).run Tryd.prog V5 = .ok (goInt m) (V5.setCells ob (32 * i) ((D.take m).map Y)) := by simpa using hcp
      clear hcp z1 hstep hth
      generalize V5.setCells ob (32 * i) ((D.take m).map Y) = Z at *
      refine wpAnyH_ready (rs := [5]) (by kernel_rfl) (by simp) ?_
      refine AllReadyH.cons rfl (fun K hK => ?_) AllReadyH.nil
      go_simp
      refine hK.out _ _ trivial (fun hHeld3 => ?_)
      clear hK K
      try simp only [Act.put, List.getElem_toArray, List.getElem_cons_succ, List.getElem_cons_zero, List.setIfInBounds_toArray, List.set_cons_zero, List.set_cons_succ, Array.toArray_toList]
      refine wpAnyH_done (by kernel_rfl) ?_ _
      clear hcp' hsl km v1
      go_wp2_with fail
      go_roundg (gk - 1)
      case measure => omega
      case rel => exact ⟨i + 1, by omega, by go_num, Z2.out, Z1.out, Z3.out⟩
    · obtain rfl : i = M := by omega
      have HE : Hid (outS B n i = (streamL B i).take n) := outS_end hBl.out n i (by have := HM.out; omega)
      have hol := outS_length hBl.out n i
      have HMb : Hid (blocksOf n = i) := by show _ = _; rw [HM.out]; rfl
      generalize outS B n i = L at *
      have hcv := run_convert_bytes_arg (P := Tryd.prog) wr 51 5 Tryd.underlying51 Tryd.underlying5 ob 0 n n (L.map fun x => (x.toNat : Int)) (by simpa using hol) (fun j hj => by rw [Nat.zero_add, h2.cell j (by omega)]; simp [List.getElem?_eq_getElem (show j < L.length by omega)]) 9 Tryd.underlying9
      rw [Lib.Lz.strOfNums_map] at hcv
      go_wp2_with fail
      go_ret2
      exact ⟨by rw [HB0.out, HMb.out, ← HE.out]; rfl, h3⟩
end Go.Proofs.YtalagjmjpoacmabDoor
