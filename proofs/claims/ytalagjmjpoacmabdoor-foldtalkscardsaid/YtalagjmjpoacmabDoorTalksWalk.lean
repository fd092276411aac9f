/- The walk of the law FoldTalks. -/
import Derived.Test.YtalagjmjpoacmabDoorTalks
import Derived.Deep.CutBlock
import Derived.Deep.DeepCutAuto
set_option linter.unusedSimpArgs false
set_option linter.unusedVariables false
namespace Go.Proofs.YtalagjmjpoacmabDoor
open Go.RowKit

/-- A step, and a slice of steps. -/
structure TStep where
  do_ : Int
  at_ : Int
  label : ByteArray
  text : ByteArray
def StAt (w : World) (a : Option Addr) (st : List TStep) : Prop := ∀ i (h : i < st.length), ∃ b o, a = some ⟨b, o, none⟩ ∧ b < w.heap.size ∧ w.cell? ⟨b, o + i * 4, none⟩ = some (.int .i64 st[i].do_) ∧ w.cell? ⟨b, o + i * 4 + 1, none⟩ = some (.int .i64 st[i].at_) ∧
  w.cell? ⟨b, o + i * 4 + 2, none⟩ = some (.string st[i].label) ∧ w.cell? ⟨b, o + i * 4 + 3, none⟩ = some (.string st[i].text)

set_option maxRecDepth 100000 in
set_option maxHeartbeats 2000000 in
theorem foldTalks_walk (label : ByteArray) (hl : label.size < 1125899906842624) (a : Option Addr) (cap : Nat) (st : List TStep) (w : World) (hst : StAt w a st) (hn : st.length < 4398046511104)
    (hsz : ∀ i (h : i < st.length), st[i].label.size < 1125899906842624 ∧ st[i].text.size < 1125899906842624) (hiv : ∀ i (h : i < st.length), -9223372036854775808 ≤ st[i].at_ ∧ st[i].at_ ≤ 9223372036854775807) (hT : Tabs w) (hS : Starts w) :
    Calls Tryd.prog 4 #[.string label, .slice a st.length cap] w fun e w' => e = .returned (.bool true) ∧ Below w.heap.size w w' := by
  have hT0 : Hid (2 < w.heap.size) := hT.size
  have HST : Hid (StAt w a st) := hst
  have HSZ : Hid (∀ i (h : i < st.length), st[i].label.size < 1125899906842624 ∧ st[i].text.size < 1125899906842624) := hsz
  have HIV : Hid (∀ i (h : i < st.length), -9223372036854775808 ≤ st[i].at_ ∧ st[i].at_ ≤ 9223372036854775807) := hiv
  clear hst hsz hiv
  go_enter Tryd.func4, Tryd.ntmps4
  go_wp2_with fail
  refine (newTalk_any label hl w hT hS).mono ?_
  rintro e X ⟨⟨b0, rfl, hb0, hA0⟩, hbX⟩
  have HS0 : Hid ((tagB talkB [label]).size = 32) := tagB_size _ _
  have HR0 : Hid (∀ w, Calls Tryd.prog 7 #[.string label] w fun e w' => e = .returned (.agg #[.string (tagB talkB [label])]) ∧ Below w.heap.size w w') := fun w => refNewTalk_any label hl w
  generalize tagB talkB [label] = S0 at *
  have HBX : Hid (Below w.heap.size w X) := hbX
  have HA0 : Hid (TAt X b0 S0 ∧ w.heap.size ≤ b0) := ⟨hA0, hb0⟩
  clear hA0 hb0 hbX
  go_wp2_with fail
  refine (HR0.out _).mono ?_
  rintro e X2 ⟨rfl, hb2⟩
  have T1 : Hid ((X.alloc (Obj.cells #[PT b0] 27)).ownsRow w.heap.size 27 1 (.slice (some ⟨X.heap.size, 0, none⟩) 1 1) 1 [PT b0]) := World.ownsRow_lit X #[PT b0] 1 HBX.out.size (by decide) rfl
  have A1 : Hid (TAt (X.alloc (Obj.cells #[PT b0] 27)) b0 S0) := HA0.out.1.alloc _
  have B1 : Hid (Below w.heap.size w (X.alloc (Obj.cells #[PT b0] 27))) := HBX.out.alloc HBX.out.size _
  have T2 : Hid (X2.ownsRow w.heap.size 27 1 (.slice (some ⟨X.heap.size, 0, none⟩) 1 1) 1 [PT b0]) := ownsRow_keep T1.out hb2.block
  have A2 : Hid (TAt X2 b0 S0) := A1.out.of_below hb2 A1.out.lt
  have B2 : Hid (Below w.heap.size w X2) := B1.out.trans (hb2.mono B1.out.size)
  have N1 : Hid (X.heap.size < X2.heap.size) := by have := hb2.size; rw [World.size_alloc] at this; show _ < _; omega
  have N2 : Hid (b0 < X.heap.size) := HA0.out.1.lt
  clear hb2 T1 A1 B1 HR0
  have TS0 : Hid (TS (X2.alloc (Obj.cells #[Value.string S0] 31)) w.heap.size X.heap.size 1 X2.heap.size 1 [S0] [S0] [b0]) := by
    refine ⟨rfl, rfl, by simp, ownsRow_keep T2.out (fun k hk => Below.heap_alloc _ _ _ hk), World.ownsRow_lit X2 #[Value.string S0] 1 B2.out.size (by decide) rfl, ?_, ?_, ?_, by have := N1.out; omega, ?_⟩
    · intro i hi
      obtain rfl : i = 0 := by simpa using hi
      exact A2.out.alloc _
    · intro i hi
      obtain rfl : i = 0 := by simpa using hi
      have := N1.out
      have := N2.out
      exact ⟨HA0.out.2, by show b0 ≠ _; omega, by show b0 ≠ _; omega⟩
    · intro i j hi hj _
      have : i < 1 := hi
      have : j < 1 := hj
      omega
    · intro i hi
      obtain rfl : i = 0 := by simpa using hi
      exact HS0.out
  have B3 : Hid (Below w.heap.size w (X2.alloc (Obj.cells #[Value.string S0] 31))) := B2.out.alloc B2.out.size _
  have c0 : (X2.alloc (Obj.cells #[Value.string S0] 31)).cell? ⟨X.heap.size, 0, none⟩ = some (PT b0) := TS0.out.ptr 0 (by simp)
  go_upto_region 3 with fail
  generalize X2.alloc (Obj.cells #[Value.string S0] 31) = Y at *
  generalize X2.heap.size = g20 at *
  generalize X.heap.size = g10 at *
  clear T2 A2 B2 HBX HA0 HS0
  go_wp2_with fail
  clear c0
  go_loopg [5, 6, 29] st.length (fun gk v5 v6 v29 wr => ∃ (r g1 c1 g2 c2 : Nat) (S : List ByteArray) (bs : List Nat), r + gk = st.length ∧ v29 = .int .i64 r ∧ v5 = .slice (some ⟨g1, 0, none⟩) S.length c1 ∧ v6 = .slice (some ⟨g2, 0, none⟩) S.length c2 ∧ TS wr w.heap.size g1 c1 g2 c2 S S bs ∧ S.length ≤ r + 1 ∧ Below w.heap.size w wr)
  case atStart => exact ⟨0, g10, 1, g20, 1, [S0], [b0], by omega, rfl, rfl, rfl, TS0.out, by simp, B3.out⟩
  case round =>
    obtain ⟨r, g1, c1, g2, c2, S, bs, hr, rfl, rfl, rfl, hTS, hSl, hB⟩ := hrel
    have HTS : Hid (TS wr w.heap.size g1 c1 g2 c2 S S bs) := hTS
    have HB : Hid (Below w.heap.size w wr) := hB
    have hpos := hTS.pos
    clear hTS hB
    by_cases hlt : r < st.length
    · obtain ⟨sb, so, rfl, hsb, d0, d1, d2, d3⟩ := HST.out r hlt
      have hsb' : Hid (sb < w.heap.size) := hsb
      rw [← HB.out.cell (p := ⟨sb, so + r * 4, none⟩) hsb] at d0
      rw [← HB.out.cell (p := ⟨sb, so + r * 4 + 1, none⟩) hsb] at d1
      rw [← HB.out.cell (p := ⟨sb, so + r * 4 + 2, none⟩) hsb] at d2
      rw [← HB.out.cell (p := ⟨sb, so + r * 4 + 3, none⟩) hsb] at d3
      have hsz1 := HSZ.out r hlt
      have hiv1 := HIV.out r hlt
      generalize st[r] = x at *
      obtain ⟨xd, xa, xl, xt⟩ := x
      simp only at d0 d1 d2 d3 hsz1 hiv1
      have rlt : (r : Int) < (st.length : Int) := by omega
      go_upto_if 39 with fail
      have z0 : (wr.alloc (Obj.cells #[Value.int .i64 xd, Value.int .i64 xa, Value.string xl, Value.string xt] 35)).cell? ⟨wr.heap.size, 0, none⟩ = some (.int .i64 xd) := by simp
      have z2 : (wr.alloc (Obj.cells #[Value.int .i64 xd, Value.int .i64 xa, Value.string xl, Value.string xt] 35)).cell? ⟨wr.heap.size, 2, none⟩ = some (.string xl) := by simp
      have z3 : (wr.alloc (Obj.cells #[Value.int .i64 xd, Value.int .i64 xa, Value.string xl, Value.string xt] 35)).cell? ⟨wr.heap.size, 3, none⟩ = some (.string xt) := by simp
      have HT1 : Hid (TS (wr.alloc (Obj.cells #[Value.int .i64 xd, Value.int .i64 xa, Value.string xl, Value.string xt] 35)) w.heap.size g1 c1 g2 c2 S S bs) := HTS.out.alloc _
      have HB1 : Hid (Below w.heap.size w (wr.alloc (Obj.cells #[Value.int .i64 xd, Value.int .i64 xa, Value.string xl, Value.string xt] 35))) := HB.out.alloc HB.out.size _
      have HN1 : Hid (wr.heap.size < (wr.alloc (Obj.cells #[Value.int .i64 xd, Value.int .i64 xa, Value.string xl, Value.string xt] 35)).heap.size) := by show _ < _; simp
      have HN2 : Hid (w.heap.size ≤ wr.heap.size) := HB.out.size
      have HN3 : Hid (g1 < wr.heap.size ∧ g2 < wr.heap.size ∧ ∀ i, i < S.length → bs.getD i 0 < wr.heap.size) := ⟨HTS.out.g1lt.2, HTS.out.g2lt.2, fun i hi => (HTS.out.at_ i hi).lt⟩
      clear d0 d1 d2 d3 HTS HB
      generalize wr.alloc (Obj.cells #[Value.int .i64 xd, Value.int .i64 xa, Value.string xl, Value.string xt] 35) = W at *
      generalize wr.heap.size = sg at *
      have hq1 : (xa.tmod (S.length : Int)).natAbs < S.length := by
        rw [Int.natAbs_tmod, Int.natAbs_natCast]; exact Nat.mod_lt _ hpos
      generalize xa.tmod (S.length : Int) = q at *
      have hLb : S.length < 4398046511106 := by omega
      go_cut [9] (fun v9 wx => W = wx ∧ ∃ k : Nat, k < S.length ∧ v9 = .int .i64 (k : Int))
      case first =>
        by_cases hq : q < 0
        · go_wp2_with fail
          go_meet
          case rel => exact ⟨rfl, (q + (S.length : Int)).toNat, by omega, by congr 1; omega⟩
        · have hq' : 0 ≤ q := by omega
          go_wp2_with fail
          go_meet
          case rel => exact ⟨rfl, q.toNat, by omega, by congr 1; omega⟩
      case rest =>
        obtain ⟨rfl, k, hk, rfl⟩ := hcut
        clear hq1 hiv1
        have kS : (k : Int) < (S.length : Int) := by omega
        have p1 : W.cell? ⟨g1, k, none⟩ = some (PT (bs.getD k 0)) := HT1.out.ptr k hk
        have p2 : W.cell? ⟨g2, k, none⟩ = some (.string (S.getD k noB)) := HT1.out.want k hk
        have hAk : Hid (TAt W (bs.getD k 0) (S.getD k noB)) := HT1.out.at_ k hk
        have hzk := HT1.out.sz k hk
        have hgk : Hid (w.heap.size ≤ bs.getD k 0) := (HT1.out.ge k hk).1
        have hsk : Hid (bs.getD k 0 ≠ sg) := by have := HN3.out.2.2 k hk; show ¬ _; omega
        generalize hbk : bs.getD k 0 = bk at p1 hAk hgk hsk
        have HBK : Hid (bs.getD k 0 = bk) := hbk
        generalize hskk : S.getD k noB = sk at p2 hAk hzk
        have HSK : Hid (S.getD k noB = sk) := hskk
        clear hbk hskk
        have h2k : Hid (2 < bk) := Nat.lt_of_lt_of_le hT0.out hgk.out
        by_cases hd0 : xd = 0
        · subst hd0
          go_wp2_with fail
          refine wp_region_still_tail 8 mixed (by kernel_rfl) ?_
          simp only [List.take_succ_cons, List.take_zero, List.drop_succ_cons, List.drop_zero]
          show wpStill _ _ W.drew _ _ _
          repeat still_step
          refine wpStill_nil ?_
          clear p1 p2 z0
          have HSN : Hid ((tagB sayB [sk, xl, xt]).size = 32) := tagB_size _ _
          have HRS : Hid (∀ w, Calls Tryd.prog 9 #[.agg #[.string sk], .string xl, .string xt] w fun e w' => e = .returned (.agg #[.string (tagB sayB [sk, xl, xt])]) ∧ Below w.heap.size w w') := fun w => refSay_any sk xl xt hzk hsz1.1 hsz1.2 w
          have HSA : Hid (Calls Tryd.prog 8 #[.pointer (some ⟨bk, 0, none⟩), .string xl, .string xt] W.drew fun e w' => e = .returned (.tuple #[]) ∧ TAt w' bk (tagB sayB [sk, xl, xt]) ∧ But bk W.drew w') := say_any bk sk xl xt hzk hsz1.1 hsz1.2 W.drew hAk.out h2k.out (hT.of_below HB1.out.drew hT0.out) (hS.of_below HB1.out.drew hT0.out)
          generalize tagB sayB [sk, xl, xt] = sn at *
          go_wp2_with fail
          refine HSA.out.mono ?_
          rintro e V1 ⟨rfl, hA1, hb10⟩
          have hb1 : But bk W V1 := ⟨hb10.os, hb10.tape, hb10.output, hb10.size, hb10.block⟩
          have t1 : Hid (TS V1 w.heap.size g1 c1 g2 c2 (S.set k sn) S bs) := HT1.out.talk k hk (by rw [HBK.out]; exact hb1) sn (by rw [HBK.out]; exact hA1) HSN.out
          have y2 : V1.cell? ⟨sg, 2, none⟩ = some (.string xl) := by rw [hb1.cell HN1.out hsk.out.symm]; exact z2
          have y3 : V1.cell? ⟨sg, 3, none⟩ = some (.string xt) := by rw [hb1.cell HN1.out hsk.out.symm]; exact z3
          have hlS : (S.set k sn).length = S.length := List.length_set ..
          have y5 : V1.cell? ⟨g2, k, none⟩ = some (.string sk) := by rw [t1.out.want k (by omega), HSK.out]
          have B1 : Hid (Below w.heap.size w V1) := HB1.out.trans (hb1.below HB1.out.size hgk.out)
          have hsz' : Hid (W.heap.size ≤ V1.heap.size) := hb1.size
          clear z2 z3 hb1 hb10 hA1 HSA
          go_wp2_with fail
          have N4 : Hid (sg < V1.drew.heap.size) := by have := HN1.out; have := hsz'.out; show sg < V1.heap.size; omega
          have N6 : Hid (sg ≠ g2) := by have := HN3.out.2.1; show ¬ _; omega
          refine wp_region_held_drew (S := fun w' => w'.cell? ⟨sg, 2, none⟩ = some (.string xl) ∧ w'.cell? ⟨sg, 3, none⟩ = some (.string xt)) (by kernel_rfl) ⟨y2, y3⟩ (fun hHeld => ?_)
          refine wpAnyH_take (i := 0) (v := .slice (some ⟨g2, 0, none⟩) S.length c2) rfl (by kernel_rfl) (by kernel_rfl) (by kernel_rfl) (fun _ _ _ h => h) (Or.inl ⟨by rfl, ?_⟩) hHeld ?_
          · intro w' hSw; go_simp
          simp only [Act.put, List.getElem_toArray, List.getElem_cons_succ, List.getElem_cons_zero, List.setIfInBounds_toArray, List.set_cons_zero, List.set_cons_succ, Array.toArray_toList]
          refine wpAnyH_take (i := 1) (v := .int .i64 (k : Int)) rfl (by kernel_rfl) (by kernel_rfl) (by kernel_rfl) (fun _ _ _ h => h) (Or.inl ⟨by rfl, ?_⟩) hHeld ?_
          · intro w' hSw; go_simp
          simp only [Act.put, List.getElem_toArray, List.getElem_cons_succ, List.getElem_cons_zero, List.setIfInBounds_toArray, List.set_cons_zero, List.set_cons_succ, Array.toArray_toList]
          refine wpAnyH_take (i := 2) (v := .slice (some ⟨g2, 0, none⟩) S.length c2) rfl (by kernel_rfl) (by kernel_rfl) (by kernel_rfl) (fun _ _ _ h => h) (Or.inl ⟨by rfl, ?_⟩) hHeld ?_
          · intro w' hSw; go_simp
          simp only [Act.put, List.getElem_toArray, List.getElem_cons_succ, List.getElem_cons_zero, List.setIfInBounds_toArray, List.set_cons_zero, List.set_cons_succ, Array.toArray_toList]
          refine wpAnyH_take (i := 3) (v := .int .i64 (k : Int)) rfl (by kernel_rfl) (by kernel_rfl) (by kernel_rfl) (fun _ _ _ h => h) (Or.inl ⟨by rfl, ?_⟩) hHeld ?_
          · intro w' hSw; go_simp
          simp only [Act.put, List.getElem_toArray, List.getElem_cons_succ, List.getElem_cons_zero, List.setIfInBounds_toArray, List.set_cons_zero, List.set_cons_succ, Array.toArray_toList]
          refine wpAnyH_take (i := 4) (v := .pointer (some ⟨g2, k, none⟩)) rfl (by kernel_rfl) (by kernel_rfl) (by kernel_rfl) (fun _ _ _ h => h) (Or.inl ⟨by rfl, ?_⟩) hHeld ?_
          · intro w' hSw; go_simp
          simp only [Act.put, List.getElem_toArray, List.getElem_cons_succ, List.getElem_cons_zero, List.setIfInBounds_toArray, List.set_cons_zero, List.set_cons_succ, Array.toArray_toList]
          refine wpAnyH_take (i := 6) (v := .pointer (some ⟨sg, 2, none⟩)) rfl (by kernel_rfl) (by kernel_rfl) (by kernel_rfl) (fun _ _ _ h => h) (Or.inl ⟨by rfl, ?_⟩) hHeld ?_
          · intro w' hSw; go_simp
          simp only [Act.put, List.getElem_toArray, List.getElem_cons_succ, List.getElem_cons_zero, List.setIfInBounds_toArray, List.set_cons_zero, List.set_cons_succ, Array.toArray_toList]
          refine wpAnyH_take (i := 7) (v := .string xl) rfl (by kernel_rfl) (by kernel_rfl) (by kernel_rfl) (fun _ _ _ h => h) (Or.inl ⟨by rfl, ?_⟩) hHeld ?_
          · intro w' hSw; obtain ⟨e2, e3⟩ := hSw; go_simp
          simp only [Act.put, List.getElem_toArray, List.getElem_cons_succ, List.getElem_cons_zero, List.setIfInBounds_toArray, List.set_cons_zero, List.set_cons_succ, Array.toArray_toList]
          refine wpAnyH_take (i := 8) (v := .pointer (some ⟨sg, 3, none⟩)) rfl (by kernel_rfl) (by kernel_rfl) (by kernel_rfl) (fun _ _ _ h => h) (Or.inl ⟨by rfl, ?_⟩) hHeld ?_
          · intro w' hSw; go_simp
          simp only [Act.put, List.getElem_toArray, List.getElem_cons_succ, List.getElem_cons_zero, List.setIfInBounds_toArray, List.set_cons_zero, List.set_cons_succ, Array.toArray_toList]
          refine wpAnyH_take (i := 9) (v := .string xt) rfl (by kernel_rfl) (by kernel_rfl) (by kernel_rfl) (fun _ _ _ h => h) (Or.inl ⟨by rfl, ?_⟩) hHeld ?_
          · intro w' hSw; obtain ⟨e2, e3⟩ := hSw; go_simp
          simp only [Act.put, List.getElem_toArray, List.getElem_cons_succ, List.getElem_cons_zero, List.setIfInBounds_toArray, List.set_cons_zero, List.set_cons_succ, Array.toArray_toList]
          refine wpAnyH_ready (rs := [5]) (by kernel_rfl) (by simp) ?_
          refine AllReadyH.cons rfl (fun K hK => ?_) AllReadyH.nil
          go_simp
          refine hK.out _ _ ⟨y2, y3⟩ (fun hHeld2 => ?_)
          clear hK K
          try simp only [Act.put, List.getElem_toArray, List.getElem_cons_succ, List.getElem_cons_zero, List.setIfInBounds_toArray, List.set_cons_zero, List.set_cons_succ, Array.toArray_toList]
          refine wpAnyH_ready (rs := [10]) (by kernel_rfl) (by simp) ?_
          refine AllReadyH.cons rfl (fun K hK => ?_) AllReadyH.nil
          go_simp
          refine (HRS.out V1.drew).mono ?_
          rintro e V2 ⟨rfl, hb2⟩
          have t2 : Hid (TS V2 w.heap.size g1 c1 g2 c2 (S.set k sn) S bs) := t1.out.below ⟨hb2.os, hb2.tape, hb2.output, hb2.size, hb2.block⟩
          have x2 : V2.cell? ⟨sg, 2, none⟩ = some (.string xl) := by rw [hb2.cell N4.out]; exact y2
          have x3 : V2.cell? ⟨sg, 3, none⟩ = some (.string xt) := by rw [hb2.cell N4.out]; exact y3
          have N5 : Hid (sg < V2.heap.size) := Nat.lt_of_lt_of_le N4.out hb2.size
          have x5 := t2.out.want k (by omega)
          have xf := t2.out.wfrozen k
          have B2 : Hid (Below w.heap.size w V2) := B1.out.trans (Below.mono ⟨hb2.os, hb2.tape, hb2.output, hb2.size, hb2.block⟩ B1.out.size)
          clear hb2 y2 y3 y5
          go_wp2_with fail
          refine hK.out _ _ ⟨x2, x3⟩ (fun hHeld3 => ?_)
          clear hK K
          try simp only [Act.put, List.getElem_toArray, List.getElem_cons_succ, List.getElem_cons_zero, List.setIfInBounds_toArray, List.set_cons_zero, List.set_cons_succ, Array.toArray_toList]
          refine wpAnyH_ready (rs := [11]) (by kernel_rfl) (by simp) ?_
          refine AllReadyH.cons rfl (fun K hK => ?_) AllReadyH.nil
          go_simp
          refine hK.out _ _ ⟨x2, x3⟩ (fun hHeld4 => ?_)
          clear hK K
          try simp only [Act.put, List.getElem_toArray, List.getElem_cons_succ, List.getElem_cons_zero, List.setIfInBounds_toArray, List.set_cons_zero, List.set_cons_succ, Array.toArray_toList]
          refine wpAnyH_ready (rs := [12]) (by kernel_rfl) (by simp) ?_
          refine AllReadyH.cons rfl (fun K hK => ?_) AllReadyH.nil
          go_simp
          refine hK.out _ _ ⟨?_, ?_⟩ (fun hHeld5 => ?_)
          · rw [((But.refl g2 V2).setCell k (.string sn)).cell N5.out N6.out]; exact x2
          · rw [((But.refl g2 V2).setCell k (.string sn)).cell N5.out N6.out]; exact x3
          clear hK K
          try simp only [Act.put, List.getElem_toArray, List.getElem_cons_succ, List.getElem_cons_zero, List.setIfInBounds_toArray, List.set_cons_zero, List.set_cons_succ, Array.toArray_toList]
          refine wpAnyH_done (by kernel_rfl) ?_ _
          have t3 : Hid (TS (V2.setCell ⟨g2, k, none⟩ (.string sn)) w.heap.size g1 c1 g2 c2 (S.set k sn) (S.set k sn) bs) := t2.out.wants k (by omega) sn
          have B3 : Hid (Below w.heap.size w (V2.setCell ⟨g2, k, none⟩ (.string sn))) := Below.own B2.out HT1.out.g2lt.1 _ _
          clear x2 x3 x5 xf
          go_wp2_with fail
          go_roundg (gk - 1)
          case measure => omega
          case rel => exact ⟨r + 1, g1, c1, g2, c2, S.set k sn, bs, by omega, by go_num, by rw [hlS], by rw [hlS], t3.out, by omega, B3.out⟩
        · by_cases hd1 : xd = 1
          · subst hd1
            go_wp2_with fail
            have HRA : Hid (∀ w, Calls Tryd.prog 10 #[.agg #[.string sk], .string xl] w fun e w' => e = .returned (.tuple #[.string (tagB askB [sk, xl]), .agg #[.string (tagB askedB [sk, xl])]]) ∧ Below w.heap.size w w') := fun w => refAsk_any sk xl hzk hsz1.1 w
            have HAA : Hid (∀ V, Below w.heap.size w V → TAt V bk sk → Calls Tryd.prog 11 #[.pointer (some ⟨bk, 0, none⟩), .string xl] V fun e w' => e = .returned (.string (tagB askB [sk, xl])) ∧ TAt w' bk (tagB askedB [sk, xl]) ∧ But bk V w') := fun V hV hA => ask_any bk sk xl hzk hsz1.1 V hA h2k.out (hT.of_below hV hT0.out) (hS.of_below hV hT0.out)
            have HSN : Hid ((tagB askedB [sk, xl]).size = 32) := tagB_size _ _
            generalize tagB askB [sk, xl] = QA at *
            generalize tagB askedB [sk, xl] = QB at *
            have SS : Hid (∀ V, Below W.heap.size W V → (V.cell? ⟨g2, k, none⟩ = some (.string sk) ∧ V.cell? ⟨sg, 2, none⟩ = some (.string xl))) := fun V hV => ⟨by rw [hV.cell HT1.out.g2lt.2]; exact p2, by rw [hV.cell HN1.out]; exact z2⟩
            clear z0 z3
            go_cut [10, 11] (fun v10 v11 wx => ∃ tb, v10 = .string QA ∧ v11 = .pointer (some ⟨tb, 0, none⟩) ∧ RAt wx tb QB ∧ W.heap.size ≤ tb ∧ Below W.heap.size W wx)
            case first =>
              refine wp_region_held_drew (S := fun w' => w'.cell? ⟨g2, k, none⟩ = some (.string sk) ∧ w'.cell? ⟨sg, 2, none⟩ = some (.string xl)) (by kernel_rfl) ⟨p2, z2⟩ (fun hHeld => ?_)
              refine wpAnyH_take (i := 0) (v := .slice (some ⟨g2, 0, none⟩) S.length c2) rfl (by kernel_rfl) (by kernel_rfl) (by kernel_rfl) (fun _ _ _ h => h) (Or.inl ⟨by rfl, ?_⟩) hHeld ?_
              · intro w' hSw; go_simp
              simp only [Act.put, List.getElem_toArray, List.getElem_cons_succ, List.getElem_cons_zero, List.setIfInBounds_toArray, List.set_cons_zero, List.set_cons_succ, Array.toArray_toList]
              refine wpAnyH_take (i := 1) (v := .int .i64 (k : Int)) rfl (by kernel_rfl) (by kernel_rfl) (by kernel_rfl) (fun _ _ _ h => h) (Or.inl ⟨by rfl, ?_⟩) hHeld ?_
              · intro w' hSw; go_simp
              simp only [Act.put, List.getElem_toArray, List.getElem_cons_succ, List.getElem_cons_zero, List.setIfInBounds_toArray, List.set_cons_zero, List.set_cons_succ, Array.toArray_toList]
              refine wpAnyH_take (i := 2) (v := .pointer (some ⟨g2, k, none⟩)) rfl (by kernel_rfl) (by kernel_rfl) (by kernel_rfl) (fun _ _ _ h => h) (Or.inl ⟨by rfl, ?_⟩) hHeld ?_
              · intro w' hSw; go_simp
              simp only [Act.put, List.getElem_toArray, List.getElem_cons_succ, List.getElem_cons_zero, List.setIfInBounds_toArray, List.set_cons_zero, List.set_cons_succ, Array.toArray_toList]
              refine wpAnyH_take (i := 3) (v := .agg #[.string sk]) rfl (by kernel_rfl) (by kernel_rfl) (by kernel_rfl) (fun _ _ _ h => h) (Or.inl ⟨by rfl, ?_⟩) hHeld ?_
              · intro w' hSw; obtain ⟨e2, e3⟩ := hSw; go_simp
              simp only [Act.put, List.getElem_toArray, List.getElem_cons_succ, List.getElem_cons_zero, List.setIfInBounds_toArray, List.set_cons_zero, List.set_cons_succ, Array.toArray_toList]
              refine wpAnyH_take (i := 4) (v := .pointer (some ⟨sg, 2, none⟩)) rfl (by kernel_rfl) (by kernel_rfl) (by kernel_rfl) (fun _ _ _ h => h) (Or.inl ⟨by rfl, ?_⟩) hHeld ?_
              · intro w' hSw; go_simp
              simp only [Act.put, List.getElem_toArray, List.getElem_cons_succ, List.getElem_cons_zero, List.setIfInBounds_toArray, List.set_cons_zero, List.set_cons_succ, Array.toArray_toList]
              refine wpAnyH_take (i := 5) (v := .string xl) rfl (by kernel_rfl) (by kernel_rfl) (by kernel_rfl) (fun _ _ _ h => h) (Or.inl ⟨by rfl, ?_⟩) hHeld ?_
              · intro w' hSw; obtain ⟨e2, e3⟩ := hSw; go_simp
              simp only [Act.put, List.getElem_toArray, List.getElem_cons_succ, List.getElem_cons_zero, List.setIfInBounds_toArray, List.set_cons_zero, List.set_cons_succ, Array.toArray_toList]
              clear p1 p2 z2
              refine wpAnyH_ready (rs := [6, 10]) (by kernel_rfl) (by simp) ?_
              refine AllReadyH.cons rfl (fun K hK => ?_) (AllReadyH.cons rfl (fun K hK => ?_) AllReadyH.nil)
              · go_simp
                refine (HRA.out W.drew).mono ?_
                rintro e V1 ⟨rfl, hb1⟩
                have b1 : Hid (Below W.heap.size W V1) := ⟨hb1.os, hb1.tape, hb1.output, hb1.size, hb1.block⟩
                clear hb1
                go_wp2_with fail
                refine hK.out _ _ (SS.out V1 b1.out) (fun hH1 => ?_)
                clear hK K
                try simp only [Act.put, List.getElem_toArray, List.getElem_cons_succ, List.getElem_cons_zero, List.setIfInBounds_toArray, List.set_cons_zero, List.set_cons_succ, Array.toArray_toList]
                refine wpAnyH_take (i := 7) (v := .tuple #[.string QA, .agg #[.string QB]]) rfl (by kernel_rfl) (by kernel_rfl) (by kernel_rfl) (fun _ _ _ h => h) (Or.inl ⟨by rfl, ?_⟩) hH1 ?_
                · intro w' hSw; go_simp
                simp only [Act.put, List.getElem_toArray, List.getElem_cons_succ, List.getElem_cons_zero, List.setIfInBounds_toArray, List.set_cons_zero, List.set_cons_succ, Array.toArray_toList]
                refine wpAnyH_take (i := 8) (v := .string QA) rfl (by kernel_rfl) (by kernel_rfl) (by kernel_rfl) (fun _ _ _ h => h) (Or.inl ⟨by rfl, ?_⟩) hH1 ?_
                · intro w' hSw; go_simp
                simp only [Act.put, List.getElem_toArray, List.getElem_cons_succ, List.getElem_cons_zero, List.setIfInBounds_toArray, List.set_cons_zero, List.set_cons_succ, Array.toArray_toList]
                refine wpAnyH_take (i := 9) (v := .agg #[.string QB]) rfl (by kernel_rfl) (by kernel_rfl) (by kernel_rfl) (fun _ _ _ h => h) (Or.inl ⟨by rfl, ?_⟩) hH1 ?_
                · intro w' hSw; go_simp
                simp only [Act.put, List.getElem_toArray, List.getElem_cons_succ, List.getElem_cons_zero, List.setIfInBounds_toArray, List.set_cons_zero, List.set_cons_succ, Array.toArray_toList]
                refine wpAnyH_ready (rs := [10]) (by kernel_rfl) (by simp) ?_
                refine AllReadyH.cons rfl (fun K hK => ?_) AllReadyH.nil
                go_simp
                have r1 : Hid (RAt (V1.alloc (Obj.cells #[Value.string ⟨#[]⟩] 31)) V1.heap.size ⟨#[]⟩) := RAt.new V1 _
                have b2 : Hid (Below W.heap.size W (V1.alloc (Obj.cells #[Value.string ⟨#[]⟩] 31))) := b1.out.alloc b1.out.size _
                have ng : Hid (W.heap.size ≤ V1.heap.size) := b1.out.size
                generalize V1.alloc (Obj.cells #[Value.string ⟨#[]⟩] 31) = V2 at *
                clear hH1
                generalize V1.heap.size = tb at *
                refine hK.out _ _ (SS.out V2 b2.out) (fun hH2 => ?_)
                clear hK K
                try simp only [Act.put, List.getElem_toArray, List.getElem_cons_succ, List.getElem_cons_zero, List.setIfInBounds_toArray, List.set_cons_zero, List.set_cons_succ, Array.toArray_toList]
                refine wpAnyH_ready (rs := [11]) (by kernel_rfl) (by simp) ?_
                refine AllReadyH.cons rfl (fun K hK => ?_) AllReadyH.nil
                go_simp
                refine hK.out _ _ (SS.out V2 b2.out) (fun hHx => ?_)
                clear hK K
                try simp only [Act.put, List.getElem_toArray, List.getElem_cons_succ, List.getElem_cons_zero, List.setIfInBounds_toArray, List.set_cons_zero, List.set_cons_succ, Array.toArray_toList]
                have cx := r1.out.cell
                have fx := r1.out.frozen
                refine wpAnyH_ready (rs := [12]) (by kernel_rfl) (by simp) ?_
                refine AllReadyH.cons rfl (fun K hK => ?_) AllReadyH.nil
                go_simp
                refine hK.out _ _ (SS.out _ (Below.own b2.out ng.out 0 (.string QB))) (fun hHy => ?_)
                clear hK K
                try simp only [Act.put, List.getElem_toArray, List.getElem_cons_succ, List.getElem_cons_zero, List.setIfInBounds_toArray, List.set_cons_zero, List.set_cons_succ, Array.toArray_toList]
                refine wpAnyH_done (by kernel_rfl) ?_ _
                have rz := r1.out.set QB
                clear cx fx
                go_wp2_with fail
                go_meet
                case rel => exact ⟨tb, rfl, rfl, rz, ng.out, Below.own b2.out ng.out _ _⟩
              · go_simp
                have r1 : Hid (RAt (W.alloc (Obj.cells #[Value.string ⟨#[]⟩] 31)).drew W.heap.size ⟨#[]⟩) := RAt.new W _
                have b1 : Hid (Below W.heap.size W (W.alloc (Obj.cells #[Value.string ⟨#[]⟩] 31)).drew) := ((Below.refl _ W).alloc (Nat.le_refl _) _).drew
                generalize (W.alloc (Obj.cells #[Value.string ⟨#[]⟩] 31)).drew = V1 at *
                refine hK.out _ _ (SS.out V1 b1.out) (fun hH1 => ?_)
                clear hK K
                try simp only [Act.put, List.getElem_toArray, List.getElem_cons_succ, List.getElem_cons_zero, List.setIfInBounds_toArray, List.set_cons_zero, List.set_cons_succ, Array.toArray_toList]
                refine wpAnyH_ready (rs := [6]) (by kernel_rfl) (by simp) ?_
                refine AllReadyH.cons rfl (fun K hK => ?_) AllReadyH.nil
                go_simp
                refine (HRA.out V1).mono ?_
                rintro e V2 ⟨rfl, hb2⟩
                have r2 : Hid (RAt V2 W.heap.size ⟨#[]⟩) := r1.out.of_below hb2 r1.out.lt
                have b2 : Hid (Below W.heap.size W V2) := b1.out.trans (hb2.mono b1.out.size)
                clear hb2
                go_wp2_with fail
                refine hK.out _ _ (SS.out V2 b2.out) (fun hH2 => ?_)
                clear hK K
                try simp only [Act.put, List.getElem_toArray, List.getElem_cons_succ, List.getElem_cons_zero, List.setIfInBounds_toArray, List.set_cons_zero, List.set_cons_succ, Array.toArray_toList]
                refine wpAnyH_take (i := 7) (v := .tuple #[.string QA, .agg #[.string QB]]) rfl (by kernel_rfl) (by kernel_rfl) (by kernel_rfl) (fun _ _ _ h => h) (Or.inl ⟨by rfl, ?_⟩) hH2 ?_
                · intro w' hSw; go_simp
                simp only [Act.put, List.getElem_toArray, List.getElem_cons_succ, List.getElem_cons_zero, List.setIfInBounds_toArray, List.set_cons_zero, List.set_cons_succ, Array.toArray_toList]
                refine wpAnyH_take (i := 8) (v := .string QA) rfl (by kernel_rfl) (by kernel_rfl) (by kernel_rfl) (fun _ _ _ h => h) (Or.inl ⟨by rfl, ?_⟩) hH2 ?_
                · intro w' hSw; go_simp
                simp only [Act.put, List.getElem_toArray, List.getElem_cons_succ, List.getElem_cons_zero, List.setIfInBounds_toArray, List.set_cons_zero, List.set_cons_succ, Array.toArray_toList]
                refine wpAnyH_take (i := 9) (v := .agg #[.string QB]) rfl (by kernel_rfl) (by kernel_rfl) (by kernel_rfl) (fun _ _ _ h => h) (Or.inl ⟨by rfl, ?_⟩) hH2 ?_
                · intro w' hSw; go_simp
                simp only [Act.put, List.getElem_toArray, List.getElem_cons_succ, List.getElem_cons_zero, List.setIfInBounds_toArray, List.set_cons_zero, List.set_cons_succ, Array.toArray_toList]
                refine wpAnyH_ready (rs := [11]) (by kernel_rfl) (by simp) ?_
                refine AllReadyH.cons rfl (fun K hK => ?_) AllReadyH.nil
                go_simp
                refine hK.out _ _ (SS.out V2 b2.out) (fun hHx => ?_)
                clear hK K
                try simp only [Act.put, List.getElem_toArray, List.getElem_cons_succ, List.getElem_cons_zero, List.setIfInBounds_toArray, List.set_cons_zero, List.set_cons_succ, Array.toArray_toList]
                have cx := r2.out.cell
                have fx := r2.out.frozen
                refine wpAnyH_ready (rs := [12]) (by kernel_rfl) (by simp) ?_
                refine AllReadyH.cons rfl (fun K hK => ?_) AllReadyH.nil
                go_simp
                refine hK.out _ _ (SS.out _ (Below.own b2.out (Nat.le_refl _) 0 (.string QB))) (fun hHy => ?_)
                clear hK K
                try simp only [Act.put, List.getElem_toArray, List.getElem_cons_succ, List.getElem_cons_zero, List.setIfInBounds_toArray, List.set_cons_zero, List.set_cons_succ, Array.toArray_toList]
                refine wpAnyH_done (by kernel_rfl) ?_ _
                have rz := r2.out.set QB
                clear cx fx
                go_wp2_with fail
                go_meet
                case rel => exact ⟨W.heap.size, rfl, rfl, rz, (Nat.le_refl _), Below.own b2.out (Nat.le_refl _) _ _⟩
            case rest =>
              obtain ⟨tb, rfl, rfl, hR, htb, hBc⟩ := hcut
              have cR := hR.cell
              have s5 : Hid (TS wc w.heap.size g1 c1 g2 c2 S S bs) := HT1.out.below hBc
              have c5 := s5.out.want k hk
              have f5 := s5.out.wfrozen k
              have y2 : wc.cell? ⟨sg, 2, none⟩ = some (.string xl) := by rw [hBc.cell HN1.out]; exact z2
              have nsg : Hid (sg ≠ g2) := by have := HN3.out.2.1; show ¬ _; omega
              have nlt : Hid (sg < wc.heap.size) := Nat.lt_of_lt_of_le HN1.out hBc.size
              have ntb : ¬ tb = g2 := by have := HT1.out.g2lt.2; omega
              have BC : Hid (Below w.heap.size w wc) := HB1.out.trans (hBc.mono HB1.out.size)
              have s6 : Hid (TS (wc.setCell ⟨g2, k, none⟩ (.string QB)) w.heap.size g1 c1 g2 c2 S (S.set k QB) bs) := s5.out.wants k hk QB
              have B6 : Hid (Below w.heap.size w (wc.setCell ⟨g2, k, none⟩ (.string QB))) := Below.own BC.out HT1.out.g2lt.1 _ _
              have q1 : (wc.setCell ⟨g2, k, none⟩ (.string QB)).cell? ⟨g1, k, none⟩ = some (PT bk) := by rw [s6.out.ptr k hk, HBK.out]
              have q2 : (wc.setCell ⟨g2, k, none⟩ (.string QB)).cell? ⟨sg, 2, none⟩ = some (.string xl) := by rw [((But.refl g2 wc).setCell k (.string QB)).cell nlt.out nsg.out]; exact y2
              have nlt2 : Hid (sg < (wc.setCell ⟨g2, k, none⟩ (.string QB)).heap.size) := by have := nlt.out; show _ < _; simpa using this
              have hA6 : Hid (TAt (wc.setCell ⟨g2, k, none⟩ (.string QB)) bk sk) := by have := s6.out.at_ k hk; rw [HBK.out, HSK.out] at this; exact this
              have hg1b : Hid (g1 ≠ bk) := by have := (HT1.out.ge k hk).2.1; rw [HBK.out] at this; exact fun e => this e.symm
              clear p1 p2 z2 y2 hR hBc
              go_upto_region 24 with fail
              generalize wc.setCell ⟨g2, k, none⟩ (.string QB) = V at *
              clear cR c5 f5
              refine wp_region_held_drew (S := fun w' => w'.cell? ⟨g1, k, none⟩ = some (PT bk) ∧ w'.cell? ⟨sg, 2, none⟩ = some (.string xl)) (by kernel_rfl) ⟨q1, q2⟩ (fun hHeld => ?_)
              refine wpAnyH_take (i := 0) (v := .slice (some ⟨g1, 0, none⟩) S.length c1) rfl (by kernel_rfl) (by kernel_rfl) (by kernel_rfl) (fun _ _ _ h => h) (Or.inl ⟨by rfl, ?_⟩) hHeld ?_
              · intro w' hSw; go_simp
              simp only [Act.put, List.getElem_toArray, List.getElem_cons_succ, List.getElem_cons_zero, List.setIfInBounds_toArray, List.set_cons_zero, List.set_cons_succ, Array.toArray_toList]
              refine wpAnyH_take (i := 1) (v := .int .i64 (k : Int)) rfl (by kernel_rfl) (by kernel_rfl) (by kernel_rfl) (fun _ _ _ h => h) (Or.inl ⟨by rfl, ?_⟩) hHeld ?_
              · intro w' hSw; go_simp
              simp only [Act.put, List.getElem_toArray, List.getElem_cons_succ, List.getElem_cons_zero, List.setIfInBounds_toArray, List.set_cons_zero, List.set_cons_succ, Array.toArray_toList]
              refine wpAnyH_take (i := 2) (v := .pointer (some ⟨g1, k, none⟩)) rfl (by kernel_rfl) (by kernel_rfl) (by kernel_rfl) (fun _ _ _ h => h) (Or.inl ⟨by rfl, ?_⟩) hHeld ?_
              · intro w' hSw; go_simp
              simp only [Act.put, List.getElem_toArray, List.getElem_cons_succ, List.getElem_cons_zero, List.setIfInBounds_toArray, List.set_cons_zero, List.set_cons_succ, Array.toArray_toList]
              refine wpAnyH_take (i := 3) (v := PT bk) rfl (by kernel_rfl) (by kernel_rfl) (by kernel_rfl) (fun _ _ _ h => h) (Or.inl ⟨by rfl, ?_⟩) hHeld ?_
              · intro w' hSw; obtain ⟨e2, e3⟩ := hSw; go_simp
              simp only [Act.put, List.getElem_toArray, List.getElem_cons_succ, List.getElem_cons_zero, List.setIfInBounds_toArray, List.set_cons_zero, List.set_cons_succ, Array.toArray_toList]
              refine wpAnyH_take (i := 4) (v := .pointer (some ⟨sg, 2, none⟩)) rfl (by kernel_rfl) (by kernel_rfl) (by kernel_rfl) (fun _ _ _ h => h) (Or.inl ⟨by rfl, ?_⟩) hHeld ?_
              · intro w' hSw; go_simp
              simp only [Act.put, List.getElem_toArray, List.getElem_cons_succ, List.getElem_cons_zero, List.setIfInBounds_toArray, List.set_cons_zero, List.set_cons_succ, Array.toArray_toList]
              refine wpAnyH_take (i := 5) (v := .string xl) rfl (by kernel_rfl) (by kernel_rfl) (by kernel_rfl) (fun _ _ _ h => h) (Or.inl ⟨by rfl, ?_⟩) hHeld ?_
              · intro w' hSw; obtain ⟨e2, e3⟩ := hSw; go_simp
              simp only [Act.put, List.getElem_toArray, List.getElem_cons_succ, List.getElem_cons_zero, List.setIfInBounds_toArray, List.set_cons_zero, List.set_cons_succ, Array.toArray_toList]
              refine wpAnyH_take (i := 7) (v := .string QA) rfl (by kernel_rfl) (by kernel_rfl) (by kernel_rfl) (fun _ _ _ h => h) (Or.inl ⟨by rfl, ?_⟩) hHeld ?_
              · intro w' hSw; go_simp
              simp only [Act.put, List.getElem_toArray, List.getElem_cons_succ, List.getElem_cons_zero, List.setIfInBounds_toArray, List.set_cons_zero, List.set_cons_succ, Array.toArray_toList]
              refine wpAnyH_ready (rs := [6]) (by kernel_rfl) (by simp) ?_
              refine AllReadyH.cons rfl (fun K hK => ?_) AllReadyH.nil
              go_simp
              refine (HAA.out V.drew B6.out.drew hA6.out).mono ?_
              rintro e V1 ⟨rfl, hA1, hb10⟩
              have hb1 : But bk V V1 := ⟨hb10.os, hb10.tape, hb10.output, hb10.size, hb10.block⟩
              have t1 : Hid (TS V1 w.heap.size g1 c1 g2 c2 (S.set k QB) (S.set k QB) bs) := s6.out.talk k hk (by rw [HBK.out]; exact hb1) QB (by rw [HBK.out]; exact hA1) HSN.out
              have B7 : Hid (Below w.heap.size w V1) := B6.out.trans (hb1.below B6.out.size hgk.out)
              have u1 : V1.cell? ⟨g1, k, none⟩ = some (PT bk) := by rw [hb1.cell s6.out.g1lt.2 hg1b.out]; exact q1
              have u2 : V1.cell? ⟨sg, 2, none⟩ = some (.string xl) := by rw [hb1.cell nlt2.out hsk.out.symm]; exact q2
              clear hb1 hb10 hA1 q1 q2
              go_wp2_with fail
              refine hK.out _ _ ⟨u1, u2⟩ (fun hH3 => ?_)
              clear hK K
              try simp only [Act.put, List.getElem_toArray, List.getElem_cons_succ, List.getElem_cons_zero, List.setIfInBounds_toArray, List.set_cons_zero, List.set_cons_succ, Array.toArray_toList]
              refine wpAnyH_ready (rs := [8]) (by kernel_rfl) (by simp) ?_
              refine AllReadyH.cons rfl (fun K hK => ?_) AllReadyH.nil
              go_simp
              refine hK.out _ _ ⟨u1, u2⟩ (fun hH4 => ?_)
              clear hK K
              try simp only [Act.put, List.getElem_toArray, List.getElem_cons_succ, List.getElem_cons_zero, List.setIfInBounds_toArray, List.set_cons_zero, List.set_cons_succ, Array.toArray_toList]
              refine wpAnyH_done (by kernel_rfl) ?_ _
              have hlS : (S.set k QB).length = S.length := List.length_set ..
              clear u1 u2
              go_wp2_with fail
              go_roundg (gk - 1)
              case measure => omega
              case rel => exact ⟨r + 1, g1, c1, g2, c2, S.set k QB, bs, by omega, by go_num, by rw [hlS], by rw [hlS], t1.out, by omega, B7.out⟩
          · have hx0 : (xd == 0) = false := by simpa using hd0
            have hx1 : (xd == 1) = false := by simpa using hd1
            go_wp2_with fail
            have HNT : Hid (∀ V, Below w.heap.size w V → Calls Tryd.prog 6 #[.string xl] V fun e w' => (∃ b, e = .returned (.pointer (some ⟨b, 0, none⟩)) ∧ V.heap.size ≤ b ∧ TAt w' b (tagB talkB [xl])) ∧ Below V.heap.size V w') := fun V hV => newTalk_any xl hsz1.1 V (hT.of_below hV hT0.out) (hS.of_below hV hT0.out)
            have HRN : Hid (∀ w, Calls Tryd.prog 7 #[.string xl] w fun e w' => e = .returned (.agg #[.string (tagB talkB [xl])]) ∧ Below w.heap.size w w') := fun w => refNewTalk_any xl hsz1.1 w
            have HSN : Hid ((tagB talkB [xl]).size = 32) := tagB_size _ _
            generalize tagB talkB [xl] = SN at *
            have SS2 : Hid (∀ V, Below W.heap.size W V → V.cell? ⟨sg, 2, none⟩ = some (.string xl)) := fun V hV => by rw [hV.cell HN1.out]; exact z2
            have bq0 : Hid (Below W.heap.size W W.drew) := (Below.refl _ _).drew
            clear z3
            go_cut [12, 13] (fun v12 v13 wx => ∃ nb rb, v12 = .pointer (some ⟨nb, 0, none⟩) ∧ v13 = .pointer (some ⟨rb, 0, none⟩) ∧ TAt wx nb SN ∧ RAt wx rb SN ∧ W.heap.size ≤ nb ∧ W.heap.size ≤ rb ∧ nb ≠ rb ∧ Below W.heap.size W wx)
            case first =>
              refine wp_region_held_drew (S := fun w' => w'.cell? ⟨sg, 2, none⟩ = some (.string xl)) (by kernel_rfl) z2 (fun hHeld => ?_)
              refine wpAnyH_take (i := 0) (v := .pointer (some ⟨sg, 2, none⟩)) rfl (by kernel_rfl) (by kernel_rfl) (by kernel_rfl) (fun _ _ _ h => h) (Or.inl ⟨by rfl, ?_⟩) hHeld ?_
              · intro w' hSw; go_simp
              simp only [Act.put, List.getElem_toArray, List.getElem_cons_succ, List.getElem_cons_zero, List.setIfInBounds_toArray, List.set_cons_zero, List.set_cons_succ, Array.toArray_toList]
              refine wpAnyH_take (i := 1) (v := .string xl) rfl (by kernel_rfl) (by kernel_rfl) (by kernel_rfl) (fun _ _ _ h => h) (Or.inl ⟨by rfl, ?_⟩) hHeld ?_
              · intro w' hSw; go_simp
              simp only [Act.put, List.getElem_toArray, List.getElem_cons_succ, List.getElem_cons_zero, List.setIfInBounds_toArray, List.set_cons_zero, List.set_cons_succ, Array.toArray_toList]
              refine wpAnyH_take (i := 3) (v := .pointer (some ⟨sg, 2, none⟩)) rfl (by kernel_rfl) (by kernel_rfl) (by kernel_rfl) (fun _ _ _ h => h) (Or.inl ⟨by rfl, ?_⟩) hHeld ?_
              · intro w' hSw; go_simp
              simp only [Act.put, List.getElem_toArray, List.getElem_cons_succ, List.getElem_cons_zero, List.setIfInBounds_toArray, List.set_cons_zero, List.set_cons_succ, Array.toArray_toList]
              refine wpAnyH_take (i := 4) (v := .string xl) rfl (by kernel_rfl) (by kernel_rfl) (by kernel_rfl) (fun _ _ _ h => h) (Or.inl ⟨by rfl, ?_⟩) hHeld ?_
              · intro w' hSw; go_simp
              simp only [Act.put, List.getElem_toArray, List.getElem_cons_succ, List.getElem_cons_zero, List.setIfInBounds_toArray, List.set_cons_zero, List.set_cons_succ, Array.toArray_toList]
              clear p1 p2 z0 z2
              refine wpAnyH_ready (rs := [2, 6]) (by kernel_rfl) (by simp) ?_
              refine AllReadyH.cons rfl (fun K hK => ?_) (AllReadyH.cons rfl (fun K hK => ?_) AllReadyH.nil)
              · go_simp
                refine (HNT.out W.drew (HB1.out.trans (bq0.out.mono HB1.out.size))).mono ?_
                rintro e V1 ⟨⟨nb6, rfl, ge4, at5⟩, hb3⟩
                have bq2 : Hid (Below W.heap.size W V1) := bq0.out.trans (hb3.mono bq0.out.size)
                have tn7 : Hid (TAt V1 nb6 SN) := at5
                have hn8 : Hid (W.heap.size ≤ nb6) := Nat.le_trans bq0.out.size ge4
                clear hb3 ge4 at5
                go_wp2_with fail
                refine hK.out _ _ (SS2.out V1 bq2.out) (fun hh9 => ?_)
                clear hK K
                try simp only [Act.put, List.getElem_toArray, List.getElem_cons_succ, List.getElem_cons_zero, List.setIfInBounds_toArray, List.set_cons_zero, List.set_cons_succ, Array.toArray_toList]
                refine wpAnyH_ready (rs := [5, 6]) (by kernel_rfl) (by simp) ?_
                refine AllReadyH.cons rfl (fun K hK => ?_) (AllReadyH.cons rfl (fun K hK => ?_) AllReadyH.nil)
                · go_simp
                  refine (HRN.out V1).mono ?_
                  rintro e V10 ⟨rfl, hb12⟩
                  have bq11 : Hid (Below W.heap.size W V10) := bq2.out.trans (hb12.mono bq2.out.size)
                  have tn13 : Hid (TAt V10 nb6 SN) := tn7.out.of_below hb12 tn7.out.lt
                  clear hb12
                  go_wp2_with fail
                  refine hK.out _ _ (SS2.out V10 bq11.out) (fun hh14 => ?_)
                  clear hK K
                  try simp only [Act.put, List.getElem_toArray, List.getElem_cons_succ, List.getElem_cons_zero, List.setIfInBounds_toArray, List.set_cons_zero, List.set_cons_succ, Array.toArray_toList]
                  refine wpAnyH_ready (rs := [6]) (by kernel_rfl) (by simp) ?_
                  refine AllReadyH.cons rfl (fun K hK => ?_) AllReadyH.nil
                  go_simp
                  have rr17 : Hid (RAt (V10.alloc (Obj.cells #[Value.string ⟨#[]⟩] 31)) V10.heap.size ⟨#[]⟩) := RAt.new V10 _
                  have bq16 : Hid (Below W.heap.size W (V10.alloc (Obj.cells #[Value.string ⟨#[]⟩] 31))) := bq11.out.alloc bq11.out.size _
                  have hr18 : Hid (W.heap.size ≤ V10.heap.size) := bq11.out.size
                  have tn20 : Hid (TAt (V10.alloc (Obj.cells #[Value.string ⟨#[]⟩] 31)) nb6 SN) := tn13.out.alloc _
                  have nr21 : Hid (nb6 ≠ V10.heap.size) := by have h1 := tn13.out.lt; show ¬ _; omega
                  generalize (V10.alloc (Obj.cells #[Value.string ⟨#[]⟩] 31)) = V15 at *
                  clear hh14
                  generalize V10.heap.size = rb19 at *
                  refine hK.out _ _ (SS2.out V15 bq16.out) (fun hh22 => ?_)
                  clear hK K
                  try simp only [Act.put, List.getElem_toArray, List.getElem_cons_succ, List.getElem_cons_zero, List.setIfInBounds_toArray, List.set_cons_zero, List.set_cons_succ, Array.toArray_toList]
                  refine wpAnyH_ready (rs := [7]) (by kernel_rfl) (by simp) ?_
                  refine AllReadyH.cons rfl (fun K hK => ?_) AllReadyH.nil
                  go_simp
                  refine hK.out _ _ (SS2.out V15 bq16.out) (fun hHx => ?_)
                  clear hK K
                  try simp only [Act.put, List.getElem_toArray, List.getElem_cons_succ, List.getElem_cons_zero, List.setIfInBounds_toArray, List.set_cons_zero, List.set_cons_succ, Array.toArray_toList]
                  have cx := rr17.out.cell
                  have fx := rr17.out.frozen
                  refine wpAnyH_ready (rs := [8]) (by kernel_rfl) (by simp) ?_
                  refine AllReadyH.cons rfl (fun K hK => ?_) AllReadyH.nil
                  go_simp
                  refine hK.out _ _ (SS2.out _ (Below.own bq16.out hr18.out 0 (.string SN))) (fun hHy => ?_)
                  clear hK K
                  try simp only [Act.put, List.getElem_toArray, List.getElem_cons_succ, List.getElem_cons_zero, List.setIfInBounds_toArray, List.set_cons_zero, List.set_cons_succ, Array.toArray_toList]
                  refine wpAnyH_done (by kernel_rfl) ?_ _
                  have rz := rr17.out.set SN
                  have tz := tn20.out.of_but ((But.refl rb19 V15).setCell 0 (.string SN)) nr21.out
                  clear cx fx
                  go_wp2_with fail
                  go_meet
                  case rel => exact ⟨nb6, rb19, rfl, rfl, tz, rz, hn8.out, hr18.out, nr21.out, Below.own bq16.out hr18.out _ _⟩
                · go_simp
                  have rr25 : Hid (RAt (V1.alloc (Obj.cells #[Value.string ⟨#[]⟩] 31)) V1.heap.size ⟨#[]⟩) := RAt.new V1 _
                  have bq24 : Hid (Below W.heap.size W (V1.alloc (Obj.cells #[Value.string ⟨#[]⟩] 31))) := bq2.out.alloc bq2.out.size _
                  have hr26 : Hid (W.heap.size ≤ V1.heap.size) := bq2.out.size
                  have tn28 : Hid (TAt (V1.alloc (Obj.cells #[Value.string ⟨#[]⟩] 31)) nb6 SN) := tn7.out.alloc _
                  have nr29 : Hid (nb6 ≠ V1.heap.size) := by have h1 := tn7.out.lt; show ¬ _; omega
                  generalize (V1.alloc (Obj.cells #[Value.string ⟨#[]⟩] 31)) = V23 at *
                  clear hh9
                  generalize V1.heap.size = rb27 at *
                  refine hK.out _ _ (SS2.out V23 bq24.out) (fun hh30 => ?_)
                  clear hK K
                  try simp only [Act.put, List.getElem_toArray, List.getElem_cons_succ, List.getElem_cons_zero, List.setIfInBounds_toArray, List.set_cons_zero, List.set_cons_succ, Array.toArray_toList]
                  refine wpAnyH_ready (rs := [5]) (by kernel_rfl) (by simp) ?_
                  refine AllReadyH.cons rfl (fun K hK => ?_) AllReadyH.nil
                  go_simp
                  refine (HRN.out V23).mono ?_
                  rintro e V31 ⟨rfl, hb33⟩
                  have bq32 : Hid (Below W.heap.size W V31) := bq24.out.trans (hb33.mono bq24.out.size)
                  have tn34 : Hid (TAt V31 nb6 SN) := tn28.out.of_below hb33 tn28.out.lt
                  have rr35 : Hid (RAt V31 rb27 ⟨#[]⟩) := rr25.out.of_below hb33 rr25.out.lt
                  clear hb33
                  go_wp2_with fail
                  refine hK.out _ _ (SS2.out V31 bq32.out) (fun hh36 => ?_)
                  clear hK K
                  try simp only [Act.put, List.getElem_toArray, List.getElem_cons_succ, List.getElem_cons_zero, List.setIfInBounds_toArray, List.set_cons_zero, List.set_cons_succ, Array.toArray_toList]
                  refine wpAnyH_ready (rs := [7]) (by kernel_rfl) (by simp) ?_
                  refine AllReadyH.cons rfl (fun K hK => ?_) AllReadyH.nil
                  go_simp
                  refine hK.out _ _ (SS2.out V31 bq32.out) (fun hHx => ?_)
                  clear hK K
                  try simp only [Act.put, List.getElem_toArray, List.getElem_cons_succ, List.getElem_cons_zero, List.setIfInBounds_toArray, List.set_cons_zero, List.set_cons_succ, Array.toArray_toList]
                  have cx := rr35.out.cell
                  have fx := rr35.out.frozen
                  refine wpAnyH_ready (rs := [8]) (by kernel_rfl) (by simp) ?_
                  refine AllReadyH.cons rfl (fun K hK => ?_) AllReadyH.nil
                  go_simp
                  refine hK.out _ _ (SS2.out _ (Below.own bq32.out hr26.out 0 (.string SN))) (fun hHy => ?_)
                  clear hK K
                  try simp only [Act.put, List.getElem_toArray, List.getElem_cons_succ, List.getElem_cons_zero, List.setIfInBounds_toArray, List.set_cons_zero, List.set_cons_succ, Array.toArray_toList]
                  refine wpAnyH_done (by kernel_rfl) ?_ _
                  have rz := rr35.out.set SN
                  have tz := tn34.out.of_but ((But.refl rb27 V31).setCell 0 (.string SN)) nr29.out
                  clear cx fx
                  go_wp2_with fail
                  go_meet
                  case rel => exact ⟨nb6, rb27, rfl, rfl, tz, rz, hn8.out, hr26.out, nr29.out, Below.own bq32.out hr26.out _ _⟩
              · go_simp
                have rr39 : Hid (RAt (W.alloc (Obj.cells #[Value.string ⟨#[]⟩] 31)).drew W.heap.size ⟨#[]⟩) := RAt.new W _
                have bq38 : Hid (Below W.heap.size W (W.alloc (Obj.cells #[Value.string ⟨#[]⟩] 31)).drew) := ((Below.refl _ W).alloc (Nat.le_refl _) _).drew
                have hr40 : Hid (W.heap.size ≤ W.heap.size) := Nat.le_refl _
                generalize (W.alloc (Obj.cells #[Value.string ⟨#[]⟩] 31)).drew = V37 at *
                refine hK.out _ _ (SS2.out V37 bq38.out) (fun hh41 => ?_)
                clear hK K
                try simp only [Act.put, List.getElem_toArray, List.getElem_cons_succ, List.getElem_cons_zero, List.setIfInBounds_toArray, List.set_cons_zero, List.set_cons_succ, Array.toArray_toList]
                refine wpAnyH_ready (rs := [2]) (by kernel_rfl) (by simp) ?_
                refine AllReadyH.cons rfl (fun K hK => ?_) AllReadyH.nil
                go_simp
                refine (HNT.out V37 (HB1.out.trans (bq38.out.mono HB1.out.size))).mono ?_
                rintro e V42 ⟨⟨nb47, rfl, ge45, at46⟩, hb44⟩
                have bq43 : Hid (Below W.heap.size W V42) := bq38.out.trans (hb44.mono bq38.out.size)
                have tn48 : Hid (TAt V42 nb47 SN) := at46
                have hn49 : Hid (W.heap.size ≤ nb47) := Nat.le_trans bq38.out.size ge45
                have rr50 : Hid (RAt V42 W.heap.size ⟨#[]⟩) := rr39.out.of_below hb44 rr39.out.lt
                have nr51 : Hid (nb47 ≠ W.heap.size) := by have h1 := rr39.out.lt; have h2 := ge45; show ¬ _; omega
                clear hb44 ge45 at46
                go_wp2_with fail
                refine hK.out _ _ (SS2.out V42 bq43.out) (fun hh52 => ?_)
                clear hK K
                try simp only [Act.put, List.getElem_toArray, List.getElem_cons_succ, List.getElem_cons_zero, List.setIfInBounds_toArray, List.set_cons_zero, List.set_cons_succ, Array.toArray_toList]
                refine wpAnyH_ready (rs := [5]) (by kernel_rfl) (by simp) ?_
                refine AllReadyH.cons rfl (fun K hK => ?_) AllReadyH.nil
                go_simp
                refine (HRN.out V42).mono ?_
                rintro e V53 ⟨rfl, hb55⟩
                have bq54 : Hid (Below W.heap.size W V53) := bq43.out.trans (hb55.mono bq43.out.size)
                have tn56 : Hid (TAt V53 nb47 SN) := tn48.out.of_below hb55 tn48.out.lt
                have rr57 : Hid (RAt V53 W.heap.size ⟨#[]⟩) := rr50.out.of_below hb55 rr50.out.lt
                clear hb55
                go_wp2_with fail
                refine hK.out _ _ (SS2.out V53 bq54.out) (fun hh58 => ?_)
                clear hK K
                try simp only [Act.put, List.getElem_toArray, List.getElem_cons_succ, List.getElem_cons_zero, List.setIfInBounds_toArray, List.set_cons_zero, List.set_cons_succ, Array.toArray_toList]
                refine wpAnyH_ready (rs := [7]) (by kernel_rfl) (by simp) ?_
                refine AllReadyH.cons rfl (fun K hK => ?_) AllReadyH.nil
                go_simp
                refine hK.out _ _ (SS2.out V53 bq54.out) (fun hHx => ?_)
                clear hK K
                try simp only [Act.put, List.getElem_toArray, List.getElem_cons_succ, List.getElem_cons_zero, List.setIfInBounds_toArray, List.set_cons_zero, List.set_cons_succ, Array.toArray_toList]
                have cx := rr57.out.cell
                have fx := rr57.out.frozen
                refine wpAnyH_ready (rs := [8]) (by kernel_rfl) (by simp) ?_
                refine AllReadyH.cons rfl (fun K hK => ?_) AllReadyH.nil
                go_simp
                refine hK.out _ _ (SS2.out _ (Below.own bq54.out hr40.out 0 (.string SN))) (fun hHy => ?_)
                clear hK K
                try simp only [Act.put, List.getElem_toArray, List.getElem_cons_succ, List.getElem_cons_zero, List.setIfInBounds_toArray, List.set_cons_zero, List.set_cons_succ, Array.toArray_toList]
                refine wpAnyH_done (by kernel_rfl) ?_ _
                have rz := rr57.out.set SN
                have tz := tn56.out.of_but ((But.refl W.heap.size V53).setCell 0 (.string SN)) nr51.out
                clear cx fx
                go_wp2_with fail
                go_meet
                case rel => exact ⟨nb47, W.heap.size, rfl, rfl, tz, rz, hn49.out, hr40.out, nr51.out, Below.own bq54.out hr40.out _ _⟩
            case rest =>
              obtain ⟨nb, rb, rfl, rfl, hTn, hRn, hnb, hrb, hnr, hBc⟩ := hcut
              have SS3 : Hid (∀ V, Below W.heap.size W V → (V.cell? ⟨g1, k, none⟩ = some (PT bk) ∧ V.cell? ⟨g2, k, none⟩ = some (.string sk))) := fun V hV => ⟨by rw [hV.cell HT1.out.g1lt.2]; exact p1, by rw [hV.cell HT1.out.g2lt.2]; exact p2⟩
              have y0 : wc.cell? ⟨sg, 0, none⟩ = some (.int .i64 xd) := by rw [hBc.cell HN1.out]; exact z0
              have hAk2 : Hid (TAt wc bk sk) := hAk.out.of_below hBc hAk.out.lt
              have HTn : Hid (TAt wc nb SN) := hTn
              have HRn : Hid (RAt wc rb SN) := hRn
              have HBc : Hid (Below W.heap.size W wc) := hBc
              have Hnb : Hid (W.heap.size ≤ nb ∧ W.heap.size ≤ rb ∧ nb ≠ rb) := ⟨hnb, hrb, hnr⟩
              clear hTn hRn hBc hnb hrb hnr p1 p2 z0 z2 SS2 HNT HRN
              go_upto_if 54 with fail
              go_cut [12] (fun v12 wx => ∃ nb' s', v12 = .pointer (some ⟨nb', 0, none⟩) ∧ TAt wx nb' s' ∧ RAt wx rb s' ∧ s'.size = 32 ∧ W.heap.size ≤ nb' ∧ nb' ≠ rb ∧ Below W.heap.size W wx)
              case first =>
                by_cases hd2 : xd = 2
                · subst hd2
                  clear y0
                  go_wp2_with fail
                  refine wp_region_held_drew (S := fun w' => w'.cell? ⟨g1, k, none⟩ = some (PT bk) ∧ w'.cell? ⟨g2, k, none⟩ = some (.string sk)) (by kernel_rfl) (SS3.out _ HBc.out.drew) (fun hHeld => ?_)
                  refine wpAnyH_take (i := 0) (v := .slice (some ⟨g1, 0, none⟩) S.length c1) rfl (by kernel_rfl) (by kernel_rfl) (by kernel_rfl) (fun _ _ _ h => h) (Or.inl ⟨by rfl, ?_⟩) hHeld ?_
                  · intro w' hSw; go_simp
                  simp only [Act.put, List.getElem_toArray, List.getElem_cons_succ, List.getElem_cons_zero, List.setIfInBounds_toArray, List.set_cons_zero, List.set_cons_succ, Array.toArray_toList]
                  refine wpAnyH_take (i := 1) (v := .int .i64 (k : Int)) rfl (by kernel_rfl) (by kernel_rfl) (by kernel_rfl) (fun _ _ _ h => h) (Or.inl ⟨by rfl, ?_⟩) hHeld ?_
                  · intro w' hSw; go_simp
                  simp only [Act.put, List.getElem_toArray, List.getElem_cons_succ, List.getElem_cons_zero, List.setIfInBounds_toArray, List.set_cons_zero, List.set_cons_succ, Array.toArray_toList]
                  refine wpAnyH_take (i := 2) (v := .pointer (some ⟨g1, k, none⟩)) rfl (by kernel_rfl) (by kernel_rfl) (by kernel_rfl) (fun _ _ _ h => h) (Or.inl ⟨by rfl, ?_⟩) hHeld ?_
                  · intro w' hSw; go_simp
                  simp only [Act.put, List.getElem_toArray, List.getElem_cons_succ, List.getElem_cons_zero, List.setIfInBounds_toArray, List.set_cons_zero, List.set_cons_succ, Array.toArray_toList]
                  refine wpAnyH_take (i := 3) (v := PT bk) rfl (by kernel_rfl) (by kernel_rfl) (by kernel_rfl) (fun _ _ _ h => h) (Or.inl ⟨by rfl, ?_⟩) hHeld ?_
                  · intro w' hSw; obtain ⟨e2, e3⟩ := hSw; go_simp
                  simp only [Act.put, List.getElem_toArray, List.getElem_cons_succ, List.getElem_cons_zero, List.setIfInBounds_toArray, List.set_cons_zero, List.set_cons_succ, Array.toArray_toList]
                  refine wpAnyH_take (i := 5) (v := .slice (some ⟨g2, 0, none⟩) S.length c2) rfl (by kernel_rfl) (by kernel_rfl) (by kernel_rfl) (fun _ _ _ h => h) (Or.inl ⟨by rfl, ?_⟩) hHeld ?_
                  · intro w' hSw; go_simp
                  simp only [Act.put, List.getElem_toArray, List.getElem_cons_succ, List.getElem_cons_zero, List.setIfInBounds_toArray, List.set_cons_zero, List.set_cons_succ, Array.toArray_toList]
                  refine wpAnyH_take (i := 6) (v := .int .i64 (k : Int)) rfl (by kernel_rfl) (by kernel_rfl) (by kernel_rfl) (fun _ _ _ h => h) (Or.inl ⟨by rfl, ?_⟩) hHeld ?_
                  · intro w' hSw; go_simp
                  simp only [Act.put, List.getElem_toArray, List.getElem_cons_succ, List.getElem_cons_zero, List.setIfInBounds_toArray, List.set_cons_zero, List.set_cons_succ, Array.toArray_toList]
                  refine wpAnyH_take (i := 7) (v := .pointer (some ⟨g2, k, none⟩)) rfl (by kernel_rfl) (by kernel_rfl) (by kernel_rfl) (fun _ _ _ h => h) (Or.inl ⟨by rfl, ?_⟩) hHeld ?_
                  · intro w' hSw; go_simp
                  simp only [Act.put, List.getElem_toArray, List.getElem_cons_succ, List.getElem_cons_zero, List.setIfInBounds_toArray, List.set_cons_zero, List.set_cons_succ, Array.toArray_toList]
                  refine wpAnyH_take (i := 8) (v := .agg #[.string sk]) rfl (by kernel_rfl) (by kernel_rfl) (by kernel_rfl) (fun _ _ _ h => h) (Or.inl ⟨by rfl, ?_⟩) hHeld ?_
                  · intro w' hSw; obtain ⟨e2, e3⟩ := hSw; go_simp
                  simp only [Act.put, List.getElem_toArray, List.getElem_cons_succ, List.getElem_cons_zero, List.setIfInBounds_toArray, List.set_cons_zero, List.set_cons_succ, Array.toArray_toList]
                  refine wpAnyH_ready (rs := [4]) (by kernel_rfl) (by simp) ?_
                  refine AllReadyH.cons rfl (fun K hK => ?_) AllReadyH.nil
                  go_simp
                  refine (fork_any bk sk wc.drew hAk2.out).mono ?_
                  rintro e V1 ⟨rfl, hF, hb0⟩
                  have F1 : Hid (TAt V1 wc.heap.size sk) := hF
                  have hb1 : Below wc.heap.size wc V1 := ⟨hb0.os, hb0.tape, hb0.output, hb0.size, hb0.block⟩
                  have b1 : Hid (Below W.heap.size W V1) := HBc.out.trans (hb1.mono HBc.out.size)
                  have R1 : Hid (RAt V1 rb SN) := HRn.out.of_below hb1 HRn.out.lt
                  have nr1 : Hid (wc.heap.size ≠ rb) := by have := HRn.out.lt; show ¬ _; omega
                  have nw1 : Hid (W.heap.size ≤ wc.heap.size) := HBc.out.size
                  clear hF hb0 hb1
                  go_wp2_with fail
                  refine hK.out _ _ (SS3.out V1 b1.out) (fun hH1 => ?_)
                  clear hK K
                  try simp only [Act.put, List.getElem_toArray, List.getElem_cons_succ, List.getElem_cons_zero, List.setIfInBounds_toArray, List.set_cons_zero, List.set_cons_succ, Array.toArray_toList]
                  refine wpAnyH_ready (rs := [9]) (by kernel_rfl) (by simp) ?_
                  refine AllReadyH.cons rfl (fun K hK => ?_) AllReadyH.nil
                  go_simp
                  refine hK.out _ _ (SS3.out V1 b1.out) (fun hH2 => ?_)
                  clear hK K
                  try simp only [Act.put, List.getElem_toArray, List.getElem_cons_succ, List.getElem_cons_zero, List.setIfInBounds_toArray, List.set_cons_zero, List.set_cons_succ, Array.toArray_toList]
                  have cx := R1.out.cell
                  have fx := R1.out.frozen
                  refine wpAnyH_ready (rs := [10]) (by kernel_rfl) (by simp) ?_
                  refine AllReadyH.cons rfl (fun K hK => ?_) AllReadyH.nil
                  go_simp
                  refine hK.out _ _ (SS3.out _ (Below.own b1.out Hnb.out.2.1 0 (.string sk))) (fun hH3 => ?_)
                  clear hK K
                  try simp only [Act.put, List.getElem_toArray, List.getElem_cons_succ, List.getElem_cons_zero, List.setIfInBounds_toArray, List.set_cons_zero, List.set_cons_succ, Array.toArray_toList]
                  refine wpAnyH_done (by kernel_rfl) ?_ _
                  have rz := R1.out.set sk
                  have tz := F1.out.of_but ((But.refl rb V1).setCell 0 (.string sk)) nr1.out
                  clear cx fx hH1 hH2 hH3 hHeld
                  go_wp2_with fail
                  go_meet
                  case rel => exact ⟨wc.heap.size, sk, rfl, tz, rz, hzk, nw1.out, nr1.out, Below.own b1.out Hnb.out.2.1 _ _⟩
                · have hx2 : (xd == 2) = false := by simpa using hd2
                  go_wp2_with fail
                  go_meet
                  case rel => exact ⟨nb, SN, rfl, HTn.out, HRn.out, HSN.out, Hnb.out.1, Hnb.out.2.2, HBc.out⟩
              case rest =>
                obtain ⟨nt, s, rfl, hTs, hRs, hss, hnt, hnr2, hBy⟩ := hcut
                go_wp2_with fail
                have HY0 : Hid (TS wc w.heap.size g1 c1 g2 c2 S S bs) := HT1.out.below hBy
                have BY0 : Hid (Below w.heap.size w wc) := HB1.out.trans (hBy.mono HB1.out.size)
                have hSz : Hid (W.heap.size ≤ wc.heap.size) := hBy.size
                have HNE : Hid (g1 ≠ g2) := HY0.out.ne
                have HG : Hid (w.heap.size ≤ g1 ∧ g1 < wc.heap.size ∧ w.heap.size ≤ g2 ∧ g2 < wc.heap.size) := ⟨HY0.out.g1lt.1, HY0.out.g1lt.2, HY0.out.g2lt.1, HY0.out.g2lt.2⟩
                have HGE : Hid (∀ i, i < S.length → bs.getD i 0 ≠ g1 ∧ bs.getD i 0 ≠ g2) := fun i hi => (HY0.out.ge i hi).2
                have HLT : Hid (∀ i, i < S.length → bs.getD i 0 < wc.heap.size) := fun i hi => (HY0.out.at_ i hi).lt
                have hrb0 := Hnb.out.2.1
                have h31 := HN3.out.1
                have h32 := HN3.out.2.1
                have h33 := HN1.out
                have h34 := HN2.out
                have HN7 : Hid (nt ≠ g1 ∧ nt ≠ g2 ∧ rb ≠ g1 ∧ rb ≠ g2) := ⟨by omega, by omega, by omega, by omega⟩
                have HN8 : Hid (nt < wc.heap.size ∧ w.heap.size ≤ nt ∧ ∀ i, i < S.length → bs.getD i 0 ≠ nt) := ⟨hTs.lt, by omega, fun i hi => by have := HN3.out.2.2 i hi; omega⟩
                have pb0 : Hid (PB wc.drew wc.heap.size S bs nt rb s) := ⟨HY0.out.at_, hTs, hRs, Nat.le_refl _⟩
                have ft0 : Hid (wc.drew.ownsRow w.heap.size 27 1 (.slice (some ⟨g1, 0, none⟩) S.length c1) S.length (bs.map PT)) := HY0.out.t
                have fr0 : Hid (wc.drew.ownsRow w.heap.size 31 1 (.slice (some ⟨g2, 0, none⟩) S.length c2) S.length (S.map Value.string)) := HY0.out.r
                have fB0 : Hid (Below w.heap.size w wc.drew) := BY0.out.drew
                have HY : Hid (TS wc.drew w.heap.size g1 c1 g2 c2 S S bs) := HY0.out.keep (fun _ _ => rfl)
                have crb : wc.drew.cell? ⟨rb, 0, none⟩ = some (.string s) := hRs.cell
                clear h31 h32 h33 h34 hrb0 hTs hRs hBy HY0 BY0 SS3 y0
                refine wp_region_held_drew (S := fun w' => w'.cell? ⟨rb, 0, none⟩ = some (.string s)) (by kernel_rfl) crb (fun hHeld => ?_)
                refine wpAnyH_take (i := 0) (v := .slice (some ⟨g1, 0, none⟩) S.length c1) rfl (by kernel_rfl) (by kernel_rfl) (by kernel_rfl) (fun _ _ _ h => h) (Or.inl ⟨by rfl, ?_⟩) hHeld ?_
                · intro w' hSw; go_simp
                simp only [Act.put, List.getElem_toArray, List.getElem_cons_succ, List.getElem_cons_zero, List.setIfInBounds_toArray, List.set_cons_zero, List.set_cons_succ, Array.toArray_toList]
                refine wpAnyH_take (i := 1) (v := .pointer (some ⟨nt, 0, none⟩)) rfl (by kernel_rfl) (by kernel_rfl) (by kernel_rfl) (fun _ _ _ h => h) (Or.inl ⟨by rfl, ?_⟩) hHeld ?_
                · intro w' hSw; go_simp
                simp only [Act.put, List.getElem_toArray, List.getElem_cons_succ, List.getElem_cons_zero, List.setIfInBounds_toArray, List.set_cons_zero, List.set_cons_succ, Array.toArray_toList]
                refine wpAnyH_take (i := 4) (v := .slice (some ⟨g2, 0, none⟩) S.length c2) rfl (by kernel_rfl) (by kernel_rfl) (by kernel_rfl) (fun _ _ _ h => h) (Or.inl ⟨by rfl, ?_⟩) hHeld ?_
                · intro w' hSw; go_simp
                simp only [Act.put, List.getElem_toArray, List.getElem_cons_succ, List.getElem_cons_zero, List.setIfInBounds_toArray, List.set_cons_zero, List.set_cons_succ, Array.toArray_toList]
                refine wpAnyH_take (i := 5) (v := .agg #[.string s]) rfl (by kernel_rfl) (by kernel_rfl) (by kernel_rfl) (fun _ _ _ h => h) (Or.inl ⟨by rfl, ?_⟩) hHeld ?_
                · intro w' hSw; go_simp
                simp only [Act.put, List.getElem_toArray, List.getElem_cons_succ, List.getElem_cons_zero, List.setIfInBounds_toArray, List.set_cons_zero, List.set_cons_succ, Array.toArray_toList]
                clear crb hHeld
                generalize wc.heap.size = N at *
                generalize wc.drew = Y0 at *
                refine wpAnyH_ready (rs := [2, 6]) (by kernel_rfl) (by simp) ?_
                refine AllReadyH.cons rfl (fun K hK => ?_) (AllReadyH.cons rfl (fun K hK => ?_) AllReadyH.nil)
                · go_simp
                  have ft2 := ft0.out.alloc (Obj.cells #[Value.pointer (some ⟨nt, 0, none⟩)] 27)
                  have ft2' : Hid ((Y0.alloc (Obj.cells #[Value.pointer (some ⟨nt, 0, none⟩)] 27)).ownsRow w.heap.size 27 1 (.slice (some ⟨g1, 0, none⟩) S.length c1) S.length (bs.map PT)) := ft2
                  have fr3 : Hid ((Y0.alloc (Obj.cells #[Value.pointer (some ⟨nt, 0, none⟩)] 27)).ownsRow w.heap.size 31 1 (.slice (some ⟨g2, 0, none⟩) S.length c2) S.length (S.map Value.string)) := fr0.out.alloc (Obj.cells #[Value.pointer (some ⟨nt, 0, none⟩)] 27)
                  have fp4 : Hid (PB (Y0.alloc (Obj.cells #[Value.pointer (some ⟨nt, 0, none⟩)] 27)) N S bs nt rb s) := pb0.out.alloc _
                  have fB5 : Hid (Below w.heap.size w (Y0.alloc (Obj.cells #[Value.pointer (some ⟨nt, 0, none⟩)] 27))) := fB0.out.alloc fB0.out.size _
                  have nk6 : Hid ((Y0.alloc (Obj.cells #[Value.pointer (some ⟨nt, 0, none⟩)] 27)).cell? ⟨Y0.heap.size, 0, none⟩ = some (PT nt)) := by show _ = _; rw [World.cell?_alloc_new]; rfl
                  have kb7 : Hid (N ≤ Y0.heap.size) := pb0.out.size
                  clear ft2
                  generalize (Y0.alloc (Obj.cells #[Value.pointer (some ⟨nt, 0, none⟩)] 27)) = V1 at *
                  generalize Y0.heap.size = kk8 at *
                  refine hK.out _ _ fp4.out.rb.cell (fun hh9 => ?_)
                  clear hK K
                  try simp only [Act.put, List.getElem_toArray, List.getElem_cons_succ, List.getElem_cons_zero, List.setIfInBounds_toArray, List.set_cons_zero, List.set_cons_succ, Array.toArray_toList]
                  refine wpAnyH_ready (rs := [3, 6]) (by kernel_rfl) (by simp) ?_
                  refine AllReadyH.cons rfl (fun K hK => ?_) (AllReadyH.cons rfl (fun K hK => ?_) AllReadyH.nil)
                  · obtain ⟨gT15, cT16, V10, hrun11, ho12, hb13, he14⟩ := append_talk ft2'.out (by omega) fB5.out.size nt nk6.out
                    have ft17 : Hid (V10.ownsRow w.heap.size 27 1 (.slice (some ⟨gT15, 0, none⟩) (S.length + 1) cT16) (S.length + 1) (bs.map PT ++ [PT nt])) := ho12
                    have fr18 : Hid (V10.ownsRow w.heap.size 31 1 (.slice (some ⟨g2, 0, none⟩) S.length c2) S.length (S.map Value.string)) := ownsRow_other fr3.out hb13 (fun e => HNE.out e.symm)
                    have fp19 : Hid (PB V10 N S bs nt rb s) := fp4.out.but hb13 (fun i hi => (HGE.out i hi).1) HN7.out.1 HN7.out.2.2.1
                    have fB20 : Hid (Below w.heap.size w V10) := fB5.out.trans (hb13.below fB5.out.size HG.out.1)
                    have ea21 : Hid (gT15 = g1 ∨ (gT15 = V1.heap.size ∧ N ≤ V1.heap.size)) := he14.imp id (fun e => ⟨e, fp4.out.size⟩)
                    rw [if_pos (by rfl)]
                    refine wp_append_at (.tmp 66) (.tmp 68) 29 rfl _ _ _ rfl rfl hrun11 ?_
                    simp only [Act.put, List.getElem_toArray, List.getElem_cons_succ, List.getElem_cons_zero, List.setIfInBounds_toArray, List.set_cons_zero, List.set_cons_succ, Array.toArray_toList]
                    clear hrun11 ho12 hb13 he14
                    refine hK.out _ _ fp19.out.rb.cell (fun hh22 => ?_)
                    clear hK K
                    try simp only [Act.put, List.getElem_toArray, List.getElem_cons_succ, List.getElem_cons_zero, List.setIfInBounds_toArray, List.set_cons_zero, List.set_cons_succ, Array.toArray_toList]
                    refine wpAnyH_ready (rs := [6]) (by kernel_rfl) (by simp) ?_
                    refine AllReadyH.cons rfl (fun K hK => ?_) AllReadyH.nil
                    go_simp
                    have ft24 := ft17.out.alloc (Obj.cells #[Value.string s] 31)
                    have ft24' : Hid ((V10.alloc (Obj.cells #[Value.string s] 31)).ownsRow w.heap.size 27 1 (.slice (some ⟨gT15, 0, none⟩) (S.length + 1) cT16) (S.length + 1) (bs.map PT ++ [PT nt])) := ft24
                    have fr25 : Hid ((V10.alloc (Obj.cells #[Value.string s] 31)).ownsRow w.heap.size 31 1 (.slice (some ⟨g2, 0, none⟩) S.length c2) S.length (S.map Value.string)) := fr18.out.alloc (Obj.cells #[Value.string s] 31)
                    have fp26 : Hid (PB (V10.alloc (Obj.cells #[Value.string s] 31)) N S bs nt rb s) := fp19.out.alloc _
                    have fB27 : Hid (Below w.heap.size w (V10.alloc (Obj.cells #[Value.string s] 31))) := fB20.out.alloc fB20.out.size _
                    have nk28 : Hid ((V10.alloc (Obj.cells #[Value.string s] 31)).cell? ⟨V10.heap.size, 0, none⟩ = some (.string s)) := by show _ = _; rw [World.cell?_alloc_new]; rfl
                    have kb29 : Hid (N ≤ V10.heap.size) := fp19.out.size
                    clear ft24
                    generalize (V10.alloc (Obj.cells #[Value.string s] 31)) = V23 at *
                    generalize V10.heap.size = kk30 at *
                    refine hK.out _ _ fp26.out.rb.cell (fun hh31 => ?_)
                    clear hK K
                    try simp only [Act.put, List.getElem_toArray, List.getElem_cons_succ, List.getElem_cons_zero, List.setIfInBounds_toArray, List.set_cons_zero, List.set_cons_succ, Array.toArray_toList]
                    refine wpAnyH_ready (rs := [7]) (by kernel_rfl) (by simp) ?_
                    refine AllReadyH.cons rfl (fun K hK => ?_) AllReadyH.nil
                    obtain ⟨gR37, cR38, V32, hrun33, ho34, hb35, he36⟩ := append_want fr25.out (by omega) fB27.out.size s nk28.out
                    have tl42 : Hid (gT15 < V23.heap.size) := (ft24'.out.lt gT15 rfl).2
                    have ft39 : Hid (V32.ownsRow w.heap.size 27 1 (.slice (some ⟨gT15, 0, none⟩) (S.length + 1) cT16) (S.length + 1) (bs.map PT ++ [PT nt])) := ownsRow_other ft24'.out hb35 (by have h2 := HG.out.2.2.2; have h3 := HNE.out; rcases ea21.out with e | ⟨e, h4⟩ <;> omega)
                    have fp40 : Hid (PB V32 N S bs nt rb s) := fp26.out.but hb35 (fun i hi => (HGE.out i hi).2) HN7.out.2.1 HN7.out.2.2.2
                    have fB41 : Hid (Below w.heap.size w V32) := fB27.out.trans (hb35.below fB27.out.size HG.out.2.2.1)
                    have ts9 : Hid (TS V32 w.heap.size gT15 cT16 gR37 cR38 (S ++ [s]) (S ++ [s]) (bs ++ [nt])) := by
                      rcases ea21.out with e | ⟨e, h4⟩
                      · exact HY.out.pushed (Na := N) (Nb := V23.heap.size) fp40.out ft39.out ho34 HLT.out HG.out.2.1 HG.out.2.2.2 HN8.out.1 HN8.out.2.1 HN8.out.2.2 HN7.out.1 HN7.out.2.1 (Or.inl e) he36 (Nat.le_refl _) fp26.out.size tl42.out hss
                      · exact HY.out.pushed (Na := V1.heap.size) (Nb := V23.heap.size) fp40.out ft39.out ho34 HLT.out HG.out.2.1 HG.out.2.2.2 HN8.out.1 HN8.out.2.1 HN8.out.2.2 HN7.out.1 HN7.out.2.1 (Or.inr e) he36 h4 fp26.out.size tl42.out hss
                    rw [if_pos (by rfl)]
                    refine wp_append_at (.tmp 70) (.tmp 72) 33 rfl _ _ _ rfl rfl hrun33 ?_
                    simp only [Act.put, List.getElem_toArray, List.getElem_cons_succ, List.getElem_cons_zero, List.setIfInBounds_toArray, List.set_cons_zero, List.set_cons_succ, Array.toArray_toList]
                    clear hrun33 ho34 hb35 he36
                    refine hK.out _ _ fp40.out.rb.cell (fun hh43 => ?_)
                    clear hK K
                    try simp only [Act.put, List.getElem_toArray, List.getElem_cons_succ, List.getElem_cons_zero, List.setIfInBounds_toArray, List.set_cons_zero, List.set_cons_succ, Array.toArray_toList]
                    refine wpAnyH_ready (rs := [8]) (by kernel_rfl) (by simp) ?_
                    refine AllReadyH.cons rfl (fun K hK => ?_) AllReadyH.nil
                    go_simp
                    refine hK.out _ _ fp40.out.rb.cell (fun hx8 => ?_)
                    clear hK K
                    try simp only [Act.put, List.getElem_toArray, List.getElem_cons_succ, List.getElem_cons_zero, List.setIfInBounds_toArray, List.set_cons_zero, List.set_cons_succ, Array.toArray_toList]
                    refine wpAnyH_ready (rs := [9]) (by kernel_rfl) (by simp) ?_
                    refine AllReadyH.cons rfl (fun K hK => ?_) AllReadyH.nil
                    go_simp
                    refine hK.out _ _ fp40.out.rb.cell (fun hx9 => ?_)
                    clear hK K
                    try simp only [Act.put, List.getElem_toArray, List.getElem_cons_succ, List.getElem_cons_zero, List.setIfInBounds_toArray, List.set_cons_zero, List.set_cons_succ, Array.toArray_toList]
                    refine wpAnyH_done (by kernel_rfl) ?_ _
                    go_wp2_with fail
                    go_roundg (gk - 1)
                    case measure => omega
                    case rel => exact ⟨r + 1, gT15, cT16, gR37, cR38, S ++ [s], bs ++ [nt], by omega, by go_num, by rw [List.length_append]; rfl, by rw [List.length_append]; rfl, ts9.out, by rw [List.length_append]; show S.length + 1 ≤ _; omega, fB41.out⟩
                  · go_simp
                    have ft45 := ft2'.out.alloc (Obj.cells #[Value.string s] 31)
                    have ft45' : Hid ((V1.alloc (Obj.cells #[Value.string s] 31)).ownsRow w.heap.size 27 1 (.slice (some ⟨g1, 0, none⟩) S.length c1) S.length (bs.map PT)) := ft45
                    have fr46 : Hid ((V1.alloc (Obj.cells #[Value.string s] 31)).ownsRow w.heap.size 31 1 (.slice (some ⟨g2, 0, none⟩) S.length c2) S.length (S.map Value.string)) := fr3.out.alloc (Obj.cells #[Value.string s] 31)
                    have fp47 : Hid (PB (V1.alloc (Obj.cells #[Value.string s] 31)) N S bs nt rb s) := fp4.out.alloc _
                    have fB48 : Hid (Below w.heap.size w (V1.alloc (Obj.cells #[Value.string s] 31))) := fB5.out.alloc fB5.out.size _
                    have nk49 : Hid ((V1.alloc (Obj.cells #[Value.string s] 31)).cell? ⟨V1.heap.size, 0, none⟩ = some (.string s)) := by show _ = _; rw [World.cell?_alloc_new]; rfl
                    have kb50 : Hid (N ≤ V1.heap.size) := fp4.out.size
                    have nk51 : Hid ((V1.alloc (Obj.cells #[Value.string s] 31)).cell? ⟨kk8, 0, none⟩ = some (PT nt)) := by show _ = _; rw [Below.cell ((Below.refl V1.heap.size V1).alloc (Nat.le_refl _) _) (World.block_lt_of_cell? _ _ nk6.out)]; exact nk6.out
                    clear ft45
                    generalize (V1.alloc (Obj.cells #[Value.string s] 31)) = V44 at *
                    generalize V1.heap.size = kk52 at *
                    refine hK.out _ _ fp47.out.rb.cell (fun hh53 => ?_)
                    clear hK K
                    try simp only [Act.put, List.getElem_toArray, List.getElem_cons_succ, List.getElem_cons_zero, List.setIfInBounds_toArray, List.set_cons_zero, List.set_cons_succ, Array.toArray_toList]
                    refine wpAnyH_ready (rs := [3]) (by kernel_rfl) (by simp) ?_
                    refine AllReadyH.cons rfl (fun K hK => ?_) AllReadyH.nil
                    obtain ⟨gT59, cT60, V54, hrun55, ho56, hb57, he58⟩ := append_talk ft45'.out (by omega) fB48.out.size nt nk51.out
                    have ft61 : Hid (V54.ownsRow w.heap.size 27 1 (.slice (some ⟨gT59, 0, none⟩) (S.length + 1) cT60) (S.length + 1) (bs.map PT ++ [PT nt])) := ho56
                    have fr62 : Hid (V54.ownsRow w.heap.size 31 1 (.slice (some ⟨g2, 0, none⟩) S.length c2) S.length (S.map Value.string)) := ownsRow_other fr46.out hb57 (fun e => HNE.out e.symm)
                    have fp63 : Hid (PB V54 N S bs nt rb s) := fp47.out.but hb57 (fun i hi => (HGE.out i hi).1) HN7.out.1 HN7.out.2.2.1
                    have fB64 : Hid (Below w.heap.size w V54) := fB48.out.trans (hb57.below fB48.out.size HG.out.1)
                    have ea65 : Hid (gT59 = g1 ∨ (gT59 = V44.heap.size ∧ N ≤ V44.heap.size)) := he58.imp id (fun e => ⟨e, fp47.out.size⟩)
                    have nk66 : Hid (V54.cell? ⟨kk52, 0, none⟩ = some (.string s)) := by show _ = _; rw [hb57.cell (World.block_lt_of_cell? _ _ nk49.out) (show kk52 ≠ g1 by have h1 := kb50.out; have h2 := HG.out.2.1; omega)]; exact nk49.out
                    rw [if_pos (by rfl)]
                    refine wp_append_at (.tmp 66) (.tmp 68) 29 rfl _ _ _ rfl rfl hrun55 ?_
                    simp only [Act.put, List.getElem_toArray, List.getElem_cons_succ, List.getElem_cons_zero, List.setIfInBounds_toArray, List.set_cons_zero, List.set_cons_succ, Array.toArray_toList]
                    clear hrun55 ho56 hb57 he58
                    refine hK.out _ _ fp63.out.rb.cell (fun hh67 => ?_)
                    clear hK K
                    try simp only [Act.put, List.getElem_toArray, List.getElem_cons_succ, List.getElem_cons_zero, List.setIfInBounds_toArray, List.set_cons_zero, List.set_cons_succ, Array.toArray_toList]
                    refine wpAnyH_ready (rs := [7]) (by kernel_rfl) (by simp) ?_
                    refine AllReadyH.cons rfl (fun K hK => ?_) AllReadyH.nil
                    obtain ⟨gR73, cR74, V68, hrun69, ho70, hb71, he72⟩ := append_want fr62.out (by omega) fB64.out.size s nk66.out
                    have tl78 : Hid (gT59 < V54.heap.size) := (ft61.out.lt gT59 rfl).2
                    have ft75 : Hid (V68.ownsRow w.heap.size 27 1 (.slice (some ⟨gT59, 0, none⟩) (S.length + 1) cT60) (S.length + 1) (bs.map PT ++ [PT nt])) := ownsRow_other ft61.out hb71 (by have h2 := HG.out.2.2.2; have h3 := HNE.out; rcases ea65.out with e | ⟨e, h4⟩ <;> omega)
                    have fp76 : Hid (PB V68 N S bs nt rb s) := fp63.out.but hb71 (fun i hi => (HGE.out i hi).2) HN7.out.2.1 HN7.out.2.2.2
                    have fB77 : Hid (Below w.heap.size w V68) := fB64.out.trans (hb71.below fB64.out.size HG.out.2.2.1)
                    have ts9 : Hid (TS V68 w.heap.size gT59 cT60 gR73 cR74 (S ++ [s]) (S ++ [s]) (bs ++ [nt])) := by
                      rcases ea65.out with e | ⟨e, h4⟩
                      · exact HY.out.pushed (Na := N) (Nb := V54.heap.size) fp76.out ft75.out ho70 HLT.out HG.out.2.1 HG.out.2.2.2 HN8.out.1 HN8.out.2.1 HN8.out.2.2 HN7.out.1 HN7.out.2.1 (Or.inl e) he72 (Nat.le_refl _) fp63.out.size tl78.out hss
                      · exact HY.out.pushed (Na := V44.heap.size) (Nb := V54.heap.size) fp76.out ft75.out ho70 HLT.out HG.out.2.1 HG.out.2.2.2 HN8.out.1 HN8.out.2.1 HN8.out.2.2 HN7.out.1 HN7.out.2.1 (Or.inr e) he72 h4 fp63.out.size tl78.out hss
                    rw [if_pos (by rfl)]
                    refine wp_append_at (.tmp 70) (.tmp 72) 33 rfl _ _ _ rfl rfl hrun69 ?_
                    simp only [Act.put, List.getElem_toArray, List.getElem_cons_succ, List.getElem_cons_zero, List.setIfInBounds_toArray, List.set_cons_zero, List.set_cons_succ, Array.toArray_toList]
                    clear hrun69 ho70 hb71 he72
                    refine hK.out _ _ fp76.out.rb.cell (fun hh79 => ?_)
                    clear hK K
                    try simp only [Act.put, List.getElem_toArray, List.getElem_cons_succ, List.getElem_cons_zero, List.setIfInBounds_toArray, List.set_cons_zero, List.set_cons_succ, Array.toArray_toList]
                    refine wpAnyH_ready (rs := [8]) (by kernel_rfl) (by simp) ?_
                    refine AllReadyH.cons rfl (fun K hK => ?_) AllReadyH.nil
                    go_simp
                    refine hK.out _ _ fp76.out.rb.cell (fun hx8 => ?_)
                    clear hK K
                    try simp only [Act.put, List.getElem_toArray, List.getElem_cons_succ, List.getElem_cons_zero, List.setIfInBounds_toArray, List.set_cons_zero, List.set_cons_succ, Array.toArray_toList]
                    refine wpAnyH_ready (rs := [9]) (by kernel_rfl) (by simp) ?_
                    refine AllReadyH.cons rfl (fun K hK => ?_) AllReadyH.nil
                    go_simp
                    refine hK.out _ _ fp76.out.rb.cell (fun hx9 => ?_)
                    clear hK K
                    try simp only [Act.put, List.getElem_toArray, List.getElem_cons_succ, List.getElem_cons_zero, List.setIfInBounds_toArray, List.set_cons_zero, List.set_cons_succ, Array.toArray_toList]
                    refine wpAnyH_done (by kernel_rfl) ?_ _
                    go_wp2_with fail
                    go_roundg (gk - 1)
                    case measure => omega
                    case rel => exact ⟨r + 1, gT59, cT60, gR73, cR74, S ++ [s], bs ++ [nt], by omega, by go_num, by rw [List.length_append]; rfl, by rw [List.length_append]; rfl, ts9.out, by rw [List.length_append]; show S.length + 1 ≤ _; omega, fB77.out⟩
                · go_simp
                  have ft81 := ft0.out.alloc (Obj.cells #[Value.string s] 31)
                  have ft81' : Hid ((Y0.alloc (Obj.cells #[Value.string s] 31)).ownsRow w.heap.size 27 1 (.slice (some ⟨g1, 0, none⟩) S.length c1) S.length (bs.map PT)) := ft81
                  have fr82 : Hid ((Y0.alloc (Obj.cells #[Value.string s] 31)).ownsRow w.heap.size 31 1 (.slice (some ⟨g2, 0, none⟩) S.length c2) S.length (S.map Value.string)) := fr0.out.alloc (Obj.cells #[Value.string s] 31)
                  have fp83 : Hid (PB (Y0.alloc (Obj.cells #[Value.string s] 31)) N S bs nt rb s) := pb0.out.alloc _
                  have fB84 : Hid (Below w.heap.size w (Y0.alloc (Obj.cells #[Value.string s] 31))) := fB0.out.alloc fB0.out.size _
                  have nk85 : Hid ((Y0.alloc (Obj.cells #[Value.string s] 31)).cell? ⟨Y0.heap.size, 0, none⟩ = some (.string s)) := by show _ = _; rw [World.cell?_alloc_new]; rfl
                  have kb86 : Hid (N ≤ Y0.heap.size) := pb0.out.size
                  clear ft81
                  generalize (Y0.alloc (Obj.cells #[Value.string s] 31)) = V80 at *
                  generalize Y0.heap.size = kk87 at *
                  refine hK.out _ _ fp83.out.rb.cell (fun hh88 => ?_)
                  clear hK K
                  try simp only [Act.put, List.getElem_toArray, List.getElem_cons_succ, List.getElem_cons_zero, List.setIfInBounds_toArray, List.set_cons_zero, List.set_cons_succ, Array.toArray_toList]
                  refine wpAnyH_ready (rs := [2]) (by kernel_rfl) (by simp) ?_
                  refine AllReadyH.cons rfl (fun K hK => ?_) AllReadyH.nil
                  go_simp
                  have ft90 := ft81'.out.alloc (Obj.cells #[Value.pointer (some ⟨nt, 0, none⟩)] 27)
                  have ft90' : Hid ((V80.alloc (Obj.cells #[Value.pointer (some ⟨nt, 0, none⟩)] 27)).ownsRow w.heap.size 27 1 (.slice (some ⟨g1, 0, none⟩) S.length c1) S.length (bs.map PT)) := ft90
                  have fr91 : Hid ((V80.alloc (Obj.cells #[Value.pointer (some ⟨nt, 0, none⟩)] 27)).ownsRow w.heap.size 31 1 (.slice (some ⟨g2, 0, none⟩) S.length c2) S.length (S.map Value.string)) := fr82.out.alloc (Obj.cells #[Value.pointer (some ⟨nt, 0, none⟩)] 27)
                  have fp92 : Hid (PB (V80.alloc (Obj.cells #[Value.pointer (some ⟨nt, 0, none⟩)] 27)) N S bs nt rb s) := fp83.out.alloc _
                  have fB93 : Hid (Below w.heap.size w (V80.alloc (Obj.cells #[Value.pointer (some ⟨nt, 0, none⟩)] 27))) := fB84.out.alloc fB84.out.size _
                  have nk94 : Hid ((V80.alloc (Obj.cells #[Value.pointer (some ⟨nt, 0, none⟩)] 27)).cell? ⟨V80.heap.size, 0, none⟩ = some (PT nt)) := by show _ = _; rw [World.cell?_alloc_new]; rfl
                  have kb95 : Hid (N ≤ V80.heap.size) := fp83.out.size
                  have nk96 : Hid ((V80.alloc (Obj.cells #[Value.pointer (some ⟨nt, 0, none⟩)] 27)).cell? ⟨kk87, 0, none⟩ = some (.string s)) := by show _ = _; rw [Below.cell ((Below.refl V80.heap.size V80).alloc (Nat.le_refl _) _) (World.block_lt_of_cell? _ _ nk85.out)]; exact nk85.out
                  clear ft90
                  generalize (V80.alloc (Obj.cells #[Value.pointer (some ⟨nt, 0, none⟩)] 27)) = V89 at *
                  generalize V80.heap.size = kk97 at *
                  refine hK.out _ _ fp92.out.rb.cell (fun hh98 => ?_)
                  clear hK K
                  try simp only [Act.put, List.getElem_toArray, List.getElem_cons_succ, List.getElem_cons_zero, List.setIfInBounds_toArray, List.set_cons_zero, List.set_cons_succ, Array.toArray_toList]
                  refine wpAnyH_ready (rs := [3]) (by kernel_rfl) (by simp) ?_
                  refine AllReadyH.cons rfl (fun K hK => ?_) AllReadyH.nil
                  obtain ⟨gT104, cT105, V99, hrun100, ho101, hb102, he103⟩ := append_talk ft90'.out (by omega) fB93.out.size nt nk94.out
                  have ft106 : Hid (V99.ownsRow w.heap.size 27 1 (.slice (some ⟨gT104, 0, none⟩) (S.length + 1) cT105) (S.length + 1) (bs.map PT ++ [PT nt])) := ho101
                  have fr107 : Hid (V99.ownsRow w.heap.size 31 1 (.slice (some ⟨g2, 0, none⟩) S.length c2) S.length (S.map Value.string)) := ownsRow_other fr91.out hb102 (fun e => HNE.out e.symm)
                  have fp108 : Hid (PB V99 N S bs nt rb s) := fp92.out.but hb102 (fun i hi => (HGE.out i hi).1) HN7.out.1 HN7.out.2.2.1
                  have fB109 : Hid (Below w.heap.size w V99) := fB93.out.trans (hb102.below fB93.out.size HG.out.1)
                  have ea110 : Hid (gT104 = g1 ∨ (gT104 = V89.heap.size ∧ N ≤ V89.heap.size)) := he103.imp id (fun e => ⟨e, fp92.out.size⟩)
                  have nk111 : Hid (V99.cell? ⟨kk87, 0, none⟩ = some (.string s)) := by show _ = _; rw [hb102.cell (World.block_lt_of_cell? _ _ nk96.out) (show kk87 ≠ g1 by have h1 := kb86.out; have h2 := HG.out.2.1; omega)]; exact nk96.out
                  rw [if_pos (by rfl)]
                  refine wp_append_at (.tmp 66) (.tmp 68) 29 rfl _ _ _ rfl rfl hrun100 ?_
                  simp only [Act.put, List.getElem_toArray, List.getElem_cons_succ, List.getElem_cons_zero, List.setIfInBounds_toArray, List.set_cons_zero, List.set_cons_succ, Array.toArray_toList]
                  clear hrun100 ho101 hb102 he103
                  refine hK.out _ _ fp108.out.rb.cell (fun hh112 => ?_)
                  clear hK K
                  try simp only [Act.put, List.getElem_toArray, List.getElem_cons_succ, List.getElem_cons_zero, List.setIfInBounds_toArray, List.set_cons_zero, List.set_cons_succ, Array.toArray_toList]
                  refine wpAnyH_ready (rs := [7]) (by kernel_rfl) (by simp) ?_
                  refine AllReadyH.cons rfl (fun K hK => ?_) AllReadyH.nil
                  obtain ⟨gR118, cR119, V113, hrun114, ho115, hb116, he117⟩ := append_want fr107.out (by omega) fB109.out.size s nk111.out
                  have tl123 : Hid (gT104 < V99.heap.size) := (ft106.out.lt gT104 rfl).2
                  have ft120 : Hid (V113.ownsRow w.heap.size 27 1 (.slice (some ⟨gT104, 0, none⟩) (S.length + 1) cT105) (S.length + 1) (bs.map PT ++ [PT nt])) := ownsRow_other ft106.out hb116 (by have h2 := HG.out.2.2.2; have h3 := HNE.out; rcases ea110.out with e | ⟨e, h4⟩ <;> omega)
                  have fp121 : Hid (PB V113 N S bs nt rb s) := fp108.out.but hb116 (fun i hi => (HGE.out i hi).2) HN7.out.2.1 HN7.out.2.2.2
                  have fB122 : Hid (Below w.heap.size w V113) := fB109.out.trans (hb116.below fB109.out.size HG.out.2.2.1)
                  have ts9 : Hid (TS V113 w.heap.size gT104 cT105 gR118 cR119 (S ++ [s]) (S ++ [s]) (bs ++ [nt])) := by
                    rcases ea110.out with e | ⟨e, h4⟩
                    · exact HY.out.pushed (Na := N) (Nb := V99.heap.size) fp121.out ft120.out ho115 HLT.out HG.out.2.1 HG.out.2.2.2 HN8.out.1 HN8.out.2.1 HN8.out.2.2 HN7.out.1 HN7.out.2.1 (Or.inl e) he117 (Nat.le_refl _) fp108.out.size tl123.out hss
                    · exact HY.out.pushed (Na := V89.heap.size) (Nb := V99.heap.size) fp121.out ft120.out ho115 HLT.out HG.out.2.1 HG.out.2.2.2 HN8.out.1 HN8.out.2.1 HN8.out.2.2 HN7.out.1 HN7.out.2.1 (Or.inr e) he117 h4 fp108.out.size tl123.out hss
                  rw [if_pos (by rfl)]
                  refine wp_append_at (.tmp 70) (.tmp 72) 33 rfl _ _ _ rfl rfl hrun114 ?_
                  simp only [Act.put, List.getElem_toArray, List.getElem_cons_succ, List.getElem_cons_zero, List.setIfInBounds_toArray, List.set_cons_zero, List.set_cons_succ, Array.toArray_toList]
                  clear hrun114 ho115 hb116 he117
                  refine hK.out _ _ fp121.out.rb.cell (fun hh124 => ?_)
                  clear hK K
                  try simp only [Act.put, List.getElem_toArray, List.getElem_cons_succ, List.getElem_cons_zero, List.setIfInBounds_toArray, List.set_cons_zero, List.set_cons_succ, Array.toArray_toList]
                  refine wpAnyH_ready (rs := [8]) (by kernel_rfl) (by simp) ?_
                  refine AllReadyH.cons rfl (fun K hK => ?_) AllReadyH.nil
                  go_simp
                  refine hK.out _ _ fp121.out.rb.cell (fun hx8 => ?_)
                  clear hK K
                  try simp only [Act.put, List.getElem_toArray, List.getElem_cons_succ, List.getElem_cons_zero, List.setIfInBounds_toArray, List.set_cons_zero, List.set_cons_succ, Array.toArray_toList]
                  refine wpAnyH_ready (rs := [9]) (by kernel_rfl) (by simp) ?_
                  refine AllReadyH.cons rfl (fun K hK => ?_) AllReadyH.nil
                  go_simp
                  refine hK.out _ _ fp121.out.rb.cell (fun hx9 => ?_)
                  clear hK K
                  try simp only [Act.put, List.getElem_toArray, List.getElem_cons_succ, List.getElem_cons_zero, List.setIfInBounds_toArray, List.set_cons_zero, List.set_cons_succ, Array.toArray_toList]
                  refine wpAnyH_done (by kernel_rfl) ?_ _
                  go_wp2_with fail
                  go_roundg (gk - 1)
                  case measure => omega
                  case rel => exact ⟨r + 1, gT104, cT105, gR118, cR119, S ++ [s], bs ++ [nt], by omega, by go_num, by rw [List.length_append]; rfl, by rw [List.length_append]; rfl, ts9.out, by rw [List.length_append]; show S.length + 1 ≤ _; omega, fB122.out⟩
    · obtain rfl : r = st.length := by omega
      have HRA0 : Hid (∀ sk : ByteArray, sk.size = 32 → ∀ w, Calls Tryd.prog 10 #[.agg #[.string sk], .string label] w fun e w' => e = .returned (.tuple #[.string (tagB askB [sk, label]), .agg #[.string (tagB askedB [sk, label])]]) ∧ Below w.heap.size w w') := fun sk h w => refAsk_any sk label h hl w
      have HAA0 : Hid (∀ (sk : ByteArray) (bk : Nat) (V : World), sk.size = 32 → w.heap.size ≤ bk → Below w.heap.size w V → TAt V bk sk → Calls Tryd.prog 11 #[.pointer (some ⟨bk, 0, none⟩), .string label] V fun e w' => e = .returned (.string (tagB askB [sk, label])) ∧ TAt w' bk (tagB askedB [sk, label]) ∧ But bk V w') :=
        fun sk bk V h hb hV hA => ask_any bk sk label h hl V hA (Nat.lt_of_lt_of_le hT0.out hb) (hT.of_below hV hT0.out) (hS.of_below hV hT0.out)
      have hLb : S.length < 4398046511106 := by omega
      go_wp2_with fail
      go_loopg [125] S.length (fun gk2 v125 wx => ∃ (i : Nat) (S' : List ByteArray), i + gk2 = S.length ∧ v125 = .int .i64 i ∧ S'.length = S.length ∧ TS wx w.heap.size g1 c1 g2 c2 S' S bs ∧ (∀ j, i ≤ j → S'.getD j noB = S.getD j noB) ∧ Below w.heap.size w wx)
      case atStart => exact ⟨0, S, by omega, rfl, rfl, HTS.out, fun _ _ => rfl, HB.out⟩
      case round =>
        obtain ⟨i, S', hi, rfl, hl', hT', hsame, hB'⟩ := hrel
        by_cases hlt2 : i < S.length
        · have iL : (i : Int) < (S.length : Int) := by omega
          have HT' : Hid (TS wr w.heap.size g1 c1 g2 c2 S' S bs) := hT'
          have HB' : Hid (Below w.heap.size w wr) := hB'
          have HL' : Hid (S'.length = S.length) := hl'
          have HSM : Hid (∀ j, i ≤ j → S'.getD j noB = S.getD j noB) := hsame
          have p2 : wr.cell? ⟨g2, i, none⟩ = some (.string (S.getD i noB)) := hT'.want i (by omega)
          have hzk : (S.getD i noB).size = 32 := by rw [← hsame i (Nat.le_refl _)]; exact hT'.sz i (by omega)
          have hAk : Hid (TAt wr (bs.getD i 0) (S.getD i noB)) := by show TAt _ _ _; rw [← hsame i (Nat.le_refl _)]; exact hT'.at_ i (by omega)
          have hgk : Hid (w.heap.size ≤ bs.getD i 0) := (hT'.ge i (by omega)).1
          clear hT' hsame hB' hl'
          generalize hbk : bs.getD i 0 = bk at hAk hgk
          have HBK : Hid (bs.getD i 0 = bk) := hbk
          generalize hskk : S.getD i noB = sk at p2 hAk hzk
          clear hbk hskk
          have HRA : Hid (∀ w, Calls Tryd.prog 10 #[.agg #[.string sk], .string label] w fun e w' => e = .returned (.tuple #[.string (tagB askB [sk, label]), .agg #[.string (tagB askedB [sk, label])]]) ∧ Below w.heap.size w w') := HRA0.out sk hzk
          have HAA : Hid (∀ V, Below w.heap.size w V → TAt V bk sk → Calls Tryd.prog 11 #[.pointer (some ⟨bk, 0, none⟩), .string label] V fun e w' => e = .returned (.string (tagB askB [sk, label])) ∧ TAt w' bk (tagB askedB [sk, label]) ∧ But bk V w') := fun V hV hA => HAA0.out sk bk V hzk hgk.out hV hA
          have HSN : Hid ((tagB askedB [sk, label]).size = 32) := tagB_size _ _
          generalize tagB askB [sk, label] = QA at *
          generalize tagB askedB [sk, label] = QB at *
          go_wp2_with fail
          refine (HRA.out wr).mono ?_
          rintro e V1 ⟨rfl, hb1⟩
          have t1 : Hid (TS (V1.alloc (Obj.cells #[Value.string QB] 31)) w.heap.size g1 c1 g2 c2 S' S bs) := (HT'.out.below hb1).alloc _
          have q1 : (V1.alloc (Obj.cells #[Value.string QB] 31)).cell? ⟨g1, i, none⟩ = some (PT bk) := by rw [t1.out.ptr i (by have := HL'.out; omega), HBK.out]
          have B1 : Hid (Below w.heap.size w (V1.alloc (Obj.cells #[Value.string QB] 31))) := (HB'.out.trans (hb1.mono HB'.out.size)).alloc (Nat.le_trans HB'.out.size hb1.size) _
          have A1 : Hid (TAt (V1.alloc (Obj.cells #[Value.string QB] 31)) bk sk) := (hAk.out.of_below hb1 hAk.out.lt).alloc _
          clear hb1 p2
          go_upto_region 31 with fail
          generalize V1.alloc (Obj.cells #[Value.string QB] 31) = V2 at *
          go_wp2_with fail
          refine (HAA.out V2 B1.out A1.out).mono ?_
          rintro e V3 ⟨rfl, hA3, hb3⟩
          have t3 : Hid (TS V3 w.heap.size g1 c1 g2 c2 (S'.set i QB) S bs) := t1.out.talk i (by have := HL'.out; omega) (by rw [HBK.out]; exact hb3) QB (by rw [HBK.out]; exact hA3) HSN.out
          have B3' : Hid (Below w.heap.size w V3) := B1.out.trans (hb3.below B1.out.size hgk.out)
          clear hA3 hb3 q1
          go_wp2_with fail
          go_roundg (gk - 1)
          case measure => omega
          case rel =>
            refine ⟨i + 1, S'.set i QB, by omega, by go_num, by rw [List.length_set]; exact HL'.out, t3.out, fun j hj => ?_, B3'.out⟩
            rw [getD_setL _ _ _ _ _ (by have := HL'.out; omega), if_neg (by omega)]
            exact HSM.out j (by omega)
        · go_wp2_with fail
          go_ret
          exact ⟨rfl, hB'⟩
end Go.Proofs.YtalagjmjpoacmabDoor
