/- What is asked on a kind, by closures. -/
import Derived.Test.YtckfdpiohkggaabDoorRed
import Derived.Test.YtckfdpiohkggaabDoorOn
import Derived.Test.YtckfdpiohkggaabDoorKind
import Derived.Test.YtckfdpiohkggaabDoorTalk
import Derived.Test.YtckfdpiohkggaabDoorMod
import Derived.Test.YtckfdpiohkggaabDoorRead
import Derived.Deep.CutBlock
import Derived.Deep.DeepCutAuto
set_option linter.unusedSimpArgs false
set_option linter.unusedVariables false
namespace Go.Proofs.YtckfdpiohkggaabDoor
open Go.RowKit Go.Deep Go.PlainAid

set_option maxRecDepth 100000 in
set_option maxHeartbeats 2000000 in
theorem on48c_no {F : Nat} {w : World} {z : Int} {G : Array Value} {cp : Nat} {ct : TypeId} {cv : Value}  (hcp : Hid (IHolds w cp ct [cv])) (hG : gz.size = G.size) (hi : (Tryd.prog.info? 61).map (·.size) = some G.size) (h1 : G.all (·.oneCell') = true)
    (CG : Hid (∀ W, Calls Tryd.prog 33 #[.int .i64 z] W fun e w' => e = .returned (.tuple #[.agg G, .bool false]) ∧ Below W.heap.size W w'))  :
    Calls Tryd.prog 21 #[.int .i64 z, .func (.func F) #[] #[.pointer (some ⟨cp, 0, none⟩)]] w fun e w' => e = .returned (.tuple #[.string ⟨#[]⟩, .int .i64 1]) ∧ Below w.heap.size w w' := by
  go_enter Tryd.func21, Tryd.ntmps21
  go_wp2_with fail
  refine (CG.out w).mono ?_
  rintro e U1 ⟨rfl, hb⟩
  have B : Hid (Below w.heap.size w U1) := hb
  replace hcp := aJ hcp hb
  clear hb
  have hg : (U1.alloc (.cells gz 61)).heap[U1.heap.size]? = some (.cells gz 61 (0, 0)) := by
    have h := IHolds.new U1 61 gz.toList
    unfold IHolds at h
    rw [Array.toArray_toList] at h
    exact h
  have J : Hid (IHolds (U1.alloc (.cells G 61)) U1.heap.size 61 G.toList) := by
    have h := IHolds.new U1 61 G.toList
    rw [Array.toArray_toList] at h
    exact h
  replace B := aB B (nB U1 (.cells G 61))
  replace hcp := aJ hcp (nB U1 (.cells G 61))
  go_wp2_with (refine wpList_store_row rfl 61 (.tmp 6) (.tmp 12) rfl U1.heap.size G rfl rfl 61 gz hg hi hG h1 ?_; rw [World.setRow_alloc_new]; clear hg)
  go_ret2
  exact ⟨rfl, B.out⟩
end Go.Proofs.YtckfdpiohkggaabDoor

/- The walk of GroupTells. -/
set_option linter.unusedSimpArgs false
set_option linter.unusedVariables false
namespace Go.Proofs.YtckfdpiohkggaabDoor
open Go.RowKit Go.Deep Go.PlainAid

set_option maxHeartbeats 400000 in
theorem lawText_ok (s : ByteArray) (w : World) : Calls Tryd.prog 11 #[.string s, .int .i64 0, .int .i64 0, .string s] w fun e w' => e = .returned (.bool true) ∧ Below w.heap.size w w' := by
  go_enter Tryd.func11, Tryd.ntmps11
  go_wp2_with fail
  go_ret
  exact ⟨by simp, Below.refl _ _⟩
set_option maxHeartbeats 400000 in
theorem lawText_bad (x : Int) (t : ByteArray) (w : World) (hx : (x != 0) = true) : Calls Tryd.prog 11 #[.string ⟨#[]⟩, .int .i64 x, .int .i64 x, .string t] w fun e w' => e = .returned (.bool true) ∧ Below w.heap.size w w' := by
  go_enter Tryd.func11, Tryd.ntmps11
  go_wp2_with fail
  go_ret
  exact ⟨by simp, Below.refl _ _⟩
theorem refTextV {W : World} {n S : Nat} {v : Value} (h : NumV W 65536 n v) (b : (dg 65536 n).length ≤ 1000000) (hS : S ≤ 100000) :
    Calls Tryd.prog 14 #[v, .int .i64 (S : Int)] W fun e w' => e = .returned (.string ⟨(beB S n).toArray⟩) ∧ Below W.heap.size W w' := by
  obtain ⟨a, c, rfl, _, r⟩ := h
  exact refText_any W a c n S r b hS
end Go.Proofs.YtckfdpiohkggaabDoor

/- What is asked twice of a talk, behind a kind's ground: the closure, and Challenge; and the reference's. -/
set_option linter.unusedSimpArgs false
set_option linter.unusedVariables false
set_option maxRecDepth 100000
namespace Go.Proofs.YtckfdpiohkggaabDoor
open Go.RowKit Go.Deep Go.PlainAid

/-- A talk in block tb, and the tables. -/
structure TB (w : World) (tb : Nat) (s : ByteArray) : Prop where
  t : F.TAt w tb s
  T : F.Tabs w
  S : F.Starts w
theorem TB.below {w w' : World} {tb : Nat} {s : ByteArray} (h : TB w tb s) (hb : Below w.heap.size w w') : TB w' tb s :=
  ⟨h.t.of_below hb h.t.lt, h.T.of_below hb h.T.size, h.S.of_below hb h.T.size⟩
theorem IHolds.offB {w w' : World} {b k : Nat} {t : TypeId} {l : List Value} (h : IHolds w k t l) (hb : F.But b w w') (hne : k ≠ b) : IHolds w' k t l := by
  unfold IHolds; rw [hb.block k h.lt hne]; exact h
theorem FB {b : Nat} {w w' : World} (h : F.But b w w') : But b w w' := ⟨h.os, h.tape, h.output, h.size, h.block⟩
/-- What is written into the block of a talk leaves every number. -/
theorem NumV.offT {w w' : World} {b n : Nat} {v : Value} {s : ByteArray} (h : NumV w 65536 n v) (hI : F.TAt w b s) (hb : F.But b w w') : NumV w' 65536 n v := by
  obtain ⟨a, cap, rfl, hc, hr⟩ := h
  refine ⟨a, cap, rfl, hc, hr.of_but (fun hne k o e => ?_) (FB hb)⟩
  rintro rfl
  have h0 : 0 < (dg 65536 n).length := List.length_pos_iff.2 hne
  obtain ⟨k', o', e', hcell⟩ := hr ((dg 65536 n).length - 1) (by omega)
  rw [e] at e'
  simp only [Option.some.injEq, Addr.mk.injEq, and_true] at e'
  obtain ⟨rfl, rfl⟩ := e'
  generalize o + ((dg 65536 n).length - 1) = j at *
  generalize (dg 65536 n)[(dg 65536 n).length - 1] = x at *
  unfold F.TAt at hI
  match j, hcell with
  | 0, hcell => simp [World.cell?, hI] at hcell
  | j + 1, hcell => simp [World.cell?, hI] at hcell
theorem ask_TB {w : World} {tb : Nat} {s label : ByteArray} (hs : s.size = 32) (hl : label.size < 1125899906842624) (h2 : 2 < tb) (h : TB w tb s) :
    Calls Tryd.prog 12 #[.pointer (some ⟨tb, 0, none⟩), .string label] w fun e w' => e = .returned (.string (F.tagB F.askB [s, label])) ∧ TB w' tb (F.tagB F.askedB [s, label]) ∧ F.But tb w w' :=
  (F.ask_any tb s label hs hl w h.t h2 h.T h.S).mono fun e w' ⟨h1, h3, h4⟩ => ⟨h1, ⟨h3, h.T.of_but h4 h2, h.S.of_but h4 h2 h.T.size⟩, h4⟩
theorem say_TB {w : World} {tb : Nat} {s label t : ByteArray} (hs : s.size = 32) (hl : label.size < 1125899906842624) (ht : t.size < 1125899906842624) (h2 : 2 < tb) (h : TB w tb s) :
    Calls Tryd.prog 6 #[.pointer (some ⟨tb, 0, none⟩), .string label, .string t] w fun e w' => e = .returned (.tuple #[]) ∧ TB w' tb (F.tagB F.sayB [s, label, t]) ∧ F.But tb w w' :=
  (F.say_any tb s label t hs hl ht w h.t h2 h.T h.S).mono fun e w' ⟨h1, h3, h4⟩ => ⟨h1, ⟨h3, h.T.of_but h4 h2, h.S.of_but h4 h2 h.T.size⟩, h4⟩

set_option maxHeartbeats 2000000 in
theorem clos22 {w : World} {g p1 p2 tb : Nat} {label s s1 s2 q1 q2 t : ByteArray} {v0 v1 v2 v3 : Nat} (J1 : Hid (IHolds w p1 23 [(.pointer (some ⟨tb, 0, none⟩))])) (J2 : Hid (IHolds w p2 9 [(.string label)])) (n1 : Hid (p1 ≠ tb)) (n2 : Hid (p2 ≠ tb)) (hq1 : q1.size = 32) (hq2 : q2.size = 32)
    (A : Hid (TB w tb s)) (C1 : Hid (∀ W, TB W tb s → Calls Tryd.prog 12 #[(.pointer (some ⟨tb, 0, none⟩)), .string label] W fun e w' => e = .returned (.string q1) ∧ TB w' tb s1 ∧ F.But tb W w'))
    (C2 : Hid (∀ W, TB W tb s1 → Calls Tryd.prog 12 #[(.pointer (some ⟨tb, 0, none⟩)), .string label] W fun e w' => e = .returned (.string q2) ∧ TB w' tb s2 ∧ F.But tb W w'))
    (C3 : Hid (∀ W, F.But tb w W → Calls Tryd.prog 24 #[.pointer (some ⟨g, 1, none⟩), .string (q1 ++ q2)] W fun e w' => e = .returned (.agg #[U v0, U v1, U v2, U v3]) ∧ Below W.heap.size W w'))
    (C4 : Hid (∀ W, F.But tb w W → Calls Tryd.prog 23 #[.pointer (some ⟨g, 0, none⟩), .agg #[U v0, U v1, U v2, U v3]] W fun e w' => e = .returned (.tuple #[.string t, .int .i64 0]) ∧ Below W.heap.size W w')) :
    Calls Tryd.prog 22 #[.pointer (some ⟨g, 0, none⟩), .pointer (some ⟨p1, 0, none⟩), .pointer (some ⟨p2, 0, none⟩)] w fun e w' => e = .returned (.tuple #[.string t, .int .i64 0]) ∧ TB w' tb s2 ∧ F.But tb w w' := by
  have zs0 : w.cell? ⟨p1, 0, none⟩ = some (.pointer (some ⟨tb, 0, none⟩)) := J1.out.cell 0 (by simp)
  have zs1 : w.cell? ⟨p2, 0, none⟩ = some (.string label) := J2.out.cell 0 (by simp)
  go_enter Tryd.func22, Tryd.ntmps22
  go_wp2_with fail
  clear zs0 zs1
  refine (C1.out w A.out).mono ?_
  rintro e U1 ⟨rfl, hA, hb⟩
  have B : Hid (F.But tb w U1) := hb
  replace A : Hid (TB U1 tb s1) := hA
  replace J1 : Hid (IHolds U1 p1 23 [(.pointer (some ⟨tb, 0, none⟩))]) := J1.out.offB hb n1.out
  replace J2 : Hid (IHolds U1 p2 9 [(.string label)]) := J2.out.offB hb n2.out
  clear hb hA
  go_wp2_with fail
  have hb := dB U1
  replace B : Hid (F.But tb w U1.drew) := B.out.of_below hb
  replace A : Hid (TB U1.drew tb s1) := A.out.below hb
  replace J1 := aJ J1 hb
  replace J2 := aJ J2 hb
  clear hb
  refine wp_region_held_drew (S := fun W => (IHolds W p1 23 [(.pointer (some ⟨tb, 0, none⟩))]) ∧ (IHolds W p2 9 [(.string label)])) (by kernel_rfl) ⟨J1.out, J2.out⟩ (fun hHeld1 => ?_)
  generalize U1.drew = U2 at *
  refine tk (i := 0) (v := .pointer (some ⟨g, 0, none⟩)) rfl (by kernel_rfl) (fun _ _ _ h => h) rfl ?_ hHeld1 ?_
  · intro W hS; go_simp
  simp only [Act.put, y1, y2, y3, y4, y5, y6, y7]
  refine tk (i := 1) (v := .pointer (some ⟨g, 0, none⟩)) rfl (by kernel_rfl) (fun _ _ _ h => h) rfl ?_ hHeld1 ?_
  · intro W hS; go_simp
  simp only [Act.put, y1, y2, y3, y4, y5, y6, y7]
  refine tk (i := 2) (v := .pointer (some ⟨g, 0, none⟩)) rfl (by kernel_rfl) (fun _ _ _ h => h) rfl ?_ hHeld1 ?_
  · intro W hS; go_simp
  simp only [Act.put, y1, y2, y3, y4, y5, y6, y7]
  refine tk (i := 3) (v := .pointer (some ⟨g, 1, none⟩)) rfl (by kernel_rfl) (fun _ _ _ h => h) rfl ?_ hHeld1 ?_
  · intro W hS; go_simp
  simp only [Act.put, y1, y2, y3, y4, y5, y6, y7]
  refine tk (i := 4) (v := (.string q1)) rfl (by kernel_rfl) (fun _ _ _ h => h) rfl ?_ hHeld1 ?_
  · intro W hS; go_simp
  simp only [Act.put, y1, y2, y3, y4, y5, y6, y7]
  refine tk (i := 5) (v := (.pointer (some ⟨tb, 0, none⟩))) rfl (by kernel_rfl) (fun _ _ _ h => h) rfl ?_ hHeld1 ?_
  · intro W hS; have zh : W.cell? ⟨p1, 0, none⟩ = some (.pointer (some ⟨tb, 0, none⟩)) := IHolds.cell (l := [(.pointer (some ⟨tb, 0, none⟩))]) (t := 23) (b := p1) (w := W) hS.1 0 (by simp); go_simp
  simp only [Act.put, y1, y2, y3, y4, y5, y6, y7]
  refine tk (i := 6) (v := (.string label)) rfl (by kernel_rfl) (fun _ _ _ h => h) rfl ?_ hHeld1 ?_
  · intro W hS; have zh : W.cell? ⟨p2, 0, none⟩ = some (.string label) := IHolds.cell (l := [(.string label)]) (t := 9) (b := p2) (w := W) hS.2 0 (by simp); go_simp
  simp only [Act.put, y1, y2, y3, y4, y5, y6, y7]
  refine wpAnyH_ready (rs := [7]) (by kernel_rfl) (by simp) ?_
  refine AllReadyH.cons rfl (fun K hK => ?_) AllReadyH.nil
  clear hHeld1
  go_simp
  refine (C2.out U2 A.out).mono ?_
  rintro e U3 ⟨rfl, hA, hb⟩
  replace B : Hid (F.But tb w U3) := B.out.trans hb
  replace A : Hid (TB U3 tb s2) := hA
  replace J1 : Hid (IHolds U3 p1 23 [(.pointer (some ⟨tb, 0, none⟩))]) := J1.out.offB hb n1.out
  replace J2 : Hid (IHolds U3 p2 9 [(.string label)]) := J2.out.offB hb n2.out
  clear hb hA
  go_wp2_with fail
  refine hK.out _ _ (⟨J1.out, J2.out⟩) (fun hHeld2 => ?_)
  clear hK K
  try simp only [Act.put, y1, y2, y3, y4, y5, y6, y7]
  refine tk (i := 8) (v := (.string (q1 ++ q2))) rfl (by kernel_rfl) (fun _ _ _ h => h) rfl ?_ hHeld2 ?_
  · intro W hS; go_simp
  simp only [Act.put, y1, y2, y3, y4, y5, y6, y7]
  refine wpAnyH_ready (rs := [9]) (by kernel_rfl) (by simp) ?_
  refine AllReadyH.cons rfl (fun K hK => ?_) AllReadyH.nil
  clear hHeld2
  go_simp
  refine (C3.out U3 B.out).mono ?_
  rintro e U4 ⟨rfl, hb⟩
  replace B : Hid (F.But tb w U4) := B.out.of_below hb
  replace A : Hid (TB U4 tb s2) := A.out.below hb
  replace J1 := aJ J1 hb
  replace J2 := aJ J2 hb
  clear hb
  go_wp2_with fail
  refine hK.out _ _ (⟨J1.out, J2.out⟩) (fun hHeld3 => ?_)
  clear hK K
  try simp only [Act.put, y1, y2, y3, y4, y5, y6, y7]
  refine wpAnyH_ready (rs := [10]) (by kernel_rfl) (by simp) ?_
  refine AllReadyH.cons rfl (fun K hK => ?_) AllReadyH.nil
  clear hHeld3
  go_simp
  refine (C4.out U4 B.out).mono ?_
  rintro e U5 ⟨rfl, hb⟩
  replace B : Hid (F.But tb w U5) := B.out.of_below hb
  replace A : Hid (TB U5 tb s2) := A.out.below hb
  replace J1 := aJ J1 hb
  replace J2 := aJ J2 hb
  clear hb
  go_wp2_with fail
  refine hK.out _ _ (⟨J1.out, J2.out⟩) (fun hHeld4 => ?_)
  clear hK K
  try simp only [Act.put, y1, y2, y3, y4, y5, y6, y7]
  refine tk (i := 11) (v := (.string t)) rfl (by kernel_rfl) (fun _ _ _ h => h) rfl ?_ hHeld4 ?_
  · intro W hS; go_simp
  simp only [Act.put, y1, y2, y3, y4, y5, y6, y7]
  refine tk (i := 12) (v := (.int .i64 0)) rfl (by kernel_rfl) (fun _ _ _ h => h) rfl ?_ hHeld4 ?_
  · intro W hS; go_simp
  simp only [Act.put, y1, y2, y3, y4, y5, y6, y7]
  refine tk (i := 13) (v := (.string t)) rfl (by kernel_rfl) (fun _ _ _ h => h) rfl ?_ hHeld4 ?_
  · intro W hS; go_simp
  simp only [Act.put, y1, y2, y3, y4, y5, y6, y7]
  refine tk (i := 14) (v := (.int .i64 0)) rfl (by kernel_rfl) (fun _ _ _ h => h) rfl ?_ hHeld4 ?_
  · intro W hS; go_simp
  simp only [Act.put, y1, y2, y3, y4, y5, y6, y7]
  refine wpAnyH_done (by kernel_rfl) ?_ _
  clear hHeld4
  go_wp2_with fail
  go_ret2
  exact ⟨rfl, A.out, B.out⟩
set_option maxHeartbeats 2000000 in
theorem on21_22 {w : World} {z : Int} {G : Array Value} {p1 p2 tb : Nat} {t s2 : ByteArray} (hG : gz.size = G.size) (hi : (Tryd.prog.info? 61).map (·.size) = some G.size) (h1 : G.all (·.oneCell') = true)
    (CG : Hid (∀ W, Calls Tryd.prog 33 #[.int .i64 z] W fun e w' => e = .returned (.tuple #[.agg G, .bool true]) ∧ Below W.heap.size W w'))
    (HF : Hid (∀ W g, IHolds W g 61 G.toList → w.heap.size ≤ g → Below w.heap.size w W → Calls Tryd.prog 22 #[.pointer (some ⟨g, 0, none⟩), .pointer (some ⟨p1, 0, none⟩), .pointer (some ⟨p2, 0, none⟩)] W fun e w' => e = .returned (.tuple #[.string t, .int .i64 0]) ∧ TB w' tb s2 ∧ F.But tb W w')) :
    Calls Tryd.prog 21 #[.int .i64 z, .func (.func 22) #[] #[.pointer (some ⟨p1, 0, none⟩), .pointer (some ⟨p2, 0, none⟩)]] w fun e w' => e = .returned (.tuple #[.string t, .int .i64 0]) ∧ TB w' tb s2 ∧ F.But tb w w' := by
  go_enter Tryd.func21, Tryd.ntmps21
  go_wp2_with fail
  refine (CG.out w).mono ?_
  rintro e U1 ⟨rfl, hb⟩
  have B : Hid (Below w.heap.size w U1) := hb
  have N : Hid (w.heap.size ≤ U1.heap.size) := hb.size
  clear hb
  have hg : (U1.alloc (.cells gz 61)).heap[U1.heap.size]? = some (.cells gz 61 (0, 0)) := by
    have h := IHolds.new U1 61 gz.toList
    unfold IHolds at h
    rw [Array.toArray_toList] at h
    exact h
  have J : Hid (IHolds (U1.alloc (.cells G 61)) U1.heap.size 61 G.toList) := by
    have h := IHolds.new U1 61 G.toList
    rw [Array.toArray_toList] at h
    exact h
  replace B := aB B (nB U1 (.cells G 61))
  go_wp2_with (refine wpList_store_row rfl 61 (.tmp 6) (.tmp 12) rfl U1.heap.size G rfl rfl 61 gz hg hi hG h1 ?_; rw [World.setRow_alloc_new]; clear hg)
  generalize U1.alloc (.cells G 61) = U2 at *
  generalize U1.heap.size = g at *
  refine (HF.out U2 g J.out N.out B.out).mono ?_
  rintro e U3 ⟨rfl, hA, hb⟩
  have B2 : Hid (F.But tb w U3) := ((F.But.refl tb w).of_below B.out).trans hb
  have A : Hid (TB U3 tb s2) := hA
  clear hb hA
  go_wp2_with fail
  go_ret2
  exact ⟨rfl, A.out, B2.out⟩
set_option maxHeartbeats 2000000 in
theorem on21_22_no {w : World} {z : Int} {G : Array Value} {p1 p2 tb : Nat} {t s2 : ByteArray} (hG : gz.size = G.size) (hi : (Tryd.prog.info? 61).map (·.size) = some G.size) (h1 : G.all (·.oneCell') = true)
    (CG : Hid (∀ W, Calls Tryd.prog 33 #[.int .i64 z] W fun e w' => e = .returned (.tuple #[.agg G, .bool false]) ∧ Below W.heap.size W w'))
     :
    Calls Tryd.prog 21 #[.int .i64 z, .func (.func 22) #[] #[.pointer (some ⟨p1, 0, none⟩), .pointer (some ⟨p2, 0, none⟩)]] w fun e w' => e = .returned (.tuple #[.string ⟨#[]⟩, .int .i64 1]) ∧ Below w.heap.size w w' := by
  go_enter Tryd.func21, Tryd.ntmps21
  go_wp2_with fail
  refine (CG.out w).mono ?_
  rintro e U1 ⟨rfl, hb⟩
  have B : Hid (Below w.heap.size w U1) := hb
  have N : Hid (w.heap.size ≤ U1.heap.size) := hb.size
  clear hb
  have hg : (U1.alloc (.cells gz 61)).heap[U1.heap.size]? = some (.cells gz 61 (0, 0)) := by
    have h := IHolds.new U1 61 gz.toList
    unfold IHolds at h
    rw [Array.toArray_toList] at h
    exact h
  have J : Hid (IHolds (U1.alloc (.cells G 61)) U1.heap.size 61 G.toList) := by
    have h := IHolds.new U1 61 G.toList
    rw [Array.toArray_toList] at h
    exact h
  replace B := aB B (nB U1 (.cells G 61))
  go_wp2_with (refine wpList_store_row rfl 61 (.tmp 6) (.tmp 12) rfl U1.heap.size G rfl rfl 61 gz hg hi hG h1 ?_; rw [World.setRow_alloc_new]; clear hg)
  go_ret2
  exact ⟨rfl, B.out⟩
set_option maxHeartbeats 2000000 in
theorem challenge_any {w : World} {z : Int} {tb : Nat} {label t s2 : ByteArray} (hlt : tb < w.heap.size)
    (C : Hid (∀ W p1 p2, IHolds W p1 23 [(.pointer (some ⟨tb, 0, none⟩))] → IHolds W p2 9 [(.string label)] → p1 ≠ tb → p2 ≠ tb → p1 < W.heap.size → p2 < W.heap.size → Below w.heap.size w W → Calls Tryd.prog 21 #[.int .i64 z, .func (.func 22) #[] #[.pointer (some ⟨p1, 0, none⟩), .pointer (some ⟨p2, 0, none⟩)]] W fun e w' => e = .returned (.tuple #[.string t, .int .i64 0]) ∧ TB w' tb s2 ∧ F.But tb W w')) :
    Calls Tryd.prog 9 #[.int .i64 z, (.pointer (some ⟨tb, 0, none⟩)), .string label] w fun e w' => e = .returned (.tuple #[.string t, .int .i64 0]) ∧ TB w' tb s2 ∧ F.But tb w w' := by
  have L : Hid (tb < w.heap.size) := hlt
  clear hlt
  go_enter Tryd.func9, Tryd.ntmps9
  go_wp2_with fail
  obtain ⟨U1, hU1⟩ : ∃ X, X = ((w.alloc (.cells #[(.pointer (some ⟨tb, 0, none⟩))] 23)).alloc (.cells #[(.string label)] 9)) := ⟨_, rfl⟩
  have Jx : Hid (IHolds U1 (w.heap.size) 23 [(.pointer (some ⟨tb, 0, none⟩))]) := by
    have q := IHolds.new w 23 [(.pointer (some ⟨tb, 0, none⟩))]
    show IHolds _ _ _ _
    rw [hU1]
    exact (q.alloc _)
  have Jm : Hid (IHolds U1 (w.heap.size + 1) 9 [(.string label)]) := by
    have q := IHolds.new (w.alloc (.cells #[(.pointer (some ⟨tb, 0, none⟩))] 23)) 9 [(.string label)]
    simp only [World.size_alloc, Nat.add_assoc, Nat.reduceAdd] at q
    show IHolds _ _ _ _
    rw [hU1]
    exact q
  have B : Hid (Below w.heap.size w U1) := by
    show Below _ _ _
    rw [hU1]
    exact (((Below.refl _ w).alloc (Nat.le_refl _) _).alloc (by simp only [World.size_alloc]; omega) _)
  rw [← hU1]
  clear hU1
  refine (C.out U1 _ _ Jx.out Jm.out (by have := L.out; omega) (by have := L.out; omega) Jx.out.lt Jm.out.lt B.out).mono ?_
  rintro e U3 ⟨rfl, hA, hb⟩
  have B2 : Hid (F.But tb w U3) := ((F.But.refl tb w).of_below B.out).trans hb
  have A : Hid (TB U3 tb s2) := hA
  clear hb hA
  go_wp2_with fail
  go_ret2
  exact ⟨rfl, A.out, B2.out⟩
set_option maxHeartbeats 2000000 in
theorem challenge_no {w : World} {z : Int} {tb : Nat} {label : ByteArray}
    (C : Hid (∀ W p1 p2, Calls Tryd.prog 21 #[.int .i64 z, .func (.func 22) #[] #[.pointer (some ⟨p1, 0, none⟩), .pointer (some ⟨p2, 0, none⟩)]] W fun e w' => e = .returned (.tuple #[.string ⟨#[]⟩, .int .i64 1]) ∧ Below W.heap.size W w')) :
    Calls Tryd.prog 9 #[.int .i64 z, (.pointer (some ⟨tb, 0, none⟩)), .string label] w fun e w' => e = .returned (.tuple #[.string ⟨#[]⟩, .int .i64 1]) ∧ Below w.heap.size w w' := by
  go_enter Tryd.func9, Tryd.ntmps9
  go_wp2_with fail
  obtain ⟨U1, hU1⟩ : ∃ X, X = ((w.alloc (.cells #[(.pointer (some ⟨tb, 0, none⟩))] 23)).alloc (.cells #[(.string label)] 9)) := ⟨_, rfl⟩
  have B : Hid (Below w.heap.size w U1) := by
    show Below _ _ _
    rw [hU1]
    exact (((Below.refl _ w).alloc (Nat.le_refl _) _).alloc (by simp only [World.size_alloc]; omega) _)
  rw [← hU1]
  clear hU1
  refine (C.out U1 _ _).mono ?_
  rintro e U3 ⟨rfl, hb⟩
  replace B := aB B hb
  clear hb
  go_wp2_with fail
  go_ret2
  exact ⟨rfl, B.out⟩
end Go.Proofs.YtckfdpiohkggaabDoor

/- The reference's Challenge. -/
set_option linter.unusedSimpArgs false
set_option linter.unusedVariables false
set_option maxRecDepth 100000
namespace Go.Proofs.YtckfdpiohkggaabDoor
open Go.RowKit Go.Deep Go.PlainAid

/-- What is written into a block of one text leaves every number. -/
theorem NumV.own26 {w w' : World} {b n : Nat} {v : Value} {t : TypeId} {s : ByteArray} (h : NumV w 65536 n v) (hI : IHolds w b t [.string s]) (hb : But b w w') : NumV w' 65536 n v := by
  obtain ⟨a, cap, rfl, hc, hr⟩ := h
  refine ⟨a, cap, rfl, hc, hr.of_but (fun hne k o e => ?_) hb⟩
  rintro rfl
  have h0 : 0 < (dg 65536 n).length := List.length_pos_iff.2 hne
  obtain ⟨k', o', e', hcell⟩ := hr ((dg 65536 n).length - 1) (by omega)
  rw [e] at e'
  simp only [Option.some.injEq, Addr.mk.injEq, and_true] at e'
  obtain ⟨rfl, rfl⟩ := e'
  generalize o + ((dg 65536 n).length - 1) = j at *
  generalize (dg 65536 n)[(dg 65536 n).length - 1] = x at *
  unfold IHolds at hI
  match j, hcell with
  | 0, hcell => simp [World.cell?, hI] at hcell
  | j + 1, hcell => simp [World.cell?, hI] at hcell
set_option maxHeartbeats 2000000 in
theorem refChallenge_any {w : World} {S M n : Nat} {a1 a2 : Option Addr} {l1 l2 c1 c2 : Nat} {label s s1 s2 q1 q2 : ByteArray} (N1 : Hid (NumV w 65536 M (.slice a1 l1 c1))) (hq1 : q1.size = 32) (hq2 : q2.size = 32)
    (C1 : Hid (∀ W, Calls Tryd.prog 10 #[.agg #[.string s], .string label] W fun e w' => e = .returned (.tuple #[.string q1, .agg #[.string s1]]) ∧ Below W.heap.size W w'))
    (C2 : Hid (∀ W, Calls Tryd.prog 10 #[.agg #[.string s1], .string label] W fun e w' => e = .returned (.tuple #[.string q2, .agg #[.string s2]]) ∧ Below W.heap.size W w'))
    (C3 : Hid (∀ W, Calls Tryd.prog 26 #[.string (q1 ++ q2)] W fun e w' => (∃ v, e = .returned v ∧ NumV w' 65536 n v) ∧ Below W.heap.size W w'))
    (C4 : Hid (∀ W v, NumV W 65536 n v → NumV W 65536 M (.slice a1 l1 c1) → Calls Tryd.prog 25 #[v, .slice a1 l1 c1] W fun e w' => (∃ v, e = .returned v ∧ NumV w' 65536 (n % M) v) ∧ Below W.heap.size W w')) :
    Calls Tryd.prog 13 #[.agg #[.int .i64 (S : Int), .slice a1 l1 c1, .slice a2 l2 c2], .agg #[.string s], .string label] w fun e w' => (∃ v, e = .returned (.tuple #[v, .agg #[.string s2]]) ∧ NumV w' 65536 (n % M) v) ∧ Below w.heap.size w w' := by
  go_enter Tryd.func13, Tryd.ntmps13
  go_wp2_with fail
  obtain ⟨U1, hU1⟩ : ∃ X, X = (((w.alloc (.cells #[.int .i64 (S : Int), .slice a1 l1 c1, .slice a2 l2 c2] 33)).alloc (.cells #[.string s] 26)).alloc (.cells #[.string ⟨#[]⟩] 26)) := ⟨_, rfl⟩
  have J3 : Hid (IHolds U1 w.heap.size 33 [.int .i64 (S : Int), .slice a1 l1 c1, .slice a2 l2 c2]) := by
    have q := IHolds.new w 33 [.int .i64 (S : Int), .slice a1 l1 c1, .slice a2 l2 c2]
    show IHolds _ _ _ _
    rw [hU1]
    exact (q.alloc _).alloc _
  have J4 : Hid (IHolds U1 (w.heap.size + 1) 26 [.string s]) := by
    have q := IHolds.new (w.alloc (.cells #[.int .i64 (S : Int), .slice a1 l1 c1, .slice a2 l2 c2] 33)) 26 [.string s]
    simp only [World.size_alloc, Nat.add_assoc, Nat.reduceAdd] at q
    show IHolds _ _ _ _
    rw [hU1]
    exact q.alloc _
  have J7 : Hid (IHolds U1 (w.heap.size + 2) 26 [.string ⟨#[]⟩]) := by
    have q := IHolds.new ((w.alloc (.cells #[.int .i64 (S : Int), .slice a1 l1 c1, .slice a2 l2 c2] 33)).alloc (.cells #[.string s] 26)) 26 [.string ⟨#[]⟩]
    simp only [World.size_alloc, Nat.add_assoc, Nat.reduceAdd] at q
    show IHolds _ _ _ _
    rw [hU1]
    exact q
  have B : Hid (Below w.heap.size w U1) := by
    show Below _ _ _
    rw [hU1]
    exact ((((Below.refl _ w).alloc (Nat.le_refl _) _).alloc (by simp only [World.size_alloc]; omega) _).alloc (by simp only [World.size_alloc]; omega) _)
  rw [← hU1]
  clear hU1
  refine (C1.out U1).mono ?_
  rintro e U2 ⟨rfl, hb⟩
  replace B := aB B hb
  replace J3 := aJ J3 hb
  replace J4 := aJ J4 hb
  replace J7 := aJ J7 hb
  clear hb
  have k4 := J4.out.cell 0 (by simp)
  have f4 := fJ J4 0
  have n4 := J4.out.set 0 (.string s1)
  obtain ⟨U2b, hU2⟩ : ∃ X, X = U2.setCell ⟨w.heap.size + 1, 0, none⟩ (.string s1) := ⟨_, rfl⟩
  have bb := ((But.refl (w.heap.size + 1) U2).setCell 0 (.string s1))
  have B' : Hid (Below w.heap.size w U2b) := by show Below _ _ _; rw [hU2]; exact B.out.setCell (p := ⟨w.heap.size + 1, 0, none⟩) (by show w.heap.size ≤ w.heap.size + 1; omega) _
  rw [← hU2] at n4 bb
  have J4' : Hid (IHolds U2b (w.heap.size + 1) 26 [.string s1]) := n4
  have k5 : U2b.cell? ⟨w.heap.size + 1, 0, none⟩ = some (.string s1) := J4'.out.cell 0 (by simp)
  replace J3 := tJ J3 bb (by omega)
  replace J7 := tJ J7 bb (by omega)
  clear n4 bb B J4
  go_upto_region 2 with fail
  rw [← hU2]
  clear hU2 k4 f4
  go_wp2_with fail
  clear k5
  have B := B'
  have J4 := J4'
  clear B' J4'
  refine (C2.out U2b).mono ?_
  rintro e U3 ⟨rfl, hb⟩
  replace B := aB B hb
  replace J3 := aJ J3 hb
  replace J4 := aJ J4 hb
  replace J7 := aJ J7 hb
  clear hb
  have k4 := J4.out.cell 0 (by simp)
  have f4 := fJ J4 0
  have n4 := J4.out.set 0 (.string s2)
  obtain ⟨U3b, hU3⟩ : ∃ X, X = U3.setCell ⟨w.heap.size + 1, 0, none⟩ (.string s2) := ⟨_, rfl⟩
  have bb := ((But.refl (w.heap.size + 1) U3).setCell 0 (.string s2))
  have B' : Hid (Below w.heap.size w U3b) := by show Below _ _ _; rw [hU3]; exact B.out.setCell (p := ⟨w.heap.size + 1, 0, none⟩) (by show w.heap.size ≤ w.heap.size + 1; omega) _
  rw [← hU3] at n4 bb
  have J4' : Hid (IHolds U3b (w.heap.size + 1) 26 [.string s2]) := n4
  have k5 : U3b.cell? ⟨w.heap.size + 1, 0, none⟩ = some (.string s2) := J4'.out.cell 0 (by simp)
  replace J3 := tJ J3 bb (by omega)
  replace J7 := tJ J7 bb (by omega)
  clear n4 bb B J4
  go_upto_region 3 with fail
  rw [← hU3]
  clear hU3 k4 f4 k5
  have B := B'
  have J4 := J4'
  clear B' J4'
  have hb := dB U3b
  replace B := aB B hb
  replace J3 := aJ J3 hb
  replace J4 := aJ J4 hb
  replace J7 := aJ J7 hb
  clear hb
  refine wp_region_held_drew (S := fun W => (IHolds W w.heap.size 33 [.int .i64 (S : Int), .slice a1 l1 c1, .slice a2 l2 c2]) ∧ (IHolds W (w.heap.size + 1) 26 [.string s2])) (by kernel_rfl) ⟨J3.out, J4.out⟩ (fun hHeld1 => ?_)
  generalize U3b.drew = U4 at *
  refine tk (i := 0) (v := (.string q1)) rfl (by kernel_rfl) (fun _ _ _ h => h) rfl ?_ hHeld1 ?_
  · intro W hS; go_simp
  simp only [Act.put, y1, y2, y3, y4, y5, y6, y7]
  refine tk (i := 1) (v := (.string q2)) rfl (by kernel_rfl) (fun _ _ _ h => h) rfl ?_ hHeld1 ?_
  · intro W hS; go_simp
  simp only [Act.put, y1, y2, y3, y4, y5, y6, y7]
  refine tk (i := 2) (v := (.string (q1 ++ q2))) rfl (by kernel_rfl) (fun _ _ _ h => h) rfl ?_ hHeld1 ?_
  · intro W hS; go_simp
  simp only [Act.put, y1, y2, y3, y4, y5, y6, y7]
  refine tk (i := 4) (v := (.pointer (some ⟨w.heap.size, 1, none⟩))) rfl (by kernel_rfl) (fun _ _ _ h => h) rfl ?_ hHeld1 ?_
  · intro W hS; go_simp
  simp only [Act.put, y1, y2, y3, y4, y5, y6, y7]
  refine tk (i := 5) (v := (.slice a1 l1 c1)) rfl (by kernel_rfl) (fun _ _ _ h => h) rfl ?_ hHeld1 ?_
  · intro W hS; have zh : W.cell? ⟨w.heap.size, 1, none⟩ = some (.slice a1 l1 c1) := IHolds.cell (l := [.int .i64 (S : Int), .slice a1 l1 c1, .slice a2 l2 c2]) (t := 33) (b := w.heap.size) (w := W) hS.1 1 (by simp); go_simp
  simp only [Act.put, y1, y2, y3, y4, y5, y6, y7]
  refine tk (i := 7) (v := (.agg #[.string s2])) rfl (by kernel_rfl) (fun _ _ _ h => h) rfl ?_ hHeld1 ?_
  · intro W hS; have zh : W.cell? ⟨w.heap.size + 1, 0, none⟩ = some (.string s2) := IHolds.cell (l := [.string s2]) (t := 26) (b := w.heap.size + 1) (w := W) hS.2 0 (by simp); go_simp
  simp only [Act.put, y1, y2, y3, y4, y5, y6, y7]
  refine wpAnyH_ready (rs := [3]) (by kernel_rfl) (by simp) ?_
  refine AllReadyH.cons rfl (fun K hK => ?_) AllReadyH.nil
  clear hHeld1
  go_simp
  refine (C3.out U4).mono ?_
  rintro e U5 ⟨⟨x, rfl, hn⟩, hb⟩
  replace B := aB B hb
  replace J3 := aJ J3 hb
  replace J4 := aJ J4 hb
  replace J7 := aJ J7 hb
  have NR : Hid (NumV U5 65536 n x) := hn
  clear hb hn
  obtain ⟨ax, lx, cx, rfl⟩ := sN NR
  go_wp2_with fail
  refine hK.out _ _ (⟨J3.out, J4.out⟩) (fun hHeld2 => ?_)
  clear hK K
  try simp only [Act.put, y1, y2, y3, y4, y5, y6, y7]
  refine wpAnyH_ready (rs := [6]) (by kernel_rfl) (by simp) ?_
  refine AllReadyH.cons rfl (fun K hK => ?_) AllReadyH.nil
  clear hHeld2
  go_simp
  refine (C4.out U5 _ NR.out (aN N1 B.out).out).mono ?_
  rintro e U6 ⟨⟨y, rfl, hn⟩, hb⟩
  replace B := aB B hb
  replace J3 := aJ J3 hb
  replace J4 := aJ J4 hb
  replace J7 := aJ J7 hb
  have NQ : Hid (NumV U6 65536 (n % M) y) := hn
  clear hb hn
  obtain ⟨ay, ly, cy, rfl⟩ := sN NQ
  go_wp2_with fail
  refine hK.out _ _ (⟨J3.out, J4.out⟩) (fun hHeld3 => ?_)
  clear hK K
  try simp only [Act.put, y1, y2, y3, y4, y5, y6, y7]
  refine tk (i := 8) (v := (.slice ay ly cy)) rfl (by kernel_rfl) (fun _ _ _ h => h) rfl ?_ hHeld3 ?_
  · intro W hS; go_simp
  simp only [Act.put, y1, y2, y3, y4, y5, y6, y7]
  have k7 := J7.out.cell 0 (by simp)
  have f7 := fJ J7 0
  refine wpAnyH_ready (rs := [9]) (by kernel_rfl) (by simp) ?_
  refine AllReadyH.cons rfl (fun K hK => ?_) AllReadyH.nil
  clear hHeld3
  go_simp
  have bb := ((But.refl (w.heap.size + 2) U6).setCell 0 (.string s2))
  refine hK.out _ _ (⟨(tJ J3 bb (by omega)).out, (tJ J4 bb (by omega)).out⟩) (fun hHeld4 => ?_)
  clear hK K
  try simp only [Act.put, y1, y2, y3, y4, y5, y6, y7]
  refine wpAnyH_done (by kernel_rfl) ?_ _
  clear hHeld4
  go_wp2_with fail
  have r7 : (U6.setCell ⟨w.heap.size + 2, 0, none⟩ (.string s2)).rangeAt (w.heap.size + 2) 0 [.string s2] := (J7.out.set 0 (.string s2)).range
  refine bodyPost_ret (v := .tuple #[.slice ay ly cy, .agg #[.string s2]]) (F.results_tmp_cell Tryd.results13 _ _ (w.heap.size + 2) 0 [.string s2] _ rfl r7 Tryd.underlying26 rfl F.size31) rfl ⟨⟨_, rfl, ?_⟩, ?_⟩
  · exact NumV.own26 NQ.out J7.out bb
  · exact B.out.setCell (p := ⟨w.heap.size + 2, 0, none⟩) (by show w.heap.size ≤ w.heap.size + 2; omega) _
end Go.Proofs.YtckfdpiohkggaabDoor

/- The walk of the law GroupAsks. -/
set_option linter.unusedSimpArgs false
set_option linter.unusedVariables false
set_option maxRecDepth 100000
namespace Go.Proofs.YtckfdpiohkggaabDoor
open Go.RowKit Go.Deep Go.PlainAid

theorem TB.set {w : World} {tb rb : Nat} {s : ByteArray} (h : TB w tb s) (hne : tb ≠ rb) (h2 : 2 < rb) (i : Nat) (x : Value) : TB (w.setCell ⟨rb, i, none⟩ x) tb s :=
  have hb : F.But rb w (w.setCell ⟨rb, i, none⟩ x) := (F.But.refl rb w).setCell i x
  ⟨h.t.of_but hb hne, h.T.of_but hb h2, h.S.of_but hb h2 h.T.size⟩
/-- What is asked, and how the talk goes on. -/
def askQ (label s : ByteArray) : ByteArray := F.tagB F.askB [s, label]
def askS (label s : ByteArray) : ByteArray := F.tagB F.askedB [s, label]
theorem askQ_size (label s : ByteArray) : (askQ label s).size = 32 := F.tagB_size _ _
theorem askS_size (label s : ByteArray) : (askS label s).size = 32 := F.tagB_size _ _
/-- The number that is told. -/
def askN (label s : ByteArray) (M : Nat) : Nat := numS (askQ label s ++ askQ label (askS label s)) % M

set_option maxHeartbeats 4000000 in
theorem asks_no (z : Int) (label : ByteArray) (hl : label.size < 1125899906842624) (a : Option Addr) (cap : Nat) (ps : List ByteArray) (w : World) (hat : F.SAt w a ps) (hn : ps.length < 8796093022208)
    (hsz : ∀ i (h : i < ps.length), ps[i].size < 1125899906842624) (hT : F.Tabs w) (hS : F.Starts w) 
    (C8 : Hid (∀ W, Calls Tryd.prog 8 #[.int .i64 z] W fun e w' => e = .returned (.agg #[.int .i64 0, .slice none 0 0, .slice none 0 0]) ∧ Below W.heap.size W w'))
    (C9 : Hid (∀ W tb s, s.size = 32 → 2 < tb → TB W tb s → Calls Tryd.prog 9 #[.int .i64 z, .pointer (some ⟨tb, 0, none⟩), .string label] W fun e w' => e = .returned (.tuple #[.string ⟨#[]⟩, .int .i64 1]) ∧ Below W.heap.size W w'))  :
    Calls Tryd.prog 3 #[.int .i64 z, .string label, .slice a ps.length cap] w fun e w' => e = .returned (.bool true) ∧ Below w.heap.size w w' := by
  have hT0 : Hid (2 < w.heap.size) := hT.size
  have HST : Hid (F.SAt w a ps) := hat
  have HSZ : Hid (∀ i (h : i < ps.length), ps[i].size < 1125899906842624) := hsz
  have HAL : Hid (∀ b o, a = some ⟨b, o, none⟩ → 0 < ps.length → b < w.heap.size) := hat.lt
  clear hat hsz
  go_enter Tryd.func3, Tryd.ntmps3
  go_wp2_with fail
  refine (F.newTalk_any label hl w hT hS).mono ?_
  rintro e X ⟨⟨b0, rfl, hb0, hA0⟩, hbX⟩
  have HS0 : Hid ((F.tagB F.talkB [label]).size = 32) := F.tagB_size _ _
  have HR0 : Hid (∀ w, Calls Tryd.prog 5 #[.string label] w fun e w' => e = .returned (.agg #[.string (F.tagB F.talkB [label])]) ∧ Below w.heap.size w w') := fun w => F.refNewTalk_any label hl w
  generalize F.tagB F.talkB [label] = S0 at *
  have B : Hid (Below w.heap.size w X) := hbX
  have A : Hid (TB X b0 S0) := ⟨hA0, hT.of_below hbX hT.size, hS.of_below hbX hT.size⟩
  have L0 : Hid (w.heap.size ≤ b0) := hb0
  clear hA0 hb0 hbX hT hS
  go_wp2_with fail
  refine (HR0.out _).mono ?_
  rintro e X2 ⟨rfl, hb⟩
  replace B := aB B hb
  replace A : Hid (TB X2 b0 S0) := A.out.below hb
  clear hb HR0
  have hb := nB X2 (.cells #[.string S0] 26)
  have J : Hid (IHolds (X2.alloc (.cells #[.string S0] 26)) X2.heap.size 26 [.string S0]) := IHolds.new X2 26 [.string S0]
  have L1 : Hid (b0 < X2.heap.size) := A.out.t.lt
  replace B := aB B hb
  replace A : Hid (TB (X2.alloc (.cells #[.string S0] 26)) b0 S0) := A.out.below hb
  clear hb
  go_upto_region 2 with fail
  generalize X2.alloc (.cells #[.string S0] 26) = Y at *
  generalize X2.heap.size = rb at *
  have L2 : Hid (2 < b0) := Nat.lt_of_lt_of_le hT0.out L0.out
  have L3 : Hid (b0 ≠ rb ∧ rb ≠ b0 ∧ 2 < rb ∧ w.heap.size ≤ rb) := by have := L1.out; have := L2.out; have := L0.out; refine ⟨?_, ?_, ?_, ?_⟩ <;> omega
  go_wp2_with fail
  go_loopg [10, 27] ps.length (fun gk v10 v27 wr => ∃ (r : Nat) (s : ByteArray), r + gk = ps.length ∧ v27 = .int .i64 r ∧ s.size = 32 ∧ TB wr b0 s ∧ IHolds wr rb 26 [.string s] ∧ Below w.heap.size w wr)
  case atStart => exact ⟨0, S0, by omega, rfl, HS0.out, A.out, J.out, B.out⟩
  case round =>
    obtain ⟨r, s, hr, rfl, hs, hA, hJ, hB⟩ := hrel
    clear A J B HS0
    have A : Hid (TB wr b0 s) := hA
    have J : Hid (IHolds wr rb 26 [.string s]) := hJ
    have B : Hid (Below w.heap.size w wr) := hB
    have HS0 : Hid (s.size = 32) := hs
    clear hA hJ hB hs
    by_cases hlt : r < ps.length
    · obtain ⟨sb, so, rfl, d0⟩ := HST.out r hlt
      have hsb : sb < w.heap.size := HAL.out sb so rfl (by omega)
      rw [← B.out.cell (p := ⟨sb, so + r, none⟩) hsb] at d0
      have hz1 := HSZ.out r hlt
      clear hsb
      generalize ps[r] = x at *
      have rlt : (r : Int) < (ps.length : Int) := by omega
      go_wp2_with fail
      clear d0
      refine (say_TB HS0.out hl hz1 L2.out A.out).mono ?_
      rintro e W1 ⟨rfl, hA, hb⟩
      have HR0 : Hid (∀ w, Calls Tryd.prog 7 #[.agg #[.string s], .string label, .string x] w fun e w' => e = .returned (.agg #[.string (F.tagB F.sayB [s, label, x])]) ∧ Below w.heap.size w w') := fun w => F.refSay_any s label x HS0.out hl hz1 w
      replace HS0 : Hid ((F.tagB F.sayB [s, label, x]).size = 32) := F.tagB_size _ _
      generalize F.tagB F.sayB [s, label, x] = s' at *
      replace A : Hid (TB W1 b0 s') := hA
      replace J : Hid (IHolds W1 rb 26 [.string s]) := J.out.offB hb L3.out.2.1
      replace B : Hid (Below w.heap.size w W1) := B.out.trans (hb.below B.out.size L0.out)
      clear hA hb hz1
      have z0 : W1.cell? ⟨rb, 0, none⟩ = some (.string s) := J.out.cell 0 (by simp)
      go_wp2_with fail
      clear z0
      refine (HR0.out _).mono ?_
      rintro e W2 ⟨rfl, hb⟩
      clear HR0
      replace B := aB B hb
      replace A : Hid (TB W2 b0 s') := A.out.below hb
      replace J := aJ J hb
      clear hb
      have z0 := J.out.cell 0 (by simp)
      have z1 := fJ J 0
      go_wp2_with fail
      go_roundg (gk - 1)
      case measure => omega
      case rel => exact ⟨r + 1, s', by omega, by go_num, HS0.out, A.out.set L3.out.1 L3.out.2.2.1 0 _, J.out.set 0 _, B.out.setCell (p := ⟨rb, 0, none⟩) (by exact L3.out.2.2.2) _⟩
    · obtain rfl : r = ps.length := by omega
      go_upto_region 10 with fail
      clear HST HSZ HAL
      go_wp2_with fail
      refine (C8.out wr).mono ?_
      rintro e W1 ⟨rfl, hb⟩
      replace B := aB B hb
      replace A : Hid (TB W1 b0 s) := A.out.below hb
      replace J := aJ J hb
      clear hb C8
      have hb := nB W1 (.cells #[.int .i64 0, .slice none 0 0, .slice none 0 0] 33)
      have G : Hid (IHolds (W1.alloc (.cells #[.int .i64 0, .slice none 0 0, .slice none 0 0] 33)) W1.heap.size 33 [.int .i64 0, .slice none 0 0, .slice none 0 0]) := IHolds.new W1 33 [.int .i64 0, .slice none 0 0, .slice none 0 0]
      have L4 : Hid (b0 < W1.heap.size) := A.out.t.lt
      have L5 : Hid (rb < W1.heap.size) := J.out.lt
      have L6 : Hid (w.heap.size ≤ W1.heap.size) := B.out.size
      replace B := aB B hb
      replace A : Hid (TB (W1.alloc (.cells #[.int .i64 0, .slice none 0 0, .slice none 0 0] 33)) b0 s) := A.out.below hb
      replace J := aJ J hb
      skip
      clear hb
      go_upto_region 11 with fail
      generalize W1.alloc (.cells #[.int .i64 0, .slice none 0 0, .slice none 0 0] 33) = Y1 at *
      generalize W1.heap.size = gb at *
      go_wp2_with fail
      refine (C9.out Y1 b0 s HS0.out L2.out A.out).mono ?_
      rintro e W2 ⟨rfl, hb⟩
      replace B := aB B hb
      replace A : Hid (TB W2 b0 s) := A.out.below hb
      replace J := aJ J hb
      replace G := aJ G hb
      clear hb C9
      have z0 := G.out.cell 0 (by simp)
      have z3 := J.out.cell 0 (by simp)
      simp only [List.getElem_cons_zero, List.getElem_cons_succ] at z0 z3
      go_wp2_with fail
      clear z0 z3
      refine (F.refAsk_any s label HS0.out hl W2).mono ?_
      rintro e W4 ⟨rfl, hb⟩
      replace B := aB B hb
      replace A : Hid (TB W4 b0 s) := A.out.below hb
      clear hb J G
      have CA : Hid (∀ W, TB W b0 s → Calls Tryd.prog 12 #[.pointer (some ⟨b0, 0, none⟩), .string label] W fun e w' => e = .returned (.string (F.tagB F.askB [s, label])) ∧ TB w' b0 (F.tagB F.askedB [s, label]) ∧ F.But b0 W w') := fun W h => ask_TB HS0.out hl L2.out h
      generalize F.tagB F.askB [s, label] = qq at *
      generalize F.tagB F.askedB [s, label] = ss at *
      have hb := nB W4 (.cells #[.string ss] 26)
      replace B := aB B hb
      replace A : Hid (TB (W4.alloc (.cells #[.string ss] 26)) b0 s) := A.out.below hb
      clear hb
      go_upto_region 14 with fail
      generalize W4.alloc (.cells #[.string ss] 26) = Y4 at *
      go_wp2_with fail
      refine (lawText_bad 1 ⟨#[]⟩ Y4 rfl).mono ?_
      rintro e W6 ⟨rfl, hb⟩
      replace B := aB B hb
      replace A : Hid (TB W6 b0 s) := A.out.below hb
      clear hb
      go_wp2_with fail
      refine (CA.out W6 A.out).mono ?_
      rintro e W7 ⟨rfl, hA, hb⟩
      replace B : Hid (Below w.heap.size w W7) := B.out.trans (hb.below B.out.size L0.out)
      clear hb hA A
      go_wp2_with fail
      go_ret
      exact ⟨rfl, B.out⟩
set_option maxHeartbeats 4000000 in
theorem asks_ok (z : Int) (label : ByteArray) (hl : label.size < 1125899906842624) (a : Option Addr) (cap : Nat) (ps : List ByteArray) (w : World) (hat : F.SAt w a ps) (hn : ps.length < 8796093022208)
    (hsz : ∀ i (h : i < ps.length), ps[i].size < 1125899906842624) (hT : F.Tabs w) (hS : F.Starts w) {S M M2 : Nat} (hS0 : ((S : Int) == 0) = false) (hSl : S ≤ 100000) (lM : ∀ n, n < M → (dg 65536 n).length ≤ 1000000) (hM : 0 < M)
    (C8 : Hid (∀ W, Calls Tryd.prog 8 #[.int .i64 z] W fun e w' => (∃ u1 u2, e = .returned (.agg #[.int .i64 (S : Int), u1, u2]) ∧ NumV w' 65536 M u1 ∧ NumV w' 65536 M2 u2) ∧ Below W.heap.size W w'))
    (C9 : Hid (∀ W tb s, s.size = 32 → 2 < tb → TB W tb s → Calls Tryd.prog 9 #[.int .i64 z, .pointer (some ⟨tb, 0, none⟩), .string label] W fun e w' => e = .returned (.tuple #[.string ⟨(beB S (askN label s M)).toArray⟩, .int .i64 0]) ∧ TB w' tb (askS label (askS label s)) ∧ F.But tb W w')) (C13 : Hid (∀ W a1 l1 c1 a2 l2 c2 s, s.size = 32 → NumV W 65536 M (.slice a1 l1 c1) → Calls Tryd.prog 13 #[.agg #[.int .i64 (S : Int), .slice a1 l1 c1, .slice a2 l2 c2], .agg #[.string s], .string label] W fun e w' => (∃ v, e = .returned (.tuple #[v, .agg #[.string (askS label (askS label s))]]) ∧ NumV w' 65536 (askN label s M) v) ∧ Below W.heap.size W w')) :
    Calls Tryd.prog 3 #[.int .i64 z, .string label, .slice a ps.length cap] w fun e w' => e = .returned (.bool true) ∧ Below w.heap.size w w' := by
  have hT0 : Hid (2 < w.heap.size) := hT.size
  have HST : Hid (F.SAt w a ps) := hat
  have HSZ : Hid (∀ i (h : i < ps.length), ps[i].size < 1125899906842624) := hsz
  have HAL : Hid (∀ b o, a = some ⟨b, o, none⟩ → 0 < ps.length → b < w.heap.size) := hat.lt
  clear hat hsz
  go_enter Tryd.func3, Tryd.ntmps3
  go_wp2_with fail
  refine (F.newTalk_any label hl w hT hS).mono ?_
  rintro e X ⟨⟨b0, rfl, hb0, hA0⟩, hbX⟩
  have HS0 : Hid ((F.tagB F.talkB [label]).size = 32) := F.tagB_size _ _
  have HR0 : Hid (∀ w, Calls Tryd.prog 5 #[.string label] w fun e w' => e = .returned (.agg #[.string (F.tagB F.talkB [label])]) ∧ Below w.heap.size w w') := fun w => F.refNewTalk_any label hl w
  generalize F.tagB F.talkB [label] = S0 at *
  have B : Hid (Below w.heap.size w X) := hbX
  have A : Hid (TB X b0 S0) := ⟨hA0, hT.of_below hbX hT.size, hS.of_below hbX hT.size⟩
  have L0 : Hid (w.heap.size ≤ b0) := hb0
  clear hA0 hb0 hbX hT hS
  go_wp2_with fail
  refine (HR0.out _).mono ?_
  rintro e X2 ⟨rfl, hb⟩
  replace B := aB B hb
  replace A : Hid (TB X2 b0 S0) := A.out.below hb
  clear hb HR0
  have hb := nB X2 (.cells #[.string S0] 26)
  have J : Hid (IHolds (X2.alloc (.cells #[.string S0] 26)) X2.heap.size 26 [.string S0]) := IHolds.new X2 26 [.string S0]
  have L1 : Hid (b0 < X2.heap.size) := A.out.t.lt
  replace B := aB B hb
  replace A : Hid (TB (X2.alloc (.cells #[.string S0] 26)) b0 S0) := A.out.below hb
  clear hb
  go_upto_region 2 with fail
  generalize X2.alloc (.cells #[.string S0] 26) = Y at *
  generalize X2.heap.size = rb at *
  have L2 : Hid (2 < b0) := Nat.lt_of_lt_of_le hT0.out L0.out
  have L3 : Hid (b0 ≠ rb ∧ rb ≠ b0 ∧ 2 < rb ∧ w.heap.size ≤ rb) := by have := L1.out; have := L2.out; have := L0.out; refine ⟨?_, ?_, ?_, ?_⟩ <;> omega
  go_wp2_with fail
  go_loopg [10, 27] ps.length (fun gk v10 v27 wr => ∃ (r : Nat) (s : ByteArray), r + gk = ps.length ∧ v27 = .int .i64 r ∧ s.size = 32 ∧ TB wr b0 s ∧ IHolds wr rb 26 [.string s] ∧ Below w.heap.size w wr)
  case atStart => exact ⟨0, S0, by omega, rfl, HS0.out, A.out, J.out, B.out⟩
  case round =>
    obtain ⟨r, s, hr, rfl, hs, hA, hJ, hB⟩ := hrel
    clear A J B HS0
    have A : Hid (TB wr b0 s) := hA
    have J : Hid (IHolds wr rb 26 [.string s]) := hJ
    have B : Hid (Below w.heap.size w wr) := hB
    have HS0 : Hid (s.size = 32) := hs
    clear hA hJ hB hs
    by_cases hlt : r < ps.length
    · obtain ⟨sb, so, rfl, d0⟩ := HST.out r hlt
      have hsb : sb < w.heap.size := HAL.out sb so rfl (by omega)
      rw [← B.out.cell (p := ⟨sb, so + r, none⟩) hsb] at d0
      have hz1 := HSZ.out r hlt
      clear hsb
      generalize ps[r] = x at *
      have rlt : (r : Int) < (ps.length : Int) := by omega
      go_wp2_with fail
      clear d0
      refine (say_TB HS0.out hl hz1 L2.out A.out).mono ?_
      rintro e W1 ⟨rfl, hA, hb⟩
      have HR0 : Hid (∀ w, Calls Tryd.prog 7 #[.agg #[.string s], .string label, .string x] w fun e w' => e = .returned (.agg #[.string (F.tagB F.sayB [s, label, x])]) ∧ Below w.heap.size w w') := fun w => F.refSay_any s label x HS0.out hl hz1 w
      replace HS0 : Hid ((F.tagB F.sayB [s, label, x]).size = 32) := F.tagB_size _ _
      generalize F.tagB F.sayB [s, label, x] = s' at *
      replace A : Hid (TB W1 b0 s') := hA
      replace J : Hid (IHolds W1 rb 26 [.string s]) := J.out.offB hb L3.out.2.1
      replace B : Hid (Below w.heap.size w W1) := B.out.trans (hb.below B.out.size L0.out)
      clear hA hb hz1
      have z0 : W1.cell? ⟨rb, 0, none⟩ = some (.string s) := J.out.cell 0 (by simp)
      go_wp2_with fail
      clear z0
      refine (HR0.out _).mono ?_
      rintro e W2 ⟨rfl, hb⟩
      clear HR0
      replace B := aB B hb
      replace A : Hid (TB W2 b0 s') := A.out.below hb
      replace J := aJ J hb
      clear hb
      have z0 := J.out.cell 0 (by simp)
      have z1 := fJ J 0
      go_wp2_with fail
      go_roundg (gk - 1)
      case measure => omega
      case rel => exact ⟨r + 1, s', by omega, by go_num, HS0.out, A.out.set L3.out.1 L3.out.2.2.1 0 _, J.out.set 0 _, B.out.setCell (p := ⟨rb, 0, none⟩) (by exact L3.out.2.2.2) _⟩
    · obtain rfl : r = ps.length := by omega
      go_upto_region 10 with fail
      clear HST HSZ HAL
      go_wp2_with fail
      refine (C8.out wr).mono ?_
      rintro e W1 ⟨⟨u1, u2, rfl, hn1, hn2⟩, hb⟩
      have N1 : Hid (NumV W1 65536 M u1) := hn1
      have N2 : Hid (NumV W1 65536 M2 u2) := hn2
      clear hn1 hn2
      obtain ⟨qa, ql, qc, rfl⟩ := sN N1
      obtain ⟨pa, pl, pc, rfl⟩ := sN N2
      replace B := aB B hb
      replace A : Hid (TB W1 b0 s) := A.out.below hb
      replace J := aJ J hb
      clear hb C8
      have hb := nB W1 (.cells #[.int .i64 (S : Int), .slice qa ql qc, .slice pa pl pc] 33)
      have G : Hid (IHolds (W1.alloc (.cells #[.int .i64 (S : Int), .slice qa ql qc, .slice pa pl pc] 33)) W1.heap.size 33 [.int .i64 (S : Int), .slice qa ql qc, .slice pa pl pc]) := IHolds.new W1 33 [.int .i64 (S : Int), .slice qa ql qc, .slice pa pl pc]
      have L4 : Hid (b0 < W1.heap.size) := A.out.t.lt
      have L5 : Hid (rb < W1.heap.size) := J.out.lt
      have L6 : Hid (w.heap.size ≤ W1.heap.size) := B.out.size
      replace B := aB B hb
      replace A : Hid (TB (W1.alloc (.cells #[.int .i64 (S : Int), .slice qa ql qc, .slice pa pl pc] 33)) b0 s) := A.out.below hb
      replace J := aJ J hb
      replace N1 := aN N1 hb
      clear hb
      go_upto_region 11 with fail
      generalize W1.alloc (.cells #[.int .i64 (S : Int), .slice qa ql qc, .slice pa pl pc] 33) = Y1 at *
      generalize W1.heap.size = gb at *
      go_wp2_with fail
      refine (C9.out Y1 b0 s HS0.out L2.out A.out).mono ?_
      rintro e W2 ⟨rfl, hA, hb⟩
      replace N1 : Hid (NumV W2 65536 M (.slice qa ql qc)) := N1.out.offT A.out.t hb
      replace A : Hid (TB W2 b0 (askS label (askS label s))) := hA
      replace J : Hid (IHolds W2 rb 26 [.string s]) := J.out.offB hb L3.out.2.1
      replace G : Hid (IHolds W2 gb 33 [.int .i64 (S : Int), .slice qa ql qc, .slice pa pl pc]) := G.out.offB hb (by have := L4.out; omega)
      replace B : Hid (Below w.heap.size w W2) := B.out.trans (hb.below B.out.size L0.out)
      clear hA hb C9
      have z0 := G.out.cell 0 (by simp)
      have z1 := G.out.cell 1 (by simp)
      have z2 := G.out.cell 2 (by simp)
      have z3 := J.out.cell 0 (by simp)
      simp only [List.getElem_cons_zero, List.getElem_cons_succ] at z0 z1 z2 z3
      have D : Hid (askN label s M < M) := Nat.mod_lt _ hM
      have C13s : Hid (∀ W a1 l1 c1 a2 l2 c2, NumV W 65536 M (.slice a1 l1 c1) → Calls Tryd.prog 13 #[.agg #[.int .i64 (S : Int), .slice a1 l1 c1, .slice a2 l2 c2], .agg #[.string s], .string label] W fun e w' => (∃ v, e = .returned (.tuple #[v, .agg #[.string (askS label (askS label s))]]) ∧ NumV w' 65536 (askN label s M) v) ∧ Below W.heap.size W w') := fun W a1 l1 c1 a2 l2 c2 h => C13.out W a1 l1 c1 a2 l2 c2 s HS0.out h
      clear C13
      generalize askN label s M = kn at *
      have HS2 : Hid ((askS label (askS label s)).size = 32) := askS_size _ _
      generalize askS label (askS label s) = s2 at *
      go_wp2_with fail
      clear z0 z1 z2 z3
      refine (C13s.out W2 _ _ _ _ _ _ N1.out).mono ?_
      rintro e W3 ⟨⟨v, rfl, hn3⟩, hb⟩
      have N3 : Hid (NumV W3 65536 kn v) := hn3
      replace B := aB B hb
      replace A : Hid (TB W3 b0 s2) := A.out.below hb
      replace J := aJ J hb
      replace G := aJ G hb
      clear hb hn3 C13s N1
      obtain ⟨va, vl, vc, rfl⟩ := sN N3
      have z0 := J.out.cell 0 (by simp)
      have z1 := fJ J 0
      go_upto_region 16 with fail
      clear z0 z1
      have bb := ((But.refl rb W3).setCell 0 (.string s2))
      replace N3 : Hid (NumV (W3.setCell ⟨rb, 0, none⟩ (.string s2)) 65536 kn (.slice va vl vc)) := NumV.own26 N3.out J.out bb
      replace A : Hid (TB (W3.setCell ⟨rb, 0, none⟩ (.string s2)) b0 s2) := A.out.set L3.out.1 L3.out.2.2.1 0 _
      replace G := tJ G bb (by have := L5.out; omega)
      replace J : Hid (IHolds (W3.setCell ⟨rb, 0, none⟩ (.string s2)) rb 26 [.string s2]) := J.out.set 0 _
      replace B : Hid (Below w.heap.size w (W3.setCell ⟨rb, 0, none⟩ (.string s2))) := B.out.setCell (p := ⟨rb, 0, none⟩) (by exact L3.out.2.2.2) _
      clear bb
      generalize W3.setCell ⟨rb, 0, none⟩ (.string s2) = Y3 at *
      have z0 := J.out.cell 0 (by simp)
      simp only [List.getElem_cons_zero] at z0
      go_wp2_with fail
      clear z0
      refine (F.refAsk_any s2 label HS2.out hl Y3).mono ?_
      rintro e W4 ⟨rfl, hb⟩
      replace B := aB B hb
      replace A : Hid (TB W4 b0 s2) := A.out.below hb
      replace G := aJ G hb
      replace N3 := aN N3 hb
      clear hb J
      have CA : Hid (∀ W, TB W b0 s2 → Calls Tryd.prog 12 #[.pointer (some ⟨b0, 0, none⟩), .string label] W fun e w' => e = .returned (.string (F.tagB F.askB [s2, label])) ∧ TB w' b0 (F.tagB F.askedB [s2, label]) ∧ F.But b0 W w') := fun W h => ask_TB HS2.out hl L2.out h
      generalize F.tagB F.askB [s2, label] = qq at *
      generalize F.tagB F.askedB [s2, label] = ss at *
      have hb := nB W4 (.cells #[.string ss] 26)
      replace B := aB B hb
      replace A : Hid (TB (W4.alloc (.cells #[.string ss] 26)) b0 s2) := A.out.below hb
      replace G := aJ G hb
      replace N3 := aN N3 hb
      clear hb
      go_upto_region 17 with fail
      generalize W4.alloc (.cells #[.string ss] 26) = Y4 at *
      have z0 := G.out.cell 0 (by simp)
      simp only [List.getElem_cons_zero] at z0
      go_wp2_with fail
      clear z0
      have RT := refTextV N3.out (lM _ D.out) hSl
      generalize hTT : (⟨(beB S kn).toArray⟩ : ByteArray) = T at *
      refine RT.mono ?_
      rintro e W5 ⟨rfl, hb⟩
      replace B := aB B hb
      replace A : Hid (TB W5 b0 s2) := A.out.below hb
      clear hb RT hTT
      go_wp2_with fail
      refine (lawText_ok T W5).mono ?_
      rintro e W6 ⟨rfl, hb⟩
      replace B := aB B hb
      replace A : Hid (TB W6 b0 s2) := A.out.below hb
      clear hb
      go_wp2_with fail
      refine (CA.out W6 A.out).mono ?_
      rintro e W7 ⟨rfl, hA, hb⟩
      replace B : Hid (Below w.heap.size w W7) := B.out.trans (hb.below B.out.size L0.out)
      clear hb hA A
      go_wp2_with fail
      go_ret
      exact ⟨rfl, B.out⟩

theorem ask_len {n M : Nat} (h : n < M) (hM : (dg 65536 M).length ≤ 1000000) : (dg 65536 n).length ≤ 1000000 := Nat.le_trans (dg_len_mono b16 (by omega)) hM
/-- What a kind with a ground answers. -/
theorem challenge_kind {z : Int} {G : Array Value} {S Wd M low one sq Ri : Nat} (hS : S ≤ 32) (fl : Fld Wd M low one sq Ri) (hG : gz.size = G.size) (hi : (Tryd.prog.info? 61).map (·.size) = some G.size) (h1 : G.all (·.oneCell') = true)
    (CG : Hid (∀ W, Calls Tryd.prog 33 #[.int .i64 z] W fun e w' => e = .returned (.tuple #[.agg G, .bool true]) ∧ Below W.heap.size W w'))
    (gh : ∀ W g, IHolds W g 61 G.toList → W.cell? ⟨g, 0, none⟩ = some (.int .i64 (S : Int)) ∧ FH W g 1 Wd M low one sq) {label : ByteArray} (hl : label.size < 1125899906842624) :
    ∀ W tb s, s.size = 32 → 2 < tb → TB W tb s → Calls Tryd.prog 9 #[.int .i64 z, .pointer (some ⟨tb, 0, none⟩), .string label] W fun e w' => e = .returned (.tuple #[.string ⟨(beB S (askN label s M)).toArray⟩, .int .i64 0]) ∧ TB w' tb (askS label (askS label s)) ∧ F.But tb W w' := by
  intro W tb s hs h2 hA
  have hM : askN label s M < BB ^ 4 := Nat.lt_of_lt_of_le (Nat.mod_lt _ (by have := fl.m2; omega)) (by have := fl.big; have := fl.m2; omega)
  refine challenge_any hA.t.lt (fun W1 p1 p2 j1 j2 n1 n2 k1 k2 hb1 => ?_)
  refine on21_22 hG hi h1 CG (fun W2 g hI hg hb2 => ?_)
  have A2 : TB W2 tb s := (hA.below hb1).below hb2
  have ng : g ≠ tb := by have := (hA.below hb1).t.lt; omega
  obtain ⟨g0, gF⟩ := gh W2 g hI
  refine clos22 (v0 := w4 (askN label s M) 0) (v1 := w4 (askN label s M) 1) (v2 := w4 (askN label s M) 2) (v3 := w4 (askN label s M) 3) (s := s) (s1 := askS label s) (q1 := askQ label s) (q2 := askQ label (askS label s)) (j1.of_below hb2) (j2.of_below hb2) n1 n2 (askQ_size _ _) (askQ_size _ _) A2
    (fun W3 h3 => ask_TB hs hl h2 h3) (fun W3 h3 => ask_TB (askS_size _ _) hl h2 h3) (fun W3 hb3 => ?_) (fun W3 hb3 => ?_)
  · exact freduceA (gF.of_but (FB hb3) ng) fl (askQ label s ++ askQ label (askS label s)) (by rw [ByteArray.size_append, askQ_size, askQ_size]; omega)
  · have c0 : W3.cell? ⟨g, 0, none⟩ = some (.int .i64 (S : Int)) := by rw [hb3.cell gF.lt ng 0]; exact g0
    have := told_any c0 (x0 := w4 (askN label s M) 0) (x1 := w4 (askN label s M) 1) (x2 := w4 (askN label s M) 2) (x3 := w4 (askN label s M) 3) (w4_lt _ 0) (w4_lt _ 1) (w4_lt _ 2) (w4_lt _ 3) hS
    rw [show NB (w4 (askN label s M) 0) (w4 (askN label s M) 1) (w4 (askN label s M) 2) (w4 (askN label s M) 3) = askN label s M from vl_w4 hM] at this
    exact this
theorem refChallenge_kind {S M : Nat} (hM : 0 < M) (lM : (dg 65536 M).length ≤ 1000000) {label : ByteArray} (hl : label.size < 1125899906842624) :
    ∀ W a1 l1 c1 a2 l2 c2 s, s.size = 32 → NumV W 65536 M (.slice a1 l1 c1) → Calls Tryd.prog 13 #[.agg #[.int .i64 (S : Int), .slice a1 l1 c1, .slice a2 l2 c2], .agg #[.string s], .string label] W fun e w' => (∃ v, e = .returned (.tuple #[v, .agg #[.string (askS label (askS label s))]]) ∧ NumV w' 65536 (askN label s M) v) ∧ Below W.heap.size W w' := by
  intro W a1 l1 c1 a2 l2 c2 s hs hN
  have hz : (askQ label s ++ askQ label (askS label s)).size = 64 := by rw [ByteArray.size_append, askQ_size, askQ_size]
  have ln : (dg 65536 (numS (askQ label s ++ askQ label (askS label s)))).length ≤ 1000000 := by
    have q := numS_lt (askQ label s ++ askQ label (askS label s))
    rw [hz] at q
    exact Nat.le_trans (len_lt (k := 64) (Nat.lt_of_lt_of_le q (Nat.pow_le_pow_left (by omega) _))) (by omega)
  exact refChallenge_any hN (askQ_size _ _) (askQ_size _ _) (fun W => F.refAsk_any s label hs hl W) (fun W => F.refAsk_any (askS label s) label (askS_size _ _) hl W) (fun W => read_any W _ (by rw [hz]; omega)) (fun W v h1 h2 => modV h1 h2 ln lM hM)
theorem gh1 (W : World) (g : Nat) (h : IHolds W g 61 gr1.toList) : W.cell? ⟨g, 0, none⟩ = some (.int .i64 ((2 : Nat) : Int)) ∧ FH W g 1 1 641 28778071877862015 1 1 := by
  refine ⟨by have := h.cell 0 (by decide); exact this, ?_⟩
  exact ⟨by have := h.cell 1 (by decide); exact this, (by have := h.cell 2 (by decide); rw [show w4 641 0 = 641 from by decide +kernel]; exact this), (by have := h.cell 3 (by decide); rw [show w4 641 1 = 0 from by decide +kernel]; exact this), (by have := h.cell 4 (by decide); rw [show w4 641 2 = 0 from by decide +kernel]; exact this), (by have := h.cell 5 (by decide); rw [show w4 641 3 = 0 from by decide +kernel]; exact this), by have := h.cell 6 (by decide); exact this, (by have := h.cell 7 (by decide); rw [show w4 1 0 = 1 from by decide +kernel]; exact this), (by have := h.cell 8 (by decide); rw [show w4 1 1 = 0 from by decide +kernel]; exact this), (by have := h.cell 9 (by decide); rw [show w4 1 2 = 0 from by decide +kernel]; exact this), (by have := h.cell 10 (by decide); rw [show w4 1 3 = 0 from by decide +kernel]; exact this), (by have := h.cell 11 (by decide); rw [show w4 1 0 = 1 from by decide +kernel]; exact this), (by have := h.cell 12 (by decide); rw [show w4 1 1 = 0 from by decide +kernel]; exact this), (by have := h.cell 13 (by decide); rw [show w4 1 2 = 0 from by decide +kernel]; exact this), (by have := h.cell 14 (by decide); rw [show w4 1 3 = 0 from by decide +kernel]; exact this)⟩
theorem gh2 (W : World) (g : Nat) (h : IHolds W g 61 gr2.toList) : W.cell? ⟨g, 0, none⟩ = some (.int .i64 ((8 : Nat) : Int)) ∧ FH W g 1 1 576465431670292481 14411523486952456191 576315691930484705 164727685076202836 := by
  refine ⟨by have := h.cell 0 (by decide); exact this, ?_⟩
  exact ⟨by have := h.cell 1 (by decide); exact this, (by have := h.cell 2 (by decide); rw [show w4 576465431670292481 0 = 576465431670292481 from by decide +kernel]; exact this), (by have := h.cell 3 (by decide); rw [show w4 576465431670292481 1 = 0 from by decide +kernel]; exact this), (by have := h.cell 4 (by decide); rw [show w4 576465431670292481 2 = 0 from by decide +kernel]; exact this), (by have := h.cell 5 (by decide); rw [show w4 576465431670292481 3 = 0 from by decide +kernel]; exact this), by have := h.cell 6 (by decide); exact this, (by have := h.cell 7 (by decide); rw [show w4 576315691930484705 0 = 576315691930484705 from by decide +kernel]; exact this), (by have := h.cell 8 (by decide); rw [show w4 576315691930484705 1 = 0 from by decide +kernel]; exact this), (by have := h.cell 9 (by decide); rw [show w4 576315691930484705 2 = 0 from by decide +kernel]; exact this), (by have := h.cell 10 (by decide); rw [show w4 576315691930484705 3 = 0 from by decide +kernel]; exact this), (by have := h.cell 11 (by decide); rw [show w4 164727685076202836 0 = 164727685076202836 from by decide +kernel]; exact this), (by have := h.cell 12 (by decide); rw [show w4 164727685076202836 1 = 0 from by decide +kernel]; exact this), (by have := h.cell 13 (by decide); rw [show w4 164727685076202836 2 = 0 from by decide +kernel]; exact this), (by have := h.cell 14 (by decide); rw [show w4 164727685076202836 3 = 0 from by decide +kernel]; exact this)⟩
theorem gh3 (W : World) (g : Nat) (h : IHolds W g 61 gr3.toList) : W.cell? ⟨g, 0, none⟩ = some (.int .i64 ((32 : Nat) : Int)) ∧ FH W g 1 4 7237005577332262213973186563042995786902308146886443998308627866733439352833 18446744073709551615 7237005577332262213973186563042971049735362462343904064828166006911539347441 7237005577332262213973055834329441520127728155767444907515600161428691746049 := by
  refine ⟨by have := h.cell 0 (by decide); exact this, ?_⟩
  exact ⟨by have := h.cell 1 (by decide); exact this, (by have := h.cell 2 (by decide); rw [show w4 7237005577332262213973186563042995786902308146886443998308627866733439352833 0 = 1 from by decide +kernel]; exact this), (by have := h.cell 3 (by decide); rw [show w4 7237005577332262213973186563042995786902308146886443998308627866733439352833 1 = 9223372036854775808 from by decide +kernel]; exact this), (by have := h.cell 4 (by decide); rw [show w4 7237005577332262213973186563042995786902308146886443998308627866733439352833 2 = 4543 from by decide +kernel]; exact this), (by have := h.cell 5 (by decide); rw [show w4 7237005577332262213973186563042995786902308146886443998308627866733439352833 3 = 1152921504606846976 from by decide +kernel]; exact this), by have := h.cell 6 (by decide); exact this, (by have := h.cell 7 (by decide); rw [show w4 7237005577332262213973186563042971049735362462343904064828166006911539347441 0 = 18446744073709551601 from by decide +kernel]; exact this), (by have := h.cell 8 (by decide); rw [show w4 7237005577332262213973186563042971049735362462343904064828166006911539347441 1 = 9223372036854775807 from by decide +kernel]; exact this), (by have := h.cell 9 (by decide); rw [show w4 7237005577332262213973186563042971049735362462343904064828166006911539347441 2 = 18446744073709483463 from by decide +kernel]; exact this), (by have := h.cell 10 (by decide); rw [show w4 7237005577332262213973186563042971049735362462343904064828166006911539347441 3 = 1152921504606846975 from by decide +kernel]; exact this), (by have := h.cell 11 (by decide); rw [show w4 7237005577332262213973055834329441520127728155767444907515600161428691746049 0 = 18446743989154217217 from by decide +kernel]; exact this), (by have := h.cell 12 (by decide); rw [show w4 7237005577332262213973055834329441520127728155767444907515600161428691746049 1 = 9223372036854775807 from by decide +kernel]; exact this), (by have := h.cell 13 (by decide); rw [show w4 7237005577332262213973055834329441520127728155767444907515600161428691746049 2 = 18446359896548872895 from by decide +kernel]; exact this), (by have := h.cell 14 (by decide); rw [show w4 7237005577332262213973055834329441520127728155767444907515600161428691746049 3 = 1152921504606846975 from by decide +kernel]; exact this)⟩
namespace F
theorem groupAsks_walk (z : Int) (label : ByteArray) (hl : label.size < 1125899906842624) (a : Option Addr) (cap : Nat) (ps : List ByteArray) (w : World) (hat : SAt w a ps) (hn : ps.length < 8796093022208)
    (hsz : ∀ i (h : i < ps.length), ps[i].size < 1125899906842624) (hT : Tabs w) (hS : Starts w) :
    Calls Tryd.prog 3 #[.int .i64 z, .string label, .slice a ps.length cap] w fun e w' => e = .returned (.bool true) ∧ Below w.heap.size w w' := by
  by_cases z1 : z = 1
  · subst z1
    exact asks_ok 1 label hl a cap ps w hat hn hsz hT hS (S := 2) (M := 641) (by decide) (by omega) (fun n h => ask_len h (Nat.le_trans (len_lt (k := 20) (by decide)) (by omega))) (by omega) (fun W => kind1 W) (challenge_kind (G := gr1) (S := 2) (by omega) fs1 rfl size70 (by kernel_rfl) (fun W => ground1 W) gh1 hl) (refChallenge_kind (by omega) (Nat.le_trans (len_lt (k := 20) (by decide)) (by omega)) hl)
  by_cases z2 : z = 2
  · subst z2
    exact asks_ok 2 label hl a cap ps w hat hn hsz hT hS (S := 8) (M := 576465431670292481) (by decide) (by omega) (fun n h => ask_len h (Nat.le_trans (len_lt (k := 20) (by decide)) (by omega))) (by omega) (fun W => kind2 W) (challenge_kind (G := gr2) (S := 8) (by omega) fs2 rfl size70 (by kernel_rfl) (fun W => ground2 W) gh2 hl) (refChallenge_kind (by omega) (Nat.le_trans (len_lt (k := 20) (by decide)) (by omega)) hl)
  by_cases z3 : z = 3
  · subst z3
    exact asks_ok 3 label hl a cap ps w hat hn hsz hT hS (S := 32) (M := 7237005577332262213973186563042995786902308146886443998308627866733439352833) (by decide) (by omega) (fun n h => ask_len h (Nat.le_trans (len_lt (k := 20) (by decide)) (by omega))) (by omega) (fun W => kind3 W) (challenge_kind (G := gr3) (S := 32) (by omega) fs3 rfl size70 (by kernel_rfl) (fun W => ground3 W) gh3 hl) (refChallenge_kind (by omega) (Nat.le_trans (len_lt (k := 20) (by decide)) (by omega)) hl)
  have y1 : (z == 1) = false := by simpa using z1
  have y2 : (z == 2) = false := by simpa using z2
  have y3 : (z == 3) = false := by simpa using z3
  exact asks_no z label hl a cap ps w hat hn hsz hT hS (fun W => kind0 W z y1 (by simpa using z1) y2 y3) (fun W tb s _ _ _ => challenge_no (fun W p1 p2 => on21_22_no (G := gz) (tb := 0) (t := ⟨#[]⟩) (s2 := ⟨#[]⟩) rfl size70 (by kernel_rfl) (fun W => ground0 W z y1 y2 y3)))
end F
end Go.Proofs.YtckfdpiohkggaabDoor

