/- What is asked twice of a talk, behind a kind's ground: the closure, and Challenge; what is said; what begins, what is forked. What comes in: lists of texts, the tables; and what a walk that leaves all below alone gives of a row. Texts, joined. What is said to a talk: of a ground, of claims, of firsts; a seed. Claims and firsts are told; a seed. -/
import Derived.Test.YtmpiipcllgjhdaaGreatDoorY14
import Derived.Test.YtmpiipcllgjhdaaGreatDoorY17
import Derived.Deep.CutBlock
import Derived.Deep.DeepCutAuto
import Derived.Test.YtmpiipcllgjhdaaGreatDoorY01
import Derived.Deep.Strs
import Derived.WideKeyArgs
import Derived.Shelf.Strings.OnBuilder
set_option linter.unusedSimpArgs false
set_option linter.unusedVariables false
set_option maxRecDepth 100000
namespace Go.Proofs.YtmpiipcllgjhdaaGreatDoor
open Go.RowKit Go.Deep Go.PlainAid

/-- A talk in block tb, and the tables. -/
structure TB (w : World) (tb : Nat) (s : ByteArray) : Prop where
  t : F.TAt w tb s
  T : F.Tabs w
  S : F.Starts w
theorem TB.below {w w' : World} {tb : Nat} {s : ByteArray} (h : TB w tb s) (hb : Below w.heap.size w w') : TB w' tb s :=
  ⟨h.t.of_below hb h.t.lt, h.T.of_below hb h.T.size, h.S.of_below hb h.T.size⟩
theorem IHolds.offB {w w' : World} {b k : Nat} {t : TypeId} {l : List Value} (h : IHolds w k t l) (hb : F.But b w w') (hne : k ≠ b) : IHolds w' k t l := by
  unfold IHolds; rw [hb.block k h.lt hne]; exact h
theorem FB {b : Nat} {w w' : World} (h : F.But b w w') : But b w w' := ⟨h.os, h.tape, h.output, h.size, h.block⟩
theorem ask_TB {w : World} {tb : Nat} {s label : ByteArray} (hs : s.size = 32) (hl : label.size < 1125899906842624) (h2 : 3 < tb) (h : TB w tb s) :
    Calls Tryz.prog 121 #[.pointer (some ⟨tb, 0, none⟩), .string label] w fun e w' => e = .returned (.string (F.tagB F.askB [s, label])) ∧ TB w' tb (F.tagB F.askedB [s, label]) ∧ F.But tb w w' :=
  (F.ask_any tb s label hs hl w h.t h2 h.T h.S).mono fun e w' ⟨h1, h3, h4⟩ => ⟨h1, ⟨h3, h.T.of_but h4 h2, h.S.of_but h4 h2 h.T.size⟩, h4⟩
set_option maxHeartbeats 2000000 in
theorem clos22 {w : World} {g p1 p2 tb : Nat} {label s s1 s2 q1 q2 t : ByteArray} {v0 v1 v2 v3 : Nat} (J1 : Hid (IHolds w p1 90 [(.pointer (some ⟨tb, 0, none⟩))])) (J2 : Hid (IHolds w p2 9 [(.string label)])) (n1 : Hid (p1 ≠ tb)) (n2 : Hid (p2 ≠ tb)) (hq1 : q1.size = 32) (hq2 : q2.size = 32)
    (A : Hid (TB w tb s)) (C1 : Hid (∀ W, TB W tb s → Calls Tryz.prog 121 #[(.pointer (some ⟨tb, 0, none⟩)), .string label] W fun e w' => e = .returned (.string q1) ∧ TB w' tb s1 ∧ F.But tb W w'))
    (C2 : Hid (∀ W, TB W tb s1 → Calls Tryz.prog 121 #[(.pointer (some ⟨tb, 0, none⟩)), .string label] W fun e w' => e = .returned (.string q2) ∧ TB w' tb s2 ∧ F.But tb W w'))
    (C3 : Hid (∀ W, F.But tb w W → Calls Tryz.prog 122 #[.pointer (some ⟨g, 1, none⟩), .string (q1 ++ q2)] W fun e w' => e = .returned (.agg #[U v0, U v1, U v2, U v3]) ∧ Below W.heap.size W w'))
    (C4 : Hid (∀ W, F.But tb w W → Calls Tryz.prog 65 #[.pointer (some ⟨g, 0, none⟩), .agg #[U v0, U v1, U v2, U v3]] W fun e w' => e = .returned (.tuple #[.string t, .int .i64 0]) ∧ Below W.heap.size W w')) :
    Calls Tryz.prog 120 #[.pointer (some ⟨g, 0, none⟩), .pointer (some ⟨p1, 0, none⟩), .pointer (some ⟨p2, 0, none⟩)] w fun e w' => e = .returned (.tuple #[.string t, .int .i64 0]) ∧ TB w' tb s2 ∧ F.But tb w w' := by
  have zs0 : w.cell? ⟨p1, 0, none⟩ = some (.pointer (some ⟨tb, 0, none⟩)) := J1.out.cell 0 (by simp)
  have zs1 : w.cell? ⟨p2, 0, none⟩ = some (.string label) := J2.out.cell 0 (by simp)
  go_enter Tryz.func120, Tryz.ntmps120
  go_wp2_with fail
  clear zs0 zs1
  refine (C1.out w A.out).mono ?_
  rintro e U1 ⟨rfl, hA, hb⟩
  have B : Hid (F.But tb w U1) := hb
  replace A : Hid (TB U1 tb s1) := hA
  replace J1 : Hid (IHolds U1 p1 90 [(.pointer (some ⟨tb, 0, none⟩))]) := J1.out.offB hb n1.out
  replace J2 : Hid (IHolds U1 p2 9 [(.string label)]) := J2.out.offB hb n2.out
  clear hb hA
  go_wp2_with fail
  have hb := dB U1
  replace B : Hid (F.But tb w U1.drew) := B.out.of_below hb
  replace A : Hid (TB U1.drew tb s1) := A.out.below hb
  replace J1 := aJ J1 hb
  replace J2 := aJ J2 hb
  clear hb
  refine wp_region_held_drew (S := fun W => (IHolds W p1 90 [(.pointer (some ⟨tb, 0, none⟩))]) ∧ (IHolds W p2 9 [(.string label)])) (by kernel_rfl) ⟨J1.out, J2.out⟩ (fun hHeld1 => ?_)
  generalize U1.drew = U2 at *
  refine tk (i := 0) (v := .pointer (some ⟨g, 0, none⟩)) rfl (by kernel_rfl) (fun _ _ _ h => h) rfl ?_ hHeld1 ?_
  · intro W hS; go_simp
  simp only [Act.put, y1, y2, y3, y4, y5, y6, y7]
  refine tk (i := 1) (v := .pointer (some ⟨g, 0, none⟩)) rfl (by kernel_rfl) (fun _ _ _ h => h) rfl ?_ hHeld1 ?_
  · intro W hS; go_simp
  simp only [Act.put, y1, y2, y3, y4, y5, y6, y7]
  refine tk (i := 2) (v := .pointer (some ⟨g, 0, none⟩)) rfl (by kernel_rfl) (fun _ _ _ h => h) rfl ?_ hHeld1 ?_
  · intro W hS; go_simp
  simp only [Act.put, y1, y2, y3, y4, y5, y6, y7]
  refine tk (i := 3) (v := .pointer (some ⟨g, 1, none⟩)) rfl (by kernel_rfl) (fun _ _ _ h => h) rfl ?_ hHeld1 ?_
  · intro W hS; go_simp
  simp only [Act.put, y1, y2, y3, y4, y5, y6, y7]
  refine tk (i := 4) (v := (.string q1)) rfl (by kernel_rfl) (fun _ _ _ h => h) rfl ?_ hHeld1 ?_
  · intro W hS; go_simp
  simp only [Act.put, y1, y2, y3, y4, y5, y6, y7]
  refine tk (i := 5) (v := (.pointer (some ⟨tb, 0, none⟩))) rfl (by kernel_rfl) (fun _ _ _ h => h) rfl ?_ hHeld1 ?_
  · intro W hS; have zh : W.cell? ⟨p1, 0, none⟩ = some (.pointer (some ⟨tb, 0, none⟩)) := IHolds.cell (l := [(.pointer (some ⟨tb, 0, none⟩))]) (t := 90) (b := p1) (w := W) hS.1 0 (by simp); go_simp
  simp only [Act.put, y1, y2, y3, y4, y5, y6, y7]
  refine tk (i := 6) (v := (.string label)) rfl (by kernel_rfl) (fun _ _ _ h => h) rfl ?_ hHeld1 ?_
  · intro W hS; have zh : W.cell? ⟨p2, 0, none⟩ = some (.string label) := IHolds.cell (l := [(.string label)]) (t := 9) (b := p2) (w := W) hS.2 0 (by simp); go_simp
  simp only [Act.put, y1, y2, y3, y4, y5, y6, y7]
  refine wpAnyH_ready (rs := [7]) (by kernel_rfl) (by simp) ?_
  refine AllReadyH.cons rfl (fun K hK => ?_) AllReadyH.nil
  clear hHeld1
  go_simp
  refine (C2.out U2 A.out).mono ?_
  rintro e U3 ⟨rfl, hA, hb⟩
  replace B : Hid (F.But tb w U3) := B.out.trans hb
  replace A : Hid (TB U3 tb s2) := hA
  replace J1 : Hid (IHolds U3 p1 90 [(.pointer (some ⟨tb, 0, none⟩))]) := J1.out.offB hb n1.out
  replace J2 : Hid (IHolds U3 p2 9 [(.string label)]) := J2.out.offB hb n2.out
  clear hb hA
  go_wp2_with fail
  refine hK.out _ _ (⟨J1.out, J2.out⟩) (fun hHeld2 => ?_)
  clear hK K
  try simp only [Act.put, y1, y2, y3, y4, y5, y6, y7]
  refine tk (i := 8) (v := (.string (q1 ++ q2))) rfl (by kernel_rfl) (fun _ _ _ h => h) rfl ?_ hHeld2 ?_
  · intro W hS; go_simp
  simp only [Act.put, y1, y2, y3, y4, y5, y6, y7]
  refine wpAnyH_ready (rs := [9]) (by kernel_rfl) (by simp) ?_
  refine AllReadyH.cons rfl (fun K hK => ?_) AllReadyH.nil
  clear hHeld2
  go_simp
  refine (C3.out U3 B.out).mono ?_
  rintro e U4 ⟨rfl, hb⟩
  replace B : Hid (F.But tb w U4) := B.out.of_below hb
  replace A : Hid (TB U4 tb s2) := A.out.below hb
  replace J1 := aJ J1 hb
  replace J2 := aJ J2 hb
  clear hb
  go_wp2_with fail
  refine hK.out _ _ (⟨J1.out, J2.out⟩) (fun hHeld3 => ?_)
  clear hK K
  try simp only [Act.put, y1, y2, y3, y4, y5, y6, y7]
  refine wpAnyH_ready (rs := [10]) (by kernel_rfl) (by simp) ?_
  refine AllReadyH.cons rfl (fun K hK => ?_) AllReadyH.nil
  clear hHeld3
  go_simp
  refine (C4.out U4 B.out).mono ?_
  rintro e U5 ⟨rfl, hb⟩
  replace B : Hid (F.But tb w U5) := B.out.of_below hb
  replace A : Hid (TB U5 tb s2) := A.out.below hb
  replace J1 := aJ J1 hb
  replace J2 := aJ J2 hb
  clear hb
  go_wp2_with fail
  refine hK.out _ _ (⟨J1.out, J2.out⟩) (fun hHeld4 => ?_)
  clear hK K
  try simp only [Act.put, y1, y2, y3, y4, y5, y6, y7]
  refine tk (i := 11) (v := (.string t)) rfl (by kernel_rfl) (fun _ _ _ h => h) rfl ?_ hHeld4 ?_
  · intro W hS; go_simp
  simp only [Act.put, y1, y2, y3, y4, y5, y6, y7]
  refine tk (i := 12) (v := (.int .i64 0)) rfl (by kernel_rfl) (fun _ _ _ h => h) rfl ?_ hHeld4 ?_
  · intro W hS; go_simp
  simp only [Act.put, y1, y2, y3, y4, y5, y6, y7]
  refine tk (i := 13) (v := (.string t)) rfl (by kernel_rfl) (fun _ _ _ h => h) rfl ?_ hHeld4 ?_
  · intro W hS; go_simp
  simp only [Act.put, y1, y2, y3, y4, y5, y6, y7]
  refine tk (i := 14) (v := (.int .i64 0)) rfl (by kernel_rfl) (fun _ _ _ h => h) rfl ?_ hHeld4 ?_
  · intro W hS; go_simp
  simp only [Act.put, y1, y2, y3, y4, y5, y6, y7]
  refine wpAnyH_done (by kernel_rfl) ?_ _
  clear hHeld4
  go_wp2_with fail
  go_ret2
  exact ⟨rfl, A.out, B.out⟩
set_option maxHeartbeats 2000000 in
theorem on21_22 {w : World} {z : Int} {G : Array Value} {p1 p2 tb : Nat} {t s2 : ByteArray} (hG : gz.size = G.size) (hi : (Tryz.prog.info? 111).map (·.size) = some G.size) (h1 : G.all (·.oneCell') = true)
    (CG : Hid (∀ W, Calls Tryz.prog 62 #[.int .i64 z] W fun e w' => e = .returned (.tuple #[.agg G, .bool true]) ∧ Below W.heap.size W w'))
    (HF : Hid (∀ W g, IHolds W g 111 G.toList → w.heap.size ≤ g → Below w.heap.size w W → Calls Tryz.prog 120 #[.pointer (some ⟨g, 0, none⟩), .pointer (some ⟨p1, 0, none⟩), .pointer (some ⟨p2, 0, none⟩)] W fun e w' => e = .returned (.tuple #[.string t, .int .i64 0]) ∧ TB w' tb s2 ∧ F.But tb W w')) :
    Calls Tryz.prog 33 #[.int .i64 z, .func (.func 120) #[] #[.pointer (some ⟨p1, 0, none⟩), .pointer (some ⟨p2, 0, none⟩)]] w fun e w' => e = .returned (.tuple #[.string t, .int .i64 0]) ∧ TB w' tb s2 ∧ F.But tb w w' := by
  go_enter Tryz.func33, Tryz.ntmps33
  go_wp2_with fail
  refine (CG.out w).mono ?_
  rintro e U1 ⟨rfl, hb⟩
  have B : Hid (Below w.heap.size w U1) := hb
  have N : Hid (w.heap.size ≤ U1.heap.size) := hb.size
  clear hb
  have hg : (U1.alloc (.cells gz 111)).heap[U1.heap.size]? = some (.cells gz 111 (0, 0)) := by
    have h := IHolds.new U1 111 gz.toList
    unfold IHolds at h
    rw [Array.toArray_toList] at h
    exact h
  have J : Hid (IHolds (U1.alloc (.cells G 111)) U1.heap.size 111 G.toList) := by
    have h := IHolds.new U1 111 G.toList
    rw [Array.toArray_toList] at h
    exact h
  replace B := aB B (nB U1 (.cells G 111))
  go_wp2_with (refine wpList_store_row rfl 111 (.tmp 6) (.tmp 12) rfl U1.heap.size G rfl rfl 111 gz hg hi hG h1 ?_; rw [World.setRow_alloc_new]; clear hg)
  generalize U1.alloc (.cells G 111) = U2 at *
  generalize U1.heap.size = g at *
  refine (HF.out U2 g J.out N.out B.out).mono ?_
  rintro e U3 ⟨rfl, hA, hb⟩
  have B2 : Hid (F.But tb w U3) := ((F.But.refl tb w).of_below B.out).trans hb
  have A : Hid (TB U3 tb s2) := hA
  clear hb hA
  go_wp2_with fail
  go_ret2
  exact ⟨rfl, A.out, B2.out⟩
set_option maxHeartbeats 2000000 in
theorem challenge_any {w : World} {z : Int} {tb : Nat} {label t s2 : ByteArray} (hlt : tb < w.heap.size)
    (C : Hid (∀ W p1 p2, IHolds W p1 90 [(.pointer (some ⟨tb, 0, none⟩))] → IHolds W p2 9 [(.string label)] → p1 ≠ tb → p2 ≠ tb → p1 < W.heap.size → p2 < W.heap.size → Below w.heap.size w W → Calls Tryz.prog 33 #[.int .i64 z, .func (.func 120) #[] #[.pointer (some ⟨p1, 0, none⟩), .pointer (some ⟨p2, 0, none⟩)]] W fun e w' => e = .returned (.tuple #[.string t, .int .i64 0]) ∧ TB w' tb s2 ∧ F.But tb W w')) :
    Calls Tryz.prog 90 #[.int .i64 z, (.pointer (some ⟨tb, 0, none⟩)), .string label] w fun e w' => e = .returned (.tuple #[.string t, .int .i64 0]) ∧ TB w' tb s2 ∧ F.But tb w w' := by
  have L : Hid (tb < w.heap.size) := hlt
  clear hlt
  go_enter Tryz.func90, Tryz.ntmps90
  go_wp2_with fail
  obtain ⟨U1, hU1⟩ : ∃ X, X = ((w.alloc (.cells #[(.pointer (some ⟨tb, 0, none⟩))] 90)).alloc (.cells #[(.string label)] 9)) := ⟨_, rfl⟩
  have Jx : Hid (IHolds U1 (w.heap.size) 90 [(.pointer (some ⟨tb, 0, none⟩))]) := by
    have q := IHolds.new w 90 [(.pointer (some ⟨tb, 0, none⟩))]
    show IHolds _ _ _ _
    rw [hU1]
    exact (q.alloc _)
  have Jm : Hid (IHolds U1 (w.heap.size + 1) 9 [(.string label)]) := by
    have q := IHolds.new (w.alloc (.cells #[(.pointer (some ⟨tb, 0, none⟩))] 90)) 9 [(.string label)]
    simp only [World.size_alloc, Nat.add_assoc, Nat.reduceAdd] at q
    show IHolds _ _ _ _
    rw [hU1]
    exact q
  have B : Hid (Below w.heap.size w U1) := by
    show Below _ _ _
    rw [hU1]
    exact (((Below.refl _ w).alloc (Nat.le_refl _) _).alloc (by simp only [World.size_alloc]; omega) _)
  rw [← hU1]
  clear hU1
  refine (C.out U1 _ _ Jx.out Jm.out (by have := L.out; omega) (by have := L.out; omega) Jx.out.lt Jm.out.lt B.out).mono ?_
  rintro e U3 ⟨rfl, hA, hb⟩
  have B2 : Hid (F.But tb w U3) := ((F.But.refl tb w).of_below B.out).trans hb
  have A : Hid (TB U3 tb s2) := hA
  clear hb hA
  go_wp2_with fail
  go_ret2
  exact ⟨rfl, A.out, B2.out⟩
theorem TB.set {w : World} {tb rb : Nat} {s : ByteArray} (h : TB w tb s) (hne : tb ≠ rb) (h2 : 3 < rb) (i : Nat) (x : Value) : TB (w.setCell ⟨rb, i, none⟩ x) tb s :=
  have hb : F.But rb w (w.setCell ⟨rb, i, none⟩ x) := (F.But.refl rb w).setCell i x
  ⟨h.t.of_but hb hne, h.T.of_but hb h2, h.S.of_but hb h2 h.T.size⟩
/-- What is asked, and how the talk goes on. -/
def askQ (label s : ByteArray) : ByteArray := F.tagB F.askB [s, label]
def askS (label s : ByteArray) : ByteArray := F.tagB F.askedB [s, label]
theorem askQ_size (label s : ByteArray) : (askQ label s).size = 32 := F.tagB_size _ _
theorem askS_size (label s : ByteArray) : (askS label s).size = 32 := F.tagB_size _ _
/-- The number that is told. -/
def askN (label s : ByteArray) (M : Nat) : Nat := numS (askQ label s ++ askQ label (askS label s)) % M

/-- What a kind with a ground answers. -/
theorem challenge_kind {z : Int} {G : Array Value} {S Wd M low one sq Ri : Nat} (hS : S ≤ 32) (fl : Fld Wd M low one sq Ri) (hG : gz.size = G.size) (hi : (Tryz.prog.info? 111).map (·.size) = some G.size) (h1 : G.all (·.oneCell') = true)
    (CG : Hid (∀ W, Calls Tryz.prog 62 #[.int .i64 z] W fun e w' => e = .returned (.tuple #[.agg G, .bool true]) ∧ Below W.heap.size W w'))
    (gh : ∀ W g, IHolds W g 111 G.toList → W.cell? ⟨g, 0, none⟩ = some (.int .i64 (S : Int)) ∧ FH W g 1 Wd M low one sq) {label : ByteArray} (hl : label.size < 1125899906842624) :
    ∀ W tb s, s.size = 32 → 3 < tb → TB W tb s → Calls Tryz.prog 90 #[.int .i64 z, .pointer (some ⟨tb, 0, none⟩), .string label] W fun e w' => e = .returned (.tuple #[.string ⟨(beB S (askN label s M)).toArray⟩, .int .i64 0]) ∧ TB w' tb (askS label (askS label s)) ∧ F.But tb W w' := by
  intro W tb s hs h2 hA
  have hM : askN label s M < BB ^ 4 := Nat.lt_of_lt_of_le (Nat.mod_lt _ (by have := fl.m2; omega)) (by have := fl.big; have := fl.m2; omega)
  refine challenge_any hA.t.lt (fun W1 p1 p2 j1 j2 n1 n2 k1 k2 hb1 => ?_)
  refine on21_22 hG hi h1 CG (fun W2 g hI hg hb2 => ?_)
  have A2 : TB W2 tb s := (hA.below hb1).below hb2
  have ng : g ≠ tb := by have := (hA.below hb1).t.lt; omega
  obtain ⟨g0, gF⟩ := gh W2 g hI
  refine clos22 (v0 := w4 (askN label s M) 0) (v1 := w4 (askN label s M) 1) (v2 := w4 (askN label s M) 2) (v3 := w4 (askN label s M) 3) (s := s) (s1 := askS label s) (q1 := askQ label s) (q2 := askQ label (askS label s)) (j1.of_below hb2) (j2.of_below hb2) n1 n2 (askQ_size _ _) (askQ_size _ _) A2
    (fun W3 h3 => ask_TB hs hl h2 h3) (fun W3 h3 => ask_TB (askS_size _ _) hl h2 h3) (fun W3 hb3 => ?_) (fun W3 hb3 => ?_)
  · exact freduceA (gF.of_but (FB hb3) ng) fl (askQ label s ++ askQ label (askS label s)) (by rw [ByteArray.size_append, askQ_size, askQ_size]; omega)
  · have c0 : W3.cell? ⟨g, 0, none⟩ = some (.int .i64 (S : Int)) := by rw [hb3.cell gF.lt ng 0]; exact g0
    have := told_any c0 (x0 := w4 (askN label s M) 0) (x1 := w4 (askN label s M) 1) (x2 := w4 (askN label s M) 2) (x3 := w4 (askN label s M) 3) (w4_lt _ 0) (w4_lt _ 1) (w4_lt _ 2) (w4_lt _ 3) hS
    rw [show NB (w4 (askN label s M) 0) (w4 (askN label s M) 1) (w4 (askN label s M) 2) (w4 (askN label s M) 3) = askN label s M from vl_w4 hM] at this
    exact this

theorem say_TB {w : World} {tb : Nat} {s label t : ByteArray} (hs : s.size = 32) (hl : label.size < 1125899906842624) (ht : t.size < 1125899906842624) (h2 : 3 < tb) (h : TB w tb s) :
    Calls Tryz.prog 83 #[.pointer (some ⟨tb, 0, none⟩), .string label, .string t] w fun e w' => e = .returned (.tuple #[]) ∧ TB w' tb (F.tagB F.sayB [s, label, t]) ∧ F.But tb w w' :=
  (F.say_any tb s label t hs hl ht w h.t h2 h.T h.S).mono fun e w' ⟨h1, h3, h4⟩ => ⟨h1, ⟨h3, h.T.of_but h4 h2, h.S.of_but h4 h2 h.T.size⟩, h4⟩
/-- The tables alone. -/
structure TT (w : World) : Prop where
  T : F.Tabs w
  S : F.Starts w
theorem TT.below {w w' : World} (h : TT w) (hb : Below w.heap.size w w') : TT w' := ⟨h.T.of_below hb h.T.size, h.S.of_below hb h.T.size⟩
theorem TB.tt {w : World} {tb : Nat} {s : ByteArray} (h : TB w tb s) : TT w := ⟨h.T, h.S⟩
theorem But.low {b n : Nat} {w w' : World} (h : F.But b w w') (hn : n ≤ b) (hw : n ≤ w.heap.size) : Below n w w' :=
  ⟨h.os, h.tape, h.output, h.size, fun k hk => h.block k (by omega) (by omega)⟩
theorem newTalk_TT {w : World} {label : ByteArray} (hl : label.size < 1125899906842624) (h : TT w) :
    Calls Tryz.prog 116 #[.string label] w fun e w' => (∃ b, e = .returned (.pointer (some ⟨b, 0, none⟩)) ∧ w.heap.size ≤ b ∧ TB w' b (F.tagB F.talkB [label])) ∧ Below w.heap.size w w' :=
  (F.newTalk_any label hl w h.T h.S).mono fun e w' ⟨⟨b, h1, h2, h3⟩, h4⟩ => ⟨⟨b, h1, h2, ⟨h3, h.T.of_below h4 h.T.size, h.S.of_below h4 h.T.size⟩⟩, h4⟩
theorem fork_TB {w : World} {tb : Nat} {s : ByteArray} (h : TB w tb s) :
    Calls Tryz.prog 82 #[.pointer (some ⟨tb, 0, none⟩)] w fun e w' => e = .returned (.pointer (some ⟨w.heap.size, 0, none⟩)) ∧ TB w' w.heap.size s ∧ TB w' tb s ∧ Below w.heap.size w w' := by
  have c0 := h.t.cell
  have B : Hid (Below w.heap.size w (w.alloc (.cells #[.string s] 162))) := (Below.refl _ _).alloc (Nat.le_refl _) _
  have A : Hid (F.TAt (w.alloc (.cells #[.string s] 162)) w.heap.size s) := F.TAt.new w s
  have H : Hid (TB w tb s) := h
  clear h
  go_enter Tryz.func82, Tryz.ntmps82
  go_wp2_with fail
  go_ret
  exact ⟨rfl, ⟨A.out, (H.out.below B.out).T, (H.out.below B.out).S⟩, H.out.below B.out, B.out⟩
end Go.Proofs.YtmpiipcllgjhdaaGreatDoor
namespace Go.Proofs.YtmpiipcllgjhdaaGreatDoor
open Go.ChangeShapes Go.WideShapes Go.ChangeAt Go.RowKit Go.ChangeMaps Go.Deep

theorem post_of_below {H : Type} {enc : TypeId × Value → H} {P : Program} {f : Func} {s : ChangeSpec} {handsOn : Bool} {W W' : World} {args : Array Value} {v : Value} {ds gs : List (DataW H)} {before pa pv : List MemPlace}
    (hb : Below W.heap.size W W') (hW : DataW.Whole enc P f.params.toList s.vars false W args.toList ds gs before)
    (hres : ∀ (b : Nat) (sp : Nat → Bool) (hd : Bool), DataW.TrodAll enc P W' b sp hd f.resultTypes.toList (v.resultList f.resultTypes.size) (s.fn H (ds ++ gs)).results [])
    (hargs : ∀ sp : Nat → Bool, (∀ p ∈ before, sp p.block = true) → DataW.TrodAll enc P W' 0 sp true f.params.toList args.toList (s.fn H (ds ++ gs)).args pa)
    (hvars : ∀ sp : Nat → Bool, (∀ p ∈ before, sp p.block = true) → DataW.TrodVars enc P W' sp s.vars (s.fn H (ds ++ gs)).vars pv)
    (hps : before = pa ++ pv)
    (hok : ∀ (j : Nat) (t : TypeId) (r : Value), f.resultTypes[j]? = some t → (v.resultList f.resultTypes.size)[j]? = some r → Value.okWide P W' .any 0 t r) :
    s.post enc P f false true handsOn false W args v W' := by
  have hlt := hW.lt
  have hold : ∀ p ∈ before, (fun b => decide (b < W.heap.size)) p.block = true := fun p hp => by simpa using hlt p hp
  have hz : W.noneFrozen before := by obtain ⟨_, _, _, _, _, hz, _⟩ := hW; exact hz
  refine ⟨ds, gs, before, [], pa, pv, hW, hres _ _ _, hargs _ hold, hvars _ hold, World.keptBut_mono (fun p hp => ⟨hp, Or.inr (by rw [hps, List.mem_append] at hp; exact hp)⟩) (hb.frame _), fun _ => ?_⟩
  refine ⟨hok, _, _, ([] ++ pa) ++ pv, ⟨[] ++ pa, pv, trodAll_append (hargs _ (fun _ _ => rfl)) (hres _ _ _), hvars _ (fun _ _ => rfl), rfl, fun b off hp => ?_, fun h => by cases h⟩, fun p hp _ => by rw [hps]; simpa using hp⟩
  have hp' : MemPlace.cell b off ∈ before := by rw [hps]; simpa using hp
  rw [hb.frozen (p := ⟨b, off, none⟩) (hlt _ hp')]
  exact hz b off hp'

theorem gSta : Tryz.prog.globalNamed "hustings/fold.start" = some 0 := by kernel_rfl
theorem gStaType : (Tryz.prog.globals[0]?).map (·.type) = some 173 := by kernel_rfl
theorem cellsU : Tryz.prog.cellsOf 172 = 1 := by kernel_rfl
theorem cellsS : Tryz.prog.cellsOf 173 = 8 := by kernel_rfl
def staZ : List Int := [1779033703, 3144134277, 1013904242, 2773480762, 1359893119, 2600822924, 528734635, 1541459225]
theorem sta_data : (Rows.laid_hustings_fold_start : DataW Unit) = Lib.tabData .u32 staZ := by kernel_rfl
theorem sta_get : ∀ i, i < 8 → staZ.getD i 0 = ((F.staL.getD i 0).toNat : Int) := by decide +kernel
theorem starts {W : World} {rest : List (String × DataW Unit)} (h : laidMet Tryz.prog (("hustings/fold.start", Rows.laid_hustings_fold_start) :: rest) W) : F.Starts W := by
  rw [sta_data] at h
  have hT := Lib.tabIs_of_head gSta gStaType Tryz.underlying173 Tryz.underlying172 cellsU cellsS h
  exact ⟨fun i hi => by rw [hT.cell gSta i hi, sta_get i hi]⟩

theorem laidOut : laidOutB Tryz.prog = true := by kernel_rfl
theorem cells9 : Tryz.prog.cellsOf 9 = 1 := by kernel_rfl
theorem small {H : Type} {l : List (DataW H)} (hk : Rows.uptoSmall H l = true) : Rows.uptoBulkAll l ≤ 1048576 := of_decide_eq_true hk
theorem bulk_pos {H : Type} (d : DataW H) : 1 ≤ Rows.uptoBulk d := by
  cases d with
  | lit v => cases v <;> simp [Rows.uptoBulk]
  | _ => simp [Rows.uptoBulk]
theorem bulk_len {H : Type} : ∀ ds : List (DataW H), ds.length ≤ Rows.uptoBulkAll ds
  | [] => by simp [Rows.uptoBulkAll]
  | d :: r => by
    have := bulk_len r
    have := bulk_pos d
    simp only [Rows.uptoBulkAll, List.length_cons]
    omega
theorem cells1 {w : World} {a : Addr} {cs : List Value} (h : w.cells? 0 a 1 = some cs) : ∃ x, cs = [x] ∧ w.cell? (a.add 0) = some x := by
  unfold World.cells? at h
  rw [if_pos (Nat.zero_le _), show List.range 1 = [0] from rfl] at h
  simp only [List.mapM_cons, List.mapM_nil, Option.bind_eq_bind, Option.bind_eq_some_iff, Option.pure_def, Option.some.injEq] at h
  obtain ⟨x, hx, r, rfl, rfl⟩ := h
  exact ⟨x, rfl, hx⟩
theorem add_add (b o i j : Nat) : ((⟨b, o, none⟩ : Addr).add i).add j = ⟨b, o + i + j, none⟩ := by
  unfold Addr.add
  by_cases h1 : i = 0 <;> by_cases h2 : j = 0 <;> simp [h1, h2]
/-- A list of texts that came in. -/
theorem strs_in {H : Type} {enc : TypeId × Value → H} {W : World} {fuel : Nat} {z : Value} {r : DataW H × List MemPlace} (h : DataW.trod enc Tryz.prog W 0 (fun _ => true) true fuel 22 [z] = some r) :
    ∃ (l : List ByteArray) (a : Option Addr) (cap : Nat), z = .slice a l.length cap ∧ SL W a l ∧ l.length ≤ Rows.uptoBulk r.1 := by
  rcases DataW.trod_slice Tryz.underlying22 h with ⟨hcs, rfl⟩ | ⟨a, len, cap, elems, rest, n', hn', hcs, rfl, _, hlc, hcm, hel, hget, hsp, _⟩
  · simp only [List.cons.injEq, and_true] at hcs
    subst hcs
    exact ⟨[], none, 0, rfl, (fun i hi => by cases hi), by simp⟩
  · simp only [List.cons.injEq, and_true] at hcs
    subst hcs
    rw [cells9] at hget
    have each : ∀ i, i < len → ∃ s : ByteArray, W.cell? ((a.add (i * 1)).add 0) = some (.string s) := by
      intro i hi
      have hi' : i < elems.length := by omega
      have hg := hget i hi
      rw [List.getElem?_eq_getElem hi', Option.bind_eq_some_iff] at hg
      obtain ⟨cs, hc1, hc2⟩ := hg
      obtain ⟨u0, rfl, k0⟩ := cells1 hc1
      obtain ⟨s, e1, _, _⟩ := DataW.trod_string Tryz.underlying9 hc2
      simp only [List.cons.injEq, and_true] at e1
      subst e1
      exact ⟨s, k0⟩
    obtain ⟨Q, hQ⟩ := choose_lt each
    refine ⟨(List.range len).map Q, some a, cap, by simp, fun i hi => ?_, ?_⟩
    · have hi' : i < len := by simpa using hi
      have h0 := hQ i hi'
      obtain ⟨b, o, sp⟩ := a
      have hsp := World.cell?_spot (hQ 0 (by omega))
      simp [Addr.add] at hsp
      subst hsp
      rw [add_add] at h0
      refine ⟨b, o, rfl, ?_⟩
      simpa using h0
    · have := bulk_len (elems.map (·.1))
      simp only [Rows.uptoBulk, List.length_map, List.length_range] at this ⊢
      omega

end Go.Proofs.YtmpiipcllgjhdaaGreatDoor
namespace Go.Proofs
open Go.Shelf
def Tryz.lays156_ren : Go.Shelf.Ren := ⟨fun | 156 => 84 | 165 => 117 | 166 => 118 | 169 => 119 | 240 => 139 | 241 => 140 | 276 => 152 | 277 => 153 | n => n, fun | 31 => 22 | 9 => 9 | 3 => 3 | 4 => 4 | 0 => 0 | 20 => 20 | 72 => 165 | 76 => 169 | 70 => 163 | 37 => 143 | 75 => 168 | 127 => 187 | 164 => 195 | 5 => 5 | 80 => 100 | n => n, fun | n => n⟩
theorem Tryz.lays156 : Go.Proofs.Lays.n156 Tryz.prog Tryz.lays156_ren := {
  mixed := by kernel_rfl
  f156 := Tryz.func84.trans (congrArg some (by kernel_rfl))
  f165 := Tryz.func117.trans (congrArg some (by kernel_rfl))
  f166 := Tryz.func118.trans (congrArg some (by kernel_rfl))
  f169 := Tryz.func119.trans (congrArg some (by kernel_rfl))
  f240 := Tryz.func139.trans (congrArg some (by kernel_rfl))
  f241 := Tryz.func140.trans (congrArg some (by kernel_rfl))
  f276 := Tryz.func152.trans (congrArg some (by kernel_rfl))
  f277 := Tryz.func153.trans (congrArg some (by kernel_rfl))
  t0 := Tryz.underlying0
  a0 := Tryz.isAgg0
  z0 := Tryz.sizeOf0
  v0 := Tryz.zeroValue0
  t3 := Tryz.underlying3
  a3 := Tryz.isAgg3
  z3 := Tryz.sizeOf3
  v3 := Tryz.zeroValue3
  t4 := Tryz.underlying4
  a4 := Tryz.isAgg4
  z4 := Tryz.sizeOf4
  v4 := Tryz.zeroValue4
  t9 := Tryz.underlying9
  a9 := Tryz.isAgg9
  z9 := Tryz.sizeOf9
  v9 := Tryz.zeroValue9
  t20 := Tryz.underlying20
  a20 := Tryz.isAgg20
  z20 := Tryz.sizeOf20
  v20 := Tryz.zeroValue20
  t31 := Tryz.underlying22
  a31 := Tryz.isAgg22
  z31 := Tryz.sizeOf22
  v31 := Tryz.zeroValue22
  t37 := Tryz.underlying143
  a37 := Tryz.isAgg143
  z37 := Tryz.sizeOf143
  v37 := Tryz.zeroValue143
  t70 := Tryz.underlying163
  a70 := Tryz.isAgg163
  z70 := Tryz.sizeOf163
  v70 := Tryz.zeroValue163
  t72 := Tryz.underlying165
  a72 := Tryz.isAgg165
  z72 := Tryz.sizeOf165
  v72 := Tryz.zeroValue165
  t75 := Tryz.underlying168
  a75 := Tryz.isAgg168
  z75 := Tryz.sizeOf168
  v75 := Tryz.zeroValue168
  t76 := Tryz.underlying169
  a76 := Tryz.isAgg169
  z76 := Tryz.sizeOf169
  v76 := Tryz.zeroValue169
  t127 := Tryz.underlying187
  a127 := Tryz.isAgg187
  z127 := Tryz.sizeOf187
  v127 := Tryz.zeroValue187
  t164 := Tryz.underlying195
  a164 := Tryz.isAgg195
  z164 := Tryz.sizeOf195
  v164 := Tryz.zeroValue195 }
theorem Tryz.Builder_Extra_156 : Builder.Extra Tryz.prog Tryz.lays156_ren := {
  sizeBuilder := by kernel_rfl
  liesBuilder := by kernel_rfl
  t5 := Tryz.underlying5
  a5 := Tryz.isAgg5
  z5 := Tryz.sizeOf5
  v5 := Tryz.zeroValue5
  infoByte := by kernel_rfl
  cellsByte := by kernel_rfl
  sizeByte := by kernel_rfl
  neB5 := by decide }
open Go.RowKit in
/-- No element: the empty string; the world is as it was. (Whatever the slice's address and capacity: a nil slice too.) (LAID: no walk: one application.) -/
theorem Tryz.strings_Join_none (a : Option Addr) (c : Nat) (sep : ByteArray) (w : World) :
    Calls Tryz.prog 84 #[.slice a 0 c, .string sep] w fun e w' => e = .returned (.string ⟨#[]⟩) ∧ w' = w := Any.strings_Join_none Tryz.lays156 Tryz.Builder_Extra_156 a c sep w
open Go.RowKit in
/-- strings.Join: "Join concatenates the elements of its first argument to create a single string. The separator string sep is placed between elements in the resulting string.": HOWEVER MANY ELEMENTS. Below the heap's end the world is as it was. (LAID: no walk: one application.) -/
theorem Tryz.strings_Join (bk o c : Nat) (xs : List ByteArray) (sep : ByteArray) (w : World) (hcells : ∀ (j : Nat) x, xs[j]? = some x → w.cell? ⟨bk, o + j, none⟩ = some (.string x)) (hbk : bk < w.heap.size) (hN : xs.length ≤ 140737488355328) (hcap : xs.length ≤ c) (hlen : (Lib.join (xs.map (·.data.toList)) sep.data.toList).length ≤ 140737488355328) :
    Calls Tryz.prog 84 #[.slice (some ⟨bk, o, none⟩) xs.length c, .string sep] w fun e w' => e = .returned (.string ⟨(Lib.join (xs.map (·.data.toList)) sep.data.toList).toArray⟩) ∧ Below w.heap.size w w' := Any.strings_Join Tryz.lays156 Tryz.Builder_Extra_156 bk o c xs sep w hcells hbk hN hcap hlen
end Go.Proofs
namespace Go.Proofs.YtmpiipcllgjhdaaGreatDoor
open Go.RowKit Go.Deep Go.PlainAid

/-- All texts of a list, one behind the other. -/
def catB (l : List ByteArray) : ByteArray := ⟨(l.flatMap (·.data.toList)).toArray⟩
theorem join_flat : ∀ l : List (List UInt8), Lib.join l [] = l.flatten
  | [] => rfl
  | [x] => by simp [Lib.join]
  | x :: y :: r => by
    have := join_flat (y :: r)
    simp only [Lib.join] at this ⊢
    simp_all
theorem catB_size : ∀ (l : List ByteArray) (S : Nat), (∀ x ∈ l, x.size = S) → (catB l).size = l.length * S
  | [], S, _ => by rw [List.length_nil, Nat.zero_mul]; rfl
  | x :: l, S, h => by
    have h1 := catB_size l S (fun y hy => h y (by simp [hy]))
    have h2 := h x (by simp)
    unfold catB at *
    simp only [ByteArray.size, List.flatMap_cons, List.size_toArray, List.length_append, List.length_cons] at *
    rw [h1, Nat.add_mul, Nat.one_mul, ← h2]
    simp
    omega
theorem join84 {w : World} {a : Option Addr} {c : Nat} {l : List ByteArray} (h : SK w a c l) (hn : l.length ≤ 1048576) (hs : (catB l).size ≤ 1048576) :
    Calls Tryz.prog 84 #[.slice a l.length c, .string ⟨#[]⟩] w fun e w' => e = .returned (.string (catB l)) ∧ Below w.heap.size w w' := by
  cases l with
  | nil => exact (Tryz.strings_Join_none a c ⟨#[]⟩ w).mono fun e w' ⟨he, hw⟩ => ⟨he, by rw [hw]; exact Below.refl _ _⟩
  | cons x r =>
    obtain ⟨b, o, rfl, hc⟩ := h.sl 0 (by simp)
    have e1 : Lib.join ((x :: r).map (·.data.toList)) (ByteArray.data ⟨#[]⟩).toList = (x :: r).flatMap (·.data.toList) := by
      show Lib.join _ [] = _
      rw [join_flat, List.flatMap_def]
    have key := Tryz.strings_Join b o c (x :: r) ⟨#[]⟩ w (fun j y hj => by
        obtain ⟨hlt, rfl⟩ := List.getElem?_eq_some_iff.1 hj
        obtain ⟨b', o', e, hc'⟩ := h.sl j hlt
        cases e
        exact hc') (cell_lt hc) (by omega) h.le (by
        rw [e1]
        have : (catB (x :: r)).size = ((x :: r).flatMap (·.data.toList)).length := List.size_toArray
        omega)
    rw [e1] at key
    exact key
end Go.Proofs.YtmpiipcllgjhdaaGreatDoor
namespace Go.Proofs.YtmpiipcllgjhdaaGreatDoor
open Go.RowKit Go.Deep Go.PlainAid

/-- Claims in memory, with the room of their lists. -/
def CK (w : World) (a : Option Addr) (l : List Cl) : Prop := ∀ i (h : i < l.length), ∃ b o a1 c1 a2 c2, a = some ⟨b, o, none⟩ ∧ w.cell? ⟨b, o + i * 2, none⟩ = some (.slice a1 (l[i]).1.length c1) ∧ w.cell? ⟨b, o + i * 2 + 1, none⟩ = some (.slice a2 (l[i]).2.length c2) ∧ SK w a1 c1 (l[i]).1 ∧ SK w a2 c2 (l[i]).2
theorem CK.cm {w : World} {a : Option Addr} {l : List Cl} (h : CK w a l) : CM w a l := fun i hi => by
  obtain ⟨b, o, a1, c1, a2, c2, e, h1, h2, h3, h4⟩ := h i hi
  exact ⟨b, o, a1, c1, a2, c2, e, h1, h2, h3.sl, h4.sl⟩
theorem CK.of_below {w w' : World} {a : Option Addr} {l : List Cl} (h : CK w a l) (hb : Below w.heap.size w w') : CK w' a l := fun i hi => by
  obtain ⟨b, o, a1, c1, a2, c2, e, h1, h2, h3, h4⟩ := h i hi
  exact ⟨b, o, a1, c1, a2, c2, e, cell_keep h1 hb, cell_keep h2 hb, h3.of_below hb, h4.of_below hb⟩
/-- What is said. -/
def sy (s label t : ByteArray) : ByteArray := F.tagB F.sayB [s, label, t]
theorem sy_size (s label t : ByteArray) : (sy s label t).size = 32 := F.tagB_size _ _
def lblB : ByteArray := ⟨#[108, 97, 98, 101, 108]⟩
def kndB : ByteArray := ⟨#[107, 105, 110, 100]⟩
def basB : ByteArray := ⟨#[98, 97, 115, 101, 115]⟩
def imgB : ByteArray := ⟨#[105, 109, 97, 103, 101, 115]⟩
def fstB : ByteArray := ⟨#[102, 105, 114, 115, 116]⟩
def sedB : ByteArray := ⟨#[115, 101, 101, 100]⟩
def kb (z : Int) : UInt8 := UInt8.ofNat (z % 256).toNat
def st0 (z : Int) (about label : ByteArray) : ByteArray := sy (sy (F.tagB F.talkB [about]) lblB label) kndB ⟨#[kb z]⟩
theorem st0_size (z : Int) (about label : ByteArray) : (st0 z about label).size = 32 := sy_size _ _ _
def tel1 (s : ByteArray) (t : Cl) : ByteArray := sy (sy s basB (catB t.1)) imgB (catB t.2)
def telS (l : List Cl) (s : ByteArray) : ByteArray := l.foldl tel1 s
def firS (q : List (List ByteArray)) (s : ByteArray) : ByteArray := q.foldl (fun s x => sy s fstB (catB x)) s
theorem telS_take {l : List Cl} {i : Nat} (h : i < l.length) (s : ByteArray) : telS (l.take (i + 1)) s = tel1 (telS (l.take i) s) l[i] := by
  unfold telS
  rw [List.take_succ_eq_append_getElem h, List.foldl_append]
  rfl
theorem firS_take {q : List (List ByteArray)} {i : Nat} (h : i < q.length) (s : ByteArray) : firS (q.take (i + 1)) s = sy (firS (q.take i) s) fstB (catB q[i]) := by
  unfold firS
  rw [List.take_succ_eq_append_getElem h, List.foldl_append]
  rfl
theorem telS_size {l : List Cl} {s : ByteArray} (h : s.size = 32) : (telS l s).size = 32 := by
  unfold telS
  induction l generalizing s with
  | nil => exact h
  | cons t l ih => exact ih (s := tel1 s t) (sy_size _ _ _)
theorem firS_size {q : List (List ByteArray)} {s : ByteArray} (h : s.size = 32) : (firS q s).size = 32 := by
  unfold firS
  induction q generalizing s with
  | nil => exact h
  | cons t l ih => exact ih (s := sy s fstB (catB t)) (sy_size _ _ _)
/-- A talk, in a memory that keeps what lay below n. -/
structure TW (n : Nat) (w0 w : World) (tb : Nat) (s : ByteArray) : Prop where
  at_ : TB w tb s
  bl : Below n w0 w
  le : n ≤ tb
  sz : s.size = 32
theorem say_TW {n : Nat} {w0 w : World} {tb : Nat} {s label t : ByteArray} (h : TW n w0 w tb s) (h3 : 3 < n) (hl : label.size < 1125899906842624) (ht : t.size < 1125899906842624) :
    Calls Tryz.prog 83 #[.pointer (some ⟨tb, 0, none⟩), .string label, .string t] w fun e w' => e = .returned (.tuple #[]) ∧ TW n w0 w' tb (sy s label t) ∧ F.But tb w w' :=
  (say_TB h.sz hl ht (by have := h.le; omega) h.at_).mono fun e w' ⟨h1, h2, h4⟩ => ⟨h1, ⟨h2, h.bl.trans (But.low h4 h.le (by have := h.at_.t.lt; have := h.le; omega)), h.le, sy_size _ _ _⟩, h4⟩
theorem TW.below {n : Nat} {w0 w w' : World} {tb : Nat} {s : ByteArray} (h : TW n w0 w tb s) (hb : Below w.heap.size w w') : TW n w0 w' tb s :=
  ⟨h.at_.below hb, h.bl.trans (hb.mono (by have := h.at_.t.lt; have := h.le; omega)), h.le, h.sz⟩
theorem kb_convert (z : Int) (w : World) : (convert 143 9 (.slice (some ⟨w.heap.size, 0, none⟩) 1 1)).run Tryz.prog (w.alloc (.cells #[Value.int .u8 (z % 256)] 5)) = .ok (.string ⟨#[kb z]⟩) (w.alloc (.cells #[Value.int .u8 (z % 256)] 5)) := by
  have e : #[Value.int .u8 (z % 256)] = F.barr [kb z] := by
    have h0 : 0 ≤ z % 256 := Int.emod_nonneg _ (by omega)
    have h1 : z % 256 < 256 := Int.emod_lt_of_pos _ (by omega)
    simp only [F.barr, List.map_cons, List.map_nil]
    congr 2
    unfold F.Y kb
    congr 1
    rw [UInt8.toNat_ofNat']
    omega
  rw [e]
  have hv := F.BHolds.new w 5 [kb z]
  have hcv := run_convert_bytes_arg (P := Tryz.prog) (w.alloc (.cells (F.barr [kb z]) 5)) 143 5 Tryz.underlying143 Tryz.underlying5 w.heap.size 0 1 1 ([kb z].map fun x => (x.toNat : Int)) (by simp) (fun j hj => by
    obtain rfl : j = 0 := by omega
    rw [Nat.zero_add, hv.cell 0 hj]; simp) 9 Tryz.underlying9
  rw [Lib.Lz.strOfNums_map] at hcv
  exact hcv
set_option maxHeartbeats 1000000 in
theorem talk78 {w : World} {z : Int} {about label : ByteArray} (hT : TT w) (ha : about.size < 1125899906842624) (hl : label.size < 1125899906842624) :
    Calls Tryz.prog 78 #[.agg #[.int .i64 z], .string about, .string label] w fun e w' => (∃ b, e = .returned (.pointer (some ⟨b, 0, none⟩)) ∧ TW w.heap.size w w' b (st0 z about label)) := by
  obtain ⟨U, hU⟩ : ∃ U, U = w.alloc (.cells #[.int .i64 z] 51) := ⟨_, rfl⟩
  have BU : Hid (Below w.heap.size w U) := by rw [hU]; exact (Below.refl _ _).alloc (Nat.le_refl _) _
  have IU : Hid (IHolds U w.heap.size 51 [.int .i64 z]) := by rw [hU]; exact IHolds.new _ _ _
  have h3 : 3 < w.heap.size := hT.T.size
  have TU : Hid (TT U) := hT.below BU.out
  have HC : Hid (∀ V : World, (convert 143 9 (.slice (some ⟨V.heap.size, 0, none⟩) 1 1)).run Tryz.prog (V.alloc (.cells #[Value.int .u8 (z % 256)] 5)) = .ok (.string ⟨#[kb z]⟩) (V.alloc (.cells #[Value.int .u8 (z % 256)] 5))) := fun V => kb_convert z V
  have HK : Hid (ByteArray.size ⟨#[kb z]⟩ = 1) := by show _ = _; rfl
  have HS : Hid (∀ x, st0 z about label = x → st0 z about label = x) := fun _ h => h
  clear hT
  go_enter Tryz.func78, Tryz.ntmps78
  go_wp2_with fail
  rw [← hU]
  clear hU
  go_wp2_with (first
    | (go_at_call 116; refine (newTalk_TT ha TU.out).mono ?_; rintro e V1 ⟨⟨b, rfl, hb, hA⟩, hB⟩; have A1 : Hid (TW w.heap.size w V1 b (F.tagB F.talkB [about])) := ⟨hA, BU.out.trans (hB.mono BU.out.size), Nat.le_trans BU.out.size hb, F.tagB_size _ _⟩; have I1 : Hid (IHolds V1 w.heap.size 51 [.int .i64 z]) := IU.out.of_below hB; have NB1 : Hid (w.heap.size ≠ b) := (by have := IU.out.lt; show _ ≠ _; omega); clear hb hA hB)
    | (go_at_call 83; refine (say_TW A1.out h3 (by decide) hl).mono ?_; rintro e V2 ⟨rfl, hA, hB⟩; have A2 : Hid (TW w.heap.size w V2 b (sy (F.tagB F.talkB [about]) lblB label)) := hA; have I2 : Hid (IHolds V2 w.heap.size 51 [.int .i64 z]) := I1.out.offB hB NB1.out; have c2 := I2.out.cell 0 (by simp); have hcv := HC.out V2; have A3 : Hid (TW w.heap.size w (V2.alloc (.cells #[Value.int .u8 (z % 256)] 5)) b (sy (F.tagB F.talkB [about]) lblB label)) := hA.below ((Below.refl _ _).alloc (Nat.le_refl _) _); clear hA hB A1)
    | (go_at_call 83; refine (say_TW A3.out h3 (by decide) (by rw [HK.out]; decide)).mono ?_; rintro e V3 ⟨rfl, hA, hB⟩; have A4 : Hid (TW w.heap.size w V3 b (st0 z about label)) := hA; clear hA hB A3)
    | fail)
  go_ret
  exact ⟨b, rfl, A4.out⟩
end Go.Proofs.YtmpiipcllgjhdaaGreatDoor
namespace Go.Proofs.YtmpiipcllgjhdaaGreatDoor
open Go.RowKit Go.Deep Go.PlainAid

/-- Lists whose texts together are short. -/
structure Zl (l : List ByteArray) : Prop where
  n : l.length ≤ 1048576
  s : (catB l).size ≤ 1048576
theorem Zl.of {S : Nat} {l : List ByteArray} (hS : S ≤ 32) (hn : l.length ≤ 64) (h : ∀ x ∈ l, x.size = S) : Zl l := by
  refine ⟨by omega, ?_⟩
  rw [catB_size l S h]
  exact Nat.le_trans (Nat.mul_le_mul hn hS) (by omega)
set_option maxHeartbeats 2000000 in
theorem tell79 {w0 w : World} {tb : Nat} {s : ByteArray} {a : Option Addr} {l : List Cl} {c : Nat} {z : Int} (h : TW w0.heap.size w0 w tb s) (h3 : 3 < w0.heap.size) (hl : l.length ≤ 64) (hC : CK w0 a l) (hz : ∀ i (h : i < l.length), Zl (l[i]).1 ∧ Zl (l[i]).2) :
    Calls Tryz.prog 79 #[.agg #[.int .i64 z, .slice a l.length c], .pointer (some ⟨tb, 0, none⟩)] w fun e w' => e = .returned (.tuple #[]) ∧ TW w0.heap.size w0 w' tb (telS l s) ∧ F.But tb w w' := by
  obtain ⟨U, hU⟩ : ∃ U, U = w.alloc (.cells #[.int .i64 z, .slice a l.length c] 53) := ⟨_, rfl⟩
  have BU : Hid (Below w.heap.size w U) := by rw [hU]; exact (Below.refl _ _).alloc (Nat.le_refl _) _
  have A0 : Hid (TW w0.heap.size w0 U tb s) := h.below BU.out
  have HC : Hid (CK w0 a l) := hC
  have HZ : Hid (∀ i (h : i < l.length), Zl (l[i]).1 ∧ Zl (l[i]).2) := hz
  have K0 : Hid (F.But tb w U) := (F.But.refl tb w).of_below BU.out
  clear h hC hz
  go_enter Tryz.func79, Tryz.ntmps79
  go_wp2_with fail
  rw [← hU]
  clear hU
  go_loopg [5, 9] l.length (fun gk v5 v9 wr => ∃ i : Nat, i + gk = l.length ∧ v9 = .int .i64 (i : Int) ∧ TW w0.heap.size w0 wr tb (telS (l.take i) s) ∧ F.But tb w wr)
  case atStart => exact ⟨0, by omega, rfl, by simpa [telS] using A0.out, K0.out⟩
  case round =>
    obtain ⟨i, hig, rfl, hA, hK⟩ := hrel
    have A : Hid (TW w0.heap.size w0 wr tb (telS (l.take i) s)) := hA
    have K : Hid (F.But tb w wr) := hK
    clear hA hK A0 K0
    by_cases hi : i < l.length
    · have il : (i : Int) < (l.length : Int) := by omega
      obtain ⟨b, o, a1, c1, a2, c2, rfl, p1, p2, s1, s2⟩ := HC.out i hi
      have q1 := cell_keep p1 A.out.bl
      have q2 := cell_keep p2 A.out.bl
      clear p1 p2
      obtain ⟨z1, z2⟩ := HZ.out i hi
      have ET : Hid (telS (l.take (i + 1)) s = tel1 (telS (l.take i) s) l[i]) := telS_take hi s
      generalize telS (l.take i) s = st at *
      generalize l[i] = t at *
      obtain ⟨t1, t2⟩ := t
      dsimp only at q1 q2 s1 s2 z1 z2
      obtain ⟨W1, hW1⟩ : ∃ W1, W1 = wr.alloc (.cells #[.slice a1 t1.length c1, .slice a2 t2.length c2] 36) := ⟨_, rfl⟩
      have BW : Hid (Below wr.heap.size wr W1) := by rw [hW1]; exact (Below.refl _ _).alloc (Nat.le_refl _) _
      have IW : Hid (IHolds W1 wr.heap.size 36 [.slice a1 t1.length c1, .slice a2 t2.length c2]) := by rw [hW1]; exact IHolds.new _ _ _
      have A1 : Hid (TW w0.heap.size w0 W1 tb st) := A.out.below BW.out
      have K1 : Hid (F.But tb w W1) := K.out.of_below BW.out
      have NE : Hid (wr.heap.size ≠ tb) := by have := A.out.at_.t.lt; show _ ≠ _; omega
      have J1 : Hid (Calls Tryz.prog 84 #[.slice a1 t1.length c1, .string ⟨#[]⟩] W1 fun e w' => e = .returned (.string (catB t1)) ∧ Below W1.heap.size W1 w') := join84 (s1.of_below A1.out.bl) z1.n z1.s
      have J2 : Hid (∀ V, Below w0.heap.size w0 V → Calls Tryz.prog 84 #[.slice a2 t2.length c2, .string ⟨#[]⟩] V fun e w' => e = .returned (.string (catB t2)) ∧ Below V.heap.size V w') := fun V hV => join84 (s2.of_below hV) z2.n z2.s
      have zs1 : Hid ((catB t1).size < 1125899906842624) := by have := z1.s; show _ < _; omega
      have zs2 : Hid ((catB t2).size < 1125899906842624) := by have := z2.s; show _ < _; omega
      clear s1 s2 z1 z2 A K
      go_upto_region 4 with fail
      rw [← hW1]
      have k0 := IW.out.cell 0 (by simp)
      clear hW1 q1 q2
      go_wp2_with (first
        | (go_at_call 84; refine (J1.out).mono ?_; rintro e V1 ⟨rfl, hB⟩; have A2 : Hid (TW w0.heap.size w0 V1 tb st) := A1.out.below hB; have K2 : Hid (F.But tb w V1) := K1.out.of_below hB; have I2 : Hid (IHolds V1 wr.heap.size 36 [.slice a1 t1.length c1, .slice a2 t2.length c2]) := IW.out.of_below hB; clear hB J1 A1 K1 IW k0)
        | (go_at_call 83; refine (say_TW A2.out h3 (by decide) zs1.out).mono ?_; rintro e V2 ⟨rfl, hA, hB⟩; have A3 : Hid (TW w0.heap.size w0 V2 tb (sy st basB (catB t1))) := hA; have K3 : Hid (F.But tb w V2) := K2.out.trans hB; have k1 := (I2.out.offB hB NE.out).cell 1 (by simp); clear hA hB A2 K2 I2 zs1)
        | (go_at_call 84; refine (J2.out _ A3.out.bl).mono ?_; rintro e V3 ⟨rfl, hB⟩; have A4 : Hid (TW w0.heap.size w0 V3 tb (sy st basB (catB t1))) := A3.out.below hB; have K4 : Hid (F.But tb w V3) := K3.out.of_below hB; clear hB J2 A3 K3 k1)
        | (go_at_call 83; refine (say_TW A4.out h3 (by decide) zs2.out).mono ?_; rintro e V4 ⟨rfl, hA, hB⟩; have A5 : Hid (TW w0.heap.size w0 V4 tb (sy (sy st basB (catB t1)) imgB (catB t2))) := hA; have K5 : Hid (F.But tb w V4) := K4.out.trans hB; clear hA hB A4 K4)
        | fail)
      go_roundg (gk - 1)
      case measure => omega
      case rel => exact ⟨i + 1, by omega, by go_num, by rw [ET.out]; exact A5.out, K5.out⟩
    · have il : ¬ (i : Int) < (l.length : Int) := by omega
      have e : l.take i = l := List.take_of_length_le (by omega)
      rw [e] at A
      clear e
      go_wp2_with fail
      go_end0
      exact ⟨rfl, A.out, K.out⟩
set_option maxHeartbeats 1000000 in
theorem talk43 {w : World} {a : Option Addr} {l : List Cl} {c : Nat} {z : Int} {label : ByteArray} (hT : TT w) (hlb : label.size < 1125899906842624) (hl : l.length ≤ 64) (hC : CK w a l) (hz : ∀ i (h : i < l.length), Zl (l[i]).1 ∧ Zl (l[i]).2) :
    Calls Tryz.prog 43 #[.agg #[.int .i64 z, .slice a l.length c], .string label] w fun e w' => ∃ b, e = .returned (.pointer (some ⟨b, 0, none⟩)) ∧ TW w.heap.size w w' b (telS l (st0 z ⟨#[99, 108, 97, 105, 109, 115]⟩ label)) := by
  obtain ⟨U, hU⟩ : ∃ U, U = w.alloc (.cells #[.int .i64 z, .slice a l.length c] 53) := ⟨_, rfl⟩
  have BU : Hid (Below w.heap.size w U) := by rw [hU]; exact (Below.refl _ _).alloc (Nat.le_refl _) _
  have IU : Hid (IHolds U w.heap.size 53 [.int .i64 z, .slice a l.length c]) := by rw [hU]; exact IHolds.new _ _ _
  have h3 : 3 < w.heap.size := hT.T.size
  have H78 : Hid (Calls Tryz.prog 78 #[.agg #[.int .i64 z], .string ⟨#[99, 108, 97, 105, 109, 115]⟩, .string label] U fun e w' => (∃ b, e = .returned (.pointer (some ⟨b, 0, none⟩)) ∧ TW U.heap.size U w' b (st0 z ⟨#[99, 108, 97, 105, 109, 115]⟩ label))) := talk78 (hT.below BU.out) (by decide) hlb
  have H79 : Hid (∀ V tb s, TW w.heap.size w V tb s → Calls Tryz.prog 79 #[.agg #[.int .i64 z, .slice a l.length c], .pointer (some ⟨tb, 0, none⟩)] V fun e w' => e = .returned (.tuple #[]) ∧ TW w.heap.size w w' tb (telS l s) ∧ F.But tb V w') := fun V tb s hA => tell79 hA h3 hl hC hz
  have c0 := IU.out.cell 0 (by simp)
  have c1 := IU.out.cell 1 (by simp)
  clear hT hC hz
  generalize hst : st0 z ⟨#[99, 108, 97, 105, 109, 115]⟩ label = st at *
  have HST : Hid (st0 z ⟨#[99, 108, 97, 105, 109, 115]⟩ label = st) := hst
  clear hst
  go_enter Tryz.func43, Tryz.ntmps43
  go_upto_region 1 with fail
  rw [← hU]
  clear hU
  go_wp2_with (first
    | (go_at_call 78; refine (H78.out).mono ?_; rintro e V1 ⟨b, rfl, hA⟩; have A1 : Hid (TW w.heap.size w V1 b st) := ⟨hA.at_, BU.out.trans (hA.bl.mono BU.out.size), Nat.le_trans BU.out.size hA.le, hA.sz⟩; have d0 := (IU.out.of_below hA.bl).cell 0 (by simp); have d1 := (IU.out.of_below hA.bl).cell 1 (by simp); clear hA H78 c0 c1)
    | (go_at_call 79; refine (H79.out _ _ _ A1.out).mono ?_; rintro e V2 ⟨rfl, hA, hB⟩; have A2 : Hid (TW w.heap.size w V2 b (telS l st)) := hA; clear hA hB A1 H79)
    | fail)
  go_ret
  exact ⟨b, rfl, A2.out⟩
theorem SLL.off {w w' : World} {a : Option Addr} {q : List (List ByteArray)} {tb : Nat} {s : ByteArray} (h : SLL w a q) (hT : F.TAt w tb s) (hb : F.But tb w w') : SLL w' a q := fun i hi => by
  obtain ⟨b, o, a', c', e, hc, hs⟩ := h i hi
  have nt : ∀ b o x y z, w.cell? ⟨b, o, none⟩ = some (.slice x y z) → b ≠ tb := fun b o x y z hc e => by
    subst e
    unfold F.TAt at hT
    simp only [World.cell?, hT] at hc
    match o, hc with
    | 0, hc => simp at hc
    | o + 1, hc => simp at hc
  have ny : ∀ b o, a' = some ⟨b, o, none⟩ → b ≠ tb := fun b o e e2 => by
    obtain ⟨cs, fz, q⟩ := hs.ty b o e
    subst e2
    unfold F.TAt at hT
    rw [hT] at q
    cases q
  refine ⟨b, o, a', c', e, (hb.cell (cell_lt hc) (nt _ _ _ _ _ hc) _).trans hc, ⟨⟨fun j hj => ?_, hs.sk.le⟩, fun b1 o1 e1 => ?_⟩⟩
  · obtain ⟨b1, o1, e1, h1⟩ := hs.sk.sl j hj
    exact ⟨b1, o1, e1, (hb.cell (cell_lt h1) (ny _ _ e1) _).trans h1⟩
  · obtain ⟨cs, fz, q⟩ := hs.ty b1 o1 e1
    exact ⟨cs, fz, (hb.block b1 (Array.getElem?_eq_some_iff.1 q).1 (ny _ _ e1)).trans q⟩
set_option maxHeartbeats 1000000 in
theorem tellFirsts46 {w0 w : World} {tb : Nat} {s : ByteArray} {a : Option Addr} {q : List (List ByteArray)} {c : Nat} (h : TW w0.heap.size w0 w tb s) (h3 : 3 < w0.heap.size) (hl : q.length ≤ 64) (hC : SLL w a q) (hz : ∀ i (h : i < q.length), Zl q[i]) :
    Calls Tryz.prog 46 #[.pointer (some ⟨tb, 0, none⟩), .slice a q.length c] w fun e w' => e = .returned (.tuple #[]) ∧ TW w0.heap.size w0 w' tb (firS q s) ∧ F.But tb w w' := by
  have A0 : Hid (TW w0.heap.size w0 w tb s) := h
  have HC : Hid (∀ V, F.But tb w V → SLL V a q) := fun V hV => SLL.off hC h.at_.t hV
  have HZ : Hid (∀ i (h : i < q.length), Zl q[i]) := hz
  clear h hC hz
  go_enter Tryz.func46, Tryz.ntmps46
  go_wp2_with fail
  go_loopg [5, 8] q.length (fun gk v5 v8 wr => ∃ i : Nat, i + gk = q.length ∧ v8 = .int .i64 (i : Int) ∧ TW w0.heap.size w0 wr tb (firS (q.take i) s) ∧ F.But tb w wr)
  case atStart => exact ⟨0, by omega, rfl, by simpa [firS] using A0.out, F.But.refl _ _⟩
  case round =>
    obtain ⟨i, hig, rfl, hA, hK⟩ := hrel
    have A : Hid (TW w0.heap.size w0 wr tb (firS (q.take i) s)) := hA
    have K : Hid (F.But tb w wr) := hK
    clear hA hK A0
    by_cases hi : i < q.length
    · have il : (i : Int) < (q.length : Int) := by omega
      obtain ⟨b, o, a1, c1, rfl, q1, s1⟩ := HC.out wr K.out i hi
      replace s1 := s1.sk
      have z1 := HZ.out i hi
      have ET : Hid (firS (q.take (i + 1)) s = sy (firS (q.take i) s) fstB (catB q[i])) := firS_take hi s
      generalize firS (q.take i) s = st at *
      generalize q[i] = t at *
      have J1 : Hid (Calls Tryz.prog 84 #[.slice a1 t.length c1, .string ⟨#[]⟩] wr fun e w' => e = .returned (.string (catB t)) ∧ Below wr.heap.size wr w') := join84 s1 z1.n z1.s
      have zs1 : Hid ((catB t).size < 1125899906842624) := by have := z1.s; show _ < _; omega
      clear s1 z1
      go_wp2_with (first
        | (go_at_call 84; refine (J1.out).mono ?_; rintro e V1 ⟨rfl, hB⟩; have A2 : Hid (TW w0.heap.size w0 V1 tb st) := A.out.below hB; have K2 : Hid (F.But tb w V1) := K.out.of_below hB; clear hB J1 A K)
        | (go_at_call 83; refine (say_TW A2.out h3 (by decide) zs1.out).mono ?_; rintro e V2 ⟨rfl, hA, hB⟩; have A3 : Hid (TW w0.heap.size w0 V2 tb (sy st fstB (catB t))) := hA; have K3 : Hid (F.But tb w V2) := K2.out.trans hB; clear hA hB A2 K2 zs1)
        | fail)
      go_roundg (gk - 1)
      case measure => omega
      case rel => exact ⟨i + 1, by omega, by go_num, by rw [ET.out]; exact A3.out, K3.out⟩
    · have il : ¬ (i : Int) < (q.length : Int) := by omega
      have e : q.take i = q := List.take_of_length_le (by omega)
      rw [e] at A
      clear e
      go_wp2_with fail
      go_end0
      exact ⟨rfl, A.out, K.out⟩
theorem seeded45 {w : World} {tb : Nat} {s seed : ByteArray} (h : TB w tb s) (hs : s.size = 32) (hd : seed.size < 1125899906842624) :
    Calls Tryz.prog 45 #[.pointer (some ⟨tb, 0, none⟩), .string seed] w fun e w' => e = .returned (.pointer (some ⟨w.heap.size, 0, none⟩)) ∧ TW w.heap.size w w' w.heap.size (sy s sedB seed) ∧ TB w' tb s := by
  have H : Hid (TB w tb s) := h
  have h3 : 3 < w.heap.size := h.T.size
  have hlt : tb < w.heap.size := h.t.lt
  clear h
  go_enter Tryz.func45, Tryz.ntmps45
  go_wp2_with (first
    | (go_at_call 82; refine (fork_TB H.out).mono ?_; rintro e V1 ⟨rfl, h1, h2, hB⟩; have A1 : Hid (TW w.heap.size w V1 w.heap.size s) := ⟨h1, hB, Nat.le_refl _, hs⟩; have T1 : Hid (TB V1 tb s) := h2; clear h1 h2 hB)
    | (go_at_call 83; refine (say_TW A1.out h3 (by decide) hd).mono ?_; rintro e V2 ⟨rfl, hA, hB⟩; have A2 : Hid (TW w.heap.size w V2 w.heap.size (sy s sedB seed)) := hA; have T2 : Hid (TB V2 tb s) := ⟨T1.out.t.of_but hB (by omega), hA.at_.T, hA.at_.S⟩; clear hA hB A1 T1)
    | fail)
  go_ret
  exact ⟨rfl, A2.out, T2.out⟩
end Go.Proofs.YtmpiipcllgjhdaaGreatDoor
