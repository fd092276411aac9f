/- What is done. -/
import Derived.Test.YtafekaonmpkhiaaCk
import Derived.Deep.RegionHeld3
import Derived.Laws.EntriesVeiled
set_option linter.unusedSimpArgs false
set_option linter.unusedVariables false
set_option maxRecDepth 100000
namespace Go.Proofs.Ytafekaonmpkhiaa
open Go.Maps Go.WideMaps Go.RowKit Go.Deep Go.PlainAid

theorem newL_1 (nm : ByteArray) (r : BR) (h : Hd) : newL 1 nm r h = [.string h.box, .int .i64 h.cnt, .string h.who, .string h.sl, .int .i64 (stZ r), .string r.under] := by unfold newL; rfl
theorem doesN1 {w : World} {b : Nat} {nm : ByteArray} {r : BR} {h : Hd} (hi : IHolds w b 68 [.string nm, .int .i64 r.count, .string r.holder, .string r.sl, .int .i64 (stZ r), .string r.under]) :
    Calls Try.prog 23 #[.pointer (some ⟨b, 0, none⟩), .agg #[.int .i64 h.act, .string h.box, .string h.who, .string h.to_, .int .i64 h.cnt, .string h.sl]] w fun e w' => e = .returned (.tuple #[]) ∧ IHolds w' b 68 (newL 1 nm r h) ∧ w.grownBy w' (some b) := by
  rw [newL_1]
  exact does23 hi
theorem newL_2 (nm : ByteArray) (r : BR) (h : Hd) : newL 2 nm r h = [.string nm, .int .i64 r.count, .string r.holder, .string r.sl, .int .i64 1, .string h.to_] := by unfold newL; rfl
theorem doesN2 {w : World} {b : Nat} {nm : ByteArray} {r : BR} {h : Hd} (hi : IHolds w b 68 [.string nm, .int .i64 r.count, .string r.holder, .string r.sl, .int .i64 (stZ r), .string r.under]) :
    Calls Try.prog 24 #[.pointer (some ⟨b, 0, none⟩), .agg #[.int .i64 h.act, .string h.box, .string h.who, .string h.to_, .int .i64 h.cnt, .string h.sl]] w fun e w' => e = .returned (.tuple #[]) ∧ IHolds w' b 68 (newL 2 nm r h) ∧ w.grownBy w' (some b) := by
  rw [newL_2]
  exact does24 hi
theorem newL_3 (nm : ByteArray) (r : BR) (h : Hd) : newL 3 nm r h = [.string nm, .int .i64 r.count, .string h.who, .string r.sl, .int .i64 0, .string ⟨#[]⟩] := by unfold newL; rfl
theorem doesN3 {w : World} {b : Nat} {nm : ByteArray} {r : BR} {h : Hd} (hi : IHolds w b 68 [.string nm, .int .i64 r.count, .string r.holder, .string r.sl, .int .i64 (stZ r), .string r.under]) :
    Calls Try.prog 25 #[.pointer (some ⟨b, 0, none⟩), .agg #[.int .i64 h.act, .string h.box, .string h.who, .string h.to_, .int .i64 h.cnt, .string h.sl]] w fun e w' => e = .returned (.tuple #[]) ∧ IHolds w' b 68 (newL 3 nm r h) ∧ w.grownBy w' (some b) := by
  rw [newL_3]
  exact does25 hi
theorem newL_4 (nm : ByteArray) (r : BR) (h : Hd) : newL 4 nm r h = [.string nm, .int .i64 r.count, .string r.holder, .string ⟨#[]⟩, .int .i64 2, .string r.under] := by unfold newL; rfl
theorem doesN4 {w : World} {b : Nat} {nm : ByteArray} {r : BR} {h : Hd} (hi : IHolds w b 68 [.string nm, .int .i64 r.count, .string r.holder, .string r.sl, .int .i64 (stZ r), .string r.under]) :
    Calls Try.prog 26 #[.pointer (some ⟨b, 0, none⟩), .agg #[.int .i64 h.act, .string h.box, .string h.who, .string h.to_, .int .i64 h.cnt, .string h.sl]] w fun e w' => e = .returned (.tuple #[]) ∧ IHolds w' b 68 (newL 4 nm r h) ∧ w.grownBy w' (some b) := by
  rw [newL_4]
  exact does26 hi
theorem newL_5 (nm : ByteArray) (r : BR) (h : Hd) : newL 5 nm r h = [.string nm, .int .i64 h.cnt, .string r.holder, .string h.sl, .int .i64 0, .string r.under] := by unfold newL; rfl
theorem doesN5 {w : World} {b : Nat} {nm : ByteArray} {r : BR} {h : Hd} (hi : IHolds w b 68 [.string nm, .int .i64 r.count, .string r.holder, .string r.sl, .int .i64 (stZ r), .string r.under]) :
    Calls Try.prog 27 #[.pointer (some ⟨b, 0, none⟩), .agg #[.int .i64 h.act, .string h.box, .string h.who, .string h.to_, .int .i64 h.cnt, .string h.sl]] w fun e w' => e = .returned (.tuple #[]) ∧ IHolds w' b 68 (newL 5 nm r h) ∧ w.grownBy w' (some b) := by
  rw [newL_5]
  exact does27 hi
set_option maxHeartbeats 8000000 in
theorem do19_1 {l : List Hd} {h : Hd} {cb bm bs : Nat} {w : World} (hc : CU w cb bm bs l) (i : Inv1 l) (e : handC l h = 0) (a : h.act = 1) (hs : Hs h) (hl : l.length < 140737488355328) :
    Calls Try.prog 19 #[.pointer (some ⟨cb, 0, none⟩), d1, HV h] w fun e w' => e = .returned (.tuple #[]) ∧ CU w' cb bm bs (l ++ [h]) ∧ FR w w' bm bs := by
  have L1 : Hid (∀ V, Below w.heap.size w V → (Instr.lookup 42 (.map (some bm)) (.string h.box) false).run Try.prog V = .ok (.agg #[.string (nmOf l h.box), .int .i64 (bx l h.box).count, .string (bx l h.box).holder, .string (bx l h.box).sl, .int .i64 (stZ (bx l h.box)), .string (bx l h.box).under]) V) := fun V hV => (hc.of_below hV).look1 i hs.b
  have CC : Hid (∀ V, Below w.heap.size w V → V.cell? ⟨cb, 0, none⟩ = some (.map (some bm)) ∧ V.cell? ⟨cb, 1, none⟩ = some (.map (some bs))) := fun V hV => ⟨(hc.of_below hV).c.cell 0 (by simp), (hc.of_below hV).c.cell 1 (by simp)⟩
  have CV : Hid (∀ V, Below w.heap.size w V → CH V cb bm bs l l) := fun V hV => (hc.of_below hV).ch
  obtain ⟨nq, _⟩ := newL_eq i e
  have nq2 : newL 1 (nmOf l h.box) (bx l h.box) h = [.string h.box, .int .i64 (bact (bx l h.box) h).count, .string (bact (bx l h.box) h).holder, .string (bact (bx l h.box) h).sl, .int .i64 (stZ (bact (bx l h.box) h)), .string (bact (bx l h.box) h).under] := by
    have z := nq
    rw [a] at z
    exact z
  have DOES : Hid (∀ V b, IHolds V b 68 [.string (nmOf l h.box), .int .i64 (bx l h.box).count, .string (bx l h.box).holder, .string (bx l h.box).sl, .int .i64 (stZ (bx l h.box)), .string (bx l h.box).under] → Calls Try.prog 23 #[.pointer (some ⟨b, 0, none⟩), .agg #[.int .i64 h.act, .string h.box, .string h.who, .string h.to_, .int .i64 h.cnt, .string h.sl]] V fun e w' => e = .returned (.tuple #[]) ∧ IHolds w' b 68 [.string h.box, .int .i64 (bact (bx l h.box) h).count, .string (bact (bx l h.box) h).holder, .string (bact (bx l h.box) h).sl, .int .i64 (stZ (bact (bx l h.box) h)), .string (bact (bx l h.box) h).under] ∧ V.grownBy w' (some b)) := fun V b hb => by
    have q := doesN1 (h := h) hb
    rw [nq2] at q
    exact q
  have BOX : Hid (∀ V, CH V cb bm bs l l → ∃ W9, (Instr.mapUpdate 42 (.map (some bm)) (.string h.box) (.agg #[.string h.box, .int .i64 (bact (bx l h.box) h).count, .string (bact (bx l h.box) h).holder, .string (bact (bx l h.box) h).sl, .int .i64 (stZ (bact (bx l h.box) h)), .string (bact (bx l h.box) h).under])).run Try.prog V = .ok () W9 ∧ CH W9 cb bm bs (l ++ [h]) l ∧ V.grownBy W9 (some bm)) := fun V hV => hV.box i e hs.b
  have SEAL : Hid (∀ V, CH V cb bm bs (l ++ [h]) l → ∃ W9, (Instr.mapUpdate 43 (.map (some bs)) (.string h.sl) (.agg #[])).run Try.prog V = .ok () W9 ∧ CH W9 cb bm bs (l ++ [h]) (l ++ [h]) ∧ V.grownBy W9 (some bs)) := fun V hV => hV.seal (by omega) hl hs.s
  have SL : Hid (∀ V, Calls Try.prog 33 #[.agg #[.bool true, .int .i64 0, .bool false, .bool true, .bool false, .func (.func 23) #[] #[]]] V fun e w' => e = .returned (.bool true) ∧ Below V.heap.size V w') := fun V => seals33 true 0 false true false 23 V
  have n1 := hc.c.lt
  have n2 := hc.ch.bm_lt
  have n3 := hc.ch.bs_lt
  have n4 := hc.n1
  have n5 := hc.n2
  have NN : Hid (cb < w.heap.size ∧ bm < w.heap.size ∧ bs < w.heap.size ∧ cb ≠ bm ∧ cb ≠ bs) := ⟨n1, n2, n3, n4, n5⟩
  clear hc i e hs hl nq nq2 n1 n2 n3 n4 n5
  unfold d1 DV HV
  generalize nmOf l h.box = nm at *
  generalize (bact (bx l h.box) h).count = m1 at *
  generalize (bact (bx l h.box) h).holder = m2 at *
  generalize (bact (bx l h.box) h).sl = m3 at *
  generalize stZ (bact (bx l h.box) h) = m4 at *
  generalize (bact (bx l h.box) h).under = m5 at *
  generalize (bx l h.box).count = r1 at *
  generalize (bx l h.box).sl = r3 at *
  generalize (bx l h.box).holder = r2 at *
  generalize (bx l h.box).under = r5 at *
  generalize stZ (bx l h.box) = r4 at *
  generalize l ++ [h] = lh at *
  generalize h.box = s1 at *
  generalize h.who = s2 at *
  generalize h.to_ = s3 at *
  generalize h.sl = s5 at *
  generalize h.cnt = x4 at *
  generalize h.act = x0 at *
  have B : Hid (Below w.heap.size w ((w.alloc (.cells #[.bool true, .int .i64 0, .bool false, .bool true, .bool false, .func (.func 23) #[] #[]] 51)).alloc (.cells #[.int .i64 x0, .string s1, .string s2, .string s3, .int .i64 x4, .string s5] 26))) := ((Below.refl _ _).alloc (Nat.le_refl _) _).alloc (by simp) _
  have I1 : Hid (IHolds ((w.alloc (.cells #[.bool true, .int .i64 0, .bool false, .bool true, .bool false, .func (.func 23) #[] #[]] 51)).alloc (.cells #[.int .i64 x0, .string s1, .string s2, .string s3, .int .i64 x4, .string s5] 26)) w.heap.size 51 [.bool true, .int .i64 0, .bool false, .bool true, .bool false, .func (.func 23) #[] #[]]) := (IHolds.new w 51 _).alloc _
  have I2 : Hid (IHolds ((w.alloc (.cells #[.bool true, .int .i64 0, .bool false, .bool true, .bool false, .func (.func 23) #[] #[]] 51)).alloc (.cells #[.int .i64 x0, .string s1, .string s2, .string s3, .int .i64 x4, .string s5] 26)) (w.heap.size + 1) 26 [.int .i64 x0, .string s1, .string s2, .string s3, .int .i64 x4, .string s5]) := by
    have q := IHolds.new (w.alloc (.cells #[.bool true, .int .i64 0, .bool false, .bool true, .bool false, .func (.func 23) #[] #[]] 51)) 26 [.int .i64 x0, .string s1, .string s2, .string s3, .int .i64 x4, .string s5]
    rw [World.size_alloc] at q; exact q
  have SZ : Hid ((((w.alloc (.cells #[.bool true, .int .i64 0, .bool false, .bool true, .bool false, .func (.func 23) #[] #[]] 51)).alloc (.cells #[.int .i64 x0, .string s1, .string s2, .string s3, .int .i64 x4, .string s5] 26))).heap.size = w.heap.size + 2) := by show _ = _; simp
  clear a
  go_enter Try.func19, Try.ntmps19
  go_wp2_with fail
  generalize ((w.alloc (.cells #[.bool true, .int .i64 0, .bool false, .bool true, .bool false, .func (.func 23) #[] #[]] 51)).alloc (.cells #[.int .i64 x0, .string s1, .string s2, .string s3, .int .i64 x4, .string s5] 26)) = U at *
  obtain ⟨q0, q1, q2, q3, q4, q5⟩ := six I2.out
  obtain ⟨c0, c1⟩ := CC.out U B.out
  refine wp_region_noPanic ?_
  refine rk1_wp c0 q1 (fun V hV => L1.out V (B.out.trans (hV.mono B.out.size))) (fun _ _ _ _ h => h) ?_
  intro u7 u8 u9 u10 u11 u12 u13
  refine NoPanic.normal ?_
  try dsimp only
  have IB : Hid (IHolds (U.alloc (.cells #[.string nm, .int .i64 r1, .string r2, .string r3, .int .i64 r4, .string r5] 68)).drew U.heap.size 68 [.string nm, .int .i64 r1, .string r2, .string r3, .int .i64 r4, .string r5]) := IHolds.new U 68 _
  have BU : Hid (Below U.heap.size U (U.alloc (.cells #[.string nm, .int .i64 r1, .string r2, .string r3, .int .i64 r4, .string r5] 68)).drew) := ((Below.refl _ _).alloc (Nat.le_refl _) _).drew
  have B1 : Hid (Below w.heap.size w (U.alloc (.cells #[.string nm, .int .i64 r1, .string r2, .string r3, .int .i64 r4, .string r5] 68)).drew) := B.out.trans (BU.out.mono B.out.size)
  have I1' : Hid (IHolds (U.alloc (.cells #[.string nm, .int .i64 r1, .string r2, .string r3, .int .i64 r4, .string r5] 68)).drew w.heap.size 51 [.bool true, .int .i64 0, .bool false, .bool true, .bool false, .func (.func 23) #[] #[]]) := I1.out.of_below BU.out
  have I2' : Hid (IHolds (U.alloc (.cells #[.string nm, .int .i64 r1, .string r2, .string r3, .int .i64 r4, .string r5] 68)).drew (w.heap.size + 1) 26 [.int .i64 x0, .string s1, .string s2, .string s3, .int .i64 x4, .string s5]) := I2.out.of_below BU.out
  have C1 : Hid (CH (U.alloc (.cells #[.string nm, .int .i64 r1, .string r2, .string r3, .int .i64 r4, .string r5] 68)).drew cb bm bs l l) := CV.out _ B1.out
  clear BU I1 I2 q0 q1 q2 q3 q4 q5 c0 c1 L1 CC CV
  generalize (U.alloc (.cells #[.string nm, .int .i64 r1, .string r2, .string r3, .int .i64 r4, .string r5] 68)).drew = V at *
  obtain ⟨ub, hub⟩ : ∃ ub, ub = U.heap.size := ⟨_, rfl⟩
  have UB : Hid (ub = w.heap.size + 2) := hub.trans SZ.out
  rw [← hub] at IB ⊢
  clear hub
  obtain ⟨q0, q1, q2, q3, q4, q5⟩ := six I2'.out
  obtain ⟨p0, p1, p2, p3, p4, p5⟩ := six I1'.out
  go_wp2_with (go_at_call 23; refine (DOES.out V ub IB.out).mono ?_)
  rintro e V2 ⟨rfl, hI, hG⟩
  have d1 : w.heap.size ≠ ub := by have := UB.out; omega
  have d2 : w.heap.size + 1 ≠ ub := by have := UB.out; omega
  have d3 : cb ≠ ub := by have := UB.out; have := NN.out; omega
  have d4 : bm ≠ ub := by have := UB.out; have := NN.out; omega
  have d5 : bs ≠ ub := by have := UB.out; have := NN.out; omega
  have J1 : Hid (IHolds V2 w.heap.size 51 [.bool true, .int .i64 0, .bool false, .bool true, .bool false, .func (.func 23) #[] #[]]) := grown_holds hG I1'.out d1
  have J2 : Hid (IHolds V2 (w.heap.size + 1) 26 [.int .i64 x0, .string s1, .string s2, .string s3, .int .i64 x4, .string s5]) := grown_holds hG I2'.out d2
  have J3 : Hid (IHolds V2 ub 68 [.string s1, .int .i64 m1, .string m2, .string m3, .int .i64 m4, .string m5]) := hI
  have C2 : Hid (CH V2 cb bm bs l l) := C1.out.grown hG d3 d4 d5
  have F2 : Hid (FR w V2 bm bs) := (FR.below B1.out).grown hG (Or.inl (by have := UB.out; omega))
  clear hI hG d1 d2 d3 d4 d5 q0 q1 q2 q3 q4 q5 p0 p1 p2 p3 p4 p5 I1' I2' IB C1 B1 DOES
  go_wp2_with fail
  obtain ⟨W9, hu, hC9, hG9⟩ := BOX.out V2.drew (C2.out.of_below (Below.refl _ _).drew)
  have C9 : Hid (CH W9 cb bm bs lh l) := hC9
  have G9 : Hid (V2.drew.grownBy W9 (some bm)) := hG9
  have HU : Hid ((Instr.mapUpdate 42 (.map (some bm)) (.string s1) (.agg #[.string s1, .int .i64 m1, .string m2, .string m3, .int .i64 m4, .string m5])).run Try.prog V2.drew = .ok () W9) := hu
  have e1 : w.heap.size ≠ bm := by have := NN.out; omega
  have e2 : w.heap.size + 1 ≠ bm := by have := NN.out; omega
  have e3 : ub ≠ bm := by have := UB.out; have := NN.out; omega
  have K1 : Hid (IHolds W9 w.heap.size 51 [.bool true, .int .i64 0, .bool false, .bool true, .bool false, .func (.func 23) #[] #[]]) := grown_holds hG9 (show IHolds V2.drew _ _ _ from J1.out) e1
  have K2 : Hid (IHolds W9 (w.heap.size + 1) 26 [.int .i64 x0, .string s1, .string s2, .string s3, .int .i64 x4, .string s5]) := grown_holds hG9 (show IHolds V2.drew _ _ _ from J2.out) e2
  have K3 : Hid (IHolds W9 ub 68 [.string s1, .int .i64 m1, .string m2, .string m3, .int .i64 m4, .string m5]) := grown_holds hG9 (show IHolds V2.drew _ _ _ from J3.out) e3
  have F9 : Hid (FR w W9 bm bs) := (F2.out.trans (FR.below (Below.refl _ _).drew)).grown hG9 (Or.inr (Or.inl rfl))
  clear hu hC9 hG9 e1 e2 e3
  obtain ⟨q0, q1, q2, q3, q4, q5⟩ := six J2.out
  obtain ⟨o0, o1, o2, o3, o4, o5⟩ := six J3.out
  obtain ⟨q0', q1', q2', q3', q4', q5'⟩ := six K2.out
  obtain ⟨o0', o1', o2', o3', o4', o5'⟩ := six K3.out
  refine wp_region_noPanic ?_
  refine rk3_wp (C2.out.c.cell 0 (by simp)) q1 o0 o1 o2 o3 o4 o5 (C9.out.c.cell 0 (by simp)) q1' o0' o1' o2' o3' o4' o5' HU.out (fun _ _ _ _ h => h) ?_
  intro u18 u19 u20 u21 u22 u23 u24
  refine NoPanic.normal ?_
  try dsimp only
  clear q0 q1 q2 q3 q4 q5 o0 o1 o2 o3 o4 o5 q0' q1' q2' q3' q4' q5' o0' o1' o2' o3' o4' o5' HU J1 J2 J3 C2 F2 G9 BOX K3
  obtain ⟨p0, p1, p2, p3, p4, p5⟩ := six K1.out
  go_wp2_with (go_at_call 33; refine (SL.out _).mono ?_)
  rintro e Z1 ⟨rfl, hB⟩
  have C8 : Hid (CH Z1 cb bm bs lh l) := C9.out.of_below hB
  have F8 : Hid (FR w Z1 bm bs) := F9.out.trans (FR.below hB)
  have K8 : Hid (IHolds Z1 (w.heap.size + 1) 26 [.int .i64 x0, .string s1, .string s2, .string s3, .int .i64 x4, .string s5]) := K2.out.of_below hB
  clear hB p0 p1 p2 p3 p4 p5 K1 K2 C9 F9
  go_wp2_with fail
  obtain ⟨Y9, hu, hC, hG⟩ := SEAL.out Z1.drew (C8.out.of_below (Below.refl _ _).drew)
  have CY : Hid (CH Y9 cb bm bs lh lh) := hC
  have HU : Hid ((Instr.mapUpdate 43 (.map (some bs)) (.string s5) (.agg #[])).run Try.prog Z1.drew = .ok () Y9) := hu
  have e2 : w.heap.size + 1 ≠ bs := by have := NN.out; omega
  have KY : Hid (IHolds Y9 (w.heap.size + 1) 26 [.int .i64 x0, .string s1, .string s2, .string s3, .int .i64 x4, .string s5]) := grown_holds hG (show IHolds Z1.drew _ _ _ from K8.out) e2
  have FY : Hid (FR w Y9 bm bs) := (F8.out.trans (FR.below (Below.refl _ _).drew)).grown hG (Or.inr (Or.inr rfl))
  clear hu hC hG e2
  obtain ⟨q0, q1, q2, q3, q4, q5⟩ := six K8.out
  obtain ⟨q0', q1', q2', q3', q4', q5'⟩ := six KY.out
  refine wp_region_noPanic ?_
  refine rk5_wp (C8.out.c.cell 1 (by simp)) q5 (CY.out.c.cell 1 (by simp)) q5' HU.out (fun _ _ _ _ h => h) ?_
  intro u27 u28 u29 u30 u31 u32 u33
  refine NoPanic.normal ?_
  try dsimp only
  clear q0 q1 q2 q3 q4 q5 q0' q1' q2' q3' q4' q5' HU
  go_wp2_with fail
  go_end0
  exact ⟨rfl, CY.out.cu, FY.out⟩
set_option maxHeartbeats 8000000 in
theorem do19_2 {l : List Hd} {h : Hd} {cb bm bs : Nat} {w : World} (hc : CU w cb bm bs l) (i : Inv1 l) (e : handC l h = 0) (a : h.act = 2) (hs : Hs h) (hl : l.length < 140737488355328) :
    Calls Try.prog 19 #[.pointer (some ⟨cb, 0, none⟩), d2, HV h] w fun e w' => e = .returned (.tuple #[]) ∧ CU w' cb bm bs (l ++ [h]) ∧ FR w w' bm bs := by
  have L1 : Hid (∀ V, Below w.heap.size w V → (Instr.lookup 42 (.map (some bm)) (.string h.box) false).run Try.prog V = .ok (.agg #[.string (nmOf l h.box), .int .i64 (bx l h.box).count, .string (bx l h.box).holder, .string (bx l h.box).sl, .int .i64 (stZ (bx l h.box)), .string (bx l h.box).under]) V) := fun V hV => (hc.of_below hV).look1 i hs.b
  have CC : Hid (∀ V, Below w.heap.size w V → V.cell? ⟨cb, 0, none⟩ = some (.map (some bm)) ∧ V.cell? ⟨cb, 1, none⟩ = some (.map (some bs))) := fun V hV => ⟨(hc.of_below hV).c.cell 0 (by simp), (hc.of_below hV).c.cell 1 (by simp)⟩
  have CV : Hid (∀ V, Below w.heap.size w V → CH V cb bm bs l l) := fun V hV => (hc.of_below hV).ch
  obtain ⟨nq, _⟩ := newL_eq i e
  have nq2 : newL 2 (nmOf l h.box) (bx l h.box) h = [.string h.box, .int .i64 (bact (bx l h.box) h).count, .string (bact (bx l h.box) h).holder, .string (bact (bx l h.box) h).sl, .int .i64 (stZ (bact (bx l h.box) h)), .string (bact (bx l h.box) h).under] := by
    have z := nq
    rw [a] at z
    exact z
  have DOES : Hid (∀ V b, IHolds V b 68 [.string (nmOf l h.box), .int .i64 (bx l h.box).count, .string (bx l h.box).holder, .string (bx l h.box).sl, .int .i64 (stZ (bx l h.box)), .string (bx l h.box).under] → Calls Try.prog 24 #[.pointer (some ⟨b, 0, none⟩), .agg #[.int .i64 h.act, .string h.box, .string h.who, .string h.to_, .int .i64 h.cnt, .string h.sl]] V fun e w' => e = .returned (.tuple #[]) ∧ IHolds w' b 68 [.string h.box, .int .i64 (bact (bx l h.box) h).count, .string (bact (bx l h.box) h).holder, .string (bact (bx l h.box) h).sl, .int .i64 (stZ (bact (bx l h.box) h)), .string (bact (bx l h.box) h).under] ∧ V.grownBy w' (some b)) := fun V b hb => by
    have q := doesN2 (h := h) hb
    rw [nq2] at q
    exact q
  have BOX : Hid (∀ V, CH V cb bm bs l l → ∃ W9, (Instr.mapUpdate 42 (.map (some bm)) (.string h.box) (.agg #[.string h.box, .int .i64 (bact (bx l h.box) h).count, .string (bact (bx l h.box) h).holder, .string (bact (bx l h.box) h).sl, .int .i64 (stZ (bact (bx l h.box) h)), .string (bact (bx l h.box) h).under])).run Try.prog V = .ok () W9 ∧ CH W9 cb bm bs (l ++ [h]) l ∧ V.grownBy W9 (some bm)) := fun V hV => hV.box i e hs.b
  have STAY : Hid (∀ V, CH V cb bm bs (l ++ [h]) l → CH V cb bm bs (l ++ [h]) (l ++ [h])) := fun V hV => hV.stay (by omega)
  have SL : Hid (∀ V, Calls Try.prog 33 #[.agg #[.bool false, .int .i64 0, .bool true, .bool false, .bool false, .func (.func 24) #[] #[]]] V fun e w' => e = .returned (.bool false) ∧ Below V.heap.size V w') := fun V => seals33 false 0 true false false 24 V
  have n1 := hc.c.lt
  have n2 := hc.ch.bm_lt
  have n3 := hc.ch.bs_lt
  have n4 := hc.n1
  have n5 := hc.n2
  have NN : Hid (cb < w.heap.size ∧ bm < w.heap.size ∧ bs < w.heap.size ∧ cb ≠ bm ∧ cb ≠ bs) := ⟨n1, n2, n3, n4, n5⟩
  clear hc i e hs hl nq nq2 n1 n2 n3 n4 n5
  unfold d2 DV HV
  generalize nmOf l h.box = nm at *
  generalize (bact (bx l h.box) h).count = m1 at *
  generalize (bact (bx l h.box) h).holder = m2 at *
  generalize (bact (bx l h.box) h).sl = m3 at *
  generalize stZ (bact (bx l h.box) h) = m4 at *
  generalize (bact (bx l h.box) h).under = m5 at *
  generalize (bx l h.box).count = r1 at *
  generalize (bx l h.box).sl = r3 at *
  generalize (bx l h.box).holder = r2 at *
  generalize (bx l h.box).under = r5 at *
  generalize stZ (bx l h.box) = r4 at *
  generalize l ++ [h] = lh at *
  generalize h.box = s1 at *
  generalize h.who = s2 at *
  generalize h.to_ = s3 at *
  generalize h.sl = s5 at *
  generalize h.cnt = x4 at *
  generalize h.act = x0 at *
  have B : Hid (Below w.heap.size w ((w.alloc (.cells #[.bool false, .int .i64 0, .bool true, .bool false, .bool false, .func (.func 24) #[] #[]] 51)).alloc (.cells #[.int .i64 x0, .string s1, .string s2, .string s3, .int .i64 x4, .string s5] 26))) := ((Below.refl _ _).alloc (Nat.le_refl _) _).alloc (by simp) _
  have I1 : Hid (IHolds ((w.alloc (.cells #[.bool false, .int .i64 0, .bool true, .bool false, .bool false, .func (.func 24) #[] #[]] 51)).alloc (.cells #[.int .i64 x0, .string s1, .string s2, .string s3, .int .i64 x4, .string s5] 26)) w.heap.size 51 [.bool false, .int .i64 0, .bool true, .bool false, .bool false, .func (.func 24) #[] #[]]) := (IHolds.new w 51 _).alloc _
  have I2 : Hid (IHolds ((w.alloc (.cells #[.bool false, .int .i64 0, .bool true, .bool false, .bool false, .func (.func 24) #[] #[]] 51)).alloc (.cells #[.int .i64 x0, .string s1, .string s2, .string s3, .int .i64 x4, .string s5] 26)) (w.heap.size + 1) 26 [.int .i64 x0, .string s1, .string s2, .string s3, .int .i64 x4, .string s5]) := by
    have q := IHolds.new (w.alloc (.cells #[.bool false, .int .i64 0, .bool true, .bool false, .bool false, .func (.func 24) #[] #[]] 51)) 26 [.int .i64 x0, .string s1, .string s2, .string s3, .int .i64 x4, .string s5]
    rw [World.size_alloc] at q; exact q
  have SZ : Hid ((((w.alloc (.cells #[.bool false, .int .i64 0, .bool true, .bool false, .bool false, .func (.func 24) #[] #[]] 51)).alloc (.cells #[.int .i64 x0, .string s1, .string s2, .string s3, .int .i64 x4, .string s5] 26))).heap.size = w.heap.size + 2) := by show _ = _; simp
  clear a
  go_enter Try.func19, Try.ntmps19
  go_wp2_with fail
  generalize ((w.alloc (.cells #[.bool false, .int .i64 0, .bool true, .bool false, .bool false, .func (.func 24) #[] #[]] 51)).alloc (.cells #[.int .i64 x0, .string s1, .string s2, .string s3, .int .i64 x4, .string s5] 26)) = U at *
  obtain ⟨q0, q1, q2, q3, q4, q5⟩ := six I2.out
  obtain ⟨c0, c1⟩ := CC.out U B.out
  refine wp_region_noPanic ?_
  refine rk1_wp c0 q1 (fun V hV => L1.out V (B.out.trans (hV.mono B.out.size))) (fun _ _ _ _ h => h) ?_
  intro u7 u8 u9 u10 u11 u12 u13
  refine NoPanic.normal ?_
  try dsimp only
  have IB : Hid (IHolds (U.alloc (.cells #[.string nm, .int .i64 r1, .string r2, .string r3, .int .i64 r4, .string r5] 68)).drew U.heap.size 68 [.string nm, .int .i64 r1, .string r2, .string r3, .int .i64 r4, .string r5]) := IHolds.new U 68 _
  have BU : Hid (Below U.heap.size U (U.alloc (.cells #[.string nm, .int .i64 r1, .string r2, .string r3, .int .i64 r4, .string r5] 68)).drew) := ((Below.refl _ _).alloc (Nat.le_refl _) _).drew
  have B1 : Hid (Below w.heap.size w (U.alloc (.cells #[.string nm, .int .i64 r1, .string r2, .string r3, .int .i64 r4, .string r5] 68)).drew) := B.out.trans (BU.out.mono B.out.size)
  have I1' : Hid (IHolds (U.alloc (.cells #[.string nm, .int .i64 r1, .string r2, .string r3, .int .i64 r4, .string r5] 68)).drew w.heap.size 51 [.bool false, .int .i64 0, .bool true, .bool false, .bool false, .func (.func 24) #[] #[]]) := I1.out.of_below BU.out
  have I2' : Hid (IHolds (U.alloc (.cells #[.string nm, .int .i64 r1, .string r2, .string r3, .int .i64 r4, .string r5] 68)).drew (w.heap.size + 1) 26 [.int .i64 x0, .string s1, .string s2, .string s3, .int .i64 x4, .string s5]) := I2.out.of_below BU.out
  have C1 : Hid (CH (U.alloc (.cells #[.string nm, .int .i64 r1, .string r2, .string r3, .int .i64 r4, .string r5] 68)).drew cb bm bs l l) := CV.out _ B1.out
  clear BU I1 I2 q0 q1 q2 q3 q4 q5 c0 c1 L1 CC CV
  generalize (U.alloc (.cells #[.string nm, .int .i64 r1, .string r2, .string r3, .int .i64 r4, .string r5] 68)).drew = V at *
  obtain ⟨ub, hub⟩ : ∃ ub, ub = U.heap.size := ⟨_, rfl⟩
  have UB : Hid (ub = w.heap.size + 2) := hub.trans SZ.out
  rw [← hub] at IB ⊢
  clear hub
  obtain ⟨q0, q1, q2, q3, q4, q5⟩ := six I2'.out
  obtain ⟨p0, p1, p2, p3, p4, p5⟩ := six I1'.out
  go_wp2_with (go_at_call 24; refine (DOES.out V ub IB.out).mono ?_)
  rintro e V2 ⟨rfl, hI, hG⟩
  have d1 : w.heap.size ≠ ub := by have := UB.out; omega
  have d2 : w.heap.size + 1 ≠ ub := by have := UB.out; omega
  have d3 : cb ≠ ub := by have := UB.out; have := NN.out; omega
  have d4 : bm ≠ ub := by have := UB.out; have := NN.out; omega
  have d5 : bs ≠ ub := by have := UB.out; have := NN.out; omega
  have J1 : Hid (IHolds V2 w.heap.size 51 [.bool false, .int .i64 0, .bool true, .bool false, .bool false, .func (.func 24) #[] #[]]) := grown_holds hG I1'.out d1
  have J2 : Hid (IHolds V2 (w.heap.size + 1) 26 [.int .i64 x0, .string s1, .string s2, .string s3, .int .i64 x4, .string s5]) := grown_holds hG I2'.out d2
  have J3 : Hid (IHolds V2 ub 68 [.string s1, .int .i64 m1, .string m2, .string m3, .int .i64 m4, .string m5]) := hI
  have C2 : Hid (CH V2 cb bm bs l l) := C1.out.grown hG d3 d4 d5
  have F2 : Hid (FR w V2 bm bs) := (FR.below B1.out).grown hG (Or.inl (by have := UB.out; omega))
  clear hI hG d1 d2 d3 d4 d5 q0 q1 q2 q3 q4 q5 p0 p1 p2 p3 p4 p5 I1' I2' IB C1 B1 DOES
  go_wp2_with fail
  obtain ⟨W9, hu, hC9, hG9⟩ := BOX.out V2.drew (C2.out.of_below (Below.refl _ _).drew)
  have C9 : Hid (CH W9 cb bm bs lh l) := hC9
  have G9 : Hid (V2.drew.grownBy W9 (some bm)) := hG9
  have HU : Hid ((Instr.mapUpdate 42 (.map (some bm)) (.string s1) (.agg #[.string s1, .int .i64 m1, .string m2, .string m3, .int .i64 m4, .string m5])).run Try.prog V2.drew = .ok () W9) := hu
  have e1 : w.heap.size ≠ bm := by have := NN.out; omega
  have e2 : w.heap.size + 1 ≠ bm := by have := NN.out; omega
  have e3 : ub ≠ bm := by have := UB.out; have := NN.out; omega
  have K1 : Hid (IHolds W9 w.heap.size 51 [.bool false, .int .i64 0, .bool true, .bool false, .bool false, .func (.func 24) #[] #[]]) := grown_holds hG9 (show IHolds V2.drew _ _ _ from J1.out) e1
  have K2 : Hid (IHolds W9 (w.heap.size + 1) 26 [.int .i64 x0, .string s1, .string s2, .string s3, .int .i64 x4, .string s5]) := grown_holds hG9 (show IHolds V2.drew _ _ _ from J2.out) e2
  have K3 : Hid (IHolds W9 ub 68 [.string s1, .int .i64 m1, .string m2, .string m3, .int .i64 m4, .string m5]) := grown_holds hG9 (show IHolds V2.drew _ _ _ from J3.out) e3
  have F9 : Hid (FR w W9 bm bs) := (F2.out.trans (FR.below (Below.refl _ _).drew)).grown hG9 (Or.inr (Or.inl rfl))
  clear hu hC9 hG9 e1 e2 e3
  obtain ⟨q0, q1, q2, q3, q4, q5⟩ := six J2.out
  obtain ⟨o0, o1, o2, o3, o4, o5⟩ := six J3.out
  obtain ⟨q0', q1', q2', q3', q4', q5'⟩ := six K2.out
  obtain ⟨o0', o1', o2', o3', o4', o5'⟩ := six K3.out
  refine wp_region_noPanic ?_
  refine rk3_wp (C2.out.c.cell 0 (by simp)) q1 o0 o1 o2 o3 o4 o5 (C9.out.c.cell 0 (by simp)) q1' o0' o1' o2' o3' o4' o5' HU.out (fun _ _ _ _ h => h) ?_
  intro u18 u19 u20 u21 u22 u23 u24
  refine NoPanic.normal ?_
  try dsimp only
  clear q0 q1 q2 q3 q4 q5 o0 o1 o2 o3 o4 o5 q0' q1' q2' q3' q4' q5' o0' o1' o2' o3' o4' o5' HU J1 J2 J3 C2 F2 G9 BOX K3
  obtain ⟨p0, p1, p2, p3, p4, p5⟩ := six K1.out
  go_wp2_with (go_at_call 33; refine (SL.out _).mono ?_)
  rintro e Z1 ⟨rfl, hB⟩
  have C8 : Hid (CH Z1 cb bm bs lh l) := C9.out.of_below hB
  have F8 : Hid (FR w Z1 bm bs) := F9.out.trans (FR.below hB)
  have K8 : Hid (IHolds Z1 (w.heap.size + 1) 26 [.int .i64 x0, .string s1, .string s2, .string s3, .int .i64 x4, .string s5]) := K2.out.of_below hB
  clear hB p0 p1 p2 p3 p4 p5 K1 K2 C9 F9
  go_wp2_with fail
  go_end0
  exact ⟨rfl, (STAY.out _ C8.out).cu, F8.out⟩
set_option maxHeartbeats 8000000 in
theorem do19_3 {l : List Hd} {h : Hd} {cb bm bs : Nat} {w : World} (hc : CU w cb bm bs l) (i : Inv1 l) (e : handC l h = 0) (a : h.act = 3) (hs : Hs h) (hl : l.length < 140737488355328) :
    Calls Try.prog 19 #[.pointer (some ⟨cb, 0, none⟩), d3, HV h] w fun e w' => e = .returned (.tuple #[]) ∧ CU w' cb bm bs (l ++ [h]) ∧ FR w w' bm bs := by
  have L1 : Hid (∀ V, Below w.heap.size w V → (Instr.lookup 42 (.map (some bm)) (.string h.box) false).run Try.prog V = .ok (.agg #[.string (nmOf l h.box), .int .i64 (bx l h.box).count, .string (bx l h.box).holder, .string (bx l h.box).sl, .int .i64 (stZ (bx l h.box)), .string (bx l h.box).under]) V) := fun V hV => (hc.of_below hV).look1 i hs.b
  have CC : Hid (∀ V, Below w.heap.size w V → V.cell? ⟨cb, 0, none⟩ = some (.map (some bm)) ∧ V.cell? ⟨cb, 1, none⟩ = some (.map (some bs))) := fun V hV => ⟨(hc.of_below hV).c.cell 0 (by simp), (hc.of_below hV).c.cell 1 (by simp)⟩
  have CV : Hid (∀ V, Below w.heap.size w V → CH V cb bm bs l l) := fun V hV => (hc.of_below hV).ch
  obtain ⟨nq, _⟩ := newL_eq i e
  have nq2 : newL 3 (nmOf l h.box) (bx l h.box) h = [.string h.box, .int .i64 (bact (bx l h.box) h).count, .string (bact (bx l h.box) h).holder, .string (bact (bx l h.box) h).sl, .int .i64 (stZ (bact (bx l h.box) h)), .string (bact (bx l h.box) h).under] := by
    have z := nq
    rw [a] at z
    exact z
  have DOES : Hid (∀ V b, IHolds V b 68 [.string (nmOf l h.box), .int .i64 (bx l h.box).count, .string (bx l h.box).holder, .string (bx l h.box).sl, .int .i64 (stZ (bx l h.box)), .string (bx l h.box).under] → Calls Try.prog 25 #[.pointer (some ⟨b, 0, none⟩), .agg #[.int .i64 h.act, .string h.box, .string h.who, .string h.to_, .int .i64 h.cnt, .string h.sl]] V fun e w' => e = .returned (.tuple #[]) ∧ IHolds w' b 68 [.string h.box, .int .i64 (bact (bx l h.box) h).count, .string (bact (bx l h.box) h).holder, .string (bact (bx l h.box) h).sl, .int .i64 (stZ (bact (bx l h.box) h)), .string (bact (bx l h.box) h).under] ∧ V.grownBy w' (some b)) := fun V b hb => by
    have q := doesN3 (h := h) hb
    rw [nq2] at q
    exact q
  have BOX : Hid (∀ V, CH V cb bm bs l l → ∃ W9, (Instr.mapUpdate 42 (.map (some bm)) (.string h.box) (.agg #[.string h.box, .int .i64 (bact (bx l h.box) h).count, .string (bact (bx l h.box) h).holder, .string (bact (bx l h.box) h).sl, .int .i64 (stZ (bact (bx l h.box) h)), .string (bact (bx l h.box) h).under])).run Try.prog V = .ok () W9 ∧ CH W9 cb bm bs (l ++ [h]) l ∧ V.grownBy W9 (some bm)) := fun V hV => hV.box i e hs.b
  have STAY : Hid (∀ V, CH V cb bm bs (l ++ [h]) l → CH V cb bm bs (l ++ [h]) (l ++ [h])) := fun V hV => hV.stay (by omega)
  have SL : Hid (∀ V, Calls Try.prog 33 #[.agg #[.bool false, .int .i64 1, .bool false, .bool false, .bool true, .func (.func 25) #[] #[]]] V fun e w' => e = .returned (.bool false) ∧ Below V.heap.size V w') := fun V => seals33 false 1 false false true 25 V
  have n1 := hc.c.lt
  have n2 := hc.ch.bm_lt
  have n3 := hc.ch.bs_lt
  have n4 := hc.n1
  have n5 := hc.n2
  have NN : Hid (cb < w.heap.size ∧ bm < w.heap.size ∧ bs < w.heap.size ∧ cb ≠ bm ∧ cb ≠ bs) := ⟨n1, n2, n3, n4, n5⟩
  clear hc i e hs hl nq nq2 n1 n2 n3 n4 n5
  unfold d3 DV HV
  generalize nmOf l h.box = nm at *
  generalize (bact (bx l h.box) h).count = m1 at *
  generalize (bact (bx l h.box) h).holder = m2 at *
  generalize (bact (bx l h.box) h).sl = m3 at *
  generalize stZ (bact (bx l h.box) h) = m4 at *
  generalize (bact (bx l h.box) h).under = m5 at *
  generalize (bx l h.box).count = r1 at *
  generalize (bx l h.box).sl = r3 at *
  generalize (bx l h.box).holder = r2 at *
  generalize (bx l h.box).under = r5 at *
  generalize stZ (bx l h.box) = r4 at *
  generalize l ++ [h] = lh at *
  generalize h.box = s1 at *
  generalize h.who = s2 at *
  generalize h.to_ = s3 at *
  generalize h.sl = s5 at *
  generalize h.cnt = x4 at *
  generalize h.act = x0 at *
  have B : Hid (Below w.heap.size w ((w.alloc (.cells #[.bool false, .int .i64 1, .bool false, .bool false, .bool true, .func (.func 25) #[] #[]] 51)).alloc (.cells #[.int .i64 x0, .string s1, .string s2, .string s3, .int .i64 x4, .string s5] 26))) := ((Below.refl _ _).alloc (Nat.le_refl _) _).alloc (by simp) _
  have I1 : Hid (IHolds ((w.alloc (.cells #[.bool false, .int .i64 1, .bool false, .bool false, .bool true, .func (.func 25) #[] #[]] 51)).alloc (.cells #[.int .i64 x0, .string s1, .string s2, .string s3, .int .i64 x4, .string s5] 26)) w.heap.size 51 [.bool false, .int .i64 1, .bool false, .bool false, .bool true, .func (.func 25) #[] #[]]) := (IHolds.new w 51 _).alloc _
  have I2 : Hid (IHolds ((w.alloc (.cells #[.bool false, .int .i64 1, .bool false, .bool false, .bool true, .func (.func 25) #[] #[]] 51)).alloc (.cells #[.int .i64 x0, .string s1, .string s2, .string s3, .int .i64 x4, .string s5] 26)) (w.heap.size + 1) 26 [.int .i64 x0, .string s1, .string s2, .string s3, .int .i64 x4, .string s5]) := by
    have q := IHolds.new (w.alloc (.cells #[.bool false, .int .i64 1, .bool false, .bool false, .bool true, .func (.func 25) #[] #[]] 51)) 26 [.int .i64 x0, .string s1, .string s2, .string s3, .int .i64 x4, .string s5]
    rw [World.size_alloc] at q; exact q
  have SZ : Hid ((((w.alloc (.cells #[.bool false, .int .i64 1, .bool false, .bool false, .bool true, .func (.func 25) #[] #[]] 51)).alloc (.cells #[.int .i64 x0, .string s1, .string s2, .string s3, .int .i64 x4, .string s5] 26))).heap.size = w.heap.size + 2) := by show _ = _; simp
  clear a
  go_enter Try.func19, Try.ntmps19
  go_wp2_with fail
  generalize ((w.alloc (.cells #[.bool false, .int .i64 1, .bool false, .bool false, .bool true, .func (.func 25) #[] #[]] 51)).alloc (.cells #[.int .i64 x0, .string s1, .string s2, .string s3, .int .i64 x4, .string s5] 26)) = U at *
  obtain ⟨q0, q1, q2, q3, q4, q5⟩ := six I2.out
  obtain ⟨c0, c1⟩ := CC.out U B.out
  refine wp_region_noPanic ?_
  refine rk1_wp c0 q1 (fun V hV => L1.out V (B.out.trans (hV.mono B.out.size))) (fun _ _ _ _ h => h) ?_
  intro u7 u8 u9 u10 u11 u12 u13
  refine NoPanic.normal ?_
  try dsimp only
  have IB : Hid (IHolds (U.alloc (.cells #[.string nm, .int .i64 r1, .string r2, .string r3, .int .i64 r4, .string r5] 68)).drew U.heap.size 68 [.string nm, .int .i64 r1, .string r2, .string r3, .int .i64 r4, .string r5]) := IHolds.new U 68 _
  have BU : Hid (Below U.heap.size U (U.alloc (.cells #[.string nm, .int .i64 r1, .string r2, .string r3, .int .i64 r4, .string r5] 68)).drew) := ((Below.refl _ _).alloc (Nat.le_refl _) _).drew
  have B1 : Hid (Below w.heap.size w (U.alloc (.cells #[.string nm, .int .i64 r1, .string r2, .string r3, .int .i64 r4, .string r5] 68)).drew) := B.out.trans (BU.out.mono B.out.size)
  have I1' : Hid (IHolds (U.alloc (.cells #[.string nm, .int .i64 r1, .string r2, .string r3, .int .i64 r4, .string r5] 68)).drew w.heap.size 51 [.bool false, .int .i64 1, .bool false, .bool false, .bool true, .func (.func 25) #[] #[]]) := I1.out.of_below BU.out
  have I2' : Hid (IHolds (U.alloc (.cells #[.string nm, .int .i64 r1, .string r2, .string r3, .int .i64 r4, .string r5] 68)).drew (w.heap.size + 1) 26 [.int .i64 x0, .string s1, .string s2, .string s3, .int .i64 x4, .string s5]) := I2.out.of_below BU.out
  have C1 : Hid (CH (U.alloc (.cells #[.string nm, .int .i64 r1, .string r2, .string r3, .int .i64 r4, .string r5] 68)).drew cb bm bs l l) := CV.out _ B1.out
  clear BU I1 I2 q0 q1 q2 q3 q4 q5 c0 c1 L1 CC CV
  generalize (U.alloc (.cells #[.string nm, .int .i64 r1, .string r2, .string r3, .int .i64 r4, .string r5] 68)).drew = V at *
  obtain ⟨ub, hub⟩ : ∃ ub, ub = U.heap.size := ⟨_, rfl⟩
  have UB : Hid (ub = w.heap.size + 2) := hub.trans SZ.out
  rw [← hub] at IB ⊢
  clear hub
  obtain ⟨q0, q1, q2, q3, q4, q5⟩ := six I2'.out
  obtain ⟨p0, p1, p2, p3, p4, p5⟩ := six I1'.out
  go_wp2_with (go_at_call 25; refine (DOES.out V ub IB.out).mono ?_)
  rintro e V2 ⟨rfl, hI, hG⟩
  have d1 : w.heap.size ≠ ub := by have := UB.out; omega
  have d2 : w.heap.size + 1 ≠ ub := by have := UB.out; omega
  have d3 : cb ≠ ub := by have := UB.out; have := NN.out; omega
  have d4 : bm ≠ ub := by have := UB.out; have := NN.out; omega
  have d5 : bs ≠ ub := by have := UB.out; have := NN.out; omega
  have J1 : Hid (IHolds V2 w.heap.size 51 [.bool false, .int .i64 1, .bool false, .bool false, .bool true, .func (.func 25) #[] #[]]) := grown_holds hG I1'.out d1
  have J2 : Hid (IHolds V2 (w.heap.size + 1) 26 [.int .i64 x0, .string s1, .string s2, .string s3, .int .i64 x4, .string s5]) := grown_holds hG I2'.out d2
  have J3 : Hid (IHolds V2 ub 68 [.string s1, .int .i64 m1, .string m2, .string m3, .int .i64 m4, .string m5]) := hI
  have C2 : Hid (CH V2 cb bm bs l l) := C1.out.grown hG d3 d4 d5
  have F2 : Hid (FR w V2 bm bs) := (FR.below B1.out).grown hG (Or.inl (by have := UB.out; omega))
  clear hI hG d1 d2 d3 d4 d5 q0 q1 q2 q3 q4 q5 p0 p1 p2 p3 p4 p5 I1' I2' IB C1 B1 DOES
  go_wp2_with fail
  obtain ⟨W9, hu, hC9, hG9⟩ := BOX.out V2.drew (C2.out.of_below (Below.refl _ _).drew)
  have C9 : Hid (CH W9 cb bm bs lh l) := hC9
  have G9 : Hid (V2.drew.grownBy W9 (some bm)) := hG9
  have HU : Hid ((Instr.mapUpdate 42 (.map (some bm)) (.string s1) (.agg #[.string s1, .int .i64 m1, .string m2, .string m3, .int .i64 m4, .string m5])).run Try.prog V2.drew = .ok () W9) := hu
  have e1 : w.heap.size ≠ bm := by have := NN.out; omega
  have e2 : w.heap.size + 1 ≠ bm := by have := NN.out; omega
  have e3 : ub ≠ bm := by have := UB.out; have := NN.out; omega
  have K1 : Hid (IHolds W9 w.heap.size 51 [.bool false, .int .i64 1, .bool false, .bool false, .bool true, .func (.func 25) #[] #[]]) := grown_holds hG9 (show IHolds V2.drew _ _ _ from J1.out) e1
  have K2 : Hid (IHolds W9 (w.heap.size + 1) 26 [.int .i64 x0, .string s1, .string s2, .string s3, .int .i64 x4, .string s5]) := grown_holds hG9 (show IHolds V2.drew _ _ _ from J2.out) e2
  have K3 : Hid (IHolds W9 ub 68 [.string s1, .int .i64 m1, .string m2, .string m3, .int .i64 m4, .string m5]) := grown_holds hG9 (show IHolds V2.drew _ _ _ from J3.out) e3
  have F9 : Hid (FR w W9 bm bs) := (F2.out.trans (FR.below (Below.refl _ _).drew)).grown hG9 (Or.inr (Or.inl rfl))
  clear hu hC9 hG9 e1 e2 e3
  obtain ⟨q0, q1, q2, q3, q4, q5⟩ := six J2.out
  obtain ⟨o0, o1, o2, o3, o4, o5⟩ := six J3.out
  obtain ⟨q0', q1', q2', q3', q4', q5'⟩ := six K2.out
  obtain ⟨o0', o1', o2', o3', o4', o5'⟩ := six K3.out
  refine wp_region_noPanic ?_
  refine rk3_wp (C2.out.c.cell 0 (by simp)) q1 o0 o1 o2 o3 o4 o5 (C9.out.c.cell 0 (by simp)) q1' o0' o1' o2' o3' o4' o5' HU.out (fun _ _ _ _ h => h) ?_
  intro u18 u19 u20 u21 u22 u23 u24
  refine NoPanic.normal ?_
  try dsimp only
  clear q0 q1 q2 q3 q4 q5 o0 o1 o2 o3 o4 o5 q0' q1' q2' q3' q4' q5' o0' o1' o2' o3' o4' o5' HU J1 J2 J3 C2 F2 G9 BOX K3
  obtain ⟨p0, p1, p2, p3, p4, p5⟩ := six K1.out
  go_wp2_with (go_at_call 33; refine (SL.out _).mono ?_)
  rintro e Z1 ⟨rfl, hB⟩
  have C8 : Hid (CH Z1 cb bm bs lh l) := C9.out.of_below hB
  have F8 : Hid (FR w Z1 bm bs) := F9.out.trans (FR.below hB)
  have K8 : Hid (IHolds Z1 (w.heap.size + 1) 26 [.int .i64 x0, .string s1, .string s2, .string s3, .int .i64 x4, .string s5]) := K2.out.of_below hB
  clear hB p0 p1 p2 p3 p4 p5 K1 K2 C9 F9
  go_wp2_with fail
  go_end0
  exact ⟨rfl, (STAY.out _ C8.out).cu, F8.out⟩
set_option maxHeartbeats 8000000 in
theorem do19_4 {l : List Hd} {h : Hd} {cb bm bs : Nat} {w : World} (hc : CU w cb bm bs l) (i : Inv1 l) (e : handC l h = 0) (a : h.act = 4) (hs : Hs h) (hl : l.length < 140737488355328) :
    Calls Try.prog 19 #[.pointer (some ⟨cb, 0, none⟩), d4, HV h] w fun e w' => e = .returned (.tuple #[]) ∧ CU w' cb bm bs (l ++ [h]) ∧ FR w w' bm bs := by
  have L1 : Hid (∀ V, Below w.heap.size w V → (Instr.lookup 42 (.map (some bm)) (.string h.box) false).run Try.prog V = .ok (.agg #[.string (nmOf l h.box), .int .i64 (bx l h.box).count, .string (bx l h.box).holder, .string (bx l h.box).sl, .int .i64 (stZ (bx l h.box)), .string (bx l h.box).under]) V) := fun V hV => (hc.of_below hV).look1 i hs.b
  have CC : Hid (∀ V, Below w.heap.size w V → V.cell? ⟨cb, 0, none⟩ = some (.map (some bm)) ∧ V.cell? ⟨cb, 1, none⟩ = some (.map (some bs))) := fun V hV => ⟨(hc.of_below hV).c.cell 0 (by simp), (hc.of_below hV).c.cell 1 (by simp)⟩
  have CV : Hid (∀ V, Below w.heap.size w V → CH V cb bm bs l l) := fun V hV => (hc.of_below hV).ch
  obtain ⟨nq, _⟩ := newL_eq i e
  have nq2 : newL 4 (nmOf l h.box) (bx l h.box) h = [.string h.box, .int .i64 (bact (bx l h.box) h).count, .string (bact (bx l h.box) h).holder, .string (bact (bx l h.box) h).sl, .int .i64 (stZ (bact (bx l h.box) h)), .string (bact (bx l h.box) h).under] := by
    have z := nq
    rw [a] at z
    exact z
  have DOES : Hid (∀ V b, IHolds V b 68 [.string (nmOf l h.box), .int .i64 (bx l h.box).count, .string (bx l h.box).holder, .string (bx l h.box).sl, .int .i64 (stZ (bx l h.box)), .string (bx l h.box).under] → Calls Try.prog 26 #[.pointer (some ⟨b, 0, none⟩), .agg #[.int .i64 h.act, .string h.box, .string h.who, .string h.to_, .int .i64 h.cnt, .string h.sl]] V fun e w' => e = .returned (.tuple #[]) ∧ IHolds w' b 68 [.string h.box, .int .i64 (bact (bx l h.box) h).count, .string (bact (bx l h.box) h).holder, .string (bact (bx l h.box) h).sl, .int .i64 (stZ (bact (bx l h.box) h)), .string (bact (bx l h.box) h).under] ∧ V.grownBy w' (some b)) := fun V b hb => by
    have q := doesN4 (h := h) hb
    rw [nq2] at q
    exact q
  have BOX : Hid (∀ V, CH V cb bm bs l l → ∃ W9, (Instr.mapUpdate 42 (.map (some bm)) (.string h.box) (.agg #[.string h.box, .int .i64 (bact (bx l h.box) h).count, .string (bact (bx l h.box) h).holder, .string (bact (bx l h.box) h).sl, .int .i64 (stZ (bact (bx l h.box) h)), .string (bact (bx l h.box) h).under])).run Try.prog V = .ok () W9 ∧ CH W9 cb bm bs (l ++ [h]) l ∧ V.grownBy W9 (some bm)) := fun V hV => hV.box i e hs.b
  have STAY : Hid (∀ V, CH V cb bm bs (l ++ [h]) l → CH V cb bm bs (l ++ [h]) (l ++ [h])) := fun V hV => hV.stay (by omega)
  have SL : Hid (∀ V, Calls Try.prog 33 #[.agg #[.bool false, .int .i64 0, .bool false, .bool true, .bool true, .func (.func 26) #[] #[]]] V fun e w' => e = .returned (.bool false) ∧ Below V.heap.size V w') := fun V => seals33 false 0 false true true 26 V
  have n1 := hc.c.lt
  have n2 := hc.ch.bm_lt
  have n3 := hc.ch.bs_lt
  have n4 := hc.n1
  have n5 := hc.n2
  have NN : Hid (cb < w.heap.size ∧ bm < w.heap.size ∧ bs < w.heap.size ∧ cb ≠ bm ∧ cb ≠ bs) := ⟨n1, n2, n3, n4, n5⟩
  clear hc i e hs hl nq nq2 n1 n2 n3 n4 n5
  unfold d4 DV HV
  generalize nmOf l h.box = nm at *
  generalize (bact (bx l h.box) h).count = m1 at *
  generalize (bact (bx l h.box) h).holder = m2 at *
  generalize (bact (bx l h.box) h).sl = m3 at *
  generalize stZ (bact (bx l h.box) h) = m4 at *
  generalize (bact (bx l h.box) h).under = m5 at *
  generalize (bx l h.box).count = r1 at *
  generalize (bx l h.box).sl = r3 at *
  generalize (bx l h.box).holder = r2 at *
  generalize (bx l h.box).under = r5 at *
  generalize stZ (bx l h.box) = r4 at *
  generalize l ++ [h] = lh at *
  generalize h.box = s1 at *
  generalize h.who = s2 at *
  generalize h.to_ = s3 at *
  generalize h.sl = s5 at *
  generalize h.cnt = x4 at *
  generalize h.act = x0 at *
  have B : Hid (Below w.heap.size w ((w.alloc (.cells #[.bool false, .int .i64 0, .bool false, .bool true, .bool true, .func (.func 26) #[] #[]] 51)).alloc (.cells #[.int .i64 x0, .string s1, .string s2, .string s3, .int .i64 x4, .string s5] 26))) := ((Below.refl _ _).alloc (Nat.le_refl _) _).alloc (by simp) _
  have I1 : Hid (IHolds ((w.alloc (.cells #[.bool false, .int .i64 0, .bool false, .bool true, .bool true, .func (.func 26) #[] #[]] 51)).alloc (.cells #[.int .i64 x0, .string s1, .string s2, .string s3, .int .i64 x4, .string s5] 26)) w.heap.size 51 [.bool false, .int .i64 0, .bool false, .bool true, .bool true, .func (.func 26) #[] #[]]) := (IHolds.new w 51 _).alloc _
  have I2 : Hid (IHolds ((w.alloc (.cells #[.bool false, .int .i64 0, .bool false, .bool true, .bool true, .func (.func 26) #[] #[]] 51)).alloc (.cells #[.int .i64 x0, .string s1, .string s2, .string s3, .int .i64 x4, .string s5] 26)) (w.heap.size + 1) 26 [.int .i64 x0, .string s1, .string s2, .string s3, .int .i64 x4, .string s5]) := by
    have q := IHolds.new (w.alloc (.cells #[.bool false, .int .i64 0, .bool false, .bool true, .bool true, .func (.func 26) #[] #[]] 51)) 26 [.int .i64 x0, .string s1, .string s2, .string s3, .int .i64 x4, .string s5]
    rw [World.size_alloc] at q; exact q
  have SZ : Hid ((((w.alloc (.cells #[.bool false, .int .i64 0, .bool false, .bool true, .bool true, .func (.func 26) #[] #[]] 51)).alloc (.cells #[.int .i64 x0, .string s1, .string s2, .string s3, .int .i64 x4, .string s5] 26))).heap.size = w.heap.size + 2) := by show _ = _; simp
  clear a
  go_enter Try.func19, Try.ntmps19
  go_wp2_with fail
  generalize ((w.alloc (.cells #[.bool false, .int .i64 0, .bool false, .bool true, .bool true, .func (.func 26) #[] #[]] 51)).alloc (.cells #[.int .i64 x0, .string s1, .string s2, .string s3, .int .i64 x4, .string s5] 26)) = U at *
  obtain ⟨q0, q1, q2, q3, q4, q5⟩ := six I2.out
  obtain ⟨c0, c1⟩ := CC.out U B.out
  refine wp_region_noPanic ?_
  refine rk1_wp c0 q1 (fun V hV => L1.out V (B.out.trans (hV.mono B.out.size))) (fun _ _ _ _ h => h) ?_
  intro u7 u8 u9 u10 u11 u12 u13
  refine NoPanic.normal ?_
  try dsimp only
  have IB : Hid (IHolds (U.alloc (.cells #[.string nm, .int .i64 r1, .string r2, .string r3, .int .i64 r4, .string r5] 68)).drew U.heap.size 68 [.string nm, .int .i64 r1, .string r2, .string r3, .int .i64 r4, .string r5]) := IHolds.new U 68 _
  have BU : Hid (Below U.heap.size U (U.alloc (.cells #[.string nm, .int .i64 r1, .string r2, .string r3, .int .i64 r4, .string r5] 68)).drew) := ((Below.refl _ _).alloc (Nat.le_refl _) _).drew
  have B1 : Hid (Below w.heap.size w (U.alloc (.cells #[.string nm, .int .i64 r1, .string r2, .string r3, .int .i64 r4, .string r5] 68)).drew) := B.out.trans (BU.out.mono B.out.size)
  have I1' : Hid (IHolds (U.alloc (.cells #[.string nm, .int .i64 r1, .string r2, .string r3, .int .i64 r4, .string r5] 68)).drew w.heap.size 51 [.bool false, .int .i64 0, .bool false, .bool true, .bool true, .func (.func 26) #[] #[]]) := I1.out.of_below BU.out
  have I2' : Hid (IHolds (U.alloc (.cells #[.string nm, .int .i64 r1, .string r2, .string r3, .int .i64 r4, .string r5] 68)).drew (w.heap.size + 1) 26 [.int .i64 x0, .string s1, .string s2, .string s3, .int .i64 x4, .string s5]) := I2.out.of_below BU.out
  have C1 : Hid (CH (U.alloc (.cells #[.string nm, .int .i64 r1, .string r2, .string r3, .int .i64 r4, .string r5] 68)).drew cb bm bs l l) := CV.out _ B1.out
  clear BU I1 I2 q0 q1 q2 q3 q4 q5 c0 c1 L1 CC CV
  generalize (U.alloc (.cells #[.string nm, .int .i64 r1, .string r2, .string r3, .int .i64 r4, .string r5] 68)).drew = V at *
  obtain ⟨ub, hub⟩ : ∃ ub, ub = U.heap.size := ⟨_, rfl⟩
  have UB : Hid (ub = w.heap.size + 2) := hub.trans SZ.out
  rw [← hub] at IB ⊢
  clear hub
  obtain ⟨q0, q1, q2, q3, q4, q5⟩ := six I2'.out
  obtain ⟨p0, p1, p2, p3, p4, p5⟩ := six I1'.out
  go_wp2_with (go_at_call 26; refine (DOES.out V ub IB.out).mono ?_)
  rintro e V2 ⟨rfl, hI, hG⟩
  have d1 : w.heap.size ≠ ub := by have := UB.out; omega
  have d2 : w.heap.size + 1 ≠ ub := by have := UB.out; omega
  have d3 : cb ≠ ub := by have := UB.out; have := NN.out; omega
  have d4 : bm ≠ ub := by have := UB.out; have := NN.out; omega
  have d5 : bs ≠ ub := by have := UB.out; have := NN.out; omega
  have J1 : Hid (IHolds V2 w.heap.size 51 [.bool false, .int .i64 0, .bool false, .bool true, .bool true, .func (.func 26) #[] #[]]) := grown_holds hG I1'.out d1
  have J2 : Hid (IHolds V2 (w.heap.size + 1) 26 [.int .i64 x0, .string s1, .string s2, .string s3, .int .i64 x4, .string s5]) := grown_holds hG I2'.out d2
  have J3 : Hid (IHolds V2 ub 68 [.string s1, .int .i64 m1, .string m2, .string m3, .int .i64 m4, .string m5]) := hI
  have C2 : Hid (CH V2 cb bm bs l l) := C1.out.grown hG d3 d4 d5
  have F2 : Hid (FR w V2 bm bs) := (FR.below B1.out).grown hG (Or.inl (by have := UB.out; omega))
  clear hI hG d1 d2 d3 d4 d5 q0 q1 q2 q3 q4 q5 p0 p1 p2 p3 p4 p5 I1' I2' IB C1 B1 DOES
  go_wp2_with fail
  obtain ⟨W9, hu, hC9, hG9⟩ := BOX.out V2.drew (C2.out.of_below (Below.refl _ _).drew)
  have C9 : Hid (CH W9 cb bm bs lh l) := hC9
  have G9 : Hid (V2.drew.grownBy W9 (some bm)) := hG9
  have HU : Hid ((Instr.mapUpdate 42 (.map (some bm)) (.string s1) (.agg #[.string s1, .int .i64 m1, .string m2, .string m3, .int .i64 m4, .string m5])).run Try.prog V2.drew = .ok () W9) := hu
  have e1 : w.heap.size ≠ bm := by have := NN.out; omega
  have e2 : w.heap.size + 1 ≠ bm := by have := NN.out; omega
  have e3 : ub ≠ bm := by have := UB.out; have := NN.out; omega
  have K1 : Hid (IHolds W9 w.heap.size 51 [.bool false, .int .i64 0, .bool false, .bool true, .bool true, .func (.func 26) #[] #[]]) := grown_holds hG9 (show IHolds V2.drew _ _ _ from J1.out) e1
  have K2 : Hid (IHolds W9 (w.heap.size + 1) 26 [.int .i64 x0, .string s1, .string s2, .string s3, .int .i64 x4, .string s5]) := grown_holds hG9 (show IHolds V2.drew _ _ _ from J2.out) e2
  have K3 : Hid (IHolds W9 ub 68 [.string s1, .int .i64 m1, .string m2, .string m3, .int .i64 m4, .string m5]) := grown_holds hG9 (show IHolds V2.drew _ _ _ from J3.out) e3
  have F9 : Hid (FR w W9 bm bs) := (F2.out.trans (FR.below (Below.refl _ _).drew)).grown hG9 (Or.inr (Or.inl rfl))
  clear hu hC9 hG9 e1 e2 e3
  obtain ⟨q0, q1, q2, q3, q4, q5⟩ := six J2.out
  obtain ⟨o0, o1, o2, o3, o4, o5⟩ := six J3.out
  obtain ⟨q0', q1', q2', q3', q4', q5'⟩ := six K2.out
  obtain ⟨o0', o1', o2', o3', o4', o5'⟩ := six K3.out
  refine wp_region_noPanic ?_
  refine rk3_wp (C2.out.c.cell 0 (by simp)) q1 o0 o1 o2 o3 o4 o5 (C9.out.c.cell 0 (by simp)) q1' o0' o1' o2' o3' o4' o5' HU.out (fun _ _ _ _ h => h) ?_
  intro u18 u19 u20 u21 u22 u23 u24
  refine NoPanic.normal ?_
  try dsimp only
  clear q0 q1 q2 q3 q4 q5 o0 o1 o2 o3 o4 o5 q0' q1' q2' q3' q4' q5' o0' o1' o2' o3' o4' o5' HU J1 J2 J3 C2 F2 G9 BOX K3
  obtain ⟨p0, p1, p2, p3, p4, p5⟩ := six K1.out
  go_wp2_with (go_at_call 33; refine (SL.out _).mono ?_)
  rintro e Z1 ⟨rfl, hB⟩
  have C8 : Hid (CH Z1 cb bm bs lh l) := C9.out.of_below hB
  have F8 : Hid (FR w Z1 bm bs) := F9.out.trans (FR.below hB)
  have K8 : Hid (IHolds Z1 (w.heap.size + 1) 26 [.int .i64 x0, .string s1, .string s2, .string s3, .int .i64 x4, .string s5]) := K2.out.of_below hB
  clear hB p0 p1 p2 p3 p4 p5 K1 K2 C9 F9
  go_wp2_with fail
  go_end0
  exact ⟨rfl, (STAY.out _ C8.out).cu, F8.out⟩
set_option maxHeartbeats 8000000 in
theorem do19_5 {l : List Hd} {h : Hd} {cb bm bs : Nat} {w : World} (hc : CU w cb bm bs l) (i : Inv1 l) (e : handC l h = 0) (a : h.act = 5) (hs : Hs h) (hl : l.length < 140737488355328) :
    Calls Try.prog 19 #[.pointer (some ⟨cb, 0, none⟩), d5, HV h] w fun e w' => e = .returned (.tuple #[]) ∧ CU w' cb bm bs (l ++ [h]) ∧ FR w w' bm bs := by
  have L1 : Hid (∀ V, Below w.heap.size w V → (Instr.lookup 42 (.map (some bm)) (.string h.box) false).run Try.prog V = .ok (.agg #[.string (nmOf l h.box), .int .i64 (bx l h.box).count, .string (bx l h.box).holder, .string (bx l h.box).sl, .int .i64 (stZ (bx l h.box)), .string (bx l h.box).under]) V) := fun V hV => (hc.of_below hV).look1 i hs.b
  have CC : Hid (∀ V, Below w.heap.size w V → V.cell? ⟨cb, 0, none⟩ = some (.map (some bm)) ∧ V.cell? ⟨cb, 1, none⟩ = some (.map (some bs))) := fun V hV => ⟨(hc.of_below hV).c.cell 0 (by simp), (hc.of_below hV).c.cell 1 (by simp)⟩
  have CV : Hid (∀ V, Below w.heap.size w V → CH V cb bm bs l l) := fun V hV => (hc.of_below hV).ch
  obtain ⟨nq, _⟩ := newL_eq i e
  have nq2 : newL 5 (nmOf l h.box) (bx l h.box) h = [.string h.box, .int .i64 (bact (bx l h.box) h).count, .string (bact (bx l h.box) h).holder, .string (bact (bx l h.box) h).sl, .int .i64 (stZ (bact (bx l h.box) h)), .string (bact (bx l h.box) h).under] := by
    have z := nq
    rw [a] at z
    exact z
  have DOES : Hid (∀ V b, IHolds V b 68 [.string (nmOf l h.box), .int .i64 (bx l h.box).count, .string (bx l h.box).holder, .string (bx l h.box).sl, .int .i64 (stZ (bx l h.box)), .string (bx l h.box).under] → Calls Try.prog 27 #[.pointer (some ⟨b, 0, none⟩), .agg #[.int .i64 h.act, .string h.box, .string h.who, .string h.to_, .int .i64 h.cnt, .string h.sl]] V fun e w' => e = .returned (.tuple #[]) ∧ IHolds w' b 68 [.string h.box, .int .i64 (bact (bx l h.box) h).count, .string (bact (bx l h.box) h).holder, .string (bact (bx l h.box) h).sl, .int .i64 (stZ (bact (bx l h.box) h)), .string (bact (bx l h.box) h).under] ∧ V.grownBy w' (some b)) := fun V b hb => by
    have q := doesN5 (h := h) hb
    rw [nq2] at q
    exact q
  have BOX : Hid (∀ V, CH V cb bm bs l l → ∃ W9, (Instr.mapUpdate 42 (.map (some bm)) (.string h.box) (.agg #[.string h.box, .int .i64 (bact (bx l h.box) h).count, .string (bact (bx l h.box) h).holder, .string (bact (bx l h.box) h).sl, .int .i64 (stZ (bact (bx l h.box) h)), .string (bact (bx l h.box) h).under])).run Try.prog V = .ok () W9 ∧ CH W9 cb bm bs (l ++ [h]) l ∧ V.grownBy W9 (some bm)) := fun V hV => hV.box i e hs.b
  have SEAL : Hid (∀ V, CH V cb bm bs (l ++ [h]) l → ∃ W9, (Instr.mapUpdate 43 (.map (some bs)) (.string h.sl) (.agg #[])).run Try.prog V = .ok () W9 ∧ CH W9 cb bm bs (l ++ [h]) (l ++ [h]) ∧ V.grownBy W9 (some bs)) := fun V hV => hV.seal (by omega) hl hs.s
  have SL : Hid (∀ V, Calls Try.prog 33 #[.agg #[.bool false, .int .i64 2, .bool false, .bool true, .bool false, .func (.func 27) #[] #[]]] V fun e w' => e = .returned (.bool true) ∧ Below V.heap.size V w') := fun V => seals33 false 2 false true false 27 V
  have n1 := hc.c.lt
  have n2 := hc.ch.bm_lt
  have n3 := hc.ch.bs_lt
  have n4 := hc.n1
  have n5 := hc.n2
  have NN : Hid (cb < w.heap.size ∧ bm < w.heap.size ∧ bs < w.heap.size ∧ cb ≠ bm ∧ cb ≠ bs) := ⟨n1, n2, n3, n4, n5⟩
  clear hc i e hs hl nq nq2 n1 n2 n3 n4 n5
  unfold d5 DV HV
  generalize nmOf l h.box = nm at *
  generalize (bact (bx l h.box) h).count = m1 at *
  generalize (bact (bx l h.box) h).holder = m2 at *
  generalize (bact (bx l h.box) h).sl = m3 at *
  generalize stZ (bact (bx l h.box) h) = m4 at *
  generalize (bact (bx l h.box) h).under = m5 at *
  generalize (bx l h.box).count = r1 at *
  generalize (bx l h.box).sl = r3 at *
  generalize (bx l h.box).holder = r2 at *
  generalize (bx l h.box).under = r5 at *
  generalize stZ (bx l h.box) = r4 at *
  generalize l ++ [h] = lh at *
  generalize h.box = s1 at *
  generalize h.who = s2 at *
  generalize h.to_ = s3 at *
  generalize h.sl = s5 at *
  generalize h.cnt = x4 at *
  generalize h.act = x0 at *
  have B : Hid (Below w.heap.size w ((w.alloc (.cells #[.bool false, .int .i64 2, .bool false, .bool true, .bool false, .func (.func 27) #[] #[]] 51)).alloc (.cells #[.int .i64 x0, .string s1, .string s2, .string s3, .int .i64 x4, .string s5] 26))) := ((Below.refl _ _).alloc (Nat.le_refl _) _).alloc (by simp) _
  have I1 : Hid (IHolds ((w.alloc (.cells #[.bool false, .int .i64 2, .bool false, .bool true, .bool false, .func (.func 27) #[] #[]] 51)).alloc (.cells #[.int .i64 x0, .string s1, .string s2, .string s3, .int .i64 x4, .string s5] 26)) w.heap.size 51 [.bool false, .int .i64 2, .bool false, .bool true, .bool false, .func (.func 27) #[] #[]]) := (IHolds.new w 51 _).alloc _
  have I2 : Hid (IHolds ((w.alloc (.cells #[.bool false, .int .i64 2, .bool false, .bool true, .bool false, .func (.func 27) #[] #[]] 51)).alloc (.cells #[.int .i64 x0, .string s1, .string s2, .string s3, .int .i64 x4, .string s5] 26)) (w.heap.size + 1) 26 [.int .i64 x0, .string s1, .string s2, .string s3, .int .i64 x4, .string s5]) := by
    have q := IHolds.new (w.alloc (.cells #[.bool false, .int .i64 2, .bool false, .bool true, .bool false, .func (.func 27) #[] #[]] 51)) 26 [.int .i64 x0, .string s1, .string s2, .string s3, .int .i64 x4, .string s5]
    rw [World.size_alloc] at q; exact q
  have SZ : Hid ((((w.alloc (.cells #[.bool false, .int .i64 2, .bool false, .bool true, .bool false, .func (.func 27) #[] #[]] 51)).alloc (.cells #[.int .i64 x0, .string s1, .string s2, .string s3, .int .i64 x4, .string s5] 26))).heap.size = w.heap.size + 2) := by show _ = _; simp
  clear a
  go_enter Try.func19, Try.ntmps19
  go_wp2_with fail
  generalize ((w.alloc (.cells #[.bool false, .int .i64 2, .bool false, .bool true, .bool false, .func (.func 27) #[] #[]] 51)).alloc (.cells #[.int .i64 x0, .string s1, .string s2, .string s3, .int .i64 x4, .string s5] 26)) = U at *
  obtain ⟨q0, q1, q2, q3, q4, q5⟩ := six I2.out
  obtain ⟨c0, c1⟩ := CC.out U B.out
  refine wp_region_noPanic ?_
  refine rk1_wp c0 q1 (fun V hV => L1.out V (B.out.trans (hV.mono B.out.size))) (fun _ _ _ _ h => h) ?_
  intro u7 u8 u9 u10 u11 u12 u13
  refine NoPanic.normal ?_
  try dsimp only
  have IB : Hid (IHolds (U.alloc (.cells #[.string nm, .int .i64 r1, .string r2, .string r3, .int .i64 r4, .string r5] 68)).drew U.heap.size 68 [.string nm, .int .i64 r1, .string r2, .string r3, .int .i64 r4, .string r5]) := IHolds.new U 68 _
  have BU : Hid (Below U.heap.size U (U.alloc (.cells #[.string nm, .int .i64 r1, .string r2, .string r3, .int .i64 r4, .string r5] 68)).drew) := ((Below.refl _ _).alloc (Nat.le_refl _) _).drew
  have B1 : Hid (Below w.heap.size w (U.alloc (.cells #[.string nm, .int .i64 r1, .string r2, .string r3, .int .i64 r4, .string r5] 68)).drew) := B.out.trans (BU.out.mono B.out.size)
  have I1' : Hid (IHolds (U.alloc (.cells #[.string nm, .int .i64 r1, .string r2, .string r3, .int .i64 r4, .string r5] 68)).drew w.heap.size 51 [.bool false, .int .i64 2, .bool false, .bool true, .bool false, .func (.func 27) #[] #[]]) := I1.out.of_below BU.out
  have I2' : Hid (IHolds (U.alloc (.cells #[.string nm, .int .i64 r1, .string r2, .string r3, .int .i64 r4, .string r5] 68)).drew (w.heap.size + 1) 26 [.int .i64 x0, .string s1, .string s2, .string s3, .int .i64 x4, .string s5]) := I2.out.of_below BU.out
  have C1 : Hid (CH (U.alloc (.cells #[.string nm, .int .i64 r1, .string r2, .string r3, .int .i64 r4, .string r5] 68)).drew cb bm bs l l) := CV.out _ B1.out
  clear BU I1 I2 q0 q1 q2 q3 q4 q5 c0 c1 L1 CC CV
  generalize (U.alloc (.cells #[.string nm, .int .i64 r1, .string r2, .string r3, .int .i64 r4, .string r5] 68)).drew = V at *
  obtain ⟨ub, hub⟩ : ∃ ub, ub = U.heap.size := ⟨_, rfl⟩
  have UB : Hid (ub = w.heap.size + 2) := hub.trans SZ.out
  rw [← hub] at IB ⊢
  clear hub
  obtain ⟨q0, q1, q2, q3, q4, q5⟩ := six I2'.out
  obtain ⟨p0, p1, p2, p3, p4, p5⟩ := six I1'.out
  go_wp2_with (go_at_call 27; refine (DOES.out V ub IB.out).mono ?_)
  rintro e V2 ⟨rfl, hI, hG⟩
  have d1 : w.heap.size ≠ ub := by have := UB.out; omega
  have d2 : w.heap.size + 1 ≠ ub := by have := UB.out; omega
  have d3 : cb ≠ ub := by have := UB.out; have := NN.out; omega
  have d4 : bm ≠ ub := by have := UB.out; have := NN.out; omega
  have d5 : bs ≠ ub := by have := UB.out; have := NN.out; omega
  have J1 : Hid (IHolds V2 w.heap.size 51 [.bool false, .int .i64 2, .bool false, .bool true, .bool false, .func (.func 27) #[] #[]]) := grown_holds hG I1'.out d1
  have J2 : Hid (IHolds V2 (w.heap.size + 1) 26 [.int .i64 x0, .string s1, .string s2, .string s3, .int .i64 x4, .string s5]) := grown_holds hG I2'.out d2
  have J3 : Hid (IHolds V2 ub 68 [.string s1, .int .i64 m1, .string m2, .string m3, .int .i64 m4, .string m5]) := hI
  have C2 : Hid (CH V2 cb bm bs l l) := C1.out.grown hG d3 d4 d5
  have F2 : Hid (FR w V2 bm bs) := (FR.below B1.out).grown hG (Or.inl (by have := UB.out; omega))
  clear hI hG d1 d2 d3 d4 d5 q0 q1 q2 q3 q4 q5 p0 p1 p2 p3 p4 p5 I1' I2' IB C1 B1 DOES
  go_wp2_with fail
  obtain ⟨W9, hu, hC9, hG9⟩ := BOX.out V2.drew (C2.out.of_below (Below.refl _ _).drew)
  have C9 : Hid (CH W9 cb bm bs lh l) := hC9
  have G9 : Hid (V2.drew.grownBy W9 (some bm)) := hG9
  have HU : Hid ((Instr.mapUpdate 42 (.map (some bm)) (.string s1) (.agg #[.string s1, .int .i64 m1, .string m2, .string m3, .int .i64 m4, .string m5])).run Try.prog V2.drew = .ok () W9) := hu
  have e1 : w.heap.size ≠ bm := by have := NN.out; omega
  have e2 : w.heap.size + 1 ≠ bm := by have := NN.out; omega
  have e3 : ub ≠ bm := by have := UB.out; have := NN.out; omega
  have K1 : Hid (IHolds W9 w.heap.size 51 [.bool false, .int .i64 2, .bool false, .bool true, .bool false, .func (.func 27) #[] #[]]) := grown_holds hG9 (show IHolds V2.drew _ _ _ from J1.out) e1
  have K2 : Hid (IHolds W9 (w.heap.size + 1) 26 [.int .i64 x0, .string s1, .string s2, .string s3, .int .i64 x4, .string s5]) := grown_holds hG9 (show IHolds V2.drew _ _ _ from J2.out) e2
  have K3 : Hid (IHolds W9 ub 68 [.string s1, .int .i64 m1, .string m2, .string m3, .int .i64 m4, .string m5]) := grown_holds hG9 (show IHolds V2.drew _ _ _ from J3.out) e3
  have F9 : Hid (FR w W9 bm bs) := (F2.out.trans (FR.below (Below.refl _ _).drew)).grown hG9 (Or.inr (Or.inl rfl))
  clear hu hC9 hG9 e1 e2 e3
  obtain ⟨q0, q1, q2, q3, q4, q5⟩ := six J2.out
  obtain ⟨o0, o1, o2, o3, o4, o5⟩ := six J3.out
  obtain ⟨q0', q1', q2', q3', q4', q5'⟩ := six K2.out
  obtain ⟨o0', o1', o2', o3', o4', o5'⟩ := six K3.out
  refine wp_region_noPanic ?_
  refine rk3_wp (C2.out.c.cell 0 (by simp)) q1 o0 o1 o2 o3 o4 o5 (C9.out.c.cell 0 (by simp)) q1' o0' o1' o2' o3' o4' o5' HU.out (fun _ _ _ _ h => h) ?_
  intro u18 u19 u20 u21 u22 u23 u24
  refine NoPanic.normal ?_
  try dsimp only
  clear q0 q1 q2 q3 q4 q5 o0 o1 o2 o3 o4 o5 q0' q1' q2' q3' q4' q5' o0' o1' o2' o3' o4' o5' HU J1 J2 J3 C2 F2 G9 BOX K3
  obtain ⟨p0, p1, p2, p3, p4, p5⟩ := six K1.out
  go_wp2_with (go_at_call 33; refine (SL.out _).mono ?_)
  rintro e Z1 ⟨rfl, hB⟩
  have C8 : Hid (CH Z1 cb bm bs lh l) := C9.out.of_below hB
  have F8 : Hid (FR w Z1 bm bs) := F9.out.trans (FR.below hB)
  have K8 : Hid (IHolds Z1 (w.heap.size + 1) 26 [.int .i64 x0, .string s1, .string s2, .string s3, .int .i64 x4, .string s5]) := K2.out.of_below hB
  clear hB p0 p1 p2 p3 p4 p5 K1 K2 C9 F9
  go_wp2_with fail
  obtain ⟨Y9, hu, hC, hG⟩ := SEAL.out Z1.drew (C8.out.of_below (Below.refl _ _).drew)
  have CY : Hid (CH Y9 cb bm bs lh lh) := hC
  have HU : Hid ((Instr.mapUpdate 43 (.map (some bs)) (.string s5) (.agg #[])).run Try.prog Z1.drew = .ok () Y9) := hu
  have e2 : w.heap.size + 1 ≠ bs := by have := NN.out; omega
  have KY : Hid (IHolds Y9 (w.heap.size + 1) 26 [.int .i64 x0, .string s1, .string s2, .string s3, .int .i64 x4, .string s5]) := grown_holds hG (show IHolds Z1.drew _ _ _ from K8.out) e2
  have FY : Hid (FR w Y9 bm bs) := (F8.out.trans (FR.below (Below.refl _ _).drew)).grown hG (Or.inr (Or.inr rfl))
  clear hu hC hG e2
  obtain ⟨q0, q1, q2, q3, q4, q5⟩ := six K8.out
  obtain ⟨q0', q1', q2', q3', q4', q5'⟩ := six KY.out
  refine wp_region_noPanic ?_
  refine rk5_wp (C8.out.c.cell 1 (by simp)) q5 (CY.out.c.cell 1 (by simp)) q5' HU.out (fun _ _ _ _ h => h) ?_
  intro u27 u28 u29 u30 u31 u32 u33
  refine NoPanic.normal ?_
  try dsimp only
  clear q0 q1 q2 q3 q4 q5 q0' q1' q2' q3' q4' q5' HU
  go_wp2_with fail
  go_end0
  exact ⟨rfl, CY.out.cu, FY.out⟩
end Go.Proofs.Ytafekaonmpkhiaa
