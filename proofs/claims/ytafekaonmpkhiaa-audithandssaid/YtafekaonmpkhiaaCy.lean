/- The closure of plain.Boxes, walked. -/
import Derived.Test.YtafekaonmpkhiaaCx
set_option linter.unusedSimpArgs false
set_option linter.unusedVariables false
set_option maxRecDepth 100000
namespace Go.Proofs.Ytafekaonmpkhiaa
open Go.RowKit Go.Shelf Go.Deep Go.PlainAid

/-- How the second round through the boxes stands. -/
structure JB (U V : World) (kb ob nb k : Nat) (b : Bool) : Prop where
  bl : Below U.heap.size U V
  k : IHolds V kb 3 [.int .i64 (k : Int)]
  o : IHolds V ob 4 [.bool true]
  n : IHolds V nb 4 [.bool !b]
  l1 : U.heap.size ≤ kb
  l2 : U.heap.size ≤ ob
  l3 : U.heap.size ≤ nb
  n1 : kb ≠ ob
  n2 : kb ≠ nb
  n3 : ob ≠ nb
theorem JB.lay {U V : World} {kb ob nb k : Nat} {b : Bool} (h : JB U V kb ob nb k b) (x : Obj) : JB U (V.alloc x) kb ob nb k b :=
  ⟨h.bl.alloc h.bl.size _, h.k.alloc _, h.o.alloc _, h.n.alloc _, h.l1, h.l2, h.l3, h.n1, h.n2, h.n3⟩
theorem far_set {w : World} {b c i : Nat} {e : TypeId} {xs : List Value} {u : Value} (h : IHolds w b e xs) (hne : b ≠ c) : IHolds (w.setCell ⟨c, i, none⟩ u) b e xs := (Below.heap_setCell _ _ _ _ hne).trans h
set_option maxHeartbeats 8000000 in
theorem boxes21 {U : World} {kb ob nb lb : Nat} {l : List Hd} {ns : List ByteArray} {v : Value} (hl : IHolds U lb 30 [v]) (hb : BL U v l ns) (h9 : ns.length ≤ 256) {k : Nat} (hk : k < ns.length) {V : World} (hJ : JB U V kb ob nb k true) :
    Calls Try.prog 21 #[.agg (encB l (nth ns k)).toArray, .pointer (some ⟨ob, 0, none⟩), .pointer (some ⟨nb, 0, none⟩), .pointer (some ⟨kb, 0, none⟩), .pointer (some ⟨lb, 0, none⟩)] V fun e V' => ∃ b, e = .returned (.bool b) ∧ JB U V' kb ob nb (k + 1) b := by
  have il : (k : Int) < (ns.length : Int) := by omega
  obtain ⟨a, c, rfl, hat⟩ := hb.at
  obtain ⟨b, o, rfl, p0, p1, p2, p3⟩ := hat k hk
  have hbl : b < U.heap.size := cell_lt p0
  have hll := hl.lt
  have LB : Hid (IHolds V lb 30 [.slice (some ⟨b, o, none⟩) ns.length c]) := hl.of_below hJ.bl
  have c0 := cell_keep p0 hJ.bl
  have c1 := cell_keep p1 hJ.bl
  have c2 := cell_keep p2 hJ.bl
  have c3 := cell_keep p3 hJ.bl
  clear p0 p1 p2 p3 hat hb hl
  have JH : Hid (JB U V kb ob nb k true) := hJ
  have d1 : kb ≠ ob := hJ.n1
  have d2 : nb ≠ ob := fun e => hJ.n3 e.symm
  have d3 : lb ≠ ob := by have := hJ.l2; omega
  have d4 : b ≠ ob := by have := hJ.l2; omega
  have d5 : lb ≠ kb := by have := hJ.l1; omega
  have d6 : nb ≠ kb := fun e => hJ.n2 e.symm
  have d7 : V.heap.size ≠ ob := by have := hJ.o.lt; omega
  clear hJ hll hbl
  have HK : Hid (k < ns.length ∧ ns.length ≤ 256) := ⟨hk, h9⟩
  clear hk h9
  show Calls Try.prog 21 #[.agg #[.string (nth ns k), .int .i64 (bx l (nth ns k)).count, .string (bx l (nth ns k)).holder, .string (bx l (nth ns k)).sl], _, _, _, _] V _
  generalize (bx l (nth ns k)).count = y1 at *
  generalize (bx l (nth ns k)).holder = y2 at *
  generalize (bx l (nth ns k)).sl = y3 at *
  generalize nth ns k = x at *
  generalize ns.length = n at *
  go_enter Try.func21, Try.ntmps21
  go_wp2_with fail
  have VB := IHolds.new V 38 [.string x, .int .i64 y1, .string y2, .string y3]
  have JA : Hid (JB U (V.alloc (.cells #[.string x, .int .i64 y1, .string y2, .string y3] 38)) kb ob nb k true) := JH.out.lay _
  have LA : Hid (IHolds (V.alloc (.cells #[.string x, .int .i64 y1, .string y2, .string y3] 38)) lb 30 [.slice (some ⟨b, o, none⟩) n c]) := LB.out.alloc _
  have BA := (Below.refl _ V).alloc (Nat.le_refl V.heap.size) (.cells #[.string x, .int .i64 y1, .string y2, .string y3] 38)
  replace c0 := cell_keep c0 BA
  replace c1 := cell_keep c1 BA
  replace c2 := cell_keep c2 BA
  replace c3 := cell_keep c3 BA
  clear BA LB JH
  generalize V.heap.size = vb at *
  generalize V.alloc (.cells #[.string x, .int .i64 y1, .string y2, .string y3] 38) = W at *
  refine wp_region_noPanic ?_
  refine rx1_wp JA.out.o d2 d1 d3 d7 d4 il (JA.out.n.cell 0 (by simp)) (JA.out.k.cell 0 (by simp)) (LA.out.cell 0 (by simp)) (VB.cell 0 (by simp)) (VB.cell 1 (by simp)) (VB.cell 2 (by simp)) (VB.cell 3 (by simp)) c0 c1 c2 c3 (fun _ _ _ _ h => h) ?_
  intro u7 u8 u9 u10 u11 u12 u13 u14 u15 u16 u17 u18 u19 u20 u21 u22 u23 u24 u25
  refine NoPanic.normal ?_
  try dsimp only
  clear c0 c1 c2 c3 VB
  have KA : Hid (IHolds (W.drew.setCell ⟨ob, 0, none⟩ (.bool true)) kb 3 [.int .i64 (k : Int)]) := far_set (show IHolds W.drew kb 3 _ from JA.out.k) d1
  have OA : Hid (IHolds (W.drew.setCell ⟨ob, 0, none⟩ (.bool true)) ob 4 [.bool true]) := IHolds.set (show IHolds W.drew ob 4 [.bool true] from JA.out.o) 0 (.bool true)
  have NA : Hid (IHolds (W.drew.setCell ⟨ob, 0, none⟩ (.bool true)) nb 4 [.bool false]) := far_set (show IHolds W.drew nb 4 _ from JA.out.n) d2
  have LC : Hid (IHolds (W.drew.setCell ⟨ob, 0, none⟩ (.bool true)) lb 30 [.slice (some ⟨b, o, none⟩) n c]) := far_set (show IHolds W.drew lb 30 _ from LA.out) d3
  have BC : Hid (Below U.heap.size U (W.drew.setCell ⟨ob, 0, none⟩ (.bool true))) := Below.setCell (p := ⟨ob, 0, none⟩) JA.out.bl.drew JA.out.l2 _
  have JL : Hid (U.heap.size ≤ kb ∧ U.heap.size ≤ ob ∧ U.heap.size ≤ nb) := ⟨JA.out.l1, JA.out.l2, JA.out.l3⟩
  clear JA LA
  generalize W.drew.setCell ⟨ob, 0, none⟩ (.bool true) = X at *
  have x0 := KA.out.cell 0 (by simp)
  have x1 := KA.out.frozen 0
  have x2 := NA.out.cell 0 (by simp)
  have x3 := NA.out.frozen 0
  have x4 := LC.out.cell 0 (by simp)
  have hn9 : n ≤ 256 := HK.out.2
  have hq : (n : Int).tdiv 2 = ((n / 2 : Nat) : Int) := by simp
  obtain ⟨m, hm⟩ : ∃ m, m = n / 2 := ⟨_, rfl⟩
  rw [← hm] at hq
  have HM : Hid (m ≤ 128) := by have := HK.out; show _ ≤ _; omega
  clear hm
  have K2 : Hid (∀ bb : Bool, JB U ((X.setCell ⟨kb, 0, none⟩ (.int .i64 ((k : Int) + 1))).setCell ⟨nb, 0, none⟩ (.bool !bb)) kb ob nb (k + 1) bb) := fun bb =>
    ⟨Below.setCell (p := ⟨nb, 0, none⟩) (Below.setCell (p := ⟨kb, 0, none⟩) BC.out JL.out.1 _) JL.out.2.2 _, far_set (IHolds.set KA.out 0 (.int .i64 ((k : Int) + 1))) (fun e => d6 e.symm), far_set (far_set OA.out (fun e => d1 e.symm)) (fun e => d2 e.symm), IHolds.set (far_set NA.out d6) 0 (.bool !bb), JL.out.1, JL.out.2.1, JL.out.2.2, d1, fun e => d6 e.symm, fun e => d2 e.symm⟩
  go_wp2_with fail
  go_ret
  generalize decide (wrap64 (m : Int) < (k : Int) + 1) = d at *
  cases d
  · exact ⟨_, rfl, K2.out true⟩
  · exact ⟨_, rfl, K2.out false⟩
end Go.Proofs.Ytafekaonmpkhiaa
