/- sameFracs, sameWatch. AuditBegins: the law. -/
import Derived.Test.YtflabehlaiocaaaDoorHc
import Derived.Test.YtflabehlaiocaaaDoorKg
set_option linter.unusedSimpArgs false
set_option linter.unusedVariables false
set_option maxRecDepth 100000
namespace Go.Proofs.YtflabehlaiocaaaDoor
open Go.RowKit Go.Deep Go.PlainAid

def rs19 : Code := Go.Code.region 6 #[{ dst := some 16, op := Go.Op.move (Go.Operand.tmp 0), type := 25, pos := "law.go:33", after := #[], guard := none }, { dst := some 17, op := Go.Op.move (Go.Operand.tmp 5), type := 3, pos := "law.go:33", after := #[], guard := none }, { dst := some 18, op := Go.Op.indexAddr 25 (Go.Operand.tmp 16) (Go.Operand.tmp 17), type := 0, pos := "law.go:33", after := #[{ on := 0, ground := Go.Ground.data }, { on := 1, ground := Go.Ground.data }], guard := none }, { dst := some 19, op := Go.Op.load 24 (Go.Operand.tmp 18), type := 24, pos := "law.go:33", after := #[{ on := 2, ground := Go.Ground.data }], guard := none }, { dst := some 20, op := Go.Op.move (Go.Operand.tmp 1), type := 25, pos := "law.go:33", after := #[], guard := none }, { dst := some 21, op := Go.Op.move (Go.Operand.tmp 5), type := 3, pos := "law.go:33", after := #[], guard := none }, { dst := some 22, op := Go.Op.indexAddr 25 (Go.Operand.tmp 20) (Go.Operand.tmp 21), type := 0, pos := "law.go:33", after := #[{ on := 4, ground := Go.Ground.data }, { on := 5, ground := Go.Ground.data }], guard := none }, { dst := some 23, op := Go.Op.load 24 (Go.Operand.tmp 22), type := 24, pos := "law.go:33", after := #[{ on := 6, ground := Go.Ground.data }], guard := none }, { dst := some 24, op := Go.Op.binOp Go.BinOp.neq 24 (Go.Operand.tmp 19) (Go.Operand.tmp 23) 24, type := 4, pos := "law.go:33", after := #[{ on := 3, ground := Go.Ground.data }, { on := 7, ground := Go.Ground.data }], guard := none }] true
set_option maxHeartbeats 8000000 in
theorem rs19_same {wr : World} {df : List Deferred} {ab ao bb bo n ac bc i : Nat} {x y : ByteArray} {Q : Exit → Act → World → Prop} {t2 t3 t4 t6 t7 t8 t9 t10 t11 t12 t13 t14 t15 t16 t17 t18 t19 t20 t21 t22 t23 t24 t25 : Value} (il : (i : Int) < (n : Int)) (p1 : wr.drew.cell? ⟨ab, ao + i * 2, none⟩ = some (.string x)) (p2 : wr.drew.cell? ⟨ab, ao + i * 2 + 1, none⟩ = some (.string y)) (p3 : wr.drew.cell? ⟨bb, bo + i * 2, none⟩ = some (.string x)) (p4 : wr.drew.cell? ⟨bb, bo + i * 2 + 1, none⟩ = some (.string y)) 
    (hQp : ∀ c a a' w, Q (.panic c) a w → Q (.panic c) a' w) (hQ : ∀ u16 u17 u18 u19 u20 u21 u22 u23, Q .normal ⟨#[.slice (some ⟨ab, ao, none⟩) n ac, .slice (some ⟨bb, bo, none⟩) n bc, t2, t3, t4, .int .i64 (i : Int), t6, t7, t8, t9, t10, t11, t12, t13, t14, t15, u16, u17, u18, u19, u20, u21, u22, u23, .bool false, t25], df⟩ wr.drew) :
    rs19.wp Tryd.prog Q ⟨#[.slice (some ⟨ab, ao, none⟩) n ac, .slice (some ⟨bb, bo, none⟩) n bc, t2, t3, t4, .int .i64 (i : Int), t6, t7, t8, t9, t10, t11, t12, t13, t14, t15, t16, t17, t18, t19, t20, t21, t22, t23, t24, t25], df⟩ wr := by
  have HP : Hid (∀ c a a' w, Q (.panic c) a w → Q (.panic c) a' w) := hQp
  have HQ : Hid (∀ u16 u17 u18 u19 u20 u21 u22 u23, Q .normal ⟨#[.slice (some ⟨ab, ao, none⟩) n ac, .slice (some ⟨bb, bo, none⟩) n bc, t2, t3, t4, .int .i64 (i : Int), t6, t7, t8, t9, t10, t11, t12, t13, t14, t15, u16, u17, u18, u19, u20, u21, u22, u23, .bool false, t25], df⟩ wr.drew) := hQ
  clear hQ hQp
  unfold rs19
  refine wp_region_held_drew (S := fun V => V = wr.drew) (by kernel_rfl) rfl (fun hH0 => ?_)
  generalize wr.drew = X at *
  refine tk (i := 0) (v := .slice (some ⟨ab, ao, none⟩) n ac) rfl (by kernel_rfl) (fun _ _ _ h => HP.out _ _ _ _ h) (by kernel_rfl) ?_ hH0 ?_
  · intro V hS; subst hS; go_simp
  simp only [Act.put, y1, y2, y3, y4, y5, y6, y7]
  refine tk (i := 1) (v := .int .i64 (i : Int)) rfl (by kernel_rfl) (fun _ _ _ h => HP.out _ _ _ _ h) (by kernel_rfl) ?_ hH0 ?_
  · intro V hS; subst hS; go_simp
  simp only [Act.put, y1, y2, y3, y4, y5, y6, y7]
  refine tk (i := 2) (v := .pointer (some ⟨ab, ao + i * 2, none⟩)) rfl (by kernel_rfl) (fun _ _ _ h => HP.out _ _ _ _ h) (by kernel_rfl) ?_ hH0 ?_
  · intro V hS; subst hS; go_simp
  simp only [Act.put, y1, y2, y3, y4, y5, y6, y7]
  refine tk (i := 3) (v := .agg #[.string x, .string y]) rfl (by kernel_rfl) (fun _ _ _ h => HP.out _ _ _ _ h) (by kernel_rfl) ?_ hH0 ?_
  · intro V hS; subst hS; go_simp
  simp only [Act.put, y1, y2, y3, y4, y5, y6, y7]
  refine tk (i := 4) (v := .slice (some ⟨bb, bo, none⟩) n bc) rfl (by kernel_rfl) (fun _ _ _ h => HP.out _ _ _ _ h) (by kernel_rfl) ?_ hH0 ?_
  · intro V hS; subst hS; go_simp
  simp only [Act.put, y1, y2, y3, y4, y5, y6, y7]
  refine tk (i := 5) (v := .int .i64 (i : Int)) rfl (by kernel_rfl) (fun _ _ _ h => HP.out _ _ _ _ h) (by kernel_rfl) ?_ hH0 ?_
  · intro V hS; subst hS; go_simp
  simp only [Act.put, y1, y2, y3, y4, y5, y6, y7]
  refine tk (i := 6) (v := .pointer (some ⟨bb, bo + i * 2, none⟩)) rfl (by kernel_rfl) (fun _ _ _ h => HP.out _ _ _ _ h) (by kernel_rfl) ?_ hH0 ?_
  · intro V hS; subst hS; go_simp
  simp only [Act.put, y1, y2, y3, y4, y5, y6, y7]
  refine tk (i := 7) (v := .agg #[.string x, .string y]) rfl (by kernel_rfl) (fun _ _ _ h => HP.out _ _ _ _ h) (by kernel_rfl) ?_ hH0 ?_
  · intro V hS; subst hS; go_simp
  simp only [Act.put, y1, y2, y3, y4, y5, y6, y7]
  refine tk (i := 8) (v := .bool false) rfl (by kernel_rfl) (fun _ _ _ h => HP.out _ _ _ _ h) (by kernel_rfl) ?_ hH0 ?_
  · intro V hS; subst hS; go_simp
  simp only [Act.put, y1, y2, y3, y4, y5, y6, y7]
  refine wpAnyH_done (by kernel_rfl) ?_ _
  exact HQ.out _ _ _ _ _ _ _ _
/-- A list of pairs of texts as it lies. -/
def FL (W : World) (a : Option Addr) (l : List (ByteArray × ByteArray)) : Prop := ∀ i (h : i < l.length), ∃ b o, a = some ⟨b, o, none⟩ ∧ W.cell? ⟨b, o + i * 2, none⟩ = some (.string l[i].1) ∧ W.cell? ⟨b, o + i * 2 + 1, none⟩ = some (.string l[i].2)
theorem FL.of_below {W W' : World} {a : Option Addr} {l : List (ByteArray × ByteArray)} (h : FL W a l) (hb : Below W.heap.size W W') : FL W' a l := fun i hi => by
  obtain ⟨b, o, e, q1, q2⟩ := h i hi
  exact ⟨b, o, e, cell_keep q1 hb, cell_keep q2 hb⟩
theorem fv_len (l : List (ByteArray × ByteArray)) : (fv l).length = l.length * 2 := by
  induction l with
  | nil => rfl
  | cons a t ih => show ([Value.string a.1, Value.string a.2] ++ fv t).length = _; rw [List.length_append, ih]; simp; omega
theorem fv_get : ∀ (l : List (ByteArray × ByteArray)) (i : Nat) (hi : i < l.length), (fv l)[i * 2]? = some (.string l[i].1) ∧ (fv l)[i * 2 + 1]? = some (.string l[i].2)
  | [], i, hi => by cases hi
  | a :: t, 0, _ => ⟨rfl, rfl⟩
  | a :: t, i + 1, hi => by
    have ih := fv_get t i (by simpa using hi)
    have e : ∀ j, (fv (a :: t))[j + 2]? = (fv t)[j]? := fun j => by show ([Value.string a.1, Value.string a.2] ++ fv t)[j + 2]? = _; simp
    have e1 : (i + 1) * 2 = i * 2 + 2 := by omega
    have e2 : (i + 1) * 2 + 1 = i * 2 + 1 + 2 := by omega
    rw [e2, e1, e, e]
    exact ih
theorem fl_of_own {W : World} {base : Nat} {v : Value} {l : List (ByteArray × ByteArray)} (h : W.ownsRow base 24 2 v l.length (fv l)) : ∃ a c, v = .slice a l.length c ∧ FL W a l := by
  obtain ⟨hl, ⟨rfl, h0⟩ | ⟨g, cap, cur, rfl, hbg, hg, hc, hm, hs, ht⟩⟩ := id h
  · exact ⟨none, 0, by rw [h0], fun i hi => by omega⟩
  · refine ⟨some ⟨g, 0, none⟩, cap, rfl, fun i hi => ⟨g, 0, rfl, ?_, ?_⟩⟩
    · rw [Nat.zero_add, h.cellAt (i * 2) (by omega)]
      exact (fv_get l i hi).1
    · rw [Nat.zero_add, h.cellAt (i * 2 + 1) (by omega)]
      exact (fv_get l i hi).2
set_option maxHeartbeats 4000000 in
theorem sameFracs19 {l : List (ByteArray × ByteArray)} {a b : Option Addr} {c d : Nat} {w : World} (ha : FL w a l) (hb : FL w b l) (hn : l.length < 9223372036854775808) :
    Calls Tryd.prog 19 #[.slice a l.length c, .slice b l.length d] w fun e w' => e = .returned (.bool true) ∧ Below w.heap.size w w' := by
  have HA : Hid (FL w a l) := ha
  have HB : Hid (FL w b l) := hb
  clear ha hb
  go_enter Tryd.func19, Tryd.ntmps19
  go_wp2_with fail
  go_loopg [5, 13] l.length (fun gk v5 v13 wr => ∃ i : Nat, i + gk = l.length ∧ v13 = .int .i64 (i : Int) ∧ Below w.heap.size w wr)
  case atStart => exact ⟨0, by omega, rfl, Below.refl _ _⟩
  case round =>
    obtain ⟨i, hi, rfl, hB⟩ := hrel
    have B : Hid (Below w.heap.size w wr) := hB
    have BD : Hid (Below w.heap.size w wr.drew) := hB.drew
    clear hB
    by_cases hlt : i < l.length
    · have il : (i : Int) < (l.length : Int) := by omega
      obtain ⟨ab, ao, rfl, p1, p2⟩ := (HA.out.of_below BD.out) i hlt
      obtain ⟨bb, bo, rfl, p3, p4⟩ := (HB.out.of_below BD.out) i hlt
      generalize l[i].1 = x at *
      generalize l[i].2 = y at *
      go_wp2_with fail
      refine wp_region_noPanic ?_
      refine rs19_same il p1 p2 p3 p4 (fun _ _ _ _ h => h) ?_
      intro y16 y17 y18 y19 y20 y21 y22 y23
      refine NoPanic.normal ?_
      try dsimp only
      clear p1 p2 p3 p4
      go_wp2_with fail
      go_roundg (gk - 1)
      case measure => omega
      case rel => exact ⟨i + 1, by omega, by go_num, BD.out⟩
    · obtain rfl : i = l.length := by omega
      clear hlt
      go_wp2_with fail
      go_ret
      exact ⟨rfl, B.out⟩
set_option maxHeartbeats 8000000 in
theorem sameWatch6_at {w : World} {a1 a2 a3 a4 b1 b2 b3 b4 : Option Addr} {c1 c2 c3 c4 d1 d2 d3 d4 : Nat} {n d : ByteArray} {l1 l2 : List Int} {l3 l4 : List (ByteArray × ByteArray)}
    (h1 : IL w a1 l1) (h2 : IL w a2 l2) (h3 : FL w a3 l3) (h4 : FL w a4 l4) (g1 : IL w b1 l1) (g2 : IL w b2 l2) (g3 : FL w b3 l3) (g4 : FL w b4 l4) (q1 : l1.length < 9223372036854775808) (q2 : l2.length < 9223372036854775808) (q3 : l3.length < 9223372036854775808) (q4 : l4.length < 9223372036854775808) :
    Calls Tryd.prog 6 #[.agg #[.slice a1 l1.length c1, .slice a2 l2.length c2, .slice a3 l3.length c3, .slice a4 l4.length c4, .string n, .string d, .int .i64 0], .agg #[.slice b1 l1.length d1, .slice b2 l2.length d2, .slice b3 l3.length d3, .slice b4 l4.length d4, .string n, .string d, .int .i64 0]] w fun e w' => e = .returned (.bool true) ∧ Below w.heap.size w w' := by
  have C1 : Hid (∀ V, Below w.heap.size w V → Calls Tryd.prog 18 #[.slice a1 l1.length c1, .slice b1 l1.length d1] V fun e w' => e = .returned (.bool true) ∧ Below V.heap.size V w') := fun V hV => sameInts18 (h1.of_below hV) (g1.of_below hV) q1
  have C2 : Hid (∀ V, Below w.heap.size w V → Calls Tryd.prog 18 #[.slice a2 l2.length c2, .slice b2 l2.length d2] V fun e w' => e = .returned (.bool true) ∧ Below V.heap.size V w') := fun V hV => sameInts18 (h2.of_below hV) (g2.of_below hV) q2
  have C3 : Hid (∀ V, Below w.heap.size w V → Calls Tryd.prog 19 #[.slice a3 l3.length c3, .slice b3 l3.length d3] V fun e w' => e = .returned (.bool true) ∧ Below V.heap.size V w') := fun V hV => sameFracs19 (h3.of_below hV) (g3.of_below hV) q3
  have C4 : Hid (∀ V, Below w.heap.size w V → Calls Tryd.prog 19 #[.slice a4 l4.length c4, .slice b4 l4.length d4] V fun e w' => e = .returned (.bool true) ∧ Below V.heap.size V w') := fun V hV => sameFracs19 (h4.of_below hV) (g4.of_below hV) q4
  have B : Hid (Below w.heap.size w ((w.alloc (.cells #[.slice a1 l1.length c1, .slice a2 l2.length c2, .slice a3 l3.length c3, .slice a4 l4.length c4, .string n, .string d, .int .i64 0] 27)).alloc (.cells #[.slice b1 l1.length d1, .slice b2 l2.length d2, .slice b3 l3.length d3, .slice b4 l4.length d4, .string n, .string d, .int .i64 0] 27))) := ((Below.refl _ w).alloc (Nat.le_refl _) _).alloc (by simp only [World.size_alloc]; omega) _
  have JX : Hid (IHolds ((w.alloc (.cells #[.slice a1 l1.length c1, .slice a2 l2.length c2, .slice a3 l3.length c3, .slice a4 l4.length c4, .string n, .string d, .int .i64 0] 27)).alloc (.cells #[.slice b1 l1.length d1, .slice b2 l2.length d2, .slice b3 l3.length d3, .slice b4 l4.length d4, .string n, .string d, .int .i64 0] 27)) w.heap.size 27 [.slice a1 l1.length c1, .slice a2 l2.length c2, .slice a3 l3.length c3, .slice a4 l4.length c4, .string n, .string d, .int .i64 0]) := by
    have q := IHolds.new w 27 [.slice a1 l1.length c1, .slice a2 l2.length c2, .slice a3 l3.length c3, .slice a4 l4.length c4, .string n, .string d, .int .i64 0]
    exact q.alloc _
  have JY : Hid (IHolds ((w.alloc (.cells #[.slice a1 l1.length c1, .slice a2 l2.length c2, .slice a3 l3.length c3, .slice a4 l4.length c4, .string n, .string d, .int .i64 0] 27)).alloc (.cells #[.slice b1 l1.length d1, .slice b2 l2.length d2, .slice b3 l3.length d3, .slice b4 l4.length d4, .string n, .string d, .int .i64 0] 27)) (w.heap.size + 1) 27 [.slice b1 l1.length d1, .slice b2 l2.length d2, .slice b3 l3.length d3, .slice b4 l4.length d4, .string n, .string d, .int .i64 0]) := by
    have q := IHolds.new (w.alloc (.cells #[.slice a1 l1.length c1, .slice a2 l2.length c2, .slice a3 l3.length c3, .slice a4 l4.length c4, .string n, .string d, .int .i64 0] 27)) 27 [.slice b1 l1.length d1, .slice b2 l2.length d2, .slice b3 l3.length d3, .slice b4 l4.length d4, .string n, .string d, .int .i64 0]
    simp only [World.size_alloc] at q
    exact q
  clear h1 h2 h3 h4 g1 g2 g3 g4 q1 q2 q3 q4
  go_enter Tryd.func6, Tryd.ntmps6
  go_upto_region 1 with fail
  generalize ((w.alloc (.cells #[.slice a1 l1.length c1, .slice a2 l2.length c2, .slice a3 l3.length c3, .slice a4 l4.length c4, .string n, .string d, .int .i64 0] 27)).alloc (.cells #[.slice b1 l1.length d1, .slice b2 l2.length d2, .slice b3 l3.length d3, .slice b4 l4.length d4, .string n, .string d, .int .i64 0] 27)) = V0 at *
  obtain ⟨x0, x1, x2, x3, x4, x5, x6⟩ := seven JX.out
  obtain ⟨y0, y1, y2, y3, y4, y5, y6⟩ := seven JY.out
  go_wp2_with (go_at_call 18; refine (C1.out V0 B.out).mono ?_)
  rintro e V1 ⟨rfl, hb⟩
  clear x0 x1 x2 x3 x4 x5 x6 y0 y1 y2 y3 y4 y5 y6
  replace JX := aJ JX hb
  replace JY := aJ JY hb
  replace B := aB B hb
  clear hb
  obtain ⟨x0, x1, x2, x3, x4, x5, x6⟩ := seven JX.out
  obtain ⟨y0, y1, y2, y3, y4, y5, y6⟩ := seven JY.out
  go_wp2_with (go_at_call 18; refine (C2.out V1 B.out).mono ?_)
  rintro e V2 ⟨rfl, hb⟩
  clear x0 x1 x2 x3 x4 x5 x6 y0 y1 y2 y3 y4 y5 y6
  replace JX := aJ JX hb
  replace JY := aJ JY hb
  replace B := aB B hb
  clear hb
  obtain ⟨x0, x1, x2, x3, x4, x5, x6⟩ := seven JX.out
  obtain ⟨y0, y1, y2, y3, y4, y5, y6⟩ := seven JY.out
  go_wp2_with (go_at_call 19; refine (C3.out V2 B.out).mono ?_)
  rintro e V3 ⟨rfl, hb⟩
  clear x0 x1 x2 x3 x4 x5 x6 y0 y1 y2 y3 y4 y5 y6
  replace JX := aJ JX hb
  replace JY := aJ JY hb
  replace B := aB B hb
  clear hb
  obtain ⟨x0, x1, x2, x3, x4, x5, x6⟩ := seven JX.out
  obtain ⟨y0, y1, y2, y3, y4, y5, y6⟩ := seven JY.out
  go_wp2_with (go_at_call 19; refine (C4.out V3 B.out).mono ?_)
  rintro e V4 ⟨rfl, hb⟩
  clear x0 x1 x2 x3 x4 x5 x6 y0 y1 y2 y3 y4 y5 y6
  replace JX := aJ JX hb
  replace JY := aJ JY hb
  replace B := aB B hb
  clear hb
  obtain ⟨x0, x1, x2, x3, x4, x5, x6⟩ := seven JX.out
  obtain ⟨y0, y1, y2, y3, y4, y5, y6⟩ := seven JY.out
  go_wp2_with fail
  go_ret
  exact ⟨rfl, B.out⟩
theorem sameWatch6 {w : World} {v1 v2 v3 v4 u1 u2 u3 u4 : Value} {n d : ByteArray} {l1 l2 : List Int} {l3 l4 : List (ByteArray × ByteArray)}
    (h : WT w v1 v2 v3 v4 l1 l2 l3 l4) (g : WT w u1 u2 u3 u4 l1 l2 l3 l4) (q1 : l1.length < 9223372036854775808) (q2 : l2.length < 9223372036854775808) (q3 : l3.length < 9223372036854775808) (q4 : l4.length < 9223372036854775808) :
    Calls Tryd.prog 6 #[.agg #[v1, v2, v3, v4, .string n, .string d, .int .i64 0], .agg #[u1, u2, u3, u4, .string n, .string d, .int .i64 0]] w fun e w' => e = .returned (.bool true) ∧ Below w.heap.size w w' := by
  obtain ⟨⟨_, h1⟩, ⟨_, h2⟩, ⟨_, h3⟩, ⟨_, h4⟩⟩ := h
  obtain ⟨⟨_, g1⟩, ⟨_, g2⟩, ⟨_, g3⟩, ⟨_, g4⟩⟩ := g
  obtain ⟨a1, c1, rfl, h1', -, -⟩ := il_of_own h1
  obtain ⟨a2, c2, rfl, h2', -, -⟩ := il_of_own h2
  obtain ⟨a3, c3, rfl, h3'⟩ := fl_of_own h3
  obtain ⟨a4, c4, rfl, h4'⟩ := fl_of_own h4
  obtain ⟨b1, d1, rfl, g1', -, -⟩ := il_of_own g1
  obtain ⟨b2, d2, rfl, g2', -, -⟩ := il_of_own g2
  obtain ⟨b3, d3, rfl, g3'⟩ := fl_of_own g3
  obtain ⟨b4, d4, rfl, g4'⟩ := fl_of_own g4
  exact sameWatch6_at h1' h2' h3' h4' g1' g2' g3' g4' q1 q2 q3 q4
end Go.Proofs.YtflabehlaiocaaaDoor
namespace Go.Proofs.YtflabehlaiocaaaDoor
open Go.RowKit Go.Deep Go.PlainAid

theorem hidIt {p : Prop} (h : p) : Hid p := h
def eB (z : Int) (x : ByteArray) : ByteArray := if z = 0 then x else ⟨#[]⟩
def eI (z : Int) (l : List Int) : List Int := if z = 0 then l else []
def eF (z : Int) (l : List (ByteArray × ByteArray)) : List (ByteArray × ByteArray) := if z = 0 then l else []
theorem BA.one {t ws : List Int} {n d : ByteArray} {e : Ending} {w' : World} (h : BA t ws n d e w') : ∃ v1 v2 v3 v4, e = .returned (.tuple #[.agg #[v1, v2, v3, v4, .string (eB (beC t ws n d) n), .string (eB (beC t ws n d) d), .int .i64 0], .int .i64 (beC t ws n d)]) ∧ WT w' v1 v2 v3 v4 (eI (beC t ws n d) (rW1 (loL ws t.length) ws)) (eI (beC t ws n d) (rW2 (loL ws t.length) ws)) (eF (beC t ws n d) (rW3 t (loL ws t.length) ws)) (eF (beC t ws n d) (rW4 (loL ws t.length) ws)) := by
  rcases h with ⟨h1, rfl⟩ | ⟨h1, v1, v2, v3, v4, rfl, h2⟩
  · unfold eB eI eF
    rw [if_neg h1, if_neg h1, if_neg h1, if_neg h1, if_neg h1, if_neg h1]
    exact ⟨_, _, _, _, rfl, WT.nil _⟩
  · rw [h1]
    exact ⟨v1, v2, v3, v4, rfl, h2⟩
theorem be_small {t ws : List Int} {n d : ByteArray} (h : beC t ws n d = 0) : t.length ≤ 12 ∧ ws.length ≤ 12 := by
  have q : msB t.length ws = false := by
    cases hq : msB t.length ws with
    | false => rfl
    | true => unfold beC at h; rw [hq] at h; cases h
  have := ms_no q
  omega
theorem be_lens (t ws : List Int) (n d : ByteArray) : (eI (beC t ws n d) (rW1 (loL ws t.length) ws)).length ≤ 4000 ∧ (eI (beC t ws n d) (rW2 (loL ws t.length) ws)).length ≤ 4000 ∧ (eF (beC t ws n d) (rW3 t (loL ws t.length) ws)).length ≤ 4000 ∧ (eF (beC t ws n d) (rW4 (loL ws t.length) ws)).length ≤ 4000 := by
  unfold eI eF
  by_cases h : beC t ws n d = 0
  · rw [if_pos h, if_pos h, if_pos h, if_pos h]
    obtain ⟨s1, s2⟩ := be_small h
    obtain ⟨e1, e2, e3, e4⟩ := rW_len t (loL ws t.length) ws
    have : ws.length * (loL ws t.length).length ≤ 12 * 12 := Nat.mul_le_mul s2 (Nat.le_trans (loL_le _ _) s1)
    omega
  · rw [if_neg h, if_neg h, if_neg h, if_neg h]
    simp
set_option maxHeartbeats 8000000 in
theorem law3_walk {w : World} {ct cw N M : Nat} {at_ aw : Option Addr} {n d N1 D1 : ByteArray} {z : Int} {L1 L2 : List Int} {L3 L4 : List (ByteArray × ByteArray)} (hl : L1.length ≤ 4000 ∧ L2.length ≤ 4000 ∧ L3.length ≤ 4000 ∧ L4.length ≤ 4000)
    (c4 : Hid (∀ V, Below w.heap.size w V → Calls Tryd.prog 4 #[.slice at_ N ct, .slice aw M cw, .agg #[.string n, .string d]] V fun e w' => (∃ v1 v2 v3 v4, e = .returned (.tuple #[.agg #[v1, v2, v3, v4, .string N1, .string D1, .int .i64 0], .int .i64 z]) ∧ WT w' v1 v2 v3 v4 L1 L2 L3 L4) ∧ Below V.heap.size V w'))
    (c5 : Hid (∀ V, Below w.heap.size w V → Calls Tryd.prog 5 #[.slice at_ N ct, .slice aw M cw, .agg #[.string n, .string d]] V fun e w' => (∃ v1 v2 v3 v4, e = .returned (.tuple #[.agg #[v1, v2, v3, v4, .string N1, .string D1, .int .i64 0], .int .i64 z]) ∧ WT w' v1 v2 v3 v4 L1 L2 L3 L4) ∧ Below V.heap.size V w')) :
    Calls Tryd.prog 3 #[.slice at_ N ct, .slice aw M cw, .agg #[.string n, .string d]] w fun e w' => e = .returned (.bool true) ∧ Below w.heap.size w w' := by
  have HL : Hid (L1.length ≤ 4000 ∧ L2.length ≤ 4000 ∧ L3.length ≤ 4000 ∧ L4.length ≤ 4000) := hl
  clear hl
  have B : Hid (Below w.heap.size w (w.alloc (.cells #[.string n, .string d] 24))) := (Below.refl _ w).alloc (Nat.le_refl _) _
  have JX : Hid (IHolds (w.alloc (.cells #[.string n, .string d] 24)) w.heap.size 24 [.string n, .string d]) := IHolds.new w 24 _
  go_enter Tryd.func3, Tryd.ntmps3
  go_upto_region 1 with fail
  generalize (w.alloc (.cells #[.string n, .string d] 24)) = V0 at *
  obtain ⟨x0, x1⟩ := cJ JX
  go_wp2_with (go_at_call 4; refine (c4.out V0 B.out).mono ?_)
  rintro e V1 ⟨⟨v1, v2, v3, v4, rfl, hwt⟩, hb⟩
  clear x0 x1
  replace JX := aJ JX hb
  replace B := aB B hb
  obtain ⟨⟨p1, o1⟩, ⟨p2, o2⟩, ⟨p3, o3⟩, ⟨p4, o4⟩⟩ := id hwt
  obtain ⟨a1, k1, m1, rfl⟩ := own_slice o1
  obtain ⟨a2, k2, m2, rfl⟩ := own_slice o2
  obtain ⟨a3, k3, m3, rfl⟩ := own_slice o3
  obtain ⟨a4, k4, m4, rfl⟩ := own_slice o4
  have WT1 : Hid (WT V1 (.slice a1 k1 m1) (.slice a2 k2 m2) (.slice a3 k3 m3) (.slice a4 k4 m4) L1 L2 L3 L4) := hwt
  clear hwt hb o1 o2 o3 o4
  go_upto_region 2 with fail
  have hb := nB V1 (.cells #[.slice a1 k1 m1, .slice a2 k2 m2, .slice a3 k3 m3, .slice a4 k4 m4, .string N1, .string D1, .int .i64 0] 27)
  have JA : Hid (IHolds (V1.alloc (.cells #[.slice a1 k1 m1, .slice a2 k2 m2, .slice a3 k3 m3, .slice a4 k4 m4, .string N1, .string D1, .int .i64 0] 27)) V1.heap.size 27 [.slice a1 k1 m1, .slice a2 k2 m2, .slice a3 k3 m3, .slice a4 k4 m4, .string N1, .string D1, .int .i64 0]) := IHolds.new V1 27 _
  replace JX := aJ JX hb
  replace B := aB B hb
  have WT2 := hidIt (WT1.out.of_below hb)
  clear hb WT1
  generalize (V1.alloc (.cells #[.slice a1 k1 m1, .slice a2 k2 m2, .slice a3 k3 m3, .slice a4 k4 m4, .string N1, .string D1, .int .i64 0] 27)) = V2 at *
  generalize V1.heap.size = g1 at *
  obtain ⟨x0, x1⟩ := cJ JX
  go_wp2_with (go_at_call 5; refine (c5.out V2 B.out).mono ?_)
  rintro e V3 ⟨⟨u1, u2, u3, u4, rfl, hwt⟩, hb⟩
  clear x0 x1
  replace JX := aJ JX hb
  replace B := aB B hb
  replace JA := aJ JA hb
  have WT3 := hidIt (WT2.out.of_below hb)
  obtain ⟨⟨p1, o1⟩, ⟨p2, o2⟩, ⟨p3, o3⟩, ⟨p4, o4⟩⟩ := id hwt
  obtain ⟨b1, i1, j1, rfl⟩ := own_slice o1
  obtain ⟨b2, i2, j2, rfl⟩ := own_slice o2
  obtain ⟨b3, i3, j3, rfl⟩ := own_slice o3
  obtain ⟨b4, i4, j4, rfl⟩ := own_slice o4
  have WU3 : Hid (WT V3 (.slice b1 i1 j1) (.slice b2 i2 j2) (.slice b3 i3 j3) (.slice b4 i4 j4) L1 L2 L3 L4) := hwt
  clear hwt hb o1 o2 o3 o4 WT2
  go_upto_region 3 with fail
  have hb := nB V3 (.cells #[.slice b1 i1 j1, .slice b2 i2 j2, .slice b3 i3 j3, .slice b4 i4 j4, .string N1, .string D1, .int .i64 0] 27)
  have JB : Hid (IHolds (V3.alloc (.cells #[.slice b1 i1 j1, .slice b2 i2 j2, .slice b3 i3 j3, .slice b4 i4 j4, .string N1, .string D1, .int .i64 0] 27)) V3.heap.size 27 [.slice b1 i1 j1, .slice b2 i2 j2, .slice b3 i3 j3, .slice b4 i4 j4, .string N1, .string D1, .int .i64 0]) := IHolds.new V3 27 _
  replace JA := aJ JA hb
  replace B := aB B hb
  have WT4 := hidIt (WT3.out.of_below hb)
  have WU4 := hidIt (WU3.out.of_below hb)
  clear hb WT3 WU3 JX
  generalize (V3.alloc (.cells #[.slice b1 i1 j1, .slice b2 i2 j2, .slice b3 i3 j3, .slice b4 i4 j4, .string N1, .string D1, .int .i64 0] 27)) = V4 at *
  generalize V3.heap.size = g2 at *
  have C6 : Hid (Calls Tryd.prog 6 #[.agg #[.slice a1 k1 m1, .slice a2 k2 m2, .slice a3 k3 m3, .slice a4 k4 m4, .string N1, .string D1, .int .i64 0], .agg #[.slice b1 i1 j1, .slice b2 i2 j2, .slice b3 i3 j3, .slice b4 i4 j4, .string N1, .string D1, .int .i64 0]] V4 fun e w' => e = .returned (.bool true) ∧ Below V4.heap.size V4 w') := sameWatch6 WT4.out WU4.out (by have := HL.out; omega) (by have := HL.out; omega) (by have := HL.out; omega) (by have := HL.out; omega)
  obtain ⟨x0, x1, x2, x3, x4, x5, x6⟩ := seven JA.out
  obtain ⟨y0, y1, y2, y3, y4, y5, y6⟩ := seven JB.out
  clear WT4 WU4 JA JB HL c4 c5
  go_wp2_with (go_at_call 6; refine C6.out.mono ?_)
  rintro e V5 ⟨rfl, hb⟩
  have B5 : Hid (Below w.heap.size w V5) := B.out.trans (hb.mono B.out.size)
  clear hb B C6 x0 x1 x2 x3 x4 x5 x6 y0 y1 y2 y3 y4 y5 y6
  go_wp2_with fail
  go_ret
  exact ⟨rfl, B5.out⟩
theorem law3 {w : World} {ct cw : Nat} {at_ aw : Option Addr} {t ws : List Int} {n d : ByteArray} (ht : IL w at_ t) (hw : IL w aw ws) (htn : t.length < 9223372036854775808) (hwc : ws.length ≤ cw) (hcw : cw < 9223372036854775808) :
    Calls Tryd.prog 3 #[.slice at_ t.length ct, .slice aw ws.length cw, .agg #[.string n, .string d]] w fun e w' => e = .returned (.bool true) ∧ Below w.heap.size w w' :=
  law3_walk (be_lens t ws n d) (fun V hV => (begin4 (ht.of_below hV) (hw.of_below hV) htn hwc hcw).mono (fun e w' h => ⟨h.1.one, h.2⟩)) (fun V hV => (begin5 (ht.of_below hV) (hw.of_below hV) htn hwc hcw).mono (fun e w' h => ⟨h.1.one, h.2⟩))
end Go.Proofs.YtflabehlaiocaaaDoor
