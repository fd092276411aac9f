/- Regions of do. -/
import Derived.Test.YtafekaonmpkhiaaCj
import Derived.Deep.RegionHeld3
set_option linter.unusedSimpArgs false
set_option linter.unusedVariables false
set_option maxRecDepth 100000
namespace Go.Proofs.Ytafekaonmpkhiaa
open Go.Maps Go.WideMaps Go.RowKit Go.Deep Go.PlainAid

theorem CU.look1 {w : World} {cb bm bs : Nat} {l : List Hd} (h : CU w cb bm bs l) (i : Inv1 l) {nm : ByteArray} (hs : nm.size ≤ 140737488355328) :
    (Instr.lookup 42 (.map (some bm)) (.string nm) false).run Try.prog w = .ok (BV (nmOf l nm) (bx l nm)) w := by
  obtain ⟨n, D, m1, m2⟩ := h.m
  obtain ⟨v, ps, hr, hv⟩ := m1.lookup (t := 42) (e := 68) law Try.underlying42 (zero68 w) (zd := .held (BV ⟨#[]⟩ BR0)) (zp := []) rfl (key_of hs)
  rw [hr]
  have e : v = BV (nmOf l nm) (bx l nm) := by
    cases q : (bx l nm).ok with
    | true =>
      rw [m2.val nm q] at hv
      simp only [Rv, Option.some.injEq, Prod.mk.injEq, DataW.held.injEq] at hv
      rw [hv.1]; simp [nmOf, q]
    | false =>
      have z := m2.has nm
      rw [q] at z
      rw [Maps.atKey_of_not_has z] at hv
      simp only [Rv, Option.some.injEq, Prod.mk.injEq, DataW.held.injEq] at hv
      rw [hv.1, i.none nm q]; simp [nmOf, q]
  rw [e]
def rk1 : Code := Go.Code.region 1 #[{ dst := some 7, op := Go.Op.move (Go.Operand.tmp 0), type := 23, pos := "box.go:126", after := #[], guard := none }, { dst := some 8, op := Go.Op.nilCheck (Go.Operand.tmp 7), type := 0, pos := "box.go:126", after := #[{ on := 0, ground := Go.Ground.data }], guard := none }, { dst := some 9, op := Go.Op.fieldAddr 45 (Go.Operand.tmp 8) 0, type := 0, pos := "box.go:126", after := #[{ on := 1, ground := Go.Ground.data }], guard := none }, { dst := some 10, op := Go.Op.load 42 (Go.Operand.tmp 9), type := 42, pos := "box.go:126", after := #[{ on := 2, ground := Go.Ground.data }], guard := none }, { dst := some 11, op := Go.Op.fieldAddr 26 (Go.Operand.tmp 5) 1, type := 0, pos := "box.go:126", after := #[], guard := none }, { dst := some 12, op := Go.Op.load 9 (Go.Operand.tmp 11), type := 9, pos := "box.go:126", after := #[{ on := 4, ground := Go.Ground.data }], guard := none }, { dst := some 13, op := Go.Op.lookup 42 (Go.Operand.tmp 10) (Go.Operand.tmp 12) false, type := 68, pos := "box.go:126", after := #[{ on := 3, ground := Go.Ground.data }, { on := 5, ground := Go.Ground.data }], guard := none }, { dst := some 6, op := Go.Op.alloc 68, type := 0, pos := "box.go:126", after := #[], guard := none }, { dst := none, op := Go.Op.store 68 (Go.Operand.tmp 6) (Go.Operand.tmp 13), type := 0, pos := "box.go:126", after := #[{ on := 7, ground := Go.Ground.data }, { on := 6, ground := Go.Ground.data }, { on := 0, ground := Go.Ground.phase }, { on := 1, ground := Go.Ground.phase }, { on := 2, ground := Go.Ground.phase }, { on := 3, ground := Go.Ground.phase }, { on := 4, ground := Go.Ground.phase }, { on := 5, ground := Go.Ground.phase }, { on := 6, ground := Go.Ground.phase }, { on := 7, ground := Go.Ground.phase }], guard := none }] true
set_option maxHeartbeats 8000000 in
theorem rk1_wp {wr : World} {df : List Deferred} {cb bm bh : Nat} {s1 nm r2 r3 r5 : ByteArray} {r1 r4 : Int} {Q : Exit → Act → World → Prop} {t1 t2 t3 t4 t6 t7 t8 t9 t10 t11 t12 t13 t14 t15 t16 t17 t18 t19 t20 t21 t22 t23 t24 t25 t26 t27 t28 t29 t30 t31 t32 t33 : Value} (hc : wr.cell? ⟨cb, 0, none⟩ = some (.map (some bm))) (hs : wr.cell? ⟨bh, 1, none⟩ = some (.string s1)) (hl : ∀ V, Below wr.heap.size wr V → (Instr.lookup 42 (.map (some bm)) (.string s1) false).run Try.prog V = .ok (.agg #[.string nm, .int .i64 r1, .string r2, .string r3, .int .i64 r4, .string r5]) V)
    (hQp : ∀ c a a' w, Q (.panic c) a w → Q (.panic c) a' w) (hQ : ∀ u7 u8 u9 u10 u11 u12 u13, Q .normal ⟨#[.pointer (some ⟨cb, 0, none⟩), t1, t2, t3, t4, .pointer (some ⟨bh, 0, none⟩), .pointer (some ⟨wr.heap.size, 0, none⟩), u7, u8, u9, u10, u11, u12, u13, t14, t15, t16, t17, t18, t19, t20, t21, t22, t23, t24, t25, t26, t27, t28, t29, t30, t31, t32, t33], df⟩ ((wr.alloc (.cells #[.string nm, .int .i64 r1, .string r2, .string r3, .int .i64 r4, .string r5] 68)).drew)) :
    rk1.wp Try.prog Q ⟨#[.pointer (some ⟨cb, 0, none⟩), t1, t2, t3, t4, .pointer (some ⟨bh, 0, none⟩), t6, t7, t8, t9, t10, t11, t12, t13, t14, t15, t16, t17, t18, t19, t20, t21, t22, t23, t24, t25, t26, t27, t28, t29, t30, t31, t32, t33], df⟩ wr := by
  have HP : Hid (∀ c a a' w, Q (.panic c) a w → Q (.panic c) a' w) := hQp
  have HQ : Hid (∀ u7 u8 u9 u10 u11 u12 u13, Q .normal ⟨#[.pointer (some ⟨cb, 0, none⟩), t1, t2, t3, t4, .pointer (some ⟨bh, 0, none⟩), .pointer (some ⟨wr.heap.size, 0, none⟩), u7, u8, u9, u10, u11, u12, u13, t14, t15, t16, t17, t18, t19, t20, t21, t22, t23, t24, t25, t26, t27, t28, t29, t30, t31, t32, t33], df⟩ ((wr.alloc (.cells #[.string nm, .int .i64 r1, .string r2, .string r3, .int .i64 r4, .string r5] 68)).drew)) := hQ
  clear hQ hQp
  have KP : Hid (∀ V, Below wr.heap.size wr V → V.cell? ⟨cb, 0, none⟩ = some (.map (some bm)) ∧ V.cell? ⟨bh, 1, none⟩ = some (.string s1) ∧ (Instr.lookup 42 (.map (some bm)) (.string s1) false).run Try.prog V = .ok (.agg #[.string nm, .int .i64 r1, .string r2, .string r3, .int .i64 r4, .string r5]) V ∧ Below wr.heap.size wr V) := fun V hV => ⟨cell_keep hc hV, cell_keep hs hV, hl V hV, hV⟩
  clear hc hs hl
  unfold rk1
  refine wp_region_noPanic ?_
  go_region_held3 (fun V => V.cell? ⟨cb, 0, none⟩ = some (.map (some bm)) ∧ V.cell? ⟨bh, 1, none⟩ = some (.string s1) ∧ (Instr.lookup 42 (.map (some bm)) (.string s1) false).run Try.prog V = .ok (.agg #[.string nm, .int .i64 r1, .string r2, .string r3, .int .i64 r4, .string r5]) V ∧ Below wr.heap.size wr V)
    (first | exact KP.out _ (Below.refl _ _).drew | (refine KP.out _ ?_; repeat' (first | exact Below.refl _ _ | refine Below.drew ?_ | refine Below.alloc ?_ (by first | exact Nat.le_refl _ | simp) _ | refine Below.setCell ?_ (by first | exact Nat.le_refl _ | simp) _)) | fail)
    (first | fail)
  all_goals (refine NoPanic.normal ?_; exact HQ.out _ _ _ _ _ _ _)
def rk3 : Code := Go.Code.region 3 #[{ dst := some 18, op := Go.Op.move (Go.Operand.tmp 0), type := 23, pos := "box.go:128", after := #[], guard := none }, { dst := some 19, op := Go.Op.nilCheck (Go.Operand.tmp 18), type := 0, pos := "box.go:128", after := #[{ on := 0, ground := Go.Ground.data }], guard := none }, { dst := some 20, op := Go.Op.fieldAddr 45 (Go.Operand.tmp 19) 0, type := 0, pos := "box.go:128", after := #[{ on := 1, ground := Go.Ground.data }], guard := none }, { dst := some 21, op := Go.Op.load 42 (Go.Operand.tmp 20), type := 42, pos := "box.go:128", after := #[{ on := 2, ground := Go.Ground.data }], guard := none }, { dst := some 22, op := Go.Op.fieldAddr 26 (Go.Operand.tmp 5) 1, type := 0, pos := "box.go:128", after := #[], guard := none }, { dst := some 23, op := Go.Op.load 9 (Go.Operand.tmp 22), type := 9, pos := "box.go:128", after := #[{ on := 4, ground := Go.Ground.data }], guard := none }, { dst := some 24, op := Go.Op.load 68 (Go.Operand.tmp 6), type := 68, pos := "box.go:128", after := #[], guard := none }, { dst := none, op := Go.Op.mapUpdate 42 (Go.Operand.tmp 21) (Go.Operand.tmp 23) (Go.Operand.tmp 24), type := 0, pos := "box.go:128", after := #[{ on := 3, ground := Go.Ground.data }, { on := 5, ground := Go.Ground.data }, { on := 6, ground := Go.Ground.data }, { on := 0, ground := Go.Ground.phase }, { on := 1, ground := Go.Ground.phase }, { on := 2, ground := Go.Ground.phase }, { on := 3, ground := Go.Ground.phase }, { on := 4, ground := Go.Ground.phase }, { on := 5, ground := Go.Ground.phase }, { on := 6, ground := Go.Ground.phase }], guard := none }] true
set_option maxHeartbeats 8000000 in
theorem rk3_wp {wr : World} {df : List Deferred} {cb bm bh ub : Nat} {s1 : ByteArray} {W9 : World} {nm r2 r3 r5 : ByteArray} {r1 r4 : Int} {Q : Exit → Act → World → Prop} {t1 t2 t3 t4 t7 t8 t9 t10 t11 t12 t13 t14 t15 t16 t17 t18 t19 t20 t21 t22 t23 t24 t25 t26 t27 t28 t29 t30 t31 t32 t33 : Value} (h0 : wr.cell? ⟨cb, 0, none⟩ = some (.map (some bm))) (h1 : wr.cell? ⟨bh, 1, none⟩ = some (.string s1)) (h2 : wr.cell? ⟨ub, 0, none⟩ = some (.string nm)) (h3 : wr.cell? ⟨ub, 1, none⟩ = some (.int .i64 r1)) (h4 : wr.cell? ⟨ub, 2, none⟩ = some (.string r2)) (h5 : wr.cell? ⟨ub, 3, none⟩ = some (.string r3)) (h6 : wr.cell? ⟨ub, 4, none⟩ = some (.int .i64 r4)) (h7 : wr.cell? ⟨ub, 5, none⟩ = some (.string r5)) (g0 : W9.cell? ⟨cb, 0, none⟩ = some (.map (some bm))) (g1 : W9.cell? ⟨bh, 1, none⟩ = some (.string s1)) (g2 : W9.cell? ⟨ub, 0, none⟩ = some (.string nm)) (g3 : W9.cell? ⟨ub, 1, none⟩ = some (.int .i64 r1)) (g4 : W9.cell? ⟨ub, 2, none⟩ = some (.string r2)) (g5 : W9.cell? ⟨ub, 3, none⟩ = some (.string r3)) (g6 : W9.cell? ⟨ub, 4, none⟩ = some (.int .i64 r4)) (g7 : W9.cell? ⟨ub, 5, none⟩ = some (.string r5)) (hu : (Instr.mapUpdate 42 (.map (some bm)) (.string s1) (.agg #[.string nm, .int .i64 r1, .string r2, .string r3, .int .i64 r4, .string r5])).run Try.prog wr.drew = .ok () W9)
    (hQp : ∀ c a a' w, Q (.panic c) a w → Q (.panic c) a' w) (hQ : ∀ u18 u19 u20 u21 u22 u23 u24, Q .normal ⟨#[.pointer (some ⟨cb, 0, none⟩), t1, t2, t3, t4, .pointer (some ⟨bh, 0, none⟩), .pointer (some ⟨ub, 0, none⟩), t7, t8, t9, t10, t11, t12, t13, t14, t15, t16, t17, u18, u19, u20, u21, u22, u23, u24, t25, t26, t27, t28, t29, t30, t31, t32, t33], df⟩ (W9)) :
    rk3.wp Try.prog Q ⟨#[.pointer (some ⟨cb, 0, none⟩), t1, t2, t3, t4, .pointer (some ⟨bh, 0, none⟩), .pointer (some ⟨ub, 0, none⟩), t7, t8, t9, t10, t11, t12, t13, t14, t15, t16, t17, t18, t19, t20, t21, t22, t23, t24, t25, t26, t27, t28, t29, t30, t31, t32, t33], df⟩ wr := by
  have HP : Hid (∀ c a a' w, Q (.panic c) a w → Q (.panic c) a' w) := hQp
  have HQ : Hid (∀ u18 u19 u20 u21 u22 u23 u24, Q .normal ⟨#[.pointer (some ⟨cb, 0, none⟩), t1, t2, t3, t4, .pointer (some ⟨bh, 0, none⟩), .pointer (some ⟨ub, 0, none⟩), t7, t8, t9, t10, t11, t12, t13, t14, t15, t16, t17, u18, u19, u20, u21, u22, u23, u24, t25, t26, t27, t28, t29, t30, t31, t32, t33], df⟩ (W9)) := hQ
  clear hQ hQp
  have KP : Hid (wr.drew.cell? ⟨cb, 0, none⟩ = some (.map (some bm)) ∧ wr.drew.cell? ⟨bh, 1, none⟩ = some (.string s1) ∧ wr.drew.cell? ⟨ub, 0, none⟩ = some (.string nm) ∧ wr.drew.cell? ⟨ub, 1, none⟩ = some (.int .i64 r1) ∧ wr.drew.cell? ⟨ub, 2, none⟩ = some (.string r2) ∧ wr.drew.cell? ⟨ub, 3, none⟩ = some (.string r3) ∧ wr.drew.cell? ⟨ub, 4, none⟩ = some (.int .i64 r4) ∧ wr.drew.cell? ⟨ub, 5, none⟩ = some (.string r5)) := ⟨h0, h1, h2, h3, h4, h5, h6, h7⟩
  have KG : Hid (W9.cell? ⟨cb, 0, none⟩ = some (.map (some bm)) ∧ W9.cell? ⟨bh, 1, none⟩ = some (.string s1) ∧ W9.cell? ⟨ub, 0, none⟩ = some (.string nm) ∧ W9.cell? ⟨ub, 1, none⟩ = some (.int .i64 r1) ∧ W9.cell? ⟨ub, 2, none⟩ = some (.string r2) ∧ W9.cell? ⟨ub, 3, none⟩ = some (.string r3) ∧ W9.cell? ⟨ub, 4, none⟩ = some (.int .i64 r4) ∧ W9.cell? ⟨ub, 5, none⟩ = some (.string r5)) := ⟨g0, g1, g2, g3, g4, g5, g6, g7⟩
  clear h0 g0 h1 g1 h2 g2 h3 g3 h4 g4 h5 g5 h6 g6 h7 g7
  unfold rk3
  refine wp_region_noPanic ?_
  go_region_held3 (fun V => V.cell? ⟨cb, 0, none⟩ = some (.map (some bm)) ∧ V.cell? ⟨bh, 1, none⟩ = some (.string s1) ∧ V.cell? ⟨ub, 0, none⟩ = some (.string nm) ∧ V.cell? ⟨ub, 1, none⟩ = some (.int .i64 r1) ∧ V.cell? ⟨ub, 2, none⟩ = some (.string r2) ∧ V.cell? ⟨ub, 3, none⟩ = some (.string r3) ∧ V.cell? ⟨ub, 4, none⟩ = some (.int .i64 r4) ∧ V.cell? ⟨ub, 5, none⟩ = some (.string r5))
    (first | exact KP.out | exact KG.out | fail)
    (first | fail)
  all_goals (refine NoPanic.normal ?_; exact HQ.out _ _ _ _ _ _ _)
def rk5 : Code := Go.Code.region 5 #[{ dst := some 27, op := Go.Op.move (Go.Operand.tmp 0), type := 23, pos := "box.go:130", after := #[], guard := none }, { dst := some 28, op := Go.Op.nilCheck (Go.Operand.tmp 27), type := 0, pos := "box.go:130", after := #[{ on := 0, ground := Go.Ground.data }], guard := none }, { dst := some 29, op := Go.Op.fieldAddr 45 (Go.Operand.tmp 28) 1, type := 0, pos := "box.go:130", after := #[{ on := 1, ground := Go.Ground.data }], guard := none }, { dst := some 30, op := Go.Op.load 43 (Go.Operand.tmp 29), type := 43, pos := "box.go:130", after := #[{ on := 2, ground := Go.Ground.data }], guard := none }, { dst := some 31, op := Go.Op.fieldAddr 26 (Go.Operand.tmp 5) 5, type := 0, pos := "box.go:130", after := #[], guard := none }, { dst := some 32, op := Go.Op.load 9 (Go.Operand.tmp 31), type := 9, pos := "box.go:130", after := #[{ on := 4, ground := Go.Ground.data }], guard := none }, { dst := some 33, op := Go.Op.build 70 #[], type := 70, pos := "box.go:130", after := #[], guard := none }, { dst := none, op := Go.Op.mapUpdate 43 (Go.Operand.tmp 30) (Go.Operand.tmp 32) (Go.Operand.tmp 33), type := 0, pos := "box.go:130", after := #[{ on := 3, ground := Go.Ground.data }, { on := 5, ground := Go.Ground.data }, { on := 6, ground := Go.Ground.data }, { on := 0, ground := Go.Ground.phase }, { on := 1, ground := Go.Ground.phase }, { on := 2, ground := Go.Ground.phase }, { on := 3, ground := Go.Ground.phase }, { on := 4, ground := Go.Ground.phase }, { on := 5, ground := Go.Ground.phase }, { on := 6, ground := Go.Ground.phase }], guard := none }] true
set_option maxHeartbeats 8000000 in
theorem rk5_wp {wr : World} {df : List Deferred} {cb bs bh : Nat} {s5 : ByteArray} {W9 : World}  {Q : Exit → Act → World → Prop} {t1 t2 t3 t4 t6 t7 t8 t9 t10 t11 t12 t13 t14 t15 t16 t17 t18 t19 t20 t21 t22 t23 t24 t25 t26 t27 t28 t29 t30 t31 t32 t33 : Value} (h0 : wr.cell? ⟨cb, 1, none⟩ = some (.map (some bs))) (h1 : wr.cell? ⟨bh, 5, none⟩ = some (.string s5)) (g0 : W9.cell? ⟨cb, 1, none⟩ = some (.map (some bs))) (g1 : W9.cell? ⟨bh, 5, none⟩ = some (.string s5)) (hu : (Instr.mapUpdate 43 (.map (some bs)) (.string s5) (.agg #[])).run Try.prog wr.drew = .ok () W9)
    (hQp : ∀ c a a' w, Q (.panic c) a w → Q (.panic c) a' w) (hQ : ∀ u27 u28 u29 u30 u31 u32 u33, Q .normal ⟨#[.pointer (some ⟨cb, 0, none⟩), t1, t2, t3, t4, .pointer (some ⟨bh, 0, none⟩), t6, t7, t8, t9, t10, t11, t12, t13, t14, t15, t16, t17, t18, t19, t20, t21, t22, t23, t24, t25, t26, u27, u28, u29, u30, u31, u32, u33], df⟩ (W9)) :
    rk5.wp Try.prog Q ⟨#[.pointer (some ⟨cb, 0, none⟩), t1, t2, t3, t4, .pointer (some ⟨bh, 0, none⟩), t6, t7, t8, t9, t10, t11, t12, t13, t14, t15, t16, t17, t18, t19, t20, t21, t22, t23, t24, t25, t26, t27, t28, t29, t30, t31, t32, t33], df⟩ wr := by
  have HP : Hid (∀ c a a' w, Q (.panic c) a w → Q (.panic c) a' w) := hQp
  have HQ : Hid (∀ u27 u28 u29 u30 u31 u32 u33, Q .normal ⟨#[.pointer (some ⟨cb, 0, none⟩), t1, t2, t3, t4, .pointer (some ⟨bh, 0, none⟩), t6, t7, t8, t9, t10, t11, t12, t13, t14, t15, t16, t17, t18, t19, t20, t21, t22, t23, t24, t25, t26, u27, u28, u29, u30, u31, u32, u33], df⟩ (W9)) := hQ
  clear hQ hQp
  have KP : Hid (wr.drew.cell? ⟨cb, 1, none⟩ = some (.map (some bs)) ∧ wr.drew.cell? ⟨bh, 5, none⟩ = some (.string s5)) := ⟨h0, h1⟩
  have KG : Hid (W9.cell? ⟨cb, 1, none⟩ = some (.map (some bs)) ∧ W9.cell? ⟨bh, 5, none⟩ = some (.string s5)) := ⟨g0, g1⟩
  clear h0 g0 h1 g1
  unfold rk5
  refine wp_region_noPanic ?_
  go_region_held3 (fun V => V.cell? ⟨cb, 1, none⟩ = some (.map (some bs)) ∧ V.cell? ⟨bh, 5, none⟩ = some (.string s5))
    (first | exact KP.out | exact KG.out | fail)
    (first | fail)
  all_goals (refine NoPanic.normal ?_; exact HQ.out _ _ _ _ _ _ _)
end Go.Proofs.Ytafekaonmpkhiaa
