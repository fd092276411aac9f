/- A round of the inner loop, at whatever box. -/
import Derived.Test.YtafekaonmpkhiaaDk
set_option linter.unusedSimpArgs false
set_option linter.unusedVariables false
set_option maxRecDepth 100000
namespace Go.Proofs.Ytafekaonmpkhiaa
open Go.RowKit Go.Shelf Go.Deep Go.PlainAid Go.Maps Go.WideMaps

set_option maxHeartbeats 8000000 in
theorem lb3_any {wr : World} {df : List Deferred} {hb b1 o1 n c k base m : Nat} {v4 v5 : Value} {l : List Hd} {h : Hd} {ns : List ByteArray} {Q : Exit → Act → World → Prop} {t0 t1 t2 t3 t6 t7 t9 t10 t11 t12 t13 t14 t15 t16 t17 t18 t19 t20 t21 t22 t23 t24 t25 t26 t27 t28 t29 t30 t31 t32 t33 t34 t35 t36 t37 t38 t39 t40 t41 t42 t43 t44 t45 t46 t47 t48 t49 t50 t51 t52 t53 t54 t55 t56 t57 t58 t59 t60 t61 t62 t63 t64 t66 t68 t69 t70 t71 t72 t73 t74 t75 t76 t77 t78 t79 t80 t81 t82 t83 t84 t85 t86 t87 t88 t89 t90 t91 t92 t93 t94 t95 t96 t97 t98 t99 t100 t101 t102 t103 t104 t105 t106 t107 t108 t109 t110 t111 t112 t113 t114 t115 t116 t117 t118 t119 t120 t121 t122 t123 t124 t125 t126 t127 t128 t129 t130 t131 t132 t133 t134 t135 t136 t137 t138 t139 t140 t141 t142 t143 t144 t145 t146 t147 t148 t149 t150 t151 t152 t153 t154 t155 t156 t157 t158 t159 t160 t161 t162 t163 t164 t165 t166 t167 : Value}
    (hi : Inv1 l) (he : handC l h = 0) (hns : ns = sn (packs (l ++ [h]))) (h9 : (sn (packs l)).length ≤ 256) (hn : n = ns.length) (hk : k < ns.length) (hd : ns.Nodup) (hm : (m + 2) * 16 ≤ 140737488355328)
    (g5 : BL wr v5 l (sn (packs l))) (g65 : BL wr (.slice (some ⟨b1, o1, none⟩) n c) (l ++ [h]) ns) (hh : IHolds wr hb 26 (hcells h)) (ir : IR wr base m l h ns k v4)
    (hQ : ∀ u14 u15 u16 u69 u70 u71 u72 u73 u74 u75 u76 u77 u78 u79 u80 u81 u82 u83 u84 u85 u86 u87 u88 u89 u90 u91 u92 u93 u94 u95 u96 u97 u98 u99 u100 u101 u102 u103 u104 u105 u106 u107 u108 u109 u110 u111 u112 u113 u114 u115 u116 u117 u118 u119 u120 u121 u122 u123 u124 u125 u126 u127 u128 u129 u130 u131 u132 u133 u134 u135 u136 u137 u138 u139 u140 u141 u142 u143 u144 u145 u146 u147 u148 u149 u150 u151 u152 u153 u154 u155 u156 u157 u158 u159 u160 u161 u162 u163 u164 v9 W, IR W base m l h ns (k + 1) v9 → GS base wr W → Q .normal ⟨#[t0, t1, t2, t3, v9, v5, t6, t7, .pointer (some ⟨hb, 0, none⟩), t9, t10, t11, t12, t13, u14, u15, u16, t17, t18, t19, t20, t21, t22, t23, t24, t25, t26, t27, t28, t29, t30, t31, t32, t33, t34, t35, t36, t37, t38, t39, t40, t41, t42, t43, t44, t45, t46, t47, t48, t49, t50, t51, t52, t53, t54, t55, t56, t57, t58, t59, t60, t61, t62, t63, t64, .slice (some ⟨b1, o1, none⟩) n c, t66, .int .i64 (k : Int), t68, u69, u70, u71, u72, u73, u74, u75, u76, u77, u78, u79, u80, u81, u82, u83, u84, u85, u86, u87, u88, u89, u90, u91, u92, u93, u94, u95, u96, u97, u98, u99, u100, u101, u102, u103, u104, u105, u106, u107, u108, u109, u110, u111, u112, u113, u114, u115, u116, u117, u118, u119, u120, u121, u122, u123, u124, u125, u126, u127, u128, u129, u130, u131, u132, u133, u134, u135, u136, u137, u138, u139, u140, u141, u142, u143, u144, u145, u146, u147, u148, u149, u150, u151, u152, u153, u154, u155, u156, u157, u158, u159, u160, u161, u162, u163, u164, t165, t166, t167], df⟩ W) :
    lb3.wp Try.prog Q ⟨#[t0, t1, t2, t3, v4, v5, t6, t7, .pointer (some ⟨hb, 0, none⟩), t9, t10, t11, t12, t13, t14, t15, t16, t17, t18, t19, t20, t21, t22, t23, t24, t25, t26, t27, t28, t29, t30, t31, t32, t33, t34, t35, t36, t37, t38, t39, t40, t41, t42, t43, t44, t45, t46, t47, t48, t49, t50, t51, t52, t53, t54, t55, t56, t57, t58, t59, t60, t61, t62, t63, t64, .slice (some ⟨b1, o1, none⟩) n c, t66, .int .i64 (k : Int), t68, t69, t70, t71, t72, t73, t74, t75, t76, t77, t78, t79, t80, t81, t82, t83, t84, t85, t86, t87, t88, t89, t90, t91, t92, t93, t94, t95, t96, t97, t98, t99, t100, t101, t102, t103, t104, t105, t106, t107, t108, t109, t110, t111, t112, t113, t114, t115, t116, t117, t118, t119, t120, t121, t122, t123, t124, t125, t126, t127, t128, t129, t130, t131, t132, t133, t134, t135, t136, t137, t138, t139, t140, t141, t142, t143, t144, t145, t146, t147, t148, t149, t150, t151, t152, t153, t154, t155, t156, t157, t158, t159, t160, t161, t162, t163, t164, t165, t166, t167], df⟩ wr := by
  have il : (k : Int) < (ns.length : Int) := by omega
  have HQ : Hid (∀ u14 u15 u16 u69 u70 u71 u72 u73 u74 u75 u76 u77 u78 u79 u80 u81 u82 u83 u84 u85 u86 u87 u88 u89 u90 u91 u92 u93 u94 u95 u96 u97 u98 u99 u100 u101 u102 u103 u104 u105 u106 u107 u108 u109 u110 u111 u112 u113 u114 u115 u116 u117 u118 u119 u120 u121 u122 u123 u124 u125 u126 u127 u128 u129 u130 u131 u132 u133 u134 u135 u136 u137 u138 u139 u140 u141 u142 u143 u144 u145 u146 u147 u148 u149 u150 u151 u152 u153 u154 u155 u156 u157 u158 u159 u160 u161 u162 u163 u164 v9 W, IR W base m l h ns (k + 1) v9 → GS base wr W → Q .normal ⟨#[t0, t1, t2, t3, v9, v5, t6, t7, .pointer (some ⟨hb, 0, none⟩), t9, t10, t11, t12, t13, u14, u15, u16, t17, t18, t19, t20, t21, t22, t23, t24, t25, t26, t27, t28, t29, t30, t31, t32, t33, t34, t35, t36, t37, t38, t39, t40, t41, t42, t43, t44, t45, t46, t47, t48, t49, t50, t51, t52, t53, t54, t55, t56, t57, t58, t59, t60, t61, t62, t63, t64, .slice (some ⟨b1, o1, none⟩) n c, t66, .int .i64 (k : Int), t68, u69, u70, u71, u72, u73, u74, u75, u76, u77, u78, u79, u80, u81, u82, u83, u84, u85, u86, u87, u88, u89, u90, u91, u92, u93, u94, u95, u96, u97, u98, u99, u100, u101, u102, u103, u104, u105, u106, u107, u108, u109, u110, u111, u112, u113, u114, u115, u116, u117, u118, u119, u120, u121, u122, u123, u124, u125, u126, u127, u128, u129, u130, u131, u132, u133, u134, u135, u136, u137, u138, u139, u140, u141, u142, u143, u144, u145, u146, u147, u148, u149, u150, u151, u152, u153, u154, u155, u156, u157, u158, u159, u160, u161, u162, u163, u164, t165, t166, t167], df⟩ W) := hQ
  have IRX : Hid (IR wr base m l h ns k v4) := ir
  clear hQ
  obtain ⟨a', c', e', q⟩ := g65.at
  cases e'
  obtain ⟨b', o', e', p0, p1, p2, p3⟩ := q k hk
  cases e'
  have q0 : wr.cell? ⟨hb, 0, none⟩ = some (.int .i64 h.act) := hh.cell 0 (by simp [hcells])
  have q1 : wr.cell? ⟨hb, 1, none⟩ = some (.string h.box) := hh.cell 1 (by simp [hcells])
  have q2 : wr.cell? ⟨hb, 2, none⟩ = some (.string h.who) := hh.cell 2 (by simp [hcells])
  have hm0 : nth ns k ∈ ns := mem_nth hk
  by_cases hx : nth ns k = h.box
  · have SBX := step_box he
    have TH := step_there hi he
    rw [hx] at p0 p1 p2 p3
    rw [bx_snoc, bstep, if_pos rfl] at p1 p2 p3
    have hf : h.act ≠ 1 → ∀ V, Below wr.heap.size wr V → Calls Try.prog 11 #[v5, .string h.box] V fun e w' => e = .returned (.tuple #[.agg #[.string h.box, .int .i64 (bx l h.box).count, .string (bx l h.box).holder, .string (bx l h.box).sl], .bool true]) ∧ Below V.heap.size V w' := fun ha V hV => by
      have f := find11 (nm := h.box) h9 (g5.of_below hV)
      have t : hasN (sn (packs l)) h.box = true := by rw [TH]; simp [ha]
      rw [encZ_yes (hasN_iff.1 t), t] at f
      exact f
    have hf1 : h.act = 1 → ∀ V, Below wr.heap.size wr V → Calls Try.prog 11 #[v5, .string h.box] V fun e w' => e = .returned (.tuple #[.agg #[.string ⟨#[]⟩, .int .i64 0, .string ⟨#[]⟩, .string ⟨#[]⟩], .bool false]) ∧ Below V.heap.size V w' := fun ha V hV => by
      have f := find11 (nm := h.box) h9 (g5.of_below hV)
      have t : hasN (sn (packs l)) h.box = false := by rw [TH]; simp [ha]
      rw [encZ_no (fun hm => by rw [hasN_iff.2 hm] at t; cases t), t] at f
      exact f
    obtain ⟨hz, xs, ho, ha, hl, hff⟩ := ir
    have nd := nodup_take hd hk hx
    have hold := hff nd
    rw [nd] at hl
    replace hl : xs.length ≤ m := by simpa using hl
    have us : had l h.sl = false → ∀ V, Below wr.heap.size wr V → Calls Try.prog 12 #[v4, .string h.sl] V fun e w' => e = .returned (.bool false) ∧ Below V.heap.size V w' := fun hs V hV => by
      have u := used12 (s := h.sl) (xs := xs) (by omega) ((tl_of_own ho).of_below hV)
      have t : hasN xs h.sl = false := hasN_no fun hmem => by have := hold _ hmem; rw [hs] at this; cases this
      rw [t] at u
      exact u
    have grown : (h.act = 1 ∨ h.act = 5) → ∀ v9 W, W.ownsRow base 9 1 v9 (xs.length + 1) (txs xs ++ [.string h.sl]) → wr.grownBy W v4.ownBlock → IR W base m l h ns (k + 1) v9 ∧ GS base wr W := fun aa v9 W hw hg =>
      ⟨IR.grow (Nat.le_trans hz hg.size) ha hl hk hx hw aa, GS.of_own ho hg⟩
    obtain ⟨f1, f2⟩ := handC_zero he
    have wb := form_ok f1
    have sne : h.act ≠ 2 → h.sl ≠ ⟨#[]⟩ := fun aa => word_ne (by simpa [wordIfB, aa] using wb.2.2.2)
    have sq := SBX.slq
    have swho := SBX.who
    have hm1 : (xs.length + 1) * 16 ≤ 140737488355328 := by omega
    clear SBX TH q g5 g65 hh wb f2 hff hold
    rcases act_cases (form_act f1) with aa | aa | aa | aa | aa
    · have e1 : bact (bx l h.box) h = { bx l h.box with ok := true, count := h.cnt, holder := h.who, sl := h.sl } := by simp [bact, aa]
      rw [e1] at p1 p2 p3 sq
      have hs : had l h.sl = false := by
        rcases sq with z | z | z
        · exact absurd aa z.1
        · exact absurd z (sne (by omega))
        · exact z.2.2
      have hf := hf1 aa
      rw [aa] at q0
      exact lb3_1 (x0 := 0) (w0 := ⟨#[]⟩) (s0 := ⟨#[]⟩) il p0 p1 p2 p3 q0 q1 q2 (sne (by omega)) ho hz hm1 hf (us hs) (fun _ _ _ _ _ _ _ _ _ _ _ _ _ _ _ _ _ _ _ _ _ _ _ _ _ _ _ _ _ _ _ _ _ _ _ _ _ _ _ _ _ _ _ _ _ _ _ _ _ _ _ _ _ _ _ _ _ _ _ _ _ _ _ _ _ _ _ _ _ _ _ _ _ _ _ _ _ _ _ _ _ _ _ _ _ _ _ _ _ _ _ _ _ _ _ _ _ _ _ v9 W hw hg => HQ.out _ _ _ _ _ _ _ _ _ _ _ _ _ _ _ _ _ _ _ _ _ _ _ _ _ _ _ _ _ _ _ _ _ _ _ _ _ _ _ _ _ _ _ _ _ _ _ _ _ _ _ _ _ _ _ _ _ _ _ _ _ _ _ _ _ _ _ _ _ _ _ _ _ _ _ _ _ _ _ _ _ _ _ _ _ _ _ _ _ _ _ _ _ _ _ _ _ _ _ _ _ (grown (.inl aa) v9 W hw hg).1 (grown (.inl aa) v9 W hw hg).2)
    · have e1 : bact (bx l h.box) h = { bx l h.box with under := h.to_ } := by simp [bact, aa]
      rw [e1] at p1 p2 p3
      have hw : h.who = (bx l h.box).holder := by
        rcases swho with z | z | z
        · omega
        · omega
        · exact z
      have hf := hf (by omega)
      rw [aa] at q0
      rw [hw] at q2
      exact lb3_2 (who := ⟨#[]⟩) (w3 := ⟨#[]⟩) (s3 := ⟨#[]⟩) (x1 := 0) il p0 p1 p2 p3 q0 q1 q2 hf (fun _ _ _ _ _ _ _ _ _ _ _ _ _ _ _ _ _ _ _ _ _ _ _ _ _ _ _ _ _ _ _ _ _ _ _ _ _ _ _ _ _ _ _ _ _ _ _ _ _ _ _ _ _ _ _ _ _ _ _ _ _ _ _ _ _ _ _ _ _ _ _ _ _ _ _ _ _ _ _ _ _ _ _ _ _ _ _ _ _ _ _ _ _ _ _ _ _ _ _ W hb => HQ.out _ _ _ _ _ _ _ _ _ _ _ _ _ _ _ _ _ _ _ _ _ _ _ _ _ _ _ _ _ _ _ _ _ _ _ _ _ _ _ _ _ _ _ _ _ _ _ _ _ _ _ _ _ _ _ _ _ _ _ _ _ _ _ _ _ _ _ _ _ _ _ _ _ _ _ _ _ _ _ _ _ _ _ _ _ _ _ _ _ _ _ _ _ _ _ _ _ _ _ _ _ (IRX.out.stay hk hb) (GS.of_below hb))
    · have e1 : bact (bx l h.box) h = { bx l h.box with holder := h.who, under := ⟨#[]⟩ } := by simp [bact, aa]
      rw [e1] at p1 p2 p3
      have hf := hf (by omega)
      rw [aa] at q0
      by_cases hw : h.who = (bx l h.box).holder
      · rw [← hw] at hf
        exact lb3_3a (w0 := ⟨#[]⟩) (w3 := ⟨#[]⟩) (s3 := ⟨#[]⟩) (x1 := 0) il p0 p1 p2 p3 q0 q1 q2 hf (fun _ _ _ _ _ _ _ _ _ _ _ _ _ _ _ _ _ _ _ _ _ _ _ _ _ _ _ _ _ _ _ _ _ _ _ _ _ _ _ _ _ _ _ _ _ _ _ _ _ _ _ _ _ _ _ _ _ _ _ _ _ _ _ _ _ _ _ _ _ _ _ _ _ _ _ _ _ _ _ _ _ _ _ _ _ _ _ _ _ _ _ _ _ _ _ _ _ _ _ W hb => HQ.out _ _ _ _ _ _ _ _ _ _ _ _ _ _ _ _ _ _ _ _ _ _ _ _ _ _ _ _ _ _ _ _ _ _ _ _ _ _ _ _ _ _ _ _ _ _ _ _ _ _ _ _ _ _ _ _ _ _ _ _ _ _ _ _ _ _ _ _ _ _ _ _ _ _ _ _ _ _ _ _ _ _ _ _ _ _ _ _ _ _ _ _ _ _ _ _ _ _ _ _ _ (IRX.out.stay hk hb) (GS.of_below hb))
      · exact lb3_3b (w3 := ⟨#[]⟩) (s3 := ⟨#[]⟩) (x1 := 0) il p0 p1 p2 p3 q0 q1 q2 hw hf (fun _ _ _ _ _ _ _ _ _ _ _ _ _ _ _ _ _ _ _ _ _ _ _ _ _ _ _ _ _ _ _ _ _ _ _ _ _ _ _ _ _ _ _ _ _ _ _ _ _ _ _ _ _ _ _ _ _ _ _ _ _ _ _ _ _ _ _ _ _ _ _ _ _ _ _ _ _ _ _ _ _ _ _ _ _ _ _ _ _ _ _ _ _ _ _ _ _ _ _ W hb => HQ.out _ _ _ _ _ _ _ _ _ _ _ _ _ _ _ _ _ _ _ _ _ _ _ _ _ _ _ _ _ _ _ _ _ _ _ _ _ _ _ _ _ _ _ _ _ _ _ _ _ _ _ _ _ _ _ _ _ _ _ _ _ _ _ _ _ _ _ _ _ _ _ _ _ _ _ _ _ _ _ _ _ _ _ _ _ _ _ _ _ _ _ _ _ _ _ _ _ _ _ _ _ (IRX.out.stay hk hb) (GS.of_below hb))
    · have e1 : bact (bx l h.box) h = { bx l h.box with opn := true, sl := ⟨#[]⟩ } := by simp [bact, aa]
      rw [e1] at p1 p2 p3
      have hw : h.who = (bx l h.box).holder := by
        rcases swho with z | z | z
        · omega
        · omega
        · exact z
      have hf := hf (by omega)
      rw [aa] at q0
      rw [hw] at q2
      by_cases hs : (⟨#[]⟩ : ByteArray) = (bx l h.box).sl
      · rw [← hs] at hf
        exact lb3_4a (s0 := ⟨#[]⟩) (s3 := ⟨#[]⟩) (w3 := ⟨#[]⟩) (who := ⟨#[]⟩) (x1 := 0) il p0 p1 p2 p3 q0 q1 q2 hf (fun _ _ _ _ _ _ _ _ _ _ _ _ _ _ _ _ _ _ _ _ _ _ _ _ _ _ _ _ _ _ _ _ _ _ _ _ _ _ _ _ _ _ _ _ _ _ _ _ _ _ _ _ _ _ _ _ _ _ _ _ _ _ _ _ _ _ _ _ _ _ _ _ _ _ _ _ _ _ _ _ _ _ _ _ _ _ _ _ _ _ _ _ _ _ _ _ _ _ _ W hb => HQ.out _ _ _ _ _ _ _ _ _ _ _ _ _ _ _ _ _ _ _ _ _ _ _ _ _ _ _ _ _ _ _ _ _ _ _ _ _ _ _ _ _ _ _ _ _ _ _ _ _ _ _ _ _ _ _ _ _ _ _ _ _ _ _ _ _ _ _ _ _ _ _ _ _ _ _ _ _ _ _ _ _ _ _ _ _ _ _ _ _ _ _ _ _ _ _ _ _ _ _ _ _ (IRX.out.stay hk hb) (GS.of_below hb))
      · exact lb3_4b (who := ⟨#[]⟩) (w3 := ⟨#[]⟩) (s3 := ⟨#[]⟩) (x1 := 0) il p0 p1 p2 p3 q0 q1 q2 hs hf (fun _ _ _ _ _ _ _ _ _ _ _ _ _ _ _ _ _ _ _ _ _ _ _ _ _ _ _ _ _ _ _ _ _ _ _ _ _ _ _ _ _ _ _ _ _ _ _ _ _ _ _ _ _ _ _ _ _ _ _ _ _ _ _ _ _ _ _ _ _ _ _ _ _ _ _ _ _ _ _ _ _ _ _ _ _ _ _ _ _ _ _ _ _ _ _ _ _ _ _ W hb => HQ.out _ _ _ _ _ _ _ _ _ _ _ _ _ _ _ _ _ _ _ _ _ _ _ _ _ _ _ _ _ _ _ _ _ _ _ _ _ _ _ _ _ _ _ _ _ _ _ _ _ _ _ _ _ _ _ _ _ _ _ _ _ _ _ _ _ _ _ _ _ _ _ _ _ _ _ _ _ _ _ _ _ _ _ _ _ _ _ _ _ _ _ _ _ _ _ _ _ _ _ _ _ (IRX.out.stay hk hb) (GS.of_below hb))
    · have e1 : bact (bx l h.box) h = { bx l h.box with opn := false, sl := h.sl, count := h.cnt } := by simp [bact, aa]
      rw [e1] at p1 p2 p3 sq
      have hw : h.who = (bx l h.box).holder := by
        rcases swho with z | z | z
        · omega
        · omega
        · exact z
      have hs : h.sl ≠ (bx l h.box).sl → had l h.sl = false := fun ne => by
        rcases sq with z | z | z
        · exact absurd z.2 ne
        · exact absurd z (sne (by omega))
        · exact z.2.2
      have hf := hf (by omega)
      rw [aa] at q0
      rw [hw] at q2
      by_cases hse : h.sl = (bx l h.box).sl
      · rw [← hse] at hf
        by_cases hc : h.cnt = (bx l h.box).count
        · rw [← hc] at hf
          exact lb3_5a (who := ⟨#[]⟩) (w3 := ⟨#[]⟩) (s3 := ⟨#[]⟩) (x1 := 0) il p0 p1 p2 p3 q0 q1 q2 hf (fun _ _ _ _ _ _ _ _ _ _ _ _ _ _ _ _ _ _ _ _ _ _ _ _ _ _ _ _ _ _ _ _ _ _ _ _ _ _ _ _ _ _ _ _ _ _ _ _ _ _ _ _ _ _ _ _ _ _ _ _ _ _ _ _ _ _ _ _ _ _ _ _ _ _ _ _ _ _ _ _ _ _ _ _ _ _ _ _ _ _ _ _ _ _ _ _ _ _ _ W hb => HQ.out _ _ _ _ _ _ _ _ _ _ _ _ _ _ _ _ _ _ _ _ _ _ _ _ _ _ _ _ _ _ _ _ _ _ _ _ _ _ _ _ _ _ _ _ _ _ _ _ _ _ _ _ _ _ _ _ _ _ _ _ _ _ _ _ _ _ _ _ _ _ _ _ _ _ _ _ _ _ _ _ _ _ _ _ _ _ _ _ _ _ _ _ _ _ _ _ _ _ _ _ _ (IRX.out.stay hk hb) (GS.of_below hb))
        · exact lb3_5b (who := ⟨#[]⟩) (w3 := ⟨#[]⟩) (s3 := ⟨#[]⟩) il p0 p1 p2 p3 q0 q1 q2 hc hf (fun _ _ _ _ _ _ _ _ _ _ _ _ _ _ _ _ _ _ _ _ _ _ _ _ _ _ _ _ _ _ _ _ _ _ _ _ _ _ _ _ _ _ _ _ _ _ _ _ _ _ _ _ _ _ _ _ _ _ _ _ _ _ _ _ _ _ _ _ _ _ _ _ _ _ _ _ _ _ _ _ _ _ _ _ _ _ _ _ _ _ _ _ _ _ _ _ _ _ _ W hb => HQ.out _ _ _ _ _ _ _ _ _ _ _ _ _ _ _ _ _ _ _ _ _ _ _ _ _ _ _ _ _ _ _ _ _ _ _ _ _ _ _ _ _ _ _ _ _ _ _ _ _ _ _ _ _ _ _ _ _ _ _ _ _ _ _ _ _ _ _ _ _ _ _ _ _ _ _ _ _ _ _ _ _ _ _ _ _ _ _ _ _ _ _ _ _ _ _ _ _ _ _ _ _ (IRX.out.stay hk hb) (GS.of_below hb))
      · by_cases hc : h.cnt = (bx l h.box).count
        · rw [← hc] at hf
          exact lb3_5c (who := ⟨#[]⟩) (w3 := ⟨#[]⟩) (x1 := 0) il p0 p1 p2 p3 q0 q1 q2 (sne (by omega)) hse ho hz hm1 hf (us (hs hse)) (fun _ _ _ _ _ _ _ _ _ _ _ _ _ _ _ _ _ _ _ _ _ _ _ _ _ _ _ _ _ _ _ _ _ _ _ _ _ _ _ _ _ _ _ _ _ _ _ _ _ _ _ _ _ _ _ _ _ _ _ _ _ _ _ _ _ _ _ _ _ _ _ _ _ _ _ _ _ _ _ _ _ _ _ _ _ _ _ _ _ _ _ _ _ _ _ _ _ _ _ v9 W hw hg => HQ.out _ _ _ _ _ _ _ _ _ _ _ _ _ _ _ _ _ _ _ _ _ _ _ _ _ _ _ _ _ _ _ _ _ _ _ _ _ _ _ _ _ _ _ _ _ _ _ _ _ _ _ _ _ _ _ _ _ _ _ _ _ _ _ _ _ _ _ _ _ _ _ _ _ _ _ _ _ _ _ _ _ _ _ _ _ _ _ _ _ _ _ _ _ _ _ _ _ _ _ _ _ (grown (.inr aa) v9 W hw hg).1 (grown (.inr aa) v9 W hw hg).2)
        · exact lb3_5d (who := ⟨#[]⟩) (w3 := ⟨#[]⟩) il p0 p1 p2 p3 q0 q1 q2 (sne (by omega)) hse hc ho hz hm1 hf (us (hs hse)) (fun _ _ _ _ _ _ _ _ _ _ _ _ _ _ _ _ _ _ _ _ _ _ _ _ _ _ _ _ _ _ _ _ _ _ _ _ _ _ _ _ _ _ _ _ _ _ _ _ _ _ _ _ _ _ _ _ _ _ _ _ _ _ _ _ _ _ _ _ _ _ _ _ _ _ _ _ _ _ _ _ _ _ _ _ _ _ _ _ _ _ _ _ _ _ _ _ _ _ _ v9 W hw hg => HQ.out _ _ _ _ _ _ _ _ _ _ _ _ _ _ _ _ _ _ _ _ _ _ _ _ _ _ _ _ _ _ _ _ _ _ _ _ _ _ _ _ _ _ _ _ _ _ _ _ _ _ _ _ _ _ _ _ _ _ _ _ _ _ _ _ _ _ _ _ _ _ _ _ _ _ _ _ _ _ _ _ _ _ _ _ _ _ _ _ _ _ _ _ _ _ _ _ _ _ _ _ _ (grown (.inr aa) v9 W hw hg).1 (grown (.inr aa) v9 W hw hg).2)
  · have so := step_other (l := l) (h := h) (by rw [← hns]; exact hm0) hx
    have sb : bx (l ++ [h]) (nth ns k) = bx l (nth ns k) := by rw [bx_snoc, bstep, if_neg (fun e => hx e.symm)]
    rw [sb] at p1 p2 p3
    have hf : ∀ V, Below wr.heap.size wr V → Calls Try.prog 11 #[v5, .string (nth ns k)] V fun e w' => e = .returned (.tuple #[.agg #[.string (nth ns k), .int .i64 (bx l (nth ns k)).count, .string (bx l (nth ns k)).holder, .string (bx l (nth ns k)).sl], .bool true]) ∧ Below V.heap.size V w' := fun V hV => by
      have f := find11 (nm := nth ns k) h9 (g5.of_below hV)
      rw [encZ_yes so.1, hasN_iff.2 so.1] at f
      exact f
    exact lb3_other  il p0 p1 p2 p3 q1 hx hf (fun _ _ _ _ _ _ _ _ _ _ _ _ _ _ _ _ _ _ _ _ _ _ _ _ _ _ _ _ _ _ _ _ _ _ _ _ _ _ _ _ _ _ _ _ _ _ _ _ _ _ _ _ _ _ _ _ _ _ _ _ _ _ _ _ _ _ _ _ _ _ _ _ _ _ _ _ _ _ _ _ _ _ _ _ _ _ _ _ _ _ _ _ _ _ _ _ _ _ _ W hb => HQ.out _ _ _ _ _ _ _ _ _ _ _ _ _ _ _ _ _ _ _ _ _ _ _ _ _ _ _ _ _ _ _ _ _ _ _ _ _ _ _ _ _ _ _ _ _ _ _ _ _ _ _ _ _ _ _ _ _ _ _ _ _ _ _ _ _ _ _ _ _ _ _ _ _ _ _ _ _ _ _ _ _ _ _ _ _ _ _ _ _ _ _ _ _ _ _ _ _ _ _ _ _ (IRX.out.stay hk hb) (GS.of_below hb))
end Go.Proofs.Ytafekaonmpkhiaa
