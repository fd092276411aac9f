/- A region of the reference's ExtractAny, way 4. -/
import Derived.Test.YtokkjdelomkfiaaSr0
import Derived.Deep.RegionHeld3
set_option linter.unusedSimpArgs false
set_option linter.unusedVariables false
set_option maxRecDepth 100000
namespace Go.Proofs.Ytokkjdelomkfiaa
open Go.RowKit Go.Deep Go.PlainAid

set_option maxHeartbeats 4000000 in
theorem reg16_4 {U wr : World} {S p0 p1 pg i n c1 c2 d1 d2 bx ox by' oy bl ol bm om cl cm ql qc pl pc : Nat} {qa pa al am : Option Addr} {L N : List ByteArray} {x y : ByteArray} {R : Act → World → Prop} {t0 t1 t2 t3 t6 t7 t8 t10 t11 t12 t14 t15 t16 t17 t18 t19 t20 t21 t22 t23 t24 t25 t26 t27 t28 t29 t30 t31 t32 t33 t34 t35 t36 t37 t38 t39 t40 t41 t42 t43 t44 t45 t46 t47 t48 t49 t50 t51 t52 t53 t54 t55 t56 t57 t58 t59 t60 t61 t62 t63 t64 t65 t66 t67 t68 t69 t70 t71 t72 t73 t74 t75 t76 t77 t78 t79 t80 t81 t82 t83 t84 t85 t86 t87 t88 t89 t90 t91 t92 t93 t94 t95 t96 t97 t98 t99 t100 t101 t102 t103 t104 t105 t106 t107 t108 t109 t110 t111 t112 t113 t114 t115 t116 t117 t118 t119 t120 t121 t122 t123 t124 t125 t126 t127 t128 t129 t130 t131 t132 t133 t134 t135 t136 t137 t138 t139 t140 t141 t142 t143 t144 t145 t146 t147 t148 t149 t150 t151 t152 t153 t154 t155 t156 t157 t158 t159 t160 t161 t162 t163 t164 t165 t166 t167 t168 t169 t170 t171 t172 t173 t174 t175 t176 : Value} (il : (i : Int) < (n : Int)) (B : Below U.heap.size U wr) (KQ0 : ∀ V, Below U.heap.size U V → (Below U.heap.size U V ∧ V.cell? ⟨pg, 0, none⟩ = some (.int .i64 (S : Int)) ∧ V.cell? ⟨pg, 1, none⟩ = some (.slice qa ql qc) ∧ V.cell? ⟨pg, 2, none⟩ = some (.slice pa pl pc) ∧ V.cell? ⟨p0, 0, none⟩ = some (.slice (some ⟨bx, ox, none⟩) n c1) ∧ V.cell? ⟨p0, 1, none⟩ = some (.slice (some ⟨bl, ol, none⟩) n c2) ∧ V.cell? ⟨p1, 0, none⟩ = some (.slice (some ⟨by', oy, none⟩) n d1) ∧ V.cell? ⟨p1, 1, none⟩ = some (.slice (some ⟨bm, om, none⟩) n d2) ∧ V.cell? ⟨bl, ol + i, none⟩ = some (.slice al L.length cl) ∧ V.cell? ⟨bm, om + i, none⟩ = some (.slice am N.length cm) ∧ V.cell? ⟨bx, ox + i, none⟩ = some (.string x) ∧ V.cell? ⟨by', oy + i, none⟩ = some (.string y))) (CL : ∀ V, Below U.heap.size U V → Calls Try.prog 23 #[.agg #[.int .i64 (S : Int), .slice qa ql qc, .slice pa pl pc], .int .i64 (L.length : Int), .slice al L.length cl] V fun e w' => e = .returned (.int .i64 0) ∧ Below V.heap.size V w') (CM : ∀ V, Below U.heap.size U V → Calls Try.prog 23 #[.agg #[.int .i64 (S : Int), .slice qa ql qc, .slice pa pl pc], .int .i64 (N.length : Int), .slice am N.length cm] V fun e w' => e = .returned (.int .i64 0) ∧ Below V.heap.size V w') (CX : ∀ V, Below U.heap.size U V → Calls Try.prog 24 #[.agg #[.int .i64 (S : Int), .slice qa ql qc, .slice pa pl pc], .string x] V fun e w' => e = .returned (.bool true) ∧ Below V.heap.size V w') (CY : ∀ V, Below U.heap.size U V → Calls Try.prog 24 #[.agg #[.int .i64 (S : Int), .slice qa ql qc, .slice pa pl pc], .string y] V fun e w' => e = .returned (.bool false) ∧ Below V.heap.size V w')
    (hQ : ∀ V u79 u80 u81 u82 u83 u84 u85 u86 u87 u88 u89 u90 u91 u92 u93 u94 u95 u96 u97 u98 u99 u100 u101 u102 u103 u104 u105 u106 u107 u108 u109 u110 u111 u112 u113 u114 u115 u116 u117 u118 u119 u120 u121 u122 u123 u124 u125 u126 u127, Below U.heap.size U V → R ⟨#[t0, t1, t2, t3, .pointer (some ⟨p0, 0, none⟩), .pointer (some ⟨p1, 0, none⟩), t6, t7, t8, .pointer (some ⟨pg, 0, none⟩), t10, t11, t12, .int .i64 (i : Int), t14, t15, t16, t17, t18, t19, t20, t21, t22, t23, t24, t25, t26, t27, t28, t29, t30, t31, t32, t33, t34, t35, t36, t37, t38, t39, t40, t41, t42, t43, t44, t45, t46, t47, t48, t49, t50, t51, t52, t53, t54, t55, t56, t57, t58, t59, t60, t61, t62, t63, t64, t65, t66, t67, t68, t69, t70, t71, t72, t73, t74, t75, t76, t77, t78, u79, u80, u81, u82, u83, u84, u85, u86, u87, u88, u89, u90, u91, u92, u93, u94, u95, u96, u97, u98, u99, u100, u101, u102, u103, u104, u105, u106, u107, u108, u109, u110, u111, u112, u113, u114, u115, u116, u117, u118, u119, u120, u121, u122, u123, u124, u125, u126, u127, .bool true, t129, t130, t131, t132, t133, t134, t135, t136, t137, t138, t139, t140, t141, t142, t143, t144, t145, t146, t147, t148, t149, t150, t151, t152, t153, t154, t155, t156, t157, t158, t159, t160, t161, t162, t163, t164, t165, t166, t167, t168, t169, t170, t171, t172, t173, t174, t175, t176], []⟩ V) :
    c16.wp Try.prog (fun e aa ww => match e with | .normal => R aa ww | _ => False) ⟨#[t0, t1, t2, t3, .pointer (some ⟨p0, 0, none⟩), .pointer (some ⟨p1, 0, none⟩), t6, t7, t8, .pointer (some ⟨pg, 0, none⟩), t10, t11, t12, .int .i64 (i : Int), t14, t15, t16, t17, t18, t19, t20, t21, t22, t23, t24, t25, t26, t27, t28, t29, t30, t31, t32, t33, t34, t35, t36, t37, t38, t39, t40, t41, t42, t43, t44, t45, t46, t47, t48, t49, t50, t51, t52, t53, t54, t55, t56, t57, t58, t59, t60, t61, t62, t63, t64, t65, t66, t67, t68, t69, t70, t71, t72, t73, t74, t75, t76, t77, t78, t79, t80, t81, t82, t83, t84, t85, t86, t87, t88, t89, t90, t91, t92, t93, t94, t95, t96, t97, t98, t99, t100, t101, t102, t103, t104, t105, t106, t107, t108, t109, t110, t111, t112, t113, t114, t115, t116, t117, t118, t119, t120, t121, t122, t123, t124, t125, t126, t127, t128, t129, t130, t131, t132, t133, t134, t135, t136, t137, t138, t139, t140, t141, t142, t143, t144, t145, t146, t147, t148, t149, t150, t151, t152, t153, t154, t155, t156, t157, t158, t159, t160, t161, t162, t163, t164, t165, t166, t167, t168, t169, t170, t171, t172, t173, t174, t175, t176], []⟩ wr := by
  replace CL : Hid _ := CL
  replace CM : Hid _ := CM
  replace CX : Hid _ := CX
  replace CY : Hid _ := CY
  have KQ : Hid (∀ V, Below U.heap.size U V → (Below U.heap.size U V ∧ V.cell? ⟨pg, 0, none⟩ = some (.int .i64 (S : Int)) ∧ V.cell? ⟨pg, 1, none⟩ = some (.slice qa ql qc) ∧ V.cell? ⟨pg, 2, none⟩ = some (.slice pa pl pc) ∧ V.cell? ⟨p0, 0, none⟩ = some (.slice (some ⟨bx, ox, none⟩) n c1) ∧ V.cell? ⟨p0, 1, none⟩ = some (.slice (some ⟨bl, ol, none⟩) n c2) ∧ V.cell? ⟨p1, 0, none⟩ = some (.slice (some ⟨by', oy, none⟩) n d1) ∧ V.cell? ⟨p1, 1, none⟩ = some (.slice (some ⟨bm, om, none⟩) n d2) ∧ V.cell? ⟨bl, ol + i, none⟩ = some (.slice al L.length cl) ∧ V.cell? ⟨bm, om + i, none⟩ = some (.slice am N.length cm) ∧ V.cell? ⟨bx, ox + i, none⟩ = some (.string x) ∧ V.cell? ⟨by', oy + i, none⟩ = some (.string y))) := KQ0
  have HQ : Hid (∀ V u79 u80 u81 u82 u83 u84 u85 u86 u87 u88 u89 u90 u91 u92 u93 u94 u95 u96 u97 u98 u99 u100 u101 u102 u103 u104 u105 u106 u107 u108 u109 u110 u111 u112 u113 u114 u115 u116 u117 u118 u119 u120 u121 u122 u123 u124 u125 u126 u127, Below U.heap.size U V → R ⟨#[t0, t1, t2, t3, .pointer (some ⟨p0, 0, none⟩), .pointer (some ⟨p1, 0, none⟩), t6, t7, t8, .pointer (some ⟨pg, 0, none⟩), t10, t11, t12, .int .i64 (i : Int), t14, t15, t16, t17, t18, t19, t20, t21, t22, t23, t24, t25, t26, t27, t28, t29, t30, t31, t32, t33, t34, t35, t36, t37, t38, t39, t40, t41, t42, t43, t44, t45, t46, t47, t48, t49, t50, t51, t52, t53, t54, t55, t56, t57, t58, t59, t60, t61, t62, t63, t64, t65, t66, t67, t68, t69, t70, t71, t72, t73, t74, t75, t76, t77, t78, u79, u80, u81, u82, u83, u84, u85, u86, u87, u88, u89, u90, u91, u92, u93, u94, u95, u96, u97, u98, u99, u100, u101, u102, u103, u104, u105, u106, u107, u108, u109, u110, u111, u112, u113, u114, u115, u116, u117, u118, u119, u120, u121, u122, u123, u124, u125, u126, u127, .bool true, t129, t130, t131, t132, t133, t134, t135, t136, t137, t138, t139, t140, t141, t142, t143, t144, t145, t146, t147, t148, t149, t150, t151, t152, t153, t154, t155, t156, t157, t158, t159, t160, t161, t162, t163, t164, t165, t166, t167, t168, t169, t170, t171, t172, t173, t174, t175, t176], []⟩ V) := hQ
  have sB : Hid (∀ V V', Below V.heap.size V V' → Below U.heap.size U V → Below U.heap.size U V') := fun V V' h h' => h'.trans (h.mono h'.size)
  clear KQ0 hQ
  unfold c16
  refine wp_region_held_drew (S := fun V => Below U.heap.size U V ∧ V.cell? ⟨pg, 0, none⟩ = some (.int .i64 (S : Int)) ∧ V.cell? ⟨pg, 1, none⟩ = some (.slice qa ql qc) ∧ V.cell? ⟨pg, 2, none⟩ = some (.slice pa pl pc) ∧ V.cell? ⟨p0, 0, none⟩ = some (.slice (some ⟨bx, ox, none⟩) n c1) ∧ V.cell? ⟨p0, 1, none⟩ = some (.slice (some ⟨bl, ol, none⟩) n c2) ∧ V.cell? ⟨p1, 0, none⟩ = some (.slice (some ⟨by', oy, none⟩) n d1) ∧ V.cell? ⟨p1, 1, none⟩ = some (.slice (some ⟨bm, om, none⟩) n d2) ∧ V.cell? ⟨bl, ol + i, none⟩ = some (.slice al L.length cl) ∧ V.cell? ⟨bm, om + i, none⟩ = some (.slice am N.length cm) ∧ V.cell? ⟨bx, ox + i, none⟩ = some (.string x) ∧ V.cell? ⟨by', oy + i, none⟩ = some (.string y)) (by kernel_rfl) (KQ.out _ B.drew) (fun hH0 => ?_)
  have D0 : Hid (Below U.heap.size U wr.drew) := B.drew
  clear B
  generalize wr.drew = v0 at *
  refine tk (i := 0) (v := .agg #[.int .i64 (S : Int), .slice qa ql qc, .slice pa pl pc]) rfl (by kernel_rfl) (fun _ _ _ h => h) rfl ?_ hH0 ?_
  · intro V hS; obtain ⟨_, q0, q1, q2, q3, q4, q5, q6, q7, q8, q9, q10⟩ := hS; go_simp
  simp only [Act.put, y1, y2, y3, y4, y5, y6, y7]
  refine tk (i := 1) (v := .pointer (some ⟨p0, 1, none⟩)) rfl (by kernel_rfl) (fun _ _ _ h => h) rfl ?_ hH0 ?_
  · intro V hS; obtain ⟨_, q0, q1, q2, q3, q4, q5, q6, q7, q8, q9, q10⟩ := hS; go_simp
  simp only [Act.put, y1, y2, y3, y4, y5, y6, y7]
  refine tk (i := 2) (v := .slice (some ⟨bl, ol, none⟩) n c2) rfl (by kernel_rfl) (fun _ _ _ h => h) rfl ?_ hH0 ?_
  · intro V hS; obtain ⟨_, q0, q1, q2, q3, q4, q5, q6, q7, q8, q9, q10⟩ := hS; go_simp
  simp only [Act.put, y1, y2, y3, y4, y5, y6, y7]
  refine tk (i := 3) (v := .int .i64 (i : Int)) rfl (by kernel_rfl) (fun _ _ _ h => h) rfl ?_ hH0 ?_
  · intro V hS; obtain ⟨_, q0, q1, q2, q3, q4, q5, q6, q7, q8, q9, q10⟩ := hS; go_simp
  simp only [Act.put, y1, y2, y3, y4, y5, y6, y7]
  refine tk (i := 4) (v := .pointer (some ⟨bl, ol + i, none⟩)) rfl (by kernel_rfl) (fun _ _ _ h => h) rfl ?_ hH0 ?_
  · intro V hS; obtain ⟨_, q0, q1, q2, q3, q4, q5, q6, q7, q8, q9, q10⟩ := hS; go_simp
  simp only [Act.put, y1, y2, y3, y4, y5, y6, y7]
  refine tk (i := 5) (v := .slice al L.length cl) rfl (by kernel_rfl) (fun _ _ _ h => h) rfl ?_ hH0 ?_
  · intro V hS; obtain ⟨_, q0, q1, q2, q3, q4, q5, q6, q7, q8, q9, q10⟩ := hS; go_simp
  simp only [Act.put, y1, y2, y3, y4, y5, y6, y7]
  refine tk (i := 6) (v := .int .i64 (L.length : Int)) rfl (by kernel_rfl) (fun _ _ _ h => h) rfl ?_ hH0 ?_
  · intro V hS; obtain ⟨_, q0, q1, q2, q3, q4, q5, q6, q7, q8, q9, q10⟩ := hS; go_simp
  simp only [Act.put, y1, y2, y3, y4, y5, y6, y7]
  refine tk (i := 7) (v := .pointer (some ⟨p0, 1, none⟩)) rfl (by kernel_rfl) (fun _ _ _ h => h) rfl ?_ hH0 ?_
  · intro V hS; obtain ⟨_, q0, q1, q2, q3, q4, q5, q6, q7, q8, q9, q10⟩ := hS; go_simp
  simp only [Act.put, y1, y2, y3, y4, y5, y6, y7]
  refine tk (i := 8) (v := .slice (some ⟨bl, ol, none⟩) n c2) rfl (by kernel_rfl) (fun _ _ _ h => h) rfl ?_ hH0 ?_
  · intro V hS; obtain ⟨_, q0, q1, q2, q3, q4, q5, q6, q7, q8, q9, q10⟩ := hS; go_simp
  simp only [Act.put, y1, y2, y3, y4, y5, y6, y7]
  refine tk (i := 9) (v := .int .i64 (i : Int)) rfl (by kernel_rfl) (fun _ _ _ h => h) rfl ?_ hH0 ?_
  · intro V hS; obtain ⟨_, q0, q1, q2, q3, q4, q5, q6, q7, q8, q9, q10⟩ := hS; go_simp
  simp only [Act.put, y1, y2, y3, y4, y5, y6, y7]
  refine tk (i := 10) (v := .pointer (some ⟨bl, ol + i, none⟩)) rfl (by kernel_rfl) (fun _ _ _ h => h) rfl ?_ hH0 ?_
  · intro V hS; obtain ⟨_, q0, q1, q2, q3, q4, q5, q6, q7, q8, q9, q10⟩ := hS; go_simp
  simp only [Act.put, y1, y2, y3, y4, y5, y6, y7]
  refine tk (i := 11) (v := .slice al L.length cl) rfl (by kernel_rfl) (fun _ _ _ h => h) rfl ?_ hH0 ?_
  · intro V hS; obtain ⟨_, q0, q1, q2, q3, q4, q5, q6, q7, q8, q9, q10⟩ := hS; go_simp
  simp only [Act.put, y1, y2, y3, y4, y5, y6, y7]
  refine wpAnyH_ready (rs := [12]) (by kernel_rfl) (by simp) ?_
  refine AllReadyH.cons rfl (fun K hK => ?_) AllReadyH.nil
  clear hH0
  go_simp
  refine (CL.out _ D0.out).mono ?_
  rintro e v1 ⟨rfl, hD1⟩
  have D1 : Hid (Below U.heap.size U v1) := sB.out _ _ hD1 D0.out
  clear hD1
  go_wp2_with fail
  refine hK.out _ _ (KQ.out _ D1.out) (fun hH1 => ?_)
  clear hK K
  try simp only [Act.put, y1, y2, y3, y4, y5, y6, y7]
  refine tk (i := 13) (v := .bool false) rfl (by kernel_rfl) (fun _ _ _ h => h) rfl ?_ hH1 ?_
  · intro V hS; obtain ⟨_, q0, q1, q2, q3, q4, q5, q6, q7, q8, q9, q10⟩ := hS; go_simp
  simp only [Act.put, y1, y2, y3, y4, y5, y6, y7]
  refine tk (i := 14) (v := .bool false) rfl (by kernel_rfl) (fun _ _ _ h => h) rfl ?_ hH1 ?_
  · intro V hS; obtain ⟨_, q0, q1, q2, q3, q4, q5, q6, q7, q8, q9, q10⟩ := hS; go_simp
  simp only [Act.put, y1, y2, y3, y4, y5, y6, y7]
  refine tk (i := 15) (v := .agg #[.int .i64 (S : Int), .slice qa ql qc, .slice pa pl pc]) rfl (by kernel_rfl) (fun _ _ _ h => h) rfl ?_ hH1 ?_
  · intro V hS; obtain ⟨_, q0, q1, q2, q3, q4, q5, q6, q7, q8, q9, q10⟩ := hS; go_simp
  simp only [Act.put, y1, y2, y3, y4, y5, y6, y7]
  refine tk (i := 16) (v := .pointer (some ⟨p1, 1, none⟩)) rfl (by kernel_rfl) (fun _ _ _ h => h) rfl ?_ hH1 ?_
  · intro V hS; obtain ⟨_, q0, q1, q2, q3, q4, q5, q6, q7, q8, q9, q10⟩ := hS; go_simp
  simp only [Act.put, y1, y2, y3, y4, y5, y6, y7]
  refine tk (i := 17) (v := .slice (some ⟨bm, om, none⟩) n d2) rfl (by kernel_rfl) (fun _ _ _ h => h) rfl ?_ hH1 ?_
  · intro V hS; obtain ⟨_, q0, q1, q2, q3, q4, q5, q6, q7, q8, q9, q10⟩ := hS; go_simp
  simp only [Act.put, y1, y2, y3, y4, y5, y6, y7]
  refine tk (i := 18) (v := .int .i64 (i : Int)) rfl (by kernel_rfl) (fun _ _ _ h => h) rfl ?_ hH1 ?_
  · intro V hS; obtain ⟨_, q0, q1, q2, q3, q4, q5, q6, q7, q8, q9, q10⟩ := hS; go_simp
  simp only [Act.put, y1, y2, y3, y4, y5, y6, y7]
  refine tk (i := 19) (v := .pointer (some ⟨bm, om + i, none⟩)) rfl (by kernel_rfl) (fun _ _ _ h => h) rfl ?_ hH1 ?_
  · intro V hS; obtain ⟨_, q0, q1, q2, q3, q4, q5, q6, q7, q8, q9, q10⟩ := hS; go_simp
  simp only [Act.put, y1, y2, y3, y4, y5, y6, y7]
  refine tk (i := 20) (v := .slice am N.length cm) rfl (by kernel_rfl) (fun _ _ _ h => h) rfl ?_ hH1 ?_
  · intro V hS; obtain ⟨_, q0, q1, q2, q3, q4, q5, q6, q7, q8, q9, q10⟩ := hS; go_simp
  simp only [Act.put, y1, y2, y3, y4, y5, y6, y7]
  refine tk (i := 21) (v := .int .i64 (N.length : Int)) rfl (by kernel_rfl) (fun _ _ _ h => h) rfl ?_ hH1 ?_
  · intro V hS; obtain ⟨_, q0, q1, q2, q3, q4, q5, q6, q7, q8, q9, q10⟩ := hS; go_simp
  simp only [Act.put, y1, y2, y3, y4, y5, y6, y7]
  refine tk (i := 22) (v := .pointer (some ⟨p1, 1, none⟩)) rfl (by kernel_rfl) (fun _ _ _ h => h) rfl ?_ hH1 ?_
  · intro V hS; obtain ⟨_, q0, q1, q2, q3, q4, q5, q6, q7, q8, q9, q10⟩ := hS; go_simp
  simp only [Act.put, y1, y2, y3, y4, y5, y6, y7]
  refine tk (i := 23) (v := .slice (some ⟨bm, om, none⟩) n d2) rfl (by kernel_rfl) (fun _ _ _ h => h) rfl ?_ hH1 ?_
  · intro V hS; obtain ⟨_, q0, q1, q2, q3, q4, q5, q6, q7, q8, q9, q10⟩ := hS; go_simp
  simp only [Act.put, y1, y2, y3, y4, y5, y6, y7]
  refine tk (i := 24) (v := .int .i64 (i : Int)) rfl (by kernel_rfl) (fun _ _ _ h => h) rfl ?_ hH1 ?_
  · intro V hS; obtain ⟨_, q0, q1, q2, q3, q4, q5, q6, q7, q8, q9, q10⟩ := hS; go_simp
  simp only [Act.put, y1, y2, y3, y4, y5, y6, y7]
  refine tk (i := 25) (v := .pointer (some ⟨bm, om + i, none⟩)) rfl (by kernel_rfl) (fun _ _ _ h => h) rfl ?_ hH1 ?_
  · intro V hS; obtain ⟨_, q0, q1, q2, q3, q4, q5, q6, q7, q8, q9, q10⟩ := hS; go_simp
  simp only [Act.put, y1, y2, y3, y4, y5, y6, y7]
  refine tk (i := 26) (v := .slice am N.length cm) rfl (by kernel_rfl) (fun _ _ _ h => h) rfl ?_ hH1 ?_
  · intro V hS; obtain ⟨_, q0, q1, q2, q3, q4, q5, q6, q7, q8, q9, q10⟩ := hS; go_simp
  simp only [Act.put, y1, y2, y3, y4, y5, y6, y7]
  refine wpAnyH_ready (rs := [27]) (by kernel_rfl) (by simp) ?_
  refine AllReadyH.cons rfl (fun K hK => ?_) AllReadyH.nil
  clear hH1
  go_simp
  refine (CM.out _ D1.out).mono ?_
  rintro e v2 ⟨rfl, hD2⟩
  have D2 : Hid (Below U.heap.size U v2) := sB.out _ _ hD2 D1.out
  clear hD2
  go_wp2_with fail
  refine hK.out _ _ (KQ.out _ D2.out) (fun hH2 => ?_)
  clear hK K
  try simp only [Act.put, y1, y2, y3, y4, y5, y6, y7]
  refine tk (i := 28) (v := .bool false) rfl (by kernel_rfl) (fun _ _ _ h => h) rfl ?_ hH2 ?_
  · intro V hS; obtain ⟨_, q0, q1, q2, q3, q4, q5, q6, q7, q8, q9, q10⟩ := hS; go_simp
  simp only [Act.put, y1, y2, y3, y4, y5, y6, y7]
  refine tk (i := 29) (v := .bool false) rfl (by kernel_rfl) (fun _ _ _ h => h) rfl ?_ hH2 ?_
  · intro V hS; obtain ⟨_, q0, q1, q2, q3, q4, q5, q6, q7, q8, q9, q10⟩ := hS; go_simp
  simp only [Act.put, y1, y2, y3, y4, y5, y6, y7]
  refine tk (i := 30) (v := .bool false) rfl (by kernel_rfl) (fun _ _ _ h => h) rfl ?_ hH2 ?_
  · intro V hS; obtain ⟨_, q0, q1, q2, q3, q4, q5, q6, q7, q8, q9, q10⟩ := hS; go_simp
  simp only [Act.put, y1, y2, y3, y4, y5, y6, y7]
  refine tk (i := 31) (v := .agg #[.int .i64 (S : Int), .slice qa ql qc, .slice pa pl pc]) rfl (by kernel_rfl) (fun _ _ _ h => h) rfl ?_ hH2 ?_
  · intro V hS; obtain ⟨_, q0, q1, q2, q3, q4, q5, q6, q7, q8, q9, q10⟩ := hS; go_simp
  simp only [Act.put, y1, y2, y3, y4, y5, y6, y7]
  refine tk (i := 32) (v := .pointer (some ⟨p0, 0, none⟩)) rfl (by kernel_rfl) (fun _ _ _ h => h) rfl ?_ hH2 ?_
  · intro V hS; obtain ⟨_, q0, q1, q2, q3, q4, q5, q6, q7, q8, q9, q10⟩ := hS; go_simp
  simp only [Act.put, y1, y2, y3, y4, y5, y6, y7]
  refine tk (i := 33) (v := .slice (some ⟨bx, ox, none⟩) n c1) rfl (by kernel_rfl) (fun _ _ _ h => h) rfl ?_ hH2 ?_
  · intro V hS; obtain ⟨_, q0, q1, q2, q3, q4, q5, q6, q7, q8, q9, q10⟩ := hS; go_simp
  simp only [Act.put, y1, y2, y3, y4, y5, y6, y7]
  refine tk (i := 34) (v := .int .i64 (i : Int)) rfl (by kernel_rfl) (fun _ _ _ h => h) rfl ?_ hH2 ?_
  · intro V hS; obtain ⟨_, q0, q1, q2, q3, q4, q5, q6, q7, q8, q9, q10⟩ := hS; go_simp
  simp only [Act.put, y1, y2, y3, y4, y5, y6, y7]
  refine tk (i := 35) (v := .pointer (some ⟨bx, ox + i, none⟩)) rfl (by kernel_rfl) (fun _ _ _ h => h) rfl ?_ hH2 ?_
  · intro V hS; obtain ⟨_, q0, q1, q2, q3, q4, q5, q6, q7, q8, q9, q10⟩ := hS; go_simp
  simp only [Act.put, y1, y2, y3, y4, y5, y6, y7]
  refine tk (i := 36) (v := .string x) rfl (by kernel_rfl) (fun _ _ _ h => h) rfl ?_ hH2 ?_
  · intro V hS; obtain ⟨_, q0, q1, q2, q3, q4, q5, q6, q7, q8, q9, q10⟩ := hS; go_simp
  simp only [Act.put, y1, y2, y3, y4, y5, y6, y7]
  refine wpAnyH_ready (rs := [37]) (by kernel_rfl) (by simp) ?_
  refine AllReadyH.cons rfl (fun K hK => ?_) AllReadyH.nil
  clear hH2
  go_simp
  refine (CX.out _ D2.out).mono ?_
  rintro e v3 ⟨rfl, hD3⟩
  have D3 : Hid (Below U.heap.size U v3) := sB.out _ _ hD3 D2.out
  clear hD3
  go_wp2_with fail
  refine hK.out _ _ (KQ.out _ D3.out) (fun hH3 => ?_)
  clear hK K
  try simp only [Act.put, y1, y2, y3, y4, y5, y6, y7]
  refine tk (i := 38) (v := .bool false) rfl (by kernel_rfl) (fun _ _ _ h => h) rfl ?_ hH3 ?_
  · intro V hS; obtain ⟨_, q0, q1, q2, q3, q4, q5, q6, q7, q8, q9, q10⟩ := hS; go_simp
  simp only [Act.put, y1, y2, y3, y4, y5, y6, y7]
  refine tk (i := 39) (v := .bool false) rfl (by kernel_rfl) (fun _ _ _ h => h) rfl ?_ hH3 ?_
  · intro V hS; obtain ⟨_, q0, q1, q2, q3, q4, q5, q6, q7, q8, q9, q10⟩ := hS; go_simp
  simp only [Act.put, y1, y2, y3, y4, y5, y6, y7]
  refine tk (i := 40) (v := .bool false) rfl (by kernel_rfl) (fun _ _ _ h => h) rfl ?_ hH3 ?_
  · intro V hS; obtain ⟨_, q0, q1, q2, q3, q4, q5, q6, q7, q8, q9, q10⟩ := hS; go_simp
  simp only [Act.put, y1, y2, y3, y4, y5, y6, y7]
  refine tk (i := 41) (v := .agg #[.int .i64 (S : Int), .slice qa ql qc, .slice pa pl pc]) rfl (by kernel_rfl) (fun _ _ _ h => h) rfl ?_ hH3 ?_
  · intro V hS; obtain ⟨_, q0, q1, q2, q3, q4, q5, q6, q7, q8, q9, q10⟩ := hS; go_simp
  simp only [Act.put, y1, y2, y3, y4, y5, y6, y7]
  refine tk (i := 42) (v := .pointer (some ⟨p1, 0, none⟩)) rfl (by kernel_rfl) (fun _ _ _ h => h) rfl ?_ hH3 ?_
  · intro V hS; obtain ⟨_, q0, q1, q2, q3, q4, q5, q6, q7, q8, q9, q10⟩ := hS; go_simp
  simp only [Act.put, y1, y2, y3, y4, y5, y6, y7]
  refine tk (i := 43) (v := .slice (some ⟨by', oy, none⟩) n d1) rfl (by kernel_rfl) (fun _ _ _ h => h) rfl ?_ hH3 ?_
  · intro V hS; obtain ⟨_, q0, q1, q2, q3, q4, q5, q6, q7, q8, q9, q10⟩ := hS; go_simp
  simp only [Act.put, y1, y2, y3, y4, y5, y6, y7]
  refine tk (i := 44) (v := .int .i64 (i : Int)) rfl (by kernel_rfl) (fun _ _ _ h => h) rfl ?_ hH3 ?_
  · intro V hS; obtain ⟨_, q0, q1, q2, q3, q4, q5, q6, q7, q8, q9, q10⟩ := hS; go_simp
  simp only [Act.put, y1, y2, y3, y4, y5, y6, y7]
  refine tk (i := 45) (v := .pointer (some ⟨by', oy + i, none⟩)) rfl (by kernel_rfl) (fun _ _ _ h => h) rfl ?_ hH3 ?_
  · intro V hS; obtain ⟨_, q0, q1, q2, q3, q4, q5, q6, q7, q8, q9, q10⟩ := hS; go_simp
  simp only [Act.put, y1, y2, y3, y4, y5, y6, y7]
  refine tk (i := 46) (v := .string y) rfl (by kernel_rfl) (fun _ _ _ h => h) rfl ?_ hH3 ?_
  · intro V hS; obtain ⟨_, q0, q1, q2, q3, q4, q5, q6, q7, q8, q9, q10⟩ := hS; go_simp
  simp only [Act.put, y1, y2, y3, y4, y5, y6, y7]
  refine wpAnyH_ready (rs := [47]) (by kernel_rfl) (by simp) ?_
  refine AllReadyH.cons rfl (fun K hK => ?_) AllReadyH.nil
  clear hH3
  go_simp
  refine (CY.out _ D3.out).mono ?_
  rintro e v4 ⟨rfl, hD4⟩
  have D4 : Hid (Below U.heap.size U v4) := sB.out _ _ hD4 D3.out
  clear hD4
  go_wp2_with fail
  refine hK.out _ _ (KQ.out _ D4.out) (fun hH4 => ?_)
  clear hK K
  try simp only [Act.put, y1, y2, y3, y4, y5, y6, y7]
  refine tk (i := 48) (v := .bool true) rfl (by kernel_rfl) (fun _ _ _ h => h) rfl ?_ hH4 ?_
  · intro V hS; obtain ⟨_, q0, q1, q2, q3, q4, q5, q6, q7, q8, q9, q10⟩ := hS; go_simp
  simp only [Act.put, y1, y2, y3, y4, y5, y6, y7]
  refine tk (i := 49) (v := .bool true) rfl (by kernel_rfl) (fun _ _ _ h => h) rfl ?_ hH4 ?_
  · intro V hS; obtain ⟨_, q0, q1, q2, q3, q4, q5, q6, q7, q8, q9, q10⟩ := hS; go_simp
  simp only [Act.put, y1, y2, y3, y4, y5, y6, y7]
  refine wpAnyH_done (by kernel_rfl) ?_ _
  exact HQ.out _ _ _ _ _ _ _ _ _ _ _ _ _ _ _ _ _ _ _ _ _ _ _ _ _ _ _ _ _ _ _ _ _ _ _ _ _ _ _ _ _ _ _ _ _ _ _ _ _ _ D4.out
end Go.Proofs.Ytokkjdelomkfiaa
