/- Prove of sets: what is laid at first. Prove of sets: what holds ahead of each round. -/
import Derived.Test.YtmpiipcllgjhdaaGreatDoorY22
set_option linter.unusedSimpArgs false
set_option linter.unusedVariables false
set_option maxRecDepth 100000
namespace Go.Proofs.YtmpiipcllgjhdaaGreatDoor
open Go.RowKit Go.Deep Go.PlainAid

def emp (n : Nat) : List Value := List.replicate n (Value.string ⟨#[]⟩)
def nil (n : Nat) : List Value := List.replicate n (Value.slice none 0 0)
theorem make22e (n : Nat) (hn : n ≤ 4294967296) (w : World) : (Instr.makeSlice 22 (.int .i64 (n : Int)) (.int .i64 (n : Int))).run Tryz.prog w = .ok (.slice (some ⟨w.heap.size, 0, none⟩) n n) (w.alloc (.cells (emp n).toArray 9)) := make22 _ n rfl (by omega) w
theorem make39e (n : Nat) (hn : n ≤ 4294967296) (w : World) : (Instr.makeSlice 39 (.int .i64 (n : Int)) (.int .i64 (n : Int))).run Tryz.prog w = .ok (.slice (some ⟨w.heap.size, 0, none⟩) n n) (w.alloc (.cells (nil n).toArray 22)) := make25 _ n rfl hn w
/-- What has been laid: a list of texts, a list of lists, their box. -/
structure L3 (W V : World) (n : Nat) (bc ba bp : Option Nat) (v0 v1 : Value) : Prop where
  bl : Below W.heap.size W V
  h3 : ∀ b, bc = some b → IHolds V b 9 (emp n) ∧ W.heap.size ≤ b
  h7 : ∀ b, ba = some b → IHolds V b 22 (nil n) ∧ W.heap.size ≤ b
  h9 : ∀ b, bp = some b → IHolds V b 41 [v0, v1] ∧ W.heap.size ≤ b
section
variable {W V : World} {n : Nat} {bc ba bp : Option Nat} {v0 v1 : Value}
theorem keepH {V : World} {t : TypeId} {l : List Value} {k : Nat} {b : Option Nat} (h : ∀ x, b = some x → IHolds V x t l ∧ k ≤ x) (o : Obj) : ∀ x, b = some x → IHolds (V.alloc o) x t l ∧ k ≤ x := fun x hx => ⟨(h x hx).1.of_below ((Below.refl _ _).alloc (Nat.le_refl _) _), (h x hx).2⟩
theorem oneH (V : World) (t : TypeId) (l : List Value) {k : Nat} (hk : k ≤ V.heap.size) : ∀ x, some V.heap.size = some x → IHolds (V.alloc (.cells l.toArray t)) x t l ∧ k ≤ x := fun x hx => by
  cases hx; exact ⟨IHolds.new _ _ _, hk⟩
theorem L3.a3 (h : L3 W V n none ba bp v0 v1) : L3 W (V.alloc (.cells (emp n).toArray 9)) n (some V.heap.size) ba bp v0 v1 :=
  ⟨h.bl.alloc h.bl.size _, oneH _ _ _ h.bl.size, keepH h.h7 _, keepH h.h9 _⟩
theorem L3.a7 (h : L3 W V n bc none bp v0 v1) : L3 W (V.alloc (.cells (nil n).toArray 22)) n bc (some V.heap.size) bp v0 v1 :=
  ⟨h.bl.alloc h.bl.size _, keepH h.h3 _, oneH _ _ _ h.bl.size, keepH h.h9 _⟩
theorem L3.a9 (h : L3 W V n bc ba none (.slice none 0 0) (.slice none 0 0)) : L3 W (V.alloc (.cells #[.slice none 0 0, .slice none 0 0] 41)) n bc ba (some V.heap.size) (.slice none 0 0) (.slice none 0 0) :=
  ⟨h.bl.alloc h.bl.size _, keepH h.h3 _, keepH h.h7 _, oneH V 41 [.slice none 0 0, .slice none 0 0] h.bl.size⟩
theorem ne_ty {V : World} {b b' : Nat} {t t' : TypeId} {l l' : List Value} (h : IHolds V b t l) (h' : IHolds V b' t' l') (hne : t ≠ t') : b ≠ b' := fun e => by
  subst e
  unfold IHolds at h h'
  rw [h] at h'
  simp only [Option.some.injEq, Obj.cells.injEq] at h'
  exact hne h'.2.1
theorem L3.s10 {B : Nat} (h : L3 W V n bc ba (some B) v0 v1) (u v : Value) : L3 W ((V.setCell ⟨B, 0, none⟩ u).setCell ⟨B, 1, none⟩ v) n bc ba (some B) u v := by
  have q := h.h9 B rfl
  refine ⟨(h.bl.setCell (p := ⟨B, 0, none⟩) q.2 _).setCell (p := ⟨B, 1, none⟩) q.2 _, fun b hb => ⟨((h.h3 b hb).1.store (ne_ty (h.h3 b hb).1 q.1 (by decide)) 0 u).store (ne_ty (h.h3 b hb).1 q.1 (by decide)) 1 v, (h.h3 b hb).2⟩, fun b hb => ⟨((h.h7 b hb).1.store (ne_ty (h.h7 b hb).1 q.1 (by decide)) 0 u).store (ne_ty (h.h7 b hb).1 q.1 (by decide)) 1 v, (h.h7 b hb).2⟩, fun b hb => ?_⟩
  cases hb
  exact ⟨(q.1.set 0 u).set 1 v, q.2⟩
end
def rg3 : Code := Go.Code.region 3 #[{ dst := some 23, op := Go.Op.fieldAddr 65 (Go.Operand.tmp 5) 1, type := 0, pos := "either.go:58", after := #[], guard := none }, { dst := some 24, op := Go.Op.load 63 (Go.Operand.tmp 23), type := 63, pos := "either.go:58", after := #[{ on := 0, ground := Go.Ground.data }], guard := none }, { dst := some 25, op := Go.Op.call { callee := Go.Callee.builtin Go.Builtin.len, args := #[Go.Operand.tmp 24], argTypes := #[63] }, type := 3, pos := "either.go:58", after := #[{ on := 1, ground := Go.Ground.data }], guard := none }, { dst := some 26, op := Go.Op.makeSlice 22 (Go.Operand.tmp 25) (Go.Operand.tmp 25), type := 22, pos := "either.go:58", after := #[{ on := 2, ground := Go.Ground.data }, { on := 2, ground := Go.Ground.data }], guard := none }, { dst := some 27, op := Go.Op.fieldAddr 65 (Go.Operand.tmp 5) 1, type := 0, pos := "either.go:58", after := #[], guard := none }, { dst := some 28, op := Go.Op.load 63 (Go.Operand.tmp 27), type := 63, pos := "either.go:58", after := #[{ on := 4, ground := Go.Ground.data }], guard := none }, { dst := some 29, op := Go.Op.call { callee := Go.Callee.builtin Go.Builtin.len, args := #[Go.Operand.tmp 28], argTypes := #[63] }, type := 3, pos := "either.go:58", after := #[{ on := 5, ground := Go.Ground.data }], guard := none }, { dst := some 30, op := Go.Op.makeSlice 39 (Go.Operand.tmp 29) (Go.Operand.tmp 29), type := 39, pos := "either.go:58", after := #[{ on := 6, ground := Go.Ground.data }, { on := 6, ground := Go.Ground.data }], guard := none }, { dst := some 31, op := Go.Op.build 41 #[(0, Go.Operand.tmp 26), (1, Go.Operand.tmp 30)], type := 41, pos := "either.go:58", after := #[{ on := 3, ground := Go.Ground.data }, { on := 7, ground := Go.Ground.data }], guard := none }, { dst := some 13, op := Go.Op.alloc 41, type := 0, pos := "either.go:58", after := #[], guard := none }, { dst := none, op := Go.Op.store 41 (Go.Operand.tmp 13) (Go.Operand.tmp 31), type := 0, pos := "either.go:58", after := #[{ on := 9, ground := Go.Ground.data }, { on := 8, ground := Go.Ground.data }, { on := 0, ground := Go.Ground.phase }, { on := 1, ground := Go.Ground.phase }, { on := 2, ground := Go.Ground.phase }, { on := 3, ground := Go.Ground.phase }, { on := 4, ground := Go.Ground.phase }, { on := 5, ground := Go.Ground.phase }, { on := 6, ground := Go.Ground.phase }, { on := 7, ground := Go.Ground.phase }, { on := 8, ground := Go.Ground.phase }, { on := 9, ground := Go.Ground.phase }], guard := none }] true
set_option maxHeartbeats 4000000 in
theorem rg3_wp {W : World} {B5 n c : Nat} {a : Option Addr} {df : List Deferred} {Q : Exit → Act → World → Prop} (s0 s1 s2 s3 s4 s6 s7 s8 s9 s10 s11 s12 s13 s14 s15 s16 s17 s18 s19 s20 s21 s22 s23 s24 s25 s26 s27 s28 s29 s30 s31 s32 s33 s34 s35 s36 s37 s38 s39 s40 s41 s42 s43 s44 s45 s46 s47 s48 s49 s50 s51 s52 s53 s54 s55 s56 s57 s58 s59 s60 s61 s62 s63 s64 s65 s66 s67 s68 s69 s70 s71 s72 s73 s74 s75 s76 s77 s78 s79 s80 s81 s82 s83 s84 s85 s86 s87 s88 s89 s90 s91 s92 s93 s94 s95 s96 s97 s98 s99 s100 s101 s102 s103 s104 s105 s106 s107 s108 s109 s110 s111 s112 s113 s114 s115 s116 s117 s118 s119 s120 s121 s122 s123 s124 s125 s126 s127 s128 s129 : Value) (hc : W.cell? ⟨B5, 1, none⟩ = some (.slice a n c)) (hn : n ≤ 256)
    (hQp : ∀ c a a' w, Q (.panic c) a w → Q (.panic c) a' w)
    (h : ∀ Bc Ba Bp W', L3 W W' n (some Bc) (some Ba) (some Bp) (.slice (some ⟨Bc, 0, none⟩) n n) (.slice (some ⟨Ba, 0, none⟩) n n) → Q .normal { tmps := #[s0, s1, s2, s3, s4, .pointer (some ⟨B5, 0, none⟩), s6, s7, s8, s9, s10, s11, s12, (.pointer (some ⟨Bp, 0, none⟩)), s14, s15, s16, s17, s18, s19, s20, s21, s22, (.pointer (some ⟨B5, 1, none⟩)), (.slice a n c), (.int .i64 (n : Int)), (.slice (some ⟨Bc, 0, none⟩) n n), (.pointer (some ⟨B5, 1, none⟩)), (.slice a n c), (.int .i64 (n : Int)), (.slice (some ⟨Ba, 0, none⟩) n n), (.agg #[.slice (some ⟨Bc, 0, none⟩) n n, .slice (some ⟨Ba, 0, none⟩) n n]), s32, s33, s34, s35, s36, s37, s38, s39, s40, s41, s42, s43, s44, s45, s46, s47, s48, s49, s50, s51, s52, s53, s54, s55, s56, s57, s58, s59, s60, s61, s62, s63, s64, s65, s66, s67, s68, s69, s70, s71, s72, s73, s74, s75, s76, s77, s78, s79, s80, s81, s82, s83, s84, s85, s86, s87, s88, s89, s90, s91, s92, s93, s94, s95, s96, s97, s98, s99, s100, s101, s102, s103, s104, s105, s106, s107, s108, s109, s110, s111, s112, s113, s114, s115, s116, s117, s118, s119, s120, s121, s122, s123, s124, s125, s126, s127, s128, s129], defers := df } W') :
    rg3.wp Tryz.prog Q { tmps := #[s0, s1, s2, s3, s4, .pointer (some ⟨B5, 0, none⟩), s6, s7, s8, s9, s10, s11, s12, s13, s14, s15, s16, s17, s18, s19, s20, s21, s22, s23, s24, s25, s26, s27, s28, s29, s30, s31, s32, s33, s34, s35, s36, s37, s38, s39, s40, s41, s42, s43, s44, s45, s46, s47, s48, s49, s50, s51, s52, s53, s54, s55, s56, s57, s58, s59, s60, s61, s62, s63, s64, s65, s66, s67, s68, s69, s70, s71, s72, s73, s74, s75, s76, s77, s78, s79, s80, s81, s82, s83, s84, s85, s86, s87, s88, s89, s90, s91, s92, s93, s94, s95, s96, s97, s98, s99, s100, s101, s102, s103, s104, s105, s106, s107, s108, s109, s110, s111, s112, s113, s114, s115, s116, s117, s118, s119, s120, s121, s122, s123, s124, s125, s126, s127, s128, s129], defers := df } W := by
  have HQ : Hid (∀ Bc Ba Bp W', L3 W W' n (some Bc) (some Ba) (some Bp) (.slice (some ⟨Bc, 0, none⟩) n n) (.slice (some ⟨Ba, 0, none⟩) n n) → Q .normal { tmps := #[s0, s1, s2, s3, s4, .pointer (some ⟨B5, 0, none⟩), s6, s7, s8, s9, s10, s11, s12, (.pointer (some ⟨Bp, 0, none⟩)), s14, s15, s16, s17, s18, s19, s20, s21, s22, (.pointer (some ⟨B5, 1, none⟩)), (.slice a n c), (.int .i64 (n : Int)), (.slice (some ⟨Bc, 0, none⟩) n n), (.pointer (some ⟨B5, 1, none⟩)), (.slice a n c), (.int .i64 (n : Int)), (.slice (some ⟨Ba, 0, none⟩) n n), (.agg #[.slice (some ⟨Bc, 0, none⟩) n n, .slice (some ⟨Ba, 0, none⟩) n n]), s32, s33, s34, s35, s36, s37, s38, s39, s40, s41, s42, s43, s44, s45, s46, s47, s48, s49, s50, s51, s52, s53, s54, s55, s56, s57, s58, s59, s60, s61, s62, s63, s64, s65, s66, s67, s68, s69, s70, s71, s72, s73, s74, s75, s76, s77, s78, s79, s80, s81, s82, s83, s84, s85, s86, s87, s88, s89, s90, s91, s92, s93, s94, s95, s96, s97, s98, s99, s100, s101, s102, s103, s104, s105, s106, s107, s108, s109, s110, s111, s112, s113, s114, s115, s116, s117, s118, s119, s120, s121, s122, s123, s124, s125, s126, s127, s128, s129], defers := df } W') := h
  have HP : Hid (∀ c a a' w, Q (.panic c) a w → Q (.panic c) a' w) := hQp
  have M3 : Hid (∀ V : World, (Instr.makeSlice 22 (.int .i64 (n : Int)) (.int .i64 (n : Int))).run Tryz.prog V = .ok (.slice (some ⟨V.heap.size, 0, none⟩) n n) (V.alloc (.cells (emp n).toArray 9))) := fun V => make22e n (by omega) V
  have M7 : Hid (∀ V : World, (Instr.makeSlice 39 (.int .i64 (n : Int)) (.int .i64 (n : Int))).run Tryz.prog V = .ok (.slice (some ⟨V.heap.size, 0, none⟩) n n) (V.alloc (.cells (nil n).toArray 22))) := fun V => make39e n (by omega) V
  have KS : Hid (∀ V, Below W.heap.size W V → V.cell? ⟨B5, 1, none⟩ = some (.slice a n c)) := fun V hV => cell_keep hc hV
  clear h hQp hc
  unfold rg3
  have X0 : Hid (L3 W W.drew n none none none (.slice none 0 0) (.slice none 0 0)) := ⟨(Below.refl _ W).drew, (fun _ q => by cases q), (fun _ q => by cases q), (fun _ q => by cases q)⟩
  refine wp_region_held_drew (S := (fun V => V.cell? ⟨B5, 1, none⟩ = some (.slice a n c))) (by kernel_rfl) (KS.out _ X0.out.bl) (fun hH => ?_)
  refine tk (i := 0) (v := (.pointer (some ⟨B5, 1, none⟩))) rfl (by kernel_rfl) (fun _ _ _ h => HP.out _ _ _ _ h) rfl ?_ hH ?_
  · intro V hS; go_simp
  simp only [Act.put, y1, y2, y3, y4, y5, y6, y7]
  refine tk (i := 1) (v := (.slice a n c)) rfl (by kernel_rfl) (fun _ _ _ h => HP.out _ _ _ _ h) rfl ?_ hH ?_
  · intro V hS; go_simp
  simp only [Act.put, y1, y2, y3, y4, y5, y6, y7]
  refine tk (i := 2) (v := (.int .i64 (n : Int))) rfl (by kernel_rfl) (fun _ _ _ h => HP.out _ _ _ _ h) rfl ?_ hH ?_
  · intro V hS; go_simp
  simp only [Act.put, y1, y2, y3, y4, y5, y6, y7]
  refine tk (i := 4) (v := (.pointer (some ⟨B5, 1, none⟩))) rfl (by kernel_rfl) (fun _ _ _ h => HP.out _ _ _ _ h) rfl ?_ hH ?_
  · intro V hS; go_simp
  simp only [Act.put, y1, y2, y3, y4, y5, y6, y7]
  refine tk (i := 5) (v := (.slice a n c)) rfl (by kernel_rfl) (fun _ _ _ h => HP.out _ _ _ _ h) rfl ?_ hH ?_
  · intro V hS; go_simp
  simp only [Act.put, y1, y2, y3, y4, y5, y6, y7]
  refine tk (i := 6) (v := (.int .i64 (n : Int))) rfl (by kernel_rfl) (fun _ _ _ h => HP.out _ _ _ _ h) rfl ?_ hH ?_
  · intro V hS; go_simp
  simp only [Act.put, y1, y2, y3, y4, y5, y6, y7]
  generalize hV0 : W.drew = V0 at *
  clear hV0
  refine wpAnyH_ready (rs := [3, 7, 9]) (by kernel_rfl) (by simp) ?_
  refine AllReadyH.cons rfl (fun K hK => ?_) (AllReadyH.cons rfl (fun K hK => ?_) (AllReadyH.cons rfl (fun K hK => ?_) AllReadyH.nil))
  · clear hH
    have X1 : Hid _ := X0.out.a3
    have hz := M3.out V0
    go_simp
    clear hz
    refine hK.out _ _ (KS.out _ X1.out.bl) (fun hH => ?_)
    clear hK K X0
    generalize V0.heap.size = Bc at *
    generalize V0.alloc _ = V1 at *
    try simp only [Act.put, y1, y2, y3, y4, y5, y6, y7]
    refine wpAnyH_ready (rs := [7, 9]) (by kernel_rfl) (by simp) ?_
    refine AllReadyH.cons rfl (fun K hK => ?_) (AllReadyH.cons rfl (fun K hK => ?_) AllReadyH.nil)
    · clear hH
      have X2 : Hid _ := X1.out.a7
      have hz := M7.out V1
      go_simp
      clear hz
      refine hK.out _ _ (KS.out _ X2.out.bl) (fun hH => ?_)
      clear hK K X1
      generalize V1.heap.size = Ba at *
      generalize V1.alloc _ = V2 at *
      try simp only [Act.put, y1, y2, y3, y4, y5, y6, y7]
      refine tk (i := 8) (v := (.agg #[.slice (some ⟨Bc, 0, none⟩) n n, .slice (some ⟨Ba, 0, none⟩) n n])) rfl (by kernel_rfl) (fun _ _ _ h => HP.out _ _ _ _ h) rfl ?_ hH ?_
      · intro V hS; go_simp
      simp only [Act.put, y1, y2, y3, y4, y5, y6, y7]
      refine wpAnyH_ready (rs := [9]) (by kernel_rfl) (by simp) ?_
      refine AllReadyH.cons rfl (fun K hK => ?_) AllReadyH.nil
      · clear hH
        have X3 : Hid _ := X2.out.a9
        go_simp
        refine hK.out _ _ (KS.out _ X3.out.bl) (fun hH => ?_)
        clear hK K X2
        generalize V2.heap.size = Bp at *
        generalize V2.alloc _ = V3 at *
        try simp only [Act.put, y1, y2, y3, y4, y5, y6, y7]
        refine wpAnyH_ready (rs := [10]) (by kernel_rfl) (by simp) ?_
        refine AllReadyH.cons rfl (fun K hK => ?_) AllReadyH.nil
        clear hH
        have X4 : Hid _ := X3.out.s10 (.slice (some ⟨Bc, 0, none⟩) n n) (.slice (some ⟨Ba, 0, none⟩) n n)
        have q0 := (X3.out.h9 Bp rfl).1.cell 0 (by simp)
        have q1 := (X3.out.h9 Bp rfl).1.cell 1 (by simp)
        have f0 := (X3.out.h9 Bp rfl).1.frozen
        go_simp
        try go_wp2_with fail
        refine hK.out _ _ (KS.out _ X4.out.bl) (fun hH => ?_)
        clear hK K
        try simp only [Act.put, y1, y2, y3, y4, y5, y6, y7]
        refine wpAnyH_done (by kernel_rfl) ?_ _
        exact HQ.out _ _ _ _ X4.out
    · clear hH
      have X2 : Hid _ := X1.out.a9
      go_simp
      refine hK.out _ _ (KS.out _ X2.out.bl) (fun hH => ?_)
      clear hK K X1
      generalize V1.heap.size = Bp at *
      generalize V1.alloc _ = V2 at *
      try simp only [Act.put, y1, y2, y3, y4, y5, y6, y7]
      refine wpAnyH_ready (rs := [7]) (by kernel_rfl) (by simp) ?_
      refine AllReadyH.cons rfl (fun K hK => ?_) AllReadyH.nil
      · clear hH
        have X3 : Hid _ := X2.out.a7
        have hz := M7.out V2
        go_simp
        clear hz
        refine hK.out _ _ (KS.out _ X3.out.bl) (fun hH => ?_)
        clear hK K X2
        generalize V2.heap.size = Ba at *
        generalize V2.alloc _ = V3 at *
        try simp only [Act.put, y1, y2, y3, y4, y5, y6, y7]
        refine tk (i := 8) (v := (.agg #[.slice (some ⟨Bc, 0, none⟩) n n, .slice (some ⟨Ba, 0, none⟩) n n])) rfl (by kernel_rfl) (fun _ _ _ h => HP.out _ _ _ _ h) rfl ?_ hH ?_
        · intro V hS; go_simp
        simp only [Act.put, y1, y2, y3, y4, y5, y6, y7]
        refine wpAnyH_ready (rs := [10]) (by kernel_rfl) (by simp) ?_
        refine AllReadyH.cons rfl (fun K hK => ?_) AllReadyH.nil
        clear hH
        have X4 : Hid _ := X3.out.s10 (.slice (some ⟨Bc, 0, none⟩) n n) (.slice (some ⟨Ba, 0, none⟩) n n)
        have q0 := (X3.out.h9 Bp rfl).1.cell 0 (by simp)
        have q1 := (X3.out.h9 Bp rfl).1.cell 1 (by simp)
        have f0 := (X3.out.h9 Bp rfl).1.frozen
        go_simp
        try go_wp2_with fail
        refine hK.out _ _ (KS.out _ X4.out.bl) (fun hH => ?_)
        clear hK K
        try simp only [Act.put, y1, y2, y3, y4, y5, y6, y7]
        refine wpAnyH_done (by kernel_rfl) ?_ _
        exact HQ.out _ _ _ _ X4.out
  · clear hH
    have X1 : Hid _ := X0.out.a7
    have hz := M7.out V0
    go_simp
    clear hz
    refine hK.out _ _ (KS.out _ X1.out.bl) (fun hH => ?_)
    clear hK K X0
    generalize V0.heap.size = Ba at *
    generalize V0.alloc _ = V1 at *
    try simp only [Act.put, y1, y2, y3, y4, y5, y6, y7]
    refine wpAnyH_ready (rs := [3, 9]) (by kernel_rfl) (by simp) ?_
    refine AllReadyH.cons rfl (fun K hK => ?_) (AllReadyH.cons rfl (fun K hK => ?_) AllReadyH.nil)
    · clear hH
      have X2 : Hid _ := X1.out.a3
      have hz := M3.out V1
      go_simp
      clear hz
      refine hK.out _ _ (KS.out _ X2.out.bl) (fun hH => ?_)
      clear hK K X1
      generalize V1.heap.size = Bc at *
      generalize V1.alloc _ = V2 at *
      try simp only [Act.put, y1, y2, y3, y4, y5, y6, y7]
      refine tk (i := 8) (v := (.agg #[.slice (some ⟨Bc, 0, none⟩) n n, .slice (some ⟨Ba, 0, none⟩) n n])) rfl (by kernel_rfl) (fun _ _ _ h => HP.out _ _ _ _ h) rfl ?_ hH ?_
      · intro V hS; go_simp
      simp only [Act.put, y1, y2, y3, y4, y5, y6, y7]
      refine wpAnyH_ready (rs := [9]) (by kernel_rfl) (by simp) ?_
      refine AllReadyH.cons rfl (fun K hK => ?_) AllReadyH.nil
      · clear hH
        have X3 : Hid _ := X2.out.a9
        go_simp
        refine hK.out _ _ (KS.out _ X3.out.bl) (fun hH => ?_)
        clear hK K X2
        generalize V2.heap.size = Bp at *
        generalize V2.alloc _ = V3 at *
        try simp only [Act.put, y1, y2, y3, y4, y5, y6, y7]
        refine wpAnyH_ready (rs := [10]) (by kernel_rfl) (by simp) ?_
        refine AllReadyH.cons rfl (fun K hK => ?_) AllReadyH.nil
        clear hH
        have X4 : Hid _ := X3.out.s10 (.slice (some ⟨Bc, 0, none⟩) n n) (.slice (some ⟨Ba, 0, none⟩) n n)
        have q0 := (X3.out.h9 Bp rfl).1.cell 0 (by simp)
        have q1 := (X3.out.h9 Bp rfl).1.cell 1 (by simp)
        have f0 := (X3.out.h9 Bp rfl).1.frozen
        go_simp
        try go_wp2_with fail
        refine hK.out _ _ (KS.out _ X4.out.bl) (fun hH => ?_)
        clear hK K
        try simp only [Act.put, y1, y2, y3, y4, y5, y6, y7]
        refine wpAnyH_done (by kernel_rfl) ?_ _
        exact HQ.out _ _ _ _ X4.out
    · clear hH
      have X2 : Hid _ := X1.out.a9
      go_simp
      refine hK.out _ _ (KS.out _ X2.out.bl) (fun hH => ?_)
      clear hK K X1
      generalize V1.heap.size = Bp at *
      generalize V1.alloc _ = V2 at *
      try simp only [Act.put, y1, y2, y3, y4, y5, y6, y7]
      refine wpAnyH_ready (rs := [3]) (by kernel_rfl) (by simp) ?_
      refine AllReadyH.cons rfl (fun K hK => ?_) AllReadyH.nil
      · clear hH
        have X3 : Hid _ := X2.out.a3
        have hz := M3.out V2
        go_simp
        clear hz
        refine hK.out _ _ (KS.out _ X3.out.bl) (fun hH => ?_)
        clear hK K X2
        generalize V2.heap.size = Bc at *
        generalize V2.alloc _ = V3 at *
        try simp only [Act.put, y1, y2, y3, y4, y5, y6, y7]
        refine tk (i := 8) (v := (.agg #[.slice (some ⟨Bc, 0, none⟩) n n, .slice (some ⟨Ba, 0, none⟩) n n])) rfl (by kernel_rfl) (fun _ _ _ h => HP.out _ _ _ _ h) rfl ?_ hH ?_
        · intro V hS; go_simp
        simp only [Act.put, y1, y2, y3, y4, y5, y6, y7]
        refine wpAnyH_ready (rs := [10]) (by kernel_rfl) (by simp) ?_
        refine AllReadyH.cons rfl (fun K hK => ?_) AllReadyH.nil
        clear hH
        have X4 : Hid _ := X3.out.s10 (.slice (some ⟨Bc, 0, none⟩) n n) (.slice (some ⟨Ba, 0, none⟩) n n)
        have q0 := (X3.out.h9 Bp rfl).1.cell 0 (by simp)
        have q1 := (X3.out.h9 Bp rfl).1.cell 1 (by simp)
        have f0 := (X3.out.h9 Bp rfl).1.frozen
        go_simp
        try go_wp2_with fail
        refine hK.out _ _ (KS.out _ X4.out.bl) (fun hH => ?_)
        clear hK K
        try simp only [Act.put, y1, y2, y3, y4, y5, y6, y7]
        refine wpAnyH_done (by kernel_rfl) ?_ _
        exact HQ.out _ _ _ _ X4.out
  · clear hH
    have X1 : Hid _ := X0.out.a9
    go_simp
    refine hK.out _ _ (KS.out _ X1.out.bl) (fun hH => ?_)
    clear hK K X0
    generalize V0.heap.size = Bp at *
    generalize V0.alloc _ = V1 at *
    try simp only [Act.put, y1, y2, y3, y4, y5, y6, y7]
    refine wpAnyH_ready (rs := [3, 7]) (by kernel_rfl) (by simp) ?_
    refine AllReadyH.cons rfl (fun K hK => ?_) (AllReadyH.cons rfl (fun K hK => ?_) AllReadyH.nil)
    · clear hH
      have X2 : Hid _ := X1.out.a3
      have hz := M3.out V1
      go_simp
      clear hz
      refine hK.out _ _ (KS.out _ X2.out.bl) (fun hH => ?_)
      clear hK K X1
      generalize V1.heap.size = Bc at *
      generalize V1.alloc _ = V2 at *
      try simp only [Act.put, y1, y2, y3, y4, y5, y6, y7]
      refine wpAnyH_ready (rs := [7]) (by kernel_rfl) (by simp) ?_
      refine AllReadyH.cons rfl (fun K hK => ?_) AllReadyH.nil
      · clear hH
        have X3 : Hid _ := X2.out.a7
        have hz := M7.out V2
        go_simp
        clear hz
        refine hK.out _ _ (KS.out _ X3.out.bl) (fun hH => ?_)
        clear hK K X2
        generalize V2.heap.size = Ba at *
        generalize V2.alloc _ = V3 at *
        try simp only [Act.put, y1, y2, y3, y4, y5, y6, y7]
        refine tk (i := 8) (v := (.agg #[.slice (some ⟨Bc, 0, none⟩) n n, .slice (some ⟨Ba, 0, none⟩) n n])) rfl (by kernel_rfl) (fun _ _ _ h => HP.out _ _ _ _ h) rfl ?_ hH ?_
        · intro V hS; go_simp
        simp only [Act.put, y1, y2, y3, y4, y5, y6, y7]
        refine wpAnyH_ready (rs := [10]) (by kernel_rfl) (by simp) ?_
        refine AllReadyH.cons rfl (fun K hK => ?_) AllReadyH.nil
        clear hH
        have X4 : Hid _ := X3.out.s10 (.slice (some ⟨Bc, 0, none⟩) n n) (.slice (some ⟨Ba, 0, none⟩) n n)
        have q0 := (X3.out.h9 Bp rfl).1.cell 0 (by simp)
        have q1 := (X3.out.h9 Bp rfl).1.cell 1 (by simp)
        have f0 := (X3.out.h9 Bp rfl).1.frozen
        go_simp
        try go_wp2_with fail
        refine hK.out _ _ (KS.out _ X4.out.bl) (fun hH => ?_)
        clear hK K
        try simp only [Act.put, y1, y2, y3, y4, y5, y6, y7]
        refine wpAnyH_done (by kernel_rfl) ?_ _
        exact HQ.out _ _ _ _ X4.out
    · clear hH
      have X2 : Hid _ := X1.out.a7
      have hz := M7.out V1
      go_simp
      clear hz
      refine hK.out _ _ (KS.out _ X2.out.bl) (fun hH => ?_)
      clear hK K X1
      generalize V1.heap.size = Ba at *
      generalize V1.alloc _ = V2 at *
      try simp only [Act.put, y1, y2, y3, y4, y5, y6, y7]
      refine wpAnyH_ready (rs := [3]) (by kernel_rfl) (by simp) ?_
      refine AllReadyH.cons rfl (fun K hK => ?_) AllReadyH.nil
      · clear hH
        have X3 : Hid _ := X2.out.a3
        have hz := M3.out V2
        go_simp
        clear hz
        refine hK.out _ _ (KS.out _ X3.out.bl) (fun hH => ?_)
        clear hK K X2
        generalize V2.heap.size = Bc at *
        generalize V2.alloc _ = V3 at *
        try simp only [Act.put, y1, y2, y3, y4, y5, y6, y7]
        refine tk (i := 8) (v := (.agg #[.slice (some ⟨Bc, 0, none⟩) n n, .slice (some ⟨Ba, 0, none⟩) n n])) rfl (by kernel_rfl) (fun _ _ _ h => HP.out _ _ _ _ h) rfl ?_ hH ?_
        · intro V hS; go_simp
        simp only [Act.put, y1, y2, y3, y4, y5, y6, y7]
        refine wpAnyH_ready (rs := [10]) (by kernel_rfl) (by simp) ?_
        refine AllReadyH.cons rfl (fun K hK => ?_) AllReadyH.nil
        clear hH
        have X4 : Hid _ := X3.out.s10 (.slice (some ⟨Bc, 0, none⟩) n n) (.slice (some ⟨Ba, 0, none⟩) n n)
        have q0 := (X3.out.h9 Bp rfl).1.cell 0 (by simp)
        have q1 := (X3.out.h9 Bp rfl).1.cell 1 (by simp)
        have f0 := (X3.out.h9 Bp rfl).1.frozen
        go_simp
        try go_wp2_with fail
        refine hK.out _ _ (KS.out _ X4.out.bl) (fun hH => ?_)
        clear hK K
        try simp only [Act.put, y1, y2, y3, y4, y5, y6, y7]
        refine wpAnyH_done (by kernel_rfl) ?_ _
        exact HQ.out _ _ _ _ X4.out
end Go.Proofs.YtmpiipcllgjhdaaGreatDoor
namespace Go.Proofs.YtmpiipcllgjhdaaGreatDoor
open Go.RowKit Go.Deep Go.PlainAid

theorem TW.other {n : Nat} {w0 w w' : World} {tb fb : Nat} {s s' : ByteArray} (h : TW n w0 w fb s) (h' : TW n w0 w' tb s') (hb : F.But tb w w') (ne : fb ≠ tb) : TW n w0 w' fb s :=
  ⟨⟨h.at_.t.of_but hb ne, h'.at_.T, h'.at_.S⟩, h'.bl, h.le, h.sz⟩
theorem TW.setCell {n : Nat} {w0 w : World} {tb rb : Nat} {s : ByteArray} (h : TW n w0 w tb s) (hne : tb ≠ rb) (h3 : 3 < n) (hr : n ≤ rb) (i : Nat) (x : Value) : TW n w0 (w.setCell ⟨rb, i, none⟩ x) tb s :=
  ⟨h.at_.set hne (by omega) i x, h.bl.setCell (p := ⟨rb, i, none⟩) hr x, h.le, h.sz⟩
/-- What holds ahead of a round: two talks, i challenges, j rows of answers. -/
structure PS (U : World) (n tb fb bc ba bp : Nat) (chs : List ByteArray) (Q : List (List ByteArray)) (i j : Nat) (st fs : ByteArray) (V : List Value) (w : World) : Prop where
  t : TW U.heap.size U w tb st
  f : TW U.heap.size U w fb fs
  c : IHolds w bc 9 (half chs n i)
  p : IHolds w bp 41 [.slice (some ⟨bc, 0, none⟩) n n, .slice (some ⟨ba, 0, none⟩) n n]
  a : IHolds w ba 22 V
  al : V.length = n
  r : ∀ k (h : k < Q.length), k < j → ∃ b, bc < b ∧ V[k]? = some (.slice (some ⟨b, 0, none⟩) (Q[k]).length (Q[k]).length) ∧ IHolds w b 9 ((Q[k]).map Value.string)
/-- Where they lie. -/
structure PO (U : World) (tb fb bc ba bp : Nat) : Prop where
  u : 3 < U.heap.size
  ut : U.heap.size ≤ tb
  tf : tb < fb
  c : fb < bc
  a : fb < ba
  p : fb < bp
section
variable {U : World} {n tb fb bc ba bp : Nat} {chs : List ByteArray} {Q : List (List ByteArray)} {i j : Nat} {st fs : ByteArray} {V : List Value} {w w' : World}
theorem PS.below (h : PS U n tb fb bc ba bp chs Q i j st fs V w) (hb : Below w.heap.size w w') : PS U n tb fb bc ba bp chs Q i j st fs V w' :=
  ⟨h.t.below hb, h.f.below hb, h.c.of_below hb, h.p.of_below hb, h.a.of_below hb, h.al, fun k hk hj => by
    obtain ⟨b, h1, h2, h3⟩ := h.r k hk hj
    exact ⟨b, h1, h2, h3.of_below hb⟩⟩
theorem PS.talk (h : PS U n tb fb bc ba bp chs Q i j st fs V w) (o : PO U tb fb bc ba bp) {s : ByteArray} (ht : TW U.heap.size U w' tb s) (hb : F.But tb w w') : PS U n tb fb bc ba bp chs Q i j s fs V w' := by
  have := o.tf; have := o.c; have := o.a; have := o.p
  exact ⟨ht, h.f.other ht hb (by omega), h.c.offB hb (by omega), h.p.offB hb (by omega), h.a.offB hb (by omega), h.al, fun k hk hj => by
    obtain ⟨b, h1, h2, h3⟩ := h.r k hk hj
    exact ⟨b, h1, h2, h3.offB hb (by omega)⟩⟩
theorem PS.from (h : PS U n tb fb bc ba bp chs Q i j st fs V w) (o : PO U tb fb bc ba bp) {s : ByteArray} (ht : TW U.heap.size U w' fb s) (hb : F.But fb w w') : PS U n tb fb bc ba bp chs Q i j st s V w' := by
  have := o.tf; have := o.c; have := o.a; have := o.p
  exact ⟨h.t.other ht hb (by omega), ht, h.c.offB hb (by omega), h.p.offB hb (by omega), h.a.offB hb (by omega), h.al, fun k hk hj => by
    obtain ⟨b, h1, h2, h3⟩ := h.r k hk hj
    exact ⟨b, h1, h2, h3.offB hb (by omega)⟩⟩
theorem PS.setc (h : PS U n tb fb bc ba bp chs Q i j st fs V w) (o : PO U tb fb bc ba bp) (hq : chs.length = n) (hi : i < n) (hi' : i < chs.length) : PS U n tb fb bc ba bp chs Q (i + 1) j st fs V (w.setCell ⟨bc, i, none⟩ (.string chs[i])) := by
  have := o.tf; have := o.c; have := o.a; have := o.p; have := o.u; have := o.ut
  exact ⟨h.t.setCell (by omega) (by omega) (by omega) _ _, h.f.setCell (by omega) (by omega) (by omega) _ _, by rw [← half_set hq hi hi']; exact h.c.set _ _, h.p.store (ne_ty h.p h.c (by decide)) _ _, h.a.store (ne_ty h.a h.c (by decide)) _ _, h.al, fun k hk hj => by
    obtain ⟨b, h1, h2, h3⟩ := h.r k hk hj
    exact ⟨b, h1, h2, h3.store (by omega) _ _⟩⟩
theorem PS.seta (h : PS U n tb fb bc ba bp chs Q i j st fs V w) (o : PO U tb fb bc ba bp) (hj : j < n) (hj' : j < Q.length) {b : Nat} (hb : bc < b) (hr : IHolds w b 9 ((Q[j]).map Value.string)) : PS U n tb fb bc ba bp chs Q i (j + 1) st fs (V.set j (.slice (some ⟨b, 0, none⟩) (Q[j]).length (Q[j]).length)) (w.setCell ⟨ba, j, none⟩ (.slice (some ⟨b, 0, none⟩) (Q[j]).length (Q[j]).length)) := by
  have := o.tf; have := o.c; have := o.a; have := o.p; have := o.u; have := o.ut
  refine ⟨h.t.setCell (by omega) (by omega) (by omega) _ _, h.f.setCell (by omega) (by omega) (by omega) _ _, h.c.store (ne_ty h.c h.a (by decide)) _ _, h.p.store (ne_ty h.p h.a (by decide)) _ _, h.a.set _ _, by simp [h.al], fun k hk hj2 => ?_⟩
  by_cases e : k = j
  · subst e
    exact ⟨b, hb, by rw [List.getElem?_set]; simp [h.al, hj], hr.store (ne_ty hr h.a (by decide)) _ _⟩
  · obtain ⟨b', h1, h2, h3⟩ := h.r k hk (by omega)
    exact ⟨b', h1, by rw [List.getElem?_set]; simp [show ¬ j = k by omega, h2], h3.store (ne_ty h3 h.a (by decide)) _ _⟩
end
end Go.Proofs.YtmpiipcllgjhdaaGreatDoor
