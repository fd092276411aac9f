/- Who goes second: the two regions that draw their order, in a round. -/
import Derived.Test.YtelfcapjegncfaaSd
set_option linter.unusedSimpArgs false
set_option linter.unusedVariables false
set_option maxRecDepth 100000
namespace Go.Proofs.Ytelfcapjegncfaa
open Go.RowKit Go.Shelf Go.PlainAid

attribute [local go_sem] Oper.semAt_some

theorem bits_fl' : ∀ x : Fin 257, bits BinOp.xor IntKind.i64 (x.1 : Int) 1 = (fl x.1 : Int) := by decide +kernel
theorem bits_fl {x : Nat} (h : x ≤ 256) : bits BinOp.xor IntKind.i64 (x : Int) 1 = (fl x : Int) := bits_fl' ⟨x, by omega⟩

def rg11 : Code := Go.Code.region 11 #[{ dst := some 41, op := Go.Op.load 22 (Go.Operand.tmp 6), type := 22, pos := "route.go:54", after := #[], guard := none }, { dst := some 42, op := Go.Op.move (Go.Operand.tmp 9), type := 3, pos := "route.go:54", after := #[], guard := none }, { dst := some 43, op := Go.Op.load 22 (Go.Operand.tmp 7), type := 22, pos := "route.go:54", after := #[{ on := 5, ground := Go.Ground.gcOnly Go.Departure.lateStores }], guard := none }, { dst := some 44, op := Go.Op.move (Go.Operand.tmp 9), type := 3, pos := "route.go:54", after := #[{ on := 5, ground := Go.Ground.gcOnly Go.Departure.lateStores }], guard := none }, { dst := some 45, op := Go.Op.indexAddr 22 (Go.Operand.tmp 41) (Go.Operand.tmp 42), type := 0, pos := "route.go:54", after := #[{ on := 0, ground := Go.Ground.data }, { on := 1, ground := Go.Ground.data }, { on := 0, ground := Go.Ground.phase }, { on := 1, ground := Go.Ground.phase }, { on := 2, ground := Go.Ground.textOnly Go.Departure.lateStores }, { on := 3, ground := Go.Ground.textOnly Go.Departure.lateStores }], guard := none }, { dst := none, op := Go.Op.store 4 (Go.Operand.tmp 45) (Go.Operand.const (Go.Value.bool true)), type := 0, pos := "route.go:54", after := #[{ on := 4, ground := Go.Ground.data }, { on := 0, ground := Go.Ground.phase }, { on := 1, ground := Go.Ground.phase }, { on := 2, ground := Go.Ground.textOnly Go.Departure.lateStores }, { on := 3, ground := Go.Ground.textOnly Go.Departure.lateStores }], guard := none }, { dst := some 46, op := Go.Op.indexAddr 22 (Go.Operand.tmp 43) (Go.Operand.tmp 44), type := 0, pos := "route.go:54", after := #[{ on := 2, ground := Go.Ground.data }, { on := 3, ground := Go.Ground.data }, { on := 0, ground := Go.Ground.phase }, { on := 1, ground := Go.Ground.phase }, { on := 2, ground := Go.Ground.phase }, { on := 3, ground := Go.Ground.phase }, { on := 4, ground := Go.Ground.phase }, { on := 5, ground := Go.Ground.phase }], guard := none }, { dst := none, op := Go.Op.store 4 (Go.Operand.tmp 46) (Go.Operand.const (Go.Value.bool true)), type := 0, pos := "route.go:54", after := #[{ on := 6, ground := Go.Ground.data }, { on := 5, ground := Go.Ground.chain }, { on := 0, ground := Go.Ground.phase }, { on := 1, ground := Go.Ground.phase }, { on := 2, ground := Go.Ground.phase }, { on := 3, ground := Go.Ground.phase }, { on := 4, ground := Go.Ground.phase }, { on := 5, ground := Go.Ground.phase }], guard := none }] true
def rg15 : Code := Go.Code.region 15 #[{ dst := some 56, op := Go.Op.load 29 (Go.Operand.tmp 1), type := 29, pos := "route.go:60", after := #[], guard := none }, { dst := some 57, op := Go.Op.load 29 (Go.Operand.tmp 3), type := 29, pos := "route.go:60", after := #[], guard := none }, { dst := some 58, op := Go.Op.move (Go.Operand.tmp 10), type := 3, pos := "route.go:60", after := #[], guard := none }, { dst := some 59, op := Go.Op.indexAddr 29 (Go.Operand.tmp 57) (Go.Operand.tmp 58), type := 0, pos := "route.go:60", after := #[{ on := 1, ground := Go.Ground.data }, { on := 2, ground := Go.Ground.data }], guard := none }, { dst := some 60, op := Go.Op.load 3 (Go.Operand.tmp 59), type := 3, pos := "route.go:60", after := #[{ on := 3, ground := Go.Ground.data }], guard := none }, { dst := some 61, op := Go.Op.binOp Go.BinOp.xor 3 (Go.Operand.tmp 60) (Go.Operand.const (Go.Value.int Go.IntKind.i64 1)) 3, type := 3, pos := "route.go:60", after := #[{ on := 4, ground := Go.Ground.data }], guard := none }, { dst := some 62, op := Go.Op.indexAddr 29 (Go.Operand.tmp 56) (Go.Operand.tmp 61), type := 0, pos := "route.go:60", after := #[{ on := 0, ground := Go.Ground.data }, { on := 5, ground := Go.Ground.data }], guard := none }, { dst := some 63, op := Go.Op.load 3 (Go.Operand.tmp 62), type := 3, pos := "route.go:60", after := #[{ on := 6, ground := Go.Ground.data }], guard := none }, { dst := some 9, op := Go.Op.assign (Go.Operand.tmp 63), type := 3, pos := "route.go:60", after := #[{ on := 7, ground := Go.Ground.data }, { on := 0, ground := Go.Ground.phase }, { on := 1, ground := Go.Ground.phase }, { on := 2, ground := Go.Ground.phase }, { on := 3, ground := Go.Ground.phase }, { on := 4, ground := Go.Ground.phase }, { on := 5, ground := Go.Ground.phase }, { on := 6, ground := Go.Ground.phase }, { on := 7, ground := Go.Ground.phase }], guard := none }] true
set_option maxHeartbeats 2000000 in
theorem rg11_in {l n : Nat} {w V : World} {L : List Nat} {a : Option Addr} {c B1 B3 B2 B6 B7 Bs Bp B8 : Nat} {p s : Nat → Bool} {r : Nat} (hr : r < L.length) (X : SS w V L a c B1 B3 B2 B6 B7 Bs Bp B8 p s) {df : List Deferred} (s0 s2 s4 s5 s8 s10 s11 s12 s13 s14 s15 s16 s17 s18 s19 s20 s21 s22 s23 s24 s25 s26 s27 s28 s29 s30 s31 s32 s33 s34 s35 s36 s37 s38 s39 s40 s41 s42 s43 s44 s45 s46 s47 s48 s49 s50 s51 s52 s53 s54 s55 s56 s57 s58 s59 s60 s61 s62 s63 s64 : Value) {R : Act → World → Prop}
    (h : ∀ V', SS w V' L a c B1 B3 B2 B6 B7 Bs Bp B8 (upd p r) (upd s r) → KeepsFrom 0 V V' → R { tmps := #[s0, .pointer (some ⟨B1, 0, none⟩), s2, .pointer (some ⟨B3, 0, none⟩), s4, s5, .pointer (some ⟨B6, 0, none⟩), .pointer (some ⟨B7, 0, none⟩), s8, (.int .i64 (r : Int)), s10, s11, s12, s13, s14, s15, s16, s17, s18, s19, s20, s21, s22, s23, s24, s25, s26, s27, s28, s29, s30, s31, s32, s33, s34, s35, s36, s37, s38, s39, s40, (.slice (some ⟨Bs, 0, none⟩) L.length L.length), (.int .i64 (r : Int)), (.slice (some ⟨Bp, 0, none⟩) L.length L.length), (.int .i64 (r : Int)), (.pointer (some ⟨Bs, r, none⟩)), (.pointer (some ⟨Bp, r, none⟩)), s47, s48, s49, s50, s51, s52, s53, s54, s55, s56, s57, s58, s59, s60, s61, s62, s63, s64], defers := df } V') :
    rg11.wpIn (Fence.wide.inRound l) n Try.prog (fun e aa ww => match e with | .normal => R aa ww | _ => False) { tmps := #[s0, .pointer (some ⟨B1, 0, none⟩), s2, .pointer (some ⟨B3, 0, none⟩), s4, s5, .pointer (some ⟨B6, 0, none⟩), .pointer (some ⟨B7, 0, none⟩), s8, (.int .i64 (r : Int)), s10, s11, s12, s13, s14, s15, s16, s17, s18, s19, s20, s21, s22, s23, s24, s25, s26, s27, s28, s29, s30, s31, s32, s33, s34, s35, s36, s37, s38, s39, s40, s41, s42, s43, s44, s45, s46, s47, s48, s49, s50, s51, s52, s53, s54, s55, s56, s57, s58, s59, s60, s61, s62, s63, s64], defers := df } V := by
  have HR : Hid (∀ V', SS w V' L a c B1 B3 B2 B6 B7 Bs Bp B8 (upd p r) (upd s r) → KeepsFrom 0 V V' → R { tmps := #[s0, .pointer (some ⟨B1, 0, none⟩), s2, .pointer (some ⟨B3, 0, none⟩), s4, s5, .pointer (some ⟨B6, 0, none⟩), .pointer (some ⟨B7, 0, none⟩), s8, (.int .i64 (r : Int)), s10, s11, s12, s13, s14, s15, s16, s17, s18, s19, s20, s21, s22, s23, s24, s25, s26, s27, s28, s29, s30, s31, s32, s33, s34, s35, s36, s37, s38, s39, s40, (.slice (some ⟨Bs, 0, none⟩) L.length L.length), (.int .i64 (r : Int)), (.slice (some ⟨Bp, 0, none⟩) L.length L.length), (.int .i64 (r : Int)), (.pointer (some ⟨Bs, r, none⟩)), (.pointer (some ⟨Bp, r, none⟩)), s47, s48, s49, s50, s51, s52, s53, s54, s55, s56, s57, s58, s59, s60, s61, s62, s63, s64], defers := df } V') := h
  have X0 : Hid (SS w V.drew L a c B1 B3 B2 B6 B7 Bs Bp B8 p s) := X.drew
  have X1 : Hid (SS w (V.drew.setCell ⟨Bs, r, none⟩ (.bool true)) L a c B1 B3 B2 B6 B7 Bs Bp B8 p (upd s r)) := X.drew.setS r
  have X2 : Hid (SS w ((V.drew.setCell ⟨Bs, r, none⟩ (.bool true)).setCell ⟨Bp, r, none⟩ (.bool true)) L a c B1 B3 B2 B6 B7 Bs Bp B8 (upd p r) (upd s r)) := (X.drew.setS r).setP r
  have KF : Hid (KeepsFrom 0 V ((V.drew.setCell ⟨Bs, r, none⟩ (.bool true)).setCell ⟨Bp, r, none⟩ (.bool true))) := (((KeepsOthers.drew V).trans (KeepsOthers.setCell _ _ _)).trans (KeepsOthers.setCell _ _ _)).from _
  have hrl : (r : Int) < (L.length : Int) := by omega
  have c1 := X.drew.xs.cell r (by rw [tf_len]; exact hr)
  have f1 := X.drew.xs.frozen r
  have c2 := (X.drew.setS r).xp.cell r (by rw [tf_len]; exact hr)
  have f2 := (X.drew.setS r).xp.frozen r
  have KS : Hid (∀ U q q', SS w U L a c B1 B3 B2 B6 B7 Bs Bp B8 q q' → U.cell? ⟨B6, 0, none⟩ = some (.slice (some ⟨Bs, 0, none⟩) L.length L.length) ∧ U.cell? ⟨B7, 0, none⟩ = some (.slice (some ⟨Bp, 0, none⟩) L.length L.length)) := fun U q q' hU => ⟨hU.x6.cell 0 (by simp), hU.x7.cell 0 (by simp)⟩
  clear h X
  unfold rg11
  refine round_held (S := fun U => U.cell? ⟨B6, 0, none⟩ = some (.slice (some ⟨Bs, 0, none⟩) L.length L.length) ∧ U.cell? ⟨B7, 0, none⟩ = some (.slice (some ⟨Bp, 0, none⟩) L.length L.length)) (by kernel_rfl) (by kernel_rfl) (fun h => by obtain ⟨a, w, h⟩ := h; exact h) (KS.out _ _ _ X0.out) (fun hH => ?_)
  generalize V.drew = V0 at *
  refine tk (i := 0) (v := (.slice (some ⟨Bs, 0, none⟩) L.length L.length)) rfl (by kernel_rfl) (fun _ _ _ h => h) rfl ?_ hH ?_
  · intro V hS; obtain ⟨q0, q1⟩ := hS; go_simp
  simp only [Act.put, y1, y2, y3, y4, y5, y6, y7]
  refine tk (i := 1) (v := (.int .i64 (r : Int))) rfl (by kernel_rfl) (fun _ _ _ h => h) rfl ?_ hH ?_
  · intro V hS; obtain ⟨q0, q1⟩ := hS; go_simp
  simp only [Act.put, y1, y2, y3, y4, y5, y6, y7]
  refine tk (i := 2) (v := (.slice (some ⟨Bp, 0, none⟩) L.length L.length)) rfl (by kernel_rfl) (fun _ _ _ h => h) rfl ?_ hH ?_
  · intro V hS; obtain ⟨q0, q1⟩ := hS; go_simp
  simp only [Act.put, y1, y2, y3, y4, y5, y6, y7]
  refine tk (i := 3) (v := (.int .i64 (r : Int))) rfl (by kernel_rfl) (fun _ _ _ h => h) rfl ?_ hH ?_
  · intro V hS; obtain ⟨q0, q1⟩ := hS; go_simp
  simp only [Act.put, y1, y2, y3, y4, y5, y6, y7]
  refine tk (i := 4) (v := .pointer (some ⟨Bs, r, none⟩)) rfl (by kernel_rfl) (fun _ _ _ h => h) rfl ?_ hH ?_
  · intro V hS; obtain ⟨q0, q1⟩ := hS; go_simp
  simp only [Act.put, y1, y2, y3, y4, y5, y6, y7]
  refine wpAnyH_ready (rs := [5]) (by kernel_rfl) (by simp) ?_
  refine AllReadyH.cons rfl (fun K hK => ?_) AllReadyH.nil
  clear hH
  go_simp
  refine hK.out _ _ (KS.out _ _ _ X1.out) (fun hH => ?_)
  clear hK K
  try simp only [Act.put, y1, y2, y3, y4, y5, y6, y7]
  refine tk (i := 6) (v := .pointer (some ⟨Bp, r, none⟩)) rfl (by kernel_rfl) (fun _ _ _ h => h) rfl ?_ hH ?_
  · intro V hS; obtain ⟨q0, q1⟩ := hS; go_simp
  simp only [Act.put, y1, y2, y3, y4, y5, y6, y7]
  refine wpAnyH_ready (rs := [7]) (by kernel_rfl) (by simp) ?_
  refine AllReadyH.cons rfl (fun K hK => ?_) AllReadyH.nil
  clear hH
  go_simp
  refine hK.out _ _ (KS.out _ _ _ X2.out) (fun hH => ?_)
  clear hK K
  try simp only [Act.put, y1, y2, y3, y4, y5, y6, y7]
  refine wpAnyH_done (by kernel_rfl) ?_ _
  exact HR.out _ X2.out KF.out
set_option maxHeartbeats 2000000 in
theorem rg15_in {l n : Nat} {w V : World} {L : List Nat} {a : Option Addr} {c B1 B3 B2 B6 B7 Bs Bp B8 : Nat} {p s : Nat → Bool} {q : Nat} (hL : L.length ≤ 256) (hq : q < L.length) (hw : wo L q < L.length) (hf : fl (wo L q) < L.length) (X : SS w V L a c B1 B3 B2 B6 B7 Bs Bp B8 p s) {df : List Deferred} (s0 s2 s4 s5 s8 s9 s11 s12 s13 s14 s15 s16 s17 s18 s19 s20 s21 s22 s23 s24 s25 s26 s27 s28 s29 s30 s31 s32 s33 s34 s35 s36 s37 s38 s39 s40 s41 s42 s43 s44 s45 s46 s47 s48 s49 s50 s51 s52 s53 s54 s55 s56 s57 s58 s59 s60 s61 s62 s63 s64 : Value) {R : Act → World → Prop}
    (h : ∀ V' b oA, SS w V' L a c B1 B3 B2 B6 B7 Bs Bp B8 p s → KeepsFrom 0 V V' → R { tmps := #[s0, .pointer (some ⟨B1, 0, none⟩), s2, .pointer (some ⟨B3, 0, none⟩), s4, s5, .pointer (some ⟨B6, 0, none⟩), .pointer (some ⟨B7, 0, none⟩), s8, (.int .i64 (gg L q : Int)), (.int .i64 (q : Int)), s11, s12, s13, s14, s15, s16, s17, s18, s19, s20, s21, s22, s23, s24, s25, s26, s27, s28, s29, s30, s31, s32, s33, s34, s35, s36, s37, s38, s39, s40, s41, s42, s43, s44, s45, s46, s47, s48, s49, s50, s51, s52, s53, s54, s55, (.slice a L.length c), (.slice (some ⟨B2, 0, none⟩) L.length L.length), (.int .i64 (q : Int)), (.pointer (some ⟨B2, q, none⟩)), (.int .i64 (wo L q : Int)), (.int .i64 (fl (wo L q) : Int)), (.pointer (some ⟨b, oA + fl (wo L q), none⟩)), (.int .i64 (gg L q : Int)), s64], defers := df } V') :
    rg15.wpIn (Fence.wide.inRound l) n Try.prog (fun e aa ww => match e with | .normal => R aa ww | _ => False) { tmps := #[s0, .pointer (some ⟨B1, 0, none⟩), s2, .pointer (some ⟨B3, 0, none⟩), s4, s5, .pointer (some ⟨B6, 0, none⟩), .pointer (some ⟨B7, 0, none⟩), s8, s9, (.int .i64 (q : Int)), s11, s12, s13, s14, s15, s16, s17, s18, s19, s20, s21, s22, s23, s24, s25, s26, s27, s28, s29, s30, s31, s32, s33, s34, s35, s36, s37, s38, s39, s40, s41, s42, s43, s44, s45, s46, s47, s48, s49, s50, s51, s52, s53, s54, s55, s56, s57, s58, s59, s60, s61, s62, s63, s64], defers := df } V := by
  have HR : Hid (∀ V' b oA, SS w V' L a c B1 B3 B2 B6 B7 Bs Bp B8 p s → KeepsFrom 0 V V' → R { tmps := #[s0, .pointer (some ⟨B1, 0, none⟩), s2, .pointer (some ⟨B3, 0, none⟩), s4, s5, .pointer (some ⟨B6, 0, none⟩), .pointer (some ⟨B7, 0, none⟩), s8, (.int .i64 (gg L q : Int)), (.int .i64 (q : Int)), s11, s12, s13, s14, s15, s16, s17, s18, s19, s20, s21, s22, s23, s24, s25, s26, s27, s28, s29, s30, s31, s32, s33, s34, s35, s36, s37, s38, s39, s40, s41, s42, s43, s44, s45, s46, s47, s48, s49, s50, s51, s52, s53, s54, s55, (.slice a L.length c), (.slice (some ⟨B2, 0, none⟩) L.length L.length), (.int .i64 (q : Int)), (.pointer (some ⟨B2, q, none⟩)), (.int .i64 (wo L q : Int)), (.int .i64 (fl (wo L q) : Int)), (.pointer (some ⟨b, oA + fl (wo L q), none⟩)), (.int .i64 (gg L q : Int)), s64], defers := df } V') := h
  have X0 : Hid (SS w V.drew L a c B1 B3 B2 B6 B7 Bs Bp B8 p s) := X.drew
  have KF : Hid (KeepsFrom 0 V V.drew) := (KeepsOthers.drew V).from _
  have hql : (q : Int) < (L.length : Int) := by omega
  have hfl : (fl (wo L q) : Int) < (L.length : Int) := by omega
  have c1 := X.drew.x1.cell 0 (by simp)
  have c3 := X.drew.x3.cell 0 (by simp)
  have c2 : V.drew.cell? ⟨B2, q, none⟩ = some (.int .i64 (wo L q : Int)) := by
    have := X.drew.x2.cell q (by rw [ivs_len]; simp [hq])
    rw [this]
    simp [ivs]
  obtain ⟨b, oA, rfl, c4⟩ := X.drew.vl.int (fl (wo L q)) hf
  have e4 : gg L q = L[fl (wo L q)] := getD_at hf
  rw [← e4] at c4
  have hx : bits BinOp.xor IntKind.i64 (wo L q : Int) 1 = (fl (wo L q) : Int) := bits_fl (by omega)
  clear h X e4
  unfold rg15
  refine round_held (S := fun U => U = V.drew) (by kernel_rfl) (by kernel_rfl) (fun h => by obtain ⟨a, w, h⟩ := h; exact h) rfl (fun hH => ?_)
  generalize V.drew = V0 at *
  generalize gg L q = G at *
  generalize fl (wo L q) = F at *
  generalize wo L q = Wq at *

  refine tk (i := 0) (v := (.slice (some ⟨b, oA, none⟩) L.length c)) rfl (by kernel_rfl) (fun _ _ _ h => h) rfl ?_ hH ?_
  · intro U hS; subst hS; go_simp
  simp only [Act.put, y1, y2, y3, y4, y5, y6, y7]
  refine tk (i := 1) (v := (.slice (some ⟨B2, 0, none⟩) L.length L.length)) rfl (by kernel_rfl) (fun _ _ _ h => h) rfl ?_ hH ?_
  · intro U hS; subst hS; go_simp
  simp only [Act.put, y1, y2, y3, y4, y5, y6, y7]
  refine tk (i := 2) (v := (.int .i64 (q : Int))) rfl (by kernel_rfl) (fun _ _ _ h => h) rfl ?_ hH ?_
  · intro U hS; subst hS; go_simp
  simp only [Act.put, y1, y2, y3, y4, y5, y6, y7]
  refine tk (i := 3) (v := (.pointer (some ⟨B2, q, none⟩))) rfl (by kernel_rfl) (fun _ _ _ h => h) rfl ?_ hH ?_
  · intro U hS; subst hS; go_simp
  simp only [Act.put, y1, y2, y3, y4, y5, y6, y7]
  refine tk (i := 4) (v := (.int .i64 (Wq : Int))) rfl (by kernel_rfl) (fun _ _ _ h => h) rfl ?_ hH ?_
  · intro U hS; subst hS; go_simp
  simp only [Act.put, y1, y2, y3, y4, y5, y6, y7]
  refine tk (i := 5) (v := (.int .i64 (F : Int))) rfl (by kernel_rfl) (fun _ _ _ h => h) rfl ?_ hH ?_
  · intro U hS; subst hS; go_simp
  simp only [Act.put, y1, y2, y3, y4, y5, y6, y7]
  refine tk (i := 6) (v := (.pointer (some ⟨b, oA + F, none⟩))) rfl (by kernel_rfl) (fun _ _ _ h => h) rfl ?_ hH ?_
  · intro U hS; subst hS; go_simp
  simp only [Act.put, y1, y2, y3, y4, y5, y6, y7]
  refine tk (i := 7) (v := (.int .i64 (G : Int))) rfl (by kernel_rfl) (fun _ _ _ h => h) rfl ?_ hH ?_
  · intro U hS; subst hS; go_simp
  simp only [Act.put, y1, y2, y3, y4, y5, y6, y7]
  refine tk (i := 8) (v := (.int .i64 (G : Int))) rfl (by kernel_rfl) (fun _ _ _ h => h) rfl ?_ hH ?_
  · intro U hS; subst hS; go_simp
  simp only [Act.put, y1, y2, y3, y4, y5, y6, y7]
  refine wpAnyH_done (by kernel_rfl) ?_ _
  exact HR.out _ _ _ X0.out KF.out
end Go.Proofs.Ytelfcapjegncfaa
