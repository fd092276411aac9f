/- sameInts of one list twice. -/
import Derived.Test.YtflabehlaiocaaaDoorGd
set_option linter.unusedSimpArgs false
set_option linter.unusedVariables false
set_option maxRecDepth 100000
namespace Go.Proofs.YtflabehlaiocaaaDoor
open Go.RowKit Go.Deep Go.PlainAid

def rs6 : Code := Go.Code.region 6 #[{ dst := some 16, op := Go.Op.move (Go.Operand.tmp 0), type := 22, pos := "law.go:21", after := #[], guard := none }, { dst := some 17, op := Go.Op.move (Go.Operand.tmp 5), type := 3, pos := "law.go:21", after := #[], guard := none }, { dst := some 18, op := Go.Op.indexAddr 22 (Go.Operand.tmp 16) (Go.Operand.tmp 17), type := 0, pos := "law.go:21", after := #[{ on := 0, ground := Go.Ground.data }, { on := 1, ground := Go.Ground.data }], guard := none }, { dst := some 19, op := Go.Op.load 3 (Go.Operand.tmp 18), type := 3, pos := "law.go:21", after := #[{ on := 2, ground := Go.Ground.data }], guard := none }, { dst := some 20, op := Go.Op.move (Go.Operand.tmp 1), type := 22, pos := "law.go:21", after := #[], guard := none }, { dst := some 21, op := Go.Op.move (Go.Operand.tmp 5), type := 3, pos := "law.go:21", after := #[], guard := none }, { dst := some 22, op := Go.Op.indexAddr 22 (Go.Operand.tmp 20) (Go.Operand.tmp 21), type := 0, pos := "law.go:21", after := #[{ on := 4, ground := Go.Ground.data }, { on := 5, ground := Go.Ground.data }], guard := none }, { dst := some 23, op := Go.Op.load 3 (Go.Operand.tmp 22), type := 3, pos := "law.go:21", after := #[{ on := 6, ground := Go.Ground.data }], guard := none }, { dst := some 24, op := Go.Op.binOp Go.BinOp.neq 3 (Go.Operand.tmp 19) (Go.Operand.tmp 23) 3, type := 4, pos := "law.go:21", after := #[{ on := 3, ground := Go.Ground.data }, { on := 7, ground := Go.Ground.data }], guard := none }] true
set_option maxHeartbeats 8000000 in
theorem rs6_same {wr : World} {df : List Deferred} {ab ao bb bo n ac bc i : Nat} {x : Int} {Q : Exit → Act → World → Prop} {t2 t3 t4 t6 t7 t8 t9 t10 t11 t12 t13 t14 t15 t16 t17 t18 t19 t20 t21 t22 t23 t24 t25 : Value} (il : (i : Int) < (n : Int)) (p1 : wr.drew.cell? ⟨ab, ao + i, none⟩ = some (.int .i64 x)) (p2 : wr.drew.cell? ⟨bb, bo + i, none⟩ = some (.int .i64 x)) 
    (hQp : ∀ c a a' w, Q (.panic c) a w → Q (.panic c) a' w) (hQ : ∀ u16 u17 u18 u19 u20 u21 u22 u23, Q .normal ⟨#[.slice (some ⟨ab, ao, none⟩) n ac, .slice (some ⟨bb, bo, none⟩) n bc, t2, t3, t4, .int .i64 (i : Int), t6, t7, t8, t9, t10, t11, t12, t13, t14, t15, u16, u17, u18, u19, u20, u21, u22, u23, .bool false, t25], df⟩ wr.drew) :
    rs6.wp Tryd.prog Q ⟨#[.slice (some ⟨ab, ao, none⟩) n ac, .slice (some ⟨bb, bo, none⟩) n bc, t2, t3, t4, .int .i64 (i : Int), t6, t7, t8, t9, t10, t11, t12, t13, t14, t15, t16, t17, t18, t19, t20, t21, t22, t23, t24, t25], df⟩ wr := by
  have HP : Hid (∀ c a a' w, Q (.panic c) a w → Q (.panic c) a' w) := hQp
  have HQ : Hid (∀ u16 u17 u18 u19 u20 u21 u22 u23, Q .normal ⟨#[.slice (some ⟨ab, ao, none⟩) n ac, .slice (some ⟨bb, bo, none⟩) n bc, t2, t3, t4, .int .i64 (i : Int), t6, t7, t8, t9, t10, t11, t12, t13, t14, t15, u16, u17, u18, u19, u20, u21, u22, u23, .bool false, t25], df⟩ wr.drew) := hQ
  clear hQ hQp
  unfold rs6
  refine wp_region_held_drew (S := fun V => V = wr.drew) (by kernel_rfl) rfl (fun hH0 => ?_)
  generalize wr.drew = X at *
  refine tk (i := 0) (v := .slice (some ⟨ab, ao, none⟩) n ac) rfl (by kernel_rfl) (fun _ _ _ h => HP.out _ _ _ _ h) (by kernel_rfl) ?_ hH0 ?_
  · intro V hS; subst hS; go_simp
  simp only [Act.put, y1, y2, y3, y4, y5, y6, y7]
  refine tk (i := 1) (v := .int .i64 (i : Int)) rfl (by kernel_rfl) (fun _ _ _ h => HP.out _ _ _ _ h) (by kernel_rfl) ?_ hH0 ?_
  · intro V hS; subst hS; go_simp
  simp only [Act.put, y1, y2, y3, y4, y5, y6, y7]
  refine tk (i := 2) (v := .pointer (some ⟨ab, ao + i, none⟩)) rfl (by kernel_rfl) (fun _ _ _ h => HP.out _ _ _ _ h) (by kernel_rfl) ?_ hH0 ?_
  · intro V hS; subst hS; go_simp
  simp only [Act.put, y1, y2, y3, y4, y5, y6, y7]
  refine tk (i := 3) (v := .int .i64 x) rfl (by kernel_rfl) (fun _ _ _ h => HP.out _ _ _ _ h) (by kernel_rfl) ?_ hH0 ?_
  · intro V hS; subst hS; go_simp
  simp only [Act.put, y1, y2, y3, y4, y5, y6, y7]
  refine tk (i := 4) (v := .slice (some ⟨bb, bo, none⟩) n bc) rfl (by kernel_rfl) (fun _ _ _ h => HP.out _ _ _ _ h) (by kernel_rfl) ?_ hH0 ?_
  · intro V hS; subst hS; go_simp
  simp only [Act.put, y1, y2, y3, y4, y5, y6, y7]
  refine tk (i := 5) (v := .int .i64 (i : Int)) rfl (by kernel_rfl) (fun _ _ _ h => HP.out _ _ _ _ h) (by kernel_rfl) ?_ hH0 ?_
  · intro V hS; subst hS; go_simp
  simp only [Act.put, y1, y2, y3, y4, y5, y6, y7]
  refine tk (i := 6) (v := .pointer (some ⟨bb, bo + i, none⟩)) rfl (by kernel_rfl) (fun _ _ _ h => HP.out _ _ _ _ h) (by kernel_rfl) ?_ hH0 ?_
  · intro V hS; subst hS; go_simp
  simp only [Act.put, y1, y2, y3, y4, y5, y6, y7]
  refine tk (i := 7) (v := .int .i64 x) rfl (by kernel_rfl) (fun _ _ _ h => HP.out _ _ _ _ h) (by kernel_rfl) ?_ hH0 ?_
  · intro V hS; subst hS; go_simp
  simp only [Act.put, y1, y2, y3, y4, y5, y6, y7]
  refine tk (i := 8) (v := .bool false) rfl (by kernel_rfl) (fun _ _ _ h => HP.out _ _ _ _ h) (by kernel_rfl) ?_ hH0 ?_
  · intro V hS; subst hS; go_simp
  simp only [Act.put, y1, y2, y3, y4, y5, y6, y7]
  refine wpAnyH_done (by kernel_rfl) ?_ _
  exact HQ.out _ _ _ _ _ _ _ _
set_option maxHeartbeats 4000000 in
theorem sameInts18 {l : List Int} {a b : Option Addr} {c d : Nat} {w : World} (ha : IL w a l) (hb : IL w b l) (hn : l.length < 9223372036854775808) :
    Calls Tryd.prog 18 #[.slice a l.length c, .slice b l.length d] w fun e w' => e = .returned (.bool true) ∧ Below w.heap.size w w' := by
  have HA : Hid (IL w a l) := ha
  have HB : Hid (IL w b l) := hb
  clear ha hb
  go_enter Tryd.func18, Tryd.ntmps18
  go_wp2_with fail
  go_loopg [5, 13] l.length (fun gk v5 v13 wr => ∃ i : Nat, i + gk = l.length ∧ v13 = .int .i64 (i : Int) ∧ Below w.heap.size w wr)
  case atStart => exact ⟨0, by omega, rfl, Below.refl _ _⟩
  case round =>
    obtain ⟨i, hi, rfl, hB⟩ := hrel
    have B : Hid (Below w.heap.size w wr) := hB
    have BD : Hid (Below w.heap.size w wr.drew) := hB.drew
    clear hB
    by_cases hlt : i < l.length
    · have il : (i : Int) < (l.length : Int) := by omega
      obtain ⟨ab, ao, rfl, p1⟩ := (HA.out.of_below BD.out) i hlt
      obtain ⟨bb, bo, rfl, p2⟩ := (HB.out.of_below BD.out) i hlt
      generalize l[i] = x at *
      go_wp2_with fail
      refine wp_region_noPanic ?_
      refine rs6_same il p1 p2 (fun _ _ _ _ h => h) ?_
      intro y16 y17 y18 y19 y20 y21 y22 y23
      refine NoPanic.normal ?_
      try dsimp only
      clear p1 p2
      go_wp2_with fail
      go_roundg (gk - 1)
      case measure => omega
      case rel => exact ⟨i + 1, by omega, by go_num, BD.out⟩
    · obtain rfl : i = l.length := by omega
      clear hlt
      go_wp2_with fail
      go_ret
      exact ⟨rfl, B.out⟩
end Go.Proofs.YtflabehlaiocaaaDoor
