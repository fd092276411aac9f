/- NewCustody, sameBoxes. -/
import Derived.Test.YtafekaonmpkhiaaDb
set_option linter.unusedSimpArgs false
set_option linter.unusedVariables false
set_option maxRecDepth 100000
namespace Go.Proofs.Ytafekaonmpkhiaa
open Go.RowKit Go.Shelf Go.Deep Go.PlainAid Go.Maps Go.WideMaps

set_option maxHeartbeats 2000000 in
theorem newCustody5 (w : World) : Calls Try.prog 5 #[] w fun e w' => e = .returned (.pointer (some ⟨w.heap.size + 2, 0, none⟩)) ∧ CU w' (w.heap.size + 2) w.heap.size (w.heap.size + 1) [] ∧ Below w.heap.size w w' := by
  have hmm := @run_makeMap Try.prog
  have M0 : Hid (CU (((w.alloc (.map #[] 0)).alloc (.map #[] 0)).alloc (.cells #[.map (some w.heap.size), .map (some (w.heap.size + 1))] 45)) (w.heap.size + 2) w.heap.size (w.heap.size + 1) []) := by
    have m1 : (w.alloc (.map #[] 0)).ownsMap Try.prog 9 Rv w.heap.size 0 (.map []) := World.ownsMap_made w Try.prog 9 Rv
    have m2 : ((w.alloc (.map #[] 0)).alloc (.map #[] 0)).ownsMap Try.prog 9 unitElem (w.heap.size + 1) 0 (.map [] : HB) := by
      have := World.ownsMap_made (w.alloc (.map #[] 0)) Try.prog 9 (unitElem : Value → Option (HB × List MemPlace))
      rwa [World.size_alloc] at this
    have i3 := IHolds.new ((w.alloc (.map #[] 0)).alloc (.map #[] 0)) 45 [.map (some w.heap.size), .map (some (w.heap.size + 1))]
    simp only [World.size_alloc] at i3
    refine ⟨i3, by omega, by omega, by omega, ⟨0, .map [], (m1.alloc _).alloc _, ⟨fun nm => rfl, fun nm h => by simp [bx, BR0] at h, rfl⟩⟩, ⟨0, .map [], m2.alloc _, ⟨fun s => rfl, by simp [Maps.size]⟩⟩⟩
  have B0 : Hid (Below w.heap.size w (((w.alloc (.map #[] 0)).alloc (.map #[] 0)).alloc (.cells #[.map (some w.heap.size), .map (some (w.heap.size + 1))] 45))) := (((Below.refl _ w).alloc (Nat.le_refl _) _).alloc (by simp) _).alloc (by simp; omega) _
  go_enter Try.func5, Try.ntmps5
  go_wp2_with fail
  go_ret
  refine ⟨by simp, M0.out, B0.out⟩
def rs6 : Code := Go.Code.region 6 #[{ dst := some 16, op := Go.Op.move (Go.Operand.tmp 0), type := 30, pos := "law.go:169", after := #[], guard := none }, { dst := some 17, op := Go.Op.move (Go.Operand.tmp 5), type := 3, pos := "law.go:169", after := #[], guard := none }, { dst := some 18, op := Go.Op.indexAddr 30 (Go.Operand.tmp 16) (Go.Operand.tmp 17), type := 0, pos := "law.go:169", after := #[{ on := 0, ground := Go.Ground.data }, { on := 1, ground := Go.Ground.data }], guard := none }, { dst := some 19, op := Go.Op.load 38 (Go.Operand.tmp 18), type := 38, pos := "law.go:169", after := #[{ on := 2, ground := Go.Ground.data }], guard := none }, { dst := some 20, op := Go.Op.move (Go.Operand.tmp 1), type := 30, pos := "law.go:169", after := #[], guard := none }, { dst := some 21, op := Go.Op.move (Go.Operand.tmp 5), type := 3, pos := "law.go:169", after := #[], guard := none }, { dst := some 22, op := Go.Op.indexAddr 30 (Go.Operand.tmp 20) (Go.Operand.tmp 21), type := 0, pos := "law.go:169", after := #[{ on := 4, ground := Go.Ground.data }, { on := 5, ground := Go.Ground.data }], guard := none }, { dst := some 23, op := Go.Op.load 38 (Go.Operand.tmp 22), type := 38, pos := "law.go:169", after := #[{ on := 6, ground := Go.Ground.data }], guard := none }, { dst := some 24, op := Go.Op.binOp Go.BinOp.neq 38 (Go.Operand.tmp 19) (Go.Operand.tmp 23) 38, type := 4, pos := "law.go:169", after := #[{ on := 3, ground := Go.Ground.data }, { on := 7, ground := Go.Ground.data }], guard := none }] true
set_option maxHeartbeats 8000000 in
theorem rs6_wp {wr : World} {df : List Deferred} {b1 o1 c1 b2 o2 c2 n k : Nat} {x y2 y3 : ByteArray} {y1 : Int} {Q : Exit → Act → World → Prop} {t2 t3 t4 t6 t7 t8 t9 t10 t11 t12 t13 t14 t15 t16 t17 t18 t19 t20 t21 t22 t23 t24 t25 : Value} (il : (k : Int) < (n : Int)) (h0 : wr.cell? ⟨b1, o1 + k * 4, none⟩ = some (.string x)) (h1 : wr.cell? ⟨b1, o1 + k * 4 + 1, none⟩ = some (.int .i64 y1)) (h2 : wr.cell? ⟨b1, o1 + k * 4 + 2, none⟩ = some (.string y2)) (h3 : wr.cell? ⟨b1, o1 + k * 4 + 3, none⟩ = some (.string y3)) (h4 : wr.cell? ⟨b2, o2 + k * 4, none⟩ = some (.string x)) (h5 : wr.cell? ⟨b2, o2 + k * 4 + 1, none⟩ = some (.int .i64 y1)) (h6 : wr.cell? ⟨b2, o2 + k * 4 + 2, none⟩ = some (.string y2)) (h7 : wr.cell? ⟨b2, o2 + k * 4 + 3, none⟩ = some (.string y3))
    (hQp : ∀ c a a' w, Q (.panic c) a w → Q (.panic c) a' w) (hQ : ∀ u16 u17 u18 u19 u20 u21 u22 u23, Q .normal ⟨#[.slice (some ⟨b1, o1, none⟩) n c1, .slice (some ⟨b2, o2, none⟩) n c2, t2, t3, t4, .int .i64 (k : Int), t6, t7, t8, t9, t10, t11, t12, t13, t14, t15, u16, u17, u18, u19, u20, u21, u22, u23, .bool false, t25], df⟩ (wr.drew)) :
    rs6.wp Try.prog Q ⟨#[.slice (some ⟨b1, o1, none⟩) n c1, .slice (some ⟨b2, o2, none⟩) n c2, t2, t3, t4, .int .i64 (k : Int), t6, t7, t8, t9, t10, t11, t12, t13, t14, t15, t16, t17, t18, t19, t20, t21, t22, t23, t24, t25], df⟩ wr := by
  have HP : Hid (∀ c a a' w, Q (.panic c) a w → Q (.panic c) a' w) := hQp
  have HQ : Hid (∀ u16 u17 u18 u19 u20 u21 u22 u23, Q .normal ⟨#[.slice (some ⟨b1, o1, none⟩) n c1, .slice (some ⟨b2, o2, none⟩) n c2, t2, t3, t4, .int .i64 (k : Int), t6, t7, t8, t9, t10, t11, t12, t13, t14, t15, u16, u17, u18, u19, u20, u21, u22, u23, .bool false, t25], df⟩ (wr.drew)) := hQ
  clear hQ hQp
  have KP0 : Hid (wr.drew.cell? ⟨b1, o1 + k * 4, none⟩ = some (.string x) ∧ wr.drew.cell? ⟨b1, o1 + k * 4 + 1, none⟩ = some (.int .i64 y1) ∧ wr.drew.cell? ⟨b1, o1 + k * 4 + 2, none⟩ = some (.string y2) ∧ wr.drew.cell? ⟨b1, o1 + k * 4 + 3, none⟩ = some (.string y3) ∧ wr.drew.cell? ⟨b2, o2 + k * 4, none⟩ = some (.string x) ∧ wr.drew.cell? ⟨b2, o2 + k * 4 + 1, none⟩ = some (.int .i64 y1) ∧ wr.drew.cell? ⟨b2, o2 + k * 4 + 2, none⟩ = some (.string y2) ∧ wr.drew.cell? ⟨b2, o2 + k * 4 + 3, none⟩ = some (.string y3)) := ⟨h0, h1, h2, h3, h4, h5, h6, h7⟩
  clear h0 h1 h2 h3 h4 h5 h6 h7
  unfold rs6
  refine wp_region_noPanic ?_
  go_region_held3 (fun V => V.cell? ⟨b1, o1 + k * 4, none⟩ = some (.string x) ∧ V.cell? ⟨b1, o1 + k * 4 + 1, none⟩ = some (.int .i64 y1) ∧ V.cell? ⟨b1, o1 + k * 4 + 2, none⟩ = some (.string y2) ∧ V.cell? ⟨b1, o1 + k * 4 + 3, none⟩ = some (.string y3) ∧ V.cell? ⟨b2, o2 + k * 4, none⟩ = some (.string x) ∧ V.cell? ⟨b2, o2 + k * 4 + 1, none⟩ = some (.int .i64 y1) ∧ V.cell? ⟨b2, o2 + k * 4 + 2, none⟩ = some (.string y2) ∧ V.cell? ⟨b2, o2 + k * 4 + 3, none⟩ = some (.string y3))
    (first | exact KP0.out | fail)
    (first | fail)
  all_goals (refine NoPanic.normal ?_; exact HQ.out _ _ _ _ _ _ _ _)
set_option maxHeartbeats 4000000 in
theorem sameBoxes9 {l : List Hd} {ns : List ByteArray} {V : World} {v1 v2 : Value} (h9 : ns.length ≤ 256) (g1 : BL V v1 l ns) (g2 : BL V v2 l ns) :
    Calls Try.prog 9 #[v1, v2] V fun e w' => e = .returned (.bool true) ∧ Below V.heap.size V w' := by
  obtain ⟨a1, c1, rfl, -⟩ := g1.at
  obtain ⟨a2, c2, rfl, -⟩ := g2.at
  have G1 : Hid (BL V (.slice a1 ns.length c1) l ns) := g1
  have G2 : Hid (BL V (.slice a2 ns.length c2) l ns) := g2
  clear g1 g2
  go_enter Try.func9, Try.ntmps9
  go_wp2_with fail
  go_loopw [5, 13] (fun v5 v13 wr => ∃ k : Nat, k ≤ ns.length ∧ v13 = .int .i64 (k : Int) ∧ Below V.heap.size V wr) (fun v5 v13 _ => ns.length - intC v13)
  case atStart => exact ⟨0, by omega, by simp, Below.refl _ _⟩
  case round =>
    obtain ⟨k, hk, rfl, hB⟩ := hrel
    have HB : Hid (Below V.heap.size V wr) := hB
    by_cases hlt : k < ns.length
    · have il : (k : Int) < (ns.length : Int) := by omega
      obtain ⟨a, c, e, q⟩ := (G1.out.of_below hB).at
      cases e
      obtain ⟨b1, o1, rfl, p0, p1, p2, p3⟩ := q k hlt
      obtain ⟨a', c', e', q'⟩ := (G2.out.of_below hB).at
      cases e'
      obtain ⟨b2, o2, rfl, r0, r1, r2, r3⟩ := q' k hlt
      clear q q' hB
      go_wp2_with fail
      refine wp_region_noPanic ?_
      refine rs6_wp il p0 p1 p2 p3 r0 r1 r2 r3 (fun _ _ _ _ h => h) ?_
      intro u16 u17 u18 u19 u20 u21 u22 u23
      refine NoPanic.normal ?_
      try dsimp only
      clear p0 p1 p2 p3 r0 r1 r2 r3
      have BD : Hid (Below V.heap.size V wr.drew) := HB.out.drew
      go_wp2_with fail
      go_roundw
      case rel => exact ⟨k + 1, by omega, by simp, BD.out⟩
      case measure => simp [intC]; omega
    · obtain rfl : k = ns.length := by omega
      go_wp2_with fail
      go_ret
      exact ⟨rfl, HB.out⟩
end Go.Proofs.Ytafekaonmpkhiaa
