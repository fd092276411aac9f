/- plain.Boxes: a round. -/
import Derived.Test.YtafekaonmpkhiaaCz
set_option linter.unusedSimpArgs false
set_option linter.unusedVariables false
set_option maxRecDepth 100000
namespace Go.Proofs.Ytafekaonmpkhiaa
open Go.RowKit Go.Shelf Go.Deep Go.PlainAid Go.Maps Go.WideMaps

attribute [local go_sem] Oper.semAt_some

theorem grown_own {U V V' : World} {lb : Nat} {row : Option Nat} (h : U.grownBy V (some lb)) (g : V.grownBy V' row) (hr : ∀ k, row = some k → U.heap.size ≤ k) : U.grownBy V' (some lb) :=
  ⟨g.os.trans h.os, g.tape.trans h.tape, g.output.trans h.output, Nat.le_trans h.size g.size, fun k hk hn => (g.block k (Nat.lt_of_lt_of_le hk h.size) (fun e => by have := hr k e.symm; omega)).trans (h.block k hk hn)⟩
theorem own_cells {V : World} {base e size n : Nat} {v : Value} {xs : List Value} (h : V.ownsRow base e size v n xs) : ∀ (j : Nat) (o : Obj), v.ownBlock = some j → V.heap[j]? = some o → o.isCells = true := by
  intro g o hg hk
  rcases h.2 with ⟨hn, -⟩ | ⟨g', cap, cur, hv, hbg, hc, rest⟩
  · rw [hn] at hg; cases hg
  · rw [hv] at hg; cases hg
    rw [hc] at hk; cases hk
    rfl
theorem bl_of_own {V : World} {v : Value} {l : List Hd} {ns : List ByteArray} {base : Nat} (h : V.ownsRow base 38 4 v ns.length (rowsB l ns)) : BL V v l ns := by
  obtain ⟨hlen, ⟨rfl, h0⟩ | ⟨g, cap, cur, rfl, hbg, hg, hc, hm, hs, ht⟩⟩ := h
  · have e : ns = [] := List.eq_nil_of_length_eq_zero h0
    subst e
    exact ⟨none, 0, rfl, fun i hi => by simp at hi⟩
  · refine ⟨some ⟨g, 0, none⟩, cap, rfl, fun i hi j hj => ⟨g, 0, rfl, ?_⟩⟩
    have q := rowsB_get l ns i j hi hj
    rw [← ht, List.getElem?_take, if_pos (by omega)] at q
    rw [← q]
    simp [World.cell?, hg]
theorem take_next {l : List Hd} {ns : List ByteArray} {k : Nat} (hk : k < ns.length) : rowsB l (ns.take (k + 1)) = rowsB l (ns.take k) ++ encB l (nth ns k) := by
  rw [List.take_succ_eq_append_getElem hk, rowsB_snoc, nth_at hk]
def rz5 : Code := Go.Code.block 1 (Go.Code.region 5 #[{ dst := some 14, op := Go.Op.load 30 (Go.Operand.tmp 4), type := 30, pos := "audit.go:13", after := #[], guard := none }, { dst := some 15, op := Go.Op.load 38 (Go.Operand.tmp 6), type := 38, pos := "audit.go:13", after := #[], guard := none }, { dst := some 16, op := Go.Op.buildSlice 30 1 #[(0, Go.Operand.tmp 15)], type := 30, pos := "audit.go:13", after := #[{ on := 1, ground := Go.Ground.data }], guard := none }, { dst := some 17, op := Go.Op.call { callee := Go.Callee.builtin Go.Builtin.append, args := #[Go.Operand.tmp 14, Go.Operand.tmp 16], argTypes := #[30, 30] }, type := 30, pos := "audit.go:13", after := #[{ on := 0, ground := Go.Ground.data }, { on := 2, ground := Go.Ground.data }], guard := none }, { dst := none, op := Go.Op.store 30 (Go.Operand.tmp 4) (Go.Operand.tmp 17), type := 0, pos := "audit.go:13", after := #[{ on := 3, ground := Go.Ground.data }, { on := 3, ground := Go.Ground.chain }, { on := 0, ground := Go.Ground.phase }, { on := 1, ground := Go.Ground.phase }, { on := 2, ground := Go.Ground.phase }, { on := 3, ground := Go.Ground.phase }], guard := none }] false)
set_option maxHeartbeats 8000000 in
theorem round8 {U V : World} {lb k D l' m : Nat} {l : List Hd} {ns : List ByteArray} {v : Value} {df : List Deferred} {t0 t1 t2 t3 t5 t7 t8 t9 t10 t11 t12 t13 t14 t15 t16 t17 t18 t19 t20 t21 t22 : Value} (hI : IA U V lb l ns k v) (hD : IHolds V D 38 (encB l (nth ns k))) (hk : k < ns.length) (h9 : ns.length ≤ 256) :
    rz5.wpIn (Fence.wide.inRound l') m Try.prog (fun e _ V' => e = .normal ∧ KeepsFrom 0 V V' ∧ ∃ v', IA U V' lb l ns (k + 1) v') ⟨#[t0, t1, t2, t3, .pointer (some ⟨lb, 0, none⟩), t5, .pointer (some ⟨D, 0, none⟩), t7, t8, t9, t10, t11, t12, t13, t14, t15, t16, t17, t18, t19, t20, t21, t22], df⟩ V := by
  obtain ⟨i0, hi0, hz0, hz1, hz2⟩ := info38
  have hlt := hI.lt
  have e1 : (ns.take k).length = k := by simp; omega
  have HI : Hid (IA U V lb l ns k v) := hI
  have own0 : ∀ g, v.ownBlock = some g → U.heap.size ≤ g ∧ g < V.heap.size := fun g hg => hI.ow.lt g hg
  have OWN : Hid (∀ g, v.ownBlock = some g → U.heap.size ≤ g ∧ g < V.heap.size) := own0
  have US := hI.gr.size
  have l0 := hI.h.cell 0 (by simp)
  have hk9 : k ≤ 256 := by omega
  have d0 := hD.cell 0 (by rw [encB_len]; omega)
  have d1 := hD.cell 1 (by rw [encB_len]; omega)
  have d2 := hD.cell 2 (by rw [encB_len]; omega)
  have d3 := hD.cell 3 (by rw [encB_len]; omega)
  have TN : Hid (rowsB l (ns.take (k + 1)) = rowsB l (ns.take k) ++ encB l (nth ns k)) := take_next hk
  have EN : Hid (encB l (nth ns k) = [.string (nth ns k), .int .i64 (bx l (nth ns k)).count, .string (bx l (nth ns k)).holder, .string (bx l (nth ns k)).sl]) := rfl
  simp only [encB, List.getElem_cons_zero, List.getElem_cons_succ] at d0 d1 d2 d3
  clear hI own0 hk h9 hD e1
  generalize (bx l (nth ns k)).count = y1 at *
  generalize (bx l (nth ns k)).holder = y2 at *
  generalize (bx l (nth ns k)).sl = y3 at *
  obtain ⟨xs, hxs⟩ : ∃ xs, xs = rowsB l (ns.take k) := ⟨_, rfl⟩
  have OW1 : Hid (V.ownsRow U.heap.size 38 4 v k xs) := by rw [hxs]; exact HI.out.ow
  rw [← hxs] at TN
  generalize nth ns k = nm at *
  have NEWS : Hid (∀ j u, ([.string nm, .int .i64 y1, .string y2, .string y3] : List Value)[j]? = some u → (V.alloc (.cells #[.string nm, .int .i64 y1, .string y2, .string y3] 38)).cell? ((⟨V.heap.size, 0, none⟩ : Addr).add j) = some u) := cells_new _ [.string nm, .int .i64 y1, .string y2, .string y3] 38
  have OW2 : Hid ((V.alloc (.cells #[.string nm, .int .i64 y1, .string y2, .string y3] 38)).ownsRow U.heap.size 38 4 v k xs) := OW1.out.alloc _
  have LB1 : Hid (IHolds (V.alloc (.cells #[.string nm, .int .i64 y1, .string y2, .string y3] 38)) lb 30 [v]) := HI.out.h.alloc _
  unfold rz5
  gi_wp2_with (gi_at_builtin; refine wpListIn_append_own _ rfl (.tmp 14) (.tmp 16) 30 rfl U.heap.size 38 i0 (.agg #[.string ⟨#[]⟩, .int .i64 0, .string ⟨#[]⟩, .string ⟨#[]⟩]) 4 56 Try.underlying30 hi0 hz0 hz1 hz2 rfl (by decide) v k xs rfl OW2.out ⟨V.heap.size, 0, none⟩ 1 1 [.string nm, .int .i64 y1, .string y2, .string y3] rfl rfl NEWS.out (fun u hu => by simp at hu; rcases hu with rfl | rfl | rfl | rfl <;> rfl) (by unfold maxLen; omega) (by omega) (by simp; omega) ?_; intro v9 w9 hown1 hgrow1 hn1; obtain ⟨g9, cap9, rfl⟩ := ownsRow_succ hown1; have OW9 : Hid (w9.ownsRow U.heap.size 38 4 (.slice (some ⟨g9, 0, none⟩) (k + 1) cap9) (k + 1) (xs ++ [.string nm, .int .i64 y1, .string y2, .string y3])) := hown1; have GR9 : Hid ((V.alloc (.cells #[.string nm, .int .i64 y1, .string y2, .string y3] 38)).grownBy w9 v.ownBlock) := hgrow1; have lf9 : IHolds w9 lb 30 [v] := (hgrow1.block lb (Nat.lt_of_lt_of_le LB1.out.lt (Nat.le_refl _)) (fun e => by have := OWN.out lb e.symm; omega)).trans LB1.out; clear hown1 hgrow1 hn1; have z0 := lf9.cell 0 (by simp); have z1 := lf9.frozen 0; have LF9 : Hid (IHolds w9 lb 30 [v]) := lf9; clear lf9)
  have HG : Hid (U.grownBy w9 (some lb)) := grown_own (gtrans HI.out.gr (World.grownBy_alloc _ (.cells #[.string nm, .int .i64 y1, .string y2, .string y3] 38) _)) GR9.out (fun g hg => (OWN.out g hg).1)
  refine ⟨(((KeepsOthers.alloc V (.cells #[.string nm, .int .i64 y1, .string y2, .string y3] 38)).trans (KeepsOthers.of_grownBy GR9.out (own_cells OW2.out))).trans (KeepsOthers.setCell w9 ⟨lb, 0, none⟩ (.slice (some ⟨g9, 0, none⟩) (k + 1) cap9))).from 0, .slice (some ⟨g9, 0, none⟩) (k + 1) cap9, gset HG.out 0 _, hlt, LF9.out.set 0 _, ?_⟩
  rw [TN.out, EN.out]
  exact own_far OW9.out fun g hg => Below.heap_setCell _ _ _ _ (show g ≠ lb from fun e => by have := (OW9.out.lt g hg).1; omega)
end Go.Proofs.Ytafekaonmpkhiaa
