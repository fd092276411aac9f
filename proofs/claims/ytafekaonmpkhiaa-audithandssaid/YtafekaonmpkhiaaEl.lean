/- The document's Boxes: a box is put into the list. -/
import Derived.Test.YtafekaonmpkhiaaEk
import Derived.Deep.RegionHeld
import Derived.Deep.RegionHeld3
set_option linter.unusedSimpArgs false
set_option linter.unusedVariables false
set_option maxRecDepth 100000
namespace Go.Proofs.Ytafekaonmpkhiaa
open Go.Shelf Go.Sort Go.Lib Go.RowKit Go.Deep Go.PlainAid

theorem own_mono {V : World} {base base2 size n : Nat} {e : TypeId} {v : Value} {xs : List Value} (h : V.ownsRow base2 e size v n xs) (hb : base ≤ base2) : V.ownsRow base e size v n xs := by
  obtain ⟨hl, h⟩ := h
  refine ⟨hl, ?_⟩
  rcases h with h | ⟨g, cap, cur, e1, e2, r⟩
  · exact .inl h
  · exact .inr ⟨g, cap, cur, e1, Nat.le_trans hb e2, r⟩
theorem wp_append_at {P : Program} {o : Oper} {a : Act} {w w' : World} {K : Act → World → Prop} {Q : Exit → Act → World → Prop} (s x : Operand) (t : TypeId) (ho : o.op = .call { callee := .builtin .append, args := #[s, x], argTypes := #[t, t] })
    (v v' y : Value) (hs : a.eval s = v) (hx : a.eval x = y) (hr : (Builtin.append_ #[t, t] o.type #[v, y]).run P w = .ok v' w') (h : K (a.put o.dst v') w') : Oper.wp P o a w K Q := by
  unfold Oper.wp execOp
  simp only [ho, resolve, invoke, builtin, Sem.run_bind, Sem.run_pure, Result.andThen_ok, List.map_toArray, List.map_cons, List.map_nil, hs, hx, hr]
  exact h
/-- A list of boxes as it is read: nothing, or cells that lie there. -/
def LR (V : World) (x : Value) (m : Nat) (ys : List Value) : Prop :=
  (∀ u ∈ ys, u.oneCell' = true) ∧ ((x = .slice none 0 0 ∧ m = 0 ∧ ys = []) ∨ ∃ a c, x = .slice (some a) m c ∧ ys.length = m * 4 ∧ ∀ j u, ys[j]? = some u → V.cell? (a.add j) = some u)
theorem app38 {V : World} {base n m : Nat} {v y : Value} {xs ys : List Value} (ho : V.ownsRow base 38 4 v n xs) (hb : base ≤ V.heap.size) (hy : LR V y m ys) (h9 : n + m ≤ 4000) (ty : TypeId) :
    ∃ v' V', (Builtin.append_ #[30, 30] ty #[v, y]).run Try.prog V = .ok v' V' ∧ V'.ownsRow base 38 4 v' (n + m) (xs ++ ys) ∧ V.grownBy V' v.ownBlock := by
  obtain ⟨i0, hi0, hz0, hz1, hz2⟩ := info38
  obtain ⟨h1, ⟨rfl, rfl, rfl⟩ | ⟨a, c, rfl, hl, hc⟩⟩ := hy
  · refine ⟨v, V, run_append_owned_none V base 30 ty 38 i0 4 Try.underlying30 hi0 v n xs ho, by simpa using ho, World.grownBy.refl _ _⟩
  · obtain ⟨v', V', hr, ho', hg, _⟩ := run_append_own (P := Try.prog) V base 30 ty 38 i0 (.agg #[.string ⟨#[]⟩, .int .i64 0, .string ⟨#[]⟩, .string ⟨#[]⟩]) 4 56 Try.underlying30 hi0 hz0 hz1 hz2 rfl (by decide) v n xs ho a m c ys hl hc h1 (by unfold maxLen; omega) (by omega) hb
    exact ⟨v', V', hr, ho', hg⟩
theorem lr_box {V : World} {g : Nat} {nm x2 x3 : ByteArray} {x1 : Int} (h : IHolds V g 38 [.string nm, .int .i64 x1, .string x2, .string x3]) : LR V (.slice (some ⟨g, 0, none⟩) 1 1) 1 [.string nm, .int .i64 x1, .string x2, .string x3] := by
  refine ⟨fun u hu => ?_, .inr ⟨⟨g, 0, none⟩, 1, rfl, rfl, fun j u hu => ?_⟩⟩
  · simp at hu
    rcases hu with rfl | rfl | rfl | rfl <;> rfl
  · match j, hu with
    | 0, hu => simp at hu; subst hu; exact h.cell 0 (by simp)
    | 1, hu => simp at hu; subst hu; exact h.cell 1 (by simp)
    | 2, hu => simp at hu; subst hu; exact h.cell 2 (by simp)
    | 3, hu => simp at hu; subst hu; exact h.cell 3 (by simp)
def rg10 : Code := Go.Code.region 10 #[{ dst := some 45, op := Go.Op.buildSlice 30 0 #[], type := 30, pos := "ref.go:281", after := #[], guard := none }, { dst := some 46, op := Go.Op.move (Go.Operand.tmp 3), type := 30, pos := "ref.go:281", after := #[], guard := none }, { dst := some 47, op := Go.Op.move (Go.Operand.tmp 10), type := 3, pos := "ref.go:281", after := #[], guard := none }, { dst := some 48, op := Go.Op.slice 30 (Go.Operand.tmp 46) none (some (Go.Operand.tmp 47)) none, type := 30, pos := "ref.go:281", after := #[{ on := 1, ground := Go.Ground.data }, { on := 2, ground := Go.Ground.data }], guard := none }, { dst := some 49, op := Go.Op.call { callee := Go.Callee.builtin Go.Builtin.append, args := #[Go.Operand.tmp 45, Go.Operand.tmp 48], argTypes := #[30, 30] }, type := 30, pos := "ref.go:281", after := #[{ on := 0, ground := Go.Ground.data }, { on := 3, ground := Go.Ground.data }], guard := none }, { dst := some 50, op := Go.Op.load 38 (Go.Operand.tmp 6), type := 38, pos := "ref.go:281", after := #[], guard := none }, { dst := some 51, op := Go.Op.buildSlice 30 1 #[(0, Go.Operand.tmp 50)], type := 30, pos := "ref.go:281", after := #[{ on := 5, ground := Go.Ground.data }], guard := none }, { dst := some 52, op := Go.Op.call { callee := Go.Callee.builtin Go.Builtin.append, args := #[Go.Operand.tmp 49, Go.Operand.tmp 51], argTypes := #[30, 30] }, type := 30, pos := "ref.go:281", after := #[{ on := 4, ground := Go.Ground.data }, { on := 6, ground := Go.Ground.data }, { on := 4, ground := Go.Ground.chain }], guard := none }, { dst := some 53, op := Go.Op.move (Go.Operand.tmp 3), type := 30, pos := "ref.go:281", after := #[], guard := none }, { dst := some 54, op := Go.Op.move (Go.Operand.tmp 10), type := 3, pos := "ref.go:281", after := #[], guard := none }, { dst := some 55, op := Go.Op.slice 30 (Go.Operand.tmp 53) (some (Go.Operand.tmp 54)) none none, type := 30, pos := "ref.go:281", after := #[{ on := 8, ground := Go.Ground.data }, { on := 9, ground := Go.Ground.data }], guard := none }, { dst := some 56, op := Go.Op.call { callee := Go.Callee.builtin Go.Builtin.append, args := #[Go.Operand.tmp 52, Go.Operand.tmp 55], argTypes := #[30, 30] }, type := 30, pos := "ref.go:281", after := #[{ on := 7, ground := Go.Ground.data }, { on := 10, ground := Go.Ground.data }, { on := 7, ground := Go.Ground.chain }], guard := none }, { dst := some 3, op := Go.Op.assign (Go.Operand.tmp 56), type := 30, pos := "ref.go:281", after := #[{ on := 11, ground := Go.Ground.data }, { on := 11, ground := Go.Ground.chain }, { on := 0, ground := Go.Ground.phase }, { on := 1, ground := Go.Ground.phase }, { on := 2, ground := Go.Ground.phase }, { on := 3, ground := Go.Ground.phase }, { on := 4, ground := Go.Ground.phase }, { on := 5, ground := Go.Ground.phase }, { on := 6, ground := Go.Ground.phase }, { on := 7, ground := Go.Ground.phase }, { on := 8, ground := Go.Ground.phase }, { on := 9, ground := Go.Ground.phase }, { on := 10, ground := Go.Ground.phase }, { on := 11, ground := Go.Ground.phase }], guard := none }] true
set_option maxHeartbeats 16000000 in
theorem rg10_wp {wr : World} {df : List Deferred} {hb n c k m : Nat} {a : Option Addr} {lo hi : List Value} {nm x2 x3 : ByteArray} {x1 : Int} {y48 y55 : Value} {Q : Exit → Act → World → Prop} {t0 t1 t2 t4 t5 t7 t8 t9 t11 t12 t13 t14 t15 t16 t17 t18 t19 t20 t21 t22 t23 t24 t25 t26 t27 t28 t29 t30 t31 t32 t33 t34 t35 t36 t37 t38 t39 t40 t41 t42 t43 t44 t45 t46 t47 t48 t49 t50 t51 t52 t53 t54 t55 t56 t57 t58 : Value}
    (hk : k ≤ n) (hc : n ≤ c) (hm : n = k + m) (h9 : n ≤ 256) (e48 : y48 = sliced a 0 k c 4) (e55 : y55 = sliced a k n c 4)
    (hlo : ∀ V, Below wr.heap.size wr V → LR V y48 k lo) (hhi : ∀ V, Below wr.heap.size wr V → LR V y55 m hi)
    (c0 : wr.cell? ⟨hb, 0, none⟩ = some (.string nm)) (c1 : wr.cell? ⟨hb, 1, none⟩ = some (.int .i64 x1)) (c2 : wr.cell? ⟨hb, 2, none⟩ = some (.string x2)) (c3 : wr.cell? ⟨hb, 3, none⟩ = some (.string x3))
    (hQp : ∀ c a a' w, Q (.panic c) a w → Q (.panic c) a' w) (hQ : ∀ u45 u46 u47 u48 u49 u50 u51 u52 u53 u54 u55 u56 v' W, W.ownsRow wr.heap.size 38 4 v' (k + 1 + m) (lo ++ [.string nm, .int .i64 x1, .string x2, .string x3] ++ hi) → Below wr.heap.size wr W → Q .normal ⟨#[t0, t1, t2, v', t4, t5, .pointer (some ⟨hb, 0, none⟩), t7, t8, t9, .int .i64 (k : Int), t11, t12, t13, t14, t15, t16, t17, t18, t19, t20, t21, t22, t23, t24, t25, t26, t27, t28, t29, t30, t31, t32, t33, t34, t35, t36, t37, t38, t39, t40, t41, t42, t43, t44, u45, u46, u47, u48, u49, u50, u51, u52, u53, u54, u55, u56, t57, t58], df⟩ W) :
    rg10.wp Try.prog Q ⟨#[t0, t1, t2, .slice a n c, t4, t5, .pointer (some ⟨hb, 0, none⟩), t7, t8, t9, .int .i64 (k : Int), t11, t12, t13, t14, t15, t16, t17, t18, t19, t20, t21, t22, t23, t24, t25, t26, t27, t28, t29, t30, t31, t32, t33, t34, t35, t36, t37, t38, t39, t40, t41, t42, t43, t44, t45, t46, t47, t48, t49, t50, t51, t52, t53, t54, t55, t56, t57, t58], df⟩ wr := by
  have HP : Hid (∀ c a a' w, Q (.panic c) a w → Q (.panic c) a' w) := hQp
  have HQ : Hid (∀ u45 u46 u47 u48 u49 u50 u51 u52 u53 u54 u55 u56 v' W, W.ownsRow wr.heap.size 38 4 v' (k + 1 + m) (lo ++ [.string nm, .int .i64 x1, .string x2, .string x3] ++ hi) → Below wr.heap.size wr W → Q .normal ⟨#[t0, t1, t2, v', t4, t5, .pointer (some ⟨hb, 0, none⟩), t7, t8, t9, .int .i64 (k : Int), t11, t12, t13, t14, t15, t16, t17, t18, t19, t20, t21, t22, t23, t24, t25, t26, t27, t28, t29, t30, t31, t32, t33, t34, t35, t36, t37, t38, t39, t40, t41, t42, t43, t44, u45, u46, u47, u48, u49, u50, u51, u52, u53, u54, u55, u56, t57, t58], df⟩ W) := hQ
  have E48 : Hid (y48 = sliced a 0 k c 4) := e48
  have E55 : Hid (y55 = sliced a k n c 4) := e55
  have LO : Hid (∀ V, Below wr.heap.size wr V → LR V y48 k lo) := hlo
  have HI : Hid (∀ V, Below wr.heap.size wr V → LR V y55 m hi) := hhi
  have CE : Hid (∀ V, Below wr.heap.size wr V → V.cell? ⟨hb, 0, none⟩ = some (.string nm) ∧ V.cell? ⟨hb, 1, none⟩ = some (.int .i64 x1) ∧ V.cell? ⟨hb, 2, none⟩ = some (.string x2) ∧ V.cell? ⟨hb, 3, none⟩ = some (.string x3)) := fun V hV => ⟨cell_keep c0 hV, cell_keep c1 hV, cell_keep c2 hV, cell_keep c3 hV⟩
  have BD : Hid (Below wr.heap.size wr wr.drew) := (Below.refl _ wr).drew
  have BD0 := BD
  have k1 : (k : Int) ≤ (c : Int) := by omega
  have k2 : (k : Int) ≤ (n : Int) := by omega
  have k9 : k ≤ 256 := by omega
  have m9 : m ≤ 256 := by omega
  clear hQ hQp e48 e55 hlo hhi c0 c1 c2 c3 hk hc hm
  unfold rg10
  refine wp_region_held_drew (S := fun V => Below wr.heap.size wr V) (by kernel_rfl) BD.out (fun hH => ?_)
  generalize wr.drew = V0 at *
  refine tk (i := 1) (v := .slice a n c) rfl (by kernel_rfl) (fun _ _ _ h => HP.out _ _ _ _ h) (by kernel_rfl) ?_ hH ?_
  · intro V hS
    go_simp
  simp only [Act.put, y1, y2, y3, y4, y5, y6, y7]
  refine tk (i := 2) (v := .int .i64 (k : Int)) rfl (by kernel_rfl) (fun _ _ _ h => HP.out _ _ _ _ h) (by kernel_rfl) ?_ hH ?_
  · intro V hS
    go_simp
  simp only [Act.put, y1, y2, y3, y4, y5, y6, y7]
  refine tk (i := 3) (v := y48) rfl (by kernel_rfl) (fun _ _ _ h => HP.out _ _ _ _ h) (by kernel_rfl) ?_ hH ?_
  · intro V hS
    rw [E48.out]
    go_simp
  simp only [Act.put, y1, y2, y3, y4, y5, y6, y7]
  refine tk (i := 5) (v := .agg #[.string nm, .int .i64 x1, .string x2, .string x3]) rfl (by kernel_rfl) (fun _ _ _ h => HP.out _ _ _ _ h) (by kernel_rfl) ?_ hH ?_
  · intro V hS
    obtain ⟨z0, z1, z2, z3⟩ := CE.out V hS
    go_simp
  simp only [Act.put, y1, y2, y3, y4, y5, y6, y7]
  refine tk (i := 8) (v := .slice a n c) rfl (by kernel_rfl) (fun _ _ _ h => HP.out _ _ _ _ h) (by kernel_rfl) ?_ hH ?_
  · intro V hS
    go_simp
  simp only [Act.put, y1, y2, y3, y4, y5, y6, y7]
  refine tk (i := 9) (v := .int .i64 (k : Int)) rfl (by kernel_rfl) (fun _ _ _ h => HP.out _ _ _ _ h) (by kernel_rfl) ?_ hH ?_
  · intro V hS
    go_simp
  simp only [Act.put, y1, y2, y3, y4, y5, y6, y7]
  refine tk (i := 10) (v := y55) rfl (by kernel_rfl) (fun _ _ _ h => HP.out _ _ _ _ h) (by kernel_rfl) ?_ hH ?_
  · intro V hS
    rw [E55.out]
    go_simp
  simp only [Act.put, y1, y2, y3, y4, y5, y6, y7]
  refine wpAnyH_ready (rs := [0, 6]) (by kernel_rfl) (by simp) ?_
  refine AllReadyH.cons rfl (fun K hK => ?_) (AllReadyH.cons rfl (fun K hK => ?_) (AllReadyH.nil))
  · clear hH
    have B0 : Hid (Below wr.heap.size wr V0) := BD0.out
    have Z0 : Hid (wr.heap.size ≤ V0.heap.size) := B0.out.size
    go_simp
    have A0 : Hid ((V0.alloc (.cells #[] 38)).ownsRow V0.heap.size 38 4 (.slice (some ⟨V0.heap.size, 0, none⟩) 0 0) 0 []) := World.ownsRow_lit V0 #[] 0 (Nat.le_refl _) (by unfold maxLen; omega) rfl
    have BN : Hid (Below wr.heap.size wr (V0.alloc (.cells #[] 38))) := B0.out.alloc B0.out.size _
    have SG : Hid ((V0.alloc (.cells #[] 38)).heap.size = V0.heap.size + 1) := by show _ = _; simp
    refine hK.out _ _ BN.out (fun hH => ?_)
    clear hK K
    try simp only [Act.put, y1, y2, y3, y4, y5, y6, y7]
    generalize hg : V0.heap.size = g0 at *
    generalize V0.alloc (.cells #[] 38) = V1 at *
    clear hg B0
    have B0 : Hid (Below wr.heap.size wr V1) := BN.out
    clear BN
    refine wpAnyH_ready (rs := [4, 6]) (by kernel_rfl) (by simp) ?_
    refine AllReadyH.cons rfl (fun K hK => ?_) (AllReadyH.cons rfl (fun K hK => ?_) (AllReadyH.nil))
    · clear hH
      obtain ⟨v49, V2, hr, ho, hg⟩ := app38 A0.out (by have := (A0.out.lt g0 rfl).2; omega) (LO.out V1 B0.out) (by omega) 30
      have A4 : Hid (V2.ownsRow g0 38 4 v49 (0 + k) ([] ++ lo)) := ho
      have BN : Hid (Below wr.heap.size wr V2) := below_grown2 B0.out hg B0.out.size (fun q hq => by have e : q = g0 := (by injection hq with hq; exact hq.symm); rw [e]; exact Z0.out)
      refine wp_append_at (.tmp 45) (.tmp 48) 30 rfl _ v49 _ rfl rfl hr ?_
      refine hK.out _ _ BN.out (fun hH => ?_)
      clear hK K hr ho hg A0 B0
      try simp only [Act.put, y1, y2, y3, y4, y5, y6, y7]
      have B0 : Hid (Below wr.heap.size wr V2) := BN.out
      clear BN
      refine wpAnyH_ready (rs := [6]) (by kernel_rfl) (by simp) ?_
      refine AllReadyH.cons rfl (fun K hK => ?_) (AllReadyH.nil)
      clear hH
      go_simp
      have R0 : Hid (IHolds (V2.alloc (.cells #[.string nm, .int .i64 x1, .string x2, .string x3] 38)) V2.heap.size 38 [.string nm, .int .i64 x1, .string x2, .string x3]) := IHolds.new V2 38 _
      have BN : Hid (Below wr.heap.size wr (V2.alloc (.cells #[.string nm, .int .i64 x1, .string x2, .string x3] 38))) := B0.out.alloc B0.out.size _
      have SB : Hid ((V2.alloc (.cells #[.string nm, .int .i64 x1, .string x2, .string x3] 38)).heap.size = V2.heap.size + 1) := by show _ = _; simp
      refine hK.out _ _ BN.out (fun hH => ?_)
      clear hK K
      try simp only [Act.put, y1, y2, y3, y4, y5, y6, y7]
      have AN : Hid ((V2.alloc (.cells #[.string nm, .int .i64 x1, .string x2, .string x3] 38)).ownsRow g0 38 4 v49 (0 + k) ([] ++ lo)) := A4.out.alloc _
      clear A4
      generalize hg : V2.heap.size = g1 at *
      generalize V2.alloc (.cells #[.string nm, .int .i64 x1, .string x2, .string x3] 38) = V3 at *
      clear hg B0
      have B0 : Hid (Below wr.heap.size wr V3) := BN.out
      clear BN
      have A4 : Hid (V3.ownsRow g0 38 4 v49 (0 + k) ([] ++ lo)) := AN.out
      clear AN
      refine wpAnyH_ready (rs := [7]) (by kernel_rfl) (by simp) ?_
      refine AllReadyH.cons rfl (fun K hK => ?_) (AllReadyH.nil)
      clear hH
      have A5 : Hid (V3.ownsRow wr.heap.size 38 4 v49 (0 + k) ([] ++ lo)) := own_mono A4.out Z0.out
      clear A4
      obtain ⟨v52, V8, hr, ho, hg⟩ := app38 A5.out B0.out.size (lr_box R0.out) (by omega) 30
      have A8 : Hid (V8.ownsRow wr.heap.size 38 4 v52 (0 + k + 1) ([] ++ lo ++ [.string nm, .int .i64 x1, .string x2, .string x3])) := ho
      have BN : Hid (Below wr.heap.size wr V8) := below_app B0.out A5.out hg
      refine wp_append_at (.tmp 49) (.tmp 51) 30 rfl _ v52 _ rfl rfl hr ?_
      refine hK.out _ _ BN.out (fun hH => ?_)
      clear hK K hr ho hg A5 B0 R0
      try simp only [Act.put, y1, y2, y3, y4, y5, y6, y7]
      refine wpAnyH_ready (rs := [11]) (by kernel_rfl) (by simp) ?_
      refine AllReadyH.cons rfl (fun K hK => ?_) (AllReadyH.nil)
      clear hH
      obtain ⟨v56, V9, hr, ho, hg⟩ := app38 A8.out BN.out.size (HI.out V8 BN.out) (by omega) 30
      have A9 : Hid (V9.ownsRow wr.heap.size 38 4 v56 (0 + k + 1 + m) ([] ++ lo ++ [.string nm, .int .i64 x1, .string x2, .string x3] ++ hi)) := ho
      have B9 : Hid (Below wr.heap.size wr V9) := below_app BN.out A8.out hg
      refine wp_append_at (.tmp 52) (.tmp 55) 30 rfl _ v56 _ rfl rfl hr ?_
      refine hK.out _ _ B9.out (fun hH => ?_)
      clear hK K hr ho hg A8 BN
      try simp only [Act.put, y1, y2, y3, y4, y5, y6, y7]
      refine tk (i := 12) (v := v56) rfl (by kernel_rfl) (fun _ _ _ h => HP.out _ _ _ _ h) (by kernel_rfl) ?_ hH ?_
      · intro V hS
        go_simp
      simp only [Act.put, y1, y2, y3, y4, y5, y6, y7]
      refine wpAnyH_done (by kernel_rfl) ?_ _
      have A10 : V9.ownsRow wr.heap.size 38 4 v56 (k + 1 + m) (lo ++ [.string nm, .int .i64 x1, .string x2, .string x3] ++ hi) := by simpa using A9.out
      exact HQ.out _ _ _ _ _ _ _ _ _ _ _ _ v56 V9 A10 B9.out
    · clear hH
      go_simp
      have R0 : Hid (IHolds (V1.alloc (.cells #[.string nm, .int .i64 x1, .string x2, .string x3] 38)) V1.heap.size 38 [.string nm, .int .i64 x1, .string x2, .string x3]) := IHolds.new V1 38 _
      have BN : Hid (Below wr.heap.size wr (V1.alloc (.cells #[.string nm, .int .i64 x1, .string x2, .string x3] 38))) := B0.out.alloc B0.out.size _
      have SB : Hid ((V1.alloc (.cells #[.string nm, .int .i64 x1, .string x2, .string x3] 38)).heap.size = V1.heap.size + 1) := by show _ = _; simp
      refine hK.out _ _ BN.out (fun hH => ?_)
      clear hK K
      try simp only [Act.put, y1, y2, y3, y4, y5, y6, y7]
      have AN : Hid ((V1.alloc (.cells #[.string nm, .int .i64 x1, .string x2, .string x3] 38)).ownsRow g0 38 4 (.slice (some ⟨g0, 0, none⟩) 0 0) 0 []) := A0.out.alloc _
      clear A0
      have GN : Hid (V1.heap.size ≠ g0) := by show _ ≠ _; have := SG.out; omega
      generalize hg : V1.heap.size = g1 at *
      generalize V1.alloc (.cells #[.string nm, .int .i64 x1, .string x2, .string x3] 38) = V2 at *
      clear hg B0
      have B0 : Hid (Below wr.heap.size wr V2) := BN.out
      clear BN
      have A0 : Hid (V2.ownsRow g0 38 4 (.slice (some ⟨g0, 0, none⟩) 0 0) 0 []) := AN.out
      clear AN
      refine wpAnyH_ready (rs := [4]) (by kernel_rfl) (by simp) ?_
      refine AllReadyH.cons rfl (fun K hK => ?_) (AllReadyH.nil)
      clear hH
      obtain ⟨v49, V3, hr, ho, hg⟩ := app38 A0.out (by have := (A0.out.lt g0 rfl).2; omega) (LO.out V2 B0.out) (by omega) 30
      have A4 : Hid (V3.ownsRow g0 38 4 v49 (0 + k) ([] ++ lo)) := ho
      have BN : Hid (Below wr.heap.size wr V3) := below_grown2 B0.out hg B0.out.size (fun q hq => by have e : q = g0 := (by injection hq with hq; exact hq.symm); rw [e]; exact Z0.out)
      have RN : Hid (IHolds V3 g1 38 [.string nm, .int .i64 x1, .string x2, .string x3]) := (hg.block g1 R0.out.lt (fun e => GN.out (by injection e))).trans R0.out
      clear R0
      refine wp_append_at (.tmp 45) (.tmp 48) 30 rfl _ v49 _ rfl rfl hr ?_
      refine hK.out _ _ BN.out (fun hH => ?_)
      clear hK K hr ho hg A0 B0
      try simp only [Act.put, y1, y2, y3, y4, y5, y6, y7]
      have B0 : Hid (Below wr.heap.size wr V3) := BN.out
      clear BN
      have R0 : Hid (IHolds V3 g1 38 [.string nm, .int .i64 x1, .string x2, .string x3]) := RN.out
      clear RN
      refine wpAnyH_ready (rs := [7]) (by kernel_rfl) (by simp) ?_
      refine AllReadyH.cons rfl (fun K hK => ?_) (AllReadyH.nil)
      clear hH
      have A5 : Hid (V3.ownsRow wr.heap.size 38 4 v49 (0 + k) ([] ++ lo)) := own_mono A4.out Z0.out
      clear A4
      obtain ⟨v52, V8, hr, ho, hg⟩ := app38 A5.out B0.out.size (lr_box R0.out) (by omega) 30
      have A8 : Hid (V8.ownsRow wr.heap.size 38 4 v52 (0 + k + 1) ([] ++ lo ++ [.string nm, .int .i64 x1, .string x2, .string x3])) := ho
      have BN : Hid (Below wr.heap.size wr V8) := below_app B0.out A5.out hg
      refine wp_append_at (.tmp 49) (.tmp 51) 30 rfl _ v52 _ rfl rfl hr ?_
      refine hK.out _ _ BN.out (fun hH => ?_)
      clear hK K hr ho hg A5 B0 R0
      try simp only [Act.put, y1, y2, y3, y4, y5, y6, y7]
      refine wpAnyH_ready (rs := [11]) (by kernel_rfl) (by simp) ?_
      refine AllReadyH.cons rfl (fun K hK => ?_) (AllReadyH.nil)
      clear hH
      obtain ⟨v56, V9, hr, ho, hg⟩ := app38 A8.out BN.out.size (HI.out V8 BN.out) (by omega) 30
      have A9 : Hid (V9.ownsRow wr.heap.size 38 4 v56 (0 + k + 1 + m) ([] ++ lo ++ [.string nm, .int .i64 x1, .string x2, .string x3] ++ hi)) := ho
      have B9 : Hid (Below wr.heap.size wr V9) := below_app BN.out A8.out hg
      refine wp_append_at (.tmp 52) (.tmp 55) 30 rfl _ v56 _ rfl rfl hr ?_
      refine hK.out _ _ B9.out (fun hH => ?_)
      clear hK K hr ho hg A8 BN
      try simp only [Act.put, y1, y2, y3, y4, y5, y6, y7]
      refine tk (i := 12) (v := v56) rfl (by kernel_rfl) (fun _ _ _ h => HP.out _ _ _ _ h) (by kernel_rfl) ?_ hH ?_
      · intro V hS
        go_simp
      simp only [Act.put, y1, y2, y3, y4, y5, y6, y7]
      refine wpAnyH_done (by kernel_rfl) ?_ _
      have A10 : V9.ownsRow wr.heap.size 38 4 v56 (k + 1 + m) (lo ++ [.string nm, .int .i64 x1, .string x2, .string x3] ++ hi) := by simpa using A9.out
      exact HQ.out _ _ _ _ _ _ _ _ _ _ _ _ v56 V9 A10 B9.out
  · clear hH
    have B0 : Hid (Below wr.heap.size wr V0) := BD0.out
    have Z0 : Hid (wr.heap.size ≤ V0.heap.size) := B0.out.size
    go_simp
    have R0 : Hid (IHolds (V0.alloc (.cells #[.string nm, .int .i64 x1, .string x2, .string x3] 38)) V0.heap.size 38 [.string nm, .int .i64 x1, .string x2, .string x3]) := IHolds.new V0 38 _
    have BN : Hid (Below wr.heap.size wr (V0.alloc (.cells #[.string nm, .int .i64 x1, .string x2, .string x3] 38))) := B0.out.alloc B0.out.size _
    have SB : Hid ((V0.alloc (.cells #[.string nm, .int .i64 x1, .string x2, .string x3] 38)).heap.size = V0.heap.size + 1) := by show _ = _; simp
    have Z1 : Hid (wr.heap.size ≤ V0.heap.size + 1) := by show _ ≤ _; have := Z0.out; omega
    refine hK.out _ _ BN.out (fun hH => ?_)
    clear hK K
    try simp only [Act.put, y1, y2, y3, y4, y5, y6, y7]
    generalize hg : V0.heap.size = g1 at *
    generalize V0.alloc (.cells #[.string nm, .int .i64 x1, .string x2, .string x3] 38) = V1 at *
    have ZS : Hid (V1.heap.size = g1 + 1) := SB.out
    clear SB
    have SB : Hid (V1.heap.size = g1 + 1) := ZS.out
    clear ZS
    have Z2 : Hid (wr.heap.size ≤ V1.heap.size) := BN.out.size
    clear Z1
    have Z1 : Hid (wr.heap.size ≤ V1.heap.size) := Z2.out
    clear Z2
    clear hg B0
    have B0 : Hid (Below wr.heap.size wr V1) := BN.out
    clear BN
    refine wpAnyH_ready (rs := [0]) (by kernel_rfl) (by simp) ?_
    refine AllReadyH.cons rfl (fun K hK => ?_) (AllReadyH.nil)
    clear hH
    go_simp
    have A0 : Hid ((V1.alloc (.cells #[] 38)).ownsRow V1.heap.size 38 4 (.slice (some ⟨V1.heap.size, 0, none⟩) 0 0) 0 []) := World.ownsRow_lit V1 #[] 0 (Nat.le_refl _) (by unfold maxLen; omega) rfl
    have BN : Hid (Below wr.heap.size wr (V1.alloc (.cells #[] 38))) := B0.out.alloc B0.out.size _
    have SG : Hid ((V1.alloc (.cells #[] 38)).heap.size = V1.heap.size + 1) := by show _ = _; simp
    refine hK.out _ _ BN.out (fun hH => ?_)
    clear hK K
    try simp only [Act.put, y1, y2, y3, y4, y5, y6, y7]
    have RN : Hid (IHolds (V1.alloc (.cells #[] 38)) g1 38 [.string nm, .int .i64 x1, .string x2, .string x3]) := R0.out.alloc _
    clear R0
    generalize hg : V1.heap.size = g0 at *
    generalize V1.alloc (.cells #[] 38) = V2 at *
    have GN : Hid (g1 ≠ g0) := by show _ ≠ _; have := SB.out; omega
    clear hg B0 SB
    have B0 : Hid (Below wr.heap.size wr V2) := BN.out
    clear BN
    have R0 : Hid (IHolds V2 g1 38 [.string nm, .int .i64 x1, .string x2, .string x3]) := RN.out
    clear RN
    have ZZ : Hid (wr.heap.size ≤ g0) := by show _ ≤ _; have := Z1.out; omega
    clear Z0 Z1
    have Z0 : Hid (wr.heap.size ≤ g0) := ZZ.out
    clear ZZ
    refine wpAnyH_ready (rs := [4]) (by kernel_rfl) (by simp) ?_
    refine AllReadyH.cons rfl (fun K hK => ?_) (AllReadyH.nil)
    clear hH
    obtain ⟨v49, V3, hr, ho, hg⟩ := app38 A0.out (by have := (A0.out.lt g0 rfl).2; omega) (LO.out V2 B0.out) (by omega) 30
    have A4 : Hid (V3.ownsRow g0 38 4 v49 (0 + k) ([] ++ lo)) := ho
    have BN : Hid (Below wr.heap.size wr V3) := below_grown2 B0.out hg B0.out.size (fun q hq => by have e : q = g0 := (by injection hq with hq; exact hq.symm); rw [e]; exact Z0.out)
    have RN : Hid (IHolds V3 g1 38 [.string nm, .int .i64 x1, .string x2, .string x3]) := (hg.block g1 R0.out.lt (fun e => GN.out (by injection e))).trans R0.out
    clear R0
    refine wp_append_at (.tmp 45) (.tmp 48) 30 rfl _ v49 _ rfl rfl hr ?_
    refine hK.out _ _ BN.out (fun hH => ?_)
    clear hK K hr ho hg A0 B0
    try simp only [Act.put, y1, y2, y3, y4, y5, y6, y7]
    have B0 : Hid (Below wr.heap.size wr V3) := BN.out
    clear BN
    have R0 : Hid (IHolds V3 g1 38 [.string nm, .int .i64 x1, .string x2, .string x3]) := RN.out
    clear RN
    refine wpAnyH_ready (rs := [7]) (by kernel_rfl) (by simp) ?_
    refine AllReadyH.cons rfl (fun K hK => ?_) (AllReadyH.nil)
    clear hH
    have A5 : Hid (V3.ownsRow wr.heap.size 38 4 v49 (0 + k) ([] ++ lo)) := own_mono A4.out Z0.out
    clear A4
    obtain ⟨v52, V8, hr, ho, hg⟩ := app38 A5.out B0.out.size (lr_box R0.out) (by omega) 30
    have A8 : Hid (V8.ownsRow wr.heap.size 38 4 v52 (0 + k + 1) ([] ++ lo ++ [.string nm, .int .i64 x1, .string x2, .string x3])) := ho
    have BN : Hid (Below wr.heap.size wr V8) := below_app B0.out A5.out hg
    refine wp_append_at (.tmp 49) (.tmp 51) 30 rfl _ v52 _ rfl rfl hr ?_
    refine hK.out _ _ BN.out (fun hH => ?_)
    clear hK K hr ho hg A5 B0 R0
    try simp only [Act.put, y1, y2, y3, y4, y5, y6, y7]
    refine wpAnyH_ready (rs := [11]) (by kernel_rfl) (by simp) ?_
    refine AllReadyH.cons rfl (fun K hK => ?_) (AllReadyH.nil)
    clear hH
    obtain ⟨v56, V9, hr, ho, hg⟩ := app38 A8.out BN.out.size (HI.out V8 BN.out) (by omega) 30
    have A9 : Hid (V9.ownsRow wr.heap.size 38 4 v56 (0 + k + 1 + m) ([] ++ lo ++ [.string nm, .int .i64 x1, .string x2, .string x3] ++ hi)) := ho
    have B9 : Hid (Below wr.heap.size wr V9) := below_app BN.out A8.out hg
    refine wp_append_at (.tmp 52) (.tmp 55) 30 rfl _ v56 _ rfl rfl hr ?_
    refine hK.out _ _ B9.out (fun hH => ?_)
    clear hK K hr ho hg A8 BN
    try simp only [Act.put, y1, y2, y3, y4, y5, y6, y7]
    refine tk (i := 12) (v := v56) rfl (by kernel_rfl) (fun _ _ _ h => HP.out _ _ _ _ h) (by kernel_rfl) ?_ hH ?_
    · intro V hS
      go_simp
    simp only [Act.put, y1, y2, y3, y4, y5, y6, y7]
    refine wpAnyH_done (by kernel_rfl) ?_ _
    have A10 : V9.ownsRow wr.heap.size 38 4 v56 (k + 1 + m) (lo ++ [.string nm, .int .i64 x1, .string x2, .string x3] ++ hi) := by simpa using A9.out
    exact HQ.out _ _ _ _ _ _ _ _ _ _ _ _ v56 V9 A10 B9.out
end Go.Proofs.Ytafekaonmpkhiaa
