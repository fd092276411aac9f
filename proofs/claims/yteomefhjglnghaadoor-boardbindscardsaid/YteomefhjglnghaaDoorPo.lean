/- partsOf. -/
import Derived.Test.YteomefhjglnghaaDoorPb
import Derived.Test.YteomefhjglnghaaDoorRh
set_option linter.unusedSimpArgs false
set_option linter.unusedVariables false
namespace Go.Proofs.YteomefhjglnghaaDoor
open Go.RowKit Go.Shelf Go.PlainAid

attribute [local go_sem] Oper.semAt_some

/-- Parts as the cells hold them. -/
def flat3 : List ((Nat × Nat) × ByteArray) → List Value
  | [] => []
  | p :: l => .int .i64 (p.1.1 : Int) :: .int .i64 (p.1.2 : Int) :: .string p.2 :: flat3 l
theorem flat3_len : ∀ l, (flat3 l).length = l.length * 3
  | [] => rfl
  | p :: l => by simp [flat3, flat3_len l]; omega
theorem flat3_append : ∀ l r, flat3 (l ++ r) = flat3 l ++ flat3 r
  | [], r => rfl
  | p :: l, r => by simp [flat3, flat3_append l r]
theorem flat3_at : ∀ (l : List ((Nat × Nat) × ByteArray)) (i : Nat) (h : i < l.length), (flat3 l)[3 * i]? = some (.int .i64 (l[i].1.1 : Int)) ∧ (flat3 l)[3 * i + 1]? = some (.int .i64 (l[i].1.2 : Int)) ∧ (flat3 l)[3 * i + 2]? = some (.string l[i].2)
  | [], i, h => by simp at h
  | p :: l, 0, h => by simp [flat3]
  | p :: l, i + 1, h => by
    have := flat3_at l i (by simpa using h)
    rw [show 3 * (i + 1) = 3 * i + 1 + 1 + 1 by omega, flat3]
    simpa using this
/-- A list of parts, to be read. -/
def PTL (w : World) (a : Option Addr) (l : List ((Nat × Nat) × ByteArray)) : Prop := ∀ j u, (flat3 l)[j]? = some u → ∃ b o, a = some ⟨b, o, none⟩ ∧ w.cell? ⟨b, o + j, none⟩ = some u
theorem PTL.of_below {w w' : World} {a : Option Addr} {l : List ((Nat × Nat) × ByteArray)} (h : PTL w a l) (hb : Below w.heap.size w w') : PTL w' a l := fun j u hj => by
  obtain ⟨b, o, rfl, hc⟩ := h j u hj
  exact ⟨b, o, rfl, cell_keep hc hb⟩
theorem own_ptl {w : World} {base n : Nat} {v : Value} {l : List ((Nat × Nat) × ByteArray)} (hn : l.length = n) (h : w.ownsRow base 46 3 v n (flat3 l)) : ∃ a c, v = .slice a n c ∧ PTL w a l := by
  subst hn
  obtain ⟨hl, ⟨rfl, h0⟩ | ⟨g, cap, cur, rfl, h1, hg, h2, h3, h4, h5⟩⟩ := h
  · refine ⟨none, 0, by rw [h0], fun j u hj => ?_⟩
    have e : l = [] := List.length_eq_zero_iff.1 h0
    subst e
    simp [flat3] at hj
  · refine ⟨_, _, rfl, fun j u hj => ⟨g, 0, rfl, ?_⟩⟩
    have hlt : j < l.length * 3 := by
      have := (List.getElem?_eq_some_iff.1 hj).1
      rw [flat3_len] at this
      exact this
    rw [← h5, List.getElem?_take_of_lt hlt, Array.getElem?_toList] at hj
    rw [Nat.zero_add]
    unfold World.cell?
    simp [hg, hj]
theorem PTL.three {w : World} {a : Option Addr} {l : List ((Nat × Nat) × ByteArray)} (h : PTL w a l) (i : Nat) (hi : i < l.length) : ∃ b o, a = some ⟨b, o, none⟩ ∧ w.cell? ⟨b, o + i * 3, none⟩ = some (.int .i64 (l[i].1.1 : Int)) ∧ w.cell? ⟨b, o + i * 3 + 1, none⟩ = some (.int .i64 (l[i].1.2 : Int)) ∧ w.cell? ⟨b, o + i * 3 + 2, none⟩ = some (.string l[i].2) := by
  obtain ⟨q1, q2, q3⟩ := flat3_at l i hi
  obtain ⟨b, o, rfl, h1⟩ := h _ _ q1
  obtain ⟨b', o', e, h2⟩ := h _ _ q2
  obtain ⟨rfl, rfl⟩ : b' = b ∧ o' = o := by simpa [eq_comm] using e
  obtain ⟨b'', o'', e, h3⟩ := h _ _ q3
  obtain ⟨rfl, rfl⟩ : b'' = b' ∧ o'' = o' := by simpa [eq_comm] using e
  refine ⟨_, _, rfl, ?_, ?_, ?_⟩
  · rw [Nat.mul_comm i 3]; exact h1
  · rw [Nat.mul_comm i 3, Nat.add_assoc]; exact h2
  · rw [Nat.mul_comm i 3, Nat.add_assoc]; exact h3
theorem info50 : (Tryd.prog.info? 46).map (fun i => (i.zero, i.size, i.bytes)) = some (some (.agg #[.int .i64 0, .int .i64 0, .string ⟨#[]⟩]), 3, 32) := by kernel_rfl
theorem three_news (w : World) (x y z : Value) : ∀ j u, [x, y, z][j]? = some u → (w.alloc (.cells #[x, y, z] 46)).cell? ((⟨w.heap.size, 0, none⟩ : Addr).add j) = some u := fun j u hj => by
  have I := IHolds.new w 46 [x, y, z]
  match j, hj with
  | 0, hj => simp at hj; subst hj; exact I.cell 0 (by simp)
  | 1, hj => simp at hj; subst hj; exact I.cell 1 (by simp)
  | 2, hj => simp at hj; subst hj; exact I.cell 2 (by simp)
/-- The body's region. -/
def b7 : Code := .region 7 #[{ dst := some 29, op := Go.Op.load 40 (Go.Operand.tmp 8), type := 40, pos := "blocks.go:65", after := #[], guard := none }, { dst := some 30, op := Go.Op.load 37 (Go.Operand.tmp 9), type := 37, pos := "blocks.go:65", after := #[], guard := none }, { dst := some 31, op := Go.Op.load 22 (Go.Operand.tmp 5), type := 22, pos := "blocks.go:65", after := #[], guard := none }, { dst := some 32, op := Go.Op.move (Go.Operand.tmp 10), type := 3, pos := "blocks.go:65", after := #[], guard := none }, { dst := some 33, op := Go.Op.indexAddr 22 (Go.Operand.tmp 31) (Go.Operand.tmp 32), type := 0, pos := "blocks.go:65", after := #[{ on := 2, ground := Go.Ground.data }, { on := 3, ground := Go.Ground.data }], guard := none }, { dst := some 34, op := Go.Op.load 9 (Go.Operand.tmp 33), type := 9, pos := "blocks.go:65", after := #[{ on := 4, ground := Go.Ground.data }], guard := none }, { dst := some 35, op := Go.Op.build 46 #[(0, Go.Operand.tmp 30), (1, Go.Operand.tmp 34)], type := 46, pos := "blocks.go:65", after := #[{ on := 1, ground := Go.Ground.data }, { on := 5, ground := Go.Ground.data }], guard := none }, { dst := some 36, op := Go.Op.buildSlice 40 1 #[(0, Go.Operand.tmp 35)], type := 40, pos := "blocks.go:65", after := #[{ on := 6, ground := Go.Ground.data }], guard := none }, { dst := some 37, op := Go.Op.call { callee := Go.Callee.builtin Go.Builtin.append, args := #[Go.Operand.tmp 29, Go.Operand.tmp 36], argTypes := #[40, 40] }, type := 40, pos := "blocks.go:65", after := #[{ on := 0, ground := Go.Ground.data }, { on := 7, ground := Go.Ground.data }], guard := none }, { dst := none, op := Go.Op.store 40 (Go.Operand.tmp 8) (Go.Operand.tmp 37), type := 0, pos := "blocks.go:65", after := #[{ on := 8, ground := Go.Ground.data }, { on := 8, ground := Go.Ground.chain }, { on := 0, ground := Go.Ground.phase }, { on := 1, ground := Go.Ground.phase }, { on := 2, ground := Go.Ground.phase }, { on := 3, ground := Go.Ground.phase }, { on := 4, ground := Go.Ground.phase }, { on := 5, ground := Go.Ground.phase }, { on := 6, ground := Go.Ground.phase }, { on := 7, ground := Go.Ground.phase }, { on := 8, ground := Go.Ground.phase }], guard := none }] true
set_option maxRecDepth 100000 in
set_option maxHeartbeats 4000000 in
theorem body18 {l m : Nat} {W : World} {Bo Bd Bx b o n c p1 p2 n₀ k : Nat} {v : Value} {xs : List Value} {s : ByteArray} {R : Act → World → Prop} {t0 t1 t2 t3 t4 t6 t7 t11 t12 t13 t14 t15 t16 t17 t18 t19 t20 t21 t22 t23 t24 t25 t26 t27 t28 t29 t30 t31 t32 t33 t34 t35 t36 t37 t38 t39 t40 t41 t42 t43 : Value}
    (k1 : (k : Int) < (n : Int)) (hk : k < 1048576) (hn₀ : n₀ ≤ W.heap.size) (hB : n₀ ≤ Bo) (hb0 : b < n₀)
    (hbo : Boxed W Bo 40 v) (hrow : W.ownsRow n₀ 46 3 v k xs) (q1 : Boxed W Bd 22 (.slice (some ⟨b, o, none⟩) n c)) (bX : IHolds W Bx 37 [.int .i64 (p1 : Int), .int .i64 (p2 : Int)]) (hsc : W.cell? ⟨b, o + k, none⟩ = some (.string s)) (hne : Bd ≠ Bo)
    (hQ : ∀ V v' g cap u29 u30 u31 u32 u33 u34 u35 u36 u37, V.ownsRow n₀ 46 3 v' (k + 1) (xs ++ [.int .i64 (p1 : Int), .int .i64 (p2 : Int), .string s]) → v' = .slice (some ⟨g, 0, none⟩) (k + 1) cap → KeepsOthers W V → Below n₀ W V → Two W V → Boxed V Bo 40 v' → (∀ B t u, Boxed W B t u → B ≠ Bo → t ≠ 46 → Boxed V B t u) → R ⟨#[t0, t1, t2, t3, t4, .pointer (some ⟨Bd, 0, none⟩), t6, t7, .pointer (some ⟨Bo, 0, none⟩), .pointer (some ⟨Bx, 0, none⟩), .int .i64 (k : Int), t11, t12, t13, t14, t15, t16, t17, t18, t19, t20, t21, t22, t23, t24, t25, t26, t27, t28, u29, u30, u31, u32, u33, u34, u35, u36, u37, t38, t39, t40, t41, t42, t43], []⟩ V) :
    b7.wpIn (Fence.wide.inRound l) m Tryd.prog (fun e aa ww => match e with | .normal => R aa ww | _ => False) ⟨#[t0, t1, t2, t3, t4, .pointer (some ⟨Bd, 0, none⟩), t6, t7, .pointer (some ⟨Bo, 0, none⟩), .pointer (some ⟨Bx, 0, none⟩), .int .i64 (k : Int), t11, t12, t13, t14, t15, t16, t17, t18, t19, t20, t21, t22, t23, t24, t25, t26, t27, t28, t29, t30, t31, t32, t33, t34, t35, t36, t37, t38, t39, t40, t41, t42, t43], []⟩ W := by
  have HQ : Hid (∀ V v' g cap u29 u30 u31 u32 u33 u34 u35 u36 u37, V.ownsRow n₀ 46 3 v' (k + 1) (xs ++ [.int .i64 (p1 : Int), .int .i64 (p2 : Int), .string s]) → v' = .slice (some ⟨g, 0, none⟩) (k + 1) cap → KeepsOthers W V → Below n₀ W V → Two W V → Boxed V Bo 40 v' → (∀ B t u, Boxed W B t u → B ≠ Bo → t ≠ 46 → Boxed V B t u) → R ⟨#[t0, t1, t2, t3, t4, .pointer (some ⟨Bd, 0, none⟩), t6, t7, .pointer (some ⟨Bo, 0, none⟩), .pointer (some ⟨Bx, 0, none⟩), .int .i64 (k : Int), t11, t12, t13, t14, t15, t16, t17, t18, t19, t20, t21, t22, t23, t24, t25, t26, t27, t28, u29, u30, u31, u32, u33, u34, u35, u36, u37, t38, t39, t40, t41, t42, t43], []⟩ V) := hQ
  have KQ : Hid (∀ V, Below n₀ W V → Two W V → V.cell? ⟨Bd, 0, none⟩ = some (.slice (some ⟨b, o, none⟩) n c) → (Below n₀ W V ∧ V.cell? ⟨Bd, 0, none⟩ = some (.slice (some ⟨b, o, none⟩) n c) ∧ V.cell? ⟨Bx, 0, none⟩ = some (.int .i64 (p1 : Int)) ∧ V.cell? ⟨Bx, 1, none⟩ = some (.int .i64 (p2 : Int)) ∧ V.cell? ⟨b, o + k, none⟩ = some (.string s))) := fun V hV hT hE => ⟨hV, hE, (World.cell?_of_block (a := ⟨Bx, 0, none⟩) (hT Bx _ _ bX (Or.inl rfl))).trans (bX.cell 0 (by simp)), (World.cell?_of_block (a := ⟨Bx, 1, none⟩) (hT Bx _ _ bX (Or.inl rfl))).trans (bX.cell 1 (by simp)), (hV.cell (p := ⟨b, o + k, none⟩) hb0).trans hsc⟩
  have HR : Hid (W.ownsRow n₀ 46 3 v k xs) := hrow
  have HBo : Hid (Boxed W Bo 40 v) := hbo
  have HBe : Hid (Boxed W Bd 22 (.slice (some ⟨b, o, none⟩) n c)) := q1
  obtain ⟨i0, hi0, hz0, hz1, hz2⟩ := info_parts info50
  clear hQ hrow q1 bX hbo hsc
  unfold b7
  refine round_held (S := fun V => Below n₀ W V ∧ V.cell? ⟨Bd, 0, none⟩ = some (.slice (some ⟨b, o, none⟩) n c) ∧ V.cell? ⟨Bx, 0, none⟩ = some (.int .i64 (p1 : Int)) ∧ V.cell? ⟨Bx, 1, none⟩ = some (.int .i64 (p2 : Int)) ∧ V.cell? ⟨b, o + k, none⟩ = some (.string s)) (by kernel_rfl) (by kernel_rfl) (fun h => by obtain ⟨a, w, h⟩ := h; exact h) (KQ.out _ (Below.refl _ W).drew (fun _ _ _ _ _ => rfl) (Boxed.cell HBe.out)) (fun hH0 => ?_)
  have D0 : Hid (Below W.heap.size W W.drew) := (Below.refl _ W).drew
  generalize W.drew = v0 at *
  refine tk (i := 1) (v := .agg #[.int .i64 (p1 : Int), .int .i64 (p2 : Int)]) rfl (by kernel_rfl) (fun _ _ _ h => h) rfl ?_ hH0 ?_
  · intro V hS; obtain ⟨_, q1, q2, q3, q4⟩ := hS; go_simp
  simp only [Act.put, List.size_toArray, List.setIfInBounds_toArray, List.set_cons_zero, List.set_cons_succ]
  refine tk (i := 2) (v := .slice (some ⟨b, o, none⟩) n c) rfl (by kernel_rfl) (fun _ _ _ h => h) rfl ?_ hH0 ?_
  · intro V hS; obtain ⟨_, q1, q2, q3, q4⟩ := hS; go_simp
  simp only [Act.put, List.size_toArray, List.setIfInBounds_toArray, List.set_cons_zero, List.set_cons_succ]
  refine tk (i := 3) (v := .int .i64 (k : Int)) rfl (by kernel_rfl) (fun _ _ _ h => h) rfl ?_ hH0 ?_
  · intro V hS; obtain ⟨_, q1, q2, q3, q4⟩ := hS; go_simp
  simp only [Act.put, List.size_toArray, List.setIfInBounds_toArray, List.set_cons_zero, List.set_cons_succ]
  refine tk (i := 4) (v := .pointer (some ⟨b, o + k, none⟩)) rfl (by kernel_rfl) (fun _ _ _ h => h) rfl ?_ hH0 ?_
  · intro V hS; obtain ⟨_, q1, q2, q3, q4⟩ := hS; go_simp
  simp only [Act.put, List.size_toArray, List.setIfInBounds_toArray, List.set_cons_zero, List.set_cons_succ]
  refine tk (i := 5) (v := .string s) rfl (by kernel_rfl) (fun _ _ _ h => h) rfl ?_ hH0 ?_
  · intro V hS; obtain ⟨_, q1, q2, q3, q4⟩ := hS; go_simp
  simp only [Act.put, List.size_toArray, List.setIfInBounds_toArray, List.set_cons_zero, List.set_cons_succ]
  refine tk (i := 6) (v := .agg #[.int .i64 (p1 : Int), .int .i64 (p2 : Int), .string s]) rfl (by kernel_rfl) (fun _ _ _ h => h) rfl ?_ hH0 ?_
  · intro V hS; obtain ⟨_, q1, q2, q3, q4⟩ := hS; go_simp
  simp only [Act.put, List.size_toArray, List.setIfInBounds_toArray, List.set_cons_zero, List.set_cons_succ]
  refine wpAnyH_ready (rs := [0, 7]) (by kernel_rfl) (by simp) ?_
  refine AllReadyH.cons rfl (fun K hK => ?_) ?_
  · clear hH0
    have hc0 : v0.cell? ⟨Bo, 0, none⟩ = some v := cell_keep (Boxed.cell HBo.out) D0.out
    go_simp
    clear hc0
    refine hK.out _ _ (KQ.out _ (D0.out.mono hn₀) (Two.below D0.out) (Boxed.cell (box_below HBe.out D0.out))) (fun hH1 => ?_)
    clear hK K
    try simp only [Act.put, List.size_toArray, List.setIfInBounds_toArray, List.set_cons_zero, List.set_cons_succ]
    refine wpAnyH_ready (rs := [7]) (by kernel_rfl) (by simp) ?_
    refine AllReadyH.cons rfl (fun K hK => ?_) ?_
    · clear hH1
      go_simp
      have D7 : Hid (Below W.heap.size W (v0.alloc (.cells #[.int .i64 (p1 : Int), .int .i64 (p2 : Int), .string s] 46))) := D0.out.trans ((nB v0 _).mono D0.out.size)
      refine hK.out _ _ (KQ.out _ (D7.out.mono hn₀) (Two.below D7.out) (Boxed.cell (box_below HBe.out D7.out))) (fun hH8 => ?_)
      clear hK K
      try simp only [Act.put, List.size_toArray, List.setIfInBounds_toArray, List.set_cons_zero, List.set_cons_succ]
      refine wpAnyH_ready (rs := [8]) (by kernel_rfl) (by simp) ?_
      refine AllReadyH.cons rfl (fun K hK => ?_) AllReadyH.nil
      clear hH8
      have hO8 : Hid ((v0.alloc (.cells #[.int .i64 (p1 : Int), .int .i64 (p2 : Int), .string s] 46)).ownsRow n₀ 46 3 v k xs) := row_keep HR.out D7.out
      refine wp_append_own _ (.tmp 29) (.tmp 36) 40 rfl n₀ 46 i0 (.agg #[.int .i64 0, .int .i64 0, .string ⟨#[]⟩]) 3 32 Tryd.underlying40 hi0 hz0 hz1 hz2 rfl (by decide) v k xs rfl hO8.out ⟨v0.heap.size, 0, none⟩ 1 1 [.int .i64 (p1 : Int), .int .i64 (p2 : Int), .string s] rfl rfl (three_news v0 _ _ _) (fun u hu => by simp at hu; rcases hu with rfl | rfl | rfl <;> rfl) (by unfold maxLen; omega) (by omega) (Nat.le_trans hn₀ D7.out.size) ?_
      intro v9 w9 hown hgrow hnn
      obtain ⟨g', cap', rfl⟩ := row_end' hown
      have hv7 : Boxed v0 Bo 40 v := box_below HBo.out D0.out
      obtain ⟨hv1, hv2, hr2, hk2, hb2⟩ := Boxed.appended hv7 (by decide) (row_keep HR.out D0.out) (Nat.le_trans hn₀ D0.out.size) hB hown hgrow
      have T9 : Hid (Two W w9) := (Two.below D7.out).trans (Two.grown (by decide) hO8.out hgrow)
      have B9 : Hid (Below n₀ W w9) := (D7.out.mono hn₀).grown hgrow (Nat.le_trans hn₀ D7.out.size) (fun k hk => (hO8.out.lt k hk).1)
      have E9 : Hid (∀ B t u, Boxed W B t u → t ≠ 46 → Boxed w9 B t u) := fun B t u hh ht => Boxed.kept (box_below hh D7.out) hgrow (Boxed.not_row (box_below hh D7.out) ht hO8.out)
      have hc1 := Boxed.cell hv1
      have hf1 := Boxed.frozen hv1
      have HV1 : Hid _ := hv1
      have HV2 : Hid _ := hv2
      have HR2 : Hid _ := hr2
      have HK2 : Hid _ := hk2
      have HB2 : Hid _ := hb2
      clear hv1 hv2 hr2 hk2 hb2 hown hgrow hnn hv7
      refine hK.out _ _ (KQ.out _ B9.out T9.out (Boxed.cell (E9.out _ _ _ HBe.out (by decide)))) (fun hH10 => ?_)
      clear hK K
      try simp only [Act.put, List.size_toArray, List.setIfInBounds_toArray, List.set_cons_zero, List.set_cons_succ]
      refine wpAnyH_ready (rs := [9]) (by kernel_rfl) (by simp) ?_
      refine AllReadyH.cons rfl (fun K hK => ?_) AllReadyH.nil
      clear hH10
      go_simp
      have T10 : Hid (Two W (w9.setCell ⟨Bo, 0, none⟩ (.slice (some ⟨g', 0, none⟩) (k + 1) cap'))) := T9.out.trans (Two.set (by decide) HV1.out _)
      have E10 : Hid (∀ B t u, Boxed W B t u → B ≠ Bo → t ≠ 46 → Boxed (w9.setCell ⟨Bo, 0, none⟩ (.slice (some ⟨g', 0, none⟩) (k + 1) cap')) B t u) := fun B t u hh hne ht => (Below.heap_setCell _ _ _ _ hne).trans (E9.out B t u hh ht)
      have B10 : Hid (Below n₀ W (w9.setCell ⟨Bo, 0, none⟩ (.slice (some ⟨g', 0, none⟩) (k + 1) cap'))) := B9.out.setCell (p := ⟨Bo, 0, none⟩) hB _
      refine hK.out _ _ (KQ.out _ B10.out T10.out (Boxed.cell (E10.out _ _ _ HBe.out hne (by decide)))) (fun hH11 => ?_)
      clear hK K
      try simp only [Act.put, List.size_toArray, List.setIfInBounds_toArray, List.set_cons_zero, List.set_cons_succ]
      refine wpAnyH_done (by kernel_rfl) ?_ _
      exact HQ.out _ _ _ _ _ _ _ _ _ _ _ _ _ HR2.out rfl ((keeps_below D0.out).trans HK2.out) B10.out T10.out HV2.out E10.out
    exact AllReadyH.nil
  refine AllReadyH.cons rfl (fun K hK => ?_) ?_
  · clear hH0
    go_simp
    have D7 : Hid (Below W.heap.size W (v0.alloc (.cells #[.int .i64 (p1 : Int), .int .i64 (p2 : Int), .string s] 46))) := D0.out.trans ((nB v0 _).mono D0.out.size)
    refine hK.out _ _ (KQ.out _ (D7.out.mono hn₀) (Two.below D7.out) (Boxed.cell (box_below HBe.out D7.out))) (fun hH8 => ?_)
    clear hK K
    try simp only [Act.put, List.size_toArray, List.setIfInBounds_toArray, List.set_cons_zero, List.set_cons_succ]
    refine wpAnyH_ready (rs := [0]) (by kernel_rfl) (by simp) ?_
    refine AllReadyH.cons rfl (fun K hK => ?_) ?_
    · clear hH8
      have hc0 : (v0.alloc (.cells #[.int .i64 (p1 : Int), .int .i64 (p2 : Int), .string s] 46)).cell? ⟨Bo, 0, none⟩ = some v := cell_keep (Boxed.cell HBo.out) D7.out
      go_simp
      clear hc0
      refine hK.out _ _ (KQ.out _ (D7.out.mono hn₀) (Two.below D7.out) (Boxed.cell (box_below HBe.out D7.out))) (fun hH1 => ?_)
      clear hK K
      try simp only [Act.put, List.size_toArray, List.setIfInBounds_toArray, List.set_cons_zero, List.set_cons_succ]
      refine wpAnyH_ready (rs := [8]) (by kernel_rfl) (by simp) ?_
      refine AllReadyH.cons rfl (fun K hK => ?_) AllReadyH.nil
      clear hH1
      have hO8 : Hid ((v0.alloc (.cells #[.int .i64 (p1 : Int), .int .i64 (p2 : Int), .string s] 46)).ownsRow n₀ 46 3 v k xs) := row_keep HR.out D7.out
      refine wp_append_own _ (.tmp 29) (.tmp 36) 40 rfl n₀ 46 i0 (.agg #[.int .i64 0, .int .i64 0, .string ⟨#[]⟩]) 3 32 Tryd.underlying40 hi0 hz0 hz1 hz2 rfl (by decide) v k xs rfl hO8.out ⟨v0.heap.size, 0, none⟩ 1 1 [.int .i64 (p1 : Int), .int .i64 (p2 : Int), .string s] rfl rfl (three_news v0 _ _ _) (fun u hu => by simp at hu; rcases hu with rfl | rfl | rfl <;> rfl) (by unfold maxLen; omega) (by omega) (Nat.le_trans hn₀ D7.out.size) ?_
      intro v9 w9 hown hgrow hnn
      obtain ⟨g', cap', rfl⟩ := row_end' hown
      have hv7 : Boxed v0 Bo 40 v := box_below HBo.out D0.out
      obtain ⟨hv1, hv2, hr2, hk2, hb2⟩ := Boxed.appended hv7 (by decide) (row_keep HR.out D0.out) (Nat.le_trans hn₀ D0.out.size) hB hown hgrow
      have T9 : Hid (Two W w9) := (Two.below D7.out).trans (Two.grown (by decide) hO8.out hgrow)
      have B9 : Hid (Below n₀ W w9) := (D7.out.mono hn₀).grown hgrow (Nat.le_trans hn₀ D7.out.size) (fun k hk => (hO8.out.lt k hk).1)
      have E9 : Hid (∀ B t u, Boxed W B t u → t ≠ 46 → Boxed w9 B t u) := fun B t u hh ht => Boxed.kept (box_below hh D7.out) hgrow (Boxed.not_row (box_below hh D7.out) ht hO8.out)
      have hc1 := Boxed.cell hv1
      have hf1 := Boxed.frozen hv1
      have HV1 : Hid _ := hv1
      have HV2 : Hid _ := hv2
      have HR2 : Hid _ := hr2
      have HK2 : Hid _ := hk2
      have HB2 : Hid _ := hb2
      clear hv1 hv2 hr2 hk2 hb2 hown hgrow hnn hv7
      refine hK.out _ _ (KQ.out _ B9.out T9.out (Boxed.cell (E9.out _ _ _ HBe.out (by decide)))) (fun hH10 => ?_)
      clear hK K
      try simp only [Act.put, List.size_toArray, List.setIfInBounds_toArray, List.set_cons_zero, List.set_cons_succ]
      refine wpAnyH_ready (rs := [9]) (by kernel_rfl) (by simp) ?_
      refine AllReadyH.cons rfl (fun K hK => ?_) AllReadyH.nil
      clear hH10
      go_simp
      have T10 : Hid (Two W (w9.setCell ⟨Bo, 0, none⟩ (.slice (some ⟨g', 0, none⟩) (k + 1) cap'))) := T9.out.trans (Two.set (by decide) HV1.out _)
      have E10 : Hid (∀ B t u, Boxed W B t u → B ≠ Bo → t ≠ 46 → Boxed (w9.setCell ⟨Bo, 0, none⟩ (.slice (some ⟨g', 0, none⟩) (k + 1) cap')) B t u) := fun B t u hh hne ht => (Below.heap_setCell _ _ _ _ hne).trans (E9.out B t u hh ht)
      have B10 : Hid (Below n₀ W (w9.setCell ⟨Bo, 0, none⟩ (.slice (some ⟨g', 0, none⟩) (k + 1) cap'))) := B9.out.setCell (p := ⟨Bo, 0, none⟩) hB _
      refine hK.out _ _ (KQ.out _ B10.out T10.out (Boxed.cell (E10.out _ _ _ HBe.out hne (by decide)))) (fun hH11 => ?_)
      clear hK K
      try simp only [Act.put, List.size_toArray, List.setIfInBounds_toArray, List.set_cons_zero, List.set_cons_succ]
      refine wpAnyH_done (by kernel_rfl) ?_ _
      exact HQ.out _ _ _ _ _ _ _ _ _ _ _ _ _ HR2.out rfl ((keeps_below D0.out).trans HK2.out) B10.out T10.out HV2.out E10.out
    exact AllReadyH.nil
  exact AllReadyH.nil
end Go.Proofs.YteomefhjglnghaaDoor
