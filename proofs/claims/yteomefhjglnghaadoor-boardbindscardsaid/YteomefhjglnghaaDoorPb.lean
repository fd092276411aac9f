/- Blocks, on the program's side. -/
import Derived.Test.YteomefhjglnghaaDoorIt
import Derived.Test.YteomefhjglnghaaDoorRb
import Derived.Maps.AppendAt
set_option linter.unusedSimpArgs false
set_option linter.unusedVariables false
namespace Go.Proofs.YteomefhjglnghaaDoor
open Go.RowKit Go.Shelf Go.PlainAid

attribute [local go_sem] Oper.semAt_some

theorem Two.alloc (A : World) (o : Obj) : Two A (A.alloc o) := fun k cs t hk hs => Below.heap_alloc _ _ _ (Array.getElem?_eq_some_iff.1 hk).1
theorem Two.below {A B : World} (h : Below A.heap.size A B) : Two A B := fun k cs t hk hs => h.block k (Array.getElem?_eq_some_iff.1 hk).1
theorem Two.set {A : World} {B : Nat} {t : TypeId} {v : Value} (ht : t ≠ 37 ∧ t ≠ 3) (h : Boxed A B t v) (v' : Value) : Two A (A.setCell ⟨B, 0, none⟩ v') := fun k cs t' hk hs => by
  refine Below.heap_setCell _ _ _ _ (fun e => ?_)
  subst e
  rw [show A.heap[k]? = _ from h] at hk
  cases hk
  rcases hs with rfl | rfl
  · exact ht.1 rfl
  · exact ht.2 rfl
theorem Two.grown {A B : World} {base : Nat} {e : TypeId} {s n : Nat} {v : Value} {xs : List Value} (he : e ≠ 37 ∧ e ≠ 3) (hr : A.ownsRow base e s v n xs) (h : A.grownBy B v.ownBlock) : Two A B := fun k cs t hk hs => h.block k (Array.getElem?_eq_some_iff.1 hk).1 (fun q => by
  obtain ⟨_, ⟨rfl, _⟩ | ⟨g, cap, cur, rfl, _, hg, _⟩⟩ := hr
  · simp [Value.ownBlock] at q
  · have e' : k = g := by simpa [Value.ownBlock] using q
    subst e'
    rw [hg] at hk
    cases hk
    rcases hs with rfl | rfl
    · exact he.1 rfl
    · exact he.2 rfl)
theorem box_below {W V : World} {B : Nat} {t : TypeId} {v : Value} (h : Boxed W B t v) (hb : Below W.heap.size W V) : Boxed V B t v := (hb.block B h.lt).trans h
theorem keeps_below {W V : World} (hb : Below W.heap.size W V) : KeepsOthers W V := ⟨hb.size, fun k o hk _ => (hb.block k (Array.getElem?_eq_some_iff.1 hk).1).trans hk⟩
theorem row_end' {w : World} {base n : Nat} {e : TypeId} {s : Nat} {v : Value} {xs : List Value} (h : w.ownsRow base e s v (n + 1) xs) : ∃ g c, v = .slice (some ⟨g, 0, none⟩) (n + 1) c := by
  obtain ⟨_, ⟨_, h0⟩ | ⟨g, cap, cur, rfl, _⟩⟩ := h
  · omega
  · exact ⟨g, cap, rfl⟩
/-- A span of a cover. -/
abbrev Spn (lo hi : Nat) : Type := {p : Nat × Nat // ∃ j, j ≤ 20 ∧ p.2 = p.1 + 2 ^ j ∧ lo ≤ p.1 ∧ p.2 ≤ hi}
/-- The body's region. -/
def b6 : Code := .region 6 #[{ dst := some 25, op := Go.Op.load 22 (Go.Operand.tmp 8), type := 22, pos := "board.go:28", after := #[], guard := none }, { dst := some 26, op := Go.Op.load 22 (Go.Operand.tmp 3), type := 22, pos := "board.go:28", after := #[], guard := none }, { dst := some 27, op := Go.Op.fieldAddr 37 (Go.Operand.tmp 9) 0, type := 0, pos := "board.go:28", after := #[], guard := none }, { dst := some 28, op := Go.Op.load 3 (Go.Operand.tmp 27), type := 3, pos := "board.go:28", after := #[{ on := 2, ground := Go.Ground.data }], guard := none }, { dst := some 29, op := Go.Op.fieldAddr 37 (Go.Operand.tmp 9) 1, type := 0, pos := "board.go:28", after := #[], guard := none }, { dst := some 30, op := Go.Op.load 3 (Go.Operand.tmp 29), type := 3, pos := "board.go:28", after := #[{ on := 4, ground := Go.Ground.data }], guard := none }, { dst := some 31, op := Go.Op.slice 22 (Go.Operand.tmp 26) (some (Go.Operand.tmp 28)) (some (Go.Operand.tmp 30)) none, type := 22, pos := "board.go:28", after := #[{ on := 1, ground := Go.Ground.data }, { on := 3, ground := Go.Ground.data }, { on := 5, ground := Go.Ground.data }], guard := none }, { dst := some 32, op := Go.Op.call { callee := Go.Callee.value (Go.Operand.func 11), args := #[Go.Operand.tmp 31], argTypes := #[22] }, type := 9, pos := "board.go:28", after := #[{ on := 6, ground := Go.Ground.data }], guard := none }, { dst := some 33, op := Go.Op.buildSlice 22 1 #[(0, Go.Operand.tmp 32)], type := 22, pos := "board.go:28", after := #[{ on := 7, ground := Go.Ground.data }], guard := none }, { dst := some 34, op := Go.Op.call { callee := Go.Callee.builtin Go.Builtin.append, args := #[Go.Operand.tmp 25, Go.Operand.tmp 33], argTypes := #[22, 22] }, type := 22, pos := "board.go:28", after := #[{ on := 0, ground := Go.Ground.data }, { on := 8, ground := Go.Ground.data }, { on := 7, ground := Go.Ground.chain }], guard := none }, { dst := none, op := Go.Op.store 22 (Go.Operand.tmp 8) (Go.Operand.tmp 34), type := 0, pos := "board.go:28", after := #[{ on := 9, ground := Go.Ground.data }, { on := 9, ground := Go.Ground.chain }, { on := 0, ground := Go.Ground.phase }, { on := 1, ground := Go.Ground.phase }, { on := 2, ground := Go.Ground.phase }, { on := 3, ground := Go.Ground.phase }, { on := 4, ground := Go.Ground.phase }, { on := 5, ground := Go.Ground.phase }, { on := 6, ground := Go.Ground.phase }, { on := 7, ground := Go.Ground.phase }, { on := 8, ground := Go.Ground.phase }, { on := 9, ground := Go.Ground.phase }], guard := none }] true
section
variable {tg : ByteArray → List ByteArray → ByteArray}
set_option maxRecDepth 100000 in
set_option maxHeartbeats 4000000 in
theorem body5 {l m : Nat} {W : World} {Bo Be Bx b o n c p1 p2 N n₀ k : Nat} {v : Value} {xs : List Value} {D : ByteArray} {R : Act → World → Prop} {t0 t1 t2 t4 t5 t6 t7 t10 t11 t12 t13 t14 t15 t16 t17 t18 t19 t20 t21 t22 t23 t24 t25 t26 t27 t28 t29 t30 t31 t32 t33 t34 t35 : Value}
    (k1 : p2 - p1 = N) (k5 : p1 < p2) (k2 : (p1 : Int) ≤ (p2 : Int)) (k3 : (p2 : Int) ≤ (c : Int)) (k4 : (p1 : Int) ≤ (c : Int)) (hk : k < 1048576) (hn₀ : n₀ ≤ W.heap.size) (hB : n₀ ≤ Bo)
    (hbo : Boxed W Bo 22 v) (hrow : W.ownsRow n₀ 9 1 v k xs) (q1 : Boxed W Be 22 (.slice (some ⟨b, o, none⟩) n c)) (bX : IHolds W Bx 37 [.int .i64 (p1 : Int), .int .i64 (p2 : Int)]) (hne : Be ≠ Bo)
    (C : ∀ V, Below W.heap.size W V → Calls Tryd.prog 11 #[.slice (some ⟨b, o + p1, none⟩) N (c - p1)] V fun e w' => e = .returned (.string D) ∧ Below V.heap.size V w')
    (hQ : ∀ V v' g cap u25 u26 u27 u28 u29 u30 u31 u32 u33 u34, V.ownsRow n₀ 9 1 v' (k + 1) (xs ++ [.string D]) → v' = .slice (some ⟨g, 0, none⟩) (k + 1) cap → KeepsOthers W V → Below n₀ W V → Two W V → Boxed V Bo 22 v' → Boxed V Be 22 (.slice (some ⟨b, o, none⟩) n c) → R ⟨#[t0, t1, t2, .pointer (some ⟨Be, 0, none⟩), t4, t5, t6, t7, .pointer (some ⟨Bo, 0, none⟩), .pointer (some ⟨Bx, 0, none⟩), t10, t11, t12, t13, t14, t15, t16, t17, t18, t19, t20, t21, t22, t23, t24, u25, u26, u27, u28, u29, u30, u31, u32, u33, u34, t35], []⟩ V) :
    b6.wpIn (Fence.wide.inRound l) m Tryd.prog (fun e aa ww => match e with | .normal => R aa ww | _ => False) ⟨#[t0, t1, t2, .pointer (some ⟨Be, 0, none⟩), t4, t5, t6, t7, .pointer (some ⟨Bo, 0, none⟩), .pointer (some ⟨Bx, 0, none⟩), t10, t11, t12, t13, t14, t15, t16, t17, t18, t19, t20, t21, t22, t23, t24, t25, t26, t27, t28, t29, t30, t31, t32, t33, t34, t35], []⟩ W := by
  have HQ : Hid (∀ V v' g cap u25 u26 u27 u28 u29 u30 u31 u32 u33 u34, V.ownsRow n₀ 9 1 v' (k + 1) (xs ++ [.string D]) → v' = .slice (some ⟨g, 0, none⟩) (k + 1) cap → KeepsOthers W V → Below n₀ W V → Two W V → Boxed V Bo 22 v' → Boxed V Be 22 (.slice (some ⟨b, o, none⟩) n c) → R ⟨#[t0, t1, t2, .pointer (some ⟨Be, 0, none⟩), t4, t5, t6, t7, .pointer (some ⟨Bo, 0, none⟩), .pointer (some ⟨Bx, 0, none⟩), t10, t11, t12, t13, t14, t15, t16, t17, t18, t19, t20, t21, t22, t23, t24, u25, u26, u27, u28, u29, u30, u31, u32, u33, u34, t35], []⟩ V) := hQ
  have KQ : Hid (∀ V, Below n₀ W V → Two W V → V.cell? ⟨Be, 0, none⟩ = some (.slice (some ⟨b, o, none⟩) n c) → (Below n₀ W V ∧ V.cell? ⟨Be, 0, none⟩ = some (.slice (some ⟨b, o, none⟩) n c) ∧ V.cell? ⟨Bx, 0, none⟩ = some (.int .i64 (p1 : Int)) ∧ V.cell? ⟨Bx, 1, none⟩ = some (.int .i64 (p2 : Int)))) := fun V hV hT hE => ⟨hV, hE, (World.cell?_of_block (a := ⟨Bx, 0, none⟩) (hT Bx _ _ bX (Or.inl rfl))).trans (bX.cell 0 (by simp)), (World.cell?_of_block (a := ⟨Bx, 1, none⟩) (hT Bx _ _ bX (Or.inl rfl))).trans (bX.cell 1 (by simp))⟩
  have HR : Hid (W.ownsRow n₀ 9 1 v k xs) := hrow
  have HBo : Hid (Boxed W Bo 22 v) := hbo
  have HBe : Hid (Boxed W Be 22 (.slice (some ⟨b, o, none⟩) n c)) := q1
  have HC : Hid _ := C
  obtain ⟨i0, hi0, hz0, hz1, hz2⟩ := info_parts info9
  clear hQ hrow q1 bX hbo C
  unfold b6
  refine round_held (S := fun V => Below n₀ W V ∧ V.cell? ⟨Be, 0, none⟩ = some (.slice (some ⟨b, o, none⟩) n c) ∧ V.cell? ⟨Bx, 0, none⟩ = some (.int .i64 (p1 : Int)) ∧ V.cell? ⟨Bx, 1, none⟩ = some (.int .i64 (p2 : Int))) (by kernel_rfl) (by kernel_rfl) (fun h => by obtain ⟨a, w, h⟩ := h; exact h) (KQ.out _ (Below.refl _ W).drew (fun _ _ _ _ _ => rfl) (Boxed.cell HBe.out)) (fun hH0 => ?_)
  have D0 : Hid (Below W.heap.size W W.drew) := (Below.refl _ W).drew
  generalize W.drew = v0 at *
  refine tk (i := 1) (v := .slice (some ⟨b, o, none⟩) n c) rfl (by kernel_rfl) (fun _ _ _ h => h) rfl ?_ hH0 ?_
  · intro V hS; obtain ⟨_, q1, q2, q3⟩ := hS; go_simp
  simp only [Act.put, List.size_toArray, List.setIfInBounds_toArray, List.set_cons_zero, List.set_cons_succ]
  refine tk (i := 2) (v := .pointer (some ⟨Bx, 0, none⟩)) rfl (by kernel_rfl) (fun _ _ _ h => h) rfl ?_ hH0 ?_
  · intro V hS; obtain ⟨_, q1, q2, q3⟩ := hS; go_simp
  simp only [Act.put, List.size_toArray, List.setIfInBounds_toArray, List.set_cons_zero, List.set_cons_succ]
  refine tk (i := 3) (v := .int .i64 (p1 : Int)) rfl (by kernel_rfl) (fun _ _ _ h => h) rfl ?_ hH0 ?_
  · intro V hS; obtain ⟨_, q1, q2, q3⟩ := hS; go_simp
  simp only [Act.put, List.size_toArray, List.setIfInBounds_toArray, List.set_cons_zero, List.set_cons_succ]
  refine tk (i := 4) (v := .pointer (some ⟨Bx, 1, none⟩)) rfl (by kernel_rfl) (fun _ _ _ h => h) rfl ?_ hH0 ?_
  · intro V hS; obtain ⟨_, q1, q2, q3⟩ := hS; go_simp
  simp only [Act.put, List.size_toArray, List.setIfInBounds_toArray, List.set_cons_zero, List.set_cons_succ]
  refine tk (i := 5) (v := .int .i64 (p2 : Int)) rfl (by kernel_rfl) (fun _ _ _ h => h) rfl ?_ hH0 ?_
  · intro V hS; obtain ⟨_, q1, q2, q3⟩ := hS; go_simp
  simp only [Act.put, List.size_toArray, List.setIfInBounds_toArray, List.set_cons_zero, List.set_cons_succ]
  refine tk (i := 6) (v := .slice (some ⟨b, o + p1, none⟩) N (c - p1)) rfl (by kernel_rfl) (fun _ _ _ h => h) rfl ?_ hH0 ?_
  · intro V hS; obtain ⟨_, q1, q2, q3⟩ := hS; go_simp; intro h; omega
  simp only [Act.put, List.size_toArray, List.setIfInBounds_toArray, List.set_cons_zero, List.set_cons_succ]
  refine wpAnyH_ready (rs := [0, 7]) (by kernel_rfl) (by simp) ?_
  refine AllReadyH.cons rfl (fun K hK => ?_) ?_
  · clear hH0
    have hc0 : v0.cell? ⟨Bo, 0, none⟩ = some v := cell_keep (Boxed.cell HBo.out) D0.out
    go_simp
    clear hc0
    refine hK.out _ _ (KQ.out _ (D0.out.mono hn₀) (Two.below D0.out) (Boxed.cell (box_below HBe.out D0.out))) (fun hH1 => ?_)
    clear hK K
    try simp only [Act.put, List.size_toArray, List.setIfInBounds_toArray, List.set_cons_zero, List.set_cons_succ]
    refine wpAnyH_ready (rs := [7]) (by kernel_rfl) (by simp) ?_
    refine AllReadyH.cons rfl (fun K hK => ?_) ?_
    · clear hH1
      go_simp
      refine (HC.out _ D0.out).mono ?_
      rintro e v7 ⟨rfl, hD7⟩
      have D7 : Hid (Below W.heap.size W v7) := D0.out.trans (hD7.mono D0.out.size)
      clear hD7
      go_wp2_with fail
      refine hK.out _ _ (KQ.out _ (D7.out.mono hn₀) (Two.below D7.out) (Boxed.cell (box_below HBe.out D7.out))) (fun hH8 => ?_)
      clear hK K
      try simp only [Act.put, List.size_toArray, List.setIfInBounds_toArray, List.set_cons_zero, List.set_cons_succ]
      refine wpAnyH_ready (rs := [8]) (by kernel_rfl) (by simp) ?_
      refine AllReadyH.cons rfl (fun K hK => ?_) ?_
      · clear hH8
        go_simp
        have D8 : Hid (Below W.heap.size W (v7.alloc (.cells #[.string D] 9))) := D7.out.trans ((nB v7 _).mono D7.out.size)
        refine hK.out _ _ (KQ.out _ (D8.out.mono hn₀) (Two.below D8.out) (Boxed.cell (box_below HBe.out D8.out))) (fun hH9 => ?_)
        clear hK K
        try simp only [Act.put, List.size_toArray, List.setIfInBounds_toArray, List.set_cons_zero, List.set_cons_succ]
        refine wpAnyH_ready (rs := [9]) (by kernel_rfl) (by simp) ?_
        refine AllReadyH.cons rfl (fun K hK => ?_) AllReadyH.nil
        clear hH9
        have hO8 : Hid ((v7.alloc (.cells #[.string D] 9)).ownsRow n₀ 9 1 v k xs) := row_keep HR.out D8.out
        have D7 : Hid (Below W.heap.size W v7) := D7
        refine wp_append_own _ (.tmp 25) (.tmp 33) 22 rfl n₀ 9 i0 (.string ⟨#[]⟩) 1 16 Tryd.underlying22 hi0 hz0 hz1 hz2 rfl (by decide) v k xs rfl hO8.out ⟨v7.heap.size, 0, none⟩ 1 1 [.string D] rfl rfl (one_news v7 D) (fun u hu => by simp at hu; subst hu; rfl) (by unfold maxLen; omega) (by omega) (Nat.le_trans hn₀ D8.out.size) ?_
        intro v9 w9 hown hgrow hnn
        obtain ⟨g', cap', rfl⟩ := row_end' hown
        have hv7 : Boxed v7 Bo 22 v := box_below HBo.out D7.out
        obtain ⟨hv1, hv2, hr2, hk2, hb2⟩ := Boxed.appended hv7 (by decide) (row_keep HR.out D7.out) (Nat.le_trans hn₀ D7.out.size) hB hown hgrow
        have T9 : Hid (Two W w9) := (Two.below D8.out).trans (Two.grown (by decide) hO8.out hgrow)
        have B9 : Hid (Below n₀ W w9) := (D8.out.mono hn₀).grown hgrow (Nat.le_trans hn₀ D8.out.size) (fun k hk => (hO8.out.lt k hk).1)
        have E9 : Hid (Boxed w9 Be 22 (.slice (some ⟨b, o, none⟩) n c)) := Boxed.kept (box_below HBe.out D8.out) hgrow (Boxed.not_row (box_below HBe.out D8.out) (by decide) hO8.out)
        have hc1 := Boxed.cell hv1
        have hf1 := Boxed.frozen hv1
        have HV1 : Hid _ := hv1
        have HV2 : Hid _ := hv2
        have HR2 : Hid _ := hr2
        have HK2 : Hid _ := hk2
        have HB2 : Hid _ := hb2
        clear hv1 hv2 hr2 hk2 hb2 hown hgrow hnn hv7
        refine hK.out _ _ (KQ.out _ B9.out T9.out (Boxed.cell E9.out)) (fun hH10 => ?_)
        clear hK K
        try simp only [Act.put, List.size_toArray, List.setIfInBounds_toArray, List.set_cons_zero, List.set_cons_succ]
        refine wpAnyH_ready (rs := [10]) (by kernel_rfl) (by simp) ?_
        refine AllReadyH.cons rfl (fun K hK => ?_) AllReadyH.nil
        clear hH10
        go_simp
        have T10 : Hid (Two W (w9.setCell ⟨Bo, 0, none⟩ (.slice (some ⟨g', 0, none⟩) (k + 1) cap'))) := T9.out.trans (Two.set (by decide) HV1.out _)
        have E10 : Hid (Boxed (w9.setCell ⟨Bo, 0, none⟩ (.slice (some ⟨g', 0, none⟩) (k + 1) cap')) Be 22 (.slice (some ⟨b, o, none⟩) n c)) := (Below.heap_setCell _ _ _ _ hne).trans E9.out
        have B10 : Hid (Below n₀ W (w9.setCell ⟨Bo, 0, none⟩ (.slice (some ⟨g', 0, none⟩) (k + 1) cap'))) := B9.out.setCell (p := ⟨Bo, 0, none⟩) hB _
        refine hK.out _ _ (KQ.out _ B10.out T10.out (Boxed.cell E10.out)) (fun hH11 => ?_)
        clear hK K
        try simp only [Act.put, List.size_toArray, List.setIfInBounds_toArray, List.set_cons_zero, List.set_cons_succ]
        refine wpAnyH_done (by kernel_rfl) ?_ _
        exact HQ.out _ _ _ _ _ _ _ _ _ _ _ _ _ _ HR2.out rfl ((keeps_below D7.out).trans HK2.out) B10.out T10.out HV2.out E10.out
      exact AllReadyH.nil
    exact AllReadyH.nil
  refine AllReadyH.cons rfl (fun K hK => ?_) ?_
  · clear hH0
    go_simp
    refine (HC.out _ D0.out).mono ?_
    rintro e v7 ⟨rfl, hD7⟩
    have D7 : Hid (Below W.heap.size W v7) := D0.out.trans (hD7.mono D0.out.size)
    clear hD7
    go_wp2_with fail
    refine hK.out _ _ (KQ.out _ (D7.out.mono hn₀) (Two.below D7.out) (Boxed.cell (box_below HBe.out D7.out))) (fun hH8 => ?_)
    clear hK K
    try simp only [Act.put, List.size_toArray, List.setIfInBounds_toArray, List.set_cons_zero, List.set_cons_succ]
    refine wpAnyH_ready (rs := [0, 8]) (by kernel_rfl) (by simp) ?_
    refine AllReadyH.cons rfl (fun K hK => ?_) ?_
    · clear hH8
      have hc0 : v7.cell? ⟨Bo, 0, none⟩ = some v := cell_keep (Boxed.cell HBo.out) D7.out
      go_simp
      clear hc0
      refine hK.out _ _ (KQ.out _ (D7.out.mono hn₀) (Two.below D7.out) (Boxed.cell (box_below HBe.out D7.out))) (fun hH1 => ?_)
      clear hK K
      try simp only [Act.put, List.size_toArray, List.setIfInBounds_toArray, List.set_cons_zero, List.set_cons_succ]
      refine wpAnyH_ready (rs := [8]) (by kernel_rfl) (by simp) ?_
      refine AllReadyH.cons rfl (fun K hK => ?_) ?_
      · clear hH1
        go_simp
        have D8 : Hid (Below W.heap.size W (v7.alloc (.cells #[.string D] 9))) := D7.out.trans ((nB v7 _).mono D7.out.size)
        refine hK.out _ _ (KQ.out _ (D8.out.mono hn₀) (Two.below D8.out) (Boxed.cell (box_below HBe.out D8.out))) (fun hH9 => ?_)
        clear hK K
        try simp only [Act.put, List.size_toArray, List.setIfInBounds_toArray, List.set_cons_zero, List.set_cons_succ]
        refine wpAnyH_ready (rs := [9]) (by kernel_rfl) (by simp) ?_
        refine AllReadyH.cons rfl (fun K hK => ?_) AllReadyH.nil
        clear hH9
        have hO8 : Hid ((v7.alloc (.cells #[.string D] 9)).ownsRow n₀ 9 1 v k xs) := row_keep HR.out D8.out
        have D7 : Hid (Below W.heap.size W v7) := D7
        refine wp_append_own _ (.tmp 25) (.tmp 33) 22 rfl n₀ 9 i0 (.string ⟨#[]⟩) 1 16 Tryd.underlying22 hi0 hz0 hz1 hz2 rfl (by decide) v k xs rfl hO8.out ⟨v7.heap.size, 0, none⟩ 1 1 [.string D] rfl rfl (one_news v7 D) (fun u hu => by simp at hu; subst hu; rfl) (by unfold maxLen; omega) (by omega) (Nat.le_trans hn₀ D8.out.size) ?_
        intro v9 w9 hown hgrow hnn
        obtain ⟨g', cap', rfl⟩ := row_end' hown
        have hv7 : Boxed v7 Bo 22 v := box_below HBo.out D7.out
        obtain ⟨hv1, hv2, hr2, hk2, hb2⟩ := Boxed.appended hv7 (by decide) (row_keep HR.out D7.out) (Nat.le_trans hn₀ D7.out.size) hB hown hgrow
        have T9 : Hid (Two W w9) := (Two.below D8.out).trans (Two.grown (by decide) hO8.out hgrow)
        have B9 : Hid (Below n₀ W w9) := (D8.out.mono hn₀).grown hgrow (Nat.le_trans hn₀ D8.out.size) (fun k hk => (hO8.out.lt k hk).1)
        have E9 : Hid (Boxed w9 Be 22 (.slice (some ⟨b, o, none⟩) n c)) := Boxed.kept (box_below HBe.out D8.out) hgrow (Boxed.not_row (box_below HBe.out D8.out) (by decide) hO8.out)
        have hc1 := Boxed.cell hv1
        have hf1 := Boxed.frozen hv1
        have HV1 : Hid _ := hv1
        have HV2 : Hid _ := hv2
        have HR2 : Hid _ := hr2
        have HK2 : Hid _ := hk2
        have HB2 : Hid _ := hb2
        clear hv1 hv2 hr2 hk2 hb2 hown hgrow hnn hv7
        refine hK.out _ _ (KQ.out _ B9.out T9.out (Boxed.cell E9.out)) (fun hH10 => ?_)
        clear hK K
        try simp only [Act.put, List.size_toArray, List.setIfInBounds_toArray, List.set_cons_zero, List.set_cons_succ]
        refine wpAnyH_ready (rs := [10]) (by kernel_rfl) (by simp) ?_
        refine AllReadyH.cons rfl (fun K hK => ?_) AllReadyH.nil
        clear hH10
        go_simp
        have T10 : Hid (Two W (w9.setCell ⟨Bo, 0, none⟩ (.slice (some ⟨g', 0, none⟩) (k + 1) cap'))) := T9.out.trans (Two.set (by decide) HV1.out _)
        have E10 : Hid (Boxed (w9.setCell ⟨Bo, 0, none⟩ (.slice (some ⟨g', 0, none⟩) (k + 1) cap')) Be 22 (.slice (some ⟨b, o, none⟩) n c)) := (Below.heap_setCell _ _ _ _ hne).trans E9.out
        have B10 : Hid (Below n₀ W (w9.setCell ⟨Bo, 0, none⟩ (.slice (some ⟨g', 0, none⟩) (k + 1) cap'))) := B9.out.setCell (p := ⟨Bo, 0, none⟩) hB _
        refine hK.out _ _ (KQ.out _ B10.out T10.out (Boxed.cell E10.out)) (fun hH11 => ?_)
        clear hK K
        try simp only [Act.put, List.size_toArray, List.setIfInBounds_toArray, List.set_cons_zero, List.set_cons_succ]
        refine wpAnyH_done (by kernel_rfl) ?_ _
        exact HQ.out _ _ _ _ _ _ _ _ _ _ _ _ _ _ HR2.out rfl ((keeps_below D7.out).trans HK2.out) B10.out T10.out HV2.out E10.out
      exact AllReadyH.nil
    refine AllReadyH.cons rfl (fun K hK => ?_) ?_
    · clear hH8
      go_simp
      have D8 : Hid (Below W.heap.size W (v7.alloc (.cells #[.string D] 9))) := D7.out.trans ((nB v7 _).mono D7.out.size)
      refine hK.out _ _ (KQ.out _ (D8.out.mono hn₀) (Two.below D8.out) (Boxed.cell (box_below HBe.out D8.out))) (fun hH9 => ?_)
      clear hK K
      try simp only [Act.put, List.size_toArray, List.setIfInBounds_toArray, List.set_cons_zero, List.set_cons_succ]
      refine wpAnyH_ready (rs := [0]) (by kernel_rfl) (by simp) ?_
      refine AllReadyH.cons rfl (fun K hK => ?_) ?_
      · clear hH9
        have hc0 : (v7.alloc (.cells #[.string D] 9)).cell? ⟨Bo, 0, none⟩ = some v := cell_keep (Boxed.cell HBo.out) D8.out
        go_simp
        clear hc0
        refine hK.out _ _ (KQ.out _ (D8.out.mono hn₀) (Two.below D8.out) (Boxed.cell (box_below HBe.out D8.out))) (fun hH1 => ?_)
        clear hK K
        try simp only [Act.put, List.size_toArray, List.setIfInBounds_toArray, List.set_cons_zero, List.set_cons_succ]
        refine wpAnyH_ready (rs := [9]) (by kernel_rfl) (by simp) ?_
        refine AllReadyH.cons rfl (fun K hK => ?_) AllReadyH.nil
        clear hH1
        have hO8 : Hid ((v7.alloc (.cells #[.string D] 9)).ownsRow n₀ 9 1 v k xs) := row_keep HR.out D8.out
        have D7 : Hid (Below W.heap.size W v7) := D7
        refine wp_append_own _ (.tmp 25) (.tmp 33) 22 rfl n₀ 9 i0 (.string ⟨#[]⟩) 1 16 Tryd.underlying22 hi0 hz0 hz1 hz2 rfl (by decide) v k xs rfl hO8.out ⟨v7.heap.size, 0, none⟩ 1 1 [.string D] rfl rfl (one_news v7 D) (fun u hu => by simp at hu; subst hu; rfl) (by unfold maxLen; omega) (by omega) (Nat.le_trans hn₀ D8.out.size) ?_
        intro v9 w9 hown hgrow hnn
        obtain ⟨g', cap', rfl⟩ := row_end' hown
        have hv7 : Boxed v7 Bo 22 v := box_below HBo.out D7.out
        obtain ⟨hv1, hv2, hr2, hk2, hb2⟩ := Boxed.appended hv7 (by decide) (row_keep HR.out D7.out) (Nat.le_trans hn₀ D7.out.size) hB hown hgrow
        have T9 : Hid (Two W w9) := (Two.below D8.out).trans (Two.grown (by decide) hO8.out hgrow)
        have B9 : Hid (Below n₀ W w9) := (D8.out.mono hn₀).grown hgrow (Nat.le_trans hn₀ D8.out.size) (fun k hk => (hO8.out.lt k hk).1)
        have E9 : Hid (Boxed w9 Be 22 (.slice (some ⟨b, o, none⟩) n c)) := Boxed.kept (box_below HBe.out D8.out) hgrow (Boxed.not_row (box_below HBe.out D8.out) (by decide) hO8.out)
        have hc1 := Boxed.cell hv1
        have hf1 := Boxed.frozen hv1
        have HV1 : Hid _ := hv1
        have HV2 : Hid _ := hv2
        have HR2 : Hid _ := hr2
        have HK2 : Hid _ := hk2
        have HB2 : Hid _ := hb2
        clear hv1 hv2 hr2 hk2 hb2 hown hgrow hnn hv7
        refine hK.out _ _ (KQ.out _ B9.out T9.out (Boxed.cell E9.out)) (fun hH10 => ?_)
        clear hK K
        try simp only [Act.put, List.size_toArray, List.setIfInBounds_toArray, List.set_cons_zero, List.set_cons_succ]
        refine wpAnyH_ready (rs := [10]) (by kernel_rfl) (by simp) ?_
        refine AllReadyH.cons rfl (fun K hK => ?_) AllReadyH.nil
        clear hH10
        go_simp
        have T10 : Hid (Two W (w9.setCell ⟨Bo, 0, none⟩ (.slice (some ⟨g', 0, none⟩) (k + 1) cap'))) := T9.out.trans (Two.set (by decide) HV1.out _)
        have E10 : Hid (Boxed (w9.setCell ⟨Bo, 0, none⟩ (.slice (some ⟨g', 0, none⟩) (k + 1) cap')) Be 22 (.slice (some ⟨b, o, none⟩) n c)) := (Below.heap_setCell _ _ _ _ hne).trans E9.out
        have B10 : Hid (Below n₀ W (w9.setCell ⟨Bo, 0, none⟩ (.slice (some ⟨g', 0, none⟩) (k + 1) cap'))) := B9.out.setCell (p := ⟨Bo, 0, none⟩) hB _
        refine hK.out _ _ (KQ.out _ B10.out T10.out (Boxed.cell E10.out)) (fun hH11 => ?_)
        clear hK K
        try simp only [Act.put, List.size_toArray, List.setIfInBounds_toArray, List.set_cons_zero, List.set_cons_succ]
        refine wpAnyH_done (by kernel_rfl) ?_ _
        exact HQ.out _ _ _ _ _ _ _ _ _ _ _ _ _ _ HR2.out rfl ((keeps_below D7.out).trans HK2.out) B10.out T10.out HV2.out E10.out
      exact AllReadyH.nil
    exact AllReadyH.nil
  exact AllReadyH.nil
set_option maxHeartbeats 1000000 in
theorem blocks5_no (w : World) {a : Option Addr} {n c : Nat} (lo hi : Int) (h : ¬ (0 ≤ lo ∧ lo ≤ hi ∧ hi ≤ (n : Int)) ∨ 1048576 < n) : Calls Tryd.prog 4 #[.slice a n c, .int .i64 lo, .int .i64 hi] w fun e w' => e = .returned (.tuple #[.slice none 0 0, .int .i64 4]) ∧ Below w.heap.size w w' := by
  generalize hW : w.alloc (.cells #[.slice a n c] 22) = W
  have J : Hid (Below w.heap.size w W) := by rw [← hW]; exact nB w _
  have I0 : W.cell? ⟨w.heap.size, 0, none⟩ = some (.slice a n c) := by rw [← hW]; exact (IHolds.new w 22 [.slice a n c]).cell 0 (by simp)
  by_cases hn : 1048576 < n
  · have hn' : (1048576 : Int) < (n : Int) := by omega
    clear h
    go_enter Tryd.func4, Tryd.ntmps4
    go_wp2_with fail
    exact bodyPost_ret (v := .tuple #[.slice none 0 0, .int .i64 4]) (by simp [results, Tryd.results4, go_sem]) rfl ⟨rfl, J.out⟩
  · have hn' : ¬ (1048576 : Int) < (n : Int) := by omega
    have HR : Hid (Calls Tryd.prog 9 #[.int .i64 lo, .int .i64 hi, .int .i64 (n : Int)] W fun e w' => e = .returned (.bool false) ∧ w' = W) := within12 W lo hi n false (decide_eq_false (by omega))
    clear h
    go_enter Tryd.func4, Tryd.ntmps4
    go_wp2_with (go_at_call 9; refine HR.out.mono ?_; rintro e w1 ⟨rfl, rfl⟩)
    exact bodyPost_ret (v := .tuple #[.slice none 0 0, .int .i64 4]) (by simp [results, Tryd.results4, go_sem]) rfl ⟨rfl, J.out⟩
set_option maxRecDepth 100000 in
set_option maxHeartbeats 4000000 in
theorem blocks5_yes (hts : ∀ l ps, (tg l ps).size = 32) {w : World} (T : TagC tg 35 w) {a : Option Addr} {c : Nat} (E : List ByteArray) (hE : E.length ≤ 1048576) (hc : E.length ≤ c) (hc2 : c ≤ 9223372036854775807) (hs : ∀ p ∈ E, p.size ≤ 140737488355328) (h : SL w a E) (lo hi : Nat) (h1 : lo ≤ hi) (h2 : hi ≤ E.length) :
    Calls Tryd.prog 4 #[.slice a E.length c, .int .i64 (lo : Int), .int .i64 (hi : Int)] w fun e w' => (∃ a' c', e = .returned (.tuple #[.slice a' ((cover lo hi).map (blk tg E)).length c', .int .i64 0]) ∧ SL w' a' ((cover lo hi).map (blk tg E))) ∧ Below w.heap.size w w' := by
  refine (callsIn_wide (n := 3)).1 ?_
  have f12 : Fence.wide.fn 9 := trivial
  have f13 : Fence.wide.fn 10 := trivial
  have hne : ¬ (1048576 : Int) < (E.length : Int) := by omega
  have HR : Hid (∀ V, CallsIn Fence.wide (3 - 1) Tryd.prog 9 #[.int .i64 (lo : Int), .int .i64 (hi : Int), .int .i64 (E.length : Int)] V fun e w' => e = .returned (.bool true) ∧ w' = V) := fun V => callsIn_wide.2 (within12 V lo hi E.length true (decide_eq_true (by omega)))
  have HC : Hid (∀ V, CallsIn Fence.wide (3 - 1) Tryd.prog 10 #[.int .i64 (lo : Int), .int .i64 (hi : Int)] V fun e w' => e = .returned (.func (.func 24) #[] #[.pointer (some ⟨V.heap.size, 0, none⟩), .pointer (some ⟨V.heap.size + 1, 0, none⟩)]) ∧ w' = (V.alloc (.cells #[.int .i64 (lo : Int)] 3)).alloc (.cells #[.int .i64 (hi : Int)] 3)) := fun V => callsIn_wide.2 (cover13 V lo hi)
  have hcl : (cover lo hi).length ≤ 1048576 := cover_len lo hi (by omega)
  refine callsIn_of_wp_marks Tryd.func4 rfl trivial ?_ rfl
  simp only [Tryd.ntmps4, List.size_toArray, List.length_cons, List.length_nil, Nat.reduceAdd, Nat.reduceSub, Array.replicate_succ, Array.replicate_zero, List.push_toArray, List.append_toArray, List.nil_append, List.cons_append]
  gi_wp2_with (first
    | (gi_at_call 9; refine (HR.out _).mono ?_; rintro e w1 ⟨rfl, rfl⟩)
    | (gi_at_call 10; refine (HC.out _).mono ?_; rintro e w2 ⟨rfl, rfl⟩))
  generalize hW0 : (((w.alloc (.cells #[.slice a E.length c] 22)).alloc (.cells #[.slice none 0 0] 22)).alloc (.cells #[.int .i64 (lo : Int)] 3)).alloc (.cells #[.int .i64 (hi : Int)] 3) = W0
  have hsz : W0.heap.size = w.heap.size + 4 := by rw [← hW0]; simp
  have hB0 : Below w.heap.size w W0 := by rw [← hW0]; exact ((((Below.refl _ w).alloc (Nat.le_refl _) _).alloc (by simp) _).alloc (by simp; omega) _).alloc (by simp; omega) _
  have bE : Boxed W0 w.heap.size 22 (.slice a E.length c) := by rw [← hW0]; exact (((Boxed.new w 22 (.slice a E.length c)).alloc _).alloc _).alloc _
  have bO : Boxed W0 (w.heap.size + 1) 22 (.slice none 0 0) := by
    rw [← hW0]
    have := Boxed.new (w.alloc (.cells #[.slice a E.length c] 22)) 22 (.slice none 0 0)
    rw [World.size_alloc] at this
    exact (this.alloc _).alloc _
  have iL : IHolds W0 (w.heap.size + 1 + 1) 3 [.int .i64 (lo : Int)] := by
    rw [← hW0]
    have := IHolds.new ((w.alloc (.cells #[.slice a E.length c] 22)).alloc (.cells #[.slice none 0 0] 22)) 3 [.int .i64 (lo : Int)]
    rw [World.size_alloc, World.size_alloc] at this
    exact this.alloc _
  have iH : IHolds W0 (w.heap.size + 1 + 1 + 1) 3 [.int .i64 (hi : Int)] := by
    rw [← hW0]
    have := IHolds.new (((w.alloc (.cells #[.slice a E.length c] 22)).alloc (.cells #[.slice none 0 0] 22)).alloc (.cells #[.int .i64 (lo : Int)] 3)) 3 [.int .i64 (hi : Int)]
    rw [World.size_alloc, World.size_alloc, World.size_alloc] at this
    exact this
  clear hW0
  refine wpIn_rangeFunc_ownH (α := Spn lo hi) rfl (by omega) (gf := 24) (lb := #[.pointer (some ⟨w.heap.size + 1 + 1, 0, none⟩), .pointer (some ⟨w.heap.size + 1 + 1 + 1, 0, none⟩)]) rfl trivial (enters_of Tryd.func24 (by kernel_rfl) rfl)
    (cover_stops (3 - 1) _ _ w.heap.size lo hi (by omega) h1 (by omega) (fun p hp => cov_span _ lo hi p hp) W0 hB0.size (iL.cell 0 (by simp)) iH) KT.trans (KT_b hB0.size) (Below.refl _ _) (fun _ => rfl)
    (fun (pre : List (Spn lo hi)) W => (∃ v, Boxed W (w.heap.size + 1) 22 v ∧ W.ownsRow w.heap.size 9 1 v pre.length (((pre.map Subtype.val).map (blk tg E)).map Value.string) ∧ True) ∧ (Boxed W w.heap.size 22 (.slice a E.length c) ∧ Below w.heap.size w W))
    (fun _ _ _ => False)
    (OwnFrom.and (Own.from (holdsRow_own (β := List (Spn lo hi)) w.heap.size (w.heap.size + 1) 22 9 1 (fun pre => pre.length) (fun pre => ((pre.map Subtype.val).map (blk tg E)).map Value.string) (fun _ _ => True)) _) (OwnFrom.and (fun s A B row hs hg hr => Boxed.kept hs hg (fun e => by
      obtain ⟨_, o, ho, hc⟩ := hr _ e.symm
      rw [show A.heap[w.heap.size]? = _ from hs] at ho
      cases ho
      cases hc)) (ownFrom_below (Nat.le_refl _) hB0.size)))
    (fun _ _ _ _ _ hs _ _ => hs)
    ⟨⟨_, bO, World.ownsRow_nil _ _ _ _, trivial⟩, bE, hB0⟩
    (fun x a' W => ∃ Bx, w.heap.size + 1 < Bx ∧ IHolds W Bx 37 [.int .i64 (x.1.1 : Int), .int .i64 (x.1.2 : Int)] ∧ a' = { tmps := #[.slice a E.length c, .int .i64 (lo : Int), .int .i64 (hi : Int), .pointer (some ⟨w.heap.size, 0, none⟩), undef, undef, .slice none 0 0, .int .i64 0, .pointer (some ⟨w.heap.size + 1, 0, none⟩), .pointer (some ⟨Bx, 0, none⟩), .slice a E.length c, .int .i64 (E.length : Int), .bool false, .bool false, .int .i64 (lo : Int), .int .i64 (hi : Int), .slice a E.length c, .int .i64 (E.length : Int), .bool true, .bool false, .bool false, .int .i64 (lo : Int), .int .i64 (hi : Int), .func (.func 24) #[] #[.pointer (some ⟨w.heap.size + 1 + 1, 0, none⟩), .pointer (some ⟨w.heap.size + 1 + 1 + 1, 0, none⟩)], .agg #[.int .i64 (x.1.1 : Int), .int .i64 (x.1.2 : Int)], undef, undef, undef, undef, undef, undef, undef, undef, undef, undef, undef], defers := [] })
    ?hAx ?assign ?body ?done ?stop
  case hAx =>
    rintro x a' s A B row ⟨Bx, q1, q2, q3⟩ hg hr
    refine ⟨Bx, q1, (hg.block Bx q2.lt (fun e => ?_)).trans q2, q3⟩
    obtain ⟨_, o, ho, hc⟩ := hr Bx e.symm
    rw [show A.heap[Bx]? = _ from q2] at ho
    cases ho
    cases hc
  case assign =>
    rintro l pre ⟨⟨x1, x2⟩, hx⟩ W K ⟨⟨v, hv, hrow, _⟩, hbe, hB⟩ hK
    dsimp only [encS]
    have HK : Hid _ := hK
    clear hK
    gi_wp2
    refine HK.out _ _ ((KeepsOthers.alloc _ _).from _) ⟨(Below.refl _ W).alloc hB.size _, Two.alloc _ _⟩ ⟨⟨v, hv.alloc _, hrow.alloc _, trivial⟩, hbe.alloc _, hB.trans ((Below.refl _ W).alloc hB.size _)⟩ ⟨W.heap.size, hv.lt, IHolds.new W 37 [_, _], rfl⟩
  case body =>
    rintro l pre ⟨⟨x1, x2⟩, j, hj, m1, m2, m3⟩ a' W hlW ⟨r, hr⟩ ⟨⟨v, hv, hrow, _⟩, hbe, hB⟩ ⟨Bx, hBx, bX, rfl⟩ hlt
    dsimp only at m1 m2 m3 bX
    obtain ⟨N, hN⟩ : ∃ N, N = 2 ^ j := ⟨_, rfl⟩
    have hN1 : 1 ≤ N := by rw [hN]; exact Nat.one_le_two_pow
    obtain ⟨b, o, rfl, hr0⟩ := h x1 (by omega)
    gi_wp2
    refine wpIn_mono (Q := fun e aa ww => match e with | .normal => (?R : Act → World → Prop) aa ww | _ => False) ?here ?next
    case next =>
      intro ex aa ww hh
      cases ex with
      | normal => exact hh
      | _ => exact hh.elim
    case here =>
      refine body5 (D := blk tg E (x1, x2)) (N := N) (n₀ := w.heap.size) (by omega) (by omega) (by omega) (by omega) (by omega) (by omega) hB.size (by omega) hv hrow hbe bX (by omega) (fun V hV => ?_) ?_
      · have hb1 : Below w.heap.size w V := hB.trans (hV.mono hB.size)
        have e1 : x2 - x1 = N := by omega
        have q := digest14 hts j (seg E x1 N) V (some ⟨b, o + x1, none⟩) (c - x1) (T.of hb1) hj (by rw [seg_len (by omega), hN]) (by rw [seg_len (by omega)]; omega) (by omega) (fun p hp => hs p (List.mem_of_mem_drop (List.mem_of_mem_take hp))) ((h.of_below hb1).seg (by omega))
        rw [seg_len (by omega)] at q
        have e2 : blk tg E (x1, x2) = dgst tg j (seg E x1 N) := by
          unfold blk
          simp only [e1]
          rw [hN, lg_pow j 20 hj]
        rw [e2]
        exact q
      · intro V v' g cap u25 u26 u27 u28 u29 u30 u31 u32 u33 u34 o1 o2 o3 o4 o5 o6 o7
        subst o2
        gi_wp2
        exact ⟨o3.from _, ⟨o4, o5⟩, ⟨_, o6, by rw [List.map_append, List.map_append, List.map_append, List.length_append]; exact o1, trivial⟩, o7, hB.trans o4⟩
  case done =>
    rintro D ys W hD hys ⟨⟨v, hv, hrow, _⟩, hbe, hB⟩ hK
    have hc9 := hv.cell
    rw [hys] at hrow
    obtain ⟨a5, c5, rfl, s5⟩ := own_sl (qs := (cover lo hi).map (blk tg E)) (by rw [List.length_map, ← hys, List.length_map]) hrow
    gi_wp2
    refine ⟨by simp, .inl ⟨_, _, rfl, run_takeDeferred hK, ?_⟩⟩
    obtain ⟨a6, c6, e6, s6⟩ := own_sl (qs := (cover lo hi).map (blk tg E)) (by rw [List.length_map, ← hys, List.length_map]) (ownsRow_putObj hrow (.deferred none) hK rfl)
    cases e6
    have hlen : ((cover lo hi).map (blk tg E)).length = ys.length := by rw [List.length_map, ← hys, List.length_map]
    exact ⟨.tuple #[.slice a5 ys.length c5, .int .i64 0], by simp [results, Tryd.results4, go_sem], ⟨⟨a5, c5, by rw [hlen], s6⟩, hB.trans (belowK_b (w := w) (Nat.le_refl _) W D _ _ (by omega) hK rfl rfl)⟩⟩
  case stop =>
    rintro D c pre W _ _ h _
    exact h.elim
end
end Go.Proofs.YteomefhjglnghaaDoor
