/- The document's Boxes: where a box is put. -/
import Derived.Test.YtafekaonmpkhiaaEj
import Derived.Deep.CutBlock
set_option linter.unusedSimpArgs false
set_option linter.unusedVariables false
set_option maxRecDepth 100000
namespace Go.Proofs.Ytafekaonmpkhiaa
open Go.Shelf Go.Sort Go.Lib Go.RowKit Go.Deep Go.PlainAid

theorem less_cb : ∀ a b : List UInt8, Op.bytesLess a b = decide (cbB a b < 0)
  | [], [] => rfl
  | _ :: _, [] => rfl
  | [], _ :: _ => rfl
  | x :: a, y :: b => by
    rw [Op.bytesLess, less_cb a b, cb_cons]
    by_cases h1 : x < y
    · have : x.toNat < y.toNat := UInt8.lt_iff_toNat_lt.1 h1
      rw [if_pos this]
      simp [h1]
    · by_cases h2 : x = y
      · subst h2
        simp [h1]
      · have h3 : ¬ x.toNat < y.toNat := fun h => h1 (UInt8.lt_iff_toNat_lt.2 h)
        have h4 : x.toNat ≠ y.toNat := fun h => h2 (UInt8.toNat_inj.1 h)
        have h5 : y.toNat < x.toNat := by omega
        have h6 : y < x := UInt8.lt_iff_toNat_lt.2 h5
        have h7 : (x == y) = false := by simpa using h2
        rw [if_neg h3, if_pos h5, h7]
        simp [h1]
theorem less_cf (a b : ByteArray) : Op.bytesLess a.toList b.toList = ltOf cfN a b := by
  rw [less_cb, lt_cf, ByteArray.toList_eq, ByteArray.toList_eq]
  unfold cfN
  rfl
/-- A name put where it belongs. -/
theorem put_sn {ns ms : List ByteArray} {nm : ByteArray} {k : Nat} (e : ns = sn ms) (hk : k ≤ ns.length) (h1 : ∀ j, j < k → ltOf cfN (nth ns j) nm = true) (h2 : k < ns.length → ltOf cfN (nth ns k) nm = false) :
    ns.take k ++ nm :: ns.drop k = sn (ms ++ [nm]) := by
  have tr : ∀ a b c : ByteArray, (!ltOf cfN b a) = true → (!ltOf cfN c b) = true → (!ltOf cfN c a) = true := fun a b c h1 h2 => by
    simp only [Bool.not_eq_true'] at *
    exact cf_swo.ntrans _ _ _ h2 h1
  have tot : ∀ a b : ByteArray, ((!ltOf cfN b a) || (!ltOf cfN a b)) = true := fun a b => by
    by_cases e : ltOf cfN b a = true
    · have : ltOf cfN a b = false := by
        by_cases e2 : ltOf cfN a b = true
        · have := cf_swo.trans _ _ _ e e2
          rw [cf_swo.irrefl] at this
          cases this
        · simpa using e2
      simp [this]
    · simp [e]
  have so : ns.Pairwise (fun a b => (!ltOf cfN b a) = true) := by rw [e]; exact List.pairwise_mergeSort tr tot ms
  have low : ∀ x ∈ ns.take k, ltOf cfN x nm = true := fun x hx => by
    obtain ⟨j, hj, rfl⟩ := List.mem_iff_getElem.1 hx
    have hj' : j < k := by simp at hj; omega
    have := h1 j hj'
    rw [nth_at (by omega)] at this
    rw [List.getElem_take]
    exact this
  have high : ∀ y ∈ ns.drop k, (!ltOf cfN y nm) = true := fun y hy => by
    obtain ⟨j, hj, rfl⟩ := List.mem_iff_getElem.1 hy
    have hj' : k + j < ns.length := by simp at hj; omega
    have h0 := h2 (by omega)
    rw [nth_at (by omega)] at h0
    rw [List.getElem_drop]
    by_cases z : j = 0
    · subst z; simpa using h0
    · have q := (List.pairwise_iff_getElem.1 so) k (k + j) (by omega) hj' (by omega)
      exact tr nm ns[k] ns[k + j] (by simpa using h0) q
  have so' := so
  rw [← List.take_append_drop k ns, List.pairwise_append] at so'
  obtain ⟨s1, s2, s3⟩ := so'
  have anti : ∀ x, ltOf cfN x nm = true → (!ltOf cfN nm x) = true := fun x h => by
    by_cases e2 : ltOf cfN nm x = true
    · have := cf_swo.trans _ _ _ h e2
      rw [cf_swo.irrefl] at this
      cases this
    · simpa using e2
  refine List.Perm.eq_of_pairwise (le := fun a b => (!ltOf cfN b a) = true) (fun a b _ _ h1 h2 => ?_) ?_ (List.pairwise_mergeSort tr tot (ms ++ [nm])) ?_
  · simp only [Bool.not_eq_true'] at h1 h2
    exact cf_total h2 h1
  · rw [List.pairwise_append]
    refine ⟨s1, List.pairwise_cons.2 ⟨high, s2⟩, fun a ha b hb => ?_⟩
    rcases List.mem_cons.1 hb with q | q
    · subst q; exact anti a (low a ha)
    · exact s3 a ha b q
  · have p1 : (ns.take k ++ nm :: ns.drop k).Perm (ns ++ [nm]) := by
      have q : (ns.take k ++ nm :: ns.drop k).Perm (nm :: (ns.take k ++ ns.drop k)) := List.perm_middle
      rw [List.take_append_drop] at q
      exact q.trans (List.perm_append_comm (l₁ := [nm]) (l₂ := ns))
    refine p1.trans ?_
    rw [e]
    exact ((sn_perm ms).append_right [nm]).trans (sn_perm (ms ++ [nm])).symm
def rg8 : Code := Go.Code.region 8 #[{ dst := some 29, op := Go.Op.move (Go.Operand.tmp 10), type := 3, pos := "ref.go:278", after := #[], guard := none }, { dst := some 30, op := Go.Op.move (Go.Operand.tmp 3), type := 30, pos := "ref.go:278", after := #[], guard := none }, { dst := some 31, op := Go.Op.call { callee := Go.Callee.builtin Go.Builtin.len, args := #[Go.Operand.tmp 30], argTypes := #[30] }, type := 3, pos := "ref.go:278", after := #[{ on := 1, ground := Go.Ground.data }], guard := none }, { dst := some 32, op := Go.Op.binOp Go.BinOp.lss 3 (Go.Operand.tmp 29) (Go.Operand.tmp 31) 3, type := 4, pos := "ref.go:278", after := #[{ on := 0, ground := Go.Ground.data }, { on := 2, ground := Go.Ground.data }], guard := none }, { dst := some 33, op := Go.Op.move (Go.Operand.tmp 32), type := 4, pos := "ref.go:278", after := #[{ on := 3, ground := Go.Ground.data }], guard := none }, { dst := some 34, op := Go.Op.move (Go.Operand.tmp 3), type := 30, pos := "ref.go:278", after := #[{ on := 4, ground := Go.Ground.guard }], guard := some (4, true) }, { dst := some 35, op := Go.Op.move (Go.Operand.tmp 10), type := 3, pos := "ref.go:278", after := #[{ on := 4, ground := Go.Ground.guard }], guard := some (4, true) }, { dst := some 36, op := Go.Op.indexAddr 30 (Go.Operand.tmp 34) (Go.Operand.tmp 35), type := 0, pos := "ref.go:278", after := #[{ on := 5, ground := Go.Ground.data }, { on := 6, ground := Go.Ground.data }, { on := 4, ground := Go.Ground.guard }], guard := some (4, true) }, { dst := some 37, op := Go.Op.fieldAddr 38 (Go.Operand.tmp 36) 0, type := 0, pos := "ref.go:278", after := #[{ on := 7, ground := Go.Ground.data }, { on := 4, ground := Go.Ground.guard }], guard := some (4, true) }, { dst := some 38, op := Go.Op.load 9 (Go.Operand.tmp 37), type := 9, pos := "ref.go:278", after := #[{ on := 8, ground := Go.Ground.data }, { on := 4, ground := Go.Ground.guard }], guard := some (4, true) }, { dst := some 39, op := Go.Op.fieldAddr 38 (Go.Operand.tmp 6) 0, type := 0, pos := "ref.go:278", after := #[{ on := 4, ground := Go.Ground.guard }], guard := some (4, true) }, { dst := some 40, op := Go.Op.load 9 (Go.Operand.tmp 39), type := 9, pos := "ref.go:278", after := #[{ on := 10, ground := Go.Ground.data }, { on := 4, ground := Go.Ground.guard }], guard := some (4, true) }, { dst := some 41, op := Go.Op.binOp Go.BinOp.lss 9 (Go.Operand.tmp 38) (Go.Operand.tmp 40) 9, type := 4, pos := "ref.go:278", after := #[{ on := 9, ground := Go.Ground.data }, { on := 11, ground := Go.Ground.data }, { on := 4, ground := Go.Ground.guard }], guard := some (4, true) }, { dst := some 42, op := Go.Op.pick (Go.Operand.tmp 33) (Go.Operand.tmp 41) (Go.Operand.const (Go.Value.bool false)), type := 4, pos := "ref.go:278", after := #[{ on := 4, ground := Go.Ground.data }, { on := 12, ground := Go.Ground.data }], guard := none }] true
set_option maxHeartbeats 8000000 in
theorem rg8_end {wr : World} {df : List Deferred} {a : Option Addr} {n c1 hb k : Nat} {Q : Exit → Act → World → Prop} {t0 t1 t2 t4 t5 t7 t8 t9 t11 t12 t13 t14 t15 t16 t17 t18 t19 t20 t21 t22 t23 t24 t25 t26 t27 t28 t29 t30 t31 t32 t33 t34 t35 t36 t37 t38 t39 t40 t41 t42 t43 t44 t45 t46 t47 t48 t49 t50 t51 t52 t53 t54 t55 t56 t57 t58 : Value} (il : ¬ (k : Int) < (n : Int))
    (hQp : ∀ c a a' w, Q (.panic c) a w → Q (.panic c) a' w) (hQ : ∀ u29 u30 u31 u32 u33 u34 u35 u36 u37 u38 u39 u40 u41, Q .normal ⟨#[t0, t1, t2, .slice (a) n c1, t4, t5, .pointer (some ⟨hb, 0, none⟩), t7, t8, t9, .int .i64 (k : Int), t11, t12, t13, t14, t15, t16, t17, t18, t19, t20, t21, t22, t23, t24, t25, t26, t27, t28, u29, u30, u31, u32, u33, u34, u35, u36, u37, u38, u39, u40, u41, .bool false, t43, t44, t45, t46, t47, t48, t49, t50, t51, t52, t53, t54, t55, t56, t57, t58], df⟩ wr.drew) :
    rg8.wp Try.prog Q ⟨#[t0, t1, t2, .slice (a) n c1, t4, t5, .pointer (some ⟨hb, 0, none⟩), t7, t8, t9, .int .i64 (k : Int), t11, t12, t13, t14, t15, t16, t17, t18, t19, t20, t21, t22, t23, t24, t25, t26, t27, t28, t29, t30, t31, t32, t33, t34, t35, t36, t37, t38, t39, t40, t41, t42, t43, t44, t45, t46, t47, t48, t49, t50, t51, t52, t53, t54, t55, t56, t57, t58], df⟩ wr := by
  have HP : Hid (∀ c a a' w, Q (.panic c) a w → Q (.panic c) a' w) := hQp
  have HQ : Hid (∀ u29 u30 u31 u32 u33 u34 u35 u36 u37 u38 u39 u40 u41, Q .normal ⟨#[t0, t1, t2, .slice (a) n c1, t4, t5, .pointer (some ⟨hb, 0, none⟩), t7, t8, t9, .int .i64 (k : Int), t11, t12, t13, t14, t15, t16, t17, t18, t19, t20, t21, t22, t23, t24, t25, t26, t27, t28, u29, u30, u31, u32, u33, u34, u35, u36, u37, u38, u39, u40, u41, .bool false, t43, t44, t45, t46, t47, t48, t49, t50, t51, t52, t53, t54, t55, t56, t57, t58], df⟩ wr.drew) := hQ
  clear hQ hQp
  unfold rg8
  refine wp_region_held_drew (S := fun V => V = wr.drew) (by kernel_rfl) rfl (fun hH0 => ?_)
  generalize wr.drew = X at *
  refine tk (i := 0) (v := .int .i64 (k : Int)) rfl (by kernel_rfl) (fun _ _ _ h => HP.out _ _ _ _ h) (by kernel_rfl) ?_ hH0 ?_
  · intro V hS; subst hS; go_simp
  simp only [Act.put, y1, y2, y3, y4, y5, y6, y7]
  refine tk (i := 1) (v := .slice (a) n c1) rfl (by kernel_rfl) (fun _ _ _ h => HP.out _ _ _ _ h) (by kernel_rfl) ?_ hH0 ?_
  · intro V hS; subst hS; go_simp
  simp only [Act.put, y1, y2, y3, y4, y5, y6, y7]
  refine tk (i := 2) (v := .int .i64 (n : Int)) rfl (by kernel_rfl) (fun _ _ _ h => HP.out _ _ _ _ h) (by kernel_rfl) ?_ hH0 ?_
  · intro V hS; subst hS; go_simp
  simp only [Act.put, y1, y2, y3, y4, y5, y6, y7]
  refine tk (i := 3) (v := .bool false) rfl (by kernel_rfl) (fun _ _ _ h => HP.out _ _ _ _ h) (by kernel_rfl) ?_ hH0 ?_
  · intro V hS; subst hS; go_simp
  simp only [Act.put, y1, y2, y3, y4, y5, y6, y7]
  refine tk (i := 4) (v := .bool false) rfl (by kernel_rfl) (fun _ _ _ h => HP.out _ _ _ _ h) (by kernel_rfl) ?_ hH0 ?_
  · intro V hS; subst hS; go_simp
  simp only [Act.put, y1, y2, y3, y4, y5, y6, y7]
  refine tkU (i := 5) rfl (by kernel_rfl) (fun _ _ _ h => HP.out _ _ _ _ h) (by kernel_rfl) hH0 ?_
  simp only [Act.put, y1, y2, y3, y4, y5, y6, y7]
  refine tkU (i := 6) rfl (by kernel_rfl) (fun _ _ _ h => HP.out _ _ _ _ h) (by kernel_rfl) hH0 ?_
  simp only [Act.put, y1, y2, y3, y4, y5, y6, y7]
  refine tkU (i := 7) rfl (by kernel_rfl) (fun _ _ _ h => HP.out _ _ _ _ h) (by kernel_rfl) hH0 ?_
  simp only [Act.put, y1, y2, y3, y4, y5, y6, y7]
  refine tkU (i := 8) rfl (by kernel_rfl) (fun _ _ _ h => HP.out _ _ _ _ h) (by kernel_rfl) hH0 ?_
  simp only [Act.put, y1, y2, y3, y4, y5, y6, y7]
  refine tkU (i := 9) rfl (by kernel_rfl) (fun _ _ _ h => HP.out _ _ _ _ h) (by kernel_rfl) hH0 ?_
  simp only [Act.put, y1, y2, y3, y4, y5, y6, y7]
  refine tkU (i := 10) rfl (by kernel_rfl) (fun _ _ _ h => HP.out _ _ _ _ h) (by kernel_rfl) hH0 ?_
  simp only [Act.put, y1, y2, y3, y4, y5, y6, y7]
  refine tkU (i := 11) rfl (by kernel_rfl) (fun _ _ _ h => HP.out _ _ _ _ h) (by kernel_rfl) hH0 ?_
  simp only [Act.put, y1, y2, y3, y4, y5, y6, y7]
  refine tkU (i := 12) rfl (by kernel_rfl) (fun _ _ _ h => HP.out _ _ _ _ h) (by kernel_rfl) hH0 ?_
  simp only [Act.put, y1, y2, y3, y4, y5, y6, y7]
  refine tk (i := 13) (v := .bool false) rfl (by kernel_rfl) (fun _ _ _ h => HP.out _ _ _ _ h) (by kernel_rfl) ?_ hH0 ?_
  · intro V hS; subst hS; go_simp
  simp only [Act.put, y1, y2, y3, y4, y5, y6, y7]
  refine wpAnyH_done (by kernel_rfl) ?_ _
  exact HQ.out _ _ _ _ _ _ _ _ _ _ _ _ _
set_option maxHeartbeats 8000000 in
theorem rg8_yes {wr : World} {df : List Deferred} {b1 o1 n c1 hb k : Nat} {x y : ByteArray} {Q : Exit → Act → World → Prop} {t0 t1 t2 t4 t5 t7 t8 t9 t11 t12 t13 t14 t15 t16 t17 t18 t19 t20 t21 t22 t23 t24 t25 t26 t27 t28 t29 t30 t31 t32 t33 t34 t35 t36 t37 t38 t39 t40 t41 t42 t43 t44 t45 t46 t47 t48 t49 t50 t51 t52 t53 t54 t55 t56 t57 t58 : Value} (il : (k : Int) < (n : Int)) (p1 : wr.drew.cell? ⟨b1, o1 + k * 4, none⟩ = some (.string x)) (p2 : wr.drew.cell? ⟨hb, 0, none⟩ = some (.string y)) (hx : Op.bytesLess x.toList y.toList = true)
    (hQp : ∀ c a a' w, Q (.panic c) a w → Q (.panic c) a' w) (hQ : ∀ u29 u30 u31 u32 u33 u34 u35 u36 u37 u38 u39 u40 u41, Q .normal ⟨#[t0, t1, t2, .slice (some ⟨b1, o1, none⟩) n c1, t4, t5, .pointer (some ⟨hb, 0, none⟩), t7, t8, t9, .int .i64 (k : Int), t11, t12, t13, t14, t15, t16, t17, t18, t19, t20, t21, t22, t23, t24, t25, t26, t27, t28, u29, u30, u31, u32, u33, u34, u35, u36, u37, u38, u39, u40, u41, .bool true, t43, t44, t45, t46, t47, t48, t49, t50, t51, t52, t53, t54, t55, t56, t57, t58], df⟩ wr.drew) :
    rg8.wp Try.prog Q ⟨#[t0, t1, t2, .slice (some ⟨b1, o1, none⟩) n c1, t4, t5, .pointer (some ⟨hb, 0, none⟩), t7, t8, t9, .int .i64 (k : Int), t11, t12, t13, t14, t15, t16, t17, t18, t19, t20, t21, t22, t23, t24, t25, t26, t27, t28, t29, t30, t31, t32, t33, t34, t35, t36, t37, t38, t39, t40, t41, t42, t43, t44, t45, t46, t47, t48, t49, t50, t51, t52, t53, t54, t55, t56, t57, t58], df⟩ wr := by
  have HP : Hid (∀ c a a' w, Q (.panic c) a w → Q (.panic c) a' w) := hQp
  have HQ : Hid (∀ u29 u30 u31 u32 u33 u34 u35 u36 u37 u38 u39 u40 u41, Q .normal ⟨#[t0, t1, t2, .slice (some ⟨b1, o1, none⟩) n c1, t4, t5, .pointer (some ⟨hb, 0, none⟩), t7, t8, t9, .int .i64 (k : Int), t11, t12, t13, t14, t15, t16, t17, t18, t19, t20, t21, t22, t23, t24, t25, t26, t27, t28, u29, u30, u31, u32, u33, u34, u35, u36, u37, u38, u39, u40, u41, .bool true, t43, t44, t45, t46, t47, t48, t49, t50, t51, t52, t53, t54, t55, t56, t57, t58], df⟩ wr.drew) := hQ
  clear hQ hQp
  unfold rg8
  refine wp_region_held_drew (S := fun V => V = wr.drew) (by kernel_rfl) rfl (fun hH0 => ?_)
  generalize wr.drew = X at *
  refine tk (i := 0) (v := .int .i64 (k : Int)) rfl (by kernel_rfl) (fun _ _ _ h => HP.out _ _ _ _ h) (by kernel_rfl) ?_ hH0 ?_
  · intro V hS; subst hS; go_simp
  simp only [Act.put, y1, y2, y3, y4, y5, y6, y7]
  refine tk (i := 1) (v := .slice (some ⟨b1, o1, none⟩) n c1) rfl (by kernel_rfl) (fun _ _ _ h => HP.out _ _ _ _ h) (by kernel_rfl) ?_ hH0 ?_
  · intro V hS; subst hS; go_simp
  simp only [Act.put, y1, y2, y3, y4, y5, y6, y7]
  refine tk (i := 2) (v := .int .i64 (n : Int)) rfl (by kernel_rfl) (fun _ _ _ h => HP.out _ _ _ _ h) (by kernel_rfl) ?_ hH0 ?_
  · intro V hS; subst hS; go_simp
  simp only [Act.put, y1, y2, y3, y4, y5, y6, y7]
  refine tk (i := 3) (v := .bool true) rfl (by kernel_rfl) (fun _ _ _ h => HP.out _ _ _ _ h) (by kernel_rfl) ?_ hH0 ?_
  · intro V hS; subst hS; go_simp
  simp only [Act.put, y1, y2, y3, y4, y5, y6, y7]
  refine tk (i := 4) (v := .bool true) rfl (by kernel_rfl) (fun _ _ _ h => HP.out _ _ _ _ h) (by kernel_rfl) ?_ hH0 ?_
  · intro V hS; subst hS; go_simp
  simp only [Act.put, y1, y2, y3, y4, y5, y6, y7]
  refine tk (i := 5) (v := .slice (some ⟨b1, o1, none⟩) n c1) rfl (by kernel_rfl) (fun _ _ _ h => HP.out _ _ _ _ h) (by kernel_rfl) ?_ hH0 ?_
  · intro V hS; subst hS; go_simp
  simp only [Act.put, y1, y2, y3, y4, y5, y6, y7]
  refine tk (i := 6) (v := .int .i64 (k : Int)) rfl (by kernel_rfl) (fun _ _ _ h => HP.out _ _ _ _ h) (by kernel_rfl) ?_ hH0 ?_
  · intro V hS; subst hS; go_simp
  simp only [Act.put, y1, y2, y3, y4, y5, y6, y7]
  refine tk (i := 7) (v := .pointer (some ⟨b1, o1 + k * 4, none⟩)) rfl (by kernel_rfl) (fun _ _ _ h => HP.out _ _ _ _ h) (by kernel_rfl) ?_ hH0 ?_
  · intro V hS; subst hS; go_simp
  simp only [Act.put, y1, y2, y3, y4, y5, y6, y7]
  refine tk (i := 8) (v := .pointer (some ⟨b1, o1 + k * 4, none⟩)) rfl (by kernel_rfl) (fun _ _ _ h => HP.out _ _ _ _ h) (by kernel_rfl) ?_ hH0 ?_
  · intro V hS; subst hS; go_simp
  simp only [Act.put, y1, y2, y3, y4, y5, y6, y7]
  refine tk (i := 9) (v := .string x) rfl (by kernel_rfl) (fun _ _ _ h => HP.out _ _ _ _ h) (by kernel_rfl) ?_ hH0 ?_
  · intro V hS; subst hS; go_simp
  simp only [Act.put, y1, y2, y3, y4, y5, y6, y7]
  refine tk (i := 10) (v := .pointer (some ⟨hb, 0, none⟩)) rfl (by kernel_rfl) (fun _ _ _ h => HP.out _ _ _ _ h) (by kernel_rfl) ?_ hH0 ?_
  · intro V hS; subst hS; go_simp
  simp only [Act.put, y1, y2, y3, y4, y5, y6, y7]
  refine tk (i := 11) (v := .string y) rfl (by kernel_rfl) (fun _ _ _ h => HP.out _ _ _ _ h) (by kernel_rfl) ?_ hH0 ?_
  · intro V hS; subst hS; go_simp
  simp only [Act.put, y1, y2, y3, y4, y5, y6, y7]
  refine tk (i := 12) (v := .bool true) rfl (by kernel_rfl) (fun _ _ _ h => HP.out _ _ _ _ h) (by kernel_rfl) ?_ hH0 ?_
  · intro V hS; subst hS; go_simp
  simp only [Act.put, y1, y2, y3, y4, y5, y6, y7]
  refine tk (i := 13) (v := .bool true) rfl (by kernel_rfl) (fun _ _ _ h => HP.out _ _ _ _ h) (by kernel_rfl) ?_ hH0 ?_
  · intro V hS; subst hS; go_simp
  simp only [Act.put, y1, y2, y3, y4, y5, y6, y7]
  refine wpAnyH_done (by kernel_rfl) ?_ _
  exact HQ.out _ _ _ _ _ _ _ _ _ _ _ _ _
set_option maxHeartbeats 8000000 in
theorem rg8_no {wr : World} {df : List Deferred} {b1 o1 n c1 hb k : Nat} {x y : ByteArray} {Q : Exit → Act → World → Prop} {t0 t1 t2 t4 t5 t7 t8 t9 t11 t12 t13 t14 t15 t16 t17 t18 t19 t20 t21 t22 t23 t24 t25 t26 t27 t28 t29 t30 t31 t32 t33 t34 t35 t36 t37 t38 t39 t40 t41 t42 t43 t44 t45 t46 t47 t48 t49 t50 t51 t52 t53 t54 t55 t56 t57 t58 : Value} (il : (k : Int) < (n : Int)) (p1 : wr.drew.cell? ⟨b1, o1 + k * 4, none⟩ = some (.string x)) (p2 : wr.drew.cell? ⟨hb, 0, none⟩ = some (.string y)) (hx : Op.bytesLess x.toList y.toList = false)
    (hQp : ∀ c a a' w, Q (.panic c) a w → Q (.panic c) a' w) (hQ : ∀ u29 u30 u31 u32 u33 u34 u35 u36 u37 u38 u39 u40 u41, Q .normal ⟨#[t0, t1, t2, .slice (some ⟨b1, o1, none⟩) n c1, t4, t5, .pointer (some ⟨hb, 0, none⟩), t7, t8, t9, .int .i64 (k : Int), t11, t12, t13, t14, t15, t16, t17, t18, t19, t20, t21, t22, t23, t24, t25, t26, t27, t28, u29, u30, u31, u32, u33, u34, u35, u36, u37, u38, u39, u40, u41, .bool false, t43, t44, t45, t46, t47, t48, t49, t50, t51, t52, t53, t54, t55, t56, t57, t58], df⟩ wr.drew) :
    rg8.wp Try.prog Q ⟨#[t0, t1, t2, .slice (some ⟨b1, o1, none⟩) n c1, t4, t5, .pointer (some ⟨hb, 0, none⟩), t7, t8, t9, .int .i64 (k : Int), t11, t12, t13, t14, t15, t16, t17, t18, t19, t20, t21, t22, t23, t24, t25, t26, t27, t28, t29, t30, t31, t32, t33, t34, t35, t36, t37, t38, t39, t40, t41, t42, t43, t44, t45, t46, t47, t48, t49, t50, t51, t52, t53, t54, t55, t56, t57, t58], df⟩ wr := by
  have HP : Hid (∀ c a a' w, Q (.panic c) a w → Q (.panic c) a' w) := hQp
  have HQ : Hid (∀ u29 u30 u31 u32 u33 u34 u35 u36 u37 u38 u39 u40 u41, Q .normal ⟨#[t0, t1, t2, .slice (some ⟨b1, o1, none⟩) n c1, t4, t5, .pointer (some ⟨hb, 0, none⟩), t7, t8, t9, .int .i64 (k : Int), t11, t12, t13, t14, t15, t16, t17, t18, t19, t20, t21, t22, t23, t24, t25, t26, t27, t28, u29, u30, u31, u32, u33, u34, u35, u36, u37, u38, u39, u40, u41, .bool false, t43, t44, t45, t46, t47, t48, t49, t50, t51, t52, t53, t54, t55, t56, t57, t58], df⟩ wr.drew) := hQ
  clear hQ hQp
  unfold rg8
  refine wp_region_held_drew (S := fun V => V = wr.drew) (by kernel_rfl) rfl (fun hH0 => ?_)
  generalize wr.drew = X at *
  refine tk (i := 0) (v := .int .i64 (k : Int)) rfl (by kernel_rfl) (fun _ _ _ h => HP.out _ _ _ _ h) (by kernel_rfl) ?_ hH0 ?_
  · intro V hS; subst hS; go_simp
  simp only [Act.put, y1, y2, y3, y4, y5, y6, y7]
  refine tk (i := 1) (v := .slice (some ⟨b1, o1, none⟩) n c1) rfl (by kernel_rfl) (fun _ _ _ h => HP.out _ _ _ _ h) (by kernel_rfl) ?_ hH0 ?_
  · intro V hS; subst hS; go_simp
  simp only [Act.put, y1, y2, y3, y4, y5, y6, y7]
  refine tk (i := 2) (v := .int .i64 (n : Int)) rfl (by kernel_rfl) (fun _ _ _ h => HP.out _ _ _ _ h) (by kernel_rfl) ?_ hH0 ?_
  · intro V hS; subst hS; go_simp
  simp only [Act.put, y1, y2, y3, y4, y5, y6, y7]
  refine tk (i := 3) (v := .bool true) rfl (by kernel_rfl) (fun _ _ _ h => HP.out _ _ _ _ h) (by kernel_rfl) ?_ hH0 ?_
  · intro V hS; subst hS; go_simp
  simp only [Act.put, y1, y2, y3, y4, y5, y6, y7]
  refine tk (i := 4) (v := .bool true) rfl (by kernel_rfl) (fun _ _ _ h => HP.out _ _ _ _ h) (by kernel_rfl) ?_ hH0 ?_
  · intro V hS; subst hS; go_simp
  simp only [Act.put, y1, y2, y3, y4, y5, y6, y7]
  refine tk (i := 5) (v := .slice (some ⟨b1, o1, none⟩) n c1) rfl (by kernel_rfl) (fun _ _ _ h => HP.out _ _ _ _ h) (by kernel_rfl) ?_ hH0 ?_
  · intro V hS; subst hS; go_simp
  simp only [Act.put, y1, y2, y3, y4, y5, y6, y7]
  refine tk (i := 6) (v := .int .i64 (k : Int)) rfl (by kernel_rfl) (fun _ _ _ h => HP.out _ _ _ _ h) (by kernel_rfl) ?_ hH0 ?_
  · intro V hS; subst hS; go_simp
  simp only [Act.put, y1, y2, y3, y4, y5, y6, y7]
  refine tk (i := 7) (v := .pointer (some ⟨b1, o1 + k * 4, none⟩)) rfl (by kernel_rfl) (fun _ _ _ h => HP.out _ _ _ _ h) (by kernel_rfl) ?_ hH0 ?_
  · intro V hS; subst hS; go_simp
  simp only [Act.put, y1, y2, y3, y4, y5, y6, y7]
  refine tk (i := 8) (v := .pointer (some ⟨b1, o1 + k * 4, none⟩)) rfl (by kernel_rfl) (fun _ _ _ h => HP.out _ _ _ _ h) (by kernel_rfl) ?_ hH0 ?_
  · intro V hS; subst hS; go_simp
  simp only [Act.put, y1, y2, y3, y4, y5, y6, y7]
  refine tk (i := 9) (v := .string x) rfl (by kernel_rfl) (fun _ _ _ h => HP.out _ _ _ _ h) (by kernel_rfl) ?_ hH0 ?_
  · intro V hS; subst hS; go_simp
  simp only [Act.put, y1, y2, y3, y4, y5, y6, y7]
  refine tk (i := 10) (v := .pointer (some ⟨hb, 0, none⟩)) rfl (by kernel_rfl) (fun _ _ _ h => HP.out _ _ _ _ h) (by kernel_rfl) ?_ hH0 ?_
  · intro V hS; subst hS; go_simp
  simp only [Act.put, y1, y2, y3, y4, y5, y6, y7]
  refine tk (i := 11) (v := .string y) rfl (by kernel_rfl) (fun _ _ _ h => HP.out _ _ _ _ h) (by kernel_rfl) ?_ hH0 ?_
  · intro V hS; subst hS; go_simp
  simp only [Act.put, y1, y2, y3, y4, y5, y6, y7]
  refine tk (i := 12) (v := .bool false) rfl (by kernel_rfl) (fun _ _ _ h => HP.out _ _ _ _ h) (by kernel_rfl) ?_ hH0 ?_
  · intro V hS; subst hS; go_simp
  simp only [Act.put, y1, y2, y3, y4, y5, y6, y7]
  refine tk (i := 13) (v := .bool false) rfl (by kernel_rfl) (fun _ _ _ h => HP.out _ _ _ _ h) (by kernel_rfl) ?_ hH0 ?_
  · intro V hS; subst hS; go_simp
  simp only [Act.put, y1, y2, y3, y4, y5, y6, y7]
  refine wpAnyH_done (by kernel_rfl) ?_ _
  exact HQ.out _ _ _ _ _ _ _ _ _ _ _ _ _

def lk2 : Code := (Go.Code.block 2 (((Go.Code.region 8 #[{ dst := some 29, op := Go.Op.move (Go.Operand.tmp 10), type := 3, pos := "ref.go:278", after := #[], guard := none }, { dst := some 30, op := Go.Op.move (Go.Operand.tmp 3), type := 30, pos := "ref.go:278", after := #[], guard := none }, { dst := some 31, op := Go.Op.call { callee := Go.Callee.builtin Go.Builtin.len, args := #[Go.Operand.tmp 30], argTypes := #[30] }, type := 3, pos := "ref.go:278", after := #[{ on := 1, ground := Go.Ground.data }], guard := none }, { dst := some 32, op := Go.Op.binOp Go.BinOp.lss 3 (Go.Operand.tmp 29) (Go.Operand.tmp 31) 3, type := 4, pos := "ref.go:278", after := #[{ on := 0, ground := Go.Ground.data }, { on := 2, ground := Go.Ground.data }], guard := none }, { dst := some 33, op := Go.Op.move (Go.Operand.tmp 32), type := 4, pos := "ref.go:278", after := #[{ on := 3, ground := Go.Ground.data }], guard := none }, { dst := some 34, op := Go.Op.move (Go.Operand.tmp 3), type := 30, pos := "ref.go:278", after := #[{ on := 4, ground := Go.Ground.guard }], guard := some (4, true) }, { dst := some 35, op := Go.Op.move (Go.Operand.tmp 10), type := 3, pos := "ref.go:278", after := #[{ on := 4, ground := Go.Ground.guard }], guard := some (4, true) }, { dst := some 36, op := Go.Op.indexAddr 30 (Go.Operand.tmp 34) (Go.Operand.tmp 35), type := 0, pos := "ref.go:278", after := #[{ on := 5, ground := Go.Ground.data }, { on := 6, ground := Go.Ground.data }, { on := 4, ground := Go.Ground.guard }], guard := some (4, true) }, { dst := some 37, op := Go.Op.fieldAddr 38 (Go.Operand.tmp 36) 0, type := 0, pos := "ref.go:278", after := #[{ on := 7, ground := Go.Ground.data }, { on := 4, ground := Go.Ground.guard }], guard := some (4, true) }, { dst := some 38, op := Go.Op.load 9 (Go.Operand.tmp 37), type := 9, pos := "ref.go:278", after := #[{ on := 8, ground := Go.Ground.data }, { on := 4, ground := Go.Ground.guard }], guard := some (4, true) }, { dst := some 39, op := Go.Op.fieldAddr 38 (Go.Operand.tmp 6) 0, type := 0, pos := "ref.go:278", after := #[{ on := 4, ground := Go.Ground.guard }], guard := some (4, true) }, { dst := some 40, op := Go.Op.load 9 (Go.Operand.tmp 39), type := 9, pos := "ref.go:278", after := #[{ on := 10, ground := Go.Ground.data }, { on := 4, ground := Go.Ground.guard }], guard := some (4, true) }, { dst := some 41, op := Go.Op.binOp Go.BinOp.lss 9 (Go.Operand.tmp 38) (Go.Operand.tmp 40) 9, type := 4, pos := "ref.go:278", after := #[{ on := 9, ground := Go.Ground.data }, { on := 11, ground := Go.Ground.data }, { on := 4, ground := Go.Ground.guard }], guard := some (4, true) }, { dst := some 42, op := Go.Op.pick (Go.Operand.tmp 33) (Go.Operand.tmp 41) (Go.Operand.const (Go.Value.bool false)), type := 4, pos := "ref.go:278", after := #[{ on := 4, ground := Go.Ground.data }, { on := 12, ground := Go.Ground.data }], guard := none }] true).seq (Go.Code.cond (Go.Operand.tmp 42) Go.Code.skip (Go.Code.exit 2))).seq (Go.Code.block 3 (Go.Code.region 9 #[{ dst := some 43, op := Go.Op.move (Go.Operand.tmp 10), type := 3, pos := "ref.go:279", after := #[], guard := none }, { dst := some 44, op := Go.Op.binOp Go.BinOp.add 3 (Go.Operand.tmp 43) (Go.Operand.const (Go.Value.int Go.IntKind.i64 1)) 3, type := 3, pos := "ref.go:279", after := #[{ on := 0, ground := Go.Ground.data }], guard := none }, { dst := some 10, op := Go.Op.assign (Go.Operand.tmp 44), type := 3, pos := "ref.go:279", after := #[{ on := 1, ground := Go.Ground.data }, { on := 0, ground := Go.Ground.phase }, { on := 1, ground := Go.Ground.phase }], guard := none }] false))).loop)
set_option maxHeartbeats 8000000 in
theorem lk2_wp {w : World} {df : List Deferred} {hb n c1 : Nat} {a : Option Addr} {l : List Hd} {ns : List ByteArray} {nm : ByteArray} {Q : Exit → Act → World → Prop} {t0 t1 t2 t4 t5 t7 t8 t9 t11 t12 t13 t14 t15 t16 t17 t18 t19 t20 t21 t22 t23 t24 t25 t26 t27 t28 t29 t30 t31 t32 t33 t34 t35 t36 t37 t38 t39 t40 t41 t42 t43 t44 t45 t46 t47 t48 t49 t50 t51 t52 t53 t54 t55 t56 t57 t58 : Value}
    (hl : BL w (.slice a n c1) l ns) (hn : n = ns.length) (h9 : ns.length ≤ 256) (hh : w.cell? ⟨hb, 0, none⟩ = some (.string nm))
    (hQ : ∀ u29 u30 u31 u32 u33 u34 u35 u36 u37 u38 u39 u40 u41 u42 u43 u44 (k : Nat) W, k ≤ ns.length → (∀ j, j < k → ltOf cfN (nth ns j) nm = true) → (k < ns.length → ltOf cfN (nth ns k) nm = false) → Below w.heap.size w W → Q .normal ⟨#[t0, t1, t2, .slice a n c1, t4, t5, .pointer (some ⟨hb, 0, none⟩), t7, t8, t9, .int .i64 (k : Int), t11, t12, t13, t14, t15, t16, t17, t18, t19, t20, t21, t22, t23, t24, t25, t26, t27, t28, u29, u30, u31, u32, u33, u34, u35, u36, u37, u38, u39, u40, u41, u42, u43, u44, t45, t46, t47, t48, t49, t50, t51, t52, t53, t54, t55, t56, t57, t58], df⟩ W) :
    lk2.wp Try.prog Q ⟨#[t0, t1, t2, .slice a n c1, t4, t5, .pointer (some ⟨hb, 0, none⟩), t7, t8, t9, .int .i64 0, t11, t12, t13, t14, t15, t16, t17, t18, t19, t20, t21, t22, t23, t24, t25, t26, t27, t28, t29, t30, t31, t32, t33, t34, t35, t36, t37, t38, t39, t40, t41, t42, t43, t44, t45, t46, t47, t48, t49, t50, t51, t52, t53, t54, t55, t56, t57, t58], df⟩ w := by
  have HQ : Hid (∀ u29 u30 u31 u32 u33 u34 u35 u36 u37 u38 u39 u40 u41 u42 u43 u44 (k : Nat) W, k ≤ ns.length → (∀ j, j < k → ltOf cfN (nth ns j) nm = true) → (k < ns.length → ltOf cfN (nth ns k) nm = false) → Below w.heap.size w W → Q .normal ⟨#[t0, t1, t2, .slice a n c1, t4, t5, .pointer (some ⟨hb, 0, none⟩), t7, t8, t9, .int .i64 (k : Int), t11, t12, t13, t14, t15, t16, t17, t18, t19, t20, t21, t22, t23, t24, t25, t26, t27, t28, u29, u30, u31, u32, u33, u34, u35, u36, u37, u38, u39, u40, u41, u42, u43, u44, t45, t46, t47, t48, t49, t50, t51, t52, t53, t54, t55, t56, t57, t58], df⟩ W) := hQ
  have HL : Hid (BL w (.slice a n c1) l ns) := hl
  have HH : Hid (w.cell? ⟨hb, 0, none⟩ = some (.string nm)) := hh
  have HN : Hid (n = ns.length) := hn
  have hn9 : n ≤ 256 := by omega
  clear hQ hl hh hn h9
  unfold lk2
  go_wp2_with fail
  go_loopg [10] n (fun gk v10 wr => ∃ k : Nat, k + gk = n ∧ v10 = .int .i64 (k : Int) ∧ (∀ j, j < k → ltOf cfN (nth ns j) nm = true) ∧ Below w.heap.size w wr)
  case atStart => exact ⟨0, by omega, rfl, (fun j hj => by omega), Below.refl _ _⟩
  case round =>
    obtain ⟨k, hk, rfl, hlow, hB⟩ := hrel
    have HB : Hid (Below w.heap.size w wr) := hB
    have BD : Hid (Below w.heap.size w wr.drew) := hB.drew
    have LO : Hid (∀ j, j < k → ltOf cfN (nth ns j) nm = true) := hlow
    clear hB hlow
    by_cases hlt : k < n
    · have il : (k : Int) < (n : Int) := by omega
      have hlt' : k < ns.length := by rw [← HN.out]; exact hlt
      obtain ⟨a', c', e, q⟩ := (HL.out.of_below BD.out).at
      cases e
      obtain ⟨b1, o1, rfl, p0, p1, p2, p3⟩ := q k hlt'
      have z0 := cell_keep HH.out BD.out
      clear q p1 p2 p3
      by_cases hx : ltOf cfN (nth ns k) nm = true
      · have hx2 : Op.bytesLess (nth ns k).toList nm.toList = true := by rw [less_cf]; exact hx
        have LO2 : Hid (∀ j, j < k + 1 → ltOf cfN (nth ns j) nm = true) := fun j hj => by
          by_cases z : j = k
          · rw [z]; exact hx
          · exact LO.out j (by omega)
        clear hx LO
        generalize nth ns k = x at *
        go_wp2_with fail
        refine wp_region_noPanic ?_
        refine rg8_yes il p0 z0 hx2 (fun _ _ _ _ h => h) ?_
        intro y29 y30 y31 y32 y33 y34 y35 y36 y37 y38 y39 y40 y41
        refine NoPanic.normal ?_
        try dsimp only
        clear p0 z0
        go_wp2_with fail
        go_roundg (gk - 1)
        case measure => omega
        case rel => exact ⟨k + 1, by omega, by go_num, LO2.out, BD.out⟩
      · have hx2 : Op.bytesLess (nth ns k).toList nm.toList = false := by rw [less_cf]; simpa using hx
        have HI : Hid (k < ns.length → ltOf cfN (nth ns k) nm = false) := fun _ => by simpa using hx
        clear hx
        obtain ⟨x, hxe⟩ : ∃ x, x = nth ns k := ⟨_, rfl⟩
        rw [← hxe] at p0 hx2
        clear hxe
        go_wp2_with fail
        refine wp_region_noPanic ?_
        refine rg8_no il p0 z0 hx2 (fun _ _ _ _ h => h) ?_
        intro y29 y30 y31 y32 y33 y34 y35 y36 y37 y38 y39 y40 y41
        refine NoPanic.normal ?_
        try dsimp only
        clear p0 z0
        go_wp2_with fail
        exact HQ.out _ _ _ _ _ _ _ _ _ _ _ _ _ _ _ _ k _ (by omega) LO.out HI.out BD.out
    · obtain rfl : k = n := by omega
      have kn : Hid (k ≤ ns.length ∧ (k < ns.length → ltOf cfN (nth ns k) nm = false)) := ⟨by rw [← HN.out]; exact Nat.le_refl _, fun h => by have := HN.out; omega⟩
      clear hlt
      go_wp2_with fail
      refine wp_region_noPanic ?_
      refine rg8_end (by omega) (fun _ _ _ _ h => h) ?_
      intro y29 y30 y31 y32 y33 y34 y35 y36 y37 y38 y39 y40 y41
      refine NoPanic.normal ?_
      try dsimp only
      go_wp2_with fail
      exact HQ.out _ _ _ _ _ _ _ _ _ _ _ _ _ _ _ _ k _ kn.out.1 LO.out kn.out.2 BD.out
end Go.Proofs.Ytafekaonmpkhiaa
