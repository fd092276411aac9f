/- The program's sums and differences of four words. -/
import Derived.Test.YtohpbclofcflaaaGreatCarry
import Derived.Test.YtohpbclofcflaaaGreatGround
set_option linter.unusedSimpArgs false
set_option linter.unusedVariables false
namespace Go.Proofs.YtohpbclofcflaaaGreat
open Go.RowKit Go.Deep Go.PlainAid

theorem mixed3 : Tryz.prog.follows .mixedOrders = true := by kernel_rfl
theorem size66 : (Tryz.prog.info? 81).map (·.size) = some 4 := by kernel_rfl
def AllB (l : List Nat) : Prop := ∀ d ∈ l, d < BB
/-- i words are gone through; bo is borrowed. -/
structure Su (n m : List Nat) (i : Nat) (p : List Nat) (bo : Nat) : Prop where
  len : p.length = i
  lt : ∀ d ∈ p, d < BB
  b1 : bo ≤ 1
  eq : vl BB p + vl BB (m.take i) = vl BB (n.take i) + BB ^ i * bo
theorem mem_snocB {p : List Nat} {z : Nat} (h : ∀ d ∈ p, d < BB) (hz : z < BB) : ∀ d ∈ p ++ [z], d < BB := by
  intro d hd
  rcases List.mem_append.1 hd with h1 | h1
  · exact h d h1
  · simp at h1; omega
theorem getD_at {l : List Nat} {i : Nat} (h : i < l.length) : l.getD i 0 = l[i] := by rw [List.getD_eq_getElem?_getD, List.getElem?_eq_getElem h]; rfl
theorem Su.step {n m p : List Nat} {i bo z : Nat} (h : Su n m i p bo) (hn : n.getD i 0 < BB) (hm : m.getD i 0 < BB) (hz : z = (n.getD i 0 + BB - m.getD i 0 - bo) % BB) : Su n m (i + 1) (p ++ [z]) (bor (n.getD i 0) (m.getD i 0) bo) := by
  have b1 := h.b1
  have eq := h.eq
  have z9 : z < BB := by rw [hz]; exact Nat.mod_lt _ BB_pos
  have key : z + m.getD i 0 + bo = n.getD i 0 + BB * bor (n.getD i 0) (m.getD i 0) bo := by
    unfold bor
    rw [BB_eq] at *
    split <;> omega
  refine ⟨by simp [h.len], mem_snocB h.lt z9, by unfold bor; split <;> omega, ?_⟩
  rw [vl_snoc, vl_take_succ, vl_take_succ, h.len, Nat.pow_succ]
  generalize bor (n.getD i 0) (m.getD i 0) bo = b' at *
  generalize n.getD i 0 = x at *
  generalize m.getD i 0 = y at *
  have e : BB ^ i * (z + y + bo) = BB ^ i * (x + BB * b') := by rw [key]
  rw [Nat.mul_add, Nat.mul_add, Nat.mul_add, ← Nat.mul_assoc] at e
  omega
/-- i words are gone through; c is carried. -/
structure Ad (n m : List Nat) (i : Nat) (p : List Nat) (c : Nat) : Prop where
  len : p.length = i
  lt : ∀ d ∈ p, d < BB
  b1 : c ≤ 1
  eq : vl BB p + BB ^ i * c = vl BB (n.take i) + vl BB (m.take i)
theorem Ad.step {n m p : List Nat} {i c z : Nat} (h : Ad n m i p c) (hn : n.getD i 0 < BB) (hm : m.getD i 0 < BB) (hz : z = (n.getD i 0 + m.getD i 0 + c) % BB) : Ad n m (i + 1) (p ++ [z]) ((n.getD i 0 + m.getD i 0 + c) / BB) := by
  have b1 := h.b1
  have eq := h.eq
  have z9 : z < BB := by rw [hz]; exact Nat.mod_lt _ BB_pos
  have key : z + BB * ((n.getD i 0 + m.getD i 0 + c) / BB) = n.getD i 0 + m.getD i 0 + c := by rw [hz, Nat.add_comm]; exact Nat.div_add_mod _ _
  refine ⟨by simp [h.len], mem_snocB h.lt z9, by have := Nat.div_lt_of_lt_mul (m := n.getD i 0 + m.getD i 0 + c) (n := BB) (k := 2) (by omega); omega, ?_⟩
  rw [vl_snoc, vl_take_succ, vl_take_succ, h.len, Nat.pow_succ]
  generalize (n.getD i 0 + m.getD i 0 + c) / BB = c' at *
  generalize n.getD i 0 = x at *
  generalize m.getD i 0 = y at *
  have e : BB ^ i * (z + BB * c') = BB ^ i * (x + y + c) := by rw [key]
  rw [Nat.mul_add, Nat.mul_add, Nat.mul_add, ← Nat.mul_assoc] at e
  omega
theorem us_append (l r : List Nat) : us (l ++ r) = us l ++ us r := by simp [us]
theorem us_set (p l : List Nat) (i z : Nat) (hp : p.length = i) (hi : i < l.length) : (us (p ++ l.drop i)).set i (U z) = us (p ++ [z] ++ l.drop (i + 1)) := by
  rw [List.drop_eq_getElem_cons hi]
  simp only [us, ← List.map_set]
  congr 1
  rw [List.set_append_right _ _ (by omega), show i - p.length = 0 by omega, List.set_cons_zero, List.append_assoc]
  rfl
theorem us_at (p l : List Nat) (i : Nat) (hp : p.length = i) (hi : i < l.length) (h : i < (us (p ++ l.drop i)).length) : (us (p ++ l.drop i))[i] = U (l.getD i 0) := by
  simp only [us, List.getElem_map]
  rw [List.getElem_append_right (by omega), getD_at hi]
  simp [hp]
theorem list4 {l : List Nat} (h : l.length = 4) : ∃ a b c d, l = [a, b, c, d] := by
  match l, h with
  | [a, b, c, d], _ => exact ⟨a, b, c, d, rfl⟩
/-- A number as the program holds it. -/
def A4 (n : Nat) : Value := .agg #[U (w4 n 0), U (w4 n 1), U (w4 n 2), U (w4 n 3)]
theorem A4_of {a b c d n : Nat} (h : ∀ x ∈ [a, b, c, d], x < BB) (e : vl BB [a, b, c, d] = n) : Value.agg #[U a, U b, U c, U d] = A4 n := by
  have := ws4_vl (l := [a, b, c, d]) rfl h
  rw [e] at this
  simp only [ws4, List.cons.injEq, and_true] at this
  obtain ⟨h0, h1, h2, h3⟩ := this
  unfold A4
  rw [h0, h1, h2, h3]
set_option maxRecDepth 100000 in
set_option maxHeartbeats 2000000 in
theorem minus_any (w : World) (x0 x1 x2 x3 m0 m1 m2 m3 : Nat) (hx : ∀ d ∈ [x0, x1, x2, x3], d < BB) (hy : ∀ d ∈ [m0, m1, m2, m3], d < BB) :
    Calls Tryz.prog 89 #[.agg #[U x0, U x1, U x2, U x3], .agg #[U m0, U m1, U m2, U m3]] w fun e w' => (∃ z0 z1 z2 z3 b, e = .returned (.tuple #[.agg #[U z0, U z1, U z2, U z3], U b]) ∧ AllB [z0, z1, z2, z3] ∧ b ≤ 1 ∧ vl BB [z0, z1, z2, z3] + vl BB [m0, m1, m2, m3] = vl BB [x0, x1, x2, x3] + BB ^ 4 * b) ∧ Below w.heap.size w w' := by
  have HX : Hid (∀ i, [x0, x1, x2, x3].getD i 0 < BB) := fun i => getD_ltB hx i
  have HY : Hid (∀ i, [m0, m1, m2, m3].getD i 0 < BB) := fun i => getD_ltB hy i
  clear hx hy
  go_enter Tryz.func89, Tryz.ntmps89
  go_wp2_with fail
  obtain ⟨W0, hW0⟩ : ∃ X, X = ((w.alloc (.cells #[U x0, U x1, U x2, U x3] 81)).alloc (.cells #[U m0, U m1, U m2, U m3] 81)).alloc (.cells #[.int .u64 0, .int .u64 0, .int .u64 0, .int .u64 0] 81) := ⟨_, rfl⟩
  have q0 : Hid (IHolds W0 w.heap.size 81 (us [x0, x1, x2, x3])) := by
    show IHolds _ _ _ _
    rw [hW0]; exact ((IHolds.new w 81 (us [x0, x1, x2, x3])).alloc _).alloc _
  have q1 : Hid (IHolds W0 (w.heap.size + 1) 81 (us [m0, m1, m2, m3])) := by
    show IHolds _ _ _ _
    have q := IHolds.new (w.alloc (.cells #[U x0, U x1, U x2, U x3] 81)) 81 (us [m0, m1, m2, m3])
    rw [World.size_alloc] at q
    rw [hW0]; exact q.alloc _
  have q2 : Hid (IHolds W0 (w.heap.size + 2) 81 [.int .u64 0, .int .u64 0, .int .u64 0, .int .u64 0]) := by
    show IHolds _ _ _ _
    have q := IHolds.new ((w.alloc (.cells #[U x0, U x1, U x2, U x3] 81)).alloc (.cells #[U m0, U m1, U m2, U m3] 81)) 81 [.int .u64 0, .int .u64 0, .int .u64 0, .int .u64 0]
    simp only [World.size_alloc, Nat.add_assoc, Nat.reduceAdd] at q
    rw [hW0]; exact q
  have q3 : Hid (Below w.heap.size w W0) := by
    show Below _ _ _
    rw [hW0]; exact (((Below.refl _ w).alloc (Nat.le_refl _) _).alloc (by simp only [World.size_alloc]; omega) _).alloc (by simp only [World.size_alloc]; omega) _
  rw [← hW0]
  clear hW0
  obtain ⟨b0, hb0⟩ : ∃ b, b = w.heap.size := ⟨_, rfl⟩
  rw [← hb0] at q0 q1 q2 ⊢
  have q4 : Hid (b0 = w.heap.size) := hb0
  clear hb0
  go_loopg [6, 8] 4 (fun gk v6 v8 wr => ∃ (i bo : Nat) (p : List Nat), i + gk = 4 ∧ v6 = U bo ∧ v8 = .int .i64 (i : Int) ∧ Su [x0, x1, x2, x3] [m0, m1, m2, m3] i p bo ∧ IHolds wr b0 81 (us (p ++ [x0, x1, x2, x3].drop i)) ∧ IHolds wr (b0 + 1) 81 (us [m0, m1, m2, m3]) ∧ IHolds wr (b0 + 2) 81 [.int .u64 0, .int .u64 0, .int .u64 0, .int .u64 0] ∧ Below w.heap.size w wr)
  case atStart => exact ⟨0, 0, [], by omega, rfl, rfl, ⟨rfl, by simp, by omega, by simp [vl]⟩, q0.out, q1.out, q2.out, q3.out⟩
  case round =>
    obtain ⟨i, bo, p, hi, rfl, rfl, hS, hA, hM, hZ, hB⟩ := hrel
    clear q0 q1 q2 q3
    by_cases hlt : i < 4
    · have il : (i : Int) < 4 := by omega
      have i0 : (0 : Int) ≤ (i : Int) := by omega
      have xb := HX.out i
      have yb := HY.out i
      have bo1 := hS.b1
      have ST : Hid (∀ z, z = ([x0, x1, x2, x3].getD i 0 + BB - [m0, m1, m2, m3].getD i 0 - bo) % BB → Su [x0, x1, x2, x3] [m0, m1, m2, m3] (i + 1) (p ++ [z]) (bor ([x0, x1, x2, x3].getD i 0) ([m0, m1, m2, m3].getD i 0) bo)) := fun z hz => hS.step xb yb hz
      have cx : wr.cell? ⟨b0, i, none⟩ = some (U ([x0, x1, x2, x3].getD i 0)) := by
        have hl : i < (us (p ++ [x0, x1, x2, x3].drop i)).length := by rw [us_length, List.length_append, hS.len, List.length_drop]; simp; omega
        rw [hA.cell i hl, us_at p _ i hS.len (by simp; omega)]
      have cy : wr.cell? ⟨b0 + 1, i, none⟩ = some (U ([m0, m1, m2, m3].getD i 0)) := by
        rw [hM.cell i (by rw [us_length]; simp; omega)]
        simp only [us, List.getElem_map]
        rw [getD_at (by simp; omega)]
      have fx : wr.frozen? ⟨b0, i, none⟩ = false := hA.frozen i
      have cy3' : ∀ z, (wr.drew.setCell ⟨b0, i, none⟩ (U z)).cell? ⟨b0 + 1, i, none⟩ = some (U ([m0, m1, m2, m3].getD i 0)) := fun z => by
        have q : IHolds (wr.setCell ⟨b0, i, none⟩ (U z)) (b0 + 1) 81 (us [m0, m1, m2, m3]) := hM.of_but ((But.refl _ wr).setCell i _) (by omega)
        have e := q.cell i (by rw [us_length]; simp; omega)
        have e2 : (us [m0, m1, m2, m3])[i]'(by rw [us_length]; simp; omega) = U ([m0, m1, m2, m3].getD i 0) := by simp only [us, List.getElem_map]; rw [getD_at (by simp; omega)]
        rw [e2] at e
        exact e
      have HA2 : Hid (∀ z, IHolds (wr.setCell ⟨b0, i, none⟩ (U z)) b0 81 (us (p ++ [z] ++ [x0, x1, x2, x3].drop (i + 1)))) := fun z => by
        have := hA.set i (U z)
        rw [us_set p _ i z hS.len (by simp; omega)] at this
        exact this
      have HM2 : Hid (∀ z, IHolds (wr.setCell ⟨b0, i, none⟩ (U z)) (b0 + 1) 81 (us [m0, m1, m2, m3])) := fun z => hM.of_but ((But.refl _ wr).setCell i _) (by omega)
      have HZ2 : Hid (∀ z, IHolds (wr.setCell ⟨b0, i, none⟩ (U z)) (b0 + 2) 81 [.int .u64 0, .int .u64 0, .int .u64 0, .int .u64 0]) := fun z => hZ.of_but ((But.refl _ wr).setCell i _) (by omega)
      have HB2 : Hid (∀ z, Below w.heap.size w (wr.setCell ⟨b0, i, none⟩ (U z))) := fun z => hB.setCell (by rw [← q4.out]; exact Nat.le_refl _) _
      generalize [x0, x1, x2, x3].getD i 0 = x at *
      generalize [m0, m1, m2, m3].getD i 0 = y at *
      have X := sub64 x y bo bo1
      rw [← BB_eq] at X
      obtain ⟨z, hz⟩ : ∃ z, z = (x + BB - y - bo) % BB := ⟨_, rfl⟩
      obtain ⟨c, hc⟩ : ∃ c, c = bor x y bo := ⟨_, rfl⟩
      rw [← hz, ← hc] at X
      have cy3 := cy3' z
      clear cy3'
      have ST2 : Hid (Su [x0, x1, x2, x3] [m0, m1, m2, m3] (i + 1) (p ++ [z]) c) := by rw [hc]; exact ST.out z hz
      have HA3 := HA2.out z
      have HM3 := HM2.out z
      have HZ3 := HZ2.out z
      have HB3 := HB2.out z
      have HA4 : Hid (IHolds _ _ _ _) := HA3
      have HM4 : Hid (IHolds _ _ _ _) := HM3
      have HZ4 : Hid (IHolds _ _ _ _) := HZ3
      have HB4 : Hid (Below _ _ _) := HB3
      clear ST hz hc hS hA hM hZ hB xb yb HA2 HM2 HZ2 HB2 HA3 HM3 HZ3 HB3
      go_wp2_with fail
      refine wp_region_held_drew (S := fun W => W.cell? ⟨b0 + 1, i, none⟩ = some (U y)) (by kernel_rfl) (show wr.drew.cell? _ = _ from cy) (fun hH => ?_)
      refine tk (i := 0) (v := .int .i64 (i : Int)) rfl (by kernel_rfl) (fun _ _ _ h => h) rfl ?_ hH ?_
      · intro W hS; go_simp
      simp only [Act.put, y1, y2, y3, y4, y5, y6, y7]
      refine tk (i := 1) (v := .int .i64 (i : Int)) rfl (by kernel_rfl) (fun _ _ _ h => h) rfl ?_ hH ?_
      · intro W hS; go_simp
      simp only [Act.put, y1, y2, y3, y4, y5, y6, y7]
      refine tk (i := 2) (v := .pointer (some ⟨b0, i, none⟩)) rfl (by kernel_rfl) (fun _ _ _ h => h) rfl ?_ hH ?_
      · intro W hS; go_simp
      simp only [Act.put, y1, y2, y3, y4, y5, y6, y7]
      refine tk (i := 4) (v := .int .i64 (i : Int)) rfl (by kernel_rfl) (fun _ _ _ h => h) rfl ?_ hH ?_
      · intro W hS; go_simp
      simp only [Act.put, y1, y2, y3, y4, y5, y6, y7]
      refine tk (i := 5) (v := .pointer (some ⟨b0 + 1, i, none⟩)) rfl (by kernel_rfl) (fun _ _ _ h => h) rfl ?_ hH ?_
      · intro W hS; go_simp
      simp only [Act.put, y1, y2, y3, y4, y5, y6, y7]
      refine tk (i := 6) (v := U y) rfl (by kernel_rfl) (fun _ _ _ h => h) rfl ?_ hH ?_
      · intro W hS; go_simp
      simp only [Act.put, y1, y2, y3, y4, y5, y6, y7]
      refine tk (i := 7) (v := U bo) rfl (by kernel_rfl) (fun _ _ _ h => h) rfl ?_ hH ?_
      · intro W hS; go_simp
      simp only [Act.put, y1, y2, y3, y4, y5, y6, y7]
      refine wpAnyH_ready (rs := [3]) (by kernel_rfl) (by simp) ?_
      refine AllReadyH.cons rfl (fun K hK => ?_) AllReadyH.nil
      clear hH
      have cx2 : wr.drew.cell? ⟨b0, i, none⟩ = some (U x) := cx
      go_simp
      refine hK.out _ _ (show wr.drew.cell? _ = _ from cy) (fun hH2 => ?_)
      clear hK K
      try simp only [Act.put, y1, y2, y3, y4, y5, y6, y7]
      refine tk (i := 8) (v := .tuple #[U z, U c]) rfl (by kernel_rfl) (fun _ _ _ h => h) rfl ?_ hH2 ?_
      · intro W hS; simp only [execOp]; go_simp
      simp only [Act.put, y1, y2, y3, y4, y5, y6, y7]
      refine tk (i := 9) (v := .tuple #[U z, U c]) rfl (by kernel_rfl) (fun _ _ _ h => h) rfl ?_ hH2 ?_
      · intro W hS; go_simp
      simp only [Act.put, y1, y2, y3, y4, y5, y6, y7]
      refine tk (i := 10) (v := U z) rfl (by kernel_rfl) (fun _ _ _ h => h) rfl ?_ hH2 ?_
      · intro W hS; go_simp
      simp only [Act.put, y1, y2, y3, y4, y5, y6, y7]
      refine tk (i := 11) (v := U c) rfl (by kernel_rfl) (fun _ _ _ h => h) rfl ?_ hH2 ?_
      · intro W hS; go_simp
      simp only [Act.put, y1, y2, y3, y4, y5, y6, y7]
      refine tk (i := 12) (v := .pointer (some ⟨b0, i, none⟩)) rfl (by kernel_rfl) (fun _ _ _ h => h) rfl ?_ hH2 ?_
      · intro W hS; go_simp
      simp only [Act.put, y1, y2, y3, y4, y5, y6, y7]
      refine wpAnyH_ready (rs := [13]) (by kernel_rfl) (by simp) ?_
      refine AllReadyH.cons rfl (fun K hK => ?_) AllReadyH.nil
      clear hH2
      have fx2 : wr.drew.frozen? ⟨b0, i, none⟩ = false := fx
      have cy2 : (wr.drew.setCell ⟨b0, i, none⟩ (U z)).cell? ⟨b0 + 1, i, none⟩ = some (U y) := cy3
      go_simp
      try go_wp2_with fail
      refine hK.out _ _ cy2 (fun hH3 => ?_)
      clear hK K
      try simp only [Act.put, y1, y2, y3, y4, y5, y6, y7]
      refine tk (i := 14) (v := U c) rfl (by kernel_rfl) (fun _ _ _ h => h) rfl ?_ hH3 ?_
      · intro W hS; go_simp
      simp only [Act.put, y1, y2, y3, y4, y5, y6, y7]
      refine wpAnyH_done (by kernel_rfl) ?_ _
      clear hH3 X cx cx2 cy cy2 cy3 fx fx2
      go_wp2_with fail
      go_roundg (gk - 1)
      case measure => omega
      case rel => exact ⟨i + 1, c, p ++ [z], by omega, rfl, by go_num, ST2.out, HA4.out, HM4.out, HZ4.out, HB4.out.drew⟩
    · obtain rfl : i = 4 := by omega
      have il : ¬ ((4 : Nat) : Int) < 4 := by omega
      have hd := hS.len
      have he := hS.eq
      obtain ⟨z0, z1, z2, z3, rfl⟩ := list4 hd
      have R1 : Hid (AllB [z0, z1, z2, z3] ∧ bo ≤ 1 ∧ vl BB [z0, z1, z2, z3] + vl BB [m0, m1, m2, m3] = vl BB [x0, x1, x2, x3] + BB ^ 4 * bo) := ⟨hS.lt, hS.b1, he⟩
      have hA' : IHolds wr b0 81 [U z0, U z1, U z2, U z3] := hA
      have c0 : wr.cell? ⟨b0, 0, none⟩ = some (U z0) := hA'.cell 0 (by simp)
      have c1 : wr.cell? ⟨b0, 1, none⟩ = some (U z1) := hA'.cell 1 (by simp)
      have c2 : wr.cell? ⟨b0, 2, none⟩ = some (U z2) := hA'.cell 2 (by simp)
      have c3 : wr.cell? ⟨b0, 3, none⟩ = some (U z3) := hA'.cell 3 (by simp)
      have d0 : wr.cell? ⟨b0 + 2, 0, none⟩ = some (.int .u64 0) := hZ.cell 0 (by simp)
      have d1 : wr.cell? ⟨b0 + 2, 1, none⟩ = some (.int .u64 0) := hZ.cell 1 (by simp)
      have d2 : wr.cell? ⟨b0 + 2, 2, none⟩ = some (.int .u64 0) := hZ.cell 2 (by simp)
      have d3 : wr.cell? ⟨b0 + 2, 3, none⟩ = some (.int .u64 0) := hZ.cell 3 (by simp)
      have f0 : ∀ i, wr.frozen? ⟨b0 + 2, i, none⟩ = false := fun i => hZ.frozen i
      obtain ⟨W9, hW9⟩ : ∃ X, X = (((wr.setCell ⟨b0 + 2, 0, none⟩ (U z0)).setCell ⟨b0 + 2, 1, none⟩ (U z1)).setCell ⟨b0 + 2, 2, none⟩ (U z2)).setCell ⟨b0 + 2, 3, none⟩ (U z3) := ⟨_, rfl⟩
      have hZ9 : Hid (IHolds W9 (b0 + 2) 81 [U z0, U z1, U z2, U z3]) := by
        show IHolds _ _ _ _
        rw [hW9]; exact (((hZ.set 0 (U z0)).set 1 (U z1)).set 2 (U z2)).set 3 (U z3)
      have hB9 : Hid (Below w.heap.size w W9) := by
        show Below _ _ _
        have hq : w.heap.size ≤ b0 + 2 := by rw [← q4.out]; omega
        rw [hW9]; exact (((hB.setCell hq _).setCell hq _).setCell hq _).setCell hq _
      clear hS hA hA' hM hZ hB hd he q4
      go_wp2_with fail
      rw [← hW9]
      clear hW9 c0 c1 c2 c3 d0 d1 d2 d3 f0
      have E0 : W9.cell? ⟨b0 + 2, 0, none⟩ = some (U z0) := hZ9.out.cell 0 (by simp)
      have E1 : W9.cell? ⟨b0 + 2, 1, none⟩ = some (U z1) := hZ9.out.cell 1 (by simp)
      have E2 : W9.cell? ⟨b0 + 2, 2, none⟩ = some (U z2) := hZ9.out.cell 2 (by simp)
      have E3 : W9.cell? ⟨b0 + 2, 3, none⟩ = some (U z3) := hZ9.out.cell 3 (by simp)
      exact bodyPost_ret (v := .tuple #[.agg #[U z0, U z1, U z2, U z3], U bo]) (by simp [results, Tryz.results89, go_sem, E0, E1, E2, E3]) rfl (by first | exact ⟨⟨z0, z1, z2, z3, bo, rfl, R1.out⟩, hB9.out⟩ | exact ⟨⟨z0, z1, z2, z3, rfl, R1.out.1, bo, R1.out.2.1, R1.out.2.2⟩, hB9.out⟩)
set_option maxRecDepth 100000 in
set_option maxHeartbeats 2000000 in
theorem plus_words (w : World) (x0 x1 x2 x3 m0 m1 m2 m3 : Nat) (hx : ∀ d ∈ [x0, x1, x2, x3], d < BB) (hy : ∀ d ∈ [m0, m1, m2, m3], d < BB) :
    Calls Tryz.prog 98 #[.agg #[U x0, U x1, U x2, U x3], .agg #[U m0, U m1, U m2, U m3]] w fun e w' => (∃ z0 z1 z2 z3 b, e = .returned (.agg #[U z0, U z1, U z2, U z3]) ∧ AllB [z0, z1, z2, z3] ∧ b ≤ 1 ∧ vl BB [z0, z1, z2, z3] + BB ^ 4 * b = vl BB [x0, x1, x2, x3] + vl BB [m0, m1, m2, m3]) ∧ Below w.heap.size w w' := by
  have HX : Hid (∀ i, [x0, x1, x2, x3].getD i 0 < BB) := fun i => getD_ltB hx i
  have HY : Hid (∀ i, [m0, m1, m2, m3].getD i 0 < BB) := fun i => getD_ltB hy i
  clear hx hy
  go_enter Tryz.func98, Tryz.ntmps98
  go_wp2_with fail
  obtain ⟨W0, hW0⟩ : ∃ X, X = ((w.alloc (.cells #[U x0, U x1, U x2, U x3] 81)).alloc (.cells #[U m0, U m1, U m2, U m3] 81)).alloc (.cells #[.int .u64 0, .int .u64 0, .int .u64 0, .int .u64 0] 81) := ⟨_, rfl⟩
  have q0 : Hid (IHolds W0 w.heap.size 81 (us [x0, x1, x2, x3])) := by
    show IHolds _ _ _ _
    rw [hW0]; exact ((IHolds.new w 81 (us [x0, x1, x2, x3])).alloc _).alloc _
  have q1 : Hid (IHolds W0 (w.heap.size + 1) 81 (us [m0, m1, m2, m3])) := by
    show IHolds _ _ _ _
    have q := IHolds.new (w.alloc (.cells #[U x0, U x1, U x2, U x3] 81)) 81 (us [m0, m1, m2, m3])
    rw [World.size_alloc] at q
    rw [hW0]; exact q.alloc _
  have q2 : Hid (IHolds W0 (w.heap.size + 2) 81 [.int .u64 0, .int .u64 0, .int .u64 0, .int .u64 0]) := by
    show IHolds _ _ _ _
    have q := IHolds.new ((w.alloc (.cells #[U x0, U x1, U x2, U x3] 81)).alloc (.cells #[U m0, U m1, U m2, U m3] 81)) 81 [.int .u64 0, .int .u64 0, .int .u64 0, .int .u64 0]
    simp only [World.size_alloc, Nat.add_assoc, Nat.reduceAdd] at q
    rw [hW0]; exact q
  have q3 : Hid (Below w.heap.size w W0) := by
    show Below _ _ _
    rw [hW0]; exact (((Below.refl _ w).alloc (Nat.le_refl _) _).alloc (by simp only [World.size_alloc]; omega) _).alloc (by simp only [World.size_alloc]; omega) _
  rw [← hW0]
  clear hW0
  obtain ⟨b0, hb0⟩ : ∃ b, b = w.heap.size := ⟨_, rfl⟩
  rw [← hb0] at q0 q1 q2 ⊢
  have q4 : Hid (b0 = w.heap.size) := hb0
  clear hb0
  go_loopg [5, 7] 4 (fun gk v5 v7 wr => ∃ (i bo : Nat) (p : List Nat), i + gk = 4 ∧ v5 = U bo ∧ v7 = .int .i64 (i : Int) ∧ Ad [x0, x1, x2, x3] [m0, m1, m2, m3] i p bo ∧ IHolds wr b0 81 (us (p ++ [x0, x1, x2, x3].drop i)) ∧ IHolds wr (b0 + 1) 81 (us [m0, m1, m2, m3]) ∧ IHolds wr (b0 + 2) 81 [.int .u64 0, .int .u64 0, .int .u64 0, .int .u64 0] ∧ Below w.heap.size w wr)
  case atStart => exact ⟨0, 0, [], by omega, rfl, rfl, ⟨rfl, by simp, by omega, by simp [vl]⟩, q0.out, q1.out, q2.out, q3.out⟩
  case round =>
    obtain ⟨i, bo, p, hi, rfl, rfl, hS, hA, hM, hZ, hB⟩ := hrel
    clear q0 q1 q2 q3
    by_cases hlt : i < 4
    · have il : (i : Int) < 4 := by omega
      have i0 : (0 : Int) ≤ (i : Int) := by omega
      have xb := HX.out i
      have yb := HY.out i
      have bo1 := hS.b1
      have ST : Hid (∀ z, z = ([x0, x1, x2, x3].getD i 0 + [m0, m1, m2, m3].getD i 0 + bo) % BB → Ad [x0, x1, x2, x3] [m0, m1, m2, m3] (i + 1) (p ++ [z]) (([x0, x1, x2, x3].getD i 0 + [m0, m1, m2, m3].getD i 0 + bo) / BB)) := fun z hz => hS.step xb yb hz
      have cx : wr.cell? ⟨b0, i, none⟩ = some (U ([x0, x1, x2, x3].getD i 0)) := by
        have hl : i < (us (p ++ [x0, x1, x2, x3].drop i)).length := by rw [us_length, List.length_append, hS.len, List.length_drop]; simp; omega
        rw [hA.cell i hl, us_at p _ i hS.len (by simp; omega)]
      have cy : wr.cell? ⟨b0 + 1, i, none⟩ = some (U ([m0, m1, m2, m3].getD i 0)) := by
        rw [hM.cell i (by rw [us_length]; simp; omega)]
        simp only [us, List.getElem_map]
        rw [getD_at (by simp; omega)]
      have fx : wr.frozen? ⟨b0, i, none⟩ = false := hA.frozen i
      have cy3' : ∀ z, (wr.drew.setCell ⟨b0, i, none⟩ (U z)).cell? ⟨b0 + 1, i, none⟩ = some (U ([m0, m1, m2, m3].getD i 0)) := fun z => by
        have q : IHolds (wr.setCell ⟨b0, i, none⟩ (U z)) (b0 + 1) 81 (us [m0, m1, m2, m3]) := hM.of_but ((But.refl _ wr).setCell i _) (by omega)
        have e := q.cell i (by rw [us_length]; simp; omega)
        have e2 : (us [m0, m1, m2, m3])[i]'(by rw [us_length]; simp; omega) = U ([m0, m1, m2, m3].getD i 0) := by simp only [us, List.getElem_map]; rw [getD_at (by simp; omega)]
        rw [e2] at e
        exact e
      have HA2 : Hid (∀ z, IHolds (wr.setCell ⟨b0, i, none⟩ (U z)) b0 81 (us (p ++ [z] ++ [x0, x1, x2, x3].drop (i + 1)))) := fun z => by
        have := hA.set i (U z)
        rw [us_set p _ i z hS.len (by simp; omega)] at this
        exact this
      have HM2 : Hid (∀ z, IHolds (wr.setCell ⟨b0, i, none⟩ (U z)) (b0 + 1) 81 (us [m0, m1, m2, m3])) := fun z => hM.of_but ((But.refl _ wr).setCell i _) (by omega)
      have HZ2 : Hid (∀ z, IHolds (wr.setCell ⟨b0, i, none⟩ (U z)) (b0 + 2) 81 [.int .u64 0, .int .u64 0, .int .u64 0, .int .u64 0]) := fun z => hZ.of_but ((But.refl _ wr).setCell i _) (by omega)
      have HB2 : Hid (∀ z, Below w.heap.size w (wr.setCell ⟨b0, i, none⟩ (U z))) := fun z => hB.setCell (by rw [← q4.out]; exact Nat.le_refl _) _
      generalize [x0, x1, x2, x3].getD i 0 = x at *
      generalize [m0, m1, m2, m3].getD i 0 = y at *
      have X := add64 x y bo bo1
      rw [← BB_eq] at X
      obtain ⟨z, hz⟩ : ∃ z, z = (x + y + bo) % BB := ⟨_, rfl⟩
      obtain ⟨c, hc⟩ : ∃ c, c = (x + y + bo) / BB := ⟨_, rfl⟩
      rw [← hz, ← hc] at X
      have cy3 := cy3' z
      clear cy3'
      have ST2 : Hid (Ad [x0, x1, x2, x3] [m0, m1, m2, m3] (i + 1) (p ++ [z]) c) := by rw [hc]; exact ST.out z hz
      have HA3 := HA2.out z
      have HM3 := HM2.out z
      have HZ3 := HZ2.out z
      have HB3 := HB2.out z
      have HA4 : Hid (IHolds _ _ _ _) := HA3
      have HM4 : Hid (IHolds _ _ _ _) := HM3
      have HZ4 : Hid (IHolds _ _ _ _) := HZ3
      have HB4 : Hid (Below _ _ _) := HB3
      clear ST hz hc hS hA hM hZ hB xb yb HA2 HM2 HZ2 HB2 HA3 HM3 HZ3 HB3
      go_wp2_with fail
      refine wp_region_held_drew (S := fun W => W.cell? ⟨b0 + 1, i, none⟩ = some (U y)) (by kernel_rfl) (show wr.drew.cell? _ = _ from cy) (fun hH => ?_)
      refine tk (i := 0) (v := .int .i64 (i : Int)) rfl (by kernel_rfl) (fun _ _ _ h => h) rfl ?_ hH ?_
      · intro W hS; go_simp
      simp only [Act.put, y1, y2, y3, y4, y5, y6, y7]
      refine tk (i := 1) (v := .int .i64 (i : Int)) rfl (by kernel_rfl) (fun _ _ _ h => h) rfl ?_ hH ?_
      · intro W hS; go_simp
      simp only [Act.put, y1, y2, y3, y4, y5, y6, y7]
      refine tk (i := 2) (v := .pointer (some ⟨b0, i, none⟩)) rfl (by kernel_rfl) (fun _ _ _ h => h) rfl ?_ hH ?_
      · intro W hS; go_simp
      simp only [Act.put, y1, y2, y3, y4, y5, y6, y7]
      refine tk (i := 4) (v := .int .i64 (i : Int)) rfl (by kernel_rfl) (fun _ _ _ h => h) rfl ?_ hH ?_
      · intro W hS; go_simp
      simp only [Act.put, y1, y2, y3, y4, y5, y6, y7]
      refine tk (i := 5) (v := .pointer (some ⟨b0 + 1, i, none⟩)) rfl (by kernel_rfl) (fun _ _ _ h => h) rfl ?_ hH ?_
      · intro W hS; go_simp
      simp only [Act.put, y1, y2, y3, y4, y5, y6, y7]
      refine tk (i := 6) (v := U y) rfl (by kernel_rfl) (fun _ _ _ h => h) rfl ?_ hH ?_
      · intro W hS; go_simp
      simp only [Act.put, y1, y2, y3, y4, y5, y6, y7]
      refine tk (i := 7) (v := U bo) rfl (by kernel_rfl) (fun _ _ _ h => h) rfl ?_ hH ?_
      · intro W hS; go_simp
      simp only [Act.put, y1, y2, y3, y4, y5, y6, y7]
      refine wpAnyH_ready (rs := [3]) (by kernel_rfl) (by simp) ?_
      refine AllReadyH.cons rfl (fun K hK => ?_) AllReadyH.nil
      clear hH
      have cx2 : wr.drew.cell? ⟨b0, i, none⟩ = some (U x) := cx
      go_simp
      refine hK.out _ _ (show wr.drew.cell? _ = _ from cy) (fun hH2 => ?_)
      clear hK K
      try simp only [Act.put, y1, y2, y3, y4, y5, y6, y7]
      refine tk (i := 8) (v := .tuple #[U z, U c]) rfl (by kernel_rfl) (fun _ _ _ h => h) rfl ?_ hH2 ?_
      · intro W hS; simp only [execOp]; go_simp
      simp only [Act.put, y1, y2, y3, y4, y5, y6, y7]
      refine tk (i := 9) (v := .tuple #[U z, U c]) rfl (by kernel_rfl) (fun _ _ _ h => h) rfl ?_ hH2 ?_
      · intro W hS; go_simp
      simp only [Act.put, y1, y2, y3, y4, y5, y6, y7]
      refine tk (i := 10) (v := U z) rfl (by kernel_rfl) (fun _ _ _ h => h) rfl ?_ hH2 ?_
      · intro W hS; go_simp
      simp only [Act.put, y1, y2, y3, y4, y5, y6, y7]
      refine tk (i := 11) (v := U c) rfl (by kernel_rfl) (fun _ _ _ h => h) rfl ?_ hH2 ?_
      · intro W hS; go_simp
      simp only [Act.put, y1, y2, y3, y4, y5, y6, y7]
      refine tk (i := 12) (v := .pointer (some ⟨b0, i, none⟩)) rfl (by kernel_rfl) (fun _ _ _ h => h) rfl ?_ hH2 ?_
      · intro W hS; go_simp
      simp only [Act.put, y1, y2, y3, y4, y5, y6, y7]
      refine wpAnyH_ready (rs := [13]) (by kernel_rfl) (by simp) ?_
      refine AllReadyH.cons rfl (fun K hK => ?_) AllReadyH.nil
      clear hH2
      have fx2 : wr.drew.frozen? ⟨b0, i, none⟩ = false := fx
      have cy2 : (wr.drew.setCell ⟨b0, i, none⟩ (U z)).cell? ⟨b0 + 1, i, none⟩ = some (U y) := cy3
      go_simp
      try go_wp2_with fail
      refine hK.out _ _ cy2 (fun hH3 => ?_)
      clear hK K
      try simp only [Act.put, y1, y2, y3, y4, y5, y6, y7]
      refine tk (i := 14) (v := U c) rfl (by kernel_rfl) (fun _ _ _ h => h) rfl ?_ hH3 ?_
      · intro W hS; go_simp
      simp only [Act.put, y1, y2, y3, y4, y5, y6, y7]
      refine wpAnyH_done (by kernel_rfl) ?_ _
      clear hH3 X cx cx2 cy cy2 cy3 fx fx2
      go_wp2_with fail
      go_roundg (gk - 1)
      case measure => omega
      case rel => exact ⟨i + 1, c, p ++ [z], by omega, rfl, by go_num, ST2.out, HA4.out, HM4.out, HZ4.out, HB4.out.drew⟩
    · obtain rfl : i = 4 := by omega
      have il : ¬ ((4 : Nat) : Int) < 4 := by omega
      have hd := hS.len
      have he := hS.eq
      obtain ⟨z0, z1, z2, z3, rfl⟩ := list4 hd
      have R1 : Hid (AllB [z0, z1, z2, z3] ∧ bo ≤ 1 ∧ vl BB [z0, z1, z2, z3] + BB ^ 4 * bo = vl BB [x0, x1, x2, x3] + vl BB [m0, m1, m2, m3]) := ⟨hS.lt, hS.b1, he⟩
      have hA' : IHolds wr b0 81 [U z0, U z1, U z2, U z3] := hA
      have c0 : wr.cell? ⟨b0, 0, none⟩ = some (U z0) := hA'.cell 0 (by simp)
      have c1 : wr.cell? ⟨b0, 1, none⟩ = some (U z1) := hA'.cell 1 (by simp)
      have c2 : wr.cell? ⟨b0, 2, none⟩ = some (U z2) := hA'.cell 2 (by simp)
      have c3 : wr.cell? ⟨b0, 3, none⟩ = some (U z3) := hA'.cell 3 (by simp)
      have d0 : wr.cell? ⟨b0 + 2, 0, none⟩ = some (.int .u64 0) := hZ.cell 0 (by simp)
      have d1 : wr.cell? ⟨b0 + 2, 1, none⟩ = some (.int .u64 0) := hZ.cell 1 (by simp)
      have d2 : wr.cell? ⟨b0 + 2, 2, none⟩ = some (.int .u64 0) := hZ.cell 2 (by simp)
      have d3 : wr.cell? ⟨b0 + 2, 3, none⟩ = some (.int .u64 0) := hZ.cell 3 (by simp)
      have f0 : ∀ i, wr.frozen? ⟨b0 + 2, i, none⟩ = false := fun i => hZ.frozen i
      obtain ⟨W9, hW9⟩ : ∃ X, X = (((wr.setCell ⟨b0 + 2, 0, none⟩ (U z0)).setCell ⟨b0 + 2, 1, none⟩ (U z1)).setCell ⟨b0 + 2, 2, none⟩ (U z2)).setCell ⟨b0 + 2, 3, none⟩ (U z3) := ⟨_, rfl⟩
      have hZ9 : Hid (IHolds W9 (b0 + 2) 81 [U z0, U z1, U z2, U z3]) := by
        show IHolds _ _ _ _
        rw [hW9]; exact (((hZ.set 0 (U z0)).set 1 (U z1)).set 2 (U z2)).set 3 (U z3)
      have hB9 : Hid (Below w.heap.size w W9) := by
        show Below _ _ _
        have hq : w.heap.size ≤ b0 + 2 := by rw [← q4.out]; omega
        rw [hW9]; exact (((hB.setCell hq _).setCell hq _).setCell hq _).setCell hq _
      clear hS hA hA' hM hZ hB hd he q4
      go_wp2_with fail
      rw [← hW9]
      clear hW9 c0 c1 c2 c3 d0 d1 d2 d3 f0
      have E0 : W9.cell? ⟨b0 + 2, 0, none⟩ = some (U z0) := hZ9.out.cell 0 (by simp)
      have E1 : W9.cell? ⟨b0 + 2, 1, none⟩ = some (U z1) := hZ9.out.cell 1 (by simp)
      have E2 : W9.cell? ⟨b0 + 2, 2, none⟩ = some (U z2) := hZ9.out.cell 2 (by simp)
      have E3 : W9.cell? ⟨b0 + 2, 3, none⟩ = some (U z3) := hZ9.out.cell 3 (by simp)
      exact bodyPost_ret (v := .agg #[U z0, U z1, U z2, U z3]) (by simp [results, Tryz.results98, go_sem, E0, E1, E2, E3]) rfl (by first | exact ⟨⟨z0, z1, z2, z3, bo, rfl, R1.out⟩, hB9.out⟩ | exact ⟨⟨z0, z1, z2, z3, rfl, R1.out.1, bo, R1.out.2.1, R1.out.2.2⟩, hB9.out⟩)
/-- The difference of two numbers, and what is borrowed. -/
def subN (n m : Nat) : Nat := if n < m then n + BB ^ 4 - m else n - m
def borN (n m : Nat) : Nat := if n < m then 1 else 0
theorem w4_mem (n : Nat) : ∀ d ∈ [w4 n 0, w4 n 1, w4 n 2, w4 n 3], d < BB := ws4_mem n
theorem vl_w4 {n : Nat} (h : n < BB ^ 4) : vl BB [w4 n 0, w4 n 1, w4 n 2, w4 n 3] = n := vl_ws4 h
theorem minusA (w : World) {n m : Nat} (hn : n < BB ^ 4) (hm : m < BB ^ 4) : Calls Tryz.prog 89 #[A4 n, A4 m] w fun e w' => e = .returned (.tuple #[A4 (subN n m), U (borN n m)]) ∧ Below w.heap.size w w' := by
  refine (minus_any w _ _ _ _ _ _ _ _ (w4_mem n) (w4_mem m)).mono ?_
  rintro e w' ⟨⟨z0, z1, z2, z3, b, rfl, hz, hb, eq⟩, hB⟩
  refine ⟨?_, hB⟩
  rw [vl_w4 hn, vl_w4 hm] at eq
  have hl := vl_lt BB _ hz
  have hl4 : vl BB [z0, z1, z2, z3] < BB ^ 4 := hl
  have e1 : vl BB [z0, z1, z2, z3] = subN n m ∧ b = borN n m := by
    unfold subN borN
    generalize vl BB [z0, z1, z2, z3] = v at *
    generalize BB ^ 4 = P at *
    rcases (show b = 0 ∨ b = 1 by omega) with rfl | rfl <;> split <;> omega
  rw [A4_of hz e1.1, e1.2]
theorem subN_lt {n m : Nat} (hn : n < BB ^ 4) (hm : m < BB ^ 4) : subN n m < BB ^ 4 := by
  unfold subN; split <;> omega
theorem plusA (w : World) {n m : Nat} (hn : n < BB ^ 4) (hm : m < BB ^ 4) (hs : n + m < BB ^ 4) : Calls Tryz.prog 98 #[A4 n, A4 m] w fun e w' => e = .returned (A4 (n + m)) ∧ Below w.heap.size w w' := by
  refine (plus_words w _ _ _ _ _ _ _ _ (w4_mem n) (w4_mem m)).mono ?_
  rintro e w' ⟨⟨z0, z1, z2, z3, b, rfl, hz, hb, eq⟩, hB⟩
  refine ⟨?_, hB⟩
  rw [vl_w4 hn, vl_w4 hm] at eq
  have e1 : vl BB [z0, z1, z2, z3] = n + m := by
    generalize vl BB [z0, z1, z2, z3] = v at *
    generalize BB ^ 4 = P at *
    rcases (show b = 0 ∨ b = 1 by omega) with rfl | rfl <;> omega
  rw [A4_of hz e1]
end Go.Proofs.YtohpbclofcflaaaGreat
