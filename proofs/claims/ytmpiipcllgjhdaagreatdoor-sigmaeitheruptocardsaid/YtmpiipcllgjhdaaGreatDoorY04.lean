/- The program's sums and differences of four words. -/
import Derived.Test.YtmpiipcllgjhdaaGreatDoorY03
set_option linter.unusedSimpArgs false
set_option linter.unusedVariables false
namespace Go.Proofs.YtmpiipcllgjhdaaGreatDoor
open Go.RowKit Go.Deep Go.PlainAid

def AllB (l : List Nat) : Prop := ∀ d ∈ l, d < BB
/-- i words are gone through; bo is borrowed. -/
structure Su (n m : List Nat) (i : Nat) (p : List Nat) (bo : Nat) : Prop where
  len : p.length = i
  lt : ∀ d ∈ p, d < BB
  b1 : bo ≤ 1
  eq : vl BB p + vl BB (m.take i) = vl BB (n.take i) + BB ^ i * bo
theorem mem_snocB {p : List Nat} {z : Nat} (h : ∀ d ∈ p, d < BB) (hz : z < BB) : ∀ d ∈ p ++ [z], d < BB := by
  intro d hd
  rcases List.mem_append.1 hd with h1 | h1
  · exact h d h1
  · simp at h1; omega
theorem getD_at {l : List Nat} {i : Nat} (h : i < l.length) : l.getD i 0 = l[i] := by rw [List.getD_eq_getElem?_getD, List.getElem?_eq_getElem h]; rfl
theorem Su.step {n m p : List Nat} {i bo z : Nat} (h : Su n m i p bo) (hn : n.getD i 0 < BB) (hm : m.getD i 0 < BB) (hz : z = (n.getD i 0 + BB - m.getD i 0 - bo) % BB) : Su n m (i + 1) (p ++ [z]) (bor (n.getD i 0) (m.getD i 0) bo) := by
  have b1 := h.b1
  have eq := h.eq
  have z9 : z < BB := by rw [hz]; exact Nat.mod_lt _ BB_pos
  have key : z + m.getD i 0 + bo = n.getD i 0 + BB * bor (n.getD i 0) (m.getD i 0) bo := by
    unfold bor
    rw [BB_eq] at *
    split <;> omega
  refine ⟨by simp [h.len], mem_snocB h.lt z9, by unfold bor; split <;> omega, ?_⟩
  rw [vl_snoc, vl_take_succ, vl_take_succ, h.len, Nat.pow_succ]
  generalize bor (n.getD i 0) (m.getD i 0) bo = b' at *
  generalize n.getD i 0 = x at *
  generalize m.getD i 0 = y at *
  have e : BB ^ i * (z + y + bo) = BB ^ i * (x + BB * b') := by rw [key]
  rw [Nat.mul_add, Nat.mul_add, Nat.mul_add, ← Nat.mul_assoc] at e
  omega
/-- i words are gone through; c is carried. -/
structure Ad (n m : List Nat) (i : Nat) (p : List Nat) (c : Nat) : Prop where
  len : p.length = i
  lt : ∀ d ∈ p, d < BB
  b1 : c ≤ 1
  eq : vl BB p + BB ^ i * c = vl BB (n.take i) + vl BB (m.take i)
theorem Ad.step {n m p : List Nat} {i c z : Nat} (h : Ad n m i p c) (hn : n.getD i 0 < BB) (hm : m.getD i 0 < BB) (hz : z = (n.getD i 0 + m.getD i 0 + c) % BB) : Ad n m (i + 1) (p ++ [z]) ((n.getD i 0 + m.getD i 0 + c) / BB) := by
  have b1 := h.b1
  have eq := h.eq
  have z9 : z < BB := by rw [hz]; exact Nat.mod_lt _ BB_pos
  have key : z + BB * ((n.getD i 0 + m.getD i 0 + c) / BB) = n.getD i 0 + m.getD i 0 + c := by rw [hz, Nat.add_comm]; exact Nat.div_add_mod _ _
  refine ⟨by simp [h.len], mem_snocB h.lt z9, by have := Nat.div_lt_of_lt_mul (m := n.getD i 0 + m.getD i 0 + c) (n := BB) (k := 2) (by omega); omega, ?_⟩
  rw [vl_snoc, vl_take_succ, vl_take_succ, h.len, Nat.pow_succ]
  generalize (n.getD i 0 + m.getD i 0 + c) / BB = c' at *
  generalize n.getD i 0 = x at *
  generalize m.getD i 0 = y at *
  have e : BB ^ i * (z + BB * c') = BB ^ i * (x + y + c) := by rw [key]
  rw [Nat.mul_add, Nat.mul_add, Nat.mul_add, ← Nat.mul_assoc] at e
  omega
theorem us_set (p l : List Nat) (i z : Nat) (hp : p.length = i) (hi : i < l.length) : (us (p ++ l.drop i)).set i (U z) = us (p ++ [z] ++ l.drop (i + 1)) := by
  rw [List.drop_eq_getElem_cons hi]
  simp only [us, ← List.map_set]
  congr 1
  rw [List.set_append_right _ _ (by omega), show i - p.length = 0 by omega, List.set_cons_zero, List.append_assoc]
  rfl
theorem us_at (p l : List Nat) (i : Nat) (hp : p.length = i) (hi : i < l.length) (h : i < (us (p ++ l.drop i)).length) : (us (p ++ l.drop i))[i] = U (l.getD i 0) := by
  simp only [us, List.getElem_map]
  rw [List.getElem_append_right (by omega), getD_at hi]
  simp [hp]
theorem list4 {l : List Nat} (h : l.length = 4) : ∃ a b c d, l = [a, b, c, d] := by
  match l, h with
  | [a, b, c, d], _ => exact ⟨a, b, c, d, rfl⟩
/-- A number as the program holds it. -/
def A4 (n : Nat) : Value := .agg #[U (w4 n 0), U (w4 n 1), U (w4 n 2), U (w4 n 3)]
theorem A4_of {a b c d n : Nat} (h : ∀ x ∈ [a, b, c, d], x < BB) (e : vl BB [a, b, c, d] = n) : Value.agg #[U a, U b, U c, U d] = A4 n := by
  have := ws4_vl (l := [a, b, c, d]) rfl h
  rw [e] at this
  simp only [ws4, List.cons.injEq, and_true] at this
  obtain ⟨h0, h1, h2, h3⟩ := this
  unfold A4
  rw [h0, h1, h2, h3]
set_option maxRecDepth 100000 in
set_option maxHeartbeats 2000000 in
theorem minus_any (w : World) (x0 x1 x2 x3 m0 m1 m2 m3 : Nat) (hx : ∀ d ∈ [x0, x1, x2, x3], d < BB) (hy : ∀ d ∈ [m0, m1, m2, m3], d < BB) :
    Calls Tryz.prog 102 #[.agg #[U x0, U x1, U x2, U x3], .agg #[U m0, U m1, U m2, U m3]] w fun e w' => (∃ z0 z1 z2 z3 b, e = .returned (.tuple #[.agg #[U z0, U z1, U z2, U z3], U b]) ∧ AllB [z0, z1, z2, z3] ∧ b ≤ 1 ∧ vl BB [z0, z1, z2, z3] + vl BB [m0, m1, m2, m3] = vl BB [x0, x1, x2, x3] + BB ^ 4 * b) ∧ Below w.heap.size w w' := by
  have HX : Hid (∀ i, [x0, x1, x2, x3].getD i 0 < BB) := fun i => getD_ltB hx i
  have HY : Hid (∀ i, [m0, m1, m2, m3].getD i 0 < BB) := fun i => getD_ltB hy i
  clear hx hy
  go_enter Tryz.func102, Tryz.ntmps102
  go_wp2_with fail
  obtain ⟨W0, hW0⟩ : ∃ X, X = ((w.alloc (.cells #[U x0, U x1, U x2, U x3] 73)).alloc (.cells #[U m0, U m1, U m2, U m3] 73)).alloc (.cells #[.int .u64 0, .int .u64 0, .int .u64 0, .int .u64 0] 73) := ⟨_, rfl⟩
  have q0 : Hid (IHolds W0 w.heap.size 73 (us [x0, x1, x2, x3])) := by
    show IHolds _ _ _ _
    rw [hW0]; exact ((IHolds.new w 73 (us [x0, x1, x2, x3])).alloc _).alloc _
  have q1 : Hid (IHolds W0 (w.heap.size + 1) 73 (us [m0, m1, m2, m3])) := by
    show IHolds _ _ _ _
    have q := IHolds.new (w.alloc (.cells #[U x0, U x1, U x2, U x3] 73)) 73 (us [m0, m1, m2, m3])
    rw [World.size_alloc] at q
    rw [hW0]; exact q.alloc _
  have q2 : Hid (IHolds W0 (w.heap.size + 2) 73 [.int .u64 0, .int .u64 0, .int .u64 0, .int .u64 0]) := by
    show IHolds _ _ _ _
    have q := IHolds.new ((w.alloc (.cells #[U x0, U x1, U x2, U x3] 73)).alloc (.cells #[U m0, U m1, U m2, U m3] 73)) 73 [.int .u64 0, .int .u64 0, .int .u64 0, .int .u64 0]
    simp only [World.size_alloc, Nat.add_assoc, Nat.reduceAdd] at q
    rw [hW0]; exact q
  have q3 : Hid (Below w.heap.size w W0) := by
    show Below _ _ _
    rw [hW0]; exact (((Below.refl _ w).alloc (Nat.le_refl _) _).alloc (by simp only [World.size_alloc]; omega) _).alloc (by simp only [World.size_alloc]; omega) _
  rw [← hW0]
  clear hW0
  obtain ⟨b0, hb0⟩ : ∃ b, b = w.heap.size := ⟨_, rfl⟩
  rw [← hb0] at q0 q1 q2 ⊢
  have q4 : Hid (b0 = w.heap.size) := hb0
  clear hb0
  go_loopg [6, 8] 4 (fun gk v6 v8 wr => ∃ (i bo : Nat) (p : List Nat), i + gk = 4 ∧ v6 = U bo ∧ v8 = .int .i64 (i : Int) ∧ Su [x0, x1, x2, x3] [m0, m1, m2, m3] i p bo ∧ IHolds wr b0 73 (us (p ++ [x0, x1, x2, x3].drop i)) ∧ IHolds wr (b0 + 1) 73 (us [m0, m1, m2, m3]) ∧ IHolds wr (b0 + 2) 73 [.int .u64 0, .int .u64 0, .int .u64 0, .int .u64 0] ∧ Below w.heap.size w wr)
  case atStart => exact ⟨0, 0, [], by omega, rfl, rfl, ⟨rfl, by simp, by omega, by simp [vl]⟩, q0.out, q1.out, q2.out, q3.out⟩
  case round =>
    obtain ⟨i, bo, p, hi, rfl, rfl, hS, hA, hM, hZ, hB⟩ := hrel
    clear q0 q1 q2 q3
    by_cases hlt : i < 4
    · have il : (i : Int) < 4 := by omega
      have i0 : (0 : Int) ≤ (i : Int) := by omega
      have xb := HX.out i
      have yb := HY.out i
      have bo1 := hS.b1
      have ST : Hid (∀ z, z = ([x0, x1, x2, x3].getD i 0 + BB - [m0, m1, m2, m3].getD i 0 - bo) % BB → Su [x0, x1, x2, x3] [m0, m1, m2, m3] (i + 1) (p ++ [z]) (bor ([x0, x1, x2, x3].getD i 0) ([m0, m1, m2, m3].getD i 0) bo)) := fun z hz => hS.step xb yb hz
      have cx : wr.cell? ⟨b0, i, none⟩ = some (U ([x0, x1, x2, x3].getD i 0)) := by
        have hl : i < (us (p ++ [x0, x1, x2, x3].drop i)).length := by rw [us_length, List.length_append, hS.len, List.length_drop]; simp; omega
        rw [hA.cell i hl, us_at p _ i hS.len (by simp; omega)]
      have cy : wr.cell? ⟨b0 + 1, i, none⟩ = some (U ([m0, m1, m2, m3].getD i 0)) := by
        rw [hM.cell i (by rw [us_length]; simp; omega)]
        simp only [us, List.getElem_map]
        rw [getD_at (by simp; omega)]
      have fx : wr.frozen? ⟨b0, i, none⟩ = false := hA.frozen i
      have cy3' : ∀ z, (wr.drew.setCell ⟨b0, i, none⟩ (U z)).cell? ⟨b0 + 1, i, none⟩ = some (U ([m0, m1, m2, m3].getD i 0)) := fun z => by
        have q : IHolds (wr.setCell ⟨b0, i, none⟩ (U z)) (b0 + 1) 73 (us [m0, m1, m2, m3]) := hM.of_but ((But.refl _ wr).setCell i _) (by omega)
        have e := q.cell i (by rw [us_length]; simp; omega)
        have e2 : (us [m0, m1, m2, m3])[i]'(by rw [us_length]; simp; omega) = U ([m0, m1, m2, m3].getD i 0) := by simp only [us, List.getElem_map]; rw [getD_at (by simp; omega)]
        rw [e2] at e
        exact e
      have HA2 : Hid (∀ z, IHolds (wr.setCell ⟨b0, i, none⟩ (U z)) b0 73 (us (p ++ [z] ++ [x0, x1, x2, x3].drop (i + 1)))) := fun z => by
        have := hA.set i (U z)
        rw [us_set p _ i z hS.len (by simp; omega)] at this
        exact this
      have HM2 : Hid (∀ z, IHolds (wr.setCell ⟨b0, i, none⟩ (U z)) (b0 + 1) 73 (us [m0, m1, m2, m3])) := fun z => hM.of_but ((But.refl _ wr).setCell i _) (by omega)
      have HZ2 : Hid (∀ z, IHolds (wr.setCell ⟨b0, i, none⟩ (U z)) (b0 + 2) 73 [.int .u64 0, .int .u64 0, .int .u64 0, .int .u64 0]) := fun z => hZ.of_but ((But.refl _ wr).setCell i _) (by omega)
      have HB2 : Hid (∀ z, Below w.heap.size w (wr.setCell ⟨b0, i, none⟩ (U z))) := fun z => hB.setCell (by rw [← q4.out]; exact Nat.le_refl _) _
      generalize [x0, x1, x2, x3].getD i 0 = x at *
      generalize [m0, m1, m2, m3].getD i 0 = y at *
      have X := sub64 x y bo bo1
      rw [← BB_eq] at X
      obtain ⟨z, hz⟩ : ∃ z, z = (x + BB - y - bo) % BB := ⟨_, rfl⟩
      obtain ⟨c, hc⟩ : ∃ c, c = bor x y bo := ⟨_, rfl⟩
      rw [← hz, ← hc] at X
      have cy3 := cy3' z
      clear cy3'
      have ST2 : Hid (Su [x0, x1, x2, x3] [m0, m1, m2, m3] (i + 1) (p ++ [z]) c) := by rw [hc]; exact ST.out z hz
      have HA3 := HA2.out z
      have HM3 := HM2.out z
      have HZ3 := HZ2.out z
      have HB3 := HB2.out z
      have HA4 : Hid (IHolds _ _ _ _) := HA3
      have HM4 : Hid (IHolds _ _ _ _) := HM3
      have HZ4 : Hid (IHolds _ _ _ _) := HZ3
      have HB4 : Hid (Below _ _ _) := HB3
      clear ST hz hc hS hA hM hZ hB xb yb HA2 HM2 HZ2 HB2 HA3 HM3 HZ3 HB3
      go_wp2_with fail
      refine wp_region_held_drew (S := fun W => W.cell? ⟨b0 + 1, i, none⟩ = some (U y)) (by kernel_rfl) (show wr.drew.cell? _ = _ from cy) (fun hH => ?_)
      refine tk (i := 0) (v := .int .i64 (i : Int)) rfl (by kernel_rfl) (fun _ _ _ h => h) rfl ?_ hH ?_
      · intro W hS; go_simp
      simp only [Act.put, y1, y2, y3, y4, y5, y6, y7]
      refine tk (i := 1) (v := .int .i64 (i : Int)) rfl (by kernel_rfl) (fun _ _ _ h => h) rfl ?_ hH ?_
      · intro W hS; go_simp
      simp only [Act.put, y1, y2, y3, y4, y5, y6, y7]
      refine tk (i := 2) (v := .pointer (some ⟨b0, i, none⟩)) rfl (by kernel_rfl) (fun _ _ _ h => h) rfl ?_ hH ?_
      · intro W hS; go_simp
      simp only [Act.put, y1, y2, y3, y4, y5, y6, y7]
      refine tk (i := 4) (v := .int .i64 (i : Int)) rfl (by kernel_rfl) (fun _ _ _ h => h) rfl ?_ hH ?_
      · intro W hS; go_simp
      simp only [Act.put, y1, y2, y3, y4, y5, y6, y7]
      refine tk (i := 5) (v := .pointer (some ⟨b0 + 1, i, none⟩)) rfl (by kernel_rfl) (fun _ _ _ h => h) rfl ?_ hH ?_
      · intro W hS; go_simp
      simp only [Act.put, y1, y2, y3, y4, y5, y6, y7]
      refine tk (i := 6) (v := U y) rfl (by kernel_rfl) (fun _ _ _ h => h) rfl ?_ hH ?_
      · intro W hS; go_simp
      simp only [Act.put, y1, y2, y3, y4, y5, y6, y7]
      refine tk (i := 7) (v := U bo) rfl (by kernel_rfl) (fun _ _ _ h => h) rfl ?_ hH ?_
      · intro W hS; go_simp
      simp only [Act.put, y1, y2, y3, y4, y5, y6, y7]
      refine wpAnyH_ready (rs := [3]) (by kernel_rfl) (by simp) ?_
      refine AllReadyH.cons rfl (fun K hK => ?_) AllReadyH.nil
      clear hH
      have cx2 : wr.drew.cell? ⟨b0, i, none⟩ = some (U x) := cx
      go_simp
      refine hK.out _ _ (show wr.drew.cell? _ = _ from cy) (fun hH2 => ?_)
      clear hK K
      try simp only [Act.put, y1, y2, y3, y4, y5, y6, y7]
      refine tk (i := 8) (v := .tuple #[U z, U c]) rfl (by kernel_rfl) (fun _ _ _ h => h) rfl ?_ hH2 ?_
      · intro W hS; simp only [execOp]; go_simp
      simp only [Act.put, y1, y2, y3, y4, y5, y6, y7]
      refine tk (i := 9) (v := .tuple #[U z, U c]) rfl (by kernel_rfl) (fun _ _ _ h => h) rfl ?_ hH2 ?_
      · intro W hS; go_simp
      simp only [Act.put, y1, y2, y3, y4, y5, y6, y7]
      refine tk (i := 10) (v := U z) rfl (by kernel_rfl) (fun _ _ _ h => h) rfl ?_ hH2 ?_
      · intro W hS; go_simp
      simp only [Act.put, y1, y2, y3, y4, y5, y6, y7]
      refine tk (i := 11) (v := U c) rfl (by kernel_rfl) (fun _ _ _ h => h) rfl ?_ hH2 ?_
      · intro W hS; go_simp
      simp only [Act.put, y1, y2, y3, y4, y5, y6, y7]
      refine tk (i := 12) (v := .pointer (some ⟨b0, i, none⟩)) rfl (by kernel_rfl) (fun _ _ _ h => h) rfl ?_ hH2 ?_
      · intro W hS; go_simp
      simp only [Act.put, y1, y2, y3, y4, y5, y6, y7]
      refine wpAnyH_ready (rs := [13]) (by kernel_rfl) (by simp) ?_
      refine AllReadyH.cons rfl (fun K hK => ?_) AllReadyH.nil
      clear hH2
      have fx2 : wr.drew.frozen? ⟨b0, i, none⟩ = false := fx
      have cy2 : (wr.drew.setCell ⟨b0, i, none⟩ (U z)).cell? ⟨b0 + 1, i, none⟩ = some (U y) := cy3
      go_simp
      try go_wp2_with fail
      refine hK.out _ _ cy2 (fun hH3 => ?_)
      clear hK K
      try simp only [Act.put, y1, y2, y3, y4, y5, y6, y7]
      refine tk (i := 14) (v := U c) rfl (by kernel_rfl) (fun _ _ _ h => h) rfl ?_ hH3 ?_
      · intro W hS; go_simp
      simp only [Act.put, y1, y2, y3, y4, y5, y6, y7]
      refine wpAnyH_done (by kernel_rfl) ?_ _
      clear hH3 X cx cx2 cy cy2 cy3 fx fx2
      go_wp2_with fail
      go_roundg (gk - 1)
      case measure => omega
      case rel => exact ⟨i + 1, c, p ++ [z], by omega, rfl, by go_num, ST2.out, HA4.out, HM4.out, HZ4.out, HB4.out.drew⟩
    · obtain rfl : i = 4 := by omega
      have il : ¬ ((4 : Nat) : Int) < 4 := by omega
      have hd := hS.len
      have he := hS.eq
      obtain ⟨z0, z1, z2, z3, rfl⟩ := list4 hd
      have R1 : Hid (AllB [z0, z1, z2, z3] ∧ bo ≤ 1 ∧ vl BB [z0, z1, z2, z3] + vl BB [m0, m1, m2, m3] = vl BB [x0, x1, x2, x3] + BB ^ 4 * bo) := ⟨hS.lt, hS.b1, he⟩
      have hA' : IHolds wr b0 73 [U z0, U z1, U z2, U z3] := hA
      have c0 : wr.cell? ⟨b0, 0, none⟩ = some (U z0) := hA'.cell 0 (by simp)
      have c1 : wr.cell? ⟨b0, 1, none⟩ = some (U z1) := hA'.cell 1 (by simp)
      have c2 : wr.cell? ⟨b0, 2, none⟩ = some (U z2) := hA'.cell 2 (by simp)
      have c3 : wr.cell? ⟨b0, 3, none⟩ = some (U z3) := hA'.cell 3 (by simp)
      have d0 : wr.cell? ⟨b0 + 2, 0, none⟩ = some (.int .u64 0) := hZ.cell 0 (by simp)
      have d1 : wr.cell? ⟨b0 + 2, 1, none⟩ = some (.int .u64 0) := hZ.cell 1 (by simp)
      have d2 : wr.cell? ⟨b0 + 2, 2, none⟩ = some (.int .u64 0) := hZ.cell 2 (by simp)
      have d3 : wr.cell? ⟨b0 + 2, 3, none⟩ = some (.int .u64 0) := hZ.cell 3 (by simp)
      have f0 : ∀ i, wr.frozen? ⟨b0 + 2, i, none⟩ = false := fun i => hZ.frozen i
      obtain ⟨W9, hW9⟩ : ∃ X, X = (((wr.setCell ⟨b0 + 2, 0, none⟩ (U z0)).setCell ⟨b0 + 2, 1, none⟩ (U z1)).setCell ⟨b0 + 2, 2, none⟩ (U z2)).setCell ⟨b0 + 2, 3, none⟩ (U z3) := ⟨_, rfl⟩
      have hZ9 : Hid (IHolds W9 (b0 + 2) 73 [U z0, U z1, U z2, U z3]) := by
        show IHolds _ _ _ _
        rw [hW9]; exact (((hZ.set 0 (U z0)).set 1 (U z1)).set 2 (U z2)).set 3 (U z3)
      have hB9 : Hid (Below w.heap.size w W9) := by
        show Below _ _ _
        have hq : w.heap.size ≤ b0 + 2 := by rw [← q4.out]; omega
        rw [hW9]; exact (((hB.setCell hq _).setCell hq _).setCell hq _).setCell hq _
      clear hS hA hA' hM hZ hB hd he q4
      go_wp2_with fail
      rw [← hW9]
      clear hW9 c0 c1 c2 c3 d0 d1 d2 d3 f0
      have E0 : W9.cell? ⟨b0 + 2, 0, none⟩ = some (U z0) := hZ9.out.cell 0 (by simp)
      have E1 : W9.cell? ⟨b0 + 2, 1, none⟩ = some (U z1) := hZ9.out.cell 1 (by simp)
      have E2 : W9.cell? ⟨b0 + 2, 2, none⟩ = some (U z2) := hZ9.out.cell 2 (by simp)
      have E3 : W9.cell? ⟨b0 + 2, 3, none⟩ = some (U z3) := hZ9.out.cell 3 (by simp)
      exact bodyPost_ret (v := .tuple #[.agg #[U z0, U z1, U z2, U z3], U bo]) (by simp [results, Tryz.results102, go_sem, E0, E1, E2, E3]) rfl (by first | exact ⟨⟨z0, z1, z2, z3, bo, rfl, R1.out⟩, hB9.out⟩ | exact ⟨⟨z0, z1, z2, z3, rfl, R1.out.1, bo, R1.out.2.1, R1.out.2.2⟩, hB9.out⟩)
set_option maxRecDepth 100000 in
set_option maxHeartbeats 2000000 in
theorem plus_words (w : World) (x0 x1 x2 x3 m0 m1 m2 m3 : Nat) (hx : ∀ d ∈ [x0, x1, x2, x3], d < BB) (hy : ∀ d ∈ [m0, m1, m2, m3], d < BB) :
    Calls Tryz.prog 149 #[.agg #[U x0, U x1, U x2, U x3], .agg #[U m0, U m1, U m2, U m3]] w fun e w' => (∃ z0 z1 z2 z3 b, e = .returned (.agg #[U z0, U z1, U z2, U z3]) ∧ AllB [z0, z1, z2, z3] ∧ b ≤ 1 ∧ vl BB [z0, z1, z2, z3] + BB ^ 4 * b = vl BB [x0, x1, x2, x3] + vl BB [m0, m1, m2, m3]) ∧ Below w.heap.size w w' := by
  have HX : Hid (∀ i, [x0, x1, x2, x3].getD i 0 < BB) := fun i => getD_ltB hx i
  have HY : Hid (∀ i, [m0, m1, m2, m3].getD i 0 < BB) := fun i => getD_ltB hy i
  clear hx hy
  go_enter Tryz.func149, Tryz.ntmps149
  go_wp2_with fail
  obtain ⟨W0, hW0⟩ : ∃ X, X = ((w.alloc (.cells #[U x0, U x1, U x2, U x3] 73)).alloc (.cells #[U m0, U m1, U m2, U m3] 73)).alloc (.cells #[.int .u64 0, .int .u64 0, .int .u64 0, .int .u64 0] 73) := ⟨_, rfl⟩
  have q0 : Hid (IHolds W0 w.heap.size 73 (us [x0, x1, x2, x3])) := by
    show IHolds _ _ _ _
    rw [hW0]; exact ((IHolds.new w 73 (us [x0, x1, x2, x3])).alloc _).alloc _
  have q1 : Hid (IHolds W0 (w.heap.size + 1) 73 (us [m0, m1, m2, m3])) := by
    show IHolds _ _ _ _
    have q := IHolds.new (w.alloc (.cells #[U x0, U x1, U x2, U x3] 73)) 73 (us [m0, m1, m2, m3])
    rw [World.size_alloc] at q
    rw [hW0]; exact q.alloc _
  have q2 : Hid (IHolds W0 (w.heap.size + 2) 73 [.int .u64 0, .int .u64 0, .int .u64 0, .int .u64 0]) := by
    show IHolds _ _ _ _
    have q := IHolds.new ((w.alloc (.cells #[U x0, U x1, U x2, U x3] 73)).alloc (.cells #[U m0, U m1, U m2, U m3] 73)) 73 [.int .u64 0, .int .u64 0, .int .u64 0, .int .u64 0]
    simp only [World.size_alloc, Nat.add_assoc, Nat.reduceAdd] at q
    rw [hW0]; exact q
  have q3 : Hid (Below w.heap.size w W0) := by
    show Below _ _ _
    rw [hW0]; exact (((Below.refl _ w).alloc (Nat.le_refl _) _).alloc (by simp only [World.size_alloc]; omega) _).alloc (by simp only [World.size_alloc]; omega) _
  rw [← hW0]
  clear hW0
  obtain ⟨b0, hb0⟩ : ∃ b, b = w.heap.size := ⟨_, rfl⟩
  rw [← hb0] at q0 q1 q2 ⊢
  have q4 : Hid (b0 = w.heap.size) := hb0
  clear hb0
  go_loopg [5, 7] 4 (fun gk v5 v7 wr => ∃ (i bo : Nat) (p : List Nat), i + gk = 4 ∧ v5 = U bo ∧ v7 = .int .i64 (i : Int) ∧ Ad [x0, x1, x2, x3] [m0, m1, m2, m3] i p bo ∧ IHolds wr b0 73 (us (p ++ [x0, x1, x2, x3].drop i)) ∧ IHolds wr (b0 + 1) 73 (us [m0, m1, m2, m3]) ∧ IHolds wr (b0 + 2) 73 [.int .u64 0, .int .u64 0, .int .u64 0, .int .u64 0] ∧ Below w.heap.size w wr)
  case atStart => exact ⟨0, 0, [], by omega, rfl, rfl, ⟨rfl, by simp, by omega, by simp [vl]⟩, q0.out, q1.out, q2.out, q3.out⟩
  case round =>
    obtain ⟨i, bo, p, hi, rfl, rfl, hS, hA, hM, hZ, hB⟩ := hrel
    clear q0 q1 q2 q3
    by_cases hlt : i < 4
    · have il : (i : Int) < 4 := by omega
      have i0 : (0 : Int) ≤ (i : Int) := by omega
      have xb := HX.out i
      have yb := HY.out i
      have bo1 := hS.b1
      have ST : Hid (∀ z, z = ([x0, x1, x2, x3].getD i 0 + [m0, m1, m2, m3].getD i 0 + bo) % BB → Ad [x0, x1, x2, x3] [m0, m1, m2, m3] (i + 1) (p ++ [z]) (([x0, x1, x2, x3].getD i 0 + [m0, m1, m2, m3].getD i 0 + bo) / BB)) := fun z hz => hS.step xb yb hz
      have cx : wr.cell? ⟨b0, i, none⟩ = some (U ([x0, x1, x2, x3].getD i 0)) := by
        have hl : i < (us (p ++ [x0, x1, x2, x3].drop i)).length := by rw [us_length, List.length_append, hS.len, List.length_drop]; simp; omega
        rw [hA.cell i hl, us_at p _ i hS.len (by simp; omega)]
      have cy : wr.cell? ⟨b0 + 1, i, none⟩ = some (U ([m0, m1, m2, m3].getD i 0)) := by
        rw [hM.cell i (by rw [us_length]; simp; omega)]
        simp only [us, List.getElem_map]
        rw [getD_at (by simp; omega)]
      have fx : wr.frozen? ⟨b0, i, none⟩ = false := hA.frozen i
      have cy3' : ∀ z, (wr.drew.setCell ⟨b0, i, none⟩ (U z)).cell? ⟨b0 + 1, i, none⟩ = some (U ([m0, m1, m2, m3].getD i 0)) := fun z => by
        have q : IHolds (wr.setCell ⟨b0, i, none⟩ (U z)) (b0 + 1) 73 (us [m0, m1, m2, m3]) := hM.of_but ((But.refl _ wr).setCell i _) (by omega)
        have e := q.cell i (by rw [us_length]; simp; omega)
        have e2 : (us [m0, m1, m2, m3])[i]'(by rw [us_length]; simp; omega) = U ([m0, m1, m2, m3].getD i 0) := by simp only [us, List.getElem_map]; rw [getD_at (by simp; omega)]
        rw [e2] at e
        exact e
      have HA2 : Hid (∀ z, IHolds (wr.setCell ⟨b0, i, none⟩ (U z)) b0 73 (us (p ++ [z] ++ [x0, x1, x2, x3].drop (i + 1)))) := fun z => by
        have := hA.set i (U z)
        rw [us_set p _ i z hS.len (by simp; omega)] at this
        exact this
      have HM2 : Hid (∀ z, IHolds (wr.setCell ⟨b0, i, none⟩ (U z)) (b0 + 1) 73 (us [m0, m1, m2, m3])) := fun z => hM.of_but ((But.refl _ wr).setCell i _) (by omega)
      have HZ2 : Hid (∀ z, IHolds (wr.setCell ⟨b0, i, none⟩ (U z)) (b0 + 2) 73 [.int .u64 0, .int .u64 0, .int .u64 0, .int .u64 0]) := fun z => hZ.of_but ((But.refl _ wr).setCell i _) (by omega)
      have HB2 : Hid (∀ z, Below w.heap.size w (wr.setCell ⟨b0, i, none⟩ (U z))) := fun z => hB.setCell (by rw [← q4.out]; exact Nat.le_refl _) _
      generalize [x0, x1, x2, x3].getD i 0 = x at *
      generalize [m0, m1, m2, m3].getD i 0 = y at *
      have X := add64 x y bo bo1
      rw [← BB_eq] at X
      obtain ⟨z, hz⟩ : ∃ z, z = (x + y + bo) % BB := ⟨_, rfl⟩
      obtain ⟨c, hc⟩ : ∃ c, c = (x + y + bo) / BB := ⟨_, rfl⟩
      rw [← hz, ← hc] at X
      have cy3 := cy3' z
      clear cy3'
      have ST2 : Hid (Ad [x0, x1, x2, x3] [m0, m1, m2, m3] (i + 1) (p ++ [z]) c) := by rw [hc]; exact ST.out z hz
      have HA3 := HA2.out z
      have HM3 := HM2.out z
      have HZ3 := HZ2.out z
      have HB3 := HB2.out z
      have HA4 : Hid (IHolds _ _ _ _) := HA3
      have HM4 : Hid (IHolds _ _ _ _) := HM3
      have HZ4 : Hid (IHolds _ _ _ _) := HZ3
      have HB4 : Hid (Below _ _ _) := HB3
      clear ST hz hc hS hA hM hZ hB xb yb HA2 HM2 HZ2 HB2 HA3 HM3 HZ3 HB3
      go_wp2_with fail
      refine wp_region_held_drew (S := fun W => W.cell? ⟨b0 + 1, i, none⟩ = some (U y)) (by kernel_rfl) (show wr.drew.cell? _ = _ from cy) (fun hH => ?_)
      refine tk (i := 0) (v := .int .i64 (i : Int)) rfl (by kernel_rfl) (fun _ _ _ h => h) rfl ?_ hH ?_
      · intro W hS; go_simp
      simp only [Act.put, y1, y2, y3, y4, y5, y6, y7]
      refine tk (i := 1) (v := .int .i64 (i : Int)) rfl (by kernel_rfl) (fun _ _ _ h => h) rfl ?_ hH ?_
      · intro W hS; go_simp
      simp only [Act.put, y1, y2, y3, y4, y5, y6, y7]
      refine tk (i := 2) (v := .pointer (some ⟨b0, i, none⟩)) rfl (by kernel_rfl) (fun _ _ _ h => h) rfl ?_ hH ?_
      · intro W hS; go_simp
      simp only [Act.put, y1, y2, y3, y4, y5, y6, y7]
      refine tk (i := 4) (v := .int .i64 (i : Int)) rfl (by kernel_rfl) (fun _ _ _ h => h) rfl ?_ hH ?_
      · intro W hS; go_simp
      simp only [Act.put, y1, y2, y3, y4, y5, y6, y7]
      refine tk (i := 5) (v := .pointer (some ⟨b0 + 1, i, none⟩)) rfl (by kernel_rfl) (fun _ _ _ h => h) rfl ?_ hH ?_
      · intro W hS; go_simp
      simp only [Act.put, y1, y2, y3, y4, y5, y6, y7]
      refine tk (i := 6) (v := U y) rfl (by kernel_rfl) (fun _ _ _ h => h) rfl ?_ hH ?_
      · intro W hS; go_simp
      simp only [Act.put, y1, y2, y3, y4, y5, y6, y7]
      refine tk (i := 7) (v := U bo) rfl (by kernel_rfl) (fun _ _ _ h => h) rfl ?_ hH ?_
      · intro W hS; go_simp
      simp only [Act.put, y1, y2, y3, y4, y5, y6, y7]
      refine wpAnyH_ready (rs := [3]) (by kernel_rfl) (by simp) ?_
      refine AllReadyH.cons rfl (fun K hK => ?_) AllReadyH.nil
      clear hH
      have cx2 : wr.drew.cell? ⟨b0, i, none⟩ = some (U x) := cx
      go_simp
      refine hK.out _ _ (show wr.drew.cell? _ = _ from cy) (fun hH2 => ?_)
      clear hK K
      try simp only [Act.put, y1, y2, y3, y4, y5, y6, y7]
      refine tk (i := 8) (v := .tuple #[U z, U c]) rfl (by kernel_rfl) (fun _ _ _ h => h) rfl ?_ hH2 ?_
      · intro W hS; simp only [execOp]; go_simp
      simp only [Act.put, y1, y2, y3, y4, y5, y6, y7]
      refine tk (i := 9) (v := .tuple #[U z, U c]) rfl (by kernel_rfl) (fun _ _ _ h => h) rfl ?_ hH2 ?_
      · intro W hS; go_simp
      simp only [Act.put, y1, y2, y3, y4, y5, y6, y7]
      refine tk (i := 10) (v := U z) rfl (by kernel_rfl) (fun _ _ _ h => h) rfl ?_ hH2 ?_
      · intro W hS; go_simp
      simp only [Act.put, y1, y2, y3, y4, y5, y6, y7]
      refine tk (i := 11) (v := U c) rfl (by kernel_rfl) (fun _ _ _ h => h) rfl ?_ hH2 ?_
      · intro W hS; go_simp
      simp only [Act.put, y1, y2, y3, y4, y5, y6, y7]
      refine tk (i := 12) (v := .pointer (some ⟨b0, i, none⟩)) rfl (by kernel_rfl) (fun _ _ _ h => h) rfl ?_ hH2 ?_
      · intro W hS; go_simp
      simp only [Act.put, y1, y2, y3, y4, y5, y6, y7]
      refine wpAnyH_ready (rs := [13]) (by kernel_rfl) (by simp) ?_
      refine AllReadyH.cons rfl (fun K hK => ?_) AllReadyH.nil
      clear hH2
      have fx2 : wr.drew.frozen? ⟨b0, i, none⟩ = false := fx
      have cy2 : (wr.drew.setCell ⟨b0, i, none⟩ (U z)).cell? ⟨b0 + 1, i, none⟩ = some (U y) := cy3
      go_simp
      try go_wp2_with fail
      refine hK.out _ _ cy2 (fun hH3 => ?_)
      clear hK K
      try simp only [Act.put, y1, y2, y3, y4, y5, y6, y7]
      refine tk (i := 14) (v := U c) rfl (by kernel_rfl) (fun _ _ _ h => h) rfl ?_ hH3 ?_
      · intro W hS; go_simp
      simp only [Act.put, y1, y2, y3, y4, y5, y6, y7]
      refine wpAnyH_done (by kernel_rfl) ?_ _
      clear hH3 X cx cx2 cy cy2 cy3 fx fx2
      go_wp2_with fail
      go_roundg (gk - 1)
      case measure => omega
      case rel => exact ⟨i + 1, c, p ++ [z], by omega, rfl, by go_num, ST2.out, HA4.out, HM4.out, HZ4.out, HB4.out.drew⟩
    · obtain rfl : i = 4 := by omega
      have il : ¬ ((4 : Nat) : Int) < 4 := by omega
      have hd := hS.len
      have he := hS.eq
      obtain ⟨z0, z1, z2, z3, rfl⟩ := list4 hd
      have R1 : Hid (AllB [z0, z1, z2, z3] ∧ bo ≤ 1 ∧ vl BB [z0, z1, z2, z3] + BB ^ 4 * bo = vl BB [x0, x1, x2, x3] + vl BB [m0, m1, m2, m3]) := ⟨hS.lt, hS.b1, he⟩
      have hA' : IHolds wr b0 73 [U z0, U z1, U z2, U z3] := hA
      have c0 : wr.cell? ⟨b0, 0, none⟩ = some (U z0) := hA'.cell 0 (by simp)
      have c1 : wr.cell? ⟨b0, 1, none⟩ = some (U z1) := hA'.cell 1 (by simp)
      have c2 : wr.cell? ⟨b0, 2, none⟩ = some (U z2) := hA'.cell 2 (by simp)
      have c3 : wr.cell? ⟨b0, 3, none⟩ = some (U z3) := hA'.cell 3 (by simp)
      have d0 : wr.cell? ⟨b0 + 2, 0, none⟩ = some (.int .u64 0) := hZ.cell 0 (by simp)
      have d1 : wr.cell? ⟨b0 + 2, 1, none⟩ = some (.int .u64 0) := hZ.cell 1 (by simp)
      have d2 : wr.cell? ⟨b0 + 2, 2, none⟩ = some (.int .u64 0) := hZ.cell 2 (by simp)
      have d3 : wr.cell? ⟨b0 + 2, 3, none⟩ = some (.int .u64 0) := hZ.cell 3 (by simp)
      have f0 : ∀ i, wr.frozen? ⟨b0 + 2, i, none⟩ = false := fun i => hZ.frozen i
      obtain ⟨W9, hW9⟩ : ∃ X, X = (((wr.setCell ⟨b0 + 2, 0, none⟩ (U z0)).setCell ⟨b0 + 2, 1, none⟩ (U z1)).setCell ⟨b0 + 2, 2, none⟩ (U z2)).setCell ⟨b0 + 2, 3, none⟩ (U z3) := ⟨_, rfl⟩
      have hZ9 : Hid (IHolds W9 (b0 + 2) 73 [U z0, U z1, U z2, U z3]) := by
        show IHolds _ _ _ _
        rw [hW9]; exact (((hZ.set 0 (U z0)).set 1 (U z1)).set 2 (U z2)).set 3 (U z3)
      have hB9 : Hid (Below w.heap.size w W9) := by
        show Below _ _ _
        have hq : w.heap.size ≤ b0 + 2 := by rw [← q4.out]; omega
        rw [hW9]; exact (((hB.setCell hq _).setCell hq _).setCell hq _).setCell hq _
      clear hS hA hA' hM hZ hB hd he q4
      go_wp2_with fail
      rw [← hW9]
      clear hW9 c0 c1 c2 c3 d0 d1 d2 d3 f0
      have E0 : W9.cell? ⟨b0 + 2, 0, none⟩ = some (U z0) := hZ9.out.cell 0 (by simp)
      have E1 : W9.cell? ⟨b0 + 2, 1, none⟩ = some (U z1) := hZ9.out.cell 1 (by simp)
      have E2 : W9.cell? ⟨b0 + 2, 2, none⟩ = some (U z2) := hZ9.out.cell 2 (by simp)
      have E3 : W9.cell? ⟨b0 + 2, 3, none⟩ = some (U z3) := hZ9.out.cell 3 (by simp)
      exact bodyPost_ret (v := .agg #[U z0, U z1, U z2, U z3]) (by simp [results, Tryz.results149, go_sem, E0, E1, E2, E3]) rfl (by first | exact ⟨⟨z0, z1, z2, z3, bo, rfl, R1.out⟩, hB9.out⟩ | exact ⟨⟨z0, z1, z2, z3, rfl, R1.out.1, bo, R1.out.2.1, R1.out.2.2⟩, hB9.out⟩)
/-- The difference of two numbers, and what is borrowed. -/
def subN (n m : Nat) : Nat := if n < m then n + BB ^ 4 - m else n - m
def borN (n m : Nat) : Nat := if n < m then 1 else 0
theorem w4_mem (n : Nat) : ∀ d ∈ [w4 n 0, w4 n 1, w4 n 2, w4 n 3], d < BB := ws4_mem n
theorem vl_w4 {n : Nat} (h : n < BB ^ 4) : vl BB [w4 n 0, w4 n 1, w4 n 2, w4 n 3] = n := vl_ws4 h
theorem minusA (w : World) {n m : Nat} (hn : n < BB ^ 4) (hm : m < BB ^ 4) : Calls Tryz.prog 102 #[A4 n, A4 m] w fun e w' => e = .returned (.tuple #[A4 (subN n m), U (borN n m)]) ∧ Below w.heap.size w w' := by
  refine (minus_any w _ _ _ _ _ _ _ _ (w4_mem n) (w4_mem m)).mono ?_
  rintro e w' ⟨⟨z0, z1, z2, z3, b, rfl, hz, hb, eq⟩, hB⟩
  refine ⟨?_, hB⟩
  rw [vl_w4 hn, vl_w4 hm] at eq
  have hl := vl_lt BB _ hz
  have hl4 : vl BB [z0, z1, z2, z3] < BB ^ 4 := hl
  have e1 : vl BB [z0, z1, z2, z3] = subN n m ∧ b = borN n m := by
    unfold subN borN
    generalize vl BB [z0, z1, z2, z3] = v at *
    generalize BB ^ 4 = P at *
    rcases (show b = 0 ∨ b = 1 by omega) with rfl | rfl <;> split <;> omega
  rw [A4_of hz e1.1, e1.2]
theorem subN_lt {n m : Nat} (hn : n < BB ^ 4) (hm : m < BB ^ 4) : subN n m < BB ^ 4 := by
  unfold subN; split <;> omega
end Go.Proofs.YtmpiipcllgjhdaaGreatDoor

/- The reference's Read. -/
namespace Go.Proofs.YtmpiipcllgjhdaaGreatDoor
open Go.RowKit Go.Deep Go.PlainAid

theorem bt_list (s : ByteArray) (k : Nat) (h : k < s.size) : bt s k = ((s.data.toList[k]'h).toNat : Int) := by unfold bt; rw [dif_pos h]; rfl
end Go.Proofs.YtmpiipcllgjhdaaGreatDoor

/- A number of bytes: the program's numberOf. -/
namespace Go.Proofs.YtmpiipcllgjhdaaGreatDoor
open Go.RowKit Go.Deep Go.PlainAid

theorem us_ws4_set {N N' q x : Nat} (hx : x = w4 N' q) (hq : q < 4) (ho : ∀ t, t ≠ q → w4 N' t = w4 N t) : (us (ws4 N)).set q (U x) = us (ws4 N') := by
  have h0 := ho 0
  have h1 := ho 1
  have h2 := ho 2
  have h3 := ho 3
  have : q = 0 ∨ q = 1 ∨ q = 2 ∨ q = 3 := by omega
  rcases this with rfl | rfl | rfl | rfl
  · rw [hx]; simp only [us, ws4, List.map_cons, List.map_nil, List.set_cons_zero]; rw [h1 (by omega), h2 (by omega), h3 (by omega)]
  · rw [hx]; simp only [us, ws4, List.map_cons, List.map_nil, List.set_cons_zero, List.set_cons_succ]; rw [h0 (by omega), h2 (by omega), h3 (by omega)]
  · rw [hx]; simp only [us, ws4, List.map_cons, List.map_nil, List.set_cons_zero, List.set_cons_succ]; rw [h0 (by omega), h1 (by omega), h3 (by omega)]
  · rw [hx]; simp only [us, ws4, List.map_cons, List.map_nil, List.set_cons_zero, List.set_cons_succ]; rw [h0 (by omega), h1 (by omega), h2 (by omega)]
theorem us_ws4_at (N q : Nat) (h : q < (us (ws4 N)).length) : (us (ws4 N))[q] = U (w4 N q) := by
  simp only [us, List.getElem_map]
  rw [ws4_get]
/-- What is laid when i bytes are read. -/
def laidN (l : List UInt8) (i : Nat) : Nat := beV (l.take i) * 256 ^ (l.length - i)
theorem laidN_step {l : List UInt8} {i p c : Nat} (hi : i < l.length) (hp : p = l.length - 1 - i) (hc : c = l[i].toNat) : laidN l i = beV (l.take i) * 256 ^ (p + 1) ∧ laidN l (i + 1) = beV (l.take i) * 256 ^ (p + 1) + c * 256 ^ p := by
  unfold laidN
  rw [beV_take l i hi, ← hc, show l.length - i = p + 1 by omega, show l.length - (i + 1) = p by omega, Nat.add_mul, Nat.pow_succ, Nat.mul_assoc, Nat.mul_comm 256]
  exact ⟨rfl, rfl⟩
theorem ws4_zero : us (ws4 0) = [.int .u64 0, .int .u64 0, .int .u64 0, .int .u64 0] := by
  simp [us, ws4, w4, Nat.zero_div]
set_option maxRecDepth 100000 in
set_option maxHeartbeats 2000000 in
theorem numberOf_any (w : World) (s : ByteArray) (hs : s.size ≤ 32) :
    Calls Tryz.prog 63 #[.string s] w fun e w' => e = .returned (A4 (numS s)) ∧ Below w.heap.size w w' := by
  have hb := get_bt s
  obtain ⟨n, hn⟩ : ∃ n, n = s.size := ⟨_, rfl⟩
  have HN : Hid (s.data.toList.length = n) := by show _ = _; rw [hn]; rfl
  have hsz : s.size = n := hn.symm
  rw [← hn] at hs
  clear hn
  have HBt : Hid (∀ p (h : p < s.data.toList.length), bt s p = ((s.data.toList[p]'h).toNat : Int)) := fun p h => bt_list s p h
  have HE : Hid (laidN s.data.toList n = numS s) := by
    show _ = _
    unfold laidN numS
    rw [← HN.out, List.take_length, Nat.sub_self, Nat.pow_zero, Nat.mul_one]
  have H0 : Hid (laidN s.data.toList 0 = 0) := by
    show _ = _
    unfold laidN; simp [beV]
  go_enter Tryz.func63, Tryz.ntmps63
  go_wp2_with fail
  obtain ⟨W0, hW0⟩ : ∃ X, X = (w.alloc (.cells #[.int .u64 0, .int .u64 0, .int .u64 0, .int .u64 0] 73)).alloc (.cells #[.int .u64 0, .int .u64 0, .int .u64 0, .int .u64 0] 73) := ⟨_, rfl⟩
  have q0 : Hid (IHolds W0 w.heap.size 73 [.int .u64 0, .int .u64 0, .int .u64 0, .int .u64 0]) := by
    show IHolds _ _ _ _
    rw [hW0]; exact (IHolds.new w 73 [.int .u64 0, .int .u64 0, .int .u64 0, .int .u64 0]).alloc _
  have q1 : Hid (IHolds W0 (w.heap.size + 1) 73 (us (ws4 (laidN s.data.toList 0)))) := by
    show IHolds _ _ _ _
    have q := IHolds.new (w.alloc (.cells #[.int .u64 0, .int .u64 0, .int .u64 0, .int .u64 0] 73)) 73 [.int .u64 0, .int .u64 0, .int .u64 0, .int .u64 0]
    rw [World.size_alloc] at q
    rw [hW0, H0.out, ws4_zero]; exact q
  have q3 : Hid (Below w.heap.size w W0) := by
    show Below _ _ _
    rw [hW0]; exact ((Below.refl _ w).alloc (Nat.le_refl _) _).alloc (by simp only [World.size_alloc]; omega) _
  rw [← hW0]
  clear hW0
  obtain ⟨b0, hb0⟩ : ∃ b, b = w.heap.size := ⟨_, rfl⟩
  rw [← hb0] at q0 q1 ⊢
  have q4 : Hid (b0 = w.heap.size) := hb0
  clear hb0
  go_loopg [8] n (fun gk v8 wr => ∃ (i : Nat), i + gk = n ∧ v8 = .int .i64 (i : Int) ∧ IHolds wr b0 73 [.int .u64 0, .int .u64 0, .int .u64 0, .int .u64 0] ∧ IHolds wr (b0 + 1) 73 (us (ws4 (laidN s.data.toList i))) ∧ Below w.heap.size w wr)
  case atStart => exact ⟨0, by omega, rfl, q0.out, q1.out, q3.out⟩
  case round =>
    obtain ⟨i, hi, rfl, hZ, hA, hB⟩ := hrel
    clear q0 q1 q3
    by_cases hlt : i < n
    · have il : (i : Int) < (n : Int) := by omega
      have hil : i < s.data.toList.length := by rw [HN.out]; exact hlt
      obtain ⟨c, hc⟩ : ∃ c, c = (s.data.toList[i]'hil).toNat := ⟨_, rfl⟩
      have c9 : c < 256 := by rw [hc]; exact UInt8.toNat_lt _
      have kc : bt s i = (c : Int) := by rw [HBt.out i hil, hc]
      obtain ⟨p, hp⟩ : ∃ p, p = n - 1 - i := ⟨_, rfl⟩
      obtain ⟨e1, e2⟩ := laidN_step (p := p) hil (by rw [HN.out]; exact hp) hc
      obtain ⟨r1, r2, r3⟩ := word_or (V := beV (s.data.toList.take i)) (p := p) c9
      rw [← e2, ← e1] at r1 r3
      obtain ⟨q, hq⟩ : ∃ q, q = p / 8 := ⟨_, rfl⟩
      obtain ⟨r, hr⟩ : ∃ r, r = p % 8 := ⟨_, rfl⟩
      obtain ⟨t, ht⟩ : ∃ t, t = r * 8 := ⟨_, rfl⟩
      rw [← hq] at r1 r3
      rw [← hr, ← ht] at r1 r2
      have kp : (n : Int) - 1 - (i : Int) = (p : Int) := by omega
      have kq : (p : Int) / 8 = (q : Int) := by omega
      have kq2 : (p : Int).tdiv 8 = (q : Int) := by rw [Int.tdiv_eq_ediv_of_nonneg (by omega)]; omega
      have kr : (p : Int) % 8 = (r : Int) := by omega
      have kr2 : (p : Int).tmod 8 = (r : Int) := by rw [Int.tmod_eq_emod_of_nonneg (by omega)]; omega
      have kt : (r : Int) * 8 = (t : Int) := by omega
      have p9 : p ≤ 31 := by omega
      have q9 : q ≤ 3 := by omega
      have q8 : (q : Int) < 4 := by omega
      have r9 : r ≤ 7 := by omega
      have t9 : t ≤ 56 := by omega
      have i9 : i ≤ 31 := by omega
      have cx : wr.cell? ⟨b0 + 1, q, none⟩ = some (U (w4 (laidN s.data.toList i) q)) := by
        rw [hA.cell q (by rw [us_length, ws4_length]; omega), us_ws4_at]
      have fx : wr.frozen? ⟨b0 + 1, q, none⟩ = false := hA.frozen q
      have x9 : w4 (laidN s.data.toList i) q < BB := w4_lt _ _
      obtain ⟨y, hy⟩ : ∃ y, y = c * 2 ^ t := ⟨_, rfl⟩
      rw [← hy] at r1 r2
      have ky : (c : Int) * 2 ^ t = (y : Int) := by rw [hy]; push_cast; rfl
      have ky2 : (c : Int) <<< t = (y : Int) := by rw [hy, Int.shiftLeft_eq]; push_cast; rfl
      obtain ⟨z, hz⟩ : ∃ z, z = w4 (laidN s.data.toList (i + 1)) q := ⟨_, rfl⟩
      have HA2 : Hid (IHolds (wr.setCell ⟨b0 + 1, q, none⟩ (U z)) (b0 + 1) 73 (us (ws4 (laidN s.data.toList (i + 1))))) := by
        have h := hA.set q (U z)
        rw [us_ws4_set hz (by omega) r3] at h
        exact h
      have HZ2 : Hid (IHolds (wr.setCell ⟨b0 + 1, q, none⟩ (U z)) b0 73 [.int .u64 0, .int .u64 0, .int .u64 0, .int .u64 0]) := hZ.of_but ((But.refl _ wr).setCell q _) (by omega)
      have HB2 : Hid (Below w.heap.size w (wr.setCell ⟨b0 + 1, q, none⟩ (U z))) := hB.setCell (by show w.heap.size ≤ b0 + 1; rw [q4.out]; omega) _
      generalize w4 (laidN s.data.toList i) q = x at *
      rw [BB_eq] at x9 r2
      have kz : bits .or .u64 (x : Int) (y : Int) = (z : Int) := by
        rw [hz, r1]; exact bits_or_u64_nat x y x9 r2
      have wq : IntKind.i64.wrap (q : Int) = (q : Int) := IntWalk.i64_in _ ⟨by omega, by omega⟩
      have wr1 : IntKind.i64.wrap (r : Int) = (r : Int) := IntWalk.i64_in _ ⟨by omega, by omega⟩
      have wt : IntKind.i64.wrap (t : Int) = (t : Int) := IntWalk.i64_in _ ⟨by omega, by omega⟩
      have wy : IntKind.u64.wrap (y : Int) = (y : Int) := IntWalk.u64_in _ ⟨by omega, by omega⟩
      have wc : IntKind.u64.wrap (c : Int) = (c : Int) := IntWalk.u64_in _ ⟨by omega, by omega⟩
      clear r1 r3 e1 e2 hz hy hc hp hq hr ht hA hZ hB HBt hil
      go_wp2_with fail
      refine wp_region_held_drew (S := fun W => True) (by kernel_rfl) trivial (fun hH => ?_)
      refine tk (i := 0) (v := .int .i64 (p : Int)) rfl (by kernel_rfl) (fun _ _ _ h => h) rfl ?_ hH ?_
      · intro W hS; go_simp <;> simp only [wq, wr1, wt, wy, wc]
      simp only [Act.put, y1, y2, y3, y4, y5, y6, y7]
      refine tk (i := 1) (v := .int .i64 (q : Int)) rfl (by kernel_rfl) (fun _ _ _ h => h) rfl ?_ hH ?_
      · intro W hS; go_simp <;> simp only [wq, wr1, wt, wy, wc]
      simp only [Act.put, y1, y2, y3, y4, y5, y6, y7]
      refine tk (i := 2) (v := .pointer (some ⟨b0 + 1, q, none⟩)) rfl (by kernel_rfl) (fun _ _ _ h => h) rfl ?_ hH ?_
      · intro W hS; go_simp <;> simp only [wq, wr1, wt, wy, wc]
      simp only [Act.put, y1, y2, y3, y4, y5, y6, y7]
      refine tk (i := 4) (v := .string s) rfl (by kernel_rfl) (fun _ _ _ h => h) rfl ?_ hH ?_
      · intro W hS; go_simp <;> simp only [wq, wr1, wt, wy, wc]
      simp only [Act.put, y1, y2, y3, y4, y5, y6, y7]
      refine tk (i := 5) (v := .int .i64 (i : Int)) rfl (by kernel_rfl) (fun _ _ _ h => h) rfl ?_ hH ?_
      · intro W hS; go_simp <;> simp only [wq, wr1, wt, wy, wc]
      simp only [Act.put, y1, y2, y3, y4, y5, y6, y7]
      refine tk (i := 6) (v := .int .u8 (c : Int)) rfl (by kernel_rfl) (fun _ _ _ h => h) rfl ?_ hH ?_
      · intro W hS; go_simp <;> simp only [wq, wr1, wt, wy, wc]
      simp only [Act.put, y1, y2, y3, y4, y5, y6, y7]
      refine tk (i := 7) (v := U c) rfl (by kernel_rfl) (fun _ _ _ h => h) rfl ?_ hH ?_
      · intro W hS; go_simp <;> simp only [wq, wr1, wt, wy, wc]
      simp only [Act.put, y1, y2, y3, y4, y5, y6, y7]
      refine tk (i := 8) (v := .int .i64 (p : Int)) rfl (by kernel_rfl) (fun _ _ _ h => h) rfl ?_ hH ?_
      · intro W hS; go_simp <;> simp only [wq, wr1, wt, wy, wc]
      simp only [Act.put, y1, y2, y3, y4, y5, y6, y7]
      refine tk (i := 9) (v := .int .i64 (r : Int)) rfl (by kernel_rfl) (fun _ _ _ h => h) rfl ?_ hH ?_
      · intro W hS; go_simp <;> simp only [wq, wr1, wt, wy, wc]
      simp only [Act.put, y1, y2, y3, y4, y5, y6, y7]
      refine tk (i := 10) (v := .int .i64 (t : Int)) rfl (by kernel_rfl) (fun _ _ _ h => h) rfl ?_ hH ?_
      · intro W hS; go_simp <;> simp only [wq, wr1, wt, wy, wc]
      simp only [Act.put, y1, y2, y3, y4, y5, y6, y7]
      refine tk (i := 11) (v := U y) rfl (by kernel_rfl) (fun _ _ _ h => h) rfl ?_ hH ?_
      · intro W hS; go_simp <;> simp only [wq, wr1, wt, wy, wc]
      simp only [Act.put, y1, y2, y3, y4, y5, y6, y7]
      refine wpAnyH_ready (rs := [3]) (by kernel_rfl) (by simp) ?_
      refine AllReadyH.cons rfl (fun K hK => ?_) AllReadyH.nil
      clear hH
      have cx2 : wr.drew.cell? ⟨b0 + 1, q, none⟩ = some (U x) := cx
      go_simp
      refine hK.out _ _ trivial (fun hH2 => ?_)
      clear hK K
      try simp only [Act.put, y1, y2, y3, y4, y5, y6, y7]
      refine tk (i := 12) (v := U z) rfl (by kernel_rfl) (fun _ _ _ h => h) rfl ?_ hH2 ?_
      · intro W hS; go_simp <;> simp only [wq, wr1, wt, wy, wc]
      simp only [Act.put, y1, y2, y3, y4, y5, y6, y7]
      refine tk (i := 13) (v := .pointer (some ⟨b0 + 1, q, none⟩)) rfl (by kernel_rfl) (fun _ _ _ h => h) rfl ?_ hH2 ?_
      · intro W hS; go_simp <;> simp only [wq, wr1, wt, wy, wc]
      simp only [Act.put, y1, y2, y3, y4, y5, y6, y7]
      refine wpAnyH_ready (rs := [14]) (by kernel_rfl) (by simp) ?_
      refine AllReadyH.cons rfl (fun K hK => ?_) AllReadyH.nil
      clear hH2
      have fx2 : wr.drew.frozen? ⟨b0 + 1, q, none⟩ = false := fx
      go_simp
      try go_wp2_with fail
      refine hK.out _ _ trivial (fun hH3 => ?_)
      clear hK K
      try simp only [Act.put, y1, y2, y3, y4, y5, y6, y7]
      refine wpAnyH_done (by kernel_rfl) ?_ _
      clear hH3 cx cx2 fx fx2 kz ky ky2
      go_wp2_with fail
      go_roundg (gk - 1)
      case measure => omega
      case rel => exact ⟨i + 1, by omega, by go_num, HZ2.out, HA2.out, HB2.out.drew⟩
    · obtain rfl : i = n := by omega
      have il : ¬ (i : Int) < (i : Int) := by omega
      rw [HE.out] at hA
      have R1 : Hid (A4 (numS s) = .agg #[U (w4 (numS s) 0), U (w4 (numS s) 1), U (w4 (numS s) 2), U (w4 (numS s) 3)]) := rfl
      have hA' : IHolds wr (b0 + 1) 73 [U (w4 (numS s) 0), U (w4 (numS s) 1), U (w4 (numS s) 2), U (w4 (numS s) 3)] := hA
      generalize w4 (numS s) 0 = z0 at *
      generalize w4 (numS s) 1 = z1 at *
      generalize w4 (numS s) 2 = z2 at *
      generalize w4 (numS s) 3 = z3 at *
      have c0 : wr.cell? ⟨b0 + 1, 0, none⟩ = some (U z0) := hA'.cell 0 (by simp)
      have c1 : wr.cell? ⟨b0 + 1, 1, none⟩ = some (U z1) := hA'.cell 1 (by simp)
      have c2 : wr.cell? ⟨b0 + 1, 2, none⟩ = some (U z2) := hA'.cell 2 (by simp)
      have c3 : wr.cell? ⟨b0 + 1, 3, none⟩ = some (U z3) := hA'.cell 3 (by simp)
      have d0 : wr.cell? ⟨b0, 0, none⟩ = some (.int .u64 0) := hZ.cell 0 (by simp)
      have d1 : wr.cell? ⟨b0, 1, none⟩ = some (.int .u64 0) := hZ.cell 1 (by simp)
      have d2 : wr.cell? ⟨b0, 2, none⟩ = some (.int .u64 0) := hZ.cell 2 (by simp)
      have d3 : wr.cell? ⟨b0, 3, none⟩ = some (.int .u64 0) := hZ.cell 3 (by simp)
      have f0 : ∀ i, wr.frozen? ⟨b0, i, none⟩ = false := fun i => hZ.frozen i
      obtain ⟨W9, hW9⟩ : ∃ X, X = (((wr.setCell ⟨b0, 0, none⟩ (U z0)).setCell ⟨b0, 1, none⟩ (U z1)).setCell ⟨b0, 2, none⟩ (U z2)).setCell ⟨b0, 3, none⟩ (U z3) := ⟨_, rfl⟩
      have hZ9 : Hid (IHolds W9 b0 73 [U z0, U z1, U z2, U z3]) := by
        show IHolds _ _ _ _
        rw [hW9]; exact (((hZ.set 0 (U z0)).set 1 (U z1)).set 2 (U z2)).set 3 (U z3)
      have hB9 : Hid (Below w.heap.size w W9) := by
        show Below _ _ _
        have hq : w.heap.size ≤ b0 := by rw [← q4.out]; omega
        rw [hW9]; exact (((hB.setCell hq _).setCell hq _).setCell hq _).setCell hq _
      clear hA hA' hZ hB q4 HE
      go_wp2_with fail
      rw [← hW9]
      clear hW9 c0 c1 c2 c3 d0 d1 d2 d3 f0
      have E0 : W9.cell? ⟨b0, 0, none⟩ = some (U z0) := hZ9.out.cell 0 (by simp)
      have E1 : W9.cell? ⟨b0, 1, none⟩ = some (U z1) := hZ9.out.cell 1 (by simp)
      have E2 : W9.cell? ⟨b0, 2, none⟩ = some (U z2) := hZ9.out.cell 2 (by simp)
      have E3 : W9.cell? ⟨b0, 3, none⟩ = some (U z3) := hZ9.out.cell 3 (by simp)
      exact bodyPost_ret (v := .agg #[U z0, U z1, U z2, U z3]) (by simp [results, Tryz.results63, go_sem, E0, E1, E2, E3]) rfl ⟨by rw [R1.out], hB9.out⟩
end Go.Proofs.YtmpiipcllgjhdaaGreatDoor

/- Numbers of four words: less, below, and the field's sums and differences. -/
namespace Go.Proofs.YtmpiipcllgjhdaaGreatDoor
open Go.RowKit Go.Deep Go.PlainAid

set_option maxRecDepth 100000 in
set_option maxHeartbeats 2000000 in
theorem less_words (w : World) (x0 x1 x2 x3 m0 m1 m2 m3 z0 z1 z2 z3 b : Nat) (t : Bool) (C : Hid (∀ W, Calls Tryz.prog 102 #[.agg #[U x0, U x1, U x2, U x3], .agg #[U m0, U m1, U m2, U m3]] W fun e w' => e = .returned (.tuple #[.agg #[U z0, U z1, U z2, U z3], U b]) ∧ Below W.heap.size W w')) (ht : ((b : Int) == 1) = t) :
    Calls Tryz.prog 64 #[.agg #[U x0, U x1, U x2, U x3], .agg #[U m0, U m1, U m2, U m3]] w fun e w' => e = .returned (.bool t) ∧ Below w.heap.size w w' := by
  go_enter Tryz.func64, Tryz.ntmps64
  go_wp2_with fail
  obtain ⟨U1, hU1⟩ : ∃ X, X = ((w.alloc (.cells #[U x0, U x1, U x2, U x3] 73)).alloc (.cells #[U m0, U m1, U m2, U m3] 73)) := ⟨_, rfl⟩
  have Jx : Hid (IHolds U1 (w.heap.size) 73 [U x0, U x1, U x2, U x3]) := by
    have q := IHolds.new w 73 [U x0, U x1, U x2, U x3]
    show IHolds _ _ _ _
    rw [hU1]
    exact (q.alloc _)
  have Jm : Hid (IHolds U1 (w.heap.size + 1) 73 [U m0, U m1, U m2, U m3]) := by
    have q := IHolds.new (w.alloc (.cells #[U x0, U x1, U x2, U x3] 73)) 73 [U m0, U m1, U m2, U m3]
    simp only [World.size_alloc, Nat.add_assoc, Nat.reduceAdd] at q
    show IHolds _ _ _ _
    rw [hU1]
    exact q
  have B : Hid (Below w.heap.size w U1) := by
    show Below _ _ _
    rw [hU1]
    exact (((Below.refl _ w).alloc (Nat.le_refl _) _).alloc (by simp only [World.size_alloc]; omega) _)
  rw [← hU1]
  clear hU1
  have zx_0 : U1.cell? ⟨w.heap.size, 0, none⟩ = some (U x0) := IHolds.cell (l := [U x0, U x1, U x2, U x3]) (t := 73) (b := w.heap.size) (w := U1) (Jx.out) 0 (by simp)
  have zx_1 : U1.cell? ⟨w.heap.size, 1, none⟩ = some (U x1) := IHolds.cell (l := [U x0, U x1, U x2, U x3]) (t := 73) (b := w.heap.size) (w := U1) (Jx.out) 1 (by simp)
  have zx_2 : U1.cell? ⟨w.heap.size, 2, none⟩ = some (U x2) := IHolds.cell (l := [U x0, U x1, U x2, U x3]) (t := 73) (b := w.heap.size) (w := U1) (Jx.out) 2 (by simp)
  have zx_3 : U1.cell? ⟨w.heap.size, 3, none⟩ = some (U x3) := IHolds.cell (l := [U x0, U x1, U x2, U x3]) (t := 73) (b := w.heap.size) (w := U1) (Jx.out) 3 (by simp)
  have zm_0 : U1.cell? ⟨w.heap.size + 1, 0, none⟩ = some (U m0) := IHolds.cell (l := [U m0, U m1, U m2, U m3]) (t := 73) (b := w.heap.size + 1) (w := U1) (Jm.out) 0 (by simp)
  have zm_1 : U1.cell? ⟨w.heap.size + 1, 1, none⟩ = some (U m1) := IHolds.cell (l := [U m0, U m1, U m2, U m3]) (t := 73) (b := w.heap.size + 1) (w := U1) (Jm.out) 1 (by simp)
  have zm_2 : U1.cell? ⟨w.heap.size + 1, 2, none⟩ = some (U m2) := IHolds.cell (l := [U m0, U m1, U m2, U m3]) (t := 73) (b := w.heap.size + 1) (w := U1) (Jm.out) 2 (by simp)
  have zm_3 : U1.cell? ⟨w.heap.size + 1, 3, none⟩ = some (U m3) := IHolds.cell (l := [U m0, U m1, U m2, U m3]) (t := 73) (b := w.heap.size + 1) (w := U1) (Jm.out) 3 (by simp)
  go_wp2_with fail
  clear zx_0 zx_1 zx_2 zx_3 zm_0 zm_1 zm_2 zm_3
  refine (C.out U1).mono ?_
  rintro e U2 ⟨rfl, hb⟩
  replace B := aB B hb
  replace Jx := aJ Jx hb
  replace Jm := aJ Jm hb
  clear hb
  have hb := nB U2 (.cells #[U z0, U z1, U z2, U z3] 73)
  have Jd : Hid (IHolds (U2.alloc (.cells #[U z0, U z1, U z2, U z3] 73)) U2.heap.size 73 [U z0, U z1, U z2, U z3]) := IHolds.new _ _ _
  have ne_x_d := nJ Jx
  have ne_m_d := nJ Jm
  have ge_d : Hid (w.heap.size ≤ U2.heap.size) := B.out.size
  replace B := aB B hb
  replace Jx := aJ Jx hb
  replace Jm := aJ Jm hb
  clear hb
  go_wp2_with fail
  generalize (U2.alloc (.cells #[U z0, U z1, U z2, U z3] 73)) = U3 at *
  generalize U2.heap.size = b4 at *
  go_ret
  exact ⟨rfl, B.out⟩
theorem lessA (w : World) {n m : Nat} (hn : n < BB ^ 4) (hm : m < BB ^ 4) : Calls Tryz.prog 64 #[A4 n, A4 m] w fun e w' => e = .returned (.bool (decide (n < m))) ∧ Below w.heap.size w w' := by
  refine less_words w _ _ _ _ _ _ _ _ _ _ _ _ _ _ (fun W => minusA W hn hm) ?_
  unfold borN
  split <;> rename_i h <;> simp [h]
/-- A field in memory. -/
structure FH (w : World) (g o Wd M low one sq : Nat) : Prop where
  c0 : w.cell? ⟨g, o, none⟩ = some (.int .i64 (Wd : Int))
  m0 : w.cell? ⟨g, o + 1, none⟩ = some (U (w4 M 0))
  m1 : w.cell? ⟨g, o + 2, none⟩ = some (U (w4 M 1))
  m2 : w.cell? ⟨g, o + 3, none⟩ = some (U (w4 M 2))
  m3 : w.cell? ⟨g, o + 4, none⟩ = some (U (w4 M 3))
  lo : w.cell? ⟨g, o + 5, none⟩ = some (U low)
  o0 : w.cell? ⟨g, o + 6, none⟩ = some (U (w4 one 0))
  o1 : w.cell? ⟨g, o + 7, none⟩ = some (U (w4 one 1))
  o2 : w.cell? ⟨g, o + 8, none⟩ = some (U (w4 one 2))
  o3 : w.cell? ⟨g, o + 9, none⟩ = some (U (w4 one 3))
  s0 : w.cell? ⟨g, o + 10, none⟩ = some (U (w4 sq 0))
  s1 : w.cell? ⟨g, o + 11, none⟩ = some (U (w4 sq 1))
  s2 : w.cell? ⟨g, o + 12, none⟩ = some (U (w4 sq 2))
  s3 : w.cell? ⟨g, o + 13, none⟩ = some (U (w4 sq 3))
theorem FH.lt {w : World} {g o Wd M low one sq : Nat} (h : FH w g o Wd M low one sq) : g < w.heap.size := World.block_lt_of_cell? w ⟨g, o, none⟩ h.c0
theorem FH.ne {w : World} {g o Wd M low one sq : Nat} (h : FH w g o Wd M low one sq) : g ≠ w.heap.size := by have := h.lt; omega
theorem FH.same {w w' : World} {g o Wd M low one sq : Nat} (h : FH w g o Wd M low one sq) (e : ∀ i, w'.cell? ⟨g, i, none⟩ = w.cell? ⟨g, i, none⟩) : FH w' g o Wd M low one sq := by
  constructor <;> rw [e]
  · exact h.c0
  · exact h.m0
  · exact h.m1
  · exact h.m2
  · exact h.m3
  · exact h.lo
  · exact h.o0
  · exact h.o1
  · exact h.o2
  · exact h.o3
  · exact h.s0
  · exact h.s1
  · exact h.s2
  · exact h.s3
theorem FH.of_below {w w' : World} {g o Wd M low one sq : Nat} (h : FH w g o Wd M low one sq) (hb : Below w.heap.size w w') : FH w' g o Wd M low one sq := h.same fun i => hb.cell h.lt
theorem FH.of_but {w w' : World} {b g o Wd M low one sq : Nat} (h : FH w g o Wd M low one sq) (hb : But b w w') (hne : g ≠ b) : FH w' g o Wd M low one sq := h.same fun i => hb.cell h.lt hne i
theorem aF {w w' : World} {g o Wd M low one sq : Nat} (h : Hid (FH w g o Wd M low one sq)) (hb : Below w.heap.size w w') : Hid (FH w' g o Wd M low one sq) := h.out.of_below hb
theorem tF {w w' : World} {b g o Wd M low one sq : Nat} (h : Hid (FH w g o Wd M low one sq)) (hb : But b w w') (hne : g ≠ b) : Hid (FH w' g o Wd M low one sq) := h.out.of_but hb hne
set_option maxRecDepth 100000 in
set_option maxHeartbeats 2000000 in
theorem below_lt {w : World} {g o Wd M low one sq : Nat} (F : Hid (FH w g o Wd M low one sq)) (x0 x1 x2 x3 z0 z1 z2 z3 b : Nat) (C : Hid (∀ W, Calls Tryz.prog 102 #[.agg #[U x0, U x1, U x2, U x3], .agg #[U (w4 M 0), U (w4 M 1), U (w4 M 2), U (w4 M 3)]] W fun e w' => e = .returned (.tuple #[.agg #[U z0, U z1, U z2, U z3], U b]) ∧ Below W.heap.size W w')) (hb1 : ((b : Int) == 1) = true) :
    Calls Tryz.prog 137 #[.pointer (some ⟨g, o, none⟩), .agg #[U x0, U x1, U x2, U x3]] w fun e w' => e = .returned (.agg #[U x0, U x1, U x2, U x3]) ∧ Below w.heap.size w w' := by
  go_enter Tryz.func137, Tryz.ntmps137
  go_wp2_with fail
  have neF_x : Hid (g ≠ w.heap.size + 0) := by have h := F.out.lt; show _ ≠ _; omega
  have neF_r : Hid (g ≠ w.heap.size + 1) := by have h := F.out.lt; show _ ≠ _; omega
  obtain ⟨U1, hU1⟩ : ∃ X, X = ((w.alloc (.cells #[U x0, U x1, U x2, U x3] 73)).alloc (.cells #[.int .u64 0, .int .u64 0, .int .u64 0, .int .u64 0] 73)) := ⟨_, rfl⟩
  have Jx : Hid (IHolds U1 (w.heap.size) 73 [U x0, U x1, U x2, U x3]) := by
    have q := IHolds.new w 73 [U x0, U x1, U x2, U x3]
    show IHolds _ _ _ _
    rw [hU1]
    exact (q.alloc _)
  have Jr : Hid (IHolds U1 (w.heap.size + 1) 73 [.int .u64 0, .int .u64 0, .int .u64 0, .int .u64 0]) := by
    have q := IHolds.new (w.alloc (.cells #[U x0, U x1, U x2, U x3] 73)) 73 [.int .u64 0, .int .u64 0, .int .u64 0, .int .u64 0]
    simp only [World.size_alloc, Nat.add_assoc, Nat.reduceAdd] at q
    show IHolds _ _ _ _
    rw [hU1]
    exact q
  have B : Hid (Below w.heap.size w U1) := by
    show Below _ _ _
    rw [hU1]
    exact (((Below.refl _ w).alloc (Nat.le_refl _) _).alloc (by simp only [World.size_alloc]; omega) _)
  rw [← hU1]
  clear hU1
  replace F := aF F (show Below w.heap.size w U1 from B.out)
  have hb := dB U1
  replace F := aF F hb
  replace B := aB B hb
  replace Jx := aJ Jx hb
  replace Jr := aJ Jr hb
  clear hb
  refine wp_region_held_drew (S := fun W => (IHolds W (w.heap.size) 73 [U x0, U x1, U x2, U x3]) ∧ (FH W g o Wd M low one sq)) (by kernel_rfl) ⟨Jx.out, F.out⟩ (fun hHeld1 => ?_)
  generalize U1.drew = U2 at *
  refine tk (i := 0) (v := .agg #[U x0, U x1, U x2, U x3]) rfl (by kernel_rfl) (fun _ _ _ h => h) rfl ?_ hHeld1 ?_
  · intro W hS; have zx_0 : W.cell? ⟨w.heap.size, 0, none⟩ = some (U x0) := IHolds.cell (l := [U x0, U x1, U x2, U x3]) (t := 73) (b := w.heap.size) (w := W) (hS.1) 0 (by simp); have zx_1 : W.cell? ⟨w.heap.size, 1, none⟩ = some (U x1) := IHolds.cell (l := [U x0, U x1, U x2, U x3]) (t := 73) (b := w.heap.size) (w := W) (hS.1) 1 (by simp); have zx_2 : W.cell? ⟨w.heap.size, 2, none⟩ = some (U x2) := IHolds.cell (l := [U x0, U x1, U x2, U x3]) (t := 73) (b := w.heap.size) (w := W) (hS.1) 2 (by simp); have zx_3 : W.cell? ⟨w.heap.size, 3, none⟩ = some (U x3) := IHolds.cell (l := [U x0, U x1, U x2, U x3]) (t := 73) (b := w.heap.size) (w := W) (hS.1) 3 (by simp); go_simp
  simp only [Act.put, y1, y2, y3, y4, y5, y6, y7]
  refine tk (i := 1) (v := .pointer (some ⟨g, o, none⟩)) rfl (by kernel_rfl) (fun _ _ _ h => h) rfl ?_ hHeld1 ?_
  · intro W hS; go_simp
  simp only [Act.put, y1, y2, y3, y4, y5, y6, y7]
  refine tk (i := 2) (v := .pointer (some ⟨g, o, none⟩)) rfl (by kernel_rfl) (fun _ _ _ h => h) rfl ?_ hHeld1 ?_
  · intro W hS; go_simp
  simp only [Act.put, y1, y2, y3, y4, y5, y6, y7]
  refine tk (i := 3) (v := .pointer (some ⟨g, o + 1, none⟩)) rfl (by kernel_rfl) (fun _ _ _ h => h) rfl ?_ hHeld1 ?_
  · intro W hS; go_simp
  simp only [Act.put, y1, y2, y3, y4, y5, y6, y7]
  refine tk (i := 4) (v := .agg #[U (w4 M 0), U (w4 M 1), U (w4 M 2), U (w4 M 3)]) rfl (by kernel_rfl) (fun _ _ _ h => h) rfl ?_ hHeld1 ?_
  · intro W hS; have fz := hS.2; have fz0 := fz.c0; have fz1 := fz.m0; have fz2 := fz.m1; have fz3 := fz.m2; have fz4 := fz.m3; have fz5 := fz.lo; have fz6 := fz.o0; have fz7 := fz.o1; have fz8 := fz.o2; have fz9 := fz.o3; have fz10 := fz.s0; have fz11 := fz.s1; have fz12 := fz.s2; have fz13 := fz.s3; go_simp
  simp only [Act.put, y1, y2, y3, y4, y5, y6, y7]
  refine wpAnyH_ready (rs := [5, 9]) (by kernel_rfl) (by simp) ?_
  refine AllReadyH.cons rfl (fun K hK => ?_) (AllReadyH.cons rfl (fun K hK => ?_) AllReadyH.nil)
  · clear hHeld1
    go_simp
    refine (C.out U2).mono ?_
    rintro e U3 ⟨rfl, hb⟩
    replace F := aF F hb
    replace B := aB B hb
    replace Jx := aJ Jx hb
    replace Jr := aJ Jr hb
    clear hb
    go_wp2_with fail
    refine hK.out _ _ (⟨Jx.out, F.out⟩) (fun hHeld2 => ?_)
    clear hK K
    try simp only [Act.put, y1, y2, y3, y4, y5, y6, y7]
    refine tk (i := 6) (v := .tuple #[.agg #[U z0, U z1, U z2, U z3], U b]) rfl (by kernel_rfl) (fun _ _ _ h => h) rfl ?_ hHeld2 ?_
    · intro W hS; go_simp
    simp only [Act.put, y1, y2, y3, y4, y5, y6, y7]
    refine tk (i := 7) (v := .agg #[U z0, U z1, U z2, U z3]) rfl (by kernel_rfl) (fun _ _ _ h => h) rfl ?_ hHeld2 ?_
    · intro W hS; go_simp
    simp only [Act.put, y1, y2, y3, y4, y5, y6, y7]
    refine tk (i := 8) (v := U b) rfl (by kernel_rfl) (fun _ _ _ h => h) rfl ?_ hHeld2 ?_
    · intro W hS; go_simp
    simp only [Act.put, y1, y2, y3, y4, y5, y6, y7]
    refine wpAnyH_ready (rs := [9]) (by kernel_rfl) (by simp) ?_
    refine AllReadyH.cons rfl (fun K hK => ?_) AllReadyH.nil
    clear hHeld2
    have neF_d : Hid (g ≠ U3.heap.size) := F.out.ne
    go_simp
    have ne_x_d := nJ Jx
    have ne_r_d := nJ Jr
    have ge_d : Hid (w.heap.size ≤ U3.heap.size) := B.out.size
    have hb := nB U3 (.cells #[.int .u64 0, .int .u64 0, .int .u64 0, .int .u64 0] 73)
    have Jd : Hid (IHolds (U3.alloc (.cells #[.int .u64 0, .int .u64 0, .int .u64 0, .int .u64 0] 73)) U3.heap.size 73 [.int .u64 0, .int .u64 0, .int .u64 0, .int .u64 0]) := IHolds.new _ _ _
    replace F := aF F hb
    replace B := aB B hb
    replace Jx := aJ Jx hb
    replace Jr := aJ Jr hb
    clear hb
    generalize (U3.alloc (.cells #[.int .u64 0, .int .u64 0, .int .u64 0, .int .u64 0] 73)) = U4 at *
    generalize U3.heap.size = b5 at *
    refine hK.out _ _ (⟨Jx.out, F.out⟩) (fun hHeld3 => ?_)
    clear hK K
    try simp only [Act.put, y1, y2, y3, y4, y5, y6, y7]
    refine wpAnyH_ready (rs := [10]) (by kernel_rfl) (by simp) ?_
    refine AllReadyH.cons rfl (fun K hK => ?_) AllReadyH.nil
    clear hHeld3
    have zd_0 : U4.cell? ⟨b5, 0, none⟩ = some (.int .u64 0) := IHolds.cell (l := [.int .u64 0, .int .u64 0, .int .u64 0, .int .u64 0]) (t := 73) (b := b5) (w := U4) (Jd.out) 0 (by simp)
    have zd_1 : U4.cell? ⟨b5, 1, none⟩ = some (.int .u64 0) := IHolds.cell (l := [.int .u64 0, .int .u64 0, .int .u64 0, .int .u64 0]) (t := 73) (b := b5) (w := U4) (Jd.out) 1 (by simp)
    have zd_2 : U4.cell? ⟨b5, 2, none⟩ = some (.int .u64 0) := IHolds.cell (l := [.int .u64 0, .int .u64 0, .int .u64 0, .int .u64 0]) (t := 73) (b := b5) (w := U4) (Jd.out) 2 (by simp)
    have zd_3 : U4.cell? ⟨b5, 3, none⟩ = some (.int .u64 0) := IHolds.cell (l := [.int .u64 0, .int .u64 0, .int .u64 0, .int .u64 0]) (t := 73) (b := b5) (w := U4) (Jd.out) 3 (by simp)
    have f0 := fJ Jd
    have hBut : But (b5) U4 ((((U4.setCell ⟨b5, 0, none⟩ (U z0)).setCell ⟨b5, 1, none⟩ (U z1)).setCell ⟨b5, 2, none⟩ (U z2)).setCell ⟨b5, 3, none⟩ (U z3)) := (((((But.refl _ U4).setCell 0 (U z0)).setCell 1 (U z1)).setCell 2 (U z2)).setCell 3 (U z3))
    replace F := tF F hBut neF_d.out
    have I4 : Hid (IHolds _ (b5) 73 [U z0, U z1, U z2, U z3]) := ((((Jd.out.set 0 (U z0)).set 1 (U z1)).set 2 (U z2)).set 3 (U z3))
    replace B : Hid (Below w.heap.size w ((((U4.setCell ⟨b5, 0, none⟩ (U z0)).setCell ⟨b5, 1, none⟩ (U z1)).setCell ⟨b5, 2, none⟩ (U z2)).setCell ⟨b5, 3, none⟩ (U z3))) := ((((B.out.setCell (by first | exact Nat.le_refl _ | exact ge_d.out | (show w.heap.size ≤ b5; omega)) _).setCell (by first | exact Nat.le_refl _ | exact ge_d.out | (show w.heap.size ≤ b5; omega)) _).setCell (by first | exact Nat.le_refl _ | exact ge_d.out | (show w.heap.size ≤ b5; omega)) _).setCell (by first | exact Nat.le_refl _ | exact ge_d.out | (show w.heap.size ≤ b5; omega)) _)
    replace Jx := tJ Jx hBut ne_x_d.out
    replace Jr := tJ Jr hBut ne_r_d.out
    replace Jd := I4
    clear I4 hBut
    go_simp
    try go_wp2_with fail
    clear zd_0 zd_1 zd_2 zd_3
    clear f0
    generalize ((((U4.setCell ⟨b5, 0, none⟩ (U z0)).setCell ⟨b5, 1, none⟩ (U z1)).setCell ⟨b5, 2, none⟩ (U z2)).setCell ⟨b5, 3, none⟩ (U z3)) = U6 at *
    refine hK.out _ _ (⟨Jx.out, F.out⟩) (fun hHeld4 => ?_)
    clear hK K
    try simp only [Act.put, y1, y2, y3, y4, y5, y6, y7]
    refine tk (i := 11) (v := U b) rfl (by kernel_rfl) (fun _ _ _ h => h) rfl ?_ hHeld4 ?_
    · intro W hS; go_simp
    simp only [Act.put, y1, y2, y3, y4, y5, y6, y7]
    refine wpAnyH_done (by kernel_rfl) ?_ _
    clear hHeld4
    have Kx : Hid (IHolds U6 (w.heap.size) 73 [U x0, U x1, U x2, U x3]) := Jx.out
    have zr_0 : U6.cell? ⟨w.heap.size + 1, 0, none⟩ = some (.int .u64 0) := IHolds.cell (l := [.int .u64 0, .int .u64 0, .int .u64 0, .int .u64 0]) (t := 73) (b := w.heap.size + 1) (w := U6) (Jr.out) 0 (by simp)
    have zr_1 : U6.cell? ⟨w.heap.size + 1, 1, none⟩ = some (.int .u64 0) := IHolds.cell (l := [.int .u64 0, .int .u64 0, .int .u64 0, .int .u64 0]) (t := 73) (b := w.heap.size + 1) (w := U6) (Jr.out) 1 (by simp)
    have zr_2 : U6.cell? ⟨w.heap.size + 1, 2, none⟩ = some (.int .u64 0) := IHolds.cell (l := [.int .u64 0, .int .u64 0, .int .u64 0, .int .u64 0]) (t := 73) (b := w.heap.size + 1) (w := U6) (Jr.out) 2 (by simp)
    have zr_3 : U6.cell? ⟨w.heap.size + 1, 3, none⟩ = some (.int .u64 0) := IHolds.cell (l := [.int .u64 0, .int .u64 0, .int .u64 0, .int .u64 0]) (t := 73) (b := w.heap.size + 1) (w := U6) (Jr.out) 3 (by simp)
    have f0 := fJ Jr
    have hBut : But (w.heap.size + 1) U6 ((((U6.setCell ⟨w.heap.size + 1, 0, none⟩ (U x0)).setCell ⟨w.heap.size + 1, 1, none⟩ (U x1)).setCell ⟨w.heap.size + 1, 2, none⟩ (U x2)).setCell ⟨w.heap.size + 1, 3, none⟩ (U x3)) := (((((But.refl _ U6).setCell 0 (U x0)).setCell 1 (U x1)).setCell 2 (U x2)).setCell 3 (U x3))
    replace F := tF F hBut neF_r.out
    have I4 : Hid (IHolds _ (w.heap.size + 1) 73 [U x0, U x1, U x2, U x3]) := ((((Jr.out.set 0 (U x0)).set 1 (U x1)).set 2 (U x2)).set 3 (U x3))
    replace B : Hid (Below w.heap.size w ((((U6.setCell ⟨w.heap.size + 1, 0, none⟩ (U x0)).setCell ⟨w.heap.size + 1, 1, none⟩ (U x1)).setCell ⟨w.heap.size + 1, 2, none⟩ (U x2)).setCell ⟨w.heap.size + 1, 3, none⟩ (U x3))) := ((((B.out.setCell (by first | exact Nat.le_refl _ | exact ge_r.out | (show w.heap.size ≤ w.heap.size + 1; omega)) _).setCell (by first | exact Nat.le_refl _ | exact ge_r.out | (show w.heap.size ≤ w.heap.size + 1; omega)) _).setCell (by first | exact Nat.le_refl _ | exact ge_r.out | (show w.heap.size ≤ w.heap.size + 1; omega)) _).setCell (by first | exact Nat.le_refl _ | exact ge_r.out | (show w.heap.size ≤ w.heap.size + 1; omega)) _)
    replace Jx := tJ Jx hBut (by omega)
    replace Jd := tJ Jd hBut (fun h => ne_r_d.out h.symm)
    replace Jr := I4
    clear I4 hBut
    have zx_0 : U6.cell? ⟨w.heap.size, 0, none⟩ = some (U x0) := IHolds.cell (l := [U x0, U x1, U x2, U x3]) (t := 73) (b := w.heap.size) (w := U6) (Kx.out) 0 (by simp)
    have zx_1 : U6.cell? ⟨w.heap.size, 1, none⟩ = some (U x1) := IHolds.cell (l := [U x0, U x1, U x2, U x3]) (t := 73) (b := w.heap.size) (w := U6) (Kx.out) 1 (by simp)
    have zx_2 : U6.cell? ⟨w.heap.size, 2, none⟩ = some (U x2) := IHolds.cell (l := [U x0, U x1, U x2, U x3]) (t := 73) (b := w.heap.size) (w := U6) (Kx.out) 2 (by simp)
    have zx_3 : U6.cell? ⟨w.heap.size, 3, none⟩ = some (U x3) := IHolds.cell (l := [U x0, U x1, U x2, U x3]) (t := 73) (b := w.heap.size) (w := U6) (Kx.out) 3 (by simp)
    go_wp2_with fail
    clear zx_0 zx_1 zx_2 zx_3
    clear Kx
    clear zr_0 zr_1 zr_2 zr_3
    clear f0
    generalize ((((U6.setCell ⟨w.heap.size + 1, 0, none⟩ (U x0)).setCell ⟨w.heap.size + 1, 1, none⟩ (U x1)).setCell ⟨w.heap.size + 1, 2, none⟩ (U x2)).setCell ⟨w.heap.size + 1, 3, none⟩ (U x3)) = U7 at *
    have E0 : Hid (U7.cell? ⟨w.heap.size + 1, 0, none⟩ = some (U x0)) := IHolds.cell (l := [U x0, U x1, U x2, U x3]) (t := 73) (b := w.heap.size + 1) (w := U7) Jr.out 0 (by simp)
    have E1 : Hid (U7.cell? ⟨w.heap.size + 1, 1, none⟩ = some (U x1)) := IHolds.cell (l := [U x0, U x1, U x2, U x3]) (t := 73) (b := w.heap.size + 1) (w := U7) Jr.out 1 (by simp)
    have E2 : Hid (U7.cell? ⟨w.heap.size + 1, 2, none⟩ = some (U x2)) := IHolds.cell (l := [U x0, U x1, U x2, U x3]) (t := 73) (b := w.heap.size + 1) (w := U7) Jr.out 2 (by simp)
    have E3 : Hid (U7.cell? ⟨w.heap.size + 1, 3, none⟩ = some (U x3)) := IHolds.cell (l := [U x0, U x1, U x2, U x3]) (t := 73) (b := w.heap.size + 1) (w := U7) Jr.out 3 (by simp)
    exact bodyPost_ret (v := .agg #[U x0, U x1, U x2, U x3]) (by simp [results, Tryz.results137, go_sem, E0.out, E1.out, E2.out, E3.out]) rfl ⟨rfl, B.out⟩
  · clear hHeld1
    have neF_d : Hid (g ≠ U2.heap.size) := F.out.ne
    go_simp
    have ne_x_d := nJ Jx
    have ne_r_d := nJ Jr
    have ge_d : Hid (w.heap.size ≤ U2.heap.size) := B.out.size
    have hb := nB U2 (.cells #[.int .u64 0, .int .u64 0, .int .u64 0, .int .u64 0] 73)
    have Jd : Hid (IHolds (U2.alloc (.cells #[.int .u64 0, .int .u64 0, .int .u64 0, .int .u64 0] 73)) U2.heap.size 73 [.int .u64 0, .int .u64 0, .int .u64 0, .int .u64 0]) := IHolds.new _ _ _
    replace F := aF F hb
    replace B := aB B hb
    replace Jx := aJ Jx hb
    replace Jr := aJ Jr hb
    clear hb
    generalize (U2.alloc (.cells #[.int .u64 0, .int .u64 0, .int .u64 0, .int .u64 0] 73)) = U8 at *
    generalize U2.heap.size = b9 at *
    refine hK.out _ _ (⟨Jx.out, F.out⟩) (fun hHeld5 => ?_)
    clear hK K
    try simp only [Act.put, y1, y2, y3, y4, y5, y6, y7]
    refine wpAnyH_ready (rs := [5]) (by kernel_rfl) (by simp) ?_
    refine AllReadyH.cons rfl (fun K hK => ?_) AllReadyH.nil
    clear hHeld5
    go_simp
    refine (C.out U8).mono ?_
    rintro e U10 ⟨rfl, hb⟩
    replace F := aF F hb
    replace B := aB B hb
    replace Jx := aJ Jx hb
    replace Jr := aJ Jr hb
    replace Jd := aJ Jd hb
    clear hb
    go_wp2_with fail
    refine hK.out _ _ (⟨Jx.out, F.out⟩) (fun hHeld6 => ?_)
    clear hK K
    try simp only [Act.put, y1, y2, y3, y4, y5, y6, y7]
    refine tk (i := 6) (v := .tuple #[.agg #[U z0, U z1, U z2, U z3], U b]) rfl (by kernel_rfl) (fun _ _ _ h => h) rfl ?_ hHeld6 ?_
    · intro W hS; go_simp
    simp only [Act.put, y1, y2, y3, y4, y5, y6, y7]
    refine tk (i := 7) (v := .agg #[U z0, U z1, U z2, U z3]) rfl (by kernel_rfl) (fun _ _ _ h => h) rfl ?_ hHeld6 ?_
    · intro W hS; go_simp
    simp only [Act.put, y1, y2, y3, y4, y5, y6, y7]
    refine tk (i := 8) (v := U b) rfl (by kernel_rfl) (fun _ _ _ h => h) rfl ?_ hHeld6 ?_
    · intro W hS; go_simp
    simp only [Act.put, y1, y2, y3, y4, y5, y6, y7]
    refine wpAnyH_ready (rs := [10]) (by kernel_rfl) (by simp) ?_
    refine AllReadyH.cons rfl (fun K hK => ?_) AllReadyH.nil
    clear hHeld6
    have zd_0 : U10.cell? ⟨b9, 0, none⟩ = some (.int .u64 0) := IHolds.cell (l := [.int .u64 0, .int .u64 0, .int .u64 0, .int .u64 0]) (t := 73) (b := b9) (w := U10) (Jd.out) 0 (by simp)
    have zd_1 : U10.cell? ⟨b9, 1, none⟩ = some (.int .u64 0) := IHolds.cell (l := [.int .u64 0, .int .u64 0, .int .u64 0, .int .u64 0]) (t := 73) (b := b9) (w := U10) (Jd.out) 1 (by simp)
    have zd_2 : U10.cell? ⟨b9, 2, none⟩ = some (.int .u64 0) := IHolds.cell (l := [.int .u64 0, .int .u64 0, .int .u64 0, .int .u64 0]) (t := 73) (b := b9) (w := U10) (Jd.out) 2 (by simp)
    have zd_3 : U10.cell? ⟨b9, 3, none⟩ = some (.int .u64 0) := IHolds.cell (l := [.int .u64 0, .int .u64 0, .int .u64 0, .int .u64 0]) (t := 73) (b := b9) (w := U10) (Jd.out) 3 (by simp)
    have f0 := fJ Jd
    have hBut : But (b9) U10 ((((U10.setCell ⟨b9, 0, none⟩ (U z0)).setCell ⟨b9, 1, none⟩ (U z1)).setCell ⟨b9, 2, none⟩ (U z2)).setCell ⟨b9, 3, none⟩ (U z3)) := (((((But.refl _ U10).setCell 0 (U z0)).setCell 1 (U z1)).setCell 2 (U z2)).setCell 3 (U z3))
    replace F := tF F hBut neF_d.out
    have I4 : Hid (IHolds _ (b9) 73 [U z0, U z1, U z2, U z3]) := ((((Jd.out.set 0 (U z0)).set 1 (U z1)).set 2 (U z2)).set 3 (U z3))
    replace B : Hid (Below w.heap.size w ((((U10.setCell ⟨b9, 0, none⟩ (U z0)).setCell ⟨b9, 1, none⟩ (U z1)).setCell ⟨b9, 2, none⟩ (U z2)).setCell ⟨b9, 3, none⟩ (U z3))) := ((((B.out.setCell (by first | exact Nat.le_refl _ | exact ge_d.out | (show w.heap.size ≤ b9; omega)) _).setCell (by first | exact Nat.le_refl _ | exact ge_d.out | (show w.heap.size ≤ b9; omega)) _).setCell (by first | exact Nat.le_refl _ | exact ge_d.out | (show w.heap.size ≤ b9; omega)) _).setCell (by first | exact Nat.le_refl _ | exact ge_d.out | (show w.heap.size ≤ b9; omega)) _)
    replace Jx := tJ Jx hBut ne_x_d.out
    replace Jr := tJ Jr hBut ne_r_d.out
    replace Jd := I4
    clear I4 hBut
    go_simp
    try go_wp2_with fail
    clear zd_0 zd_1 zd_2 zd_3
    clear f0
    generalize ((((U10.setCell ⟨b9, 0, none⟩ (U z0)).setCell ⟨b9, 1, none⟩ (U z1)).setCell ⟨b9, 2, none⟩ (U z2)).setCell ⟨b9, 3, none⟩ (U z3)) = U11 at *
    refine hK.out _ _ (⟨Jx.out, F.out⟩) (fun hHeld7 => ?_)
    clear hK K
    try simp only [Act.put, y1, y2, y3, y4, y5, y6, y7]
    refine tk (i := 11) (v := U b) rfl (by kernel_rfl) (fun _ _ _ h => h) rfl ?_ hHeld7 ?_
    · intro W hS; go_simp
    simp only [Act.put, y1, y2, y3, y4, y5, y6, y7]
    refine wpAnyH_done (by kernel_rfl) ?_ _
    clear hHeld7
    have Kx : Hid (IHolds U11 (w.heap.size) 73 [U x0, U x1, U x2, U x3]) := Jx.out
    have zr_0 : U11.cell? ⟨w.heap.size + 1, 0, none⟩ = some (.int .u64 0) := IHolds.cell (l := [.int .u64 0, .int .u64 0, .int .u64 0, .int .u64 0]) (t := 73) (b := w.heap.size + 1) (w := U11) (Jr.out) 0 (by simp)
    have zr_1 : U11.cell? ⟨w.heap.size + 1, 1, none⟩ = some (.int .u64 0) := IHolds.cell (l := [.int .u64 0, .int .u64 0, .int .u64 0, .int .u64 0]) (t := 73) (b := w.heap.size + 1) (w := U11) (Jr.out) 1 (by simp)
    have zr_2 : U11.cell? ⟨w.heap.size + 1, 2, none⟩ = some (.int .u64 0) := IHolds.cell (l := [.int .u64 0, .int .u64 0, .int .u64 0, .int .u64 0]) (t := 73) (b := w.heap.size + 1) (w := U11) (Jr.out) 2 (by simp)
    have zr_3 : U11.cell? ⟨w.heap.size + 1, 3, none⟩ = some (.int .u64 0) := IHolds.cell (l := [.int .u64 0, .int .u64 0, .int .u64 0, .int .u64 0]) (t := 73) (b := w.heap.size + 1) (w := U11) (Jr.out) 3 (by simp)
    have f0 := fJ Jr
    have hBut : But (w.heap.size + 1) U11 ((((U11.setCell ⟨w.heap.size + 1, 0, none⟩ (U x0)).setCell ⟨w.heap.size + 1, 1, none⟩ (U x1)).setCell ⟨w.heap.size + 1, 2, none⟩ (U x2)).setCell ⟨w.heap.size + 1, 3, none⟩ (U x3)) := (((((But.refl _ U11).setCell 0 (U x0)).setCell 1 (U x1)).setCell 2 (U x2)).setCell 3 (U x3))
    replace F := tF F hBut neF_r.out
    have I4 : Hid (IHolds _ (w.heap.size + 1) 73 [U x0, U x1, U x2, U x3]) := ((((Jr.out.set 0 (U x0)).set 1 (U x1)).set 2 (U x2)).set 3 (U x3))
    replace B : Hid (Below w.heap.size w ((((U11.setCell ⟨w.heap.size + 1, 0, none⟩ (U x0)).setCell ⟨w.heap.size + 1, 1, none⟩ (U x1)).setCell ⟨w.heap.size + 1, 2, none⟩ (U x2)).setCell ⟨w.heap.size + 1, 3, none⟩ (U x3))) := ((((B.out.setCell (by first | exact Nat.le_refl _ | exact ge_r.out | (show w.heap.size ≤ w.heap.size + 1; omega)) _).setCell (by first | exact Nat.le_refl _ | exact ge_r.out | (show w.heap.size ≤ w.heap.size + 1; omega)) _).setCell (by first | exact Nat.le_refl _ | exact ge_r.out | (show w.heap.size ≤ w.heap.size + 1; omega)) _).setCell (by first | exact Nat.le_refl _ | exact ge_r.out | (show w.heap.size ≤ w.heap.size + 1; omega)) _)
    replace Jx := tJ Jx hBut (by omega)
    replace Jd := tJ Jd hBut (fun h => ne_r_d.out h.symm)
    replace Jr := I4
    clear I4 hBut
    have zx_0 : U11.cell? ⟨w.heap.size, 0, none⟩ = some (U x0) := IHolds.cell (l := [U x0, U x1, U x2, U x3]) (t := 73) (b := w.heap.size) (w := U11) (Kx.out) 0 (by simp)
    have zx_1 : U11.cell? ⟨w.heap.size, 1, none⟩ = some (U x1) := IHolds.cell (l := [U x0, U x1, U x2, U x3]) (t := 73) (b := w.heap.size) (w := U11) (Kx.out) 1 (by simp)
    have zx_2 : U11.cell? ⟨w.heap.size, 2, none⟩ = some (U x2) := IHolds.cell (l := [U x0, U x1, U x2, U x3]) (t := 73) (b := w.heap.size) (w := U11) (Kx.out) 2 (by simp)
    have zx_3 : U11.cell? ⟨w.heap.size, 3, none⟩ = some (U x3) := IHolds.cell (l := [U x0, U x1, U x2, U x3]) (t := 73) (b := w.heap.size) (w := U11) (Kx.out) 3 (by simp)
    go_wp2_with fail
    clear zx_0 zx_1 zx_2 zx_3
    clear Kx
    clear zr_0 zr_1 zr_2 zr_3
    clear f0
    generalize ((((U11.setCell ⟨w.heap.size + 1, 0, none⟩ (U x0)).setCell ⟨w.heap.size + 1, 1, none⟩ (U x1)).setCell ⟨w.heap.size + 1, 2, none⟩ (U x2)).setCell ⟨w.heap.size + 1, 3, none⟩ (U x3)) = U12 at *
    have E0 : Hid (U12.cell? ⟨w.heap.size + 1, 0, none⟩ = some (U x0)) := IHolds.cell (l := [U x0, U x1, U x2, U x3]) (t := 73) (b := w.heap.size + 1) (w := U12) Jr.out 0 (by simp)
    have E1 : Hid (U12.cell? ⟨w.heap.size + 1, 1, none⟩ = some (U x1)) := IHolds.cell (l := [U x0, U x1, U x2, U x3]) (t := 73) (b := w.heap.size + 1) (w := U12) Jr.out 1 (by simp)
    have E2 : Hid (U12.cell? ⟨w.heap.size + 1, 2, none⟩ = some (U x2)) := IHolds.cell (l := [U x0, U x1, U x2, U x3]) (t := 73) (b := w.heap.size + 1) (w := U12) Jr.out 2 (by simp)
    have E3 : Hid (U12.cell? ⟨w.heap.size + 1, 3, none⟩ = some (U x3)) := IHolds.cell (l := [U x0, U x1, U x2, U x3]) (t := 73) (b := w.heap.size + 1) (w := U12) Jr.out 3 (by simp)
    exact bodyPost_ret (v := .agg #[U x0, U x1, U x2, U x3]) (by simp [results, Tryz.results137, go_sem, E0.out, E1.out, E2.out, E3.out]) rfl ⟨rfl, B.out⟩
set_option maxRecDepth 100000 in
set_option maxHeartbeats 2000000 in
theorem below_ge {w : World} {g o Wd M low one sq : Nat} (F : Hid (FH w g o Wd M low one sq)) (x0 x1 x2 x3 z0 z1 z2 z3 b : Nat) (C : Hid (∀ W, Calls Tryz.prog 102 #[.agg #[U x0, U x1, U x2, U x3], .agg #[U (w4 M 0), U (w4 M 1), U (w4 M 2), U (w4 M 3)]] W fun e w' => e = .returned (.tuple #[.agg #[U z0, U z1, U z2, U z3], U b]) ∧ Below W.heap.size W w')) (hb1 : ((b : Int) == 1) = false) :
    Calls Tryz.prog 137 #[.pointer (some ⟨g, o, none⟩), .agg #[U x0, U x1, U x2, U x3]] w fun e w' => e = .returned (.agg #[U z0, U z1, U z2, U z3]) ∧ Below w.heap.size w w' := by
  go_enter Tryz.func137, Tryz.ntmps137
  go_wp2_with fail
  have neF_x : Hid (g ≠ w.heap.size + 0) := by have h := F.out.lt; show _ ≠ _; omega
  have neF_r : Hid (g ≠ w.heap.size + 1) := by have h := F.out.lt; show _ ≠ _; omega
  obtain ⟨U1, hU1⟩ : ∃ X, X = ((w.alloc (.cells #[U x0, U x1, U x2, U x3] 73)).alloc (.cells #[.int .u64 0, .int .u64 0, .int .u64 0, .int .u64 0] 73)) := ⟨_, rfl⟩
  have Jx : Hid (IHolds U1 (w.heap.size) 73 [U x0, U x1, U x2, U x3]) := by
    have q := IHolds.new w 73 [U x0, U x1, U x2, U x3]
    show IHolds _ _ _ _
    rw [hU1]
    exact (q.alloc _)
  have Jr : Hid (IHolds U1 (w.heap.size + 1) 73 [.int .u64 0, .int .u64 0, .int .u64 0, .int .u64 0]) := by
    have q := IHolds.new (w.alloc (.cells #[U x0, U x1, U x2, U x3] 73)) 73 [.int .u64 0, .int .u64 0, .int .u64 0, .int .u64 0]
    simp only [World.size_alloc, Nat.add_assoc, Nat.reduceAdd] at q
    show IHolds _ _ _ _
    rw [hU1]
    exact q
  have B : Hid (Below w.heap.size w U1) := by
    show Below _ _ _
    rw [hU1]
    exact (((Below.refl _ w).alloc (Nat.le_refl _) _).alloc (by simp only [World.size_alloc]; omega) _)
  rw [← hU1]
  clear hU1
  replace F := aF F (show Below w.heap.size w U1 from B.out)
  have hb := dB U1
  replace F := aF F hb
  replace B := aB B hb
  replace Jx := aJ Jx hb
  replace Jr := aJ Jr hb
  clear hb
  refine wp_region_held_drew (S := fun W => (IHolds W (w.heap.size) 73 [U x0, U x1, U x2, U x3]) ∧ (FH W g o Wd M low one sq)) (by kernel_rfl) ⟨Jx.out, F.out⟩ (fun hHeld1 => ?_)
  generalize U1.drew = U2 at *
  refine tk (i := 0) (v := .agg #[U x0, U x1, U x2, U x3]) rfl (by kernel_rfl) (fun _ _ _ h => h) rfl ?_ hHeld1 ?_
  · intro W hS; have zx_0 : W.cell? ⟨w.heap.size, 0, none⟩ = some (U x0) := IHolds.cell (l := [U x0, U x1, U x2, U x3]) (t := 73) (b := w.heap.size) (w := W) (hS.1) 0 (by simp); have zx_1 : W.cell? ⟨w.heap.size, 1, none⟩ = some (U x1) := IHolds.cell (l := [U x0, U x1, U x2, U x3]) (t := 73) (b := w.heap.size) (w := W) (hS.1) 1 (by simp); have zx_2 : W.cell? ⟨w.heap.size, 2, none⟩ = some (U x2) := IHolds.cell (l := [U x0, U x1, U x2, U x3]) (t := 73) (b := w.heap.size) (w := W) (hS.1) 2 (by simp); have zx_3 : W.cell? ⟨w.heap.size, 3, none⟩ = some (U x3) := IHolds.cell (l := [U x0, U x1, U x2, U x3]) (t := 73) (b := w.heap.size) (w := W) (hS.1) 3 (by simp); go_simp
  simp only [Act.put, y1, y2, y3, y4, y5, y6, y7]
  refine tk (i := 1) (v := .pointer (some ⟨g, o, none⟩)) rfl (by kernel_rfl) (fun _ _ _ h => h) rfl ?_ hHeld1 ?_
  · intro W hS; go_simp
  simp only [Act.put, y1, y2, y3, y4, y5, y6, y7]
  refine tk (i := 2) (v := .pointer (some ⟨g, o, none⟩)) rfl (by kernel_rfl) (fun _ _ _ h => h) rfl ?_ hHeld1 ?_
  · intro W hS; go_simp
  simp only [Act.put, y1, y2, y3, y4, y5, y6, y7]
  refine tk (i := 3) (v := .pointer (some ⟨g, o + 1, none⟩)) rfl (by kernel_rfl) (fun _ _ _ h => h) rfl ?_ hHeld1 ?_
  · intro W hS; go_simp
  simp only [Act.put, y1, y2, y3, y4, y5, y6, y7]
  refine tk (i := 4) (v := .agg #[U (w4 M 0), U (w4 M 1), U (w4 M 2), U (w4 M 3)]) rfl (by kernel_rfl) (fun _ _ _ h => h) rfl ?_ hHeld1 ?_
  · intro W hS; have fz := hS.2; have fz0 := fz.c0; have fz1 := fz.m0; have fz2 := fz.m1; have fz3 := fz.m2; have fz4 := fz.m3; have fz5 := fz.lo; have fz6 := fz.o0; have fz7 := fz.o1; have fz8 := fz.o2; have fz9 := fz.o3; have fz10 := fz.s0; have fz11 := fz.s1; have fz12 := fz.s2; have fz13 := fz.s3; go_simp
  simp only [Act.put, y1, y2, y3, y4, y5, y6, y7]
  refine wpAnyH_ready (rs := [5, 9]) (by kernel_rfl) (by simp) ?_
  refine AllReadyH.cons rfl (fun K hK => ?_) (AllReadyH.cons rfl (fun K hK => ?_) AllReadyH.nil)
  · clear hHeld1
    go_simp
    refine (C.out U2).mono ?_
    rintro e U3 ⟨rfl, hb⟩
    replace F := aF F hb
    replace B := aB B hb
    replace Jx := aJ Jx hb
    replace Jr := aJ Jr hb
    clear hb
    go_wp2_with fail
    refine hK.out _ _ (⟨Jx.out, F.out⟩) (fun hHeld2 => ?_)
    clear hK K
    try simp only [Act.put, y1, y2, y3, y4, y5, y6, y7]
    refine tk (i := 6) (v := .tuple #[.agg #[U z0, U z1, U z2, U z3], U b]) rfl (by kernel_rfl) (fun _ _ _ h => h) rfl ?_ hHeld2 ?_
    · intro W hS; go_simp
    simp only [Act.put, y1, y2, y3, y4, y5, y6, y7]
    refine tk (i := 7) (v := .agg #[U z0, U z1, U z2, U z3]) rfl (by kernel_rfl) (fun _ _ _ h => h) rfl ?_ hHeld2 ?_
    · intro W hS; go_simp
    simp only [Act.put, y1, y2, y3, y4, y5, y6, y7]
    refine tk (i := 8) (v := U b) rfl (by kernel_rfl) (fun _ _ _ h => h) rfl ?_ hHeld2 ?_
    · intro W hS; go_simp
    simp only [Act.put, y1, y2, y3, y4, y5, y6, y7]
    refine wpAnyH_ready (rs := [9]) (by kernel_rfl) (by simp) ?_
    refine AllReadyH.cons rfl (fun K hK => ?_) AllReadyH.nil
    clear hHeld2
    have neF_d : Hid (g ≠ U3.heap.size) := F.out.ne
    go_simp
    have ne_x_d := nJ Jx
    have ne_r_d := nJ Jr
    have ge_d : Hid (w.heap.size ≤ U3.heap.size) := B.out.size
    have hb := nB U3 (.cells #[.int .u64 0, .int .u64 0, .int .u64 0, .int .u64 0] 73)
    have Jd : Hid (IHolds (U3.alloc (.cells #[.int .u64 0, .int .u64 0, .int .u64 0, .int .u64 0] 73)) U3.heap.size 73 [.int .u64 0, .int .u64 0, .int .u64 0, .int .u64 0]) := IHolds.new _ _ _
    replace F := aF F hb
    replace B := aB B hb
    replace Jx := aJ Jx hb
    replace Jr := aJ Jr hb
    clear hb
    generalize (U3.alloc (.cells #[.int .u64 0, .int .u64 0, .int .u64 0, .int .u64 0] 73)) = U4 at *
    generalize U3.heap.size = b5 at *
    refine hK.out _ _ (⟨Jx.out, F.out⟩) (fun hHeld3 => ?_)
    clear hK K
    try simp only [Act.put, y1, y2, y3, y4, y5, y6, y7]
    refine wpAnyH_ready (rs := [10]) (by kernel_rfl) (by simp) ?_
    refine AllReadyH.cons rfl (fun K hK => ?_) AllReadyH.nil
    clear hHeld3
    have zd_0 : U4.cell? ⟨b5, 0, none⟩ = some (.int .u64 0) := IHolds.cell (l := [.int .u64 0, .int .u64 0, .int .u64 0, .int .u64 0]) (t := 73) (b := b5) (w := U4) (Jd.out) 0 (by simp)
    have zd_1 : U4.cell? ⟨b5, 1, none⟩ = some (.int .u64 0) := IHolds.cell (l := [.int .u64 0, .int .u64 0, .int .u64 0, .int .u64 0]) (t := 73) (b := b5) (w := U4) (Jd.out) 1 (by simp)
    have zd_2 : U4.cell? ⟨b5, 2, none⟩ = some (.int .u64 0) := IHolds.cell (l := [.int .u64 0, .int .u64 0, .int .u64 0, .int .u64 0]) (t := 73) (b := b5) (w := U4) (Jd.out) 2 (by simp)
    have zd_3 : U4.cell? ⟨b5, 3, none⟩ = some (.int .u64 0) := IHolds.cell (l := [.int .u64 0, .int .u64 0, .int .u64 0, .int .u64 0]) (t := 73) (b := b5) (w := U4) (Jd.out) 3 (by simp)
    have f0 := fJ Jd
    have hBut : But (b5) U4 ((((U4.setCell ⟨b5, 0, none⟩ (U z0)).setCell ⟨b5, 1, none⟩ (U z1)).setCell ⟨b5, 2, none⟩ (U z2)).setCell ⟨b5, 3, none⟩ (U z3)) := (((((But.refl _ U4).setCell 0 (U z0)).setCell 1 (U z1)).setCell 2 (U z2)).setCell 3 (U z3))
    replace F := tF F hBut neF_d.out
    have I4 : Hid (IHolds _ (b5) 73 [U z0, U z1, U z2, U z3]) := ((((Jd.out.set 0 (U z0)).set 1 (U z1)).set 2 (U z2)).set 3 (U z3))
    replace B : Hid (Below w.heap.size w ((((U4.setCell ⟨b5, 0, none⟩ (U z0)).setCell ⟨b5, 1, none⟩ (U z1)).setCell ⟨b5, 2, none⟩ (U z2)).setCell ⟨b5, 3, none⟩ (U z3))) := ((((B.out.setCell (by first | exact Nat.le_refl _ | exact ge_d.out | (show w.heap.size ≤ b5; omega)) _).setCell (by first | exact Nat.le_refl _ | exact ge_d.out | (show w.heap.size ≤ b5; omega)) _).setCell (by first | exact Nat.le_refl _ | exact ge_d.out | (show w.heap.size ≤ b5; omega)) _).setCell (by first | exact Nat.le_refl _ | exact ge_d.out | (show w.heap.size ≤ b5; omega)) _)
    replace Jx := tJ Jx hBut ne_x_d.out
    replace Jr := tJ Jr hBut ne_r_d.out
    replace Jd := I4
    clear I4 hBut
    go_simp
    try go_wp2_with fail
    clear zd_0 zd_1 zd_2 zd_3
    clear f0
    generalize ((((U4.setCell ⟨b5, 0, none⟩ (U z0)).setCell ⟨b5, 1, none⟩ (U z1)).setCell ⟨b5, 2, none⟩ (U z2)).setCell ⟨b5, 3, none⟩ (U z3)) = U6 at *
    refine hK.out _ _ (⟨Jx.out, F.out⟩) (fun hHeld4 => ?_)
    clear hK K
    try simp only [Act.put, y1, y2, y3, y4, y5, y6, y7]
    refine tk (i := 11) (v := U b) rfl (by kernel_rfl) (fun _ _ _ h => h) rfl ?_ hHeld4 ?_
    · intro W hS; go_simp
    simp only [Act.put, y1, y2, y3, y4, y5, y6, y7]
    refine wpAnyH_done (by kernel_rfl) ?_ _
    clear hHeld4
    have Kd : Hid (IHolds U6 (b5) 73 [U z0, U z1, U z2, U z3]) := Jd.out
    have zr_0 : U6.cell? ⟨w.heap.size + 1, 0, none⟩ = some (.int .u64 0) := IHolds.cell (l := [.int .u64 0, .int .u64 0, .int .u64 0, .int .u64 0]) (t := 73) (b := w.heap.size + 1) (w := U6) (Jr.out) 0 (by simp)
    have zr_1 : U6.cell? ⟨w.heap.size + 1, 1, none⟩ = some (.int .u64 0) := IHolds.cell (l := [.int .u64 0, .int .u64 0, .int .u64 0, .int .u64 0]) (t := 73) (b := w.heap.size + 1) (w := U6) (Jr.out) 1 (by simp)
    have zr_2 : U6.cell? ⟨w.heap.size + 1, 2, none⟩ = some (.int .u64 0) := IHolds.cell (l := [.int .u64 0, .int .u64 0, .int .u64 0, .int .u64 0]) (t := 73) (b := w.heap.size + 1) (w := U6) (Jr.out) 2 (by simp)
    have zr_3 : U6.cell? ⟨w.heap.size + 1, 3, none⟩ = some (.int .u64 0) := IHolds.cell (l := [.int .u64 0, .int .u64 0, .int .u64 0, .int .u64 0]) (t := 73) (b := w.heap.size + 1) (w := U6) (Jr.out) 3 (by simp)
    have f0 := fJ Jr
    have hBut : But (w.heap.size + 1) U6 ((((U6.setCell ⟨w.heap.size + 1, 0, none⟩ (U z0)).setCell ⟨w.heap.size + 1, 1, none⟩ (U z1)).setCell ⟨w.heap.size + 1, 2, none⟩ (U z2)).setCell ⟨w.heap.size + 1, 3, none⟩ (U z3)) := (((((But.refl _ U6).setCell 0 (U z0)).setCell 1 (U z1)).setCell 2 (U z2)).setCell 3 (U z3))
    replace F := tF F hBut neF_r.out
    have I4 : Hid (IHolds _ (w.heap.size + 1) 73 [U z0, U z1, U z2, U z3]) := ((((Jr.out.set 0 (U z0)).set 1 (U z1)).set 2 (U z2)).set 3 (U z3))
    replace B : Hid (Below w.heap.size w ((((U6.setCell ⟨w.heap.size + 1, 0, none⟩ (U z0)).setCell ⟨w.heap.size + 1, 1, none⟩ (U z1)).setCell ⟨w.heap.size + 1, 2, none⟩ (U z2)).setCell ⟨w.heap.size + 1, 3, none⟩ (U z3))) := ((((B.out.setCell (by first | exact Nat.le_refl _ | exact ge_r.out | (show w.heap.size ≤ w.heap.size + 1; omega)) _).setCell (by first | exact Nat.le_refl _ | exact ge_r.out | (show w.heap.size ≤ w.heap.size + 1; omega)) _).setCell (by first | exact Nat.le_refl _ | exact ge_r.out | (show w.heap.size ≤ w.heap.size + 1; omega)) _).setCell (by first | exact Nat.le_refl _ | exact ge_r.out | (show w.heap.size ≤ w.heap.size + 1; omega)) _)
    replace Jx := tJ Jx hBut (by omega)
    replace Jd := tJ Jd hBut (fun h => ne_r_d.out h.symm)
    replace Jr := I4
    clear I4 hBut
    have zd_0 : U6.cell? ⟨b5, 0, none⟩ = some (U z0) := IHolds.cell (l := [U z0, U z1, U z2, U z3]) (t := 73) (b := b5) (w := U6) (Kd.out) 0 (by simp)
    have zd_1 : U6.cell? ⟨b5, 1, none⟩ = some (U z1) := IHolds.cell (l := [U z0, U z1, U z2, U z3]) (t := 73) (b := b5) (w := U6) (Kd.out) 1 (by simp)
    have zd_2 : U6.cell? ⟨b5, 2, none⟩ = some (U z2) := IHolds.cell (l := [U z0, U z1, U z2, U z3]) (t := 73) (b := b5) (w := U6) (Kd.out) 2 (by simp)
    have zd_3 : U6.cell? ⟨b5, 3, none⟩ = some (U z3) := IHolds.cell (l := [U z0, U z1, U z2, U z3]) (t := 73) (b := b5) (w := U6) (Kd.out) 3 (by simp)
    go_wp2_with fail
    clear zd_0 zd_1 zd_2 zd_3
    clear Kd
    clear zr_0 zr_1 zr_2 zr_3
    clear f0
    generalize ((((U6.setCell ⟨w.heap.size + 1, 0, none⟩ (U z0)).setCell ⟨w.heap.size + 1, 1, none⟩ (U z1)).setCell ⟨w.heap.size + 1, 2, none⟩ (U z2)).setCell ⟨w.heap.size + 1, 3, none⟩ (U z3)) = U7 at *
    have E0 : Hid (U7.cell? ⟨w.heap.size + 1, 0, none⟩ = some (U z0)) := IHolds.cell (l := [U z0, U z1, U z2, U z3]) (t := 73) (b := w.heap.size + 1) (w := U7) Jr.out 0 (by simp)
    have E1 : Hid (U7.cell? ⟨w.heap.size + 1, 1, none⟩ = some (U z1)) := IHolds.cell (l := [U z0, U z1, U z2, U z3]) (t := 73) (b := w.heap.size + 1) (w := U7) Jr.out 1 (by simp)
    have E2 : Hid (U7.cell? ⟨w.heap.size + 1, 2, none⟩ = some (U z2)) := IHolds.cell (l := [U z0, U z1, U z2, U z3]) (t := 73) (b := w.heap.size + 1) (w := U7) Jr.out 2 (by simp)
    have E3 : Hid (U7.cell? ⟨w.heap.size + 1, 3, none⟩ = some (U z3)) := IHolds.cell (l := [U z0, U z1, U z2, U z3]) (t := 73) (b := w.heap.size + 1) (w := U7) Jr.out 3 (by simp)
    exact bodyPost_ret (v := .agg #[U z0, U z1, U z2, U z3]) (by simp [results, Tryz.results137, go_sem, E0.out, E1.out, E2.out, E3.out]) rfl ⟨rfl, B.out⟩
  · clear hHeld1
    have neF_d : Hid (g ≠ U2.heap.size) := F.out.ne
    go_simp
    have ne_x_d := nJ Jx
    have ne_r_d := nJ Jr
    have ge_d : Hid (w.heap.size ≤ U2.heap.size) := B.out.size
    have hb := nB U2 (.cells #[.int .u64 0, .int .u64 0, .int .u64 0, .int .u64 0] 73)
    have Jd : Hid (IHolds (U2.alloc (.cells #[.int .u64 0, .int .u64 0, .int .u64 0, .int .u64 0] 73)) U2.heap.size 73 [.int .u64 0, .int .u64 0, .int .u64 0, .int .u64 0]) := IHolds.new _ _ _
    replace F := aF F hb
    replace B := aB B hb
    replace Jx := aJ Jx hb
    replace Jr := aJ Jr hb
    clear hb
    generalize (U2.alloc (.cells #[.int .u64 0, .int .u64 0, .int .u64 0, .int .u64 0] 73)) = U8 at *
    generalize U2.heap.size = b9 at *
    refine hK.out _ _ (⟨Jx.out, F.out⟩) (fun hHeld5 => ?_)
    clear hK K
    try simp only [Act.put, y1, y2, y3, y4, y5, y6, y7]
    refine wpAnyH_ready (rs := [5]) (by kernel_rfl) (by simp) ?_
    refine AllReadyH.cons rfl (fun K hK => ?_) AllReadyH.nil
    clear hHeld5
    go_simp
    refine (C.out U8).mono ?_
    rintro e U10 ⟨rfl, hb⟩
    replace F := aF F hb
    replace B := aB B hb
    replace Jx := aJ Jx hb
    replace Jr := aJ Jr hb
    replace Jd := aJ Jd hb
    clear hb
    go_wp2_with fail
    refine hK.out _ _ (⟨Jx.out, F.out⟩) (fun hHeld6 => ?_)
    clear hK K
    try simp only [Act.put, y1, y2, y3, y4, y5, y6, y7]
    refine tk (i := 6) (v := .tuple #[.agg #[U z0, U z1, U z2, U z3], U b]) rfl (by kernel_rfl) (fun _ _ _ h => h) rfl ?_ hHeld6 ?_
    · intro W hS; go_simp
    simp only [Act.put, y1, y2, y3, y4, y5, y6, y7]
    refine tk (i := 7) (v := .agg #[U z0, U z1, U z2, U z3]) rfl (by kernel_rfl) (fun _ _ _ h => h) rfl ?_ hHeld6 ?_
    · intro W hS; go_simp
    simp only [Act.put, y1, y2, y3, y4, y5, y6, y7]
    refine tk (i := 8) (v := U b) rfl (by kernel_rfl) (fun _ _ _ h => h) rfl ?_ hHeld6 ?_
    · intro W hS; go_simp
    simp only [Act.put, y1, y2, y3, y4, y5, y6, y7]
    refine wpAnyH_ready (rs := [10]) (by kernel_rfl) (by simp) ?_
    refine AllReadyH.cons rfl (fun K hK => ?_) AllReadyH.nil
    clear hHeld6
    have zd_0 : U10.cell? ⟨b9, 0, none⟩ = some (.int .u64 0) := IHolds.cell (l := [.int .u64 0, .int .u64 0, .int .u64 0, .int .u64 0]) (t := 73) (b := b9) (w := U10) (Jd.out) 0 (by simp)
    have zd_1 : U10.cell? ⟨b9, 1, none⟩ = some (.int .u64 0) := IHolds.cell (l := [.int .u64 0, .int .u64 0, .int .u64 0, .int .u64 0]) (t := 73) (b := b9) (w := U10) (Jd.out) 1 (by simp)
    have zd_2 : U10.cell? ⟨b9, 2, none⟩ = some (.int .u64 0) := IHolds.cell (l := [.int .u64 0, .int .u64 0, .int .u64 0, .int .u64 0]) (t := 73) (b := b9) (w := U10) (Jd.out) 2 (by simp)
    have zd_3 : U10.cell? ⟨b9, 3, none⟩ = some (.int .u64 0) := IHolds.cell (l := [.int .u64 0, .int .u64 0, .int .u64 0, .int .u64 0]) (t := 73) (b := b9) (w := U10) (Jd.out) 3 (by simp)
    have f0 := fJ Jd
    have hBut : But (b9) U10 ((((U10.setCell ⟨b9, 0, none⟩ (U z0)).setCell ⟨b9, 1, none⟩ (U z1)).setCell ⟨b9, 2, none⟩ (U z2)).setCell ⟨b9, 3, none⟩ (U z3)) := (((((But.refl _ U10).setCell 0 (U z0)).setCell 1 (U z1)).setCell 2 (U z2)).setCell 3 (U z3))
    replace F := tF F hBut neF_d.out
    have I4 : Hid (IHolds _ (b9) 73 [U z0, U z1, U z2, U z3]) := ((((Jd.out.set 0 (U z0)).set 1 (U z1)).set 2 (U z2)).set 3 (U z3))
    replace B : Hid (Below w.heap.size w ((((U10.setCell ⟨b9, 0, none⟩ (U z0)).setCell ⟨b9, 1, none⟩ (U z1)).setCell ⟨b9, 2, none⟩ (U z2)).setCell ⟨b9, 3, none⟩ (U z3))) := ((((B.out.setCell (by first | exact Nat.le_refl _ | exact ge_d.out | (show w.heap.size ≤ b9; omega)) _).setCell (by first | exact Nat.le_refl _ | exact ge_d.out | (show w.heap.size ≤ b9; omega)) _).setCell (by first | exact Nat.le_refl _ | exact ge_d.out | (show w.heap.size ≤ b9; omega)) _).setCell (by first | exact Nat.le_refl _ | exact ge_d.out | (show w.heap.size ≤ b9; omega)) _)
    replace Jx := tJ Jx hBut ne_x_d.out
    replace Jr := tJ Jr hBut ne_r_d.out
    replace Jd := I4
    clear I4 hBut
    go_simp
    try go_wp2_with fail
    clear zd_0 zd_1 zd_2 zd_3
    clear f0
    generalize ((((U10.setCell ⟨b9, 0, none⟩ (U z0)).setCell ⟨b9, 1, none⟩ (U z1)).setCell ⟨b9, 2, none⟩ (U z2)).setCell ⟨b9, 3, none⟩ (U z3)) = U11 at *
    refine hK.out _ _ (⟨Jx.out, F.out⟩) (fun hHeld7 => ?_)
    clear hK K
    try simp only [Act.put, y1, y2, y3, y4, y5, y6, y7]
    refine tk (i := 11) (v := U b) rfl (by kernel_rfl) (fun _ _ _ h => h) rfl ?_ hHeld7 ?_
    · intro W hS; go_simp
    simp only [Act.put, y1, y2, y3, y4, y5, y6, y7]
    refine wpAnyH_done (by kernel_rfl) ?_ _
    clear hHeld7
    have Kd : Hid (IHolds U11 (b9) 73 [U z0, U z1, U z2, U z3]) := Jd.out
    have zr_0 : U11.cell? ⟨w.heap.size + 1, 0, none⟩ = some (.int .u64 0) := IHolds.cell (l := [.int .u64 0, .int .u64 0, .int .u64 0, .int .u64 0]) (t := 73) (b := w.heap.size + 1) (w := U11) (Jr.out) 0 (by simp)
    have zr_1 : U11.cell? ⟨w.heap.size + 1, 1, none⟩ = some (.int .u64 0) := IHolds.cell (l := [.int .u64 0, .int .u64 0, .int .u64 0, .int .u64 0]) (t := 73) (b := w.heap.size + 1) (w := U11) (Jr.out) 1 (by simp)
    have zr_2 : U11.cell? ⟨w.heap.size + 1, 2, none⟩ = some (.int .u64 0) := IHolds.cell (l := [.int .u64 0, .int .u64 0, .int .u64 0, .int .u64 0]) (t := 73) (b := w.heap.size + 1) (w := U11) (Jr.out) 2 (by simp)
    have zr_3 : U11.cell? ⟨w.heap.size + 1, 3, none⟩ = some (.int .u64 0) := IHolds.cell (l := [.int .u64 0, .int .u64 0, .int .u64 0, .int .u64 0]) (t := 73) (b := w.heap.size + 1) (w := U11) (Jr.out) 3 (by simp)
    have f0 := fJ Jr
    have hBut : But (w.heap.size + 1) U11 ((((U11.setCell ⟨w.heap.size + 1, 0, none⟩ (U z0)).setCell ⟨w.heap.size + 1, 1, none⟩ (U z1)).setCell ⟨w.heap.size + 1, 2, none⟩ (U z2)).setCell ⟨w.heap.size + 1, 3, none⟩ (U z3)) := (((((But.refl _ U11).setCell 0 (U z0)).setCell 1 (U z1)).setCell 2 (U z2)).setCell 3 (U z3))
    replace F := tF F hBut neF_r.out
    have I4 : Hid (IHolds _ (w.heap.size + 1) 73 [U z0, U z1, U z2, U z3]) := ((((Jr.out.set 0 (U z0)).set 1 (U z1)).set 2 (U z2)).set 3 (U z3))
    replace B : Hid (Below w.heap.size w ((((U11.setCell ⟨w.heap.size + 1, 0, none⟩ (U z0)).setCell ⟨w.heap.size + 1, 1, none⟩ (U z1)).setCell ⟨w.heap.size + 1, 2, none⟩ (U z2)).setCell ⟨w.heap.size + 1, 3, none⟩ (U z3))) := ((((B.out.setCell (by first | exact Nat.le_refl _ | exact ge_r.out | (show w.heap.size ≤ w.heap.size + 1; omega)) _).setCell (by first | exact Nat.le_refl _ | exact ge_r.out | (show w.heap.size ≤ w.heap.size + 1; omega)) _).setCell (by first | exact Nat.le_refl _ | exact ge_r.out | (show w.heap.size ≤ w.heap.size + 1; omega)) _).setCell (by first | exact Nat.le_refl _ | exact ge_r.out | (show w.heap.size ≤ w.heap.size + 1; omega)) _)
    replace Jx := tJ Jx hBut (by omega)
    replace Jd := tJ Jd hBut (fun h => ne_r_d.out h.symm)
    replace Jr := I4
    clear I4 hBut
    have zd_0 : U11.cell? ⟨b9, 0, none⟩ = some (U z0) := IHolds.cell (l := [U z0, U z1, U z2, U z3]) (t := 73) (b := b9) (w := U11) (Kd.out) 0 (by simp)
    have zd_1 : U11.cell? ⟨b9, 1, none⟩ = some (U z1) := IHolds.cell (l := [U z0, U z1, U z2, U z3]) (t := 73) (b := b9) (w := U11) (Kd.out) 1 (by simp)
    have zd_2 : U11.cell? ⟨b9, 2, none⟩ = some (U z2) := IHolds.cell (l := [U z0, U z1, U z2, U z3]) (t := 73) (b := b9) (w := U11) (Kd.out) 2 (by simp)
    have zd_3 : U11.cell? ⟨b9, 3, none⟩ = some (U z3) := IHolds.cell (l := [U z0, U z1, U z2, U z3]) (t := 73) (b := b9) (w := U11) (Kd.out) 3 (by simp)
    go_wp2_with fail
    clear zd_0 zd_1 zd_2 zd_3
    clear Kd
    clear zr_0 zr_1 zr_2 zr_3
    clear f0
    generalize ((((U11.setCell ⟨w.heap.size + 1, 0, none⟩ (U z0)).setCell ⟨w.heap.size + 1, 1, none⟩ (U z1)).setCell ⟨w.heap.size + 1, 2, none⟩ (U z2)).setCell ⟨w.heap.size + 1, 3, none⟩ (U z3)) = U12 at *
    have E0 : Hid (U12.cell? ⟨w.heap.size + 1, 0, none⟩ = some (U z0)) := IHolds.cell (l := [U z0, U z1, U z2, U z3]) (t := 73) (b := w.heap.size + 1) (w := U12) Jr.out 0 (by simp)
    have E1 : Hid (U12.cell? ⟨w.heap.size + 1, 1, none⟩ = some (U z1)) := IHolds.cell (l := [U z0, U z1, U z2, U z3]) (t := 73) (b := w.heap.size + 1) (w := U12) Jr.out 1 (by simp)
    have E2 : Hid (U12.cell? ⟨w.heap.size + 1, 2, none⟩ = some (U z2)) := IHolds.cell (l := [U z0, U z1, U z2, U z3]) (t := 73) (b := w.heap.size + 1) (w := U12) Jr.out 2 (by simp)
    have E3 : Hid (U12.cell? ⟨w.heap.size + 1, 3, none⟩ = some (U z3)) := IHolds.cell (l := [U z0, U z1, U z2, U z3]) (t := 73) (b := w.heap.size + 1) (w := U12) Jr.out 3 (by simp)
    exact bodyPost_ret (v := .agg #[U z0, U z1, U z2, U z3]) (by simp [results, Tryz.results137, go_sem, E0.out, E1.out, E2.out, E3.out]) rfl ⟨rfl, B.out⟩
theorem belowA {w : World} {g o Wd M low one sq n : Nat} (F : Hid (FH w g o Wd M low one sq)) (hn : n < BB ^ 4) (hm : M < BB ^ 4) :
    Calls Tryz.prog 137 #[.pointer (some ⟨g, o, none⟩), A4 n] w fun e w' => e = .returned (A4 (belowN M n)) ∧ Below w.heap.size w w' := by
  unfold belowN
  by_cases h : n < M
  · rw [if_pos h]
    have e : borN n M = 1 := by unfold borN; rw [if_pos h]
    exact below_lt F _ _ _ _ _ _ _ _ _ (fun W => minusA W hn hm) (by rw [e]; rfl)
  · rw [if_neg h]
    have e : borN n M = 0 := by unfold borN; rw [if_neg h]
    have e2 : subN n M = n - M := by unfold subN; rw [if_neg h]
    rw [← e2]
    exact below_ge F _ _ _ _ _ _ _ _ _ (fun W => minusA W hn hm) (by rw [e]; rfl)
theorem plusM (w : World) {n m : Nat} (hn : n < BB ^ 4) (hm : m < BB ^ 4) : Calls Tryz.prog 149 #[A4 n, A4 m] w fun e w' => e = .returned (A4 ((n + m) % BB ^ 4)) ∧ Below w.heap.size w w' := by
  refine (plus_words w _ _ _ _ _ _ _ _ (w4_mem n) (w4_mem m)).mono ?_
  rintro e w' ⟨⟨z0, z1, z2, z3, b, rfl, hz, hb, eq⟩, hB⟩
  refine ⟨?_, hB⟩
  rw [vl_w4 hn, vl_w4 hm] at eq
  have hl4 : vl BB [z0, z1, z2, z3] < BB ^ 4 := vl_lt BB _ hz
  have e1 : vl BB [z0, z1, z2, z3] = (n + m) % BB ^ 4 := by
    rw [← eq, Nat.add_mul_mod_self_left, Nat.mod_eq_of_lt hl4]
  rw [A4_of hz e1]
set_option maxRecDepth 100000 in
set_option maxHeartbeats 2000000 in
theorem fminus_lt {w : World} {g o Wd M low one sq : Nat} (F : Hid (FH w g o Wd M low one sq)) (x0 x1 x2 x3 m0 m1 m2 m3 z0 z1 z2 z3 v0 v1 v2 v3 b : Nat) (C1 : Hid (∀ W, Calls Tryz.prog 102 #[.agg #[U x0, U x1, U x2, U x3], .agg #[U m0, U m1, U m2, U m3]] W fun e w' => e = .returned (.tuple #[.agg #[U z0, U z1, U z2, U z3], U b]) ∧ Below W.heap.size W w')) (hb1 : ((b : Int) == 1) = true) (C2 : Hid (∀ W, Calls Tryz.prog 149 #[.agg #[U z0, U z1, U z2, U z3], .agg #[U (w4 M 0), U (w4 M 1), U (w4 M 2), U (w4 M 3)]] W fun e w' => e = .returned (.agg #[U v0, U v1, U v2, U v3]) ∧ Below W.heap.size W w')) :
    Calls Tryz.prog 132 #[.pointer (some ⟨g, o, none⟩), .agg #[U x0, U x1, U x2, U x3], .agg #[U m0, U m1, U m2, U m3]] w fun e w' => e = .returned (.agg #[U v0, U v1, U v2, U v3]) ∧ Below w.heap.size w w' := by
  go_enter Tryz.func132, Tryz.ntmps132
  go_wp2_with fail
  have neF_x : Hid (g ≠ w.heap.size + 0) := by have h := F.out.lt; show _ ≠ _; omega
  have neF_m : Hid (g ≠ w.heap.size + 1) := by have h := F.out.lt; show _ ≠ _; omega
  have neF_r : Hid (g ≠ w.heap.size + 2) := by have h := F.out.lt; show _ ≠ _; omega
  obtain ⟨U1, hU1⟩ : ∃ X, X = (((w.alloc (.cells #[U x0, U x1, U x2, U x3] 73)).alloc (.cells #[U m0, U m1, U m2, U m3] 73)).alloc (.cells #[.int .u64 0, .int .u64 0, .int .u64 0, .int .u64 0] 73)) := ⟨_, rfl⟩
  have Jx : Hid (IHolds U1 (w.heap.size) 73 [U x0, U x1, U x2, U x3]) := by
    have q := IHolds.new w 73 [U x0, U x1, U x2, U x3]
    show IHolds _ _ _ _
    rw [hU1]
    exact ((q.alloc _).alloc _)
  have Jm : Hid (IHolds U1 (w.heap.size + 1) 73 [U m0, U m1, U m2, U m3]) := by
    have q := IHolds.new (w.alloc (.cells #[U x0, U x1, U x2, U x3] 73)) 73 [U m0, U m1, U m2, U m3]
    simp only [World.size_alloc, Nat.add_assoc, Nat.reduceAdd] at q
    show IHolds _ _ _ _
    rw [hU1]
    exact (q.alloc _)
  have Jr : Hid (IHolds U1 (w.heap.size + 2) 73 [.int .u64 0, .int .u64 0, .int .u64 0, .int .u64 0]) := by
    have q := IHolds.new ((w.alloc (.cells #[U x0, U x1, U x2, U x3] 73)).alloc (.cells #[U m0, U m1, U m2, U m3] 73)) 73 [.int .u64 0, .int .u64 0, .int .u64 0, .int .u64 0]
    simp only [World.size_alloc, Nat.add_assoc, Nat.reduceAdd] at q
    show IHolds _ _ _ _
    rw [hU1]
    exact q
  have B : Hid (Below w.heap.size w U1) := by
    show Below _ _ _
    rw [hU1]
    exact ((((Below.refl _ w).alloc (Nat.le_refl _) _).alloc (by simp only [World.size_alloc]; omega) _).alloc (by simp only [World.size_alloc]; omega) _)
  rw [← hU1]
  clear hU1
  replace F := aF F (show Below w.heap.size w U1 from B.out)
  have zx_0 : U1.cell? ⟨w.heap.size, 0, none⟩ = some (U x0) := IHolds.cell (l := [U x0, U x1, U x2, U x3]) (t := 73) (b := w.heap.size) (w := U1) (Jx.out) 0 (by simp)
  have zx_1 : U1.cell? ⟨w.heap.size, 1, none⟩ = some (U x1) := IHolds.cell (l := [U x0, U x1, U x2, U x3]) (t := 73) (b := w.heap.size) (w := U1) (Jx.out) 1 (by simp)
  have zx_2 : U1.cell? ⟨w.heap.size, 2, none⟩ = some (U x2) := IHolds.cell (l := [U x0, U x1, U x2, U x3]) (t := 73) (b := w.heap.size) (w := U1) (Jx.out) 2 (by simp)
  have zx_3 : U1.cell? ⟨w.heap.size, 3, none⟩ = some (U x3) := IHolds.cell (l := [U x0, U x1, U x2, U x3]) (t := 73) (b := w.heap.size) (w := U1) (Jx.out) 3 (by simp)
  have zm_0 : U1.cell? ⟨w.heap.size + 1, 0, none⟩ = some (U m0) := IHolds.cell (l := [U m0, U m1, U m2, U m3]) (t := 73) (b := w.heap.size + 1) (w := U1) (Jm.out) 0 (by simp)
  have zm_1 : U1.cell? ⟨w.heap.size + 1, 1, none⟩ = some (U m1) := IHolds.cell (l := [U m0, U m1, U m2, U m3]) (t := 73) (b := w.heap.size + 1) (w := U1) (Jm.out) 1 (by simp)
  have zm_2 : U1.cell? ⟨w.heap.size + 1, 2, none⟩ = some (U m2) := IHolds.cell (l := [U m0, U m1, U m2, U m3]) (t := 73) (b := w.heap.size + 1) (w := U1) (Jm.out) 2 (by simp)
  have zm_3 : U1.cell? ⟨w.heap.size + 1, 3, none⟩ = some (U m3) := IHolds.cell (l := [U m0, U m1, U m2, U m3]) (t := 73) (b := w.heap.size + 1) (w := U1) (Jm.out) 3 (by simp)
  go_wp2_with fail
  clear zx_0 zx_1 zx_2 zx_3 zm_0 zm_1 zm_2 zm_3
  refine (C1.out U1).mono ?_
  rintro e U2 ⟨rfl, hb⟩
  replace F := aF F hb
  replace B := aB B hb
  replace Jx := aJ Jx hb
  replace Jm := aJ Jm hb
  replace Jr := aJ Jr hb
  clear hb
  have neF_d : Hid (g ≠ U2.heap.size) := F.out.ne
  have hb := nB U2 (.cells #[U z0, U z1, U z2, U z3] 73)
  have Jd : Hid (IHolds (U2.alloc (.cells #[U z0, U z1, U z2, U z3] 73)) U2.heap.size 73 [U z0, U z1, U z2, U z3]) := IHolds.new _ _ _
  have ne_x_d := nJ Jx
  have ne_m_d := nJ Jm
  have ne_r_d := nJ Jr
  have ge_d : Hid (w.heap.size ≤ U2.heap.size) := B.out.size
  replace F := aF F hb
  replace B := aB B hb
  replace Jx := aJ Jx hb
  replace Jm := aJ Jm hb
  replace Jr := aJ Jr hb
  clear hb
  go_wp2_with fail
  generalize (U2.alloc (.cells #[U z0, U z1, U z2, U z3] 73)) = U3 at *
  generalize U2.heap.size = b4 at *
  have hb := dB U3
  replace F := aF F hb
  replace B := aB B hb
  replace Jx := aJ Jx hb
  replace Jm := aJ Jm hb
  replace Jr := aJ Jr hb
  replace Jd := aJ Jd hb
  clear hb
  refine wp_region_held_drew (S := fun W => (FH W g o Wd M low one sq)) (by kernel_rfl) F.out (fun hHeld1 => ?_)
  generalize U3.drew = U5 at *
  refine tk (i := 1) (v := .pointer (some ⟨g, o, none⟩)) rfl (by kernel_rfl) (fun _ _ _ h => h) rfl ?_ hHeld1 ?_
  · intro W hS; go_simp
  simp only [Act.put, y1, y2, y3, y4, y5, y6, y7]
  refine tk (i := 2) (v := .pointer (some ⟨g, o, none⟩)) rfl (by kernel_rfl) (fun _ _ _ h => h) rfl ?_ hHeld1 ?_
  · intro W hS; go_simp
  simp only [Act.put, y1, y2, y3, y4, y5, y6, y7]
  refine tk (i := 3) (v := .pointer (some ⟨g, o + 1, none⟩)) rfl (by kernel_rfl) (fun _ _ _ h => h) rfl ?_ hHeld1 ?_
  · intro W hS; go_simp
  simp only [Act.put, y1, y2, y3, y4, y5, y6, y7]
  refine tk (i := 4) (v := .agg #[U (w4 M 0), U (w4 M 1), U (w4 M 2), U (w4 M 3)]) rfl (by kernel_rfl) (fun _ _ _ h => h) rfl ?_ hHeld1 ?_
  · intro W hS; have fz := hS; have fz0 := fz.c0; have fz1 := fz.m0; have fz2 := fz.m1; have fz3 := fz.m2; have fz4 := fz.m3; have fz5 := fz.lo; have fz6 := fz.o0; have fz7 := fz.o1; have fz8 := fz.o2; have fz9 := fz.o3; have fz10 := fz.s0; have fz11 := fz.s1; have fz12 := fz.s2; have fz13 := fz.s3; go_simp
  simp only [Act.put, y1, y2, y3, y4, y5, y6, y7]
  refine wpAnyH_ready (rs := [0]) (by kernel_rfl) (by simp) ?_
  refine AllReadyH.cons rfl (fun K hK => ?_) AllReadyH.nil
  clear hHeld1
  have zd_0 : U5.cell? ⟨b4, 0, none⟩ = some (U z0) := IHolds.cell (l := [U z0, U z1, U z2, U z3]) (t := 73) (b := b4) (w := U5) (Jd.out) 0 (by simp)
  have zd_1 : U5.cell? ⟨b4, 1, none⟩ = some (U z1) := IHolds.cell (l := [U z0, U z1, U z2, U z3]) (t := 73) (b := b4) (w := U5) (Jd.out) 1 (by simp)
  have zd_2 : U5.cell? ⟨b4, 2, none⟩ = some (U z2) := IHolds.cell (l := [U z0, U z1, U z2, U z3]) (t := 73) (b := b4) (w := U5) (Jd.out) 2 (by simp)
  have zd_3 : U5.cell? ⟨b4, 3, none⟩ = some (U z3) := IHolds.cell (l := [U z0, U z1, U z2, U z3]) (t := 73) (b := b4) (w := U5) (Jd.out) 3 (by simp)
  go_simp
  clear zd_0 zd_1 zd_2 zd_3
  refine hK.out _ _ (F.out) (fun hHeld2 => ?_)
  clear hK K
  try simp only [Act.put, y1, y2, y3, y4, y5, y6, y7]
  refine wpAnyH_ready (rs := [5]) (by kernel_rfl) (by simp) ?_
  refine AllReadyH.cons rfl (fun K hK => ?_) AllReadyH.nil
  clear hHeld2
  go_simp
  refine (C2.out U5).mono ?_
  rintro e U6 ⟨rfl, hb⟩
  replace F := aF F hb
  replace B := aB B hb
  replace Jx := aJ Jx hb
  replace Jm := aJ Jm hb
  replace Jr := aJ Jr hb
  replace Jd := aJ Jd hb
  clear hb
  go_wp2_with fail
  refine hK.out _ _ (F.out) (fun hHeld3 => ?_)
  clear hK K
  try simp only [Act.put, y1, y2, y3, y4, y5, y6, y7]
  refine wpAnyH_ready (rs := [6]) (by kernel_rfl) (by simp) ?_
  refine AllReadyH.cons rfl (fun K hK => ?_) AllReadyH.nil
  clear hHeld3
  have zd_0 : U6.cell? ⟨b4, 0, none⟩ = some (U z0) := IHolds.cell (l := [U z0, U z1, U z2, U z3]) (t := 73) (b := b4) (w := U6) (Jd.out) 0 (by simp)
  have zd_1 : U6.cell? ⟨b4, 1, none⟩ = some (U z1) := IHolds.cell (l := [U z0, U z1, U z2, U z3]) (t := 73) (b := b4) (w := U6) (Jd.out) 1 (by simp)
  have zd_2 : U6.cell? ⟨b4, 2, none⟩ = some (U z2) := IHolds.cell (l := [U z0, U z1, U z2, U z3]) (t := 73) (b := b4) (w := U6) (Jd.out) 2 (by simp)
  have zd_3 : U6.cell? ⟨b4, 3, none⟩ = some (U z3) := IHolds.cell (l := [U z0, U z1, U z2, U z3]) (t := 73) (b := b4) (w := U6) (Jd.out) 3 (by simp)
  have f0 := fJ Jd
  have hBut : But (b4) U6 ((((U6.setCell ⟨b4, 0, none⟩ (U v0)).setCell ⟨b4, 1, none⟩ (U v1)).setCell ⟨b4, 2, none⟩ (U v2)).setCell ⟨b4, 3, none⟩ (U v3)) := (((((But.refl _ U6).setCell 0 (U v0)).setCell 1 (U v1)).setCell 2 (U v2)).setCell 3 (U v3))
  replace F := tF F hBut neF_d.out
  have I4 : Hid (IHolds _ (b4) 73 [U v0, U v1, U v2, U v3]) := ((((Jd.out.set 0 (U v0)).set 1 (U v1)).set 2 (U v2)).set 3 (U v3))
  replace B : Hid (Below w.heap.size w ((((U6.setCell ⟨b4, 0, none⟩ (U v0)).setCell ⟨b4, 1, none⟩ (U v1)).setCell ⟨b4, 2, none⟩ (U v2)).setCell ⟨b4, 3, none⟩ (U v3))) := ((((B.out.setCell (by first | exact Nat.le_refl _ | exact ge_d.out | (show w.heap.size ≤ b4; omega)) _).setCell (by first | exact Nat.le_refl _ | exact ge_d.out | (show w.heap.size ≤ b4; omega)) _).setCell (by first | exact Nat.le_refl _ | exact ge_d.out | (show w.heap.size ≤ b4; omega)) _).setCell (by first | exact Nat.le_refl _ | exact ge_d.out | (show w.heap.size ≤ b4; omega)) _)
  replace Jx := tJ Jx hBut ne_x_d.out
  replace Jm := tJ Jm hBut ne_m_d.out
  replace Jr := tJ Jr hBut ne_r_d.out
  replace Jd := I4
  clear I4 hBut
  go_simp
  try go_wp2_with fail
  clear zd_0 zd_1 zd_2 zd_3
  clear f0
  generalize ((((U6.setCell ⟨b4, 0, none⟩ (U v0)).setCell ⟨b4, 1, none⟩ (U v1)).setCell ⟨b4, 2, none⟩ (U v2)).setCell ⟨b4, 3, none⟩ (U v3)) = U7 at *
  refine hK.out _ _ (F.out) (fun hHeld4 => ?_)
  clear hK K
  try simp only [Act.put, y1, y2, y3, y4, y5, y6, y7]
  refine wpAnyH_done (by kernel_rfl) ?_ _
  clear hHeld4
  have Kd : Hid (IHolds U7 (b4) 73 [U v0, U v1, U v2, U v3]) := Jd.out
  have zr_0 : U7.cell? ⟨w.heap.size + 2, 0, none⟩ = some (.int .u64 0) := IHolds.cell (l := [.int .u64 0, .int .u64 0, .int .u64 0, .int .u64 0]) (t := 73) (b := w.heap.size + 2) (w := U7) (Jr.out) 0 (by simp)
  have zr_1 : U7.cell? ⟨w.heap.size + 2, 1, none⟩ = some (.int .u64 0) := IHolds.cell (l := [.int .u64 0, .int .u64 0, .int .u64 0, .int .u64 0]) (t := 73) (b := w.heap.size + 2) (w := U7) (Jr.out) 1 (by simp)
  have zr_2 : U7.cell? ⟨w.heap.size + 2, 2, none⟩ = some (.int .u64 0) := IHolds.cell (l := [.int .u64 0, .int .u64 0, .int .u64 0, .int .u64 0]) (t := 73) (b := w.heap.size + 2) (w := U7) (Jr.out) 2 (by simp)
  have zr_3 : U7.cell? ⟨w.heap.size + 2, 3, none⟩ = some (.int .u64 0) := IHolds.cell (l := [.int .u64 0, .int .u64 0, .int .u64 0, .int .u64 0]) (t := 73) (b := w.heap.size + 2) (w := U7) (Jr.out) 3 (by simp)
  have f0 := fJ Jr
  have hBut : But (w.heap.size + 2) U7 ((((U7.setCell ⟨w.heap.size + 2, 0, none⟩ (U v0)).setCell ⟨w.heap.size + 2, 1, none⟩ (U v1)).setCell ⟨w.heap.size + 2, 2, none⟩ (U v2)).setCell ⟨w.heap.size + 2, 3, none⟩ (U v3)) := (((((But.refl _ U7).setCell 0 (U v0)).setCell 1 (U v1)).setCell 2 (U v2)).setCell 3 (U v3))
  replace F := tF F hBut neF_r.out
  have I4 : Hid (IHolds _ (w.heap.size + 2) 73 [U v0, U v1, U v2, U v3]) := ((((Jr.out.set 0 (U v0)).set 1 (U v1)).set 2 (U v2)).set 3 (U v3))
  replace B : Hid (Below w.heap.size w ((((U7.setCell ⟨w.heap.size + 2, 0, none⟩ (U v0)).setCell ⟨w.heap.size + 2, 1, none⟩ (U v1)).setCell ⟨w.heap.size + 2, 2, none⟩ (U v2)).setCell ⟨w.heap.size + 2, 3, none⟩ (U v3))) := ((((B.out.setCell (by first | exact Nat.le_refl _ | exact ge_r.out | (show w.heap.size ≤ w.heap.size + 2; omega)) _).setCell (by first | exact Nat.le_refl _ | exact ge_r.out | (show w.heap.size ≤ w.heap.size + 2; omega)) _).setCell (by first | exact Nat.le_refl _ | exact ge_r.out | (show w.heap.size ≤ w.heap.size + 2; omega)) _).setCell (by first | exact Nat.le_refl _ | exact ge_r.out | (show w.heap.size ≤ w.heap.size + 2; omega)) _)
  replace Jx := tJ Jx hBut (by omega)
  replace Jm := tJ Jm hBut (by omega)
  replace Jd := tJ Jd hBut (fun h => ne_r_d.out h.symm)
  replace Jr := I4
  clear I4 hBut
  have zd_0 : U7.cell? ⟨b4, 0, none⟩ = some (U v0) := IHolds.cell (l := [U v0, U v1, U v2, U v3]) (t := 73) (b := b4) (w := U7) (Kd.out) 0 (by simp)
  have zd_1 : U7.cell? ⟨b4, 1, none⟩ = some (U v1) := IHolds.cell (l := [U v0, U v1, U v2, U v3]) (t := 73) (b := b4) (w := U7) (Kd.out) 1 (by simp)
  have zd_2 : U7.cell? ⟨b4, 2, none⟩ = some (U v2) := IHolds.cell (l := [U v0, U v1, U v2, U v3]) (t := 73) (b := b4) (w := U7) (Kd.out) 2 (by simp)
  have zd_3 : U7.cell? ⟨b4, 3, none⟩ = some (U v3) := IHolds.cell (l := [U v0, U v1, U v2, U v3]) (t := 73) (b := b4) (w := U7) (Kd.out) 3 (by simp)
  go_wp2_with fail
  clear zd_0 zd_1 zd_2 zd_3
  clear Kd
  clear zr_0 zr_1 zr_2 zr_3
  clear f0
  generalize ((((U7.setCell ⟨w.heap.size + 2, 0, none⟩ (U v0)).setCell ⟨w.heap.size + 2, 1, none⟩ (U v1)).setCell ⟨w.heap.size + 2, 2, none⟩ (U v2)).setCell ⟨w.heap.size + 2, 3, none⟩ (U v3)) = U8 at *
  have E0 : Hid (U8.cell? ⟨w.heap.size + 2, 0, none⟩ = some (U v0)) := IHolds.cell (l := [U v0, U v1, U v2, U v3]) (t := 73) (b := w.heap.size + 2) (w := U8) Jr.out 0 (by simp)
  have E1 : Hid (U8.cell? ⟨w.heap.size + 2, 1, none⟩ = some (U v1)) := IHolds.cell (l := [U v0, U v1, U v2, U v3]) (t := 73) (b := w.heap.size + 2) (w := U8) Jr.out 1 (by simp)
  have E2 : Hid (U8.cell? ⟨w.heap.size + 2, 2, none⟩ = some (U v2)) := IHolds.cell (l := [U v0, U v1, U v2, U v3]) (t := 73) (b := w.heap.size + 2) (w := U8) Jr.out 2 (by simp)
  have E3 : Hid (U8.cell? ⟨w.heap.size + 2, 3, none⟩ = some (U v3)) := IHolds.cell (l := [U v0, U v1, U v2, U v3]) (t := 73) (b := w.heap.size + 2) (w := U8) Jr.out 3 (by simp)
  exact bodyPost_ret (v := .agg #[U v0, U v1, U v2, U v3]) (by simp [results, Tryz.results132, go_sem, E0.out, E1.out, E2.out, E3.out]) rfl ⟨rfl, B.out⟩
set_option maxRecDepth 100000 in
set_option maxHeartbeats 2000000 in
theorem fminus_ge {w : World} {g o Wd M low one sq : Nat} (F : Hid (FH w g o Wd M low one sq)) (x0 x1 x2 x3 m0 m1 m2 m3 z0 z1 z2 z3 b : Nat) (C1 : Hid (∀ W, Calls Tryz.prog 102 #[.agg #[U x0, U x1, U x2, U x3], .agg #[U m0, U m1, U m2, U m3]] W fun e w' => e = .returned (.tuple #[.agg #[U z0, U z1, U z2, U z3], U b]) ∧ Below W.heap.size W w')) (hb1 : ((b : Int) == 1) = false)  :
    Calls Tryz.prog 132 #[.pointer (some ⟨g, o, none⟩), .agg #[U x0, U x1, U x2, U x3], .agg #[U m0, U m1, U m2, U m3]] w fun e w' => e = .returned (.agg #[U z0, U z1, U z2, U z3]) ∧ Below w.heap.size w w' := by
  go_enter Tryz.func132, Tryz.ntmps132
  go_wp2_with fail
  have neF_x : Hid (g ≠ w.heap.size + 0) := by have h := F.out.lt; show _ ≠ _; omega
  have neF_m : Hid (g ≠ w.heap.size + 1) := by have h := F.out.lt; show _ ≠ _; omega
  have neF_r : Hid (g ≠ w.heap.size + 2) := by have h := F.out.lt; show _ ≠ _; omega
  obtain ⟨U1, hU1⟩ : ∃ X, X = (((w.alloc (.cells #[U x0, U x1, U x2, U x3] 73)).alloc (.cells #[U m0, U m1, U m2, U m3] 73)).alloc (.cells #[.int .u64 0, .int .u64 0, .int .u64 0, .int .u64 0] 73)) := ⟨_, rfl⟩
  have Jx : Hid (IHolds U1 (w.heap.size) 73 [U x0, U x1, U x2, U x3]) := by
    have q := IHolds.new w 73 [U x0, U x1, U x2, U x3]
    show IHolds _ _ _ _
    rw [hU1]
    exact ((q.alloc _).alloc _)
  have Jm : Hid (IHolds U1 (w.heap.size + 1) 73 [U m0, U m1, U m2, U m3]) := by
    have q := IHolds.new (w.alloc (.cells #[U x0, U x1, U x2, U x3] 73)) 73 [U m0, U m1, U m2, U m3]
    simp only [World.size_alloc, Nat.add_assoc, Nat.reduceAdd] at q
    show IHolds _ _ _ _
    rw [hU1]
    exact (q.alloc _)
  have Jr : Hid (IHolds U1 (w.heap.size + 2) 73 [.int .u64 0, .int .u64 0, .int .u64 0, .int .u64 0]) := by
    have q := IHolds.new ((w.alloc (.cells #[U x0, U x1, U x2, U x3] 73)).alloc (.cells #[U m0, U m1, U m2, U m3] 73)) 73 [.int .u64 0, .int .u64 0, .int .u64 0, .int .u64 0]
    simp only [World.size_alloc, Nat.add_assoc, Nat.reduceAdd] at q
    show IHolds _ _ _ _
    rw [hU1]
    exact q
  have B : Hid (Below w.heap.size w U1) := by
    show Below _ _ _
    rw [hU1]
    exact ((((Below.refl _ w).alloc (Nat.le_refl _) _).alloc (by simp only [World.size_alloc]; omega) _).alloc (by simp only [World.size_alloc]; omega) _)
  rw [← hU1]
  clear hU1
  replace F := aF F (show Below w.heap.size w U1 from B.out)
  have zx_0 : U1.cell? ⟨w.heap.size, 0, none⟩ = some (U x0) := IHolds.cell (l := [U x0, U x1, U x2, U x3]) (t := 73) (b := w.heap.size) (w := U1) (Jx.out) 0 (by simp)
  have zx_1 : U1.cell? ⟨w.heap.size, 1, none⟩ = some (U x1) := IHolds.cell (l := [U x0, U x1, U x2, U x3]) (t := 73) (b := w.heap.size) (w := U1) (Jx.out) 1 (by simp)
  have zx_2 : U1.cell? ⟨w.heap.size, 2, none⟩ = some (U x2) := IHolds.cell (l := [U x0, U x1, U x2, U x3]) (t := 73) (b := w.heap.size) (w := U1) (Jx.out) 2 (by simp)
  have zx_3 : U1.cell? ⟨w.heap.size, 3, none⟩ = some (U x3) := IHolds.cell (l := [U x0, U x1, U x2, U x3]) (t := 73) (b := w.heap.size) (w := U1) (Jx.out) 3 (by simp)
  have zm_0 : U1.cell? ⟨w.heap.size + 1, 0, none⟩ = some (U m0) := IHolds.cell (l := [U m0, U m1, U m2, U m3]) (t := 73) (b := w.heap.size + 1) (w := U1) (Jm.out) 0 (by simp)
  have zm_1 : U1.cell? ⟨w.heap.size + 1, 1, none⟩ = some (U m1) := IHolds.cell (l := [U m0, U m1, U m2, U m3]) (t := 73) (b := w.heap.size + 1) (w := U1) (Jm.out) 1 (by simp)
  have zm_2 : U1.cell? ⟨w.heap.size + 1, 2, none⟩ = some (U m2) := IHolds.cell (l := [U m0, U m1, U m2, U m3]) (t := 73) (b := w.heap.size + 1) (w := U1) (Jm.out) 2 (by simp)
  have zm_3 : U1.cell? ⟨w.heap.size + 1, 3, none⟩ = some (U m3) := IHolds.cell (l := [U m0, U m1, U m2, U m3]) (t := 73) (b := w.heap.size + 1) (w := U1) (Jm.out) 3 (by simp)
  go_wp2_with fail
  clear zx_0 zx_1 zx_2 zx_3 zm_0 zm_1 zm_2 zm_3
  refine (C1.out U1).mono ?_
  rintro e U2 ⟨rfl, hb⟩
  replace F := aF F hb
  replace B := aB B hb
  replace Jx := aJ Jx hb
  replace Jm := aJ Jm hb
  replace Jr := aJ Jr hb
  clear hb
  have hb := nB U2 (.cells #[U z0, U z1, U z2, U z3] 73)
  have Jd : Hid (IHolds (U2.alloc (.cells #[U z0, U z1, U z2, U z3] 73)) U2.heap.size 73 [U z0, U z1, U z2, U z3]) := IHolds.new _ _ _
  have ne_x_d := nJ Jx
  have ne_m_d := nJ Jm
  have ne_r_d := nJ Jr
  have ge_d : Hid (w.heap.size ≤ U2.heap.size) := B.out.size
  replace F := aF F hb
  replace B := aB B hb
  replace Jx := aJ Jx hb
  replace Jm := aJ Jm hb
  replace Jr := aJ Jr hb
  clear hb
  have Kd : Hid (IHolds (U2.alloc (.cells #[U z0, U z1, U z2, U z3] 73)) (U2.heap.size) 73 [U z0, U z1, U z2, U z3]) := Jd.out
  have zr_0 : (U2.alloc (.cells #[U z0, U z1, U z2, U z3] 73)).cell? ⟨w.heap.size + 2, 0, none⟩ = some (.int .u64 0) := IHolds.cell (l := [.int .u64 0, .int .u64 0, .int .u64 0, .int .u64 0]) (t := 73) (b := w.heap.size + 2) (w := (U2.alloc (.cells #[U z0, U z1, U z2, U z3] 73))) (Jr.out) 0 (by simp)
  have zr_1 : (U2.alloc (.cells #[U z0, U z1, U z2, U z3] 73)).cell? ⟨w.heap.size + 2, 1, none⟩ = some (.int .u64 0) := IHolds.cell (l := [.int .u64 0, .int .u64 0, .int .u64 0, .int .u64 0]) (t := 73) (b := w.heap.size + 2) (w := (U2.alloc (.cells #[U z0, U z1, U z2, U z3] 73))) (Jr.out) 1 (by simp)
  have zr_2 : (U2.alloc (.cells #[U z0, U z1, U z2, U z3] 73)).cell? ⟨w.heap.size + 2, 2, none⟩ = some (.int .u64 0) := IHolds.cell (l := [.int .u64 0, .int .u64 0, .int .u64 0, .int .u64 0]) (t := 73) (b := w.heap.size + 2) (w := (U2.alloc (.cells #[U z0, U z1, U z2, U z3] 73))) (Jr.out) 2 (by simp)
  have zr_3 : (U2.alloc (.cells #[U z0, U z1, U z2, U z3] 73)).cell? ⟨w.heap.size + 2, 3, none⟩ = some (.int .u64 0) := IHolds.cell (l := [.int .u64 0, .int .u64 0, .int .u64 0, .int .u64 0]) (t := 73) (b := w.heap.size + 2) (w := (U2.alloc (.cells #[U z0, U z1, U z2, U z3] 73))) (Jr.out) 3 (by simp)
  have f0 := fJ Jr
  have hBut : But (w.heap.size + 2) (U2.alloc (.cells #[U z0, U z1, U z2, U z3] 73)) (((((U2.alloc (.cells #[U z0, U z1, U z2, U z3] 73)).setCell ⟨w.heap.size + 2, 0, none⟩ (U z0)).setCell ⟨w.heap.size + 2, 1, none⟩ (U z1)).setCell ⟨w.heap.size + 2, 2, none⟩ (U z2)).setCell ⟨w.heap.size + 2, 3, none⟩ (U z3)) := (((((But.refl _ (U2.alloc (.cells #[U z0, U z1, U z2, U z3] 73))).setCell 0 (U z0)).setCell 1 (U z1)).setCell 2 (U z2)).setCell 3 (U z3))
  replace F := tF F hBut neF_r.out
  have I4 : Hid (IHolds _ (w.heap.size + 2) 73 [U z0, U z1, U z2, U z3]) := ((((Jr.out.set 0 (U z0)).set 1 (U z1)).set 2 (U z2)).set 3 (U z3))
  replace B : Hid (Below w.heap.size w (((((U2.alloc (.cells #[U z0, U z1, U z2, U z3] 73)).setCell ⟨w.heap.size + 2, 0, none⟩ (U z0)).setCell ⟨w.heap.size + 2, 1, none⟩ (U z1)).setCell ⟨w.heap.size + 2, 2, none⟩ (U z2)).setCell ⟨w.heap.size + 2, 3, none⟩ (U z3))) := ((((B.out.setCell (by first | exact Nat.le_refl _ | exact ge_r.out | (show w.heap.size ≤ w.heap.size + 2; omega)) _).setCell (by first | exact Nat.le_refl _ | exact ge_r.out | (show w.heap.size ≤ w.heap.size + 2; omega)) _).setCell (by first | exact Nat.le_refl _ | exact ge_r.out | (show w.heap.size ≤ w.heap.size + 2; omega)) _).setCell (by first | exact Nat.le_refl _ | exact ge_r.out | (show w.heap.size ≤ w.heap.size + 2; omega)) _)
  replace Jx := tJ Jx hBut (by omega)
  replace Jm := tJ Jm hBut (by omega)
  replace Jd := tJ Jd hBut (fun h => ne_r_d.out h.symm)
  replace Jr := I4
  clear I4 hBut
  have zd_0 : (U2.alloc (.cells #[U z0, U z1, U z2, U z3] 73)).cell? ⟨U2.heap.size, 0, none⟩ = some (U z0) := IHolds.cell (l := [U z0, U z1, U z2, U z3]) (t := 73) (b := U2.heap.size) (w := (U2.alloc (.cells #[U z0, U z1, U z2, U z3] 73))) (Kd.out) 0 (by simp)
  have zd_1 : (U2.alloc (.cells #[U z0, U z1, U z2, U z3] 73)).cell? ⟨U2.heap.size, 1, none⟩ = some (U z1) := IHolds.cell (l := [U z0, U z1, U z2, U z3]) (t := 73) (b := U2.heap.size) (w := (U2.alloc (.cells #[U z0, U z1, U z2, U z3] 73))) (Kd.out) 1 (by simp)
  have zd_2 : (U2.alloc (.cells #[U z0, U z1, U z2, U z3] 73)).cell? ⟨U2.heap.size, 2, none⟩ = some (U z2) := IHolds.cell (l := [U z0, U z1, U z2, U z3]) (t := 73) (b := U2.heap.size) (w := (U2.alloc (.cells #[U z0, U z1, U z2, U z3] 73))) (Kd.out) 2 (by simp)
  have zd_3 : (U2.alloc (.cells #[U z0, U z1, U z2, U z3] 73)).cell? ⟨U2.heap.size, 3, none⟩ = some (U z3) := IHolds.cell (l := [U z0, U z1, U z2, U z3]) (t := 73) (b := U2.heap.size) (w := (U2.alloc (.cells #[U z0, U z1, U z2, U z3] 73))) (Kd.out) 3 (by simp)
  go_wp2_with fail
  clear zd_0 zd_1 zd_2 zd_3
  clear Kd
  clear zr_0 zr_1 zr_2 zr_3
  clear f0
  generalize (((((U2.alloc (.cells #[U z0, U z1, U z2, U z3] 73)).setCell ⟨w.heap.size + 2, 0, none⟩ (U z0)).setCell ⟨w.heap.size + 2, 1, none⟩ (U z1)).setCell ⟨w.heap.size + 2, 2, none⟩ (U z2)).setCell ⟨w.heap.size + 2, 3, none⟩ (U z3)) = U3 at *
  have E0 : Hid (U3.cell? ⟨w.heap.size + 2, 0, none⟩ = some (U z0)) := IHolds.cell (l := [U z0, U z1, U z2, U z3]) (t := 73) (b := w.heap.size + 2) (w := U3) Jr.out 0 (by simp)
  have E1 : Hid (U3.cell? ⟨w.heap.size + 2, 1, none⟩ = some (U z1)) := IHolds.cell (l := [U z0, U z1, U z2, U z3]) (t := 73) (b := w.heap.size + 2) (w := U3) Jr.out 1 (by simp)
  have E2 : Hid (U3.cell? ⟨w.heap.size + 2, 2, none⟩ = some (U z2)) := IHolds.cell (l := [U z0, U z1, U z2, U z3]) (t := 73) (b := w.heap.size + 2) (w := U3) Jr.out 2 (by simp)
  have E3 : Hid (U3.cell? ⟨w.heap.size + 2, 3, none⟩ = some (U z3)) := IHolds.cell (l := [U z0, U z1, U z2, U z3]) (t := 73) (b := w.heap.size + 2) (w := U3) Jr.out 3 (by simp)
  exact bodyPost_ret (v := .agg #[U z0, U z1, U z2, U z3]) (by simp [results, Tryz.results132, go_sem, E0.out, E1.out, E2.out, E3.out]) rfl ⟨rfl, B.out⟩
/-- The difference, modulo. -/
def subF (M a b : Nat) : Nat := if a < b then a + M - b else a - b
theorem fminusA {w : World} {g o Wd M low one sq a b : Nat} (F : Hid (FH w g o Wd M low one sq)) (ha : a < M) (hb : b < M) (hM : 2 * M ≤ BB ^ 4) :
    Calls Tryz.prog 132 #[.pointer (some ⟨g, o, none⟩), A4 a, A4 b] w fun e w' => e = .returned (A4 (subF M a b)) ∧ Below w.heap.size w w' := by
  unfold subF
  by_cases h : a < b
  · rw [if_pos h]
    have e : borN a b = 1 := by unfold borN; rw [if_pos h]
    have e2 : (subN a b + M) % BB ^ 4 = a + M - b := by
      unfold subN
      rw [if_pos h, show a + BB ^ 4 - b + M = a + M - b + BB ^ 4 by omega, Nat.add_mod_right, Nat.mod_eq_of_lt (by omega)]
    rw [← e2]
    exact fminus_lt F _ _ _ _ _ _ _ _ _ _ _ _ _ _ _ _ _ (fun W => minusA W (by omega) (by omega)) (by rw [e]; rfl) (fun W => plusM W (subN_lt (by omega) (by omega)) (by omega))
  · rw [if_neg h]
    have e : borN a b = 0 := by unfold borN; rw [if_neg h]
    have e2 : subN a b = a - b := by unfold subN; rw [if_neg h]
    rw [← e2]
    exact fminus_ge F _ _ _ _ _ _ _ _ _ _ _ _ _ (fun W => minusA W (by omega) (by omega)) (by rw [e]; rfl)
end Go.Proofs.YtmpiipcllgjhdaaGreatDoor

/- Montgomery's product: the program's joined. -/
namespace Go.Proofs.YtmpiipcllgjhdaaGreatDoor
open Go.RowKit Go.Deep Go.PlainAid

/-- What lies in memory while two numbers are joined. -/
structure JS (w wr : World) (b0 a b : Nat) (s : List Nat) (g o Wd M low one sq : Nat) : Prop where
  hb : b0 = w.heap.size
  hg : g < b0
  A : IHolds wr b0 73 (us (ws4 a))
  B : IHolds wr (b0 + 1) 73 (us (ws4 b))
  Z : IHolds wr (b0 + 2) 73 [.int .u64 0, .int .u64 0, .int .u64 0, .int .u64 0]
  S : IHolds wr (b0 + 3) 73 (us s)
  F : FH wr g o Wd M low one sq
  bl : Below w.heap.size w wr
theorem JS.drewN {w wr : World} {b0 a b : Nat} {s : List Nat} {g o Wd M low one sq : Nat} (h : JS w wr b0 a b s g o Wd M low one sq) (n : Nat) : JS w (wr.drewN n) b0 a b s g o Wd M low one sq :=
  ⟨h.hb, h.hg, h.A.drewN n, h.B.drewN n, h.Z.drewN n, h.S.drewN n, h.F.same fun _ => rfl, ⟨h.bl.os, h.bl.tape, h.bl.output, h.bl.size, h.bl.block⟩⟩
theorem us_set2 (l : List Nat) (i z : Nat) : (us l).set i (U z) = us (l.set i z) := by simp only [us, List.map_set]
theorem JS.set {w wr : World} {b0 a b : Nat} {s : List Nat} {g o Wd M low one sq : Nat} (h : JS w wr b0 a b s g o Wd M low one sq) (i z : Nat) : JS w (wr.setCell ⟨b0 + 3, i, none⟩ (U z)) b0 a b (s.set i z) g o Wd M low one sq := by
  have hb : But (b0 + 3) wr (wr.setCell ⟨b0 + 3, i, none⟩ (U z)) := (But.refl _ wr).setCell i _
  have hg := h.hg
  refine ⟨h.hb, h.hg, h.A.of_but hb (by omega), h.B.of_but hb (by omega), h.Z.of_but hb (by omega), ?_, h.F.of_but hb (by omega), h.bl.setCell (by show w.heap.size ≤ b0 + 3; rw [h.hb]; omega) _⟩
  have := h.S.set i (U z)
  rw [us_set2] at this
  exact this
theorem us_cell {W : World} {b : Nat} {l : List Nat} (h : IHolds W b 73 (us l)) (i : Nat) (hi : i < l.length) : W.cell? ⟨b, i, none⟩ = some (U (l.getD i 0)) := by
  rw [h.cell i (by rw [us_length]; exact hi)]
  simp only [us, List.getElem_map]
  rw [getD_at hi]
theorem FH.mAt {w : World} {g o Wd M low one sq : Nat} (h : FH w g o Wd M low one sq) (i : Nat) (hi : i < 4) : w.cell? ⟨g, o + 1 + i, none⟩ = some (U (w4 M i)) := by
  have : i = 0 ∨ i = 1 ∨ i = 2 ∨ i = 3 := by omega
  rcases this with rfl | rfl | rfl | rfl
  · exact h.m0
  · exact h.m1
  · exact h.m2
  · exact h.m3
theorem wrapB (a : Nat) : IntKind.u64.wrap (a : Int) = ((a % BB : Nat) : Int) := Mul64.wrapM a
theorem chain0 (x y a : Nat) (hx : x < BB) (hy : y < BB) (ha : a < BB) (w : World) : Calls Tryz.prog 136 #[U x, U y, U a, .int .u64 0] w fun e w' => e = .returned (.tuple #[U ((x * y + a + 0) / BB), U ((x * y + a + 0) % BB)]) ∧ w' = w := chain_any x y a 0 hx hy ha BB_pos w
set_option maxRecDepth 100000 in
set_option maxHeartbeats 4000000 in
theorem joined_any {w : World} {g o Wd M low one sq Ri a b : Nat} (F : Hid (FH w g o Wd M low one sq)) (fl : Fld Wd M low one sq Ri) (ha : a < BB ^ Wd) (hb : b < M) :
    Calls Tryz.prog 109 #[.pointer (some ⟨g, o, none⟩), A4 a, A4 b] w fun e w' => (∃ r, e = .returned (A4 r) ∧ Jo (BB ^ Wd) M a b r) ∧ Below w.heap.size w w' := by
  have hw1 := fl.w1
  have hw4 := fl.w4
  have low9 := fl.l9
  have HP4 : Hid (2 * M ≤ BB ^ 4) := Nat.le_trans fl.m9 (Nat.pow_le_pow_right BB_pos fl.w4)
  have HM9 : Hid (2 * M ≤ BB ^ Wd) := fl.m9
  have HM0 : Hid (0 < M) := by have := fl.m2; show _ < _; omega
  have HLo : Hid ((ws4 M).getD 0 0 * low % BB = BB - 1) := fl.lo
  have HVb : Hid (vl BB (ws4 b) = b) := vl_ws4 (by have := HP4.out; omega)
  have HVM : Hid (vl BB (ws4 M) = M) := vl_ws4 (by have := HP4.out; have := HM0.out; omega)
  have HbM : Hid (b < M) := hb
  have Hfin : Hid (∀ S, Ro a b M Wd S → Jo (BB ^ Wd) M a b (belowN M S)) := fun S h => h.done ha
  clear fl ha hb
  show Calls Tryz.prog 109 #[.pointer (some ⟨g, o, none⟩), .agg #[U (w4 a 0), U (w4 a 1), U (w4 a 2), U (w4 a 3)], .agg #[U (w4 b 0), U (w4 b 1), U (w4 b 2), U (w4 b 3)]] w _
  obtain ⟨W0, hW0⟩ : ∃ X, X = (((w.alloc (.cells #[U (w4 a 0), U (w4 a 1), U (w4 a 2), U (w4 a 3)] 73)).alloc (.cells #[U (w4 b 0), U (w4 b 1), U (w4 b 2), U (w4 b 3)] 73)).alloc (.cells #[.int .u64 0, .int .u64 0, .int .u64 0, .int .u64 0] 73)).alloc (.cells #[.int .u64 0, .int .u64 0, .int .u64 0, .int .u64 0] 73) := ⟨_, rfl⟩
  have J0 : Hid (JS w W0 w.heap.size a b [0, 0, 0, 0] g o Wd M low one sq) := by
    have hB : Below w.heap.size w W0 := by
      rw [hW0]; exact ((((Below.refl _ w).alloc (Nat.le_refl _) _).alloc (by simp only [World.size_alloc]; omega) _).alloc (by simp only [World.size_alloc]; omega) _).alloc (by simp only [World.size_alloc]; omega) _
    refine ⟨rfl, F.out.lt, ?_, ?_, ?_, ?_, F.out.of_below hB, hB⟩
    · rw [hW0]; exact (((IHolds.new w 73 (us (ws4 a))).alloc _).alloc _).alloc _
    · have q := IHolds.new (w.alloc (.cells #[U (w4 a 0), U (w4 a 1), U (w4 a 2), U (w4 a 3)] 73)) 73 (us (ws4 b))
      simp only [World.size_alloc, Nat.add_assoc, Nat.reduceAdd] at q
      rw [hW0]; exact (q.alloc _).alloc _
    · have q := IHolds.new ((w.alloc (.cells #[U (w4 a 0), U (w4 a 1), U (w4 a 2), U (w4 a 3)] 73)).alloc (.cells #[U (w4 b 0), U (w4 b 1), U (w4 b 2), U (w4 b 3)] 73)) 73 [.int .u64 0, .int .u64 0, .int .u64 0, .int .u64 0]
      simp only [World.size_alloc, Nat.add_assoc, Nat.reduceAdd] at q
      rw [hW0]; exact q.alloc _
    · have q := IHolds.new (((w.alloc (.cells #[U (w4 a 0), U (w4 a 1), U (w4 a 2), U (w4 a 3)] 73)).alloc (.cells #[U (w4 b 0), U (w4 b 1), U (w4 b 2), U (w4 b 3)] 73)).alloc (.cells #[.int .u64 0, .int .u64 0, .int .u64 0, .int .u64 0] 73)) 73 [.int .u64 0, .int .u64 0, .int .u64 0, .int .u64 0]
      simp only [World.size_alloc, Nat.add_assoc, Nat.reduceAdd] at q
      rw [hW0]; exact q
  have c0 : ((((w.alloc (.cells #[U (w4 a 0), U (w4 a 1), U (w4 a 2), U (w4 a 3)] 73)).alloc (.cells #[U (w4 b 0), U (w4 b 1), U (w4 b 2), U (w4 b 3)] 73)).alloc (.cells #[.int .u64 0, .int .u64 0, .int .u64 0, .int .u64 0] 73)).alloc (.cells #[.int .u64 0, .int .u64 0, .int .u64 0, .int .u64 0] 73)).cell? ⟨g, o, none⟩ = some (.int .i64 (Wd : Int)) := by rw [← hW0]; exact J0.out.F.c0
  clear F
  go_enter Tryz.func109, Tryz.ntmps109
  go_wp2_with fail
  rw [← hW0]
  clear hW0 c0
  obtain ⟨b0, hb0⟩ : ∃ b, b = w.heap.size := ⟨_, rfl⟩
  rw [← hb0] at J0 ⊢
  clear hb0
  go_loopg [20] Wd (fun gk v20 wr => ∃ (i : Nat) (s : List Nat), i + gk = Wd ∧ v20 = .int .i64 (i : Int) ∧ s.length = 4 ∧ AllB s ∧ Ro a b M i (vl BB s) ∧ JS w wr b0 a b s g o Wd M low one sq)
  case atStart => exact ⟨0, [0, 0, 0, 0], by omega, rfl, rfl, by intro d hd; simp at hd; rw [hd]; exact BB_pos, by simpa [vl] using Ro.zero HM0.out, J0.out⟩
  case round =>
    obtain ⟨i, s, hi, rfl, hsl, hsB, hRo, hJ⟩ := hrel
    clear J0
    generalize gk = G at *
    have HsB : Hid (AllB s) := hsB
    have HRo : Hid (Ro a b M i (vl BB s)) := hRo
    have HJ : Hid (JS w wr b0 a b s g o Wd M low one sq) := hJ
    have Hsl : Hid (s.length = 4) := hsl
    clear hsB hRo hJ hsl
    by_cases hlt : i < Wd
    · have il : (i : Int) < (Wd : Int) := by omega
      have i4 : (i : Int) < 4 := by omega
      have ca : wr.cell? ⟨b0, i, none⟩ = some (U ((ws4 a).getD i 0)) := us_cell HJ.out.A i (by rw [ws4_length]; omega)
      have xe : (ws4 a).getD i 0 = w4 a i := ws4_getD a i (by omega)
      rw [xe] at ca
      obtain ⟨x, hx⟩ : ∃ x, x = w4 a i := ⟨_, rfl⟩
      rw [← hx] at ca
      have HXe : Hid (x = w4 a i) := hx
      have x9 : x < BB := by rw [hx]; exact w4_lt _ _
      clear hx xe
      have cb : wr.cell? ⟨b0 + 1, 0, none⟩ = some (U ((ws4 b).getD 0 0)) := us_cell HJ.out.B 0 (by rw [ws4_length]; omega)
      have cs : wr.cell? ⟨b0 + 3, 0, none⟩ = some (U (s.getD 0 0)) := us_cell HJ.out.S 0 (by rw [Hsl.out]; omega)
      have cl := HJ.out.F.lo
      have cm : wr.cell? ⟨g, o + 1, none⟩ = some (U ((ws4 M).getD 0 0)) := HJ.out.F.m0
      have bz9 := getD_ltB (ws4_mem b) 0
      have sz9 := getD_ltB HsB.out 0
      have mz9 := getD_ltB (ws4_mem M) 0
      have MS : Hid (∀ y, y = (s.getD 0 0 + x * (ws4 b).getD 0 0 % BB) % BB * low % BB → Mo (ws4 b) (ws4 M) s x y 1 s ((x * (ws4 b).getD 0 0 + s.getD 0 0 + 0) / BB) ((y * (ws4 M).getD 0 0 + (x * (ws4 b).getD 0 0 + s.getD 0 0 + 0) % BB + 0) / BB)) := fun y hy => Mo.start rfl rfl Hsl.out (ws4_mem b) (ws4_mem M) HsB.out x9 HLo.out hy
      generalize (ws4 b).getD 0 0 = bz at *
      generalize (ws4 M).getD 0 0 = mz at *
      generalize s.getD 0 0 = sz at *
      obtain ⟨p1, hp1⟩ : ∃ p, p = x * bz % BB := ⟨_, rfl⟩
      obtain ⟨p2, hp2⟩ : ∃ p, p = (sz + p1) % BB := ⟨_, rfl⟩
      obtain ⟨y, hy⟩ : ∃ p, p = p2 * low % BB := ⟨_, rfl⟩
      have k1 : IntKind.u64.wrap ((x : Int) * (bz : Int)) = (p1 : Int) := by rw [hp1, ← wrapB]; push_cast; rfl
      have k2 : IntKind.u64.wrap ((sz : Int) + (p1 : Int)) = (p2 : Int) := by rw [hp2, ← wrapB]; push_cast; rfl
      have k3 : IntKind.u64.wrap ((p2 : Int) * (low : Int)) = (y : Int) := by rw [hy, ← wrapB]; push_cast; rfl
      have y9 : y < BB := by rw [hy]; exact Nat.mod_lt _ BB_pos
      have MS2 := MS.out y (by rw [hy, hp2, hp1])
      have C1 : Hid (∀ W, Calls Tryz.prog 136 #[U x, U bz, U sz, .int .u64 0] W fun e w' => e = .returned (.tuple #[U ((x * bz + sz + 0) / BB), U ((x * bz + sz + 0) % BB)]) ∧ w' = W) := fun W => chain0 x bz sz x9 bz9 sz9 W
      obtain ⟨l0, hl0⟩ : ∃ p, p = (x * bz + sz + 0) / BB := ⟨_, rfl⟩
      obtain ⟨wd0, hwd0⟩ : ∃ p, p = (x * bz + sz + 0) % BB := ⟨_, rfl⟩
      have wd9 : wd0 < BB := by rw [hwd0]; exact Nat.mod_lt _ BB_pos
      rw [← hl0, ← hwd0] at C1 MS2
      have C2 : Hid (∀ W, Calls Tryz.prog 136 #[U y, U mz, U wd0, .int .u64 0] W fun e w' => e = .returned (.tuple #[U ((y * mz + wd0 + 0) / BB), U ((y * mz + wd0 + 0) % BB)]) ∧ w' = W) := fun W => chain0 y mz wd0 y9 mz9 wd9 W
      obtain ⟨r0, hr0⟩ : ∃ p, p = (y * mz + wd0 + 0) / BB := ⟨_, rfl⟩
      obtain ⟨tz, htz⟩ : ∃ p, p = (y * mz + wd0 + 0) % BB := ⟨_, rfl⟩
      rw [← hr0, ← htz] at C2
      rw [← hr0] at MS2
      have HMo : Hid (Mo (ws4 b) (ws4 M) s x y 1 s l0 r0) := MS2
      clear MS MS2 hp1 hp2 hy hl0 hwd0 hr0 htz bz9 sz9 mz9 wd9
      go_wp2_with fail
      go_quiet (fail)
      replace HJ : Hid (JS w (wr.drewN nq) b0 a b s g o Wd M low one sq) := HJ.out.drewN nq
      replace cb : (wr.drewN nq).cell? ⟨b0 + 1, 0, none⟩ = some (U bz) := cb
      replace cs : (wr.drewN nq).cell? ⟨b0 + 3, 0, none⟩ = some (U sz) := cs
      replace cm : (wr.drewN nq).cell? ⟨g, o + 1, none⟩ = some (U mz) := cm
      clear ca cl k1 k2 k3
      generalize wr.drewN nq = wr at *
      go_wp2_with fail
      refine (C1.out wr).mono ?_
      rintro e w' ⟨rfl, hw⟩
      rw [hw]
      clear hw
      go_wp2_with fail
      refine (C2.out wr).mono ?_
      rintro e w' ⟨rfl, hw⟩
      rw [hw]
      clear hw
      clear C1 C2 cb cs cm
      go_wp2_with fail
      go_loopg [11, 13, 15] (Wd - 1) (fun gk v11 v13 v15 wr => ∃ (j l r : Nat) (t : List Nat), j + gk = Wd ∧ 1 ≤ j ∧ v11 = U l ∧ v13 = U r ∧ v15 = .int .i64 (j : Int) ∧ Mo (ws4 b) (ws4 M) s x y j t l r ∧ JS w wr b0 a b t g o Wd M low one sq)
      case atStart => exact ⟨1, l0, r0, s, by omega, by omega, rfl, rfl, rfl, HMo.out, HJ.out⟩
      case round =>
        clear HMo HJ
        obtain ⟨j, l, r, t, hj, hj1, rfl, rfl, rfl, hMo, hJ⟩ := hrel
        have HMo : Hid (Mo (ws4 b) (ws4 M) s x y j t l r) := hMo
        have HJ : Hid (JS w wr b0 a b t g o Wd M low one sq) := hJ
        have Htl : Hid (t.length = 4) := by show _ = _; rw [hMo.len]; exact Hsl.out
        clear hMo hJ
        have c0 := HJ.out.F.c0
        by_cases hjl : j < Wd
        · have jl : (j : Int) < (Wd : Int) := by omega
          have j4 : (j : Int) < 4 := by omega
          have cb : wr.cell? ⟨b0 + 1, j, none⟩ = some (U ((ws4 b).getD j 0)) := us_cell HJ.out.B j (by rw [ws4_length]; omega)
          have cs : wr.cell? ⟨b0 + 3, j, none⟩ = some (U (t.getD j 0)) := us_cell HJ.out.S j (by rw [Htl.out]; omega)
          have cm : wr.cell? ⟨g, o + 1 + j, none⟩ = some (U ((ws4 M).getD j 0)) := by rw [ws4_getD M j (by omega)]; exact HJ.out.F.mAt j (by omega)
          have b9 := getD_ltB (ws4_mem b) j
          have s9 := getD_ltB HMo.out.lt j
          have m9 := getD_ltB (ws4_mem M) j
          have l9 := HMo.out.l9
          have r9 := HMo.out.r9
          have ST : Hid _ := HMo.out.step hj1 (by omega) rfl rfl Hsl.out (ws4_mem b) (ws4_mem M) x9 y9
          have CA : Hid (∀ W, Calls Tryz.prog 136 #[U x, U ((ws4 b).getD j 0), U (t.getD j 0), U l] W fun e w' => e = .returned (.tuple #[U ((x * (ws4 b).getD j 0 + t.getD j 0 + l) / BB), U ((x * (ws4 b).getD j 0 + t.getD j 0 + l) % BB)]) ∧ w' = W) := fun W => chain_any _ _ _ _ x9 b9 s9 l9 W
          have CB : Hid (∀ W z, z < BB → Calls Tryz.prog 136 #[U y, U ((ws4 M).getD j 0), U z, U r] W fun e w' => e = .returned (.tuple #[U ((y * (ws4 M).getD j 0 + z + r) / BB), U ((y * (ws4 M).getD j 0 + z + r) % BB)]) ∧ w' = W) := fun W z hz => chain_any _ _ _ _ y9 m9 hz r9 W
          generalize (ws4 b).getD j 0 = bj at *
          generalize (ws4 M).getD j 0 = mj at *
          generalize t.getD j 0 = tj at *
          obtain ⟨l', hl'⟩ : ∃ p, p = (x * bj + tj + l) / BB := ⟨_, rfl⟩
          obtain ⟨z, hz⟩ : ∃ p, p = (x * bj + tj + l) % BB := ⟨_, rfl⟩
          have z9 : z < BB := by rw [hz]; exact Nat.mod_lt _ BB_pos
          have CB2 : Hid _ := fun W => CB.out W z z9
          rw [← hl', ← hz] at ST CA
          obtain ⟨r', hr'⟩ : ∃ p, p = (y * mj + z + r) / BB := ⟨_, rfl⟩
          obtain ⟨u, hu⟩ : ∃ p, p = (y * mj + z + r) % BB := ⟨_, rfl⟩
          rw [← hr', ← hu] at ST CB2
          have HMo2 : Hid (Mo (ws4 b) (ws4 M) s x y (j + 1) (t.set (j - 1) u) l' r') := ST.out
          obtain ⟨j', hj'⟩ : ∃ p, p = j - 1 := ⟨_, rfl⟩
          rw [← hj'] at HMo2
          have kj' : (j : Int) - 1 = (j' : Int) := by omega
          have j'4 : (j' : Int) < 4 := by omega
          have co : wr.cell? ⟨b0 + 3, j', none⟩ = some (U (t.getD j' 0)) := us_cell HJ.out.S j' (by rw [Htl.out]; omega)
          have fo : wr.frozen? ⟨b0 + 3, j', none⟩ = false := HJ.out.S.frozen j'
          generalize t.getD j' 0 = old at *
          clear hl' hz hr' hu CB ST HMo b9 s9 m9 hj'
          go_wp2_with fail
          go_quiet ((go_at_call 136; exact Calls.quiet_of_same (CA.out _)))
          replace HJ : Hid (JS w (wr.drewN nq) b0 a b t g o Wd M low one sq) := HJ.out.drewN nq
          replace cm : (wr.drewN nq).cell? ⟨g, o + 1 + j, none⟩ = some (U mj) := cm
          replace co : (wr.drewN nq).cell? ⟨b0 + 3, j', none⟩ = some (U old) := co
          replace fo : (wr.drewN nq).frozen? ⟨b0 + 3, j', none⟩ = false := fo
          clear cb cs c0 CA
          generalize wr.drewN nq = wr at *
          have HJ2 : Hid (JS w (wr.setCell ⟨b0 + 3, j', none⟩ (U u)) b0 a b (t.set j' u) g o Wd M low one sq) := HJ.out.set j' u
          go_wp2_with fail
          refine (CB2.out wr).mono ?_
          rintro e w' ⟨rfl, hw⟩
          rw [hw]
          clear hw CB2 HJ
          go_wp2_with fail
          go_roundg (gk - 1)
          case measure => omega
          case rel => exact ⟨j + 1, l', r', t.set j' u, by omega, by omega, rfl, rfl, by go_num, HMo2.out, HJ2.out⟩
        · obtain rfl : j = Wd := by omega
          have jl : ¬ (j : Int) < (j : Int) := by omega
          obtain ⟨d1, d2, d3, d4, d5⟩ := HMo.out.done hj1 hw4 rfl rfl Hsl.out HsB.out HVb.out HVM.out rfl x9 y9 HbM.out HRo.out.lt HM9.out
          obtain ⟨j', hj'⟩ : ∃ p, p = j - 1 := ⟨_, rfl⟩
          rw [← hj'] at d2 d3 d4 d5
          have kj' : (j : Int) - 1 = (j' : Int) := by omega
          have j'4 : (j' : Int) < 4 := by omega
          obtain ⟨q, hq⟩ : ∃ q, q = l + r := ⟨_, rfl⟩
          have kq : (l : Int) + (r : Int) = (q : Int) := by omega
          rw [← hq] at d1 d2 d3 d4 d5
          have q9 : q < 18446744073709551616 := d1
          have HR2 : Hid (Ro a b M (i + 1) (vl BB (t.set j' q))) := HRo.out.step (y := y) (by rw [d4, HXe.out]) d5
          have HL2 : Hid ((t.set j' q).length = 4) := d2
          have HA2 : Hid (AllB (t.set j' q)) := d3
          have HJ2 : Hid (JS w (wr.setCell ⟨b0 + 3, j', none⟩ (U q)) b0 a b (t.set j' q) g o j M low one sq) := HJ.out.set j' q
          have co : wr.cell? ⟨b0 + 3, j', none⟩ = some (U (t.getD j' 0)) := us_cell HJ.out.S j' (by rw [Htl.out]; omega)
          have fo : wr.frozen? ⟨b0 + 3, j', none⟩ = false := HJ.out.S.frozen j'
          generalize t.getD j' 0 = old at *
          clear d1 d2 d3 d4 d5 hq hj' HMo HJ HRo HsB
          go_wp2_with fail
          go_roundg (G - 1)
          case measure => omega
          case rel => exact ⟨i + 1, t.set j' q, by omega, by go_num, HL2.out, HA2.out, HR2.out, HJ2.out⟩
    · obtain rfl : i = Wd := by omega
      have il : ¬ (i : Int) < (i : Int) := by omega
      obtain ⟨s0, s1, s2, s3, rfl⟩ := list4 Hsl.out
      have hN := HRo.out.lt
      have HR : Hid (Jo (BB ^ i) M a b (belowN M (vl BB [s0, s1, s2, s3]))) := Hfin.out _ HRo.out
      have C : Hid (Calls Tryz.prog 137 #[.pointer (some ⟨g, o, none⟩), .agg #[U s0, U s1, U s2, U s3]] wr fun e w' => e = .returned (A4 (belowN M (vl BB [s0, s1, s2, s3]))) ∧ Below wr.heap.size wr w') := by
        have h4 := HP4.out
        have h0 := HM0.out
        rw [A4_of HsB.out rfl]
        exact belowA HJ.out.F (by omega) (by omega)
      have hS : IHolds wr (b0 + 3) 73 [U s0, U s1, U s2, U s3] := HJ.out.S
      have c0 : wr.cell? ⟨b0 + 3, 0, none⟩ = some (U s0) := hS.cell 0 (by simp)
      have c1 : wr.cell? ⟨b0 + 3, 1, none⟩ = some (U s1) := hS.cell 1 (by simp)
      have c2 : wr.cell? ⟨b0 + 3, 2, none⟩ = some (U s2) := hS.cell 2 (by simp)
      have c3 : wr.cell? ⟨b0 + 3, 3, none⟩ = some (U s3) := hS.cell 3 (by simp)
      generalize belowN M (vl BB [s0, s1, s2, s3]) = r at *
      have HZ : Hid (IHolds wr (b0 + 2) 73 [.int .u64 0, .int .u64 0, .int .u64 0, .int .u64 0]) := HJ.out.Z
      have HB : Hid (Below w.heap.size w wr) := HJ.out.bl
      have Hb0 : Hid (b0 = w.heap.size) := HJ.out.hb
      clear hS HJ HsB HRo Hsl hN
      go_wp2_with fail
      refine C.out.mono ?_
      rintro e U1 ⟨rfl, hb⟩
      clear c0 c1 c2 c3
      replace HZ := aJ HZ hb
      replace HB := aB HB hb
      clear hb C
      have HA : Hid (A4 r = .agg #[U (w4 r 0), U (w4 r 1), U (w4 r 2), U (w4 r 3)]) := rfl
      rw [HA.out]
      obtain ⟨z0, hz0⟩ : ∃ z, z = w4 r 0 := ⟨_, rfl⟩
      obtain ⟨z1, hz1⟩ : ∃ z, z = w4 r 1 := ⟨_, rfl⟩
      obtain ⟨z2, hz2⟩ : ∃ z, z = w4 r 2 := ⟨_, rfl⟩
      obtain ⟨z3, hz3⟩ : ∃ z, z = w4 r 3 := ⟨_, rfl⟩
      rw [← hz0, ← hz1, ← hz2, ← hz3] at HA ⊢
      clear hz0 hz1 hz2 hz3
      have d0 : U1.cell? ⟨b0 + 2, 0, none⟩ = some (.int .u64 0) := HZ.out.cell 0 (by simp)
      have d1 : U1.cell? ⟨b0 + 2, 1, none⟩ = some (.int .u64 0) := HZ.out.cell 1 (by simp)
      have d2 : U1.cell? ⟨b0 + 2, 2, none⟩ = some (.int .u64 0) := HZ.out.cell 2 (by simp)
      have d3 : U1.cell? ⟨b0 + 2, 3, none⟩ = some (.int .u64 0) := HZ.out.cell 3 (by simp)
      have f0 : ∀ i, U1.frozen? ⟨b0 + 2, i, none⟩ = false := fun i => HZ.out.frozen i
      obtain ⟨W9, hW9⟩ : ∃ X, X = (((U1.setCell ⟨b0 + 2, 0, none⟩ (U z0)).setCell ⟨b0 + 2, 1, none⟩ (U z1)).setCell ⟨b0 + 2, 2, none⟩ (U z2)).setCell ⟨b0 + 2, 3, none⟩ (U z3) := ⟨_, rfl⟩
      have hZ9 : Hid (IHolds W9 (b0 + 2) 73 [U z0, U z1, U z2, U z3]) := by
        show IHolds _ _ _ _
        rw [hW9]; exact (((HZ.out.set 0 (U z0)).set 1 (U z1)).set 2 (U z2)).set 3 (U z3)
      have hB9 : Hid (Below w.heap.size w W9) := by
        show Below _ _ _
        have hq : w.heap.size ≤ b0 + 2 := by rw [← Hb0.out]; omega
        rw [hW9]; exact (((HB.out.setCell hq _).setCell hq _).setCell hq _).setCell hq _
      clear HZ HB
      go_wp2_with fail
      rw [← hW9]
      clear hW9 d0 d1 d2 d3 f0
      have E0 : W9.cell? ⟨b0 + 2, 0, none⟩ = some (U z0) := hZ9.out.cell 0 (by simp)
      have E1 : W9.cell? ⟨b0 + 2, 1, none⟩ = some (U z1) := hZ9.out.cell 1 (by simp)
      have E2 : W9.cell? ⟨b0 + 2, 2, none⟩ = some (U z2) := hZ9.out.cell 2 (by simp)
      have E3 : W9.cell? ⟨b0 + 2, 3, none⟩ = some (U z3) := hZ9.out.cell 3 (by simp)
      exact bodyPost_ret (v := .agg #[U z0, U z1, U z2, U z3]) (by simp [results, Tryz.results109, go_sem, E0, E1, E2, E3]) rfl ⟨⟨r, by rw [HA.out], HR.out⟩, hB9.out⟩
end Go.Proofs.YtmpiipcllgjhdaaGreatDoor
