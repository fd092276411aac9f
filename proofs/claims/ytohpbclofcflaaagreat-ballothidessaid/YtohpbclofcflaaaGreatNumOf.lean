/- A number of bytes: the program's numberOf. -/
import Derived.Test.YtohpbclofcflaaaGreatMinus
import Derived.Test.YtohpbclofcflaaaGreatRead
set_option linter.unusedSimpArgs false
set_option linter.unusedVariables false
namespace Go.Proofs.YtohpbclofcflaaaGreat
open Go.RowKit Go.Deep Go.PlainAid

theorem us_ws4_set {N N' q x : Nat} (hx : x = w4 N' q) (hq : q < 4) (ho : ∀ t, t ≠ q → w4 N' t = w4 N t) : (us (ws4 N)).set q (U x) = us (ws4 N') := by
  have h0 := ho 0
  have h1 := ho 1
  have h2 := ho 2
  have h3 := ho 3
  have : q = 0 ∨ q = 1 ∨ q = 2 ∨ q = 3 := by omega
  rcases this with rfl | rfl | rfl | rfl
  · rw [hx]; simp only [us, ws4, List.map_cons, List.map_nil, List.set_cons_zero]; rw [h1 (by omega), h2 (by omega), h3 (by omega)]
  · rw [hx]; simp only [us, ws4, List.map_cons, List.map_nil, List.set_cons_zero, List.set_cons_succ]; rw [h0 (by omega), h2 (by omega), h3 (by omega)]
  · rw [hx]; simp only [us, ws4, List.map_cons, List.map_nil, List.set_cons_zero, List.set_cons_succ]; rw [h0 (by omega), h1 (by omega), h3 (by omega)]
  · rw [hx]; simp only [us, ws4, List.map_cons, List.map_nil, List.set_cons_zero, List.set_cons_succ]; rw [h0 (by omega), h1 (by omega), h2 (by omega)]
theorem us_ws4_at (N q : Nat) (h : q < (us (ws4 N)).length) : (us (ws4 N))[q] = U (w4 N q) := by
  simp only [us, List.getElem_map]
  rw [ws4_get]
/-- What is laid when i bytes are read. -/
def laidN (l : List UInt8) (i : Nat) : Nat := beV (l.take i) * 256 ^ (l.length - i)
theorem laidN_step {l : List UInt8} {i p c : Nat} (hi : i < l.length) (hp : p = l.length - 1 - i) (hc : c = l[i].toNat) : laidN l i = beV (l.take i) * 256 ^ (p + 1) ∧ laidN l (i + 1) = beV (l.take i) * 256 ^ (p + 1) + c * 256 ^ p := by
  unfold laidN
  rw [beV_take l i hi, ← hc, show l.length - i = p + 1 by omega, show l.length - (i + 1) = p by omega, Nat.add_mul, Nat.pow_succ, Nat.mul_assoc, Nat.mul_comm 256]
  exact ⟨rfl, rfl⟩
theorem ws4_zero : us (ws4 0) = [.int .u64 0, .int .u64 0, .int .u64 0, .int .u64 0] := by
  simp [us, ws4, w4, Nat.zero_div]
set_option maxRecDepth 100000 in
set_option maxHeartbeats 2000000 in
theorem numberOf_any (w : World) (s : ByteArray) (hs : s.size ≤ 32) :
    Calls Tryz.prog 74 #[.string s] w fun e w' => e = .returned (A4 (numS s)) ∧ Below w.heap.size w w' := by
  have hb := get_bt s
  obtain ⟨n, hn⟩ : ∃ n, n = s.size := ⟨_, rfl⟩
  have HN : Hid (s.data.toList.length = n) := by show _ = _; rw [hn]; rfl
  have hsz : s.size = n := hn.symm
  rw [← hn] at hs
  clear hn
  have HBt : Hid (∀ p (h : p < s.data.toList.length), bt s p = ((s.data.toList[p]'h).toNat : Int)) := fun p h => bt_list s p h
  have HE : Hid (laidN s.data.toList n = numS s) := by
    show _ = _
    unfold laidN numS
    rw [← HN.out, List.take_length, Nat.sub_self, Nat.pow_zero, Nat.mul_one]
  have H0 : Hid (laidN s.data.toList 0 = 0) := by
    show _ = _
    unfold laidN; simp [beV]
  go_enter Tryz.func74, Tryz.ntmps74
  go_wp2_with fail
  obtain ⟨W0, hW0⟩ : ∃ X, X = (w.alloc (.cells #[.int .u64 0, .int .u64 0, .int .u64 0, .int .u64 0] 81)).alloc (.cells #[.int .u64 0, .int .u64 0, .int .u64 0, .int .u64 0] 81) := ⟨_, rfl⟩
  have q0 : Hid (IHolds W0 w.heap.size 81 [.int .u64 0, .int .u64 0, .int .u64 0, .int .u64 0]) := by
    show IHolds _ _ _ _
    rw [hW0]; exact (IHolds.new w 81 [.int .u64 0, .int .u64 0, .int .u64 0, .int .u64 0]).alloc _
  have q1 : Hid (IHolds W0 (w.heap.size + 1) 81 (us (ws4 (laidN s.data.toList 0)))) := by
    show IHolds _ _ _ _
    have q := IHolds.new (w.alloc (.cells #[.int .u64 0, .int .u64 0, .int .u64 0, .int .u64 0] 81)) 81 [.int .u64 0, .int .u64 0, .int .u64 0, .int .u64 0]
    rw [World.size_alloc] at q
    rw [hW0, H0.out, ws4_zero]; exact q
  have q3 : Hid (Below w.heap.size w W0) := by
    show Below _ _ _
    rw [hW0]; exact ((Below.refl _ w).alloc (Nat.le_refl _) _).alloc (by simp only [World.size_alloc]; omega) _
  rw [← hW0]
  clear hW0
  obtain ⟨b0, hb0⟩ : ∃ b, b = w.heap.size := ⟨_, rfl⟩
  rw [← hb0] at q0 q1 ⊢
  have q4 : Hid (b0 = w.heap.size) := hb0
  clear hb0
  go_loopg [8] n (fun gk v8 wr => ∃ (i : Nat), i + gk = n ∧ v8 = .int .i64 (i : Int) ∧ IHolds wr b0 81 [.int .u64 0, .int .u64 0, .int .u64 0, .int .u64 0] ∧ IHolds wr (b0 + 1) 81 (us (ws4 (laidN s.data.toList i))) ∧ Below w.heap.size w wr)
  case atStart => exact ⟨0, by omega, rfl, q0.out, q1.out, q3.out⟩
  case round =>
    obtain ⟨i, hi, rfl, hZ, hA, hB⟩ := hrel
    clear q0 q1 q3
    by_cases hlt : i < n
    · have il : (i : Int) < (n : Int) := by omega
      have hil : i < s.data.toList.length := by rw [HN.out]; exact hlt
      obtain ⟨c, hc⟩ : ∃ c, c = (s.data.toList[i]'hil).toNat := ⟨_, rfl⟩
      have c9 : c < 256 := by rw [hc]; exact UInt8.toNat_lt _
      have kc : bt s i = (c : Int) := by rw [HBt.out i hil, hc]
      obtain ⟨p, hp⟩ : ∃ p, p = n - 1 - i := ⟨_, rfl⟩
      obtain ⟨e1, e2⟩ := laidN_step (p := p) hil (by rw [HN.out]; exact hp) hc
      obtain ⟨r1, r2, r3⟩ := word_or (V := beV (s.data.toList.take i)) (p := p) c9
      rw [← e2, ← e1] at r1 r3
      obtain ⟨q, hq⟩ : ∃ q, q = p / 8 := ⟨_, rfl⟩
      obtain ⟨r, hr⟩ : ∃ r, r = p % 8 := ⟨_, rfl⟩
      obtain ⟨t, ht⟩ : ∃ t, t = r * 8 := ⟨_, rfl⟩
      rw [← hq] at r1 r3
      rw [← hr, ← ht] at r1 r2
      have kp : (n : Int) - 1 - (i : Int) = (p : Int) := by omega
      have kq : (p : Int) / 8 = (q : Int) := by omega
      have kq2 : (p : Int).tdiv 8 = (q : Int) := by rw [Int.tdiv_eq_ediv_of_nonneg (by omega)]; omega
      have kr : (p : Int) % 8 = (r : Int) := by omega
      have kr2 : (p : Int).tmod 8 = (r : Int) := by rw [Int.tmod_eq_emod_of_nonneg (by omega)]; omega
      have kt : (r : Int) * 8 = (t : Int) := by omega
      have p9 : p ≤ 31 := by omega
      have q9 : q ≤ 3 := by omega
      have q8 : (q : Int) < 4 := by omega
      have r9 : r ≤ 7 := by omega
      have t9 : t ≤ 56 := by omega
      have i9 : i ≤ 31 := by omega
      have cx : wr.cell? ⟨b0 + 1, q, none⟩ = some (U (w4 (laidN s.data.toList i) q)) := by
        rw [hA.cell q (by rw [us_length, ws4_length]; omega), us_ws4_at]
      have fx : wr.frozen? ⟨b0 + 1, q, none⟩ = false := hA.frozen q
      have x9 : w4 (laidN s.data.toList i) q < BB := w4_lt _ _
      obtain ⟨y, hy⟩ : ∃ y, y = c * 2 ^ t := ⟨_, rfl⟩
      rw [← hy] at r1 r2
      have ky : (c : Int) * 2 ^ t = (y : Int) := by rw [hy]; push_cast; rfl
      have ky2 : (c : Int) <<< t = (y : Int) := by rw [hy, Int.shiftLeft_eq]; push_cast; rfl
      obtain ⟨z, hz⟩ : ∃ z, z = w4 (laidN s.data.toList (i + 1)) q := ⟨_, rfl⟩
      have HA2 : Hid (IHolds (wr.setCell ⟨b0 + 1, q, none⟩ (U z)) (b0 + 1) 81 (us (ws4 (laidN s.data.toList (i + 1))))) := by
        have h := hA.set q (U z)
        rw [us_ws4_set hz (by omega) r3] at h
        exact h
      have HZ2 : Hid (IHolds (wr.setCell ⟨b0 + 1, q, none⟩ (U z)) b0 81 [.int .u64 0, .int .u64 0, .int .u64 0, .int .u64 0]) := hZ.of_but ((But.refl _ wr).setCell q _) (by omega)
      have HB2 : Hid (Below w.heap.size w (wr.setCell ⟨b0 + 1, q, none⟩ (U z))) := hB.setCell (by show w.heap.size ≤ b0 + 1; rw [q4.out]; omega) _
      generalize w4 (laidN s.data.toList i) q = x at *
      rw [BB_eq] at x9 r2
      have kz : bits .or .u64 (x : Int) (y : Int) = (z : Int) := by
        rw [hz, r1]; exact bits_or_u64_nat x y x9 r2
      have wq : IntKind.i64.wrap (q : Int) = (q : Int) := IntWalk.i64_in _ ⟨by omega, by omega⟩
      have wr1 : IntKind.i64.wrap (r : Int) = (r : Int) := IntWalk.i64_in _ ⟨by omega, by omega⟩
      have wt : IntKind.i64.wrap (t : Int) = (t : Int) := IntWalk.i64_in _ ⟨by omega, by omega⟩
      have wy : IntKind.u64.wrap (y : Int) = (y : Int) := IntWalk.u64_in _ ⟨by omega, by omega⟩
      have wc : IntKind.u64.wrap (c : Int) = (c : Int) := IntWalk.u64_in _ ⟨by omega, by omega⟩
      clear r1 r3 e1 e2 hz hy hc hp hq hr ht hA hZ hB HBt hil
      go_wp2_with fail
      refine wp_region_held_drew (S := fun W => True) (by kernel_rfl) trivial (fun hH => ?_)
      refine tk (i := 0) (v := .int .i64 (p : Int)) rfl (by kernel_rfl) (fun _ _ _ h => h) rfl ?_ hH ?_
      · intro W hS; go_simp <;> simp only [wq, wr1, wt, wy, wc]
      simp only [Act.put, y1, y2, y3, y4, y5, y6, y7]
      refine tk (i := 1) (v := .int .i64 (q : Int)) rfl (by kernel_rfl) (fun _ _ _ h => h) rfl ?_ hH ?_
      · intro W hS; go_simp <;> simp only [wq, wr1, wt, wy, wc]
      simp only [Act.put, y1, y2, y3, y4, y5, y6, y7]
      refine tk (i := 2) (v := .pointer (some ⟨b0 + 1, q, none⟩)) rfl (by kernel_rfl) (fun _ _ _ h => h) rfl ?_ hH ?_
      · intro W hS; go_simp <;> simp only [wq, wr1, wt, wy, wc]
      simp only [Act.put, y1, y2, y3, y4, y5, y6, y7]
      refine tk (i := 4) (v := .string s) rfl (by kernel_rfl) (fun _ _ _ h => h) rfl ?_ hH ?_
      · intro W hS; go_simp <;> simp only [wq, wr1, wt, wy, wc]
      simp only [Act.put, y1, y2, y3, y4, y5, y6, y7]
      refine tk (i := 5) (v := .int .i64 (i : Int)) rfl (by kernel_rfl) (fun _ _ _ h => h) rfl ?_ hH ?_
      · intro W hS; go_simp <;> simp only [wq, wr1, wt, wy, wc]
      simp only [Act.put, y1, y2, y3, y4, y5, y6, y7]
      refine tk (i := 6) (v := .int .u8 (c : Int)) rfl (by kernel_rfl) (fun _ _ _ h => h) rfl ?_ hH ?_
      · intro W hS; go_simp <;> simp only [wq, wr1, wt, wy, wc]
      simp only [Act.put, y1, y2, y3, y4, y5, y6, y7]
      refine tk (i := 7) (v := U c) rfl (by kernel_rfl) (fun _ _ _ h => h) rfl ?_ hH ?_
      · intro W hS; go_simp <;> simp only [wq, wr1, wt, wy, wc]
      simp only [Act.put, y1, y2, y3, y4, y5, y6, y7]
      refine tk (i := 8) (v := .int .i64 (p : Int)) rfl (by kernel_rfl) (fun _ _ _ h => h) rfl ?_ hH ?_
      · intro W hS; go_simp <;> simp only [wq, wr1, wt, wy, wc]
      simp only [Act.put, y1, y2, y3, y4, y5, y6, y7]
      refine tk (i := 9) (v := .int .i64 (r : Int)) rfl (by kernel_rfl) (fun _ _ _ h => h) rfl ?_ hH ?_
      · intro W hS; go_simp <;> simp only [wq, wr1, wt, wy, wc]
      simp only [Act.put, y1, y2, y3, y4, y5, y6, y7]
      refine tk (i := 10) (v := .int .i64 (t : Int)) rfl (by kernel_rfl) (fun _ _ _ h => h) rfl ?_ hH ?_
      · intro W hS; go_simp <;> simp only [wq, wr1, wt, wy, wc]
      simp only [Act.put, y1, y2, y3, y4, y5, y6, y7]
      refine tk (i := 11) (v := U y) rfl (by kernel_rfl) (fun _ _ _ h => h) rfl ?_ hH ?_
      · intro W hS; go_simp <;> simp only [wq, wr1, wt, wy, wc]
      simp only [Act.put, y1, y2, y3, y4, y5, y6, y7]
      refine wpAnyH_ready (rs := [3]) (by kernel_rfl) (by simp) ?_
      refine AllReadyH.cons rfl (fun K hK => ?_) AllReadyH.nil
      clear hH
      have cx2 : wr.drew.cell? ⟨b0 + 1, q, none⟩ = some (U x) := cx
      go_simp
      refine hK.out _ _ trivial (fun hH2 => ?_)
      clear hK K
      try simp only [Act.put, y1, y2, y3, y4, y5, y6, y7]
      refine tk (i := 12) (v := U z) rfl (by kernel_rfl) (fun _ _ _ h => h) rfl ?_ hH2 ?_
      · intro W hS; go_simp <;> simp only [wq, wr1, wt, wy, wc]
      simp only [Act.put, y1, y2, y3, y4, y5, y6, y7]
      refine tk (i := 13) (v := .pointer (some ⟨b0 + 1, q, none⟩)) rfl (by kernel_rfl) (fun _ _ _ h => h) rfl ?_ hH2 ?_
      · intro W hS; go_simp <;> simp only [wq, wr1, wt, wy, wc]
      simp only [Act.put, y1, y2, y3, y4, y5, y6, y7]
      refine wpAnyH_ready (rs := [14]) (by kernel_rfl) (by simp) ?_
      refine AllReadyH.cons rfl (fun K hK => ?_) AllReadyH.nil
      clear hH2
      have fx2 : wr.drew.frozen? ⟨b0 + 1, q, none⟩ = false := fx
      go_simp
      try go_wp2_with fail
      refine hK.out _ _ trivial (fun hH3 => ?_)
      clear hK K
      try simp only [Act.put, y1, y2, y3, y4, y5, y6, y7]
      refine wpAnyH_done (by kernel_rfl) ?_ _
      clear hH3 cx cx2 fx fx2 kz ky ky2
      go_wp2_with fail
      go_roundg (gk - 1)
      case measure => omega
      case rel => exact ⟨i + 1, by omega, by go_num, HZ2.out, HA2.out, HB2.out.drew⟩
    · obtain rfl : i = n := by omega
      have il : ¬ (i : Int) < (i : Int) := by omega
      rw [HE.out] at hA
      have R1 : Hid (A4 (numS s) = .agg #[U (w4 (numS s) 0), U (w4 (numS s) 1), U (w4 (numS s) 2), U (w4 (numS s) 3)]) := rfl
      have hA' : IHolds wr (b0 + 1) 81 [U (w4 (numS s) 0), U (w4 (numS s) 1), U (w4 (numS s) 2), U (w4 (numS s) 3)] := hA
      generalize w4 (numS s) 0 = z0 at *
      generalize w4 (numS s) 1 = z1 at *
      generalize w4 (numS s) 2 = z2 at *
      generalize w4 (numS s) 3 = z3 at *
      have c0 : wr.cell? ⟨b0 + 1, 0, none⟩ = some (U z0) := hA'.cell 0 (by simp)
      have c1 : wr.cell? ⟨b0 + 1, 1, none⟩ = some (U z1) := hA'.cell 1 (by simp)
      have c2 : wr.cell? ⟨b0 + 1, 2, none⟩ = some (U z2) := hA'.cell 2 (by simp)
      have c3 : wr.cell? ⟨b0 + 1, 3, none⟩ = some (U z3) := hA'.cell 3 (by simp)
      have d0 : wr.cell? ⟨b0, 0, none⟩ = some (.int .u64 0) := hZ.cell 0 (by simp)
      have d1 : wr.cell? ⟨b0, 1, none⟩ = some (.int .u64 0) := hZ.cell 1 (by simp)
      have d2 : wr.cell? ⟨b0, 2, none⟩ = some (.int .u64 0) := hZ.cell 2 (by simp)
      have d3 : wr.cell? ⟨b0, 3, none⟩ = some (.int .u64 0) := hZ.cell 3 (by simp)
      have f0 : ∀ i, wr.frozen? ⟨b0, i, none⟩ = false := fun i => hZ.frozen i
      obtain ⟨W9, hW9⟩ : ∃ X, X = (((wr.setCell ⟨b0, 0, none⟩ (U z0)).setCell ⟨b0, 1, none⟩ (U z1)).setCell ⟨b0, 2, none⟩ (U z2)).setCell ⟨b0, 3, none⟩ (U z3) := ⟨_, rfl⟩
      have hZ9 : Hid (IHolds W9 b0 81 [U z0, U z1, U z2, U z3]) := by
        show IHolds _ _ _ _
        rw [hW9]; exact (((hZ.set 0 (U z0)).set 1 (U z1)).set 2 (U z2)).set 3 (U z3)
      have hB9 : Hid (Below w.heap.size w W9) := by
        show Below _ _ _
        have hq : w.heap.size ≤ b0 := by rw [← q4.out]; omega
        rw [hW9]; exact (((hB.setCell hq _).setCell hq _).setCell hq _).setCell hq _
      clear hA hA' hZ hB q4 HE
      go_wp2_with fail
      rw [← hW9]
      clear hW9 c0 c1 c2 c3 d0 d1 d2 d3 f0
      have E0 : W9.cell? ⟨b0, 0, none⟩ = some (U z0) := hZ9.out.cell 0 (by simp)
      have E1 : W9.cell? ⟨b0, 1, none⟩ = some (U z1) := hZ9.out.cell 1 (by simp)
      have E2 : W9.cell? ⟨b0, 2, none⟩ = some (U z2) := hZ9.out.cell 2 (by simp)
      have E3 : W9.cell? ⟨b0, 3, none⟩ = some (U z3) := hZ9.out.cell 3 (by simp)
      exact bodyPost_ret (v := .agg #[U z0, U z1, U z2, U z3]) (by simp [results, Tryz.results74, go_sem, E0, E1, E2, E3]) rfl ⟨by rw [R1.out], hB9.out⟩
end Go.Proofs.YtohpbclofcflaaaGreat
