/- What is reduced. -/
import Derived.Test.YtckfdpiohkggaabDoorFNum
set_option linter.unusedSimpArgs false
set_option linter.unusedVariables false
namespace Go.Proofs.YtckfdpiohkggaabDoor
open Go.RowKit Go.Deep Go.PlainAid

theorem numS_extract (s : ByteArray) (i j : Nat) : numS (s.extract i j) = beV ((s.data.toList.drop i).take (j - i)) := by
  unfold numS
  rw [ByteArray.data_extract, Array.toList_extract]
theorem size_extract (s : ByteArray) (i j : Nat) (h : j ≤ s.size) : (s.extract i j).size = j - i := by
  rw [ByteArray.size_extract]; omega
theorem beV_upto (l : List UInt8) (i j : Nat) (h : i ≤ j) (hj : j ≤ l.length) : beV (l.take j) = beV (l.take i) * 256 ^ (j - i) + beV ((l.drop i).take (j - i)) := by
  have e : l.take j = l.take i ++ (l.drop i).take (j - i) := by
    have q := List.take_append_drop i (l.take j)
    rw [List.take_take, Nat.min_eq_left h] at q
    rw [List.take_drop, show i + (j - i) = j by omega]
    exact q.symm
  rw [e, beV_append, List.length_take, List.length_drop, Nat.min_eq_left (by omega)]
theorem BB_pow (W : Nat) : BB ^ W = 256 ^ (W * 8) := by rw [BB_256, ← Nat.pow_mul, Nat.mul_comm]
theorem belowN_mod {M x y : Nat} (hx : x < M) (hy : y < M) : belowN M (x + y) = (x + y) % M := by
  unfold belowN
  split
  · rw [Nat.mod_eq_of_lt (by assumption)]
  · rw [Nat.mod_eq_sub_mod (by omega), Nat.mod_eq_of_lt (by omega)]
/-- One piece more. -/
theorem red_step {l : List UInt8} {M Wd i j S : Nat} (hM : 0 < M) (hij : i ≤ j) (hj : j ≤ l.length) (hS : S = beV (l.take i) % M) (h : i + Wd * 8 = j ∨ i = 0) :
    belowN M (S * BB ^ Wd % M + beV ((l.drop i).take (j - i)) % M) = beV (l.take j) % M := by
  rw [belowN_mod (Nat.mod_lt _ hM) (Nat.mod_lt _ hM), ← Nat.add_mod, beV_upto l i j hij hj]
  rcases h with h | h
  · rw [show j - i = Wd * 8 by omega, ← BB_pow, Nat.add_mod, hS, Nat.mod_mul_mod, ← Nat.add_mod]
  · subst h
    have : S = 0 := by rw [hS]; simp [beV]
    rw [this]
    simp [beV]
set_option maxRecDepth 100000 in
set_option maxHeartbeats 4000000 in
theorem freduceA {w : World} {g o Wd M low one sq Ri : Nat} (F : Hid (FH w g o Wd M low one sq)) (fl : Fld Wd M low one sq Ri) (s : ByteArray) (hs : s.size ≤ 1000000) :
    Calls Tryd.prog 24 #[.pointer (some ⟨g, o, none⟩), .string s] w fun e w' => e = .returned (A4 (numS s % M)) ∧ Below w.heap.size w w' := by
  have hw1 := fl.w1
  have hw4 := fl.w4
  have HM0 : Hid (0 < M) := by have := fl.m2; show _ < _; omega
  obtain ⟨n, hn⟩ : ∃ n, n = s.size := ⟨_, rfl⟩
  have hsz : s.size = n := hn.symm
  have HN : Hid (s.data.toList.length = n) := by show _ = _; rw [hn]; rfl
  rw [← hn] at hs
  clear hn
  obtain ⟨z, hz⟩ : ∃ z, z = Wd * 8 := ⟨_, rfl⟩
  have kz : (Wd : Int) * 8 = (z : Int) := by omega
  have z0 : 0 < z := by omega
  have z9 : z ≤ 32 := by omega
  have Hz : Hid (z = Wd * 8) := hz
  have HBW : Hid (BB ^ Wd = 256 ^ z) := by show _ = _; rw [hz]; exact BB_pow Wd
  clear hz
  have z1 : (z : Int) ≠ 0 := by omega
  obtain ⟨t0, ht0⟩ : ∃ t, t = n % z := ⟨_, rfl⟩
  have kt : (n : Int) % (z : Int) = (t0 : Int) := by rw [ht0]; exact (Int.natCast_emod n z).symm
  have kt2 : (n : Int).tmod (z : Int) = (t0 : Int) := by rw [Int.tmod_eq_emod_of_nonneg (by omega)]; exact kt
  have Hdm : Hid (z * (n / z) + t0 = n) := by show _ = _; rw [ht0]; exact Nat.div_add_mod n z
  have t09 : t0 < z := by rw [ht0]; exact Nat.mod_lt _ z0
  clear ht0
  have CN : Hid (∀ W i j, i ≤ j → j ≤ n → j - i ≤ 32 → Calls Tryd.prog 35 #[.string (s.extract i j)] W fun e w' => e = .returned (A4 (numS (s.extract i j))) ∧ Below W.heap.size W w') := fun W i j h1 h2 h3 => numberOf_any W _ (by rw [size_extract s i j (by omega)]; exact h3)
  have CS : Hid (∀ W S, FH W g o Wd M low one sq → S < M → Calls Tryd.prog 37 #[.pointer (some ⟨g, o, none⟩), A4 S, A4 sq] W fun e w' => e = .returned (A4 (S * BB ^ Wd % M)) ∧ Below W.heap.size W w') := fun W S hF hS => joined_sq hF fl (by have := fl.m9; omega)
  have CO : Hid (∀ W p, FH W g o Wd M low one sq → p < BB ^ Wd → Calls Tryd.prog 37 #[.pointer (some ⟨g, o, none⟩), A4 p, A4 one] W fun e w' => e = .returned (A4 (p % M)) ∧ Below W.heap.size W w') := fun W p hF hp => joined_one hF fl hp
  have CP : Hid (∀ W x y, FH W g o Wd M low one sq → x < M → y < M → Calls Tryd.prog 36 #[.pointer (some ⟨g, o, none⟩), A4 x, A4 y] W fun e w' => e = .returned (A4 (belowN M (x + y))) ∧ Below W.heap.size W w') := fun W x y hF hx hy => fplusA hF hx hy fl.big
  clear fl
  have Jr : Hid (IHolds ((w.alloc (.cells #[.int .u64 0, .int .u64 0, .int .u64 0, .int .u64 0] 57)).alloc (.cells #[.int .u64 0, .int .u64 0, .int .u64 0, .int .u64 0] 57)) w.heap.size 57 [.int .u64 0, .int .u64 0, .int .u64 0, .int .u64 0]) := (IHolds.new w 57 [.int .u64 0, .int .u64 0, .int .u64 0, .int .u64 0]).alloc _
  have Js : Hid (IHolds ((w.alloc (.cells #[.int .u64 0, .int .u64 0, .int .u64 0, .int .u64 0] 57)).alloc (.cells #[.int .u64 0, .int .u64 0, .int .u64 0, .int .u64 0] 57)) (w.heap.size + 1) 57 [.int .u64 0, .int .u64 0, .int .u64 0, .int .u64 0]) := by
    have q := IHolds.new (w.alloc (.cells #[.int .u64 0, .int .u64 0, .int .u64 0, .int .u64 0] 57)) 57 [.int .u64 0, .int .u64 0, .int .u64 0, .int .u64 0]
    rw [World.size_alloc] at q
    exact q
  have B : Hid (Below w.heap.size w ((w.alloc (.cells #[.int .u64 0, .int .u64 0, .int .u64 0, .int .u64 0] 57)).alloc (.cells #[.int .u64 0, .int .u64 0, .int .u64 0, .int .u64 0] 57))) := ((Below.refl _ w).alloc (Nat.le_refl _) _).alloc (by simp only [World.size_alloc]; omega) _
  have hgl : g < w.heap.size := F.out.lt
  replace F := aF F B.out
  have fc := F.out.c0
  go_enter Tryd.func24, Tryd.ntmps24
  go_wp2_with fail
  clear fc
  generalize ((w.alloc (.cells #[.int .u64 0, .int .u64 0, .int .u64 0, .int .u64 0] 57)).alloc (.cells #[.int .u64 0, .int .u64 0, .int .u64 0, .int .u64 0] 57)) = U0 at *
  obtain ⟨b0, hb0⟩ : ∃ b, b = w.heap.size := ⟨_, rfl⟩
  rw [← hb0] at Jr Js hgl ⊢
  have Hb0 : Hid (b0 = w.heap.size) := hb0
  have Js : Hid (IHolds U0 (b0 + 1) 57 (us (ws4 0))) := by rw [ws4_zero]; exact Js
  clear hb0
  go_loopg [7, 8] (n / z + 1) (fun gk v7 v8 wr => ∃ (k i j S : Nat), gk + k = n / z + 1 ∧ v7 = .int .i64 (i : Int) ∧ v8 = .int .i64 (j : Int) ∧ j = t0 + k * z ∧ (i + z = j ∧ 0 < k ∨ i = 0 ∧ k = 0) ∧ i ≤ n ∧ S = beV (s.data.toList.take i) % M ∧ IHolds wr b0 57 [.int .u64 0, .int .u64 0, .int .u64 0, .int .u64 0] ∧ IHolds wr (b0 + 1) 57 (us (ws4 S)) ∧ FH wr g o Wd M low one sq ∧ Below w.heap.size w wr)
  case atStart => exact ⟨0, 0, t0, 0, by omega, rfl, rfl, by omega, Or.inr ⟨rfl, rfl⟩, by omega, by simp [beV], Jr.out, Js.out, F.out, B.out⟩
  case round =>
    clear Jr Js F B
    obtain ⟨k, i, j, S, hk, rfl, rfl, hj, hij, hin, hS, hR, hA, hF, hB⟩ := hrel
    have Jr : Hid (IHolds wr b0 57 [.int .u64 0, .int .u64 0, .int .u64 0, .int .u64 0]) := hR
    have Js : Hid (IHolds wr (b0 + 1) 57 [U (w4 S 0), U (w4 S 1), U (w4 S 2), U (w4 S 3)]) := hA
    have F : Hid (FH wr g o Wd M low one sq) := hF
    have B : Hid (Below w.heap.size w wr) := hB
    have HS : Hid (S = beV (s.data.toList.take i) % M) := hS
    have Hij : Hid (i + z = j ∧ 0 < k ∨ i = 0 ∧ k = 0) := hij
    have Hj : Hid (j = t0 + k * z) := hj
    have Hk : Hid (gk + k = n / z + 1) := hk
    clear hR hA hF hB hS
    by_cases hjn : j ≤ n
    · have jl : (j : Int) ≤ (n : Int) := by omega
      have ilj : i ≤ j := by rcases hij with h | h <;> omega
      have ijz : j - i ≤ z := by rcases hij with ⟨h, _⟩ | ⟨h, h2⟩
                                 · omega
                                 · rw [h2] at hj; omega
      have il2 : (i : Int) ≤ (j : Int) := by omega
      have S9 : S < M := by rw [HS.out]; exact Nat.mod_lt _ HM0.out
      have C1 := CN.out wr i j ilj hjn (by omega)
      obtain ⟨p, hp⟩ : ∃ p, p = numS (s.extract i j) := ⟨_, rfl⟩
      rw [← hp] at C1
      have p9 : p < BB ^ Wd := by
        rw [HBW.out, hp]
        have h1 := numS_lt (s.extract i j)
        rw [size_extract s i j (by omega)] at h1
        exact Nat.lt_of_lt_of_le h1 (Nat.pow_le_pow_right (by omega) ijz)
      have HS2 : Hid (belowN M (S * BB ^ Wd % M + p % M) = beV (s.data.toList.take j) % M) := by
        have h := red_step (l := s.data.toList) (M := M) (Wd := Wd) (i := i) (j := j) (S := S) HM0.out ilj (by rw [HN.out]; exact hjn) HS.out (by have := Hz.out; rcases Hij.out with h | h <;> omega)
        rw [← numS_extract, ← hp] at h
        exact h
      have CS2 : Hid (∀ W, FH W g o Wd M low one sq → Calls Tryd.prog 37 #[.pointer (some ⟨g, o, none⟩), .agg #[U (w4 S 0), U (w4 S 1), U (w4 S 2), U (w4 S 3)], .agg #[U (w4 sq 0), U (w4 sq 1), U (w4 sq 2), U (w4 sq 3)]] W fun e w' => e = .returned (A4 (S * BB ^ Wd % M)) ∧ Below W.heap.size W w') := fun W hF => CS.out W S hF S9
      have CO2 : Hid (∀ W, FH W g o Wd M low one sq → Calls Tryd.prog 37 #[.pointer (some ⟨g, o, none⟩), .agg #[U (w4 p 0), U (w4 p 1), U (w4 p 2), U (w4 p 3)], .agg #[U (w4 one 0), U (w4 one 1), U (w4 one 2), U (w4 one 3)]] W fun e w' => e = .returned (A4 (p % M)) ∧ Below W.heap.size W w') := fun W hF => CO.out W p hF p9
      have CP2 : Hid (∀ W, FH W g o Wd M low one sq → Calls Tryd.prog 36 #[.pointer (some ⟨g, o, none⟩), A4 (S * BB ^ Wd % M), A4 (p % M)] W fun e w' => e = .returned (A4 (belowN M (S * BB ^ Wd % M + p % M))) ∧ Below W.heap.size W w') := fun W hF => CP.out W _ _ hF (Nat.mod_lt _ HM0.out) (Nat.mod_lt _ HM0.out)
      have HSz : Hid (belowN M (S * BB ^ Wd % M + p % M) < M) := by show _ < _; rw [HS2.out]; exact Nat.mod_lt _ HM0.out
      generalize belowN M (S * BB ^ Wd % M + p % M) = S' at *
      generalize A4 (S * BB ^ Wd % M) = xS at *
      generalize A4 (p % M) = xP at *
      have CP3 : Hid (∀ W, FH W g o Wd M low one sq → Calls Tryd.prog 36 #[.pointer (some ⟨g, o, none⟩), xS, xP] W fun e w' => e = .returned (.agg #[U (w4 S' 0), U (w4 S' 1), U (w4 S' 2), U (w4 S' 3)]) ∧ Below W.heap.size W w') := CP2
      have C1' : Hid (Calls Tryd.prog 35 #[.string (s.extract i j)] wr fun e w' => e = .returned (.agg #[U (w4 p 0), U (w4 p 1), U (w4 p 2), U (w4 p 3)]) ∧ Below wr.heap.size wr w') := C1
      clear C1 hp hij hj CN CS CO CP p9 S9 hk CP2
      have HG0 : k ≤ n / z := by
        have h1 := Hdm.out
        have h2 := Hj.out
        rcases Nat.lt_or_ge (n / z) k with h | h
        · exfalso
          have h3 : z * (n / z + 1) ≤ z * k := Nat.mul_le_mul_left _ h
          rw [Nat.mul_add, Nat.mul_one, Nat.mul_comm z k] at h3
          omega
        · exact h
      have HG : Hid (gk - 1 < gk) := by have := Hk.out; show _ < _; omega
      have HG1 : Hid (gk - 1 + (k + 1) = n / z + 1) := by have := Hk.out; show _ = _; omega
      have HG2 : Hid (j + z = t0 + (k + 1) * z) := by have := Hj.out; show _ = _; rw [Nat.add_mul]; omega
      clear HG0
      go_wp2_with fail
      refine C1'.out.mono ?_
      rintro e V1 ⟨rfl, hb⟩
      replace F := aF F hb
      replace B := aB B hb
      replace Jr := aJ Jr hb
      replace Js := aJ Js hb
      clear hb
      clear C1'
      have neF_d : Hid (g ≠ V1.heap.size) := F.out.ne
      have hb := nB V1 (.cells #[U (w4 p 0), U (w4 p 1), U (w4 p 2), U (w4 p 3)] 57)
      have Jd : Hid (IHolds (V1.alloc (.cells #[U (w4 p 0), U (w4 p 1), U (w4 p 2), U (w4 p 3)] 57)) V1.heap.size 57 [U (w4 p 0), U (w4 p 1), U (w4 p 2), U (w4 p 3)]) := IHolds.new _ _ _
      have ne_r_d := nJ Jr
      have ne_s_d := nJ Js
      have ge_d : Hid (w.heap.size ≤ V1.heap.size) := B.out.size
      replace F := aF F hb
      replace B := aB B hb
      replace Jr := aJ Jr hb
      replace Js := aJ Js hb
      clear hb
      go_wp2_with fail
      generalize (V1.alloc (.cells #[U (w4 p 0), U (w4 p 1), U (w4 p 2), U (w4 p 3)] 57)) = U1 at *
      generalize V1.heap.size = b2 at *
      have neF_s : Hid (g ≠ b0 + 1) := by show _ ≠ _; omega
      have ge_s : Hid (w.heap.size ≤ b0 + 1) := by show _ ≤ _; rw [← Hb0.out]; omega
      have hb := dB U1
      replace F := aF F hb
      replace B := aB B hb
      replace Jr := aJ Jr hb
      replace Js := aJ Js hb
      replace Jd := aJ Jd hb
      clear hb
      refine wp_region_held_drew (S := fun W => (IHolds W (b2) 57 [U (w4 p 0), U (w4 p 1), U (w4 p 2), U (w4 p 3)]) ∧ (FH W g o Wd M low one sq)) (by kernel_rfl) ⟨Jd.out, F.out⟩ (fun hHeld1 => ?_)
      generalize U1.drew = U3 at *
      refine tk (i := 0) (v := .pointer (some ⟨g, o, none⟩)) rfl (by kernel_rfl) (fun _ _ _ h => h) rfl ?_ hHeld1 ?_
      · intro W hS; go_simp
      simp only [Act.put, y1, y2, y3, y4, y5, y6, y7]
      refine tk (i := 1) (v := .pointer (some ⟨g, o, none⟩)) rfl (by kernel_rfl) (fun _ _ _ h => h) rfl ?_ hHeld1 ?_
      · intro W hS; go_simp
      simp only [Act.put, y1, y2, y3, y4, y5, y6, y7]
      refine tk (i := 3) (v := .pointer (some ⟨g, o, none⟩)) rfl (by kernel_rfl) (fun _ _ _ h => h) rfl ?_ hHeld1 ?_
      · intro W hS; go_simp
      simp only [Act.put, y1, y2, y3, y4, y5, y6, y7]
      refine tk (i := 8) (v := .pointer (some ⟨g, o, none⟩)) rfl (by kernel_rfl) (fun _ _ _ h => h) rfl ?_ hHeld1 ?_
      · intro W hS; go_simp
      simp only [Act.put, y1, y2, y3, y4, y5, y6, y7]
      refine tk (i := 9) (v := .agg #[U (w4 p 0), U (w4 p 1), U (w4 p 2), U (w4 p 3)]) rfl (by kernel_rfl) (fun _ _ _ h => h) rfl ?_ hHeld1 ?_
      · intro W hS; have zd_0 : W.cell? ⟨b2, 0, none⟩ = some (U (w4 p 0)) := IHolds.cell (l := [U (w4 p 0), U (w4 p 1), U (w4 p 2), U (w4 p 3)]) (t := 57) (b := b2) (w := W) (hS.1) 0 (by simp); have zd_1 : W.cell? ⟨b2, 1, none⟩ = some (U (w4 p 1)) := IHolds.cell (l := [U (w4 p 0), U (w4 p 1), U (w4 p 2), U (w4 p 3)]) (t := 57) (b := b2) (w := W) (hS.1) 1 (by simp); have zd_2 : W.cell? ⟨b2, 2, none⟩ = some (U (w4 p 2)) := IHolds.cell (l := [U (w4 p 0), U (w4 p 1), U (w4 p 2), U (w4 p 3)]) (t := 57) (b := b2) (w := W) (hS.1) 2 (by simp); have zd_3 : W.cell? ⟨b2, 3, none⟩ = some (U (w4 p 3)) := IHolds.cell (l := [U (w4 p 0), U (w4 p 1), U (w4 p 2), U (w4 p 3)]) (t := 57) (b := b2) (w := W) (hS.1) 3 (by simp); go_simp
      simp only [Act.put, y1, y2, y3, y4, y5, y6, y7]
      refine tk (i := 10) (v := .pointer (some ⟨g, o, none⟩)) rfl (by kernel_rfl) (fun _ _ _ h => h) rfl ?_ hHeld1 ?_
      · intro W hS; go_simp
      simp only [Act.put, y1, y2, y3, y4, y5, y6, y7]
      refine tk (i := 4) (v := .pointer (some ⟨g, o, none⟩)) rfl (by kernel_rfl) (fun _ _ _ h => h) rfl ?_ hHeld1 ?_
      · intro W hS; go_simp
      simp only [Act.put, y1, y2, y3, y4, y5, y6, y7]
      refine tk (i := 11) (v := .pointer (some ⟨g, o, none⟩)) rfl (by kernel_rfl) (fun _ _ _ h => h) rfl ?_ hHeld1 ?_
      · intro W hS; go_simp
      simp only [Act.put, y1, y2, y3, y4, y5, y6, y7]
      refine tk (i := 5) (v := .pointer (some ⟨g, o + 10, none⟩)) rfl (by kernel_rfl) (fun _ _ _ h => h) rfl ?_ hHeld1 ?_
      · intro W hS; go_simp
      simp only [Act.put, y1, y2, y3, y4, y5, y6, y7]
      refine tk (i := 12) (v := .pointer (some ⟨g, o + 6, none⟩)) rfl (by kernel_rfl) (fun _ _ _ h => h) rfl ?_ hHeld1 ?_
      · intro W hS; go_simp
      simp only [Act.put, y1, y2, y3, y4, y5, y6, y7]
      refine tk (i := 6) (v := .agg #[U (w4 sq 0), U (w4 sq 1), U (w4 sq 2), U (w4 sq 3)]) rfl (by kernel_rfl) (fun _ _ _ h => h) rfl ?_ hHeld1 ?_
      · intro W hS; have fz := hS.2; have fz0 := fz.c0; have fz1 := fz.m0; have fz2 := fz.m1; have fz3 := fz.m2; have fz4 := fz.m3; have fz5 := fz.lo; have fz6 := fz.o0; have fz7 := fz.o1; have fz8 := fz.o2; have fz9 := fz.o3; have fz10 := fz.s0; have fz11 := fz.s1; have fz12 := fz.s2; have fz13 := fz.s3; go_simp
      simp only [Act.put, y1, y2, y3, y4, y5, y6, y7]
      refine tk (i := 13) (v := .agg #[U (w4 one 0), U (w4 one 1), U (w4 one 2), U (w4 one 3)]) rfl (by kernel_rfl) (fun _ _ _ h => h) rfl ?_ hHeld1 ?_
      · intro W hS; have fz := hS.2; have fz0 := fz.c0; have fz1 := fz.m0; have fz2 := fz.m1; have fz3 := fz.m2; have fz4 := fz.m3; have fz5 := fz.lo; have fz6 := fz.o0; have fz7 := fz.o1; have fz8 := fz.o2; have fz9 := fz.o3; have fz10 := fz.s0; have fz11 := fz.s1; have fz12 := fz.s2; have fz13 := fz.s3; go_simp
      simp only [Act.put, y1, y2, y3, y4, y5, y6, y7]
      refine wpAnyH_ready (rs := [2]) (by kernel_rfl) (by simp) ?_
      refine AllReadyH.cons rfl (fun K hK => ?_) AllReadyH.nil
      clear hHeld1
      have zs_0 : U3.cell? ⟨b0 + 1, 0, none⟩ = some (U (w4 S 0)) := IHolds.cell (l := [U (w4 S 0), U (w4 S 1), U (w4 S 2), U (w4 S 3)]) (t := 57) (b := b0 + 1) (w := U3) (Js.out) 0 (by simp)
      have zs_1 : U3.cell? ⟨b0 + 1, 1, none⟩ = some (U (w4 S 1)) := IHolds.cell (l := [U (w4 S 0), U (w4 S 1), U (w4 S 2), U (w4 S 3)]) (t := 57) (b := b0 + 1) (w := U3) (Js.out) 1 (by simp)
      have zs_2 : U3.cell? ⟨b0 + 1, 2, none⟩ = some (U (w4 S 2)) := IHolds.cell (l := [U (w4 S 0), U (w4 S 1), U (w4 S 2), U (w4 S 3)]) (t := 57) (b := b0 + 1) (w := U3) (Js.out) 2 (by simp)
      have zs_3 : U3.cell? ⟨b0 + 1, 3, none⟩ = some (U (w4 S 3)) := IHolds.cell (l := [U (w4 S 0), U (w4 S 1), U (w4 S 2), U (w4 S 3)]) (t := 57) (b := b0 + 1) (w := U3) (Js.out) 3 (by simp)
      go_simp
      clear zs_0 zs_1 zs_2 zs_3
      refine hK.out _ _ (⟨Jd.out, F.out⟩) (fun hHeld2 => ?_)
      clear hK K
      try simp only [Act.put, y1, y2, y3, y4, y5, y6, y7]
      refine wpAnyH_ready (rs := [7]) (by kernel_rfl) (by simp) ?_
      refine AllReadyH.cons rfl (fun K hK => ?_) AllReadyH.nil
      clear hHeld2
      go_simp
      refine (CS2.out U3 F.out).mono ?_
      rintro e U4 ⟨rfl, hb⟩
      replace F := aF F hb
      replace B := aB B hb
      replace Jr := aJ Jr hb
      replace Js := aJ Js hb
      replace Jd := aJ Jd hb
      clear hb
      go_wp2_with fail
      refine hK.out _ _ (⟨Jd.out, F.out⟩) (fun hHeld3 => ?_)
      clear hK K
      try simp only [Act.put, y1, y2, y3, y4, y5, y6, y7]
      refine wpAnyH_ready (rs := [14]) (by kernel_rfl) (by simp) ?_
      refine AllReadyH.cons rfl (fun K hK => ?_) AllReadyH.nil
      clear hHeld3
      go_simp
      refine (CO2.out U4 F.out).mono ?_
      rintro e U5 ⟨rfl, hb⟩
      replace F := aF F hb
      replace B := aB B hb
      replace Jr := aJ Jr hb
      replace Js := aJ Js hb
      replace Jd := aJ Jd hb
      clear hb
      go_wp2_with fail
      refine hK.out _ _ (⟨Jd.out, F.out⟩) (fun hHeld4 => ?_)
      clear hK K
      try simp only [Act.put, y1, y2, y3, y4, y5, y6, y7]
      refine wpAnyH_ready (rs := [15]) (by kernel_rfl) (by simp) ?_
      refine AllReadyH.cons rfl (fun K hK => ?_) AllReadyH.nil
      clear hHeld4
      go_simp
      refine (CP3.out U5 F.out).mono ?_
      rintro e U6 ⟨rfl, hb⟩
      replace F := aF F hb
      replace B := aB B hb
      replace Jr := aJ Jr hb
      replace Js := aJ Js hb
      replace Jd := aJ Jd hb
      clear hb
      go_wp2_with fail
      refine hK.out _ _ (⟨Jd.out, F.out⟩) (fun hHeld5 => ?_)
      clear hK K
      try simp only [Act.put, y1, y2, y3, y4, y5, y6, y7]
      refine wpAnyH_ready (rs := [16]) (by kernel_rfl) (by simp) ?_
      refine AllReadyH.cons rfl (fun K hK => ?_) AllReadyH.nil
      clear hHeld5
      have zs_0 : U6.cell? ⟨b0 + 1, 0, none⟩ = some (U (w4 S 0)) := IHolds.cell (l := [U (w4 S 0), U (w4 S 1), U (w4 S 2), U (w4 S 3)]) (t := 57) (b := b0 + 1) (w := U6) (Js.out) 0 (by simp)
      have zs_1 : U6.cell? ⟨b0 + 1, 1, none⟩ = some (U (w4 S 1)) := IHolds.cell (l := [U (w4 S 0), U (w4 S 1), U (w4 S 2), U (w4 S 3)]) (t := 57) (b := b0 + 1) (w := U6) (Js.out) 1 (by simp)
      have zs_2 : U6.cell? ⟨b0 + 1, 2, none⟩ = some (U (w4 S 2)) := IHolds.cell (l := [U (w4 S 0), U (w4 S 1), U (w4 S 2), U (w4 S 3)]) (t := 57) (b := b0 + 1) (w := U6) (Js.out) 2 (by simp)
      have zs_3 : U6.cell? ⟨b0 + 1, 3, none⟩ = some (U (w4 S 3)) := IHolds.cell (l := [U (w4 S 0), U (w4 S 1), U (w4 S 2), U (w4 S 3)]) (t := 57) (b := b0 + 1) (w := U6) (Js.out) 3 (by simp)
      have f0 := fJ Js
      have hBut : But (b0 + 1) U6 ((((U6.setCell ⟨b0 + 1, 0, none⟩ (U (w4 S' 0))).setCell ⟨b0 + 1, 1, none⟩ (U (w4 S' 1))).setCell ⟨b0 + 1, 2, none⟩ (U (w4 S' 2))).setCell ⟨b0 + 1, 3, none⟩ (U (w4 S' 3))) := (((((But.refl _ U6).setCell 0 (U (w4 S' 0))).setCell 1 (U (w4 S' 1))).setCell 2 (U (w4 S' 2))).setCell 3 (U (w4 S' 3)))
      replace F := tF F hBut neF_s.out
      have I4 : Hid (IHolds _ (b0 + 1) 57 [U (w4 S' 0), U (w4 S' 1), U (w4 S' 2), U (w4 S' 3)]) := ((((Js.out.set 0 (U (w4 S' 0))).set 1 (U (w4 S' 1))).set 2 (U (w4 S' 2))).set 3 (U (w4 S' 3)))
      replace B : Hid (Below w.heap.size w ((((U6.setCell ⟨b0 + 1, 0, none⟩ (U (w4 S' 0))).setCell ⟨b0 + 1, 1, none⟩ (U (w4 S' 1))).setCell ⟨b0 + 1, 2, none⟩ (U (w4 S' 2))).setCell ⟨b0 + 1, 3, none⟩ (U (w4 S' 3)))) := ((((B.out.setCell (by first | exact Nat.le_refl _ | exact ge_s.out | (show w.heap.size ≤ b0 + 1; omega)) _).setCell (by first | exact Nat.le_refl _ | exact ge_s.out | (show w.heap.size ≤ b0 + 1; omega)) _).setCell (by first | exact Nat.le_refl _ | exact ge_s.out | (show w.heap.size ≤ b0 + 1; omega)) _).setCell (by first | exact Nat.le_refl _ | exact ge_s.out | (show w.heap.size ≤ b0 + 1; omega)) _)
      replace Jr := tJ Jr hBut (by omega)
      replace Jd := tJ Jd hBut (fun h => ne_s_d.out h.symm)
      replace Js := I4
      clear I4 hBut
      go_simp
      try go_wp2_with fail
      clear zs_0 zs_1 zs_2 zs_3
      clear f0
      generalize ((((U6.setCell ⟨b0 + 1, 0, none⟩ (U (w4 S' 0))).setCell ⟨b0 + 1, 1, none⟩ (U (w4 S' 1))).setCell ⟨b0 + 1, 2, none⟩ (U (w4 S' 2))).setCell ⟨b0 + 1, 3, none⟩ (U (w4 S' 3))) = U7 at *
      refine hK.out _ _ (⟨Jd.out, F.out⟩) (fun hHeld6 => ?_)
      clear hK K
      try simp only [Act.put, y1, y2, y3, y4, y5, y6, y7]
      refine wpAnyH_done (by kernel_rfl) ?_ _
      clear hHeld6
      have Jsx : Hid (IHolds U7 (b0 + 1) 57 (us (ws4 S'))) := Js.out
      clear Jd
      go_wp2_with fail
      go_roundg (gk - 1)
      case measure => exact HG.out
      case rel => exact ⟨k + 1, j, j + z, S', HG1.out, rfl, by go_num, HG2.out, Or.inl ⟨rfl, by omega⟩, hjn, HS2.out, Jr.out, Jsx.out, F.out, B.out⟩
    · have jl : ¬ (j : Int) ≤ (n : Int) := by omega
      have ein : i = n := by
        have h1 := Hdm.out
        have h2 := Hj.out
        have h5 : k = n / z + 1 := by
          have h6 := Hk.out
          rcases Nat.lt_or_ge k (n / z + 1) with h | h
          · exfalso
            have h3 : z * k ≤ z * (n / z) := Nat.mul_le_mul_left _ (by omega)
            rw [Nat.mul_comm z k] at h3
            omega
          · omega
        rcases hij with ⟨h, _⟩ | ⟨_, h⟩
        · rw [h5, Nat.add_mul, Nat.one_mul, Nat.mul_comm (n / z)] at h2
          omega
        · exact absurd (h.symm.trans h5) (Nat.succ_ne_zero _).symm
      have HE : Hid (S = numS s % M) := by
        show _ = _
        rw [HS.out, ein, ← HN.out, List.take_length]
        rfl
      clear hij hj hk ein
      have neF_r : Hid (g ≠ b0) := by show _ ≠ _; omega
      have ge_r : Hid (w.heap.size ≤ b0) := by show _ ≤ _; rw [← Hb0.out]; omega
      have Ks : Hid (IHolds wr (b0 + 1) 57 [U (w4 S 0), U (w4 S 1), U (w4 S 2), U (w4 S 3)]) := Js.out
      have zr_0 : wr.cell? ⟨b0, 0, none⟩ = some (.int .u64 0) := IHolds.cell (l := [.int .u64 0, .int .u64 0, .int .u64 0, .int .u64 0]) (t := 57) (b := b0) (w := wr) (Jr.out) 0 (by simp)
      have zr_1 : wr.cell? ⟨b0, 1, none⟩ = some (.int .u64 0) := IHolds.cell (l := [.int .u64 0, .int .u64 0, .int .u64 0, .int .u64 0]) (t := 57) (b := b0) (w := wr) (Jr.out) 1 (by simp)
      have zr_2 : wr.cell? ⟨b0, 2, none⟩ = some (.int .u64 0) := IHolds.cell (l := [.int .u64 0, .int .u64 0, .int .u64 0, .int .u64 0]) (t := 57) (b := b0) (w := wr) (Jr.out) 2 (by simp)
      have zr_3 : wr.cell? ⟨b0, 3, none⟩ = some (.int .u64 0) := IHolds.cell (l := [.int .u64 0, .int .u64 0, .int .u64 0, .int .u64 0]) (t := 57) (b := b0) (w := wr) (Jr.out) 3 (by simp)
      have f0 := fJ Jr
      have hBut : But (b0) wr ((((wr.setCell ⟨b0, 0, none⟩ (U (w4 S 0))).setCell ⟨b0, 1, none⟩ (U (w4 S 1))).setCell ⟨b0, 2, none⟩ (U (w4 S 2))).setCell ⟨b0, 3, none⟩ (U (w4 S 3))) := (((((But.refl _ wr).setCell 0 (U (w4 S 0))).setCell 1 (U (w4 S 1))).setCell 2 (U (w4 S 2))).setCell 3 (U (w4 S 3)))
      replace F := tF F hBut neF_r.out
      have I4 : Hid (IHolds _ (b0) 57 [U (w4 S 0), U (w4 S 1), U (w4 S 2), U (w4 S 3)]) := ((((Jr.out.set 0 (U (w4 S 0))).set 1 (U (w4 S 1))).set 2 (U (w4 S 2))).set 3 (U (w4 S 3)))
      replace B : Hid (Below w.heap.size w ((((wr.setCell ⟨b0, 0, none⟩ (U (w4 S 0))).setCell ⟨b0, 1, none⟩ (U (w4 S 1))).setCell ⟨b0, 2, none⟩ (U (w4 S 2))).setCell ⟨b0, 3, none⟩ (U (w4 S 3)))) := ((((B.out.setCell (by first | exact Nat.le_refl _ | exact ge_r.out | (show w.heap.size ≤ b0; omega)) _).setCell (by first | exact Nat.le_refl _ | exact ge_r.out | (show w.heap.size ≤ b0; omega)) _).setCell (by first | exact Nat.le_refl _ | exact ge_r.out | (show w.heap.size ≤ b0; omega)) _).setCell (by first | exact Nat.le_refl _ | exact ge_r.out | (show w.heap.size ≤ b0; omega)) _)
      replace Js := tJ Js hBut (by omega)
      replace Jr := I4
      clear I4 hBut
      have zs_0 : wr.cell? ⟨b0 + 1, 0, none⟩ = some (U (w4 S 0)) := IHolds.cell (l := [U (w4 S 0), U (w4 S 1), U (w4 S 2), U (w4 S 3)]) (t := 57) (b := b0 + 1) (w := wr) (Ks.out) 0 (by simp)
      have zs_1 : wr.cell? ⟨b0 + 1, 1, none⟩ = some (U (w4 S 1)) := IHolds.cell (l := [U (w4 S 0), U (w4 S 1), U (w4 S 2), U (w4 S 3)]) (t := 57) (b := b0 + 1) (w := wr) (Ks.out) 1 (by simp)
      have zs_2 : wr.cell? ⟨b0 + 1, 2, none⟩ = some (U (w4 S 2)) := IHolds.cell (l := [U (w4 S 0), U (w4 S 1), U (w4 S 2), U (w4 S 3)]) (t := 57) (b := b0 + 1) (w := wr) (Ks.out) 2 (by simp)
      have zs_3 : wr.cell? ⟨b0 + 1, 3, none⟩ = some (U (w4 S 3)) := IHolds.cell (l := [U (w4 S 0), U (w4 S 1), U (w4 S 2), U (w4 S 3)]) (t := 57) (b := b0 + 1) (w := wr) (Ks.out) 3 (by simp)
      go_wp2_with fail
      clear zs_0 zs_1 zs_2 zs_3
      clear Ks
      clear zr_0 zr_1 zr_2 zr_3
      clear f0
      generalize ((((wr.setCell ⟨b0, 0, none⟩ (U (w4 S 0))).setCell ⟨b0, 1, none⟩ (U (w4 S 1))).setCell ⟨b0, 2, none⟩ (U (w4 S 2))).setCell ⟨b0, 3, none⟩ (U (w4 S 3))) = U1 at *
      have E0 : Hid (U1.cell? ⟨b0, 0, none⟩ = some (U (w4 S 0))) := IHolds.cell (l := [U (w4 S 0), U (w4 S 1), U (w4 S 2), U (w4 S 3)]) (t := 57) (b := b0) (w := U1) Jr.out 0 (by simp)
      have E1 : Hid (U1.cell? ⟨b0, 1, none⟩ = some (U (w4 S 1))) := IHolds.cell (l := [U (w4 S 0), U (w4 S 1), U (w4 S 2), U (w4 S 3)]) (t := 57) (b := b0) (w := U1) Jr.out 1 (by simp)
      have E2 : Hid (U1.cell? ⟨b0, 2, none⟩ = some (U (w4 S 2))) := IHolds.cell (l := [U (w4 S 0), U (w4 S 1), U (w4 S 2), U (w4 S 3)]) (t := 57) (b := b0) (w := U1) Jr.out 2 (by simp)
      have E3 : Hid (U1.cell? ⟨b0, 3, none⟩ = some (U (w4 S 3))) := IHolds.cell (l := [U (w4 S 0), U (w4 S 1), U (w4 S 2), U (w4 S 3)]) (t := 57) (b := b0) (w := U1) Jr.out 3 (by simp)
      exact bodyPost_ret (v := .agg #[U (w4 S 0), U (w4 S 1), U (w4 S 2), U (w4 S 3)]) (by simp [results, Tryd.results24, go_sem, E0.out, E1.out, E2.out, E3.out]) rfl ⟨by rw [← HE.out]; rfl, B.out⟩
end Go.Proofs.YtckfdpiohkggaabDoor
