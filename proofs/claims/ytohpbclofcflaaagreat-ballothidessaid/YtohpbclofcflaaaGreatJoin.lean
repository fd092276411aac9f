/- Montgomery's product: the program's joined. -/
import Derived.Test.YtohpbclofcflaaaGreatLess
set_option linter.unusedSimpArgs false
set_option linter.unusedVariables false
namespace Go.Proofs.YtohpbclofcflaaaGreat
open Go.RowKit Go.Deep Go.PlainAid

/-- What lies in memory while two numbers are joined. -/
structure JS (w wr : World) (b0 a b : Nat) (s : List Nat) (g o Wd M low one sq : Nat) : Prop where
  hb : b0 = w.heap.size
  hg : g < b0
  A : IHolds wr b0 81 (us (ws4 a))
  B : IHolds wr (b0 + 1) 81 (us (ws4 b))
  Z : IHolds wr (b0 + 2) 81 [.int .u64 0, .int .u64 0, .int .u64 0, .int .u64 0]
  S : IHolds wr (b0 + 3) 81 (us s)
  F : FH wr g o Wd M low one sq
  bl : Below w.heap.size w wr
theorem JS.drewN {w wr : World} {b0 a b : Nat} {s : List Nat} {g o Wd M low one sq : Nat} (h : JS w wr b0 a b s g o Wd M low one sq) (n : Nat) : JS w (wr.drewN n) b0 a b s g o Wd M low one sq :=
  ⟨h.hb, h.hg, h.A.drewN n, h.B.drewN n, h.Z.drewN n, h.S.drewN n, h.F.same fun _ => rfl, ⟨h.bl.os, h.bl.tape, h.bl.output, h.bl.size, h.bl.block⟩⟩
theorem us_set2 (l : List Nat) (i z : Nat) : (us l).set i (U z) = us (l.set i z) := by simp only [us, List.map_set]
theorem JS.set {w wr : World} {b0 a b : Nat} {s : List Nat} {g o Wd M low one sq : Nat} (h : JS w wr b0 a b s g o Wd M low one sq) (i z : Nat) : JS w (wr.setCell ⟨b0 + 3, i, none⟩ (U z)) b0 a b (s.set i z) g o Wd M low one sq := by
  have hb : But (b0 + 3) wr (wr.setCell ⟨b0 + 3, i, none⟩ (U z)) := (But.refl _ wr).setCell i _
  have hg := h.hg
  refine ⟨h.hb, h.hg, h.A.of_but hb (by omega), h.B.of_but hb (by omega), h.Z.of_but hb (by omega), ?_, h.F.of_but hb (by omega), h.bl.setCell (by show w.heap.size ≤ b0 + 3; rw [h.hb]; omega) _⟩
  have := h.S.set i (U z)
  rw [us_set2] at this
  exact this
theorem us_cell {W : World} {b : Nat} {l : List Nat} (h : IHolds W b 81 (us l)) (i : Nat) (hi : i < l.length) : W.cell? ⟨b, i, none⟩ = some (U (l.getD i 0)) := by
  rw [h.cell i (by rw [us_length]; exact hi)]
  simp only [us, List.getElem_map]
  rw [getD_at hi]
theorem FH.mAt {w : World} {g o Wd M low one sq : Nat} (h : FH w g o Wd M low one sq) (i : Nat) (hi : i < 4) : w.cell? ⟨g, o + 1 + i, none⟩ = some (U (w4 M i)) := by
  have : i = 0 ∨ i = 1 ∨ i = 2 ∨ i = 3 := by omega
  rcases this with rfl | rfl | rfl | rfl
  · exact h.m0
  · exact h.m1
  · exact h.m2
  · exact h.m3
theorem wrapB (a : Nat) : IntKind.u64.wrap (a : Int) = ((a % BB : Nat) : Int) := Mul64.wrapM a
theorem chain0 (x y a : Nat) (hx : x < BB) (hy : y < BB) (ha : a < BB) (w : World) : Calls Tryz.prog 99 #[U x, U y, U a, .int .u64 0] w fun e w' => e = .returned (.tuple #[U ((x * y + a + 0) / BB), U ((x * y + a + 0) % BB)]) ∧ w' = w := chain_any x y a 0 hx hy ha BB_pos w
set_option maxRecDepth 100000 in
set_option maxHeartbeats 4000000 in
theorem joined_any {w : World} {g o Wd M low one sq Ri a b : Nat} (F : Hid (FH w g o Wd M low one sq)) (fl : Fld Wd M low one sq Ri) (ha : a < BB ^ Wd) (hb : b < M) :
    Calls Tryz.prog 86 #[.pointer (some ⟨g, o, none⟩), A4 a, A4 b] w fun e w' => (∃ r, e = .returned (A4 r) ∧ Jo (BB ^ Wd) M a b r) ∧ Below w.heap.size w w' := by
  have hw1 := fl.w1
  have hw4 := fl.w4
  have low9 := fl.l9
  have HP4 : Hid (2 * M ≤ BB ^ 4) := Nat.le_trans fl.m9 (Nat.pow_le_pow_right BB_pos fl.w4)
  have HM9 : Hid (2 * M ≤ BB ^ Wd) := fl.m9
  have HM0 : Hid (0 < M) := by have := fl.m2; show _ < _; omega
  have HLo : Hid ((ws4 M).getD 0 0 * low % BB = BB - 1) := fl.lo
  have HVb : Hid (vl BB (ws4 b) = b) := vl_ws4 (by have := HP4.out; omega)
  have HVM : Hid (vl BB (ws4 M) = M) := vl_ws4 (by have := HP4.out; have := HM0.out; omega)
  have HbM : Hid (b < M) := hb
  have Hfin : Hid (∀ S, Ro a b M Wd S → Jo (BB ^ Wd) M a b (belowN M S)) := fun S h => h.done ha
  clear fl ha hb
  show Calls Tryz.prog 86 #[.pointer (some ⟨g, o, none⟩), .agg #[U (w4 a 0), U (w4 a 1), U (w4 a 2), U (w4 a 3)], .agg #[U (w4 b 0), U (w4 b 1), U (w4 b 2), U (w4 b 3)]] w _
  obtain ⟨W0, hW0⟩ : ∃ X, X = (((w.alloc (.cells #[U (w4 a 0), U (w4 a 1), U (w4 a 2), U (w4 a 3)] 81)).alloc (.cells #[U (w4 b 0), U (w4 b 1), U (w4 b 2), U (w4 b 3)] 81)).alloc (.cells #[.int .u64 0, .int .u64 0, .int .u64 0, .int .u64 0] 81)).alloc (.cells #[.int .u64 0, .int .u64 0, .int .u64 0, .int .u64 0] 81) := ⟨_, rfl⟩
  have J0 : Hid (JS w W0 w.heap.size a b [0, 0, 0, 0] g o Wd M low one sq) := by
    have hB : Below w.heap.size w W0 := by
      rw [hW0]; exact ((((Below.refl _ w).alloc (Nat.le_refl _) _).alloc (by simp only [World.size_alloc]; omega) _).alloc (by simp only [World.size_alloc]; omega) _).alloc (by simp only [World.size_alloc]; omega) _
    refine ⟨rfl, F.out.lt, ?_, ?_, ?_, ?_, F.out.of_below hB, hB⟩
    · rw [hW0]; exact (((IHolds.new w 81 (us (ws4 a))).alloc _).alloc _).alloc _
    · have q := IHolds.new (w.alloc (.cells #[U (w4 a 0), U (w4 a 1), U (w4 a 2), U (w4 a 3)] 81)) 81 (us (ws4 b))
      simp only [World.size_alloc, Nat.add_assoc, Nat.reduceAdd] at q
      rw [hW0]; exact (q.alloc _).alloc _
    · have q := IHolds.new ((w.alloc (.cells #[U (w4 a 0), U (w4 a 1), U (w4 a 2), U (w4 a 3)] 81)).alloc (.cells #[U (w4 b 0), U (w4 b 1), U (w4 b 2), U (w4 b 3)] 81)) 81 [.int .u64 0, .int .u64 0, .int .u64 0, .int .u64 0]
      simp only [World.size_alloc, Nat.add_assoc, Nat.reduceAdd] at q
      rw [hW0]; exact q.alloc _
    · have q := IHolds.new (((w.alloc (.cells #[U (w4 a 0), U (w4 a 1), U (w4 a 2), U (w4 a 3)] 81)).alloc (.cells #[U (w4 b 0), U (w4 b 1), U (w4 b 2), U (w4 b 3)] 81)).alloc (.cells #[.int .u64 0, .int .u64 0, .int .u64 0, .int .u64 0] 81)) 81 [.int .u64 0, .int .u64 0, .int .u64 0, .int .u64 0]
      simp only [World.size_alloc, Nat.add_assoc, Nat.reduceAdd] at q
      rw [hW0]; exact q
  have c0 : ((((w.alloc (.cells #[U (w4 a 0), U (w4 a 1), U (w4 a 2), U (w4 a 3)] 81)).alloc (.cells #[U (w4 b 0), U (w4 b 1), U (w4 b 2), U (w4 b 3)] 81)).alloc (.cells #[.int .u64 0, .int .u64 0, .int .u64 0, .int .u64 0] 81)).alloc (.cells #[.int .u64 0, .int .u64 0, .int .u64 0, .int .u64 0] 81)).cell? ⟨g, o, none⟩ = some (.int .i64 (Wd : Int)) := by rw [← hW0]; exact J0.out.F.c0
  clear F
  go_enter Tryz.func86, Tryz.ntmps86
  go_wp2_with fail
  rw [← hW0]
  clear hW0 c0
  obtain ⟨b0, hb0⟩ : ∃ b, b = w.heap.size := ⟨_, rfl⟩
  rw [← hb0] at J0 ⊢
  clear hb0
  go_loopg [20] Wd (fun gk v20 wr => ∃ (i : Nat) (s : List Nat), i + gk = Wd ∧ v20 = .int .i64 (i : Int) ∧ s.length = 4 ∧ AllB s ∧ Ro a b M i (vl BB s) ∧ JS w wr b0 a b s g o Wd M low one sq)
  case atStart => exact ⟨0, [0, 0, 0, 0], by omega, rfl, rfl, by intro d hd; simp at hd; rw [hd]; exact BB_pos, by simpa [vl] using Ro.zero HM0.out, J0.out⟩
  case round =>
    obtain ⟨i, s, hi, rfl, hsl, hsB, hRo, hJ⟩ := hrel
    clear J0
    generalize gk = G at *
    have HsB : Hid (AllB s) := hsB
    have HRo : Hid (Ro a b M i (vl BB s)) := hRo
    have HJ : Hid (JS w wr b0 a b s g o Wd M low one sq) := hJ
    have Hsl : Hid (s.length = 4) := hsl
    clear hsB hRo hJ hsl
    by_cases hlt : i < Wd
    · have il : (i : Int) < (Wd : Int) := by omega
      have i4 : (i : Int) < 4 := by omega
      have ca : wr.cell? ⟨b0, i, none⟩ = some (U ((ws4 a).getD i 0)) := us_cell HJ.out.A i (by rw [ws4_length]; omega)
      have xe : (ws4 a).getD i 0 = w4 a i := ws4_getD a i (by omega)
      rw [xe] at ca
      obtain ⟨x, hx⟩ : ∃ x, x = w4 a i := ⟨_, rfl⟩
      rw [← hx] at ca
      have HXe : Hid (x = w4 a i) := hx
      have x9 : x < BB := by rw [hx]; exact w4_lt _ _
      clear hx xe
      have cb : wr.cell? ⟨b0 + 1, 0, none⟩ = some (U ((ws4 b).getD 0 0)) := us_cell HJ.out.B 0 (by rw [ws4_length]; omega)
      have cs : wr.cell? ⟨b0 + 3, 0, none⟩ = some (U (s.getD 0 0)) := us_cell HJ.out.S 0 (by rw [Hsl.out]; omega)
      have cl := HJ.out.F.lo
      have cm : wr.cell? ⟨g, o + 1, none⟩ = some (U ((ws4 M).getD 0 0)) := HJ.out.F.m0
      have bz9 := getD_ltB (ws4_mem b) 0
      have sz9 := getD_ltB HsB.out 0
      have mz9 := getD_ltB (ws4_mem M) 0
      have MS : Hid (∀ y, y = (s.getD 0 0 + x * (ws4 b).getD 0 0 % BB) % BB * low % BB → Mo (ws4 b) (ws4 M) s x y 1 s ((x * (ws4 b).getD 0 0 + s.getD 0 0 + 0) / BB) ((y * (ws4 M).getD 0 0 + (x * (ws4 b).getD 0 0 + s.getD 0 0 + 0) % BB + 0) / BB)) := fun y hy => Mo.start rfl rfl Hsl.out (ws4_mem b) (ws4_mem M) HsB.out x9 HLo.out hy
      generalize (ws4 b).getD 0 0 = bz at *
      generalize (ws4 M).getD 0 0 = mz at *
      generalize s.getD 0 0 = sz at *
      obtain ⟨p1, hp1⟩ : ∃ p, p = x * bz % BB := ⟨_, rfl⟩
      obtain ⟨p2, hp2⟩ : ∃ p, p = (sz + p1) % BB := ⟨_, rfl⟩
      obtain ⟨y, hy⟩ : ∃ p, p = p2 * low % BB := ⟨_, rfl⟩
      have k1 : IntKind.u64.wrap ((x : Int) * (bz : Int)) = (p1 : Int) := by rw [hp1, ← wrapB]; push_cast; rfl
      have k2 : IntKind.u64.wrap ((sz : Int) + (p1 : Int)) = (p2 : Int) := by rw [hp2, ← wrapB]; push_cast; rfl
      have k3 : IntKind.u64.wrap ((p2 : Int) * (low : Int)) = (y : Int) := by rw [hy, ← wrapB]; push_cast; rfl
      have y9 : y < BB := by rw [hy]; exact Nat.mod_lt _ BB_pos
      have MS2 := MS.out y (by rw [hy, hp2, hp1])
      have C1 : Hid (∀ W, Calls Tryz.prog 99 #[U x, U bz, U sz, .int .u64 0] W fun e w' => e = .returned (.tuple #[U ((x * bz + sz + 0) / BB), U ((x * bz + sz + 0) % BB)]) ∧ w' = W) := fun W => chain0 x bz sz x9 bz9 sz9 W
      obtain ⟨l0, hl0⟩ : ∃ p, p = (x * bz + sz + 0) / BB := ⟨_, rfl⟩
      obtain ⟨wd0, hwd0⟩ : ∃ p, p = (x * bz + sz + 0) % BB := ⟨_, rfl⟩
      have wd9 : wd0 < BB := by rw [hwd0]; exact Nat.mod_lt _ BB_pos
      rw [← hl0, ← hwd0] at C1 MS2
      have C2 : Hid (∀ W, Calls Tryz.prog 99 #[U y, U mz, U wd0, .int .u64 0] W fun e w' => e = .returned (.tuple #[U ((y * mz + wd0 + 0) / BB), U ((y * mz + wd0 + 0) % BB)]) ∧ w' = W) := fun W => chain0 y mz wd0 y9 mz9 wd9 W
      obtain ⟨r0, hr0⟩ : ∃ p, p = (y * mz + wd0 + 0) / BB := ⟨_, rfl⟩
      obtain ⟨tz, htz⟩ : ∃ p, p = (y * mz + wd0 + 0) % BB := ⟨_, rfl⟩
      rw [← hr0, ← htz] at C2
      rw [← hr0] at MS2
      have HMo : Hid (Mo (ws4 b) (ws4 M) s x y 1 s l0 r0) := MS2
      clear MS MS2 hp1 hp2 hy hl0 hwd0 hr0 htz bz9 sz9 mz9 wd9
      go_wp2_with fail
      go_quiet (fail)
      replace HJ : Hid (JS w (wr.drewN nq) b0 a b s g o Wd M low one sq) := HJ.out.drewN nq
      replace cb : (wr.drewN nq).cell? ⟨b0 + 1, 0, none⟩ = some (U bz) := cb
      replace cs : (wr.drewN nq).cell? ⟨b0 + 3, 0, none⟩ = some (U sz) := cs
      replace cm : (wr.drewN nq).cell? ⟨g, o + 1, none⟩ = some (U mz) := cm
      clear ca cl k1 k2 k3
      generalize wr.drewN nq = wr at *
      go_wp2_with fail
      refine (C1.out wr).mono ?_
      rintro e w' ⟨rfl, hw⟩
      rw [hw]
      clear hw
      go_wp2_with fail
      refine (C2.out wr).mono ?_
      rintro e w' ⟨rfl, hw⟩
      rw [hw]
      clear hw
      clear C1 C2 cb cs cm
      go_wp2_with fail
      go_loopg [11, 13, 15] (Wd - 1) (fun gk v11 v13 v15 wr => ∃ (j l r : Nat) (t : List Nat), j + gk = Wd ∧ 1 ≤ j ∧ v11 = U l ∧ v13 = U r ∧ v15 = .int .i64 (j : Int) ∧ Mo (ws4 b) (ws4 M) s x y j t l r ∧ JS w wr b0 a b t g o Wd M low one sq)
      case atStart => exact ⟨1, l0, r0, s, by omega, by omega, rfl, rfl, rfl, HMo.out, HJ.out⟩
      case round =>
        clear HMo HJ
        obtain ⟨j, l, r, t, hj, hj1, rfl, rfl, rfl, hMo, hJ⟩ := hrel
        have HMo : Hid (Mo (ws4 b) (ws4 M) s x y j t l r) := hMo
        have HJ : Hid (JS w wr b0 a b t g o Wd M low one sq) := hJ
        have Htl : Hid (t.length = 4) := by show _ = _; rw [hMo.len]; exact Hsl.out
        clear hMo hJ
        have c0 := HJ.out.F.c0
        by_cases hjl : j < Wd
        · have jl : (j : Int) < (Wd : Int) := by omega
          have j4 : (j : Int) < 4 := by omega
          have cb : wr.cell? ⟨b0 + 1, j, none⟩ = some (U ((ws4 b).getD j 0)) := us_cell HJ.out.B j (by rw [ws4_length]; omega)
          have cs : wr.cell? ⟨b0 + 3, j, none⟩ = some (U (t.getD j 0)) := us_cell HJ.out.S j (by rw [Htl.out]; omega)
          have cm : wr.cell? ⟨g, o + 1 + j, none⟩ = some (U ((ws4 M).getD j 0)) := by rw [ws4_getD M j (by omega)]; exact HJ.out.F.mAt j (by omega)
          have b9 := getD_ltB (ws4_mem b) j
          have s9 := getD_ltB HMo.out.lt j
          have m9 := getD_ltB (ws4_mem M) j
          have l9 := HMo.out.l9
          have r9 := HMo.out.r9
          have ST : Hid _ := HMo.out.step hj1 (by omega) rfl rfl Hsl.out (ws4_mem b) (ws4_mem M) x9 y9
          have CA : Hid (∀ W, Calls Tryz.prog 99 #[U x, U ((ws4 b).getD j 0), U (t.getD j 0), U l] W fun e w' => e = .returned (.tuple #[U ((x * (ws4 b).getD j 0 + t.getD j 0 + l) / BB), U ((x * (ws4 b).getD j 0 + t.getD j 0 + l) % BB)]) ∧ w' = W) := fun W => chain_any _ _ _ _ x9 b9 s9 l9 W
          have CB : Hid (∀ W z, z < BB → Calls Tryz.prog 99 #[U y, U ((ws4 M).getD j 0), U z, U r] W fun e w' => e = .returned (.tuple #[U ((y * (ws4 M).getD j 0 + z + r) / BB), U ((y * (ws4 M).getD j 0 + z + r) % BB)]) ∧ w' = W) := fun W z hz => chain_any _ _ _ _ y9 m9 hz r9 W
          generalize (ws4 b).getD j 0 = bj at *
          generalize (ws4 M).getD j 0 = mj at *
          generalize t.getD j 0 = tj at *
          obtain ⟨l', hl'⟩ : ∃ p, p = (x * bj + tj + l) / BB := ⟨_, rfl⟩
          obtain ⟨z, hz⟩ : ∃ p, p = (x * bj + tj + l) % BB := ⟨_, rfl⟩
          have z9 : z < BB := by rw [hz]; exact Nat.mod_lt _ BB_pos
          have CB2 : Hid _ := fun W => CB.out W z z9
          rw [← hl', ← hz] at ST CA
          obtain ⟨r', hr'⟩ : ∃ p, p = (y * mj + z + r) / BB := ⟨_, rfl⟩
          obtain ⟨u, hu⟩ : ∃ p, p = (y * mj + z + r) % BB := ⟨_, rfl⟩
          rw [← hr', ← hu] at ST CB2
          have HMo2 : Hid (Mo (ws4 b) (ws4 M) s x y (j + 1) (t.set (j - 1) u) l' r') := ST.out
          obtain ⟨j', hj'⟩ : ∃ p, p = j - 1 := ⟨_, rfl⟩
          rw [← hj'] at HMo2
          have kj' : (j : Int) - 1 = (j' : Int) := by omega
          have j'4 : (j' : Int) < 4 := by omega
          have co : wr.cell? ⟨b0 + 3, j', none⟩ = some (U (t.getD j' 0)) := us_cell HJ.out.S j' (by rw [Htl.out]; omega)
          have fo : wr.frozen? ⟨b0 + 3, j', none⟩ = false := HJ.out.S.frozen j'
          generalize t.getD j' 0 = old at *
          clear hl' hz hr' hu CB ST HMo b9 s9 m9 hj'
          go_wp2_with fail
          go_quiet ((go_at_call 99; exact Calls.quiet_of_same (CA.out _)))
          replace HJ : Hid (JS w (wr.drewN nq) b0 a b t g o Wd M low one sq) := HJ.out.drewN nq
          replace cm : (wr.drewN nq).cell? ⟨g, o + 1 + j, none⟩ = some (U mj) := cm
          replace co : (wr.drewN nq).cell? ⟨b0 + 3, j', none⟩ = some (U old) := co
          replace fo : (wr.drewN nq).frozen? ⟨b0 + 3, j', none⟩ = false := fo
          clear cb cs c0 CA
          generalize wr.drewN nq = wr at *
          have HJ2 : Hid (JS w (wr.setCell ⟨b0 + 3, j', none⟩ (U u)) b0 a b (t.set j' u) g o Wd M low one sq) := HJ.out.set j' u
          go_wp2_with fail
          refine (CB2.out wr).mono ?_
          rintro e w' ⟨rfl, hw⟩
          rw [hw]
          clear hw CB2 HJ
          go_wp2_with fail
          go_roundg (gk - 1)
          case measure => omega
          case rel => exact ⟨j + 1, l', r', t.set j' u, by omega, by omega, rfl, rfl, by go_num, HMo2.out, HJ2.out⟩
        · obtain rfl : j = Wd := by omega
          have jl : ¬ (j : Int) < (j : Int) := by omega
          obtain ⟨d1, d2, d3, d4, d5⟩ := HMo.out.done hj1 hw4 rfl rfl Hsl.out HsB.out HVb.out HVM.out rfl x9 y9 HbM.out HRo.out.lt HM9.out
          obtain ⟨j', hj'⟩ : ∃ p, p = j - 1 := ⟨_, rfl⟩
          rw [← hj'] at d2 d3 d4 d5
          have kj' : (j : Int) - 1 = (j' : Int) := by omega
          have j'4 : (j' : Int) < 4 := by omega
          obtain ⟨q, hq⟩ : ∃ q, q = l + r := ⟨_, rfl⟩
          have kq : (l : Int) + (r : Int) = (q : Int) := by omega
          rw [← hq] at d1 d2 d3 d4 d5
          have q9 : q < 18446744073709551616 := d1
          have HR2 : Hid (Ro a b M (i + 1) (vl BB (t.set j' q))) := HRo.out.step (y := y) (by rw [d4, HXe.out]) d5
          have HL2 : Hid ((t.set j' q).length = 4) := d2
          have HA2 : Hid (AllB (t.set j' q)) := d3
          have HJ2 : Hid (JS w (wr.setCell ⟨b0 + 3, j', none⟩ (U q)) b0 a b (t.set j' q) g o j M low one sq) := HJ.out.set j' q
          have co : wr.cell? ⟨b0 + 3, j', none⟩ = some (U (t.getD j' 0)) := us_cell HJ.out.S j' (by rw [Htl.out]; omega)
          have fo : wr.frozen? ⟨b0 + 3, j', none⟩ = false := HJ.out.S.frozen j'
          generalize t.getD j' 0 = old at *
          clear d1 d2 d3 d4 d5 hq hj' HMo HJ HRo HsB
          go_wp2_with fail
          go_roundg (G - 1)
          case measure => omega
          case rel => exact ⟨i + 1, t.set j' q, by omega, by go_num, HL2.out, HA2.out, HR2.out, HJ2.out⟩
    · obtain rfl : i = Wd := by omega
      have il : ¬ (i : Int) < (i : Int) := by omega
      obtain ⟨s0, s1, s2, s3, rfl⟩ := list4 Hsl.out
      have hN := HRo.out.lt
      have HR : Hid (Jo (BB ^ i) M a b (belowN M (vl BB [s0, s1, s2, s3]))) := Hfin.out _ HRo.out
      have C : Hid (Calls Tryz.prog 100 #[.pointer (some ⟨g, o, none⟩), .agg #[U s0, U s1, U s2, U s3]] wr fun e w' => e = .returned (A4 (belowN M (vl BB [s0, s1, s2, s3]))) ∧ Below wr.heap.size wr w') := by
        have h4 := HP4.out
        have h0 := HM0.out
        rw [A4_of HsB.out rfl]
        exact belowA HJ.out.F (by omega) (by omega)
      have hS : IHolds wr (b0 + 3) 81 [U s0, U s1, U s2, U s3] := HJ.out.S
      have c0 : wr.cell? ⟨b0 + 3, 0, none⟩ = some (U s0) := hS.cell 0 (by simp)
      have c1 : wr.cell? ⟨b0 + 3, 1, none⟩ = some (U s1) := hS.cell 1 (by simp)
      have c2 : wr.cell? ⟨b0 + 3, 2, none⟩ = some (U s2) := hS.cell 2 (by simp)
      have c3 : wr.cell? ⟨b0 + 3, 3, none⟩ = some (U s3) := hS.cell 3 (by simp)
      generalize belowN M (vl BB [s0, s1, s2, s3]) = r at *
      have HZ : Hid (IHolds wr (b0 + 2) 81 [.int .u64 0, .int .u64 0, .int .u64 0, .int .u64 0]) := HJ.out.Z
      have HB : Hid (Below w.heap.size w wr) := HJ.out.bl
      have Hb0 : Hid (b0 = w.heap.size) := HJ.out.hb
      clear hS HJ HsB HRo Hsl hN
      go_wp2_with fail
      refine C.out.mono ?_
      rintro e U1 ⟨rfl, hb⟩
      clear c0 c1 c2 c3
      replace HZ := aJ HZ hb
      replace HB := aB HB hb
      clear hb C
      have HA : Hid (A4 r = .agg #[U (w4 r 0), U (w4 r 1), U (w4 r 2), U (w4 r 3)]) := rfl
      rw [HA.out]
      obtain ⟨z0, hz0⟩ : ∃ z, z = w4 r 0 := ⟨_, rfl⟩
      obtain ⟨z1, hz1⟩ : ∃ z, z = w4 r 1 := ⟨_, rfl⟩
      obtain ⟨z2, hz2⟩ : ∃ z, z = w4 r 2 := ⟨_, rfl⟩
      obtain ⟨z3, hz3⟩ : ∃ z, z = w4 r 3 := ⟨_, rfl⟩
      rw [← hz0, ← hz1, ← hz2, ← hz3] at HA ⊢
      clear hz0 hz1 hz2 hz3
      have d0 : U1.cell? ⟨b0 + 2, 0, none⟩ = some (.int .u64 0) := HZ.out.cell 0 (by simp)
      have d1 : U1.cell? ⟨b0 + 2, 1, none⟩ = some (.int .u64 0) := HZ.out.cell 1 (by simp)
      have d2 : U1.cell? ⟨b0 + 2, 2, none⟩ = some (.int .u64 0) := HZ.out.cell 2 (by simp)
      have d3 : U1.cell? ⟨b0 + 2, 3, none⟩ = some (.int .u64 0) := HZ.out.cell 3 (by simp)
      have f0 : ∀ i, U1.frozen? ⟨b0 + 2, i, none⟩ = false := fun i => HZ.out.frozen i
      obtain ⟨W9, hW9⟩ : ∃ X, X = (((U1.setCell ⟨b0 + 2, 0, none⟩ (U z0)).setCell ⟨b0 + 2, 1, none⟩ (U z1)).setCell ⟨b0 + 2, 2, none⟩ (U z2)).setCell ⟨b0 + 2, 3, none⟩ (U z3) := ⟨_, rfl⟩
      have hZ9 : Hid (IHolds W9 (b0 + 2) 81 [U z0, U z1, U z2, U z3]) := by
        show IHolds _ _ _ _
        rw [hW9]; exact (((HZ.out.set 0 (U z0)).set 1 (U z1)).set 2 (U z2)).set 3 (U z3)
      have hB9 : Hid (Below w.heap.size w W9) := by
        show Below _ _ _
        have hq : w.heap.size ≤ b0 + 2 := by rw [← Hb0.out]; omega
        rw [hW9]; exact (((HB.out.setCell hq _).setCell hq _).setCell hq _).setCell hq _
      clear HZ HB
      go_wp2_with fail
      rw [← hW9]
      clear hW9 d0 d1 d2 d3 f0
      have E0 : W9.cell? ⟨b0 + 2, 0, none⟩ = some (U z0) := hZ9.out.cell 0 (by simp)
      have E1 : W9.cell? ⟨b0 + 2, 1, none⟩ = some (U z1) := hZ9.out.cell 1 (by simp)
      have E2 : W9.cell? ⟨b0 + 2, 2, none⟩ = some (U z2) := hZ9.out.cell 2 (by simp)
      have E3 : W9.cell? ⟨b0 + 2, 3, none⟩ = some (U z3) := hZ9.out.cell 3 (by simp)
      exact bodyPost_ret (v := .agg #[U z0, U z1, U z2, U z3]) (by simp [results, Tryz.results86, go_sem, E0, E1, E2, E3]) rfl ⟨⟨r, by rw [HA.out], HR.out⟩, hB9.out⟩
end Go.Proofs.YtohpbclofcflaaaGreat
