/- The walks of the reference's Mul. -/
import Derived.Test.YtlgcnjinmcgacaaDoorRefText
import Derived.Test.YtlgcnjinmcgacaaDoorRefPlain
import Derived.Test.YtlgcnjinmcgacaaDoorTimes
set_option linter.unusedSimpArgs false
set_option linter.unusedVariables false
namespace Go.Proofs.YtlgcnjinmcgacaaDoor
open Go.RowKit Go.Deep Go.PlainAid

theorem makeNat (z : Int) (n : Nat) (hz : z = (n : Int)) (hn : n ≤ 4294967296) (w : World) : (Instr.makeSlice 24 (.int .i64 z) (.int .i64 z)).run Tryd.prog w = .ok (.slice (some ⟨w.heap.size, 0, none⟩) n n) (w.alloc (.cells (zs (List.replicate n 0)).toArray 3)) := by
  subst hz
  have := run_make_row' (P := Tryd.prog) 24 3 (.int .i64 0) 8 Tryd.underlying24 Tryd.info3 rfl .i64 .i64 n (by omega) (by omega) w
  rw [made_nums] at this
  exact this
theorem zs_set (l : List Nat) (t x : Nat) (y : Int) (hy : y = (x : Int)) : (zs l).set t (.int .i64 y) = zs (l.set t x) := by
  subst hy; simp [zs, List.map_set]
theorem IHolds.at {w : World} {b : Nat} {t : TypeId} {l : List Nat} (h : IHolds w b t (zs l)) (i : Nat) (hi : i < l.length) : w.cell? ⟨b, i, none⟩ = some (I l[i]) := by
  rw [h.cell i (by rw [zs_length]; exact hi)]; simp [zs]
theorem trim_at (w : World) (b cap k : Nat) (T : TypeId) (l : List Nat) (h : IHolds w b T (zs l)) (hk : l.length = k) (hc : k ≤ cap) (hl : ∀ d ∈ l, d < 10) (hn : cap ≤ 9223372036854775807) :
    Calls Tryd.prog 48 #[.slice (some ⟨b, 0, none⟩) k cap] w fun e w' => (∃ v, e = .returned v ∧ NumV w 10 (vl 10 l) v) ∧ w' = w := by
  subst hk
  have hr : Row w (some ⟨b, 0, none⟩) l := IHolds.row (pre := []) (post := []) (by rw [List.nil_append, List.append_nil]; exact h)
  exact trim_any 10 ten w _ l cap hr hc hl hn

set_option maxRecDepth 100000 in
set_option maxHeartbeats 2000000 in
theorem refMul_any (w : World) (a1 a2 : Option Addr) (cap1 cap2 n m : Nat) (h1 : Row w a1 (dg 10 n)) (h2 : Row w a2 (dg 10 m)) (b1 : (dg 10 n).length ≤ 1000000) (b2 : (dg 10 m).length ≤ 1000000) :
    Calls Tryd.prog 16 #[.slice a1 (dg 10 n).length cap1, .slice a2 (dg 10 m).length cap2] w fun e w' => (∃ v, e = .returned v ∧ NumV w' 10 (n * m) v) ∧ Below w.heap.size w w' := by
  have HV1 : Hid (vl 10 (dg 10 n) = n) := vl_dg ten n
  have HV2 : Hid (vl 10 (dg 10 m) = m) := vl_dg ten m
  have HD1 : Hid (∀ d ∈ dg 10 n, d < 10) := dg_mem ten n
  have HD2 : Hid (∀ d ∈ dg 10 m, d < 10) := dg_mem ten m
  generalize dg 10 n = l1 at *
  generalize dg 10 m = l2 at *
  have H1 : Hid (Row w a1 l1) := h1
  have H2 : Hid (Row w a2 l2) := h2
  clear h1 h2
  obtain ⟨K, hK, hmk⟩ : ∃ K : Nat, K = l1.length + l2.length ∧ ∀ w, (Instr.makeSlice 24 (.int .i64 ((l1.length : Int) + (l2.length : Int))) (.int .i64 ((l1.length : Int) + (l2.length : Int)))).run Tryd.prog w = .ok (.slice (some ⟨w.heap.size, 0, none⟩) K K) (w.alloc (.cells (zs (List.replicate K 0)).toArray 3)) :=
    ⟨l1.length + l2.length, rfl, fun w => makeNat _ _ (by push_cast; rfl) (by omega) w⟩
  have HK : Hid (K = l1.length + l2.length) := hK
  have hk1 : K ≤ 2000000 := by omega
  clear hK
  go_enter Tryd.func16, Tryd.ntmps16
  go_wp2_with fail
  have q1 : Hid (IHolds (w.alloc (.cells (zs (List.replicate K 0)).toArray 3)) w.heap.size 3 (zs (List.replicate K 0))) := IHolds.new w 3 _
  have q2 : Hid (Below w.heap.size w (w.alloc (.cells (zs (List.replicate K 0)).toArray 3))) := (Below.refl _ w).alloc (Nat.le_refl _) _
  clear hmk
  generalize w.alloc (.cells (zs (List.replicate K 0)).toArray 3) = W0 at *
  go_loopg [6] l1.length (fun gk v6 wr => ∃ (i : Nat) (P : List Nat), i + gk = l1.length ∧ v6 = .int .i64 (i : Int) ∧ P.length = K ∧ (∀ d ∈ P, d < 10) ∧ vl 10 P = vl 10 (l1.take i) * m ∧ (∀ t, i + l2.length ≤ t → P.getD t 0 = 0) ∧ IHolds wr w.heap.size 3 (zs P) ∧ Below w.heap.size w wr)
  case atStart => exact ⟨0, List.replicate K 0, by omega, rfl, by simp, fun d hd => by have := List.eq_of_mem_replicate hd; omega, by rw [vl_zeros]; simp [vl], (fun t _ => by simp [List.getD_eq_getElem?_getD, List.getElem?_replicate]; split <;> rfl), q1.out, q2.out⟩
  case round =>
    obtain ⟨i, P, hi, rfl, hPl, hPd, hPv, hPz, hPI, hPB⟩ := hrel
    clear q1 q2
    generalize gk = G at *
    by_cases hlt : i < l1.length
    · have il : (i : Int) < (l1.length : Int) := by omega
      have hKe := HK.out
      have hiK : i + l2.length < K := by omega
      obtain ⟨k1, o1, ha1, _⟩ := H1.out i hlt
      subst ha1
      have hu : l1[i] < 10 := HD1.out _ (List.getElem_mem _)
      have HVS : Hid (vl 10 (l1.take (i + 1)) = vl 10 (l1.take i) + 10 ^ i * l1[i]) := by
        have e := vl_take_succ 10 l1 i
        rw [List.getD_eq_getElem?_getD, List.getElem?_eq_getElem hlt] at e
        exact e
      have HC1 : Hid (∀ wq, Below w.heap.size w wq → wq.cell? ⟨k1, o1 + i, none⟩ = some (I l1[i])) := fun wq hq => by
        obtain ⟨k, o, ha, hc⟩ := H1.out.of_below hq i hlt
        simp only [Option.some.injEq, Addr.mk.injEq, and_true] at ha
        obtain ⟨rfl, rfl⟩ := ha
        exact hc
      have HPz : Hid (∀ t, i + l2.length ≤ t → P.getD t 0 = 0) := hPz
      have HPv : Hid (vl 10 P = vl 10 (l1.take i) * m) := hPv
      have HPl : Hid (P.length = K) := hPl
      have HM0 : Hid (Mulr l2 P i l1[i] 0 P 0) := Mulr.zero _ _ _ _ hPd
      have HI0 : Hid (IHolds wr w.heap.size 3 (zs P)) := hPI
      have HB0 : Hid (Below w.heap.size w wr) := hPB
      clear hPl hPd hPv hPz hPI hPB hKe
      generalize l1[i] = u at *
      generalize wr = w0 at *
      go_wp2_with fail
      go_loopg [7, 8] l2.length (fun gk v7 v8 wr => ∃ (j up : Nat) (Q : List Nat), j + gk = l2.length ∧ v7 = .int .i64 (up : Int) ∧ v8 = .int .i64 (j : Int) ∧ Mulr l2 P i u j Q up ∧ IHolds wr w.heap.size 3 (zs Q) ∧ Below w.heap.size w wr)
      case atStart => exact ⟨0, 0, P, by omega, rfl, rfl, HM0.out, HI0.out, HB0.out⟩
      case round =>
        obtain ⟨j, up, Q, hj, rfl, rfl, hQ, hQI, hQB⟩ := hrel
        have hup := hQ.up9
        have hQl : Q.length = K := by rw [hQ.len, HPl.out]
        by_cases hjl : j < l2.length
        · have jl : (j : Int) < (l2.length : Int) := by omega
          have hjK : (i : Int) + (j : Int) < (K : Int) := by omega
          have hjQ : i + j < Q.length := by omega
          obtain ⟨k2, o2, rfl, c2⟩ := H2.out.of_below hQB j hjl
          have c1 := HC1.out wr hQB
          have c3 := hQI.at (i + j) hjQ
          have f3 : wr.frozen? ⟨w.heap.size, i + j, none⟩ = false := hQI.frozen _
          have g1 : Q[i + j] < 10 := hQ.low _ (List.getElem_mem _)
          have g2 : l2[j] < 10 := HD2.out _ (List.getElem_mem _)
          have HST : Hid (∀ X Y, X = (Q[i + j] + u * l2[j] + up) % 10 → Y = (Q[i + j] + u * l2[j] + up) / 10 → Mulr l2 P i u (j + 1) (Q.set (i + j) X) Y) := fun X Y hX hY => by rw [hX, hY]; exact hQ.step hjl hjQ hu HD2.out
          have HI : Hid (IHolds wr w.heap.size 3 (zs Q)) := hQI
          have HB : Hid (Below w.heap.size w wr) := hQB
          clear hQ hQI hQB
          generalize Q[i + j] = x at *
          generalize l2[j] = y at *
          have gm : u * y ≤ 81 := Nat.mul_le_mul (show u ≤ 9 by omega) (show y ≤ 9 by omega)
          obtain ⟨z, hz⟩ : ∃ z, z = u * y := ⟨_, rfl⟩
          have ez : (u : Int) * (y : Int) = (z : Int) := by rw [hz]; push_cast; rfl
          rw [← hz] at HST gm
          clear hz
          obtain ⟨X, hX⟩ : ∃ X : Nat, X = (x + z + up) % 10 := ⟨_, rfl⟩
          obtain ⟨Y, hY⟩ : ∃ Y : Nat, Y = (x + z + up) / 10 := ⟨_, rfl⟩
          have HMX : Hid (Mulr l2 P i u (j + 1) (Q.set (i + j) X) Y) := HST.out X Y hX hY
          have eX : ((x : Int) + (z : Int) + (up : Int)) % 10 = (X : Int) := by omega
          have eY : ((x : Int) + (z : Int) + (up : Int)) / 10 = (Y : Int) := by omega
          have hX9 : X ≤ 9 := by omega
          have et : ((i : Int) + (j : Int)).toNat = i + j := by omega
          clear hX hY HST
          go_wp2_with fail
          go_quiet (fail)
          have HI2 : Hid (IHolds ((wr.drewN nq).setCell ⟨w.heap.size, i + j, none⟩ (.int .i64 (X : Int))) w.heap.size 3 (zs (Q.set (i + j) X))) := by
            have := (HI.out.drewN nq).set (i + j) (.int .i64 (X : Int))
            rw [zs_set Q (i + j) X _ rfl] at this
            exact this
          have HB2 : Hid (Below w.heap.size w ((wr.drewN nq).setCell ⟨w.heap.size, i + j, none⟩ (.int .i64 (X : Int)))) := (Below.setCell (w := wr.drewN nq) ⟨HB.out.os, HB.out.tape, HB.out.output, HB.out.size, HB.out.block⟩ (Nat.le_refl _) _)
          go_wp2_with fail
          go_roundg (gk - 1)
          case measure => omega
          case rel => exact ⟨j + 1, Y, Q.set (i + j) X, by omega, by go_num, by go_num, HMX.out, HI2.out, HB2.out⟩
        · obtain rfl : j = l2.length := by omega
          have hQi : i + l2.length < Q.length := by omega
          obtain ⟨d1, d2, d3, d4⟩ := hQ.done hQi HPz.out HPv.out HV2.out
          have c3 := hQI.at (i + l2.length) hQi
          have f3 : wr.frozen? ⟨w.heap.size, i + l2.length, none⟩ = false := hQI.frozen _
          have E1 : Hid (vl 10 (Q.set (i + l2.length) up) = vl 10 (l1.take (i + 1)) * m) := by show _ = _; rw [HVS.out]; exact d1
          have E2 : Hid (∀ d ∈ Q.set (i + l2.length) up, d < 10) := d2
          have E3 : Hid ((Q.set (i + l2.length) up).length = K) := by show _ = _; rw [d3, HPl.out]
          have E4 : Hid (∀ t, i + 1 + l2.length ≤ t → (Q.set (i + l2.length) up).getD t 0 = 0) := d4
          have E5 : Hid (IHolds (wr.setCell ⟨w.heap.size, i + l2.length, none⟩ (.int .i64 (up : Int))) w.heap.size 3 (zs (Q.set (i + l2.length) up))) := by
            have := hQI.set (i + l2.length) (.int .i64 (up : Int))
            rw [zs_set Q (i + l2.length) up _ rfl] at this
            exact this
          have E6 : Hid (Below w.heap.size w (wr.setCell ⟨w.heap.size, i + l2.length, none⟩ (.int .i64 (up : Int)))) := hQB.setCell (Nat.le_refl _) _
          have et : ((i : Int) + (l2.length : Int)).toNat = i + l2.length := by omega
          have hjK : (i : Int) + (l2.length : Int) < (K : Int) := by omega
          generalize Q[i + l2.length] = x at *
          clear d1 d2 d3 d4 hQ hQI hQB hQl
          go_wp2_with fail
          go_roundg (G - 1)
          case measure => omega
          case rel => exact ⟨i + 1, Q.set (i + l2.length) up, by omega, by go_num, E3.out, E2.out, E1.out, E4.out, E5.out, E6.out⟩
    · obtain rfl : i = l1.length := by omega
      rw [List.take_length, HV1.out] at hPv
      have HP1 : Hid (vl 10 P = n * m) := hPv
      have HP2 : Hid (∀ d ∈ P, d < 10) := hPd
      have HP3 : Hid (IHolds wr w.heap.size 3 (zs P)) := hPI
      have HP4 : Hid (Below w.heap.size w wr) := hPB
      have HP5 : Hid (P.length = K) := hPl
      clear hPv hPd hPI hPB hPl hPz
      go_wp2_with fail
      refine (trim_at wr w.heap.size K K 3 P HP3.out HP5.out (Nat.le_refl _) HP2.out (by omega)).mono ?_
      rintro e W3 ⟨⟨v, rfl, hv⟩, rfl⟩
      rw [HP1.out] at hv
      have HVV : Hid (NumV W3 10 (n * m) v) := hv
      clear hv
      go_wp2_with fail
      go_ret
      exact ⟨⟨_, rfl, HVV.out⟩, HP4.out⟩
end Go.Proofs.YtlgcnjinmcgacaaDoor
