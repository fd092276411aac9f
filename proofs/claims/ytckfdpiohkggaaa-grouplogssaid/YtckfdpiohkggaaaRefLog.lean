/- The reference: logarithms. -/
import Derived.Test.YtckfdpiohkggaaaProd0
set_option linter.unusedSimpArgs false
set_option linter.unusedVariables false
namespace Go.Proofs.Ytckfdpiohkggaaa
open Go.RowKit Go.Deep Go.PlainAid

/-- The base's power by n, but for its sign. -/
def pw2 (M M2 n : Nat) : Nat := sgn M M2 (2 ^ n % M2)
/-- The least n from 0 to most with that power, or -1. -/
def LogIs (M M2 A most : Nat) (r : Int) : Prop := (∃ n : Nat, n ≤ most ∧ pw2 M M2 n = A ∧ (∀ m, m < n → pw2 M M2 m ≠ A) ∧ r = (n : Int)) ∨ ((∀ m, m ≤ most → pw2 M M2 m ≠ A) ∧ r = -1)
theorem pw2_step {M M2 : Nat} (e : M2 = 2 * M + 1) (n : Nat) : sgn M M2 (pw2 M M2 n * 2 % M2) = pw2 M M2 (n + 1) := by
  unfold pw2
  rw [sgn_mul_left e (Nat.mod_lt _ (by omega)), Nat.mod_mul_mod, ← Nat.pow_succ]
section
variable {z : Int} {G : Array Value} {S Wd M low one sq Ri Wd2 M2 low2 one2 sq2 Ri2 : Nat}
set_option maxRecDepth 100000 in
set_option maxHeartbeats 600000 in
theorem refLog_any (k : KD z G S Wd M low one sq Ri Wd2 M2 low2 one2 sq2 Ri2) {w : World} {A most : Nat} {u1 u2 va : Value} (h1 : NumV w 65536 M u1) (h2 : NumV w 65536 M2 u2) (ha : NumV w 65536 A va) (A9 : A < M2) (m9 : most ≤ 1048576) :
    Calls Try.prog 42 #[.agg #[.int .i64 (S : Int), u1, u2], va, .int .i64 (most : Int)] w fun e w' => (∃ r, e = .returned (.int .i64 r) ∧ LogIs M M2 A most r) ∧ Below w.heap.size w w' := by
  have hm := k.m2
  have C34 : Hid (∀ W n u1 u2 v v', NumV W 65536 M u1 → NumV W 65536 M2 u2 → NumV W 65536 (pw2 M M2 n) v → NumV W 65536 2 v' → Calls Try.prog 34 #[.agg #[.int .i64 (S : Int), u1, u2], v, v'] W fun e w' => (∃ v, e = .returned v ∧ NumV w' 65536 (pw2 M M2 (n + 1)) v) ∧ Below W.heap.size W w') := fun W n u1 u2 v v' g1 g2 g3 g4 => by
    have hl : pw2 M M2 n ≤ M := sgn_le k.m21 (k.mod2 _)
    have q := productV k g1 g2 g3 g4 (by have := k.m21; omega) (by have := k.m21; omega)
    rw [pw2_step k.m21] at q
    exact q
  have C62 : Hid (∀ W n v v', NumV W 65536 (pw2 M M2 n) v → NumV W 65536 A v' → Calls Try.prog 62 #[v, v'] W fun e w' => e = .returned (.int .i64 (cmp3 (pw2 M M2 n : Int) (A : Int))) ∧ Below W.heap.size W w') := fun W n v v' g1 g2 => compareV g1 g2 (lenD (sgn_le k.m21 (k.mod2 _)) k.l5) (lenD (Nat.le_of_lt A9) k.p5)
  have C16 : Hid (∀ (W : World) (n : Nat), n ≤ 100 → Calls Try.prog 16 #[.int .i64 (n : Int)] W fun e w' => (∃ v, e = .returned v ∧ NumV w' 65536 n v) ∧ Below W.heap.size W w') := fun W n hn => of_any W n (by omega)
  have Hone : Hid (pw2 M M2 0 = 1) := by
    show sgn M M2 (2 ^ 0 % M2) = 1
    rw [Nat.pow_zero, Nat.mod_eq_of_lt (by have := k.m21; omega)]
    unfold sgn
    rw [if_neg (by omega)]
  clear k
  have NQ : Hid (NumV w 65536 M u1) := h1
  have NP : Hid (NumV w 65536 M2 u2) := h2
  have NA0 : Hid (NumV w 65536 A va) := ha
  clear h1 h2 ha
  obtain ⟨qa, ql, qc, rfl⟩ := sN NQ
  obtain ⟨pa, pl, pc, rfl⟩ := sN NP
  have hb := nB w (.cells #[.int .i64 (S : Int), .slice qa ql qc, .slice pa pl pc] 25)
  have JG : Hid (IHolds (w.alloc (.cells #[.int .i64 (S : Int), .slice qa ql qc, .slice pa pl pc] 25)) w.heap.size 25 [.int .i64 (S : Int), .slice qa ql qc, .slice pa pl pc]) := IHolds.new _ _ _
  have B : Hid (Below w.heap.size w (w.alloc (.cells #[.int .i64 (S : Int), .slice qa ql qc, .slice pa pl pc] 25))) := hb
  replace NQ := aN NQ hb
  replace NP := aN NP hb
  replace NA0 := aN NA0 hb
  clear hb
  go_enter Try.func42, Try.ntmps42
  go_wp2_with fail
  generalize w.alloc (.cells #[.int .i64 (S : Int), .slice qa ql qc, .slice pa pl pc] 25) = U0 at *
  obtain ⟨bg, hbg⟩ : ∃ b, b = w.heap.size := ⟨_, rfl⟩
  rw [← hbg] at JG ⊢
  clear hbg
  have C1 := C16.out U0 1 (by omega)
  have C1' : Hid (Calls Try.prog 16 #[.int .i64 1] U0 fun e w' => (∃ v, e = .returned v ∧ NumV w' 65536 1 v) ∧ Below U0.heap.size U0 w') := C1
  clear C1
  refine C1'.out.mono ?_
  rintro e U2 ⟨⟨vo, rfl, hv⟩, hb⟩
  rw [← Hone.out] at hv
  have NO : Hid (NumV U2 65536 (pw2 M M2 0) vo) := hv
  replace B := aB B hb
  replace NQ := aN NQ hb
  replace NP := aN NP hb
  replace NA0 := aN NA0 hb
  replace JG := aJ JG hb
  clear hb hv C1' Hone
  go_wp2_with fail
  go_loopg [7, 8] (most + 1) (fun gk v7 v8 wr => ∃ (n : Nat) (v : Value), gk + n = most + 1 ∧ v = v7 ∧ v8 = .int .i64 (n : Int) ∧ NumV wr 65536 (pw2 M M2 n) v ∧ (∀ m, m < n → pw2 M M2 m ≠ A) ∧ Below U2.heap.size U2 wr)
  case atStart => exact ⟨0, _, by omega, rfl, rfl, NO.out, fun m h => by omega, Below.refl _ _⟩
  case round =>
    clear NO
    obtain ⟨n, v, hi, hv, rfl, hN, hC, hB⟩ := hrel
    subst hv
    have NO : Hid (NumV wr 65536 (pw2 M M2 n) v) := hN
    have HC : Hid (∀ m, m < n → pw2 M M2 m ≠ A) := hC
    have B1 : Hid (Below U2.heap.size U2 wr) := hB
    have NQ1 : Hid (NumV wr 65536 M (.slice qa ql qc)) := NQ.out.of_below B1.out
    have NP1 : Hid (NumV wr 65536 M2 (.slice pa pl pc)) := NP.out.of_below B1.out
    have NA1 : Hid (NumV wr 65536 A va) := NA0.out.of_below B1.out
    have JG1 : Hid (IHolds wr bg 25 [.int .i64 (S : Int), .slice qa ql qc, .slice pa pl pc]) := JG.out.of_below B1.out
    clear hN hC hB
    by_cases hin : n ≤ most
    · have k1 : (n : Int) ≤ (most : Int) := by omega
      go_wp2_with fail
      refine (C62.out wr n v va NO.out NA1.out).mono ?_
      rintro e V1 ⟨rfl, hb⟩
      replace B1 := aB B1 hb
      replace NQ1 := aN NQ1 hb
      replace NP1 := aN NP1 hb
      replace NO := aN NO hb
      replace JG1 := aJ JG1 hb
      clear hb NA1
      by_cases hA : pw2 M M2 n = A
      · have kc : cmp3 (pw2 M M2 n : Int) (A : Int) = 0 := cmp3_eq (by omega)
        rw [kc]
        have HR : Hid (LogIs M M2 A most (n : Int)) := Or.inl ⟨n, hin, hA, HC.out, rfl⟩
        clear kc
        go_wp2_with fail
        go_ret
        exact ⟨⟨_, rfl, HR.out⟩, B.out.trans (B1.out.mono B.out.size)⟩
      · obtain ⟨cv, hcv, hc0⟩ : ∃ c : Int, c = cmp3 (pw2 M M2 n : Int) (A : Int) ∧ c ≠ 0 := by
          refine ⟨_, rfl, ?_⟩
          rcases Nat.lt_or_ge (pw2 M M2 n) A with h | h
          · rw [cmp3_lt (by omega)]; decide
          · rw [cmp3_gt (by omega)]; decide
        rw [← hcv]
        have hc1 : (cv == 0) = false := by simpa using hc0
        clear hcv
        have HC2 : Hid (∀ m, m < n + 1 → pw2 M M2 m ≠ A) := fun m h => by
          by_cases e : m = n
          · rw [e]; exact hA
          · exact HC.out m (by omega)
        go_wp2_with fail
        have hb := dB V1
        replace B1 := aB B1 hb
        replace NQ1 := aN NQ1 hb
        replace NP1 := aN NP1 hb
        replace NO := aN NO hb
        replace JG1 := aJ JG1 hb
        clear hb
        refine wp_region_held_drew (S := fun W => IHolds W bg 25 [.int .i64 (S : Int), .slice qa ql qc, .slice pa pl pc]) (by kernel_rfl) JG1.out (fun h1 => ?_)
        generalize V1.drew = V2 at *
        refine tk (i := 0) (v := .agg #[.int .i64 (S : Int), .slice qa ql qc, .slice pa pl pc]) rfl (by kernel_rfl) (fun _ _ _ h => h) rfl ?_ h1 ?_
        · intro W hS; have zg0 := IHolds.cell hS 0 (by simp); have zg1 := IHolds.cell hS 1 (by simp); have zg2 := IHolds.cell hS 2 (by simp); simp only [List.getElem_cons_zero, List.getElem_cons_succ] at zg0 zg1 zg2; go_simp
        simp only [Act.put, y1, y2, y3, y4, y5, y6, y7]
        refine tk (i := 1) (v := v) rfl (by kernel_rfl) (fun _ _ _ h => h) rfl ?_ h1 ?_
        · intro W hS; go_simp
        simp only [Act.put, y1, y2, y3, y4, y5, y6, y7]
        refine wpAnyH_ready (rs := [2]) (by kernel_rfl) (by simp) ?_
        refine AllReadyH.cons rfl (fun K hK => ?_) AllReadyH.nil
        clear h1
        go_simp
        have C2 := C16.out V2 2 (by omega)
        refine (show Calls Try.prog 16 #[.int .i64 2] V2 _ from C2).mono ?_
        rintro e V3 ⟨⟨v2, rfl, hv⟩, hb⟩
        replace B1 := aB B1 hb
        replace NQ1 := aN NQ1 hb
        replace NP1 := aN NP1 hb
        replace NO := aN NO hb
        replace JG1 := aJ JG1 hb
        have N2 : Hid (NumV V3 65536 2 v2) := hv
        clear hb hv C2
        go_wp2_with fail
        refine hK.out _ _ JG1.out (fun h1 => ?_)
        clear hK K
        try simp only [Act.put, y1, y2, y3, y4, y5, y6, y7]
        refine wpAnyH_ready (rs := [3]) (by kernel_rfl) (by simp) ?_
        refine AllReadyH.cons rfl (fun K hK => ?_) AllReadyH.nil
        clear h1
        go_simp
        refine (C34.out V3 n _ _ v v2 NQ1.out NP1.out NO.out N2.out).mono ?_
        rintro e V4 ⟨⟨v3, rfl, hv⟩, hb⟩
        replace B1 := aB B1 hb
        replace NQ1 := aN NQ1 hb
        replace NP1 := aN NP1 hb
        replace NO := aN NO hb
        replace JG1 := aJ JG1 hb
        have NX : Hid (NumV V4 65536 (pw2 M M2 (n + 1)) v3) := hv
        clear hb hv N2
        go_wp2_with fail
        refine hK.out _ _ JG1.out (fun h1 => ?_)
        clear hK K
        try simp only [Act.put, y1, y2, y3, y4, y5, y6, y7]
        refine tk (i := 4) (v := v3) rfl (by kernel_rfl) (fun _ _ _ h => h) rfl ?_ h1 ?_
        · intro W hS; go_simp
        simp only [Act.put, y1, y2, y3, y4, y5, y6, y7]
        refine wpAnyH_done (by kernel_rfl) ?_ _
        clear h1
        go_wp2_with fail
        go_roundg (gk - 1)
        case measure => omega
        case rel => exact ⟨n + 1, v3, by omega, rfl, by first | rfl | go_num, NX.out, HC2.out, B1.out⟩
    · have k1 : ¬ (n : Int) ≤ (most : Int) := by omega
      have HR : Hid (LogIs M M2 A most (-1)) := Or.inr ⟨fun m h => HC.out m (by omega), rfl⟩
      go_wp2_with fail
      go_ret
      exact ⟨⟨_, rfl, HR.out⟩, B.out.trans (B1.out.mono B.out.size)⟩
end
end Go.Proofs.Ytckfdpiohkggaaa
