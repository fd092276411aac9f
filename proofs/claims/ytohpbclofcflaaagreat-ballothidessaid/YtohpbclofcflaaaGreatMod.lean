/- The reference's Minus and Mod. -/
import Derived.Test.YtohpbclofcflaaaGreatTake
set_option linter.unusedSimpArgs false
set_option linter.unusedVariables false
namespace Go.Proofs.YtohpbclofcflaaaGreat
open Go.RowKit Go.Deep Go.PlainAid

theorem takeV {W : World} {a m n k : Nat} {v1 v2 : Value} (h1 : NumV W 65536 a v1) (h2 : NumV W 65536 m v2) (b1 : (dg 65536 a).length ≤ 1000000) (b2 : (dg 65536 m).length ≤ 1000000) (b3 : k ≤ 1000000) (n0 : 0 < n) (n9 : n < 65536) (hle : n * m * 65536 ^ k ≤ a) :
    Calls Tryz.prog 81 #[v1, v2, .int .i64 (n : Int), .int .i64 (k : Int)] W fun e w' => (∃ v, e = .returned v ∧ NumV w' 65536 (a - n * m * 65536 ^ k) v) ∧ Below W.heap.size W w' := by
  obtain ⟨a1, c1, rfl, k1, r1⟩ := h1
  obtain ⟨a2, c2, rfl, k2, r2⟩ := h2
  exact take_any W a1 a2 c1 c2 a m n k r1 r2 b1 b2 b3 n0 n9 hle
set_option maxRecDepth 100000 in
set_option maxHeartbeats 2000000 in
theorem minusV {W : World} {a m : Nat} {v1 v2 : Value} (h1 : NumV W 65536 a v1) (h2 : NumV W 65536 m v2) (b1 : (dg 65536 a).length ≤ 1000000) (b2 : (dg 65536 m).length ≤ 1000000) (hle : m ≤ a) :
    Calls Tryz.prog 72 #[v1, v2] W fun e w' => (∃ v, e = .returned v ∧ NumV w' 65536 (a - m) v) ∧ Below W.heap.size W w' := by
  have C := takeV (n := 1) (k := 0) h1 h2 b1 b2 (by omega) (by omega) (by omega) (by simpa using hle)
  rw [Nat.one_mul, Nat.pow_zero, Nat.mul_one] at C
  obtain ⟨a1, c1, rfl, k1, r1⟩ := h1
  obtain ⟨a2, c2, rfl, k2, r2⟩ := h2
  generalize (dg 65536 a).length = L1 at *
  generalize (dg 65536 m).length = L2 at *
  have C' : Hid (Calls Tryz.prog 81 #[.slice a1 L1 c1, .slice a2 L2 c2, .int .i64 1, .int .i64 0] W fun e w' => (∃ v, e = .returned v ∧ NumV w' 65536 (a - m) v) ∧ Below W.heap.size W w') := C
  clear C r1 r2
  go_enter Tryz.func72, Tryz.ntmps72
  go_wp2_with fail
  refine C'.out.mono ?_
  rintro e U2 ⟨⟨u, rfl, hv⟩, hb⟩
  have N2 : Hid (NumV U2 65536 (a - m) u) := hv
  have B2 : Hid (Below W.heap.size W U2) := hb
  clear hv hb
  go_wp2_with fail
  go_ret
  exact ⟨⟨_, rfl, N2.out⟩, B2.out⟩
theorem NumV.cellAt {w : World} {n : Nat} {a : Option Addr} (h : Row w a (dg 65536 n)) {i : Nat} (hi : i < (dg 65536 n).length) : ∃ b o, a = some ⟨b, o, none⟩ ∧ w.cell? ⟨b, o + i, none⟩ = some (I ((dg 65536 n).getD i 0)) := by
  obtain ⟨b, o, e, c⟩ := h i hi
  exact ⟨b, o, e, by rw [c, List.getD_eq_getElem?_getD, List.getElem?_eq_getElem hi]; rfl⟩
set_option maxRecDepth 100000 in
set_option maxHeartbeats 400000 in
theorem modV {w : World} {a m : Nat} {v1 v2 : Value} (h1 : NumV w 65536 a v1) (h2 : NumV w 65536 m v2) (b1 : (dg 65536 a).length ≤ 1000000) (b2 : (dg 65536 m).length ≤ 1000000) (m0 : 0 < m) :
    Calls Tryz.prog 64 #[v1, v2] w fun e w' => (∃ v, e = .returned v ∧ NumV w' 65536 (a % m) v) ∧ Below w.heap.size w w' := by
  have lm0 : 0 < (dg 65536 m).length := by
    have : (dg 65536 m).length ≠ 0 := by rw [Ne, dg_length_zero b16]; omega
    omega
  have M1 : Hid (NumV w 65536 m v2) := h2
  have N0 : Hid (NumV w 65536 a v1) := h1
  have CC : Hid (∀ W x u, x ≤ a → NumV W 65536 x u → NumV W 65536 m v2 → Calls Tryz.prog 41 #[u, v2] W fun e w' => e = .returned (.int .i64 (cmp3 (x : Int) (m : Int))) ∧ Below W.heap.size W w') := fun W x u hx h1 h2 => compareV h1 h2 (Nat.le_trans (dg_len_mono b16 hx) b1) b2
  obtain ⟨p2, cp2, rfl, k2, r2⟩ := h2
  obtain ⟨p1, cp1, rfl, k1, r1⟩ := h1
  obtain ⟨Lm, hLm⟩ : ∃ Lm, Lm = (dg 65536 m).length := ⟨_, rfl⟩
  have HLm : Hid (Lm = (dg 65536 m).length) := hLm
  rw [← hLm] at M1 CC k2 ⊢
  clear hLm
  have HL : Hid (∀ x, x ≤ a → (dg 65536 x).length ≤ 1000000) := fun x hx => Nat.le_trans (dg_len_mono b16 hx) b1
  clear r1 r2 k1
  go_enter Tryz.func64, Tryz.ntmps64
  go_wp2_with fail
  go_loopg [0] a (fun gk v0 wr => ∃ (x : Nat) (v : Value), x = gk ∧ v = v0 ∧ NumV wr 65536 x v ∧ x % m = a % m ∧ x ≤ a ∧ Below w.heap.size w wr)
  case atStart => exact ⟨a, _, rfl, rfl, N0.out, rfl, Nat.le_refl _, Below.refl _ _⟩
  case round =>
    obtain ⟨x, v0, rfl, rfl, hv, hx, hxa, hb⟩ := hrel
    clear N0
    have N1 : Hid (NumV wr 65536 x v0) := hv
    have HX : Hid (x % m = a % m) := hx
    have B1 : Hid (Below w.heap.size w wr) := hb
    clear hv hx hb
    have C := CC.out wr x v0 hxa N1.out (M1.out.of_below B1.out)
    obtain ⟨p3, cp3, rfl, k3, r3⟩ := N1.out
    clear r3
    go_wp2_with fail
    refine C.mono ?_
    rintro e U1 ⟨rfl, hb⟩
    replace B1 := aB B1 hb
    replace N1 := aN N1 hb
    clear hb C
    have M2 := M1.out.of_below B1.out
    by_cases hge : m ≤ x
    · have hc : Hid (0 ≤ cmp3 (x : Int) (m : Int)) := by
        show _ ≤ _
        rcases Nat.lt_or_eq_of_le hge with h | h
        · rw [cmp3_gt (by omega)]; omega
        · rw [cmp3_eq (by omega)]; omega
      have hc2 := hc.out
      clear hc
      generalize cmp3 (x : Int) (m : Int) = cc at *
      have V2 := N1.out
      have lx : (dg 65536 m).length ≤ (dg 65536 x).length := dg_len_mono b16 hge
      have l9 := HL.out x hxa
      have OM := fun u t n k => off_many (a := x) (m := m) (u := u) (t := t) (n := n) (k := k) lx lm0
      have OE := fun lt u t s n k => off_more (a := x) (m := m) (u := u) (t := t) (s := s) (n := n) (k := k) lt lm0
      have CT0 : Hid (∀ (W : World) (v1 v2 : Value) (n k : Nat), n < 65536 ∧ 0 < n ∧ k ≤ 1000000 ∧ n * m * 65536 ^ k ≤ x → NumV W 65536 m v2 → NumV W 65536 x v1 → Calls Tryz.prog 81 #[v1, v2, .int .i64 (n : Int), .int .i64 (k : Int)] W fun e w' => (∃ v, e = .returned v ∧ NumV w' 65536 (x - n * m * 65536 ^ k) v) ∧ Below W.heap.size W w') := fun W v1 v2 n k hq h2 h1 => takeV h1 h2 l9 b2 hq.2.2.1 hq.2.1 hq.1 hq.2.2.2
      obtain ⟨cA, hcA⟩ : ∃ cA : Nat, cA = (dg 65536 x).length - 1 := ⟨_, rfl⟩
      obtain ⟨cM, hcM⟩ : ∃ cM : Nat, cM = (dg 65536 m).length - 1 := ⟨_, rfl⟩
      have rA : Row U1 p3 (dg 65536 x) := by
        obtain ⟨q, c, e, _, r⟩ := N1.out
        simp only [Value.slice.injEq] at e
        rw [e.1]; exact r
      have rM : Row U1 p2 (dg 65536 m) := by
        obtain ⟨q, c, e, _, r⟩ := M2
        simp only [Value.slice.injEq] at e
        rw [e.1]; exact r
      obtain ⟨gA, oA, rfl, dA⟩ := NumV.cellAt rA (i := cA) (by omega)
      obtain ⟨gM, oM, rfl, dM⟩ := NumV.cellAt rM (i := cM) (by omega)
      have dA2 : 1 < (dg 65536 x).length → U1.cell? ⟨gA, oA + ((dg 65536 x).length - 2), none⟩ = some (I ((dg 65536 x).getD ((dg 65536 x).length - 2) 0)) := fun h => by
        obtain ⟨g, o, e, c⟩ := NumV.cellAt rA (i := (dg 65536 x).length - 2) (by omega)
        simp only [Option.some.injEq, Addr.mk.injEq, and_true] at e
        obtain ⟨rfl, rfl⟩ := e
        exact c
      have t9 : (dg 65536 x).getD cA 0 < 65536 := getD_lt (dg_mem b16 x) _
      have s9 : (dg 65536 x).getD ((dg 65536 x).length - 2) 0 < 65536 := getD_lt (dg_mem b16 x) _
      have u9 : (dg 65536 m).getD cM 0 < 65536 := getD_lt (dg_mem b16 m) _
      have e1 := OM _ _ _ ((dg 65536 x).length - (dg 65536 m).length) rfl rfl rfl (by omega)
      have e2 := fun lt h0 => OE lt _ _ _ _ ((dg 65536 x).length - (dg 65536 m).length - 1) rfl rfl rfl h0 rfl (by omega)
      rw [← hcA, ← hcM] at e1 e2
      clear rA rM OM OE
      obtain ⟨s, hs⟩ : ∃ s, s = (dg 65536 x).getD ((dg 65536 x).length - 2) 0 := ⟨_, rfl⟩
      rw [← hs] at dA2 e2 s9
      clear hs
      generalize (dg 65536 x).getD cA 0 = t at *
      generalize (dg 65536 m).getD cM 0 = u at *
      obtain ⟨La, hLa⟩ : ∃ La, La = (dg 65536 x).length := ⟨_, rfl⟩
      have hLm := HLm.out
      have E1 : Hid (t / (u + 1) * m * 65536 ^ (La - Lm) ≤ x) := by show _ ≤ _; rw [hLa, hLm]; exact e1.1
      have E2 : Hid (Lm < La → t / (u + 1) = 0 → (t * 65536 + s) / (u + 1) * m * 65536 ^ (La - Lm - 1) ≤ x ∧ (t * 65536 + s) / (u + 1) < 65536 ∧ 0 < (t * 65536 + s) / (u + 1)) := by show _ → _; rw [hLa, hLm]; exact e2
      have DA2 : Hid (1 < La → U1.cell? ⟨gA, oA + (La - 2), none⟩ = some (I s)) := by show _ → _; rw [hLa]; exact dA2
      clear e1 e2 dA2
      rw [← hLa, ← hLm] at lx
      rw [← hLa] at l9 hcA ⊢
      rw [← hLm] at hcM lm0 b2
      rw [← hLa] at V2
      clear hLa hLm N1
      have kcA : (La : Int) - 1 = (cA : Int) := by omega
      have kcM : (Lm : Int) - 1 = (cM : Int) := by omega
      have cA9 : (cA : Int) < (La : Int) := by omega
      have cM9 : (cM : Int) < (Lm : Int) := by omega
      obtain ⟨u1, hu1⟩ : ∃ u1, u1 = u + 1 := ⟨_, rfl⟩
      have ku1 : (u : Int) + 1 = (u1 : Int) := by omega
      rw [← hu1] at E1 E2
      have u1a : 0 < u1 := by omega
      have u1b : u1 ≤ 65536 := by omega
      have u1c : (u1 : Int) ≠ 0 := by omega
      obtain ⟨n1, hn1⟩ : ∃ n1, n1 = t / u1 := ⟨_, rfl⟩
      rw [← hn1] at E1 E2
      have kn1 : (t : Int) / (u1 : Int) = (n1 : Int) := by rw [hn1]; exact (Int.natCast_ediv t u1).symm
      have kn2 : (t : Int).tdiv (u1 : Int) = (n1 : Int) := by rw [Int.tdiv_eq_ediv_of_nonneg (by omega)]; exact kn1
      have n19 : n1 < 65536 := by rw [hn1]; exact Nat.lt_of_le_of_lt (Nat.div_le_self _ _) t9
      obtain ⟨k0, hk0⟩ : ∃ k0, k0 = La - Lm := ⟨_, rfl⟩
      rw [← hk0] at E1 E2
      have kk0 : (La : Int) - (Lm : Int) = (k0 : Int) := by omega
      have k09 : k0 ≤ 1000000 := by omega
      have HLL : Hid (0 < k0 → Lm < La ∧ 1 < La) := by show _ → _; intro _; omega
      clear hn1 hu1 hcA hcM hk0
      have wq1 : (n1 : Int) ≤ 65535 := by omega
      have hD : Hid (Below w.heap.size w U1) := B1.out
      by_cases hz : n1 = 0
      · by_cases hk : 0 < k0
        · have hk' : (0 : Int) < (k0 : Int) := by omega
          obtain ⟨hLL, hL1⟩ := HLL.out hk
          obtain ⟨f1, f2, f3⟩ := E2.out hLL hz
          have DB := DA2.out hL1
          obtain ⟨cB, hcB⟩ : ∃ cB : Nat, cB = La - 2 := ⟨_, rfl⟩
          rw [← hcB] at DB
          have kcB : (La : Int) - 2 = (cB : Int) := by omega
          have cB9 : (cB : Int) < (La : Int) := by omega
          obtain ⟨ts, hts⟩ : ∃ ts, ts = t * 65536 := ⟨_, rfl⟩
          have kts : (t : Int) * 65536 = (ts : Int) := by omega
          obtain ⟨tss, htss⟩ : ∃ tss, tss = ts + s := ⟨_, rfl⟩
          have ktss : (ts : Int) + (s : Int) = (tss : Int) := by omega
          rw [← hts, ← htss] at f1 f2 f3
          obtain ⟨n2, hn2⟩ : ∃ n2, n2 = tss / u1 := ⟨_, rfl⟩
          rw [← hn2] at f1 f2 f3
          have kn3 : (tss : Int) / (u1 : Int) = (n2 : Int) := by rw [hn2]; exact (Int.natCast_ediv tss u1).symm
          have kn4 : (tss : Int).tdiv (u1 : Int) = (n2 : Int) := by rw [Int.tdiv_eq_ediv_of_nonneg (by omega)]; exact kn3
          obtain ⟨k1, hk1⟩ : ∃ k1, k1 = k0 - 1 := ⟨_, rfl⟩
          rw [← hk1] at f1
          have kk1 : (k0 : Int) - 1 = (k1 : Int) := by omega
          have k19 : k1 ≤ 1000000 := by omega
          have ts9 : ts ≤ 4294901760 := by omega
          have tss9 : tss ≤ 4294967295 := by omega
          have N0 : 0 < n2 := f3
          have FT : Hid (n2 * m * 65536 ^ k1 ≤ x) := f1
          have nz : ¬ (n2 : Int) = 0 := by omega
          have nz2 : ((n2 : Int) == 0) = false := by simpa using nz
          clear hcB hts htss hn2 hk1 E1 E2 DA2 CC
          subst hz
          go_wp2_with fail
          go_quiet (fail)
          have dA' : (U1.drewN nq).cell? ⟨gA, oA + cA, none⟩ = some (I t) := dA
          have dM' : (U1.drewN nq).cell? ⟨gM, oM + cM, none⟩ = some (I u) := dM
          have DB' : (U1.drewN nq).cell? ⟨gA, oA + cB, none⟩ = some (I s) := DB
          have M2' : NumV (U1.drewN nq) 65536 m _ := M2
          have V2' : NumV (U1.drewN nq) 65536 x _ := V2
          have hD' : Hid (Below w.heap.size w (U1.drewN nq)) := ⟨hD.out.os, hD.out.tape, hD.out.output, hD.out.size, hD.out.block⟩
          clear dA dM DB M2 V2 hD B1
          generalize U1.drewN nq = U1 at *
          go_wp2_with fail
          go_quiet (fail)
          have B1 : Hid (Below w.heap.size w (U1.drewN nq)) := ⟨hD'.out.os, hD'.out.tape, hD'.out.output, hD'.out.size, hD'.out.block⟩
          have CT : Hid (∀ (v1 v2 : Value) (n k : Nat), n < 65536 ∧ 0 < n ∧ k ≤ 1000000 ∧ n * m * 65536 ^ k ≤ x → NumV (U1.drewN nq) 65536 m v2 → NumV (U1.drewN nq) 65536 x v1 → Calls Tryz.prog 81 #[v1, v2, .int .i64 (n : Int), .int .i64 (k : Int)] (U1.drewN nq) fun e w' => (∃ v, e = .returned v ∧ NumV w' 65536 (x - n * m * 65536 ^ k) v) ∧ Below (U1.drewN nq).heap.size (U1.drewN nq) w') := CT0.out _
          have M2 : NumV (U1.drewN nq) 65536 m _ := M2'
          have V2 : NumV (U1.drewN nq) 65536 x _ := V2'
          clear hD' CT0
          go_wp2_with fail
          refine (CT.out _ _ n2 k1 ⟨f2, N0, k19, FT.out⟩ M2 V2).mono ?_
          rintro e U2 ⟨⟨u, rfl, hv⟩, hb⟩
          obtain ⟨x', hx'⟩ : ∃ x', x' = x - n2 * m * 65536 ^ k1 := ⟨_, rfl⟩
          rw [← hx'] at hv
          obtain ⟨ol, om⟩ := off_less m0 N0 FT.out
          rw [← hx'] at ol om
          have N2 : Hid (NumV U2 65536 x' u) := hv
          have B2 : Hid (Below w.heap.size w U2) := aB B1 hb
          clear hv hb hx' M2 V2 FT
          go_wp2_with fail
          go_roundg x'
          case measure => omega
          case rel => exact ⟨x', _, rfl, rfl, N2.out, by rw [om]; exact HX.out, by omega, B2.out⟩
        · obtain rfl : k0 = 0 := by omega
          have N0 : 0 < 1 := by omega
          have FT : Hid (1 * m * 65536 ^ 0 ≤ x) := by show _ ≤ _; simpa using hge
          clear E1 E2 DA2 CC
          subst hz
          go_wp2_with fail
          go_quiet (fail)
          have B1 : Hid (Below w.heap.size w (U1.drewN nq)) := ⟨hD.out.os, hD.out.tape, hD.out.output, hD.out.size, hD.out.block⟩
          have CT : Hid (∀ (v1 v2 : Value) (n k : Nat), n < 65536 ∧ 0 < n ∧ k ≤ 1000000 ∧ n * m * 65536 ^ k ≤ x → NumV (U1.drewN nq) 65536 m v2 → NumV (U1.drewN nq) 65536 x v1 → Calls Tryz.prog 81 #[v1, v2, .int .i64 (n : Int), .int .i64 (k : Int)] (U1.drewN nq) fun e w' => (∃ v, e = .returned v ∧ NumV w' 65536 (x - n * m * 65536 ^ k) v) ∧ Below (U1.drewN nq).heap.size (U1.drewN nq) w') := CT0.out _
          have M2 : NumV (U1.drewN nq) 65536 m _ := M2
          have V2 : NumV (U1.drewN nq) 65536 x _ := V2
          clear hD CT0
          go_wp2_with fail
          refine (CT.out _ _ 1 0 ⟨by omega, N0, by omega, FT.out⟩ M2 V2).mono ?_
          rintro e U2 ⟨⟨u, rfl, hv⟩, hb⟩
          obtain ⟨x', hx'⟩ : ∃ x', x' = x - 1 * m * 65536 ^ 0 := ⟨_, rfl⟩
          rw [← hx'] at hv
          obtain ⟨ol, om⟩ := off_less m0 N0 FT.out
          rw [← hx'] at ol om
          have N2 : Hid (NumV U2 65536 x' u) := hv
          have B2 : Hid (Below w.heap.size w U2) := aB B1 hb
          clear hv hb hx' M2 V2 FT
          go_wp2_with fail
          go_roundg x'
          case measure => omega
          case rel => exact ⟨x', _, rfl, rfl, N2.out, by rw [om]; exact HX.out, by omega, B2.out⟩
      · have nz : ¬ (n1 : Int) = 0 := by omega
        have nz2 : ((n1 : Int) == 0) = false := by simpa using nz
        have N0 : 0 < n1 := by omega
        have FT : Hid (n1 * m * 65536 ^ k0 ≤ x) := E1.out
        clear E1 E2 DA2 CC
        go_wp2_with fail
        go_quiet (fail)
        have B1 : Hid (Below w.heap.size w (U1.drewN nq)) := ⟨hD.out.os, hD.out.tape, hD.out.output, hD.out.size, hD.out.block⟩
        have CT : Hid (∀ (v1 v2 : Value) (n k : Nat), n < 65536 ∧ 0 < n ∧ k ≤ 1000000 ∧ n * m * 65536 ^ k ≤ x → NumV (U1.drewN nq) 65536 m v2 → NumV (U1.drewN nq) 65536 x v1 → Calls Tryz.prog 81 #[v1, v2, .int .i64 (n : Int), .int .i64 (k : Int)] (U1.drewN nq) fun e w' => (∃ v, e = .returned v ∧ NumV w' 65536 (x - n * m * 65536 ^ k) v) ∧ Below (U1.drewN nq).heap.size (U1.drewN nq) w') := CT0.out _
        have M2 : NumV (U1.drewN nq) 65536 m _ := M2
        have V2 : NumV (U1.drewN nq) 65536 x _ := V2
        clear hD CT0
        go_wp2_with fail
        refine (CT.out _ _ n1 k0 ⟨n19, N0, k09, FT.out⟩ M2 V2).mono ?_
        rintro e U2 ⟨⟨u, rfl, hv⟩, hb⟩
        obtain ⟨x', hx'⟩ : ∃ x', x' = x - n1 * m * 65536 ^ k0 := ⟨_, rfl⟩
        rw [← hx'] at hv
        obtain ⟨ol, om⟩ := off_less m0 N0 FT.out
        rw [← hx'] at ol om
        have N2 : Hid (NumV U2 65536 x' u) := hv
        have B2 : Hid (Below w.heap.size w U2) := aB B1 hb
        clear hv hb hx' M2 V2 FT
        go_wp2_with fail
        go_roundg x'
        case measure => omega
        case rel => exact ⟨x', _, rfl, rfl, N2.out, by rw [om]; exact HX.out, by omega, B2.out⟩
    · have hc : cmp3 (x : Int) (m : Int) = -1 := cmp3_lt (by omega)
      rw [hc]
      have HE : Hid (x = a % m) := by show _ = _; rw [← HX.out, Nat.mod_eq_of_lt (by omega)]
      have N2 : Hid (NumV U1 65536 (a % m) (.slice p3 (dg 65536 x).length cp3)) := by
        have := N1.out
        have e := HE.out
        rw [← e]; exact this
      generalize (dg 65536 x).length = Lx at *
      clear N1 HE M2 HX
      go_wp2_with fail
      go_ret
      exact ⟨⟨_, rfl, N2.out⟩, B1.out⟩
end Go.Proofs.YtohpbclofcflaaaGreat
