/- The reference: powers modulo. -/
import Derived.Test.YtohpbclofcflaaaGreatBits
set_option linter.unusedSimpArgs false
set_option linter.unusedVariables false
namespace Go.Proofs.YtohpbclofcflaaaGreat
open Go.RowKit Go.Deep Go.PlainAid

theorem dg_one : dg 65536 1 = [1] := by
  unfold dg
  rw [dif_neg (by omega)]
  unfold dg
  simp
theorem dg_is_one {x : Nat} (h : (dg 65536 x).length = 1) (h0 : (dg 65536 x).getD 0 0 = 1) : x = 1 := by
  have e := vl_dg b16 x
  match hd : dg 65536 x, h with
  | [d], _ =>
    rw [hd] at e h0
    simp [vl] at e h0
    omega
theorem bval_take (L : List Nat) (i : Nat) (h : i < L.length) : bval (L.take (i + 1)) = 2 * bval (L.take i) + L.getD i 0 := by
  rw [List.take_add_one, List.getElem?_eq_getElem h, Option.toList_some, bval_snoc, List.getD_eq_getElem?_getD, List.getElem?_eq_getElem h]
  rfl
theorem pow_two_mod (a k m : Nat) : a ^ k % m * (a ^ k % m) % m = a ^ (2 * k) % m := by
  rw [← Nat.mul_mod, ← Nat.pow_add]
  congr 2
  omega
theorem pow_next_mod (a k m : Nat) : a ^ k % m * a % m = a ^ (k + 1) % m := by
  rw [Nat.mod_mul_mod, ← Nat.pow_succ]
set_option maxRecDepth 100000 in
set_option maxHeartbeats 2000000 in
theorem powerV {w : World} {a n m : Nat} {va vn vm : Value} (ha : NumV w 65536 a va) (hn : NumV w 65536 n vn) (hm : NumV w 65536 m vm) (a9 : a < m) (m2 : 2 ≤ m) (bn : (dg 65536 n).length ≤ 100000) (bm : (dg 65536 (m * m)).length ≤ 1000000) :
    Calls Tryz.prog 65 #[va, vn, vm] w fun e w' => (∃ v, e = .returned v ∧ NumV w' 65536 (a ^ n % m) v) ∧ Below w.heap.size w w' := by
  have hmm : m ≤ m * m := Nat.le_mul_of_pos_left m (by omega)
  have CT : Hid (∀ W x y u v, x ≤ m → y ≤ m → NumV W 65536 x u → NumV W 65536 y v → Calls Tryz.prog 40 #[u, v] W fun e w' => (∃ v, e = .returned v ∧ NumV w' 65536 (x * y) v) ∧ Below W.heap.size W w') := fun W x y u v hx hy h1 h2 => timesV h1 h2 (Nat.le_trans (dg_len_mono b16 (Nat.le_trans hx hmm)) bm) (Nat.le_trans (dg_len_mono b16 (Nat.le_trans hy hmm)) bm)
  have CM : Hid (∀ W x u v, x ≤ m * m → NumV W 65536 x u → NumV W 65536 m v → Calls Tryz.prog 64 #[u, v] W fun e w' => (∃ v, e = .returned v ∧ NumV w' 65536 (x % m) v) ∧ Below W.heap.size W w') := fun W x u v hx h1 h2 => modV h1 h2 (Nat.le_trans (dg_len_mono b16 hx) bm) (Nat.le_trans (dg_len_mono b16 hmm) bm) (by omega)
  have CB : Hid (∀ W, NumV W 65536 n vn → Calls Tryz.prog 82 #[vn] W fun e w' => (∃ (v : Value) (L : List Nat) (a : Option Addr) (cap : Nat), e = .returned v ∧ v = .slice a L.length cap ∧ L.length ≤ cap ∧ cap ≤ 9223372036854775807 ∧ Row w' a L ∧ bval L = n ∧ ∀ b ∈ L, b < 2) ∧ Below W.heap.size W w') := fun W h => bits_any h bn
  have NA0 : Hid (NumV w 65536 a va) := ha
  have NN : Hid (NumV w 65536 n vn) := hn
  have NM : Hid (NumV w 65536 m vm) := hm
  have HBm : Hid (∀ x, x ≤ m → (dg 65536 x).length ≤ 1000000) := fun x hx => Nat.le_trans (dg_len_mono b16 (Nat.le_trans hx hmm)) bm
  clear ha hn hm bn bm hmm
  have CO : Hid (∀ W, Calls Tryz.prog 24 #[.int .i64 1] W fun e w' => (∃ v, e = .returned v ∧ NumV w' 65536 1 v) ∧ Below W.heap.size W w') := fun W => of_any W 1 (by omega)
  go_enter Tryz.func65, Tryz.ntmps65
  go_wp2_with fail
  refine (CO.out w).mono ?_
  rintro e V1 ⟨⟨vo, rfl, hvo⟩, hb⟩
  have NO : Hid (NumV V1 65536 1 vo) := hvo
  have B : Hid (Below w.heap.size w V1) := hb
  replace NA0 := aN NA0 hb
  replace NN := aN NN hb
  replace NM := aN NM hb
  clear hb hvo CO
  go_wp2_with fail
  refine (CB.out V1 NN.out).mono ?_
  rintro e V2 ⟨⟨vb, L, ab, cb, rfl, rfl, hLc, hc9, hrow, hbv, hb2⟩, hb⟩
  replace NO := aN NO hb
  replace B := aB B hb
  replace NA0 := aN NA0 hb
  replace NM := aN NM hb
  have HBV : Hid (bval L = n) := hbv
  have HB2 : Hid (∀ b ∈ L, b < 2) := hb2
  have HRow : Hid (Row V2 ab L) := hrow
  clear hb CB NN hbv hb2 hrow
  obtain ⟨K, hK⟩ : ∃ K, K = L.length := ⟨_, rfl⟩
  rw [← hK] at hLc ⊢
  have HK : Hid (K = L.length) := hK
  clear hK
  go_wp2_with fail
  go_loopg [7, 14] K (fun gk v7 v14 wr => ∃ (i x : Nat) (v : Value), gk + i = K ∧ v = v7 ∧ v14 = .int .i64 (i : Int) ∧ NumV wr 65536 x v ∧ x = a ^ bval (L.take i) % m ∧ Below V2.heap.size V2 wr)
  case atStart => exact ⟨0, 1, _, by omega, rfl, rfl, NO.out, by simp [bval]; rw [Nat.mod_eq_of_lt (by omega)], Below.refl _ _⟩
  case round =>
    clear NO
    obtain ⟨i, x, v, hi, hv, rfl, hN, hx, hB⟩ := hrel
    subst hv
    have x9 : x < m := by rw [hx]; exact Nat.mod_lt _ (by omega)
    have NX : Hid (NumV wr 65536 x v) := hN
    have HX : Hid (x = a ^ bval (L.take i) % m) := hx
    have B1 : Hid (Below V2.heap.size V2 wr) := hB
    clear hN hx hB
    by_cases hiK : i < K
    · have k1 : (i : Int) < (K : Int) := by omega
      have hil : i < L.length := by rw [← HK.out]; exact hiK
      obtain ⟨b, hb⟩ : ∃ b, b = L.getD i 0 := ⟨_, rfl⟩
      have HS : Hid (bval (L.take (i + 1)) = 2 * bval (L.take i) + b) := by show _ = _; rw [hb]; exact bval_take L i hil
      have b2 : b < 2 := by
        rw [hb, List.getD_eq_getElem?_getD, List.getElem?_eq_getElem hil]
        exact HB2.out _ (List.getElem_mem hil)
      obtain ⟨br, orr, rfl, hc⟩ := HRow.out i hil
      have hbl : br < V2.heap.size := World.block_lt_of_cell? V2 ⟨br, orr + i, none⟩ hc
      have zc : wr.cell? ⟨br, orr + i, none⟩ = some (I b) := by
        rw [B1.out.cell hbl, hc, hb, List.getD_eq_getElem?_getD, List.getElem?_eq_getElem hil]; rfl
      clear hc hb hbl hil
      go_upto_region 5 with fail
      clear zc
      obtain ⟨tb, htb⟩ : ∃ tb : Bool, tb = decide (x ≠ 1) := ⟨_, rfl⟩
      go_cut [7, 14, 26] (fun v7 v14 v26 wx => wr = wx ∧ v = v7 ∧ v14 = .int .i64 (i : Int) ∧ v26 = .bool tb)
      case first =>
        obtain ⟨pa, pc, hv, hle, hr⟩ := NX.out
        subst hv
        by_cases hl : (dg 65536 x).length = 1
        · have hl1 : 0 < (dg 65536 x).length := by omega
          obtain ⟨br2, or2, rfl, hc2⟩ := hr 0 hl1
          obtain ⟨dd, hdd⟩ : ∃ dd, dd = (dg 65536 x).getD 0 0 := ⟨_, rfl⟩
          have zd : wr.cell? ⟨br2, or2 + 0, none⟩ = some (I dd) := by
            rw [hc2, hdd, List.getD_eq_getElem?_getD, List.getElem?_eq_getElem hl1]; rfl
          rw [Nat.add_zero] at zd
          have HL : Hid ((dg 65536 x).length = 1) := hl
          have Hdd : Hid (dd = (dg 65536 x).getD 0 0) := hdd
          rw [hl]
          rw [hl] at hle
          by_cases hd1 : dd = 1
          · have ex : x = 1 := dg_is_one hl (by rw [← hdd]; exact hd1)
            have Htb : Hid (tb = false) := by show _ = _; rw [htb, ex]; rfl
            subst hd1
            clear hc2 hdd htb hr hl hl1 ex
            go_wp2_with fail
            go_meet
            case rel => exact ⟨rfl, by rw [HL.out], rfl, by rw [Htb.out]⟩
          · have ex : x ≠ 1 := fun e => by rw [hdd, e, dg_one] at hd1; exact hd1 rfl
            have Htb : Hid (tb = true) := by show _ = _; rw [htb]; exact decide_eq_true ex
            have kd : (dd : Int) ≠ 1 := by omega
            have kd2 : ((dd : Int) == 1) = false := by simpa using kd
            have kd3 : ((dd : Int) != 1) = true := by simp [kd2, bne]
            clear hc2 hdd htb hr hl hl1 ex hd1
            go_wp2_with fail
            go_meet
            case rel => exact ⟨rfl, by rw [HL.out], rfl, by rw [Htb.out]⟩
        · have ex : x ≠ 1 := fun e => hl (by rw [e, dg_one]; rfl)
          have Htb : Hid (tb = true) := by show _ = _; rw [htb]; exact decide_eq_true ex
          obtain ⟨ln, hln⟩ : ∃ ln, ln = (dg 65536 x).length := ⟨_, rfl⟩
          rw [← hln] at hl hle ⊢
          have HLn : Hid (ln = (dg 65536 x).length) := hln
          have kd : (ln : Int) ≠ 1 := by omega
          have kd2 : ((ln : Int) == 1) = false := by simpa using kd
          have kd3 : ((ln : Int) != 1) = true := by simp [kd2, bne]
          clear hln htb hr ex hl
          go_wp2_with fail
          go_meet
          case rel => exact ⟨rfl, by rw [HLn.out], rfl, by rw [Htb.out]⟩
      case rest =>
        obtain ⟨rfl, rfl, rfl, rfl⟩ := hcut
        go_upto_if 26 with fail
        go_cut [7, 14] (fun v7 v14 wx => ∃ v, v = v7 ∧ v14 = .int .i64 (i : Int) ∧ NumV wx 65536 (x * x % m) v ∧ Below V2.heap.size V2 wx)
        case first =>
          cases tb
          · have ex : x = 1 := by
              have := htb.symm
              simpa using this
            have HE : Hid (x * x % m = x) := by show _ = _; rw [ex, Nat.mul_one, Nat.mod_eq_of_lt (by omega)]
            clear htb ex
            go_wp2_with fail
            go_meet
            case rel => exact ⟨_, rfl, rfl, by rw [HE.out]; exact NX.out, B1.out⟩
          · clear htb
            have M1 : Hid (NumV wr 65536 m vm) := NM.out.of_below B1.out
            go_wp2_with fail
            refine (CT.out wr x x v v (by omega) (by omega) NX.out NX.out).mono ?_
            rintro e V3 ⟨⟨v3, rfl, hv3⟩, hb⟩
            have N3 : Hid (NumV V3 65536 (x * x) v3) := hv3
            replace B1 := aB B1 hb
            replace M1 := aN M1 hb
            clear hv3 hb
            go_wp2_with fail
            refine (CM.out V3 (x * x) v3 vm (Nat.mul_le_mul (by omega) (by omega)) N3.out M1.out).mono ?_
            rintro e V4 ⟨⟨v4, rfl, hv4⟩, hb⟩
            have N4 : Hid (NumV V4 65536 (x * x % m) v4) := hv4
            replace B1 := aB B1 hb
            clear hv4 hb
            go_wp2_with fail
            go_meet
            case rel => exact ⟨_, rfl, rfl, N4.out, B1.out⟩
        case rest =>
          obtain ⟨vy, rfl, rfl, hN, hB⟩ := hcut
          obtain ⟨y, hy⟩ : ∃ y, y = x * x % m := ⟨_, rfl⟩
          rw [← hy] at hN
          have y9 : y < m := by rw [hy]; exact Nat.mod_lt _ (by omega)
          have HY : Hid (y = a ^ (2 * bval (L.take i)) % m) := by show _ = _; rw [hy, HX.out]; exact pow_two_mod _ _ _
          have NY : Hid (NumV wc 65536 y vy) := hN
          have BY : Hid (Below V2.heap.size V2 wc) := hB
          clear hN hB hy NX HX B1 htb
          by_cases hb1 : b = 1
          · subst hb1
            have HZ : Hid (y * a % m = a ^ bval (L.take (i + 1)) % m) := by show _ = _; rw [HY.out, HS.out]; exact pow_next_mod _ _ _
            have M1 : Hid (NumV wc 65536 m vm) := NM.out.of_below BY.out
            have A1 : Hid (NumV wc 65536 a va) := NA0.out.of_below BY.out
            go_wp2_with fail
            refine (CT.out wc y a vy va (by omega) (by omega) NY.out A1.out).mono ?_
            rintro e V3 ⟨⟨v3, rfl, hv3⟩, hb⟩
            have N3 : Hid (NumV V3 65536 (y * a) v3) := hv3
            replace BY := aB BY hb
            replace M1 := aN M1 hb
            clear hv3 hb
            go_wp2_with fail
            refine (CM.out V3 (y * a) v3 vm (Nat.mul_le_mul (by omega) (by omega)) N3.out M1.out).mono ?_
            rintro e V4 ⟨⟨v4, rfl, hv4⟩, hb⟩
            have N4 : Hid (NumV V4 65536 (y * a % m) v4) := hv4
            replace BY := aB BY hb
            clear hv4 hb
            go_wp2_with fail
            go_roundg (gk - 1)
            case measure => omega
            case rel => exact ⟨i + 1, y * a % m, v4, by omega, rfl, by first | rfl | go_num, N4.out, HZ.out, BY.out⟩
          · have hb0 : b = 0 := by omega
            subst hb0
            have HZ : Hid (y = a ^ bval (L.take (i + 1)) % m) := by show _ = _; rw [HY.out, HS.out, Nat.add_zero]
            go_wp2_with fail
            go_roundg (gk - 1)
            case measure => omega
            case rel => exact ⟨i + 1, y, vy, by omega, rfl, by first | rfl | go_num, NY.out, HZ.out, BY.out⟩
    · have k1 : ¬ (i : Int) < (K : Int) := by omega
      have eK : i = L.length := by rw [← HK.out]; omega
      have HE : Hid (x = a ^ n % m) := by show _ = _; rw [HX.out, eK, List.take_length, HBV.out]
      clear eK
      go_wp2_with fail
      go_ret
      exact ⟨⟨v, rfl, by rw [← HE.out]; exact NX.out⟩, B.out.trans (B1.out.mono B.out.size)⟩
end Go.Proofs.YtohpbclofcflaaaGreat
