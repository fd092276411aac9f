/- The reference: the bits of a number, and powers modulo. -/
import Derived.Test.YtohpbclofcflaaaGreatRefPow
set_option linter.unusedSimpArgs false
set_option linter.unusedVariables false
namespace Go.Proofs.YtohpbclofcflaaaGreat
open Go.RowKit Go.Deep Go.PlainAid

theorem vl_drop_step (l : List Nat) (t : Nat) (h : t < l.length) : vl 65536 (l.drop t) = vl 65536 (l.drop (t + 1)) * 65536 + l.getD t 0 := by
  rw [List.drop_eq_getElem_cons h, List.getD_eq_getElem?_getD, List.getElem?_eq_getElem h]
  simp only [vl, Option.getD_some]
  omega
set_option maxRecDepth 100000 in
set_option maxHeartbeats 2000000 in
theorem bits_any {w : World} {n : Nat} {v1 : Value} (h1 : NumV w 65536 n v1) (b1 : (dg 65536 n).length ≤ 100000) :
    Calls Tryz.prog 82 #[v1] w fun e w' => (∃ (v : Value) (L : List Nat) (a : Option Addr) (cap : Nat), e = .returned v ∧ v = .slice a L.length cap ∧ L.length ≤ cap ∧ cap ≤ 9223372036854775807 ∧ Row w' a L ∧ bval L = n ∧ ∀ b ∈ L, b < 2) ∧ Below w.heap.size w w' := by
  obtain ⟨a1, c1, rfl, k1, r1⟩ := h1
  have HV : Hid (vl 65536 (dg 65536 n) = n) := vl_dg b16 n
  have HD : Hid (∀ d ∈ dg 65536 n, d < 65536) := dg_mem b16 n
  generalize dg 65536 n = l at *
  have H1 : Hid (Row w a1 l) := r1
  clear r1
  obtain ⟨N, hN⟩ : ∃ N, N = l.length := ⟨_, rfl⟩
  rw [← hN] at b1 k1 ⊢
  have HN : Hid (N = l.length) := hN
  clear hN
  obtain ⟨i0, hi0, hz0, hz1, hz2⟩ := info_parts Tryz.info3
  go_enter Tryz.func82, Tryz.ntmps82
  go_wp2_with fail
  go_loopg [3, 4] N (fun gk v3 v4 wr => ∃ (t : Nat) (D : List Nat) (v : Value), gk = t ∧ t ≤ N ∧ v = v3 ∧ v4 = .int .i64 ((t : Int) - 1) ∧ D.length + t * 16 = N * 16 ∧ bval D = vl 65536 (l.drop t) ∧ (∀ b ∈ D, b < 2) ∧ wr.ownsRow w.heap.size 3 1 v D.length (zs D) ∧ Below w.heap.size w wr)
  case atStart => exact ⟨N, [], _, rfl, Nat.le_refl _, rfl, by first | rfl | go_num, by simp, by rw [HN.out, List.drop_length]; rfl, by simp, World.ownsRow_nil _ _ _ _, Below.refl _ _⟩
  case round =>
    obtain ⟨t, D, v, hg, ht, hv, rfl, hDl, hDv, hD2, ho, hB⟩ := hrel
    subst hg
    subst hv
    rcases Nat.eq_zero_or_pos gk with h0 | h0
    · subst h0
      have kz : ((0 : Nat) : Int) - 1 = -1 := by omega
      rw [kz]
      have HR : Hid (bval D = n) := by show _ = _; rw [hDv, List.drop_zero]; exact HV.out
      have HD2 : Hid (∀ b ∈ D, b < 2) := hD2
      obtain ⟨a, cap, rfl, hc1, hc2, hRow⟩ := Row.of_owned ho
      have HRow : Hid (Row wr a D) := hRow
      have HB : Hid (Below w.heap.size w wr) := hB
      clear hDl hDv hD2 ho hRow hB
      go_wp2_with fail
      go_ret
      exact ⟨⟨_, D, a, cap, rfl, rfl, hc1, hc2, HRow.out, HR.out, HD2.out⟩, HB.out⟩
    · obtain ⟨i, rfl⟩ : ∃ i, gk = i + 1 := ⟨gk - 1, by omega⟩
      have kp : ((i + 1 : Nat) : Int) - 1 = (i : Int) := by omega
      rw [kp]
      have k2 : (0 : Int) ≤ (i : Int) := by omega
      have k3 : (i : Int) < (N : Int) := by omega
      have hil : i < l.length := by rw [← HN.out]; omega
      obtain ⟨d, hd⟩ : ∃ d, d = l.getD i 0 := ⟨_, rfl⟩
      have d9 : d < 65536 := by rw [hd]; exact getD_lt HD.out i
      obtain ⟨br, orr, rfl, hc⟩ := H1.out i hil
      have hbl : br < w.heap.size := World.block_lt_of_cell? w ⟨br, orr + i, none⟩ hc
      obtain ⟨qi, hqi⟩ : ∃ q, q = orr + i := ⟨_, rfl⟩
      have Hc : Hid (w.cell? ⟨br, qi, none⟩ = some (I d)) := by
        show _ = _
        rw [hqi, hc, hd, List.getD_eq_getElem?_getD, List.getElem?_eq_getElem hil]; rfl
      have Hqi : Hid (qi = orr + i) := hqi
      have HVd : Hid (vl 65536 (l.drop i) = vl 65536 (l.drop (i + 1)) * 65536 + d) := by show _ = _; rw [hd]; exact vl_drop_step l i hil
      obtain ⟨Vt, hVt⟩ : ∃ V, V = vl 65536 (l.drop (i + 1)) := ⟨_, rfl⟩
      rw [← hVt] at HVd hDv
      have HDv : Hid (bval D = Vt) := hDv
      have HD2 : Hid (∀ b ∈ D, b < 2) := hD2
      have HDl : Hid (D.length + (i + 1) * 16 = N * 16) := hDl
      have HO : Hid (wr.ownsRow w.heap.size 3 1 v D.length (zs D)) := ho
      have HB : Hid (Below w.heap.size w wr) := hB
      have Hbl : Hid (br < w.heap.size) := hbl
      clear hd hc hqi hVt hDv hD2 hDl ho hB hbl hil
      go_wp2_with fail
      go_loopg [3, 5] 16 (fun gj v3 v5 wr => ∃ (j : Nat) (E : List Nat) (v : Value), gj + j = 16 ∧ v = v3 ∧ v5 = .int .i64 ((2 ^ (16 - j) / 2 : Nat) : Int) ∧ E.length = D.length + j ∧ bval E = Vt * 2 ^ j + d / 2 ^ (16 - j) ∧ (∀ b ∈ E, b < 2) ∧ wr.ownsRow w.heap.size 3 1 v E.length (zs E) ∧ Below w.heap.size w wr)
      case atStart => exact ⟨0, D, _, rfl, rfl, rfl, by omega, by rw [HDv.out]; simp; omega, HD2.out, HO.out, HB.out⟩
      case round =>
        obtain ⟨j, E, v, hj, hv, rfl, hEl, hEv, hE2, ho, hB⟩ := hrel
        subst hv
        have HE2 : Hid (∀ b ∈ E, b < 2) := hE2
        have HEv : Hid (bval E = Vt * 2 ^ j + d / 2 ^ (16 - j)) := hEv
        have HO1 : Hid (wr.ownsRow w.heap.size 3 1 v E.length (zs E)) := ho
        have HB1 : Hid (Below w.heap.size w wr) := hB
        have hEl9 : E.length ≤ 2000000 := by have := HDl.out; omega
        have HEl : Hid (E.length = D.length + j) := hEl
        clear hE2 hEv ho hB HO HB hEl
        have hs := half_step j
        obtain ⟨p, hp⟩ : ∃ p, p = 2 ^ (16 - j) / 2 := ⟨_, rfl⟩
        obtain ⟨p2, hp2⟩ : ∃ p, p = 2 ^ (16 - (j + 1)) / 2 := ⟨_, rfl⟩
        rw [← hp, ← hp2] at hs
        rw [← hp]
        have p9 : p ≤ 32768 := by rw [hp]; exact half_le j
        have Hp2 : Hid (p2 = 2 ^ (16 - (j + 1)) / 2) := hp2
        by_cases hj16 : j < 16
        · have p0 : 0 < p := by rw [hp]; exact half_pos hj16
          have hst := bit_step Vt d j hj16
          rw [← hp] at hst
          obtain ⟨b, hb⟩ : ∃ b, b = d / p % 2 := ⟨_, rfl⟩
          obtain ⟨y, hy⟩ : ∃ y, y = d / p := ⟨_, rfl⟩
          rw [← hy] at hb
          rw [← hy] at hst
          rw [← hb, ← HEv.out] at hst
          have b2 : b < 2 := by rw [hb]; exact Nat.mod_lt _ (by omega)
          have HS : Hid (2 * bval E + b = Vt * 2 ^ (j + 1) + d / 2 ^ (16 - (j + 1))) := hst
          have y9 : y < 65536 := by rw [hy]; exact Nat.lt_of_le_of_lt (Nat.div_le_self _ _) d9
          have ky : (d : Int) / (p : Int) = (y : Int) := by rw [hy]; norm_cast
          have ky2 : (d : Int).tdiv (p : Int) = (y : Int) := by rw [Int.tdiv_eq_ediv_of_nonneg (by omega)]; exact ky
          have kb : (y : Int) % 2 = (b : Int) := by omega
          have kb2 : (y : Int).tmod 2 = (b : Int) := by rw [Int.tmod_eq_emod_of_nonneg (by omega)]; exact kb
          have kp2 : (p : Int) / 2 = (p2 : Int) := by omega
          have kp3 : (p : Int).tdiv 2 = (p2 : Int) := by rw [Int.tdiv_eq_ediv_of_nonneg (by omega)]; exact kp2
          have kp0 : (0 : Int) < (p : Int) := by omega
          have kpn : (p : Int) ≠ 0 := by omega
          clear hst hy hb hp hp2 hs
          have zc : wr.cell? ⟨br, qi, none⟩ = some (I d) := by
            rw [HB1.out.cell Hbl.out]; exact Hc.out
          have e5 : orr + i = qi := Hqi.out.symm
          have HO2 : Hid ((wr.alloc (.cells #[.int .i64 (b : Int)] 3)).ownsRow w.heap.size 3 1 v E.length (zs E)) := HO1.out.alloc _
          have HC2 : Hid (∀ jj u, [I b][jj]? = some u → (wr.alloc (.cells #[.int .i64 (b : Int)] 3)).cell? ((⟨wr.heap.size, 0, none⟩ : Addr).add jj) = some u) := fun jj u hu => by
            have hj0 : jj < [I b].length := (List.getElem?_eq_some_iff.1 hu).1
            have q := (IHolds.new wr 3 [I b]).cell jj hj0
            rw [(List.getElem?_eq_some_iff.1 hu).2] at q
            have e0 : jj = 0 := by simp only [List.length_cons, List.length_nil, Nat.zero_add, Nat.lt_one_iff] at hj0; exact hj0
            subst e0
            exact q
          have HB2 : Hid (Below w.heap.size w (wr.alloc (.cells #[.int .i64 (b : Int)] 3))) := aB HB1 (nB _ _)
          go_wp2_with (at_builtin; refine wpList_append_own _ rfl (.tmp 15) (.tmp 23) 39 rfl w.heap.size 3 i0 (.int .i64 0) 1 8 Tryz.underlying39 hi0 hz0 hz1 hz2 rfl (by decide) v E.length (zs E) rfl HO2.out ⟨wr.heap.size, 0, none⟩ 1 1 [I b] rfl rfl HC2.out (fun u hu => by simp at hu; subst hu; rfl) (by unfold maxLen; omega) (by omega) HB2.out.size ?_; intro v1 w1 hown1 hgrow1 hn1; have HO3 : Hid (w1.ownsRow w.heap.size 3 1 v1 (E.length + 1) (zs E ++ [I b])) := hown1; have HG3 : Hid (Below w.heap.size w w1) := HB2.out.grown hgrow1 HB2.out.size (fun k hk => (HO2.out.lt k hk).1); clear hown1 hgrow1 hn1)
          go_roundg (gk - 1)
          case measure => omega
          case rel =>
            refine ⟨j + 1, E ++ [b], v1, by omega, rfl, ?_, ?_, ?_, ?_, ?_, HG3.out⟩
            · rw [← Hp2.out]
            · rw [List.length_append, HEl.out]; rfl
            · rw [bval_snoc]; exact HS.out
            · intro x hx
              rcases List.mem_append.1 hx with h | h
              · exact HE2.out x h
              · rw [List.mem_singleton.1 h]; exact b2
            · rw [List.length_append]
              have e : zs (E ++ [b]) = zs E ++ [I b] := by simp [zs]
              rw [e]
              exact HO3.out
        · have j16 : j = 16 := by omega
          subst j16
          have p0 : p = 0 := by rw [hp]
          subst p0
          clear hp hp2 hs
          have HEv2 : Hid (bval E = vl 65536 (l.drop i)) := by
            show _ = _
            rw [HEv.out, HVd.out]
            simp
          go_wp2_with fail
          go_roundg i
          case measure => omega
          case rel => exact ⟨i, E, v, rfl, by omega, rfl, by first | rfl | go_num, by have := HDl.out; have := HEl.out; omega, HEv2.out, HE2.out, HO1.out, HB1.out⟩
end Go.Proofs.YtohpbclofcflaaaGreat
