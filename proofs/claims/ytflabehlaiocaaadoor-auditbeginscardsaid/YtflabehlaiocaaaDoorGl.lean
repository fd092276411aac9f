/- Numbers that lie in blocks of their own. -/
import Derived.Test.YtflabehlaiocaaaDoorKg
import Derived.Test.YtflabehlaiocaaaDoorBaseF
set_option linter.unusedSimpArgs false
set_option linter.unusedVariables false
namespace Go.Proofs.YtflabehlaiocaaaDoor
open Go.RowKit Go.Deep Go.PlainAid

/-- What lies from base on, or nowhere. -/
def Fr (base : Nat) (v : Value) : Prop := ∀ g, v.ownBlock = some g → base ≤ g
theorem Fr.at (b k cap : Nat) : Fr b (.slice (some ⟨b, 0, none⟩) k cap) := fun g hg => by
  have : b = g := by simpa [Value.ownBlock] using hg
  omega
theorem Fr.mono {a b : Nat} {v : Value} (h : Fr b v) (hab : a ≤ b) : Fr a v := fun g hg => Nat.le_trans hab (h g hg)
theorem dg_one {n : Nat} (h : n ≠ 0) (h9 : n < 1000000000) : (dg 1000000000 n).length = 1 := by
  rw [dg_pos bigBase h, Nat.div_eq_of_lt h9, dg_zero]; rfl
set_option maxHeartbeats 400000 in
theorem trimmed_any_fr (B : Nat) (hB : 2 ≤ B) (w : World) (a : Option Addr) (l : List Nat) (cap : Nat) (hr : Row w a l) (hc : l.length ≤ cap) (hl : ∀ d ∈ l, d < B) (hn : cap ≤ 9223372036854775807) :
    Calls Tryd.prog 42 #[.slice a l.length cap] w fun e w' => (∃ v, e = .returned v ∧ NumV w B (vl B l) v ∧ (∃ k, v = .slice a k cap)) ∧ w' = w := by
  have HL : Hid (∀ d ∈ l, d < B) := hl
  clear hl
  go_enter Tryd.func42, Tryd.ntmps42
  go_wp2_with fail
  go_loop [0] (fun s => ∃ k : Nat, k ≤ l.length ∧ s = .slice a k cap ∧ vl B (l.take k) = vl B l) (fun s => match s with | .slice _ k _ => k | _ => 0)
  case atStart => exact ⟨l.length, Nat.le_refl _, rfl, by rw [List.take_length]⟩
  case round =>
    obtain ⟨k, hk, rfl, hv⟩ := hrel
    by_cases hlt : 0 < k
    · obtain ⟨b, o, rfl, hcell⟩ := hr (k - 1) (by omega)
      have HV : Hid (vl B (l.take k) = vl B l) := hv
      clear hv
      by_cases hz : l[k - 1] = 0
      · have HS := trim_step hlt hk HV.out hz
        have HH : Hid (vl B (l.take (k - 1)) = vl B l) := HS
        rw [hz] at hcell
        clear HS HV
        go_wp2_with fail
        exact ⟨⟨k - 1, by omega, rfl, HH.out⟩, by show k - 1 < k; omega⟩
      · have HE : Hid (NumV w B (vl B l) (.slice (some ⟨b, o, none⟩) k cap)) := trim_end hB hr hc HL.out hk HV.out (fun _ => hz)
        have hz' : ((l[k - 1] : Int) == 0) = false := by simp; omega
        generalize l[k - 1] = x at *
        go_wp2_with fail
        go_ret
        exact ⟨⟨_, rfl, HE.out, _, rfl⟩, rfl⟩
    · obtain rfl : k = 0 := by omega
      have HE : Hid (NumV w B (vl B l) (.slice a 0 cap)) := trim_end hB hr hc HL.out hk hv (fun h => by omega)
      have hd : decide ((0 : Int) < 0) = false := by decide
      go_wp2_with fail
      go_ret
      exact ⟨⟨_, rfl, HE.out, _, rfl⟩, rfl⟩

theorem trimmed_at_fr (w : World) (b cap k : Nat) (T : TypeId) (l : List Nat) (h : IHolds w b T (zs l)) (hk : l.length = k) (hc : k ≤ cap) (hl : ∀ d ∈ l, d < 1000000000) (hn : cap ≤ 9223372036854775807) :
    Calls Tryd.prog 42 #[.slice (some ⟨b, 0, none⟩) k cap] w fun e w' => (∃ v, e = .returned v ∧ NumV w 1000000000 (vl 1000000000 l) v ∧ Fr b v) ∧ w' = w := by
  subst hk
  have hr : Row w (some ⟨b, 0, none⟩) l := IHolds.row (pre := []) (post := []) (by rw [List.nil_append, List.append_nil]; exact h)
  refine (trimmed_any_fr 1000000000 bigBase w _ l cap hr hc hl hn).mono ?_
  rintro e w' ⟨⟨v, h1, h2, k, rfl⟩, h3⟩
  exact ⟨⟨_, h1, h2, Fr.at b k cap⟩, h3⟩

set_option maxRecDepth 100000 in
set_option maxHeartbeats 1000000 in
theorem overLimb_fr (w : World) (a : Option Addr) (cap n d : Nat) (h : Row w a (dg 1000000000 n)) (b : (dg 1000000000 n).length ≤ 2000000) (hd : 0 < d) (hd9 : d ≤ 1000000000) :
    Calls Tryd.prog 71 #[.slice a (dg 1000000000 n).length cap, .int .i64 (d : Int)] w fun e w' => (∃ v, e = .returned (.tuple #[v, .int .i64 ((n % d : Nat) : Int)]) ∧ NumV w' 1000000000 (n / d) v ∧ Fr w.heap.size v) ∧ Below w.heap.size w w' := by
  have HV : Hid (vl 1000000000 (dg 1000000000 n) = n) := vl_dg bigBase n
  have HD : Hid (∀ x ∈ dg 1000000000 n, x < 1000000000) := dg_mem bigBase n
  generalize dg 1000000000 n = l at *
  have HR : Hid (Row w a l) := h
  clear h
  obtain ⟨K, hK, hmk⟩ : ∃ K : Nat, K = l.length ∧ ∀ w, (Instr.makeSlice 37 (.int .i64 (l.length : Int)) (.int .i64 (l.length : Int))).run Tryd.prog w = .ok (.slice (some ⟨w.heap.size, 0, none⟩) K K) (w.alloc (.cells (zs (List.replicate K 0)).toArray 2)) :=
    ⟨l.length, rfl, fun w => makeNum' _ _ rfl (by omega) w⟩
  have HK : Hid (K = l.length) := hK
  have hKb : K ≤ 2000000 := by omega
  generalize hX : ((n % d : Nat) : Int) = X
  have HX : Hid (((n % d : Nat) : Int) = X) := hX
  clear hK hX
  go_enter Tryd.func71, Tryd.ntmps71
  go_wp2_with fail
  have q1 : Hid (IHolds (w.alloc (.cells (zs (List.replicate K 0)).toArray 2)) w.heap.size 2 (zs (List.replicate K 0))) := IHolds.new w 2 _
  have q2 : Hid (Below w.heap.size w (w.alloc (.cells (zs (List.replicate K 0)).toArray 2))) := (Below.refl _ w).alloc (Nat.le_refl _) _
  clear hmk
  generalize w.alloc (.cells (zs (List.replicate K 0)).toArray 2) = W0 at *
  go_loopg [5, 6] (l.length + 1) (fun gk v5 v6 wr => ∃ (i rest : Nat) (Q : List Nat), i + 1 = gk ∧ i ≤ l.length ∧ v6 = .int .i64 ((i : Int) - 1) ∧ v5 = .int .i64 (rest : Int) ∧ rest < d ∧ i + Q.length = l.length ∧ (∀ x ∈ Q, x < 1000000000) ∧ vl 1000000000 (l.drop i) = vl 1000000000 Q * d + rest ∧ IHolds wr w.heap.size 2 (zs (List.replicate i 0 ++ Q)) ∧ Below w.heap.size w wr)
  case atStart => exact ⟨l.length, 0, [], rfl, Nat.le_refl _, by first | rfl | go_num, rfl, hd, by simp, by simp, by rw [List.drop_length]; simp [vl], by rw [← HK.out, List.append_nil]; exact q1.out, q2.out⟩
  case round =>
    obtain ⟨i, rest, Q, hgi, hil, rfl, rfl, hrd, hQl, hQd, hQv, hQI, hQB⟩ := hrel
    clear q1 q2
    by_cases hpos : 0 < i
    · obtain ⟨j, rfl⟩ : ∃ j, i = j + 1 := ⟨i - 1, by omega⟩
      have hj : j < l.length := by omega
      have hjK : j < K := by have := HK.out; omega
      have hjK' : (j : Int) < (K : Int) := by omega
      obtain ⟨k1, o1, rfl, c1⟩ := HR.out.of_below hQB j hj
      have hu : l[j] < 1000000000 := HD.out _ (List.getElem_mem _)
      have HST := limb_div (Q := Q) hj hQv
      have c3 : wr.cell? ⟨w.heap.size, j, none⟩ = some (I 0) := by
        have e : List.replicate (j + 1) 0 ++ Q = List.replicate j 0 ++ (0 :: Q) := by rw [List.replicate_succ']; simp
        have := hQI
        rw [e] at this
        rw [this.cell j (by simp [zs] <;> omega)]
        simp [zs]
      have f3 : wr.frozen? ⟨w.heap.size, j, none⟩ = false := hQI.frozen _
      generalize l[j] = u at *
      have hrb : rest * 1000000000 + u < d * 1000000000 := by
        have : (rest + 1) * 1000000000 ≤ d * 1000000000 := Nat.mul_le_mul_right _ hrd
        omega
      obtain ⟨q, hq⟩ : ∃ q, q = (rest * 1000000000 + u) / d := ⟨_, rfl⟩
      obtain ⟨r, hr⟩ : ∃ r, r = (rest * 1000000000 + u) % d := ⟨_, rfl⟩
      have hqb : q < 1000000000 := by rw [hq, Nat.div_lt_iff_lt_mul hd, Nat.mul_comm]; omega
      have hrb2 : r < d := by rw [hr]; exact Nat.mod_lt _ hd
      rw [← hq, ← hr] at HST
      have H2 : Hid (vl 1000000000 (l.drop j) = vl 1000000000 (q :: Q) * d + r) := HST
      have e0 : (rest : Int) * 1000000000 + (u : Int) = ((rest * 1000000000 + u : Nat) : Int) := by rw [Int.natCast_add, Int.natCast_mul]; rfl
      have e1 : ((rest : Int) * 1000000000 + (u : Int)) / (d : Int) = (q : Int) := by rw [e0, hq]; exact (Int.natCast_ediv _ _).symm
      have e2 : ((rest : Int) * 1000000000 + (u : Int)) % (d : Int) = (r : Int) := by rw [e0, hr]; exact (Int.natCast_emod _ _).symm
      have H3 : Hid (IHolds (wr.setCell ⟨w.heap.size, j, none⟩ (.int .i64 (q : Int))) w.heap.size 2 (zs (List.replicate j 0 ++ (q :: Q)))) := by
        have := hQI.set j (.int .i64 (q : Int))
        rw [rep_set j q Q _ rfl] at this
        exact this
      have H4 : Hid (Below w.heap.size w (wr.setCell ⟨w.heap.size, j, none⟩ (.int .i64 (q : Int)))) := hQB.setCell (Nat.le_refl _) _
      have H5 : Hid (∀ x ∈ q :: Q, x < 1000000000) := fun x hx => by
        rcases List.mem_cons.1 hx with rfl | hx
        · exact hqb
        · exact hQd x hx
      have H6 : Hid (j + (q :: Q).length = l.length) := by show _ = _; rw [List.length_cons]; omega
      have dpos : (0 : Int) < (d : Int) := by omega
      have ej : ((j : Int) + 1 - 1) = (j : Int) := by omega
      have ej2 : (((j + 1 : Nat) : Int) - 1) = (j : Int) := by omega
      rw [ej2]
      clear hq hr HST hQI hQB hQv hQd e0
      go_wp2_with fail
      go_roundg (gk - 1)
      case measure => omega
      case rel => exact ⟨j, r, q :: Q, by omega, by omega, by go_num, by go_num, hrb2, H6.out, H5.out, H2.out, H3.out, H4.out⟩
    · obtain rfl : i = 0 := by omega
      rw [List.drop_zero, HV.out] at hQv
      have hdm : vl 1000000000 Q = n / d ∧ rest = n % d := by
        rw [hQv]
        constructor
        · rw [Nat.add_comm, Nat.mul_comm, Nat.add_mul_div_left _ _ hd, Nat.div_eq_of_lt hrd, Nat.zero_add]
        · rw [Nat.add_comm, Nat.mul_comm, Nat.add_mul_mod_self_left, Nat.mod_eq_of_lt hrd]
      have HQ : Hid (vl 1000000000 Q = n / d) := hdm.1
      have hrx : Hid ((rest : Int) = X) := by show _ = _; rw [← HX.out, ← hdm.2]
      have HQl : Hid (Q.length = K) := by have := HK.out; show _ = _; omega
      have HQI : Hid (IHolds wr w.heap.size 2 (zs Q)) := by show IHolds _ _ _ _; simpa using hQI
      have HQd : Hid (∀ x ∈ Q, x < 1000000000) := hQd
      have HB : Hid (Below w.heap.size w wr) := hQB
      clear hdm hQv hQI hQB hQd hQl
      go_wp2_with fail
      refine (trimmed_at_fr wr w.heap.size K K 2 Q HQI.out HQl.out (Nat.le_refl _) HQd.out (by omega)).mono ?_
      rintro e W3 ⟨⟨v, rfl, hv, hfr⟩, rfl⟩
      rw [HQ.out] at hv
      have HFR : Hid (Fr w.heap.size v) := hfr
      have HVV : Hid (NumV W3 1000000000 (n / d) v) := hv
      clear hv hfr
      go_wp2_with fail
      go_ret2
      exact ⟨⟨v, by rw [← hrx.out]; rfl, HVV.out, HFR.out⟩, HB.out⟩

set_option maxRecDepth 100000 in
set_option maxHeartbeats 1000000 in
theorem over_one_fr (w : World) (a1 a2 : Option Addr) (cap1 cap2 n d : Nat) (h1 : Row w a1 (dg 1000000000 n)) (h2 : Row w a2 (dg 1000000000 d)) (b1 : (dg 1000000000 n).length ≤ 1000000) (b2 : (dg 1000000000 d).length = 1) (hle : d ≤ n) :
    Calls Tryd.prog 56 #[.slice a1 (dg 1000000000 n).length cap1, .slice a2 (dg 1000000000 d).length cap2] w fun e w' => (∃ v1 v2, e = .returned (.tuple #[v1, v2]) ∧ NumV w' 1000000000 (n / d) v1 ∧ NumV w' 1000000000 (n % d) v2 ∧ Fr w.heap.size v1) ∧ Below w.heap.size w w' := by
  have HC : Hid (Calls Tryd.prog 39 #[.slice a1 (dg 1000000000 n).length cap1, .slice a2 (dg 1000000000 d).length cap2] w fun e w' => e = .returned (.int .i64 (cmp3 (n : Int) (d : Int))) ∧ ∃ k, w' = w.drewN k) := compare_any w a1 a2 cap1 cap2 n d h1 h2 b1 (by omega)
  have hc : ¬ cmp3 (n : Int) (d : Int) < 0 := by unfold cmp3; split <;> (try split) <;> omega
  have hd9 : d < 1000000000 := by
    have := lt_pow_dg bigBase d
    rw [b2] at this
    simpa using this
  have hd0 : 0 < d := by
    rcases Nat.eq_zero_or_pos d with h0 | h0
    · rw [h0, dg_zero] at b2; simp at b2
    · exact h0
  obtain ⟨bb, oo, rfl, cc⟩ := h2 0 (by omega)
  have e0 : (dg 1000000000 d)[0]'(by omega) = d := by
    have e := dg_pos bigBase (show d ≠ 0 by omega)
    have e1 : (dg 1000000000 d)[0]? = some (d % 1000000000) := by rw [e]; rfl
    rw [List.getElem?_eq_getElem (by omega)] at e1
    rw [Option.some.inj e1, Nat.mod_eq_of_lt hd9]
  rw [e0] at cc
  have HO : Hid (∀ W, Below w.heap.size w W → Calls Tryd.prog 71 #[.slice a1 (dg 1000000000 n).length cap1, .int .i64 (d : Int)] W fun e w' => (∃ v, e = .returned (.tuple #[v, .int .i64 ((n % d : Nat) : Int)]) ∧ NumV w' 1000000000 (n / d) v ∧ Fr W.heap.size v) ∧ Below W.heap.size W w') := fun W hW => overLimb_fr W a1 cap1 n d (h1.of_below hW) (by omega) hd0 (by omega)
  have hm9 : n % d < 1000000000 := Nat.lt_trans (Nat.mod_lt _ hd0) hd9
  rw [b2] at HC ⊢
  clear h1 h2 e0
  generalize dg 1000000000 n = l1 at *
  generalize cmp3 (n : Int) (d : Int) = c at *
  have oo0 : w.cell? ⟨bb, oo, none⟩ = some (I d) := cc
  generalize n % d = r at *
  generalize n / d = q at *
  go_enter Tryd.func56, Tryd.ntmps56
  go_wp2_with fail
  refine HC.out.mono ?_
  rintro e w1 ⟨rfl, k, rfl⟩
  go_wp2_with fail
  refine (HO.out _ (below_drawn w k)).mono ?_
  rintro e w2 ⟨⟨v, rfl, hv, hfr⟩, hb⟩
  have HFR : Hid (Fr w.heap.size v) := hfr.mono (below_drawn w k).size
  have HN : Hid (NumV w2 1000000000 q v) := hv
  have HB : Hid (Below w.heap.size w w2) := (below_drawn w k).trans hb
  clear hv hb cc oo0 hfr
  go_wp2_with fail
  have q1 : Hid (IHolds (w2.alloc (.cells #[.int .i64 (r : Int)] 2)) w2.heap.size 2 (zs [r])) := IHolds.new w2 2 (zs [r])
  have q2 : Hid (Below w2.heap.size w2 (w2.alloc (.cells #[.int .i64 (r : Int)] 2))) := (Below.refl _ w2).alloc (Nat.le_refl _) _
  generalize w2.alloc (.cells #[.int .i64 (r : Int)] 2) = W3 at *
  refine (trimmed_at W3 w2.heap.size 1 1 2 [r] q1.out rfl (Nat.le_refl _) (fun x hx => by simp at hx; omega) (by omega)).mono ?_
  rintro e W4 ⟨⟨v2, rfl, hv⟩, rfl⟩
  have e1 : vl 1000000000 [r] = r := by simp [vl]
  rw [e1] at hv
  have HR : Hid (NumV W4 1000000000 r v2) := hv
  have HN2 : Hid (NumV W4 1000000000 q v) := HN.out.of_below q2.out
  have HB2 : Hid (Below w.heap.size w W4) := HB.out.trans (q2.out.mono HB.out.size)
  clear hv e1
  go_wp2_with fail
  go_ret2
  exact ⟨⟨v, v2, rfl, HN2.out, HR.out, HFR.out⟩, HB2.out⟩

theorem over_fr {W : World} {n d : Nat} {v1 v2 : Value} (h1 : NumV W 1000000000 n v1) (h2 : NumV W 1000000000 d v2) (b1 : (dg 1000000000 n).length ≤ 1000000) (b2 : (dg 1000000000 d).length = 1) (hle : d ≤ n) :
    Calls Tryd.prog 56 #[v1, v2] W fun e w' => (∃ u1 u2, e = .returned (.tuple #[u1, u2]) ∧ NumV w' 1000000000 (n / d) u1 ∧ NumV w' 1000000000 (n % d) u2 ∧ Fr W.heap.size u1) ∧ Below W.heap.size W w' := by
  obtain ⟨a1, c1, rfl, k1, r1⟩ := h1
  obtain ⟨a2, c2, rfl, k2, r2⟩ := h2
  exact over_one_fr W a1 a2 c1 c2 n d r1 r2 b1 b2 hle

set_option maxRecDepth 100000 in
set_option maxHeartbeats 1000000 in
theorem by_fr {w : World} {n m base : Nat} {v1 v2 : Value} (h1 : NumV w 1000000000 n v1) (h2 : NumV w 1000000000 m v2) (hm : m ≠ 0) (b1 : (dg 1000000000 n).length ≤ 900000) (b2 : (dg 1000000000 m).length = 1) (hmn : m ≤ n) (hf : Fr base v1) (hbs : base ≤ w.heap.size) :
    Calls Tryd.prog 41 #[v1, v2] w fun e w' => (∃ v, e = .returned v ∧ NumV w' 1000000000 (n / m) v ∧ Fr base v) ∧ Below w.heap.size w w' := by
  have Z := isOneV h2 (by omega)
  by_cases h : m = 1
  · subst h
    have HN : Hid (NumV w 1000000000 (n / 1) v1) := by show NumV _ _ _ _; rw [Nat.div_one]; exact h1
    have HF : Hid (Fr base v1) := hf
    clear h1 h2 hf hbs
    go_enter Tryd.func41, Tryd.ntmps41
    go_wp2_with fail
    refine Z.mono ?_
    rintro e w1 ⟨rfl, rfl⟩
    go_wp2_with fail
    go_ret
    exact ⟨⟨_, rfl, HN.out, HF.out⟩, Below.refl _ _⟩
  · rw [beq_eq_false_iff_ne.2 h] at Z
    have O := over_fr h1 h2 (by omega) b2 hmn
    have HS : Hid (base ≤ w.heap.size) := hbs
    clear h1 h2 b1 b2 hf hbs hmn
    generalize n / m = q at *
    generalize n % m = r at *
    go_enter Tryd.func41, Tryd.ntmps41
    go_wp2_with fail
    refine Z.mono ?_
    rintro e w1 ⟨rfl, rfl⟩
    go_wp2_with fail
    refine O.mono ?_
    rintro e w2 ⟨⟨u1, u2, rfl, g1, g2, g3⟩, hb⟩
    have HF : Hid (Fr base u1) := g3.mono HS.out
    have G1 : Hid (NumV w2 1000000000 q u1) := g1
    have HB : Hid (Below w1.heap.size w1 w2) := hb
    clear g1 g2 g3 hb HS
    go_wp2_with fail
    go_ret
    exact ⟨⟨_, rfl, G1.out, HF.out⟩, HB.out⟩

set_option maxRecDepth 100000 in
set_option maxHeartbeats 1000000 in
theorem lowest_fr {w : World} {n m base : Nat} {v1 v2 : Value} (h1 : NumV w 1000000000 n v1) (h2 : NumV w 1000000000 m v2) (hn : n ≠ 0) (hm : m ≠ 0) (b1 : n < 1000000000) (b2 : m < 1000000000) (f1 : Fr base v1) (f2 : Fr base v2) (hbs : base ≤ w.heap.size) :
    Calls Tryd.prog 28 #[v1, v2] w fun e w' => (∃ u1 u2, e = .returned (.agg #[u1, u2]) ∧ NumV w' 1000000000 (n / Nat.gcd n m) u1 ∧ NumV w' 1000000000 (m / Nat.gcd n m) u2 ∧ Fr base u1 ∧ Fr base u2) ∧ Below w.heap.size w w' := by
  have A1 : Hid (∀ W, Below w.heap.size w W → NumV W 1000000000 n v1) := fun W hW => h1.of_below hW
  have A2 : Hid (∀ W, Below w.heap.size w W → NumV W 1000000000 m v2) := fun W hW => h2.of_below hW
  have hg : Nat.gcd n m ≠ 0 := by
    have := Nat.gcd_pos_of_pos_right n (Nat.pos_of_ne_zero hm)
    omega
  have l1 := dg_one hn b1
  have l2 := dg_one hm b2
  have gm := Nat.gcd_le_right n (Nat.pos_of_ne_zero hm)
  have gn := Nat.gcd_le_left m (Nat.pos_of_ne_zero hn)
  have bg : (dg 1000000000 (Nat.gcd n m)).length = 1 := dg_one hg (by omega)
  have CG : Hid (∀ W, Below w.heap.size w W → Calls Tryd.prog 40 #[v1, v2] W fun e w' => (∃ v, e = .returned v ∧ NumV w' 1000000000 (Nat.gcd n m) v) ∧ Below W.heap.size W w') := fun W hW => gcdV (A1.out W hW) (A2.out W hW) (by omega) (by omega)
  have D1 : Hid (∀ W v, Below w.heap.size w W → NumV W 1000000000 (Nat.gcd n m) v → Calls Tryd.prog 41 #[v1, v] W fun e w' => (∃ u, e = .returned u ∧ NumV w' 1000000000 (n / Nat.gcd n m) u ∧ Fr base u) ∧ Below W.heap.size W w') := fun W v hW hv => by_fr (A1.out W hW) hv hg (by omega) bg gn f1 (Nat.le_trans hbs hW.size)
  have D2 : Hid (∀ W v, Below w.heap.size w W → NumV W 1000000000 (Nat.gcd n m) v → Calls Tryd.prog 41 #[v2, v] W fun e w' => (∃ u, e = .returned u ∧ NumV w' 1000000000 (m / Nat.gcd n m) u ∧ Fr base u) ∧ Below W.heap.size W w') := fun W v hW hv => by_fr (A2.out W hW) hv hg (by omega) bg gm f2 (Nat.le_trans hbs hW.size)
  clear h1 h2 hg bg b1 b2 A1 A2 l1 l2 gm gn f1 f2 hbs hn hm
  generalize Nat.gcd n m = g at *
  have B0 : Hid (Below w.heap.size w (w.alloc (.cells #[.slice none 0 0, .slice none 0 0] 39))) := (Below.refl _ w).alloc (Nat.le_refl _) _
  have I0 : Hid (IHolds (w.alloc (.cells #[.slice none 0 0, .slice none 0 0] 39)) w.heap.size 39 [.slice none 0 0, .slice none 0 0]) := IHolds.new w 39 _
  go_enter Tryd.func28, Tryd.ntmps28
  go_wp2_with fail
  generalize w.alloc (.cells #[.slice none 0 0, .slice none 0 0] 39) = W0 at *
  refine (CG.out W0 B0.out).mono ?_
  rintro e W1 ⟨⟨v, rfl, hv⟩, hb⟩
  have B1 : Hid (Below w.heap.size w W1) := B0.out.trans (hb.mono B0.out.size)
  have I1 : Hid (IHolds W1 w.heap.size 39 [.slice none 0 0, .slice none 0 0]) := I0.out.of_below hb
  have N1 : Hid (NumV W1 1000000000 g v) := hv
  clear hv hb B0 I0
  go_wp2_with fail
  refine (D1.out W1 v B1.out N1.out).mono ?_
  rintro e W2 ⟨⟨u1, rfl, hv, hf⟩, hb⟩
  have F1 : Hid (Fr base u1) := hf
  clear hf
  have B2 : Hid (Below w.heap.size w W2) := B1.out.trans (hb.mono B1.out.size)
  have I2 : Hid (IHolds W2 w.heap.size 39 [.slice none 0 0, .slice none 0 0]) := I1.out.of_below hb
  have N2 : Hid (NumV W2 1000000000 g v) := N1.out.of_below hb
  have U2 : Hid (NumV W2 1000000000 (n / g) u1) := hv
  clear hv hb B1 I1 N1
  go_wp2_with fail
  refine (D2.out W2 v B2.out N2.out).mono ?_
  rintro e W3 ⟨⟨u2, rfl, hv, hf⟩, hb⟩
  have F2 : Hid (Fr base u2) := hf
  clear hf
  have B3 : Hid (Below w.heap.size w W3) := B2.out.trans (hb.mono B2.out.size)
  have I3 := I2.out.of_below hb
  have U3 : Hid (NumV W3 1000000000 (n / g) u1) := U2.out.of_below hb
  have X3 : Hid (NumV W3 1000000000 (m / g) u2) := hv
  clear hv hb B2 I2 N2 U2
  obtain ⟨x1, L1, k1, rfl⟩ : ∃ a L c, u1 = .slice a L c := by obtain ⟨a, cap, h, _⟩ := U3.out; exact ⟨_, _, _, h⟩
  obtain ⟨x2, L2, k2, rfl⟩ : ∃ a L c, u2 = .slice a L c := by obtain ⟨a, cap, h, _⟩ := X3.out; exact ⟨_, _, _, h⟩
  have c0 : W3.cell? ⟨w.heap.size, 0, none⟩ = some (.slice none 0 0) := I3.cell 0 (by simp)
  have c1 : W3.cell? ⟨w.heap.size, 1, none⟩ = some (.slice none 0 0) := I3.cell 1 (by simp)
  have f0 : ∀ i, W3.frozen? ⟨w.heap.size, i, none⟩ = false := fun i => I3.frozen i
  have I4 := (I3.set 0 (.slice x1 L1 k1)).set 1 (.slice x2 L2 k2)
  have hBut : But w.heap.size W3 ((W3.setCell ⟨w.heap.size, 0, none⟩ (.slice x1 L1 k1)).setCell ⟨w.heap.size, 1, none⟩ (.slice x2 L2 k2)) := ((But.refl _ W3).setCell 0 (.slice x1 L1 k1)).setCell 1 _
  have U4 : Hid (NumV ((W3.setCell ⟨w.heap.size, 0, none⟩ (.slice x1 L1 k1)).setCell ⟨w.heap.size, 1, none⟩ (.slice x2 L2 k2)) 1000000000 (n / g) (.slice x1 L1 k1)) := U3.out.apart I3 (by simp) hBut
  have X4 : Hid (NumV ((W3.setCell ⟨w.heap.size, 0, none⟩ (.slice x1 L1 k1)).setCell ⟨w.heap.size, 1, none⟩ (.slice x2 L2 k2)) 1000000000 (m / g) (.slice x2 L2 k2)) := X3.out.apart I3 (by simp) hBut
  have B4 : Hid (Below w.heap.size w ((W3.setCell ⟨w.heap.size, 0, none⟩ (.slice x1 L1 k1)).setCell ⟨w.heap.size, 1, none⟩ (.slice x2 L2 k2))) := (B3.out.setCell (Nat.le_refl _) _).setCell (Nat.le_refl _) _
  have E0 : Hid (((W3.setCell ⟨w.heap.size, 0, none⟩ (.slice x1 L1 k1)).setCell ⟨w.heap.size, 1, none⟩ (.slice x2 L2 k2)).cell? ⟨w.heap.size, 0, none⟩ = some (.slice x1 L1 k1)) := I4.cell 0 (by simp)
  have E1 : Hid (((W3.setCell ⟨w.heap.size, 0, none⟩ (.slice x1 L1 k1)).setCell ⟨w.heap.size, 1, none⟩ (.slice x2 L2 k2)).cell? ⟨w.heap.size, 1, none⟩ = some (.slice x2 L2 k2)) := I4.cell 1 (by simp)
  clear I3 I4 hBut U3 X3 B3
  go_wp2_with fail
  clear c0 c1 f0
  generalize (W3.setCell ⟨w.heap.size, 0, none⟩ (.slice x1 L1 k1)).setCell ⟨w.heap.size, 1, none⟩ (.slice x2 L2 k2) = W5 at *
  exact bodyPost_ret (v := .agg #[.slice x1 L1 k1, .slice x2 L2 k2]) (by simp [results, Tryd.results28, go_sem, E0.out, E1.out]) rfl ⟨⟨_, _, rfl, U4.out, X4.out, F1.out, F2.out⟩, B4.out⟩

set_option maxHeartbeats 1000000 in
theorem small_fr (n : Nat) (hn : n < 1000000000) (w : World) : Calls Tryd.prog 29 #[.int .i64 (n : Int)] w fun e w' => (∃ v, e = .returned v ∧ NumV w' 1000000000 n v ∧ Fr w.heap.size v) ∧ Below w.heap.size w w' := by
  have H : Hid (Calls Tryd.prog 42 #[.slice (some ⟨w.heap.size, 0, none⟩) 1 1] (w.alloc (.cells #[.int .i64 (n : Int)] 2)) fun e w' => (∃ v, e = .returned v ∧ NumV (w.alloc (.cells #[.int .i64 (n : Int)] 2)) 1000000000 n v ∧ Fr w.heap.size v) ∧ w' = w.alloc (.cells #[.int .i64 (n : Int)] 2)) := by
    have q := trimmed_at_fr (w.alloc (.cells #[.int .i64 (n : Int)] 2)) w.heap.size 1 1 2 [n] (IHolds.new w 2 [.int .i64 (n : Int)]) rfl (Nat.le_refl _) (fun d hd => by simp at hd; omega) (by omega)
    have e : vl 1000000000 [n] = n := by simp [vl]
    rw [e] at q
    exact q
  have B : Hid (Below w.heap.size w (w.alloc (.cells #[.int .i64 (n : Int)] 2))) := (Below.refl _ w).alloc (Nat.le_refl _) _
  go_enter Tryd.func29, Tryd.ntmps29
  generalize hW : w.alloc (.cells #[.int .i64 (n : Int)] 2) = W at *
  go_wp2_with fail
  refine (Calls.mono H.out) ?_
  rintro e V ⟨⟨v, rfl, hv, hf⟩, rfl⟩
  have FV : Hid (Fr w.heap.size v) := hf
  have NV : Hid (NumV V 1000000000 n v) := hv
  clear hv H hf
  go_wp2_with fail
  go_ret
  exact ⟨⟨_, rfl, NV.out, FV.out⟩, B.out⟩
end Go.Proofs.YtflabehlaiocaaaDoor
