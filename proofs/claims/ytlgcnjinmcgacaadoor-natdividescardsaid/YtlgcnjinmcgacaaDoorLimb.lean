/- The walks of trimmed (where its slice begins), overLimb, scaled. -/
import Derived.Test.YtlgcnjinmcgacaaDoorMinus
import Derived.Test.YtlgcnjinmcgacaaDoorGuess
set_option linter.unusedSimpArgs false
set_option linter.unusedVariables false
namespace Go.Proofs.YtlgcnjinmcgacaaDoor
open Go.RowKit Go.Deep

set_option maxHeartbeats 400000 in
theorem trimmed_keep (B : Nat) (hB : 2 ≤ B) (w : World) (a : Option Addr) (l : List Nat) (cap : Nat) (hr : Row w a l) (hc : l.length ≤ cap) (hl : ∀ d ∈ l, d < B) (hn : cap ≤ 9223372036854775807) :
    Calls Tryd.prog 90 #[.slice a l.length cap] w fun e w' => (∃ k, e = .returned (.slice a k cap) ∧ NumV w B (vl B l) (.slice a k cap)) ∧ w' = w := by
  have HL : Hid (∀ d ∈ l, d < B) := hl
  clear hl
  go_enter Tryd.func90, Tryd.ntmps90
  go_wp2_with fail
  go_loop [0] (fun s => ∃ k : Nat, k ≤ l.length ∧ s = .slice a k cap ∧ vl B (l.take k) = vl B l) (fun s => match s with | .slice _ k _ => k | _ => 0)
  case atStart => exact ⟨l.length, Nat.le_refl _, rfl, by rw [List.take_length]⟩
  case round =>
    obtain ⟨k, hk, rfl, hv⟩ := hrel
    by_cases hlt : 0 < k
    · obtain ⟨b, o, rfl, hcell⟩ := hr (k - 1) (by omega)
      have HV : Hid (vl B (l.take k) = vl B l) := hv
      clear hv
      by_cases hz : l[k - 1] = 0
      · have HS := trim_step hlt hk HV.out hz
        have HH : Hid (vl B (l.take (k - 1)) = vl B l) := HS
        rw [hz] at hcell
        clear HS HV
        go_wp2_with fail
        exact ⟨⟨k - 1, by omega, rfl, HH.out⟩, by show k - 1 < k; omega⟩
      · have HE : Hid (NumV w B (vl B l) (.slice (some ⟨b, o, none⟩) k cap)) := trim_end hB hr hc HL.out hk HV.out (fun _ => hz)
        have hz' : ((l[k - 1] : Int) == 0) = false := by simp; omega
        generalize l[k - 1] = x at *
        go_wp2_with fail
        go_ret
        exact ⟨⟨k, rfl, HE.out⟩, rfl⟩
    · obtain rfl : k = 0 := by omega
      have HE : Hid (NumV w B (vl B l) (.slice a 0 cap)) := trim_end hB hr hc HL.out hk hv (fun h => by omega)
      have hd : decide ((0 : Int) < 0) = false := by decide
      go_wp2_with fail
      go_ret
      exact ⟨⟨0, rfl, HE.out⟩, rfl⟩
theorem NumV.slice {w : World} {B n : Nat} {a : Option Addr} {k cap : Nat} (h : NumV w B n (.slice a k cap)) : k = (dg B n).length ∧ k ≤ cap ∧ Row w a (dg B n) := by
  obtain ⟨a', cap', he, h1, h2⟩ := h
  injection he with e1 e2 e3
  subst e1 e2 e3
  exact ⟨rfl, h1, h2⟩

set_option maxRecDepth 100000 in
set_option maxHeartbeats 1000000 in
/-- n times a limb, with one limb more. -/
theorem scaled_any (w : World) (a : Option Addr) (cap n s : Nat) (h : Row w a (dg 1000000000 n)) (b : (dg 1000000000 n).length ≤ 1000000) (hs : s ≤ 1000000000) :
    Calls Tryd.prog 99 #[.slice a (dg 1000000000 n).length cap, .int .i64 (s : Int)] w fun e w' => (∃ p : List Nat, e = .returned (.slice (some ⟨w.heap.size, 0, none⟩) ((dg 1000000000 n).length + 1) ((dg 1000000000 n).length + 1)) ∧ p.length = (dg 1000000000 n).length + 1 ∧ (∀ d ∈ p, d < 1000000000) ∧ vl 1000000000 p = n * s ∧ IHolds w' w.heap.size 2 (zs p)) ∧ Below w.heap.size w w' := by
  have HV : Hid (vl 1000000000 (dg 1000000000 n) = n) := vl_dg bigBase n
  have HD : Hid (∀ d ∈ dg 1000000000 n, d < 1000000000) := dg_mem bigBase n
  have HN : Hid (n < 1000000000 ^ (dg 1000000000 n).length) := lt_pow_dg bigBase n
  generalize dg 1000000000 n = l at *
  have HR : Hid (Row w a l) := h
  have HAp : Hid (l ≠ [] → Apart a w.heap.size) := fun h' => h.apart_new h'
  clear h
  obtain ⟨K, hK, hmk⟩ : ∃ K : Nat, K = l.length + 1 ∧ ∀ w, (Instr.makeSlice 67 (.int .i64 ((l.length : Int) + 1)) (.int .i64 ((l.length : Int) + 1))).run Tryd.prog w = .ok (.slice (some ⟨w.heap.size, 0, none⟩) K K) (w.alloc (.cells (zs (List.replicate K 0)).toArray 2)) :=
    ⟨l.length + 1, rfl, fun w => makeNum' _ _ (by push_cast; rfl) (by omega) w⟩
  have HK : Hid (K = l.length + 1) := hK
  have hKl : l.length < K := by omega
  rw [← hK]
  clear hK
  go_enter Tryd.func99, Tryd.ntmps99
  go_wp2_with fail
  have q1 : Hid (IHolds (w.alloc (.cells (zs (List.replicate K 0)).toArray 2)) w.heap.size 2 (zs (List.replicate K 0))) := IHolds.new w 2 _
  have q2 : Hid (Below w.heap.size w (w.alloc (.cells (zs (List.replicate K 0)).toArray 2))) := (Below.refl _ w).alloc (Nat.le_refl _) _
  clear hmk
  generalize w.alloc (.cells (zs (List.replicate K 0)).toArray 2) = W0 at *
  have HL : Hid ((List.replicate K 0).length = K) := by show _ = _; simp
  have HLv : Hid (vl 1000000000 (List.replicate K 0) = 0) := vl_zeros _ _
  have HLd : Hid (∀ d ∈ List.replicate K 0, d < 1000000000) := fun d hd => by have := List.eq_of_mem_replicate hd; omega
  generalize List.replicate K 0 = L at *
  obtain rfl : K = L.length := HL.out.symm
  have hLb : L.length ≤ 1000001 := by have := HK.out; omega
  refine (put_whole W0 w.heap.size L.length 2 L a cap l (s : Int) q1.out (HR.out.of_below q2.out) HAp.out HLd.out HD.out (by omega) (by omega)).mono ?_
  rintro e W2 ⟨p, c, rfl, hp, hI, hB⟩
  have hN : Hid (vl 1000000000 p = n * s) := (hp.done (Nat.le_refl _) (by omega) (n * s) (by rw [HLv.out, HV.out]; push_cast; grind) (by
    have e := HK.out
    rw [e, Nat.pow_succ]
    have g1 := HN.out
    rcases Nat.eq_zero_or_pos s with h0 | h0
    · subst h0
      have : 0 < 1000000000 ^ l.length := by omega
      rw [Nat.mul_zero]; omega
    · calc n * s < 1000000000 ^ l.length * s := Nat.mul_lt_mul_of_pos_right g1 h0
        _ ≤ 1000000000 ^ l.length * 1000000000 := Nat.mul_le_mul_left _ hs)).2
  have hpl : Hid (p.length = L.length) := hp.len
  have HP : Hid (∀ d ∈ p, d < 1000000000) := hp.low
  have HI : Hid (IHolds W2 w.heap.size 2 (zs p)) := hI
  have HB : Hid (Below w.heap.size w W2) := q2.out.trans (hB.below q2.out.size (Nat.le_refl _))
  clear hp hI hB
  go_wp2_with fail
  go_ret
  exact ⟨⟨p, rfl, hpl.out, HP.out, hN.out, HI.out⟩, HB.out⟩

/-! ### Division by one limb -/
theorem limb_div {l : List Nat} {i d rest : Nat} {Q : List Nat} (hi : i < l.length) (hv : vl 1000000000 (l.drop (i + 1)) = vl 1000000000 Q * d + rest) :
    vl 1000000000 (l.drop i) = vl 1000000000 (((rest * 1000000000 + l[i]) / d) :: Q) * d + (rest * 1000000000 + l[i]) % d := by
  rw [List.drop_eq_getElem_cons hi]
  simp only [vl]
  rw [hv]
  have := Nat.div_add_mod (rest * 1000000000 + l[i]) d
  generalize (rest * 1000000000 + l[i]) / d = q at *
  generalize (rest * 1000000000 + l[i]) % d = r at *
  grind
theorem rep_set (i q : Nat) (Q : List Nat) (y : Int) (hy : y = (q : Int)) : (zs (List.replicate (i + 1) 0 ++ Q)).set i (.int .i64 y) = zs (List.replicate i 0 ++ (q :: Q)) := by
  subst hy
  have : List.replicate (i + 1) 0 ++ Q = List.replicate i 0 ++ (0 :: Q) := by rw [List.replicate_succ']; simp
  rw [this, zs_append, zs_append, List.set_append_right _ _ (by simp [zs]), zs_cons, zs_cons]
  simp [zs]

set_option maxRecDepth 100000 in
set_option maxHeartbeats 1000000 in
theorem overLimb_any (w : World) (a : Option Addr) (cap n d : Nat) (h : Row w a (dg 1000000000 n)) (b : (dg 1000000000 n).length ≤ 2000000) (hd : 0 < d) (hd9 : d ≤ 1000000000) :
    Calls Tryd.prog 98 #[.slice a (dg 1000000000 n).length cap, .int .i64 (d : Int)] w fun e w' => (∃ v, e = .returned (.tuple #[v, .int .i64 ((n % d : Nat) : Int)]) ∧ NumV w' 1000000000 (n / d) v) ∧ Below w.heap.size w w' := by
  have HV : Hid (vl 1000000000 (dg 1000000000 n) = n) := vl_dg bigBase n
  have HD : Hid (∀ x ∈ dg 1000000000 n, x < 1000000000) := dg_mem bigBase n
  generalize dg 1000000000 n = l at *
  have HR : Hid (Row w a l) := h
  clear h
  obtain ⟨K, hK, hmk⟩ : ∃ K : Nat, K = l.length ∧ ∀ w, (Instr.makeSlice 67 (.int .i64 (l.length : Int)) (.int .i64 (l.length : Int))).run Tryd.prog w = .ok (.slice (some ⟨w.heap.size, 0, none⟩) K K) (w.alloc (.cells (zs (List.replicate K 0)).toArray 2)) :=
    ⟨l.length, rfl, fun w => makeNum' _ _ rfl (by omega) w⟩
  have HK : Hid (K = l.length) := hK
  have hKb : K ≤ 2000000 := by omega
  generalize hX : ((n % d : Nat) : Int) = X
  have HX : Hid (((n % d : Nat) : Int) = X) := hX
  clear hK hX
  go_enter Tryd.func98, Tryd.ntmps98
  go_wp2_with fail
  have q1 : Hid (IHolds (w.alloc (.cells (zs (List.replicate K 0)).toArray 2)) w.heap.size 2 (zs (List.replicate K 0))) := IHolds.new w 2 _
  have q2 : Hid (Below w.heap.size w (w.alloc (.cells (zs (List.replicate K 0)).toArray 2))) := (Below.refl _ w).alloc (Nat.le_refl _) _
  clear hmk
  generalize w.alloc (.cells (zs (List.replicate K 0)).toArray 2) = W0 at *
  go_loopg [5, 6] (l.length + 1) (fun gk v5 v6 wr => ∃ (i rest : Nat) (Q : List Nat), i + 1 = gk ∧ i ≤ l.length ∧ v6 = .int .i64 ((i : Int) - 1) ∧ v5 = .int .i64 (rest : Int) ∧ rest < d ∧ i + Q.length = l.length ∧ (∀ x ∈ Q, x < 1000000000) ∧ vl 1000000000 (l.drop i) = vl 1000000000 Q * d + rest ∧ IHolds wr w.heap.size 2 (zs (List.replicate i 0 ++ Q)) ∧ Below w.heap.size w wr)
  case atStart => exact ⟨l.length, 0, [], rfl, Nat.le_refl _, by first | rfl | go_num, rfl, hd, by simp, by simp, by rw [List.drop_length]; simp [vl], by rw [← HK.out, List.append_nil]; exact q1.out, q2.out⟩
  case round =>
    obtain ⟨i, rest, Q, hgi, hil, rfl, rfl, hrd, hQl, hQd, hQv, hQI, hQB⟩ := hrel
    clear q1 q2
    by_cases hpos : 0 < i
    · obtain ⟨j, rfl⟩ : ∃ j, i = j + 1 := ⟨i - 1, by omega⟩
      have hj : j < l.length := by omega
      have hjK : j < K := by have := HK.out; omega
      have hjK' : (j : Int) < (K : Int) := by omega
      obtain ⟨k1, o1, rfl, c1⟩ := HR.out.of_below hQB j hj
      have hu : l[j] < 1000000000 := HD.out _ (List.getElem_mem _)
      have HST := limb_div (Q := Q) hj hQv
      have c3 : wr.cell? ⟨w.heap.size, j, none⟩ = some (I 0) := by
        have e : List.replicate (j + 1) 0 ++ Q = List.replicate j 0 ++ (0 :: Q) := by rw [List.replicate_succ']; simp
        have := hQI
        rw [e] at this
        rw [this.cell j (by simp [zs] <;> omega)]
        simp [zs]
      have f3 : wr.frozen? ⟨w.heap.size, j, none⟩ = false := hQI.frozen _
      generalize l[j] = u at *
      have hrb : rest * 1000000000 + u < d * 1000000000 := by
        have : (rest + 1) * 1000000000 ≤ d * 1000000000 := Nat.mul_le_mul_right _ hrd
        omega
      obtain ⟨q, hq⟩ : ∃ q, q = (rest * 1000000000 + u) / d := ⟨_, rfl⟩
      obtain ⟨r, hr⟩ : ∃ r, r = (rest * 1000000000 + u) % d := ⟨_, rfl⟩
      have hqb : q < 1000000000 := by rw [hq, Nat.div_lt_iff_lt_mul hd, Nat.mul_comm]; omega
      have hrb2 : r < d := by rw [hr]; exact Nat.mod_lt _ hd
      rw [← hq, ← hr] at HST
      have H2 : Hid (vl 1000000000 (l.drop j) = vl 1000000000 (q :: Q) * d + r) := HST
      have e0 : (rest : Int) * 1000000000 + (u : Int) = ((rest * 1000000000 + u : Nat) : Int) := by rw [Int.natCast_add, Int.natCast_mul]; rfl
      have e1 : ((rest : Int) * 1000000000 + (u : Int)) / (d : Int) = (q : Int) := by rw [e0, hq]; exact (Int.natCast_ediv _ _).symm
      have e2 : ((rest : Int) * 1000000000 + (u : Int)) % (d : Int) = (r : Int) := by rw [e0, hr]; exact (Int.natCast_emod _ _).symm
      have H3 : Hid (IHolds (wr.setCell ⟨w.heap.size, j, none⟩ (.int .i64 (q : Int))) w.heap.size 2 (zs (List.replicate j 0 ++ (q :: Q)))) := by
        have := hQI.set j (.int .i64 (q : Int))
        rw [rep_set j q Q _ rfl] at this
        exact this
      have H4 : Hid (Below w.heap.size w (wr.setCell ⟨w.heap.size, j, none⟩ (.int .i64 (q : Int)))) := hQB.setCell (Nat.le_refl _) _
      have H5 : Hid (∀ x ∈ q :: Q, x < 1000000000) := fun x hx => by
        rcases List.mem_cons.1 hx with rfl | hx
        · exact hqb
        · exact hQd x hx
      have H6 : Hid (j + (q :: Q).length = l.length) := by show _ = _; rw [List.length_cons]; omega
      have dpos : (0 : Int) < (d : Int) := by omega
      have ej : ((j : Int) + 1 - 1) = (j : Int) := by omega
      have ej2 : (((j + 1 : Nat) : Int) - 1) = (j : Int) := by omega
      rw [ej2]
      clear hq hr HST hQI hQB hQv hQd e0
      go_wp2_with fail
      go_roundg (gk - 1)
      case measure => omega
      case rel => exact ⟨j, r, q :: Q, by omega, by omega, by go_num, by go_num, hrb2, H6.out, H5.out, H2.out, H3.out, H4.out⟩
    · obtain rfl : i = 0 := by omega
      rw [List.drop_zero, HV.out] at hQv
      have hdm : vl 1000000000 Q = n / d ∧ rest = n % d := by
        rw [hQv]
        constructor
        · rw [Nat.add_comm, Nat.mul_comm, Nat.add_mul_div_left _ _ hd, Nat.div_eq_of_lt hrd, Nat.zero_add]
        · rw [Nat.add_comm, Nat.mul_comm, Nat.add_mul_mod_self_left, Nat.mod_eq_of_lt hrd]
      have HQ : Hid (vl 1000000000 Q = n / d) := hdm.1
      have hrx : Hid ((rest : Int) = X) := by show _ = _; rw [← HX.out, ← hdm.2]
      have HQl : Hid (Q.length = K) := by have := HK.out; show _ = _; omega
      have HQI : Hid (IHolds wr w.heap.size 2 (zs Q)) := by show IHolds _ _ _ _; simpa using hQI
      have HQd : Hid (∀ x ∈ Q, x < 1000000000) := hQd
      have HB : Hid (Below w.heap.size w wr) := hQB
      clear hdm hQv hQI hQB hQd hQl
      go_wp2_with fail
      refine (trimmed_at wr w.heap.size K K 2 Q HQI.out HQl.out (Nat.le_refl _) HQd.out (by omega)).mono ?_
      rintro e W3 ⟨⟨v, rfl, hv⟩, rfl⟩
      rw [HQ.out] at hv
      have HVV : Hid (NumV W3 1000000000 (n / d) v) := hv
      clear hv
      go_wp2_with fail
      go_ret2
      exact ⟨⟨v, by rw [← hrx.out]; rfl, HVV.out⟩, HB.out⟩
end Go.Proofs.YtlgcnjinmcgacaaDoor
