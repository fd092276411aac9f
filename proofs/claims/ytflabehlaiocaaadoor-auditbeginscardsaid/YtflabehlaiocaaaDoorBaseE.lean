/- The reference's division. -/
import Derived.Test.YtflabehlaiocaaaDoorReckonsWalk
set_option linter.unusedSimpArgs false
set_option linter.unusedVariables false
namespace Go.Proofs.YtflabehlaiocaaaDoor
open Go.RowKit Go.Deep Go.PlainAid

/-- A number whose row lies in no block below lo. -/
def NumF (w : World) (lo n : Nat) (v : Value) : Prop := NumV w 10 n v ∧ ∀ k o l c, v = .slice (some ⟨k, o, none⟩) l c → lo ≤ k
theorem NumF.mono {w : World} {lo lo' n : Nat} {v : Value} (h : NumF w lo n v) (hl : lo' ≤ lo) : NumF w lo' n v := ⟨h.1, fun k o l c e => Nat.le_trans hl (h.2 k o l c e)⟩
theorem NumF.of_below {w w' : World} {lo n : Nat} {v : Value} (h : NumF w lo n v) (hb : Below w.heap.size w w') : NumF w' lo n v := ⟨h.1.of_below hb, h.2⟩
theorem NumF.set {w : World} {lo n b i : Nat} {v x : Value} (h : NumF w lo n v) (hb : b < lo) : NumF (w.setCell ⟨b, i, none⟩ x) lo n v := by
  refine ⟨?_, h.2⟩
  obtain ⟨⟨a, cap, rfl, hc, hr⟩, hf⟩ := h
  exact ⟨a, cap, rfl, hc, hr.of_but (fun _ k o e => by have := hf k o _ _ (by rw [e]); omega) ((But.refl b w).setCell i x)⟩
theorem Row.of_owned' {w : World} {base n : Nat} {v : Value} {l : List Nat} {e : TypeId} (h : w.ownsRow base e 1 v n (zs l)) : ∃ a cap, v = .slice a l.length cap ∧ l.length ≤ cap ∧ cap ≤ 9223372036854775807 ∧ Row w a l ∧ ∀ k o, a = some ⟨k, o, none⟩ → base ≤ k := by
  obtain ⟨a, cap, e1, h1, h2, h3⟩ := Row.of_owned h
  refine ⟨a, cap, e1, h1, h2, h3, ?_⟩
  intro k o ha
  obtain ⟨hlen, ⟨h4, h0⟩ | ⟨g, cap', cur, h4, hb, _⟩⟩ := h
  · rw [e1, ha] at h4; cases h4
  · rw [e1, ha] at h4; cases h4; exact hb

set_option maxHeartbeats 400000 in
theorem trim_keep (B : Nat) (hB : 2 ≤ B) (w : World) (a : Option Addr) (l : List Nat) (cap : Nat) (hr : Row w a l) (hc : l.length ≤ cap) (hl : ∀ d ∈ l, d < B) (hn : cap ≤ 9223372036854775807) :
    Calls Tryd.prog 60 #[.slice a l.length cap] w fun e w' => (∃ k, e = .returned (.slice a k cap) ∧ NumV w B (vl B l) (.slice a k cap)) ∧ w' = w := by
  have HL : Hid (∀ d ∈ l, d < B) := hl
  clear hl
  go_enter Tryd.func60, Tryd.ntmps60
  go_wp2_with fail
  go_loop [0] (fun s => ∃ k : Nat, k ≤ l.length ∧ s = .slice a k cap ∧ vl B (l.take k) = vl B l) (fun s => match s with | .slice _ k _ => k | _ => 0)
  case atStart => exact ⟨l.length, Nat.le_refl _, rfl, by rw [List.take_length]⟩
  case round =>
    obtain ⟨k, hk, rfl, hv⟩ := hrel
    by_cases hlt : 0 < k
    · obtain ⟨b, o, rfl, hcell⟩ := hr (k - 1) (by omega)
      have HV : Hid (vl B (l.take k) = vl B l) := hv
      clear hv
      by_cases hz : l[k - 1] = 0
      · have HS := trim_step hlt hk HV.out hz
        have HH : Hid (vl B (l.take (k - 1)) = vl B l) := HS
        rw [hz] at hcell
        clear HS HV
        go_wp2_with fail
        exact ⟨⟨k - 1, by omega, rfl, HH.out⟩, by show k - 1 < k; omega⟩
      · have HE : Hid (NumV w B (vl B l) (.slice (some ⟨b, o, none⟩) k cap)) := trim_end hB hr hc HL.out hk HV.out (fun _ => hz)
        have hz' : ((l[k - 1] : Int) == 0) = false := by simp; omega
        generalize l[k - 1] = x at *
        go_wp2_with fail
        go_ret
        exact ⟨⟨_, rfl, HE.out⟩, rfl⟩
    · obtain rfl : k = 0 := by omega
      have HE : Hid (NumV w B (vl B l) (.slice a 0 cap)) := trim_end hB hr hc HL.out hk hv (fun h => by omega)
      have hd : decide ((0 : Int) < 0) = false := by decide
      go_wp2_with fail
      go_ret
      exact ⟨⟨_, rfl, HE.out⟩, rfl⟩

set_option maxRecDepth 100000 in
set_option maxHeartbeats 2000000 in
theorem refSubF_any (w : World) (a1 a2 : Option Addr) (cap1 cap2 n m : Nat) (h1 : Row w a1 (dg 10 n)) (h2 : Row w a2 (dg 10 m)) (b1 : (dg 10 n).length ≤ 1000000) (hmn : m ≤ n) :
    Calls Tryd.prog 61 #[.slice a1 (dg 10 n).length cap1, .slice a2 (dg 10 m).length cap2] w fun e w' => (∃ v, e = .returned v ∧ NumF w' w.heap.size (n - m) v) ∧ Below w.heap.size w w' := by
  have KD : Hid (∀ D down, Diffs (dg 10 n) (dg 10 m) (dg 10 n).length D down → vl 10 D = n - m) := fun D down h => h.done hmn
  have HD1 : Hid (∀ d ∈ dg 10 n, d < 10) := dg_mem ten n
  have HD2 : Hid (∀ d ∈ dg 10 m, d < 10) := dg_mem ten m
  generalize dg 10 n = l1 at *
  generalize dg 10 m = l2 at *
  have H1 : Hid (Row w a1 l1) := h1
  have H2 : Hid (Row w a2 l2) := h2
  clear h1 h2
  obtain ⟨i0, hi0, hz0, hz1, hz2⟩ := info_parts Tryd.info3
  go_enter Tryd.func61, Tryd.ntmps61
  go_wp2_with fail
  go_loopg [5, 6, 7] l1.length (fun gk v5 v6 v7 wr => ∃ (i down : Nat) (D : List Nat) (v : Value), i + gk = l1.length ∧ v = v5 ∧ v6 = .int .i64 (down : Int) ∧ v7 = .int .i64 (i : Int) ∧ Diffs l1 l2 i D down ∧ wr.ownsRow w.heap.size 3 1 v i (zs D) ∧ Below w.heap.size w wr)
  case atStart => exact ⟨0, 0, [], _, by omega, rfl, rfl, rfl, Diffs.zero _ _, World.ownsRow_nil _ _ _ _, Below.refl _ _⟩
  case round =>
    obtain ⟨i, down, D, v, hi, rfl, rfl, rfl, hS, ho, hB⟩ := hrel
    by_cases c1 : i < l1.length
    · have c1' : (i : Int) < (l1.length : Int) := by omega
      obtain ⟨k1, o1, rfl, e1⟩ := H1.out.of_below hB i c1
      have hdn := hS.d1
      have A2 : Hid (∀ k, Calls Tryd.prog 79 #[.slice a2 l2.length cap2, .int .i64 (i : Int)] (wr.drewN k) fun e w' => e = .returned (I (l2.getD i 0)) ∧ w' = wr.drewN k) := fun k => at_any (wr.drewN k) a2 l2 cap2 i ((H2.out.of_below hB).drew k)
      have g1 := getD_lt HD1.out i
      have g2 := getD_lt HD2.out i
      have HST : Hid (∀ X Y, X < 10 → Y ≤ 1 → l1.getD i 0 + 10 * Y = X + l2.getD i 0 + down → Diffs l1 l2 (i + 1) (D ++ [X]) Y) := fun X Y h1 h2 h3 => hS.step X Y h1 h2 h3
      have eg : l1.getD i 0 = l1[i] := by rw [List.getD_eq_getElem?_getD, List.getElem?_eq_getElem c1]; rfl
      rw [eg] at g1 HST
      generalize l1[i] = x1 at *
      generalize l2.getD i 0 = x2 at *
      have HO0 : Hid (wr.ownsRow w.heap.size 3 1 v i (zs D)) := ho
      have HB0 : Hid (Below w.heap.size w wr) := hB
      clear ho hB hS eg
      go_wp2_with fail
      go_quiet ((go_at_call 79; exact Calls.quiet_of_same (A2.out _)))
      have HO : Hid ((wr.drewN nq).ownsRow w.heap.size 3 1 v i (zs D)) := HO0.out
      have HB : Hid (Below w.heap.size w (wr.drewN nq)) := ⟨HB0.out.os, HB0.out.tape, HB0.out.output, HB0.out.size, HB0.out.block⟩
      clear A2 e1 HO0 HB0
      generalize wr.drewN nq = wr at *
      by_cases hneg : (x1 : Int) - (x2 : Int) - (down : Int) < 0
      · obtain ⟨X, hX⟩ : ∃ X : Nat, X = x1 + 10 - x2 - down := ⟨_, rfl⟩
        have eX : (x1 : Int) - (x2 : Int) - (down : Int) + 10 = (X : Int) := by omega
        have hX9 : X ≤ 9 := by omega
        have HSX : Hid (Diffs l1 l2 (i + 1) (D ++ [X]) 1) := HST.out X 1 (by omega) (by omega) (by omega)
        clear hX HST
        have HO2 : Hid ((wr.alloc (.cells #[.int .i64 (X : Int)] 3)).ownsRow w.heap.size 3 1 v i (zs D)) := HO.out.alloc _
        have HC2 : Hid (∀ j u, [I X][j]? = some u → (wr.alloc (.cells #[.int .i64 (X : Int)] 3)).cell? ((⟨wr.heap.size, 0, none⟩ : Addr).add j) = some u) := fun j u hu => by
          match j, hu with
          | 0, hu => simp at hu; subst hu; simp [Addr.add]
        have HB2 : Hid (Below w.heap.size w (wr.alloc (.cells #[.int .i64 (X : Int)] 3))) := HB.out.alloc HB.out.size _
        go_wp2_with (at_builtin; refine wpList_append_own _ rfl (.tmp 29) (.tmp 31) 44 rfl w.heap.size 3 i0 (.int .i64 0) 1 8 Tryd.underlying44 hi0 hz0 hz1 hz2 rfl (by decide) v i (zs D) rfl HO2.out ⟨wr.heap.size, 0, none⟩ 1 1 [I X] rfl rfl HC2.out (fun u hu => by simp at hu; subst hu; rfl) (by unfold maxLen; omega) (by omega) HB2.out.size ?_; intro v1 w1 hown1 hgrow1 hn1; have HO3 : Hid (w1.ownsRow w.heap.size 3 1 v1 (i + 1) (zs D ++ [I X])) := hown1; have HG3 : Hid (Below w.heap.size w w1) := HB2.out.grown hgrow1 HB2.out.size (fun k hk => (HO2.out.lt k hk).1); clear hown1 hgrow1 hn1)
        go_roundg (gk - 1)
        case measure => omega
        case rel => exact ⟨i + 1, 1, D ++ [X], _, by omega, rfl, rfl, by go_num, HSX.out, by rw [zs_append]; exact HO3.out, HG3.out⟩
      · obtain ⟨X, hX⟩ : ∃ X : Nat, X = x1 - x2 - down := ⟨_, rfl⟩
        have eX : (x1 : Int) - (x2 : Int) - (down : Int) = (X : Int) := by omega
        have hX9 : X ≤ 9 := by omega
        have HSX : Hid (Diffs l1 l2 (i + 1) (D ++ [X]) 0) := HST.out X 0 (by omega) (by omega) (by omega)
        clear hX HST hneg
        have HO2 : Hid ((wr.alloc (.cells #[.int .i64 (X : Int)] 3)).ownsRow w.heap.size 3 1 v i (zs D)) := HO.out.alloc _
        have HC2 : Hid (∀ j u, [I X][j]? = some u → (wr.alloc (.cells #[.int .i64 (X : Int)] 3)).cell? ((⟨wr.heap.size, 0, none⟩ : Addr).add j) = some u) := fun j u hu => by
          match j, hu with
          | 0, hu => simp at hu; subst hu; simp [Addr.add]
        have HB2 : Hid (Below w.heap.size w (wr.alloc (.cells #[.int .i64 (X : Int)] 3))) := HB.out.alloc HB.out.size _
        go_wp2_with (at_builtin; refine wpList_append_own _ rfl (.tmp 29) (.tmp 31) 44 rfl w.heap.size 3 i0 (.int .i64 0) 1 8 Tryd.underlying44 hi0 hz0 hz1 hz2 rfl (by decide) v i (zs D) rfl HO2.out ⟨wr.heap.size, 0, none⟩ 1 1 [I X] rfl rfl HC2.out (fun u hu => by simp at hu; subst hu; rfl) (by unfold maxLen; omega) (by omega) HB2.out.size ?_; intro v1 w1 hown1 hgrow1 hn1; have HO3 : Hid (w1.ownsRow w.heap.size 3 1 v1 (i + 1) (zs D ++ [I X])) := hown1; have HG3 : Hid (Below w.heap.size w w1) := HB2.out.grown hgrow1 HB2.out.size (fun k hk => (HO2.out.lt k hk).1); clear hown1 hgrow1 hn1)
        go_roundg (gk - 1)
        case measure => omega
        case rel => exact ⟨i + 1, 0, D ++ [X], _, by omega, rfl, rfl, by go_num, HSX.out, by rw [zs_append]; exact HO3.out, HG3.out⟩
    · obtain rfl : i = l1.length := by omega
      have HV : Hid (vl 10 D = n - m) := KD.out D down hS
      have HL : Hid (∀ d ∈ D, d < 10) := hS.low
      have HB : Hid (Below w.heap.size w wr) := hB
      obtain ⟨a, cap, rfl, h1, h2, h3, h4⟩ := Row.of_owned' ho
      have HR : Hid (Row wr a D) := h3
      have HF : Hid (∀ k o, a = some ⟨k, o, none⟩ → w.heap.size ≤ k) := h4
      clear h3 ho hB hS h4
      go_wp2_with fail
      refine (trim_keep 10 ten wr a D cap HR.out h1 HL.out h2).mono ?_
      rintro e W3 ⟨⟨kk, rfl, hv⟩, rfl⟩
      rw [HV.out] at hv
      have HVV : Hid (NumF W3 w.heap.size (n - m) (.slice a kk cap)) := ⟨hv, fun k o l c h => HF.out k o (by cases h; rfl)⟩
      clear hv
      go_wp2_with fail
      go_ret
      exact ⟨⟨_, rfl, HVV.out⟩, HB.out⟩
end Go.Proofs.YtflabehlaiocaaaDoor

/- The reference's division. -/
set_option linter.unusedSimpArgs false
set_option linter.unusedVariables false
namespace Go.Proofs.YtflabehlaiocaaaDoor
open Go.RowKit Go.Deep Go.PlainAid


theorem div_step {m V r i s c x t n : Nat} (h : n = m * V + r * 10 ^ (i + 1) + (t + 10 ^ i * x)) (hs : s + c * m = x + 10 * r) : n = m * (V + 10 ^ i * c) + s * 10 ^ i + t := by
  have h2 : 10 ^ i * (s + c * m) = 10 ^ i * (x + 10 * r) := by rw [hs]
  have h3 : 10 ^ (i + 1) = 10 ^ i * 10 := Nat.pow_succ _ _
  rw [h, h3]
  generalize 10 ^ i = p at *
  grind
theorem set_zero {Q : List Nat} {i : Nat} (h : Q.getD i 0 = 0) : Q.set i 0 = Q := by
  apply List.ext_getElem (by simp)
  intro k h1 h2
  rw [List.getElem_set]
  split
  · next e =>
    subst e
    rw [List.getD_eq_getElem?_getD, List.getElem?_eq_getElem h2] at h
    exact h.symm
  · rfl

set_option maxRecDepth 100000 in
set_option maxHeartbeats 4000000 in
theorem refDivV {w : World} {n m : Nat} {v1 v2 : Value} (h1 : NumV w 10 n v1) (h2 : NumV w 10 m v2) (hm : m ≠ 0) (b1 : (dg 10 n).length ≤ 900000) (b2 : (dg 10 m).length ≤ 900000) :
    Calls Tryd.prog 49 #[v1, v2] w fun e w' => (∃ u1 u2, e = .returned (.tuple #[u1, u2]) ∧ NumV w' 10 (n / m) u1 ∧ NumV w' 10 (n % m) u2) ∧ Below w.heap.size w w' := by
  have LB : Hid (∀ s, s < 10 * m → (dg 10 s).length ≤ 1000000) := fun s hs => Nat.le_trans (dg_len_le ten ((dg 10 m).length + 1) s (by rw [Nat.pow_succ]; have := lt_pow_dg ten m; omega)) (by omega)
  have CL : Hid (∀ W s v, NumV W 10 s v → Below w.heap.size w W → s < m → Calls Tryd.prog 46 #[v, v2] W fun e w' => e = .returned (.int .i64 (-1)) ∧ Below W.heap.size W w') := fun W s v hv hW hs => by
    have := refCompareV hv (h2.of_below hW) (LB.out s (by omega)) (by omega)
    rw [cmp3_lt (by omega)] at this
    exact this
  have CG : Hid (∀ W s v, NumV W 10 s v → Below w.heap.size w W → m ≤ s → s < 10 * m → Calls Tryd.prog 46 #[v, v2] W fun e w' => (∃ z : Int, 0 ≤ z ∧ e = .returned (.int .i64 z)) ∧ Below W.heap.size W w') := fun W s v hv hW hs hs2 => by
    refine (refCompareV hv (h2.of_below hW) (LB.out s (by omega)) (by omega)).mono ?_
    rintro e w' ⟨rfl, hb⟩
    refine ⟨⟨_, ?_, rfl⟩, hb⟩
    unfold cmp3; split
    · omega
    · split <;> omega
  have SB : Hid (∀ W s v, NumV W 10 s v → Below w.heap.size w W → m ≤ s → s < 10 * m → Calls Tryd.prog 61 #[v, v2] W fun e w' => (∃ v', e = .returned v' ∧ NumF w' W.heap.size (s - m) v') ∧ Below W.heap.size W w') := fun W s v hv hW hs hs2 => by
    obtain ⟨a1, c1, rfl, k1, r1⟩ := hv
    obtain ⟨a2, c2, rfl, k2, r2⟩ := h2.of_below hW
    exact refSubF_any W a1 a2 c1 c2 s m r1 r2 (LB.out s hs2) hs
  obtain ⟨a1, cap1, rfl, hcap1, r1⟩ := h1
  have HV1 : Hid (vl 10 (dg 10 n) = n) := vl_dg ten n
  have HD1 : Hid (∀ d ∈ dg 10 n, d < 10) := dg_mem ten n
  clear h2 b2
  generalize dg 10 n = l1 at *
  have H1 : Hid (Row w a1 l1) := r1
  clear r1
  obtain ⟨i0, hi0, hz0, hz1, hz2⟩ := info_parts Tryd.info3
  obtain ⟨K, hK, hmk⟩ : ∃ K : Nat, K = l1.length ∧ ∀ w, (Instr.makeSlice 44 (.int .i64 (l1.length : Int)) (.int .i64 (l1.length : Int))).run Tryd.prog w = .ok (.slice (some ⟨w.heap.size, 0, none⟩) K K) (w.alloc (.cells (zs (List.replicate K 0)).toArray 3)) :=
    ⟨l1.length, rfl, fun w => makeNat _ _ rfl (by omega) w⟩
  have HK : Hid (K = l1.length) := hK
  have hk1 : K ≤ 900000 := by omega
  clear hK
  go_enter Tryd.func49, Tryd.ntmps49
  go_wp2_with fail
  have q1 : Hid (IHolds (w.alloc (.cells (zs (List.replicate K 0)).toArray 3)) w.heap.size 3 (zs (List.replicate K 0))) := IHolds.new w 3 _
  have q2 : Hid (Below w.heap.size w (w.alloc (.cells (zs (List.replicate K 0)).toArray 3))) := (Below.refl _ w).alloc (Nat.le_refl _) _
  clear hmk
  generalize w.alloc (.cells (zs (List.replicate K 0)).toArray 3) = W00 at *
  go_loopg [7, 8] l1.length (fun gk v7 v8 wr => ∃ (r : Nat) (Q : List Nat) (v : Value) (z : Int), gk ≤ l1.length ∧ v = v7 ∧ v8 = .int .i64 z ∧ z = (gk : Int) - 1 ∧ NumV wr 10 r v ∧ r < m ∧ Q.length = K ∧ (∀ d ∈ Q, d < 10) ∧ (∀ t, t < gk → Q.getD t 0 = 0) ∧ n = m * vl 10 Q + r * 10 ^ gk + vl 10 (l1.take gk) ∧ IHolds wr w.heap.size 3 (zs Q) ∧ Below w.heap.size w wr)
  case atStart => exact ⟨0, List.replicate K 0, _, _, Nat.le_refl _, rfl, rfl, rfl, ⟨none, 0, by rw [dg_zero]; rfl, by rw [dg_zero]; simp, by rw [dg_zero]; exact Row.nil _ _⟩, by omega, by simp, fun d hd => by have := List.eq_of_mem_replicate hd; omega, (fun t _ => by simp [List.getD_eq_getElem?_getD, List.getElem?_replicate]; split <;> rfl), by rw [vl_zeros, List.take_length, HV1.out]; simp, q1.out, q2.out⟩
  case round =>
    obtain ⟨r, Q, v, z, hi, rfl, rfl, hz, hN, hrm, hQl, hQd, hQz, hQv, hQI, hQB⟩ := hrel
    clear q1 q2
    generalize gk = G at *
    by_cases hlt : 0 < G
    · obtain ⟨i, rfl⟩ : ∃ i, G = i + 1 := ⟨G - 1, by omega⟩
      obtain rfl : z = (i : Int) := by omega
      clear hz
      have hil : i < l1.length := by omega
      have il : (i : Int) < (l1.length : Int) := by omega
      have hKe := HK.out
      have iK : (i : Int) < (K : Int) := by omega
      have iQ : i < Q.length := by omega
      obtain ⟨k1, o1, rfl, e1⟩ := H1.out.of_below hQB i hil
      have hx : l1[i] < 10 := HD1.out _ (List.getElem_mem _)
      have HQV : Hid (n = m * vl 10 Q + r * 10 ^ (i + 1) + (vl 10 (l1.take i) + 10 ^ i * l1[i])) := by
        show n = _
        have e := vl_take_succ 10 l1 i
        rw [List.getD_eq_getElem?_getD, List.getElem?_eq_getElem hil] at e
        rw [← show vl 10 (l1.take (i + 1)) = vl 10 (l1.take i) + 10 ^ i * l1[i] from e]
        exact hQv
      have HQl : Hid (Q.length = K) := hQl
      have HQd : Hid (∀ d ∈ Q, d < 10) := hQd
      have HQz : Hid (∀ t, t < i + 1 → Q.getD t 0 = 0) := hQz
      have HQI : Hid (IHolds wr w.heap.size 3 (zs Q)) := hQI
      have HQB : Hid (Below w.heap.size w wr) := hQB
      have HRM : Hid (r < m) := hrm
      obtain ⟨a7, c7, rfl, hc7, r7⟩ := hN
      have L7 : (dg 10 r).length ≤ 1000000 := LB.out r (by omega)
      have D7 : Hid (∀ d ∈ dg 10 r, d < 10) := dg_mem ten r
      have V7 : Hid (vl 10 (dg 10 r) = r) := vl_dg ten r
      generalize dg 10 r = l7 at *
      have R7 : Hid (∀ W, Below wr.heap.size wr W → Row W a7 l7) := fun W hW => r7.of_below hW
      generalize l1[i] = x at *
      clear hQl hQd hQz hQv hQI hQB hrm hKe iQ r7 hc7
      generalize wr = W0 at *
      have HO1 : Hid ((W0.alloc (.cells #[.int .i64 (x : Int)] 3)).ownsRow W0.heap.size 3 1 (.slice (some ⟨W0.heap.size, 0, none⟩) 1 1) 1 [I x]) := World.ownsRow_lit W0 #[I x] 1 (Nat.le_refl _) (by decide) rfl
      have HB1 : Hid (Below W0.heap.size W0 (W0.alloc (.cells #[.int .i64 (x : Int)] 3))) := (Below.refl _ W0).alloc (Nat.le_refl _) _
      go_wp2_with fail
      clear e1
      go_loopg [9, 29] l7.length (fun gk v9 v29 wr => ∃ (j : Nat) (v : Value) (D : List Nat), j + gk = l7.length ∧ v = v9 ∧ v29 = .int .i64 (j : Int) ∧ D = x :: l7.take j ∧ wr.ownsRow W0.heap.size 3 1 v (j + 1) (zs D) ∧ Below W0.heap.size W0 wr)
      case atStart => exact ⟨0, _, [x], by omega, rfl, rfl, rfl, HO1.out, HB1.out⟩
      case round =>
        obtain ⟨j, v, D, hj, rfl, rfl, hD, hO, hB⟩ := hrel
        clear HO1 HB1
        have HDD : Hid (D = x :: l7.take j) := hD
        have HO : Hid (wr.ownsRow W0.heap.size 3 1 v (j + 1) (zs D)) := hO
        have HB : Hid (Below W0.heap.size W0 wr) := hB
        clear hD hO hB
        by_cases hjl : j < l7.length
        · have jl : (j : Int) < (l7.length : Int) := by omega
          obtain ⟨k2, o2, rfl, e2⟩ := R7.out wr HB.out j hjl
          have HE : Hid (D ++ [l7[j]] = x :: l7.take (j + 1)) := by
            show _ = _
            rw [HDD.out, List.take_succ_eq_append_getElem hjl]; rfl
          generalize l7[j] = y at *
          have HO2 : Hid ((wr.alloc (.cells #[.int .i64 (y : Int)] 3)).ownsRow W0.heap.size 3 1 v (j + 1) (zs D)) := HO.out.alloc _
          have HC2 : Hid (∀ jj u, [I y][jj]? = some u → (wr.alloc (.cells #[.int .i64 (y : Int)] 3)).cell? ((⟨wr.heap.size, 0, none⟩ : Addr).add jj) = some u) := fun jj u hu => by
            match jj, hu with
            | 0, hu => simp at hu; subst hu; simp [Addr.add]
          have HB2 : Hid (Below W0.heap.size W0 (wr.alloc (.cells #[.int .i64 (y : Int)] 3))) := HB.out.alloc HB.out.size _
          go_wp2_with (at_builtin; refine wpList_append_own _ rfl (.tmp 33) (.tmp 35) 44 rfl W0.heap.size 3 i0 (.int .i64 0) 1 8 Tryd.underlying44 hi0 hz0 hz1 hz2 rfl (by decide) v (j + 1) (zs D) rfl HO2.out ⟨wr.heap.size, 0, none⟩ 1 1 [I y] rfl rfl HC2.out (fun u hu => by simp at hu; subst hu; rfl) (by unfold maxLen; omega) (by omega) HB2.out.size ?_; intro v1 w1 hown1 hgrow1 hn1; have HO3 : Hid (w1.ownsRow W0.heap.size 3 1 v1 (j + 1 + 1) (zs D ++ [I y])) := hown1; have HG3 : Hid (Below W0.heap.size W0 w1) := HB2.out.grown hgrow1 HB2.out.size (fun k hk => (HO2.out.lt k hk).1); clear hown1 hgrow1 hn1)
          go_roundg (gk - 1)
          case measure => omega
          case rel => exact ⟨j + 1, _, D ++ [y], by omega, rfl, by go_num, HE.out, by rw [zs_append]; exact HO3.out, HG3.out⟩
        · obtain rfl : j = l7.length := by omega
          have hDe : D = x :: l7 := by rw [HDD.out, List.take_length]
          have VD : Hid (vl 10 D = x + 10 * r) := by show _ = _; rw [hDe]; show x + 10 * vl 10 l7 = _; rw [V7.out]
          have LD : Hid (∀ d ∈ D, d < 10) := by
            rw [hDe]; intro d hd
            rcases List.mem_cons.1 hd with rfl | hd
            · exact hx
            · exact D7.out d hd
          clear hDe HDD hj
          obtain ⟨a, cap, rfl, g1, g2, g3, g4⟩ := Row.of_owned' HO.out
          have HR : Hid (Row wr a D) := g3
          have HF : Hid (∀ k o, a = some ⟨k, o, none⟩ → W0.heap.size ≤ k) := g4
          clear g3 g4 HO
          go_wp2_with fail
          refine (trim_keep 10 ten wr a D cap HR.out g1 LD.out g2).mono ?_
          rintro e W3 ⟨⟨kk, rfl, hv⟩, rfl⟩
          rw [VD.out] at hv
          have HB0 : Hid (Below w.heap.size w W3) := HQB.out.trans (HB.out.mono HQB.out.size)
          have HI0 : Hid (IHolds W3 w.heap.size 3 (zs Q)) := HQI.out.of_below HB.out
          have HN0 : Hid (NumF W3 (w.heap.size + 1) (x + 10 * r) (.slice a kk cap)) := ⟨hv, fun k o l c h => by have := HF.out k o (by cases h; rfl); have := HQI.out.lt; omega⟩
          have HXM : Hid (x + 10 * r < 10 * m) := by have := HRM.out; show _ < _; omega
          clear hv HR HF LD VD g1 g2 HB
          generalize hX : x + 10 * r = X at *
          have HX : Hid (x + 10 * r = X) := hX
          clear hX
          generalize W3 = W4 at *
          go_wp2_with fail
          go_loopg [7] X (fun gk v7 wr => ∃ (c : Nat) (v : Value), gk + c * m = X ∧ v = v7 ∧ NumF wr (w.heap.size + 1) gk v ∧ IHolds wr w.heap.size 3 (zs (Q.set i c)) ∧ Below w.heap.size w wr)
          case atStart => exact ⟨0, _, by omega, rfl, HN0.out, by rw [set_zero (HQz.out i (by omega))]; exact HI0.out, HB0.out⟩
          case round =>
            obtain ⟨c, v, hs, rfl, hN, hI, hB⟩ := hrel
            clear HN0 HI0 HB0
            have HS : Hid (gk + c * m = X) := hs
            have HN : Hid (NumF wr (w.heap.size + 1) gk v) := hN
            have HI : Hid (IHolds wr w.heap.size 3 (zs (Q.set i c))) := hI
            have HB : Hid (Below w.heap.size w wr) := hB
            have hXm := HXM.out
            have hc9 : c < 10 := by
              apply Nat.lt_of_not_le
              intro h
              have := Nat.mul_le_mul_right m h
              omega
            have hsm : gk < 10 * m := by omega
            clear hs hN hI hB hXm
            generalize gk = s at *
            by_cases hge : m ≤ s
            · have HC : Hid (Calls Tryd.prog 46 #[v, v2] wr fun e w' => (∃ z : Int, 0 ≤ z ∧ e = .returned (.int .i64 z)) ∧ Below wr.heap.size wr w') := CG.out wr s v HN.out.1 HB.out hge hsm
              go_wp2_with fail
              refine HC.out.mono ?_
              rintro e W5 ⟨⟨z, hz, rfl⟩, hb⟩
              have HN5 : Hid (NumF W5 (w.heap.size + 1) s v) := HN.out.of_below hb
              have HI5 : Hid (IHolds W5 w.heap.size 3 (zs (Q.set i c))) := HI.out.of_below hb
              have HB5 : Hid (Below w.heap.size w W5) := HB.out.trans (hb.mono HB.out.size)
              clear HC hb
              go_wp2_with fail
              refine (SB.out W5 s v HN5.out.1 HB5.out hge hsm).mono ?_
              rintro e W6 ⟨⟨v', rfl, hn6⟩, hb⟩
              have HI6 : IHolds W6 w.heap.size 3 (zs (Q.set i c)) := HI5.out.of_below hb
              have HB6 : Hid (Below w.heap.size w W6) := HB5.out.trans (hb.mono HB5.out.size)
              have HN6 : Hid (NumF W6 (w.heap.size + 1) (s - m) v') := hn6.mono (by have := HI5.out.lt; omega)
              have hiq : i < (Q.set i c).length := by rw [List.length_set, HQl.out]; omega
              have c6 : W6.cell? ⟨w.heap.size, i, none⟩ = some (.int .i64 (c : Int)) := by
                have := HI6.at i hiq
                rw [List.getElem_set_self] at this
                exact this
              have f6 : W6.frozen? ⟨w.heap.size, i, none⟩ = false := HI6.frozen _
              have HI7 : Hid (IHolds (W6.setCell ⟨w.heap.size, i, none⟩ (.int .i64 ((c : Int) + 1))) w.heap.size 3 (zs (Q.set i (c + 1)))) := by
                have := HI6.set i (.int .i64 ((c : Int) + 1))
                rw [zs_set _ i (c + 1) _ (by push_cast; rfl), List.set_set] at this
                exact this
              have HB7 : Hid (Below w.heap.size w (W6.setCell ⟨w.heap.size, i, none⟩ (.int .i64 ((c : Int) + 1)))) := HB6.out.setCell (Nat.le_refl _) _
              have HN7 : Hid (NumF (W6.setCell ⟨w.heap.size, i, none⟩ (.int .i64 ((c : Int) + 1))) (w.heap.size + 1) (s - m) v') := HN6.out.set (by omega)
              clear hn6 hb HI6 hiq
              go_wp2_with fail
              go_roundg (s - m)
              case measure => omega
              case rel => exact ⟨c + 1, _, by have := HS.out; rw [Nat.add_mul]; omega, rfl, HN7.out, HI7.out, HB7.out⟩
            · have HC : Hid (Calls Tryd.prog 46 #[v, v2] wr fun e w' => e = .returned (.int .i64 (-1)) ∧ Below wr.heap.size wr w') := CL.out wr s v HN.out.1 HB.out (by omega)
              go_wp2_with fail
              refine HC.out.mono ?_
              rintro e W5 ⟨rfl, hb⟩
              have HN5 : Hid (NumF W5 (w.heap.size + 1) s v) := HN.out.of_below hb
              have HI5 : Hid (IHolds W5 w.heap.size 3 (zs (Q.set i c))) := HI.out.of_below hb
              have HB5 : Hid (Below w.heap.size w W5) := HB.out.trans (hb.mono HB.out.size)
              have HQ5 : Hid (n = m * vl 10 (Q.set i c) + s * 10 ^ i + vl 10 (l1.take i)) := by
                show n = _
                have hq := vl_set 10 Q i c (by rw [HQl.out]; omega)
                have h0 := HQz.out i (by omega)
                rw [List.getD_eq_getElem?_getD, List.getElem?_eq_getElem (by rw [HQl.out]; omega)] at h0
                rw [show Q[i]'(by rw [HQl.out]; omega) = 0 from h0, Nat.mul_zero, Nat.add_zero] at hq
                rw [hq]
                exact div_step HQV.out (by have := HS.out; have := HX.out; omega)
              have HZ5 : Hid (∀ t, t < i → (Q.set i c).getD t 0 = 0) := fun t ht => by
                have := HQz.out t (by omega)
                rw [List.getD_eq_getElem?_getD, List.getElem?_set_ne (by omega), ← List.getD_eq_getElem?_getD]
                exact this
              have HD5 : Hid (∀ d ∈ Q.set i c, d < 10) := fun d hd => by
                rcases List.mem_or_eq_of_mem_set hd with h | h
                · exact HQd.out d h
                · omega
              have HL5 : Hid ((Q.set i c).length = K) := by show _ = _; rw [List.length_set]; exact HQl.out
              clear HC hb
              go_wp2_with fail
              go_roundg i
              case measure => omega
              case rel => exact ⟨s, Q.set i c, _, _, by omega, rfl, rfl, by first | rfl | omega, HN5.out.1, by omega, HL5.out, HD5.out, HZ5.out, HQ5.out, HI5.out, HB5.out⟩
    · obtain rfl : G = 0 := by omega
      obtain rfl : z = -1 := by omega
      have HNV : Hid (NumV wr 10 (n % m) v) := by
        have e : n % m = r := by
          rw [hQv]
          simp [vl, Nat.mul_add_mod, Nat.mod_eq_of_lt hrm]
        show NumV _ _ _ _
        rw [e]; exact hN
      have HQ1 : Hid (vl 10 Q = n / m) := by
        show _ = _
        have e : n = m * vl 10 Q + r := by
          have := hQv
          simpa [vl] using this
        rw [e, Nat.mul_add_div (by omega), Nat.div_eq_of_lt hrm, Nat.add_zero]
      have HQ2 : Hid (∀ d ∈ Q, d < 10) := hQd
      have HQ3 : Hid (IHolds wr w.heap.size 3 (zs Q)) := hQI
      have HQ4 : Hid (Below w.heap.size w wr) := hQB
      have HQ5 : Hid (Q.length = K) := hQl
      clear hQl hQd hQz hQv hQI hQB hrm hN hi hz
      go_wp2_with fail
      refine (trim_at wr w.heap.size K K 3 Q HQ3.out HQ5.out (Nat.le_refl _) HQ2.out (by omega)).mono ?_
      rintro e W3 ⟨⟨vq, rfl, hv⟩, rfl⟩
      rw [HQ1.out] at hv
      have HVV : Hid (NumV W3 10 (n / m) vq) := hv
      clear hv
      go_wp2_with fail
      go_ret2
      exact ⟨⟨_, _, rfl, HVV.out, HNV.out⟩, HQ4.out⟩
end Go.Proofs.YtflabehlaiocaaaDoor

/- The reference's gcd. -/
set_option linter.unusedSimpArgs false
set_option linter.unusedVariables false
namespace Go.Proofs.YtflabehlaiocaaaDoor
open Go.RowKit Go.Deep Go.PlainAid

set_option maxRecDepth 100000 in
set_option maxHeartbeats 2000000 in
theorem refGcdV {w : World} {n m : Nat} {v1 v2 : Value} (h1 : NumV w 10 n v1) (h2 : NumV w 10 m v2) (b1 : (dg 10 n).length ≤ 900000) (b2 : (dg 10 m).length ≤ 900000) :
    Calls Tryd.prog 48 #[v1, v2] w fun e w' => (∃ v, e = .returned v ∧ NumV w' 10 (Nat.gcd n m) v) ∧ Below w.heap.size w w' := by
  have A1 : Hid (NumV w 10 n v1) := h1
  have A2 : Hid (NumV w 10 m v2) := h2
  have A3 : Hid ((dg 10 n).length ≤ 900000) := b1
  have A4 : Hid ((dg 10 m).length ≤ 900000) := b2
  clear h1 h2 b1 b2
  go_enter Tryd.func48, Tryd.ntmps48
  go_wp2_with fail
  go_loopg [0, 1] m (fun gk u1 u2 wr => ∃ (x : Nat) (v v' : Value), v = u1 ∧ v' = u2 ∧ NumV wr 10 x v ∧ NumV wr 10 gk v' ∧ Nat.gcd x gk = Nat.gcd n m ∧ (dg 10 x).length ≤ 900000 ∧ (dg 10 gk).length ≤ 900000 ∧ Below w.heap.size w wr)
  case atStart => exact ⟨n, _, _, rfl, rfl, A1.out, A2.out, rfl, A3.out, A4.out, Below.refl _ _⟩
  case round =>
    obtain ⟨x, v, v', rfl, rfl, hN1, hN2, hG, hL1, hL2, hB⟩ := hrel
    clear A1 A2 A3 A4
    have HG : Hid (Nat.gcd x gk = Nat.gcd n m) := hG
    have HB : Hid (Below w.heap.size w wr) := hB
    have HN1 : Hid (NumV wr 10 x v) := hN1
    clear hG hB hN1
    generalize gk = y at *
    by_cases h0 : y = 0
    · subst h0
      have HR : Hid (NumV wr 10 (Nat.gcd n m) v) := by
        have := HN1.out
        rw [← HG.out, Nat.gcd_zero_right]; exact this
      obtain ⟨a2, c2, rfl, _, _⟩ := hN2
      rw [dg_zero]
      clear hL1 hL2 HG HN1
      go_wp2_with fail
      go_ret
      exact ⟨⟨_, rfl, HR.out⟩, HB.out⟩
    · have HD : Hid (Calls Tryd.prog 49 #[v, v'] wr fun e w' => (∃ u1 u2, e = .returned (.tuple #[u1, u2]) ∧ NumV w' 10 (x / y) u1 ∧ NumV w' 10 (x % y) u2) ∧ Below wr.heap.size wr w') := refDivV HN1.out hN2 h0 hL1 hL2
      have HN2 : Hid (∀ W, Below wr.heap.size wr W → NumV W 10 y v') := fun W hW => hN2.of_below hW
      have HL : Hid ((dg 10 (x % y)).length ≤ 900000) := Nat.le_trans (dg_len_mono ten (Nat.le_of_lt (Nat.mod_lt x (by omega)))) hL2
      have HL2 : Hid (∀ z, z = y → (dg 10 z).length ≤ 900000) := fun z hz => by rw [hz]; exact hL2
      have HG2 : Hid (Nat.gcd y (x % y) = Nat.gcd n m) := by
        show _ = _
        rw [← HG.out, Nat.gcd_comm y (x % y), ← Nat.gcd_rec, Nat.gcd_comm]
      have HM : Hid (x % y < y) := Nat.mod_lt x (by omega)
      obtain ⟨a2, c2, rfl, _, _⟩ := hN2
      have hpos : 0 < (dg 10 y).length := by
        apply Nat.pos_of_ne_zero
        intro h; exact h0 ((dg_length_zero ten).1 h)
      clear hL1 hL2 HG HN1
      generalize (dg 10 y).length = L at *
      generalize x % y = r at *
      generalize x / y = q at *
      go_wp2_with fail
      refine HD.out.mono ?_
      rintro e W1 ⟨⟨u1, u2, rfl, _, hu2⟩, hb⟩
      have HU : Hid (NumV W1 10 r u2) := hu2
      have HB1 : Hid (Below w.heap.size w W1) := HB.out.trans (hb.mono HB.out.size)
      have HY : Hid (NumV W1 10 y (.slice a2 L c2)) := HN2.out W1 hb
      clear hu2 hb HD HN2
      go_wp2_with fail
      go_roundg r
      case measure => exact HM.out
      case rel => exact ⟨y, _, _, rfl, rfl, HY.out, HU.out, HG2.out, HL2.out y rfl, HL.out, HB1.out⟩
end Go.Proofs.YtflabehlaiocaaaDoor

/- The reference's fractions: Lowest; what is wrong with a fraction. -/
set_option linter.unusedSimpArgs false
set_option linter.unusedVariables false
namespace Go.Proofs.YtflabehlaiocaaaDoor
open Go.RowKit Go.Deep Go.PlainAid


/-- A block that holds no ints is no number's: what is written there leaves the number. -/
theorem NumV.apart {w w' : World} {B b n : Nat} {v : Value} {l : List Value} {t : TypeId} (h : NumV w B n v) (hI : IHolds w b t l) (hl : ∀ x ∈ l, ∀ k, x ≠ I k) (hb : But b w w') : NumV w' B n v := by
  obtain ⟨a, cap, rfl, hc, hr⟩ := h
  refine ⟨a, cap, rfl, hc, hr.of_but (fun hne k o e => ?_) hb⟩
  rintro rfl
  have h0 : 0 < (dg B n).length := List.length_pos_iff.2 hne
  obtain ⟨k', o', e', hcell⟩ := hr 0 h0
  rw [e] at e'
  simp only [Option.some.injEq, Addr.mk.injEq, and_true] at e'
  obtain ⟨rfl, rfl⟩ := e'
  by_cases hj : o + 0 < l.length
  · rw [hI.cell _ hj] at hcell
    exact hl _ (List.getElem_mem _) _ (Option.some.inj hcell)
  · have hI' := hI
    unfold IHolds at hI'
    simp [World.cell?, hI'] at hcell
    first
      | (obtain ⟨h, _⟩ := hcell; omega)
      | (rw [List.getElem?_eq_none (by omega)] at hcell; cases hcell)
      | (have := (List.getElem?_eq_some_iff.1 hcell).1; omega)
theorem NumV.slice_ne {w : World} {B n : Nat} {v : Value} (h : NumV w B n v) : ∀ k, v ≠ I k := by
  obtain ⟨a, cap, rfl, _⟩ := h
  intro k e; cases e
set_option maxRecDepth 100000 in
set_option maxHeartbeats 1000000 in
theorem refLowestV {w : World} {n m : Nat} {v1 v2 : Value} (h1 : NumV w 10 n v1) (h2 : NumV w 10 m v2) (hm : m ≠ 0) (b1 : (dg 10 n).length ≤ 900000) (b2 : (dg 10 m).length ≤ 900000) :
    Calls Tryd.prog 34 #[v1, v2] w fun e w' => (∃ u1 u2, e = .returned (.agg #[u1, u2]) ∧ NumV w' 10 (n / Nat.gcd n m) u1 ∧ NumV w' 10 (m / Nat.gcd n m) u2) ∧ Below w.heap.size w w' := by
  have A1 : Hid (∀ W, Below w.heap.size w W → NumV W 10 n v1) := fun W hW => h1.of_below hW
  have A2 : Hid (∀ W, Below w.heap.size w W → NumV W 10 m v2) := fun W hW => h2.of_below hW
  have hg : Nat.gcd n m ≠ 0 := by
    have := Nat.gcd_pos_of_pos_right n (Nat.pos_of_ne_zero hm)
    omega
  have bg : (dg 10 (Nat.gcd n m)).length ≤ 900000 := Nat.le_trans (dg_len_mono ten (Nat.gcd_le_right n (Nat.pos_of_ne_zero hm))) b2
  have CG : Hid (∀ W, Below w.heap.size w W → Calls Tryd.prog 48 #[v1, v2] W fun e w' => (∃ v, e = .returned v ∧ NumV w' 10 (Nat.gcd n m) v) ∧ Below W.heap.size W w') := fun W hW => refGcdV (A1.out W hW) (A2.out W hW) b1 b2
  have D1 : Hid (∀ W v, Below w.heap.size w W → NumV W 10 (Nat.gcd n m) v → Calls Tryd.prog 49 #[v1, v] W fun e w' => (∃ u1 u2, e = .returned (.tuple #[u1, u2]) ∧ NumV w' 10 (n / Nat.gcd n m) u1 ∧ NumV w' 10 (n % Nat.gcd n m) u2) ∧ Below W.heap.size W w') := fun W v hW hv => refDivV (A1.out W hW) hv hg b1 bg
  have D2 : Hid (∀ W v, Below w.heap.size w W → NumV W 10 (Nat.gcd n m) v → Calls Tryd.prog 49 #[v2, v] W fun e w' => (∃ u1 u2, e = .returned (.tuple #[u1, u2]) ∧ NumV w' 10 (m / Nat.gcd n m) u1 ∧ NumV w' 10 (m % Nat.gcd n m) u2) ∧ Below W.heap.size W w') := fun W v hW hv => refDivV (A2.out W hW) hv hg b2 bg
  clear h1 h2 hg bg b1 b2 A1 A2
  generalize Nat.gcd n m = g at *
  have B0 : Hid (Below w.heap.size w (w.alloc (.cells #[.slice none 0 0, .slice none 0 0] 46))) := (Below.refl _ w).alloc (Nat.le_refl _) _
  have I0 : Hid (IHolds (w.alloc (.cells #[.slice none 0 0, .slice none 0 0] 46)) w.heap.size 46 [.slice none 0 0, .slice none 0 0]) := IHolds.new w 46 _
  go_enter Tryd.func34, Tryd.ntmps34
  go_wp2_with fail
  generalize w.alloc (.cells #[.slice none 0 0, .slice none 0 0] 46) = W0 at *
  refine (CG.out W0 B0.out).mono ?_
  rintro e W1 ⟨⟨v, rfl, hv⟩, hb⟩
  have B1 : Hid (Below w.heap.size w W1) := B0.out.trans (hb.mono B0.out.size)
  have I1 : Hid (IHolds W1 w.heap.size 46 [.slice none 0 0, .slice none 0 0]) := I0.out.of_below hb
  have N1 : Hid (NumV W1 10 g v) := hv
  clear hv hb B0 I0
  go_wp2_with fail
  refine (D1.out W1 v B1.out N1.out).mono ?_
  rintro e W2 ⟨⟨u1, u1', rfl, hv, _⟩, hb⟩
  have B2 : Hid (Below w.heap.size w W2) := B1.out.trans (hb.mono B1.out.size)
  have I2 : Hid (IHolds W2 w.heap.size 46 [.slice none 0 0, .slice none 0 0]) := I1.out.of_below hb
  have N2 : Hid (NumV W2 10 g v) := N1.out.of_below hb
  have U2 : Hid (NumV W2 10 (n / g) u1) := hv
  clear hv hb B1 I1 N1
  go_wp2_with fail
  refine (D2.out W2 v B2.out N2.out).mono ?_
  rintro e W3 ⟨⟨u2, u2', rfl, hv, _⟩, hb⟩
  have B3 : Hid (Below w.heap.size w W3) := B2.out.trans (hb.mono B2.out.size)
  have I3 := I2.out.of_below hb
  have U3 : Hid (NumV W3 10 (n / g) u1) := U2.out.of_below hb
  have X3 : Hid (NumV W3 10 (m / g) u2) := hv
  clear hv hb B2 I2 N2 U2
  obtain ⟨x1, L1, k1, rfl⟩ : ∃ a L c, u1 = .slice a L c := by obtain ⟨a, cap, h, _⟩ := U3.out; exact ⟨_, _, _, h⟩
  obtain ⟨x2, L2, k2, rfl⟩ : ∃ a L c, u2 = .slice a L c := by obtain ⟨a, cap, h, _⟩ := X3.out; exact ⟨_, _, _, h⟩
  have c0 : W3.cell? ⟨w.heap.size, 0, none⟩ = some (.slice none 0 0) := I3.cell 0 (by simp)
  have c1 : W3.cell? ⟨w.heap.size, 1, none⟩ = some (.slice none 0 0) := I3.cell 1 (by simp)
  have f0 : ∀ i, W3.frozen? ⟨w.heap.size, i, none⟩ = false := fun i => I3.frozen i
  have I4 := (I3.set 0 (.slice x1 L1 k1)).set 1 (.slice x2 L2 k2)
  have hBut : But w.heap.size W3 ((W3.setCell ⟨w.heap.size, 0, none⟩ (.slice x1 L1 k1)).setCell ⟨w.heap.size, 1, none⟩ (.slice x2 L2 k2)) := ((But.refl _ W3).setCell 0 (.slice x1 L1 k1)).setCell 1 _
  have U4 : Hid (NumV ((W3.setCell ⟨w.heap.size, 0, none⟩ (.slice x1 L1 k1)).setCell ⟨w.heap.size, 1, none⟩ (.slice x2 L2 k2)) 10 (n / g) (.slice x1 L1 k1)) := U3.out.apart I3 (by simp) hBut
  have X4 : Hid (NumV ((W3.setCell ⟨w.heap.size, 0, none⟩ (.slice x1 L1 k1)).setCell ⟨w.heap.size, 1, none⟩ (.slice x2 L2 k2)) 10 (m / g) (.slice x2 L2 k2)) := X3.out.apart I3 (by simp) hBut
  have B4 : Hid (Below w.heap.size w ((W3.setCell ⟨w.heap.size, 0, none⟩ (.slice x1 L1 k1)).setCell ⟨w.heap.size, 1, none⟩ (.slice x2 L2 k2))) := (B3.out.setCell (Nat.le_refl _) _).setCell (Nat.le_refl _) _
  have E0 : Hid (((W3.setCell ⟨w.heap.size, 0, none⟩ (.slice x1 L1 k1)).setCell ⟨w.heap.size, 1, none⟩ (.slice x2 L2 k2)).cell? ⟨w.heap.size, 0, none⟩ = some (.slice x1 L1 k1)) := I4.cell 0 (by simp)
  have E1 : Hid (((W3.setCell ⟨w.heap.size, 0, none⟩ (.slice x1 L1 k1)).setCell ⟨w.heap.size, 1, none⟩ (.slice x2 L2 k2)).cell? ⟨w.heap.size, 1, none⟩ = some (.slice x2 L2 k2)) := I4.cell 1 (by simp)
  clear I3 I4 hBut U3 X3 B3
  go_wp2_with fail
  clear c0 c1 f0
  generalize (W3.setCell ⟨w.heap.size, 0, none⟩ (.slice x1 L1 k1)).setCell ⟨w.heap.size, 1, none⟩ (.slice x2 L2 k2) = W5 at *
  exact bodyPost_ret (v := .agg #[.slice x1 L1 k1, .slice x2 L2 k2]) (by simp [results, Tryd.results34, go_sem, E0.out, E1.out]) rfl ⟨⟨_, _, rfl, U4.out, X4.out⟩, B4.out⟩
end Go.Proofs.YtflabehlaiocaaaDoor

