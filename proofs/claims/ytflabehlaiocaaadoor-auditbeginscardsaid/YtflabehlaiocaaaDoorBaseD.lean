/- The walks of the reference's Read and Text. -/
import Derived.Test.YtflabehlaiocaaaDoorBaseA
set_option linter.unusedSimpArgs false
set_option linter.unusedVariables false
namespace Go.Proofs.YtflabehlaiocaaaDoor
open Go.RowKit Go.Deep Go.PlainAid

theorem Tryd.info3 : (Tryd.prog.info? 3).map (fun i => (i.zero, i.size, i.bytes)) = some (some (.int .i64 0), 1, 8) := by kernel_rfl
theorem ten : 2 ≤ 10 := by omega
theorem dl_take_succ (s : ByteArray) (k : Nat) (h : k < s.size) (hd : 48 ≤ bt s (s.size - 1 - k)) : (dl s.data.toList).take (k + 1) = (dl s.data.toList).take k ++ [(bt s (s.size - 1 - k) - 48).toNat] := by
  have hl : k < (dl s.data.toList).length := by rw [dl_length, size_list]; exact h
  rw [List.take_succ_eq_append_getElem hl]
  congr 2
  have hb := bt_list s (s.size - 1 - k) (by omega)
  have hx : (dl s.data.toList)[k] = (s.data.toList[s.size - 1 - k]'(by rw [size_list]; omega)).toNat - 48 := by
    simp only [dl, List.getElem_map, List.getElem_reverse, size_list]
  rw [hx]
  omega

set_option maxRecDepth 100000 in
set_option maxHeartbeats 1000000 in
theorem refRead_any (s : ByteArray) (w : World) (ha : allDig s.data.toList = true) (hs : s.size ≤ 1000000) :
    Calls Tryd.prog 45 #[.string s] w fun e w' => (∃ v, e = .returned v ∧ NumV w' 10 (bv s.data.toList) v) ∧ Below w.heap.size w w' := by
  have hb := get_bt s
  have HA : Hid (allDig s.data.toList = true) := ha
  have HL : Hid (∀ d ∈ dl s.data.toList, d < 10) := dl_lt _ ha
  have HDl : Hid ((dl s.data.toList).length = s.size) := by show _ = _; rw [dl_length, size_list]
  clear ha
  obtain ⟨i0, hi0, hz0, hz1, hz2⟩ := info_parts Tryd.info3
  go_enter Tryd.func45, Tryd.ntmps45
  go_wp2_with fail
  go_loopg [3, 4] (s.size + 1) (fun gk v3 v4 wr => ∃ (k : Nat) (v : Value), k + gk = s.size + 1 ∧ v = v3 ∧ v4 = .int .i64 ((s.size : Int) - 1 - (k : Int)) ∧ k ≤ s.size ∧ wr.ownsRow w.heap.size 3 1 v k (zs ((dl s.data.toList).take k)) ∧ Below w.heap.size w wr)
  case atStart => exact ⟨0, _, by omega, rfl, by simp, Nat.zero_le _, World.ownsRow_nil _ _ _ _, Below.refl _ _⟩
  case round =>
    obtain ⟨k, v, hk, rfl, rfl, hks, ho, hB⟩ := hrel
    have HO : Hid (wr.ownsRow w.heap.size 3 1 v k (zs ((dl s.data.toList).take k))) := ho
    have HB : Hid (Below w.heap.size w wr) := hB
    clear ho hB
    by_cases hlt : k < s.size
    · obtain ⟨p, hp⟩ : ∃ p, p = s.size - 1 - k := ⟨_, rfl⟩
      have hpi : (s.size : Int) - 1 - (k : Int) = (p : Int) := by omega
      have hps : p < s.size := by omega
      have hps' : (p : Int) < (s.size : Int) := by omega
      obtain ⟨d1, d2⟩ := dig_at s p hps HA.out
      have HST : Hid ((dl s.data.toList).take (k + 1) = (dl s.data.toList).take k ++ [(bt s p - 48).toNat]) := by show _ = _; rw [hp]; exact dl_take_succ s k hlt (by rw [← hp]; exact d1)
      have HPK : Hid (p = s.size - 1 - k) := hp
      rw [hpi]
      clear hp
      obtain ⟨X, hX⟩ : ∃ X : Nat, X = (bt s p - 48).toNat := ⟨_, rfl⟩
      have hXi : bt s p - 48 = (X : Int) := by omega
      have hX9 : X ≤ 9 := by omega
      rw [← hX] at HST
      clear hX
      generalize (dl s.data.toList).take k = L at *
      have HO2 : Hid ((wr.alloc (.cells #[.int .i64 (X : Int)] 3)).ownsRow w.heap.size 3 1 v k (zs L)) := HO.out.alloc _
      have HC2 : Hid (∀ j u, [I X][j]? = some u → (wr.alloc (.cells #[.int .i64 (X : Int)] 3)).cell? ((⟨wr.heap.size, 0, none⟩ : Addr).add j) = some u) := fun j u hu => by
        match j, hu with
        | 0, hu => simp at hu; subst hu; simp [Addr.add]
      have HB2 : Hid (Below w.heap.size w (wr.alloc (.cells #[.int .i64 (X : Int)] 3))) := HB.out.alloc HB.out.size _
      go_wp2_with (at_builtin; refine wpList_append_own _ rfl (.tmp 12) (.tmp 18) 44 rfl w.heap.size 3 i0 (.int .i64 0) 1 8 Tryd.underlying44 hi0 hz0 hz1 hz2 rfl (by decide) v k (zs L) rfl HO2.out ⟨wr.heap.size, 0, none⟩ 1 1 [I X] rfl rfl HC2.out (fun u hu => by simp at hu; subst hu; rfl) (by unfold maxLen; omega) (by omega) HB2.out.size ?_; intro v1 w1 hown1 hgrow1 hn1; have HO3 : Hid (w1.ownsRow w.heap.size 3 1 v1 (k + 1) (zs L ++ [I X])) := hown1; have HG3 : Hid (Below w.heap.size w w1) := HB2.out.grown hgrow1 HB2.out.size (fun k hk => (HO2.out.lt k hk).1); clear hown1 hgrow1 hn1)
      go_roundg (gk - 1)
      case measure => omega
      case rel =>
        refine ⟨k + 1, _, by omega, rfl, ?_, by omega, ?_, HG3.out⟩
        · have := HPK.out; go_num
        · rw [HST.out, zs_append]; exact HO3.out
    · obtain rfl : k = s.size := by omega
      have hz : ¬ (0 : Int) ≤ (s.size : Int) - 1 - (s.size : Int) := by omega
      have ho := HO.out
      rw [List.take_of_length_le (by rw [HDl.out]; exact Nat.le_refl _)] at ho
      obtain ⟨a, cap, rfl, h1, h2, h3⟩ := Row.of_owned ho
      have HR : Hid (Row wr a (dl s.data.toList)) := h3
      have HV2 : Hid (vl 10 (dl s.data.toList) = bv s.data.toList) := vl_dl _
      clear h3 ho
      generalize dl s.data.toList = D at *
      go_wp2_with fail
      refine (trim_any 10 ten wr a D cap HR.out h1 HL.out h2).mono ?_
      rintro e W3 ⟨⟨v, rfl, hv⟩, rfl⟩
      rw [HV2.out] at hv
      have HVV : Hid (NumV W3 10 (bv s.data.toList) v) := hv
      clear hv
      go_wp2_with fail
      go_ret
      exact ⟨⟨_, rfl, HVV.out⟩, HB.out⟩

set_option maxRecDepth 100000 in
set_option maxHeartbeats 1000000 in
theorem refText_any (w : World) (a : Option Addr) (cap n : Nat) (h : Row w a (dg 10 n)) (b : (dg 10 n).length ≤ 1000000) :
    Calls Tryd.prog 33 #[.slice a (dg 10 n).length cap] w fun e w' => e = .returned (.string ⟨(txt n).toArray⟩) ∧ Below w.heap.size w w' := by
  have HD : Hid (∀ d ∈ dg 10 n, d < 10) := dg_mem ten n
  have HT : Hid ((dg 10 n).length ≠ 0 → chars (dg 10 n) = txt n) := fun h => by
    have : n ≠ 0 := fun e => h ((dg_length_zero ten).2 e)
    rw [txt, if_neg this]
  have HT0 : Hid ((dg 10 n).length = 0 → txt n = [48]) := fun h => by
    have : n = 0 := (dg_length_zero ten).1 h
    subst this; rfl
  generalize txt n = X at *
  generalize dg 10 n = l at *
  have HR : Hid (Row w a l) := h
  clear h
  by_cases h0 : l.length = 0
  · have hX := HT0.out h0
    subst hX
    have h0' : ((l.length : Int) == 0) = true := by simp [h0]
    go_enter Tryd.func33, Tryd.ntmps33
    go_wp2_with fail
    go_ret
    exact ⟨rfl, Below.refl _ _⟩
  · have hX : Hid (chars l = X) := HT.out h0
    have h0' : ((l.length : Int) == 0) = false := beq_eq_false_iff_ne.2 (by omega)
    obtain ⟨N, hN, hmk⟩ : ∃ N : Nat, N = l.length ∧ ∀ w, (Instr.makeSlice 79 (.int .i64 (l.length : Int)) (.int .i64 (l.length : Int))).run Tryd.prog w = .ok (.slice (some ⟨w.heap.size, 0, none⟩) N N) (w.alloc (.cells (ys (List.replicate N 0)).toArray 5)) :=
      ⟨l.length, rfl, fun w => makeBytes _ _ rfl (by omega) w⟩
    have HN : Hid (N = l.length) := hN
    have hN2 : N ≤ 1000000 := by omega
    clear hN h0
    go_enter Tryd.func33, Tryd.ntmps33
    go_wp2_with fail
    have q1 : Hid (IHolds (w.alloc (.cells (ys (List.replicate N 0)).toArray 5)) w.heap.size 5 (ys (laidB N []))) := by
      show IHolds _ _ _ _
      have : laidB N [] = List.replicate N 0 := by simp [laidB, chars]
      rw [this]; exact IHolds.new w 5 _
    have q2 : Hid (Below w.heap.size w (w.alloc (.cells (ys (List.replicate N 0)).toArray 5))) := (Below.refl _ w).alloc (Nat.le_refl _) _
    clear hmk
    generalize w.alloc (.cells (ys (List.replicate N 0)).toArray 5) = W0 at *
    go_loopg [4] l.length (fun gk v4 wr => ∃ i : Nat, i + gk = l.length ∧ v4 = .int .i64 (i : Int) ∧ IHolds wr w.heap.size 5 (ys (laidB N (l.take i))) ∧ Below w.heap.size w wr)
    case atStart => exact ⟨0, by omega, rfl, q1.out, q2.out⟩
    case round =>
      obtain ⟨i, hi, rfl, hI, hB⟩ := hrel
      clear q1 q2
      by_cases hlt : i < l.length
      · have il : (i : Int) < (l.length : Int) := by omega
        have hNe := HN.out
        obtain ⟨k2, o2, rfl, c2⟩ := HR.out.of_below hB i hlt
        have hu : l[i] < 10 := HD.out _ (List.getElem_mem _)
        have hlen : (l.take i).length = i := by rw [List.length_take]; omega
        have hsucc : l.take (i + 1) = l.take i ++ [l[i]] := List.take_succ_eq_append_getElem hlt
        obtain ⟨p, hp⟩ : ∃ p, p = N - i - 1 := ⟨_, rfl⟩
        have hpi : (l.length : Int) - 1 - (i : Int) = (p : Int) := by omega
        have hpN : p < N := by omega
        have hpN' : (p : Int) < (N : Int) := by omega
        have hcl : (ys (laidB N (l.take i))).length = N := by rw [ys_length, laidB_length N _ (by omega)]
        have hc0 : wr.cell? ⟨w.heap.size, p, none⟩ = some ((ys (laidB N (l.take i)))[p]'(by omega)) := hI.cell p (by omega)
        have hf0 : wr.frozen? ⟨w.heap.size, p, none⟩ = false := hI.frozen p
        have HS2 : Hid (IHolds (wr.setCell ⟨w.heap.size, p, none⟩ (.int .u8 ((l[i] : Int) + 48))) w.heap.size 5 (ys (laidB N (l.take (i + 1))))) := by
          have h1 := hI.set p (.int .u8 ((l[i] : Int) + 48))
          have h2 := laidB_step N (l.take i) l[i] (by omega) hu ((l[i] : Int) + 48) rfl
          rw [hlen] at h2
          rw [hp, h2, ← hp, ← hsucc] at h1
          exact h1
        have HB2 : Hid (Below w.heap.size w (wr.setCell ⟨w.heap.size, p, none⟩ (.int .u8 ((l[i] : Int) + 48)))) := hB.setCell (Nat.le_refl _) _
        generalize (ys (laidB N (l.take i)))[p]'(by omega) = old at *
        clear hI hB hcl hp hlen hsucc hNe
        generalize l[i] = u at *
        go_wp2_with fail
        go_roundg (gk - 1)
        case measure => omega
        case rel => exact ⟨i + 1, by omega, by go_num, HS2.out, HB2.out⟩
      · obtain rfl : i = l.length := by omega
        have HB : Hid (Below w.heap.size w wr) := hB
        have hNe := HN.out
        rw [List.take_length] at hI
        have hlb : laidB N l = X := by
          unfold laidB
          rw [hNe, Nat.sub_self, hX.out]; rfl
        have hcl : X.length = N := by rw [← hX.out, chars_length]; omega
        have hcv := run_convert_bytes_arg (P := Tryd.prog) wr 79 5 Tryd.underlying79 Tryd.underlying5 w.heap.size 0 N N (X.map fun x => (x.toNat : Int)) (by simpa using hcl) (fun k hk => by
          have := hI
          rw [hlb] at this
          rw [Nat.zero_add, this.cell k (by rw [ys_length]; omega)]
          simp [ys, List.getElem?_eq_getElem (show k < X.length by omega)]) 9 Tryd.underlying9
        rw [Lib.Lz.strOfNums_map] at hcv
        clear hI hB hlb hcl hNe
        go_wp2_with fail
        go_ret
        exact ⟨rfl, HB.out⟩
end Go.Proofs.YtflabehlaiocaaaDoor

/- Plain: reckoning digit by digit, as by hand. -/
set_option linter.unusedSimpArgs false
set_option linter.unusedVariables false
namespace Go.Proofs.YtflabehlaiocaaaDoor

theorem vl_take_le (B : Nat) (l : List Nat) (i : Nat) : vl B (l.take i) ≤ vl B l := by
  have e : vl B l = vl B (l.take i ++ l.drop i) := by rw [List.take_append_drop]
  rw [e, vl_append]; omega
theorem getD_lt {l : List Nat} (h : ∀ d ∈ l, d < 10) (i : Nat) : l.getD i 0 < 10 := by
  by_cases hi : i < l.length
  · rw [List.getD_eq_getElem?_getD, List.getElem?_eq_getElem hi]; exact h _ (List.getElem_mem _)
  · rw [List.getD_eq_getElem?_getD, List.getElem?_eq_none (by omega)]; simp
/-- The sum when i digits were gone through. -/
structure Sums (a b : List Nat) (i : Nat) (D : List Nat) (up : Nat) : Prop where
  len : D.length = i
  low : ∀ d ∈ D, d < 10
  up1 : up ≤ 1
  eq : vl 10 D + 10 ^ i * up = vl 10 (a.take i) + vl 10 (b.take i)
  big : i = 0 ∨ 10 ^ (i - 1) ≤ vl 10 a + vl 10 b
theorem Sums.zero (a b : List Nat) : Sums a b 0 [] 0 := ⟨rfl, (fun d h => by cases h), by omega, by simp [vl], Or.inl rfl⟩
theorem Sums.step {a b : List Nat} {i : Nat} {D : List Nat} {up : Nat} (h : Sums a b i D up) (ha : ∀ d ∈ a, d < 10) (hb : ∀ d ∈ b, d < 10) (hbig : 10 ^ i ≤ vl 10 a + vl 10 b) :
    Sums a b (i + 1) (D ++ [(a.getD i 0 + b.getD i 0 + up) % 10]) ((a.getD i 0 + b.getD i 0 + up) / 10) := by
  have h1 := getD_lt ha i
  have h2 := getD_lt hb i
  have h3 := h.up1
  refine ⟨by simp [h.len], ?_, by omega, ?_, Or.inr (by simpa using hbig)⟩
  · intro d hd
    rcases List.mem_append.1 hd with hd | hd
    · exact h.low d hd
    · simp at hd; omega
  · rw [vl_snoc, h.len, vl_take_succ, vl_take_succ]
    have e := h.eq
    have hs : a.getD i 0 + b.getD i 0 + up = (a.getD i 0 + b.getD i 0 + up) % 10 + 10 * ((a.getD i 0 + b.getD i 0 + up) / 10) := (Nat.mod_add_div _ 10).symm
    generalize (a.getD i 0 + b.getD i 0 + up) % 10 = r at *
    generalize (a.getD i 0 + b.getD i 0 + up) / 10 = q at *
    have hs2 : 10 ^ i * (a.getD i 0 + b.getD i 0 + up) = 10 ^ i * (r + 10 * q) := by rw [hs]
    grind
theorem Sums.goes_a {n : Nat} {b : List Nat} {i : Nat} (hi : i < (dg 10 n).length) : 10 ^ i ≤ vl 10 (dg 10 n) + vl 10 b := by
  have := pow_le_of_len (by omega) i n hi
  rw [vl_dg (by omega)]; omega
theorem Sums.goes_b {n : Nat} {a : List Nat} {i : Nat} (hi : i < (dg 10 n).length) : 10 ^ i ≤ vl 10 a + vl 10 (dg 10 n) := by
  have := pow_le_of_len (by omega) i n hi
  rw [vl_dg (by omega)]; omega
theorem Sums.goes_up {a b : List Nat} {i : Nat} {D : List Nat} {up : Nat} (h : Sums a b i D up) (hu : 0 < up) : 10 ^ i ≤ vl 10 a + vl 10 b := by
  have e := h.eq
  have h1 := vl_take_le 10 a i
  have h2 := vl_take_le 10 b i
  have h3 : 10 ^ i * 1 ≤ 10 ^ i * up := Nat.mul_le_mul_left _ hu
  omega
theorem topped_of_big {D : List Nat} (hd : ∀ d ∈ D, d < 10) (h : D.length = 0 ∨ 10 ^ (D.length - 1) ≤ vl 10 D) : Topped D := by
  by_cases h0 : D = []
  · exact Or.inl h0
  · obtain ⟨Q, d, rfl⟩ : ∃ Q d, D = Q ++ [d] := ⟨D.dropLast, D.getLast h0, (List.dropLast_concat_getLast h0).symm⟩
    refine Or.inr ?_
    have hl : (Q ++ [d]).length - 1 = Q.length := by simp
    rcases h with h | h
    · simp at h
    · rw [hl, vl_snoc] at h
      have h1 := vl_lt 10 Q (fun x hx => hd x (by simp [hx]))
      rw [hl]
      simp
      intro e
      subst e
      simp at h
      omega
theorem Sums.done {n m i : Nat} {D : List Nat} (h : Sums (dg 10 n) (dg 10 m) i D 0) (h1 : (dg 10 n).length ≤ i) (h2 : (dg 10 m).length ≤ i) : D = dg 10 (n + m) := by
  have e := h.eq
  rw [List.take_of_length_le h1, List.take_of_length_le h2, vl_dg (by omega), vl_dg (by omega)] at e
  simp only [Nat.mul_zero, Nat.add_zero] at e
  refine dg_of_vl (by omega) D (n + m) h.low e (topped_of_big h.low ?_)
  rw [h.len, e]
  have := h.big
  rw [vl_dg (by omega), vl_dg (by omega)] at this
  exact this

/-- The difference when i digits were gone through. -/
structure Diffs (a b : List Nat) (i : Nat) (D : List Nat) (down : Nat) : Prop where
  len : D.length = i
  low : ∀ d ∈ D, d < 10
  d1 : down ≤ 1
  eq : vl 10 (a.take i) + 10 ^ i * down = vl 10 D + vl 10 (b.take i)
theorem Diffs.zero (a b : List Nat) : Diffs a b 0 [] 0 := ⟨rfl, (fun d h => by cases h), by omega, by simp [vl]⟩
theorem Diffs.step {a b : List Nat} {i : Nat} {D : List Nat} {down : Nat} (h : Diffs a b i D down) (x down' : Nat) (hx : x < 10) (hd : down' ≤ 1) (he : a.getD i 0 + 10 * down' = x + b.getD i 0 + down) : Diffs a b (i + 1) (D ++ [x]) down' := by
  refine ⟨by simp [h.len], ?_, hd, ?_⟩
  · intro d hd
    rcases List.mem_append.1 hd with hd | hd
    · exact h.low d hd
    · simp at hd; omega
  · rw [vl_snoc, h.len, vl_take_succ, vl_take_succ]
    have e := h.eq
    have hs2 : 10 ^ i * (a.getD i 0 + 10 * down') = 10 ^ i * (x + b.getD i 0 + down) := by rw [he]
    grind
theorem Diffs.done {n m : Nat} {D : List Nat} {down : Nat} (hmn : m ≤ n) (h : Diffs (dg 10 n) (dg 10 m) (dg 10 n).length D down) : vl 10 D = n - m := by
  have e := h.eq
  rw [List.take_length, List.take_of_length_le (dg_len_mono (by omega) hmn), vl_dg (by omega), vl_dg (by omega)] at e
  have h1 := vl_lt 10 D h.low
  rw [h.len] at h1
  have h2 := h.d1
  rcases Nat.eq_zero_or_pos down with h0 | h0
  · subst h0; omega
  · have : down = 1 := by omega
    subst this; omega

/-! ### One digit of a list set -/
theorem vl_set (B : Nat) (P : List Nat) (t x : Nat) (h : t < P.length) : vl B (P.set t x) + B ^ t * P[t] = vl B P + B ^ t * x := by
  have e1 : P.set t x = P.take t ++ (x :: P.drop (t + 1)) := by
    rw [List.set_eq_take_append_cons_drop, if_pos h]
  have e2 : P = P.take t ++ (P[t] :: P.drop (t + 1)) := by rw [← List.drop_eq_getElem_cons h, List.take_append_drop]
  have hl : (P.take t).length = t := by rw [List.length_take]; omega
  have h1 : vl B (P.set t x) = vl B (P.take t) + B ^ t * (x + B * vl B (P.drop (t + 1))) := by
    rw [e1, vl_append, hl]; rfl
  have h2 : vl B P = vl B (P.take t) + B ^ t * (P[t] + B * vl B (P.drop (t + 1))) := by
    have := vl_append B (P.take t) (P[t] :: P.drop (t + 1))
    rw [← e2, hl] at this
    rw [this]; rfl
  rw [h1, h2]
  grind
/-- A row of the product: j digits of b times the digit u, laid upon P at i. -/
structure Mulr (b : List Nat) (P0 : List Nat) (i u j : Nat) (P : List Nat) (up : Nat) : Prop where
  len : P.length = P0.length
  low : ∀ d ∈ P, d < 10
  up9 : up ≤ 9
  eq : vl 10 P + 10 ^ (i + j) * up = vl 10 P0 + 10 ^ i * u * vl 10 (b.take j)
  tail : ∀ t, i + b.length ≤ t → P.getD t 0 = P0.getD t 0
theorem Mulr.zero (b P0 : List Nat) (i u : Nat) (h : ∀ d ∈ P0, d < 10) : Mulr b P0 i u 0 P0 0 := ⟨rfl, h, by omega, by simp [vl], fun _ _ => rfl⟩
theorem Mulr.step {b P0 : List Nat} {i u j : Nat} {P : List Nat} {up : Nat} (h : Mulr b P0 i u j P up) (hj : j < b.length) (hP : i + j < P.length) (hu : u < 10) (hb : ∀ d ∈ b, d < 10) :
    Mulr b P0 i u (j + 1) (P.set (i + j) ((P[i + j] + u * b[j] + up) % 10)) ((P[i + j] + u * b[j] + up) / 10) := by
  have hp : P[i + j] < 10 := h.low _ (List.getElem_mem _)
  have hbj : b[j] < 10 := hb _ (List.getElem_mem _)
  have hm : u * b[j] ≤ 9 * 9 := Nat.mul_le_mul (by omega) (by omega)
  have h9 := h.up9
  refine ⟨by simp [h.len], ?_, by omega, ?_, ?_⟩
  · intro d hd
    rcases List.mem_or_eq_of_mem_set hd with hd | hd
    · exact h.low d hd
    · omega
  · have e1 := vl_set 10 P (i + j) ((P[i + j] + u * b[j] + up) % 10) hP
    have e2 := vl_take_succ 10 b j
    rw [List.getD_eq_getElem?_getD, List.getElem?_eq_getElem hj] at e2
    simp only [Option.getD_some] at e2
    have e3 := h.eq
    rw [e2]
    have hs : P[i + j] + u * b[j] + up = (P[i + j] + u * b[j] + up) % 10 + 10 * ((P[i + j] + u * b[j] + up) / 10) := (Nat.mod_add_div _ 10).symm
    generalize (P[i + j] + u * b[j] + up) % 10 = r at *
    generalize (P[i + j] + u * b[j] + up) / 10 = q at *
    generalize vl 10 (P.set (i + j) r) = V at *
    generalize P[i + j] = x at *
    generalize b[j] = y at *
    have hs2 : 10 ^ (i + j) * (x + u * y + up) = 10 ^ (i + j) * (r + 10 * q) := by rw [hs]
    have hp1 : (10 : Nat) ^ (i + (j + 1)) = 10 * 10 ^ (i + j) := by rw [← Nat.add_assoc, Nat.pow_succ, Nat.mul_comm]
    have hp2 : (10 : Nat) ^ (i + j) = 10 ^ i * 10 ^ j := Nat.pow_add _ _ _
    rw [hp1]
    rw [hp2] at *
    grind
  · intro t ht
    have := h.tail t ht
    rw [← this, List.getD_eq_getElem?_getD, List.getD_eq_getElem?_getD, List.getElem?_set_ne (by omega)]
theorem Mulr.done {b P0 : List Nat} {i u : Nat} {P : List Nat} {up x m : Nat} (h : Mulr b P0 i u b.length P up) (hP : i + b.length < P.length) (h0 : ∀ t, i + b.length ≤ t → P0.getD t 0 = 0) (hv : vl 10 P0 = x * m) (hm : vl 10 b = m) :
    vl 10 (P.set (i + b.length) up) = (x + 10 ^ i * u) * m ∧ (∀ d ∈ P.set (i + b.length) up, d < 10) ∧ (P.set (i + b.length) up).length = P0.length ∧ ∀ t, i + 1 + b.length ≤ t → (P.set (i + b.length) up).getD t 0 = 0 := by
  have e1 := vl_set 10 P (i + b.length) up hP
  have hz : P[i + b.length] = 0 := by
    have h1 := h.tail (i + b.length) (Nat.le_refl _)
    rw [h0 _ (Nat.le_refl _), List.getD_eq_getElem?_getD, List.getElem?_eq_getElem hP] at h1
    exact h1
  have e2 := h.eq
  rw [List.take_length, hm, hv] at e2
  rw [hz] at e1
  refine ⟨?_, ?_, by simp [h.len], ?_⟩
  · have : vl 10 (P.set (i + b.length) up) = x * m + 10 ^ i * u * m := by omega
    rw [this]; grind
  · intro d hd
    have := h.up9
    rcases List.mem_or_eq_of_mem_set hd with hd | hd
    · exact h.low d hd
    · omega
  · intro t ht
    rw [List.getD_eq_getElem?_getD, List.getElem?_set_ne (by omega), ← List.getD_eq_getElem?_getD, h.tail t (by omega), h0 t (by omega)]
end Go.Proofs.YtflabehlaiocaaaDoor

/- The walks of the reference's Add, Sub, Mul. -/
set_option linter.unusedSimpArgs false
set_option linter.unusedVariables false
namespace Go.Proofs.YtflabehlaiocaaaDoor
open Go.RowKit Go.Deep Go.PlainAid

theorem NumV.of_owned {w : World} {base B n : Nat} {v : Value} {e : TypeId} {k : Nat} (h : w.ownsRow base e 1 v k (zs (dg B n))) : NumV w B n v := by
  obtain ⟨a, cap, h1, h2, h3, h4⟩ := Row.of_owned h
  exact ⟨a, cap, h1, h2, h4⟩

set_option maxRecDepth 100000 in
set_option maxHeartbeats 2000000 in
theorem refSub_any (w : World) (a1 a2 : Option Addr) (cap1 cap2 n m : Nat) (h1 : Row w a1 (dg 10 n)) (h2 : Row w a2 (dg 10 m)) (b1 : (dg 10 n).length ≤ 1000000) (hmn : m ≤ n) :
    Calls Tryd.prog 61 #[.slice a1 (dg 10 n).length cap1, .slice a2 (dg 10 m).length cap2] w fun e w' => (∃ v, e = .returned v ∧ NumV w' 10 (n - m) v) ∧ Below w.heap.size w w' := by
  have KD : Hid (∀ D down, Diffs (dg 10 n) (dg 10 m) (dg 10 n).length D down → vl 10 D = n - m) := fun D down h => h.done hmn
  have HD1 : Hid (∀ d ∈ dg 10 n, d < 10) := dg_mem ten n
  have HD2 : Hid (∀ d ∈ dg 10 m, d < 10) := dg_mem ten m
  generalize dg 10 n = l1 at *
  generalize dg 10 m = l2 at *
  have H1 : Hid (Row w a1 l1) := h1
  have H2 : Hid (Row w a2 l2) := h2
  clear h1 h2
  obtain ⟨i0, hi0, hz0, hz1, hz2⟩ := info_parts Tryd.info3
  go_enter Tryd.func61, Tryd.ntmps61
  go_wp2_with fail
  go_loopg [5, 6, 7] l1.length (fun gk v5 v6 v7 wr => ∃ (i down : Nat) (D : List Nat) (v : Value), i + gk = l1.length ∧ v = v5 ∧ v6 = .int .i64 (down : Int) ∧ v7 = .int .i64 (i : Int) ∧ Diffs l1 l2 i D down ∧ wr.ownsRow w.heap.size 3 1 v i (zs D) ∧ Below w.heap.size w wr)
  case atStart => exact ⟨0, 0, [], _, by omega, rfl, rfl, rfl, Diffs.zero _ _, World.ownsRow_nil _ _ _ _, Below.refl _ _⟩
  case round =>
    obtain ⟨i, down, D, v, hi, rfl, rfl, rfl, hS, ho, hB⟩ := hrel
    by_cases c1 : i < l1.length
    · have c1' : (i : Int) < (l1.length : Int) := by omega
      obtain ⟨k1, o1, rfl, e1⟩ := H1.out.of_below hB i c1
      have hdn := hS.d1
      have A2 : Hid (∀ k, Calls Tryd.prog 79 #[.slice a2 l2.length cap2, .int .i64 (i : Int)] (wr.drewN k) fun e w' => e = .returned (I (l2.getD i 0)) ∧ w' = wr.drewN k) := fun k => at_any (wr.drewN k) a2 l2 cap2 i ((H2.out.of_below hB).drew k)
      have g1 := getD_lt HD1.out i
      have g2 := getD_lt HD2.out i
      have HST : Hid (∀ X Y, X < 10 → Y ≤ 1 → l1.getD i 0 + 10 * Y = X + l2.getD i 0 + down → Diffs l1 l2 (i + 1) (D ++ [X]) Y) := fun X Y h1 h2 h3 => hS.step X Y h1 h2 h3
      have eg : l1.getD i 0 = l1[i] := by rw [List.getD_eq_getElem?_getD, List.getElem?_eq_getElem c1]; rfl
      rw [eg] at g1 HST
      generalize l1[i] = x1 at *
      generalize l2.getD i 0 = x2 at *
      have HO0 : Hid (wr.ownsRow w.heap.size 3 1 v i (zs D)) := ho
      have HB0 : Hid (Below w.heap.size w wr) := hB
      clear ho hB hS eg
      go_wp2_with fail
      go_quiet ((go_at_call 79; exact Calls.quiet_of_same (A2.out _)))
      have HO : Hid ((wr.drewN nq).ownsRow w.heap.size 3 1 v i (zs D)) := HO0.out
      have HB : Hid (Below w.heap.size w (wr.drewN nq)) := ⟨HB0.out.os, HB0.out.tape, HB0.out.output, HB0.out.size, HB0.out.block⟩
      clear A2 e1 HO0 HB0
      generalize wr.drewN nq = wr at *
      by_cases hneg : (x1 : Int) - (x2 : Int) - (down : Int) < 0
      · obtain ⟨X, hX⟩ : ∃ X : Nat, X = x1 + 10 - x2 - down := ⟨_, rfl⟩
        have eX : (x1 : Int) - (x2 : Int) - (down : Int) + 10 = (X : Int) := by omega
        have hX9 : X ≤ 9 := by omega
        have HSX : Hid (Diffs l1 l2 (i + 1) (D ++ [X]) 1) := HST.out X 1 (by omega) (by omega) (by omega)
        clear hX HST
        have HO2 : Hid ((wr.alloc (.cells #[.int .i64 (X : Int)] 3)).ownsRow w.heap.size 3 1 v i (zs D)) := HO.out.alloc _
        have HC2 : Hid (∀ j u, [I X][j]? = some u → (wr.alloc (.cells #[.int .i64 (X : Int)] 3)).cell? ((⟨wr.heap.size, 0, none⟩ : Addr).add j) = some u) := fun j u hu => by
          match j, hu with
          | 0, hu => simp at hu; subst hu; simp [Addr.add]
        have HB2 : Hid (Below w.heap.size w (wr.alloc (.cells #[.int .i64 (X : Int)] 3))) := HB.out.alloc HB.out.size _
        go_wp2_with (at_builtin; refine wpList_append_own _ rfl (.tmp 29) (.tmp 31) 44 rfl w.heap.size 3 i0 (.int .i64 0) 1 8 Tryd.underlying44 hi0 hz0 hz1 hz2 rfl (by decide) v i (zs D) rfl HO2.out ⟨wr.heap.size, 0, none⟩ 1 1 [I X] rfl rfl HC2.out (fun u hu => by simp at hu; subst hu; rfl) (by unfold maxLen; omega) (by omega) HB2.out.size ?_; intro v1 w1 hown1 hgrow1 hn1; have HO3 : Hid (w1.ownsRow w.heap.size 3 1 v1 (i + 1) (zs D ++ [I X])) := hown1; have HG3 : Hid (Below w.heap.size w w1) := HB2.out.grown hgrow1 HB2.out.size (fun k hk => (HO2.out.lt k hk).1); clear hown1 hgrow1 hn1)
        go_roundg (gk - 1)
        case measure => omega
        case rel => exact ⟨i + 1, 1, D ++ [X], _, by omega, rfl, rfl, by go_num, HSX.out, by rw [zs_append]; exact HO3.out, HG3.out⟩
      · obtain ⟨X, hX⟩ : ∃ X : Nat, X = x1 - x2 - down := ⟨_, rfl⟩
        have eX : (x1 : Int) - (x2 : Int) - (down : Int) = (X : Int) := by omega
        have hX9 : X ≤ 9 := by omega
        have HSX : Hid (Diffs l1 l2 (i + 1) (D ++ [X]) 0) := HST.out X 0 (by omega) (by omega) (by omega)
        clear hX HST hneg
        have HO2 : Hid ((wr.alloc (.cells #[.int .i64 (X : Int)] 3)).ownsRow w.heap.size 3 1 v i (zs D)) := HO.out.alloc _
        have HC2 : Hid (∀ j u, [I X][j]? = some u → (wr.alloc (.cells #[.int .i64 (X : Int)] 3)).cell? ((⟨wr.heap.size, 0, none⟩ : Addr).add j) = some u) := fun j u hu => by
          match j, hu with
          | 0, hu => simp at hu; subst hu; simp [Addr.add]
        have HB2 : Hid (Below w.heap.size w (wr.alloc (.cells #[.int .i64 (X : Int)] 3))) := HB.out.alloc HB.out.size _
        go_wp2_with (at_builtin; refine wpList_append_own _ rfl (.tmp 29) (.tmp 31) 44 rfl w.heap.size 3 i0 (.int .i64 0) 1 8 Tryd.underlying44 hi0 hz0 hz1 hz2 rfl (by decide) v i (zs D) rfl HO2.out ⟨wr.heap.size, 0, none⟩ 1 1 [I X] rfl rfl HC2.out (fun u hu => by simp at hu; subst hu; rfl) (by unfold maxLen; omega) (by omega) HB2.out.size ?_; intro v1 w1 hown1 hgrow1 hn1; have HO3 : Hid (w1.ownsRow w.heap.size 3 1 v1 (i + 1) (zs D ++ [I X])) := hown1; have HG3 : Hid (Below w.heap.size w w1) := HB2.out.grown hgrow1 HB2.out.size (fun k hk => (HO2.out.lt k hk).1); clear hown1 hgrow1 hn1)
        go_roundg (gk - 1)
        case measure => omega
        case rel => exact ⟨i + 1, 0, D ++ [X], _, by omega, rfl, rfl, by go_num, HSX.out, by rw [zs_append]; exact HO3.out, HG3.out⟩
    · obtain rfl : i = l1.length := by omega
      have HV : Hid (vl 10 D = n - m) := KD.out D down hS
      have HL : Hid (∀ d ∈ D, d < 10) := hS.low
      have HB : Hid (Below w.heap.size w wr) := hB
      obtain ⟨a, cap, rfl, h1, h2, h3⟩ := Row.of_owned ho
      have HR : Hid (Row wr a D) := h3
      clear h3 ho hB hS
      go_wp2_with fail
      refine (trim_any 10 ten wr a D cap HR.out h1 HL.out h2).mono ?_
      rintro e W3 ⟨⟨v, rfl, hv⟩, rfl⟩
      rw [HV.out] at hv
      have HVV : Hid (NumV W3 10 (n - m) v) := hv
      clear hv
      go_wp2_with fail
      go_ret
      exact ⟨⟨_, rfl, HVV.out⟩, HB.out⟩
end Go.Proofs.YtflabehlaiocaaaDoor

/- The walks of the reference's Mul. -/
set_option linter.unusedSimpArgs false
set_option linter.unusedVariables false
namespace Go.Proofs.YtflabehlaiocaaaDoor
open Go.RowKit Go.Deep Go.PlainAid

theorem makeNat (z : Int) (n : Nat) (hz : z = (n : Int)) (hn : n ≤ 4294967296) (w : World) : (Instr.makeSlice 44 (.int .i64 z) (.int .i64 z)).run Tryd.prog w = .ok (.slice (some ⟨w.heap.size, 0, none⟩) n n) (w.alloc (.cells (zs (List.replicate n 0)).toArray 3)) := by
  subst hz
  have := run_make_row' (P := Tryd.prog) 44 3 (.int .i64 0) 8 Tryd.underlying44 Tryd.info3 rfl .i64 .i64 n (by omega) (by omega) w
  rw [made_nums] at this
  exact this
theorem zs_set (l : List Nat) (t x : Nat) (y : Int) (hy : y = (x : Int)) : (zs l).set t (.int .i64 y) = zs (l.set t x) := by
  subst hy; simp [zs, List.map_set]
theorem IHolds.at {w : World} {b : Nat} {t : TypeId} {l : List Nat} (h : IHolds w b t (zs l)) (i : Nat) (hi : i < l.length) : w.cell? ⟨b, i, none⟩ = some (I l[i]) := by
  rw [h.cell i (by rw [zs_length]; exact hi)]; simp [zs]
theorem trim_at (w : World) (b cap k : Nat) (T : TypeId) (l : List Nat) (h : IHolds w b T (zs l)) (hk : l.length = k) (hc : k ≤ cap) (hl : ∀ d ∈ l, d < 10) (hn : cap ≤ 9223372036854775807) :
    Calls Tryd.prog 60 #[.slice (some ⟨b, 0, none⟩) k cap] w fun e w' => (∃ v, e = .returned v ∧ NumV w 10 (vl 10 l) v) ∧ w' = w := by
  subst hk
  have hr : Row w (some ⟨b, 0, none⟩) l := IHolds.row (pre := []) (post := []) (by rw [List.nil_append, List.append_nil]; exact h)
  exact trim_any 10 ten w _ l cap hr hc hl hn

set_option maxRecDepth 100000 in
set_option maxHeartbeats 2000000 in
theorem refMul_any (w : World) (a1 a2 : Option Addr) (cap1 cap2 n m : Nat) (h1 : Row w a1 (dg 10 n)) (h2 : Row w a2 (dg 10 m)) (b1 : (dg 10 n).length ≤ 1000000) (b2 : (dg 10 m).length ≤ 1000000) :
    Calls Tryd.prog 47 #[.slice a1 (dg 10 n).length cap1, .slice a2 (dg 10 m).length cap2] w fun e w' => (∃ v, e = .returned v ∧ NumV w' 10 (n * m) v) ∧ Below w.heap.size w w' := by
  have HV1 : Hid (vl 10 (dg 10 n) = n) := vl_dg ten n
  have HV2 : Hid (vl 10 (dg 10 m) = m) := vl_dg ten m
  have HD1 : Hid (∀ d ∈ dg 10 n, d < 10) := dg_mem ten n
  have HD2 : Hid (∀ d ∈ dg 10 m, d < 10) := dg_mem ten m
  generalize dg 10 n = l1 at *
  generalize dg 10 m = l2 at *
  have H1 : Hid (Row w a1 l1) := h1
  have H2 : Hid (Row w a2 l2) := h2
  clear h1 h2
  obtain ⟨K, hK, hmk⟩ : ∃ K : Nat, K = l1.length + l2.length ∧ ∀ w, (Instr.makeSlice 44 (.int .i64 ((l1.length : Int) + (l2.length : Int))) (.int .i64 ((l1.length : Int) + (l2.length : Int)))).run Tryd.prog w = .ok (.slice (some ⟨w.heap.size, 0, none⟩) K K) (w.alloc (.cells (zs (List.replicate K 0)).toArray 3)) :=
    ⟨l1.length + l2.length, rfl, fun w => makeNat _ _ (by push_cast; rfl) (by omega) w⟩
  have HK : Hid (K = l1.length + l2.length) := hK
  have hk1 : K ≤ 2000000 := by omega
  clear hK
  go_enter Tryd.func47, Tryd.ntmps47
  go_wp2_with fail
  have q1 : Hid (IHolds (w.alloc (.cells (zs (List.replicate K 0)).toArray 3)) w.heap.size 3 (zs (List.replicate K 0))) := IHolds.new w 3 _
  have q2 : Hid (Below w.heap.size w (w.alloc (.cells (zs (List.replicate K 0)).toArray 3))) := (Below.refl _ w).alloc (Nat.le_refl _) _
  clear hmk
  generalize w.alloc (.cells (zs (List.replicate K 0)).toArray 3) = W0 at *
  go_loopg [6] l1.length (fun gk v6 wr => ∃ (i : Nat) (P : List Nat), i + gk = l1.length ∧ v6 = .int .i64 (i : Int) ∧ P.length = K ∧ (∀ d ∈ P, d < 10) ∧ vl 10 P = vl 10 (l1.take i) * m ∧ (∀ t, i + l2.length ≤ t → P.getD t 0 = 0) ∧ IHolds wr w.heap.size 3 (zs P) ∧ Below w.heap.size w wr)
  case atStart => exact ⟨0, List.replicate K 0, by omega, rfl, by simp, fun d hd => by have := List.eq_of_mem_replicate hd; omega, by rw [vl_zeros]; simp [vl], (fun t _ => by simp [List.getD_eq_getElem?_getD, List.getElem?_replicate]; split <;> rfl), q1.out, q2.out⟩
  case round =>
    obtain ⟨i, P, hi, rfl, hPl, hPd, hPv, hPz, hPI, hPB⟩ := hrel
    clear q1 q2
    generalize gk = G at *
    by_cases hlt : i < l1.length
    · have il : (i : Int) < (l1.length : Int) := by omega
      have hKe := HK.out
      have hiK : i + l2.length < K := by omega
      obtain ⟨k1, o1, ha1, _⟩ := H1.out i hlt
      subst ha1
      have hu : l1[i] < 10 := HD1.out _ (List.getElem_mem _)
      have HVS : Hid (vl 10 (l1.take (i + 1)) = vl 10 (l1.take i) + 10 ^ i * l1[i]) := by
        have e := vl_take_succ 10 l1 i
        rw [List.getD_eq_getElem?_getD, List.getElem?_eq_getElem hlt] at e
        exact e
      have HC1 : Hid (∀ wq, Below w.heap.size w wq → wq.cell? ⟨k1, o1 + i, none⟩ = some (I l1[i])) := fun wq hq => by
        obtain ⟨k, o, ha, hc⟩ := H1.out.of_below hq i hlt
        simp only [Option.some.injEq, Addr.mk.injEq, and_true] at ha
        obtain ⟨rfl, rfl⟩ := ha
        exact hc
      have HPz : Hid (∀ t, i + l2.length ≤ t → P.getD t 0 = 0) := hPz
      have HPv : Hid (vl 10 P = vl 10 (l1.take i) * m) := hPv
      have HPl : Hid (P.length = K) := hPl
      have HM0 : Hid (Mulr l2 P i l1[i] 0 P 0) := Mulr.zero _ _ _ _ hPd
      have HI0 : Hid (IHolds wr w.heap.size 3 (zs P)) := hPI
      have HB0 : Hid (Below w.heap.size w wr) := hPB
      clear hPl hPd hPv hPz hPI hPB hKe
      generalize l1[i] = u at *
      generalize wr = w0 at *
      go_wp2_with fail
      go_loopg [7, 8] l2.length (fun gk v7 v8 wr => ∃ (j up : Nat) (Q : List Nat), j + gk = l2.length ∧ v7 = .int .i64 (up : Int) ∧ v8 = .int .i64 (j : Int) ∧ Mulr l2 P i u j Q up ∧ IHolds wr w.heap.size 3 (zs Q) ∧ Below w.heap.size w wr)
      case atStart => exact ⟨0, 0, P, by omega, rfl, rfl, HM0.out, HI0.out, HB0.out⟩
      case round =>
        obtain ⟨j, up, Q, hj, rfl, rfl, hQ, hQI, hQB⟩ := hrel
        have hup := hQ.up9
        have hQl : Q.length = K := by rw [hQ.len, HPl.out]
        by_cases hjl : j < l2.length
        · have jl : (j : Int) < (l2.length : Int) := by omega
          have hjK : (i : Int) + (j : Int) < (K : Int) := by omega
          have hjQ : i + j < Q.length := by omega
          obtain ⟨k2, o2, rfl, c2⟩ := H2.out.of_below hQB j hjl
          have c1 := HC1.out wr hQB
          have c3 := hQI.at (i + j) hjQ
          have f3 : wr.frozen? ⟨w.heap.size, i + j, none⟩ = false := hQI.frozen _
          have g1 : Q[i + j] < 10 := hQ.low _ (List.getElem_mem _)
          have g2 : l2[j] < 10 := HD2.out _ (List.getElem_mem _)
          have HST : Hid (∀ X Y, X = (Q[i + j] + u * l2[j] + up) % 10 → Y = (Q[i + j] + u * l2[j] + up) / 10 → Mulr l2 P i u (j + 1) (Q.set (i + j) X) Y) := fun X Y hX hY => by rw [hX, hY]; exact hQ.step hjl hjQ hu HD2.out
          have HI : Hid (IHolds wr w.heap.size 3 (zs Q)) := hQI
          have HB : Hid (Below w.heap.size w wr) := hQB
          clear hQ hQI hQB
          generalize Q[i + j] = x at *
          generalize l2[j] = y at *
          have gm : u * y ≤ 81 := Nat.mul_le_mul (show u ≤ 9 by omega) (show y ≤ 9 by omega)
          obtain ⟨z, hz⟩ : ∃ z, z = u * y := ⟨_, rfl⟩
          have ez : (u : Int) * (y : Int) = (z : Int) := by rw [hz]; push_cast; rfl
          rw [← hz] at HST gm
          clear hz
          obtain ⟨X, hX⟩ : ∃ X : Nat, X = (x + z + up) % 10 := ⟨_, rfl⟩
          obtain ⟨Y, hY⟩ : ∃ Y : Nat, Y = (x + z + up) / 10 := ⟨_, rfl⟩
          have HMX : Hid (Mulr l2 P i u (j + 1) (Q.set (i + j) X) Y) := HST.out X Y hX hY
          have eX : ((x : Int) + (z : Int) + (up : Int)) % 10 = (X : Int) := by omega
          have eY : ((x : Int) + (z : Int) + (up : Int)) / 10 = (Y : Int) := by omega
          have hX9 : X ≤ 9 := by omega
          have et : ((i : Int) + (j : Int)).toNat = i + j := by omega
          clear hX hY HST
          go_wp2_with fail
          go_quiet (fail)
          have HI2 : Hid (IHolds ((wr.drewN nq).setCell ⟨w.heap.size, i + j, none⟩ (.int .i64 (X : Int))) w.heap.size 3 (zs (Q.set (i + j) X))) := by
            have := (HI.out.drewN nq).set (i + j) (.int .i64 (X : Int))
            rw [zs_set Q (i + j) X _ rfl] at this
            exact this
          have HB2 : Hid (Below w.heap.size w ((wr.drewN nq).setCell ⟨w.heap.size, i + j, none⟩ (.int .i64 (X : Int)))) := (Below.setCell (w := wr.drewN nq) ⟨HB.out.os, HB.out.tape, HB.out.output, HB.out.size, HB.out.block⟩ (Nat.le_refl _) _)
          go_wp2_with fail
          go_roundg (gk - 1)
          case measure => omega
          case rel => exact ⟨j + 1, Y, Q.set (i + j) X, by omega, by go_num, by go_num, HMX.out, HI2.out, HB2.out⟩
        · obtain rfl : j = l2.length := by omega
          have hQi : i + l2.length < Q.length := by omega
          obtain ⟨d1, d2, d3, d4⟩ := hQ.done hQi HPz.out HPv.out HV2.out
          have c3 := hQI.at (i + l2.length) hQi
          have f3 : wr.frozen? ⟨w.heap.size, i + l2.length, none⟩ = false := hQI.frozen _
          have E1 : Hid (vl 10 (Q.set (i + l2.length) up) = vl 10 (l1.take (i + 1)) * m) := by show _ = _; rw [HVS.out]; exact d1
          have E2 : Hid (∀ d ∈ Q.set (i + l2.length) up, d < 10) := d2
          have E3 : Hid ((Q.set (i + l2.length) up).length = K) := by show _ = _; rw [d3, HPl.out]
          have E4 : Hid (∀ t, i + 1 + l2.length ≤ t → (Q.set (i + l2.length) up).getD t 0 = 0) := d4
          have E5 : Hid (IHolds (wr.setCell ⟨w.heap.size, i + l2.length, none⟩ (.int .i64 (up : Int))) w.heap.size 3 (zs (Q.set (i + l2.length) up))) := by
            have := hQI.set (i + l2.length) (.int .i64 (up : Int))
            rw [zs_set Q (i + l2.length) up _ rfl] at this
            exact this
          have E6 : Hid (Below w.heap.size w (wr.setCell ⟨w.heap.size, i + l2.length, none⟩ (.int .i64 (up : Int)))) := hQB.setCell (Nat.le_refl _) _
          have et : ((i : Int) + (l2.length : Int)).toNat = i + l2.length := by omega
          have hjK : (i : Int) + (l2.length : Int) < (K : Int) := by omega
          generalize Q[i + l2.length] = x at *
          clear d1 d2 d3 d4 hQ hQI hQB hQl
          go_wp2_with fail
          go_roundg (G - 1)
          case measure => omega
          case rel => exact ⟨i + 1, Q.set (i + l2.length) up, by omega, by go_num, E3.out, E2.out, E1.out, E4.out, E5.out, E6.out⟩
    · obtain rfl : i = l1.length := by omega
      rw [List.take_length, HV1.out] at hPv
      have HP1 : Hid (vl 10 P = n * m) := hPv
      have HP2 : Hid (∀ d ∈ P, d < 10) := hPd
      have HP3 : Hid (IHolds wr w.heap.size 3 (zs P)) := hPI
      have HP4 : Hid (Below w.heap.size w wr) := hPB
      have HP5 : Hid (P.length = K) := hPl
      clear hPv hPd hPI hPB hPl hPz
      go_wp2_with fail
      refine (trim_at wr w.heap.size K K 3 P HP3.out HP5.out (Nat.le_refl _) HP2.out (by omega)).mono ?_
      rintro e W3 ⟨⟨v, rfl, hv⟩, rfl⟩
      rw [HP1.out] at hv
      have HVV : Hid (NumV W3 10 (n * m) v) := hv
      clear hv
      go_wp2_with fail
      go_ret
      exact ⟨⟨_, rfl, HVV.out⟩, HP4.out⟩
end Go.Proofs.YtflabehlaiocaaaDoor

