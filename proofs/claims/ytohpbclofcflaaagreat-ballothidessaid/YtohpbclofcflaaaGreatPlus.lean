/- The reference's Of, Plus, two. -/
import Derived.Test.YtohpbclofcflaaaGreatNum
set_option linter.unusedSimpArgs false
set_option linter.unusedVariables false
namespace Go.Proofs.YtohpbclofcflaaaGreat
open Go.RowKit Go.Deep Go.PlainAid

set_option maxRecDepth 100000 in
set_option maxHeartbeats 1000000 in
theorem of_any (w : World) (n : Nat) (hn : n ≤ 9223372036854775807) :
    Calls Tryz.prog 24 #[.int .i64 (n : Int)] w fun e w' => (∃ v, e = .returned v ∧ NumV w' 65536 n v) ∧ Below w.heap.size w w' := by
  obtain ⟨i0, hi0, hz0, hz1, hz2⟩ := info_parts Tryz.info3
  have LN : (dg 65536 n).length ≤ 4 := dg_len_le b16 4 n (by omega)
  go_enter Tryz.func24, Tryz.ntmps24
  go_wp2_with fail
  go_loopg [0, 3] n (fun gk v0 v3 wr => ∃ (D : List Nat) (v : Value), v0 = .int .i64 (gk : Int) ∧ v = v3 ∧ gk ≤ 9223372036854775807 ∧ D ++ dg 65536 gk = dg 65536 n ∧ wr.ownsRow w.heap.size 3 1 v D.length (zs D) ∧ Below w.heap.size w wr)
  case atStart => exact ⟨[], _, rfl, rfl, hn, rfl, World.ownsRow_nil _ _ _ _, Below.refl _ _⟩
  case round =>
    obtain ⟨D, v, rfl, rfl, hk, hD, ho, hB⟩ := hrel
    have HDD : Hid (D ++ dg 65536 gk = dg 65536 n) := hD
    have HO : Hid (wr.ownsRow w.heap.size 3 1 v D.length (zs D)) := ho
    have HB : Hid (Below w.heap.size w wr) := hB
    have HL : D.length ≤ 4 := by
      have := congrArg List.length hD
      rw [List.length_append] at this
      omega
    clear hD ho hB
    generalize gk = x at *
    by_cases h0 : x = 0
    · subst h0
      have hDe : D = dg 65536 n := by
        have := HDD.out
        rw [dg_zero, List.append_nil] at this
        exact this
      have HR : Hid (NumV wr 65536 n v) := by
        obtain ⟨a, cap, e1, g1, g2, g3⟩ := Row.of_owned HO.out
        rw [hDe] at e1 g1 g3
        exact ⟨a, cap, e1, g1, g3⟩
      clear HDD HO hDe
      go_wp2_with fail
      go_ret
      exact ⟨⟨_, rfl, HR.out⟩, HB.out⟩
    · have hx0 : (0 : Int) < (x : Int) := by omega
      have HE : Hid (D ++ [x % 65536] ++ dg 65536 (x / 65536) = dg 65536 n) := by
        show _ = _
        rw [← HDD.out, dg_pos b16 h0, List.append_assoc]; rfl
      have HM : Hid (x / 65536 < x) := Nat.div_lt_self (by omega) (by omega)
      have HK : Hid (x / 65536 ≤ 9223372036854775807) := by show _ ≤ _; omega
      have kr : (x : Int).tmod 65536 = ((x % 65536 : Nat) : Int) := by rw [Int.tmod_eq_emod_of_nonneg (by omega)]; omega
      have kr2 : (x : Int) % 65536 = ((x % 65536 : Nat) : Int) := by omega
      have kq : (x : Int) / 65536 = ((x / 65536 : Nat) : Int) := by omega
      have kq2 : (x : Int).tdiv 65536 = ((x / 65536 : Nat) : Int) := by rw [Int.tdiv_eq_ediv_of_nonneg (by omega)]; omega
      have y10 : x % 65536 < 65536 := by omega
      have q10 : x / 65536 ≤ 9223372036854775807 := by omega
      generalize x % 65536 = y at *
      generalize x / 65536 = q at *
      have HO2 : Hid ((wr.alloc (.cells #[.int .i64 (y : Int)] 3)).ownsRow w.heap.size 3 1 v D.length (zs D)) := HO.out.alloc _
      have HC2 : Hid (∀ jj u, [I y][jj]? = some u → (wr.alloc (.cells #[.int .i64 (y : Int)] 3)).cell? ((⟨wr.heap.size, 0, none⟩ : Addr).add jj) = some u) := fun jj u hu => by
        match jj, hu with
        | 0, hu => simp at hu; subst hu; simp [Addr.add]
      have HB2 : Hid (Below w.heap.size w (wr.alloc (.cells #[.int .i64 (y : Int)] 3))) := HB.out.alloc HB.out.size _
      clear HDD
      go_wp2_with (at_builtin; refine wpList_append_own _ rfl (.tmp 6) (.tmp 9) 40 rfl w.heap.size 3 i0 (.int .i64 0) 1 8 Tryz.underlying40 hi0 hz0 hz1 hz2 rfl (by decide) v D.length (zs D) rfl HO2.out ⟨wr.heap.size, 0, none⟩ 1 1 [I y] rfl rfl HC2.out (fun u hu => by simp at hu; subst hu; rfl) (by unfold maxLen; omega) (by omega) HB2.out.size ?_; intro v1 w1 hown1 hgrow1 hn1; have HO3 : Hid (w1.ownsRow w.heap.size 3 1 v1 (D.length + 1) (zs D ++ [I y])) := hown1; have HG3 : Hid (Below w.heap.size w w1) := HB2.out.grown hgrow1 HB2.out.size (fun k hk => (HO2.out.lt k hk).1); clear hown1 hgrow1 hn1)
      go_roundg q
      case measure => exact HM.out
      case rel => exact ⟨D ++ [y], _, by go_num, rfl, HK.out, HE.out, by rw [zs_append, List.length_append]; exact HO3.out, HG3.out⟩
/-- i digits of a sum: what is laid, and what goes on. -/
structure Adds (a b : List Nat) (i : Nat) (D : List Nat) (up : Nat) : Prop where
  len : D.length = i
  low : ∀ d ∈ D, d < 65536
  up1 : up ≤ 1
  eq : vl 65536 D + 65536 ^ i * up = vl 65536 (a.take i) + vl 65536 (b.take i)
theorem Adds.step {a b : List Nat} {i : Nat} {D : List Nat} {up : Nat} (h : Adds a b i D up) (ha : ∀ d ∈ a, d < 65536) (hb : ∀ d ∈ b, d < 65536) :
    Adds a b (i + 1) (D ++ [(up + a.getD i 0 + b.getD i 0) % 65536]) ((up + a.getD i 0 + b.getD i 0) / 65536) := by
  have g1 := getD_lt ha i
  have g2 := getD_lt hb i
  have h1 := h.up1
  refine ⟨by simp [h.len], ?_, by omega, ?_⟩
  · intro d hd
    rcases List.mem_append.1 hd with hd | hd
    · exact h.low d hd
    · simp at hd; omega
  · rw [vl_snoc, h.len, vl_take_succ, vl_take_succ]
    have e := h.eq
    have hs : up + a.getD i 0 + b.getD i 0 = (up + a.getD i 0 + b.getD i 0) % 65536 + 65536 * ((up + a.getD i 0 + b.getD i 0) / 65536) := (Nat.mod_add_div _ 65536).symm
    generalize (up + a.getD i 0 + b.getD i 0) % 65536 = r at *
    generalize (up + a.getD i 0 + b.getD i 0) / 65536 = q at *
    generalize a.getD i 0 = x at *
    generalize b.getD i 0 = y at *
    have hp : (65536 : Nat) ^ (i + 1) = 65536 ^ i * 65536 := Nat.pow_succ _ _
    rw [hp]
    have hs2 : 65536 ^ i * (up + x + y) = 65536 ^ i * (r + 65536 * q) := by rw [hs]
    generalize 65536 ^ i = P at *
    grind
theorem vl_take_all {l : List Nat} {i : Nat} (h : l.length ≤ i) : vl 65536 (l.take i) = vl 65536 l := by rw [List.take_of_length_le h]
set_option maxRecDepth 100000 in
set_option maxHeartbeats 4000000 in
theorem plus_any (w : World) (a1 a2 : Option Addr) (cap1 cap2 n m : Nat) (h1 : Row w a1 (dg 65536 n)) (h2 : Row w a2 (dg 65536 m)) (b1 : (dg 65536 n).length ≤ 1000000) (b2 : (dg 65536 m).length ≤ 1000000) :
    Calls Tryz.prog 38 #[.slice a1 (dg 65536 n).length cap1, .slice a2 (dg 65536 m).length cap2] w fun e w' => (∃ v, e = .returned v ∧ NumV w' 65536 (n + m) v) ∧ Below w.heap.size w w' := by
  have HV1 : Hid (vl 65536 (dg 65536 n) = n) := vl_dg b16 n
  have HV2 : Hid (vl 65536 (dg 65536 m) = m) := vl_dg b16 m
  have HD1 : Hid (∀ d ∈ dg 65536 n, d < 65536) := dg_mem b16 n
  have HD2 : Hid (∀ d ∈ dg 65536 m, d < 65536) := dg_mem b16 m
  generalize dg 65536 n = l1 at *
  generalize dg 65536 m = l2 at *
  have H1 : Hid (Row w a1 l1) := h1
  have H2 : Hid (Row w a2 l2) := h2
  clear h1 h2
  obtain ⟨i0, hi0, hz0, hz1, hz2⟩ := info_parts Tryz.info3
  go_enter Tryz.func38, Tryz.ntmps38
  go_wp2_with fail
  go_loopg [5, 6, 7] (l1.length + l2.length + 2) (fun gk v5 v6 v7 wr => ∃ (i up : Nat) (D : List Nat) (v : Value), i + gk = l1.length + l2.length + 2 ∧ v = v5 ∧ v6 = .int .i64 (up : Int) ∧ v7 = .int .i64 (i : Int) ∧ (i ≤ l1.length ∨ i ≤ l2.length ∨ up = 0) ∧ i ≤ l1.length + l2.length + 1 ∧ Adds l1 l2 i D up ∧ wr.ownsRow w.heap.size 3 1 v i (zs D) ∧ Below w.heap.size w wr)
  case atStart => exact ⟨0, 0, [], _, by omega, rfl, rfl, rfl, by omega, by omega, ⟨rfl, by simp, by omega, by simp [vl]⟩, World.ownsRow_nil _ _ _ _, Below.refl _ _⟩
  case round =>
    obtain ⟨i, up, D, v, hi, rfl, rfl, rfl, hor, hil, hS, ho, hB⟩ := hrel
    have HO : Hid (wr.ownsRow w.heap.size 3 1 v i (zs D)) := ho
    have HB : Hid (Below w.heap.size w wr) := hB
    have HS : Hid (Adds l1 l2 i D up) := hS
    have hup := hS.up1
    have R1 : Hid (Row wr a1 l1) := H1.out.of_below hB
    have R2 : Hid (Row wr a2 l2) := H2.out.of_below hB
    have HST : Hid (∀ X Y, X = (up + l1.getD i 0 + l2.getD i 0) % 65536 → Y = (up + l1.getD i 0 + l2.getD i 0) / 65536 → Adds l1 l2 (i + 1) (D ++ [X]) Y) := fun X Y hX hY => by rw [hX, hY]; exact hS.step HD1.out HD2.out
    have g1 := getD_lt HD1.out i
    have g2 := getD_lt HD2.out i
    have Z1 : l1.length ≤ i → l1.getD i 0 = 0 := fun h => by rw [List.getD_eq_getElem?_getD, List.getElem?_eq_none h]; rfl
    have Z2 : l2.length ≤ i → l2.getD i 0 = 0 := fun h => by rw [List.getD_eq_getElem?_getD, List.getElem?_eq_none h]; rfl
    clear ho hB hS
    rcases Nat.lt_or_ge i l1.length with h1 | h1 <;> rcases Nat.lt_or_ge i l2.length with h2 | h2
    · have c1' : (i : Int) < (l1.length : Int) := by omega
      have c2' : (i : Int) < (l2.length : Int) := by omega
      obtain ⟨k1, o1, ha1, cc1⟩ := R1.out i h1
      subst ha1
      have e1 : l1.getD i 0 = l1[i] := by rw [List.getD_eq_getElem?_getD, List.getElem?_eq_getElem h1]; rfl
      rw [e1] at HST g1
      clear e1 Z1
      generalize l1[i] = x1 at *
      obtain ⟨k2, o2, ha2, cc2⟩ := R2.out i h2
      subst ha2
      have e2 : l2.getD i 0 = l2[i] := by rw [List.getD_eq_getElem?_getD, List.getElem?_eq_getElem h2]; rfl
      rw [e2] at HST g2
      clear e2 Z2
      generalize l2[i] = x2 at *
      obtain ⟨X, hX⟩ : ∃ X : Nat, X = (up + x1 + x2) % 65536 := ⟨_, rfl⟩
      obtain ⟨Y, hY⟩ : ∃ Y : Nat, Y = (up + x1 + x2) / 65536 := ⟨_, rfl⟩
      have eX : ((up : Int) + (x1 : Int) + (x2 : Int)) % 65536 = (X : Int) := by omega
      have eY : ((up : Int) + (x1 : Int) + (x2 : Int)) / 65536 = (Y : Int) := by omega
      have HSX : Hid (Adds l1 l2 (i + 1) (D ++ [X]) Y) := HST.out X Y hX hY
      have HOR : Hid (i + 1 ≤ l1.length ∨ i + 1 ≤ l2.length ∨ Y = 0) := by show _ ∨ _; omega
      have hX9 : X ≤ 65535 := by omega
      clear hX hY HST
      have HO2 : Hid ((wr.alloc (.cells #[.int .i64 (X : Int)] 3)).ownsRow w.heap.size 3 1 v i (zs D)) := HO.out.alloc _
      have HC2 : Hid (∀ jj u, [I X][jj]? = some u → (wr.alloc (.cells #[.int .i64 (X : Int)] 3)).cell? ((⟨wr.heap.size, 0, none⟩ : Addr).add jj) = some u) := fun jj u hu => by
        match jj, hu with
        | 0, hu => simp at hu; subst hu; simp [Addr.add]
      have HB2 : Hid (Below w.heap.size w (wr.alloc (.cells #[.int .i64 (X : Int)] 3))) := HB.out.alloc HB.out.size _
      go_wp2_with (first | (at_builtin; refine wpList_append_own _ rfl (.tmp 44) (.tmp 47) 40 rfl w.heap.size 3 i0 (.int .i64 0) 1 8 Tryz.underlying40 hi0 hz0 hz1 hz2 rfl (by decide) v i (zs D) rfl HO2.out ⟨wr.heap.size, 0, none⟩ 1 1 [I X] rfl rfl HC2.out (fun u hu => by simp at hu; subst hu; rfl) (by unfold maxLen; omega) (by omega) HB2.out.size ?_; intro v1 w1 hown1 hgrow1 hn1; have HO3 : Hid (w1.ownsRow w.heap.size 3 1 v1 (i + 1) (zs D ++ [I X])) := hown1; have HG3 : Hid (Below w.heap.size w w1) := HB2.out.grown hgrow1 HB2.out.size (fun k hk => (HO2.out.lt k hk).1); clear hown1 hgrow1 hn1) | fail)
      go_roundg (gk - 1)
      case measure => omega
      case rel => exact ⟨i + 1, Y, D ++ [X], _, by omega, rfl, by go_num, by go_num, HOR.out, by omega, HSX.out, by rw [zs_append]; exact HO3.out, HG3.out⟩
    · have c1' : (i : Int) < (l1.length : Int) := by omega
      have c2' : ¬ (i : Int) < (l2.length : Int) := by omega
      have c2d : decide ((i : Int) < (l2.length : Int)) = false := decide_eq_false c2'
      obtain ⟨k1, o1, ha1, cc1⟩ := R1.out i h1
      subst ha1
      have e1 : l1.getD i 0 = l1[i] := by rw [List.getD_eq_getElem?_getD, List.getElem?_eq_getElem h1]; rfl
      rw [e1] at HST g1
      clear e1 Z1
      generalize l1[i] = x1 at *
      rw [Z2 (by omega)] at HST g2
      clear Z2
      obtain ⟨X, hX⟩ : ∃ X : Nat, X = (up + x1 + 0) % 65536 := ⟨_, rfl⟩
      obtain ⟨Y, hY⟩ : ∃ Y : Nat, Y = (up + x1 + 0) / 65536 := ⟨_, rfl⟩
      have eX : ((up : Int) + (x1 : Int)) % 65536 = (X : Int) := by omega
      have eY : ((up : Int) + (x1 : Int)) / 65536 = (Y : Int) := by omega
      have HSX : Hid (Adds l1 l2 (i + 1) (D ++ [X]) Y) := HST.out X Y hX hY
      have HOR : Hid (i + 1 ≤ l1.length ∨ i + 1 ≤ l2.length ∨ Y = 0) := by show _ ∨ _; omega
      have hX9 : X ≤ 65535 := by omega
      clear hX hY HST
      have HO2 : Hid ((wr.alloc (.cells #[.int .i64 (X : Int)] 3)).ownsRow w.heap.size 3 1 v i (zs D)) := HO.out.alloc _
      have HC2 : Hid (∀ jj u, [I X][jj]? = some u → (wr.alloc (.cells #[.int .i64 (X : Int)] 3)).cell? ((⟨wr.heap.size, 0, none⟩ : Addr).add jj) = some u) := fun jj u hu => by
        match jj, hu with
        | 0, hu => simp at hu; subst hu; simp [Addr.add]
      have HB2 : Hid (Below w.heap.size w (wr.alloc (.cells #[.int .i64 (X : Int)] 3))) := HB.out.alloc HB.out.size _
      go_wp2_with (first | (at_builtin; refine wpList_append_own _ rfl (.tmp 44) (.tmp 47) 40 rfl w.heap.size 3 i0 (.int .i64 0) 1 8 Tryz.underlying40 hi0 hz0 hz1 hz2 rfl (by decide) v i (zs D) rfl HO2.out ⟨wr.heap.size, 0, none⟩ 1 1 [I X] rfl rfl HC2.out (fun u hu => by simp at hu; subst hu; rfl) (by unfold maxLen; omega) (by omega) HB2.out.size ?_; intro v1 w1 hown1 hgrow1 hn1; have HO3 : Hid (w1.ownsRow w.heap.size 3 1 v1 (i + 1) (zs D ++ [I X])) := hown1; have HG3 : Hid (Below w.heap.size w w1) := HB2.out.grown hgrow1 HB2.out.size (fun k hk => (HO2.out.lt k hk).1); clear hown1 hgrow1 hn1) | fail)
      go_roundg (gk - 1)
      case measure => omega
      case rel => exact ⟨i + 1, Y, D ++ [X], _, by omega, rfl, by go_num, by go_num, HOR.out, by omega, HSX.out, by rw [zs_append]; exact HO3.out, HG3.out⟩
    · have c1' : ¬ (i : Int) < (l1.length : Int) := by omega
      have c1d : decide ((i : Int) < (l1.length : Int)) = false := decide_eq_false c1'
      have c2' : (i : Int) < (l2.length : Int) := by omega
      rw [Z1 (by omega)] at HST g1
      clear Z1
      obtain ⟨k2, o2, ha2, cc2⟩ := R2.out i h2
      subst ha2
      have e2 : l2.getD i 0 = l2[i] := by rw [List.getD_eq_getElem?_getD, List.getElem?_eq_getElem h2]; rfl
      rw [e2] at HST g2
      clear e2 Z2
      generalize l2[i] = x2 at *
      obtain ⟨X, hX⟩ : ∃ X : Nat, X = (up + 0 + x2) % 65536 := ⟨_, rfl⟩
      obtain ⟨Y, hY⟩ : ∃ Y : Nat, Y = (up + 0 + x2) / 65536 := ⟨_, rfl⟩
      have eX : ((up : Int) + (x2 : Int)) % 65536 = (X : Int) := by omega
      have eY : ((up : Int) + (x2 : Int)) / 65536 = (Y : Int) := by omega
      have HSX : Hid (Adds l1 l2 (i + 1) (D ++ [X]) Y) := HST.out X Y hX hY
      have HOR : Hid (i + 1 ≤ l1.length ∨ i + 1 ≤ l2.length ∨ Y = 0) := by show _ ∨ _; omega
      have hX9 : X ≤ 65535 := by omega
      clear hX hY HST
      have HO2 : Hid ((wr.alloc (.cells #[.int .i64 (X : Int)] 3)).ownsRow w.heap.size 3 1 v i (zs D)) := HO.out.alloc _
      have HC2 : Hid (∀ jj u, [I X][jj]? = some u → (wr.alloc (.cells #[.int .i64 (X : Int)] 3)).cell? ((⟨wr.heap.size, 0, none⟩ : Addr).add jj) = some u) := fun jj u hu => by
        match jj, hu with
        | 0, hu => simp at hu; subst hu; simp [Addr.add]
      have HB2 : Hid (Below w.heap.size w (wr.alloc (.cells #[.int .i64 (X : Int)] 3))) := HB.out.alloc HB.out.size _
      go_wp2_with (first | (at_builtin; refine wpList_append_own _ rfl (.tmp 44) (.tmp 47) 40 rfl w.heap.size 3 i0 (.int .i64 0) 1 8 Tryz.underlying40 hi0 hz0 hz1 hz2 rfl (by decide) v i (zs D) rfl HO2.out ⟨wr.heap.size, 0, none⟩ 1 1 [I X] rfl rfl HC2.out (fun u hu => by simp at hu; subst hu; rfl) (by unfold maxLen; omega) (by omega) HB2.out.size ?_; intro v1 w1 hown1 hgrow1 hn1; have HO3 : Hid (w1.ownsRow w.heap.size 3 1 v1 (i + 1) (zs D ++ [I X])) := hown1; have HG3 : Hid (Below w.heap.size w w1) := HB2.out.grown hgrow1 HB2.out.size (fun k hk => (HO2.out.lt k hk).1); clear hown1 hgrow1 hn1) | fail)
      go_roundg (gk - 1)
      case measure => omega
      case rel => exact ⟨i + 1, Y, D ++ [X], _, by omega, rfl, by go_num, by go_num, HOR.out, by omega, HSX.out, by rw [zs_append]; exact HO3.out, HG3.out⟩
    rcases Nat.lt_or_ge 0 up with h3 | h3
    · have c1' : ¬ (i : Int) < (l1.length : Int) := by omega
      have c1d : decide ((i : Int) < (l1.length : Int)) = false := decide_eq_false c1'
      have c2' : ¬ (i : Int) < (l2.length : Int) := by omega
      have c2d : decide ((i : Int) < (l2.length : Int)) = false := decide_eq_false c2'
      have c3' : (0 : Int) < (up : Int) := by omega
      rw [Z1 (by omega)] at HST g1
      clear Z1
      rw [Z2 (by omega)] at HST g2
      clear Z2
      obtain ⟨X, hX⟩ : ∃ X : Nat, X = (up + 0 + 0) % 65536 := ⟨_, rfl⟩
      obtain ⟨Y, hY⟩ : ∃ Y : Nat, Y = (up + 0 + 0) / 65536 := ⟨_, rfl⟩
      have eX : ((up : Int)) % 65536 = (X : Int) := by omega
      have eY : ((up : Int)) / 65536 = (Y : Int) := by omega
      have HSX : Hid (Adds l1 l2 (i + 1) (D ++ [X]) Y) := HST.out X Y hX hY
      have HOR : Hid (i + 1 ≤ l1.length ∨ i + 1 ≤ l2.length ∨ Y = 0) := by show _ ∨ _; omega
      have hX9 : X ≤ 65535 := by omega
      clear hX hY HST
      have HO2 : Hid ((wr.alloc (.cells #[.int .i64 (X : Int)] 3)).ownsRow w.heap.size 3 1 v i (zs D)) := HO.out.alloc _
      have HC2 : Hid (∀ jj u, [I X][jj]? = some u → (wr.alloc (.cells #[.int .i64 (X : Int)] 3)).cell? ((⟨wr.heap.size, 0, none⟩ : Addr).add jj) = some u) := fun jj u hu => by
        match jj, hu with
        | 0, hu => simp at hu; subst hu; simp [Addr.add]
      have HB2 : Hid (Below w.heap.size w (wr.alloc (.cells #[.int .i64 (X : Int)] 3))) := HB.out.alloc HB.out.size _
      go_wp2_with (first | (at_builtin; refine wpList_append_own _ rfl (.tmp 44) (.tmp 47) 40 rfl w.heap.size 3 i0 (.int .i64 0) 1 8 Tryz.underlying40 hi0 hz0 hz1 hz2 rfl (by decide) v i (zs D) rfl HO2.out ⟨wr.heap.size, 0, none⟩ 1 1 [I X] rfl rfl HC2.out (fun u hu => by simp at hu; subst hu; rfl) (by unfold maxLen; omega) (by omega) HB2.out.size ?_; intro v1 w1 hown1 hgrow1 hn1; have HO3 : Hid (w1.ownsRow w.heap.size 3 1 v1 (i + 1) (zs D ++ [I X])) := hown1; have HG3 : Hid (Below w.heap.size w w1) := HB2.out.grown hgrow1 HB2.out.size (fun k hk => (HO2.out.lt k hk).1); clear hown1 hgrow1 hn1) | fail)
      go_roundg (gk - 1)
      case measure => omega
      case rel => exact ⟨i + 1, Y, D ++ [X], _, by omega, rfl, by go_num, by go_num, HOR.out, by omega, HSX.out, by rw [zs_append]; exact HO3.out, HG3.out⟩
    · have c1' : ¬ (i : Int) < (l1.length : Int) := by omega
      have c2' : ¬ (i : Int) < (l2.length : Int) := by omega
      have hu0 : up = 0 := by omega
      subst hu0
      have HE : Hid (vl 65536 D = n + m) := by
        have e := HS.out.eq
        rw [vl_take_all (by omega), vl_take_all (by omega), HV1.out, HV2.out] at e
        show _ = _
        omega
      have HDl : Hid (∀ d ∈ D, d < 65536) := HS.out.low
      have HLe : Hid (D.length = i) := HS.out.len
      clear HST Z1 Z2 g1 g2
      obtain ⟨a, cap, e1, q1, q2, q3⟩ := Row.of_owned HO.out
      subst e1
      have CT : Hid (Calls Tryz.prog 45 #[.slice a D.length cap] wr fun e w' => (∃ v, e = .returned v ∧ NumV wr 65536 (n + m) v) ∧ w' = wr) := by
        have := trim_any 65536 b16 wr a D cap q3 q1 HDl.out q2
        rw [HE.out] at this
        exact this
      clear HO q3 q1 q2 HS
      go_wp2_with fail
      refine CT.out.mono ?_
      rintro e w1 ⟨⟨u, rfl, hv⟩, rfl⟩
      have NU : Hid (NumV w1 65536 (n + m) u) := hv
      clear hv
      go_wp2_with fail
      go_ret
      exact ⟨⟨_, rfl, NU.out⟩, HB.out⟩
theorem plusV {W : World} {n m : Nat} {v1 v2 : Value} (h1 : NumV W 65536 n v1) (h2 : NumV W 65536 m v2) (b1 : (dg 65536 n).length ≤ 1000000) (b2 : (dg 65536 m).length ≤ 1000000) :
    Calls Tryz.prog 38 #[v1, v2] W fun e w' => (∃ v, e = .returned v ∧ NumV w' 65536 (n + m) v) ∧ Below W.heap.size W w' := by
  obtain ⟨a1, c1, rfl, k1, r1⟩ := h1
  obtain ⟨a2, c2, rfl, k2, r2⟩ := h2
  exact plus_any W a1 a2 c1 c2 n m r1 r2 b1 b2
theorem timesV {W : World} {n m : Nat} {v1 v2 : Value} (h1 : NumV W 65536 n v1) (h2 : NumV W 65536 m v2) (b1 : (dg 65536 n).length ≤ 1000000) (b2 : (dg 65536 m).length ≤ 1000000) :
    Calls Tryz.prog 40 #[v1, v2] W fun e w' => (∃ v, e = .returned v ∧ NumV w' 65536 (n * m) v) ∧ Below W.heap.size W w' := by
  obtain ⟨a1, c1, rfl, k1, r1⟩ := h1
  obtain ⟨a2, c2, rfl, k2, r2⟩ := h2
  exact refMul_any W a1 a2 c1 c2 n m r1 r2 b1 b2
set_option maxRecDepth 100000 in
set_option maxHeartbeats 1000000 in
theorem two_any (w : World) (k : Nat) (hk : k ≤ 1000) :
    Calls Tryz.prog 39 #[.int .i64 (k : Int)] w fun e w' => (∃ v, e = .returned v ∧ NumV w' 65536 (2 ^ k) v) ∧ Below w.heap.size w w' := by
  have C1 : Hid (∀ W, Calls Tryz.prog 24 #[.int .i64 1] W fun e w' => (∃ v, e = .returned v ∧ NumV w' 65536 1 v) ∧ Below W.heap.size W w') := fun W => of_any W 1 (by omega)
  have C2 : Hid (∀ W i v, i < k → NumV W 65536 (2 ^ i) v → Calls Tryz.prog 38 #[v, v] W fun e w' => (∃ v, e = .returned v ∧ NumV w' 65536 (2 ^ (i + 1)) v) ∧ Below W.heap.size W w') := fun W i v hi hv => by
    have hl : (dg 65536 (2 ^ i)).length ≤ i + 1 := dg_len_le b16 _ _ (Nat.lt_of_le_of_lt (Nat.pow_le_pow_left (show 2 ≤ 65536 by omega) i) (Nat.pow_lt_pow_right (by omega) (by omega)))
    have := plusV hv hv (by omega) (by omega)
    rw [show 2 ^ i + 2 ^ i = 2 ^ (i + 1) by rw [Nat.pow_succ]; omega] at this
    exact this
  go_enter Tryz.func39, Tryz.ntmps39
  go_wp2_with fail
  refine (C1.out w).mono ?_
  rintro e U1 ⟨⟨v, rfl, hv⟩, hb⟩
  have N1 : Hid (NumV U1 65536 (2 ^ 0) v) := hv
  have B1 : Hid (Below w.heap.size w U1) := hb
  clear hv hb
  go_wp2_with fail
  go_loopg [3, 4] k (fun gk v3 v4 wr => ∃ (i : Nat) (v : Value), i + gk = k ∧ v = v3 ∧ v4 = .int .i64 (i : Int) ∧ NumV wr 65536 (2 ^ i) v ∧ Below w.heap.size w wr)
  case atStart => exact ⟨0, _, by omega, rfl, rfl, N1.out, B1.out⟩
  case round =>
    obtain ⟨i, v, hi, rfl, rfl, hv, hb⟩ := hrel
    clear N1 B1
    have N1 : Hid (NumV wr 65536 (2 ^ i) v) := hv
    have B1 : Hid (Below w.heap.size w wr) := hb
    clear hv hb
    by_cases hlt : i < k
    · have c1 : (i : Int) < (k : Int) := by omega
      go_wp2_with fail
      refine (C2.out wr i v hlt N1.out).mono ?_
      rintro e U2 ⟨⟨u, rfl, hv⟩, hb⟩
      have N2 : Hid (NumV U2 65536 (2 ^ (i + 1)) u) := hv
      have B2 : Hid (Below w.heap.size w U2) := B1.out.trans (hb.mono B1.out.size)
      clear hv hb
      go_wp2_with fail
      go_roundg (gk - 1)
      case measure => omega
      case rel => exact ⟨i + 1, _, by omega, rfl, by go_num, N2.out, B2.out⟩
    · obtain rfl : i = k := by omega
      have c1 : ¬ (i : Int) < (i : Int) := by omega
      go_wp2_with fail
      go_ret
      exact ⟨⟨_, rfl, N1.out⟩, B1.out⟩
end Go.Proofs.YtohpbclofcflaaaGreat
