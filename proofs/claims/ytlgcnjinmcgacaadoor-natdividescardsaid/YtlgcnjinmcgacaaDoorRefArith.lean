/- The walks of the reference's Add, Sub, Mul. -/
import Derived.Test.YtlgcnjinmcgacaaDoorRefText
import Derived.Test.YtlgcnjinmcgacaaDoorRefPlain
import Derived.Test.YtlgcnjinmcgacaaDoorTimes
set_option linter.unusedSimpArgs false
set_option linter.unusedVariables false
namespace Go.Proofs.YtlgcnjinmcgacaaDoor
open Go.RowKit Go.Deep Go.PlainAid

theorem NumV.of_owned {w : World} {base B n : Nat} {v : Value} {e : TypeId} {k : Nat} (h : w.ownsRow base e 1 v k (zs (dg B n))) : NumV w B n v := by
  obtain ⟨a, cap, h1, h2, h3, h4⟩ := Row.of_owned h
  exact ⟨a, cap, h1, h2, h4⟩

set_option maxRecDepth 100000 in
set_option maxHeartbeats 2000000 in
theorem refAdd_any (w : World) (a1 a2 : Option Addr) (cap1 cap2 n m : Nat) (h1 : Row w a1 (dg 10 n)) (h2 : Row w a2 (dg 10 m)) (b1 : (dg 10 n).length ≤ 1000000) (b2 : (dg 10 m).length ≤ 1000000) :
    Calls Tryd.prog 14 #[.slice a1 (dg 10 n).length cap1, .slice a2 (dg 10 m).length cap2] w fun e w' => (∃ v, e = .returned v ∧ NumV w' 10 (n + m) v) ∧ Below w.heap.size w w' := by
  have KA : Hid (∀ i, i < (dg 10 n).length → 10 ^ i ≤ vl 10 (dg 10 n) + vl 10 (dg 10 m)) := fun i h => Sums.goes_a h
  have KB : Hid (∀ i, i < (dg 10 m).length → 10 ^ i ≤ vl 10 (dg 10 n) + vl 10 (dg 10 m)) := fun i h => Sums.goes_b h
  have KD : Hid (∀ i D, Sums (dg 10 n) (dg 10 m) i D 0 → (dg 10 n).length ≤ i → (dg 10 m).length ≤ i → D = dg 10 (n + m)) := fun i D h g1 g2 => h.done g1 g2
  have HD1 : Hid (∀ d ∈ dg 10 n, d < 10) := dg_mem ten n
  have HD2 : Hid (∀ d ∈ dg 10 m, d < 10) := dg_mem ten m
  generalize dg 10 n = l1 at *
  generalize dg 10 m = l2 at *
  have H1 : Hid (Row w a1 l1) := h1
  have H2 : Hid (Row w a2 l2) := h2
  clear h1 h2
  obtain ⟨i0, hi0, hz0, hz1, hz2⟩ := info_parts Tryd.info3
  go_enter Tryd.func14, Tryd.ntmps14
  go_wp2_with fail
  go_loopg [5, 6, 7] (l1.length + l2.length + 2) (fun gk v5 v6 v7 wr => ∃ (i up : Nat) (D : List Nat) (v : Value), i + gk = l1.length + l2.length + 2 ∧ v = v5 ∧ v6 = .int .i64 (up : Int) ∧ v7 = .int .i64 (i : Int) ∧ (i ≤ l1.length ∨ i ≤ l2.length ∨ up = 0) ∧ i ≤ l1.length + l2.length + 1 ∧ Sums l1 l2 i D up ∧ wr.ownsRow w.heap.size 3 1 v i (zs D) ∧ Below w.heap.size w wr)
  case atStart => exact ⟨0, 0, [], _, by omega, rfl, rfl, rfl, by omega, by omega, Sums.zero _ _, World.ownsRow_nil _ _ _ _, Below.refl _ _⟩
  case round =>
    obtain ⟨i, up, D, v, hi, rfl, rfl, rfl, hor, hil, hS, ho, hB⟩ := hrel
    have HO : Hid (wr.ownsRow w.heap.size 3 1 v i (zs D)) := ho
    have HB : Hid (Below w.heap.size w wr) := hB
    have HS : Hid (Sums l1 l2 i D up) := hS
    have hup := hS.up1
    have A1 : Hid (Calls Tryd.prog 54 #[.slice a1 l1.length cap1, .int .i64 (i : Int)] wr fun e w' => e = .returned (I (l1.getD i 0)) ∧ w' = wr) := at_any wr a1 l1 cap1 i (H1.out.of_below hB)
    have A2 : Hid (Calls Tryd.prog 54 #[.slice a2 l2.length cap2, .int .i64 (i : Int)] wr fun e w' => e = .returned (I (l2.getD i 0)) ∧ w' = wr) := at_any wr a2 l2 cap2 i (H2.out.of_below hB)
    have g1 := getD_lt HD1.out i
    have g2 := getD_lt HD2.out i
    clear ho hB hS
    by_cases c1 : i < l1.length
    · have c1' : (i : Int) < (l1.length : Int) := by omega
      have HBIG := KA.out i c1
      have HST : Hid (∀ X Y, X = (l1.getD i 0 + l2.getD i 0 + up) % 10 → Y = (l1.getD i 0 + l2.getD i 0 + up) / 10 → Sums l1 l2 (i + 1) (D ++ [X]) Y) := fun X Y hX hY => by rw [hX, hY]; exact HS.out.step HD1.out HD2.out HBIG
      have HUP : Hid (l1.length ≤ i → l2.length ≤ i → (l1.getD i 0 + l2.getD i 0 + up) / 10 = 0) := fun h1 h2 => by
        rw [List.getD_eq_getElem?_getD, List.getElem?_eq_none h1, List.getD_eq_getElem?_getD, List.getElem?_eq_none h2]
        show (0 + 0 + up) / 10 = 0
        omega
      clear HBIG
      generalize l1.getD i 0 = x1 at *
      generalize l2.getD i 0 = x2 at *
      obtain ⟨X, hX⟩ : ∃ X : Nat, X = (x1 + x2 + up) % 10 := ⟨_, rfl⟩
      obtain ⟨Y, hY⟩ : ∃ Y : Nat, Y = (x1 + x2 + up) / 10 := ⟨_, rfl⟩
      have eX : ((x1 : Int) + (x2 : Int) + (up : Int)) % 10 = (X : Int) := by omega
      have eY : ((x1 : Int) + (x2 : Int) + (up : Int)) / 10 = (Y : Int) := by omega
      have HSX : Hid (Sums l1 l2 (i + 1) (D ++ [X]) Y) := HST.out X Y hX hY
      have HOR : Hid (i + 1 ≤ l1.length ∨ i + 1 ≤ l2.length ∨ Y = 0) := by
        rcases Nat.lt_or_ge i l1.length with h | h
        · exact Or.inl h
        · rcases Nat.lt_or_ge i l2.length with h' | h'
          · exact Or.inr (Or.inl h')
          · exact Or.inr (Or.inr (by rw [hY]; exact HUP.out h h'))
      have hX9 : X ≤ 9 := by omega
      clear hX hY HST HUP
      have HO2 : Hid ((wr.alloc (.cells #[.int .i64 (X : Int)] 3)).ownsRow w.heap.size 3 1 v i (zs D)) := HO.out.alloc _
      have HC2 : Hid (∀ j u, [I X][j]? = some u → (wr.alloc (.cells #[.int .i64 (X : Int)] 3)).cell? ((⟨wr.heap.size, 0, none⟩ : Addr).add j) = some u) := fun j u hu => by
        match j, hu with
        | 0, hu => simp at hu; subst hu; simp [Addr.add]
      have HB2 : Hid (Below w.heap.size w (wr.alloc (.cells #[.int .i64 (X : Int)] 3))) := HB.out.alloc HB.out.size _
      go_wp2_with (first | (go_at_call_of 54 l1; refine A1.out.mono ?_; rintro e wr ⟨rfl, rfl⟩) | (go_at_call_of 54 l2; refine A2.out.mono ?_; rintro e wr ⟨rfl, rfl⟩) | (at_builtin; refine wpList_append_own _ rfl (.tmp 34) (.tmp 37) 24 rfl w.heap.size 3 i0 (.int .i64 0) 1 8 Tryd.underlying24 hi0 hz0 hz1 hz2 rfl (by decide) v i (zs D) rfl HO2.out ⟨wr.heap.size, 0, none⟩ 1 1 [I X] rfl rfl HC2.out (fun u hu => by simp at hu; subst hu; rfl) (by unfold maxLen; omega) (by omega) HB2.out.size ?_; intro v1 w1 hown1 hgrow1 hn1; have HO3 : Hid (w1.ownsRow w.heap.size 3 1 v1 (i + 1) (zs D ++ [I X])) := hown1; have HG3 : Hid (Below w.heap.size w w1) := HB2.out.grown hgrow1 HB2.out.size (fun k hk => (HO2.out.lt k hk).1); clear hown1 hgrow1 hn1))
      go_roundg (gk - 1)
      case measure => omega
      case rel => exact ⟨i + 1, Y, D ++ [X], _, by omega, rfl, by go_num, by go_num, HOR.out, by omega, HSX.out, by rw [zs_append]; exact HO3.out, HG3.out⟩
    by_cases c2 : i < l2.length
    · have c1' : ¬ (i : Int) < (l1.length : Int) := by omega
      have c1d : decide ((i : Int) < (l1.length : Int)) = false := decide_eq_false c1'
      have c2' : (i : Int) < (l2.length : Int) := by omega
      have HBIG := KB.out i c2
      have HST : Hid (∀ X Y, X = (l1.getD i 0 + l2.getD i 0 + up) % 10 → Y = (l1.getD i 0 + l2.getD i 0 + up) / 10 → Sums l1 l2 (i + 1) (D ++ [X]) Y) := fun X Y hX hY => by rw [hX, hY]; exact HS.out.step HD1.out HD2.out HBIG
      have HUP : Hid (l1.length ≤ i → l2.length ≤ i → (l1.getD i 0 + l2.getD i 0 + up) / 10 = 0) := fun h1 h2 => by
        rw [List.getD_eq_getElem?_getD, List.getElem?_eq_none h1, List.getD_eq_getElem?_getD, List.getElem?_eq_none h2]
        show (0 + 0 + up) / 10 = 0
        omega
      clear HBIG
      generalize l1.getD i 0 = x1 at *
      generalize l2.getD i 0 = x2 at *
      obtain ⟨X, hX⟩ : ∃ X : Nat, X = (x1 + x2 + up) % 10 := ⟨_, rfl⟩
      obtain ⟨Y, hY⟩ : ∃ Y : Nat, Y = (x1 + x2 + up) / 10 := ⟨_, rfl⟩
      have eX : ((x1 : Int) + (x2 : Int) + (up : Int)) % 10 = (X : Int) := by omega
      have eY : ((x1 : Int) + (x2 : Int) + (up : Int)) / 10 = (Y : Int) := by omega
      have HSX : Hid (Sums l1 l2 (i + 1) (D ++ [X]) Y) := HST.out X Y hX hY
      have HOR : Hid (i + 1 ≤ l1.length ∨ i + 1 ≤ l2.length ∨ Y = 0) := by
        rcases Nat.lt_or_ge i l1.length with h | h
        · exact Or.inl h
        · rcases Nat.lt_or_ge i l2.length with h' | h'
          · exact Or.inr (Or.inl h')
          · exact Or.inr (Or.inr (by rw [hY]; exact HUP.out h h'))
      have hX9 : X ≤ 9 := by omega
      clear hX hY HST HUP
      have HO2 : Hid ((wr.alloc (.cells #[.int .i64 (X : Int)] 3)).ownsRow w.heap.size 3 1 v i (zs D)) := HO.out.alloc _
      have HC2 : Hid (∀ j u, [I X][j]? = some u → (wr.alloc (.cells #[.int .i64 (X : Int)] 3)).cell? ((⟨wr.heap.size, 0, none⟩ : Addr).add j) = some u) := fun j u hu => by
        match j, hu with
        | 0, hu => simp at hu; subst hu; simp [Addr.add]
      have HB2 : Hid (Below w.heap.size w (wr.alloc (.cells #[.int .i64 (X : Int)] 3))) := HB.out.alloc HB.out.size _
      go_wp2_with (first | (go_at_call_of 54 l1; refine A1.out.mono ?_; rintro e wr ⟨rfl, rfl⟩) | (go_at_call_of 54 l2; refine A2.out.mono ?_; rintro e wr ⟨rfl, rfl⟩) | (at_builtin; refine wpList_append_own _ rfl (.tmp 34) (.tmp 37) 24 rfl w.heap.size 3 i0 (.int .i64 0) 1 8 Tryd.underlying24 hi0 hz0 hz1 hz2 rfl (by decide) v i (zs D) rfl HO2.out ⟨wr.heap.size, 0, none⟩ 1 1 [I X] rfl rfl HC2.out (fun u hu => by simp at hu; subst hu; rfl) (by unfold maxLen; omega) (by omega) HB2.out.size ?_; intro v1 w1 hown1 hgrow1 hn1; have HO3 : Hid (w1.ownsRow w.heap.size 3 1 v1 (i + 1) (zs D ++ [I X])) := hown1; have HG3 : Hid (Below w.heap.size w w1) := HB2.out.grown hgrow1 HB2.out.size (fun k hk => (HO2.out.lt k hk).1); clear hown1 hgrow1 hn1))
      go_roundg (gk - 1)
      case measure => omega
      case rel => exact ⟨i + 1, Y, D ++ [X], _, by omega, rfl, by go_num, by go_num, HOR.out, by omega, HSX.out, by rw [zs_append]; exact HO3.out, HG3.out⟩
    by_cases c3 : 0 < up
    · have c1' : ¬ (i : Int) < (l1.length : Int) := by omega
      have c1d : decide ((i : Int) < (l1.length : Int)) = false := decide_eq_false c1'
      have c2' : ¬ (i : Int) < (l2.length : Int) := by omega
      have c2d : decide ((i : Int) < (l2.length : Int)) = false := decide_eq_false c2'
      have c3' : (0 : Int) < (up : Int) := by omega
      have HBIG := HS.out.goes_up c3
      have HST : Hid (∀ X Y, X = (l1.getD i 0 + l2.getD i 0 + up) % 10 → Y = (l1.getD i 0 + l2.getD i 0 + up) / 10 → Sums l1 l2 (i + 1) (D ++ [X]) Y) := fun X Y hX hY => by rw [hX, hY]; exact HS.out.step HD1.out HD2.out HBIG
      have HUP : Hid (l1.length ≤ i → l2.length ≤ i → (l1.getD i 0 + l2.getD i 0 + up) / 10 = 0) := fun h1 h2 => by
        rw [List.getD_eq_getElem?_getD, List.getElem?_eq_none h1, List.getD_eq_getElem?_getD, List.getElem?_eq_none h2]
        show (0 + 0 + up) / 10 = 0
        omega
      clear HBIG
      generalize l1.getD i 0 = x1 at *
      generalize l2.getD i 0 = x2 at *
      obtain ⟨X, hX⟩ : ∃ X : Nat, X = (x1 + x2 + up) % 10 := ⟨_, rfl⟩
      obtain ⟨Y, hY⟩ : ∃ Y : Nat, Y = (x1 + x2 + up) / 10 := ⟨_, rfl⟩
      have eX : ((x1 : Int) + (x2 : Int) + (up : Int)) % 10 = (X : Int) := by omega
      have eY : ((x1 : Int) + (x2 : Int) + (up : Int)) / 10 = (Y : Int) := by omega
      have HSX : Hid (Sums l1 l2 (i + 1) (D ++ [X]) Y) := HST.out X Y hX hY
      have HOR : Hid (i + 1 ≤ l1.length ∨ i + 1 ≤ l2.length ∨ Y = 0) := by
        rcases Nat.lt_or_ge i l1.length with h | h
        · exact Or.inl h
        · rcases Nat.lt_or_ge i l2.length with h' | h'
          · exact Or.inr (Or.inl h')
          · exact Or.inr (Or.inr (by rw [hY]; exact HUP.out h h'))
      have hX9 : X ≤ 9 := by omega
      clear hX hY HST HUP
      have HO2 : Hid ((wr.alloc (.cells #[.int .i64 (X : Int)] 3)).ownsRow w.heap.size 3 1 v i (zs D)) := HO.out.alloc _
      have HC2 : Hid (∀ j u, [I X][j]? = some u → (wr.alloc (.cells #[.int .i64 (X : Int)] 3)).cell? ((⟨wr.heap.size, 0, none⟩ : Addr).add j) = some u) := fun j u hu => by
        match j, hu with
        | 0, hu => simp at hu; subst hu; simp [Addr.add]
      have HB2 : Hid (Below w.heap.size w (wr.alloc (.cells #[.int .i64 (X : Int)] 3))) := HB.out.alloc HB.out.size _
      go_wp2_with (first | (go_at_call_of 54 l1; refine A1.out.mono ?_; rintro e wr ⟨rfl, rfl⟩) | (go_at_call_of 54 l2; refine A2.out.mono ?_; rintro e wr ⟨rfl, rfl⟩) | (at_builtin; refine wpList_append_own _ rfl (.tmp 34) (.tmp 37) 24 rfl w.heap.size 3 i0 (.int .i64 0) 1 8 Tryd.underlying24 hi0 hz0 hz1 hz2 rfl (by decide) v i (zs D) rfl HO2.out ⟨wr.heap.size, 0, none⟩ 1 1 [I X] rfl rfl HC2.out (fun u hu => by simp at hu; subst hu; rfl) (by unfold maxLen; omega) (by omega) HB2.out.size ?_; intro v1 w1 hown1 hgrow1 hn1; have HO3 : Hid (w1.ownsRow w.heap.size 3 1 v1 (i + 1) (zs D ++ [I X])) := hown1; have HG3 : Hid (Below w.heap.size w w1) := HB2.out.grown hgrow1 HB2.out.size (fun k hk => (HO2.out.lt k hk).1); clear hown1 hgrow1 hn1))
      go_roundg (gk - 1)
      case measure => omega
      case rel => exact ⟨i + 1, Y, D ++ [X], _, by omega, rfl, by go_num, by go_num, HOR.out, by omega, HSX.out, by rw [zs_append]; exact HO3.out, HG3.out⟩
    have hu0 : up = 0 := by omega
    subst hu0
    have c1' : ¬ (i : Int) < (l1.length : Int) := by omega
    have c1d : decide ((i : Int) < (l1.length : Int)) = false := decide_eq_false c1'
    have c2' : ¬ (i : Int) < (l2.length : Int) := by omega
    have c2d : decide ((i : Int) < (l2.length : Int)) = false := decide_eq_false c2'
    have hD := KD.out i D HS.out (by omega) (by omega)
    have HN : Hid (NumV wr 10 (n + m) v) := NumV.of_owned (by rw [← hD]; exact HO.out)
    go_wp2_with fail
    go_ret
    exact ⟨⟨_, rfl, HN.out⟩, HB.out⟩


set_option maxRecDepth 100000 in
set_option maxHeartbeats 2000000 in
theorem refSub_any (w : World) (a1 a2 : Option Addr) (cap1 cap2 n m : Nat) (h1 : Row w a1 (dg 10 n)) (h2 : Row w a2 (dg 10 m)) (b1 : (dg 10 n).length ≤ 1000000) (hmn : m ≤ n) :
    Calls Tryd.prog 20 #[.slice a1 (dg 10 n).length cap1, .slice a2 (dg 10 m).length cap2] w fun e w' => (∃ v, e = .returned v ∧ NumV w' 10 (n - m) v) ∧ Below w.heap.size w w' := by
  have KD : Hid (∀ D down, Diffs (dg 10 n) (dg 10 m) (dg 10 n).length D down → vl 10 D = n - m) := fun D down h => h.done hmn
  have HD1 : Hid (∀ d ∈ dg 10 n, d < 10) := dg_mem ten n
  have HD2 : Hid (∀ d ∈ dg 10 m, d < 10) := dg_mem ten m
  generalize dg 10 n = l1 at *
  generalize dg 10 m = l2 at *
  have H1 : Hid (Row w a1 l1) := h1
  have H2 : Hid (Row w a2 l2) := h2
  clear h1 h2
  obtain ⟨i0, hi0, hz0, hz1, hz2⟩ := info_parts Tryd.info3
  go_enter Tryd.func20, Tryd.ntmps20
  go_wp2_with fail
  go_loopg [5, 6, 7] l1.length (fun gk v5 v6 v7 wr => ∃ (i down : Nat) (D : List Nat) (v : Value), i + gk = l1.length ∧ v = v5 ∧ v6 = .int .i64 (down : Int) ∧ v7 = .int .i64 (i : Int) ∧ Diffs l1 l2 i D down ∧ wr.ownsRow w.heap.size 3 1 v i (zs D) ∧ Below w.heap.size w wr)
  case atStart => exact ⟨0, 0, [], _, by omega, rfl, rfl, rfl, Diffs.zero _ _, World.ownsRow_nil _ _ _ _, Below.refl _ _⟩
  case round =>
    obtain ⟨i, down, D, v, hi, rfl, rfl, rfl, hS, ho, hB⟩ := hrel
    by_cases c1 : i < l1.length
    · have c1' : (i : Int) < (l1.length : Int) := by omega
      obtain ⟨k1, o1, rfl, e1⟩ := H1.out.of_below hB i c1
      have hdn := hS.d1
      have A2 : Hid (∀ k, Calls Tryd.prog 54 #[.slice a2 l2.length cap2, .int .i64 (i : Int)] (wr.drewN k) fun e w' => e = .returned (I (l2.getD i 0)) ∧ w' = wr.drewN k) := fun k => at_any (wr.drewN k) a2 l2 cap2 i ((H2.out.of_below hB).drew k)
      have g1 := getD_lt HD1.out i
      have g2 := getD_lt HD2.out i
      have HST : Hid (∀ X Y, X < 10 → Y ≤ 1 → l1.getD i 0 + 10 * Y = X + l2.getD i 0 + down → Diffs l1 l2 (i + 1) (D ++ [X]) Y) := fun X Y h1 h2 h3 => hS.step X Y h1 h2 h3
      have eg : l1.getD i 0 = l1[i] := by rw [List.getD_eq_getElem?_getD, List.getElem?_eq_getElem c1]; rfl
      rw [eg] at g1 HST
      generalize l1[i] = x1 at *
      generalize l2.getD i 0 = x2 at *
      have HO0 : Hid (wr.ownsRow w.heap.size 3 1 v i (zs D)) := ho
      have HB0 : Hid (Below w.heap.size w wr) := hB
      clear ho hB hS eg
      go_wp2_with fail
      go_quiet ((go_at_call 54; exact Calls.quiet_of_same (A2.out _)))
      have HO : Hid ((wr.drewN nq).ownsRow w.heap.size 3 1 v i (zs D)) := HO0.out
      have HB : Hid (Below w.heap.size w (wr.drewN nq)) := ⟨HB0.out.os, HB0.out.tape, HB0.out.output, HB0.out.size, HB0.out.block⟩
      clear A2 e1 HO0 HB0
      generalize wr.drewN nq = wr at *
      by_cases hneg : (x1 : Int) - (x2 : Int) - (down : Int) < 0
      · obtain ⟨X, hX⟩ : ∃ X : Nat, X = x1 + 10 - x2 - down := ⟨_, rfl⟩
        have eX : (x1 : Int) - (x2 : Int) - (down : Int) + 10 = (X : Int) := by omega
        have hX9 : X ≤ 9 := by omega
        have HSX : Hid (Diffs l1 l2 (i + 1) (D ++ [X]) 1) := HST.out X 1 (by omega) (by omega) (by omega)
        clear hX HST
        have HO2 : Hid ((wr.alloc (.cells #[.int .i64 (X : Int)] 3)).ownsRow w.heap.size 3 1 v i (zs D)) := HO.out.alloc _
        have HC2 : Hid (∀ j u, [I X][j]? = some u → (wr.alloc (.cells #[.int .i64 (X : Int)] 3)).cell? ((⟨wr.heap.size, 0, none⟩ : Addr).add j) = some u) := fun j u hu => by
          match j, hu with
          | 0, hu => simp at hu; subst hu; simp [Addr.add]
        have HB2 : Hid (Below w.heap.size w (wr.alloc (.cells #[.int .i64 (X : Int)] 3))) := HB.out.alloc HB.out.size _
        go_wp2_with (at_builtin; refine wpList_append_own _ rfl (.tmp 29) (.tmp 31) 24 rfl w.heap.size 3 i0 (.int .i64 0) 1 8 Tryd.underlying24 hi0 hz0 hz1 hz2 rfl (by decide) v i (zs D) rfl HO2.out ⟨wr.heap.size, 0, none⟩ 1 1 [I X] rfl rfl HC2.out (fun u hu => by simp at hu; subst hu; rfl) (by unfold maxLen; omega) (by omega) HB2.out.size ?_; intro v1 w1 hown1 hgrow1 hn1; have HO3 : Hid (w1.ownsRow w.heap.size 3 1 v1 (i + 1) (zs D ++ [I X])) := hown1; have HG3 : Hid (Below w.heap.size w w1) := HB2.out.grown hgrow1 HB2.out.size (fun k hk => (HO2.out.lt k hk).1); clear hown1 hgrow1 hn1)
        go_roundg (gk - 1)
        case measure => omega
        case rel => exact ⟨i + 1, 1, D ++ [X], _, by omega, rfl, rfl, by go_num, HSX.out, by rw [zs_append]; exact HO3.out, HG3.out⟩
      · obtain ⟨X, hX⟩ : ∃ X : Nat, X = x1 - x2 - down := ⟨_, rfl⟩
        have eX : (x1 : Int) - (x2 : Int) - (down : Int) = (X : Int) := by omega
        have hX9 : X ≤ 9 := by omega
        have HSX : Hid (Diffs l1 l2 (i + 1) (D ++ [X]) 0) := HST.out X 0 (by omega) (by omega) (by omega)
        clear hX HST hneg
        have HO2 : Hid ((wr.alloc (.cells #[.int .i64 (X : Int)] 3)).ownsRow w.heap.size 3 1 v i (zs D)) := HO.out.alloc _
        have HC2 : Hid (∀ j u, [I X][j]? = some u → (wr.alloc (.cells #[.int .i64 (X : Int)] 3)).cell? ((⟨wr.heap.size, 0, none⟩ : Addr).add j) = some u) := fun j u hu => by
          match j, hu with
          | 0, hu => simp at hu; subst hu; simp [Addr.add]
        have HB2 : Hid (Below w.heap.size w (wr.alloc (.cells #[.int .i64 (X : Int)] 3))) := HB.out.alloc HB.out.size _
        go_wp2_with (at_builtin; refine wpList_append_own _ rfl (.tmp 29) (.tmp 31) 24 rfl w.heap.size 3 i0 (.int .i64 0) 1 8 Tryd.underlying24 hi0 hz0 hz1 hz2 rfl (by decide) v i (zs D) rfl HO2.out ⟨wr.heap.size, 0, none⟩ 1 1 [I X] rfl rfl HC2.out (fun u hu => by simp at hu; subst hu; rfl) (by unfold maxLen; omega) (by omega) HB2.out.size ?_; intro v1 w1 hown1 hgrow1 hn1; have HO3 : Hid (w1.ownsRow w.heap.size 3 1 v1 (i + 1) (zs D ++ [I X])) := hown1; have HG3 : Hid (Below w.heap.size w w1) := HB2.out.grown hgrow1 HB2.out.size (fun k hk => (HO2.out.lt k hk).1); clear hown1 hgrow1 hn1)
        go_roundg (gk - 1)
        case measure => omega
        case rel => exact ⟨i + 1, 0, D ++ [X], _, by omega, rfl, rfl, by go_num, HSX.out, by rw [zs_append]; exact HO3.out, HG3.out⟩
    · obtain rfl : i = l1.length := by omega
      have HV : Hid (vl 10 D = n - m) := KD.out D down hS
      have HL : Hid (∀ d ∈ D, d < 10) := hS.low
      have HB : Hid (Below w.heap.size w wr) := hB
      obtain ⟨a, cap, rfl, h1, h2, h3⟩ := Row.of_owned ho
      have HR : Hid (Row wr a D) := h3
      clear h3 ho hB hS
      go_wp2_with fail
      refine (trim_any 10 ten wr a D cap HR.out h1 HL.out h2).mono ?_
      rintro e W3 ⟨⟨v, rfl, hv⟩, rfl⟩
      rw [HV.out] at hv
      have HVV : Hid (NumV W3 10 (n - m) v) := hv
      clear hv
      go_wp2_with fail
      go_ret
      exact ⟨⟨_, rfl, HVV.out⟩, HB.out⟩
end Go.Proofs.YtlgcnjinmcgacaaDoor
