/- The document's Word. -/
import Derived.Test.YtafekaonmpkhiaaCp
set_option linter.unusedSimpArgs false
set_option linter.unusedVariables false
set_option maxRecDepth 100000
namespace Go.Proofs.Ytafekaonmpkhiaa
open Go.RowKit Go.Deep Go.PlainAid

theorem info27 : ∃ i, Try.prog.info? 27 = some i ∧ i.zero = some (.int .i64 0) ∧ i.size = 1 ∧ i.bytes = 8 := by
  have h1 : (Try.prog.info? 27).map (fun i => (i.size, i.bytes)) = some (1, 8) := by kernel_rfl
  have h2 : (Try.prog.info? 27).bind (fun i => i.zero) = some (.int .i64 0) := by kernel_rfl
  cases hq : Try.prog.info? 27 with
  | none => rw [hq] at h1; cases h1
  | some i =>
    rw [hq] at h1 h2
    simp only [Option.map_some, Option.some.injEq, Prod.mk.injEq] at h1
    exact ⟨i, rfl, h2, h1.1, h1.2⟩
theorem own_form {V : World} {base e size n : Nat} {v : Value} {xs : List Value} (h : V.ownsRow base e size v n xs) : ∃ a c, v = .slice a n c := by
  obtain ⟨hlen, ⟨rfl, h0⟩ | ⟨g, cap, cur, rfl, hbg, hg, hc, hm, hs, ht⟩⟩ := h
  · subst h0; exact ⟨_, _, rfl⟩
  · exact ⟨_, _, rfl⟩
theorem below_app {w U V : World} {e size n : Nat} {v : Value} {xs : List Value} (h : Below w.heap.size w U) (ho : U.ownsRow w.heap.size e size v n xs) (g : U.grownBy V v.ownBlock) : Below w.heap.size w V :=
  ⟨g.os.trans h.os, g.tape.trans h.tape, g.output.trans h.output, Nat.le_trans h.size g.size, fun k hk => (g.block k (Nat.lt_of_lt_of_le hk h.size) (fun q => by have := (ho.lt k q.symm).1; omega)).trans (h.block k hk)⟩
/-- A list of what is wrong with a word: none where it is one. -/
def WW (s : ByteArray) (e : Ending) : Prop := ∃ a n c, e = .returned (.slice a n c) ∧ (n = 0 ↔ wordB s = true)
theorem WW.mk {s : ByteArray} (a : Option Addr) (n c : Nat) (h : n ≠ 0) (hw : wordB s = false) : WW s (.returned (.slice a n c)) := ⟨a, n, c, rfl, ⟨fun q => absurd q h, fun q => by rw [hw] at q; cases q⟩⟩
set_option maxHeartbeats 8000000 in
theorem wordWrong22_a {s : ByteArray} (hs : s.size ≤ 140737488355328) (w : World) (hz : 32 < s.size) : Calls Try.prog 22 #[.string s] w fun e w' => WW s e ∧ Below w.heap.size w w' := by
  have hb := get_bt s
  have hz1 : (32 : Int) < (s.size : Int) := by omega
  have hz2 : (s.size : Int) ≠ 0 := by omega
  have hz3 : ((s.size : Int) == 0) = false := by simpa using hz2
  obtain ⟨i27, hi7, hy0, hy1, hy2⟩ := info27
  have HW : Hid (wordB s = false) := by show _ = _; unfold wordB; rw [decide_eq_false (by omega), Bool.false_and]
  go_enter Try.func22, Try.ntmps22
  go_wp2_with (at_builtin; refine wpList_append_own _ rfl (.tmp 8) (.tmp 9) 61 rfl w.heap.size 27 i27 (.int .i64 0) 1 8 Try.underlying61 hi7 hy0 hy1 hy2 rfl (by decide) (.slice none 0 0) 0 [] rfl ⟨by simp, .inl ⟨rfl, rfl⟩⟩ ⟨w.heap.size, 0, none⟩ 1 1 [.int .i64 3] rfl rfl (cells_new _ [.int .i64 3] 27) (fun u hu => by simp at hu; subst hu; rfl) (by unfold maxLen; omega) (by omega) (by simp <;> omega) ?_; intro v9 w9 hown1 hgrow1 hn1)
  have OWN : Hid (w9.ownsRow w.heap.size 27 1 v9 1 [.int .i64 3]) := hown1
  have B : Hid (Below w.heap.size w w9) := below_app (U := w.alloc (.cells #[.int .i64 3] 27)) (v := .slice none 0 0) (n := 0) (e := 27) (size := 1) (xs := []) ((Below.refl _ w).alloc (Nat.le_refl _) _) ⟨by simp, .inl ⟨rfl, rfl⟩⟩ hgrow1
  clear hown1 hgrow1 hn1
  obtain ⟨a3, c3, e3⟩ := own_form OWN.out
  subst e3
  have S9 : Hid (w.heap.size ≤ w9.heap.size) := B.out.size
  go_wp2_with fail

  go_loopg [19] s.size (fun gk v19 wr => ∃ i : Nat, i + gk = s.size ∧ v19 = .int .i64 (i : Int) ∧ (∀ k (h : k < s.data.toList.length), k < i → 33 ≤ s.data.toList[k].toNat ∧ s.data.toList[k].toNat ≤ 126) ∧ wr = w9)
  case atStart => exact ⟨0, by omega, rfl, fun k _ h => by omega, rfl⟩
  case round =>
    obtain ⟨i, hig, rfl, hx, rfl⟩ := hrel
    have HX : Hid (∀ k (h : k < s.data.toList.length), k < i → 33 ≤ s.data.toList[k].toNat ∧ s.data.toList[k].toNat ≤ 126) := hx
    clear hx
    by_cases hi : i < s.size
    · have il : (i : Int) < (s.size : Int) := by omega
      have hi2 : i < s.data.toList.length := hi
      have e1 := hb i hi
      have ec : (s[i]'hi) = (s.data.toList[i]'hi2) := rfl
      rw [ec] at e1
      have HNo : Hid (¬ (33 ≤ (s.data.toList[i]'hi2).toNat ∧ (s.data.toList[i]'hi2).toNat ≤ 126) → wordB s = false) := fun q => by unfold wordB; rw [signs_no i hi2 q, Bool.and_false]
      have HYes : Hid (33 ≤ (s.data.toList[i]'hi2).toNat ∧ (s.data.toList[i]'hi2).toNat ≤ 126 → ∀ k (h : k < s.data.toList.length), k < i + 1 → 33 ≤ s.data.toList[k].toNat ∧ s.data.toList[k].toNat ≤ 126) := fun q k h hk => by
        by_cases e : k = i
        · subst e; exact q
        · exact HX.out k h (by omega)
      clear ec
      generalize (s.data.toList[i]'hi2).toNat = c at *
      by_cases c1 : c < 33
      · have HR : Hid (wordB s = false) := HNo.out (by omega)
        have c1' : bt s i < 33 := by omega
        clear HNo HYes HX e1 c1
        go_wp2_with (at_builtin; refine wpList_append_own _ rfl (.tmp 32) (.tmp 33) 61 rfl w.heap.size 27 i27 (.int .i64 0) 1 8 Try.underlying61 hi7 hy0 hy1 hy2 rfl (by decide) (.slice a3 1 c3) 1 [.int .i64 3] rfl (OWN.out.alloc _) ⟨wr.heap.size, 0, none⟩ 1 1 [.int .i64 2] rfl rfl (cells_new _ [.int .i64 2] 27) (fun u hu => by simp at hu; subst hu; rfl) (by unfold maxLen; omega) (by omega) (by have := S9.out; simp <;> omega) ?_; intro v9 w9 hown1 hgrow1 hn1)
        obtain ⟨a9, c9, e9⟩ := own_form hown1
        subst e9
        go_ret
        exact ⟨WW.mk a9 _ c9 (by omega) HR.out, below_app (Below.alloc B.out B.out.size _) (OWN.out.alloc _) hgrow1⟩
      · have c1' : ¬ bt s i < 33 := by omega
        by_cases c2 : 126 < c
        · have HR : Hid (wordB s = false) := HNo.out (by omega)
          have c2' : 126 < bt s i := by omega
          clear HNo HYes HX e1 c1 c2
          go_wp2_with (at_builtin; refine wpList_append_own _ rfl (.tmp 32) (.tmp 33) 61 rfl w.heap.size 27 i27 (.int .i64 0) 1 8 Try.underlying61 hi7 hy0 hy1 hy2 rfl (by decide) (.slice a3 1 c3) 1 [.int .i64 3] rfl (OWN.out.alloc _) ⟨wr.heap.size, 0, none⟩ 1 1 [.int .i64 2] rfl rfl (cells_new _ [.int .i64 2] 27) (fun u hu => by simp at hu; subst hu; rfl) (by unfold maxLen; omega) (by omega) (by have := S9.out; simp <;> omega) ?_; intro v9 w9 hown1 hgrow1 hn1)
          obtain ⟨a9, c9, e9⟩ := own_form hown1
          subst e9
          go_ret
          exact ⟨WW.mk a9 _ c9 (by omega) HR.out, below_app (Below.alloc B.out B.out.size _) (OWN.out.alloc _) hgrow1⟩
        · have c2' : ¬ 126 < bt s i := by omega
          have HX2 : Hid (∀ k (h : k < s.data.toList.length), k < i + 1 → 33 ≤ s.data.toList[k].toNat ∧ s.data.toList[k].toNat ≤ 126) := HYes.out ⟨by omega, by omega⟩
          clear HNo HYes HX e1 c1 c2
          go_wp2_with fail
          go_roundg (gk - 1)
          case measure => omega
          case rel => exact ⟨i + 1, by omega, by go_num, HX2.out, rfl⟩
    · go_wp2_with fail
      go_ret
      exact ⟨WW.mk a3 1 c3 (by omega) HW.out, B.out⟩
set_option maxHeartbeats 8000000 in
theorem wordWrong22_b {s : ByteArray} (w : World) (hz : s.size = 0) : Calls Try.prog 22 #[.string s] w fun e w' => WW s e ∧ Below w.heap.size w w' := by
  obtain ⟨i27, hi7, hy0, hy1, hy2⟩ := info27
  have hse : s = ⟨#[]⟩ := (empty_iff s).1 (by rw [ByteArray.toList_eq, List.isEmpty_iff_length_eq_zero, len_eq]; exact hz)
  subst hse
  have HR : Hid (wordB ⟨#[]⟩ = false) := by show _ = _; decide
  have B : Hid (Below w.heap.size w w) := Below.refl _ w
  have OWN : Hid (w.ownsRow w.heap.size 27 1 (.slice none 0 0) 0 []) := ⟨by simp, .inl ⟨rfl, rfl⟩⟩
  go_enter Try.func22, Try.ntmps22
  go_wp2_with (at_builtin; refine wpList_append_own _ rfl (.tmp 14) (.tmp 15) 61 rfl w.heap.size 27 i27 (.int .i64 0) 1 8 Try.underlying61 hi7 hy0 hy1 hy2 rfl (by decide) (.slice none 0 0) 0 [] rfl ⟨by simp, .inl ⟨rfl, rfl⟩⟩ ⟨w.heap.size, 0, none⟩ 1 1 [.int .i64 2] rfl rfl (cells_new _ [.int .i64 2] 27) (fun u hu => by simp at hu; subst hu; rfl) (by unfold maxLen; omega) (by omega) (by simp <;> omega) ?_; intro v9 w9 hown1 hgrow1 hn1)
  obtain ⟨a9, c9, e9⟩ := own_form hown1
  subst e9
  go_ret
  exact ⟨WW.mk a9 _ c9 (by omega) HR.out, below_app (Below.alloc B.out B.out.size _) (OWN.out.alloc _) hgrow1⟩
set_option maxHeartbeats 8000000 in
theorem wordWrong22_c {s : ByteArray} (w : World) (hz : ¬ 32 < s.size) (hn : s.size ≠ 0) : Calls Try.prog 22 #[.string s] w fun e w' => WW s e ∧ Below w.heap.size w w' := by
  have hb := get_bt s
  have hz1 : ¬ (32 : Int) < (s.size : Int) := by omega
  have hz2 : (s.size : Int) ≠ 0 := by omega
  have hz3 : ((s.size : Int) == 0) = false := by simpa using hz2
  obtain ⟨i27, hi7, hy0, hy1, hy2⟩ := info27
  have HS : Hid (s.size ≤ 32) := by show _ ≤ _; omega
  have HNE : Hid (s ≠ ⟨#[]⟩) := fun q => hn (by subst q; rfl)
  have B : Hid (Below w.heap.size w w) := Below.refl _ w
  have OWN : Hid (w.ownsRow w.heap.size 27 1 (.slice none 0 0) 0 []) := ⟨by simp, .inl ⟨rfl, rfl⟩⟩
  go_enter Try.func22, Try.ntmps22
  go_wp2_with fail

  go_loopg [19] s.size (fun gk v19 wr => ∃ i : Nat, i + gk = s.size ∧ v19 = .int .i64 (i : Int) ∧ (∀ k (h : k < s.data.toList.length), k < i → 33 ≤ s.data.toList[k].toNat ∧ s.data.toList[k].toNat ≤ 126) ∧ wr = w)
  case atStart => exact ⟨0, by omega, rfl, fun k _ h => by omega, rfl⟩
  case round =>
    obtain ⟨i, hig, rfl, hx, rfl⟩ := hrel
    have HX : Hid (∀ k (h : k < s.data.toList.length), k < i → 33 ≤ s.data.toList[k].toNat ∧ s.data.toList[k].toNat ≤ 126) := hx
    clear hx
    by_cases hi : i < s.size
    · have il : (i : Int) < (s.size : Int) := by omega
      have hi2 : i < s.data.toList.length := hi
      have e1 := hb i hi
      have ec : (s[i]'hi) = (s.data.toList[i]'hi2) := rfl
      rw [ec] at e1
      have HNo : Hid (¬ (33 ≤ (s.data.toList[i]'hi2).toNat ∧ (s.data.toList[i]'hi2).toNat ≤ 126) → wordB s = false) := fun q => by unfold wordB; rw [signs_no i hi2 q, Bool.and_false]
      have HYes : Hid (33 ≤ (s.data.toList[i]'hi2).toNat ∧ (s.data.toList[i]'hi2).toNat ≤ 126 → ∀ k (h : k < s.data.toList.length), k < i + 1 → 33 ≤ s.data.toList[k].toNat ∧ s.data.toList[k].toNat ≤ 126) := fun q k h hk => by
        by_cases e : k = i
        · subst e; exact q
        · exact HX.out k h (by omega)
      clear ec
      generalize (s.data.toList[i]'hi2).toNat = c at *
      by_cases c1 : c < 33
      · have HR : Hid (wordB s = false) := HNo.out (by omega)
        have c1' : bt s i < 33 := by omega
        clear HNo HYes HX e1 c1
        go_wp2_with (at_builtin; refine wpList_append_own _ rfl (.tmp 32) (.tmp 33) 61 rfl wr.heap.size 27 i27 (.int .i64 0) 1 8 Try.underlying61 hi7 hy0 hy1 hy2 rfl (by decide) (.slice none 0 0) 0 [] rfl ⟨by simp, .inl ⟨rfl, rfl⟩⟩ ⟨wr.heap.size, 0, none⟩ 1 1 [.int .i64 2] rfl rfl (cells_new _ [.int .i64 2] 27) (fun u hu => by simp at hu; subst hu; rfl) (by unfold maxLen; omega) (by omega) (by simp <;> omega) ?_; intro v9 w9 hown1 hgrow1 hn1)
        obtain ⟨a9, c9, e9⟩ := own_form hown1
        subst e9
        go_ret
        exact ⟨WW.mk a9 _ c9 (by omega) HR.out, below_app (Below.alloc B.out B.out.size _) (OWN.out.alloc _) hgrow1⟩
      · have c1' : ¬ bt s i < 33 := by omega
        by_cases c2 : 126 < c
        · have HR : Hid (wordB s = false) := HNo.out (by omega)
          have c2' : 126 < bt s i := by omega
          clear HNo HYes HX e1 c1 c2
          go_wp2_with (at_builtin; refine wpList_append_own _ rfl (.tmp 32) (.tmp 33) 61 rfl wr.heap.size 27 i27 (.int .i64 0) 1 8 Try.underlying61 hi7 hy0 hy1 hy2 rfl (by decide) (.slice none 0 0) 0 [] rfl ⟨by simp, .inl ⟨rfl, rfl⟩⟩ ⟨wr.heap.size, 0, none⟩ 1 1 [.int .i64 2] rfl rfl (cells_new _ [.int .i64 2] 27) (fun u hu => by simp at hu; subst hu; rfl) (by unfold maxLen; omega) (by omega) (by simp <;> omega) ?_; intro v9 w9 hown1 hgrow1 hn1)
          obtain ⟨a9, c9, e9⟩ := own_form hown1
          subst e9
          go_ret
          exact ⟨WW.mk a9 _ c9 (by omega) HR.out, below_app (Below.alloc B.out B.out.size _) (OWN.out.alloc _) hgrow1⟩
        · have c2' : ¬ 126 < bt s i := by omega
          have HX2 : Hid (∀ k (h : k < s.data.toList.length), k < i + 1 → 33 ≤ s.data.toList[k].toNat ∧ s.data.toList[k].toNat ≤ 126) := HYes.out ⟨by omega, by omega⟩
          clear HNo HYes HX e1 c1 c2
          go_wp2_with fail
          go_roundg (gk - 1)
          case measure => omega
          case rel => exact ⟨i + 1, by omega, by go_num, HX2.out, rfl⟩
    · have HW : Hid (wordB s = true) := by
        show _ = _
        unfold wordB
        rw [decide_eq_true HS.out, Bool.true_and, signs_yes (fun k h => HX.out k h (by have : k < s.size := h; omega)), decide_eq_true HNE.out]
      clear HX
      go_wp2_with fail
      go_ret
      exact ⟨⟨none, 0, 0, rfl, ⟨fun _ => HW.out, fun _ => rfl⟩⟩, B.out⟩
theorem wordWrong22 {s : ByteArray} (hs : s.size ≤ 140737488355328) (w : World) : Calls Try.prog 22 #[.string s] w fun e w' => WW s e ∧ Below w.heap.size w w' := by
  by_cases h1 : 32 < s.size
  · exact wordWrong22_a hs w h1
  · by_cases h2 : s.size = 0
    · exact wordWrong22_b w h2
    · exact wordWrong22_c w h1 h2
theorem word13 {s : ByteArray} (hs : s.size ≤ 140737488355328) (w : World) : Calls Try.prog 13 #[.string s] w fun e w' => e = .returned (.bool (wordB s)) ∧ Below w.heap.size w w' := by
  have HS := wordWrong22 hs w
  go_enter Try.func13, Try.ntmps13
  go_wp2_with (go_at_call 22; refine HS.mono ?_)
  rintro e w1 ⟨⟨a, n, c, rfl, hn⟩, hB⟩
  have B : Hid (Below w.heap.size w w1) := hB
  by_cases h0 : n = 0
  · subst h0
    have HW : Hid (wordB s = true) := hn.1 rfl
    clear hn hB
    go_wp2_with fail
    go_ret
    exact ⟨by rw [HW.out]; rfl, B.out⟩
  · have HW : Hid (wordB s = false) := by
      cases q : wordB s with
      | false => rfl
      | true => exact absurd (hn.2 q) h0
    have h1 : ((n : Int) == 0) = false := by simp; exact h0
    clear hn hB
    go_wp2_with fail
    go_ret
    exact ⟨by rw [HW.out]; rfl, B.out⟩
end Go.Proofs.Ytafekaonmpkhiaa
