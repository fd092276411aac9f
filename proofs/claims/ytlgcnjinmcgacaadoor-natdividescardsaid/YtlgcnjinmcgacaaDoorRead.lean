/- The walks of numberOf and readNumber. -/
import Derived.Test.YtlgcnjinmcgacaaDoorMinus
import Derived.Test.YtlgcnjinmcgacaaDoorWrong
import Derived.Test.YtlgcnjinmcgacaaDoorReadPlain
set_option linter.unusedSimpArgs false
set_option linter.unusedVariables false
namespace Go.Proofs.YtlgcnjinmcgacaaDoor
open Go.RowKit Go.Deep Go.PlainAid

theorem makeCap (c : Int) (n : Nat) (hc : c = (n : Int)) (hn : n ≤ 4294967296) (w : World) : (Instr.makeSlice 67 (.int .i64 0) (.int .i64 c)).run Tryd.prog w = .ok (.slice (some ⟨w.heap.size, 0, none⟩) 0 n) (w.alloc (.cells (zs (List.replicate n 0)).toArray 2)) := by
  obtain ⟨i0, hi, hz0, hz1, hz2⟩ := info_parts Tryd.info2
  have := run_make (P := Tryd.prog) w 67 2 i0 (.int .i64 0) Tryd.underlying67 hi hz0 .i64 .i64 0 c (by omega) (by omega) (by rw [hz2]; omega) (by omega)
  rw [hz1, hc] at this
  simp only [Int.toNat_natCast, Nat.mul_one, Int.toNat_zero] at this
  rw [hc, this, ← made_nums]; rfl
/-- A row of the call's own as a number's cells. -/
theorem Row.of_owned {w : World} {base n : Nat} {v : Value} {l : List Nat} {e : TypeId} (h : w.ownsRow base e 1 v n (zs l)) : ∃ a cap, v = .slice a l.length cap ∧ l.length ≤ cap ∧ cap ≤ 9223372036854775807 ∧ Row w a l := by
  obtain ⟨hlen, ⟨rfl, h0⟩ | ⟨g, cap, cur, rfl, hb, hg, hc, hm, hs, ht⟩⟩ := h
  · rw [zs_length, Nat.mul_one] at hlen
    have : l = [] := List.length_eq_zero_iff.1 (by omega)
    subst this
    exact ⟨none, 0, rfl, by simp, by omega, Row.nil _ _⟩
  · rw [zs_length, Nat.mul_one] at hlen
    refine ⟨some ⟨g, 0, none⟩, cap, by rw [hlen], by omega, hm, ?_⟩
    intro i hi
    refine ⟨g, 0, rfl, ?_⟩
    rw [Nat.mul_one] at ht
    have h1 : (zs l)[i]? = some (I l[i]) := by simp [zs, hi]
    rw [← ht, List.getElem?_take, if_pos (by omega)] at h1
    simp only [World.cell?, hg]
    simpa using h1

set_option maxRecDepth 100000 in
set_option maxHeartbeats 1000000 in
theorem numberOf_any (s : ByteArray) (w : World) (ha : allDig s.data.toList = true) (hs : s.size ≤ 1000000) :
    Calls Tryd.prog 88 #[.string s] w fun e w' => (∃ v, e = .returned v ∧ NumV w' 1000000000 (bv s.data.toList) v) ∧ Below w.heap.size w w' := by
  have hb := get_bt s
  have HA : Hid (allDig s.data.toList = true) := ha
  clear ha
  obtain ⟨i0, hi0, hz0, hz1, hz2⟩ := info_parts Tryd.info2
  obtain ⟨C, hC, hmk⟩ : ∃ C : Nat, C ≤ 1000001 ∧ ∀ w, (Instr.makeSlice 67 (.int .i64 0) (.int .i64 ((s.size : Int) / 9 + 1))).run Tryd.prog w = .ok (.slice (some ⟨w.heap.size, 0, none⟩) 0 C) (w.alloc (.cells (zs (List.replicate C 0)).toArray 2)) :=
    ⟨s.size / 9 + 1, by omega, fun w => makeCap _ _ (by omega) (by omega) w⟩
  go_enter Tryd.func88, Tryd.ntmps88
  go_wp2_with fail
  have q1 : Hid ((w.alloc (.cells (zs (List.replicate C 0)).toArray 2)).ownsRow w.heap.size 2 1 (.slice (some ⟨w.heap.size, 0, none⟩) 0 C) 0 []) := World.ownsRow_made w _ C (Nat.le_refl _) (by unfold maxLen; omega) (by simp [zs])
  have q2 : Hid (Below w.heap.size w (w.alloc (.cells (zs (List.replicate C 0)).toArray 2))) := (Below.refl _ w).alloc (Nat.le_refl _) _
  clear hmk
  generalize w.alloc (.cells (zs (List.replicate C 0)).toArray 2) = W0 at *
  go_loopg [3, 4] (s.size + 1) (fun gk v3 v4 wr => ∃ (l : List Nat) (v : Value), l.length + gk = s.size + 1 ∧ v = v3 ∧ v4 = .int .i64 ((s.size : Int) - 9 * (l.length : Int)) ∧ (∀ d ∈ l, d < 1000000000) ∧ vl 1000000000 l = bv (s.data.toList.drop (s.size - 9 * l.length)) ∧ wr.ownsRow w.heap.size 2 1 v l.length (zs l) ∧ Below w.heap.size w wr)
  case atStart => exact ⟨[], _, by simp, rfl, by simp, by simp, by simp [vl, List.drop_of_length_le, bv], q1.out, q2.out⟩
  case round =>
    obtain ⟨l, v, hl, rfl, rfl, hd, hv, ho, hB⟩ := hrel
    have HD : Hid (∀ d ∈ l, d < 1000000000) := hd
    have HV : Hid (vl 1000000000 l = bv (s.data.toList.drop (s.size - 9 * l.length))) := hv
    have HO : Hid (wr.ownsRow w.heap.size 2 1 v l.length (zs l)) := ho
    have HB : Hid (Below w.heap.size w wr) := hB
    clear hd hv ho hB q1 q2
    by_cases hlt : 9 * l.length < s.size
    · obtain ⟨lo, hlo⟩ : ∃ lo, lo = s.size - 9 * (l.length + 1) := ⟨_, rfl⟩
      obtain ⟨hi, hhi⟩ : ∃ hi, hi = s.size - 9 * l.length := ⟨_, rfl⟩
      have c1 : (s.size : Int) - 9 * (l.length : Int) = (hi : Int) := by omega
      have c2 : lo < hi := by omega
      have c3 : hi ≤ lo + 9 := by omega
      have c4 : hi ≤ s.size := by omega
      have c5 : (0 : Int) < (hi : Int) - 9 → (hi : Int) - 9 = (lo : Int) := by omega
      have c5' : ¬ (0 : Int) < (hi : Int) - 9 → lo = 0 := by omega
      have c8 : (0 : Int) < (hi : Int) := by omega
      have c9 : 0 < hi := by omega
      have HLH : Hid (lo = s.size - 9 * (l.length + 1) ∧ hi = s.size - 9 * l.length) := ⟨hlo, hhi⟩
      clear hlo hhi
      rw [c1]
      by_cases c6 : (0 : Int) < (hi : Int) - 9
      · have c7 := c5 c6
        clear c5 c5'
        go_wp2_with fail
        go_loop [5, 6] (fun v5 v6 => ∃ k : Nat, lo ≤ k ∧ k ≤ hi ∧ v6 = .int .i64 (k : Int) ∧ v5 = .int .i64 (bv (seg s.data.toList lo k) : Int)) (fun _ v6 => hi - (intOf v6).toNat)
        case atStart => exact ⟨lo, Nat.le_refl _, by omega, rfl, by rw [seg_nil]; rfl⟩
        case round =>
          obtain ⟨k, hk1, hk2, rfl, rfl⟩ := hrel
          by_cases hkh : k < hi
          · have hkh' : (k : Int) < (hi : Int) := by omega
            obtain ⟨d1, d2⟩ := dig_at s k (by omega) HA.out
            have hks : k < s.size := by omega
            have hks' : (k : Int) < (s.size : Int) := by omega
            have hst := bv_seg_succ s lo k hk1 hks d1
            have HST : Hid ((bv (seg s.data.toList lo (k + 1)) : Int) = (bv (seg s.data.toList lo k) : Int) * 10 + (bt s k - 48)) := hst
            have hlt8 := seg_lt' s.data.toList lo k HA.out hk1 (by rw [size_list]; omega) (by omega)
            clear hst
            generalize bv (seg s.data.toList lo k) = X at *
            go_wp2_with fail
            go_round
            case rel => exact ⟨k + 1, by omega, by omega, by go_num, by rw [HST.out]⟩
            case measure => simp [intOf]; omega
          · obtain rfl : k = hi := by omega
            have hx9 := seg_lt s.data.toList lo k HA.out hk1 (by rw [size_list]; omega) c3
            have HV2 : Hid (vl 1000000000 (l ++ [bv (seg s.data.toList lo k)]) = bv (s.data.toList.drop (s.size - 9 * (l.length + 1)))) := by
              have := nine_step s.data.toList l.length (by rw [size_list]; omega) l rfl (by rw [size_list]; exact HV.out)
              rw [size_list, ← HLH.out.1, ← HLH.out.2] at this
              rw [← HLH.out.1]; exact this
            generalize bv (seg s.data.toList lo k) = X at *
            have HO2 : Hid ((wr.alloc (.cells #[.int .i64 (X : Int)] 2)).ownsRow w.heap.size 2 1 v l.length (zs l)) := HO.out.alloc _
            have HC2 : Hid (∀ j u, [I X][j]? = some u → (wr.alloc (.cells #[.int .i64 (X : Int)] 2)).cell? ((⟨wr.heap.size, 0, none⟩ : Addr).add j) = some u) := fun j u hu => by
              match j, hu with
              | 0, hu => simp at hu; subst hu; simp [Addr.add]
            have HB2 : Hid (Below w.heap.size w (wr.alloc (.cells #[.int .i64 (X : Int)] 2))) := HB.out.alloc HB.out.size _
            go_wp2_with (at_builtin; refine wpList_append_own _ rfl (.tmp 34) (.tmp 36) 67 rfl w.heap.size 2 i0 (.int .i64 0) 1 8 Tryd.underlying67 hi0 hz0 hz1 hz2 rfl (by decide) v l.length (zs l) rfl HO2.out ⟨wr.heap.size, 0, none⟩ 1 1 [I X] rfl rfl HC2.out (fun u hu => by simp at hu; subst hu; rfl) (by unfold maxLen; omega) (by omega) HB2.out.size ?_; intro v1 w1 hown1 hgrow1 hn1; have HO3 : Hid (w1.ownsRow w.heap.size 2 1 v1 (l.length + 1) (zs l ++ [I X])) := hown1; have HG3 : Hid (Below w.heap.size w w1) := HB2.out.grown hgrow1 HB2.out.size (fun k hk => (HO2.out.lt k hk).1); clear hown1 hgrow1 hn1)
            go_roundg (gk - 1)
            case measure => omega
            case rel =>
              refine ⟨l ++ [X], _, by simp; omega, rfl, ?_, ?_, ?_, ?_, HG3.out⟩
              · rw [List.length_append, List.length_singleton]; have := HLH.out.2; go_num
              · intro d hd
                rcases List.mem_append.1 hd with hd | hd
                · exact HD.out d hd
                · simp at hd; omega
              · rw [List.length_append, List.length_singleton]; exact HV2.out
              · rw [List.length_append, List.length_singleton, zs_append]; exact HO3.out
      · have c7 := c5' c6
        clear c5 c5'
        subst c7
        go_wp2_with fail
        go_loop [5, 6] (fun v5 v6 => ∃ k : Nat, 0 ≤ k ∧ k ≤ hi ∧ v6 = .int .i64 (k : Int) ∧ v5 = .int .i64 (bv (seg s.data.toList 0 k) : Int)) (fun _ v6 => hi - (intOf v6).toNat)
        case atStart => exact ⟨0, Nat.le_refl _, by omega, rfl, by rw [seg_nil]; rfl⟩
        case round =>
          obtain ⟨k, hk1, hk2, rfl, rfl⟩ := hrel
          by_cases hkh : k < hi
          · have hkh' : (k : Int) < (hi : Int) := by omega
            obtain ⟨d1, d2⟩ := dig_at s k (by omega) HA.out
            have hks : k < s.size := by omega
            have hks' : (k : Int) < (s.size : Int) := by omega
            have hst := bv_seg_succ s 0 k hk1 hks d1
            have HST : Hid ((bv (seg s.data.toList 0 (k + 1)) : Int) = (bv (seg s.data.toList 0 k) : Int) * 10 + (bt s k - 48)) := hst
            have hlt8 := seg_lt' s.data.toList 0 k HA.out hk1 (by rw [size_list]; omega) (by omega)
            clear hst
            generalize bv (seg s.data.toList 0 k) = X at *
            go_wp2_with fail
            go_round
            case rel => exact ⟨k + 1, by omega, by omega, by go_num, by rw [HST.out]⟩
            case measure => simp [intOf]; omega
          · obtain rfl : k = hi := by omega
            have hx9 := seg_lt s.data.toList 0 k HA.out hk1 (by rw [size_list]; omega) c3
            have HV2 : Hid (vl 1000000000 (l ++ [bv (seg s.data.toList 0 k)]) = bv (s.data.toList.drop (s.size - 9 * (l.length + 1)))) := by
              have := nine_step s.data.toList l.length (by rw [size_list]; omega) l rfl (by rw [size_list]; exact HV.out)
              rw [size_list, ← HLH.out.1, ← HLH.out.2] at this
              rw [← HLH.out.1]; exact this
            generalize bv (seg s.data.toList 0 k) = X at *
            have HO2 : Hid ((wr.alloc (.cells #[.int .i64 (X : Int)] 2)).ownsRow w.heap.size 2 1 v l.length (zs l)) := HO.out.alloc _
            have HC2 : Hid (∀ j u, [I X][j]? = some u → (wr.alloc (.cells #[.int .i64 (X : Int)] 2)).cell? ((⟨wr.heap.size, 0, none⟩ : Addr).add j) = some u) := fun j u hu => by
              match j, hu with
              | 0, hu => simp at hu; subst hu; simp [Addr.add]
            have HB2 : Hid (Below w.heap.size w (wr.alloc (.cells #[.int .i64 (X : Int)] 2))) := HB.out.alloc HB.out.size _
            go_wp2_with (at_builtin; refine wpList_append_own _ rfl (.tmp 34) (.tmp 36) 67 rfl w.heap.size 2 i0 (.int .i64 0) 1 8 Tryd.underlying67 hi0 hz0 hz1 hz2 rfl (by decide) v l.length (zs l) rfl HO2.out ⟨wr.heap.size, 0, none⟩ 1 1 [I X] rfl rfl HC2.out (fun u hu => by simp at hu; subst hu; rfl) (by unfold maxLen; omega) (by omega) HB2.out.size ?_; intro v1 w1 hown1 hgrow1 hn1; have HO3 : Hid (w1.ownsRow w.heap.size 2 1 v1 (l.length + 1) (zs l ++ [I X])) := hown1; have HG3 : Hid (Below w.heap.size w w1) := HB2.out.grown hgrow1 HB2.out.size (fun k hk => (HO2.out.lt k hk).1); clear hown1 hgrow1 hn1)
            go_roundg (gk - 1)
            case measure => omega
            case rel =>
              refine ⟨l ++ [X], _, by simp; omega, rfl, ?_, ?_, ?_, ?_, HG3.out⟩
              · rw [List.length_append, List.length_singleton]; have := HLH.out.2; go_num
              · intro d hd
                rcases List.mem_append.1 hd with hd | hd
                · exact HD.out d hd
                · simp at hd; omega
              · rw [List.length_append, List.length_singleton]; exact HV2.out
              · rw [List.length_append, List.length_singleton, zs_append]; exact HO3.out
    · have he : s.size - 9 * l.length = 0 := by omega
      have HV2 : Hid (vl 1000000000 l = bv s.data.toList) := by
        have := HV.out
        rw [he, List.drop_zero] at this
        exact this
      have hz : ¬ (0 : Int) < (s.size : Int) - 9 * (l.length : Int) := by omega
      obtain ⟨a, cap, rfl, h1, h2, h3⟩ := Row.of_owned HO.out
      have HR : Hid (Row wr a l) := h3
      clear h3 he
      go_wp2_with fail
      refine (trimmed_any 1000000000 bigBase wr a l cap HR.out h1 HD.out h2).mono ?_
      rintro e W3 ⟨⟨v, rfl, hv⟩, rfl⟩
      rw [HV2.out] at hv
      have HVV : Hid (NumV W3 1000000000 (bv s.data.toList) v) := hv
      clear hv
      go_wp2_with fail
      go_ret
      exact ⟨⟨_, rfl, HVV.out⟩, HB.out⟩
end Go.Proofs.YtlgcnjinmcgacaaDoor
