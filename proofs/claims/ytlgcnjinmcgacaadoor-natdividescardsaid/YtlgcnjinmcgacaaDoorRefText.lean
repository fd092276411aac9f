/- The walks of the reference's Read and Text. -/
import Derived.Test.YtlgcnjinmcgacaaDoorRead
import Derived.Test.YtlgcnjinmcgacaaDoorText
set_option linter.unusedSimpArgs false
set_option linter.unusedVariables false
namespace Go.Proofs.YtlgcnjinmcgacaaDoor
open Go.RowKit Go.Deep Go.PlainAid

theorem Tryd.info3 : (Tryd.prog.info? 3).map (fun i => (i.zero, i.size, i.bytes)) = some (some (.int .i64 0), 1, 8) := by kernel_rfl
theorem ten : 2 ≤ 10 := by omega
theorem dl_take_succ (s : ByteArray) (k : Nat) (h : k < s.size) (hd : 48 ≤ bt s (s.size - 1 - k)) : (dl s.data.toList).take (k + 1) = (dl s.data.toList).take k ++ [(bt s (s.size - 1 - k) - 48).toNat] := by
  have hl : k < (dl s.data.toList).length := by rw [dl_length, size_list]; exact h
  rw [List.take_succ_eq_append_getElem hl]
  congr 2
  have hb := bt_list s (s.size - 1 - k) (by omega)
  have hx : (dl s.data.toList)[k] = (s.data.toList[s.size - 1 - k]'(by rw [size_list]; omega)).toNat - 48 := by
    simp only [dl, List.getElem_map, List.getElem_reverse, size_list]
  rw [hx]
  omega

set_option maxRecDepth 100000 in
set_option maxHeartbeats 1000000 in
theorem refRead_any (s : ByteArray) (w : World) (ha : allDig s.data.toList = true) (hs : s.size ≤ 1000000) :
    Calls Tryd.prog 10 #[.string s] w fun e w' => (∃ v, e = .returned v ∧ NumV w' 10 (bv s.data.toList) v) ∧ Below w.heap.size w w' := by
  have hb := get_bt s
  have HA : Hid (allDig s.data.toList = true) := ha
  have HL : Hid (∀ d ∈ dl s.data.toList, d < 10) := dl_lt _ ha
  have HDl : Hid ((dl s.data.toList).length = s.size) := by show _ = _; rw [dl_length, size_list]
  clear ha
  obtain ⟨i0, hi0, hz0, hz1, hz2⟩ := info_parts Tryd.info3
  go_enter Tryd.func10, Tryd.ntmps10
  go_wp2_with fail
  go_loopg [3, 4] (s.size + 1) (fun gk v3 v4 wr => ∃ (k : Nat) (v : Value), k + gk = s.size + 1 ∧ v = v3 ∧ v4 = .int .i64 ((s.size : Int) - 1 - (k : Int)) ∧ k ≤ s.size ∧ wr.ownsRow w.heap.size 3 1 v k (zs ((dl s.data.toList).take k)) ∧ Below w.heap.size w wr)
  case atStart => exact ⟨0, _, by omega, rfl, by simp, Nat.zero_le _, World.ownsRow_nil _ _ _ _, Below.refl _ _⟩
  case round =>
    obtain ⟨k, v, hk, rfl, rfl, hks, ho, hB⟩ := hrel
    have HO : Hid (wr.ownsRow w.heap.size 3 1 v k (zs ((dl s.data.toList).take k))) := ho
    have HB : Hid (Below w.heap.size w wr) := hB
    clear ho hB
    by_cases hlt : k < s.size
    · obtain ⟨p, hp⟩ : ∃ p, p = s.size - 1 - k := ⟨_, rfl⟩
      have hpi : (s.size : Int) - 1 - (k : Int) = (p : Int) := by omega
      have hps : p < s.size := by omega
      have hps' : (p : Int) < (s.size : Int) := by omega
      obtain ⟨d1, d2⟩ := dig_at s p hps HA.out
      have HST : Hid ((dl s.data.toList).take (k + 1) = (dl s.data.toList).take k ++ [(bt s p - 48).toNat]) := by show _ = _; rw [hp]; exact dl_take_succ s k hlt (by rw [← hp]; exact d1)
      have HPK : Hid (p = s.size - 1 - k) := hp
      rw [hpi]
      clear hp
      obtain ⟨X, hX⟩ : ∃ X : Nat, X = (bt s p - 48).toNat := ⟨_, rfl⟩
      have hXi : bt s p - 48 = (X : Int) := by omega
      have hX9 : X ≤ 9 := by omega
      rw [← hX] at HST
      clear hX
      generalize (dl s.data.toList).take k = L at *
      have HO2 : Hid ((wr.alloc (.cells #[.int .i64 (X : Int)] 3)).ownsRow w.heap.size 3 1 v k (zs L)) := HO.out.alloc _
      have HC2 : Hid (∀ j u, [I X][j]? = some u → (wr.alloc (.cells #[.int .i64 (X : Int)] 3)).cell? ((⟨wr.heap.size, 0, none⟩ : Addr).add j) = some u) := fun j u hu => by
        match j, hu with
        | 0, hu => simp at hu; subst hu; simp [Addr.add]
      have HB2 : Hid (Below w.heap.size w (wr.alloc (.cells #[.int .i64 (X : Int)] 3))) := HB.out.alloc HB.out.size _
      go_wp2_with (at_builtin; refine wpList_append_own _ rfl (.tmp 12) (.tmp 18) 24 rfl w.heap.size 3 i0 (.int .i64 0) 1 8 Tryd.underlying24 hi0 hz0 hz1 hz2 rfl (by decide) v k (zs L) rfl HO2.out ⟨wr.heap.size, 0, none⟩ 1 1 [I X] rfl rfl HC2.out (fun u hu => by simp at hu; subst hu; rfl) (by unfold maxLen; omega) (by omega) HB2.out.size ?_; intro v1 w1 hown1 hgrow1 hn1; have HO3 : Hid (w1.ownsRow w.heap.size 3 1 v1 (k + 1) (zs L ++ [I X])) := hown1; have HG3 : Hid (Below w.heap.size w w1) := HB2.out.grown hgrow1 HB2.out.size (fun k hk => (HO2.out.lt k hk).1); clear hown1 hgrow1 hn1)
      go_roundg (gk - 1)
      case measure => omega
      case rel =>
        refine ⟨k + 1, _, by omega, rfl, ?_, by omega, ?_, HG3.out⟩
        · have := HPK.out; go_num
        · rw [HST.out, zs_append]; exact HO3.out
    · obtain rfl : k = s.size := by omega
      have hz : ¬ (0 : Int) ≤ (s.size : Int) - 1 - (s.size : Int) := by omega
      have ho := HO.out
      rw [List.take_of_length_le (by rw [HDl.out]; exact Nat.le_refl _)] at ho
      obtain ⟨a, cap, rfl, h1, h2, h3⟩ := Row.of_owned ho
      have HR : Hid (Row wr a (dl s.data.toList)) := h3
      have HV2 : Hid (vl 10 (dl s.data.toList) = bv s.data.toList) := vl_dl _
      clear h3 ho
      generalize dl s.data.toList = D at *
      go_wp2_with fail
      refine (trim_any 10 ten wr a D cap HR.out h1 HL.out h2).mono ?_
      rintro e W3 ⟨⟨v, rfl, hv⟩, rfl⟩
      rw [HV2.out] at hv
      have HVV : Hid (NumV W3 10 (bv s.data.toList) v) := hv
      clear hv
      go_wp2_with fail
      go_ret
      exact ⟨⟨_, rfl, HVV.out⟩, HB.out⟩

set_option maxRecDepth 100000 in
set_option maxHeartbeats 1000000 in
theorem refText_any (w : World) (a : Option Addr) (cap n : Nat) (h : Row w a (dg 10 n)) (b : (dg 10 n).length ≤ 1000000) :
    Calls Tryd.prog 13 #[.slice a (dg 10 n).length cap] w fun e w' => e = .returned (.string ⟨(txt n).toArray⟩) ∧ Below w.heap.size w w' := by
  have HD : Hid (∀ d ∈ dg 10 n, d < 10) := dg_mem ten n
  have HT : Hid ((dg 10 n).length ≠ 0 → chars (dg 10 n) = txt n) := fun h => by
    have : n ≠ 0 := fun e => h ((dg_length_zero ten).2 e)
    rw [txt, if_neg this]
  have HT0 : Hid ((dg 10 n).length = 0 → txt n = [48]) := fun h => by
    have : n = 0 := (dg_length_zero ten).1 h
    subst this; rfl
  generalize txt n = X at *
  generalize dg 10 n = l at *
  have HR : Hid (Row w a l) := h
  clear h
  by_cases h0 : l.length = 0
  · have hX := HT0.out h0
    subst hX
    have h0' : ((l.length : Int) == 0) = true := by simp [h0]
    go_enter Tryd.func13, Tryd.ntmps13
    go_wp2_with fail
    go_ret
    exact ⟨rfl, Below.refl _ _⟩
  · have hX : Hid (chars l = X) := HT.out h0
    have h0' : ((l.length : Int) == 0) = false := beq_eq_false_iff_ne.2 (by omega)
    obtain ⟨N, hN, hmk⟩ : ∃ N : Nat, N = l.length ∧ ∀ w, (Instr.makeSlice 72 (.int .i64 (l.length : Int)) (.int .i64 (l.length : Int))).run Tryd.prog w = .ok (.slice (some ⟨w.heap.size, 0, none⟩) N N) (w.alloc (.cells (ys (List.replicate N 0)).toArray 5)) :=
      ⟨l.length, rfl, fun w => makeBytes _ _ rfl (by omega) w⟩
    have HN : Hid (N = l.length) := hN
    have hN2 : N ≤ 1000000 := by omega
    clear hN h0
    go_enter Tryd.func13, Tryd.ntmps13
    go_wp2_with fail
    have q1 : Hid (IHolds (w.alloc (.cells (ys (List.replicate N 0)).toArray 5)) w.heap.size 5 (ys (laidB N []))) := by
      show IHolds _ _ _ _
      have : laidB N [] = List.replicate N 0 := by simp [laidB, chars]
      rw [this]; exact IHolds.new w 5 _
    have q2 : Hid (Below w.heap.size w (w.alloc (.cells (ys (List.replicate N 0)).toArray 5))) := (Below.refl _ w).alloc (Nat.le_refl _) _
    clear hmk
    generalize w.alloc (.cells (ys (List.replicate N 0)).toArray 5) = W0 at *
    go_loopg [4] l.length (fun gk v4 wr => ∃ i : Nat, i + gk = l.length ∧ v4 = .int .i64 (i : Int) ∧ IHolds wr w.heap.size 5 (ys (laidB N (l.take i))) ∧ Below w.heap.size w wr)
    case atStart => exact ⟨0, by omega, rfl, q1.out, q2.out⟩
    case round =>
      obtain ⟨i, hi, rfl, hI, hB⟩ := hrel
      clear q1 q2
      by_cases hlt : i < l.length
      · have il : (i : Int) < (l.length : Int) := by omega
        have hNe := HN.out
        obtain ⟨k2, o2, rfl, c2⟩ := HR.out.of_below hB i hlt
        have hu : l[i] < 10 := HD.out _ (List.getElem_mem _)
        have hlen : (l.take i).length = i := by rw [List.length_take]; omega
        have hsucc : l.take (i + 1) = l.take i ++ [l[i]] := List.take_succ_eq_append_getElem hlt
        obtain ⟨p, hp⟩ : ∃ p, p = N - i - 1 := ⟨_, rfl⟩
        have hpi : (l.length : Int) - 1 - (i : Int) = (p : Int) := by omega
        have hpN : p < N := by omega
        have hpN' : (p : Int) < (N : Int) := by omega
        have hcl : (ys (laidB N (l.take i))).length = N := by rw [ys_length, laidB_length N _ (by omega)]
        have hc0 : wr.cell? ⟨w.heap.size, p, none⟩ = some ((ys (laidB N (l.take i)))[p]'(by omega)) := hI.cell p (by omega)
        have hf0 : wr.frozen? ⟨w.heap.size, p, none⟩ = false := hI.frozen p
        have HS2 : Hid (IHolds (wr.setCell ⟨w.heap.size, p, none⟩ (.int .u8 ((l[i] : Int) + 48))) w.heap.size 5 (ys (laidB N (l.take (i + 1))))) := by
          have h1 := hI.set p (.int .u8 ((l[i] : Int) + 48))
          have h2 := laidB_step N (l.take i) l[i] (by omega) hu ((l[i] : Int) + 48) rfl
          rw [hlen] at h2
          rw [hp, h2, ← hp, ← hsucc] at h1
          exact h1
        have HB2 : Hid (Below w.heap.size w (wr.setCell ⟨w.heap.size, p, none⟩ (.int .u8 ((l[i] : Int) + 48)))) := hB.setCell (Nat.le_refl _) _
        generalize (ys (laidB N (l.take i)))[p]'(by omega) = old at *
        clear hI hB hcl hp hlen hsucc hNe
        generalize l[i] = u at *
        go_wp2_with fail
        go_roundg (gk - 1)
        case measure => omega
        case rel => exact ⟨i + 1, by omega, by go_num, HS2.out, HB2.out⟩
      · obtain rfl : i = l.length := by omega
        have HB : Hid (Below w.heap.size w wr) := hB
        have hNe := HN.out
        rw [List.take_length] at hI
        have hlb : laidB N l = X := by
          unfold laidB
          rw [hNe, Nat.sub_self, hX.out]; rfl
        have hcl : X.length = N := by rw [← hX.out, chars_length]; omega
        have hcv := run_convert_bytes_arg (P := Tryd.prog) wr 72 5 Tryd.underlying72 Tryd.underlying5 w.heap.size 0 N N (X.map fun x => (x.toNat : Int)) (by simpa using hcl) (fun k hk => by
          have := hI
          rw [hlb] at this
          rw [Nat.zero_add, this.cell k (by rw [ys_length]; omega)]
          simp [ys, List.getElem?_eq_getElem (show k < X.length by omega)]) 9 Tryd.underlying9
        rw [Lib.Lz.strOfNums_map] at hcv
        clear hI hB hlb hcl hNe
        go_wp2_with fail
        go_ret
        exact ⟨rfl, HB.out⟩
end Go.Proofs.YtlgcnjinmcgacaaDoor
