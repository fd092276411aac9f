/- The walks of TrimLeft at the cutset 0, and of text. -/
import Derived.Test.YtlgcnjinmcgacaaDoorArith
import Derived.Test.YtlgcnjinmcgacaaDoorTextPlain
import Derived.Test.YtlgcnjinmcgacaaDoorIs
import Derived.Laws.BytesArg
import Derived.Lib.LazyBuf
set_option linter.unusedSimpArgs false
set_option linter.unusedVariables false
namespace Go.Proofs.YtlgcnjinmcgacaaDoor
open Go.RowKit Go.Deep Go.PlainAid

theorem ext_one (s : ByteArray) : (s.extract 1 s.size).data.toList = s.data.toList.drop 1 := by
  have h1 : s.data.toList.length = s.size := rfl
  simp only [ByteArray.data_extract, Array.toList_extract, List.extract_eq_take_drop]
  rw [List.take_of_length_le (by rw [List.length_drop, h1]; exact Nat.le_refl _)]
theorem drop_head (s : ByteArray) (h : 0 < s.size) (h48 : bt s 0 = 48) : (s.extract 1 s.size).data.toList.dropWhile (· == 48) = s.data.toList.dropWhile (· == 48) := by
  rw [ext_one]
  have e := bt_list s 0 h
  have e48 : s.data.toList[0]'h = 48 := UInt8.toNat_inj.1 (by show _ = 48; omega)
  have hc : s.data.toList = (s.data.toList[0]'h) :: s.data.toList.drop 1 := by
    have := List.drop_eq_getElem_cons (l := s.data.toList) (i := 0) h
    rwa [List.drop_zero] at this
  generalize s.data.toList[0]'h = c at *
  subst e48
  conv => rhs; rw [hc]
  simp
theorem stop_head (s : ByteArray) (h : s.size = 0 ∨ (0 < s.size ∧ bt s 0 ≠ 48)) : s.data.toList.dropWhile (· == 48) = s.data.toList := by
  rcases h with h | ⟨h, h48⟩
  · have : s.data.toList = [] := List.length_eq_zero_iff.1 h
    rw [this]; rfl
  · have e := bt_list s 0 h
    have hc : s.data.toList = (s.data.toList[0]'h) :: s.data.toList.drop 1 := by
      have := List.drop_eq_getElem_cons (l := s.data.toList) (i := 0) h
      rwa [List.drop_zero] at this
    have ne : s.data.toList[0]'h ≠ 48 := fun hx => h48 (by rw [e, hx]; rfl)
    generalize s.data.toList[0]'h = c at *
    rw [hc, List.dropWhile_cons]
    simp [ne]

set_option maxRecDepth 100000 in
set_option maxHeartbeats 1000000 in
theorem trimByte_any (s : ByteArray) (w : World) (hs : s.size ≤ 4611686018427387904) :
    Calls Tryd.prog 111 #[.string s, .int .u8 48] w fun e w' => (∃ t : ByteArray, e = .returned (.string t) ∧ t.data.toList = s.data.toList.dropWhile (· == 48)) ∧ w' = w := by
  go_enter Tryd.func111, Tryd.ntmps111
  go_wp2_with fail
  go_loopg [0] s.size (fun gk v wr => ∃ t : ByteArray, t.size = gk ∧ v = .string t ∧ t.size ≤ s.size ∧ t.data.toList.dropWhile (· == 48) = s.data.toList.dropWhile (· == 48) ∧ wr = w)
  case atStart => exact ⟨s, rfl, rfl, Nat.le_refl _, rfl, rfl⟩
  case round =>
    obtain ⟨t, hg, rfl, ht, hd, rfl⟩ := hrel
    have HD : Hid (t.data.toList.dropWhile (· == 48) = s.data.toList.dropWhile (· == 48)) := hd
    have hb := get_bt t
    have HG : Hid (t.size = gk) := hg
    clear hd hg
    by_cases h0 : 0 < t.size
    · have h0' : (0 : Int) < (t.size : Int) := by omega
      by_cases h48 : bt t 0 = 48
      · have HN : Hid ((t.extract 1 t.size).data.toList.dropWhile (· == 48) = s.data.toList.dropWhile (· == 48)) := by show _ = _; rw [drop_head t h0 h48]; exact HD.out
        have hsz : Hid ((t.extract 1 t.size).size = t.size - 1) := by show _ = _; simp [ByteArray.size_extract]
        go_wp2_with fail
        go_roundg (t.size - 1)
        case measure => have := HG.out; omega
        case rel => exact ⟨_, hsz.out, rfl, by rw [hsz.out]; omega, HN.out, rfl⟩
      · have h48' : (bt t 0 == 48) = false := beq_eq_false_iff_ne.2 h48
        have HE : Hid (t.data.toList = s.data.toList.dropWhile (· == 48)) := by show _ = _; rw [← HD.out]; exact (stop_head t (Or.inr ⟨h0, h48⟩)).symm
        go_wp2_with fail
        go_ret
        exact ⟨⟨t, rfl, HE.out⟩, rfl⟩
    · have hz : t.size = 0 := by omega
      have HE : Hid (t.data.toList = s.data.toList.dropWhile (· == 48)) := by show _ = _; rw [← HD.out]; exact (stop_head t (Or.inl hz)).symm
      have hd : decide ((0 : Int) < (t.size : Int)) = false := decide_eq_false (by omega)
      have hd2 : ¬ (0 : Int) < (t.size : Int) := by omega
      go_wp2_with fail
      go_ret
      exact ⟨⟨t, rfl, HE.out⟩, rfl⟩

theorem zeroB_get (h : 0 < (⟨#[48]⟩ : ByteArray).size) : ((⟨#[48]⟩ : ByteArray)[0]'h) = 48 := rfl
set_option maxRecDepth 100000 in
set_option maxHeartbeats 1000000 in
theorem trimLeft_any (s : ByteArray) (w : World) (hs : s.size ≤ 4611686018427387904) :
    Calls Tryd.prog 91 #[.string s, .string ⟨#[48]⟩] w fun e w' => (∃ t : ByteArray, e = .returned (.string t) ∧ t.data.toList = s.data.toList.dropWhile (· == 48)) ∧ w' = w := by
  have HC : Hid (Calls Tryd.prog 111 #[.string s, .int .u8 48] w fun e w' => (∃ t : ByteArray, e = .returned (.string t) ∧ t.data.toList = s.data.toList.dropWhile (· == 48)) ∧ w' = w) := trimByte_any s w hs
  go_enter Tryd.func91, Tryd.ntmps91
  by_cases h0 : s.toList = []
  · have HE : Hid (s.data.toList = s.data.toList.dropWhile (· == 48)) := by
      show _ = _
      rw [ByteArray.toList_eq] at h0
      rw [h0]; rfl
    go_wp2_with fail
    go_ret
    exact ⟨⟨s, rfl, HE.out⟩, rfl⟩
  · have h0' : s.toList.isEmpty = false := by simpa using h0
    go_wp2_with (go_at_call 111; refine HC.out.mono ?_; rintro e w' ⟨⟨t, rfl, ht⟩, rfl⟩; have HT : Hid (t.data.toList = s.data.toList.dropWhile (· == 48)) := ht; clear ht)
    go_ret
    exact ⟨⟨_, rfl, HT.out⟩, rfl⟩

theorem Tryd.info5 : (Tryd.prog.info? 5).map (fun i => (i.zero, i.size, i.bytes)) = some (some (.int .u8 0), 1, 1) := by kernel_rfl
/-- Bytes as the cells hold them. -/
abbrev Yb (x : UInt8) : Value := .int .u8 (x.toNat : Int)
def ys (l : List UInt8) : List Value := l.map Yb
theorem ys_length (l : List UInt8) : (ys l).length = l.length := by simp [ys]
theorem ys_append (l r : List UInt8) : ys (l ++ r) = ys l ++ ys r := by simp [ys]
theorem makeBytes (z : Int) (n : Nat) (hz : z = (n : Int)) (hn : n ≤ 4294967296) (w : World) : (Instr.makeSlice 72 (.int .i64 z) (.int .i64 z)).run Tryd.prog w = .ok (.slice (some ⟨w.heap.size, 0, none⟩) n n) (w.alloc (.cells (ys (List.replicate n 0)).toArray 5)) := by
  subst hz
  have := run_make_row' (P := Tryd.prog) 72 5 (.int .u8 0) 1 Tryd.underlying72 Tryd.info5 rfl .i64 .i64 n (by omega) (by omega) w
  rw [this]
  have e : madeCells #[.int .u8 0] n = (ys (List.replicate n 0)).toArray := by
    apply Array.toList_inj.1
    rw [toList_madeCells_one]
    simp [ys]
  rw [e]
/-- What the bytes are when the digits D were laid, from the end. -/
def laidB (N : Nat) (D : List Nat) : List UInt8 := List.replicate (N - D.length) 0 ++ chars D
theorem laidB_length (N : Nat) (D : List Nat) (h : D.length ≤ N) : (laidB N D).length = N := by simp [laidB, chars_length]; omega
theorem laidB_step (N : Nat) (D : List Nat) (d : Nat) (h : D.length < N) (hd : d < 10) (x : Int) (hx : x = (d : Int) + 48) : (ys (laidB N D)).set (N - D.length - 1) (.int .u8 x) = ys (laidB N (D ++ [d])) := by
  have e1 : List.replicate (N - D.length) (0 : UInt8) = List.replicate (N - (D ++ [d]).length) 0 ++ [0] := by
    rw [show N - D.length = (N - (D ++ [d]).length) + 1 by simp; omega, List.replicate_succ']
  have e2 : N - D.length - 1 = (ys (List.replicate (N - (D ++ [d]).length) (0 : UInt8))).length := by simp [ys]; omega
  have e3 : Value.int .u8 x = Yb (UInt8.ofNat (d + 48)) := by
    rw [Yb, UInt8.toNat_ofNat', hx]
    congr 1
    omega
  unfold laidB
  rw [e1, e2, e3, chars_snoc, ys_append, ys_append, ys_append, List.append_assoc, List.set_append_right _ _ (Nat.le_refl _), Nat.sub_self]
  rfl
theorem Digs.start (N T : Nat) (D : List Nat) (cur : Nat) (h1 : ∀ d ∈ D, d < 10) (h2 : vl 10 D + 10 ^ D.length * cur = T) (h3 : cur < 1000000000) : Digs N T D cur 0 := ⟨h1, h2, by simpa using h3⟩

set_option maxRecDepth 100000 in
set_option maxHeartbeats 1000000 in
theorem text_any (w : World) (a : Option Addr) (cap n : Nat) (h : Row w a (dg 1000000000 n)) (b : (dg 1000000000 n).length ≤ 1000000) :
    Calls Tryd.prog 53 #[.slice a (dg 1000000000 n).length cap] w fun e w' => e = .returned (.string ⟨(txt n).toArray⟩) ∧ Below w.heap.size w w' := by
  have HZ : Hid (∀ w, Calls Tryd.prog 66 #[.slice a (dg 1000000000 n).length cap] w fun e w' => e = .returned (.bool (n == 0)) ∧ w' = w) := fun w => isZero_any w a n cap
  have HV : Hid (vl 1000000000 (dg 1000000000 n) = n) := vl_dg bigBase n
  have HD : Hid (∀ d ∈ dg 1000000000 n, d < 1000000000) := dg_mem bigBase n
  generalize dg 1000000000 n = l at *
  by_cases hn : n = 0
  · subst hn
    go_enter Tryd.func53, Tryd.ntmps53
    go_wp2_with (go_at_call 66; refine (HZ.out _).mono ?_; rintro e w ⟨rfl, rfl⟩)
    go_ret
    exact ⟨rfl, Below.refl _ _⟩
  · have hn' : (n == 0) = false := beq_eq_false_iff_ne.2 hn
    have HR : Hid (Row w a l) := h
    rw [hn'] at HZ
    clear h hn'
    obtain ⟨N, hN, hmk⟩ : ∃ N : Nat, N = 9 * l.length ∧ ∀ w, (Instr.makeSlice 72 (.int .i64 (9 * (l.length : Int))) (.int .i64 (9 * (l.length : Int)))).run Tryd.prog w = .ok (.slice (some ⟨w.heap.size, 0, none⟩) N N) (w.alloc (.cells (ys (List.replicate N 0)).toArray 5)) :=
      ⟨9 * l.length, rfl, fun w => makeBytes _ _ (by push_cast; rfl) (by omega) w⟩
    have HN : Hid (N = 9 * l.length) := hN
    have hN2 : N ≤ 9000000 := by omega
    clear hN
    go_enter Tryd.func53, Tryd.ntmps53
    go_wp2_with (go_at_call 66; refine (HZ.out _).mono ?_; rintro e w ⟨rfl, rfl⟩)
    have q1 : Hid (IHolds (w.alloc (.cells (ys (List.replicate N 0)).toArray 5)) w.heap.size 5 (ys (laidB N []))) := by
      show IHolds _ _ _ _
      have : laidB N [] = List.replicate N 0 := by simp [laidB, chars]
      rw [this]; exact IHolds.new w 5 _
    have q2 : Hid (Below w.heap.size w (w.alloc (.cells (ys (List.replicate N 0)).toArray 5))) := (Below.refl _ w).alloc (Nat.le_refl _) _
    clear hmk
    generalize w.alloc (.cells (ys (List.replicate N 0)).toArray 5) = W0 at *
    go_loopg [4, 17] l.length (fun gk v4 v17 wr => ∃ (i : Nat) (D : List Nat), i + gk = l.length ∧ v17 = .int .i64 (i : Int) ∧ D.length = 9 * i ∧ v4 = .int .i64 ((N : Int) - 9 * (i : Int)) ∧ (∀ d ∈ D, d < 10) ∧ vl 10 D = vl 1000000000 (l.take i) ∧ IHolds wr w.heap.size 5 (ys (laidB N D)) ∧ Below w.heap.size w wr)
    case atStart => exact ⟨0, [], by omega, rfl, rfl, by simp, by simp, rfl, q1.out, q2.out⟩
    case round =>
      obtain ⟨i, D, hi, rfl, hDl, rfl, hDd, hDv, hDI, hDB⟩ := hrel
      clear q1 q2
      generalize gk = G at *
      have HI : Hid (IHolds wr w.heap.size 5 (ys (laidB N D))) := hDI
      have HB : Hid (Below w.heap.size w wr) := hDB
      by_cases hlt : i < l.length
      · have il : (i : Int) < (l.length : Int) := by omega
        obtain ⟨k2, o2, rfl, c2⟩ := HR.out.of_below hDB i hlt
        have hu : l[i] < 1000000000 := HD.out _ (List.getElem_mem _)
        have HT := limb_more l i hlt D hDl hDv
        have HS : Hid (Digs N (vl 1000000000 (l.take (i + 1))) D l[i] 0) := Digs.start _ _ _ _ hDd HT hu
        have HDl : Hid (D.length = 9 * i) := hDl
        have hNi : 9 * i + 9 ≤ N := by have := HN.out; omega
        clear hDl hDd hDv hDI hDB HT
        generalize l[i] = u at *
        generalize wr = w0 at *
        go_wp2_with fail
        clear c2
        go_loopg [4, 6, 21] 9 (fun gk v4 v6 v21 wr => ∃ (j cur : Nat) (D : List Nat), j + gk = 9 ∧ v21 = .int .i64 (j : Int) ∧ v6 = .int .i64 (cur : Int) ∧ v4 = .int .i64 ((N : Int) - 9 * (i : Int) - (j : Int)) ∧ D.length = 9 * i + j ∧ Digs N (vl 1000000000 (l.take (i + 1))) D cur j ∧ IHolds wr w.heap.size 5 (ys (laidB N D)) ∧ Below w.heap.size w wr)
        case atStart => exact ⟨0, u, D, by omega, rfl, rfl, by simp, by rw [HDl.out]; rfl, HS.out, HI.out, HB.out⟩
        case round =>
          obtain ⟨j, cur, E, hj, rfl, rfl, rfl, hEl, hE, hEI, hEB⟩ := hrel
          have HE : Hid (Digs N (vl 1000000000 (l.take (i + 1))) E cur j) := hE
          have HEI : Hid (IHolds wr w.heap.size 5 (ys (laidB N E))) := hEI
          have HEB : Hid (Below w.heap.size w wr) := hEB
          have HEl : Hid (E.length = 9 * i + j) := hEl
          by_cases hj9 : j < 9
          · have hj9' : (j : Int) < 9 := by omega
            have hcur : cur < 1000000000 := by
              have h1 := hE.left
              have h2 : (10 : Nat) ^ (9 - j) ≤ 10 ^ 9 := Nat.pow_le_pow_right (by omega) (by omega)
              omega
            obtain ⟨p, hp⟩ : ∃ p, p = N - E.length - 1 := ⟨_, rfl⟩
            have hpi : (N : Int) - 9 * (i : Int) - (j : Int) - 1 = (p : Int) := by omega
            have hpN : p < N := by omega
            have hpN' : (p : Int) < (N : Int) := by omega
            have hcl : (ys (laidB N E)).length = N := by rw [ys_length, laidB_length N E (by omega)]
            have hc0 : wr.cell? ⟨w.heap.size, p, none⟩ = some ((ys (laidB N E))[p]'(by omega)) := hEI.cell p (by omega)
            have hf0 : wr.frozen? ⟨w.heap.size, p, none⟩ = false := hEI.frozen p
            have HS2 : Hid (IHolds (wr.setCell ⟨w.heap.size, p, none⟩ (.int .u8 (48 + (cur : Int) % 10))) w.heap.size 5 (ys (laidB N (E ++ [cur % 10])))) := by
              have h1 := hEI.set p (.int .u8 (48 + (cur : Int) % 10))
              rw [hp, laidB_step N E (cur % 10) (by omega) (by omega) _ (by omega), ← hp] at h1
              exact h1
            have HB2 : Hid (Below w.heap.size w (wr.setCell ⟨w.heap.size, p, none⟩ (.int .u8 (48 + (cur : Int) % 10)))) := hEB.setCell (Nat.le_refl _) _
            generalize (ys (laidB N E))[p]'(by omega) = old at *
            clear hE hEI hEB hEl hcl hp
            go_wp2_with fail
            go_roundg (gk - 1)
            case measure => omega
            case rel => exact ⟨j + 1, cur / 10, E ++ [cur % 10], by omega, by go_num, by go_num, by go_num, by rw [List.length_append, HEl.out]; rfl, HE.out.step hj9, HS2.out, HB2.out⟩
          · obtain rfl : j = 9 := by omega
            have HD9 : Hid (vl 10 E = vl 1000000000 (l.take (i + 1))) := hE.done
            have HL9 : Hid (∀ d ∈ E, d < 10) := hE.low
            clear hE hEI hEB hEl
            go_wp2_with fail
            go_roundg (G - 1)
            case measure => omega
            case rel => exact ⟨i + 1, E, by omega, by go_num, by rw [HEl.out]; omega, by go_num, HL9.out, HD9.out, HEI.out, HEB.out⟩
      · obtain rfl : i = l.length := by omega
        rw [List.take_length, HV.out] at hDv
        have hNe := HN.out
        have hlb : laidB N D = chars D := by
          unfold laidB
          rw [hDl, ← hNe, Nat.sub_self]; rfl
        have hcl : (chars D).length = N := by rw [chars_length]; omega
        have HDZ : Hid ((chars D).dropWhile (· == 48) = txt n) := by
          show _ = _
          rw [drop_zeros D.length D rfl hDd, hDv, txt, if_neg hn]
        have hcv := run_convert_bytes_arg (P := Tryd.prog) wr 72 5 Tryd.underlying72 Tryd.underlying5 w.heap.size 0 N N ((chars D).map fun x => (x.toNat : Int)) (by simpa using hcl) (fun k hk => by
          have := hDI
          rw [hlb] at this
          rw [Nat.zero_add, this.cell k (by rw [ys_length]; omega)]
          simp [ys, List.getElem?_eq_getElem (show k < (chars D).length by omega)]) 9 Tryd.underlying9
        rw [Lib.Lz.strOfNums_map] at hcv
        have HTL : Hid (∀ w : World, Calls Tryd.prog 91 #[.string ⟨(chars D).toArray⟩, .string ⟨#[48]⟩] w fun e w' => (∃ t : ByteArray, e = .returned (.string t) ∧ t.data.toList = (chars D).dropWhile (· == 48)) ∧ w' = w) := fun w => by
          have := trimLeft_any ⟨(chars D).toArray⟩ w (by show (chars D).toArray.size ≤ _; simp; omega)
          simpa using this
        clear hDl hDd hDv hDI hDB hlb hcl hNe
        generalize chars D = C at *
        go_wp2_with (go_at_call 91; refine (HTL.out _).mono ?_; rintro e w9 ⟨⟨t, rfl, ht⟩, rfl⟩; have HT : Hid (t.data.toList = C.dropWhile (· == 48)) := ht; clear ht)
        go_ret
        refine ⟨?_, HB.out⟩
        have e9 : t = ⟨(txt n).toArray⟩ := by
          have := HT.out
          rw [HDZ.out] at this
          cases t with
          | mk d => simp at this; rw [← this]
        rw [← e9]; rfl
end Go.Proofs.YtlgcnjinmcgacaaDoor
