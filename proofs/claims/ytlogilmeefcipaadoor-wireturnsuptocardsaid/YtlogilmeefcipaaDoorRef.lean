/- The walks of the document's ReadNumber and Digits, of wire's Number and ReadNumber, and of the law WireNumbers. -/
import Derived.Test.YtlogilmeefcipaaDoorRead
import Derived.Shelf.Strconv.Itoa3
import Derived.Shelf.Lay
import Derived.Deep.CutBlock
import Derived.Deep.DeepCutAuto
set_option linter.unusedSimpArgs false
set_option linter.unusedVariables false
set_option maxRecDepth 100000
namespace Go.Proofs.YtlogilmeefcipaaDoor
open Go.RowKit Go.Deep Go.PlainAid

abbrev mostB : ByteArray := ⟨#[49, 48, 57, 57, 53, 49, 49, 54, 50, 55, 55, 55, 54]⟩
theorem most_bv : bv mostB.data.toList = 1099511627776 := by decide +kernel
theorem most_dig : allDig mostB.data.toList = true := by decide +kernel
theorem dg_len_bv (l : List UInt8) (h : allDig l = true) : (dg 10 (bv l)).length ≤ l.length := by
  refine dg_len_le ten _ _ ?_
  rw [← vl_dl]
  have := vl_lt (B := 10) (l := dl l) (dl_lt _ h)
  rwa [dl_length] at this
set_option maxHeartbeats 1000000 in
theorem refReadNumber_any (s : ByteArray) (hs : s.size ≤ 1100000) (w : World) :
    Calls Tryd.prog 16 #[.string s] w fun e w' => e = .returned (.tuple #[.int .i64 ((upV s.data.toList 1099511627776).1 : Int), .int .i64 ((upV s.data.toList 1099511627776).2 : Int)]) ∧ Below w.heap.size w w' := by
  have hb := get_bt s
  have CI : Hid (∀ W, Calls Tryd.prog 29 #[.string s] W fun e w' => e = .returned (.bool (isNum s.data.toList)) ∧ w' = W) := fun W => is_any s W (by omega)
  cases hI : isNum s.data.toList with
  | false =>
    rw [hI] at CI
    have HR : Hid (upV s.data.toList 1099511627776 = (0, 2)) := upV_bad hI
    clear hI
    go_enter Tryd.func16, Tryd.ntmps16
    go_wp2_with fail
    refine (CI.out w).mono ?_
    rintro e w1 ⟨rfl, rfl⟩
    go_wp2_with fail
    go_ret2
    exact ⟨by rw [HR.out]; rfl, Below.refl _ _⟩
  | true =>
    rw [hI] at CI
    have hd : allDig s.data.toList = true := by
      simp only [isNum, Bool.and_eq_true] at hI
      exact hI.1
    have CR : Hid (∀ W, Calls Tryd.prog 31 #[.string s] W fun e w' => (∃ v, e = .returned v ∧ NumV w' 10 (bv s.data.toList) v) ∧ Below W.heap.size W w') := fun W => refRead_any s W hd (by omega)
    have CM : Hid (∀ W, Calls Tryd.prog 31 #[.string mostB] W fun e w' => (∃ v, e = .returned v ∧ NumV w' 10 1099511627776 v) ∧ Below W.heap.size W w') := fun W => by
      have := refRead_any mostB W most_dig (by decide)
      rwa [most_bv] at this
    have LB : Hid ((dg 10 (bv s.data.toList)).length ≤ 4000000) := by
      have := dg_len_bv _ hd
      rw [size_list] at this
      show _ ≤ _
      omega
    have LM : Hid ((dg 10 1099511627776).length ≤ 4000000) := Nat.le_trans (dg_len_le ten 13 _ (by decide)) (by omega)
    have HV1 : Hid (bv s.data.toList ≤ 1099511627776 → upV s.data.toList 1099511627776 = (bv s.data.toList, 0)) := fun h => upV_ok hI h
    have HV2 : Hid (1099511627776 < bv s.data.toList → upV s.data.toList 1099511627776 = (0, 4)) := fun h => upV_big hI h
    clear hI
    go_enter Tryd.func16, Tryd.ntmps16
    go_wp2_with fail
    refine (CI.out w).mono ?_
    rintro e w1 ⟨rfl, rfl⟩
    go_wp2_with fail
    refine (CR.out _).mono ?_
    rintro e W1 ⟨⟨v1, rfl, hn1⟩, hb1⟩
    have N1 : Hid (NumV W1 10 (bv s.data.toList) v1) := hn1
    have B1 : Hid (Below w1.heap.size w1 W1) := hb1
    clear hn1 hb1
    obtain ⟨x1, y1, e1, h9⟩ := N1.out
    clear h9
    obtain ⟨l1, hl1⟩ : ∃ l, l = (dg 10 (bv s.data.toList)).length := ⟨_, rfl⟩
    rw [← hl1] at e1
    subst e1
    clear hl1
    go_wp2_with fail
    refine (CM.out _).mono ?_
    rintro e W2 ⟨⟨v2, rfl, hn2⟩, hb2⟩
    have N2 : Hid (NumV W2 10 1099511627776 v2) := hn2
    replace N1 : Hid (NumV W2 10 (bv s.data.toList) (.slice x1 l1 y1)) := N1.out.of_below hb2
    have B2 : Hid (Below w1.heap.size w1 W2) := B1.out.trans (hb2.mono B1.out.size)
    clear hn2 hb2 B1
    obtain ⟨x2, y2, e2, h9⟩ := N2.out
    clear h9
    obtain ⟨l2, hl2⟩ : ∃ l, l = (dg 10 1099511627776).length := ⟨_, rfl⟩
    rw [← hl2] at e2
    subst e2
    clear hl2
    go_wp2_with fail
    have CC : Calls Tryd.prog 30 #[.slice x1 l1 y1, .slice x2 l2 y2] W2 fun e w' => e = .returned (.int .i64 (cmp3 (bv s.data.toList : Int) ((1099511627776 : Nat) : Int))) ∧ ∃ k, w' = W2.drewN k := by
      obtain ⟨a1, c1, q1, k1, r1⟩ := N1.out
      obtain ⟨a2, c2, q2, k2, r2⟩ := N2.out
      rw [q1, q2]
      exact refCompare_any W2 a1 a2 c1 c2 _ _ r1 r2 LB.out LM.out
    clear N1 N2
    have HE : Hid (∀ k, k < s.size → 48 ≤ bt s k ∧ bv (s.data.toList.take (k + 1)) = 10 * bv (s.data.toList.take k) + ((bt s k).toNat - 48) ∧ bt s k ≤ 57) := fun k hk => by
      have e := bt_list s k hk
      have h1 := bv_take_succ s.data.toList k hk
      have h2 := (List.all_eq_true.1 hd) (s.data.toList[k]'hk) (List.getElem_mem _)
      simp only [isDig, Bool.and_eq_true, decide_eq_true_eq] at h2
      refine ⟨by omega, ?_, by omega⟩
      rw [h1, e]
      rfl
    have HT : Hid (∀ k, bv (s.data.toList.take k) ≤ bv s.data.toList) := fun k => bv_take_le _ k
    have HF : Hid (bv (s.data.toList.take s.size) = bv s.data.toList) := by
      show _ = _
      rw [List.take_of_length_le (by rw [size_list]; omega)]
    refine CC.mono ?_
    rintro e W3 ⟨rfl, kk, rfl⟩
    have B3 : Hid (Below w1.heap.size w1 (W2.drewN kk)) := ⟨B2.out.os, B2.out.tape, B2.out.output, B2.out.size, B2.out.block⟩
    generalize W2.drewN kk = W3 at *
    clear CC B2 hd
    by_cases hbig : 1099511627776 < bv s.data.toList
    · have HR : Hid (upV s.data.toList 1099511627776 = (0, 4)) := HV2.out hbig
      have hc : cmp3 (bv s.data.toList : Int) ((1099511627776 : Nat) : Int) = 1 := cmp3_gt (by omega)
      rw [hc]
      go_wp2_with fail
      go_ret2
      exact ⟨by rw [HR.out]; rfl, B3.out⟩
    · have HR : Hid (upV s.data.toList 1099511627776 = (bv s.data.toList, 0)) := HV1.out (by omega)
      have hc : ¬ 0 < cmp3 (bv s.data.toList : Int) ((1099511627776 : Nat) : Int) := by
        by_cases h : (bv s.data.toList : Int) < ((1099511627776 : Nat) : Int)
        · rw [cmp3_lt h]; decide
        · rw [cmp3_eq (by omega)]; decide
      generalize cmp3 (bv s.data.toList : Int) ((1099511627776 : Nat) : Int) = cc at *
      have hcc : ¬ (0 : Int) < cc := hc
      go_upto_region 5 with fail
      clear hc hcc
      go_wp2_with fail
      go_loopg [4, 5] s.size (fun gk v4 v5 wr => ∃ k : Nat, k + gk = s.size ∧ v4 = .int .i64 (bv (s.data.toList.take k) : Int) ∧ v5 = .int .i64 (k : Int) ∧ Below w1.heap.size w1 wr)
      case atStart => exact ⟨0, by omega, rfl, rfl, B3.out⟩
      case round =>
        obtain ⟨k, hk, rfl, rfl, hB⟩ := hrel
        have B4 : Hid (Below w1.heap.size w1 wr) := hB
        clear hB
        by_cases hlt : k < s.size
        · have kl : (k : Int) < (s.size : Int) := by omega
          obtain ⟨g1, g2, g3⟩ := HE.out k hlt
          have g4 := HT.out k
          have G2 : Hid (bv (s.data.toList.take (k + 1)) = 10 * bv (s.data.toList.take k) + ((bt s k).toNat - 48)) := g2
          clear g2
          generalize bv (s.data.toList.take k) = n at *
          go_wp2_with fail
          go_roundg (gk - 1)
          case measure => omega
          case rel => exact ⟨k + 1, by omega, by rw [G2.out]; go_num, by go_num, B4.out⟩
        · obtain rfl : k = s.size := by omega
          have hnl : ¬ ((s.size : Nat) : Int) < (s.size : Int) := by omega
          rw [HF.out]
          go_wp2_with fail
          go_ret2
          exact ⟨by rw [HR.out]; rfl, B4.out⟩
/-- The world grew. -/
theorem decDigits_txt (n : Nat) : Lib.decDigits n = txt n := by
  induction n using Nat.strongRecOn with
  | _ n ih =>
    by_cases h : n < 10
    · rw [Lib.decDigits_one h]
      by_cases h0 : n = 0
      · subst h0; rfl
      · rw [txt, if_neg h0, dg_pos ten h0, show n / 10 = 0 by omega, dg_zero, show n % 10 = n by omega]
        simp [chars, Nat.add_comm]
    · rw [Lib.decDigits, dif_neg h, ih (n / 10) (by omega), txt, txt, if_neg (by omega), if_neg (by omega), dg_pos ten (show n ≠ 0 by omega)]
      simp [chars, Nat.add_comm]
theorem itoa_T (n : Nat) : (⟨(Lib.itoa (n : Int)).toArray⟩ : ByteArray) = T n := by rw [Lib.itoa_nonneg, decDigits_txt]; rfl
set_option maxHeartbeats 1000000 in
theorem digits_any (n : Nat) (hn : n ≤ 9000000000000) (w : World) :
    Calls Tryd.prog 15 #[.int .i64 (n : Int)] w fun e w' => e = .returned (.string (T n)) ∧ Below w.heap.size w w' := by
  have L1 : Hid ((dg 10 n).length ≤ 4000000) := Nat.le_trans (dg_len_le ten 13 n (by omega)) (by omega)
  go_enter Tryd.func15, Tryd.ntmps15
  go_wp2_with fail
  refine (refOf_any w n hn).mono ?_
  rintro e W1 ⟨⟨v, rfl, hn1⟩, hb1⟩
  have B1 : Hid (Below w.heap.size w W1) := hb1
  obtain ⟨a, c, rfl, h3, h4⟩ := hn1
  have CT : Hid (Calls Tryd.prog 27 #[.slice a (dg 10 n).length c] W1 fun e w' => e = .returned (.string (T n)) ∧ Below W1.heap.size W1 w') := refText_any W1 a c n h4 L1.out
  clear hb1 h3 h4
  generalize (dg 10 n).length = l at *
  go_wp2_with fail
  refine CT.out.mono ?_
  rintro e W2 ⟨rfl, hb⟩
  have B2 : Hid (Below w.heap.size w W2) := B1.out.trans (hb.mono B1.out.size)
  clear hb
  go_wp2_with fail
  go_ret
  exact ⟨rfl, B2.out⟩
set_option maxHeartbeats 1000000 in
theorem readNumber_any (s : ByteArray) (hs : s.size < 140737488355328) (w : World) :
    Calls Tryd.prog 14 #[.string s] w fun e w' => e = .returned (.tuple #[.int .i64 ((upV s.data.toList 1099511627776).1 : Int), .int .i64 ((upV s.data.toList 1099511627776).2 : Int)]) ∧ Below w.heap.size w w' := by
  have C := upTo_any s 1099511627776 hs (by omega) w
  generalize ((upV s.data.toList 1099511627776).1 : Int) = x at *
  generalize ((upV s.data.toList 1099511627776).2 : Int) = y at *
  go_enter Tryd.func14, Tryd.ntmps14
  go_wp2_with fail
  refine C.mono ?_
  rintro e W1 ⟨rfl, hb1⟩
  have B1 : Hid (Below w.heap.size w W1) := hb1
  clear hb1 C
  go_wp2_with fail
  go_ret2
  exact ⟨rfl, B1.out⟩
end Go.Proofs.YtlogilmeefcipaaDoor
