/- The walks of inFours and Letters, and of the document's Letters. -/
import Derived.Test.YtlogilmeefcipaaBuild
set_option linter.unusedSimpArgs false
set_option linter.unusedVariables false
set_option maxRecDepth 100000
namespace Go.Proofs.Ytlogilmeefcipaa
open Go.RowKit Go.Deep Go.PlainAid

/-- The signs. -/
abbrev sgB : ByteArray := ⟨#[48, 49, 50, 51, 52, 53, 54, 55, 56, 57, 65, 66, 67, 68, 69, 70, 71, 72, 74, 75, 77, 78, 80, 81, 82, 83, 84, 86, 87, 88, 89, 90, 42, 126, 36, 61, 85]⟩
/-- The sign of a value. -/
def sg (v : Nat) : UInt8 := UInt8.ofNat (bt sgB v)
theorem sg_toNat (v : Nat) : (sg v).toNat = bt sgB v := by
  unfold sg
  rw [UInt8.toNat_ofNat', Nat.mod_eq_of_lt (bt_lt _ _)]
/-- Signs in fours. -/
def foursP (l : List Nat) : Nat × List UInt8 := l.foldl (fun p v => (p.1 + 1, p.2 ++ (if 0 < p.1 ∧ p.1 % 4 = 0 then [45] else []) ++ [sg v])) (0, [])
def fours (l : List Nat) : List UInt8 := (foursP l).2
theorem foursP_snoc (l : List Nat) (v : Nat) : foursP (l ++ [v]) = ((foursP l).1 + 1, (foursP l).2 ++ (if 0 < (foursP l).1 ∧ (foursP l).1 % 4 = 0 then [45] else []) ++ [sg v]) := by simp [foursP]
theorem foursP_len : ∀ (n : Nat) (l : List Nat), l.length = n → (foursP l).1 = n
  | 0, l, h => by rw [List.length_eq_zero_iff.1 h]; rfl
  | n + 1, l, h => by
    obtain ⟨i, d, rfl, hi⟩ := snoc_of_length h
    rw [foursP_snoc, foursP_len n i hi]
theorem foursP_fst (l : List Nat) : (foursP l).1 = l.length := foursP_len _ l rfl
theorem fours_snoc (l : List Nat) (v : Nat) : fours (l ++ [v]) = fours l ++ (if 0 < l.length ∧ l.length % 4 = 0 then [45] else []) ++ [sg v] := by
  unfold fours
  rw [foursP_snoc, foursP_fst]
theorem fours_dash {l : List Nat} {r : Nat} (h : r < l.length) (h0 : 0 < r) (h4 : r % 4 = 0) : fours (l.take (r + 1)) = fours (l.take r) ++ [45] ++ [sg l[r]] := by
  rw [List.take_succ_eq_append_getElem h, fours_snoc, List.length_take, Nat.min_eq_left (by omega), if_pos ⟨h0, h4⟩]
theorem fours_plain {l : List Nat} {r : Nat} (h : r < l.length) (h4 : ¬ (0 < r ∧ r % 4 = 0)) : fours (l.take (r + 1)) = fours (l.take r) ++ [sg l[r]] := by
  rw [List.take_succ_eq_append_getElem h, fours_snoc, List.length_take, Nat.min_eq_left (by omega), if_neg h4, List.append_nil]
theorem fours_len_le : ∀ (n : Nat) (l : List Nat), l.length = n → (fours l).length ≤ 2 * n
  | 0, l, h => by rw [List.length_eq_zero_iff.1 h]; simp [fours, foursP]
  | n + 1, l, h => by
    obtain ⟨i, d, rfl, hi⟩ := snoc_of_length h
    have := fours_len_le n i hi
    rw [fours_snoc]
    simp only [List.length_append, List.length_cons, List.length_nil]
    split <;> simp <;> omega
theorem fours_le (l : List Nat) : (fours l).length ≤ 2 * l.length := fours_len_le _ l rfl
set_option maxHeartbeats 1000000 in
theorem inFours_any (w : World) (a : Option Addr) (cap : Nat) (l : List Nat) (hl : l.length ≤ 1000) (hg : ∀ d ∈ l, d < 37) (hr : VRow w a (l.map Y)) :
    Calls Try.prog 22 #[.slice a l.length cap] w fun e w' => e = .returned (.string ⟨(fours l).toArray⟩) ∧ Below w.heap.size w w' := by
  have HR : Hid (VRow w a (l.map Y)) := hr
  have HG : Hid (∀ d ∈ l, d < 37) := hg
  have hsb := get_bs (⟨#[48, 49, 50, 51, 52, 53, 54, 55, 56, 57, 65, 66, 67, 68, 69, 70, 71, 72, 74, 75, 77, 78, 80, 81, 82, 83, 84, 86, 87, 88, 89, 90, 42, 126, 36, 61, 85]⟩ : ByteArray)
  have W0 : Hid (Lib.IsBuilder 60 5 w.heap.size w.heap.size (Lib.byteCells []) (w.alloc (.cells #[.pointer none, .slice none 0 0] 60))) := Lib.fresh_isBuilder 60 5 w
  have B0 : Hid (Below w.heap.size w (w.alloc (.cells #[.pointer none, .slice none 0 0] 60))) := (Below.refl _ w).alloc (Nat.le_refl _) _
  clear hr hg
  go_enter Try.func22, Try.ntmps22
  go_wp2_with fail
  generalize w.alloc (.cells #[.pointer none, .slice none 0 0] 60) = U0 at *
  go_loopg [4, 5, 8] l.length (fun gk v4 v5 v8 wr => ∃ r : Nat, r + gk = l.length ∧ v8 = .int .i64 (r : Int) ∧ Lib.IsBuilder 60 5 w.heap.size w.heap.size (Lib.byteCells (fours (l.take r))) wr ∧ Below w.heap.size w wr)
  case atStart => exact ⟨0, by omega, rfl, W0.out, B0.out⟩
  case round =>
    clear W0 B0
    obtain ⟨r, hrg, rfl, hI, hB⟩ := hrel
    have A : Hid (Lib.IsBuilder 60 5 w.heap.size w.heap.size (Lib.byteCells (fours (l.take r))) wr) := hI
    have B : Hid (Below w.heap.size w wr) := hB
    have L9 : (fours (l.take r)).length ≤ 2000 := by have := fours_le (l.take r); rw [List.length_take] at this; omega
    clear hI hB
    by_cases hr2 : r < l.length
    · obtain ⟨gb, go, rfl, hc⟩ := HR.out r (by simpa using hr2)
      rw [← B.out.cell (p := ⟨gb, go + r, none⟩) (World.block_lt_of_cell? w ⟨gb, go + r, none⟩ hc)] at hc
      rw [List.getElem_map] at hc
      have hg1 := HG.out l[r] (List.getElem_mem _)
      have K1 : Hid (0 < r → r % 4 = 0 → fours (l.take (r + 1)) = fours (l.take r) ++ [45] ++ [sg l[r]]) := fun h0 h4 => fours_dash hr2 h0 h4
      have K2 : Hid (¬ (0 < r ∧ r % 4 = 0) → fours (l.take (r + 1)) = fours (l.take r) ++ [sg l[r]]) := fun h4 => fours_plain hr2 h4
      generalize l[r] = c at *
      have rlt : (r : Int) < (l.length : Int) := by omega
      have b9 : bt sgB c < 256 := bt_lt _ _
      have KW : Hid (∀ (acc : List UInt8) W, acc.length ≤ 2001 → Lib.IsBuilder 60 5 w.heap.size w.heap.size (Lib.byteCells acc) W → w.heap.size ≤ W.heap.size → Calls Try.prog 33 #[.pointer (some ⟨w.heap.size, 0, none⟩), .int .u8 (bt sgB c : Int)] W fun e w' => e = .returned .nilIface ∧ Lib.IsBuilder 60 5 w.heap.size w.heap.size (Lib.byteCells (acc ++ [sg c])) w' ∧ Below w.heap.size W w') := fun acc W h9 hI hW => by
        refine (writeByte_any w.heap.size w.heap.size _ (bt sgB c : Int) W hI (by rw [Lib.byteCells_length]; omega) hW).mono ?_
        rintro e w' ⟨h1, h2, h3⟩
        refine ⟨h1, Or.inr ?_, h3⟩
        have e1 : Lib.byteCells (acc ++ [sg c]) = Lib.byteCells acc ++ [.int .u8 (bt sgB c : Int)] := by simp [Lib.byteCells, sg_toNat]
        rw [e1]
        exact h2
      obtain ⟨r4, hr4⟩ : ∃ r4, r4 = r % 4 := ⟨_, rfl⟩
      have k4 : (r : Int).tmod 4 = (r4 : Int) := by rw [Int.tmod_eq_emod_of_nonneg (by omega)]; omega
      have k4' : (r : Int) % 4 = (r4 : Int) := by omega
      rw [← hr4] at K1 K2
      clear hr4
      by_cases hdash : 0 < r ∧ r4 = 0
      · have E := K1.out hdash.1 hdash.2
        have HE : Hid (fours (l.take (r + 1)) = fours (l.take r) ++ [45] ++ [sg c]) := E
        have d1 : (0 : Int) < (r : Int) := by omega
        have d2 : (r4 : Int) = 0 := by omega
        have CD : Hid (Calls Try.prog 33 #[.pointer (some ⟨w.heap.size, 0, none⟩), .int .u8 45] wr fun e w' => e = .returned .nilIface ∧ Lib.IsBuilder 60 5 w.heap.size w.heap.size (Lib.byteCells (fours (l.take r) ++ [45])) w' ∧ Below w.heap.size wr w') := by
          refine (writeByte_any w.heap.size w.heap.size _ 45 wr A.out (by rw [Lib.byteCells_length]; omega) B.out.size).mono ?_
          rintro e w' ⟨h1, h2, h3⟩
          refine ⟨h1, Or.inr ?_, h3⟩
          have e1 : Lib.byteCells (fours (l.take r) ++ [45]) = Lib.byteCells (fours (l.take r)) ++ [.int .u8 45] := by simp [Lib.byteCells]
          rw [e1]
          exact h2
        clear E K1 K2 A hdash
        go_wp2_with fail
        refine CD.out.mono ?_
        rintro e W1 ⟨rfl, hI, hb⟩
        have A1 : Hid (Lib.IsBuilder 60 5 w.heap.size w.heap.size (Lib.byteCells (fours (l.take r) ++ [45])) W1) := hI
        have B1 : Hid (Below w.heap.size w W1) := B.out.trans hb
        clear hI hb CD
        go_wp2_with fail
        refine (KW.out _ W1 (by simp; omega) A1.out B1.out.size).mono ?_
        rintro e W2 ⟨rfl, hI, hb⟩
        have A2 : Hid (Lib.IsBuilder 60 5 w.heap.size w.heap.size (Lib.byteCells (fours (l.take r) ++ [45] ++ [sg c])) W2) := hI
        have B2 : Hid (Below w.heap.size w W2) := B1.out.trans hb
        clear hI hb
        go_wp2_with fail
        go_roundg (gk - 1)
        case measure => omega
        case rel => exact ⟨r + 1, by omega, by go_num, by rw [HE.out]; exact A2.out, B2.out⟩
      · have E := K2.out hdash
        have HE : Hid (fours (l.take (r + 1)) = fours (l.take r) ++ [sg c]) := E
        clear E K1 K2
        by_cases d1 : 0 < r
        · have d1' : (0 : Int) < (r : Int) := by omega
          have d2 : ¬ (r4 : Int) = 0 := by omega
          have d3 : ((r4 : Int) == 0) = false := by simpa using d2
          go_wp2_with fail
          refine (KW.out _ wr (by omega) A.out B.out.size).mono ?_
          rintro e W2 ⟨rfl, hI, hb⟩
          have A2 : Hid (Lib.IsBuilder 60 5 w.heap.size w.heap.size (Lib.byteCells (fours (l.take r) ++ [sg c])) W2) := hI
          have B2 : Hid (Below w.heap.size w W2) := B.out.trans hb
          clear hI hb
          go_wp2_with fail
          go_roundg (gk - 1)
          case measure => omega
          case rel => exact ⟨r + 1, by omega, by go_num, by rw [HE.out]; exact A2.out, B2.out⟩
        · have d1' : ¬ (0 : Int) < (r : Int) := by omega
          go_wp2_with fail
          refine (KW.out _ wr (by omega) A.out B.out.size).mono ?_
          rintro e W2 ⟨rfl, hI, hb⟩
          have A2 : Hid (Lib.IsBuilder 60 5 w.heap.size w.heap.size (Lib.byteCells (fours (l.take r) ++ [sg c])) W2) := hI
          have B2 : Hid (Below w.heap.size w W2) := B.out.trans hb
          clear hI hb
          go_wp2_with fail
          go_roundg (gk - 1)
          case measure => omega
          case rel => exact ⟨r + 1, by omega, by go_num, by rw [HE.out]; exact A2.out, B2.out⟩
    · obtain rfl : r = l.length := by omega
      have hnl : ¬ ((l.length : Nat) : Int) < (l.length : Int) := by omega
      have A2 : Hid (Lib.IsBuilder 60 5 w.heap.size w.heap.size (Lib.byteCells (fours l)) wr) := by
        have := A.out
        rw [List.take_length] at this
        exact this
      go_wp2_with fail
      refine (Try.Builder_String_any w.heap.size w.heap.size (fours l) wr A2.out B.out.size).mono ?_
      rintro e W1 ⟨rfl, hb⟩
      have B1 : Hid (Below w.heap.size w W1) := B.out.trans hb
      clear hb
      go_wp2_with fail
      go_ret
      exact ⟨rfl, B1.out⟩
end Go.Proofs.Ytlogilmeefcipaa
