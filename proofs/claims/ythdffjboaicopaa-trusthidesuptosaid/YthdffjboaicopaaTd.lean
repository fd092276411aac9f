/- Trust's weights, what goes through values, and Through. -/
import Derived.Test.YthdffjboaicopaaTc
set_option linter.unusedSimpArgs false
set_option linter.unusedVariables false
set_option maxRecDepth 100000
namespace Go.Proofs.Ythdffjboaicopaa
open Go.RowKit Go.Deep Go.PlainAid

theorem Try.info9' : (Try.prog.info? 9).map (fun i => (i.zero, i.size, i.bytes)) = some (some (.string ⟨#[]⟩), 1, 16) := by kernel_rfl
theorem Try.under23 : Try.prog.underlying 23 = some (.slice 9) := by kernel_rfl
/-- Texts that are made, then empty ones. -/
def half (q : List ByteArray) (n i : Nat) : List Value := (q.take i).map Value.string ++ List.replicate (n - i) (.string ⟨#[]⟩)
theorem half_zero (q : List ByteArray) (n : Nat) : half q n 0 = List.replicate n (.string ⟨#[]⟩) := by simp [half]
theorem half_set {q : List ByteArray} {n i : Nat} (hq : q.length = n) (hi : i < n) (hi' : i < q.length) : (half q n i).set i (.string q[i]) = half q n (i + 1) := by
  unfold half
  have hl : ((q.take i).map Value.string).length = i := by simp; omega
  rw [List.set_append_right _ _ (by omega), hl, Nat.sub_self, List.take_succ_eq_append_getElem hi', List.map_append, List.append_assoc]
  congr 1
  obtain ⟨k, hk⟩ : ∃ k, n - i = k + 1 := ⟨n - i - 1, by omega⟩
  rw [hk, show n - (i + 1) = k by omega, List.replicate_succ]
  simp
theorem half_length {q : List ByteArray} {n i : Nat} (hq : q.length = n) (hi : i ≤ n) : (half q n i).length = n := by unfold half; simp; omega
theorem half_full {q : List ByteArray} {n : Nat} (hq : q.length = n) : half q n n = q.map Value.string := by unfold half; simp [List.take_of_length_le (Nat.le_of_eq hq)]
theorem IHolds.sl {w : World} {b : Nat} {t : TypeId} {q : List ByteArray} (h : IHolds w b t (q.map Value.string)) : SL w (some ⟨b, 0, none⟩) q := by
  intro i hi
  refine ⟨b, 0, rfl, ?_⟩
  rw [Nat.zero_add, h.cell i (by simpa using hi)]
  simp
theorem make23 (z : Int) (n : Nat) (hz : z = (n : Int)) (hn : n ≤ 4294967296) (w : World) : (Instr.makeSlice 23 (.int .i64 z) (.int .i64 z)).run Try.prog w = .ok (.slice (some ⟨w.heap.size, 0, none⟩) n n) (w.alloc (.cells (List.replicate n (Value.string ⟨#[]⟩)).toArray 9)) := by
  subst hz
  have := run_make_row' (P := Try.prog) 23 9 (.string ⟨#[]⟩) 16 Try.under23 Try.info9' rfl .i64 .i64 n (by omega) (by omega) w
  rw [this]
  have e : madeCells #[Value.string ⟨#[]⟩] n = (List.replicate n (Value.string ⟨#[]⟩)).toArray := by
    apply Array.toList_inj.1
    rw [toList_madeCells_one]
  rw [e]
set_option maxHeartbeats 4000000 in
theorem weights15 {w : World} {z x : Int} {a : Option Addr} {c : Nat} {P : List Int} {q : List ByteArray} (hn : P.length ≤ 16) (hql : q.length = P.length) (hs : IL w a P)
    (CW : ∀ i (h : i < P.length) (h' : i < q.length) W, Below w.heap.size w W → Calls Try.prog 24 #[.agg #[.int .i64 z, .slice a P.length c], .int .i64 P[i], .int .i64 x] W fun e w' => e = .returned (.string q[i]) ∧ Below W.heap.size W w') :
    Calls Try.prog 15 #[.agg #[.int .i64 z, .slice a P.length c], .int .i64 x] w fun e w' => (∃ a' c', e = .returned (.slice a' P.length c') ∧ SL w' a' q) ∧ Below w.heap.size w w' := by
  have HS : Hid (IL w a P) := hs
  have HQ : Hid (q.length = P.length) := hql
  have HW : Hid _ := CW
  clear hs hql CW
  generalize hW1 : w.alloc (.cells #[.int .i64 z, .slice a P.length c] 31) = W1
  have z1 : W1.heap.size = w.heap.size + 1 := by rw [← hW1]; simp
  obtain ⟨W2, hW2⟩ : ∃ W2, W2 = W1.alloc (.cells (List.replicate P.length (Value.string ⟨#[]⟩)).toArray 9) := ⟨_, rfl⟩
  have hmk : (Instr.makeSlice 23 (.int .i64 (P.length : Int)) (.int .i64 (P.length : Int))).run Try.prog W1 = .ok (.slice (some ⟨w.heap.size + 1, 0, none⟩) P.length P.length) W2 := by rw [make23 _ P.length rfl (by omega), hW2, z1]
  have JB : Hid (Below w.heap.size w W2) := by rw [hW2, ← hW1]; exact ((Below.refl _ w).alloc (Nat.le_refl _) _).alloc (by simp) _
  have JP1 : Hid (IHolds W1 w.heap.size 31 [.int .i64 z, .slice a P.length c]) := by rw [← hW1]; exact IHolds.new w 31 [_, _]
  have JP : Hid (IHolds W2 w.heap.size 31 [.int .i64 z, .slice a P.length c]) := by rw [hW2]; exact JP1.out.alloc _
  have JI : Hid (IHolds W2 (w.heap.size + 1) 9 (half q P.length 0)) := by rw [hW2, half_zero]; exact IHolds.new' _ _ _ z1
  have j0 : W1.cell? ⟨w.heap.size, 1, none⟩ = some (.slice a P.length c) := JP1.out.cell 1 (by simp)
  have j1 : W2.cell? ⟨w.heap.size, 1, none⟩ = some (.slice a P.length c) := JP.out.cell 1 (by simp)
  clear hW2 z1 JP1
  go_enter Try.func15, Try.ntmps15
  go_wp2_with fail
  clear j0 j1 hmk hW1
  go_loopg [6, 7, 15] P.length (fun gk v6 v7 v15 wr => ∃ i : Nat, i + gk = P.length ∧ v15 = .int .i64 (i : Int) ∧ Below w.heap.size w wr ∧ IHolds wr w.heap.size 31 [.int .i64 z, .slice a P.length c] ∧ IHolds wr (w.heap.size + 1) 9 (half q P.length i))
  case atStart => exact ⟨0, by omega, rfl, JB.out, JP.out, JI.out⟩
  case round =>
    obtain ⟨i, hig, rfl, hB, hJ, hI⟩ := hrel
    have B : Hid (Below w.heap.size w wr) := hB
    have J : Hid (IHolds wr w.heap.size 31 [.int .i64 z, .slice a P.length c]) := hJ
    have I : Hid (IHolds wr (w.heap.size + 1) 9 (half q P.length i)) := hI
    clear hB hI hJ JB JP JI
    by_cases hi : i < P.length
    · have hi3 : i < q.length := by have := HQ.out; omega
      have il : (i : Int) < (P.length : Int) := by omega
      have hcall := HW.out i hi hi3 wr B.out
      obtain ⟨b1, o1, rfl, hc1⟩ := HS.out.of_below B.out i hi
      have HH : Hid _ := half_set HQ.out hi hi3
      have HL : Hid ((half q P.length i).length = P.length) := half_length HQ.out (by omega)
      obtain ⟨q0, q1⟩ := c2 J.out
      generalize P[i] = s at *
      generalize q[i] = r at *
      go_wp2_with (go_at_call 24; refine hcall.mono ?_; rintro e w3 ⟨rfl, hB3⟩; have B3 : Hid (Below w.heap.size w w3) := B.out.trans (hB3.mono B.out.size); have J3 : Hid _ := J.out.of_below hB3; have I3 : Hid (IHolds w3 (w.heap.size + 1) 9 (half q P.length i)) := I.out.of_below hB3; have f3 : w3.frozen? ⟨w.heap.size + 1, i, none⟩ = false := I3.out.frozen i; have g3 := I3.out.cell i (by have := HL.out; omega); clear hB3)
      have I4 : Hid (IHolds (w3.setCell ⟨w.heap.size + 1, i, none⟩ (.string r)) (w.heap.size + 1) 9 (half q P.length (i + 1))) := by
        have := I3.out.set i (.string r)
        rw [HH.out] at this
        exact this
      have B4 : Hid (Below w.heap.size w (w3.setCell ⟨w.heap.size + 1, i, none⟩ (.string r))) := Below.setCell B3.out (by show w.heap.size ≤ w.heap.size + 1; omega) _
      have J4 : Hid (IHolds (w3.setCell ⟨w.heap.size + 1, i, none⟩ (.string r)) w.heap.size 31 [.int .i64 z, .slice (some ⟨b1, o1, none⟩) P.length c]) := by
        unfold IHolds
        rw [Below.heap_setCell w3 ⟨w.heap.size + 1, i, none⟩ (.string r) w.heap.size (by show w.heap.size ≠ w.heap.size + 1; omega)]
        exact J3.out
      go_roundg (gk - 1)
      case measure => omega
      case rel => exact ⟨i + 1, by omega, by go_num, B4.out, J4.out, I4.out⟩
    · have il : ¬ (i : Int) < (P.length : Int) := by omega
      have e : i = P.length := by omega
      have I5 : Hid (SL wr (some ⟨w.heap.size + 1, 0, none⟩) q) := by
        have h := I.out
        rw [e, half_full HQ.out] at h
        exact h.sl
      clear e
      go_wp2_with fail
      go_ret
      exact ⟨⟨_, ⟨_, rfl⟩, I5.out⟩, B.out⟩
/-- The sum of weights times values. -/
def su (pl tm : ByteArray → ByteArray → ByteArray) (z0 : ByteArray) : List ByteArray → List ByteArray → ByteArray := fun ws vs => (List.zipWith tm ws vs).foldl pl z0
theorem su_take {pl tm : ByteArray → ByteArray → ByteArray} {z0 : ByteArray} {ws vs : List ByteArray} {i : Nat} (h : i < ws.length) (h' : i < vs.length) : su pl tm z0 (ws.take (i + 1)) (vs.take (i + 1)) = pl (su pl tm z0 (ws.take i) (vs.take i)) (tm ws[i] vs[i]) := by
  unfold su
  rw [← List.take_zipWith, ← List.take_zipWith, List.take_succ_eq_append_getElem (by simp; omega), List.foldl_append]
  simp
end Go.Proofs.Ythdffjboaicopaa
