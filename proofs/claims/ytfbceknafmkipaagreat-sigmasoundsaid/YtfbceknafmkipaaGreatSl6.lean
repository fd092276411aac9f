/- each and both. -/
import Derived.Test.YtfbceknafmkipaaGreatSl5
set_option linter.unusedSimpArgs false
set_option linter.unusedVariables false
set_option maxRecDepth 100000
namespace Go.Proofs.YtfbceknafmkipaaGreat
open Go.RowKit Go.Deep Go.PlainAid

theorem Tryz.info9' : (Tryz.prog.info? 9).map (fun i => (i.zero, i.size, i.bytes)) = some (some (.string ⟨#[]⟩), 1, 16) := by kernel_rfl
theorem Tryz.under22 : Tryz.prog.underlying 23 = some (.slice 9) := by kernel_rfl
/-- The cells of a list that is made in part. -/
def half (q : List ByteArray) (n i : Nat) : List Value := (q.take i).map Value.string ++ List.replicate (n - i) (.string ⟨#[]⟩)
theorem half_zero (q : List ByteArray) (n : Nat) : half q n 0 = List.replicate n (.string ⟨#[]⟩) := by simp [half]
theorem half_set {q : List ByteArray} {n i : Nat} (hq : q.length = n) (hi : i < n) (hi' : i < q.length) : (half q n i).set i (.string q[i]) = half q n (i + 1) := by
  unfold half
  have hl : ((q.take i).map Value.string).length = i := by simp; omega
  rw [List.set_append_right _ _ (by omega), hl, Nat.sub_self, List.take_succ_eq_append_getElem hi', List.map_append, List.append_assoc]
  congr 1
  rw [show n - i = (n - (i + 1)) + 1 by omega, List.replicate_succ, List.set_cons_zero]
  rfl
theorem half_length {q : List ByteArray} {n i : Nat} (hq : q.length = n) (hi : i ≤ n) : (half q n i).length = n := by unfold half; simp; omega
theorem half_full {q : List ByteArray} {n : Nat} (hq : q.length = n) : half q n n = q.map Value.string := by unfold half; simp [List.take_of_length_le (Nat.le_of_eq hq)]
theorem IHolds.sl {w : World} {b : Nat} {t : TypeId} {q : List ByteArray} (h : IHolds w b t (q.map Value.string)) : SL w (some ⟨b, 0, none⟩) q := by
  intro i hi
  refine ⟨b, 0, rfl, ?_⟩
  rw [Nat.zero_add, h.cell i (by simpa using hi)]
  simp
theorem make22 (z : Int) (n : Nat) (hz : z = (n : Int)) (hn : n ≤ 8796093022207) (w : World) : (Instr.makeSlice 23 (.int .i64 z) (.int .i64 z)).run Tryz.prog w = .ok (.slice (some ⟨w.heap.size, 0, none⟩) n n) (w.alloc (.cells (List.replicate n (Value.string ⟨#[]⟩)).toArray 9)) := by
  subst hz
  have := run_make_row' (P := Tryz.prog) 23 9 (.string ⟨#[]⟩) 16 Tryz.under22 Tryz.info9' rfl .i64 .i64 n (by omega) (by omega) w
  rw [this]
  have e : madeCells #[Value.string ⟨#[]⟩] n = (List.replicate n (Value.string ⟨#[]⟩)).toArray := by
    apply Array.toList_inj.1
    rw [toList_madeCells_one]
  rw [e]
set_option maxHeartbeats 1000000 in
theorem both70 {w : World} {a b : Option Addr} {l m q : List ByteArray} {c d : Nat} {z : Int} (hn : l.length ≤ 8796093022207) (hml : m.length = l.length) (hql : q.length = l.length) (hs : SL w a l) (hm : SL w b m)
    (CF : ∀ i (h1 : i < l.length) (h2 : i < m.length) (h3 : i < q.length) W, Calls Tryz.prog 48 #[.agg #[.int .i64 z], .string l[i], .string m[i]] W fun e w' => e = .returned (.string q[i]) ∧ Below W.heap.size W w') :
    Calls Tryz.prog 51 #[.slice a l.length c, .slice b m.length d, .func (.func 48) #[.agg #[.int .i64 z]] #[]] w fun e w' => (∃ a' c', e = .returned (.slice a' l.length c') ∧ SL w' a' q) ∧ Below w.heap.size w w' := by
  have HS : Hid (SL w a l) := hs
  have HM : Hid (SL w b m) := hm
  have HQ : Hid (q.length = l.length) := hql
  have hmk := make22 _ l.length rfl hn w
  have JI : Hid (IHolds (w.alloc (.cells (List.replicate l.length (Value.string ⟨#[]⟩)).toArray 9)) w.heap.size 9 (half q l.length 0)) := by rw [half_zero]; exact IHolds.new _ _ _
  have JB : Hid (Below w.heap.size w (w.alloc (.cells (List.replicate l.length (Value.string ⟨#[]⟩)).toArray 9))) := (Below.refl _ w).alloc (Nat.le_refl _) _
  rw [hml]
  clear hs hm hql
  go_enter Tryz.func51, Tryz.ntmps51
  generalize w.alloc (.cells (List.replicate l.length (Value.string ⟨#[]⟩)).toArray 9) = U at *
  go_wp2_with fail
  go_loopg [8, 9, 15] l.length (fun gk v8 v9 v15 wr => ∃ i : Nat, i + gk = l.length ∧ v15 = .int .i64 (i : Int) ∧ Below w.heap.size w wr ∧ IHolds wr w.heap.size 9 (half q l.length i))
  case atStart => exact ⟨0, by omega, rfl, JB.out, JI.out⟩
  case round =>
    obtain ⟨i, hig, rfl, hB, hI⟩ := hrel
    have B : Hid (Below w.heap.size w wr) := hB
    have I : Hid (IHolds wr w.heap.size 9 (half q l.length i)) := hI
    clear hB hI
    by_cases hi : i < l.length
    · have hi2 : i < m.length := by omega
      have hi3 : i < q.length := by have := HQ.out; omega
      have il : (i : Int) < (l.length : Int) := by omega
      obtain ⟨b1, o1, rfl, hc1⟩ := HS.out.of_below B.out i hi
      obtain ⟨b2, o2, rfl, hc2⟩ := HM.out.of_below B.out i hi2
      have hcall := CF i hi hi2 hi3
      have HH : Hid _ := half_set HQ.out hi hi3
      have HL : Hid ((half q l.length i).length = l.length) := half_length HQ.out (by omega)
      generalize l[i] = s at *
      generalize m[i] = t at *
      generalize q[i] = r at *
      go_wp2_with (go_at_call 48; refine (hcall _).mono ?_; rintro e w3 ⟨rfl, hB3⟩; have B3 : Hid (Below w.heap.size w w3) := B.out.trans (hB3.mono B.out.size); have I3 : Hid (IHolds w3 w.heap.size 9 (half q l.length i)) := I.out.of_below hB3; have f3 : w3.frozen? ⟨w.heap.size, i, none⟩ = false := I3.out.frozen i; have g3 := I3.out.cell i (by have := HL.out; omega); clear hB3)
      have I4 : Hid (IHolds (w3.setCell ⟨w.heap.size, i, none⟩ (.string r)) w.heap.size 9 (half q l.length (i + 1))) := by
        have := I3.out.set i (.string r)
        rw [HH.out] at this
        exact this
      have B4 : Hid (Below w.heap.size w (w3.setCell ⟨w.heap.size, i, none⟩ (.string r))) := Below.setCell B3.out (Nat.le_refl _) _
      go_roundg (gk - 1)
      case measure => omega
      case rel => exact ⟨i + 1, by omega, by go_num, B4.out, I4.out⟩
    · have il : ¬ (i : Int) < (l.length : Int) := by omega
      have e : i = l.length := by omega
      have I5 : Hid (SL wr (some ⟨w.heap.size, 0, none⟩) q) := by
        have h := I.out
        rw [e, half_full HQ.out] at h
        exact h.sl
      clear e
      go_wp2_with fail
      go_ret
      exact ⟨⟨_, ⟨_, rfl⟩, I5.out⟩, B.out⟩
set_option maxHeartbeats 1000000 in
theorem each69 {w : World} {a : Option Addr} {l q : List ByteArray} {c g p : Nat} (hn : l.length ≤ 8796093022207) (hql : q.length = l.length) (hs : SL w a l)
    (CF : ∀ i (h1 : i < l.length) (h3 : i < q.length) W, Below w.heap.size w W → Calls Tryz.prog 84 #[.string l[i], .pointer (some ⟨g, 0, none⟩), .pointer (some ⟨p, 0, none⟩)] W fun e w' => e = .returned (.string q[i]) ∧ Below W.heap.size W w') :
    Calls Tryz.prog 44 #[.slice a l.length c, .func (.func 84) #[] #[.pointer (some ⟨g, 0, none⟩), .pointer (some ⟨p, 0, none⟩)]] w fun e w' => (∃ a' c', e = .returned (.slice a' l.length c') ∧ SL w' a' q) ∧ Below w.heap.size w w' := by
  have HS : Hid (SL w a l) := hs
  have HQ : Hid (q.length = l.length) := hql
  have hmk := make22 _ l.length rfl hn w
  have JI : Hid (IHolds (w.alloc (.cells (List.replicate l.length (Value.string ⟨#[]⟩)).toArray 9)) w.heap.size 9 (half q l.length 0)) := by rw [half_zero]; exact IHolds.new _ _ _
  have JB : Hid (Below w.heap.size w (w.alloc (.cells (List.replicate l.length (Value.string ⟨#[]⟩)).toArray 9))) := (Below.refl _ w).alloc (Nat.le_refl _) _
  clear hs hql
  go_enter Tryz.func44, Tryz.ntmps44
  generalize w.alloc (.cells (List.replicate l.length (Value.string ⟨#[]⟩)).toArray 9) = U at *
  go_wp2_with fail
  go_loopg [6, 7, 13] l.length (fun gk v6 v7 v13 wr => ∃ i : Nat, i + gk = l.length ∧ v13 = .int .i64 (i : Int) ∧ Below w.heap.size w wr ∧ IHolds wr w.heap.size 9 (half q l.length i))
  case atStart => exact ⟨0, by omega, rfl, JB.out, JI.out⟩
  case round =>
    obtain ⟨i, hig, rfl, hB, hI⟩ := hrel
    have B : Hid (Below w.heap.size w wr) := hB
    have I : Hid (IHolds wr w.heap.size 9 (half q l.length i)) := hI
    clear hB hI
    by_cases hi : i < l.length
    · have hi3 : i < q.length := by have := HQ.out; omega
      have il : (i : Int) < (l.length : Int) := by omega
      obtain ⟨b1, o1, rfl, hc1⟩ := HS.out.of_below B.out i hi
      have hcall := CF i hi hi3 wr B.out
      have HH : Hid _ := half_set HQ.out hi hi3
      have HL : Hid ((half q l.length i).length = l.length) := half_length HQ.out (by omega)
      generalize l[i] = s at *
      generalize q[i] = r at *
      go_wp2_with (go_at_call 84; refine hcall.mono ?_; rintro e w3 ⟨rfl, hB3⟩; have B3 : Hid (Below w.heap.size w w3) := B.out.trans (hB3.mono B.out.size); have I3 : Hid (IHolds w3 w.heap.size 9 (half q l.length i)) := I.out.of_below hB3; have f3 : w3.frozen? ⟨w.heap.size, i, none⟩ = false := I3.out.frozen i; have g3 := I3.out.cell i (by have := HL.out; omega); clear hB3)
      have I4 : Hid (IHolds (w3.setCell ⟨w.heap.size, i, none⟩ (.string r)) w.heap.size 9 (half q l.length (i + 1))) := by
        have := I3.out.set i (.string r)
        rw [HH.out] at this
        exact this
      have B4 : Hid (Below w.heap.size w (w3.setCell ⟨w.heap.size, i, none⟩ (.string r))) := Below.setCell B3.out (Nat.le_refl _) _
      go_roundg (gk - 1)
      case measure => omega
      case rel => exact ⟨i + 1, by omega, by go_num, B4.out, I4.out⟩
    · have il : ¬ (i : Int) < (l.length : Int) := by omega
      have e : i = l.length := by omega
      have I5 : Hid (SL wr (some ⟨w.heap.size, 0, none⟩) q) := by
        have h := I.out
        rw [e, half_full HQ.out] at h
        exact h.sl
      clear e
      go_wp2_with fail
      go_ret
      exact ⟨⟨_, ⟨_, rfl⟩, I5.out⟩, B.out⟩
end Go.Proofs.YtfbceknafmkipaaGreat
