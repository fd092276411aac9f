/- Two lists of texts: are they one? allScalars, unlike. unlike, place, wrongPair. place, wrongPair, and sigma's faces of the scalars' arithmetic. each and both. -/
import Derived.Test.YtmpiipcllgjhdaaGreatDoorZ02
import Derived.Deep.QuietTactic
import Derived.BigQuiet
set_option linter.unusedSimpArgs false
set_option linter.unusedVariables false
set_option maxRecDepth 100000
namespace Go.Proofs.YtmpiipcllgjhdaaGreatDoor
open Go.RowKit Go.Deep Go.PlainAid

theorem toList_ne {s t : ByteArray} (h : ¬ s = t) : (s.toList == t.toList) = false := by
  rw [beq_eq_false_iff_ne]
  intro e
  rw [ByteArray.toList_eq, ByteArray.toList_eq] at e
  apply h
  cases s; cases t
  simpa using e
set_option maxHeartbeats 1000000 in
theorem equal66 {w : World} {a b : Option Addr} {l m : List ByteArray} {c d : Nat} (hl : l.length ≤ 9223372036854775807) (hs : SL w a l) (hm : SL w b m) :
    Calls Tryz.prog 77 #[.slice a l.length c, .slice b m.length d] w fun e w' => e = .returned (.bool (decide (l = m))) ∧ Below w.heap.size w w' := by
  by_cases hlen : l.length = m.length
  · have HS : Hid (SL w a l) := hs
    have HM : Hid (SL w b m) := hm
    have HE : Hid (l.length = m.length) := hlen
    rw [← hlen]
    clear hs hm hlen
    go_enter Tryz.func77, Tryz.ntmps77
    go_wp2_with fail
    go_loopg [5, 13] l.length (fun gk v5 v13 wr => ∃ i : Nat, i + gk = l.length ∧ v13 = .int .i64 (i : Int) ∧ Below w.heap.size w wr ∧ l.take i = m.take i)
    case atStart => exact ⟨0, by omega, rfl, Below.refl _ _, by simp⟩
    case round =>
      obtain ⟨i, hig, rfl, hB, hn⟩ := hrel
      have B : Hid (Below w.heap.size w wr) := hB
      have HN : Hid (l.take i = m.take i) := hn
      clear hB hn
      by_cases hi : i < l.length
      · have hi2 : i < m.length := by have := HE.out; omega
        obtain ⟨b1, o1, rfl, hc1⟩ := HS.out.of_below B.out i hi
        obtain ⟨b2, o2, rfl, hc2⟩ := HM.out.of_below B.out i hi2
        have il : (i : Int) < (l.length : Int) := by omega
        have HT : Hid (l[i] = m[i] → l.take (i + 1) = m.take (i + 1)) := fun h => by rw [List.take_succ_eq_append_getElem hi, List.take_succ_eq_append_getElem hi2, HN.out, h]
        have HF : Hid (l[i] ≠ m[i] → decide (l = m) = false) := fun h => decide_eq_false (fun e => h (by subst e; rfl))
        generalize l[i] = s at *
        generalize m[i] = t at *
        clear hi2
        by_cases hst : s = t
        · have HTe := HT.out hst
          have h2 : (s.toList == t.toList) = true := by rw [hst]; simp
          clear hst HT HF
          have HTT : Hid _ := HTe
          clear HTe
          go_wp2_with fail
          go_quiet (fail)
          have BQ : Hid (Below w.heap.size w (World.drewN wr nq)) := B.out.trans ⟨rfl, rfl, rfl, Nat.le_refl _, fun _ _ => rfl⟩
          generalize World.drewN wr nq = wq at *
          go_wp2_with fail
          go_roundg (gk - 1)
          case measure => omega
          case rel => exact ⟨i + 1, by omega, by go_num, BQ.out, HTT.out⟩
        · have HFe := HF.out hst
          have h2 : (s.toList == t.toList) = false := toList_ne hst
          have HFF : Hid _ := HFe
          clear hst HT HF HFe
          go_wp2_with fail
          go_quiet (fail)
          have BQ : Hid (Below w.heap.size w (World.drewN wr nq)) := B.out.trans ⟨rfl, rfl, rfl, Nat.le_refl _, fun _ _ => rfl⟩
          generalize World.drewN wr nq = wq at *
          go_wp2_with fail
          go_ret
          exact ⟨by rw [HFF.out]; rfl, BQ.out⟩
      · have il : ¬ (i : Int) < (l.length : Int) := by omega
        have HTT : Hid (decide (l = m) = true) := by
          have h := HN.out
          have he := HE.out
          rw [List.take_of_length_le (by omega), List.take_of_length_le (by omega)] at h
          exact decide_eq_true h
        go_wp2_with fail
        go_ret
        exact ⟨by rw [HTT.out]; rfl, B.out⟩
  · have hne : ((l.length : Int) != (m.length : Int)) = true := by simp [bne]; omega
    have HF : Hid (decide (l = m) = false) := decide_eq_false (fun e => hlen (by rw [e]))
    clear hs hm hlen
    go_enter Tryz.func77, Tryz.ntmps77
    go_wp2_with fail
    go_ret
    exact ⟨by rw [HF.out]; rfl, Below.refl _ _⟩
end Go.Proofs.YtmpiipcllgjhdaaGreatDoor
namespace Go.Proofs.YtmpiipcllgjhdaaGreatDoor
open Go.RowKit Go.Deep Go.PlainAid

theorem IHolds.new' (w : World) (t : TypeId) (l : List Value) {b : Nat} (h : w.heap.size = b) : IHolds (w.alloc (.cells l.toArray t)) b t l := by subst h; exact IHolds.new w t l
end Go.Proofs.YtmpiipcllgjhdaaGreatDoor
namespace Go.Proofs.YtmpiipcllgjhdaaGreatDoor
open Go.RowKit Go.Deep Go.PlainAid

end Go.Proofs.YtmpiipcllgjhdaaGreatDoor
namespace Go.Proofs.YtmpiipcllgjhdaaGreatDoor
open Go.RowKit Go.Deep Go.PlainAid

/-- The first place at which two lists differ. -/
structure FD (l m : List ByteArray) (k : Nat) : Prop where
  lt1 : k < l.length
  lt2 : k < m.length
  same : l.take k = m.take k
  ne : l[k] ≠ m[k]
theorem FD.at {l m : List ByteArray} {k : Nat} (h : FD l m k) {i : Nat} (hi : i < k) (h1 : i < l.length) (h2 : i < m.length) : l[i] = m[i] := by
  have e : (l.take k)[i]? = (m.take k)[i]? := by rw [h.same]
  rw [List.getElem?_take_of_lt hi, List.getElem?_take_of_lt hi, List.getElem?_eq_getElem h1, List.getElem?_eq_getElem h2] at e
  exact Option.some.inj e
theorem noScalar44 {w : World} {z : Int} {s : ByteArray} {t : Bool} (h : ∀ W, Calls Tryz.prog 14 #[.int .i64 z, .string s] W fun e w' => e = .returned (.bool t) ∧ Below W.heap.size W w') :
    Calls Tryz.prog 50 #[.agg #[.int .i64 z], .string s] w fun e w' => e = .returned (.bool (!t)) ∧ Below w.heap.size w w' := by
  have J : Hid (Below w.heap.size w (w.alloc (.cells #[.int .i64 z] 51))) := (Below.refl _ w).alloc (Nat.le_refl _) _
  go_enter Tryz.func50, Tryz.ntmps50
  go_wp2_with (go_at_call 14; refine (h _).mono ?_; rintro e w1 ⟨rfl, hB1⟩)
  go_ret
  exact ⟨rfl, J.out.trans (hB1.mono J.out.size)⟩
theorem minus68 {w : World} {z y : Int} {s t r : ByteArray} (h : ∀ W, Calls Tryz.prog 100 #[.int .i64 z, .string s, .string t] W fun e w' => e = .returned (.tuple #[.string r, .int .i64 y]) ∧ Below W.heap.size W w') :
    Calls Tryz.prog 57 #[.agg #[.int .i64 z], .string s, .string t] w fun e w' => e = .returned (.string r) ∧ Below w.heap.size w w' := by
  have J : Hid (Below w.heap.size w (w.alloc (.cells #[.int .i64 z] 51))) := (Below.refl _ w).alloc (Nat.le_refl _) _
  go_enter Tryz.func57, Tryz.ntmps57
  go_wp2_with (go_at_call 100; refine (h _).mono ?_; rintro e w1 ⟨rfl, hB1⟩)
  go_ret
  exact ⟨rfl, J.out.trans (hB1.mono J.out.size)⟩
end Go.Proofs.YtmpiipcllgjhdaaGreatDoor
namespace Go.Proofs.YtmpiipcllgjhdaaGreatDoor
open Go.RowKit Go.Deep Go.PlainAid

theorem Tryz.info9' : (Tryz.prog.info? 9).map (fun i => (i.zero, i.size, i.bytes)) = some (some (.string ⟨#[]⟩), 1, 16) := by kernel_rfl
theorem Tryz.under22 : Tryz.prog.underlying 22 = some (.slice 9) := by kernel_rfl
/-- The cells of a list that is made in part. -/
def half (q : List ByteArray) (n i : Nat) : List Value := (q.take i).map Value.string ++ List.replicate (n - i) (.string ⟨#[]⟩)
theorem half_zero (q : List ByteArray) (n : Nat) : half q n 0 = List.replicate n (.string ⟨#[]⟩) := by simp [half]
theorem half_set {q : List ByteArray} {n i : Nat} (hq : q.length = n) (hi : i < n) (hi' : i < q.length) : (half q n i).set i (.string q[i]) = half q n (i + 1) := by
  unfold half
  have hl : ((q.take i).map Value.string).length = i := by simp; omega
  rw [List.set_append_right _ _ (by omega), hl, Nat.sub_self, List.take_succ_eq_append_getElem hi', List.map_append, List.append_assoc]
  congr 1
  rw [show n - i = (n - (i + 1)) + 1 by omega, List.replicate_succ, List.set_cons_zero]
  rfl
theorem half_length {q : List ByteArray} {n i : Nat} (hq : q.length = n) (hi : i ≤ n) : (half q n i).length = n := by unfold half; simp; omega
theorem half_full {q : List ByteArray} {n : Nat} (hq : q.length = n) : half q n n = q.map Value.string := by unfold half; simp [List.take_of_length_le (Nat.le_of_eq hq)]
theorem IHolds.sl {w : World} {b : Nat} {t : TypeId} {q : List ByteArray} (h : IHolds w b t (q.map Value.string)) : SL w (some ⟨b, 0, none⟩) q := by
  intro i hi
  refine ⟨b, 0, rfl, ?_⟩
  rw [Nat.zero_add, h.cell i (by simpa using hi)]
  simp
theorem make22 (z : Int) (n : Nat) (hz : z = (n : Int)) (hn : n ≤ 8796093022207) (w : World) : (Instr.makeSlice 22 (.int .i64 z) (.int .i64 z)).run Tryz.prog w = .ok (.slice (some ⟨w.heap.size, 0, none⟩) n n) (w.alloc (.cells (List.replicate n (Value.string ⟨#[]⟩)).toArray 9)) := by
  subst hz
  have := run_make_row' (P := Tryz.prog) 22 9 (.string ⟨#[]⟩) 16 Tryz.under22 Tryz.info9' rfl .i64 .i64 n (by omega) (by omega) w
  rw [this]
  have e : madeCells #[Value.string ⟨#[]⟩] n = (List.replicate n (Value.string ⟨#[]⟩)).toArray := by
    apply Array.toList_inj.1
    rw [toList_madeCells_one]
  rw [e]
end Go.Proofs.YtmpiipcllgjhdaaGreatDoor
