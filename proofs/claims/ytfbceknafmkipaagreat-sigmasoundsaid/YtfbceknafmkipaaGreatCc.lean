/- Powers of bases, and what comes back: the closures of sigma's sets. -/
import Derived.Test.YtfbceknafmkipaaGreatCb
set_option linter.unusedSimpArgs false
set_option linter.unusedVariables false
set_option maxRecDepth 100000
namespace Go.Proofs.YtfbceknafmkipaaGreat
open Go.RowKit Go.Deep Go.PlainAid

theorem zero85 {w : World} {z y : Int} {r : ByteArray} (h : ∀ W, Calls Tryz.prog 76 #[.int .i64 z, .int .i64 0] W fun e w' => e = .returned (.tuple #[.string r, .int .i64 y]) ∧ Below W.heap.size W w') :
    Calls Tryz.prog 49 #[.agg #[.int .i64 z]] w fun e w' => e = .returned (.string r) ∧ Below w.heap.size w w' := by
  have J : Hid (Below w.heap.size w (w.alloc (.cells #[.int .i64 z] 39))) := (Below.refl _ w).alloc (Nat.le_refl _) _
  go_enter Tryz.func49, Tryz.ntmps49
  go_wp2_with (go_at_call 76; refine (h _).mono ?_; rintro e w1 ⟨rfl, hB1⟩)
  go_ret
  exact ⟨rfl, J.out.trans (hB1.mono J.out.size)⟩
theorem power92 {w : World} {z y : Int} {s t r : ByteArray} (h : ∀ W, Calls Tryz.prog 71 #[.int .i64 z, .string s, .string t] W fun e w' => e = .returned (.tuple #[.string r, .int .i64 y]) ∧ Below W.heap.size W w') :
    Calls Tryz.prog 46 #[.agg #[.int .i64 z], .string s, .string t] w fun e w' => e = .returned (.string r) ∧ Below w.heap.size w w' := by
  have J : Hid (Below w.heap.size w (w.alloc (.cells #[.int .i64 z] 39))) := (Below.refl _ w).alloc (Nat.le_refl _) _
  go_enter Tryz.func46, Tryz.ntmps46
  go_wp2_with (go_at_call 71; refine (h _).mono ?_; rintro e w1 ⟨rfl, hB1⟩)
  go_ret
  exact ⟨rfl, J.out.trans (hB1.mono J.out.size)⟩
theorem powers89 {w : World} {z y : Int} {a n b m r : ByteArray} (h : ∀ W b1 b2, IHolds W b1 9 [.string a, .string b] → IHolds W b2 9 [.string n, .string m] → Calls Tryz.prog 77 #[.int .i64 z, .slice (some ⟨b1, 0, none⟩) 2 2, .slice (some ⟨b2, 0, none⟩) 2 2] W fun e w' => e = .returned (.tuple #[.string r, .int .i64 y]) ∧ Below W.heap.size W w') :
    Calls Tryz.prog 53 #[.agg #[.int .i64 z], .string a, .string n, .string b, .string m] w fun e w' => e = .returned (.string r) ∧ Below w.heap.size w w' := by
  have H : Hid _ := h
  clear h
  generalize hW : ((w.alloc (.cells #[.int .i64 z] 39)).alloc (.cells #[.string a, .string b] 9)).alloc (.cells #[.string n, .string m] 9) = U
  have B : Hid (Below w.heap.size w U) := by rw [← hW]; exact (((Below.refl _ w).alloc (Nat.le_refl _) _).alloc (by simp) _).alloc (by simp; omega) _
  have I1 : Hid (IHolds U (w.heap.size + 1) 9 [.string a, .string b]) := by rw [← hW]; exact (IHolds.new' _ 9 [_, _] (by simp)).alloc _
  have I2 : Hid (IHolds U (w.heap.size + 1 + 1) 9 [.string n, .string m]) := by rw [← hW]; exact IHolds.new' _ 9 [_, _] (by simp)
  go_enter Tryz.func53, Tryz.ntmps53
  go_wp2_with (go_at_call 77; refine (H.out _ _ _ I1.out I2.out).mono ?_; rintro e w1 ⟨rfl, hB1⟩)
  go_ret
  exact ⟨rfl, B.out.trans (hB1.mono B.out.size)⟩
theorem clos91 {w : World} {z : Int} {g p : Nat} {s t r : ByteArray} (hg : w.cell? ⟨g, 0, none⟩ = some (.int .i64 z)) (hp : w.cell? ⟨p, 0, none⟩ = some (.string t)) (h : ∀ W, Calls Tryz.prog 46 #[.agg #[.int .i64 z], .string s, .string t] W fun e w' => e = .returned (.string r) ∧ Below W.heap.size W w') :
    Calls Tryz.prog 45 #[.string s, .pointer (some ⟨g, 0, none⟩), .pointer (some ⟨p, 0, none⟩)] w fun e w' => e = .returned (.string r) ∧ Below w.heap.size w w' := by
  go_enter Tryz.func45, Tryz.ntmps45
  go_wp2_with (go_at_call 46; refine (h _).mono ?_; rintro e w1 ⟨rfl, hB1⟩)
  go_ret
  exact ⟨rfl, hB1⟩
theorem clos88 {w : World} {z : Int} {g q p : Nat} {s t n m r : ByteArray} (hg : w.cell? ⟨g, 0, none⟩ = some (.int .i64 z)) (hq : w.cell? ⟨q, 0, none⟩ = some (.string n)) (hp : w.cell? ⟨p, 0, none⟩ = some (.string m)) (h : ∀ W, Calls Tryz.prog 53 #[.agg #[.int .i64 z], .string s, .string n, .string t, .string m] W fun e w' => e = .returned (.string r) ∧ Below W.heap.size W w') :
    Calls Tryz.prog 52 #[.string s, .string t, .pointer (some ⟨g, 0, none⟩), .pointer (some ⟨q, 0, none⟩), .pointer (some ⟨p, 0, none⟩)] w fun e w' => e = .returned (.string r) ∧ Below w.heap.size w w' := by
  go_enter Tryz.func52, Tryz.ntmps52
  go_wp2_with (go_at_call 53; refine (h _).mono ?_; rintro e w1 ⟨rfl, hB1⟩)
  go_ret
  exact ⟨rfl, hB1⟩
set_option maxHeartbeats 1000000 in
theorem both70_88 {w : World} {a b : Option Addr} {l m q : List ByteArray} {c d g r p : Nat} (hn : l.length ≤ 8796093022207) (hml : m.length = l.length) (hql : q.length = l.length) (hs : SL w a l) (hm : SL w b m)
    (CF : ∀ i (h1 : i < l.length) (h2 : i < m.length) (h3 : i < q.length) W, Below w.heap.size w W → Calls Tryz.prog 52 #[.string l[i], .string m[i], .pointer (some ⟨g, 0, none⟩), .pointer (some ⟨r, 0, none⟩), .pointer (some ⟨p, 0, none⟩)] W fun e w' => e = .returned (.string q[i]) ∧ Below W.heap.size W w') :
    Calls Tryz.prog 51 #[.slice a l.length c, .slice b m.length d, .func (.func 52) #[] #[.pointer (some ⟨g, 0, none⟩), .pointer (some ⟨r, 0, none⟩), .pointer (some ⟨p, 0, none⟩)]] w fun e w' => (∃ a' c', e = .returned (.slice a' l.length c') ∧ SL w' a' q) ∧ Below w.heap.size w w' := by
  have HS : Hid (SL w a l) := hs
  have HM : Hid (SL w b m) := hm
  have HQ : Hid (q.length = l.length) := hql
  have hmk := make22 _ l.length rfl hn w
  have JI : Hid (IHolds (w.alloc (.cells (List.replicate l.length (Value.string ⟨#[]⟩)).toArray 9)) w.heap.size 9 (half q l.length 0)) := by rw [half_zero]; exact IHolds.new _ _ _
  have JB : Hid (Below w.heap.size w (w.alloc (.cells (List.replicate l.length (Value.string ⟨#[]⟩)).toArray 9))) := (Below.refl _ w).alloc (Nat.le_refl _) _
  rw [hml]
  clear hs hm hql
  go_enter Tryz.func51, Tryz.ntmps51
  generalize w.alloc (.cells (List.replicate l.length (Value.string ⟨#[]⟩)).toArray 9) = U at *
  go_wp2_with fail
  go_loopg [8, 9, 15] l.length (fun gk v8 v9 v15 wr => ∃ i : Nat, i + gk = l.length ∧ v15 = .int .i64 (i : Int) ∧ Below w.heap.size w wr ∧ IHolds wr w.heap.size 9 (half q l.length i))
  case atStart => exact ⟨0, by omega, rfl, JB.out, JI.out⟩
  case round =>
    obtain ⟨i, hig, rfl, hB, hI⟩ := hrel
    have B : Hid (Below w.heap.size w wr) := hB
    have I : Hid (IHolds wr w.heap.size 9 (half q l.length i)) := hI
    clear hB hI
    by_cases hi : i < l.length
    · have hi2 : i < m.length := by omega
      have hi3 : i < q.length := by have := HQ.out; omega
      have il : (i : Int) < (l.length : Int) := by omega
      obtain ⟨b1, o1, rfl, hc1⟩ := HS.out.of_below B.out i hi
      obtain ⟨b2, o2, rfl, hc2⟩ := HM.out.of_below B.out i hi2
      have hcall := CF i hi hi2 hi3 wr B.out
      have HH : Hid _ := half_set HQ.out hi hi3
      have HL : Hid ((half q l.length i).length = l.length) := half_length HQ.out (by omega)
      generalize l[i] = s at *
      generalize m[i] = t at *
      generalize q[i] = rr at *
      go_wp2_with (go_at_call 52; refine hcall.mono ?_; rintro e w3 ⟨rfl, hB3⟩; have B3 : Hid (Below w.heap.size w w3) := B.out.trans (hB3.mono B.out.size); have I3 : Hid (IHolds w3 w.heap.size 9 (half q l.length i)) := I.out.of_below hB3; have f3 : w3.frozen? ⟨w.heap.size, i, none⟩ = false := I3.out.frozen i; have g3 := I3.out.cell i (by have := HL.out; omega); clear hB3)
      have I4 : Hid (IHolds (w3.setCell ⟨w.heap.size, i, none⟩ (.string rr)) w.heap.size 9 (half q l.length (i + 1))) := by
        have := I3.out.set i (.string rr)
        rw [HH.out] at this
        exact this
      have B4 : Hid (Below w.heap.size w (w3.setCell ⟨w.heap.size, i, none⟩ (.string rr))) := Below.setCell B3.out (Nat.le_refl _) _
      go_roundg (gk - 1)
      case measure => omega
      case rel => exact ⟨i + 1, by omega, by go_num, B4.out, I4.out⟩
    · have il : ¬ (i : Int) < (l.length : Int) := by omega
      have e : i = l.length := by omega
      have I5 : Hid (SL wr (some ⟨w.heap.size, 0, none⟩) q) := by
        have h := I.out
        rw [e, half_full HQ.out] at h
        exact h.sl
      clear e
      go_wp2_with fail
      go_ret
      exact ⟨⟨_, ⟨_, rfl⟩, I5.out⟩, B.out⟩
set_option maxHeartbeats 1000000 in
theorem each69_91 {w : World} {a : Option Addr} {l q : List ByteArray} {c g p : Nat} (hn : l.length ≤ 8796093022207) (hql : q.length = l.length) (hs : SL w a l)
    (CF : ∀ i (h1 : i < l.length) (h3 : i < q.length) W, Below w.heap.size w W → Calls Tryz.prog 45 #[.string l[i], .pointer (some ⟨g, 0, none⟩), .pointer (some ⟨p, 0, none⟩)] W fun e w' => e = .returned (.string q[i]) ∧ Below W.heap.size W w') :
    Calls Tryz.prog 44 #[.slice a l.length c, .func (.func 45) #[] #[.pointer (some ⟨g, 0, none⟩), .pointer (some ⟨p, 0, none⟩)]] w fun e w' => (∃ a' c', e = .returned (.slice a' l.length c') ∧ SL w' a' q) ∧ Below w.heap.size w w' := by
  have HS : Hid (SL w a l) := hs
  have HQ : Hid (q.length = l.length) := hql
  have hmk := make22 _ l.length rfl hn w
  have JI : Hid (IHolds (w.alloc (.cells (List.replicate l.length (Value.string ⟨#[]⟩)).toArray 9)) w.heap.size 9 (half q l.length 0)) := by rw [half_zero]; exact IHolds.new _ _ _
  have JB : Hid (Below w.heap.size w (w.alloc (.cells (List.replicate l.length (Value.string ⟨#[]⟩)).toArray 9))) := (Below.refl _ w).alloc (Nat.le_refl _) _
  clear hs hql
  go_enter Tryz.func44, Tryz.ntmps44
  generalize w.alloc (.cells (List.replicate l.length (Value.string ⟨#[]⟩)).toArray 9) = U at *
  go_wp2_with fail
  go_loopg [6, 7, 13] l.length (fun gk v6 v7 v13 wr => ∃ i : Nat, i + gk = l.length ∧ v13 = .int .i64 (i : Int) ∧ Below w.heap.size w wr ∧ IHolds wr w.heap.size 9 (half q l.length i))
  case atStart => exact ⟨0, by omega, rfl, JB.out, JI.out⟩
  case round =>
    obtain ⟨i, hig, rfl, hB, hI⟩ := hrel
    have B : Hid (Below w.heap.size w wr) := hB
    have I : Hid (IHolds wr w.heap.size 9 (half q l.length i)) := hI
    clear hB hI
    by_cases hi : i < l.length
    · have hi3 : i < q.length := by have := HQ.out; omega
      have il : (i : Int) < (l.length : Int) := by omega
      obtain ⟨b1, o1, rfl, hc1⟩ := HS.out.of_below B.out i hi
      have hcall := CF i hi hi3 wr B.out
      have HH : Hid _ := half_set HQ.out hi hi3
      have HL : Hid ((half q l.length i).length = l.length) := half_length HQ.out (by omega)
      generalize l[i] = s at *
      generalize q[i] = r at *
      go_wp2_with (go_at_call 45; refine hcall.mono ?_; rintro e w3 ⟨rfl, hB3⟩; have B3 : Hid (Below w.heap.size w w3) := B.out.trans (hB3.mono B.out.size); have I3 : Hid (IHolds w3 w.heap.size 9 (half q l.length i)) := I.out.of_below hB3; have f3 : w3.frozen? ⟨w.heap.size, i, none⟩ = false := I3.out.frozen i; have g3 := I3.out.cell i (by have := HL.out; omega); clear hB3)
      have I4 : Hid (IHolds (w3.setCell ⟨w.heap.size, i, none⟩ (.string r)) w.heap.size 9 (half q l.length (i + 1))) := by
        have := I3.out.set i (.string r)
        rw [HH.out] at this
        exact this
      have B4 : Hid (Below w.heap.size w (w3.setCell ⟨w.heap.size, i, none⟩ (.string r))) := Below.setCell B3.out (Nat.le_refl _) _
      go_roundg (gk - 1)
      case measure => omega
      case rel => exact ⟨i + 1, by omega, by go_num, B4.out, I4.out⟩
    · have il : ¬ (i : Int) < (l.length : Int) := by omega
      have e : i = l.length := by omega
      have I5 : Hid (SL wr (some ⟨w.heap.size, 0, none⟩) q) := by
        have h := I.out
        rw [e, half_full HQ.out] at h
        exact h.sl
      clear e
      go_wp2_with fail
      go_ret
      exact ⟨⟨_, ⟨_, rfl⟩, I5.out⟩, B.out⟩
set_option maxHeartbeats 1000000 in
theorem clos90 {w : World} {z : Int} {g : Nat} {a1 a2 : Option Addr} {c1 c2 n2 : Nat} {bs q : List ByteArray} {t : ByteArray} (hn : bs.length ≤ 8) (hql : q.length = bs.length) (hs : SL w a1 bs) (hg : w.cell? ⟨g, 0, none⟩ = some (.int .i64 z))
    (CP : ∀ i (h1 : i < bs.length) (h3 : i < q.length) W, Calls Tryz.prog 46 #[.agg #[.int .i64 z], .string bs[i], .string t] W fun e w' => e = .returned (.string q[i]) ∧ Below W.heap.size W w') :
    Calls Tryz.prog 43 #[.agg #[.slice a1 bs.length c1, .slice a2 n2 c2], .string t, .pointer (some ⟨g, 0, none⟩)] w fun e w' => (∃ a' c', e = .returned (.slice a' bs.length c') ∧ SL w' a' q) ∧ Below w.heap.size w w' := by
  have hmf : ∀ (fn : Fn) (first cap : Array Value) (w : World), (Instr.makeFunc fn first cap).run Tryz.prog w = .ok (.func fn first cap) w := fun _ _ _ _ => rfl
  generalize hW : (w.alloc (.cells #[.slice a1 bs.length c1, .slice a2 n2 c2] 72)).alloc (.cells #[.string t] 9) = U
  have B : Hid (Below w.heap.size w U) := by rw [← hW]; exact ((Below.refl _ w).alloc (Nat.le_refl _) _).alloc (by simp) _
  have I0 : Hid (IHolds U w.heap.size 72 [.slice a1 bs.length c1, .slice a2 n2 c2]) := by rw [← hW]; exact (IHolds.new w 72 [_, _]).alloc _
  have I1 : Hid (IHolds U (w.heap.size + 1) 9 [.string t]) := by rw [← hW]; exact IHolds.new' _ 9 [_] (by simp)
  have H : Hid (Calls Tryz.prog 44 #[.slice a1 bs.length c1, .func (.func 45) #[] #[.pointer (some ⟨g, 0, none⟩), .pointer (some ⟨w.heap.size + 1, 0, none⟩)]] U fun e w' => (∃ a' c', e = .returned (.slice a' bs.length c') ∧ SL w' a' q) ∧ Below U.heap.size U w') :=
    each69_91 (by omega) hql (hs.of_below B.out) (fun i h1 h3 V hV => clos91 (cell_keep (cell_keep hg B.out) hV) (cell_keep (I1.out.cell 0 (by simp)) hV) (fun X => CP i h1 h3 X))
  clear hs CP hg
  generalize bs.length = n at *
  have q0 : U.cell? ⟨w.heap.size, 0, none⟩ = some (.slice a1 n c1) := I0.out.cell 0 (by simp)
  go_enter Tryz.func43, Tryz.ntmps43
  go_wp2_with (go_at_call 44; refine H.out.mono ?_; rintro e w1 ⟨⟨a', c', rfl, hs1⟩, hB1⟩)
  go_ret
  exact ⟨⟨a', c', rfl, hs1⟩, B.out.trans (hB1.mono B.out.size)⟩
set_option maxHeartbeats 1000000 in
theorem clos87 {w : World} {z : Int} {g p : Nat} {a1 a2 : Option Addr} {c1 c2 : Nat} {bs ms q : List ByteArray} {t u : ByteArray} (hn : bs.length ≤ 8) (hm : ms.length = bs.length) (hql : q.length = bs.length) (hs : SL w a1 bs) (hs2 : SL w a2 ms) (hg : w.cell? ⟨g, 0, none⟩ = some (.int .i64 z)) (hp : w.cell? ⟨p, 0, none⟩ = some (.string u))
    (CP : ∀ i (h1 : i < bs.length) (h2 : i < ms.length) (h3 : i < q.length) W, Calls Tryz.prog 53 #[.agg #[.int .i64 z], .string bs[i], .string t, .string ms[i], .string u] W fun e w' => e = .returned (.string q[i]) ∧ Below W.heap.size W w') :
    Calls Tryz.prog 50 #[.agg #[.slice a1 bs.length c1, .slice a2 ms.length c2], .string t, .pointer (some ⟨g, 0, none⟩), .pointer (some ⟨p, 0, none⟩)] w fun e w' => (∃ a' c', e = .returned (.slice a' bs.length c') ∧ SL w' a' q) ∧ Below w.heap.size w w' := by
  have hmf : ∀ (fn : Fn) (first cap : Array Value) (w : World), (Instr.makeFunc fn first cap).run Tryz.prog w = .ok (.func fn first cap) w := fun _ _ _ _ => rfl
  generalize hW : (w.alloc (.cells #[.slice a1 bs.length c1, .slice a2 ms.length c2] 72)).alloc (.cells #[.string t] 9) = U
  have B : Hid (Below w.heap.size w U) := by rw [← hW]; exact ((Below.refl _ w).alloc (Nat.le_refl _) _).alloc (by simp) _
  have I0 : Hid (IHolds U w.heap.size 72 [.slice a1 bs.length c1, .slice a2 ms.length c2]) := by rw [← hW]; exact (IHolds.new w 72 [_, _]).alloc _
  have I1 : Hid (IHolds U (w.heap.size + 1) 9 [.string t]) := by rw [← hW]; exact IHolds.new' _ 9 [_] (by simp)
  have H : Hid (Calls Tryz.prog 51 #[.slice a1 bs.length c1, .slice a2 ms.length c2, .func (.func 52) #[] #[.pointer (some ⟨g, 0, none⟩), .pointer (some ⟨w.heap.size + 1, 0, none⟩), .pointer (some ⟨p, 0, none⟩)]] U fun e w' => (∃ a' c', e = .returned (.slice a' bs.length c') ∧ SL w' a' q) ∧ Below U.heap.size U w') :=
    both70_88 (by omega) hm hql (hs.of_below B.out) (hs2.of_below B.out) (fun i h1 h2 h3 V hV => clos88 (cell_keep (cell_keep hg B.out) hV) (cell_keep (I1.out.cell 0 (by simp)) hV) (cell_keep (cell_keep hp B.out) hV) (fun X => CP i h1 h2 h3 X))
  clear hs hs2 CP hg hp hm
  generalize bs.length = n at *
  generalize ms.length = m at *
  have q0 : U.cell? ⟨w.heap.size, 0, none⟩ = some (.slice a1 n c1) := I0.out.cell 0 (by simp)
  have q1 : U.cell? ⟨w.heap.size, 1, none⟩ = some (.slice a2 m c2) := I0.out.cell 1 (by simp)
  go_enter Tryz.func50, Tryz.ntmps50
  go_wp2_with (go_at_call 51; refine H.out.mono ?_; rintro e w1 ⟨⟨a', c', rfl, hs1⟩, hB1⟩)
  go_ret
  exact ⟨⟨a', c', rfl, hs1⟩, B.out.trans (hB1.mono B.out.size)⟩
end Go.Proofs.YtfbceknafmkipaaGreat
