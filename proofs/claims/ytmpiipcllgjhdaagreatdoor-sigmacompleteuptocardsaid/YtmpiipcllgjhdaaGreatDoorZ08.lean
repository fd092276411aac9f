/- Powers of bases, and what comes back: the closures of sigma's sets. Sigma's list of what each claim gives. -/
import Derived.Test.YtmpiipcllgjhdaaGreatDoorZ07
import Derived.Deep.RegionHeld
set_option linter.unusedSimpArgs false
set_option linter.unusedVariables false
set_option maxRecDepth 100000
namespace Go.Proofs.YtmpiipcllgjhdaaGreatDoor
open Go.RowKit Go.Deep Go.PlainAid

theorem zero85 {w : World} {z y : Int} {r : ByteArray} (h : ∀ W, Calls Tryz.prog 99 #[.int .i64 z, .int .i64 0] W fun e w' => e = .returned (.tuple #[.string r, .int .i64 y]) ∧ Below W.heap.size W w') :
    Calls Tryz.prog 56 #[.agg #[.int .i64 z]] w fun e w' => e = .returned (.string r) ∧ Below w.heap.size w w' := by
  have J : Hid (Below w.heap.size w (w.alloc (.cells #[.int .i64 z] 51))) := (Below.refl _ w).alloc (Nat.le_refl _) _
  go_enter Tryz.func56, Tryz.ntmps56
  go_wp2_with (go_at_call 99; refine (h _).mono ?_; rintro e w1 ⟨rfl, hB1⟩)
  go_ret
  exact ⟨rfl, J.out.trans (hB1.mono J.out.size)⟩
theorem power92 {w : World} {z y : Int} {s t r : ByteArray} (h : ∀ W, Calls Tryz.prog 17 #[.int .i64 z, .string s, .string t] W fun e w' => e = .returned (.tuple #[.string r, .int .i64 y]) ∧ Below W.heap.size W w') :
    Calls Tryz.prog 89 #[.agg #[.int .i64 z], .string s, .string t] w fun e w' => e = .returned (.string r) ∧ Below w.heap.size w w' := by
  have J : Hid (Below w.heap.size w (w.alloc (.cells #[.int .i64 z] 51))) := (Below.refl _ w).alloc (Nat.le_refl _) _
  go_enter Tryz.func89, Tryz.ntmps89
  go_wp2_with (go_at_call 17; refine (h _).mono ?_; rintro e w1 ⟨rfl, hB1⟩)
  go_ret
  exact ⟨rfl, J.out.trans (hB1.mono J.out.size)⟩
theorem powers89 {w : World} {z y : Int} {a n b m r : ByteArray} (h : ∀ W b1 b2, IHolds W b1 9 [.string a, .string b] → IHolds W b2 9 [.string n, .string m] → Calls Tryz.prog 125 #[.int .i64 z, .slice (some ⟨b1, 0, none⟩) 2 2, .slice (some ⟨b2, 0, none⟩) 2 2] W fun e w' => e = .returned (.tuple #[.string r, .int .i64 y]) ∧ Below W.heap.size W w') :
    Calls Tryz.prog 97 #[.agg #[.int .i64 z], .string a, .string n, .string b, .string m] w fun e w' => e = .returned (.string r) ∧ Below w.heap.size w w' := by
  have H : Hid _ := h
  clear h
  generalize hW : ((w.alloc (.cells #[.int .i64 z] 51)).alloc (.cells #[.string a, .string b] 9)).alloc (.cells #[.string n, .string m] 9) = U
  have B : Hid (Below w.heap.size w U) := by rw [← hW]; exact (((Below.refl _ w).alloc (Nat.le_refl _) _).alloc (by simp) _).alloc (by simp; omega) _
  have I1 : Hid (IHolds U (w.heap.size + 1) 9 [.string a, .string b]) := by rw [← hW]; exact (IHolds.new' _ 9 [_, _] (by simp)).alloc _
  have I2 : Hid (IHolds U (w.heap.size + 1 + 1) 9 [.string n, .string m]) := by rw [← hW]; exact IHolds.new' _ 9 [_, _] (by simp)
  go_enter Tryz.func97, Tryz.ntmps97
  go_wp2_with (go_at_call 125; refine (H.out _ _ _ I1.out I2.out).mono ?_; rintro e w1 ⟨rfl, hB1⟩)
  go_ret
  exact ⟨rfl, B.out.trans (hB1.mono B.out.size)⟩
theorem clos91 {w : World} {z : Int} {g p : Nat} {s t r : ByteArray} (hg : w.cell? ⟨g, 0, none⟩ = some (.int .i64 z)) (hp : w.cell? ⟨p, 0, none⟩ = some (.string t)) (h : ∀ W, Calls Tryz.prog 89 #[.agg #[.int .i64 z], .string s, .string t] W fun e w' => e = .returned (.string r) ∧ Below W.heap.size W w') :
    Calls Tryz.prog 88 #[.string s, .pointer (some ⟨g, 0, none⟩), .pointer (some ⟨p, 0, none⟩)] w fun e w' => e = .returned (.string r) ∧ Below w.heap.size w w' := by
  go_enter Tryz.func88, Tryz.ntmps88
  go_wp2_with (go_at_call 89; refine (h _).mono ?_; rintro e w1 ⟨rfl, hB1⟩)
  go_ret
  exact ⟨rfl, hB1⟩
theorem clos88 {w : World} {z : Int} {g q p : Nat} {s t n m r : ByteArray} (hg : w.cell? ⟨g, 0, none⟩ = some (.int .i64 z)) (hq : w.cell? ⟨q, 0, none⟩ = some (.string n)) (hp : w.cell? ⟨p, 0, none⟩ = some (.string m)) (h : ∀ W, Calls Tryz.prog 97 #[.agg #[.int .i64 z], .string s, .string n, .string t, .string m] W fun e w' => e = .returned (.string r) ∧ Below W.heap.size W w') :
    Calls Tryz.prog 96 #[.string s, .string t, .pointer (some ⟨g, 0, none⟩), .pointer (some ⟨q, 0, none⟩), .pointer (some ⟨p, 0, none⟩)] w fun e w' => e = .returned (.string r) ∧ Below w.heap.size w w' := by
  go_enter Tryz.func96, Tryz.ntmps96
  go_wp2_with (go_at_call 97; refine (h _).mono ?_; rintro e w1 ⟨rfl, hB1⟩)
  go_ret
  exact ⟨rfl, hB1⟩
set_option maxHeartbeats 1000000 in
theorem both70_88 {w : World} {a b : Option Addr} {l m q : List ByteArray} {c d g r p : Nat} (hn : l.length ≤ 8796093022207) (hml : m.length = l.length) (hql : q.length = l.length) (hs : SL w a l) (hm : SL w b m)
    (CF : ∀ i (h1 : i < l.length) (h2 : i < m.length) (h3 : i < q.length) W, Below w.heap.size w W → Calls Tryz.prog 96 #[.string l[i], .string m[i], .pointer (some ⟨g, 0, none⟩), .pointer (some ⟨r, 0, none⟩), .pointer (some ⟨p, 0, none⟩)] W fun e w' => e = .returned (.string q[i]) ∧ Below W.heap.size W w') :
    Calls Tryz.prog 91 #[.slice a l.length c, .slice b m.length d, .func (.func 96) #[] #[.pointer (some ⟨g, 0, none⟩), .pointer (some ⟨r, 0, none⟩), .pointer (some ⟨p, 0, none⟩)]] w fun e w' => (∃ a' c', e = .returned (.slice a' l.length c') ∧ SY w' a' c' q) ∧ Below w.heap.size w w' := by
  have HS : Hid (SL w a l) := hs
  have HM : Hid (SL w b m) := hm
  have HQ : Hid (q.length = l.length) := hql
  have hmk := make22 _ l.length rfl hn w
  have JI : Hid (IHolds (w.alloc (.cells (List.replicate l.length (Value.string ⟨#[]⟩)).toArray 9)) w.heap.size 9 (half q l.length 0)) := by rw [half_zero]; exact IHolds.new _ _ _
  have JB : Hid (Below w.heap.size w (w.alloc (.cells (List.replicate l.length (Value.string ⟨#[]⟩)).toArray 9))) := (Below.refl _ w).alloc (Nat.le_refl _) _
  rw [hml]
  clear hs hm hql
  go_enter Tryz.func91, Tryz.ntmps91
  generalize w.alloc (.cells (List.replicate l.length (Value.string ⟨#[]⟩)).toArray 9) = U at *
  go_wp2_with fail
  go_loopg [8, 9, 15] l.length (fun gk v8 v9 v15 wr => ∃ i : Nat, i + gk = l.length ∧ v15 = .int .i64 (i : Int) ∧ Below w.heap.size w wr ∧ IHolds wr w.heap.size 9 (half q l.length i))
  case atStart => exact ⟨0, by omega, rfl, JB.out, JI.out⟩
  case round =>
    obtain ⟨i, hig, rfl, hB, hI⟩ := hrel
    have B : Hid (Below w.heap.size w wr) := hB
    have I : Hid (IHolds wr w.heap.size 9 (half q l.length i)) := hI
    clear hB hI
    by_cases hi : i < l.length
    · have hi2 : i < m.length := by omega
      have hi3 : i < q.length := by have := HQ.out; omega
      have il : (i : Int) < (l.length : Int) := by omega
      obtain ⟨b1, o1, rfl, hc1⟩ := HS.out.of_below B.out i hi
      obtain ⟨b2, o2, rfl, hc2⟩ := HM.out.of_below B.out i hi2
      have hcall := CF i hi hi2 hi3 wr B.out
      have HH : Hid _ := half_set HQ.out hi hi3
      have HL : Hid ((half q l.length i).length = l.length) := half_length HQ.out (by omega)
      generalize l[i] = s at *
      generalize m[i] = t at *
      generalize q[i] = rr at *
      go_wp2_with (go_at_call 96; refine hcall.mono ?_; rintro e w3 ⟨rfl, hB3⟩; have B3 : Hid (Below w.heap.size w w3) := B.out.trans (hB3.mono B.out.size); have I3 : Hid (IHolds w3 w.heap.size 9 (half q l.length i)) := I.out.of_below hB3; have f3 : w3.frozen? ⟨w.heap.size, i, none⟩ = false := I3.out.frozen i; have g3 := I3.out.cell i (by have := HL.out; omega); clear hB3)
      have I4 : Hid (IHolds (w3.setCell ⟨w.heap.size, i, none⟩ (.string rr)) w.heap.size 9 (half q l.length (i + 1))) := by
        have := I3.out.set i (.string rr)
        rw [HH.out] at this
        exact this
      have B4 : Hid (Below w.heap.size w (w3.setCell ⟨w.heap.size, i, none⟩ (.string rr))) := Below.setCell B3.out (Nat.le_refl _) _
      go_roundg (gk - 1)
      case measure => omega
      case rel => exact ⟨i + 1, by omega, by go_num, B4.out, I4.out⟩
    · have il : ¬ (i : Int) < (l.length : Int) := by omega
      have e : i = l.length := by omega
      have I5 : Hid (SL wr (some ⟨w.heap.size, 0, none⟩) q) := by
        have h := I.out
        rw [e, half_full HQ.out] at h
        exact h.sl
      clear e
      go_wp2_with fail
      go_ret
      exact ⟨⟨_, _, rfl, ⟨⟨I5.out, by have := HQ.out; omega⟩, fun b o e => by cases e; exact ⟨_, _, I.out⟩⟩⟩, B.out⟩
set_option maxHeartbeats 1000000 in
theorem each69_91 {w : World} {a : Option Addr} {l q : List ByteArray} {c g p : Nat} (hn : l.length ≤ 8796093022207) (hql : q.length = l.length) (hs : SL w a l)
    (CF : ∀ i (h1 : i < l.length) (h3 : i < q.length) W, Below w.heap.size w W → Calls Tryz.prog 88 #[.string l[i], .pointer (some ⟨g, 0, none⟩), .pointer (some ⟨p, 0, none⟩)] W fun e w' => e = .returned (.string q[i]) ∧ Below W.heap.size W w') :
    Calls Tryz.prog 87 #[.slice a l.length c, .func (.func 88) #[] #[.pointer (some ⟨g, 0, none⟩), .pointer (some ⟨p, 0, none⟩)]] w fun e w' => (∃ a' c', e = .returned (.slice a' l.length c') ∧ SY w' a' c' q) ∧ Below w.heap.size w w' := by
  have HS : Hid (SL w a l) := hs
  have HQ : Hid (q.length = l.length) := hql
  have hmk := make22 _ l.length rfl hn w
  have JI : Hid (IHolds (w.alloc (.cells (List.replicate l.length (Value.string ⟨#[]⟩)).toArray 9)) w.heap.size 9 (half q l.length 0)) := by rw [half_zero]; exact IHolds.new _ _ _
  have JB : Hid (Below w.heap.size w (w.alloc (.cells (List.replicate l.length (Value.string ⟨#[]⟩)).toArray 9))) := (Below.refl _ w).alloc (Nat.le_refl _) _
  clear hs hql
  go_enter Tryz.func87, Tryz.ntmps87
  generalize w.alloc (.cells (List.replicate l.length (Value.string ⟨#[]⟩)).toArray 9) = U at *
  go_wp2_with fail
  go_loopg [6, 7, 13] l.length (fun gk v6 v7 v13 wr => ∃ i : Nat, i + gk = l.length ∧ v13 = .int .i64 (i : Int) ∧ Below w.heap.size w wr ∧ IHolds wr w.heap.size 9 (half q l.length i))
  case atStart => exact ⟨0, by omega, rfl, JB.out, JI.out⟩
  case round =>
    obtain ⟨i, hig, rfl, hB, hI⟩ := hrel
    have B : Hid (Below w.heap.size w wr) := hB
    have I : Hid (IHolds wr w.heap.size 9 (half q l.length i)) := hI
    clear hB hI
    by_cases hi : i < l.length
    · have hi3 : i < q.length := by have := HQ.out; omega
      have il : (i : Int) < (l.length : Int) := by omega
      obtain ⟨b1, o1, rfl, hc1⟩ := HS.out.of_below B.out i hi
      have hcall := CF i hi hi3 wr B.out
      have HH : Hid _ := half_set HQ.out hi hi3
      have HL : Hid ((half q l.length i).length = l.length) := half_length HQ.out (by omega)
      generalize l[i] = s at *
      generalize q[i] = r at *
      go_wp2_with (go_at_call 88; refine hcall.mono ?_; rintro e w3 ⟨rfl, hB3⟩; have B3 : Hid (Below w.heap.size w w3) := B.out.trans (hB3.mono B.out.size); have I3 : Hid (IHolds w3 w.heap.size 9 (half q l.length i)) := I.out.of_below hB3; have f3 : w3.frozen? ⟨w.heap.size, i, none⟩ = false := I3.out.frozen i; have g3 := I3.out.cell i (by have := HL.out; omega); clear hB3)
      have I4 : Hid (IHolds (w3.setCell ⟨w.heap.size, i, none⟩ (.string r)) w.heap.size 9 (half q l.length (i + 1))) := by
        have := I3.out.set i (.string r)
        rw [HH.out] at this
        exact this
      have B4 : Hid (Below w.heap.size w (w3.setCell ⟨w.heap.size, i, none⟩ (.string r))) := Below.setCell B3.out (Nat.le_refl _) _
      go_roundg (gk - 1)
      case measure => omega
      case rel => exact ⟨i + 1, by omega, by go_num, B4.out, I4.out⟩
    · have il : ¬ (i : Int) < (l.length : Int) := by omega
      have e : i = l.length := by omega
      have I5 : Hid (SL wr (some ⟨w.heap.size, 0, none⟩) q) := by
        have h := I.out
        rw [e, half_full HQ.out] at h
        exact h.sl
      clear e
      go_wp2_with fail
      go_ret
      exact ⟨⟨_, _, rfl, ⟨⟨I5.out, by have := HQ.out; omega⟩, fun b o e => by cases e; exact ⟨_, _, I.out⟩⟩⟩, B.out⟩
set_option maxHeartbeats 1000000 in
theorem clos90 {w : World} {z : Int} {g : Nat} {a1 a2 : Option Addr} {c1 c2 n2 : Nat} {bs q : List ByteArray} {t : ByteArray} (hn : bs.length ≤ 8) (hql : q.length = bs.length) (hs : SL w a1 bs) (hg : w.cell? ⟨g, 0, none⟩ = some (.int .i64 z))
    (CP : ∀ i (h1 : i < bs.length) (h3 : i < q.length) W, Calls Tryz.prog 89 #[.agg #[.int .i64 z], .string bs[i], .string t] W fun e w' => e = .returned (.string q[i]) ∧ Below W.heap.size W w') :
    Calls Tryz.prog 86 #[.agg #[.slice a1 bs.length c1, .slice a2 n2 c2], .string t, .pointer (some ⟨g, 0, none⟩)] w fun e w' => (∃ a' c', e = .returned (.slice a' bs.length c') ∧ SY w' a' c' q) ∧ Below w.heap.size w w' := by
  have hmf : ∀ (fn : Fn) (first cap : Array Value) (w : World), (Instr.makeFunc fn first cap).run Tryz.prog w = .ok (.func fn first cap) w := fun _ _ _ _ => rfl
  generalize hW : (w.alloc (.cells #[.slice a1 bs.length c1, .slice a2 n2 c2] 36)).alloc (.cells #[.string t] 9) = U
  have B : Hid (Below w.heap.size w U) := by rw [← hW]; exact ((Below.refl _ w).alloc (Nat.le_refl _) _).alloc (by simp) _
  have I0 : Hid (IHolds U w.heap.size 36 [.slice a1 bs.length c1, .slice a2 n2 c2]) := by rw [← hW]; exact (IHolds.new w 36 [_, _]).alloc _
  have I1 : Hid (IHolds U (w.heap.size + 1) 9 [.string t]) := by rw [← hW]; exact IHolds.new' _ 9 [_] (by simp)
  have H : Hid (Calls Tryz.prog 87 #[.slice a1 bs.length c1, .func (.func 88) #[] #[.pointer (some ⟨g, 0, none⟩), .pointer (some ⟨w.heap.size + 1, 0, none⟩)]] U fun e w' => (∃ a' c', e = .returned (.slice a' bs.length c') ∧ SY w' a' c' q) ∧ Below U.heap.size U w') :=
    each69_91 (by omega) hql (hs.of_below B.out) (fun i h1 h3 V hV => clos91 (cell_keep (cell_keep hg B.out) hV) (cell_keep (I1.out.cell 0 (by simp)) hV) (fun X => CP i h1 h3 X))
  clear hs CP hg
  generalize bs.length = n at *
  have q0 : U.cell? ⟨w.heap.size, 0, none⟩ = some (.slice a1 n c1) := I0.out.cell 0 (by simp)
  go_enter Tryz.func86, Tryz.ntmps86
  go_wp2_with (go_at_call 87; refine H.out.mono ?_; rintro e w1 ⟨⟨a', c', rfl, hs1⟩, hB1⟩)
  go_ret
  exact ⟨⟨a', c', rfl, hs1⟩, B.out.trans (hB1.mono B.out.size)⟩
set_option maxHeartbeats 1000000 in
theorem clos87 {w : World} {z : Int} {g p : Nat} {a1 a2 : Option Addr} {c1 c2 : Nat} {bs ms q : List ByteArray} {t u : ByteArray} (hn : bs.length ≤ 8) (hm : ms.length = bs.length) (hql : q.length = bs.length) (hs : SL w a1 bs) (hs2 : SL w a2 ms) (hg : w.cell? ⟨g, 0, none⟩ = some (.int .i64 z)) (hp : w.cell? ⟨p, 0, none⟩ = some (.string u))
    (CP : ∀ i (h1 : i < bs.length) (h2 : i < ms.length) (h3 : i < q.length) W, Calls Tryz.prog 97 #[.agg #[.int .i64 z], .string bs[i], .string t, .string ms[i], .string u] W fun e w' => e = .returned (.string q[i]) ∧ Below W.heap.size W w') :
    Calls Tryz.prog 95 #[.agg #[.slice a1 bs.length c1, .slice a2 ms.length c2], .string t, .pointer (some ⟨g, 0, none⟩), .pointer (some ⟨p, 0, none⟩)] w fun e w' => (∃ a' c', e = .returned (.slice a' bs.length c') ∧ SY w' a' c' q) ∧ Below w.heap.size w w' := by
  have hmf : ∀ (fn : Fn) (first cap : Array Value) (w : World), (Instr.makeFunc fn first cap).run Tryz.prog w = .ok (.func fn first cap) w := fun _ _ _ _ => rfl
  generalize hW : (w.alloc (.cells #[.slice a1 bs.length c1, .slice a2 ms.length c2] 36)).alloc (.cells #[.string t] 9) = U
  have B : Hid (Below w.heap.size w U) := by rw [← hW]; exact ((Below.refl _ w).alloc (Nat.le_refl _) _).alloc (by simp) _
  have I0 : Hid (IHolds U w.heap.size 36 [.slice a1 bs.length c1, .slice a2 ms.length c2]) := by rw [← hW]; exact (IHolds.new w 36 [_, _]).alloc _
  have I1 : Hid (IHolds U (w.heap.size + 1) 9 [.string t]) := by rw [← hW]; exact IHolds.new' _ 9 [_] (by simp)
  have H : Hid (Calls Tryz.prog 91 #[.slice a1 bs.length c1, .slice a2 ms.length c2, .func (.func 96) #[] #[.pointer (some ⟨g, 0, none⟩), .pointer (some ⟨w.heap.size + 1, 0, none⟩), .pointer (some ⟨p, 0, none⟩)]] U fun e w' => (∃ a' c', e = .returned (.slice a' bs.length c') ∧ SY w' a' c' q) ∧ Below U.heap.size U w') :=
    both70_88 (by omega) hm hql (hs.of_below B.out) (hs2.of_below B.out) (fun i h1 h2 h3 V hV => clos88 (cell_keep (cell_keep hg B.out) hV) (cell_keep (I1.out.cell 0 (by simp)) hV) (cell_keep (cell_keep hp B.out) hV) (fun X => CP i h1 h2 h3 X))
  clear hs hs2 CP hg hp hm
  generalize bs.length = n at *
  generalize ms.length = m at *
  have q0 : U.cell? ⟨w.heap.size, 0, none⟩ = some (.slice a1 n c1) := I0.out.cell 0 (by simp)
  have q1 : U.cell? ⟨w.heap.size, 1, none⟩ = some (.slice a2 m c2) := I0.out.cell 1 (by simp)
  go_enter Tryz.func95, Tryz.ntmps95
  go_wp2_with (go_at_call 91; refine H.out.mono ?_; rintro e w1 ⟨⟨a', c', rfl, hs1⟩, hB1⟩)
  go_ret
  exact ⟨⟨a', c', rfl, hs1⟩, B.out.trans (hB1.mono B.out.size)⟩
end Go.Proofs.YtmpiipcllgjhdaaGreatDoor
namespace Go.Proofs.YtmpiipcllgjhdaaGreatDoor
open Go.RowKit Go.Deep Go.PlainAid

theorem Tryz.info22' : (Tryz.prog.info? 22).map (fun i => (i.zero, i.size, i.bytes)) = some (some (.slice none 0 0), 1, 24) := by kernel_rfl
theorem Tryz.under25 : Tryz.prog.underlying 39 = some (.slice 22) := by kernel_rfl
theorem make25 (z : Int) (n : Nat) (hz : z = (n : Int)) (hn : n ≤ 4294967296) (w : World) : (Instr.makeSlice 39 (.int .i64 z) (.int .i64 z)).run Tryz.prog w = .ok (.slice (some ⟨w.heap.size, 0, none⟩) n n) (w.alloc (.cells (List.replicate n (Value.slice none 0 0)).toArray 22)) := by
  subst hz
  have := run_make_row' (P := Tryz.prog) 39 22 (.slice none 0 0) 24 Tryz.under25 Tryz.info22' rfl .i64 .i64 n (by omega) (by omega) w
  rw [this]
  have e : madeCells #[Value.slice none 0 0] n = (List.replicate n (Value.slice none 0 0)).toArray := by
    apply Array.toList_inj.1
    rw [toList_madeCells_one]
  rw [e]
/-- Rows as the cells hold them: those that are made, then empty ones. -/
structure Rws (w : World) (b : Nat) (q : List (List ByteArray)) (n i : Nat) (V : List Value) : Prop where
  len : V.length = n
  holds : IHolds w b 22 V
  sl : ∀ v ∈ V, ∃ a m c, v = Value.slice a m c
  row : ∀ j (h : j < i) (h' : j < q.length), ∃ a c, V[j]? = some (.slice a (q[j]).length c) ∧ SY w a c q[j]
theorem cell_store {w : World} {b b' x : Nat} {V : List Value} {t : ByteArray} (hc : w.cell? ⟨b', x, none⟩ = some (.string t)) (hI : IHolds w b 22 V) (hV : ∀ v ∈ V, ∃ a m c, v = Value.slice a m c) (i : Nat) (u : Value) : (w.setCell ⟨b, i, none⟩ u).cell? ⟨b', x, none⟩ = some (.string t) := by
  by_cases hb : b' = b
  · exfalso
    subst hb
    unfold IHolds at hI
    simp only [World.cell?, hI] at hc
    have hm : Value.string t ∈ V := List.mem_of_getElem? (l := V) (i := x) (by simpa using hc)
    obtain ⟨_, _, _, e⟩ := hV _ hm
    cases e
  · rw [World.cell?_of_block (a := ⟨b', x, none⟩) (Below.heap_setCell w ⟨b, i, none⟩ u b' hb)]
    exact hc
theorem IHolds.store {w : World} {b b' : Nat} {T : TypeId} {V : List Value} (h : IHolds w b' T V) (hne : b' ≠ b) (i : Nat) (u : Value) : IHolds (w.setCell ⟨b, i, none⟩ u) b' T V := by
  unfold IHolds
  rw [Below.heap_setCell w ⟨b, i, none⟩ u b' hne]
  exact h
theorem SL.store {w : World} {a : Option Addr} {l : List ByteArray} {b : Nat} {V : List Value} (h : SL w a l) (hI : IHolds w b 22 V) (hV : ∀ v ∈ V, ∃ a m c, v = Value.slice a m c) (i : Nat) (x : Value) : SL (w.setCell ⟨b, i, none⟩ x) a l := by
  intro j hj
  obtain ⟨b', o, rfl, hc⟩ := h j hj
  exact ⟨b', o, rfl, cell_store hc hI hV i x⟩
theorem SK.store {w : World} {a : Option Addr} {c : Nat} {l : List ByteArray} {b : Nat} {V : List Value} (h : SK w a c l) (hI : IHolds w b 22 V) (hV : ∀ v ∈ V, ∃ a m c, v = Value.slice a m c) (i : Nat) (x : Value) : SK (w.setCell ⟨b, i, none⟩ x) a c l := ⟨h.sl.store hI hV i x, h.le⟩
theorem SY.store {w : World} {a : Option Addr} {c : Nat} {l : List ByteArray} {b : Nat} {V : List Value} (h : SY w a c l) (hI : IHolds w b 22 V) (hV : ∀ v ∈ V, ∃ a m c, v = Value.slice a m c) (i : Nat) (x : Value) : SY (w.setCell ⟨b, i, none⟩ x) a c l := ⟨h.sk.store hI hV i x, fun b' o e => by
  obtain ⟨cs, fz, q⟩ := h.ty b' o e
  refine ⟨cs, fz, (Below.heap_setCell w ⟨b, i, none⟩ x b' (fun e2 => ?_)).trans q⟩
  have e3 : b' = b := e2
  subst e3
  unfold IHolds at hI
  rw [hI] at q
  cases q⟩
theorem Rws.begin {w : World} (q : List (List ByteArray)) (n : Nat) : Rws (w.alloc (.cells (List.replicate n (Value.slice none 0 0)).toArray 22)) w.heap.size q n 0 (List.replicate n (Value.slice none 0 0)) :=
  ⟨by simp, IHolds.new _ _ _, fun v hv => ⟨none, 0, 0, List.eq_of_mem_replicate hv⟩, fun j h => absurd h (by omega)⟩
theorem Rws.of_below {w w' : World} {b : Nat} {q : List (List ByteArray)} {n i : Nat} {V : List Value} (h : Rws w b q n i V) (hb : Below w.heap.size w w') : Rws w' b q n i V :=
  ⟨h.len, h.holds.of_below hb, h.sl, fun j h1 h2 => by obtain ⟨a, c, e, hs⟩ := h.row j h1 h2; exact ⟨a, c, e, hs.of_below hb⟩⟩
theorem Rws.step {w : World} {b : Nat} {q : List (List ByteArray)} {n i : Nat} {V : List Value} (h : Rws w b q n i V) (hi : i < n) {a : Option Addr} {c : Nat} (h' : i < q.length) (hs : SY w a c q[i]) :
    Rws (w.setCell ⟨b, i, none⟩ (.slice a (q[i]).length c)) b q n (i + 1) (V.set i (.slice a (q[i]).length c)) := by
  refine ⟨by simp [h.len], h.holds.set i _, fun v hv => ?_, fun j h1 h2 => ?_⟩
  · rcases List.mem_or_eq_of_mem_set hv with g | g
    · exact h.sl v g
    · exact ⟨_, _, _, g⟩
  · by_cases hj : j = i
    · subst hj
      exact ⟨a, c, by rw [List.getElem?_set_self (by rw [h.len]; exact hi)], hs.store h.holds h.sl _ _⟩
    · obtain ⟨a', c', e, hs'⟩ := h.row j (by omega) h2
      exact ⟨a', c', by rw [List.getElem?_set_ne (by omega)]; exact e, hs'.store h.holds h.sl _ _⟩
theorem Rws.done {w : World} {b : Nat} {q : List (List ByteArray)} {n : Nat} {V : List Value} (h : Rws w b q n n V) (hq : q.length = n) : SLL w (some ⟨b, 0, none⟩) q := by
  intro i hi
  obtain ⟨a, c, e, hs⟩ := h.row i (by omega) hi
  refine ⟨b, 0, a, c, rfl, ?_, hs⟩
  obtain ⟨hlt, e2⟩ := List.getElem?_eq_some_iff.1 e
  rw [Nat.zero_add, h.holds.cell i hlt, e2]
set_option maxHeartbeats 4000000 in
theorem both86_90 {w : World} {a b : Option Addr} {l : List Cl} {m : List ByteArray} {q : List (List ByteArray)} {c d g : Nat} (hn : l.length ≤ 64) (hml : m.length = l.length) (hql : q.length = l.length) (hs : CM w a l) (hm : SL w b m)
    (CF : ∀ i (h1 : i < l.length) (h2 : i < m.length) (h3 : i < q.length) a1 c1 a2 c2 W, Below w.heap.size w W → SL W a1 (l[i]).1 → SL W a2 (l[i]).2 → Calls Tryz.prog 86 #[.agg #[.slice a1 (l[i]).1.length c1, .slice a2 (l[i]).2.length c2], .string m[i], .pointer (some ⟨g, 0, none⟩)] W fun e w' => (∃ a' c', e = .returned (.slice a' (q[i]).length c') ∧ SY w' a' c' q[i]) ∧ Below W.heap.size W w') :
    Calls Tryz.prog 85 #[.slice a l.length c, .slice b m.length d, .func (.func 86) #[] #[.pointer (some ⟨g, 0, none⟩)]] w fun e w' => (∃ a' c', e = .returned (.slice a' l.length c') ∧ SLL w' a' q) ∧ Below w.heap.size w w' := by
  have HS : Hid (CM w a l) := hs
  have HM : Hid (SL w b m) := hm
  have HQ : Hid (q.length = l.length) := hql
  have HF : Hid _ := CF
  have hmk := make25 _ l.length rfl (by omega) w
  have JR : Hid (Rws (w.alloc (.cells (List.replicate l.length (Value.slice none 0 0)).toArray 22)) w.heap.size q l.length 0 (List.replicate l.length (Value.slice none 0 0))) := Rws.begin q l.length
  have JB : Hid (Below w.heap.size w (w.alloc (.cells (List.replicate l.length (Value.slice none 0 0)).toArray 22))) := (Below.refl _ w).alloc (Nat.le_refl _) _
  rw [hml]
  clear hs hm hql CF
  go_enter Tryz.func85, Tryz.ntmps85
  generalize w.alloc (.cells (List.replicate l.length (Value.slice none 0 0)).toArray 22) = U at *
  go_wp2_with fail
  go_loopg [8, 9, 15] l.length (fun gk v8 v9 v15 wr => ∃ (i : Nat) (V : List Value), i + gk = l.length ∧ v15 = .int .i64 (i : Int) ∧ Below w.heap.size w wr ∧ Rws wr w.heap.size q l.length i V)
  case atStart => exact ⟨0, _, by omega, rfl, JB.out, JR.out⟩
  case round =>
    obtain ⟨i, V, hig, rfl, hB, hI⟩ := hrel
    have B : Hid (Below w.heap.size w wr) := hB
    have I : Hid (Rws wr w.heap.size q l.length i V) := hI
    clear hB hI JR JB hmk
    by_cases hi : i < l.length
    · have hi2 : i < m.length := by omega
      have hi3 : i < q.length := by have := HQ.out; omega
      have il : (i : Int) < (l.length : Int) := by omega
      obtain ⟨b1, o1, a1, c1, a2, c2, rfl, h1, h2, h3, h4⟩ := HS.out.of_below B.out i hi
      obtain ⟨b2, o2, rfl, h5⟩ := HM.out.of_below B.out i hi2
      have hcall := fun W hW => HF.out i hi hi2 hi3 a1 c1 a2 c2 W hW
      have hst : Hid _ := fun (w3 : World) (R : Rws w3 w.heap.size q l.length i V) (a' : Option Addr) (c' : Nat) (hs : SY w3 a' c' q[i]) => Rws.step (c := c') R hi hi3 hs
      have S3 : Hid (SL wr a1 (l[i]).1) := h3
      have S4 : Hid (SL wr a2 (l[i]).2) := h4
      clear h3 h4
      generalize (l[i]).1 = L1 at *
      generalize (l[i]).2 = L2 at *
      generalize m[i] = t at *
      generalize q[i] = r at *
      have hcall' : Hid _ := hcall
      clear hcall
      have JN : Hid (IHolds (wr.alloc (.cells #[.slice a1 L1.length c1, .slice a2 L2.length c2] 36)) wr.heap.size 36 [.slice a1 L1.length c1, .slice a2 L2.length c2]) := IHolds.new _ _ _
      have BN : Hid (Below wr.heap.size wr (wr.alloc (.cells #[.slice a1 L1.length c1, .slice a2 L2.length c2] 36))) := (Below.refl _ _).alloc (Nat.le_refl _) _
      have k5 : Hid _ := cell_keep h5 BN.out
      go_wp2_with fail
      clear h1 h2 h5
      have hne : wr.heap.size ≠ w.heap.size := by have := I.out.holds.lt; omega
      generalize wr.alloc (.cells #[.slice a1 L1.length c1, .slice a2 L2.length c2] 36) = w1 at *
      have B1 : Hid (Below w.heap.size w w1) := B.out.trans (BN.out.mono B.out.size)
      have I1 : Hid (Rws w1 w.heap.size q l.length i V) := I.out.of_below BN.out
      have T3 : Hid (SL w1 a1 L1) := S3.out.of_below BN.out
      have T4 : Hid (SL w1 a2 L2) := S4.out.of_below BN.out
      clear B I S3 S4 BN
      generalize wr.heap.size = bn at *
      refine wp_region_held_drew (S := fun W => IHolds W bn 36 [.slice a1 L1.length c1, .slice a2 L2.length c2] ∧ W.cell? ⟨b2, o2 + i, none⟩ = some (.string t)) (by kernel_rfl) ⟨JN.out, k5.out⟩ (fun hHeld => ?_)
      refine tk (i := 0) (v := .slice (some ⟨w.heap.size, 0, none⟩) l.length l.length) rfl (by kernel_rfl) (fun _ _ _ h => h) rfl ?_ hHeld ?_
      · intro W hS; go_simp
      simp only [Act.put, y1, y2, y3, y4, y5, y6, y7]
      refine tk (i := 1) (v := .int .i64 (i : Int)) rfl (by kernel_rfl) (fun _ _ _ h => h) rfl ?_ hHeld ?_
      · intro W hS; go_simp
      simp only [Act.put, y1, y2, y3, y4, y5, y6, y7]
      refine tk (i := 2) (v := .func (.func 86) #[] #[.pointer (some ⟨g, 0, none⟩)]) rfl (by kernel_rfl) (fun _ _ _ h => h) rfl ?_ hHeld ?_
      · intro W hS; go_simp
      simp only [Act.put, y1, y2, y3, y4, y5, y6, y7]
      refine tk (i := 3) (v := .agg #[.slice a1 L1.length c1, .slice a2 L2.length c2]) rfl (by kernel_rfl) (fun _ _ _ h => h) rfl ?_ hHeld ?_
      · intro W hS; obtain ⟨x0, x1⟩ := Go.Proofs.YtmpiipcllgjhdaaGreatDoor.c2 hS.1; clear hS; go_simp
      simp only [Act.put, y1, y2, y3, y4, y5, y6, y7]
      refine tk (i := 4) (v := .slice (some ⟨b2, o2, none⟩) l.length d) rfl (by kernel_rfl) (fun _ _ _ h => h) rfl ?_ hHeld ?_
      · intro W hS; go_simp
      simp only [Act.put, y1, y2, y3, y4, y5, y6, y7]
      refine tk (i := 5) (v := .int .i64 (i : Int)) rfl (by kernel_rfl) (fun _ _ _ h => h) rfl ?_ hHeld ?_
      · intro W hS; go_simp
      simp only [Act.put, y1, y2, y3, y4, y5, y6, y7]
      refine tk (i := 6) (v := .pointer (some ⟨b2, o2 + i, none⟩)) rfl (by kernel_rfl) (fun _ _ _ h => h) rfl ?_ hHeld ?_
      · intro W hS; go_simp
      simp only [Act.put, y1, y2, y3, y4, y5, y6, y7]
      refine tk (i := 7) (v := .string t) rfl (by kernel_rfl) (fun _ _ _ h => h) rfl ?_ hHeld ?_
      · intro W hS; have x5 := hS.2; clear hS; go_simp
      simp only [Act.put, y1, y2, y3, y4, y5, y6, y7]
      refine wpAnyH_ready (rs := [8]) (by kernel_rfl) (by simp) ?_
      refine AllReadyH.cons rfl (fun K hK => ?_) AllReadyH.nil
      go_simp
      refine (hcall'.out w1.drew B1.out.drew (T3.out.of_below (dB w1)) (T4.out.of_below (dB w1))).mono ?_
      rintro e w3 ⟨⟨a', c', rfl, hs3⟩, hB3⟩
      have B3 : Hid (Below w.heap.size w w3) := B1.out.drew.trans (hB3.mono B1.out.size)
      have I3 : Hid (Rws w3 w.heap.size q l.length i V) := (I1.out.of_below (dB w1)).of_below hB3
      have J3 : Hid (IHolds w3 bn 36 [.slice a1 L1.length c1, .slice a2 L2.length c2]) := (JN.out.of_below (dB w1)).of_below hB3
      have k3 : Hid (w3.cell? ⟨b2, o2 + i, none⟩ = some (.string t)) := cell_keep (cell_keep k5.out (dB w1)) hB3
      have R4 : Hid _ := hst.out w3 I3.out a' c' hs3
      have B4 : Hid (Below w.heap.size w (w3.setCell ⟨w.heap.size, i, none⟩ (.slice a' r.length c'))) := Below.setCell B3.out (Nat.le_refl _) _
      have f3 : w3.frozen? ⟨w.heap.size, i, none⟩ = false := I3.out.holds.frozen i
      obtain ⟨x9, hx9⟩ : ∃ x, w3.cell? ⟨w.heap.size, i, none⟩ = some x := ⟨_, I3.out.holds.cell i (by rw [I3.out.len]; exact hi)⟩
      have hx9' : Hid _ := hx9
      clear hB3 hs3 B1 I1 JN k5 T3 T4 hcall' hst hx9
      go_wp2_with fail
      refine hK.out _ _ ⟨J3.out, k3.out⟩ (fun hHeld2 => ?_)
      clear hK K hHeld
      try simp only [Act.put, y1, y2, y3, y4, y5, y6, y7]
      refine tk (i := 9) (v := .pointer (some ⟨w.heap.size, i, none⟩)) rfl (by kernel_rfl) (fun _ _ _ h => h) rfl ?_ hHeld2 ?_
      · intro W hS; go_simp
      simp only [Act.put, y1, y2, y3, y4, y5, y6, y7]
      refine wpAnyH_ready (rs := [10]) (by kernel_rfl) (by simp) ?_
      refine AllReadyH.cons rfl (fun K hK => ?_) AllReadyH.nil
      have hx9 := hx9'.out
      have J4 : Hid _ := J3.out.store hne i (.slice a' r.length c')
      have k4 : Hid _ := cell_store k3.out I3.out.holds I3.out.sl i (.slice a' r.length c')
      clear HF HS HM hHeld2 I3 J3 k3 B3 hx9'
      go_simp
      try go_wp2_with fail
      refine hK.out _ _ ⟨J4.out, k4.out⟩ (fun hHeld3 => ?_)
      clear hK K f3 hx9
      try simp only [Act.put, y1, y2, y3, y4, y5, y6, y7]
      refine wpAnyH_done (by kernel_rfl) ?_ _
      clear hHeld3 J4 k4
      generalize w3.setCell ⟨w.heap.size, i, none⟩ (.slice a' r.length c') = w4 at *
      go_wp2_with fail
      go_roundg (gk - 1)
      case measure => omega
      case rel => exact ⟨i + 1, _, by omega, by go_num, B4.out, R4.out⟩
    · have il : ¬ (i : Int) < (l.length : Int) := by omega
      have e : i = l.length := by omega
      have I5 : Hid (SLL wr (some ⟨w.heap.size, 0, none⟩) q) := by
        have h := I.out
        rw [e] at h
        exact h.done HQ.out
      clear e I
      go_wp2_with fail
      go_ret
      exact ⟨⟨_, ⟨_, rfl⟩, I5.out⟩, B.out⟩
set_option maxHeartbeats 4000000 in
theorem both86_87 {w : World} {a b : Option Addr} {l : List Cl} {m : List ByteArray} {q : List (List ByteArray)} {c d g p : Nat} (hn : l.length ≤ 64) (hml : m.length = l.length) (hql : q.length = l.length) (hs : CM w a l) (hm : SL w b m)
    (CF : ∀ i (h1 : i < l.length) (h2 : i < m.length) (h3 : i < q.length) a1 c1 a2 c2 W, Below w.heap.size w W → SL W a1 (l[i]).1 → SL W a2 (l[i]).2 → Calls Tryz.prog 95 #[.agg #[.slice a1 (l[i]).1.length c1, .slice a2 (l[i]).2.length c2], .string m[i], .pointer (some ⟨g, 0, none⟩), .pointer (some ⟨p, 0, none⟩)] W fun e w' => (∃ a' c', e = .returned (.slice a' (q[i]).length c') ∧ SY w' a' c' q[i]) ∧ Below W.heap.size W w') :
    Calls Tryz.prog 85 #[.slice a l.length c, .slice b m.length d, .func (.func 95) #[] #[.pointer (some ⟨g, 0, none⟩), .pointer (some ⟨p, 0, none⟩)]] w fun e w' => (∃ a' c', e = .returned (.slice a' l.length c') ∧ SLL w' a' q) ∧ Below w.heap.size w w' := by
  have HS : Hid (CM w a l) := hs
  have HM : Hid (SL w b m) := hm
  have HQ : Hid (q.length = l.length) := hql
  have HF : Hid _ := CF
  have hmk := make25 _ l.length rfl (by omega) w
  have JR : Hid (Rws (w.alloc (.cells (List.replicate l.length (Value.slice none 0 0)).toArray 22)) w.heap.size q l.length 0 (List.replicate l.length (Value.slice none 0 0))) := Rws.begin q l.length
  have JB : Hid (Below w.heap.size w (w.alloc (.cells (List.replicate l.length (Value.slice none 0 0)).toArray 22))) := (Below.refl _ w).alloc (Nat.le_refl _) _
  rw [hml]
  clear hs hm hql CF
  go_enter Tryz.func85, Tryz.ntmps85
  generalize w.alloc (.cells (List.replicate l.length (Value.slice none 0 0)).toArray 22) = U at *
  go_wp2_with fail
  go_loopg [8, 9, 15] l.length (fun gk v8 v9 v15 wr => ∃ (i : Nat) (V : List Value), i + gk = l.length ∧ v15 = .int .i64 (i : Int) ∧ Below w.heap.size w wr ∧ Rws wr w.heap.size q l.length i V)
  case atStart => exact ⟨0, _, by omega, rfl, JB.out, JR.out⟩
  case round =>
    obtain ⟨i, V, hig, rfl, hB, hI⟩ := hrel
    have B : Hid (Below w.heap.size w wr) := hB
    have I : Hid (Rws wr w.heap.size q l.length i V) := hI
    clear hB hI JR JB hmk
    by_cases hi : i < l.length
    · have hi2 : i < m.length := by omega
      have hi3 : i < q.length := by have := HQ.out; omega
      have il : (i : Int) < (l.length : Int) := by omega
      obtain ⟨b1, o1, a1, c1, a2, c2, rfl, h1, h2, h3, h4⟩ := HS.out.of_below B.out i hi
      obtain ⟨b2, o2, rfl, h5⟩ := HM.out.of_below B.out i hi2
      have hcall := fun W hW => HF.out i hi hi2 hi3 a1 c1 a2 c2 W hW
      have hst : Hid _ := fun (w3 : World) (R : Rws w3 w.heap.size q l.length i V) (a' : Option Addr) (c' : Nat) (hs : SY w3 a' c' q[i]) => Rws.step (c := c') R hi hi3 hs
      have S3 : Hid (SL wr a1 (l[i]).1) := h3
      have S4 : Hid (SL wr a2 (l[i]).2) := h4
      clear h3 h4
      generalize (l[i]).1 = L1 at *
      generalize (l[i]).2 = L2 at *
      generalize m[i] = t at *
      generalize q[i] = r at *
      have hcall' : Hid _ := hcall
      clear hcall
      have JN : Hid (IHolds (wr.alloc (.cells #[.slice a1 L1.length c1, .slice a2 L2.length c2] 36)) wr.heap.size 36 [.slice a1 L1.length c1, .slice a2 L2.length c2]) := IHolds.new _ _ _
      have BN : Hid (Below wr.heap.size wr (wr.alloc (.cells #[.slice a1 L1.length c1, .slice a2 L2.length c2] 36))) := (Below.refl _ _).alloc (Nat.le_refl _) _
      have k5 : Hid _ := cell_keep h5 BN.out
      go_wp2_with fail
      clear h1 h2 h5
      have hne : wr.heap.size ≠ w.heap.size := by have := I.out.holds.lt; omega
      generalize wr.alloc (.cells #[.slice a1 L1.length c1, .slice a2 L2.length c2] 36) = w1 at *
      have B1 : Hid (Below w.heap.size w w1) := B.out.trans (BN.out.mono B.out.size)
      have I1 : Hid (Rws w1 w.heap.size q l.length i V) := I.out.of_below BN.out
      have T3 : Hid (SL w1 a1 L1) := S3.out.of_below BN.out
      have T4 : Hid (SL w1 a2 L2) := S4.out.of_below BN.out
      clear B I S3 S4 BN
      generalize wr.heap.size = bn at *
      refine wp_region_held_drew (S := fun W => IHolds W bn 36 [.slice a1 L1.length c1, .slice a2 L2.length c2] ∧ W.cell? ⟨b2, o2 + i, none⟩ = some (.string t)) (by kernel_rfl) ⟨JN.out, k5.out⟩ (fun hHeld => ?_)
      refine tk (i := 0) (v := .slice (some ⟨w.heap.size, 0, none⟩) l.length l.length) rfl (by kernel_rfl) (fun _ _ _ h => h) rfl ?_ hHeld ?_
      · intro W hS; go_simp
      simp only [Act.put, y1, y2, y3, y4, y5, y6, y7]
      refine tk (i := 1) (v := .int .i64 (i : Int)) rfl (by kernel_rfl) (fun _ _ _ h => h) rfl ?_ hHeld ?_
      · intro W hS; go_simp
      simp only [Act.put, y1, y2, y3, y4, y5, y6, y7]
      refine tk (i := 2) (v := .func (.func 95) #[] #[.pointer (some ⟨g, 0, none⟩), .pointer (some ⟨p, 0, none⟩)]) rfl (by kernel_rfl) (fun _ _ _ h => h) rfl ?_ hHeld ?_
      · intro W hS; go_simp
      simp only [Act.put, y1, y2, y3, y4, y5, y6, y7]
      refine tk (i := 3) (v := .agg #[.slice a1 L1.length c1, .slice a2 L2.length c2]) rfl (by kernel_rfl) (fun _ _ _ h => h) rfl ?_ hHeld ?_
      · intro W hS; obtain ⟨x0, x1⟩ := Go.Proofs.YtmpiipcllgjhdaaGreatDoor.c2 hS.1; clear hS; go_simp
      simp only [Act.put, y1, y2, y3, y4, y5, y6, y7]
      refine tk (i := 4) (v := .slice (some ⟨b2, o2, none⟩) l.length d) rfl (by kernel_rfl) (fun _ _ _ h => h) rfl ?_ hHeld ?_
      · intro W hS; go_simp
      simp only [Act.put, y1, y2, y3, y4, y5, y6, y7]
      refine tk (i := 5) (v := .int .i64 (i : Int)) rfl (by kernel_rfl) (fun _ _ _ h => h) rfl ?_ hHeld ?_
      · intro W hS; go_simp
      simp only [Act.put, y1, y2, y3, y4, y5, y6, y7]
      refine tk (i := 6) (v := .pointer (some ⟨b2, o2 + i, none⟩)) rfl (by kernel_rfl) (fun _ _ _ h => h) rfl ?_ hHeld ?_
      · intro W hS; go_simp
      simp only [Act.put, y1, y2, y3, y4, y5, y6, y7]
      refine tk (i := 7) (v := .string t) rfl (by kernel_rfl) (fun _ _ _ h => h) rfl ?_ hHeld ?_
      · intro W hS; have x5 := hS.2; clear hS; go_simp
      simp only [Act.put, y1, y2, y3, y4, y5, y6, y7]
      refine wpAnyH_ready (rs := [8]) (by kernel_rfl) (by simp) ?_
      refine AllReadyH.cons rfl (fun K hK => ?_) AllReadyH.nil
      go_simp
      refine (hcall'.out w1.drew B1.out.drew (T3.out.of_below (dB w1)) (T4.out.of_below (dB w1))).mono ?_
      rintro e w3 ⟨⟨a', c', rfl, hs3⟩, hB3⟩
      have B3 : Hid (Below w.heap.size w w3) := B1.out.drew.trans (hB3.mono B1.out.size)
      have I3 : Hid (Rws w3 w.heap.size q l.length i V) := (I1.out.of_below (dB w1)).of_below hB3
      have J3 : Hid (IHolds w3 bn 36 [.slice a1 L1.length c1, .slice a2 L2.length c2]) := (JN.out.of_below (dB w1)).of_below hB3
      have k3 : Hid (w3.cell? ⟨b2, o2 + i, none⟩ = some (.string t)) := cell_keep (cell_keep k5.out (dB w1)) hB3
      have R4 : Hid _ := hst.out w3 I3.out a' c' hs3
      have B4 : Hid (Below w.heap.size w (w3.setCell ⟨w.heap.size, i, none⟩ (.slice a' r.length c'))) := Below.setCell B3.out (Nat.le_refl _) _
      have f3 : w3.frozen? ⟨w.heap.size, i, none⟩ = false := I3.out.holds.frozen i
      obtain ⟨x9, hx9⟩ : ∃ x, w3.cell? ⟨w.heap.size, i, none⟩ = some x := ⟨_, I3.out.holds.cell i (by rw [I3.out.len]; exact hi)⟩
      have hx9' : Hid _ := hx9
      clear hB3 hs3 B1 I1 JN k5 T3 T4 hcall' hst hx9
      go_wp2_with fail
      refine hK.out _ _ ⟨J3.out, k3.out⟩ (fun hHeld2 => ?_)
      clear hK K hHeld
      try simp only [Act.put, y1, y2, y3, y4, y5, y6, y7]
      refine tk (i := 9) (v := .pointer (some ⟨w.heap.size, i, none⟩)) rfl (by kernel_rfl) (fun _ _ _ h => h) rfl ?_ hHeld2 ?_
      · intro W hS; go_simp
      simp only [Act.put, y1, y2, y3, y4, y5, y6, y7]
      refine wpAnyH_ready (rs := [10]) (by kernel_rfl) (by simp) ?_
      refine AllReadyH.cons rfl (fun K hK => ?_) AllReadyH.nil
      have hx9 := hx9'.out
      have J4 : Hid _ := J3.out.store hne i (.slice a' r.length c')
      have k4 : Hid _ := cell_store k3.out I3.out.holds I3.out.sl i (.slice a' r.length c')
      clear HF HS HM hHeld2 I3 J3 k3 B3 hx9'
      go_simp
      try go_wp2_with fail
      refine hK.out _ _ ⟨J4.out, k4.out⟩ (fun hHeld3 => ?_)
      clear hK K f3 hx9
      try simp only [Act.put, y1, y2, y3, y4, y5, y6, y7]
      refine wpAnyH_done (by kernel_rfl) ?_ _
      clear hHeld3 J4 k4
      generalize w3.setCell ⟨w.heap.size, i, none⟩ (.slice a' r.length c') = w4 at *
      go_wp2_with fail
      go_roundg (gk - 1)
      case measure => omega
      case rel => exact ⟨i + 1, _, by omega, by go_num, B4.out, R4.out⟩
    · have il : ¬ (i : Int) < (l.length : Int) := by omega
      have e : i = l.length := by omega
      have I5 : Hid (SLL wr (some ⟨w.heap.size, 0, none⟩) q) := by
        have h := I.out
        rw [e] at h
        exact h.done HQ.out
      clear e I
      go_wp2_with fail
      go_ret
      exact ⟨⟨_, ⟨_, rfl⟩, I5.out⟩, B.out⟩
end Go.Proofs.YtmpiipcllgjhdaaGreatDoor
