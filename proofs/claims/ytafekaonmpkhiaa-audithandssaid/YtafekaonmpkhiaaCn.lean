/- Hand. -/
import Derived.Test.YtafekaonmpkhiaaCm
import Derived.Laws.EntriesVeiled
set_option linter.unusedSimpArgs false
set_option linter.unusedVariables false
set_option maxRecDepth 100000
namespace Go.Proofs.Ytafekaonmpkhiaa
open Go.RowKit Go.Deep Go.PlainAid

def nxt (l : List Hd) (h : Hd) : List Hd := if handC l h = 0 then l ++ [h] else l
theorem nxt_no {l : List Hd} {h : Hd} (e : handC l h ≠ 0) : nxt l h = l := by unfold nxt; rw [if_neg e]
theorem nxt_yes {l : List Hd} {h : Hd} (e : handC l h = 0) : nxt l h = l ++ [h] := by unfold nxt; rw [if_pos e]
theorem handC_form {l : List Hd} {h : Hd} {z : Int} (e : formC h = z) (hz : z ≠ 0) : handC l h = z := by unfold handC; rw [e, if_pos hz]
theorem handC_hind {l : List Hd} {h : Hd} (e : formC h = 0) : handC l h = hindC l h := by unfold handC; rw [e, if_neg (fun q => q rfl)]
set_option maxHeartbeats 1000000 in
theorem deed15_o {x : Int} (a : ¬ (1 ≤ x ∧ x ≤ 5)) (w : World) : Calls Try.prog 15 #[.int .i64 x] w fun e w' => e = .returned (.tuple #[.agg #[.bool false, .int .i64 0, .bool false, .bool false, .bool false, Value.nilFunc], .bool false]) ∧ Below w.heap.size w w' := by
  have a1 : (x == 1) = false := by simp; omega
  have a2 : (x == 2) = false := by simp; omega
  have a3 : (x == 3) = false := by simp; omega
  have a4 : (x == 4) = false := by simp; omega
  have a5 : (x == 5) = false := by simp; omega
  clear a
  go_enter Try.func15, Try.ntmps15
  go_wp2_with fail
  exact bodyPost_ret (v := .tuple #[.agg #[.bool false, .int .i64 0, .bool false, .bool false, .bool false, Value.nilFunc], .bool false]) (by simp [results, Try.results15, go_sem]) rfl ⟨rfl, (Below.refl _ _).alloc (Nat.le_refl _) _⟩
set_option maxHeartbeats 8000000 in
theorem hand7_1 {l : List Hd} {h : Hd} {cb bm bs : Nat} {w : World} (hc : CU w cb bm bs l) (hi : Inv1 l) (a : h.act = 1) (hs : Hs h) (hl : l.length < 140737488355328) :
    Calls Try.prog 7 #[.pointer (some ⟨cb, 0, none⟩), HV h] w fun e w' => e = .returned (.int .i64 (handC l h)) ∧ CU w' cb bm bs (nxt l h) ∧ FR w w' bm bs := by
  have HC : Hid (∀ V, Below w.heap.size w V → CU V cb bm bs l) := fun V hV => hc.of_below hV
  have H15 : Hid (∀ V, Calls Try.prog 15 #[.int .i64 h.act] V fun e w' => e = .returned (.tuple #[.agg #[.bool true, .int .i64 0, .bool false, .bool true, .bool false, .func (.func 23) #[] #[]], .bool true]) ∧ Below V.heap.size V w') := fun V => by rw [a]; exact deed15_1 V
  have H16 : Hid (∀ V, Calls Try.prog 16 #[.agg #[.bool true, .int .i64 0, .bool false, .bool true, .bool false, .func (.func 23) #[] #[]], .agg #[.int .i64 h.act, .string h.box, .string h.who, .string h.to_, .int .i64 h.cnt, .string h.sl]] V fun e w' => e = .returned (.bool (mfB false h)) ∧ Below V.heap.size V w') := fun V => misfits16 true 0 false true false 23 hs V
  have H17 : Hid (∀ V, Calls Try.prog 17 #[.agg #[.bool true, .int .i64 0, .bool false, .bool true, .bool false, .func (.func 23) #[] #[]], .agg #[.int .i64 h.act, .string h.box, .string h.who, .string h.to_, .int .i64 h.cnt, .string h.sl]] V fun e w' => e = .returned (.bool (mcB true h.cnt)) ∧ Below V.heap.size V w') := fun V => miscounts17 true 0 false true false 23 h V
  have H18 : Hid (∀ V, Below w.heap.size w V → Calls Try.prog 18 #[.pointer (some ⟨cb, 0, none⟩), .agg #[.bool true, .int .i64 0, .bool false, .bool true, .bool false, .func (.func 23) #[] #[]], .agg #[.int .i64 h.act, .string h.box, .string h.who, .string h.to_, .int .i64 h.cnt, .string h.sl]] V fun e w' => e = .returned (.int .i64 (hindC l h)) ∧ Below V.heap.size V w') := fun V hV => by
    have q := hinders18 true 0 false true false 23 (h := h) (hc.of_below hV) hi hs.b hs.s
    rw [hind_1 hi a] at q
    exact q
  have H19 : Hid (∀ V, Below w.heap.size w V → handC l h = 0 → Calls Try.prog 19 #[.pointer (some ⟨cb, 0, none⟩), .agg #[.bool true, .int .i64 0, .bool false, .bool true, .bool false, .func (.func 23) #[] #[]], .agg #[.int .i64 h.act, .string h.box, .string h.who, .string h.to_, .int .i64 h.cnt, .string h.sl]] V fun e w' => e = .returned (.tuple #[]) ∧ CU w' cb bm bs (l ++ [h]) ∧ FR V w' bm bs) := fun V hV e0 => do19_1 (hc.of_below hV) hi e0 a hs hl
  have fq := form_1 a
  by_cases m1 : mfB false h = true
  · rw [m1] at H16
    have HZ : Hid (handC l h = 2) := handC_form (by rw [fq, if_pos m1]) (by decide)
    have HX : Hid (nxt l h = l) := nxt_no (by rw [HZ.out]; decide)
    clear fq m1 H17 H18 H19 a
    unfold HV
    have B : Hid (Below w.heap.size w (w.alloc (.cells #[.int .i64 h.act, .string h.box, .string h.who, .string h.to_, .int .i64 h.cnt, .string h.sl] 26))) := (Below.refl _ _).alloc (Nat.le_refl _) _
    have I1 : Hid (IHolds (w.alloc (.cells #[.int .i64 h.act, .string h.box, .string h.who, .string h.to_, .int .i64 h.cnt, .string h.sl] 26)) w.heap.size 26 [.int .i64 h.act, .string h.box, .string h.who, .string h.to_, .int .i64 h.cnt, .string h.sl]) := IHolds.new w 26 _
    clear hi hs hl hc
    generalize nxt l h = nx at *
    generalize handC l h = z at *
    generalize h.box = s1 at *
    generalize h.who = s2 at *
    generalize h.to_ = s3 at *
    generalize h.sl = s5 at *
    generalize h.cnt = x4 at *
    generalize h.act = x0 at *
    go_enter Try.func7, Try.ntmps7
    go_wp2_with (go_at_call 15; refine (H15.out _).mono ?_)
    rintro e w1 ⟨rfl, hB⟩
    have B1 : Hid (Below w.heap.size w w1) := B.out.trans (hB.mono B.out.size)
    have J1 : Hid (IHolds w1 w.heap.size 26 [.int .i64 x0, .string s1, .string s2, .string s3, .int .i64 x4, .string s5]) := I1.out.of_below hB
    have B2 : Hid (Below w.heap.size w (w1.alloc (.cells #[.bool true, .int .i64 0, .bool false, .bool true, .bool false, .func (.func 23) #[] #[]] 51))) := B1.out.alloc B1.out.size _
    have J2 : Hid (IHolds (w1.alloc (.cells #[.bool true, .int .i64 0, .bool false, .bool true, .bool false, .func (.func 23) #[] #[]] 51)) w.heap.size 26 [.int .i64 x0, .string s1, .string s2, .string s3, .int .i64 x4, .string s5]) := J1.out.alloc _
    have J3 : Hid (IHolds (w1.alloc (.cells #[.bool true, .int .i64 0, .bool false, .bool true, .bool false, .func (.func 23) #[] #[]] 51)) w1.heap.size 51 [.bool true, .int .i64 0, .bool false, .bool true, .bool false, .func (.func 23) #[] #[]]) := IHolds.new w1 51 _
    obtain ⟨q0, q1, q2, q3, q4, q5⟩ := six J2.out
    obtain ⟨p0, p1, p2, p3, p4, p5⟩ := six J3.out
    clear hB H15 I1 J1 B1
    go_wp2_with (go_at_call 16; refine (H16.out _).mono ?_)
    rintro e w2 ⟨rfl, hB⟩
    have B3 : Hid (Below w.heap.size w w2) := B2.out.trans (hB.mono B2.out.size)
    clear hB q0 q1 q2 q3 q4 q5 p0 p1 p2 p3 p4 p5 J2 J3
    go_wp2_with fail
    go_ret
    exact ⟨by first | rfl | (rw [HZ.out]; rfl), by first | exact HC.out _ B3.out | (rw [HX.out]; exact HC.out _ B3.out), FR.below B3.out⟩
  · have m1f : mfB false h = false := by simpa using m1
    rw [m1f] at H16
    by_cases m2 : mcB true h.cnt = true
    · rw [m2] at H17
      have HZ : Hid (handC l h = 4) := handC_form (by rw [fq, if_neg m1, if_pos m2]) (by decide)
      have HX : Hid (nxt l h = l) := nxt_no (by rw [HZ.out]; decide)
      clear fq m1 m1f m2 H18 H19 a
      unfold HV
      have B : Hid (Below w.heap.size w (w.alloc (.cells #[.int .i64 h.act, .string h.box, .string h.who, .string h.to_, .int .i64 h.cnt, .string h.sl] 26))) := (Below.refl _ _).alloc (Nat.le_refl _) _
      have I1 : Hid (IHolds (w.alloc (.cells #[.int .i64 h.act, .string h.box, .string h.who, .string h.to_, .int .i64 h.cnt, .string h.sl] 26)) w.heap.size 26 [.int .i64 h.act, .string h.box, .string h.who, .string h.to_, .int .i64 h.cnt, .string h.sl]) := IHolds.new w 26 _
      clear hi hs hl hc
      generalize nxt l h = nx at *
      generalize handC l h = z at *
      generalize h.box = s1 at *
      generalize h.who = s2 at *
      generalize h.to_ = s3 at *
      generalize h.sl = s5 at *
      generalize h.cnt = x4 at *
      generalize h.act = x0 at *
      go_enter Try.func7, Try.ntmps7
      go_wp2_with (go_at_call 15; refine (H15.out _).mono ?_)
      rintro e w1 ⟨rfl, hB⟩
      have B1 : Hid (Below w.heap.size w w1) := B.out.trans (hB.mono B.out.size)
      have J1 : Hid (IHolds w1 w.heap.size 26 [.int .i64 x0, .string s1, .string s2, .string s3, .int .i64 x4, .string s5]) := I1.out.of_below hB
      have B2 : Hid (Below w.heap.size w (w1.alloc (.cells #[.bool true, .int .i64 0, .bool false, .bool true, .bool false, .func (.func 23) #[] #[]] 51))) := B1.out.alloc B1.out.size _
      have J2 : Hid (IHolds (w1.alloc (.cells #[.bool true, .int .i64 0, .bool false, .bool true, .bool false, .func (.func 23) #[] #[]] 51)) w.heap.size 26 [.int .i64 x0, .string s1, .string s2, .string s3, .int .i64 x4, .string s5]) := J1.out.alloc _
      have J3 : Hid (IHolds (w1.alloc (.cells #[.bool true, .int .i64 0, .bool false, .bool true, .bool false, .func (.func 23) #[] #[]] 51)) w1.heap.size 51 [.bool true, .int .i64 0, .bool false, .bool true, .bool false, .func (.func 23) #[] #[]]) := IHolds.new w1 51 _
      obtain ⟨q0, q1, q2, q3, q4, q5⟩ := six J2.out
      obtain ⟨p0, p1, p2, p3, p4, p5⟩ := six J3.out
      clear hB H15 I1 J1 B1
      go_wp2_with (go_at_call 16; refine (H16.out _).mono ?_)
      rintro e w2 ⟨rfl, hB⟩
      have B3 : Hid (Below w.heap.size w w2) := B2.out.trans (hB.mono B2.out.size)
      have K2 := J2.out.of_below hB
      have K3 := J3.out.of_below hB
      clear hB q0 q1 q2 q3 q4 q5 p0 p1 p2 p3 p4 p5 J2 J3
      obtain ⟨q0, q1, q2, q3, q4, q5⟩ := six K2
      obtain ⟨p0, p1, p2, p3, p4, p5⟩ := six K3
      go_wp2_with (go_at_call 17; refine (H17.out _).mono ?_)
      rintro e w3 ⟨rfl, hB⟩
      have B4 : Hid (Below w.heap.size w w3) := B3.out.trans (hB.mono B3.out.size)
      clear hB q0 q1 q2 q3 q4 q5 p0 p1 p2 p3 p4 p5 K2 K3
      go_wp2_with fail
      go_ret
      exact ⟨by first | rfl | (rw [HZ.out]; rfl), by first | exact HC.out _ B4.out | (rw [HX.out]; exact HC.out _ B4.out), FR.below B4.out⟩
    · have m2f : mcB true h.cnt = false := by simpa using m2
      rw [m2f] at H17
      have hz : handC l h = hindC l h := handC_hind (by rw [fq, if_neg m1, if_neg m2])
      rw [← hz] at H18
      clear fq m1 m1f m2 m2f hz a
      have HX0 : Hid (handC l h ≠ 0 → nxt l h = l) := nxt_no
      have HX1 : Hid (handC l h = 0 → nxt l h = l ++ [h]) := nxt_yes
      generalize l ++ [h] = lh at *
      unfold HV
      have B : Hid (Below w.heap.size w (w.alloc (.cells #[.int .i64 h.act, .string h.box, .string h.who, .string h.to_, .int .i64 h.cnt, .string h.sl] 26))) := (Below.refl _ _).alloc (Nat.le_refl _) _
      have I1 : Hid (IHolds (w.alloc (.cells #[.int .i64 h.act, .string h.box, .string h.who, .string h.to_, .int .i64 h.cnt, .string h.sl] 26)) w.heap.size 26 [.int .i64 h.act, .string h.box, .string h.who, .string h.to_, .int .i64 h.cnt, .string h.sl]) := IHolds.new w 26 _
      clear hi hs hl hc
      generalize nxt l h = nx at *
      generalize handC l h = z at *
      generalize h.box = s1 at *
      generalize h.who = s2 at *
      generalize h.to_ = s3 at *
      generalize h.sl = s5 at *
      generalize h.cnt = x4 at *
      generalize h.act = x0 at *
      go_enter Try.func7, Try.ntmps7
      go_wp2_with (go_at_call 15; refine (H15.out _).mono ?_)
      rintro e w1 ⟨rfl, hB⟩
      have B1 : Hid (Below w.heap.size w w1) := B.out.trans (hB.mono B.out.size)
      have J1 : Hid (IHolds w1 w.heap.size 26 [.int .i64 x0, .string s1, .string s2, .string s3, .int .i64 x4, .string s5]) := I1.out.of_below hB
      have B2 : Hid (Below w.heap.size w (w1.alloc (.cells #[.bool true, .int .i64 0, .bool false, .bool true, .bool false, .func (.func 23) #[] #[]] 51))) := B1.out.alloc B1.out.size _
      have J2 : Hid (IHolds (w1.alloc (.cells #[.bool true, .int .i64 0, .bool false, .bool true, .bool false, .func (.func 23) #[] #[]] 51)) w.heap.size 26 [.int .i64 x0, .string s1, .string s2, .string s3, .int .i64 x4, .string s5]) := J1.out.alloc _
      have J3 : Hid (IHolds (w1.alloc (.cells #[.bool true, .int .i64 0, .bool false, .bool true, .bool false, .func (.func 23) #[] #[]] 51)) w1.heap.size 51 [.bool true, .int .i64 0, .bool false, .bool true, .bool false, .func (.func 23) #[] #[]]) := IHolds.new w1 51 _
      obtain ⟨q0, q1, q2, q3, q4, q5⟩ := six J2.out
      obtain ⟨p0, p1, p2, p3, p4, p5⟩ := six J3.out
      clear hB H15 I1 J1 B1
      go_wp2_with (go_at_call 16; refine (H16.out _).mono ?_)
      rintro e w2 ⟨rfl, hB⟩
      have B3 : Hid (Below w.heap.size w w2) := B2.out.trans (hB.mono B2.out.size)
      have K2 := J2.out.of_below hB
      have K3 := J3.out.of_below hB
      clear hB q0 q1 q2 q3 q4 q5 p0 p1 p2 p3 p4 p5 J2 J3
      obtain ⟨q0, q1, q2, q3, q4, q5⟩ := six K2
      obtain ⟨p0, p1, p2, p3, p4, p5⟩ := six K3
      go_wp2_with (go_at_call 17; refine (H17.out _).mono ?_)
      rintro e w3 ⟨rfl, hB⟩
      have B4 : Hid (Below w.heap.size w w3) := B3.out.trans (hB.mono B3.out.size)
      have L2 := K2.of_below hB
      have L3 := K3.of_below hB
      clear hB q0 q1 q2 q3 q4 q5 p0 p1 p2 p3 p4 p5 K2 K3
      obtain ⟨q0, q1, q2, q3, q4, q5⟩ := six L2
      obtain ⟨p0, p1, p2, p3, p4, p5⟩ := six L3
      go_wp2_with (go_at_call 18; refine (H18.out _ B4.out).mono ?_)
      rintro e w4 ⟨rfl, hB⟩
      have B5 : Hid (Below w.heap.size w w4) := B4.out.trans (hB.mono B4.out.size)
      have N2 := L2.of_below hB
      have N3 := L3.of_below hB
      clear hB q0 q1 q2 q3 q4 q5 p0 p1 p2 p3 p4 p5 L2 L3
      obtain ⟨q0, q1, q2, q3, q4, q5⟩ := six N2
      obtain ⟨p0, p1, p2, p3, p4, p5⟩ := six N3
      by_cases hz : z = 0
      · have H20 : Hid (∀ V, Below w.heap.size w V → Calls Try.prog 19 #[.pointer (some ⟨cb, 0, none⟩), .agg #[.bool true, .int .i64 0, .bool false, .bool true, .bool false, .func (.func 23) #[] #[]], .agg #[.int .i64 x0, .string s1, .string s2, .string s3, .int .i64 x4, .string s5]] V fun e w' => e = .returned (.tuple #[]) ∧ CU w' cb bm bs lh ∧ FR V w' bm bs) := fun V hV => H19.out V hV hz
        have HY : Hid (nx = lh) := HX1.out hz
        clear H19 HX0 HX1
        subst hz
        go_wp2_with (go_at_call 19; refine (H20.out _ B5.out).mono ?_)
        rintro e w5 ⟨rfl, hC, hF⟩
        have CF : Hid (CU w5 cb bm bs lh) := hC
        have FF : Hid (FR w w5 bm bs) := (FR.below B5.out).trans hF
        clear hC hF q0 q1 q2 q3 q4 q5 p0 p1 p2 p3 p4 p5 N2 N3
        go_wp2_with fail
        go_ret
        exact ⟨rfl, by first | exact CF.out | (rw [HY.out]; exact CF.out), FF.out⟩
      · have z0 : (z == 0) = false := by simpa using hz
        have HZ : Hid (z ≠ 0) := hz
        go_wp2_with fail
        go_ret
        exact ⟨rfl, by first | exact HC.out _ B5.out | (rw [HX0.out HZ.out]; exact HC.out _ B5.out), FR.below B5.out⟩
set_option maxHeartbeats 8000000 in
theorem hand7_2 {l : List Hd} {h : Hd} {cb bm bs : Nat} {w : World} (hc : CU w cb bm bs l) (hi : Inv1 l) (a : h.act = 2) (hs : Hs h) (hl : l.length < 140737488355328) :
    Calls Try.prog 7 #[.pointer (some ⟨cb, 0, none⟩), HV h] w fun e w' => e = .returned (.int .i64 (handC l h)) ∧ CU w' cb bm bs (nxt l h) ∧ FR w w' bm bs := by
  have HC : Hid (∀ V, Below w.heap.size w V → CU V cb bm bs l) := fun V hV => hc.of_below hV
  have H15 : Hid (∀ V, Calls Try.prog 15 #[.int .i64 h.act] V fun e w' => e = .returned (.tuple #[.agg #[.bool false, .int .i64 0, .bool true, .bool false, .bool false, .func (.func 24) #[] #[]], .bool true]) ∧ Below V.heap.size V w') := fun V => by rw [a]; exact deed15_2 V
  have H16 : Hid (∀ V, Calls Try.prog 16 #[.agg #[.bool false, .int .i64 0, .bool true, .bool false, .bool false, .func (.func 24) #[] #[]], .agg #[.int .i64 h.act, .string h.box, .string h.who, .string h.to_, .int .i64 h.cnt, .string h.sl]] V fun e w' => e = .returned (.bool (mfB true h)) ∧ Below V.heap.size V w') := fun V => misfits16 false 0 true false false 24 hs V
  have H17 : Hid (∀ V, Calls Try.prog 17 #[.agg #[.bool false, .int .i64 0, .bool true, .bool false, .bool false, .func (.func 24) #[] #[]], .agg #[.int .i64 h.act, .string h.box, .string h.who, .string h.to_, .int .i64 h.cnt, .string h.sl]] V fun e w' => e = .returned (.bool (mcB false h.cnt)) ∧ Below V.heap.size V w') := fun V => miscounts17 false 0 true false false 24 h V
  have H18 : Hid (∀ V, Below w.heap.size w V → Calls Try.prog 18 #[.pointer (some ⟨cb, 0, none⟩), .agg #[.bool false, .int .i64 0, .bool true, .bool false, .bool false, .func (.func 24) #[] #[]], .agg #[.int .i64 h.act, .string h.box, .string h.who, .string h.to_, .int .i64 h.cnt, .string h.sl]] V fun e w' => e = .returned (.int .i64 (hindC l h)) ∧ Below V.heap.size V w') := fun V hV => by
    have q := hinders18 false 0 true false false 24 (h := h) (hc.of_below hV) hi hs.b hs.s
    rw [hind_2 hi a] at q
    exact q
  have H19 : Hid (∀ V, Below w.heap.size w V → handC l h = 0 → Calls Try.prog 19 #[.pointer (some ⟨cb, 0, none⟩), .agg #[.bool false, .int .i64 0, .bool true, .bool false, .bool false, .func (.func 24) #[] #[]], .agg #[.int .i64 h.act, .string h.box, .string h.who, .string h.to_, .int .i64 h.cnt, .string h.sl]] V fun e w' => e = .returned (.tuple #[]) ∧ CU w' cb bm bs (l ++ [h]) ∧ FR V w' bm bs) := fun V hV e0 => do19_2 (hc.of_below hV) hi e0 a hs hl
  have fq := form_2 a
  by_cases m1 : mfB true h = true
  · rw [m1] at H16
    have HZ : Hid (handC l h = 2) := handC_form (by rw [fq, if_pos m1]) (by decide)
    have HX : Hid (nxt l h = l) := nxt_no (by rw [HZ.out]; decide)
    clear fq m1 H17 H18 H19 a
    unfold HV
    have B : Hid (Below w.heap.size w (w.alloc (.cells #[.int .i64 h.act, .string h.box, .string h.who, .string h.to_, .int .i64 h.cnt, .string h.sl] 26))) := (Below.refl _ _).alloc (Nat.le_refl _) _
    have I1 : Hid (IHolds (w.alloc (.cells #[.int .i64 h.act, .string h.box, .string h.who, .string h.to_, .int .i64 h.cnt, .string h.sl] 26)) w.heap.size 26 [.int .i64 h.act, .string h.box, .string h.who, .string h.to_, .int .i64 h.cnt, .string h.sl]) := IHolds.new w 26 _
    clear hi hs hl hc
    generalize nxt l h = nx at *
    generalize handC l h = z at *
    generalize h.box = s1 at *
    generalize h.who = s2 at *
    generalize h.to_ = s3 at *
    generalize h.sl = s5 at *
    generalize h.cnt = x4 at *
    generalize h.act = x0 at *
    go_enter Try.func7, Try.ntmps7
    go_wp2_with (go_at_call 15; refine (H15.out _).mono ?_)
    rintro e w1 ⟨rfl, hB⟩
    have B1 : Hid (Below w.heap.size w w1) := B.out.trans (hB.mono B.out.size)
    have J1 : Hid (IHolds w1 w.heap.size 26 [.int .i64 x0, .string s1, .string s2, .string s3, .int .i64 x4, .string s5]) := I1.out.of_below hB
    have B2 : Hid (Below w.heap.size w (w1.alloc (.cells #[.bool false, .int .i64 0, .bool true, .bool false, .bool false, .func (.func 24) #[] #[]] 51))) := B1.out.alloc B1.out.size _
    have J2 : Hid (IHolds (w1.alloc (.cells #[.bool false, .int .i64 0, .bool true, .bool false, .bool false, .func (.func 24) #[] #[]] 51)) w.heap.size 26 [.int .i64 x0, .string s1, .string s2, .string s3, .int .i64 x4, .string s5]) := J1.out.alloc _
    have J3 : Hid (IHolds (w1.alloc (.cells #[.bool false, .int .i64 0, .bool true, .bool false, .bool false, .func (.func 24) #[] #[]] 51)) w1.heap.size 51 [.bool false, .int .i64 0, .bool true, .bool false, .bool false, .func (.func 24) #[] #[]]) := IHolds.new w1 51 _
    obtain ⟨q0, q1, q2, q3, q4, q5⟩ := six J2.out
    obtain ⟨p0, p1, p2, p3, p4, p5⟩ := six J3.out
    clear hB H15 I1 J1 B1
    go_wp2_with (go_at_call 16; refine (H16.out _).mono ?_)
    rintro e w2 ⟨rfl, hB⟩
    have B3 : Hid (Below w.heap.size w w2) := B2.out.trans (hB.mono B2.out.size)
    clear hB q0 q1 q2 q3 q4 q5 p0 p1 p2 p3 p4 p5 J2 J3
    go_wp2_with fail
    go_ret
    exact ⟨by first | rfl | (rw [HZ.out]; rfl), by first | exact HC.out _ B3.out | (rw [HX.out]; exact HC.out _ B3.out), FR.below B3.out⟩
  · have m1f : mfB true h = false := by simpa using m1
    rw [m1f] at H16
    by_cases m2 : mcB false h.cnt = true
    · rw [m2] at H17
      have HZ : Hid (handC l h = 4) := handC_form (by rw [fq, if_neg m1, if_pos m2]) (by decide)
      have HX : Hid (nxt l h = l) := nxt_no (by rw [HZ.out]; decide)
      clear fq m1 m1f m2 H18 H19 a
      unfold HV
      have B : Hid (Below w.heap.size w (w.alloc (.cells #[.int .i64 h.act, .string h.box, .string h.who, .string h.to_, .int .i64 h.cnt, .string h.sl] 26))) := (Below.refl _ _).alloc (Nat.le_refl _) _
      have I1 : Hid (IHolds (w.alloc (.cells #[.int .i64 h.act, .string h.box, .string h.who, .string h.to_, .int .i64 h.cnt, .string h.sl] 26)) w.heap.size 26 [.int .i64 h.act, .string h.box, .string h.who, .string h.to_, .int .i64 h.cnt, .string h.sl]) := IHolds.new w 26 _
      clear hi hs hl hc
      generalize nxt l h = nx at *
      generalize handC l h = z at *
      generalize h.box = s1 at *
      generalize h.who = s2 at *
      generalize h.to_ = s3 at *
      generalize h.sl = s5 at *
      generalize h.cnt = x4 at *
      generalize h.act = x0 at *
      go_enter Try.func7, Try.ntmps7
      go_wp2_with (go_at_call 15; refine (H15.out _).mono ?_)
      rintro e w1 ⟨rfl, hB⟩
      have B1 : Hid (Below w.heap.size w w1) := B.out.trans (hB.mono B.out.size)
      have J1 : Hid (IHolds w1 w.heap.size 26 [.int .i64 x0, .string s1, .string s2, .string s3, .int .i64 x4, .string s5]) := I1.out.of_below hB
      have B2 : Hid (Below w.heap.size w (w1.alloc (.cells #[.bool false, .int .i64 0, .bool true, .bool false, .bool false, .func (.func 24) #[] #[]] 51))) := B1.out.alloc B1.out.size _
      have J2 : Hid (IHolds (w1.alloc (.cells #[.bool false, .int .i64 0, .bool true, .bool false, .bool false, .func (.func 24) #[] #[]] 51)) w.heap.size 26 [.int .i64 x0, .string s1, .string s2, .string s3, .int .i64 x4, .string s5]) := J1.out.alloc _
      have J3 : Hid (IHolds (w1.alloc (.cells #[.bool false, .int .i64 0, .bool true, .bool false, .bool false, .func (.func 24) #[] #[]] 51)) w1.heap.size 51 [.bool false, .int .i64 0, .bool true, .bool false, .bool false, .func (.func 24) #[] #[]]) := IHolds.new w1 51 _
      obtain ⟨q0, q1, q2, q3, q4, q5⟩ := six J2.out
      obtain ⟨p0, p1, p2, p3, p4, p5⟩ := six J3.out
      clear hB H15 I1 J1 B1
      go_wp2_with (go_at_call 16; refine (H16.out _).mono ?_)
      rintro e w2 ⟨rfl, hB⟩
      have B3 : Hid (Below w.heap.size w w2) := B2.out.trans (hB.mono B2.out.size)
      have K2 := J2.out.of_below hB
      have K3 := J3.out.of_below hB
      clear hB q0 q1 q2 q3 q4 q5 p0 p1 p2 p3 p4 p5 J2 J3
      obtain ⟨q0, q1, q2, q3, q4, q5⟩ := six K2
      obtain ⟨p0, p1, p2, p3, p4, p5⟩ := six K3
      go_wp2_with (go_at_call 17; refine (H17.out _).mono ?_)
      rintro e w3 ⟨rfl, hB⟩
      have B4 : Hid (Below w.heap.size w w3) := B3.out.trans (hB.mono B3.out.size)
      clear hB q0 q1 q2 q3 q4 q5 p0 p1 p2 p3 p4 p5 K2 K3
      go_wp2_with fail
      go_ret
      exact ⟨by first | rfl | (rw [HZ.out]; rfl), by first | exact HC.out _ B4.out | (rw [HX.out]; exact HC.out _ B4.out), FR.below B4.out⟩
    · have m2f : mcB false h.cnt = false := by simpa using m2
      rw [m2f] at H17
      have hz : handC l h = hindC l h := handC_hind (by rw [fq, if_neg m1, if_neg m2])
      rw [← hz] at H18
      clear fq m1 m1f m2 m2f hz a
      have HX0 : Hid (handC l h ≠ 0 → nxt l h = l) := nxt_no
      have HX1 : Hid (handC l h = 0 → nxt l h = l ++ [h]) := nxt_yes
      generalize l ++ [h] = lh at *
      unfold HV
      have B : Hid (Below w.heap.size w (w.alloc (.cells #[.int .i64 h.act, .string h.box, .string h.who, .string h.to_, .int .i64 h.cnt, .string h.sl] 26))) := (Below.refl _ _).alloc (Nat.le_refl _) _
      have I1 : Hid (IHolds (w.alloc (.cells #[.int .i64 h.act, .string h.box, .string h.who, .string h.to_, .int .i64 h.cnt, .string h.sl] 26)) w.heap.size 26 [.int .i64 h.act, .string h.box, .string h.who, .string h.to_, .int .i64 h.cnt, .string h.sl]) := IHolds.new w 26 _
      clear hi hs hl hc
      generalize nxt l h = nx at *
      generalize handC l h = z at *
      generalize h.box = s1 at *
      generalize h.who = s2 at *
      generalize h.to_ = s3 at *
      generalize h.sl = s5 at *
      generalize h.cnt = x4 at *
      generalize h.act = x0 at *
      go_enter Try.func7, Try.ntmps7
      go_wp2_with (go_at_call 15; refine (H15.out _).mono ?_)
      rintro e w1 ⟨rfl, hB⟩
      have B1 : Hid (Below w.heap.size w w1) := B.out.trans (hB.mono B.out.size)
      have J1 : Hid (IHolds w1 w.heap.size 26 [.int .i64 x0, .string s1, .string s2, .string s3, .int .i64 x4, .string s5]) := I1.out.of_below hB
      have B2 : Hid (Below w.heap.size w (w1.alloc (.cells #[.bool false, .int .i64 0, .bool true, .bool false, .bool false, .func (.func 24) #[] #[]] 51))) := B1.out.alloc B1.out.size _
      have J2 : Hid (IHolds (w1.alloc (.cells #[.bool false, .int .i64 0, .bool true, .bool false, .bool false, .func (.func 24) #[] #[]] 51)) w.heap.size 26 [.int .i64 x0, .string s1, .string s2, .string s3, .int .i64 x4, .string s5]) := J1.out.alloc _
      have J3 : Hid (IHolds (w1.alloc (.cells #[.bool false, .int .i64 0, .bool true, .bool false, .bool false, .func (.func 24) #[] #[]] 51)) w1.heap.size 51 [.bool false, .int .i64 0, .bool true, .bool false, .bool false, .func (.func 24) #[] #[]]) := IHolds.new w1 51 _
      obtain ⟨q0, q1, q2, q3, q4, q5⟩ := six J2.out
      obtain ⟨p0, p1, p2, p3, p4, p5⟩ := six J3.out
      clear hB H15 I1 J1 B1
      go_wp2_with (go_at_call 16; refine (H16.out _).mono ?_)
      rintro e w2 ⟨rfl, hB⟩
      have B3 : Hid (Below w.heap.size w w2) := B2.out.trans (hB.mono B2.out.size)
      have K2 := J2.out.of_below hB
      have K3 := J3.out.of_below hB
      clear hB q0 q1 q2 q3 q4 q5 p0 p1 p2 p3 p4 p5 J2 J3
      obtain ⟨q0, q1, q2, q3, q4, q5⟩ := six K2
      obtain ⟨p0, p1, p2, p3, p4, p5⟩ := six K3
      go_wp2_with (go_at_call 17; refine (H17.out _).mono ?_)
      rintro e w3 ⟨rfl, hB⟩
      have B4 : Hid (Below w.heap.size w w3) := B3.out.trans (hB.mono B3.out.size)
      have L2 := K2.of_below hB
      have L3 := K3.of_below hB
      clear hB q0 q1 q2 q3 q4 q5 p0 p1 p2 p3 p4 p5 K2 K3
      obtain ⟨q0, q1, q2, q3, q4, q5⟩ := six L2
      obtain ⟨p0, p1, p2, p3, p4, p5⟩ := six L3
      go_wp2_with (go_at_call 18; refine (H18.out _ B4.out).mono ?_)
      rintro e w4 ⟨rfl, hB⟩
      have B5 : Hid (Below w.heap.size w w4) := B4.out.trans (hB.mono B4.out.size)
      have N2 := L2.of_below hB
      have N3 := L3.of_below hB
      clear hB q0 q1 q2 q3 q4 q5 p0 p1 p2 p3 p4 p5 L2 L3
      obtain ⟨q0, q1, q2, q3, q4, q5⟩ := six N2
      obtain ⟨p0, p1, p2, p3, p4, p5⟩ := six N3
      by_cases hz : z = 0
      · have H20 : Hid (∀ V, Below w.heap.size w V → Calls Try.prog 19 #[.pointer (some ⟨cb, 0, none⟩), .agg #[.bool false, .int .i64 0, .bool true, .bool false, .bool false, .func (.func 24) #[] #[]], .agg #[.int .i64 x0, .string s1, .string s2, .string s3, .int .i64 x4, .string s5]] V fun e w' => e = .returned (.tuple #[]) ∧ CU w' cb bm bs lh ∧ FR V w' bm bs) := fun V hV => H19.out V hV hz
        have HY : Hid (nx = lh) := HX1.out hz
        clear H19 HX0 HX1
        subst hz
        go_wp2_with (go_at_call 19; refine (H20.out _ B5.out).mono ?_)
        rintro e w5 ⟨rfl, hC, hF⟩
        have CF : Hid (CU w5 cb bm bs lh) := hC
        have FF : Hid (FR w w5 bm bs) := (FR.below B5.out).trans hF
        clear hC hF q0 q1 q2 q3 q4 q5 p0 p1 p2 p3 p4 p5 N2 N3
        go_wp2_with fail
        go_ret
        exact ⟨rfl, by first | exact CF.out | (rw [HY.out]; exact CF.out), FF.out⟩
      · have z0 : (z == 0) = false := by simpa using hz
        have HZ : Hid (z ≠ 0) := hz
        go_wp2_with fail
        go_ret
        exact ⟨rfl, by first | exact HC.out _ B5.out | (rw [HX0.out HZ.out]; exact HC.out _ B5.out), FR.below B5.out⟩
set_option maxHeartbeats 8000000 in
theorem hand7_3 {l : List Hd} {h : Hd} {cb bm bs : Nat} {w : World} (hc : CU w cb bm bs l) (hi : Inv1 l) (a : h.act = 3) (hs : Hs h) (hl : l.length < 140737488355328) :
    Calls Try.prog 7 #[.pointer (some ⟨cb, 0, none⟩), HV h] w fun e w' => e = .returned (.int .i64 (handC l h)) ∧ CU w' cb bm bs (nxt l h) ∧ FR w w' bm bs := by
  have HC : Hid (∀ V, Below w.heap.size w V → CU V cb bm bs l) := fun V hV => hc.of_below hV
  have H15 : Hid (∀ V, Calls Try.prog 15 #[.int .i64 h.act] V fun e w' => e = .returned (.tuple #[.agg #[.bool false, .int .i64 1, .bool false, .bool false, .bool true, .func (.func 25) #[] #[]], .bool true]) ∧ Below V.heap.size V w') := fun V => by rw [a]; exact deed15_3 V
  have H16 : Hid (∀ V, Calls Try.prog 16 #[.agg #[.bool false, .int .i64 1, .bool false, .bool false, .bool true, .func (.func 25) #[] #[]], .agg #[.int .i64 h.act, .string h.box, .string h.who, .string h.to_, .int .i64 h.cnt, .string h.sl]] V fun e w' => e = .returned (.bool (mfB false h)) ∧ Below V.heap.size V w') := fun V => misfits16 false 1 false false true 25 hs V
  have H17 : Hid (∀ V, Calls Try.prog 17 #[.agg #[.bool false, .int .i64 1, .bool false, .bool false, .bool true, .func (.func 25) #[] #[]], .agg #[.int .i64 h.act, .string h.box, .string h.who, .string h.to_, .int .i64 h.cnt, .string h.sl]] V fun e w' => e = .returned (.bool (mcB false h.cnt)) ∧ Below V.heap.size V w') := fun V => miscounts17 false 1 false false true 25 h V
  have H18 : Hid (∀ V, Below w.heap.size w V → Calls Try.prog 18 #[.pointer (some ⟨cb, 0, none⟩), .agg #[.bool false, .int .i64 1, .bool false, .bool false, .bool true, .func (.func 25) #[] #[]], .agg #[.int .i64 h.act, .string h.box, .string h.who, .string h.to_, .int .i64 h.cnt, .string h.sl]] V fun e w' => e = .returned (.int .i64 (hindC l h)) ∧ Below V.heap.size V w') := fun V hV => by
    have q := hinders18 false 1 false false true 25 (h := h) (hc.of_below hV) hi hs.b hs.s
    rw [hind_3 hi a] at q
    exact q
  have H19 : Hid (∀ V, Below w.heap.size w V → handC l h = 0 → Calls Try.prog 19 #[.pointer (some ⟨cb, 0, none⟩), .agg #[.bool false, .int .i64 1, .bool false, .bool false, .bool true, .func (.func 25) #[] #[]], .agg #[.int .i64 h.act, .string h.box, .string h.who, .string h.to_, .int .i64 h.cnt, .string h.sl]] V fun e w' => e = .returned (.tuple #[]) ∧ CU w' cb bm bs (l ++ [h]) ∧ FR V w' bm bs) := fun V hV e0 => do19_3 (hc.of_below hV) hi e0 a hs hl
  have fq := form_3 a
  by_cases m1 : mfB false h = true
  · rw [m1] at H16
    have HZ : Hid (handC l h = 2) := handC_form (by rw [fq, if_pos m1]) (by decide)
    have HX : Hid (nxt l h = l) := nxt_no (by rw [HZ.out]; decide)
    clear fq m1 H17 H18 H19 a
    unfold HV
    have B : Hid (Below w.heap.size w (w.alloc (.cells #[.int .i64 h.act, .string h.box, .string h.who, .string h.to_, .int .i64 h.cnt, .string h.sl] 26))) := (Below.refl _ _).alloc (Nat.le_refl _) _
    have I1 : Hid (IHolds (w.alloc (.cells #[.int .i64 h.act, .string h.box, .string h.who, .string h.to_, .int .i64 h.cnt, .string h.sl] 26)) w.heap.size 26 [.int .i64 h.act, .string h.box, .string h.who, .string h.to_, .int .i64 h.cnt, .string h.sl]) := IHolds.new w 26 _
    clear hi hs hl hc
    generalize nxt l h = nx at *
    generalize handC l h = z at *
    generalize h.box = s1 at *
    generalize h.who = s2 at *
    generalize h.to_ = s3 at *
    generalize h.sl = s5 at *
    generalize h.cnt = x4 at *
    generalize h.act = x0 at *
    go_enter Try.func7, Try.ntmps7
    go_wp2_with (go_at_call 15; refine (H15.out _).mono ?_)
    rintro e w1 ⟨rfl, hB⟩
    have B1 : Hid (Below w.heap.size w w1) := B.out.trans (hB.mono B.out.size)
    have J1 : Hid (IHolds w1 w.heap.size 26 [.int .i64 x0, .string s1, .string s2, .string s3, .int .i64 x4, .string s5]) := I1.out.of_below hB
    have B2 : Hid (Below w.heap.size w (w1.alloc (.cells #[.bool false, .int .i64 1, .bool false, .bool false, .bool true, .func (.func 25) #[] #[]] 51))) := B1.out.alloc B1.out.size _
    have J2 : Hid (IHolds (w1.alloc (.cells #[.bool false, .int .i64 1, .bool false, .bool false, .bool true, .func (.func 25) #[] #[]] 51)) w.heap.size 26 [.int .i64 x0, .string s1, .string s2, .string s3, .int .i64 x4, .string s5]) := J1.out.alloc _
    have J3 : Hid (IHolds (w1.alloc (.cells #[.bool false, .int .i64 1, .bool false, .bool false, .bool true, .func (.func 25) #[] #[]] 51)) w1.heap.size 51 [.bool false, .int .i64 1, .bool false, .bool false, .bool true, .func (.func 25) #[] #[]]) := IHolds.new w1 51 _
    obtain ⟨q0, q1, q2, q3, q4, q5⟩ := six J2.out
    obtain ⟨p0, p1, p2, p3, p4, p5⟩ := six J3.out
    clear hB H15 I1 J1 B1
    go_wp2_with (go_at_call 16; refine (H16.out _).mono ?_)
    rintro e w2 ⟨rfl, hB⟩
    have B3 : Hid (Below w.heap.size w w2) := B2.out.trans (hB.mono B2.out.size)
    clear hB q0 q1 q2 q3 q4 q5 p0 p1 p2 p3 p4 p5 J2 J3
    go_wp2_with fail
    go_ret
    exact ⟨by first | rfl | (rw [HZ.out]; rfl), by first | exact HC.out _ B3.out | (rw [HX.out]; exact HC.out _ B3.out), FR.below B3.out⟩
  · have m1f : mfB false h = false := by simpa using m1
    rw [m1f] at H16
    by_cases m2 : mcB false h.cnt = true
    · rw [m2] at H17
      have HZ : Hid (handC l h = 4) := handC_form (by rw [fq, if_neg m1, if_pos m2]) (by decide)
      have HX : Hid (nxt l h = l) := nxt_no (by rw [HZ.out]; decide)
      clear fq m1 m1f m2 H18 H19 a
      unfold HV
      have B : Hid (Below w.heap.size w (w.alloc (.cells #[.int .i64 h.act, .string h.box, .string h.who, .string h.to_, .int .i64 h.cnt, .string h.sl] 26))) := (Below.refl _ _).alloc (Nat.le_refl _) _
      have I1 : Hid (IHolds (w.alloc (.cells #[.int .i64 h.act, .string h.box, .string h.who, .string h.to_, .int .i64 h.cnt, .string h.sl] 26)) w.heap.size 26 [.int .i64 h.act, .string h.box, .string h.who, .string h.to_, .int .i64 h.cnt, .string h.sl]) := IHolds.new w 26 _
      clear hi hs hl hc
      generalize nxt l h = nx at *
      generalize handC l h = z at *
      generalize h.box = s1 at *
      generalize h.who = s2 at *
      generalize h.to_ = s3 at *
      generalize h.sl = s5 at *
      generalize h.cnt = x4 at *
      generalize h.act = x0 at *
      go_enter Try.func7, Try.ntmps7
      go_wp2_with (go_at_call 15; refine (H15.out _).mono ?_)
      rintro e w1 ⟨rfl, hB⟩
      have B1 : Hid (Below w.heap.size w w1) := B.out.trans (hB.mono B.out.size)
      have J1 : Hid (IHolds w1 w.heap.size 26 [.int .i64 x0, .string s1, .string s2, .string s3, .int .i64 x4, .string s5]) := I1.out.of_below hB
      have B2 : Hid (Below w.heap.size w (w1.alloc (.cells #[.bool false, .int .i64 1, .bool false, .bool false, .bool true, .func (.func 25) #[] #[]] 51))) := B1.out.alloc B1.out.size _
      have J2 : Hid (IHolds (w1.alloc (.cells #[.bool false, .int .i64 1, .bool false, .bool false, .bool true, .func (.func 25) #[] #[]] 51)) w.heap.size 26 [.int .i64 x0, .string s1, .string s2, .string s3, .int .i64 x4, .string s5]) := J1.out.alloc _
      have J3 : Hid (IHolds (w1.alloc (.cells #[.bool false, .int .i64 1, .bool false, .bool false, .bool true, .func (.func 25) #[] #[]] 51)) w1.heap.size 51 [.bool false, .int .i64 1, .bool false, .bool false, .bool true, .func (.func 25) #[] #[]]) := IHolds.new w1 51 _
      obtain ⟨q0, q1, q2, q3, q4, q5⟩ := six J2.out
      obtain ⟨p0, p1, p2, p3, p4, p5⟩ := six J3.out
      clear hB H15 I1 J1 B1
      go_wp2_with (go_at_call 16; refine (H16.out _).mono ?_)
      rintro e w2 ⟨rfl, hB⟩
      have B3 : Hid (Below w.heap.size w w2) := B2.out.trans (hB.mono B2.out.size)
      have K2 := J2.out.of_below hB
      have K3 := J3.out.of_below hB
      clear hB q0 q1 q2 q3 q4 q5 p0 p1 p2 p3 p4 p5 J2 J3
      obtain ⟨q0, q1, q2, q3, q4, q5⟩ := six K2
      obtain ⟨p0, p1, p2, p3, p4, p5⟩ := six K3
      go_wp2_with (go_at_call 17; refine (H17.out _).mono ?_)
      rintro e w3 ⟨rfl, hB⟩
      have B4 : Hid (Below w.heap.size w w3) := B3.out.trans (hB.mono B3.out.size)
      clear hB q0 q1 q2 q3 q4 q5 p0 p1 p2 p3 p4 p5 K2 K3
      go_wp2_with fail
      go_ret
      exact ⟨by first | rfl | (rw [HZ.out]; rfl), by first | exact HC.out _ B4.out | (rw [HX.out]; exact HC.out _ B4.out), FR.below B4.out⟩
    · have m2f : mcB false h.cnt = false := by simpa using m2
      rw [m2f] at H17
      have hz : handC l h = hindC l h := handC_hind (by rw [fq, if_neg m1, if_neg m2])
      rw [← hz] at H18
      clear fq m1 m1f m2 m2f hz a
      have HX0 : Hid (handC l h ≠ 0 → nxt l h = l) := nxt_no
      have HX1 : Hid (handC l h = 0 → nxt l h = l ++ [h]) := nxt_yes
      generalize l ++ [h] = lh at *
      unfold HV
      have B : Hid (Below w.heap.size w (w.alloc (.cells #[.int .i64 h.act, .string h.box, .string h.who, .string h.to_, .int .i64 h.cnt, .string h.sl] 26))) := (Below.refl _ _).alloc (Nat.le_refl _) _
      have I1 : Hid (IHolds (w.alloc (.cells #[.int .i64 h.act, .string h.box, .string h.who, .string h.to_, .int .i64 h.cnt, .string h.sl] 26)) w.heap.size 26 [.int .i64 h.act, .string h.box, .string h.who, .string h.to_, .int .i64 h.cnt, .string h.sl]) := IHolds.new w 26 _
      clear hi hs hl hc
      generalize nxt l h = nx at *
      generalize handC l h = z at *
      generalize h.box = s1 at *
      generalize h.who = s2 at *
      generalize h.to_ = s3 at *
      generalize h.sl = s5 at *
      generalize h.cnt = x4 at *
      generalize h.act = x0 at *
      go_enter Try.func7, Try.ntmps7
      go_wp2_with (go_at_call 15; refine (H15.out _).mono ?_)
      rintro e w1 ⟨rfl, hB⟩
      have B1 : Hid (Below w.heap.size w w1) := B.out.trans (hB.mono B.out.size)
      have J1 : Hid (IHolds w1 w.heap.size 26 [.int .i64 x0, .string s1, .string s2, .string s3, .int .i64 x4, .string s5]) := I1.out.of_below hB
      have B2 : Hid (Below w.heap.size w (w1.alloc (.cells #[.bool false, .int .i64 1, .bool false, .bool false, .bool true, .func (.func 25) #[] #[]] 51))) := B1.out.alloc B1.out.size _
      have J2 : Hid (IHolds (w1.alloc (.cells #[.bool false, .int .i64 1, .bool false, .bool false, .bool true, .func (.func 25) #[] #[]] 51)) w.heap.size 26 [.int .i64 x0, .string s1, .string s2, .string s3, .int .i64 x4, .string s5]) := J1.out.alloc _
      have J3 : Hid (IHolds (w1.alloc (.cells #[.bool false, .int .i64 1, .bool false, .bool false, .bool true, .func (.func 25) #[] #[]] 51)) w1.heap.size 51 [.bool false, .int .i64 1, .bool false, .bool false, .bool true, .func (.func 25) #[] #[]]) := IHolds.new w1 51 _
      obtain ⟨q0, q1, q2, q3, q4, q5⟩ := six J2.out
      obtain ⟨p0, p1, p2, p3, p4, p5⟩ := six J3.out
      clear hB H15 I1 J1 B1
      go_wp2_with (go_at_call 16; refine (H16.out _).mono ?_)
      rintro e w2 ⟨rfl, hB⟩
      have B3 : Hid (Below w.heap.size w w2) := B2.out.trans (hB.mono B2.out.size)
      have K2 := J2.out.of_below hB
      have K3 := J3.out.of_below hB
      clear hB q0 q1 q2 q3 q4 q5 p0 p1 p2 p3 p4 p5 J2 J3
      obtain ⟨q0, q1, q2, q3, q4, q5⟩ := six K2
      obtain ⟨p0, p1, p2, p3, p4, p5⟩ := six K3
      go_wp2_with (go_at_call 17; refine (H17.out _).mono ?_)
      rintro e w3 ⟨rfl, hB⟩
      have B4 : Hid (Below w.heap.size w w3) := B3.out.trans (hB.mono B3.out.size)
      have L2 := K2.of_below hB
      have L3 := K3.of_below hB
      clear hB q0 q1 q2 q3 q4 q5 p0 p1 p2 p3 p4 p5 K2 K3
      obtain ⟨q0, q1, q2, q3, q4, q5⟩ := six L2
      obtain ⟨p0, p1, p2, p3, p4, p5⟩ := six L3
      go_wp2_with (go_at_call 18; refine (H18.out _ B4.out).mono ?_)
      rintro e w4 ⟨rfl, hB⟩
      have B5 : Hid (Below w.heap.size w w4) := B4.out.trans (hB.mono B4.out.size)
      have N2 := L2.of_below hB
      have N3 := L3.of_below hB
      clear hB q0 q1 q2 q3 q4 q5 p0 p1 p2 p3 p4 p5 L2 L3
      obtain ⟨q0, q1, q2, q3, q4, q5⟩ := six N2
      obtain ⟨p0, p1, p2, p3, p4, p5⟩ := six N3
      by_cases hz : z = 0
      · have H20 : Hid (∀ V, Below w.heap.size w V → Calls Try.prog 19 #[.pointer (some ⟨cb, 0, none⟩), .agg #[.bool false, .int .i64 1, .bool false, .bool false, .bool true, .func (.func 25) #[] #[]], .agg #[.int .i64 x0, .string s1, .string s2, .string s3, .int .i64 x4, .string s5]] V fun e w' => e = .returned (.tuple #[]) ∧ CU w' cb bm bs lh ∧ FR V w' bm bs) := fun V hV => H19.out V hV hz
        have HY : Hid (nx = lh) := HX1.out hz
        clear H19 HX0 HX1
        subst hz
        go_wp2_with (go_at_call 19; refine (H20.out _ B5.out).mono ?_)
        rintro e w5 ⟨rfl, hC, hF⟩
        have CF : Hid (CU w5 cb bm bs lh) := hC
        have FF : Hid (FR w w5 bm bs) := (FR.below B5.out).trans hF
        clear hC hF q0 q1 q2 q3 q4 q5 p0 p1 p2 p3 p4 p5 N2 N3
        go_wp2_with fail
        go_ret
        exact ⟨rfl, by first | exact CF.out | (rw [HY.out]; exact CF.out), FF.out⟩
      · have z0 : (z == 0) = false := by simpa using hz
        have HZ : Hid (z ≠ 0) := hz
        go_wp2_with fail
        go_ret
        exact ⟨rfl, by first | exact HC.out _ B5.out | (rw [HX0.out HZ.out]; exact HC.out _ B5.out), FR.below B5.out⟩
set_option maxHeartbeats 8000000 in
theorem hand7_4 {l : List Hd} {h : Hd} {cb bm bs : Nat} {w : World} (hc : CU w cb bm bs l) (hi : Inv1 l) (a : h.act = 4) (hs : Hs h) (hl : l.length < 140737488355328) :
    Calls Try.prog 7 #[.pointer (some ⟨cb, 0, none⟩), HV h] w fun e w' => e = .returned (.int .i64 (handC l h)) ∧ CU w' cb bm bs (nxt l h) ∧ FR w w' bm bs := by
  have HC : Hid (∀ V, Below w.heap.size w V → CU V cb bm bs l) := fun V hV => hc.of_below hV
  have H15 : Hid (∀ V, Calls Try.prog 15 #[.int .i64 h.act] V fun e w' => e = .returned (.tuple #[.agg #[.bool false, .int .i64 0, .bool false, .bool true, .bool true, .func (.func 26) #[] #[]], .bool true]) ∧ Below V.heap.size V w') := fun V => by rw [a]; exact deed15_4 V
  have H16 : Hid (∀ V, Calls Try.prog 16 #[.agg #[.bool false, .int .i64 0, .bool false, .bool true, .bool true, .func (.func 26) #[] #[]], .agg #[.int .i64 h.act, .string h.box, .string h.who, .string h.to_, .int .i64 h.cnt, .string h.sl]] V fun e w' => e = .returned (.bool (mfB false h)) ∧ Below V.heap.size V w') := fun V => misfits16 false 0 false true true 26 hs V
  have H17 : Hid (∀ V, Calls Try.prog 17 #[.agg #[.bool false, .int .i64 0, .bool false, .bool true, .bool true, .func (.func 26) #[] #[]], .agg #[.int .i64 h.act, .string h.box, .string h.who, .string h.to_, .int .i64 h.cnt, .string h.sl]] V fun e w' => e = .returned (.bool (mcB true h.cnt)) ∧ Below V.heap.size V w') := fun V => miscounts17 false 0 false true true 26 h V
  have H18 : Hid (∀ V, Below w.heap.size w V → Calls Try.prog 18 #[.pointer (some ⟨cb, 0, none⟩), .agg #[.bool false, .int .i64 0, .bool false, .bool true, .bool true, .func (.func 26) #[] #[]], .agg #[.int .i64 h.act, .string h.box, .string h.who, .string h.to_, .int .i64 h.cnt, .string h.sl]] V fun e w' => e = .returned (.int .i64 (hindC l h)) ∧ Below V.heap.size V w') := fun V hV => by
    have q := hinders18 false 0 false true true 26 (h := h) (hc.of_below hV) hi hs.b hs.s
    rw [hind_4 hi a] at q
    exact q
  have H19 : Hid (∀ V, Below w.heap.size w V → handC l h = 0 → Calls Try.prog 19 #[.pointer (some ⟨cb, 0, none⟩), .agg #[.bool false, .int .i64 0, .bool false, .bool true, .bool true, .func (.func 26) #[] #[]], .agg #[.int .i64 h.act, .string h.box, .string h.who, .string h.to_, .int .i64 h.cnt, .string h.sl]] V fun e w' => e = .returned (.tuple #[]) ∧ CU w' cb bm bs (l ++ [h]) ∧ FR V w' bm bs) := fun V hV e0 => do19_4 (hc.of_below hV) hi e0 a hs hl
  have fq := form_4 a
  by_cases m1 : mfB false h = true
  · rw [m1] at H16
    have HZ : Hid (handC l h = 2) := handC_form (by rw [fq, if_pos m1]) (by decide)
    have HX : Hid (nxt l h = l) := nxt_no (by rw [HZ.out]; decide)
    clear fq m1 H17 H18 H19 a
    unfold HV
    have B : Hid (Below w.heap.size w (w.alloc (.cells #[.int .i64 h.act, .string h.box, .string h.who, .string h.to_, .int .i64 h.cnt, .string h.sl] 26))) := (Below.refl _ _).alloc (Nat.le_refl _) _
    have I1 : Hid (IHolds (w.alloc (.cells #[.int .i64 h.act, .string h.box, .string h.who, .string h.to_, .int .i64 h.cnt, .string h.sl] 26)) w.heap.size 26 [.int .i64 h.act, .string h.box, .string h.who, .string h.to_, .int .i64 h.cnt, .string h.sl]) := IHolds.new w 26 _
    clear hi hs hl hc
    generalize nxt l h = nx at *
    generalize handC l h = z at *
    generalize h.box = s1 at *
    generalize h.who = s2 at *
    generalize h.to_ = s3 at *
    generalize h.sl = s5 at *
    generalize h.cnt = x4 at *
    generalize h.act = x0 at *
    go_enter Try.func7, Try.ntmps7
    go_wp2_with (go_at_call 15; refine (H15.out _).mono ?_)
    rintro e w1 ⟨rfl, hB⟩
    have B1 : Hid (Below w.heap.size w w1) := B.out.trans (hB.mono B.out.size)
    have J1 : Hid (IHolds w1 w.heap.size 26 [.int .i64 x0, .string s1, .string s2, .string s3, .int .i64 x4, .string s5]) := I1.out.of_below hB
    have B2 : Hid (Below w.heap.size w (w1.alloc (.cells #[.bool false, .int .i64 0, .bool false, .bool true, .bool true, .func (.func 26) #[] #[]] 51))) := B1.out.alloc B1.out.size _
    have J2 : Hid (IHolds (w1.alloc (.cells #[.bool false, .int .i64 0, .bool false, .bool true, .bool true, .func (.func 26) #[] #[]] 51)) w.heap.size 26 [.int .i64 x0, .string s1, .string s2, .string s3, .int .i64 x4, .string s5]) := J1.out.alloc _
    have J3 : Hid (IHolds (w1.alloc (.cells #[.bool false, .int .i64 0, .bool false, .bool true, .bool true, .func (.func 26) #[] #[]] 51)) w1.heap.size 51 [.bool false, .int .i64 0, .bool false, .bool true, .bool true, .func (.func 26) #[] #[]]) := IHolds.new w1 51 _
    obtain ⟨q0, q1, q2, q3, q4, q5⟩ := six J2.out
    obtain ⟨p0, p1, p2, p3, p4, p5⟩ := six J3.out
    clear hB H15 I1 J1 B1
    go_wp2_with (go_at_call 16; refine (H16.out _).mono ?_)
    rintro e w2 ⟨rfl, hB⟩
    have B3 : Hid (Below w.heap.size w w2) := B2.out.trans (hB.mono B2.out.size)
    clear hB q0 q1 q2 q3 q4 q5 p0 p1 p2 p3 p4 p5 J2 J3
    go_wp2_with fail
    go_ret
    exact ⟨by first | rfl | (rw [HZ.out]; rfl), by first | exact HC.out _ B3.out | (rw [HX.out]; exact HC.out _ B3.out), FR.below B3.out⟩
  · have m1f : mfB false h = false := by simpa using m1
    rw [m1f] at H16
    by_cases m2 : mcB true h.cnt = true
    · rw [m2] at H17
      have HZ : Hid (handC l h = 4) := handC_form (by rw [fq, if_neg m1, if_pos m2]) (by decide)
      have HX : Hid (nxt l h = l) := nxt_no (by rw [HZ.out]; decide)
      clear fq m1 m1f m2 H18 H19 a
      unfold HV
      have B : Hid (Below w.heap.size w (w.alloc (.cells #[.int .i64 h.act, .string h.box, .string h.who, .string h.to_, .int .i64 h.cnt, .string h.sl] 26))) := (Below.refl _ _).alloc (Nat.le_refl _) _
      have I1 : Hid (IHolds (w.alloc (.cells #[.int .i64 h.act, .string h.box, .string h.who, .string h.to_, .int .i64 h.cnt, .string h.sl] 26)) w.heap.size 26 [.int .i64 h.act, .string h.box, .string h.who, .string h.to_, .int .i64 h.cnt, .string h.sl]) := IHolds.new w 26 _
      clear hi hs hl hc
      generalize nxt l h = nx at *
      generalize handC l h = z at *
      generalize h.box = s1 at *
      generalize h.who = s2 at *
      generalize h.to_ = s3 at *
      generalize h.sl = s5 at *
      generalize h.cnt = x4 at *
      generalize h.act = x0 at *
      go_enter Try.func7, Try.ntmps7
      go_wp2_with (go_at_call 15; refine (H15.out _).mono ?_)
      rintro e w1 ⟨rfl, hB⟩
      have B1 : Hid (Below w.heap.size w w1) := B.out.trans (hB.mono B.out.size)
      have J1 : Hid (IHolds w1 w.heap.size 26 [.int .i64 x0, .string s1, .string s2, .string s3, .int .i64 x4, .string s5]) := I1.out.of_below hB
      have B2 : Hid (Below w.heap.size w (w1.alloc (.cells #[.bool false, .int .i64 0, .bool false, .bool true, .bool true, .func (.func 26) #[] #[]] 51))) := B1.out.alloc B1.out.size _
      have J2 : Hid (IHolds (w1.alloc (.cells #[.bool false, .int .i64 0, .bool false, .bool true, .bool true, .func (.func 26) #[] #[]] 51)) w.heap.size 26 [.int .i64 x0, .string s1, .string s2, .string s3, .int .i64 x4, .string s5]) := J1.out.alloc _
      have J3 : Hid (IHolds (w1.alloc (.cells #[.bool false, .int .i64 0, .bool false, .bool true, .bool true, .func (.func 26) #[] #[]] 51)) w1.heap.size 51 [.bool false, .int .i64 0, .bool false, .bool true, .bool true, .func (.func 26) #[] #[]]) := IHolds.new w1 51 _
      obtain ⟨q0, q1, q2, q3, q4, q5⟩ := six J2.out
      obtain ⟨p0, p1, p2, p3, p4, p5⟩ := six J3.out
      clear hB H15 I1 J1 B1
      go_wp2_with (go_at_call 16; refine (H16.out _).mono ?_)
      rintro e w2 ⟨rfl, hB⟩
      have B3 : Hid (Below w.heap.size w w2) := B2.out.trans (hB.mono B2.out.size)
      have K2 := J2.out.of_below hB
      have K3 := J3.out.of_below hB
      clear hB q0 q1 q2 q3 q4 q5 p0 p1 p2 p3 p4 p5 J2 J3
      obtain ⟨q0, q1, q2, q3, q4, q5⟩ := six K2
      obtain ⟨p0, p1, p2, p3, p4, p5⟩ := six K3
      go_wp2_with (go_at_call 17; refine (H17.out _).mono ?_)
      rintro e w3 ⟨rfl, hB⟩
      have B4 : Hid (Below w.heap.size w w3) := B3.out.trans (hB.mono B3.out.size)
      clear hB q0 q1 q2 q3 q4 q5 p0 p1 p2 p3 p4 p5 K2 K3
      go_wp2_with fail
      go_ret
      exact ⟨by first | rfl | (rw [HZ.out]; rfl), by first | exact HC.out _ B4.out | (rw [HX.out]; exact HC.out _ B4.out), FR.below B4.out⟩
    · have m2f : mcB true h.cnt = false := by simpa using m2
      rw [m2f] at H17
      have hz : handC l h = hindC l h := handC_hind (by rw [fq, if_neg m1, if_neg m2])
      rw [← hz] at H18
      clear fq m1 m1f m2 m2f hz a
      have HX0 : Hid (handC l h ≠ 0 → nxt l h = l) := nxt_no
      have HX1 : Hid (handC l h = 0 → nxt l h = l ++ [h]) := nxt_yes
      generalize l ++ [h] = lh at *
      unfold HV
      have B : Hid (Below w.heap.size w (w.alloc (.cells #[.int .i64 h.act, .string h.box, .string h.who, .string h.to_, .int .i64 h.cnt, .string h.sl] 26))) := (Below.refl _ _).alloc (Nat.le_refl _) _
      have I1 : Hid (IHolds (w.alloc (.cells #[.int .i64 h.act, .string h.box, .string h.who, .string h.to_, .int .i64 h.cnt, .string h.sl] 26)) w.heap.size 26 [.int .i64 h.act, .string h.box, .string h.who, .string h.to_, .int .i64 h.cnt, .string h.sl]) := IHolds.new w 26 _
      clear hi hs hl hc
      generalize nxt l h = nx at *
      generalize handC l h = z at *
      generalize h.box = s1 at *
      generalize h.who = s2 at *
      generalize h.to_ = s3 at *
      generalize h.sl = s5 at *
      generalize h.cnt = x4 at *
      generalize h.act = x0 at *
      go_enter Try.func7, Try.ntmps7
      go_wp2_with (go_at_call 15; refine (H15.out _).mono ?_)
      rintro e w1 ⟨rfl, hB⟩
      have B1 : Hid (Below w.heap.size w w1) := B.out.trans (hB.mono B.out.size)
      have J1 : Hid (IHolds w1 w.heap.size 26 [.int .i64 x0, .string s1, .string s2, .string s3, .int .i64 x4, .string s5]) := I1.out.of_below hB
      have B2 : Hid (Below w.heap.size w (w1.alloc (.cells #[.bool false, .int .i64 0, .bool false, .bool true, .bool true, .func (.func 26) #[] #[]] 51))) := B1.out.alloc B1.out.size _
      have J2 : Hid (IHolds (w1.alloc (.cells #[.bool false, .int .i64 0, .bool false, .bool true, .bool true, .func (.func 26) #[] #[]] 51)) w.heap.size 26 [.int .i64 x0, .string s1, .string s2, .string s3, .int .i64 x4, .string s5]) := J1.out.alloc _
      have J3 : Hid (IHolds (w1.alloc (.cells #[.bool false, .int .i64 0, .bool false, .bool true, .bool true, .func (.func 26) #[] #[]] 51)) w1.heap.size 51 [.bool false, .int .i64 0, .bool false, .bool true, .bool true, .func (.func 26) #[] #[]]) := IHolds.new w1 51 _
      obtain ⟨q0, q1, q2, q3, q4, q5⟩ := six J2.out
      obtain ⟨p0, p1, p2, p3, p4, p5⟩ := six J3.out
      clear hB H15 I1 J1 B1
      go_wp2_with (go_at_call 16; refine (H16.out _).mono ?_)
      rintro e w2 ⟨rfl, hB⟩
      have B3 : Hid (Below w.heap.size w w2) := B2.out.trans (hB.mono B2.out.size)
      have K2 := J2.out.of_below hB
      have K3 := J3.out.of_below hB
      clear hB q0 q1 q2 q3 q4 q5 p0 p1 p2 p3 p4 p5 J2 J3
      obtain ⟨q0, q1, q2, q3, q4, q5⟩ := six K2
      obtain ⟨p0, p1, p2, p3, p4, p5⟩ := six K3
      go_wp2_with (go_at_call 17; refine (H17.out _).mono ?_)
      rintro e w3 ⟨rfl, hB⟩
      have B4 : Hid (Below w.heap.size w w3) := B3.out.trans (hB.mono B3.out.size)
      have L2 := K2.of_below hB
      have L3 := K3.of_below hB
      clear hB q0 q1 q2 q3 q4 q5 p0 p1 p2 p3 p4 p5 K2 K3
      obtain ⟨q0, q1, q2, q3, q4, q5⟩ := six L2
      obtain ⟨p0, p1, p2, p3, p4, p5⟩ := six L3
      go_wp2_with (go_at_call 18; refine (H18.out _ B4.out).mono ?_)
      rintro e w4 ⟨rfl, hB⟩
      have B5 : Hid (Below w.heap.size w w4) := B4.out.trans (hB.mono B4.out.size)
      have N2 := L2.of_below hB
      have N3 := L3.of_below hB
      clear hB q0 q1 q2 q3 q4 q5 p0 p1 p2 p3 p4 p5 L2 L3
      obtain ⟨q0, q1, q2, q3, q4, q5⟩ := six N2
      obtain ⟨p0, p1, p2, p3, p4, p5⟩ := six N3
      by_cases hz : z = 0
      · have H20 : Hid (∀ V, Below w.heap.size w V → Calls Try.prog 19 #[.pointer (some ⟨cb, 0, none⟩), .agg #[.bool false, .int .i64 0, .bool false, .bool true, .bool true, .func (.func 26) #[] #[]], .agg #[.int .i64 x0, .string s1, .string s2, .string s3, .int .i64 x4, .string s5]] V fun e w' => e = .returned (.tuple #[]) ∧ CU w' cb bm bs lh ∧ FR V w' bm bs) := fun V hV => H19.out V hV hz
        have HY : Hid (nx = lh) := HX1.out hz
        clear H19 HX0 HX1
        subst hz
        go_wp2_with (go_at_call 19; refine (H20.out _ B5.out).mono ?_)
        rintro e w5 ⟨rfl, hC, hF⟩
        have CF : Hid (CU w5 cb bm bs lh) := hC
        have FF : Hid (FR w w5 bm bs) := (FR.below B5.out).trans hF
        clear hC hF q0 q1 q2 q3 q4 q5 p0 p1 p2 p3 p4 p5 N2 N3
        go_wp2_with fail
        go_ret
        exact ⟨rfl, by first | exact CF.out | (rw [HY.out]; exact CF.out), FF.out⟩
      · have z0 : (z == 0) = false := by simpa using hz
        have HZ : Hid (z ≠ 0) := hz
        go_wp2_with fail
        go_ret
        exact ⟨rfl, by first | exact HC.out _ B5.out | (rw [HX0.out HZ.out]; exact HC.out _ B5.out), FR.below B5.out⟩
set_option maxHeartbeats 8000000 in
theorem hand7_5 {l : List Hd} {h : Hd} {cb bm bs : Nat} {w : World} (hc : CU w cb bm bs l) (hi : Inv1 l) (a : h.act = 5) (hs : Hs h) (hl : l.length < 140737488355328) :
    Calls Try.prog 7 #[.pointer (some ⟨cb, 0, none⟩), HV h] w fun e w' => e = .returned (.int .i64 (handC l h)) ∧ CU w' cb bm bs (nxt l h) ∧ FR w w' bm bs := by
  have HC : Hid (∀ V, Below w.heap.size w V → CU V cb bm bs l) := fun V hV => hc.of_below hV
  have H15 : Hid (∀ V, Calls Try.prog 15 #[.int .i64 h.act] V fun e w' => e = .returned (.tuple #[.agg #[.bool false, .int .i64 2, .bool false, .bool true, .bool false, .func (.func 27) #[] #[]], .bool true]) ∧ Below V.heap.size V w') := fun V => by rw [a]; exact deed15_5 V
  have H16 : Hid (∀ V, Calls Try.prog 16 #[.agg #[.bool false, .int .i64 2, .bool false, .bool true, .bool false, .func (.func 27) #[] #[]], .agg #[.int .i64 h.act, .string h.box, .string h.who, .string h.to_, .int .i64 h.cnt, .string h.sl]] V fun e w' => e = .returned (.bool (mfB false h)) ∧ Below V.heap.size V w') := fun V => misfits16 false 2 false true false 27 hs V
  have H17 : Hid (∀ V, Calls Try.prog 17 #[.agg #[.bool false, .int .i64 2, .bool false, .bool true, .bool false, .func (.func 27) #[] #[]], .agg #[.int .i64 h.act, .string h.box, .string h.who, .string h.to_, .int .i64 h.cnt, .string h.sl]] V fun e w' => e = .returned (.bool (mcB true h.cnt)) ∧ Below V.heap.size V w') := fun V => miscounts17 false 2 false true false 27 h V
  have H18 : Hid (∀ V, Below w.heap.size w V → Calls Try.prog 18 #[.pointer (some ⟨cb, 0, none⟩), .agg #[.bool false, .int .i64 2, .bool false, .bool true, .bool false, .func (.func 27) #[] #[]], .agg #[.int .i64 h.act, .string h.box, .string h.who, .string h.to_, .int .i64 h.cnt, .string h.sl]] V fun e w' => e = .returned (.int .i64 (hindC l h)) ∧ Below V.heap.size V w') := fun V hV => by
    have q := hinders18 false 2 false true false 27 (h := h) (hc.of_below hV) hi hs.b hs.s
    rw [hind_5 hi a] at q
    exact q
  have H19 : Hid (∀ V, Below w.heap.size w V → handC l h = 0 → Calls Try.prog 19 #[.pointer (some ⟨cb, 0, none⟩), .agg #[.bool false, .int .i64 2, .bool false, .bool true, .bool false, .func (.func 27) #[] #[]], .agg #[.int .i64 h.act, .string h.box, .string h.who, .string h.to_, .int .i64 h.cnt, .string h.sl]] V fun e w' => e = .returned (.tuple #[]) ∧ CU w' cb bm bs (l ++ [h]) ∧ FR V w' bm bs) := fun V hV e0 => do19_5 (hc.of_below hV) hi e0 a hs hl
  have fq := form_5 a
  by_cases m1 : mfB false h = true
  · rw [m1] at H16
    have HZ : Hid (handC l h = 2) := handC_form (by rw [fq, if_pos m1]) (by decide)
    have HX : Hid (nxt l h = l) := nxt_no (by rw [HZ.out]; decide)
    clear fq m1 H17 H18 H19 a
    unfold HV
    have B : Hid (Below w.heap.size w (w.alloc (.cells #[.int .i64 h.act, .string h.box, .string h.who, .string h.to_, .int .i64 h.cnt, .string h.sl] 26))) := (Below.refl _ _).alloc (Nat.le_refl _) _
    have I1 : Hid (IHolds (w.alloc (.cells #[.int .i64 h.act, .string h.box, .string h.who, .string h.to_, .int .i64 h.cnt, .string h.sl] 26)) w.heap.size 26 [.int .i64 h.act, .string h.box, .string h.who, .string h.to_, .int .i64 h.cnt, .string h.sl]) := IHolds.new w 26 _
    clear hi hs hl hc
    generalize nxt l h = nx at *
    generalize handC l h = z at *
    generalize h.box = s1 at *
    generalize h.who = s2 at *
    generalize h.to_ = s3 at *
    generalize h.sl = s5 at *
    generalize h.cnt = x4 at *
    generalize h.act = x0 at *
    go_enter Try.func7, Try.ntmps7
    go_wp2_with (go_at_call 15; refine (H15.out _).mono ?_)
    rintro e w1 ⟨rfl, hB⟩
    have B1 : Hid (Below w.heap.size w w1) := B.out.trans (hB.mono B.out.size)
    have J1 : Hid (IHolds w1 w.heap.size 26 [.int .i64 x0, .string s1, .string s2, .string s3, .int .i64 x4, .string s5]) := I1.out.of_below hB
    have B2 : Hid (Below w.heap.size w (w1.alloc (.cells #[.bool false, .int .i64 2, .bool false, .bool true, .bool false, .func (.func 27) #[] #[]] 51))) := B1.out.alloc B1.out.size _
    have J2 : Hid (IHolds (w1.alloc (.cells #[.bool false, .int .i64 2, .bool false, .bool true, .bool false, .func (.func 27) #[] #[]] 51)) w.heap.size 26 [.int .i64 x0, .string s1, .string s2, .string s3, .int .i64 x4, .string s5]) := J1.out.alloc _
    have J3 : Hid (IHolds (w1.alloc (.cells #[.bool false, .int .i64 2, .bool false, .bool true, .bool false, .func (.func 27) #[] #[]] 51)) w1.heap.size 51 [.bool false, .int .i64 2, .bool false, .bool true, .bool false, .func (.func 27) #[] #[]]) := IHolds.new w1 51 _
    obtain ⟨q0, q1, q2, q3, q4, q5⟩ := six J2.out
    obtain ⟨p0, p1, p2, p3, p4, p5⟩ := six J3.out
    clear hB H15 I1 J1 B1
    go_wp2_with (go_at_call 16; refine (H16.out _).mono ?_)
    rintro e w2 ⟨rfl, hB⟩
    have B3 : Hid (Below w.heap.size w w2) := B2.out.trans (hB.mono B2.out.size)
    clear hB q0 q1 q2 q3 q4 q5 p0 p1 p2 p3 p4 p5 J2 J3
    go_wp2_with fail
    go_ret
    exact ⟨by first | rfl | (rw [HZ.out]; rfl), by first | exact HC.out _ B3.out | (rw [HX.out]; exact HC.out _ B3.out), FR.below B3.out⟩
  · have m1f : mfB false h = false := by simpa using m1
    rw [m1f] at H16
    by_cases m2 : mcB true h.cnt = true
    · rw [m2] at H17
      have HZ : Hid (handC l h = 4) := handC_form (by rw [fq, if_neg m1, if_pos m2]) (by decide)
      have HX : Hid (nxt l h = l) := nxt_no (by rw [HZ.out]; decide)
      clear fq m1 m1f m2 H18 H19 a
      unfold HV
      have B : Hid (Below w.heap.size w (w.alloc (.cells #[.int .i64 h.act, .string h.box, .string h.who, .string h.to_, .int .i64 h.cnt, .string h.sl] 26))) := (Below.refl _ _).alloc (Nat.le_refl _) _
      have I1 : Hid (IHolds (w.alloc (.cells #[.int .i64 h.act, .string h.box, .string h.who, .string h.to_, .int .i64 h.cnt, .string h.sl] 26)) w.heap.size 26 [.int .i64 h.act, .string h.box, .string h.who, .string h.to_, .int .i64 h.cnt, .string h.sl]) := IHolds.new w 26 _
      clear hi hs hl hc
      generalize nxt l h = nx at *
      generalize handC l h = z at *
      generalize h.box = s1 at *
      generalize h.who = s2 at *
      generalize h.to_ = s3 at *
      generalize h.sl = s5 at *
      generalize h.cnt = x4 at *
      generalize h.act = x0 at *
      go_enter Try.func7, Try.ntmps7
      go_wp2_with (go_at_call 15; refine (H15.out _).mono ?_)
      rintro e w1 ⟨rfl, hB⟩
      have B1 : Hid (Below w.heap.size w w1) := B.out.trans (hB.mono B.out.size)
      have J1 : Hid (IHolds w1 w.heap.size 26 [.int .i64 x0, .string s1, .string s2, .string s3, .int .i64 x4, .string s5]) := I1.out.of_below hB
      have B2 : Hid (Below w.heap.size w (w1.alloc (.cells #[.bool false, .int .i64 2, .bool false, .bool true, .bool false, .func (.func 27) #[] #[]] 51))) := B1.out.alloc B1.out.size _
      have J2 : Hid (IHolds (w1.alloc (.cells #[.bool false, .int .i64 2, .bool false, .bool true, .bool false, .func (.func 27) #[] #[]] 51)) w.heap.size 26 [.int .i64 x0, .string s1, .string s2, .string s3, .int .i64 x4, .string s5]) := J1.out.alloc _
      have J3 : Hid (IHolds (w1.alloc (.cells #[.bool false, .int .i64 2, .bool false, .bool true, .bool false, .func (.func 27) #[] #[]] 51)) w1.heap.size 51 [.bool false, .int .i64 2, .bool false, .bool true, .bool false, .func (.func 27) #[] #[]]) := IHolds.new w1 51 _
      obtain ⟨q0, q1, q2, q3, q4, q5⟩ := six J2.out
      obtain ⟨p0, p1, p2, p3, p4, p5⟩ := six J3.out
      clear hB H15 I1 J1 B1
      go_wp2_with (go_at_call 16; refine (H16.out _).mono ?_)
      rintro e w2 ⟨rfl, hB⟩
      have B3 : Hid (Below w.heap.size w w2) := B2.out.trans (hB.mono B2.out.size)
      have K2 := J2.out.of_below hB
      have K3 := J3.out.of_below hB
      clear hB q0 q1 q2 q3 q4 q5 p0 p1 p2 p3 p4 p5 J2 J3
      obtain ⟨q0, q1, q2, q3, q4, q5⟩ := six K2
      obtain ⟨p0, p1, p2, p3, p4, p5⟩ := six K3
      go_wp2_with (go_at_call 17; refine (H17.out _).mono ?_)
      rintro e w3 ⟨rfl, hB⟩
      have B4 : Hid (Below w.heap.size w w3) := B3.out.trans (hB.mono B3.out.size)
      clear hB q0 q1 q2 q3 q4 q5 p0 p1 p2 p3 p4 p5 K2 K3
      go_wp2_with fail
      go_ret
      exact ⟨by first | rfl | (rw [HZ.out]; rfl), by first | exact HC.out _ B4.out | (rw [HX.out]; exact HC.out _ B4.out), FR.below B4.out⟩
    · have m2f : mcB true h.cnt = false := by simpa using m2
      rw [m2f] at H17
      have hz : handC l h = hindC l h := handC_hind (by rw [fq, if_neg m1, if_neg m2])
      rw [← hz] at H18
      clear fq m1 m1f m2 m2f hz a
      have HX0 : Hid (handC l h ≠ 0 → nxt l h = l) := nxt_no
      have HX1 : Hid (handC l h = 0 → nxt l h = l ++ [h]) := nxt_yes
      generalize l ++ [h] = lh at *
      unfold HV
      have B : Hid (Below w.heap.size w (w.alloc (.cells #[.int .i64 h.act, .string h.box, .string h.who, .string h.to_, .int .i64 h.cnt, .string h.sl] 26))) := (Below.refl _ _).alloc (Nat.le_refl _) _
      have I1 : Hid (IHolds (w.alloc (.cells #[.int .i64 h.act, .string h.box, .string h.who, .string h.to_, .int .i64 h.cnt, .string h.sl] 26)) w.heap.size 26 [.int .i64 h.act, .string h.box, .string h.who, .string h.to_, .int .i64 h.cnt, .string h.sl]) := IHolds.new w 26 _
      clear hi hs hl hc
      generalize nxt l h = nx at *
      generalize handC l h = z at *
      generalize h.box = s1 at *
      generalize h.who = s2 at *
      generalize h.to_ = s3 at *
      generalize h.sl = s5 at *
      generalize h.cnt = x4 at *
      generalize h.act = x0 at *
      go_enter Try.func7, Try.ntmps7
      go_wp2_with (go_at_call 15; refine (H15.out _).mono ?_)
      rintro e w1 ⟨rfl, hB⟩
      have B1 : Hid (Below w.heap.size w w1) := B.out.trans (hB.mono B.out.size)
      have J1 : Hid (IHolds w1 w.heap.size 26 [.int .i64 x0, .string s1, .string s2, .string s3, .int .i64 x4, .string s5]) := I1.out.of_below hB
      have B2 : Hid (Below w.heap.size w (w1.alloc (.cells #[.bool false, .int .i64 2, .bool false, .bool true, .bool false, .func (.func 27) #[] #[]] 51))) := B1.out.alloc B1.out.size _
      have J2 : Hid (IHolds (w1.alloc (.cells #[.bool false, .int .i64 2, .bool false, .bool true, .bool false, .func (.func 27) #[] #[]] 51)) w.heap.size 26 [.int .i64 x0, .string s1, .string s2, .string s3, .int .i64 x4, .string s5]) := J1.out.alloc _
      have J3 : Hid (IHolds (w1.alloc (.cells #[.bool false, .int .i64 2, .bool false, .bool true, .bool false, .func (.func 27) #[] #[]] 51)) w1.heap.size 51 [.bool false, .int .i64 2, .bool false, .bool true, .bool false, .func (.func 27) #[] #[]]) := IHolds.new w1 51 _
      obtain ⟨q0, q1, q2, q3, q4, q5⟩ := six J2.out
      obtain ⟨p0, p1, p2, p3, p4, p5⟩ := six J3.out
      clear hB H15 I1 J1 B1
      go_wp2_with (go_at_call 16; refine (H16.out _).mono ?_)
      rintro e w2 ⟨rfl, hB⟩
      have B3 : Hid (Below w.heap.size w w2) := B2.out.trans (hB.mono B2.out.size)
      have K2 := J2.out.of_below hB
      have K3 := J3.out.of_below hB
      clear hB q0 q1 q2 q3 q4 q5 p0 p1 p2 p3 p4 p5 J2 J3
      obtain ⟨q0, q1, q2, q3, q4, q5⟩ := six K2
      obtain ⟨p0, p1, p2, p3, p4, p5⟩ := six K3
      go_wp2_with (go_at_call 17; refine (H17.out _).mono ?_)
      rintro e w3 ⟨rfl, hB⟩
      have B4 : Hid (Below w.heap.size w w3) := B3.out.trans (hB.mono B3.out.size)
      have L2 := K2.of_below hB
      have L3 := K3.of_below hB
      clear hB q0 q1 q2 q3 q4 q5 p0 p1 p2 p3 p4 p5 K2 K3
      obtain ⟨q0, q1, q2, q3, q4, q5⟩ := six L2
      obtain ⟨p0, p1, p2, p3, p4, p5⟩ := six L3
      go_wp2_with (go_at_call 18; refine (H18.out _ B4.out).mono ?_)
      rintro e w4 ⟨rfl, hB⟩
      have B5 : Hid (Below w.heap.size w w4) := B4.out.trans (hB.mono B4.out.size)
      have N2 := L2.of_below hB
      have N3 := L3.of_below hB
      clear hB q0 q1 q2 q3 q4 q5 p0 p1 p2 p3 p4 p5 L2 L3
      obtain ⟨q0, q1, q2, q3, q4, q5⟩ := six N2
      obtain ⟨p0, p1, p2, p3, p4, p5⟩ := six N3
      by_cases hz : z = 0
      · have H20 : Hid (∀ V, Below w.heap.size w V → Calls Try.prog 19 #[.pointer (some ⟨cb, 0, none⟩), .agg #[.bool false, .int .i64 2, .bool false, .bool true, .bool false, .func (.func 27) #[] #[]], .agg #[.int .i64 x0, .string s1, .string s2, .string s3, .int .i64 x4, .string s5]] V fun e w' => e = .returned (.tuple #[]) ∧ CU w' cb bm bs lh ∧ FR V w' bm bs) := fun V hV => H19.out V hV hz
        have HY : Hid (nx = lh) := HX1.out hz
        clear H19 HX0 HX1
        subst hz
        go_wp2_with (go_at_call 19; refine (H20.out _ B5.out).mono ?_)
        rintro e w5 ⟨rfl, hC, hF⟩
        have CF : Hid (CU w5 cb bm bs lh) := hC
        have FF : Hid (FR w w5 bm bs) := (FR.below B5.out).trans hF
        clear hC hF q0 q1 q2 q3 q4 q5 p0 p1 p2 p3 p4 p5 N2 N3
        go_wp2_with fail
        go_ret
        exact ⟨rfl, by first | exact CF.out | (rw [HY.out]; exact CF.out), FF.out⟩
      · have z0 : (z == 0) = false := by simpa using hz
        have HZ : Hid (z ≠ 0) := hz
        go_wp2_with fail
        go_ret
        exact ⟨rfl, by first | exact HC.out _ B5.out | (rw [HX0.out HZ.out]; exact HC.out _ B5.out), FR.below B5.out⟩
set_option maxHeartbeats 8000000 in
theorem hand7_o {l : List Hd} {h : Hd} {cb bm bs : Nat} {w : World} (hc : CU w cb bm bs l) (hi : Inv1 l) (a : ¬ (1 ≤ h.act ∧ h.act ≤ 5)) (hs : Hs h) (hl : l.length < 140737488355328) :
    Calls Try.prog 7 #[.pointer (some ⟨cb, 0, none⟩), HV h] w fun e w' => e = .returned (.int .i64 (handC l h)) ∧ CU w' cb bm bs (nxt l h) ∧ FR w w' bm bs := by
  have HC : Hid (∀ V, Below w.heap.size w V → CU V cb bm bs l) := fun V hV => hc.of_below hV
  have H15 : Hid (∀ V, Calls Try.prog 15 #[.int .i64 h.act] V fun e w' => e = .returned (.tuple #[.agg #[.bool false, .int .i64 0, .bool false, .bool false, .bool false, Value.nilFunc], .bool false]) ∧ Below V.heap.size V w') := fun V => deed15_o a V
  have HZ : Hid (handC l h = 2) := handC_form (form_o a) (by decide)
  have HX : Hid (nxt l h = l) := nxt_no (by rw [HZ.out]; decide)
  clear a
  unfold HV
  have B : Hid (Below w.heap.size w (w.alloc (.cells #[.int .i64 h.act, .string h.box, .string h.who, .string h.to_, .int .i64 h.cnt, .string h.sl] 26))) := (Below.refl _ _).alloc (Nat.le_refl _) _
  have I1 : Hid (IHolds (w.alloc (.cells #[.int .i64 h.act, .string h.box, .string h.who, .string h.to_, .int .i64 h.cnt, .string h.sl] 26)) w.heap.size 26 [.int .i64 h.act, .string h.box, .string h.who, .string h.to_, .int .i64 h.cnt, .string h.sl]) := IHolds.new w 26 _
  clear hi hs hl hc
  generalize nxt l h = nx at *
  generalize handC l h = z at *
  generalize h.box = s1 at *
  generalize h.who = s2 at *
  generalize h.to_ = s3 at *
  generalize h.sl = s5 at *
  generalize h.cnt = x4 at *
  generalize h.act = x0 at *
  go_enter Try.func7, Try.ntmps7
  go_wp2_with (go_at_call 15; refine (H15.out _).mono ?_)
  rintro e w1 ⟨rfl, hB⟩
  have B1 : Hid (Below w.heap.size w w1) := B.out.trans (hB.mono B.out.size)
  have J1 : Hid (IHolds w1 w.heap.size 26 [.int .i64 x0, .string s1, .string s2, .string s3, .int .i64 x4, .string s5]) := I1.out.of_below hB
  have B2 : Hid (Below w.heap.size w (w1.alloc (.cells #[.bool false, .int .i64 0, .bool false, .bool false, .bool false, Value.nilFunc] 51))) := B1.out.alloc B1.out.size _
  have J2 : Hid (IHolds (w1.alloc (.cells #[.bool false, .int .i64 0, .bool false, .bool false, .bool false, Value.nilFunc] 51)) w.heap.size 26 [.int .i64 x0, .string s1, .string s2, .string s3, .int .i64 x4, .string s5]) := J1.out.alloc _
  have J3 : Hid (IHolds (w1.alloc (.cells #[.bool false, .int .i64 0, .bool false, .bool false, .bool false, Value.nilFunc] 51)) w1.heap.size 51 [.bool false, .int .i64 0, .bool false, .bool false, .bool false, Value.nilFunc]) := IHolds.new w1 51 _
  obtain ⟨q0, q1, q2, q3, q4, q5⟩ := six J2.out
  obtain ⟨p0, p1, p2, p3, p4, p5⟩ := six J3.out
  clear hB H15 I1 J1 B1
  go_wp2_with fail
  go_ret
  exact ⟨by first | rfl | (rw [HZ.out]; rfl), by first | exact HC.out _ B2.out | (rw [HX.out]; exact HC.out _ B2.out), FR.below B2.out⟩
theorem hand7 {l : List Hd} {h : Hd} {cb bm bs : Nat} {w : World} (hc : CU w cb bm bs l) (hi : Inv1 l) (hs : Hs h) (hl : l.length < 140737488355328) :
    Calls Try.prog 7 #[.pointer (some ⟨cb, 0, none⟩), HV h] w fun e w' => e = .returned (.int .i64 (handC l h)) ∧ CU w' cb bm bs (nxt l h) ∧ FR w w' bm bs := by
  by_cases a : 1 ≤ h.act ∧ h.act ≤ 5
  · rcases act_cases a with q | q | q | q | q
    · exact hand7_1 hc hi q hs hl
    · exact hand7_2 hc hi q hs hl
    · exact hand7_3 hc hi q hs hl
    · exact hand7_4 hc hi q hs hl
    · exact hand7_5 hc hi q hs hl
  · exact hand7_o hc hi a hs hl
end Go.Proofs.Ytafekaonmpkhiaa
