/- What hinders something. -/
import Derived.Test.YtafekaonmpkhiaaCf
import Derived.Test.YtafekaonmpkhiaaCg
set_option linter.unusedSimpArgs false
set_option linter.unusedVariables false
set_option maxRecDepth 100000
namespace Go.Proofs.Ytafekaonmpkhiaa
open Go.RowKit Go.Deep Go.PlainAid

/-- What the custody makes of it, by the deed's flags. -/
def pC (pk : Bool) (st : Int) (df sls : Bool) (ok : Bool) (N : Nat) (z : Int) (wr : Bool) (used : Bool) : Int :=
  if (pk && ok) = true then 10 else if (pk && decide (256 ≤ N)) = true then 15 else if (!pk && !ok) = true then 9 else if (!pk && decide (z ≠ st)) = true then 11
  else if (!pk && wr) = true then 12 else if df = true then 8 else if (sls && used) = true then 10 else 0
set_option maxHeartbeats 8000000 in
theorem hinders18 (pk : Bool) (st : Int) (gv ct lk : Bool) (f : Nat) {h : Hd} {l : List Hd} {cb bm bs : Nat} {w : World} (hc : CU w cb bm bs l) (hi : Inv1 l) (h1 : h.box.size ≤ 140737488355328) (h2 : h.sl.size ≤ 140737488355328) :
    Calls Try.prog 18 #[.pointer (some ⟨cb, 0, none⟩), DV pk st gv ct lk f, HV h] w fun e w' => e = .returned (.int .i64 (pC pk st (dfB lk ct h (bx l h.box)) (!gv && !lk) (bx l h.box).ok (packs l).length (stZ (bx l h.box)) (decide (h.who ≠ if stZ (bx l h.box) = 1 then (bx l h.box).under else (bx l h.box).holder)) (had l h.sl))) ∧ Below w.heap.size w w' := by
  have HC : Hid (∀ V, Below w.heap.size w V → CU V cb bm bs l) := fun V hV => hc.of_below hV
  have L1 : Hid (∀ V, Below w.heap.size w V → (Instr.lookup 42 (.map (some bm)) (.string h.box) true).run Try.prog V = .ok (.tuple #[.agg #[.string (nmOf l h.box), .int .i64 (bx l h.box).count, .string (bx l h.box).holder, .string (bx l h.box).sl, .int .i64 (stZ (bx l h.box)), .string (bx l h.box).under], .bool (bx l h.box).ok]) V) := fun V hV => (hc.of_below hV).look hi h1
  have L2 : Hid (∀ V, Below w.heap.size w V → (Instr.lookup 43 (.map (some bs)) (.string h.sl) true).run Try.prog V = .ok (.tuple #[.agg #[], .bool (had l h.sl)]) V) := fun V hV => (hc.of_below hV).lookS h2
  have CC : Hid (∀ V, Below w.heap.size w V → V.cell? ⟨cb, 0, none⟩ = some (.map (some bm)) ∧ V.cell? ⟨cb, 1, none⟩ = some (.map (some bs))) := fun V hV => ⟨(hc.of_below hV).c.cell 0 (by simp), (hc.of_below hV).c.cell 1 (by simp)⟩
  have LN : Hid (∀ V ty, Below w.heap.size w V → (Builtin.len_ #[42] ty #[.map (some bm)]).run Try.prog V = .ok (.int .i64 ((packs l).length : Int)) V) := fun V ty hV => (hc.of_below hV).len ty
  have NX : Hid (∀ V, Calls Try.prog 31 #[.agg #[.string (nmOf l h.box), .int .i64 (bx l h.box).count, .string (bx l h.box).holder, .string (bx l h.box).sl, .int .i64 (stZ (bx l h.box)), .string (bx l h.box).under]] V fun e w' => e = .returned (.string (if stZ (bx l h.box) = 1 then (bx l h.box).under else (bx l h.box).holder)) ∧ Below V.heap.size V w') := fun V => next31 _ _ V
  have DF : Hid (∀ V, Calls Try.prog 32 #[.agg #[.bool pk, .int .i64 st, .bool gv, .bool ct, .bool lk, .func (.func f) #[] #[]], .agg #[.string (nmOf l h.box), .int .i64 (bx l h.box).count, .string (bx l h.box).holder, .string (bx l h.box).sl, .int .i64 (stZ (bx l h.box)), .string (bx l h.box).under], .agg #[.int .i64 h.act, .string h.box, .string h.who, .string h.to_, .int .i64 h.cnt, .string h.sl]] V fun e w' => e = .returned (.bool (dfB lk ct h (bx l h.box))) ∧ Below V.heap.size V w') := fun V => differs32 pk st gv ct lk f _ _ h V
  have SL : Hid (∀ V, Calls Try.prog 33 #[.agg #[.bool pk, .int .i64 st, .bool gv, .bool ct, .bool lk, .func (.func f) #[] #[]]] V fun e w' => e = .returned (.bool (!gv && !lk)) ∧ Below V.heap.size V w') := fun V => seals33 pk st gv ct lk f V
  clear hc hi h1 h2
  unfold DV HV
  generalize dfB lk ct h (bx l h.box) = df at *
  generalize (!gv && !lk) = sls at *
  generalize (packs l).length = PN at *
  generalize had l h.sl = used at *
  generalize nmOf l h.box = nm at *
  generalize (bx l h.box).count = r1 at *
  generalize (bx l h.box).sl = r3 at *
  generalize (if stZ (bx l h.box) = 1 then (bx l h.box).under else (bx l h.box).holder) = nx at *
  generalize (bx l h.box).holder = r2 at *
  generalize (bx l h.box).under = r5 at *
  generalize stZ (bx l h.box) = r4 at *
  generalize (bx l h.box).ok = ok at *
  generalize h.box = s1 at *
  generalize h.who = s2 at *
  generalize h.to_ = s3 at *
  generalize h.sl = s5 at *
  generalize h.cnt = x4 at *
  generalize h.act = x0 at *
  have B : Hid (Below w.heap.size w ((w.alloc (.cells #[.bool pk, .int .i64 st, .bool gv, .bool ct, .bool lk, .func (.func f) #[] #[]] 51)).alloc (.cells #[.int .i64 x0, .string s1, .string s2, .string s3, .int .i64 x4, .string s5] 26))) := ((Below.refl _ _).alloc (Nat.le_refl _) _).alloc (by simp) _
  have I1 : Hid (IHolds ((w.alloc (.cells #[.bool pk, .int .i64 st, .bool gv, .bool ct, .bool lk, .func (.func f) #[] #[]] 51)).alloc (.cells #[.int .i64 x0, .string s1, .string s2, .string s3, .int .i64 x4, .string s5] 26)) w.heap.size 51 [.bool pk, .int .i64 st, .bool gv, .bool ct, .bool lk, .func (.func f) #[] #[]]) := (IHolds.new w 51 _).alloc _
  have I2 : Hid (IHolds ((w.alloc (.cells #[.bool pk, .int .i64 st, .bool gv, .bool ct, .bool lk, .func (.func f) #[] #[]] 51)).alloc (.cells #[.int .i64 x0, .string s1, .string s2, .string s3, .int .i64 x4, .string s5] 26)) (w.heap.size + 1) 26 [.int .i64 x0, .string s1, .string s2, .string s3, .int .i64 x4, .string s5]) := by
    have q := IHolds.new (w.alloc (.cells #[.bool pk, .int .i64 st, .bool gv, .bool ct, .bool lk, .func (.func f) #[] #[]] 51)) 26 [.int .i64 x0, .string s1, .string s2, .string s3, .int .i64 x4, .string s5]
    rw [World.size_alloc] at q; exact q
  go_enter Try.func18, Try.ntmps18
  go_wp2_with fail
  generalize ((w.alloc (.cells #[.bool pk, .int .i64 st, .bool gv, .bool ct, .bool lk, .func (.func f) #[] #[]] 51)).alloc (.cells #[.int .i64 x0, .string s1, .string s2, .string s3, .int .i64 x4, .string s5] 26)) = U at *
  obtain ⟨q0, q1, q2, q3, q4, q5⟩ := six I2.out
  obtain ⟨c0, c1⟩ := CC.out U B.out
  go_wp2_with fail
  refine wp_region_noPanic ?_
  refine rh1_wp c0 q1 (fun V hV => L1.out V (B.out.trans (hV.mono B.out.size))) (fun _ _ _ _ h => h) ?_
  intro u11 u12 u13 u14 u15 u16 u17 u18 u19 u20
  refine NoPanic.normal ?_
  try dsimp only
  have IB : Hid (IHolds (U.alloc (.cells #[.string nm, .int .i64 r1, .string r2, .string r3, .int .i64 r4, .string r5] 68)).drew U.heap.size 68 [.string nm, .int .i64 r1, .string r2, .string r3, .int .i64 r4, .string r5]) := IHolds.new U 68 _
  have BU : Hid (Below U.heap.size U (U.alloc (.cells #[.string nm, .int .i64 r1, .string r2, .string r3, .int .i64 r4, .string r5] 68)).drew) := ((Below.refl _ _).alloc (Nat.le_refl _) _).drew
  have B1 : Hid (Below w.heap.size w (U.alloc (.cells #[.string nm, .int .i64 r1, .string r2, .string r3, .int .i64 r4, .string r5] 68)).drew) := B.out.trans (BU.out.mono B.out.size)
  have I1' : Hid (IHolds (U.alloc (.cells #[.string nm, .int .i64 r1, .string r2, .string r3, .int .i64 r4, .string r5] 68)).drew w.heap.size 51 [.bool pk, .int .i64 st, .bool gv, .bool ct, .bool lk, .func (.func f) #[] #[]]) := I1.out.of_below BU.out
  have I2' : Hid (IHolds (U.alloc (.cells #[.string nm, .int .i64 r1, .string r2, .string r3, .int .i64 r4, .string r5] 68)).drew (w.heap.size + 1) 26 [.int .i64 x0, .string s1, .string s2, .string s3, .int .i64 x4, .string s5]) := I2.out.of_below BU.out
  clear BU I1 I2 q0 q1 q2 q3 q4 q5 c0 c1
  generalize (U.alloc (.cells #[.string nm, .int .i64 r1, .string r2, .string r3, .int .i64 r4, .string r5] 68)).drew = V at *
  generalize U.heap.size = ub at *
  go_wp2_with fail
  obtain ⟨q0, q1, q2, q3, q4, q5⟩ := six I2'.out
  obtain ⟨c0, c1⟩ := CC.out V B1.out
  refine wp_region_noPanic ?_
  refine rh2_wp c1 q5 (fun X hX => L2.out X (B1.out.trans (hX.mono B1.out.size))) (fun _ _ _ _ h => h) ?_
  intro u21 u22 u23 u24 u25 u26 u27 u28 u29 u30
  refine NoPanic.normal ?_
  try dsimp only
  have BU : Hid (Below V.heap.size V (V.alloc (.cells #[] 70)).drew) := ((Below.refl _ _).alloc (Nat.le_refl _) _).drew
  have B2 : Hid (Below w.heap.size w (V.alloc (.cells #[] 70)).drew) := B1.out.trans (BU.out.mono B1.out.size)
  have I1 : Hid (IHolds (V.alloc (.cells #[] 70)).drew w.heap.size 51 [.bool pk, .int .i64 st, .bool gv, .bool ct, .bool lk, .func (.func f) #[] #[]]) := I1'.out.of_below BU.out
  have I2 : Hid (IHolds (V.alloc (.cells #[] 70)).drew (w.heap.size + 1) 26 [.int .i64 x0, .string s1, .string s2, .string s3, .int .i64 x4, .string s5]) := I2'.out.of_below BU.out
  have I3 : Hid (IHolds (V.alloc (.cells #[] 70)).drew ub 68 [.string nm, .int .i64 r1, .string r2, .string r3, .int .i64 r4, .string r5]) := IB.out.of_below BU.out
  clear BU I1' I2' IB q0 q1 q2 q3 q4 q5 c0 c1
  generalize (V.alloc (.cells #[] 70)).drew = Y at *
  obtain ⟨q0, q1, q2, q3, q4, q5⟩ := six I2.out
  obtain ⟨p0, p1, p2, p3, p4, p5⟩ := six I1.out
  obtain ⟨o0, o1, o2, o3, o4, o5⟩ := six I3.out
  obtain ⟨c0, c1⟩ := CC.out Y B2.out
  have ln : (Builtin.len_ #[42] 3 #[.map (some bm)]).run Try.prog Y = .ok (.int .i64 (PN : Int)) Y := LN.out Y 3 B2.out
  clear CC LN L1 L2 HC
  cases pk with
  | true =>
    cases ok with
    | true =>
      go_wp2_with fail
      go_ret
      exact ⟨by simp [pC], B2.out⟩
    | false =>
      by_cases hN : 256 ≤ PN
      · have n1 : (256 : Int) ≤ (PN : Int) := by omega
        go_wp2_with fail
        go_ret
        exact ⟨by simp [pC, hN], B2.out⟩
      · have n1 : ¬ (256 : Int) ≤ (PN : Int) := by omega
        go_wp2_with fail
        refine wp_region_noPanic ?_
        refine rh11_no (show Y.drew.cell? ⟨w.heap.size, 0, none⟩ = some (.bool true) from p0) (fun _ _ _ _ h => h) ?_
        intro u68 u69 u70 u71 u72 u73 u74 u75 u76 u77
        refine NoPanic.normal ?_
        try dsimp only
        have BD : Hid (Below Y.heap.size Y Y.drew) := (Below.refl _ _).drew
        have B3 : Hid (Below w.heap.size w Y.drew) := B2.out.trans (BD.out.mono B2.out.size)
        have K1 : Hid (IHolds Y.drew w.heap.size 51 [.bool true, .int .i64 st, .bool gv, .bool ct, .bool lk, .func (.func f) #[] #[]]) := I1.out.of_below BD.out
        have K2 : Hid (IHolds Y.drew (w.heap.size + 1) 26 [.int .i64 x0, .string s1, .string s2, .string s3, .int .i64 x4, .string s5]) := I2.out.of_below BD.out
        have K3 : Hid (IHolds Y.drew ub 68 [.string nm, .int .i64 r1, .string r2, .string r3, .int .i64 r4, .string r5]) := I3.out.of_below BD.out
        clear BD q0 q1 q2 q3 q4 q5 p0 p1 p2 p3 p4 p5 o0 o1 o2 o3 o4 o5 c0 c1 ln I1 I2 I3
        generalize Y.drew = Y1 at *
        obtain ⟨q0, q1, q2, q3, q4, q5⟩ := six K2.out
        obtain ⟨p0, p1, p2, p3, p4, p5⟩ := six K1.out
        obtain ⟨o0, o1, o2, o3, o4, o5⟩ := six K3.out
        go_wp2_with (go_at_call 32; refine (DF.out _).mono ?_)
        rintro e Z1 ⟨rfl, hB⟩
        have BZ : Hid (Below w.heap.size w Z1) := B3.out.trans (hB.mono B3.out.size)
        have J1 : Hid (IHolds Z1 w.heap.size 51 [.bool true, .int .i64 st, .bool gv, .bool ct, .bool lk, .func (.func f) #[] #[]]) := K1.out.of_below hB
        clear hB DF q0 q1 q2 q3 q4 q5 p0 p1 p2 p3 p4 p5 o0 o1 o2 o3 o4 o5
        obtain ⟨p0, p1, p2, p3, p4, p5⟩ := six J1.out
        cases df with
        | true =>
          go_wp2_with fail
          go_ret
          exact ⟨by simp [pC, hN], BZ.out⟩
        | false =>
          go_wp2_with (go_at_call 33; refine (SL.out _).mono ?_)
          rintro e Z2 ⟨rfl, hB⟩
          have BZ2 : Hid (Below w.heap.size w Z2) := BZ.out.trans (hB.mono BZ.out.size)
          clear hB SL p0 p1 p2 p3 p4 p5
          cases sls with
          | false =>
            go_wp2_with fail
            go_ret
            exact ⟨by simp [pC, hN], BZ2.out⟩
          | true =>
            cases used with
            | false =>
              go_wp2_with fail
              go_ret
              exact ⟨by simp [pC, hN], BZ2.out⟩
            | true =>
              go_wp2_with fail
              go_ret
              exact ⟨by simp [pC, hN], BZ2.out⟩
  | false =>
    cases ok with
    | false =>
      go_wp2_with fail
      go_ret
      exact ⟨by simp [pC], B2.out⟩
    | true =>
      by_cases hz : r4 = st
      · have hz' := hz.symm
        subst hz'
        by_cases hw : s2 = nx
        · subst hw
          go_wp2_with fail
          refine wp_region_noPanic ?_
          refine rh11_same p0 q2 o0 o1 o2 o3 o4 o5 NX.out  (fun _ _ _ _ h => h) ?_
          intro u68 u69 u70 u71 u72 u73 u74 u75 u76 u77 Y1 hB
          refine NoPanic.normal ?_
          try dsimp only
          have B3 : Hid (Below w.heap.size w Y1) := B2.out.trans (hB.mono B2.out.size)
          have K1 : Hid (IHolds Y1 w.heap.size 51 [.bool false, .int .i64 st, .bool gv, .bool ct, .bool lk, .func (.func f) #[] #[]]) := I1.out.of_below hB
          have K2 : Hid (IHolds Y1 (w.heap.size + 1) 26 [.int .i64 x0, .string s1, .string s2, .string s3, .int .i64 x4, .string s5]) := I2.out.of_below hB
          have K3 : Hid (IHolds Y1 ub 68 [.string nm, .int .i64 r1, .string r2, .string r3, .int .i64 st, .string r5]) := I3.out.of_below hB
          clear hB q0 q1 q2 q3 q4 q5 p0 p1 p2 p3 p4 p5 o0 o1 o2 o3 o4 o5 c0 c1 ln
          obtain ⟨q0, q1, q2, q3, q4, q5⟩ := six K2.out
          obtain ⟨p0, p1, p2, p3, p4, p5⟩ := six K1.out
          obtain ⟨o0, o1, o2, o3, o4, o5⟩ := six K3.out
          go_wp2_with (go_at_call 32; refine (DF.out _).mono ?_)
          rintro e Z1 ⟨rfl, hB⟩
          have BZ : Hid (Below w.heap.size w Z1) := B3.out.trans (hB.mono B3.out.size)
          have J1 : Hid (IHolds Z1 w.heap.size 51 [.bool false, .int .i64 st, .bool gv, .bool ct, .bool lk, .func (.func f) #[] #[]]) := K1.out.of_below hB
          clear hB DF q0 q1 q2 q3 q4 q5 p0 p1 p2 p3 p4 p5 o0 o1 o2 o3 o4 o5
          obtain ⟨p0, p1, p2, p3, p4, p5⟩ := six J1.out
          cases df with
          | true =>
            go_wp2_with fail
            go_ret
            exact ⟨by simp [pC], BZ.out⟩
          | false =>
            go_wp2_with (go_at_call 33; refine (SL.out _).mono ?_)
            rintro e Z2 ⟨rfl, hB⟩
            have BZ2 : Hid (Below w.heap.size w Z2) := BZ.out.trans (hB.mono BZ.out.size)
            clear hB SL p0 p1 p2 p3 p4 p5
            cases sls with
            | false =>
              go_wp2_with fail
              go_ret
              exact ⟨by simp [pC], BZ2.out⟩
            | true =>
              cases used with
              | false =>
                go_wp2_with fail
                go_ret
                exact ⟨by simp [pC], BZ2.out⟩
              | true =>
                go_wp2_with fail
                go_ret
                exact ⟨by simp [pC], BZ2.out⟩
        · have hw2 := str_ne hw
          go_wp2_with fail
          refine wp_region_noPanic ?_
          refine rh11_other p0 q2 o0 o1 o2 o3 o4 o5 NX.out hw2 (fun _ _ _ _ h => h) ?_
          intro u68 u69 u70 u71 u72 u73 u74 u75 u76 u77 Y1 hB
          refine NoPanic.normal ?_
          try dsimp only
          have B3 : Hid (Below w.heap.size w Y1) := B2.out.trans (hB.mono B2.out.size)
          have K1 : Hid (IHolds Y1 w.heap.size 51 [.bool false, .int .i64 st, .bool gv, .bool ct, .bool lk, .func (.func f) #[] #[]]) := I1.out.of_below hB
          have K2 : Hid (IHolds Y1 (w.heap.size + 1) 26 [.int .i64 x0, .string s1, .string s2, .string s3, .int .i64 x4, .string s5]) := I2.out.of_below hB
          have K3 : Hid (IHolds Y1 ub 68 [.string nm, .int .i64 r1, .string r2, .string r3, .int .i64 st, .string r5]) := I3.out.of_below hB
          clear hB q0 q1 q2 q3 q4 q5 p0 p1 p2 p3 p4 p5 o0 o1 o2 o3 o4 o5 c0 c1 ln
          obtain ⟨q0, q1, q2, q3, q4, q5⟩ := six K2.out
          obtain ⟨p0, p1, p2, p3, p4, p5⟩ := six K1.out
          obtain ⟨o0, o1, o2, o3, o4, o5⟩ := six K3.out
          go_wp2_with fail
          go_ret
          exact ⟨by simp [pC, hw], B3.out⟩
      · have hz2 : (r4 == st) = false := by simpa using hz
        have hz3 : (r4 != st) = true := by simpa using hz
        go_wp2_with fail
        go_ret
        exact ⟨by simp [pC, hz], B2.out⟩
end Go.Proofs.Ytafekaonmpkhiaa
