/- AuditBegins: the law. -/
import Derived.Test.YtflabehlaiocaaaDoorHd
set_option linter.unusedSimpArgs false
set_option linter.unusedVariables false
set_option maxRecDepth 100000
namespace Go.Proofs.YtflabehlaiocaaaDoor
open Go.RowKit Go.Deep Go.PlainAid

theorem hidIt {p : Prop} (h : p) : Hid p := h
def eB (z : Int) (x : ByteArray) : ByteArray := if z = 0 then x else ⟨#[]⟩
def eI (z : Int) (l : List Int) : List Int := if z = 0 then l else []
def eF (z : Int) (l : List (ByteArray × ByteArray)) : List (ByteArray × ByteArray) := if z = 0 then l else []
theorem BA.one {t ws : List Int} {n d : ByteArray} {e : Ending} {w' : World} (h : BA t ws n d e w') : ∃ v1 v2 v3 v4, e = .returned (.tuple #[.agg #[v1, v2, v3, v4, .string (eB (beC t ws n d) n), .string (eB (beC t ws n d) d), .int .i64 0], .int .i64 (beC t ws n d)]) ∧ WT w' v1 v2 v3 v4 (eI (beC t ws n d) (rW1 (loL ws t.length) ws)) (eI (beC t ws n d) (rW2 (loL ws t.length) ws)) (eF (beC t ws n d) (rW3 t (loL ws t.length) ws)) (eF (beC t ws n d) (rW4 (loL ws t.length) ws)) := by
  rcases h with ⟨h1, rfl⟩ | ⟨h1, v1, v2, v3, v4, rfl, h2⟩
  · unfold eB eI eF
    rw [if_neg h1, if_neg h1, if_neg h1, if_neg h1, if_neg h1, if_neg h1]
    exact ⟨_, _, _, _, rfl, WT.nil _⟩
  · rw [h1]
    exact ⟨v1, v2, v3, v4, rfl, h2⟩
theorem be_small {t ws : List Int} {n d : ByteArray} (h : beC t ws n d = 0) : t.length ≤ 12 ∧ ws.length ≤ 12 := by
  have q : msB t.length ws = false := by
    cases hq : msB t.length ws with
    | false => rfl
    | true => unfold beC at h; rw [hq] at h; cases h
  have := ms_no q
  omega
theorem be_lens (t ws : List Int) (n d : ByteArray) : (eI (beC t ws n d) (rW1 (loL ws t.length) ws)).length ≤ 4000 ∧ (eI (beC t ws n d) (rW2 (loL ws t.length) ws)).length ≤ 4000 ∧ (eF (beC t ws n d) (rW3 t (loL ws t.length) ws)).length ≤ 4000 ∧ (eF (beC t ws n d) (rW4 (loL ws t.length) ws)).length ≤ 4000 := by
  unfold eI eF
  by_cases h : beC t ws n d = 0
  · rw [if_pos h, if_pos h, if_pos h, if_pos h]
    obtain ⟨s1, s2⟩ := be_small h
    obtain ⟨e1, e2, e3, e4⟩ := rW_len t (loL ws t.length) ws
    have : ws.length * (loL ws t.length).length ≤ 12 * 12 := Nat.mul_le_mul s2 (Nat.le_trans (loL_le _ _) s1)
    omega
  · rw [if_neg h, if_neg h, if_neg h, if_neg h]
    simp
set_option maxHeartbeats 8000000 in
theorem law3_walk {w : World} {ct cw N M : Nat} {at_ aw : Option Addr} {n d N1 D1 : ByteArray} {z : Int} {L1 L2 : List Int} {L3 L4 : List (ByteArray × ByteArray)} (hl : L1.length ≤ 4000 ∧ L2.length ≤ 4000 ∧ L3.length ≤ 4000 ∧ L4.length ≤ 4000)
    (c4 : Hid (∀ V, Below w.heap.size w V → Calls Tryd.prog 4 #[.slice at_ N ct, .slice aw M cw, .agg #[.string n, .string d]] V fun e w' => (∃ v1 v2 v3 v4, e = .returned (.tuple #[.agg #[v1, v2, v3, v4, .string N1, .string D1, .int .i64 0], .int .i64 z]) ∧ WT w' v1 v2 v3 v4 L1 L2 L3 L4) ∧ Below V.heap.size V w'))
    (c5 : Hid (∀ V, Below w.heap.size w V → Calls Tryd.prog 5 #[.slice at_ N ct, .slice aw M cw, .agg #[.string n, .string d]] V fun e w' => (∃ v1 v2 v3 v4, e = .returned (.tuple #[.agg #[v1, v2, v3, v4, .string N1, .string D1, .int .i64 0], .int .i64 z]) ∧ WT w' v1 v2 v3 v4 L1 L2 L3 L4) ∧ Below V.heap.size V w')) :
    Calls Tryd.prog 3 #[.slice at_ N ct, .slice aw M cw, .agg #[.string n, .string d]] w fun e w' => e = .returned (.bool true) ∧ Below w.heap.size w w' := by
  have HL : Hid (L1.length ≤ 4000 ∧ L2.length ≤ 4000 ∧ L3.length ≤ 4000 ∧ L4.length ≤ 4000) := hl
  clear hl
  have B : Hid (Below w.heap.size w (w.alloc (.cells #[.string n, .string d] 24))) := (Below.refl _ w).alloc (Nat.le_refl _) _
  have JX : Hid (IHolds (w.alloc (.cells #[.string n, .string d] 24)) w.heap.size 24 [.string n, .string d]) := IHolds.new w 24 _
  go_enter Tryd.func3, Tryd.ntmps3
  go_upto_region 1 with fail
  generalize (w.alloc (.cells #[.string n, .string d] 24)) = V0 at *
  obtain ⟨x0, x1⟩ := cJ JX
  go_wp2_with (go_at_call 4; refine (c4.out V0 B.out).mono ?_)
  rintro e V1 ⟨⟨v1, v2, v3, v4, rfl, hwt⟩, hb⟩
  clear x0 x1
  replace JX := aJ JX hb
  replace B := aB B hb
  obtain ⟨⟨p1, o1⟩, ⟨p2, o2⟩, ⟨p3, o3⟩, ⟨p4, o4⟩⟩ := id hwt
  obtain ⟨a1, k1, m1, rfl⟩ := own_slice o1
  obtain ⟨a2, k2, m2, rfl⟩ := own_slice o2
  obtain ⟨a3, k3, m3, rfl⟩ := own_slice o3
  obtain ⟨a4, k4, m4, rfl⟩ := own_slice o4
  have WT1 : Hid (WT V1 (.slice a1 k1 m1) (.slice a2 k2 m2) (.slice a3 k3 m3) (.slice a4 k4 m4) L1 L2 L3 L4) := hwt
  clear hwt hb o1 o2 o3 o4
  go_upto_region 2 with fail
  have hb := nB V1 (.cells #[.slice a1 k1 m1, .slice a2 k2 m2, .slice a3 k3 m3, .slice a4 k4 m4, .string N1, .string D1, .int .i64 0] 27)
  have JA : Hid (IHolds (V1.alloc (.cells #[.slice a1 k1 m1, .slice a2 k2 m2, .slice a3 k3 m3, .slice a4 k4 m4, .string N1, .string D1, .int .i64 0] 27)) V1.heap.size 27 [.slice a1 k1 m1, .slice a2 k2 m2, .slice a3 k3 m3, .slice a4 k4 m4, .string N1, .string D1, .int .i64 0]) := IHolds.new V1 27 _
  replace JX := aJ JX hb
  replace B := aB B hb
  have WT2 := hidIt (WT1.out.of_below hb)
  clear hb WT1
  generalize (V1.alloc (.cells #[.slice a1 k1 m1, .slice a2 k2 m2, .slice a3 k3 m3, .slice a4 k4 m4, .string N1, .string D1, .int .i64 0] 27)) = V2 at *
  generalize V1.heap.size = g1 at *
  obtain ⟨x0, x1⟩ := cJ JX
  go_wp2_with (go_at_call 5; refine (c5.out V2 B.out).mono ?_)
  rintro e V3 ⟨⟨u1, u2, u3, u4, rfl, hwt⟩, hb⟩
  clear x0 x1
  replace JX := aJ JX hb
  replace B := aB B hb
  replace JA := aJ JA hb
  have WT3 := hidIt (WT2.out.of_below hb)
  obtain ⟨⟨p1, o1⟩, ⟨p2, o2⟩, ⟨p3, o3⟩, ⟨p4, o4⟩⟩ := id hwt
  obtain ⟨b1, i1, j1, rfl⟩ := own_slice o1
  obtain ⟨b2, i2, j2, rfl⟩ := own_slice o2
  obtain ⟨b3, i3, j3, rfl⟩ := own_slice o3
  obtain ⟨b4, i4, j4, rfl⟩ := own_slice o4
  have WU3 : Hid (WT V3 (.slice b1 i1 j1) (.slice b2 i2 j2) (.slice b3 i3 j3) (.slice b4 i4 j4) L1 L2 L3 L4) := hwt
  clear hwt hb o1 o2 o3 o4 WT2
  go_upto_region 3 with fail
  have hb := nB V3 (.cells #[.slice b1 i1 j1, .slice b2 i2 j2, .slice b3 i3 j3, .slice b4 i4 j4, .string N1, .string D1, .int .i64 0] 27)
  have JB : Hid (IHolds (V3.alloc (.cells #[.slice b1 i1 j1, .slice b2 i2 j2, .slice b3 i3 j3, .slice b4 i4 j4, .string N1, .string D1, .int .i64 0] 27)) V3.heap.size 27 [.slice b1 i1 j1, .slice b2 i2 j2, .slice b3 i3 j3, .slice b4 i4 j4, .string N1, .string D1, .int .i64 0]) := IHolds.new V3 27 _
  replace JA := aJ JA hb
  replace B := aB B hb
  have WT4 := hidIt (WT3.out.of_below hb)
  have WU4 := hidIt (WU3.out.of_below hb)
  clear hb WT3 WU3 JX
  generalize (V3.alloc (.cells #[.slice b1 i1 j1, .slice b2 i2 j2, .slice b3 i3 j3, .slice b4 i4 j4, .string N1, .string D1, .int .i64 0] 27)) = V4 at *
  generalize V3.heap.size = g2 at *
  have C6 : Hid (Calls Tryd.prog 6 #[.agg #[.slice a1 k1 m1, .slice a2 k2 m2, .slice a3 k3 m3, .slice a4 k4 m4, .string N1, .string D1, .int .i64 0], .agg #[.slice b1 i1 j1, .slice b2 i2 j2, .slice b3 i3 j3, .slice b4 i4 j4, .string N1, .string D1, .int .i64 0]] V4 fun e w' => e = .returned (.bool true) ∧ Below V4.heap.size V4 w') := sameWatch6 WT4.out WU4.out (by have := HL.out; omega) (by have := HL.out; omega) (by have := HL.out; omega) (by have := HL.out; omega)
  obtain ⟨x0, x1, x2, x3, x4, x5, x6⟩ := seven JA.out
  obtain ⟨y0, y1, y2, y3, y4, y5, y6⟩ := seven JB.out
  clear WT4 WU4 JA JB HL c4 c5
  go_wp2_with (go_at_call 6; refine C6.out.mono ?_)
  rintro e V5 ⟨rfl, hb⟩
  have B5 : Hid (Below w.heap.size w V5) := B.out.trans (hb.mono B.out.size)
  clear hb B C6 x0 x1 x2 x3 x4 x5 x6 y0 y1 y2 y3 y4 y5 y6
  go_wp2_with fail
  go_ret
  exact ⟨rfl, B5.out⟩
theorem law3 {w : World} {ct cw : Nat} {at_ aw : Option Addr} {t ws : List Int} {n d : ByteArray} (ht : IL w at_ t) (hw : IL w aw ws) (htn : t.length < 9223372036854775808) (hwc : ws.length ≤ cw) (hcw : cw < 9223372036854775808) :
    Calls Tryd.prog 3 #[.slice at_ t.length ct, .slice aw ws.length cw, .agg #[.string n, .string d]] w fun e w' => e = .returned (.bool true) ∧ Below w.heap.size w w' :=
  law3_walk (be_lens t ws n d) (fun V hV => (begin4 (ht.of_below hV) (hw.of_below hV) htn hwc hcw).mono (fun e w' h => ⟨h.1.one, h.2⟩)) (fun V hV => (begin5 (ht.of_below hV) (hw.of_below hV) htn hwc hcw).mono (fun e w' h => ⟨h.1.one, h.2⟩))
end Go.Proofs.YtflabehlaiocaaaDoor
