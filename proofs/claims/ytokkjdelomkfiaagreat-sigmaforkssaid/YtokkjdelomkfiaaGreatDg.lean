/- The law SigmaForks: a round of its loop. -/
import Derived.Test.YtokkjdelomkfiaaGreatDf
set_option linter.unusedSimpArgs false
set_option linter.unusedVariables false
set_option maxRecDepth 100000
namespace Go.Proofs.YtokkjdelomkfiaaGreat
open Go.RowKit Go.Deep Go.PlainAid

/-- Sets in memory. -/
def CMM (w : World) (a : Option Addr) (l : List (List Cl)) : Prop := ∀ i (h : i < l.length), ∃ b o a' c', a = some ⟨b, o, none⟩ ∧ w.cell? ⟨b, o + i, none⟩ = some (.slice a' (l[i]).length c') ∧ CM w a' l[i]
theorem CMM.of_below {w w' : World} {a : Option Addr} {l : List (List Cl)} (h : CMM w a l) (hb : Below w.heap.size w w') : CMM w' a l := by
  intro i hi
  obtain ⟨b, o, a', c', e, h1, h2⟩ := h i hi
  exact ⟨b, o, a', c', e, cell_keep h1 hb, h2.of_below hb⟩
set_option maxHeartbeats 2000000 in
theorem law_A {w : World} {z : Int} {sa a1 a2 b1 b2 : Option Addr} {n sc n1 c1 n2 c2 m1 d1 m2 d2 : Nat} (g1 : ((n : Int) == 0) = true) :
    Calls Tryz.prog 3 #[.int .i64 z, .slice sa n sc, .agg #[.slice a1 n1 c1, .slice a2 n2 c2], .agg #[.slice b1 m1 d1, .slice b2 m2 d2]] w fun e w' => e = .returned (.bool true) ∧ Below w.heap.size w w' := by
  generalize hW : (w.alloc (.cells #[.slice a1 n1 c1, .slice a2 n2 c2] 26)).alloc (.cells #[.slice b1 m1 d1, .slice b2 m2 d2] 26) = U
  have B : Hid (Below w.heap.size w U) := (any9_world hW).1
  have I0 : Hid (IHolds U w.heap.size 26 [.slice a1 n1 c1, .slice a2 n2 c2]) := (any9_world hW).2.1
  have I1 : Hid (IHolds U (w.heap.size + 1) 26 [.slice b1 m1 d1, .slice b2 m2 d2]) := (any9_world hW).2.2
  go_enter Tryz.func3, Tryz.ntmps3
  have q0 : U.cell? ⟨w.heap.size, 0, none⟩ = some (.slice a1 n1 c1) := I0.out.cell 0 (by simp)
  have q1 : U.cell? ⟨w.heap.size, 1, none⟩ = some (.slice a2 n2 c2) := I0.out.cell 1 (by simp)
  have r0 : U.cell? ⟨w.heap.size + 1, 0, none⟩ = some (.slice b1 m1 d1) := I1.out.cell 0 (by simp)
  have r1 : U.cell? ⟨w.heap.size + 1, 1, none⟩ = some (.slice b2 m2 d2) := I1.out.cell 1 (by simp)
  go_wp2_with fail
  go_ret
  exact ⟨rfl, B.out⟩
set_option maxHeartbeats 2000000 in
theorem law_B {w : World} {z : Int} {sa a1 a2 b1 b2 : Option Addr} {n sc n1 c1 n2 c2 m1 d1 m2 d2 : Nat} (g1 : ((n : Int) == 0) = false) (g2 : ((n1 : Int) != (n : Int)) = true) :
    Calls Tryz.prog 3 #[.int .i64 z, .slice sa n sc, .agg #[.slice a1 n1 c1, .slice a2 n2 c2], .agg #[.slice b1 m1 d1, .slice b2 m2 d2]] w fun e w' => e = .returned (.bool true) ∧ Below w.heap.size w w' := by
  generalize hW : (w.alloc (.cells #[.slice a1 n1 c1, .slice a2 n2 c2] 26)).alloc (.cells #[.slice b1 m1 d1, .slice b2 m2 d2] 26) = U
  have B : Hid (Below w.heap.size w U) := (any9_world hW).1
  have I0 : Hid (IHolds U w.heap.size 26 [.slice a1 n1 c1, .slice a2 n2 c2]) := (any9_world hW).2.1
  have I1 : Hid (IHolds U (w.heap.size + 1) 26 [.slice b1 m1 d1, .slice b2 m2 d2]) := (any9_world hW).2.2
  go_enter Tryz.func3, Tryz.ntmps3
  have q0 : U.cell? ⟨w.heap.size, 0, none⟩ = some (.slice a1 n1 c1) := I0.out.cell 0 (by simp)
  have q1 : U.cell? ⟨w.heap.size, 1, none⟩ = some (.slice a2 n2 c2) := I0.out.cell 1 (by simp)
  have r0 : U.cell? ⟨w.heap.size + 1, 0, none⟩ = some (.slice b1 m1 d1) := I1.out.cell 0 (by simp)
  have r1 : U.cell? ⟨w.heap.size + 1, 1, none⟩ = some (.slice b2 m2 d2) := I1.out.cell 1 (by simp)
  go_wp2_with fail
  go_ret
  exact ⟨rfl, B.out⟩
set_option maxHeartbeats 2000000 in
theorem law_C {w : World} {z : Int} {sa a1 a2 b1 b2 : Option Addr} {n sc n1 c1 n2 c2 m1 d1 m2 d2 : Nat} (g1 : ((n : Int) == 0) = false) (g2 : ((n1 : Int) != (n : Int)) = false) (g3 : ((m1 : Int) != (n : Int)) = true) :
    Calls Tryz.prog 3 #[.int .i64 z, .slice sa n sc, .agg #[.slice a1 n1 c1, .slice a2 n2 c2], .agg #[.slice b1 m1 d1, .slice b2 m2 d2]] w fun e w' => e = .returned (.bool true) ∧ Below w.heap.size w w' := by
  generalize hW : (w.alloc (.cells #[.slice a1 n1 c1, .slice a2 n2 c2] 26)).alloc (.cells #[.slice b1 m1 d1, .slice b2 m2 d2] 26) = U
  have B : Hid (Below w.heap.size w U) := (any9_world hW).1
  have I0 : Hid (IHolds U w.heap.size 26 [.slice a1 n1 c1, .slice a2 n2 c2]) := (any9_world hW).2.1
  have I1 : Hid (IHolds U (w.heap.size + 1) 26 [.slice b1 m1 d1, .slice b2 m2 d2]) := (any9_world hW).2.2
  go_enter Tryz.func3, Tryz.ntmps3
  have q0 : U.cell? ⟨w.heap.size, 0, none⟩ = some (.slice a1 n1 c1) := I0.out.cell 0 (by simp)
  have q1 : U.cell? ⟨w.heap.size, 1, none⟩ = some (.slice a2 n2 c2) := I0.out.cell 1 (by simp)
  have r0 : U.cell? ⟨w.heap.size + 1, 0, none⟩ = some (.slice b1 m1 d1) := I1.out.cell 0 (by simp)
  have r1 : U.cell? ⟨w.heap.size + 1, 1, none⟩ = some (.slice b2 m2 d2) := I1.out.cell 1 (by simp)
  go_wp2_with fail
  go_ret
  exact ⟨rfl, B.out⟩
set_option maxHeartbeats 2000000 in
theorem law_D {w : World} {z : Int} {sa a1 a2 b1 b2 : Option Addr} {n sc n1 c1 n2 c2 m1 d1 m2 d2 : Nat} (g1 : ((n : Int) == 0) = false) (g2 : ((n1 : Int) != (n : Int)) = false) (g3 : ((m1 : Int) != (n : Int)) = false) (g4 : ((n2 : Int) != (n : Int)) = true) :
    Calls Tryz.prog 3 #[.int .i64 z, .slice sa n sc, .agg #[.slice a1 n1 c1, .slice a2 n2 c2], .agg #[.slice b1 m1 d1, .slice b2 m2 d2]] w fun e w' => e = .returned (.bool true) ∧ Below w.heap.size w w' := by
  generalize hW : (w.alloc (.cells #[.slice a1 n1 c1, .slice a2 n2 c2] 26)).alloc (.cells #[.slice b1 m1 d1, .slice b2 m2 d2] 26) = U
  have B : Hid (Below w.heap.size w U) := (any9_world hW).1
  have I0 : Hid (IHolds U w.heap.size 26 [.slice a1 n1 c1, .slice a2 n2 c2]) := (any9_world hW).2.1
  have I1 : Hid (IHolds U (w.heap.size + 1) 26 [.slice b1 m1 d1, .slice b2 m2 d2]) := (any9_world hW).2.2
  go_enter Tryz.func3, Tryz.ntmps3
  have q0 : U.cell? ⟨w.heap.size, 0, none⟩ = some (.slice a1 n1 c1) := I0.out.cell 0 (by simp)
  have q1 : U.cell? ⟨w.heap.size, 1, none⟩ = some (.slice a2 n2 c2) := I0.out.cell 1 (by simp)
  have r0 : U.cell? ⟨w.heap.size + 1, 0, none⟩ = some (.slice b1 m1 d1) := I1.out.cell 0 (by simp)
  have r1 : U.cell? ⟨w.heap.size + 1, 1, none⟩ = some (.slice b2 m2 d2) := I1.out.cell 1 (by simp)
  go_wp2_with fail
  go_ret
  exact ⟨rfl, B.out⟩
set_option maxHeartbeats 2000000 in
theorem law_E {w : World} {z : Int} {sa a1 a2 b1 b2 : Option Addr} {n sc n1 c1 n2 c2 m1 d1 m2 d2 : Nat} (g1 : ((n : Int) == 0) = false) (g2 : ((n1 : Int) != (n : Int)) = false) (g3 : ((m1 : Int) != (n : Int)) = false) (g4 : ((n2 : Int) != (n : Int)) = false) (g5 : ((m2 : Int) != (n : Int)) = true) :
    Calls Tryz.prog 3 #[.int .i64 z, .slice sa n sc, .agg #[.slice a1 n1 c1, .slice a2 n2 c2], .agg #[.slice b1 m1 d1, .slice b2 m2 d2]] w fun e w' => e = .returned (.bool true) ∧ Below w.heap.size w w' := by
  generalize hW : (w.alloc (.cells #[.slice a1 n1 c1, .slice a2 n2 c2] 26)).alloc (.cells #[.slice b1 m1 d1, .slice b2 m2 d2] 26) = U
  have B : Hid (Below w.heap.size w U) := (any9_world hW).1
  have I0 : Hid (IHolds U w.heap.size 26 [.slice a1 n1 c1, .slice a2 n2 c2]) := (any9_world hW).2.1
  have I1 : Hid (IHolds U (w.heap.size + 1) 26 [.slice b1 m1 d1, .slice b2 m2 d2]) := (any9_world hW).2.2
  go_enter Tryz.func3, Tryz.ntmps3
  have q0 : U.cell? ⟨w.heap.size, 0, none⟩ = some (.slice a1 n1 c1) := I0.out.cell 0 (by simp)
  have q1 : U.cell? ⟨w.heap.size, 1, none⟩ = some (.slice a2 n2 c2) := I0.out.cell 1 (by simp)
  have r0 : U.cell? ⟨w.heap.size + 1, 0, none⟩ = some (.slice b1 m1 d1) := I1.out.cell 0 (by simp)
  have r1 : U.cell? ⟨w.heap.size + 1, 1, none⟩ = some (.slice b2 m2 d2) := I1.out.cell 1 (by simp)
  go_wp2_with fail
  go_ret
  exact ⟨rfl, B.out⟩
set_option maxHeartbeats 8000000 in
theorem law_main {w : World} {z : Int} {sa a1 a2 b1 b2 : Option Addr} {sc c1 c2 d1 d2 : Nat} {sets : List (List Cl)} {xs ys : List ByteArray} {ll mm : List (List ByteArray)} (hn : 0 < sets.length) (h63 : sets.length ≤ 8796093022207) (hx : xs.length = sets.length) (hy : ys.length = sets.length) (hl : ll.length = sets.length) (hm : mm.length = sets.length)
    (hs : CMM w sa sets) (s1 : SL w a1 xs) (s2 : SLL w a2 ll) (t1 : SL w b1 ys) (t2 : SLL w b2 mm) {ka kb : Nat → Int} {La Lb : Nat → List (List ByteArray)}
    (CA : ∀ i (h : i < sets.length) (h1 : i < xs.length) (h2 : i < ll.length) a c a' c' W, Below w.heap.size w W → CM W a sets[i] → SL W a' ll[i] → Calls Tryz.prog 4 #[.int .i64 z, .slice a (sets[i]).length c, .string xs[i], .slice a' (ll[i]).length c'] W fun e w' => (∃ a9 c9 n9, e = .returned (.tuple #[.slice a9 n9 c9, .int .i64 (ka i)]) ∧ (ka i = 0 → n9 = (sets[i]).length ∧ SLL w' a9 (La i))) ∧ Below W.heap.size W w')
    (CB : ∀ i (h : i < sets.length) (h1 : i < ys.length) (h2 : i < mm.length) a c a' c' W, Below w.heap.size w W → CM W a sets[i] → SL W a' mm[i] → Calls Tryz.prog 4 #[.int .i64 z, .slice a (sets[i]).length c, .string ys[i], .slice a' (mm[i]).length c'] W fun e w' => (∃ a9 c9 n9, e = .returned (.tuple #[.slice a9 n9 c9, .int .i64 (kb i)]) ∧ (kb i = 0 → n9 = (sets[i]).length ∧ SLL w' a9 (Lb i))) ∧ Below W.heap.size W w')
    (SM : ∀ i (h : i < sets.length), ka i = 0 → kb i = 0 → ∀ a c a' c' W, SLL W a (La i) → SLL W a' (Lb i) → Calls Tryz.prog 5 #[.slice a (sets[i]).length c, .slice a' (sets[i]).length c'] W fun e w' => e = .returned (.bool (decide (La i = Lb i))) ∧ Below W.heap.size W w')
    (EN : (∀ j, j < sets.length → ka j = 0 ∧ kb j = 0 ∧ La j = Lb j) → (xs = ys ∧ ∀ W, Below w.heap.size w W → Calls Tryz.prog 6 #[.int .i64 z, .agg #[.slice a1 sets.length c1, .slice a2 sets.length c2], .agg #[.slice b1 sets.length d1, .slice b2 sets.length d2]] W fun e w' => e = .returned (.tuple #[.int .i64 0, .slice none 0 0, .int .i64 9]) ∧ Below W.heap.size W w') ∨ (xs ≠ ys ∧ ∃ (j : Nat) (rs : List ByteArray) (hj : j < sets.length), (∀ W, Below w.heap.size w W → Calls Tryz.prog 6 #[.int .i64 z, .agg #[.slice a1 sets.length c1, .slice a2 sets.length c2], .agg #[.slice b1 sets.length d1, .slice b2 sets.length d2]] W fun e w' => (∃ a' c', e = .returned (.tuple #[.int .i64 (j : Int), .slice a' rs.length c', .int .i64 0]) ∧ SL w' a' rs) ∧ Below W.heap.size W w') ∧ ∀ W a c a' c', Below w.heap.size w W → CM W a sets[j] → SL W a' rs → Calls Tryz.prog 8 #[.int .i64 z, .slice a (sets[j]).length c, .slice a' rs.length c'] W fun e w' => e = .returned (.bool true) ∧ Below W.heap.size W w')) :
    Calls Tryz.prog 3 #[.int .i64 z, .slice sa sets.length sc, .agg #[.slice a1 sets.length c1, .slice a2 sets.length c2], .agg #[.slice b1 sets.length d1, .slice b2 sets.length d2]] w fun e w' => e = .returned (.bool true) ∧ Below w.heap.size w w' := by
  have HS : Hid (CMM w sa sets) := hs
  have H1 : Hid (SL w a1 xs) := s1
  have H2 : Hid (SLL w a2 ll) := s2
  have H3 : Hid (SL w b1 ys) := t1
  have H4 : Hid (SLL w b2 mm) := t2
  have HA : Hid _ := CA
  have HB : Hid _ := CB
  have HM : Hid _ := SM
  have HEN : Hid _ := EN
  have E1 : Hid (xs.length = sets.length) := hx
  have E2 : Hid (ys.length = sets.length) := hy
  have E3 : Hid (ll.length = sets.length) := hl
  have E4 : Hid (mm.length = sets.length) := hm
  have g1 : ((sets.length : Int) == 0) = false := beq_eq_false_iff_ne.2 (by omega)
  have g2 : ((sets.length : Int) != (sets.length : Int)) = false := by simp
  clear hs s1 s2 t1 t2 CA CB SM EN hx hy hl hm
  generalize hW : (w.alloc (.cells #[.slice a1 sets.length c1, .slice a2 sets.length c2] 26)).alloc (.cells #[.slice b1 sets.length d1, .slice b2 sets.length d2] 26) = U
  have BU : Hid (Below w.heap.size w U) := (any9_world hW).1
  have I0 : Hid (IHolds U w.heap.size 26 [.slice a1 sets.length c1, .slice a2 sets.length c2]) := (any9_world hW).2.1
  have I1 : Hid (IHolds U (w.heap.size + 1) 26 [.slice b1 sets.length d1, .slice b2 sets.length d2]) := (any9_world hW).2.2
  have hU : Hid (w.heap.size + 2 ≤ U.heap.size) := by show _ ≤ _; rw [← hW]; simp
  go_enter Tryz.func3, Tryz.ntmps3
  have q0 : U.cell? ⟨w.heap.size, 0, none⟩ = some (.slice a1 sets.length c1) := I0.out.cell 0 (by simp)
  have q1 : U.cell? ⟨w.heap.size, 1, none⟩ = some (.slice a2 sets.length c2) := I0.out.cell 1 (by simp)
  have r0 : U.cell? ⟨w.heap.size + 1, 0, none⟩ = some (.slice b1 sets.length d1) := I1.out.cell 0 (by simp)
  have r1 : U.cell? ⟨w.heap.size + 1, 1, none⟩ = some (.slice b2 sets.length d2) := I1.out.cell 1 (by simp)
  go_wp2_with fail
  clear q0 q1 r0 r1
  go_loopg [9, 10, 11, 12, 13, 14, 55] sets.length (fun gk v9 v10 v11 v12 v13 v14 v55 wr => ∃ i : Nat, i + gk = sets.length ∧ v55 = .int .i64 (i : Int) ∧ Below U.heap.size U wr ∧ ∀ j, j < i → ka j = 0 ∧ kb j = 0 ∧ La j = Lb j)
  case atStart => exact ⟨0, by omega, rfl, Below.refl _ _, fun j h => absurd h (by omega)⟩
  case round =>
    obtain ⟨i, hig, rfl, hB, hn⟩ := hrel
    have BW : Hid (Below U.heap.size U wr) := hB
    have B : Hid (Below w.heap.size w wr) := BU.out.trans (hB.mono BU.out.size)
    have HN : Hid (∀ j, j < i → ka j = 0 ∧ kb j = 0 ∧ La j = Lb j) := hn
    clear hB hn
    by_cases hi : i < sets.length
    · have il : (i : Int) < (sets.length : Int) := by omega
      have i1 : i < xs.length := by have := E1.out; omega
      have i2 : i < ys.length := by have := E2.out; omega
      have i3 : i < ll.length := by have := E3.out; omega
      have i4 : i < mm.length := by have := E4.out; omega
      obtain ⟨bs, os, sA, cs, rfl, hc0, hcm⟩ := HS.out.of_below B.out i hi
      obtain ⟨bx, ox, rfl, hc1⟩ := H1.out.of_below B.out i i1
      obtain ⟨bl, ol, al, cl, rfl, hc2, hl2⟩ := H2.out.of_below B.out i i3
      obtain ⟨yb, oy, rfl, hc3⟩ := H3.out.of_below B.out i i2
      obtain ⟨bm, om, am, cm, rfl, hc4, hl4⟩ := H4.out.of_below B.out i i4
      have HCA : Hid (∀ W, Below wr.heap.size wr W → Calls Tryz.prog 4 #[.int .i64 z, .slice sA (sets[i]).length cs, .string xs[i], .slice al (ll[i]).length cl] W fun e w' => (∃ a9 c9 n9, e = .returned (.tuple #[.slice a9 n9 c9, .int .i64 (ka i)]) ∧ (ka i = 0 → n9 = (sets[i]).length ∧ SLL w' a9 (La i))) ∧ Below W.heap.size W w') := fun W hW => HA.out i hi i1 i3 sA cs al cl W (B.out.trans (hW.mono B.out.size)) (hcm.of_below hW) (hl2.of_below hW)
      have HCB0 : Hid (∀ W, Below wr.heap.size wr W → Calls Tryz.prog 4 #[.int .i64 z, .slice sA (sets[i]).length cs, .string ys[i], .slice am (mm[i]).length cm] W fun e w' => (∃ a9 c9 n9, e = .returned (.tuple #[.slice a9 n9 c9, .int .i64 (kb i)]) ∧ (kb i = 0 → n9 = (sets[i]).length ∧ SLL w' a9 (Lb i))) ∧ Below W.heap.size W w') := fun W hW => HB.out i hi i2 i4 sA cs am cm W (B.out.trans (hW.mono B.out.size)) (hcm.of_below hW) (hl4.of_below hW)
      have HCS : Hid (ka i = 0 → kb i = 0 → ∀ a c a' c' W, SLL W a (La i) → SLL W a' (Lb i) → Calls Tryz.prog 5 #[.slice a (sets[i]).length c, .slice a' (sets[i]).length c'] W fun e w' => e = .returned (.bool (decide (La i = Lb i))) ∧ Below W.heap.size W w') := HM.out i hi
      clear HM
      have k1 : Hid (wr.cell? ⟨w.heap.size, 0, none⟩ = some (.slice (some ⟨bx, ox, none⟩) sets.length c1)) := cell_keep (I0.out.cell 0 (by simp)) BW.out
      have k2 : Hid (wr.cell? ⟨w.heap.size, 1, none⟩ = some (.slice (some ⟨bl, ol, none⟩) sets.length c2)) := cell_keep (I0.out.cell 1 (by simp)) BW.out
      have l1 : Hid (wr.cell? ⟨w.heap.size + 1, 0, none⟩ = some (.slice (some ⟨yb, oy, none⟩) sets.length d1)) := cell_keep (I1.out.cell 0 (by simp)) BW.out
      have l2 : Hid (wr.cell? ⟨w.heap.size + 1, 1, none⟩ = some (.slice (some ⟨bm, om, none⟩) sets.length d2)) := cell_keep (I1.out.cell 1 (by simp)) BW.out
      have k3 : Hid _ := hc1
      have k4 : Hid _ := hc2
      have l3 : Hid _ := hc3
      have l4 : Hid _ := hc4
      clear hc1 hc2 hc3 hc4 hcm hl2 hl4 HA HB HS H1 H2 H3 H4
      generalize xs[i] = X at *
      generalize ys[i] = Y at *
      generalize (ll[i]).length = nl at *
      generalize (mm[i]).length = nm at *
      generalize (sets[i]).length = ns at *
      generalize hka : ka i = p at *
      generalize hkb : kb i = q at *
      have KA : Hid (ka i = p) := hka
      have KB : Hid (kb i = q) := hkb
      clear hka hkb
      go_wp2_with fail
      refine wp_region_held_drew (S := fun W => W.cell? ⟨w.heap.size, 0, none⟩ = some (.slice (some ⟨bx, ox, none⟩) sets.length c1) ∧ W.cell? ⟨w.heap.size, 1, none⟩ = some (.slice (some ⟨bl, ol, none⟩) sets.length c2) ∧ W.cell? ⟨bx, ox + i, none⟩ = some (.string X) ∧ W.cell? ⟨bl, ol + i, none⟩ = some (.slice al nl cl)) (by kernel_rfl) ⟨k1.out, k2.out, k3.out, k4.out⟩ (fun hHeld => ?_)
      refine tk (i := 0) (v := .int .i64 z) rfl (by kernel_rfl) (fun _ _ _ h => h) rfl ?_ hHeld ?_
      · intro W hS; clear hS; go_simp
      simp only [Act.put, y1, y2, y3, y4, y5, y6, y7]
      refine tk (i := 1) (v := .slice sA ns cs) rfl (by kernel_rfl) (fun _ _ _ h => h) rfl ?_ hHeld ?_
      · intro W hS; clear hS; go_simp
      simp only [Act.put, y1, y2, y3, y4, y5, y6, y7]
      refine tk (i := 2) (v := .pointer (some ⟨w.heap.size, 0, none⟩)) rfl (by kernel_rfl) (fun _ _ _ h => h) rfl ?_ hHeld ?_
      · intro W hS; clear hS; go_simp
      simp only [Act.put, y1, y2, y3, y4, y5, y6, y7]
      refine tk (i := 3) (v := .slice (some ⟨bx, ox, none⟩) sets.length c1) rfl (by kernel_rfl) (fun _ _ _ h => h) rfl ?_ hHeld ?_
      · intro W hS; have x5 := hS.1; clear hS; go_simp
      simp only [Act.put, y1, y2, y3, y4, y5, y6, y7]
      refine tk (i := 4) (v := .int .i64 (i : Int)) rfl (by kernel_rfl) (fun _ _ _ h => h) rfl ?_ hHeld ?_
      · intro W hS; clear hS; go_simp
      simp only [Act.put, y1, y2, y3, y4, y5, y6, y7]
      refine tk (i := 5) (v := .pointer (some ⟨bx, ox + i, none⟩)) rfl (by kernel_rfl) (fun _ _ _ h => h) rfl ?_ hHeld ?_
      · intro W hS; clear hS; go_simp
      simp only [Act.put, y1, y2, y3, y4, y5, y6, y7]
      refine tk (i := 6) (v := .string X) rfl (by kernel_rfl) (fun _ _ _ h => h) rfl ?_ hHeld ?_
      · intro W hS; have x5 := hS.2.2.1; clear hS; go_simp
      simp only [Act.put, y1, y2, y3, y4, y5, y6, y7]
      refine tk (i := 7) (v := .pointer (some ⟨w.heap.size, 1, none⟩)) rfl (by kernel_rfl) (fun _ _ _ h => h) rfl ?_ hHeld ?_
      · intro W hS; clear hS; go_simp
      simp only [Act.put, y1, y2, y3, y4, y5, y6, y7]
      refine tk (i := 8) (v := .slice (some ⟨bl, ol, none⟩) sets.length c2) rfl (by kernel_rfl) (fun _ _ _ h => h) rfl ?_ hHeld ?_
      · intro W hS; have x5 := hS.2.1; clear hS; go_simp
      simp only [Act.put, y1, y2, y3, y4, y5, y6, y7]
      refine tk (i := 9) (v := .int .i64 (i : Int)) rfl (by kernel_rfl) (fun _ _ _ h => h) rfl ?_ hHeld ?_
      · intro W hS; clear hS; go_simp
      simp only [Act.put, y1, y2, y3, y4, y5, y6, y7]
      refine tk (i := 10) (v := .pointer (some ⟨bl, ol + i, none⟩)) rfl (by kernel_rfl) (fun _ _ _ h => h) rfl ?_ hHeld ?_
      · intro W hS; clear hS; go_simp
      simp only [Act.put, y1, y2, y3, y4, y5, y6, y7]
      refine tk (i := 11) (v := .slice al nl cl) rfl (by kernel_rfl) (fun _ _ _ h => h) rfl ?_ hHeld ?_
      · intro W hS; have x5 := hS.2.2.2; clear hS; go_simp
      simp only [Act.put, y1, y2, y3, y4, y5, y6, y7]
      refine wpAnyH_ready (rs := [12]) (by kernel_rfl) (by simp) ?_
      refine AllReadyH.cons rfl (fun K hK => ?_) AllReadyH.nil
      go_simp
      refine (HCA.out _ (dB wr)).mono ?_
      rintro e u1 ⟨⟨a9u1, c9u1, n9u1, rfl, hpu1⟩, hBu1⟩
      have Pu1 : Hid _ := hpu1
      have Bu1 : Hid (Below w.heap.size w u1) := B.out.drew.trans (hBu1.mono B.out.size)
      have Du1 : Hid (Below wr.heap.size wr u1) := (dB wr).trans (hBu1.mono (dB wr).size)
      have k1u1 : Hid _ := cell_keep k1.out Du1.out
      have k2u1 : Hid _ := cell_keep k2.out Du1.out
      have k3u1 : Hid _ := cell_keep k3.out Du1.out
      have k4u1 : Hid _ := cell_keep k4.out Du1.out
      clear hBu1 hpu1 HCA
      go_wp2_with fail
      refine hK.out _ _ ⟨k1u1.out, k2u1.out, k3u1.out, k4u1.out⟩ (fun hHeld2 => ?_)
      clear hK K hHeld
      try simp only [Act.put, y1, y2, y3, y4, y5, y6, y7]
      refine tk (i := 13) (v := .tuple #[.slice a9u1 n9u1 c9u1, .int .i64 p]) rfl (by kernel_rfl) (fun _ _ _ h => h) rfl ?_ hHeld2 ?_
      · intro W hS; clear hS; go_simp
      simp only [Act.put, y1, y2, y3, y4, y5, y6, y7]
      refine tk (i := 14) (v := .slice a9u1 n9u1 c9u1) rfl (by kernel_rfl) (fun _ _ _ h => h) rfl ?_ hHeld2 ?_
      · intro W hS; clear hS; go_simp
      simp only [Act.put, y1, y2, y3, y4, y5, y6, y7]
      refine tk (i := 15) (v := .int .i64 p) rfl (by kernel_rfl) (fun _ _ _ h => h) rfl ?_ hHeld2 ?_
      · intro W hS; clear hS; go_simp
      simp only [Act.put, y1, y2, y3, y4, y5, y6, y7]
      refine tk (i := 16) (v := .slice a9u1 n9u1 c9u1) rfl (by kernel_rfl) (fun _ _ _ h => h) rfl ?_ hHeld2 ?_
      · intro W hS; clear hS; go_simp
      simp only [Act.put, y1, y2, y3, y4, y5, y6, y7]
      refine tk (i := 17) (v := .int .i64 p) rfl (by kernel_rfl) (fun _ _ _ h => h) rfl ?_ hHeld2 ?_
      · intro W hS; clear hS; go_simp
      simp only [Act.put, y1, y2, y3, y4, y5, y6, y7]
      refine wpAnyH_done (by kernel_rfl) ?_ _
      clear hHeld2
      go_wp2_with fail
      have HCB : Hid (∀ W, Below u1.heap.size u1 W → Calls Tryz.prog 4 #[.int .i64 z, .slice sA ns cs, .string Y, .slice am nm cm] W fun e w' => (∃ a9 c9 n9, e = .returned (.tuple #[.slice a9 n9 c9, .int .i64 q]) ∧ (q = 0 → n9 = ns ∧ SLL w' a9 (Lb i))) ∧ Below W.heap.size W w') := fun W hW => HCB0.out W (Du1.out.trans (hW.mono Du1.out.size))
      have j1 : Hid _ := cell_keep l1.out Du1.out
      have j2 : Hid _ := cell_keep l2.out Du1.out
      have j3 : Hid _ := cell_keep l3.out Du1.out
      have j4 : Hid _ := cell_keep l4.out Du1.out
      clear HCB0 l1 l2 l3 l4 k1 k2 k3 k4
      refine wp_region_held_drew (S := fun W => W.cell? ⟨(w.heap.size + 1), 0, none⟩ = some (.slice (some ⟨yb, oy, none⟩) sets.length d1) ∧ W.cell? ⟨(w.heap.size + 1), 1, none⟩ = some (.slice (some ⟨bm, om, none⟩) sets.length d2) ∧ W.cell? ⟨yb, oy + i, none⟩ = some (.string Y) ∧ W.cell? ⟨bm, om + i, none⟩ = some (.slice am nm cm)) (by kernel_rfl) ⟨j1.out, j2.out, j3.out, j4.out⟩ (fun hHeld3 => ?_)
      refine tk (i := 0) (v := .int .i64 z) rfl (by kernel_rfl) (fun _ _ _ h => h) rfl ?_ hHeld3 ?_
      · intro W hS; clear hS; go_simp
      simp only [Act.put, y1, y2, y3, y4, y5, y6, y7]
      refine tk (i := 1) (v := .slice sA ns cs) rfl (by kernel_rfl) (fun _ _ _ h => h) rfl ?_ hHeld3 ?_
      · intro W hS; clear hS; go_simp
      simp only [Act.put, y1, y2, y3, y4, y5, y6, y7]
      refine tk (i := 2) (v := .pointer (some ⟨(w.heap.size + 1), 0, none⟩)) rfl (by kernel_rfl) (fun _ _ _ h => h) rfl ?_ hHeld3 ?_
      · intro W hS; clear hS; go_simp
      simp only [Act.put, y1, y2, y3, y4, y5, y6, y7]
      refine tk (i := 3) (v := .slice (some ⟨yb, oy, none⟩) sets.length d1) rfl (by kernel_rfl) (fun _ _ _ h => h) rfl ?_ hHeld3 ?_
      · intro W hS; have x5 := hS.1; clear hS; go_simp
      simp only [Act.put, y1, y2, y3, y4, y5, y6, y7]
      refine tk (i := 4) (v := .int .i64 (i : Int)) rfl (by kernel_rfl) (fun _ _ _ h => h) rfl ?_ hHeld3 ?_
      · intro W hS; clear hS; go_simp
      simp only [Act.put, y1, y2, y3, y4, y5, y6, y7]
      refine tk (i := 5) (v := .pointer (some ⟨yb, oy + i, none⟩)) rfl (by kernel_rfl) (fun _ _ _ h => h) rfl ?_ hHeld3 ?_
      · intro W hS; clear hS; go_simp
      simp only [Act.put, y1, y2, y3, y4, y5, y6, y7]
      refine tk (i := 6) (v := .string Y) rfl (by kernel_rfl) (fun _ _ _ h => h) rfl ?_ hHeld3 ?_
      · intro W hS; have x5 := hS.2.2.1; clear hS; go_simp
      simp only [Act.put, y1, y2, y3, y4, y5, y6, y7]
      refine tk (i := 7) (v := .pointer (some ⟨(w.heap.size + 1), 1, none⟩)) rfl (by kernel_rfl) (fun _ _ _ h => h) rfl ?_ hHeld3 ?_
      · intro W hS; clear hS; go_simp
      simp only [Act.put, y1, y2, y3, y4, y5, y6, y7]
      refine tk (i := 8) (v := .slice (some ⟨bm, om, none⟩) sets.length d2) rfl (by kernel_rfl) (fun _ _ _ h => h) rfl ?_ hHeld3 ?_
      · intro W hS; have x5 := hS.2.1; clear hS; go_simp
      simp only [Act.put, y1, y2, y3, y4, y5, y6, y7]
      refine tk (i := 9) (v := .int .i64 (i : Int)) rfl (by kernel_rfl) (fun _ _ _ h => h) rfl ?_ hHeld3 ?_
      · intro W hS; clear hS; go_simp
      simp only [Act.put, y1, y2, y3, y4, y5, y6, y7]
      refine tk (i := 10) (v := .pointer (some ⟨bm, om + i, none⟩)) rfl (by kernel_rfl) (fun _ _ _ h => h) rfl ?_ hHeld3 ?_
      · intro W hS; clear hS; go_simp
      simp only [Act.put, y1, y2, y3, y4, y5, y6, y7]
      refine tk (i := 11) (v := .slice am nm cm) rfl (by kernel_rfl) (fun _ _ _ h => h) rfl ?_ hHeld3 ?_
      · intro W hS; have x5 := hS.2.2.2; clear hS; go_simp
      simp only [Act.put, y1, y2, y3, y4, y5, y6, y7]
      refine wpAnyH_ready (rs := [12]) (by kernel_rfl) (by simp) ?_
      refine AllReadyH.cons rfl (fun K hK => ?_) AllReadyH.nil
      go_simp
      refine (HCB.out _ (dB u1)).mono ?_
      rintro e u2 ⟨⟨a9u2, c9u2, n9u2, rfl, hpu2⟩, hBu2⟩
      have Pu2 : Hid _ := hpu2
      have Bu2 : Hid (Below w.heap.size w u2) := Bu1.out.drew.trans (hBu2.mono Bu1.out.size)
      have Du2 : Hid (Below u1.heap.size u1 u2) := (dB u1).trans (hBu2.mono (dB u1).size)
      have k1u2 : Hid _ := cell_keep j1.out Du2.out
      have k2u2 : Hid _ := cell_keep j2.out Du2.out
      have k3u2 : Hid _ := cell_keep j3.out Du2.out
      have k4u2 : Hid _ := cell_keep j4.out Du2.out
      clear hBu2 hpu2 HCB
      go_wp2_with fail
      refine hK.out _ _ ⟨k1u2.out, k2u2.out, k3u2.out, k4u2.out⟩ (fun hHeld4 => ?_)
      clear hK K hHeld3
      try simp only [Act.put, y1, y2, y3, y4, y5, y6, y7]
      refine tk (i := 13) (v := .tuple #[.slice a9u2 n9u2 c9u2, .int .i64 q]) rfl (by kernel_rfl) (fun _ _ _ h => h) rfl ?_ hHeld4 ?_
      · intro W hS; clear hS; go_simp
      simp only [Act.put, y1, y2, y3, y4, y5, y6, y7]
      refine tk (i := 14) (v := .slice a9u2 n9u2 c9u2) rfl (by kernel_rfl) (fun _ _ _ h => h) rfl ?_ hHeld4 ?_
      · intro W hS; clear hS; go_simp
      simp only [Act.put, y1, y2, y3, y4, y5, y6, y7]
      refine tk (i := 15) (v := .int .i64 q) rfl (by kernel_rfl) (fun _ _ _ h => h) rfl ?_ hHeld4 ?_
      · intro W hS; clear hS; go_simp
      simp only [Act.put, y1, y2, y3, y4, y5, y6, y7]
      refine tk (i := 16) (v := .slice a9u2 n9u2 c9u2) rfl (by kernel_rfl) (fun _ _ _ h => h) rfl ?_ hHeld4 ?_
      · intro W hS; clear hS; go_simp
      simp only [Act.put, y1, y2, y3, y4, y5, y6, y7]
      refine tk (i := 17) (v := .int .i64 q) rfl (by kernel_rfl) (fun _ _ _ h => h) rfl ?_ hHeld4 ?_
      · intro W hS; clear hS; go_simp
      simp only [Act.put, y1, y2, y3, y4, y5, y6, y7]
      refine wpAnyH_done (by kernel_rfl) ?_ _
      clear hHeld4
      clear k1u1 k2u1 k3u1 k4u1 k1u2 k2u2 k3u2 k4u2 j1 j2 j3 j4
      by_cases hp : p = 0
      · by_cases hq : q = 0
        · have ep := Pu1.out hp
          have eq := Pu2.out hq
          obtain ⟨e1, S1⟩ := ep
          obtain ⟨e2, S2⟩ := eq
          have T1 : Hid (SLL u2 a9u1 (La i)) := S1.of_below Du2.out
          have T2 : Hid (SLL u2 a9u2 (Lb i)) := S2
          have hc5 : Hid (Calls Tryz.prog 5 #[.slice a9u1 ns c9u1, .slice a9u2 ns c9u2] u2 fun e w' => e = .returned (.bool (decide (La i = Lb i))) ∧ Below u2.heap.size u2 w') := HCS.out hp hq a9u1 c9u1 a9u2 c9u2 u2 T1.out T2.out
          have NW : Hid (La i = Lb i → ∀ j, j < i + 1 → ka j = 0 ∧ kb j = 0 ∧ La j = Lb j) := fun hE j hj => by
            by_cases hji : j < i
            · exact HN.out j hji
            · have : j = i := by omega
              subst this
              exact ⟨KA.out.trans hp, KB.out.trans hq, hE⟩
          clear S1 S2 T1 T2 HCS Pu1 Pu2 KA KB HN
          subst hp hq e1 e2
          by_cases hE : La i = Lb i
          · have NW2 : Hid _ := NW.out hE
            rw [decide_eq_true hE] at hc5
            clear NW hE
            generalize La i = LA at *
            generalize Lb i = LB at *
            go_wp2_with (go_at_call 5; refine hc5.out.mono ?_; rintro e w5 ⟨rfl, hB5⟩)
            go_roundg (gk - 1)
            case measure => omega
            case rel => exact ⟨i + 1, by omega, by go_num, (BW.out.trans ((Du1.out.trans ((Du2.out.trans (hB5.mono Du2.out.size)).mono Du1.out.size)).mono BW.out.size)), NW2.out⟩
          · rw [decide_eq_false hE] at hc5
            clear NW hE
            have gq : ((n9u2 : Int) == (n9u2 : Int)) = true := by simp
            go_wp2_with (go_at_call 5; refine hc5.out.mono ?_; rintro e w5 ⟨rfl, hB5⟩)
            go_ret
            exact ⟨rfl, Bu2.out.trans (hB5.mono Bu2.out.size)⟩
        · have g3 : (q != 0) = true := bne_iff_ne.2 hq
          clear hq HCS Pu1 Pu2 KA KB HN
          subst hp
          go_wp2_with fail
          go_ret
          exact ⟨rfl, Bu2.out⟩
      · have g3 : (p != 0) = true := bne_iff_ne.2 hp
        clear hp HCS Pu1 Pu2 KA KB HN
        go_wp2_with fail
        go_ret
        exact ⟨rfl, Bu2.out⟩
    · have il : ¬ (i : Int) < (sets.length : Int) := by omega
      have hall := HEN.out (fun j hj => HN.out j (by omega))
      have hc7 : Hid (∀ W, Below w.heap.size w W → Calls Tryz.prog 7 #[.slice a1 sets.length c1, .slice b1 sets.length d1] W fun e w' => e = .returned (.bool (decide (xs = ys))) ∧ Below W.heap.size W w') := fun W hW => by
        have q := same8 (w := W) (c := c1) (d := d1) (l := xs) (m := ys) (by have := E1.out; omega) (H1.out.of_below hW) (H3.out.of_below hW)
        rw [E1.out, E2.out] at q
        exact q
      have k1 : wr.cell? ⟨w.heap.size, 0, none⟩ = some (.slice a1 sets.length c1) := cell_keep (I0.out.cell 0 (by simp)) BW.out
      have k2 : wr.cell? ⟨w.heap.size, 1, none⟩ = some (.slice a2 sets.length c2) := cell_keep (I0.out.cell 1 (by simp)) BW.out
      have l1 : wr.cell? ⟨w.heap.size + 1, 0, none⟩ = some (.slice b1 sets.length d1) := cell_keep (I1.out.cell 0 (by simp)) BW.out
      have l2 : wr.cell? ⟨w.heap.size + 1, 1, none⟩ = some (.slice b2 sets.length d2) := cell_keep (I1.out.cell 1 (by simp)) BW.out
      rcases hall with ⟨hE, h6⟩ | ⟨hE, j, rs, hj, h6, h8⟩
      · rw [decide_eq_true hE] at hc7
        have H6 : Hid _ := h6
        clear hE h6 HEN HN HA HB HM HS H1 H2 H3 H4
        go_wp2_with (first
          | (go_at_call 6; refine (H6.out _ B.out).mono ?_; rintro e w6 ⟨rfl, hB6⟩; have B6 : Hid (Below w.heap.size w w6) := B.out.trans (hB6.mono B.out.size); have m1 := cell_keep k1 hB6; have m2 := cell_keep l1 hB6; clear hB6 H6 k1 k2 l1 l2)
          | (go_at_call 7; refine (hc7.out _ B6.out).mono ?_; rintro e w7 ⟨rfl, hB7⟩; have B7 : Hid (Below w.heap.size w w7) := B6.out.trans (hB7.mono B6.out.size); clear hB7 hc7))
        go_ret
        exact ⟨rfl, B7.out⟩
      · rw [decide_eq_false hE] at hc7
        have H6 : Hid _ := h6
        have H8 : Hid _ := h8
        obtain ⟨bs, os, sA, cs, rfl, hc0, hcm⟩ := HS.out j hj
        have jl : (j : Int) < (sets.length : Int) := by omega
        have C0 : Hid _ := hc0
        have CMj : Hid (CM w sA sets[j]) := hcm
        clear hE h6 h8 HEN HN HA HB HM HS H1 H2 H3 H4 hc0 hcm
        go_wp2_with (first
          | (go_at_call 6; refine (H6.out _ B.out).mono ?_; rintro e w6 ⟨⟨a', c', rfl, hs6⟩, hB6⟩; have B6 : Hid (Below w.heap.size w w6) := B.out.trans (hB6.mono B.out.size); have m1 := cell_keep k1 hB6; have m2 := cell_keep l1 hB6; have S6 : Hid (SL w6 a' rs) := hs6; clear hB6 hs6 H6 k1 k2 l1 l2)
          | (go_at_call 7; refine (hc7.out _ B6.out).mono ?_; rintro e w7 ⟨rfl, hB7⟩; have B7 : Hid (Below w.heap.size w w7) := B6.out.trans (hB7.mono B6.out.size); have S7 : Hid (SL w7 a' rs) := S6.out.of_below hB7; have c7 := cell_keep C0.out B7.out; clear hB7 hc7 S6)
          | (go_at_call 8; refine (H8.out _ _ _ _ _ B7.out (CMj.out.of_below B7.out) S7.out).mono ?_; rintro e w8 ⟨rfl, hB8⟩; have B8 : Hid (Below w.heap.size w w8) := B7.out.trans (hB8.mono B7.out.size); clear hB8))
        go_ret
        exact ⟨rfl, B8.out⟩
end Go.Proofs.YtokkjdelomkfiaaGreat
