/- The walk of sureSteps: Euclid's way as far as the first digits tell it. -/
import Derived.Test.YtflabehlaiocaaaDoorBaseC
import Derived.Deep.RegionHeld3
set_option linter.unusedSimpArgs false
set_option linter.unusedVariables false
namespace Go.Proofs.YtflabehlaiocaaaDoor
open Go.RowKit Go.Deep

theorem sI_abs (sg : Bool) (z : Nat) : absI (sI sg z) = (z : Int) ∧ absI (-(sI sg z)) = (z : Int) := by
  cases sg <;> simp only [sI, absI, Bool.false_eq_true, if_false, if_true] <;> constructor <;> split <;> omega
theorem sI_bd (sg : Bool) (z k : Nat) (h : z ≤ k) : -(k : Int) ≤ sI sg z ∧ sI sg z ≤ (k : Int) := by
  cases sg <;> simp only [sI, Bool.false_eq_true, if_false, if_true] <;> omega
/-- What the walk takes of a pair of rows and the next one. -/
structure Nxt (q r l ly ny : Nat) (h X Y U V N1 N2 : Int) : Prop where
  b1 : -1000000000000000000 ≤ (q : Int) * (l : Int) ∧ (q : Int) * (l : Int) ≤ 1000000000000000000
  b2 : -1000000000000000000 ≤ (q : Int) * U ∧ (q : Int) * U ≤ 1000000000000000000
  b3 : -1000000000000000000 ≤ (q : Int) * V ∧ (q : Int) * V ≤ 1000000000000000000
  e0 : h - (q : Int) * (l : Int) = (r : Int)
  e1 : X - (q : Int) * U = N1
  e2 : Y - (q : Int) * V = N2
  n1 : -1000000000000000000 ≤ N1 ∧ N1 ≤ 1000000000000000000
  n2 : -1000000000000000000 ≤ N2 ∧ N2 ≤ 1000000000000000000
  s : sureB (r : Int) N2 (l : Int) V = (decide (ny ≤ r) && decide (ly + ny + r ≤ l))
theorem Leh.nxt {n o a b : Nat} {sg : Bool} {hx hy lx ly h l rh rl : Nat} (H : Leh n o a b sg hx hy lx ly h l rh rl) (ha : a < 1000000000000000000) (hl : 0 < l) :
    Nxt (h / l) (h % l) l ly (hy + h / l * ly) (h : Int) (sI sg hx) (-(sI sg hy)) (-(sI sg lx)) (sI sg ly) (sI sg (hx + h / l * lx)) (-(sI sg (hy + h / l * ly))) := by
  have hdm : h = l * (h / l) + h % l := (Nat.div_add_mod h l).symm
  have hq1 : 1 ≤ h / l := (Nat.one_le_div_iff hl).2 H.ord
  have hny := H.ny_lt (h / l) (h % l) hdm hl
  have hnx := H.nx_le (h / l) hq1
  have hb := H.hb
  generalize h / l = q at *
  generalize h % l = r at *
  obtain ⟨nx, hnxe⟩ : ∃ nx, nx = hx + q * lx := ⟨_, rfl⟩
  obtain ⟨ny, hnye⟩ : ∃ ny, ny = hy + q * ly := ⟨_, rfl⟩
  have e1 : sI sg nx = sI sg hx + (q : Int) * sI sg lx := by rw [hnxe, sI_add, sI_mul]
  have e2 : sI sg ny = sI sg hy + (q : Int) * sI sg ly := by rw [hnye, sI_add, sI_mul]
  have f1 := sI_bd sg (q * lx) 1000000000000000000 (by omega)
  have f2 := sI_bd sg (q * ly) 1000000000000000000 (by omega)
  rw [sI_mul] at f1 f2
  rw [← hnxe, ← hnye]
  have g1 := sI_bd sg nx 1000000000000000000 (by omega)
  have g2 := sI_bd sg ny 1000000000000000000 (by omega)
  have hql : ((q : Int) * (l : Int)) = ((l * q : Nat) : Int) := by push_cast; grind
  refine ⟨by rw [hql]; omega, by rw [Int.mul_neg]; omega, by omega, by rw [hql]; omega, by rw [e1]; grind, by rw [e2]; grind, by omega, by omega, ?_⟩
  have a1 := (sI_abs sg ny).2
  have a2 : absI (sI sg ly - -(sI sg ny)) = ((ly + ny : Nat) : Int) := by
    rw [Int.sub_neg, ← sI_add]; exact (sI_abs sg (ly + ny)).1
  unfold sureB
  rw [a1, a2, Bool.eq_iff_iff]
  simp only [Bool.and_eq_true, decide_eq_true_eq]
  omega

/-- A row's cells. -/
def rc (h x y : Int) : List Value := [.int .i64 h, .int .i64 x, .int .i64 y]
theorem IHolds.rc0 {w : World} {b : Nat} {t : TypeId} {h x y : Int} (H : IHolds w b t (rc h x y)) : w.cell? ⟨b, 0, none⟩ = some (.int .i64 h) := H.cell 0 (by simp [rc])
theorem IHolds.rc1 {w : World} {b : Nat} {t : TypeId} {h x y : Int} (H : IHolds w b t (rc h x y)) : w.cell? ⟨b, 1, none⟩ = some (.int .i64 x) := H.cell 1 (by simp [rc])
theorem IHolds.rc2 {w : World} {b : Nat} {t : TypeId} {h x y : Int} (H : IHolds w b t (rc h x y)) : w.cell? ⟨b, 2, none⟩ = some (.int .i64 y) := H.cell 2 (by simp [rc])
theorem IHolds.rcset {w : World} {b : Nat} {t : TypeId} {h x y : Int} (H : IHolds w b t (rc h x y)) (h' x' y' : Int) : IHolds (((w.setCell ⟨b, 0, none⟩ (.int .i64 h')).setCell ⟨b, 1, none⟩ (.int .i64 x')).setCell ⟨b, 2, none⟩ (.int .i64 y')) b t (rc h' x' y') := by
  have := ((H.set 0 (.int .i64 h')).set 1 (.int .i64 x')).set 2 (.int .i64 y')
  simpa [rc] using this

theorem IHolds.rcOther {w : World} {b g : Nat} {t : TypeId} {L : List Value} (H : IHolds w b t L) (ne : b ≠ g) (x y z : Value) : IHolds (((w.setCell ⟨g, 0, none⟩ x).setCell ⟨g, 1, none⟩ y).setCell ⟨g, 2, none⟩ z) b t L := by
  have b1 : But g w (w.setCell ⟨g, 0, none⟩ x) := (But.refl g w).setCell 0 x
  have b2 : But g w ((w.setCell ⟨g, 0, none⟩ x).setCell ⟨g, 1, none⟩ y) := b1.setCell 1 y
  have b3 : But g w (((w.setCell ⟨g, 0, none⟩ x).setCell ⟨g, 1, none⟩ y).setCell ⟨g, 2, none⟩ z) := b2.setCell 2 z
  exact H.of_but b3 ne
theorem IHolds.drew {w : World} {b : Nat} {t : TypeId} {L : List Value} (H : IHolds w b t L) : IHolds w.drew b t L := H
theorem two_rows {w wf : World} {g : Nat} {t : TypeId} {h x y l u v : Int} (K1 : IHolds wf g t (rc h x y)) (K2 : IHolds wf (g + 1) t (rc l u v)) (ne : g ≠ g + 1) (B : Below g w wf) (A0 A1 A2 B0 B1 B2 : Int) :
    IHolds ((((((wf.setCell ⟨g, 0, none⟩ (.int .i64 A0)).setCell ⟨g, 1, none⟩ (.int .i64 A1)).setCell ⟨g, 2, none⟩ (.int .i64 A2)).setCell ⟨g + 1, 0, none⟩ (.int .i64 B0)).setCell ⟨g + 1, 1, none⟩ (.int .i64 B1)).setCell ⟨g + 1, 2, none⟩ (.int .i64 B2)).drew g t (rc A0 A1 A2) ∧
    IHolds ((((((wf.setCell ⟨g, 0, none⟩ (.int .i64 A0)).setCell ⟨g, 1, none⟩ (.int .i64 A1)).setCell ⟨g, 2, none⟩ (.int .i64 A2)).setCell ⟨g + 1, 0, none⟩ (.int .i64 B0)).setCell ⟨g + 1, 1, none⟩ (.int .i64 B1)).setCell ⟨g + 1, 2, none⟩ (.int .i64 B2)).drew (g + 1) t (rc B0 B1 B2) ∧
    Below g w ((((((wf.setCell ⟨g, 0, none⟩ (.int .i64 A0)).setCell ⟨g, 1, none⟩ (.int .i64 A1)).setCell ⟨g, 2, none⟩ (.int .i64 A2)).setCell ⟨g + 1, 0, none⟩ (.int .i64 B0)).setCell ⟨g + 1, 1, none⟩ (.int .i64 B1)).setCell ⟨g + 1, 2, none⟩ (.int .i64 B2)).drew := by
  refine ⟨?_, ?_, ?_⟩
  · exact ((K1.rcset A0 A1 A2).rcOther ne _ _ _).drew
  · exact ((K2.rcOther (fun h => ne h.symm) _ _ _).rcset B0 B1 B2).drew
  · have hg : g ≤ g + 1 := by omega
    have b := (((((B.setCell (p := ⟨g, 0, none⟩) (Nat.le_refl _) (.int .i64 A0)).setCell (p := ⟨g, 1, none⟩) (Nat.le_refl _) (.int .i64 A1)).setCell (p := ⟨g, 2, none⟩) (Nat.le_refl _) (.int .i64 A2)).setCell (p := ⟨g + 1, 0, none⟩) hg (.int .i64 B0)).setCell (p := ⟨g + 1, 1, none⟩) hg (.int .i64 B1)).setCell (p := ⟨g + 1, 2, none⟩) hg (.int .i64 B2)
    exact b.drew

set_option maxRecDepth 100000 in
set_option maxHeartbeats 4000000 in
theorem sure_any (w : World) (a1 a2 : Option Addr) (cap1 cap2 n o t : Nat) (h1 : Row w a1 (dg 1000000000 n)) (h2 : Row w a2 (dg 1000000000 o)) (ht : t ≤ 1000000) (hlen : (dg 1000000000 n).length = t + 3) (hon : o ≤ n) (ho : 0 < o) :
    Calls Tryd.prog 55 #[.slice a1 (dg 1000000000 n).length cap1, .slice a2 (dg 1000000000 o).length cap2] w fun e w' => (∃ (a b : Nat) (sg : Bool) (hx hy lx ly h l rh rl : Nat), e = .returned (.tuple #[rowV (h : Int) (sI sg hx) (-(sI sg hy)), rowV (l : Int) (-(sI sg lx)) (sI sg ly)]) ∧ Leh n o a b sg hx hy lx ly h l rh rl) ∧ Below w.heap.size w w' := by
  have HH : Hid (∀ W, Below w.heap.size w W → Calls Tryd.prog 67 #[.slice a1 (dg 1000000000 n).length cap1, .slice a2 (dg 1000000000 o).length cap2] W fun e w' => (∃ a b S n' o' : Nat, e = .returned (.tuple #[.int .i64 (a : Int), .int .i64 (b : Int)]) ∧ Cut n o a b S n' o') ∧ Below W.heap.size W w') := fun W hW => heads_any W a1 a2 cap1 cap2 n o t (h1.of_below hW) (h2.of_below hW) ht hlen hon
  clear h1 h2 hlen
  generalize (dg 1000000000 n).length = k1 at *
  generalize (dg 1000000000 o).length = k2 at *
  go_enter Tryd.func55, Tryd.ntmps55
  go_wp2_with fail
  obtain ⟨W0, hW0⟩ : ∃ W0, W0 = (w.alloc (.cells #[.int .i64 0, .int .i64 0, .int .i64 0] 86)).alloc (.cells #[.int .i64 0, .int .i64 0, .int .i64 0] 86) := ⟨_, rfl⟩
  have q1 : Hid (IHolds W0 w.heap.size 86 (rc 0 0 0)) := by rw [hW0]; exact (IHolds.new w 86 (rc 0 0 0)).alloc _
  have q2 : Hid (IHolds W0 (w.heap.size + 1) 86 (rc 0 0 0)) := by
    rw [hW0]
    have := IHolds.new (w.alloc (.cells #[.int .i64 0, .int .i64 0, .int .i64 0] 86)) 86 (rc 0 0 0)
    rw [World.size_alloc] at this
    exact this
  have q3 : Hid (Below w.heap.size w W0) := by rw [hW0]; exact ((Below.refl _ w).alloc (Nat.le_refl _) _).alloc (by simp) _
  rw [← hW0]
  clear hW0
  refine (HH.out W0 q3.out).mono ?_
  rintro e W1 ⟨⟨a, b, S, n', o', rfl, hcut⟩, hb⟩
  have hba := hcut.le hon
  have hst := Leh.start hba hon hcut.ha
  have HCUT : Hid (Cut n o a b S n' o') := hcut
  have HST : Hid (Leh n o a b true 1 0 0 1 a b n o) := hst
  have ha := hcut.ha
  have I1 := q1.out.of_below hb
  have I2 := q2.out.of_below hb
  have B1 : Hid (Below w.heap.size w W1) := q3.out.trans (hb.mono q3.out.size)
  have bne : Hid (w.heap.size ≠ w.heap.size + 1) := by show ¬ _; omega
  have c10 := I1.rc0
  have c11 := I1.rc1
  have c12 := I1.rc2
  have c20 := I2.rc0
  have c21 := I2.rc1
  have c22 := I2.rc2
  have f1 : ∀ i, W1.frozen? ⟨w.heap.size, i, none⟩ = false := fun i => I1.frozen i
  have f2 : ∀ i, W1.frozen? ⟨w.heap.size + 1, i, none⟩ = false := fun i => I2.frozen i
  clear hcut hst hb q1 q2 q3 HH
  go_wp2_with fail
  go_loopg [] b (fun gk wr => ∃ (sg : Bool) (hx hy lx ly h l rh rl : Nat), l = gk ∧ Leh n o a b sg hx hy lx ly h l rh rl ∧ IHolds wr w.heap.size 86 (rc (h : Int) (sI sg hx) (-(sI sg hy))) ∧ IHolds wr (w.heap.size + 1) 86 (rc (l : Int) (-(sI sg lx)) (sI sg ly)) ∧ Below w.heap.size w wr)
  case atStart => exact ⟨true, 1, 0, 0, 1, a, b, n, o, rfl, HST.out, IHolds.of_but (I1.rcset (a : Int) 1 0) ((((But.refl _ _).setCell _ _).setCell _ _).setCell _ _) bne.out, IHolds.rcset (I2.of_but ((((But.refl _ _).setCell _ _).setCell _ _).setCell _ _) (fun h => bne.out h.symm)) (b : Int) 0 1, (((((B1.out.setCell (Nat.le_refl _) _).setCell (Nat.le_refl _) _).setCell (Nat.le_refl _) _).setCell (by show w.heap.size ≤ w.heap.size + 1; omega) _).setCell (by show w.heap.size ≤ w.heap.size + 1; omega) _).setCell (by show w.heap.size ≤ w.heap.size + 1; omega) _⟩
  case round =>
    obtain ⟨sg, hx, hy, lx, ly, h, l, rh, rl, hlg, hLeh, hI1, hI2, hB⟩ := hrel
    have HLG : Hid (l = gk) := hlg
    have HLE : Hid (Leh n o a b sg hx hy lx ly h l rh rl) := hLeh
    have HB : Hid (Below w.heap.size w wr) := hB
    have J1 : Hid (IHolds wr w.heap.size 86 (rc (h : Int) (sI sg hx) (-(sI sg hy)))) := hI1
    have J2 : Hid (IHolds wr (w.heap.size + 1) 86 (rc (l : Int) (-(sI sg lx)) (sI sg ly))) := hI2
    have hh := hLeh.hb
    have hbx := hLeh.bx
    have xb := sI_bd sg hx 1000000000 (by omega)
    have yb := sI_bd sg hy 1000000000 (by omega)
    have ub := sI_bd sg lx 1000000000 (by omega)
    have vb := sI_bd sg ly 1000000000 (by omega)
    have lh := hLeh.ord
    clear hlg hB I1 I2 c10 c11 c12 c20 c21 c22 f1 f2 hbx
    have d10 := hI1.rc0
    have d11 := hI1.rc1
    have d12 := hI1.rc2
    have d20 := hI2.rc0
    have d21 := hI2.rc1
    have d22 := hI2.rc2
    have f1 : ∀ i, wr.frozen? ⟨w.heap.size, i, none⟩ = false := fun i => hI1.frozen i
    have f2 : ∀ i, wr.frozen? ⟨w.heap.size + 1, i, none⟩ = false := fun i => hI2.frozen i
    clear hI1 hI2
    by_cases hl0 : 0 < l
    · have hl0' : (0 : Int) < (l : Int) := by omega
      have hnx := hLeh.nxt ha hl0
      have HSTP : Hid (∀ q r, q = h / l → r = h % l → hy + q * ly ≤ r → ly + (hy + q * ly) + r ≤ l → ∃ rn, Leh n o a b (!sg) lx ly (hx + q * lx) (hy + q * ly) l r rl rn) := fun q r hq hr c1 c2 => hLeh.step S n' o' HCUT.out.en HCUT.out.eo HCUT.out.ln HCUT.out.lo ha q r (by rw [hq, hr]; exact (Nat.div_add_mod h l).symm) (by rw [hr]; exact Nat.mod_lt _ hl0) c1 c2 ho
      have eq : (h : Int) / (l : Int) = ((h / l : Nat) : Int) := (Int.natCast_ediv _ _).symm
      have hml : h % l < l := Nat.mod_lt _ hl0
      have hqh : h / l ≤ h := Nat.div_le_self _ _
      clear hLeh
      obtain ⟨q, hq⟩ : ∃ q, q = h / l := ⟨_, rfl⟩
      obtain ⟨r, hr⟩ : ∃ r, r = h % l := ⟨_, rfl⟩
      rw [← hq, ← hr] at hnx
      rw [← hq] at eq hqh
      rw [← hr] at hml
      have HSTP2 := HSTP.out q r hq hr
      have HST2 : Hid (hy + q * ly ≤ r → ly + (hy + q * ly) + r ≤ l → ∃ rn, Leh n o a b (!sg) lx ly (hx + q * lx) (hy + q * ly) l r rl rn) := HSTP2
      have EN1 : Hid (sI sg (hx + q * lx) = -(sI (!sg) (hx + q * lx))) := by show _ = _; rw [sI_not]; omega
      have EN2 : Hid (-(sI sg (hy + q * ly)) = sI (!sg) (hy + q * ly)) := by show _ = _; rw [sI_not]
      have EU : Hid (-(sI sg lx) = sI (!sg) lx) := by show _ = _; rw [sI_not]
      have EV : Hid (sI sg ly = -(sI (!sg) ly)) := by show _ = _; rw [sI_not]; omega
      clear HSTP HSTP2 hq hr HST
      generalize hEX : sI sg hx = X at *
      generalize hEY : -(sI sg hy) = Y at *
      generalize hEU : -(sI sg lx) = U at *
      generalize hEV : sI sg ly = V at *
      have EX : Hid (sI sg hx = X) := hEX
      have EY : Hid (-(sI sg hy) = Y) := hEY
      have EUo : Hid (-(sI sg lx) = U) := hEU
      have EVo : Hid (sI sg ly = V) := hEV
      clear hEX hEY hEU hEV
      generalize sI sg (hx + q * lx) = N1 at *
      generalize -(sI sg (hy + q * ly)) = N2 at *
      generalize hy + q * ly = ny at *
      obtain ⟨b1, b2, b3, e0, e1, e2, n1, n2, es⟩ := hnx
      have HL : Hid (∀ W : World, Calls Tryd.prog 68 #[rowV (h : Int) X Y, rowV (l : Int) U V, .int .i64 (q : Int)] W fun e w' => e = .returned (rowV (r : Int) N1 N2) ∧ Below W.heap.size W w') := fun W => by
        have := less_any (h : Int) X Y (l : Int) U V (q : Int) W (by omega) (by omega) (by omega) (by omega) (by omega) (by omega)
        rw [e0, e1, e2] at this
        exact this
      have HSU : Hid (∀ W : World, Calls Tryd.prog 69 #[rowV (r : Int) N1 N2, rowV (l : Int) U V] W fun e w' => e = .returned (.bool (decide (ny ≤ r) && decide (ly + ny + r ≤ l))) ∧ Below W.heap.size W w') := fun W => by
        have := surely_any (r : Int) N1 N2 (l : Int) U V W (by omega) (by omega) (by omega) (by omega)
        rw [es] at this
        exact this
      clear b1 b2 b3 e0 e1 e2 es
      go_wp2_with fail
      have kq : IntKind.i64.wrap (q : Int) = (q : Int) := IntWalk.i64_in _ ⟨by omega, by omega⟩
      have HS0 : Hid (IHolds wr.drew w.heap.size 86 (rc (h : Int) X Y) ∧ IHolds wr.drew (w.heap.size + 1) 86 (rc (l : Int) U V)) := ⟨J1.out, J2.out⟩
      have HBd : Hid (Below w.heap.size w wr.drew) := ⟨HB.out.os, HB.out.tape, HB.out.output, HB.out.size, HB.out.block⟩
      clear d10 d11 d12 d20 d21 d22 f1 f2 J1 J2 HB
      refine wp_region_held_drew (S := fun W => IHolds W w.heap.size 86 (rc (h : Int) X Y) ∧ IHolds W (w.heap.size + 1) 86 (rc (l : Int) U V)) (by kernel_rfl) HS0.out (fun hHeld => ?_)
      generalize wr.drew = wd at *
      refine wpAnyH_take (i := 0) (v := rowV (h : Int) X Y) rfl (by kernel_rfl) (by kernel_rfl) (by kernel_rfl) (fun _ _ _ h => h) (Or.inl ⟨by rfl, ?_⟩) hHeld ?_
      · intro w hS
        have z0 := hS.1.rc0
        have z1 := hS.1.rc1
        have z2 := hS.1.rc2
        have z3 := hS.2.rc0
        have z4 := hS.2.rc1
        have z5 := hS.2.rc2
        go_simp
      simp only [Act.put, List.getElem_toArray, List.getElem_cons_succ, List.getElem_cons_zero, List.setIfInBounds_toArray, List.set_cons_zero, List.set_cons_succ, Array.toArray_toList]
      refine wpAnyH_take (i := 1) (v := rowV (l : Int) U V) rfl (by kernel_rfl) (by kernel_rfl) (by kernel_rfl) (fun _ _ _ h => h) (Or.inl ⟨by rfl, ?_⟩) hHeld ?_
      · intro w hS
        have z0 := hS.1.rc0
        have z1 := hS.1.rc1
        have z2 := hS.1.rc2
        have z3 := hS.2.rc0
        have z4 := hS.2.rc1
        have z5 := hS.2.rc2
        go_simp
      simp only [Act.put, List.getElem_toArray, List.getElem_cons_succ, List.getElem_cons_zero, List.setIfInBounds_toArray, List.set_cons_zero, List.set_cons_succ, Array.toArray_toList]
      refine wpAnyH_take (i := 2) (v := .pointer (some ⟨w.heap.size, 0, none⟩)) rfl (by kernel_rfl) (by kernel_rfl) (by kernel_rfl) (fun _ _ _ h => h) (Or.inl ⟨by rfl, ?_⟩) hHeld ?_
      · intro w hS
        have z0 := hS.1.rc0
        have z1 := hS.1.rc1
        have z2 := hS.1.rc2
        have z3 := hS.2.rc0
        have z4 := hS.2.rc1
        have z5 := hS.2.rc2
        go_simp
      simp only [Act.put, List.getElem_toArray, List.getElem_cons_succ, List.getElem_cons_zero, List.setIfInBounds_toArray, List.set_cons_zero, List.set_cons_succ, Array.toArray_toList]
      refine wpAnyH_take (i := 3) (v := .int .i64 (h : Int)) rfl (by kernel_rfl) (by kernel_rfl) (by kernel_rfl) (fun _ _ _ h => h) (Or.inl ⟨by rfl, ?_⟩) hHeld ?_
      · intro w hS
        have z0 := hS.1.rc0
        have z1 := hS.1.rc1
        have z2 := hS.1.rc2
        have z3 := hS.2.rc0
        have z4 := hS.2.rc1
        have z5 := hS.2.rc2
        go_simp
      simp only [Act.put, List.getElem_toArray, List.getElem_cons_succ, List.getElem_cons_zero, List.setIfInBounds_toArray, List.set_cons_zero, List.set_cons_succ, Array.toArray_toList]
      refine wpAnyH_take (i := 4) (v := .pointer (some ⟨w.heap.size + 1, 0, none⟩)) rfl (by kernel_rfl) (by kernel_rfl) (by kernel_rfl) (fun _ _ _ h => h) (Or.inl ⟨by rfl, ?_⟩) hHeld ?_
      · intro w hS
        have z0 := hS.1.rc0
        have z1 := hS.1.rc1
        have z2 := hS.1.rc2
        have z3 := hS.2.rc0
        have z4 := hS.2.rc1
        have z5 := hS.2.rc2
        go_simp
      simp only [Act.put, List.getElem_toArray, List.getElem_cons_succ, List.getElem_cons_zero, List.setIfInBounds_toArray, List.set_cons_zero, List.set_cons_succ, Array.toArray_toList]
      refine wpAnyH_take (i := 5) (v := .int .i64 (l : Int)) rfl (by kernel_rfl) (by kernel_rfl) (by kernel_rfl) (fun _ _ _ h => h) (Or.inl ⟨by rfl, ?_⟩) hHeld ?_
      · intro w hS
        have z0 := hS.1.rc0
        have z1 := hS.1.rc1
        have z2 := hS.1.rc2
        have z3 := hS.2.rc0
        have z4 := hS.2.rc1
        have z5 := hS.2.rc2
        go_simp
      simp only [Act.put, List.getElem_toArray, List.getElem_cons_succ, List.getElem_cons_zero, List.setIfInBounds_toArray, List.set_cons_zero, List.set_cons_succ, Array.toArray_toList]
      refine wpAnyH_take (i := 6) (v := .int .i64 (q : Int)) rfl (by kernel_rfl) (by kernel_rfl) (by kernel_rfl) (fun _ _ _ h => h) (Or.inl ⟨by rfl, ?_⟩) hHeld ?_
      · intro w hS
        have z0 := hS.1.rc0
        have z1 := hS.1.rc1
        have z2 := hS.1.rc2
        have z3 := hS.2.rc0
        have z4 := hS.2.rc1
        have z5 := hS.2.rc2
        go_simp
        omega
      simp only [Act.put, List.getElem_toArray, List.getElem_cons_succ, List.getElem_cons_zero, List.setIfInBounds_toArray, List.set_cons_zero, List.set_cons_succ, Array.toArray_toList]
      refine wpAnyH_ready (rs := [7, 8]) (by kernel_rfl) (by simp) ?_
      refine AllReadyH.cons rfl (fun K hK => ?_) (AllReadyH.cons rfl (fun K hK => ?_) AllReadyH.nil)
      · go_simp
        refine (HL.out wd).mono ?_
        rintro e wc ⟨rfl, hbc⟩
        have SC : Hid (IHolds wc w.heap.size 86 (rc (h : Int) X Y) ∧ IHolds wc (w.heap.size + 1) 86 (rc (l : Int) U V)) := ⟨HS0.out.1.of_below hbc, HS0.out.2.of_below hbc⟩
        have BC : Hid (Below w.heap.size w wc) := HBd.out.trans (hbc.mono HBd.out.size)
        clear hbc
        go_wp2_with fail
        refine hK.out _ _ SC.out (fun hHeld2 => ?_)
        clear hK K
        try simp only [Act.put, List.getElem_toArray, List.getElem_cons_succ, List.getElem_cons_zero, List.setIfInBounds_toArray, List.set_cons_zero, List.set_cons_succ, Array.toArray_toList]
        refine wpAnyH_ready (rs := [8]) (by kernel_rfl) (by simp) ?_
        refine AllReadyH.cons rfl (fun K hK => ?_) AllReadyH.nil
        go_simp
        have al : Below wc.heap.size wc (wc.alloc (.cells #[.int .i64 0, .int .i64 0, .int .i64 0] 86)) := (Below.refl _ wc).alloc (Nat.le_refl _) _
        have SD : Hid (IHolds (wc.alloc (.cells #[.int .i64 0, .int .i64 0, .int .i64 0] 86)) w.heap.size 86 (rc (h : Int) X Y) ∧ IHolds (wc.alloc (.cells #[.int .i64 0, .int .i64 0, .int .i64 0] 86)) (w.heap.size + 1) 86 (rc (l : Int) U V)) := ⟨SC.out.1.of_below al, SC.out.2.of_below al⟩
        have BD : Hid (Below w.heap.size w (wc.alloc (.cells #[.int .i64 0, .int .i64 0, .int .i64 0] 86))) := BC.out.trans (al.mono BC.out.size)
        have ND : Hid (IHolds (wc.alloc (.cells #[.int .i64 0, .int .i64 0, .int .i64 0] 86)) wc.heap.size 86 (rc 0 0 0)) := IHolds.new wc 86 (rc 0 0 0)
        have n8a : Hid (w.heap.size + 1 < wc.heap.size) := SC.out.2.lt
        refine hK.out _ _ SD.out (fun hHeld3 => ?_)
        clear hK K al SC BC
        try simp only [Act.put, List.getElem_toArray, List.getElem_cons_succ, List.getElem_cons_zero, List.setIfInBounds_toArray, List.set_cons_zero, List.set_cons_succ, Array.toArray_toList]
        generalize wc.alloc (.cells #[.int .i64 0, .int .i64 0, .int .i64 0] 86) = we at *
        generalize wc.heap.size = b8 at *
        refine wpAnyH_ready (rs := [9]) (by kernel_rfl) (by simp) ?_
        refine AllReadyH.cons rfl (fun K hK => ?_) AllReadyH.nil
        have g0 := ND.out.rc0
        have g1 := ND.out.rc1
        have g2 := ND.out.rc2
        have gf : ∀ i, we.frozen? ⟨b8, i, none⟩ = false := fun i => ND.out.frozen i
        go_simp
        have bt : But b8 we (((we.setCell ⟨b8, 0, none⟩ (.int .i64 (r : Int))).setCell ⟨b8, 1, none⟩ (.int .i64 N1)).setCell ⟨b8, 2, none⟩ (.int .i64 N2)) := (((But.refl _ _).setCell _ _).setCell _ _).setCell _ _
        have nh8 : w.heap.size ≠ b8 := by have := n8a.out; omega
        have nl8 : w.heap.size + 1 ≠ b8 := by have := n8a.out; omega
        have NZ : Hid (IHolds (((we.setCell ⟨b8, 0, none⟩ (.int .i64 (r : Int))).setCell ⟨b8, 1, none⟩ (.int .i64 N1)).setCell ⟨b8, 2, none⟩ (.int .i64 N2)) b8 86 (rc (r : Int) N1 N2)) := ND.out.rcset _ _ _
        have SZ : Hid (IHolds (((we.setCell ⟨b8, 0, none⟩ (.int .i64 (r : Int))).setCell ⟨b8, 1, none⟩ (.int .i64 N1)).setCell ⟨b8, 2, none⟩ (.int .i64 N2)) w.heap.size 86 (rc (h : Int) X Y) ∧ IHolds (((we.setCell ⟨b8, 0, none⟩ (.int .i64 (r : Int))).setCell ⟨b8, 1, none⟩ (.int .i64 N1)).setCell ⟨b8, 2, none⟩ (.int .i64 N2)) (w.heap.size + 1) 86 (rc (l : Int) U V)) := ⟨SD.out.1.of_but bt nh8, SD.out.2.of_but bt nl8⟩
        have BZ : Hid (Below w.heap.size w (((we.setCell ⟨b8, 0, none⟩ (.int .i64 (r : Int))).setCell ⟨b8, 1, none⟩ (.int .i64 N1)).setCell ⟨b8, 2, none⟩ (.int .i64 N2))) := BD.out.trans (bt.below BD.out.size (by have := n8a.out; omega))
        have H8 : Hid (w.heap.size ≠ b8 ∧ w.heap.size + 1 ≠ b8) := ⟨nh8, nl8⟩
        refine hK.out _ _ SZ.out (fun hHeld4 => ?_)
        clear hK K bt nh8 nl8 g0 g1 g2 gf ND SD BD
        try simp only [Act.put, List.getElem_toArray, List.getElem_cons_succ, List.getElem_cons_zero, List.setIfInBounds_toArray, List.set_cons_zero, List.set_cons_succ, Array.toArray_toList]
        generalize (((we.setCell ⟨b8, 0, none⟩ (.int .i64 (r : Int))).setCell ⟨b8, 1, none⟩ (.int .i64 N1)).setCell ⟨b8, 2, none⟩ (.int .i64 N2)) = wz at *
        refine wpAnyH_done (by kernel_rfl) ?_ _
        clear hHeld hHeld2 hHeld3 hHeld4 HL kq
        have m0 := NZ.out.rc0
        have m1 := NZ.out.rc1
        have m2 := NZ.out.rc2
        have p0 := SZ.out.2.rc0
        have p1 := SZ.out.2.rc1
        have p2 := SZ.out.2.rc2
        go_wp2_with fail
        refine (HSU.out wz).mono ?_
        rintro e wf ⟨rfl, hbf⟩
        have NF := NZ.out.of_below hbf
        have SF1 := SZ.out.1.of_below hbf
        have SF2 := SZ.out.2.of_below hbf
        have BF : Hid (Below w.heap.size w wf) := BZ.out.trans (hbf.mono BZ.out.size)
        clear hbf m0 m1 m2 p0 p1 p2 HSU NZ SZ BZ
        have m0 := NF.rc0
        have m1 := NF.rc1
        have m2 := NF.rc2
        have t0 := SF1.rc0
        have t1 := SF1.rc1
        have t2 := SF1.rc2
        have p0 := SF2.rc0
        have p1 := SF2.rc1
        have p2 := SF2.rc2
        have ff1 : ∀ i, wf.frozen? ⟨w.heap.size, i, none⟩ = false := fun i => SF1.frozen i
        have ff2 : ∀ i, wf.frozen? ⟨w.heap.size + 1, i, none⟩ = false := fun i => SF2.frozen i
        have ne1 := H8.out.1
        have ne2 := H8.out.2
        have ne3 := bne.out
        have KN : Hid (IHolds wf b8 86 (rc (r : Int) N1 N2)) := NF
        have K1 : Hid (IHolds wf w.heap.size 86 (rc (h : Int) X Y)) := SF1
        have K2 : Hid (IHolds wf (w.heap.size + 1) 86 (rc (l : Int) U V)) := SF2
        clear NF SF1 SF2
        by_cases hsu : ny ≤ r ∧ ly + ny + r ≤ l
        · have hbe : (decide (ny ≤ r) && decide (ly + ny + r ≤ l)) = true := by simp [hsu.1, hsu.2]
          rw [hbe]
          clear hbe
          go_wp2_with fail
          go_region
          obtain ⟨rn, hrn⟩ := HST2.out hsu.1 hsu.2
          have HRN : Hid (Leh n o a b (!sg) lx ly (hx + q * lx) ny l r rl rn) := hrn
          obtain ⟨T1, T2, T3⟩ := two_rows K1.out K2.out bne.out BF.out (l : Int) U V (r : Int) N1 N2
          have HT1 : Hid (IHolds ((((((wf.setCell ⟨w.heap.size, 0, none⟩ (.int .i64 (l : Int))).setCell ⟨w.heap.size, 1, none⟩ (.int .i64 U)).setCell ⟨w.heap.size, 2, none⟩ (.int .i64 V)).setCell ⟨w.heap.size + 1, 0, none⟩ (.int .i64 (r : Int))).setCell ⟨w.heap.size + 1, 1, none⟩ (.int .i64 N1)).setCell ⟨w.heap.size + 1, 2, none⟩ (.int .i64 N2)).drew w.heap.size 86 (rc (l : Int) U V)) := T1
          have HT2 : Hid (IHolds ((((((wf.setCell ⟨w.heap.size, 0, none⟩ (.int .i64 (l : Int))).setCell ⟨w.heap.size, 1, none⟩ (.int .i64 U)).setCell ⟨w.heap.size, 2, none⟩ (.int .i64 V)).setCell ⟨w.heap.size + 1, 0, none⟩ (.int .i64 (r : Int))).setCell ⟨w.heap.size + 1, 1, none⟩ (.int .i64 N1)).setCell ⟨w.heap.size + 1, 2, none⟩ (.int .i64 N2)).drew (w.heap.size + 1) 86 (rc (r : Int) N1 N2)) := T2
          have HT3 : Hid (Below w.heap.size w ((((((wf.setCell ⟨w.heap.size, 0, none⟩ (.int .i64 (l : Int))).setCell ⟨w.heap.size, 1, none⟩ (.int .i64 U)).setCell ⟨w.heap.size, 2, none⟩ (.int .i64 V)).setCell ⟨w.heap.size + 1, 0, none⟩ (.int .i64 (r : Int))).setCell ⟨w.heap.size + 1, 1, none⟩ (.int .i64 N1)).setCell ⟨w.heap.size + 1, 2, none⟩ (.int .i64 N2)).drew) := T3
          clear hrn T1 T2 T3 m0 m1 m2 t0 t1 t2 p0 p1 p2 ff1 ff2 ne1 ne2 ne3
          go_wp2_with fail
          go_roundg r
          case measure => have := HLG.out; omega
          case rel => exact ⟨!sg, lx, ly, hx + q * lx, ny, l, r, rl, rn, rfl, HRN.out, by rw [← EU.out, ← EV.out]; exact HT1.out, by rw [← EN1.out, ← EN2.out]; exact HT2.out, HT3.out⟩
        · have hbe : (decide (ny ≤ r) && decide (ly + ny + r ≤ l)) = false := by simp; omega
          rw [hbe]
          clear hbe
          go_wp2_with fail
          go_region
          try go_wp2_with fail
          obtain ⟨T1, T2, T3⟩ := two_rows K1.out K2.out bne.out BF.out (h : Int) X Y (l : Int) U V
          clear m0 m1 m2 t0 t1 t2 p0 p1 p2 ff1 ff2 ne1 ne2 ne3
          generalize ((((((wf.setCell ⟨w.heap.size, 0, none⟩ (.int .i64 (h : Int))).setCell ⟨w.heap.size, 1, none⟩ (.int .i64 X)).setCell ⟨w.heap.size, 2, none⟩ (.int .i64 Y)).setCell ⟨w.heap.size + 1, 0, none⟩ (.int .i64 (l : Int))).setCell ⟨w.heap.size + 1, 1, none⟩ (.int .i64 U)).setCell ⟨w.heap.size + 1, 2, none⟩ (.int .i64 V)).drew = wz at *
          have z0 := T1.rc0
          have z1 := T1.rc1
          have z2 := T1.rc2
          have z3 := T2.rc0
          have z4 := T2.rc1
          have z5 := T2.rc2
          clear T1 T2
          refine bodyPost_ret (v := .tuple #[rowV (h : Int) X Y, rowV (l : Int) U V]) (by simp [results, Tryd.results55, go_sem, z0, z1, z2, z3, z4, z5]) rfl ⟨?_, T3⟩
          exact ⟨a, b, sg, hx, hy, lx, ly, h, l, rh, rl, by rw [EX.out, EY.out, EUo.out, EVo.out], HLE.out⟩
      · go_simp
        have al : Below wd.heap.size wd (wd.alloc (.cells #[.int .i64 0, .int .i64 0, .int .i64 0] 86)) := (Below.refl _ wd).alloc (Nat.le_refl _) _
        have SC : Hid (IHolds (wd.alloc (.cells #[.int .i64 0, .int .i64 0, .int .i64 0] 86)) w.heap.size 86 (rc (h : Int) X Y) ∧ IHolds (wd.alloc (.cells #[.int .i64 0, .int .i64 0, .int .i64 0] 86)) (w.heap.size + 1) 86 (rc (l : Int) U V)) := ⟨HS0.out.1.of_below al, HS0.out.2.of_below al⟩
        have BC : Hid (Below w.heap.size w (wd.alloc (.cells #[.int .i64 0, .int .i64 0, .int .i64 0] 86))) := HBd.out.trans (al.mono HBd.out.size)
        have NC : Hid (IHolds (wd.alloc (.cells #[.int .i64 0, .int .i64 0, .int .i64 0] 86)) wd.heap.size 86 (rc 0 0 0)) := IHolds.new wd 86 (rc 0 0 0)
        have n8a : Hid (w.heap.size + 1 < wd.heap.size) := HS0.out.2.lt
        refine hK.out _ _ SC.out (fun hHeld2 => ?_)
        clear hK K al
        try simp only [Act.put, List.getElem_toArray, List.getElem_cons_succ, List.getElem_cons_zero, List.setIfInBounds_toArray, List.set_cons_zero, List.set_cons_succ, Array.toArray_toList]
        generalize wd.alloc (.cells #[.int .i64 0, .int .i64 0, .int .i64 0] 86) = wc at *
        generalize wd.heap.size = b8 at *
        refine wpAnyH_ready (rs := [7]) (by kernel_rfl) (by simp) ?_
        refine AllReadyH.cons rfl (fun K hK => ?_) AllReadyH.nil
        go_simp
        refine (HL.out wc).mono ?_
        rintro e we ⟨rfl, hbc⟩
        have SD : Hid (IHolds we w.heap.size 86 (rc (h : Int) X Y) ∧ IHolds we (w.heap.size + 1) 86 (rc (l : Int) U V)) := ⟨SC.out.1.of_below hbc, SC.out.2.of_below hbc⟩
        have BD : Hid (Below w.heap.size w we) := BC.out.trans (hbc.mono BC.out.size)
        have ND : Hid (IHolds we b8 86 (rc 0 0 0)) := NC.out.of_below hbc
        clear hbc NC SC BC
        go_wp2_with fail
        refine hK.out _ _ SD.out (fun hHeld3 => ?_)
        clear hK K
        try simp only [Act.put, List.getElem_toArray, List.getElem_cons_succ, List.getElem_cons_zero, List.setIfInBounds_toArray, List.set_cons_zero, List.set_cons_succ, Array.toArray_toList]
        refine wpAnyH_ready (rs := [9]) (by kernel_rfl) (by simp) ?_
        refine AllReadyH.cons rfl (fun K hK => ?_) AllReadyH.nil
        have g0 := ND.out.rc0
        have g1 := ND.out.rc1
        have g2 := ND.out.rc2
        have gf : ∀ i, we.frozen? ⟨b8, i, none⟩ = false := fun i => ND.out.frozen i
        go_simp
        have bt : But b8 we (((we.setCell ⟨b8, 0, none⟩ (.int .i64 (r : Int))).setCell ⟨b8, 1, none⟩ (.int .i64 N1)).setCell ⟨b8, 2, none⟩ (.int .i64 N2)) := (((But.refl _ _).setCell _ _).setCell _ _).setCell _ _
        have nh8 : w.heap.size ≠ b8 := by have := n8a.out; omega
        have nl8 : w.heap.size + 1 ≠ b8 := by have := n8a.out; omega
        have NZ : Hid (IHolds (((we.setCell ⟨b8, 0, none⟩ (.int .i64 (r : Int))).setCell ⟨b8, 1, none⟩ (.int .i64 N1)).setCell ⟨b8, 2, none⟩ (.int .i64 N2)) b8 86 (rc (r : Int) N1 N2)) := ND.out.rcset _ _ _
        have SZ : Hid (IHolds (((we.setCell ⟨b8, 0, none⟩ (.int .i64 (r : Int))).setCell ⟨b8, 1, none⟩ (.int .i64 N1)).setCell ⟨b8, 2, none⟩ (.int .i64 N2)) w.heap.size 86 (rc (h : Int) X Y) ∧ IHolds (((we.setCell ⟨b8, 0, none⟩ (.int .i64 (r : Int))).setCell ⟨b8, 1, none⟩ (.int .i64 N1)).setCell ⟨b8, 2, none⟩ (.int .i64 N2)) (w.heap.size + 1) 86 (rc (l : Int) U V)) := ⟨SD.out.1.of_but bt nh8, SD.out.2.of_but bt nl8⟩
        have BZ : Hid (Below w.heap.size w (((we.setCell ⟨b8, 0, none⟩ (.int .i64 (r : Int))).setCell ⟨b8, 1, none⟩ (.int .i64 N1)).setCell ⟨b8, 2, none⟩ (.int .i64 N2))) := BD.out.trans (bt.below BD.out.size (by have := n8a.out; omega))
        have H8 : Hid (w.heap.size ≠ b8 ∧ w.heap.size + 1 ≠ b8) := ⟨nh8, nl8⟩
        refine hK.out _ _ SZ.out (fun hHeld4 => ?_)
        clear hK K bt nh8 nl8 g0 g1 g2 gf ND SD BD
        try simp only [Act.put, List.getElem_toArray, List.getElem_cons_succ, List.getElem_cons_zero, List.setIfInBounds_toArray, List.set_cons_zero, List.set_cons_succ, Array.toArray_toList]
        generalize (((we.setCell ⟨b8, 0, none⟩ (.int .i64 (r : Int))).setCell ⟨b8, 1, none⟩ (.int .i64 N1)).setCell ⟨b8, 2, none⟩ (.int .i64 N2)) = wz at *
        refine wpAnyH_done (by kernel_rfl) ?_ _
        clear hHeld hHeld2 hHeld3 hHeld4 HL kq
        have m0 := NZ.out.rc0
        have m1 := NZ.out.rc1
        have m2 := NZ.out.rc2
        have p0 := SZ.out.2.rc0
        have p1 := SZ.out.2.rc1
        have p2 := SZ.out.2.rc2
        go_wp2_with fail
        refine (HSU.out wz).mono ?_
        rintro e wf ⟨rfl, hbf⟩
        have NF := NZ.out.of_below hbf
        have SF1 := SZ.out.1.of_below hbf
        have SF2 := SZ.out.2.of_below hbf
        have BF : Hid (Below w.heap.size w wf) := BZ.out.trans (hbf.mono BZ.out.size)
        clear hbf m0 m1 m2 p0 p1 p2 HSU NZ SZ BZ
        have m0 := NF.rc0
        have m1 := NF.rc1
        have m2 := NF.rc2
        have t0 := SF1.rc0
        have t1 := SF1.rc1
        have t2 := SF1.rc2
        have p0 := SF2.rc0
        have p1 := SF2.rc1
        have p2 := SF2.rc2
        have ff1 : ∀ i, wf.frozen? ⟨w.heap.size, i, none⟩ = false := fun i => SF1.frozen i
        have ff2 : ∀ i, wf.frozen? ⟨w.heap.size + 1, i, none⟩ = false := fun i => SF2.frozen i
        have ne1 := H8.out.1
        have ne2 := H8.out.2
        have ne3 := bne.out
        have KN : Hid (IHolds wf b8 86 (rc (r : Int) N1 N2)) := NF
        have K1 : Hid (IHolds wf w.heap.size 86 (rc (h : Int) X Y)) := SF1
        have K2 : Hid (IHolds wf (w.heap.size + 1) 86 (rc (l : Int) U V)) := SF2
        clear NF SF1 SF2
        by_cases hsu : ny ≤ r ∧ ly + ny + r ≤ l
        · have hbe : (decide (ny ≤ r) && decide (ly + ny + r ≤ l)) = true := by simp [hsu.1, hsu.2]
          rw [hbe]
          clear hbe
          go_wp2_with fail
          go_region
          obtain ⟨rn, hrn⟩ := HST2.out hsu.1 hsu.2
          have HRN : Hid (Leh n o a b (!sg) lx ly (hx + q * lx) ny l r rl rn) := hrn
          obtain ⟨T1, T2, T3⟩ := two_rows K1.out K2.out bne.out BF.out (l : Int) U V (r : Int) N1 N2
          have HT1 : Hid (IHolds ((((((wf.setCell ⟨w.heap.size, 0, none⟩ (.int .i64 (l : Int))).setCell ⟨w.heap.size, 1, none⟩ (.int .i64 U)).setCell ⟨w.heap.size, 2, none⟩ (.int .i64 V)).setCell ⟨w.heap.size + 1, 0, none⟩ (.int .i64 (r : Int))).setCell ⟨w.heap.size + 1, 1, none⟩ (.int .i64 N1)).setCell ⟨w.heap.size + 1, 2, none⟩ (.int .i64 N2)).drew w.heap.size 86 (rc (l : Int) U V)) := T1
          have HT2 : Hid (IHolds ((((((wf.setCell ⟨w.heap.size, 0, none⟩ (.int .i64 (l : Int))).setCell ⟨w.heap.size, 1, none⟩ (.int .i64 U)).setCell ⟨w.heap.size, 2, none⟩ (.int .i64 V)).setCell ⟨w.heap.size + 1, 0, none⟩ (.int .i64 (r : Int))).setCell ⟨w.heap.size + 1, 1, none⟩ (.int .i64 N1)).setCell ⟨w.heap.size + 1, 2, none⟩ (.int .i64 N2)).drew (w.heap.size + 1) 86 (rc (r : Int) N1 N2)) := T2
          have HT3 : Hid (Below w.heap.size w ((((((wf.setCell ⟨w.heap.size, 0, none⟩ (.int .i64 (l : Int))).setCell ⟨w.heap.size, 1, none⟩ (.int .i64 U)).setCell ⟨w.heap.size, 2, none⟩ (.int .i64 V)).setCell ⟨w.heap.size + 1, 0, none⟩ (.int .i64 (r : Int))).setCell ⟨w.heap.size + 1, 1, none⟩ (.int .i64 N1)).setCell ⟨w.heap.size + 1, 2, none⟩ (.int .i64 N2)).drew) := T3
          clear hrn T1 T2 T3 m0 m1 m2 t0 t1 t2 p0 p1 p2 ff1 ff2 ne1 ne2 ne3
          go_wp2_with fail
          go_roundg r
          case measure => have := HLG.out; omega
          case rel => exact ⟨!sg, lx, ly, hx + q * lx, ny, l, r, rl, rn, rfl, HRN.out, by rw [← EU.out, ← EV.out]; exact HT1.out, by rw [← EN1.out, ← EN2.out]; exact HT2.out, HT3.out⟩
        · have hbe : (decide (ny ≤ r) && decide (ly + ny + r ≤ l)) = false := by simp; omega
          rw [hbe]
          clear hbe
          go_wp2_with fail
          go_region
          try go_wp2_with fail
          obtain ⟨T1, T2, T3⟩ := two_rows K1.out K2.out bne.out BF.out (h : Int) X Y (l : Int) U V
          clear m0 m1 m2 t0 t1 t2 p0 p1 p2 ff1 ff2 ne1 ne2 ne3
          generalize ((((((wf.setCell ⟨w.heap.size, 0, none⟩ (.int .i64 (h : Int))).setCell ⟨w.heap.size, 1, none⟩ (.int .i64 X)).setCell ⟨w.heap.size, 2, none⟩ (.int .i64 Y)).setCell ⟨w.heap.size + 1, 0, none⟩ (.int .i64 (l : Int))).setCell ⟨w.heap.size + 1, 1, none⟩ (.int .i64 U)).setCell ⟨w.heap.size + 1, 2, none⟩ (.int .i64 V)).drew = wz at *
          have z0 := T1.rc0
          have z1 := T1.rc1
          have z2 := T1.rc2
          have z3 := T2.rc0
          have z4 := T2.rc1
          have z5 := T2.rc2
          clear T1 T2
          refine bodyPost_ret (v := .tuple #[rowV (h : Int) X Y, rowV (l : Int) U V]) (by simp [results, Tryd.results55, go_sem, z0, z1, z2, z3, z4, z5]) rfl ⟨?_, T3⟩
          exact ⟨a, b, sg, hx, hy, lx, ly, h, l, rh, rl, by rw [EX.out, EY.out, EUo.out, EVo.out], HLE.out⟩
    · have hl00 : l = 0 := by omega
      have hle : ¬ (0 : Int) < (l : Int) := by omega
      have HL0 : Hid (l = 0) := hl00
      have hgen : ∃ X Y U V : Int, X = sI sg hx ∧ Y = -(sI sg hy) ∧ U = -(sI sg lx) ∧ V = sI sg ly := ⟨_, _, _, _, rfl, rfl, rfl, rfl⟩
      obtain ⟨X, Y, U, V, hX, hY, hU, hV⟩ := hgen
      rw [← hX, ← hY] at J1
      rw [← hU, ← hV] at J2
      rw [← hX] at d11
      rw [← hY] at d12
      rw [← hU] at d21
      rw [← hV] at d22
      have HXX : Hid (X = sI sg hx ∧ Y = -(sI sg hy) ∧ U = -(sI sg lx) ∧ V = sI sg ly) := ⟨hX, hY, hU, hV⟩
      have ne3 := bne.out
      clear hX hY hU hV xb yb ub vb hLeh hl00
      go_wp2_with fail
      go_region
      try go_wp2_with fail
      obtain ⟨T1, T2, T3⟩ := two_rows J1.out J2.out bne.out HB.out (h : Int) X Y (l : Int) U V
      clear d10 d11 d12 d20 d21 d22 f1 f2 ne3
      generalize ((((((wr.setCell ⟨w.heap.size, 0, none⟩ (.int .i64 (h : Int))).setCell ⟨w.heap.size, 1, none⟩ (.int .i64 X)).setCell ⟨w.heap.size, 2, none⟩ (.int .i64 Y)).setCell ⟨w.heap.size + 1, 0, none⟩ (.int .i64 (l : Int))).setCell ⟨w.heap.size + 1, 1, none⟩ (.int .i64 U)).setCell ⟨w.heap.size + 1, 2, none⟩ (.int .i64 V)).drew = wz at *
      have z0 := T1.rc0
      have z1 := T1.rc1
      have z2 := T1.rc2
      have z3 := T2.rc0
      have z4 := T2.rc1
      have z5 := T2.rc2
      clear T1 T2
      refine bodyPost_ret (v := .tuple #[rowV (h : Int) X Y, rowV (l : Int) U V]) (by simp [results, Tryd.results55, go_sem, z0, z1, z2, z3, z4, z5]) rfl ⟨?_, T3⟩
      exact ⟨a, b, sg, hx, hy, lx, ly, h, l, rh, rl, by rw [← HXX.out.1, ← HXX.out.2.1, ← HXX.out.2.2.1, ← HXX.out.2.2.2], HLE.out⟩
end Go.Proofs.YtflabehlaiocaaaDoor
