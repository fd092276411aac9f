/- The walk of the reference's steps: all 640 of them, in their order, in a slice of the call's own. -/
import Derived.Test.YteomefhjglnghaaDoorFRefLeaf
import Derived.BigQuiet
import Derived.Deep.QuietTactic
import Derived.OwnWalk
set_option linter.unusedSimpArgs false
set_option linter.unusedVariables false
set_option maxRecDepth 100000
namespace Go.Proofs.YteomefhjglnghaaDoor.F
open Go.RowKit

def rowSs : List ByteArray := [⟨#[48, 49, 50, 51, 52, 53, 54, 55, 56, 57, 97, 98, 99, 100, 101, 102]⟩, ⟨#[101, 97, 52, 56, 57, 102, 100, 54, 49, 99, 48, 50, 98, 55, 53, 51]⟩, ⟨#[98, 56, 99, 48, 53, 50, 102, 100, 97, 101, 51, 54, 55, 49, 57, 52]⟩, ⟨#[55, 57, 51, 49, 100, 99, 98, 101, 50, 54, 53, 97, 52, 48, 102, 56]⟩, ⟨#[57, 48, 53, 55, 50, 52, 97, 102, 101, 49, 98, 99, 54, 56, 51, 100]⟩, ⟨#[50, 99, 54, 97, 48, 98, 56, 51, 52, 100, 55, 53, 102, 101, 49, 57]⟩, ⟨#[99, 53, 49, 102, 101, 100, 52, 97, 48, 55, 54, 51, 57, 50, 56, 98]⟩, ⟨#[100, 98, 55, 101, 99, 49, 51, 57, 53, 48, 102, 52, 56, 54, 50, 97]⟩, ⟨#[54, 102, 101, 57, 98, 51, 48, 56, 99, 50, 100, 55, 49, 52, 97, 53]⟩, ⟨#[97, 50, 56, 52, 55, 54, 49, 53, 102, 98, 57, 101, 51, 99, 100, 48]⟩]
def rowS (r : Nat) : ByteArray := rowSs.getD r ByteArray.empty
theorem rowS_size : ∀ r, r < 10 → (rowS r).size = 16 := by decide
theorem rowS_bt : ∀ r, r < 10 → ∀ j, j < 16 → PlainAid.bt (rowS r) j = hexB (ordN r j) := by decide +kernel

set_option maxHeartbeats 400000 in
theorem rows_any (w : World) :
    Calls Tryd.prog 52 #[] w fun e w' => e = .returned (.slice (some ⟨w.heap.size, 0, none⟩) 10 10) ∧ Below w.heap.size w w' ∧ w'.heap.size = w.heap.size + 1 ∧ ∀ r, r < 10 → w'.cell? ⟨w.heap.size, r, none⟩ = some (.string (rowS r)) := by
  go_enter Tryd.func52, Tryd.ntmps52
  go_wp2_with fail
  go_ret
  refine ⟨rfl, (Below.refl _ w).alloc (Nat.le_refl _) _, by simp, fun r hr => ?_⟩
  rw [World.cell?_alloc_new]
  have : ∀ r, r < 10 → (rowSs.map Value.string).toArray[r]? = some (.string (rowS r)) := by
    intro r hr
    have hl : rowSs.length = 10 := rfl
    simp [rowS, show r < rowSs.length by omega]
  exact this r hr

theorem ownsRow_lt {w : World} {base n g : Nat} {e : TypeId} {size : Nat} {v : Value} {xs : List Value} (h : w.ownsRow base e size v n xs) (hg : v.ownBlock = some g) : g < w.heap.size := by
  rcases h.2 with ⟨rfl, _⟩ | ⟨g', cap, cur, rfl, _, hc, _⟩
  · cases hg
  · simp [Value.ownBlock] at hg
    subst hg
    exact (Array.getElem?_eq_some_iff.1 hc).1
theorem ownsRow_keep {w w' : World} {base n : Nat} {e : TypeId} {size : Nat} {v : Value} {xs : List Value} (h : w.ownsRow base e size v n xs) (hb : ∀ k, k < w.heap.size → w'.heap[k]? = w.heap[k]?) : w'.ownsRow base e size v n xs := by
  refine ⟨h.1, ?_⟩
  rcases h.2 with hn | ⟨g, cap, cur, hv, hbg, hc, rest⟩
  · exact .inl hn
  · exact .inr ⟨g, cap, cur, hv, hbg, by rw [hb g (Array.getElem?_eq_some_iff.1 hc).1]; exact hc, rest⟩

theorem info53 : ∃ i, Tryd.prog.info? 90 = some i ∧ i.zero = some (.agg #[.int .i64 0, .int .i64 0, .int .i64 0, .int .i64 0]) ∧ i.size = 4 ∧ i.bytes = 32 := by
  have h1 : (Tryd.prog.info? 90).map (fun i => (i.size, i.bytes)) = some (4, 32) := by kernel_rfl
  have h2 : (Tryd.prog.info? 90).bind (fun i => i.zero) = some (.agg #[.int .i64 0, .int .i64 0, .int .i64 0, .int .i64 0]) := by kernel_rfl
  cases hq : Tryd.prog.info? 90 with
  | none => rw [hq] at h1; cases h1
  | some i =>
    rw [hq] at h1 h2
    simp only [Option.map_some, Option.some.injEq, Prod.mk.injEq] at h1
    exact ⟨i, rfl, h2, h1.1, h1.2⟩

theorem news4 (w : World) (p0 p1 p2 p3 x tD tB : Nat) (j : Nat) (u : Value) (h : (stpCs (stp4 p0 p1 p2 p3 x tD tB))[j]? = some u) :
    (w.alloc (Obj.cells (stpCs (stp4 p0 p1 p2 p3 x tD tB)).toArray 90)).cell? ((⟨w.heap.size, 0, none⟩ : Addr).add j) = some u := by
  rw [Addr.add_mid, Nat.zero_add, World.cell?_alloc_new]
  simpa using h
theorem grown_below {B : Nat} {u w w' : World} {row : Option Nat} (h : Below B u w) (hg : w.grownBy w' row) (hr : ∀ k, row = some k → B ≤ k) (hB : B ≤ w.heap.size) : Below B u w' := h.grown hg hB hr
theorem ownsRow_ge {w : World} {base n g : Nat} {e : TypeId} {size : Nat} {v : Value} {xs : List Value} (h : w.ownsRow base e size v n xs) (hg : v.ownBlock = some g) : base ≤ g := by
  rcases h.2 with ⟨rfl, _⟩ | ⟨g', cap, cur, rfl, hb, hc, _⟩
  · cases hg
  · simp [Value.ownBlock] at hg
    subst hg
    exact hb

set_option maxRecDepth 100000 in
set_option maxHeartbeats 1000000 in
theorem steps_any (w : World) :
    Calls Tryd.prog 47 #[] w fun e w' => ∃ v, e = .returned v ∧ Below w.heap.size w w' ∧ w'.ownsRow w.heap.size 90 4 v 640 (stpCs (stpAll 10)) := by
  obtain ⟨i53, hi53, hz53, hs53, hb53⟩ := info53
  go_enter Tryd.func47, Tryd.ntmps47
  go_wp2_with (go_at_call 52; refine (rows_any w).mono ?_; rintro e w1 ⟨rfl, hb1, hz1, hr1⟩)
  have hr1' : Hid (∀ r, r < 10 → w1.cell? ⟨w.heap.size, r, none⟩ = some (.string (rowS r))) := hr1
  have hb1' : Hid (Below w.heap.size w w1) := hb1
  have hz1' : Hid (w1.heap.size = w.heap.size + 1) := hz1
  clear hr1 hb1 hz1
  go_loopg [1, 10] 10 (fun k lv rv wr => ∃ r : Nat, r + k = 10 ∧ rv = .int .i64 r ∧ wr.ownsRow w1.heap.size 90 4 lv (64 * r) (stpCs (stpAll r)) ∧ Below w1.heap.size w1 wr)
  case atStart => exact ⟨0, rfl, rfl, World.ownsRow_nil _ _ _ _, Below.refl _ _⟩
  case round =>
    obtain ⟨r, hr, rfl, hown, hbr⟩ := hrel
    by_cases hlt : r < 10
    · have hr10 : (r : Int) < 10 := by omega
      have hS : wr.cell? ⟨w.heap.size, r, none⟩ = some (.string (rowS r)) := by
        rw [hbr.cell (p := ⟨w.heap.size, r, none⟩) (by have := hz1'.out; show w.heap.size < _; omega)]
        exact hr1'.out r hlt
      have sz := rowS_size r hlt
      have hbt := PlainAid.get_bt (rowS r)
      have hbo := rowS_bt r hlt
      have ho := ord_ok r hlt
      generalize rowS r = S at *
      go_wp2_with fail
      obtain ⟨wo, rfl⟩ : ∃ wo : World, wo = wr := ⟨_, rfl⟩
      obtain ⟨ko, rfl⟩ : ∃ ko : Nat, ko = gk := ⟨_, rfl⟩
      have hown' : Hid (wo.ownsRow w1.heap.size 90 4 u1 (64 * r) (stpCs (stpAll r))) := hown
      have hbo' : Hid (∀ j, j < 16 → PlainAid.bt S j = hexB (ordN r j)) := hbo
      clear hown hbo
      go_loopg [1, 4] 8 (fun k lv iv wi => ∃ i : Nat, i + k = 8 ∧ iv = .int .i64 i ∧ wi.ownsRow w1.heap.size 90 4 lv (64 * r + 8 * i) (stpCs (stpAll r ++ stpRow r i)) ∧ Below w1.heap.size w1 wi)
      case atStart => exact ⟨0, rfl, rfl, by rw [stpRow, List.append_nil]; exact hown'.out, hbr⟩
      case round =>
        obtain ⟨i, hi, rfl, hown, hbi⟩ := hrel
        by_cases hil : i < 8
        · have hi8 : (i : Int) < 8 := by omega
          have hHown : Hid (wr.ownsRow w1.heap.size 90 4 u1 (64 * r + 8 * i) (stpCs (stpAll r ++ stpRow r i))) := hown
          clear hown
          have c4 : Hid (∀ w', Calls Tryd.prog 53 #[.int .i64 (i : Int)] w' fun e w'' => e = .returned (.agg #[.int .i64 (plcN i 0 : Int), .int .i64 (plcN i 1 : Int), .int .i64 (plcN i 2 : Int), .int .i64 (plcN i 3 : Int)]) ∧ Below w'.heap.size w' w'') := fun w' => four_any i hil w'
          have x0 := ho (2 * i) (by omega)
          have y0 := ho (2 * i + 1) (by omega)
          have bx := hbo'.out (2 * i) (by omega)
          have byy := hbo'.out (2 * i + 1) (by omega)
          have d0 : Hid (∀ w', Calls Tryd.prog 54 #[.int .u8 (hexB (ordN r (2 * i)))] w' fun e w'' => e = .returned (.int .i64 (ordN r (2 * i) : Int)) ∧ w'' = w') := fun w' => digit_any _ x0 w'
          have d1 : Hid (∀ w', Calls Tryd.prog 54 #[.int .u8 (hexB (ordN r (2 * i + 1)))] w' fun e w'' => e = .returned (.int .i64 (ordN r (2 * i + 1) : Int)) ∧ w'' = w') := fun w' => digit_any _ y0 w'
          have hstp : Hid (stpCs (stpAll r ++ stpRow r (i + 1)) = stpCs (stpAll r ++ stpRow r i) ++ stpCs (stp4 (plcN i 0) (plcN i 1) (plcN i 2) (plcN i 3) (ordN r (2 * i)) 16 12) ++ stpCs (stp4 (plcN i 0) (plcN i 1) (plcN i 2) (plcN i 3) (ordN r (2 * i + 1)) 8 7)) := by
            show stpCs _ = _
            rw [← stpCs_append, ← stpCs_append, stpRow, stp8]
            simp only [List.append_assoc]
          generalize plcN i 0 = p0 at *
          generalize plcN i 1 = p1 at *
          generalize plcN i 2 = p2 at *
          generalize plcN i 3 = p3 at *
          generalize ordN r (2 * i) = x at *
          generalize ordN r (2 * i + 1) = y at *
          generalize stpCs (stpAll r ++ stpRow r i) = XS at *
          have k0 : (0 : Int) ≤ 2 * (i : Int) := by omega
          have k1 : 2 * (i : Int) < 16 := by omega
          have k2 : (0 : Int) ≤ 2 * (i : Int) + 1 := by omega
          have k3 : 2 * (i : Int) + 1 < 16 := by omega
          have kw0 : IntKind.i64.wrap (2 * (i : Int)) = 2 * (i : Int) := IntWalk.i64_in _ ⟨by omega, by omega⟩
          have kw1 : IntKind.i64.wrap (2 * (i : Int) + 1) = 2 * (i : Int) + 1 := IntWalk.i64_in _ ⟨by omega, by omega⟩
          have k4 : (2 * (i : Int)).toNat = 2 * i := by omega
          have k5 : (2 * (i : Int) + 1).toNat = 2 * i + 1 := by omega
          have k6 : 2 * i < 16 := by omega
          have k7 : 2 * i + 1 < 16 := by omega
          go_wp2_with (go_at_call 53; refine (c4.out _).mono ?_; rintro e wa ⟨rfl, hba⟩)
          go_quiet (first | (go_at_call_of 54 (hexB x); exact Calls.quiet_of_same (d0.out _)) | (go_at_call_of 54 (hexB y); exact Calls.quiet_of_same (d1.out _)))
          generalize hwb : World.drewN _ nq = wb
          have f0 : wb.cell? ⟨wa.heap.size, 0, none⟩ = some (.int .i64 (p0 : Int)) := by rw [← hwb]; simp
          have f1 : wb.cell? ⟨wa.heap.size, 1, none⟩ = some (.int .i64 (p1 : Int)) := by rw [← hwb]; simp
          have f2 : wb.cell? ⟨wa.heap.size, 2, none⟩ = some (.int .i64 (p2 : Int)) := by rw [← hwb]; simp
          have f3 : wb.cell? ⟨wa.heap.size, 3, none⟩ = some (.int .i64 (p3 : Int)) := by rw [← hwb]; simp
          have sb : Hid (wa.heap.size < wb.heap.size) := by show _ < _; rw [← hwb]; simp
          have own1 : Hid (∀ X, (wb.alloc X).ownsRow w1.heap.size 90 4 u1 (64 * r + 8 * i) XS) := fun X => ownsRow_keep hHown.out (fun k hk => by
            have hk2 : k < wa.heap.size := Nat.lt_of_lt_of_le hk hba.size
            have hk3 := sb.out
            rw [Below.heap_alloc _ _ _ (by omega), ← hwb, World.heap_drewN, Below.heap_alloc _ _ _ hk2, hba.block k hk])
          have bel1 : Hid (Below w1.heap.size w1 wb) := by
            rw [← hwb]
            exact below_drewN ((hbi.trans (hba.mono hbi.size)).alloc (Nat.le_trans hbi.size hba.size) _) _
          have bas1 : Hid (w1.heap.size ≤ wb.heap.size) := bel1.out.size
          have HK : Hid (∀ X w2, (wb.alloc X).grownBy w2 u1.ownBlock → ∀ j, w2.cell? ⟨wa.heap.size, j, none⟩ = wb.cell? ⟨wa.heap.size, j, none⟩) := fun X w2 hg j => by
            have hk3 := sb.out
            have e1 : w2.heap[wa.heap.size]? = (wb.alloc X).heap[wa.heap.size]? := hg.block _ (by rw [World.size_alloc]; omega) (fun he => by
              have := ownsRow_lt hHown.out he.symm
              have := hba.size
              omega)
            rw [Below.heap_alloc _ _ _ hk3] at e1
            exact World.cell?_of_block (w := wb) (a := ⟨wa.heap.size, j, none⟩) e1
          clear hwb hba
          go_wp2_with (first
            | (at_builtin; refine wpList_append_own _ rfl (.tmp 31) (.tmp 53) 87 rfl w1.heap.size 90 i53 _ 4 32 Tryd.underlying87 hi53 hz53 hs53 hb53 rfl (by decide) u1 (64 * r + 8 * i) XS rfl (own1.out _) ⟨wb.heap.size, 0, none⟩ 4 4 (stpCs (stp4 p0 p1 p2 p3 x 16 12)) rfl rfl ?hnews (stpCs_one _) ?h63 ?hby ?hbase ?hrest))
          case hnews => exact news4 wb p0 p1 p2 p3 x 16 12
          case h63 => simp only [maxLen]; omega
          case hby => omega
          case hbase => rw [World.size_alloc]; have := bas1.out; omega
          case hrest =>
            intro lv2 w2 ho2 hg2 _
            have g0 := HK.out _ w2 hg2 0
            have g1 := HK.out _ w2 hg2 1
            have g2 := HK.out _ w2 hg2 2
            have g3 := HK.out _ w2 hg2 3
            rw [f0] at g0
            rw [f1] at g1
            rw [f2] at g2
            rw [f3] at g3
            have bel2 : Hid (Below w1.heap.size w1 w2) := grown_below (bel1.out.alloc bas1.out _) hg2 (fun k hk => ownsRow_ge hHown.out hk) (by rw [World.size_alloc]; have := bas1.out; omega)
            have own2 : Hid (∀ X, (w2.alloc X).ownsRow w1.heap.size 90 4 lv2 (64 * r + 8 * i + 4) (XS ++ stpCs (stp4 p0 p1 p2 p3 x 16 12))) := fun X => ownsRow_keep ho2 (fun k hk => Below.heap_alloc _ _ _ hk)
            have ho2' : Hid (w2.ownsRow w1.heap.size 90 4 lv2 (64 * r + 8 * i + 4) (XS ++ stpCs (stp4 p0 p1 p2 p3 x 16 12))) := ho2
            clear hg2 f0 f1 f2 f3 ho2
            go_wp2_with (first
              | (at_builtin; refine wpList_append_own _ rfl (.tmp 55) (.tmp 77) 87 rfl w1.heap.size 90 i53 _ 4 32 Tryd.underlying87 hi53 hz53 hs53 hb53 rfl (by decide) lv2 (64 * r + 8 * i + 4) _ rfl (own2.out _) ⟨w2.heap.size, 0, none⟩ 4 4 (stpCs (stp4 p0 p1 p2 p3 y 8 7)) rfl rfl ?hnews (stpCs_one _) ?h63 ?hby ?hbase ?hrest))
            case hnews => exact news4 w2 p0 p1 p2 p3 y 8 7
            case h63 => simp only [maxLen]; omega
            case hby => omega
            case hbase => rw [World.size_alloc]; have := bel2.out.size; omega
            case hrest =>
              intro lv3 w3 ho3 hg3 _
              have bel3 : Hid (Below w1.heap.size w1 w3) := grown_below (bel2.out.alloc bel2.out.size _) hg3 (fun k hk => ownsRow_ge ho2'.out hk) (by rw [World.size_alloc]; have := bel2.out.size; omega)
              clear hg3
              go_wp2_with fail
              go_roundg (gk - 1)
              case measure => omega
              case rel => exact ⟨i + 1, by omega, by go_num, by rw [hstp.out, List.append_assoc, show 64 * r + 8 * (i + 1) = 64 * r + 8 * i + 4 + 4 by omega]; exact ho3, bel3.out⟩
        · obtain rfl : i = 8 := by omega
          go_wp2_with fail
          go_roundg (ko - 1)
          case measure => omega
          case rel => exact ⟨r + 1, by omega, by go_num, by rw [show 64 * (r + 1) = 64 * r + 8 * 8 by omega]; exact hown, hbi⟩
    · have hrd : Hid (r = 10) := by show r = 10; omega
      go_wp2_with fail
      go_ret
      refine ⟨_, rfl, hb1'.out.trans (hbr.mono (by have := hb1'.out.size; omega)), ?_⟩
      rw [hrd.out] at hown
      exact ⟨hown.1, hown.2.imp id (fun ⟨g, cap, cur, h1, h2, h3⟩ => ⟨g, cap, cur, h1, Nat.le_trans hb1'.out.size h2, h3⟩)⟩
end Go.Proofs.YteomefhjglnghaaDoor.F
