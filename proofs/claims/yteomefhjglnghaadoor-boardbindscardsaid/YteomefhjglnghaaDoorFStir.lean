/- The walks of Stir and Unstir: for any words, what they answer; nothing that was there turns. -/
import Derived.Test.YteomefhjglnghaaDoorFStir4
import Derived.Deep.RegionHeld3
import Derived.Deep.LoopGhost
set_option linter.unusedSimpArgs false
set_option linter.unusedVariables false
set_option maxRecDepth 100000
namespace Go.Proofs.YteomefhjglnghaaDoor.F
open Go.RowKit
theorem results_cell {P : Program} {fn : Func} {p : Tmp} {ty : TypeId} (h : fn.results = #[.cell p ty]) (tmps : Array Value) (w : World) (b o : Nat) (cs : List Value) (d : TypeDesc)
    (hp : tmps.getD p undef = .pointer (some ⟨b, o, none⟩)) (hc : w.rangeAt b o cs) (hu : P.underlying ty = some d) (hd : d.isRow = true) (hi : (P.info? ty).map (·.size) = some cs.length) :
    (results fn tmps).run P w = .ok (.agg cs.toArray) w := by
  have := run_loadVar_mid w b o ty cs d hc hu hd hi
  rw [Array.getD_eq_getD_getElem?] at hp
  simp only [results, h]
  simp [Sem.run_bind, hp, asAddr, this]
theorem size23 : (Tryd.prog.info? 74).map (·.size) = some 16 := by kernel_rfl
theorem arr_one (l : List UInt32) : (arr l).all (·.oneCell') = true := all_oneCell_toArray (fun v hv => by obtain ⟨x, _, rfl⟩ := List.mem_map.1 hv; rfl)
abbrev z16 : Array Value := #[.int .u8 0, .int .u8 0, .int .u8 0, .int .u8 0, .int .u8 0, .int .u8 0, .int .u8 0, .int .u8 0, .int .u8 0, .int .u8 0, .int .u8 0, .int .u8 0, .int .u8 0, .int .u8 0, .int .u8 0, .int .u8 0]
theorem z16_get : ∀ j, j < 16 → (z16[j]?).isSome = true := by decide
theorem size44 : (Tryd.prog.info? 102).map (·.size) = some 16 := by kernel_rfl
set_option maxHeartbeats 400000 in
theorem stir_any (l m : List UInt32) (hl : l.length = 16) (hm : m.length = 16) (w : World) (hT : Tabs w) :
    Calls Tryd.prog 57 #[.agg (arr l), .agg (arr m)] w fun e w' => e = .returned (.agg (arr (stirs m 10 l))) ∧ Below w.heap.size w w' := by
  have s1 := arr_size
  have hT0 : Hid (2 < w.heap.size) := hT.size
  go_enter Tryd.func57, Tryd.ntmps57
  go_wp2_with fail
  obtain ⟨w2, hw2⟩ : ∃ w2, w2 = ((w.alloc (Obj.cells (arr l) 74)).alloc (Obj.cells (arr m) 74)).alloc (Obj.cells (arr (List.replicate 16 0)) 74) := ⟨_, rfl⟩
  have a1 : Holds w2 w.heap.size 74 l := by rw [hw2]; exact ((Holds.new w 74 l).alloc _).alloc _
  have a2 : Holds w2 (w.heap.size + 1) 74 m := by rw [hw2]; have := Holds.new (w.alloc (Obj.cells (arr l) 74)) 74 m; rw [World.size_alloc] at this; exact this.alloc _
  have a3 : Holds w2 (w.heap.size + 1 + 1) 74 (List.replicate 16 0) := by rw [hw2]; have := Holds.new ((w.alloc (Obj.cells (arr l) 74)).alloc (Obj.cells (arr m) 74)) 74 (List.replicate 16 0); rw [World.size_alloc, World.size_alloc] at this; exact this
  have a4 : Hid (Below w.heap.size w w2) := by rw [hw2]; exact (((Below.refl _ w).alloc (Nat.le_refl _) _).alloc (by simp) _).alloc (by simp; omega) _
  have a5 : Hid (w.heap.size + 3 = w2.heap.size) := by rw [hw2]; simp [Hid]
  change Code.wp _ _ _ _ (((w.alloc (Obj.cells (arr l) 74)).alloc (Obj.cells (arr m) 74)).alloc (Obj.cells (arr (List.replicate 16 0)) 74))
  rw [← hw2]
  clear hw2
  go_loopg [8] 10 (fun k v8 wr => ∃ r : Nat, r + k = 10 ∧ v8 = .int .i64 r ∧ Holds wr w.heap.size 74 (stirs m r l) ∧ But w.heap.size w2 wr)
  case atStart => exact ⟨0, rfl, rfl, a1, But.refl _ _⟩
  case round =>
    obtain ⟨r, hr, rfl, hv, hb⟩ := hrel
    by_cases hlt : r < 10
    · have hr10 : (r : Int) < 10 := by omega
      have hrow := ((hT.of_below a4.out hT0.out).of_but hb hT0.out).row r hlt
      have hi44 : (Tryd.prog.info? 102).map (·.size) = some (ordRow r).length := by rw [size44, ordRow_len r hlt]
      have hi44' : (Tryd.prog.info? 102).map (·.size) = some (ordRow r).toArray.size := by rw [List.size_toArray]; exact hi44
      have h1c : (ordRow r).toArray.all (·.oneCell') = true := all_oneCell_toArray (ordRow_one r)
      have hth : (wr.alloc (Obj.cells z16 102)).there wr.heap.size 0 (ordRow r).toArray.size := by
        intro j hj
        rw [List.size_toArray, ordRow_len r hlt] at hj
        rw [Nat.zero_add, World.cell?_alloc_new, World.frozen?_alloc_new]
        exact ⟨z16_get j hj, rfl⟩
      go_wp2_with (first
        | (refine wpList_load_mid rfl 102 (.tmp 12) rfl 1 (r * 16) rfl (ordRow r) _ hrow Tryd.underlying102 rfl hi44 ?_)
        | (refine wpList_store_mid rfl 102 (.tmp 6) (.tmp 13) rfl wr.heap.size 0 (ordRow r).toArray rfl rfl hth hi44' h1c ?_))
      obtain ⟨w3, hw3⟩ : ∃ w3, w3 = (wr.alloc (Obj.cells z16 102)).setCells wr.heap.size 0 (ordRow r) := ⟨_, rfl⟩
      have b3 : But w.heap.size wr w3 := by rw [hw3]; exact But.setNews (Nat.le_refl _) _ _ _ ((But.refl _ _).alloc _)
      have r3 : w3.rangeAt wr.heap.size 0 (ordRow r) := by rw [hw3]; exact World.rangeAt_setCells_same _ _ _ _ (by simpa using hth)
      have z3 : Hid (wr.heap.size < w3.heap.size) := by show _ < _; rw [hw3, size_setCells, World.size_alloc]; omega
      have g0 : Hid (w.heap.size + 3 ≤ wr.heap.size) := by have := hb.size; have := a5.out; show _ ≤ _; omega
      have T3 := ((hT.of_below a4.out hT0.out).of_but hb hT0.out).of_but b3 hT0.out
      have M3 : Holds w3 (w.heap.size + 1) 74 m := b3.holds (hb.holds a2 (by omega)) (by omega)
      have v3 : Holds w3 w.heap.size 74 (stirs m r l) := by
        have := hv.alloc (Obj.cells z16 102)
        rw [hw3]
        unfold Holds
        rw [((But.setNews (b := wr.heap.size) (u := wr) (Nat.le_refl _) (ordRow r) 0 _ ((But.refl _ _).alloc _))).block _ hv.lt (by have := hv.lt; omega)]
        exact hv
      rw [← hw3]
      clear hw3 hth hi44 hi44' h1c hrow
      have hLl : (stirs m r l).length = 16 := by rw [stirs_length, hl]
      obtain ⟨wo, rfl⟩ : ∃ wo : World, wo = wr := ⟨_, rfl⟩
      obtain ⟨ko, rfl⟩ : ∃ ko : Nat, ko = gk := ⟨_, rfl⟩
      go_loopg [14] 8 (fun k v14 wi => ∃ i : Nat, i + k = 8 ∧ v14 = .int .i64 i ∧ Holds wi w.heap.size 74 (stirRow m r i (stirs m r l)) ∧ But w.heap.size w3 wi)
      case atStart => exact ⟨0, rfl, rfl, v3, But.refl _ _⟩
      case round =>
        obtain ⟨i, hi, rfl, hvi, hbi⟩ := hrel
        by_cases hil : i < 8
        · have hi8 : (i : Int) < 8 := by omega
          obtain ⟨lp0, lp1, lp2, lp3, n01, n02, n03, n12, n13, n23⟩ := plc_ok i hil
          have lj0 := ord_ok r hlt (2 * i) (by omega)
          have lj1 := ord_ok r hlt (2 * i + 1) (by omega)
          have hst : Hid (stirAt m r i (stirRow m r i (stirs m r l)) = stirRow m r (i + 1) (stirs m r l)) := rfl
          unfold stirAt at hst
          have ord0 := r3 (2 * i) _ (ordRow_get r (2 * i) hlt (by omega))
          have ord1 := r3 (2 * i + 1) _ (ordRow_get r (2 * i + 1) hlt (by omega))
          rw [Nat.zero_add] at ord0 ord1
          have mx := M3.cell (ordN r (2 * i)) (by omega)
          have my := M3.cell (ordN r (2 * i + 1)) (by omega)
          have pc0 : w3.cell? ⟨2, i * 4, none⟩ = some (B8 (plcN i 0)) := T3.plc (i * 4) (by omega)
          have pc1 : w3.cell? ⟨2, i * 4 + 1, none⟩ = some (B8 (plcN i 1)) := T3.plc (i * 4 + 1) (by omega)
          have pc2 : w3.cell? ⟨2, i * 4 + 2, none⟩ = some (B8 (plcN i 2)) := T3.plc (i * 4 + 2) (by omega)
          have pc3 : w3.cell? ⟨2, i * 4 + 3, none⟩ = some (B8 (plcN i 3)) := T3.plc (i * 4 + 3) (by omega)
          generalize plcN i 0 = p0 at *
          generalize plcN i 1 = p1 at *
          generalize plcN i 2 = p2 at *
          generalize plcN i 3 = p3 at *
          generalize ordN r (2 * i) = j0 at *
          generalize ordN r (2 * i + 1) = j1 at *
          generalize m.getD j0 0 = x at *
          generalize m.getD j1 0 = y at *
          have HS : Hid (∀ w', But w.heap.size w3 w' → (w'.cell? ⟨2, i * 4, none⟩ = some (B8 p0) ∧ w'.cell? ⟨2, i * 4 + 1, none⟩ = some (B8 p1) ∧ w'.cell? ⟨2, i * 4 + 2, none⟩ = some (B8 p2) ∧ w'.cell? ⟨2, i * 4 + 3, none⟩ = some (B8 p3) ∧
              w'.cell? ⟨wo.heap.size, 2 * i, none⟩ = some (B8 j0) ∧ w'.cell? ⟨wo.heap.size, 2 * i + 1, none⟩ = some (B8 j1) ∧ w'.cell? ⟨w.heap.size + 1, j0, none⟩ = some (U x) ∧ w'.cell? ⟨w.heap.size + 1, j1, none⟩ = some (U y))) := by
            have := hT0.out
            have := g0.out
            have := z3.out
            have := T3.size
            intro w' hw'
            refine ⟨?_, ?_, ?_, ?_, ?_, ?_, ?_, ?_⟩
            all_goals rw [hw'.cell (by omega) (by omega)]
            all_goals assumption
          have k0 : (0 : Int) ≤ 2 * (i : Int) := by omega
          have k1 : 2 * (i : Int) < 16 := by omega
          have k2 : (0 : Int) ≤ 2 * (i : Int) + 1 := by omega
          have k3 : 2 * (i : Int) + 1 < 16 := by omega
          have kw0 : IntKind.i64.wrap (2 * (i : Int)) = 2 * (i : Int) := IntWalk.i64_in _ ⟨by omega, by omega⟩
          have kw1 : IntKind.i64.wrap (2 * (i : Int) + 1) = 2 * (i : Int) + 1 := IntWalk.i64_in _ ⟨by omega, by omega⟩
          have k4 : (2 * (i : Int)).toNat = 2 * i := by omega
          have k5 : (2 * (i : Int) + 1).toNat = 2 * i + 1 := by omega
          have bx0 : (0 : Int) ≤ (j0 : Int) := by omega
          have bx1 : (j0 : Int) < 16 := by omega
          have by0 : (0 : Int) ≤ (j1 : Int) := by omega
          have by1 : (j1 : Int) < 16 := by omega
          have hLi : (stirRow m r i (stirs m r l)).length = 16 := by rw [stirRow_length, hLl]
          generalize stirRow m r i (stirs m r l) = L at *
          clear ord0 ord1 mx my pc0 pc1 pc2 pc3 M3 T3 r3 v3
          have hvd : Holds wr.drew w.heap.size 74 L := hvi
          go_wp2_with fail
          go_region_held3 (fun w' => (w'.cell? ⟨2, i * 4, none⟩ = some (B8 p0) ∧ w'.cell? ⟨2, i * 4 + 1, none⟩ = some (B8 p1) ∧ w'.cell? ⟨2, i * 4 + 2, none⟩ = some (B8 p2) ∧ w'.cell? ⟨2, i * 4 + 3, none⟩ = some (B8 p3) ∧
              w'.cell? ⟨wo.heap.size, 2 * i, none⟩ = some (B8 j0) ∧ w'.cell? ⟨wo.heap.size, 2 * i + 1, none⟩ = some (B8 j1) ∧ w'.cell? ⟨w.heap.size + 1, j0, none⟩ = some (U x) ∧ w'.cell? ⟨w.heap.size + 1, j1, none⟩ = some (U y)))
            (first | exact HS.out _ hbi.drew | exact HS.out _ (hbi.trans hb'.of_drew))
            (first | (go_at_call 58; refine (stirFour_any w.heap.size p0 p1 p2 p3 74 L x y _ hvd hLi lp0 lp1 lp2 lp3 n01 n02 n03 n12 n13 n23).mono ?_; rintro e w' ⟨rfl, hv', hb'⟩))
          go_wp2_with fail
          go_roundg (gk - 1)
          case measure => omega
          case rel => exact ⟨i + 1, by omega, by go_num, by rw [← hst.out]; exact hv', hbi.trans hb'.of_drew⟩
        · go_wp2_with fail
          obtain rfl : i = 8 := by omega
          go_roundg (ko - 1)
          case measure => omega
          case rel => exact ⟨r + 1, by omega, by go_num, hvi, (hb.trans b3).trans hbi⟩
    · have hrd : Hid (r = 10) := by show r = 10; omega
      have hLl : (stirs m r l).length = 16 := by rw [stirs_length, hl]
      generalize hLd : stirs m r l = L at *
      have HL : Hid (stirs m r l = L) := hLd
      clear hLd
      have hrg := hv.range
      have h3 := hb.holds a3 (by omega)
      have hth : wr.there (w.heap.size + 1 + 1) 0 (L.map U).toArray.size := by
        intro j hj
        rw [List.size_toArray, List.length_map, hLl] at hj
        rw [Nat.zero_add, h3.cell j (by simpa using hj), h3.frozen]
        exact ⟨rfl, rfl⟩
      have hi23 : (Tryd.prog.info? 74).map (·.size) = some (L.map U).length := by rw [size23, List.length_map, hLl]
      have hi23' : (Tryd.prog.info? 74).map (·.size) = some (L.map U).toArray.size := by rw [size23, List.size_toArray, List.length_map, hLl]
      have h1c := arr_one L
      generalize hAd : L.map U = A at *
      have HA : Hid (L.map U = A) := hAd
      clear hAd
      have h1c' : A.toArray.all (·.oneCell') = true := by rw [← HA.out]; exact h1c
      clear h1c hLl
      go_wp2_with (first
        | (refine wpList_load_mid rfl 74 (.tmp 2) rfl w.heap.size 0 rfl A _ hrg Tryd.underlying74 rfl hi23 ?_)
        | (refine wpList_store_mid rfl 74 (.tmp 4) (.tmp 36) rfl (w.heap.size + 1 + 1) 0 A.toArray rfl rfl hth hi23' h1c' ?_))
      refine bodyPost_ret (v := .agg A.toArray) (results_cell Tryd.results57 _ _ (w.heap.size + 1 + 1) 0 A _ rfl (World.rangeAt_setCells_same _ _ _ _ (by simpa using hth)) Tryd.underlying74 rfl hi23) rfl ⟨?_, ?_⟩
      · rw [← HA.out, ← HL.out, hrd.out]; rfl
      · exact Below.setNews (by omega) _ _ _ (a4.out.trans (hb.below (by have := a5.out; omega) (Nat.le_refl _)))
end Go.Proofs.YteomefhjglnghaaDoor.F
