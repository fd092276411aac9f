/- The document's Box. -/
import Derived.Test.YtafekaonmpkhiaaDj
import Derived.Test.YtafekaonmpkhiaaEa
set_option linter.unusedSimpArgs false
set_option linter.unusedVariables false
set_option maxRecDepth 100000
namespace Go.Proofs.Ytafekaonmpkhiaa
open Go.RowKit Go.Shelf Go.Deep Go.PlainAid Go.Maps Go.WideMaps

def nmR (r : BR) (nm : ByteArray) : ByteArray := if r.ok = true then nm else ⟨#[]⟩
def cellsB (r : BR) (nm : ByteArray) : List Value := [.string (nmR r nm), .int .i64 r.count, .string r.holder, .string r.sl]
theorem bx_take {l : List Hd} {k : Nat} (h : k < l.length) (nm : ByteArray) : bx (l.take (k + 1)) nm = bstep nm (bx (l.take k) nm) l[k] := by
  rw [List.take_succ_eq_append_getElem h, bx_snoc]
def BXV (l : List Hd) (nm : ByteArray) : Value := .tuple #[.agg (cellsB (bx l nm) nm).toArray, .string (bx l nm).under, .bool (bx l nm).opn, .bool (bx l nm).ok]
theorem act_or (a : Int) : a = 1 ∨ a = 2 ∨ a = 3 ∨ a = 4 ∨ a = 5 ∨ (a ≠ 1 ∧ a ≠ 2 ∧ a ≠ 3 ∧ a ≠ 4 ∧ a ≠ 5) := by omega
theorem act_ne {a : Int} (h : a ≠ 1 ∧ a ≠ 2 ∧ a ≠ 3 ∧ a ≠ 4 ∧ a ≠ 5) : (a == 1) = false ∧ (a == 2) = false ∧ (a == 3) = false ∧ (a == 4) = false ∧ (a == 5) = false := by simpa using h
set_option maxHeartbeats 8000000 in
theorem box14 {l : List Hd} {w : World} {v : Value} {nm : ByteArray} (h : HLs w v l) (hl : l.length < 140737488355328) :
    Calls Try.prog 14 #[v, .string nm] w fun e w' => e = .returned (BXV l nm) ∧ Below w.heap.size w w' := by
  obtain ⟨a, c, rfl, hq⟩ := h
  have G1 : Hid (HLs w (.slice a l.length c) l) := ⟨a, c, rfl, hq⟩
  clear hq
  have I0 : Hid (IHolds (w.alloc (.cells #[.string ⟨#[]⟩, .int .i64 0, .string ⟨#[]⟩, .string ⟨#[]⟩] 38)) w.heap.size 38 (cellsB BR0 nm)) := IHolds.new w 38 _
  have B0 : Hid (Below w.heap.size w (w.alloc (.cells #[.string ⟨#[]⟩, .int .i64 0, .string ⟨#[]⟩, .string ⟨#[]⟩] 38))) := (Below.refl _ w).alloc (Nat.le_refl _) _
  go_enter Try.func14, Try.ntmps14
  go_wp2_with fail
  generalize (w.alloc (.cells #[.string ⟨#[]⟩, .int .i64 0, .string ⟨#[]⟩, .string ⟨#[]⟩] 38)) = V1 at *
  go_loopw [5, 6, 7, 12] (fun v5 v6 v7 v12 wr => ∃ k : Nat, k ≤ l.length ∧ ∃ r : BR, r = bx (l.take k) nm ∧ v12 = .int .i64 (k : Int) ∧ v5 = .string r.under ∧ v6 = .bool r.opn ∧ v7 = .bool r.ok ∧ Below w.heap.size w wr ∧ IHolds wr w.heap.size 38 (cellsB r nm)) (fun v5 v6 v7 v12 _ => l.length - intC v12)
  case atStart => exact ⟨0, by omega, BR0, rfl, by simp, rfl, rfl, rfl, B0.out, I0.out⟩
  case round =>
    clear B0 I0
    obtain ⟨k, hk, r, hr, rfl, rfl, rfl, rfl, hB, hI⟩ := hrel
    have HB : Hid (Below w.heap.size w wr) := hB
    have HI : Hid (IHolds wr w.heap.size 38 (cellsB r nm)) := hI
    by_cases hlt : k < l.length
    · have il : (k : Int) < (l.length : Int) := by omega
      obtain ⟨a, c, e, q⟩ := G1.out.of_below hB
      cases e
      obtain ⟨b1, o1, rfl, p0, p1, p2, p3, p4, p5⟩ := q k hlt
      have BX := hB.size
      have bt := bx_take hlt nm
      rw [← hr] at bt
      generalize l[k] = x at *
      have E1 : Hid (x.box = nm → bact r x = bx (l.take (k + 1)) nm) := fun e => by rw [bt, bstep, if_pos e]
      have E2 : Hid (x.box ≠ nm → r = bx (l.take (k + 1)) nm) := fun e => by rw [bt, bstep, if_neg e]
      have J0 : Hid (IHolds (wr.alloc (.cells #[.int .i64 x.act, .string x.box, .string x.who, .string x.to_, .int .i64 x.cnt, .string x.sl] 26)) w.heap.size 38 (cellsB r nm)) := HI.out.alloc _
      have HB2 : Hid (Below w.heap.size w (wr.alloc (.cells #[.int .i64 x.act, .string x.box, .string x.who, .string x.to_, .int .i64 x.cnt, .string x.sl] 26))) := HB.out.alloc HB.out.size _
      have wl : w.heap.size ≠ wr.heap.size := by have := hI.lt; omega
      have z0 := J0.out.cell 0 (by simp [cellsB])
      have z1 := J0.out.cell 1 (by simp [cellsB])
      have z2 := J0.out.cell 2 (by simp [cellsB])
      have z3 := J0.out.cell 3 (by simp [cellsB])
      have f0 := J0.out.frozen 0
      have f1 := J0.out.frozen 1
      have f2 := J0.out.frozen 2
      have f3 := J0.out.frozen 3
      clear q hB hI HB HI bt hr
      by_cases hx : x.box = nm
      · subst hx
        rcases act_or x.act with a1 | a2 | a3 | a4 | a5 | ao
        · have e1 : bact r x = { r with ok := true, count := x.cnt, holder := x.who, sl := x.sl } := by simp [bact, a1]
          have EX : Hid (({ r with ok := true, count := x.cnt, holder := x.who, sl := x.sl } : BR) = bx (l.take (k + 1)) x.box) := e1.symm.trans (E1.out rfl)
          rw [a1] at p0 J0 HB2 z0 z1 z2 z3 f0 f1 f2 f3
          have JX : Hid (IHolds (((((wr.alloc (.cells #[.int .i64 1, .string x.box, .string x.who, .string x.to_, .int .i64 x.cnt, .string x.sl] 26)).setCell ⟨w.heap.size, 0, none⟩ (.string x.box)).setCell ⟨w.heap.size, 1, none⟩ (.int .i64 x.cnt)).setCell ⟨w.heap.size, 2, none⟩ (.string x.who)).setCell ⟨w.heap.size, 3, none⟩ (.string x.sl)) w.heap.size 38 (cellsB ({ r with ok := true, count := x.cnt, holder := x.who, sl := x.sl } : BR) x.box)) := ((((J0.out.set 0 (.string x.box)).set 1 (.int .i64 x.cnt)).set 2 (.string x.who)).set 3 (.string x.sl))
          have BX : Hid (Below w.heap.size w (((((wr.alloc (.cells #[.int .i64 1, .string x.box, .string x.who, .string x.to_, .int .i64 x.cnt, .string x.sl] 26)).setCell ⟨w.heap.size, 0, none⟩ (.string x.box)).setCell ⟨w.heap.size, 1, none⟩ (.int .i64 x.cnt)).setCell ⟨w.heap.size, 2, none⟩ (.string x.who)).setCell ⟨w.heap.size, 3, none⟩ (.string x.sl))) := ((((HB2.out.setCell (p := ⟨w.heap.size, 0, none⟩) (Nat.le_refl _) (.string x.box)).setCell (p := ⟨w.heap.size, 1, none⟩) (Nat.le_refl _) (.int .i64 x.cnt)).setCell (p := ⟨w.heap.size, 2, none⟩) (Nat.le_refl _) (.string x.who)).setCell (p := ⟨w.heap.size, 3, none⟩) (Nat.le_refl _) (.string x.sl))
          clear e1 E1 E2
          go_wp2_with fail
          go_roundw
          case rel => exact ⟨k + 1, by omega, _, EX.out, by simp, rfl, rfl, rfl, BX.out, JX.out⟩
          case measure => simp [intC]; omega
        · have e1 : bact r x = { r with under := x.to_ } := by simp [bact, a2]
          have EX : Hid (({ r with under := x.to_ } : BR) = bx (l.take (k + 1)) x.box) := e1.symm.trans (E1.out rfl)
          rw [a2] at p0 J0 HB2 z0 z1 z2 z3 f0 f1 f2 f3
          have JX : Hid (IHolds (wr.alloc (.cells #[.int .i64 2, .string x.box, .string x.who, .string x.to_, .int .i64 x.cnt, .string x.sl] 26)) w.heap.size 38 (cellsB ({ r with under := x.to_ } : BR) x.box)) := J0.out
          have BX : Hid (Below w.heap.size w (wr.alloc (.cells #[.int .i64 2, .string x.box, .string x.who, .string x.to_, .int .i64 x.cnt, .string x.sl] 26))) := HB2.out
          clear e1 E1 E2
          go_wp2_with fail
          go_roundw
          case rel => exact ⟨k + 1, by omega, _, EX.out, by simp, rfl, rfl, rfl, BX.out, JX.out⟩
          case measure => simp [intC]; omega
        · have e1 : bact r x = { r with holder := x.who, under := ⟨#[]⟩ } := by simp [bact, a3]
          have EX : Hid (({ r with holder := x.who, under := ⟨#[]⟩ } : BR) = bx (l.take (k + 1)) x.box) := e1.symm.trans (E1.out rfl)
          rw [a3] at p0 J0 HB2 z0 z1 z2 z3 f0 f1 f2 f3
          have JX : Hid (IHolds ((wr.alloc (.cells #[.int .i64 3, .string x.box, .string x.who, .string x.to_, .int .i64 x.cnt, .string x.sl] 26)).setCell ⟨w.heap.size, 2, none⟩ (.string x.who)) w.heap.size 38 (cellsB ({ r with holder := x.who, under := ⟨#[]⟩ } : BR) x.box)) := (J0.out.set 2 (.string x.who))
          have BX : Hid (Below w.heap.size w ((wr.alloc (.cells #[.int .i64 3, .string x.box, .string x.who, .string x.to_, .int .i64 x.cnt, .string x.sl] 26)).setCell ⟨w.heap.size, 2, none⟩ (.string x.who))) := (HB2.out.setCell (p := ⟨w.heap.size, 2, none⟩) (Nat.le_refl _) (.string x.who))
          clear e1 E1 E2
          go_wp2_with fail
          go_roundw
          case rel => exact ⟨k + 1, by omega, _, EX.out, by simp, rfl, rfl, rfl, BX.out, JX.out⟩
          case measure => simp [intC]; omega
        · have e1 : bact r x = { r with opn := true, sl := ⟨#[]⟩ } := by simp [bact, a4]
          have EX : Hid (({ r with opn := true, sl := ⟨#[]⟩ } : BR) = bx (l.take (k + 1)) x.box) := e1.symm.trans (E1.out rfl)
          rw [a4] at p0 J0 HB2 z0 z1 z2 z3 f0 f1 f2 f3
          have JX : Hid (IHolds ((wr.alloc (.cells #[.int .i64 4, .string x.box, .string x.who, .string x.to_, .int .i64 x.cnt, .string x.sl] 26)).setCell ⟨w.heap.size, 3, none⟩ (.string ⟨#[]⟩)) w.heap.size 38 (cellsB ({ r with opn := true, sl := ⟨#[]⟩ } : BR) x.box)) := (J0.out.set 3 (.string ⟨#[]⟩))
          have BX : Hid (Below w.heap.size w ((wr.alloc (.cells #[.int .i64 4, .string x.box, .string x.who, .string x.to_, .int .i64 x.cnt, .string x.sl] 26)).setCell ⟨w.heap.size, 3, none⟩ (.string ⟨#[]⟩))) := (HB2.out.setCell (p := ⟨w.heap.size, 3, none⟩) (Nat.le_refl _) (.string ⟨#[]⟩))
          clear e1 E1 E2
          go_wp2_with fail
          go_roundw
          case rel => exact ⟨k + 1, by omega, _, EX.out, by simp, rfl, rfl, rfl, BX.out, JX.out⟩
          case measure => simp [intC]; omega
        · have e1 : bact r x = { r with opn := false, sl := x.sl, count := x.cnt } := by simp [bact, a5]
          have EX : Hid (({ r with opn := false, sl := x.sl, count := x.cnt } : BR) = bx (l.take (k + 1)) x.box) := e1.symm.trans (E1.out rfl)
          rw [a5] at p0 J0 HB2 z0 z1 z2 z3 f0 f1 f2 f3
          have JX : Hid (IHolds (((wr.alloc (.cells #[.int .i64 5, .string x.box, .string x.who, .string x.to_, .int .i64 x.cnt, .string x.sl] 26)).setCell ⟨w.heap.size, 3, none⟩ (.string x.sl)).setCell ⟨w.heap.size, 1, none⟩ (.int .i64 x.cnt)) w.heap.size 38 (cellsB ({ r with opn := false, sl := x.sl, count := x.cnt } : BR) x.box)) := ((J0.out.set 3 (.string x.sl)).set 1 (.int .i64 x.cnt))
          have BX : Hid (Below w.heap.size w (((wr.alloc (.cells #[.int .i64 5, .string x.box, .string x.who, .string x.to_, .int .i64 x.cnt, .string x.sl] 26)).setCell ⟨w.heap.size, 3, none⟩ (.string x.sl)).setCell ⟨w.heap.size, 1, none⟩ (.int .i64 x.cnt))) := ((HB2.out.setCell (p := ⟨w.heap.size, 3, none⟩) (Nat.le_refl _) (.string x.sl)).setCell (p := ⟨w.heap.size, 1, none⟩) (Nat.le_refl _) (.int .i64 x.cnt))
          clear e1 E1 E2
          go_wp2_with fail
          go_roundw
          case rel => exact ⟨k + 1, by omega, _, EX.out, by simp, rfl, rfl, rfl, BX.out, JX.out⟩
          case measure => simp [intC]; omega
        · have e1 : bact r x = r := by simp [bact, ao.1, ao.2.1, ao.2.2.1, ao.2.2.2.1, ao.2.2.2.2]
          have EX : Hid (r = bx (l.take (k + 1)) x.box) := e1.symm.trans (E1.out rfl)
          obtain ⟨g1, g2, g3, g4, g5⟩ := act_ne ao
          clear e1 E1 E2 ao
          generalize x.act = ac at *
          go_wp2_with fail
          go_roundw
          case rel => exact ⟨k + 1, by omega, _, EX.out, by simp, rfl, rfl, rfl, HB2.out, J0.out⟩
          case measure => simp [intC]; omega
      · have EX : Hid (r = bx (l.take (k + 1)) nm) := E2.out hx
        have hx2 := str_ne hx
        clear hx E1 E2
        go_wp2_with fail
        go_roundw
        case rel => exact ⟨k + 1, by omega, _, EX.out, by simp, rfl, rfl, rfl, HB2.out, J0.out⟩
        case measure => simp [intC]; omega
    · obtain rfl : k = l.length := by omega
      rw [List.take_length] at hr
      have EV : Hid (BXV l nm = .tuple #[.agg #[.string (nmR r nm), .int .i64 r.count, .string r.holder, .string r.sl], .string r.under, .bool r.opn, .bool r.ok]) := by show _ = _; unfold BXV; rw [← hr]; rfl
      have z0 : wr.cell? ⟨w.heap.size, 0, none⟩ = some (.string (nmR r nm)) := hI.cell 0 (by simp [cellsB])
      have z1 : wr.cell? ⟨w.heap.size, 1, none⟩ = some (.int .i64 r.count) := hI.cell 1 (by simp [cellsB])
      have z2 : wr.cell? ⟨w.heap.size, 2, none⟩ = some (.string r.holder) := hI.cell 2 (by simp [cellsB])
      have z3 : wr.cell? ⟨w.heap.size, 3, none⟩ = some (.string r.sl) := hI.cell 3 (by simp [cellsB])
      have f0 := hI.frozen 0
      have f1 := hI.frozen 1
      have f2 := hI.frozen 2
      have f3 := hI.frozen 3
      clear hr hB hI
      go_wp2_with fail
      refine bodyPost_ret (v := .tuple #[.agg #[.string (nmR r nm), .int .i64 r.count, .string r.holder, .string r.sl], .string r.under, .bool r.opn, .bool r.ok]) (by simp [results, Try.results14, go_sem, z0, z1, z2, z3]) rfl ⟨by rw [EV.out], ?_⟩
      repeat' (first | exact HB.out | refine Below.setCell ?_ (by exact Nat.le_refl _) _)
end Go.Proofs.Ytafekaonmpkhiaa
