/- The reader's node. -/
import Derived.Test.YtlogilmeefcipaaDoorNodeP
import Derived.Laws.Rows
set_option linter.unusedSimpArgs false
set_option linter.unusedVariables false
set_option maxRecDepth 100000
namespace Go.Proofs.YtlogilmeefcipaaDoor
open Go.RowKit Go.Deep Go.PlainAid Go.Shelf

theorem info24 : (Tryd.prog.info? 24).map (fun i => (i.zero, i.size, i.bytes)) = some (some (.agg #[.bool false, .string ⟨#[]⟩, .slice none 0 0]), 3, 48) := by kernel_rfl
theorem size24 : (Tryd.prog.info? 24).map (·.size) = some 3 := by kernel_rfl
theorem put3 {w : World} {b : Nat} {x y z : Value} (h : IHolds w b 24 [x, y, z]) (x' y' z' : Value) : IHolds (((w.setCell ⟨b, 0, none⟩ x').setCell ⟨b, 1, none⟩ y').setCell ⟨b, 2, none⟩ z') b 24 [x', y', z'] := ((h.set 0 x').set 1 y').set 2 z'
theorem put3_but (w : World) (b : Nat) (x' y' z' : Value) : But b w (((w.setCell ⟨b, 0, none⟩ x').setCell ⟨b, 1, none⟩ y').setCell ⟨b, 2, none⟩ z') := (((But.refl b w).setCell 0 x').setCell 1 y').setCell 2 z'
/-- What turned was the reader's block and one that was not there. -/
theorem But.join {g b : Nat} {w w1 w2 w3 : World} (h1 : But g w w1) (h2 : But g w1 w2) (h3 : But b w2 w3) (hb : w.heap.size ≤ b) : But g w w3 := by
  have h := h1.trans h2
  exact ⟨h3.os.trans h.os, h3.tape.trans h.tape, h3.output.trans h.output, Nat.le_trans h.size h3.size, fun k hk hg => (h3.block k (Nat.lt_of_lt_of_le hk h.size) (by omega)).trans (h.block k hk hg)⟩
/-- How a node is read: nothing but the reader's block turns, of what was there. -/
def NodeC (d : Nat) : Prop := ∀ (l : List UInt8) (g : Nat) (w : World), l.length ≤ 1048576 → IHolds w g 50 [S l] →
  Calls Tryd.prog 35 #[.pointer (some ⟨g, 0, none⟩), .int .i64 (12 - (d : Int))] w fun e w' => But g w w' ∧ (match nodeP d l with
    | none => e = thrF
    | some (n, r) => IHolds w' g 50 [S r] ∧ ∃ a b c, e = .returned (.agg #[a, b, c]) ∧ NAt w' (fun k => w.heap.size ≤ k) n a b c)
set_option maxHeartbeats 1000000 in
theorem rnode_leaf (ar : Int) (l : List UInt8) (g : Nat) (w : World) (hl : l.length ≤ 1048576) (hr : IHolds w g 50 [S l]) (hh : ¬ l.head? = some 40) :
    Calls Tryd.prog 35 #[.pointer (some ⟨g, 0, none⟩), .int .i64 ar] w fun e w' => But g w w' ∧ (match leafN l with
    | none => e = thrF
    | some (n, r) => IHolds w' g 50 [S r] ∧ ∃ a b c, e = .returned (.agg #[a, b, c]) ∧ NAt w' (fun k => w.heap.size ≤ k) n a b c) := by
  have hq : (l.head? == some 40) = false := by simpa using hh
  have ha : aft l 40 = l := by simp [aft, hh]
  have R0 : Hid (IHolds (w.alloc zN) g 50 [S l]) := hr.alloc _
  have B0 : Hid (But g w (w.alloc zN)) := But.of_below ((Below.refl _ w).alloc (Nat.le_refl _) _)
  have lt := hr.lt
  clear hr
  have hc := comes_any l 40 g _ R0.out
  rw [hq, ha] at hc
  have N0 : Hid ((w.alloc zN).heap[w.heap.size]? = some zN) := heap_alloc_new w _
  have hS : (w.alloc zN).heap.size = w.heap.size + 1 := by simp
  cases hlp : leafP l with
  | none =>
    have hln := fun w1 h => leaf_no l g w1 (by omega) h hlp
    simp only [leafN, hlp]
    clear hlp
    go_enter Tryd.func35, Tryd.ntmps35
    go_wp2_with (first | (go_at_call 40; refine hc.mono ?_; rintro e w1 ⟨rfl, hR1, hB1⟩; have R1 : Hid (IHolds w1 g 50 [S l]) := hR1; have B1 : Hid (But g w w1) := B0.out.trans hB1; clear hR1 hB1) | (go_at_call 41; refine (hln _ R1.out).mono ?_; rintro e w2 ⟨rfl, hB2⟩))
    exact ⟨rfl, B1.out.trans hB2, rfl⟩
  | some p =>
    obtain ⟨tx, r⟩ := p
    have hln := fun w1 h => leaf_ok l tx r g w1 (by omega) h hlp
    simp only [leafN, hlp]
    clear hlp
    go_enter Tryd.func35, Tryd.ntmps35
    go_wp2_with (first | (go_at_call 40; refine hc.mono ?_; rintro e w1 ⟨rfl, hR1, hB1⟩; have R1 : Hid (IHolds w1 g 50 [S l]) := hR1; have B1 : Hid (But g (w.alloc zN) w1) := hB1; clear hR1 hB1) | (go_at_call 41; refine (hln _ R1.out).mono ?_; rintro e w2 ⟨rfl, hR2, hB2⟩; have N2 : Hid (w2.heap[w.heap.size]? = some zN) := (by show _ = _; rw [(B1.out.trans hB2).block w.heap.size (by omega) (by omega)]; exact N0.out); have R2 : Hid (IHolds w2 g 50 [S r]) := hR2; have B2 : Hid (But g (w.alloc zN) w2) := B1.out.trans hB2; have M2 : Hid (IHolds w2 w.heap.size 24 [.bool false, .string ⟨#[]⟩, .slice none 0 0]) := N2.out; have c0 : w2.cell? ⟨w.heap.size, 0, none⟩ = some (.bool false) := M2.out.cell 0 (by simp); have c1 : w2.cell? ⟨w.heap.size, 1, none⟩ = some (.string ⟨#[]⟩) := M2.out.cell 1 (by simp); have c2 : w2.cell? ⟨w.heap.size, 2, none⟩ = some (.slice none 0 0) := M2.out.cell 2 (by simp); have f0 : w2.frozen? ⟨w.heap.size, 0, none⟩ = false := M2.out.frozen 0; have f1 : w2.frozen? ⟨w.heap.size, 1, none⟩ = false := M2.out.frozen 1; have f2 : w2.frozen? ⟨w.heap.size, 2, none⟩ = false := M2.out.frozen 2; clear hR2 hB2))
    have P3 := put3 M2.out (.bool true) (S tx) (.slice none 0 0)
    have Q3 := put3_but w2 w.heap.size (.bool true) (S tx) (.slice none 0 0)
    refine bodyPost_ret (v := .agg #[.bool true, S tx, .slice none 0 0]) (results_cell_row Tryd.results35 _ _ w.heap.size 24 #[.bool true, S tx, .slice none 0 0] (0, 0) _ rfl P3 Tryd.underlying24 rfl size24) rfl ⟨B0.out.join B2.out Q3 (Nat.le_refl _), ?_, _, _, _, rfl, .leaf tx⟩
    unfold IHolds
    rw [Q3.block g R2.out.lt (by omega)]
    exact R2.out
end Go.Proofs.YtlogilmeefcipaaDoor
