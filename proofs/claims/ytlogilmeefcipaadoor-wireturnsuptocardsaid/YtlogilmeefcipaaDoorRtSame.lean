/- The document's Same, of two that are one node. -/
import Derived.Test.YtlogilmeefcipaaDoorRtP
import Derived.StillTail
import Derived.StillTactics
set_option linter.unusedSimpArgs false
set_option linter.unusedVariables false
set_option maxRecDepth 100000
namespace Go.Proofs.YtlogilmeefcipaaDoor
open Go.RowKit Go.Deep Go.PlainAid

theorem mixed : Tryd.prog.follows .mixedOrders = true := by kernel_rfl
set_option maxHeartbeats 2000000 in
theorem same_list {w : World} (lf : Bool) (t : List UInt8) (l : List Gn) (adr : Option Addr) (cap : Nat) (c1 c2 c3 : Nat → Value) (adr' : Option Addr) (cap' : Nat) (d1 d2 d3 : Nat → Value)
    (hc : ∀ i, i < l.length → ∃ b o, adr = some ⟨b, o, none⟩ ∧ b < w.heap.size ∧ w.cell? ⟨b, o + 3 * i, none⟩ = some (c1 i) ∧ w.cell? ⟨b, o + 3 * i + 1, none⟩ = some (c2 i) ∧ w.cell? ⟨b, o + 3 * i + 2, none⟩ = some (c3 i))
    (hd : ∀ i, i < l.length → ∃ b o, adr' = some ⟨b, o, none⟩ ∧ b < w.heap.size ∧ w.cell? ⟨b, o + 3 * i, none⟩ = some (d1 i) ∧ w.cell? ⟨b, o + 3 * i + 1, none⟩ = some (d2 i) ∧ w.cell? ⟨b, o + 3 * i + 2, none⟩ = some (d3 i))
    (ih : ∀ i, i < l.length → ∀ w', Below w.heap.size w w' → Calls Tryd.prog 9 #[.agg #[c1 i, c2 i, c3 i], .agg #[d1 i, d2 i, d3 i]] w' fun e w2 => e = .returned (.bool true) ∧ Below w'.heap.size w' w2)
    (hl : l.length ≤ 1048576) (w' : World) (hw : Below w.heap.size w w') :
    Calls Tryd.prog 9 #[.agg #[.bool lf, S t, .slice adr l.length cap], .agg #[.bool lf, S t, .slice adr' l.length cap']] w' fun e w2 => e = .returned (.bool true) ∧ Below w'.heap.size w' w2 := by
  generalize hW : (w'.alloc (.cells #[.bool lf, S t, .slice adr l.length cap] 24)).alloc (.cells #[.bool lf, S t, .slice adr' l.length cap'] 24) = W
  have I1 : IHolds W w'.heap.size 24 [.bool lf, S t, .slice adr l.length cap] := by rw [← hW]; exact (IHolds.new' w' 24 [.bool lf, S t, .slice adr l.length cap] rfl).alloc _
  have I2 : IHolds W (w'.heap.size + 1) 24 [.bool lf, S t, .slice adr' l.length cap'] := by rw [← hW]; exact IHolds.new' (w'.alloc _) 24 [.bool lf, S t, .slice adr' l.length cap'] (by simp)
  have J : Below w'.heap.size w' W := by rw [← hW]; exact ((Below.refl _ w').alloc (Nat.le_refl _) _).alloc (by simp) _
  have HC : Hid _ := hc
  have HD : Hid _ := hd
  have IH : Hid _ := ih
  clear hc hd ih
  have a0 : W.cell? ⟨w'.heap.size, 0, none⟩ = some (.bool lf) := I1.cell 0 (by simp)
  have a1 : W.cell? ⟨w'.heap.size, 1, none⟩ = some (S t) := I1.cell 1 (by simp)
  have a2 : W.cell? ⟨w'.heap.size, 2, none⟩ = some (.slice adr l.length cap) := I1.cell 2 (by simp)
  have b0 : W.cell? ⟨w'.heap.size + 1, 0, none⟩ = some (.bool lf) := I2.cell 0 (by simp)
  have b1 : W.cell? ⟨w'.heap.size + 1, 1, none⟩ = some (S t) := I2.cell 1 (by simp)
  have b2 : W.cell? ⟨w'.heap.size + 1, 2, none⟩ = some (.slice adr' l.length cap') := I2.cell 2 (by simp)
  go_enter Tryd.func9, Tryd.ntmps9
  go_wp2_with fail
  go_loopg [5] l.length (fun gk v5 wr => ∃ i : Nat, i + gk = l.length ∧ v5 = .int .i64 (i : Int) ∧ Below W.heap.size W wr)
  case atStart => exact ⟨0, by omega, rfl, Below.refl _ _⟩
  case round =>
    obtain ⟨i, hig, rfl, hB⟩ := hrel
    have B : Hid (Below W.heap.size W wr) := hB
    have a2' : wr.cell? ⟨w'.heap.size, 2, none⟩ = some (.slice adr l.length cap) := (I1.of_below hB).cell 2 (by simp)
    have b2' : wr.cell? ⟨w'.heap.size + 1, 2, none⟩ = some (.slice adr' l.length cap') := (I2.of_below hB).cell 2 (by simp)
    clear a0 a1 a2 b0 b1 b2
    have JW : Hid (Below w.heap.size w wr) := hw.trans ((J.trans (hB.mono J.size)).mono hw.size)
    clear hB
    by_cases hi : i < l.length
    · obtain ⟨b, o, rfl, hb, x1, x2, x3⟩ := HC.out i hi
      obtain ⟨b', o', rfl, hb', y1, y2, y3⟩ := HD.out i hi
      have x1' : wr.cell? ⟨b, o + i * 3, none⟩ = some (c1 i) := by rw [Nat.mul_comm i 3]; exact (World.cell?_of_block (a := ⟨b, _, none⟩) (JW.out.block b hb)).trans x1
      have x2' : wr.cell? ⟨b, o + i * 3 + 1, none⟩ = some (c2 i) := by rw [Nat.mul_comm i 3]; exact (World.cell?_of_block (a := ⟨b, _, none⟩) (JW.out.block b hb)).trans x2
      have x3' : wr.cell? ⟨b, o + i * 3 + 2, none⟩ = some (c3 i) := by rw [Nat.mul_comm i 3]; exact (World.cell?_of_block (a := ⟨b, _, none⟩) (JW.out.block b hb)).trans x3
      have y1' : wr.cell? ⟨b', o' + i * 3, none⟩ = some (d1 i) := by rw [Nat.mul_comm i 3]; exact (World.cell?_of_block (a := ⟨b', _, none⟩) (JW.out.block b' hb')).trans y1
      have y2' : wr.cell? ⟨b', o' + i * 3 + 1, none⟩ = some (d2 i) := by rw [Nat.mul_comm i 3]; exact (World.cell?_of_block (a := ⟨b', _, none⟩) (JW.out.block b' hb')).trans y2
      have y3' : wr.cell? ⟨b', o' + i * 3 + 2, none⟩ = some (d3 i) := by rw [Nat.mul_comm i 3]; exact (World.cell?_of_block (a := ⟨b', _, none⟩) (JW.out.block b' hb')).trans y3
      have hcall := IH.out i hi
      clear x1 x2 x3 y1 y2 y3 hb hb'
      have il : (i : Int) < (l.length : Int) := by omega
      have BD : Hid (Below w.heap.size w wr.drew) := JW.out.trans ⟨rfl, rfl, rfl, Nat.le_refl _, fun _ _ => rfl⟩
      have BE : Hid (Below W.heap.size W wr.drew) := B.out.trans ⟨rfl, rfl, rfl, Nat.le_refl _, fun _ _ => rfl⟩
      go_wp2_with fail
      refine wp_region_still_tail 10 mixed (by kernel_rfl) ?_
      simp only [List.take_succ_cons, List.take_zero, List.drop_succ_cons, List.drop_zero]
      show wpStill _ _ wr.drew _ _ _
      repeat still_step
      refine wpStill_nil ?_
      clear x1' x2' x3' y1' y2' y3'
      go_wp2_with (go_at_call 9; refine (hcall _ BD.out).mono ?_; rintro e w3 ⟨rfl, hB3⟩)
      go_roundg (gk - 1)
      case measure => omega
      case rel => exact ⟨i + 1, by omega, by go_num, BE.out.trans (hB3.mono BE.out.size)⟩
    · have il : ¬ (i : Int) < (l.length : Int) := by omega
      go_wp2_with fail
      go_ret
      exact ⟨rfl, J.trans (B.out.mono J.size)⟩
/-- Of one node twice in memory Same tells that they are the same. -/
theorem same_any {w : World} {n : Gn} {a b c : Value} (h : GAt w n a b c) : bk [n] ≤ 1048576 → ∀ a' b' c', GAt w n a' b' c' → ∀ w', Below w.heap.size w w' →
    Calls Tryd.prog 9 #[.agg #[a, b, c], .agg #[a', b', c']] w' fun e w2 => e = .returned (.bool true) ∧ Below w'.heap.size w' w2 := by
  induction h with
  | mk lf t l adr cap c1 c2 c3 hc hn ih =>
    intro hk a' b' c' h' w' hw
    rw [bk] at hk
    cases h' with
    | mk _ _ _ adr' cap' d1 d2 d3 hd hm =>
      exact same_list lf t l adr cap c1 c2 c3 adr' cap' d1 d2 d3 hc hd (fun i hi w2 hw2 => ih i hi (by have := bk_mem (List.getElem_mem hi); omega) _ _ _ (hm i hi) w2 hw2) (by have := len_bk l; omega) w' hw
end Go.Proofs.YtlogilmeefcipaaDoor
