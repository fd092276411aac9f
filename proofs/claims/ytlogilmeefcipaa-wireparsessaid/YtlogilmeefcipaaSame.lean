/- The document's Same, of two that are one node. -/
import Derived.Test.YtlogilmeefcipaaParse
import Derived.StillTail
import Derived.StillTactics
set_option linter.unusedSimpArgs false
set_option linter.unusedVariables false
set_option maxRecDepth 100000
namespace Go.Proofs.Ytlogilmeefcipaa
open Go.RowKit Go.Deep Go.PlainAid Go.Shelf

theorem mixed : Try.prog.follows .mixedOrders = true := by kernel_rfl
set_option maxHeartbeats 2000000 in
theorem same_leaf (t : ByteArray) (w : World) :
    Calls Try.prog 8 #[.agg #[.bool true, .string t, .slice none 0 0], .agg #[.bool true, .string t, .slice none 0 0]] w fun e w2 => e = .returned (.bool true) ∧ Below w.heap.size w w2 := by
  have J : Hid (Below w.heap.size w ((w.alloc (.cells #[.bool true, .string t, .slice none 0 0] 24)).alloc (.cells #[.bool true, .string t, .slice none 0 0] 24))) := ((Below.refl _ w).alloc (Nat.le_refl _) _).alloc (by simp) _
  go_enter Try.func8, Try.ntmps8
  go_wp2_with fail
  go_loopg [5] 0 (fun gk v5 wr => v5 = .int .i64 0 ∧ wr = ((w.alloc (.cells #[.bool true, .string t, .slice none 0 0] 24)).alloc (.cells #[.bool true, .string t, .slice none 0 0] 24)))
  case atStart => exact ⟨rfl, rfl⟩
  case round =>
    obtain ⟨rfl, rfl⟩ := hrel
    go_wp2_with fail
    go_ret
    exact ⟨rfl, J.out⟩
set_option maxHeartbeats 2000000 in
theorem same_list {w : World} {F G : Nat → Prop} (l : List Nd) (adr : Option Addr) (cap : Nat) (c1 c2 c3 : Nat → Value) (adr' : Option Addr) (cap' : Nat) (d1 d2 d3 : Nat → Value)
    (hc : ∀ i, i < l.length → ∃ b, adr = some ⟨b, 0, none⟩ ∧ F b ∧ b < w.heap.size ∧ w.cell? ⟨b, 3 * i, none⟩ = some (c1 i) ∧ w.cell? ⟨b, 3 * i + 1, none⟩ = some (c2 i) ∧ w.cell? ⟨b, 3 * i + 2, none⟩ = some (c3 i))
    (hd : ∀ i, i < l.length → ∃ b, adr' = some ⟨b, 0, none⟩ ∧ G b ∧ b < w.heap.size ∧ w.cell? ⟨b, 3 * i, none⟩ = some (d1 i) ∧ w.cell? ⟨b, 3 * i + 1, none⟩ = some (d2 i) ∧ w.cell? ⟨b, 3 * i + 2, none⟩ = some (d3 i))
    (ih : ∀ i, i < l.length → ∀ w', Below w.heap.size w w' → Calls Try.prog 8 #[.agg #[c1 i, c2 i, c3 i], .agg #[d1 i, d2 i, d3 i]] w' fun e w2 => e = .returned (.bool true) ∧ Below w'.heap.size w' w2)
    (hl : l.length ≤ 1048576) (w' : World) (hw : Below w.heap.size w w') :
    Calls Try.prog 8 #[.agg #[.bool false, S [], .slice adr l.length cap], .agg #[.bool false, S [], .slice adr' l.length cap']] w' fun e w2 => e = .returned (.bool true) ∧ Below w'.heap.size w' w2 := by
  generalize hW : (w'.alloc (.cells #[.bool false, S [], .slice adr l.length cap] 24)).alloc (.cells #[.bool false, S [], .slice adr' l.length cap'] 24) = W
  have I1 : IHolds W w'.heap.size 24 [.bool false, S [], .slice adr l.length cap] := by rw [← hW]; exact (IHolds.new' w' 24 [.bool false, S [], .slice adr l.length cap] rfl).alloc _
  have I2 : IHolds W (w'.heap.size + 1) 24 [.bool false, S [], .slice adr' l.length cap'] := by rw [← hW]; exact IHolds.new' (w'.alloc _) 24 [.bool false, S [], .slice adr' l.length cap'] (by simp)
  have J : Below w'.heap.size w' W := by rw [← hW]; exact ((Below.refl _ w').alloc (Nat.le_refl _) _).alloc (by simp) _
  have HC : Hid _ := hc
  have HD : Hid _ := hd
  have IH : Hid _ := ih
  clear hc hd ih
  have a0 : W.cell? ⟨w'.heap.size, 0, none⟩ = some (.bool false) := I1.cell 0 (by simp)
  have a1 : W.cell? ⟨w'.heap.size, 1, none⟩ = some (S []) := I1.cell 1 (by simp)
  have a2 : W.cell? ⟨w'.heap.size, 2, none⟩ = some (.slice adr l.length cap) := I1.cell 2 (by simp)
  have b0 : W.cell? ⟨w'.heap.size + 1, 0, none⟩ = some (.bool false) := I2.cell 0 (by simp)
  have b1 : W.cell? ⟨w'.heap.size + 1, 1, none⟩ = some (S []) := I2.cell 1 (by simp)
  have b2 : W.cell? ⟨w'.heap.size + 1, 2, none⟩ = some (.slice adr' l.length cap') := I2.cell 2 (by simp)
  go_enter Try.func8, Try.ntmps8
  go_wp2_with fail
  go_loopg [5] l.length (fun gk v5 wr => ∃ i : Nat, i + gk = l.length ∧ v5 = .int .i64 (i : Int) ∧ Below W.heap.size W wr)
  case atStart => exact ⟨0, by omega, rfl, Below.refl _ _⟩
  case round =>
    obtain ⟨i, hig, rfl, hB⟩ := hrel
    have B : Hid (Below W.heap.size W wr) := hB
    have a2' : wr.cell? ⟨w'.heap.size, 2, none⟩ = some (.slice adr l.length cap) := (I1.of_below hB).cell 2 (by simp)
    have b2' : wr.cell? ⟨w'.heap.size + 1, 2, none⟩ = some (.slice adr' l.length cap') := (I2.of_below hB).cell 2 (by simp)
    clear a0 a1 a2 b0 b1 b2
    have JW : Hid (Below w.heap.size w wr) := hw.trans ((J.trans (hB.mono J.size)).mono hw.size)
    clear hB
    by_cases hi : i < l.length
    · obtain ⟨b, rfl, _, hb, x1, x2, x3⟩ := HC.out i hi
      obtain ⟨b', rfl, _, hb', y1, y2, y3⟩ := HD.out i hi
      have x1' : wr.cell? ⟨b, i * 3, none⟩ = some (c1 i) := by rw [Nat.mul_comm i 3]; exact (World.cell?_of_block (a := ⟨b, _, none⟩) (JW.out.block b hb)).trans x1
      have x2' : wr.cell? ⟨b, i * 3 + 1, none⟩ = some (c2 i) := by rw [Nat.mul_comm i 3]; exact (World.cell?_of_block (a := ⟨b, _, none⟩) (JW.out.block b hb)).trans x2
      have x3' : wr.cell? ⟨b, i * 3 + 2, none⟩ = some (c3 i) := by rw [Nat.mul_comm i 3]; exact (World.cell?_of_block (a := ⟨b, _, none⟩) (JW.out.block b hb)).trans x3
      have y1' : wr.cell? ⟨b', i * 3, none⟩ = some (d1 i) := by rw [Nat.mul_comm i 3]; exact (World.cell?_of_block (a := ⟨b', _, none⟩) (JW.out.block b' hb')).trans y1
      have y2' : wr.cell? ⟨b', i * 3 + 1, none⟩ = some (d2 i) := by rw [Nat.mul_comm i 3]; exact (World.cell?_of_block (a := ⟨b', _, none⟩) (JW.out.block b' hb')).trans y2
      have y3' : wr.cell? ⟨b', i * 3 + 2, none⟩ = some (d3 i) := by rw [Nat.mul_comm i 3]; exact (World.cell?_of_block (a := ⟨b', _, none⟩) (JW.out.block b' hb')).trans y3
      have hcall := IH.out i hi
      clear x1 x2 x3 y1 y2 y3 hb hb'
      have il : (i : Int) < (l.length : Int) := by omega
      have BD : Hid (Below w.heap.size w wr.drew) := JW.out.trans ⟨rfl, rfl, rfl, Nat.le_refl _, fun _ _ => rfl⟩
      have BE : Hid (Below W.heap.size W wr.drew) := B.out.trans ⟨rfl, rfl, rfl, Nat.le_refl _, fun _ _ => rfl⟩
      go_wp2_with fail
      refine wp_region_still_tail 10 mixed (by kernel_rfl) ?_
      simp only [List.take_succ_cons, List.take_zero, List.drop_succ_cons, List.drop_zero]
      show wpStill _ _ wr.drew _ _ _
      repeat still_step
      refine wpStill_nil ?_
      clear x1' x2' x3' y1' y2' y3'
      go_wp2_with (go_at_call 8; refine (hcall _ BD.out).mono ?_; rintro e w3 ⟨rfl, hB3⟩)
      go_roundg (gk - 1)
      case measure => omega
      case rel => exact ⟨i + 1, by omega, by go_num, BE.out.trans (hB3.mono BE.out.size)⟩
    · have il : ¬ (i : Int) < (l.length : Int) := by omega
      go_wp2_with fail
      go_ret
      exact ⟨rfl, J.trans (B.out.mono J.size)⟩
/-- No list is too long. -/
inductive NOk : Nd → Prop where
  | leaf (t : List UInt8) : NOk (.leaf t)
  | list (l : List Nd) (h : l.length ≤ 1048576) (hs : ∀ n, n ∈ l → NOk n) : NOk (.list l)
theorem leafN_ok {l r : List UInt8} {n : Nd} (h : leafN l = some (n, r)) : NOk n := by
  cases hc : leafP l with
  | none => simp [leafN, hc] at h
  | some p =>
    obtain ⟨t, r'⟩ := p
    simp only [leafN, hc, Option.some.injEq, Prod.mk.injEq] at h
    rw [← h.1]
    exact .leaf t
theorem listP_ok {f : List UInt8 → Option (Nd × List UInt8)} (hf : ∀ l n r, l.length ≤ 1048576 → f l = some (n, r) → NOk n) (hl : ∀ l n r, f l = some (n, r) → r.length < l.length) : ∀ k l ns r, l.length ≤ 1048576 → listP f k l = some (ns, r) → ns.length + r.length ≤ l.length ∧ ∀ n, n ∈ ns → NOk n
  | 0, l, ns, r, _, h => by simp [listP] at h
  | k + 1, l, ns, r, hb, h => by
    rw [listP] at h
    split at h
    · rename_i h1
      simp only [Option.some.injEq, Prod.mk.injEq] at h
      rw [← h.1, ← h.2]
      exact ⟨by simp, fun n hn => by simp at hn⟩
    · cases h2 : f l with
      | none => simp [h2] at h
      | some p =>
        obtain ⟨n, r1⟩ := p
        simp only [h2] at h
        cases h3 : listP f k r1 with
        | none => simp [h3] at h
        | some q =>
          obtain ⟨ns', r2⟩ := q
          simp only [h3, Option.some.injEq, Prod.mk.injEq] at h
          have e1 := hl _ _ _ h2
          obtain ⟨e2, e3⟩ := listP_ok hf hl k _ _ _ (by omega) h3
          rw [← h.1, ← h.2]
          refine ⟨by simp; omega, fun m hm => ?_⟩
          rcases List.mem_cons.1 hm with rfl | hm
          · exact hf _ _ _ hb h2
          · exact e3 m hm
theorem nodeP_ok : ∀ d l n r, l.length ≤ 1048576 → nodeP d l = some (n, r) → NOk n
  | 0, l, n, r, _, h => by
    rw [nodeP] at h
    split at h
    · cases h
    · exact leafN_ok h
  | d + 1, l, n, r, hb, h => by
    rw [nodeP] at h
    split at h
    · cases h2 : listP (nodeP d) (l.length + 1) l.tail with
      | none => simp [h2] at h
      | some q =>
        obtain ⟨ns', r2⟩ := q
        simp only [h2, Option.some.injEq, Prod.mk.injEq] at h
        obtain ⟨e1, e2⟩ := listP_ok (nodeP_ok d) (nodeP_len d) _ _ _ _ (by simp; omega) h2
        rw [← h.1]
        exact .list _ (by simp at e1; omega) e2
    · exact leafN_ok h
theorem parsV_ok (l : List UInt8) : NOk (parsV l).1 := by
  unfold parsV
  split
  · exact .list [] (by simp) (fun n hn => by simp at hn)
  · rename_i hb
    cases hp : parsP l with
    | none => exact .list [] (by simp) (fun n hn => by simp at hn)
    | some n =>
      unfold parsP at hp
      split at hp
      · rename_i n' h2
        cases hp
        exact nodeP_ok 12 l n [] (by omega) h2
      · cases hp
/-- Of one node twice in memory Same tells that they are the same. -/
theorem same_any {w : World} {F G : Nat → Prop} {n : Nd} {a b c : Value} (h : NAt w F n a b c) (hok : NOk n) : ∀ a' b' c', NAt w G n a' b' c' → ∀ w', Below w.heap.size w w' →
    Calls Try.prog 8 #[.agg #[a, b, c], .agg #[a', b', c']] w' fun e w2 => e = .returned (.bool true) ∧ Below w'.heap.size w' w2 := by
  induction h with
  | leaf t =>
    intro a' b' c' h' w' hw
    cases h'
    exact same_leaf ⟨t.toArray⟩ w'
  | list l adr cap c1 c2 c3 hc hn ih =>
    intro a' b' c' h' w' hw
    cases h' with
    | list _ adr' cap' d1 d2 d3 hd hm =>
      cases hok with
      | list _ hl hs =>
        exact same_list l adr cap c1 c2 c3 adr' cap' d1 d2 d3 hc hd (fun i hi w2 hw2 => ih i hi (hs _ (List.getElem_mem hi)) _ _ _ (hm i hi) w2 hw2) hl w' hw
end Go.Proofs.Ytlogilmeefcipaa
