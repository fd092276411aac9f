/- Nodes that came in, in memory; the document's Good. -/
import Derived.Test.YtlogilmeefcipaaDoorPr0
import Derived.StillTail
import Derived.StillTactics
import Derived.Laws.Rows
set_option linter.unusedSimpArgs false
set_option linter.unusedVariables false
set_option maxRecDepth 100000
namespace Go.Proofs.YtlogilmeefcipaaDoor
open Go.RowKit Go.Deep Go.PlainAid

/-- A text, as a value. -/
abbrev S (l : List UInt8) : Value := .string ⟨l.toArray⟩
theorem size_S (l : List UInt8) : (⟨l.toArray⟩ : ByteArray).size = l.length := by simp [ByteArray.size]
theorem IHolds.new' (w : World) (t : TypeId) (l : List Value) {b : Nat} (h : w.heap.size = b) : IHolds (w.alloc (.cells l.toArray t)) b t l := by subst h; exact IHolds.new w t l
/-- A node's three parts lie so. -/
inductive GAt (w : World) : Gn → Value → Value → Value → Prop where
  | mk (lf : Bool) (t : List UInt8) (l : List Gn) (adr : Option Addr) (cap : Nat) (c1 c2 c3 : Nat → Value)
      (hc : ∀ i, i < l.length → ∃ b o, adr = some ⟨b, o, none⟩ ∧ b < w.heap.size ∧ w.cell? ⟨b, o + 3 * i, none⟩ = some (c1 i) ∧ w.cell? ⟨b, o + 3 * i + 1, none⟩ = some (c2 i) ∧ w.cell? ⟨b, o + 3 * i + 2, none⟩ = some (c3 i))
      (hn : ∀ i (h : i < l.length), GAt w l[i] (c1 i) (c2 i) (c3 i)) : GAt w (.mk lf t l) (.bool lf) (S t) (.slice adr l.length cap)
theorem GAt.keep {w w' : World} {n : Gn} {a b c : Value} (h : GAt w n a b c) (hb : Below w.heap.size w w') : GAt w' n a b c := by
  induction h with
  | mk lf t l adr cap c1 c2 c3 hc hn ih =>
    refine .mk lf t l adr cap c1 c2 c3 ?_ ih
    intro i hi
    obtain ⟨b, o, h1, h3, h4, h5, h6⟩ := hc i hi
    have e := hb.block b h3
    exact ⟨b, o, h1, Nat.lt_of_lt_of_le h3 hb.size, (World.cell?_of_block (a := ⟨b, _, none⟩) e).trans h4, (World.cell?_of_block (a := ⟨b, _, none⟩) e).trans h5, (World.cell?_of_block (a := ⟨b, _, none⟩) e).trans h6⟩
theorem GAt.form {w : World} {n : Gn} {a b c : Value} (h : GAt w n a b c) : ∃ ab bb ca cm cc, a = .bool ab ∧ b = .string bb ∧ c = .slice ca cm cc := by
  cases h; exact ⟨_, _, _, _, _, rfl, rfl, rfl⟩
theorem bk_mem {l : List Gn} {n : Gn} (h : n ∈ l) : bk [n] ≤ bk l := by
  induction l with
  | nil => simp at h
  | cons m l ih =>
    rw [bk_cons m l]
    rcases List.mem_cons.1 h with rfl | h
    · omega
    · have := ih h; omega
theorem goods_take {l : List Gn} {i : Nat} (h : i < l.length) : goods (l.take (i + 1)) = (goods (l.take i) && goods [l[i]]) := by
  rw [List.take_succ_eq_append_getElem h, goods_append]
theorem goods_false {l : List Gn} {i : Nat} (h : i < l.length) (hg : goods [l[i]] = false) : goods l = false := by
  have e : l = l.take (i + 1) ++ l.drop (i + 1) := (List.take_append_drop _ _).symm
  rw [e, goods_append, goods_take h, hg]; simp
theorem goods_leaf (t : List UInt8) (l : List Gn) : goods [.mk true t l] = l.isEmpty := by rw [goods]; simp [goods]
theorem goods_list (t : List UInt8) (l : List Gn) : goods [.mk false t l] = (t.isEmpty && goods l) := by rw [goods]; simp [goods]
theorem len_int (l : List Gn) : ((l.length : Int) == 0) = l.isEmpty := by cases l <;> simp <;> omega
abbrev zN : Obj := .cells #[.bool false, .string ⟨#[]⟩, .slice none 0 0] 24
set_option maxHeartbeats 1000000 in
theorem good_leaf (t : List UInt8) (l : List Gn) (adr : Option Addr) (cap : Nat) (w : World) :
    Calls Tryd.prog 10 #[.agg #[.bool true, S t, .slice adr l.length cap]] w fun e w2 => e = .returned (.bool (goods [.mk true t l])) ∧ Below w.heap.size w w2 := by
  rw [goods_leaf, ← len_int]
  have J : Hid (Below w.heap.size w (w.alloc (.cells #[.bool true, S t, .slice adr l.length cap] 24))) := (Below.refl _ w).alloc (Nat.le_refl _) _
  go_enter Tryd.func10, Tryd.ntmps10
  go_wp2_with fail
  go_ret
  exact ⟨rfl, J.out⟩
set_option maxHeartbeats 1000000 in
theorem good_text (x : UInt8) (t : List UInt8) (l : List Gn) (adr : Option Addr) (cap : Nat) (w : World) :
    Calls Tryd.prog 10 #[.agg #[.bool false, S (x :: t), .slice adr l.length cap]] w fun e w2 => e = .returned (.bool (goods [.mk false (x :: t) l])) ∧ Below w.heap.size w w2 := by
  rw [goods_list]
  have J : Hid (Below w.heap.size w (w.alloc (.cells #[.bool false, S (x :: t), .slice adr l.length cap] 24))) := (Below.refl _ w).alloc (Nat.le_refl _) _
  have q : ((⟨(x :: t).toArray⟩ : ByteArray).toList == []) = false := by rw [ByteArray.toList_eq]; simp
  go_enter Tryd.func10, Tryd.ntmps10
  go_wp2_with fail
  go_ret
  exact ⟨rfl, J.out⟩
set_option maxHeartbeats 2000000 in
theorem good_list {w : World} (l : List Gn) (adr : Option Addr) (cap : Nat) (c1 c2 c3 : Nat → Value)
    (hc : ∀ i, i < l.length → ∃ b o, adr = some ⟨b, o, none⟩ ∧ b < w.heap.size ∧ w.cell? ⟨b, o + 3 * i, none⟩ = some (c1 i) ∧ w.cell? ⟨b, o + 3 * i + 1, none⟩ = some (c2 i) ∧ w.cell? ⟨b, o + 3 * i + 2, none⟩ = some (c3 i))
    (hf : ∀ i, i < l.length → ∃ ab bb ca cm cc, c1 i = .bool ab ∧ c2 i = .string bb ∧ c3 i = .slice ca cm cc)
    (ih : ∀ i (h : i < l.length), ∀ w', Below w.heap.size w w' → Calls Tryd.prog 10 #[.agg #[c1 i, c2 i, c3 i]] w' fun e w2 => e = .returned (.bool (goods [l[i]])) ∧ Below w'.heap.size w' w2)
    (hl : l.length ≤ 1048576) (w' : World) (hw : Below w.heap.size w w') :
    Calls Tryd.prog 10 #[.agg #[.bool false, S [], .slice adr l.length cap]] w' fun e w2 => e = .returned (.bool (goods l)) ∧ Below w'.heap.size w' w2 := by
  generalize hW : w'.alloc (.cells #[.bool false, S [], .slice adr l.length cap] 24) = W
  have I1 : IHolds W w'.heap.size 24 [.bool false, S [], .slice adr l.length cap] := by rw [← hW]; exact IHolds.new' w' 24 [.bool false, S [], .slice adr l.length cap] rfl
  have J : Below w'.heap.size w' W := by rw [← hW]; exact (Below.refl _ w').alloc (Nat.le_refl _) _
  have HC : Hid _ := hc
  have HF : Hid _ := hf
  have IH : Hid _ := ih
  clear hc hf ih
  have a0 : W.cell? ⟨w'.heap.size, 0, none⟩ = some (.bool false) := I1.cell 0 (by simp)
  have a1 : W.cell? ⟨w'.heap.size, 1, none⟩ = some (S []) := I1.cell 1 (by simp)
  have a2 : W.cell? ⟨w'.heap.size, 2, none⟩ = some (.slice adr l.length cap) := I1.cell 2 (by simp)
  go_enter Tryd.func10, Tryd.ntmps10
  go_wp2_with fail
  go_loopg [4, 17] l.length (fun gk v4 v17 wr => ∃ i : Nat, i + gk = l.length ∧ v17 = .int .i64 (i : Int) ∧ Below W.heap.size W wr ∧ goods (l.take i) = true)
  case atStart => exact ⟨0, by omega, rfl, Below.refl _ _, by simp [goods]⟩
  case round =>
    obtain ⟨i, hig, rfl, hB, hg⟩ := hrel
    have B : Hid (Below W.heap.size W wr) := hB
    clear a0 a1 a2
    have JW : Hid (Below w.heap.size w wr) := hw.trans ((J.trans (hB.mono J.size)).mono hw.size)
    clear hB
    by_cases hi : i < l.length
    · obtain ⟨b, o, rfl, hb, x1, x2, x3⟩ := HC.out i hi
      obtain ⟨ab, bb, ca, cm, cc, e1, e2, e3⟩ := HF.out i hi
      have hcall := IH.out i hi
      rw [e1] at x1
      rw [e2] at x2
      rw [e3] at x3
      rw [e1, e2, e3] at hcall
      have x1' : wr.cell? ⟨b, o + i * 3, none⟩ = some (.bool ab) := by rw [Nat.mul_comm i 3]; exact (World.cell?_of_block (a := ⟨b, _, none⟩) (JW.out.block b hb)).trans x1
      have x2' : wr.cell? ⟨b, o + i * 3 + 1, none⟩ = some (.string bb) := by rw [Nat.mul_comm i 3]; exact (World.cell?_of_block (a := ⟨b, _, none⟩) (JW.out.block b hb)).trans x2
      have x3' : wr.cell? ⟨b, o + i * 3 + 2, none⟩ = some (.slice ca cm cc) := by rw [Nat.mul_comm i 3]; exact (World.cell?_of_block (a := ⟨b, _, none⟩) (JW.out.block b hb)).trans x3
      clear x1 x2 x3 hb e1 e2 e3
      have il : (i : Int) < (l.length : Int) := by omega
      have BA : Hid (Below w.heap.size w (wr.alloc (.cells #[.bool ab, .string bb, .slice ca cm cc] 24))) := JW.out.alloc JW.out.size _
      have BE : Hid (Below W.heap.size W (wr.alloc (.cells #[.bool ab, .string bb, .slice ca cm cc] 24))) := B.out.alloc B.out.size _
      cases hgi : goods [l[i]] with
      | true =>
        rw [hgi] at hcall
        go_wp2_with (go_at_call 10; refine (hcall _ BA.out).mono ?_; rintro e w3 ⟨rfl, hB3⟩)
        go_roundg (gk - 1)
        case measure => omega
        case rel => exact ⟨i + 1, by omega, by go_num, BE.out.trans (hB3.mono BE.out.size), by rw [goods_take hi, hg, hgi]; rfl⟩
      | false =>
        rw [hgi] at hcall
        have hno := goods_false hi hgi
        go_wp2_with (go_at_call 10; refine (hcall _ BA.out).mono ?_; rintro e w3 ⟨rfl, hB3⟩)
        go_ret
        exact ⟨by rw [hno]; rfl, J.trans ((BE.out.trans (hB3.mono BE.out.size)).mono J.size)⟩
    · have il : ¬ (i : Int) < (l.length : Int) := by omega
      go_wp2_with fail
      go_ret
      have e : i = l.length := by omega
      rw [e, List.take_length] at hg
      exact ⟨by rw [hg]; rfl, J.trans (B.out.mono J.size)⟩
/-- The document's Good. -/
theorem good_any {w : World} {n : Gn} {a b c : Value} (h : GAt w n a b c) : bk [n] ≤ 1048576 → ∀ w', Below w.heap.size w w' →
    Calls Tryd.prog 10 #[.agg #[a, b, c]] w' fun e w2 => e = .returned (.bool (goods [n])) ∧ Below w'.heap.size w' w2 := by
  induction h with
  | mk lf t l adr cap c1 c2 c3 hc hn ih =>
    intro hk w' hw
    rw [bk] at hk
    cases lf with
    | true => exact good_leaf t l adr cap w'
    | false =>
      cases t with
      | cons x t => exact good_text x t l adr cap w'
      | nil =>
        rw [goods_list]
        exact good_list l adr cap c1 c2 c3 hc (fun i hi => (hn i hi).form) (fun i hi => ih i hi (by have := bk_mem (List.getElem_mem hi); simp at hk; omega)) (by have := len_bk l; omega) w' hw
end Go.Proofs.YtlogilmeefcipaaDoor
