/- The writer's node. -/
import Derived.Test.YtlogilmeefcipaaDoorPrW
import Derived.Test.YtlogilmeefcipaaDoorNumsWalk
set_option linter.unusedSimpArgs false
set_option linter.unusedVariables false
set_option maxRecDepth 100000
namespace Go.Proofs.YtlogilmeefcipaaDoor
open Go.RowKit Go.Deep Go.PlainAid

theorem gPow0 : Tryd.prog.globalNamed "internal/strconv.uint64pow10" = some 0 := by kernel_rfl
/-- The table of powers lies there. -/
abbrev Pows (w : World) : Prop := Lib.TabIs Tryd.prog w "internal/strconv.uint64pow10" .u64 Lib.pow10Tab
theorem Pows.keep {w w' : World} (h : Pows w) (hb : Below w.heap.size w w') : Pows w' := by
  unfold Pows Lib.TabIs World.var? at *
  rw [gPow0] at *
  simp only [Option.bind_eq_bind, Option.bind_some] at *
  have hlt : 0 < w.heap.size := by
    rcases Nat.lt_or_ge 0 w.heap.size with h' | h'
    · exact h'
    · simp [Array.getElem?_eq_none h'] at h
  rw [hb.block 0 hlt]
  exact h
theorem itoa_ok (n : Nat) (hn : n ≤ 1048576) (w : World) (h : Pows w) : Calls Tryd.prog 25 #[.int .i64 (n : Int)] w fun e w' => e = .returned (S (txt n)) ∧ Below w.heap.size w w' := by
  have := Tryd.strconv_Itoa (n : Int) (by omega) (by omega) w h
  rw [itoa_T] at this
  exact this.mono fun e w' ⟨h1, k, os, h2⟩ => ⟨h1, h2 ▸ below_grow k os⟩
set_option maxHeartbeats 1000000 in
theorem inShape_any (lf : Bool) (t : List UInt8) (l : List Gn) (adr : Option Addr) (cap : Nat) (w : World) :
    Calls Tryd.prog 33 #[.agg #[.bool lf, S t, .slice adr l.length cap]] w fun e w2 => e = .returned (.bool (shp lf t l)) ∧ Below w.heap.size w w2 := by
  have J : Hid (Below w.heap.size w (w.alloc (.cells #[.bool lf, S t, .slice adr l.length cap] 24))) := (Below.refl _ w).alloc (Nat.le_refl _) _
  cases lf with
  | true =>
    have e : shp true t l = ((l.length : Int) == 0) := by rw [len_int]; rfl
    rw [e]
    go_enter Tryd.func33, Tryd.ntmps33
    go_wp2_with fail
    go_ret
    exact ⟨rfl, J.out⟩
  | false =>
    go_enter Tryd.func33, Tryd.ntmps33
    go_wp2_with fail
    go_ret
    exact ⟨rfl, J.out⟩
theorem WEnd.of {B g : Nat} {u w w' : World} {r : WR} {e : Ending} (h : WF B g u w) (k : WEnd B g w r e w') : WEnd B g u r e w' := ⟨h.trans k.1, k.2⟩
theorem Wr.ge {B g : Nat} {l : List UInt8} {w : World} (h : Wr B g l w) : B ≤ g ∧ g < w.heap.size := by
  rcases h with h | h <;> exact ⟨h.1, h.lt⟩
theorem Wr.keep {B g : Nat} {l : List UInt8} {w w' : World} (h : Wr B g l w) (hb : Below w.heap.size w w') : Wr B g l w' := by
  have key : ∀ p, Lib.BuilderAt 45 5 B g p (Lib.byteCells l) w → Lib.BuilderAt 45 5 B g p (Lib.byteCells l) w' := by
    intro p h
    have hlt := h.lt
    obtain ⟨hB, v, hbk, hown, hne⟩ := h
    refine ⟨hB, v, by rw [hb.block g hlt]; exact hbk, ⟨hown.1, ?_⟩, hne⟩
    rcases hown.2 with h | ⟨q, cap, cur, h1, h2, h3, h4⟩
    · exact Or.inl h
    · have hq : q < w.heap.size := (Array.getElem?_eq_some_iff.1 h3).1
      exact Or.inr ⟨q, cap, cur, h1, h2, by rw [hb.block q hq]; exact h3, h4⟩
  rcases h with h | h
  · exact Or.inl (key _ h)
  · exact Or.inr (key _ h)
theorem andThen_nil (ar : Nat) (x : WR) : (x.andThen fun b => wrs ar [] b) = x := by cases x <;> simp [WR.andThen, wrs]
theorem wrs_one (ar : Nat) (lf : Bool) (t : List UInt8) (l : List Gn) (b : List UInt8) : wrs ar [.mk lf t l] b = (if shp lf t l = false then .err 2 else if lf then leafW b t
     else if ar = 12 then .err 3 else (addP b [40]).andThen fun b => (wrs (ar + 1) l b).andThen fun b => addP b [41]) := by
  rw [wrs, andThen_nil]
set_option maxHeartbeats 2000000 in
theorem node_bad (B g : Nat) (ar : Nat) (lf : Bool) (t : List UInt8) (l : List Gn) (adr : Option Addr) (cap : Nat) (lb : List UInt8) (w : World) (hW : Wr B g lb w) (hs : shp lf t l = false) :
    Calls Tryd.prog 20 #[.pointer (some ⟨g, 0, none⟩), .agg #[.bool lf, S t, .slice adr l.length cap], .int .i64 (ar : Int)] w fun e w' => WEnd B g w (wrs ar [.mk lf t l] lb) e w' := by
  rw [wrs_one, if_pos hs]
  have hI := fun W => inShape_any lf t l adr cap W
  rw [hs] at hI
  have J : Hid (Below w.heap.size w (w.alloc (.cells #[.bool lf, S t, .slice adr l.length cap] 24))) := (Below.refl _ w).alloc (Nat.le_refl _) _
  have hge := hW.ge
  clear hW
  go_enter Tryd.func20, Tryd.ntmps20
  go_wp2_with (go_at_call 33; refine (hI _).mono ?_; rintro e w1 ⟨rfl, hB1⟩)
  exact ⟨rfl, WF.of_below (J.out.trans (hB1.mono J.out.size)) (by omega), rfl⟩
/-- The writer, and a box, go on. -/
structure WB (B g k : Nat) (x y z : Value) (w : World) (lb : List UInt8) (W : World) : Prop where
  wf : WF B g w W
  wr : Wr B g lb W
  box : IHolds W k 24 [x, y, z]
  ne : k ≠ g
theorem WB.below {B g k : Nat} {x y z : Value} {w : World} {lb : List UInt8} {W W' : World} (h : WB B g k x y z w lb W) (hb : Below W.heap.size W W') : WB B g k x y z w lb W' :=
  ⟨h.wf.trans (WF.of_below hb (by have := h.wr.ge; omega)), h.wr.keep hb, h.box.of_below hb, h.ne⟩
theorem WB.add {B g k : Nat} {x y z : Value} {w : World} {lb lb' : List UInt8} {W W' : World} (h : WB B g k x y z w lb W) (hf : WF B g W W') (hw : Wr B g lb' W') : WB B g k x y z w lb' W' :=
  ⟨h.wf.trans hf, hw, hf.keep h.box h.ne (by decide), h.ne⟩
theorem WB.new {B g : Nat} (x y z : Value) {w : World} {lb : List UInt8} (h : Wr B g lb w) : WB B g w.heap.size x y z w lb (w.alloc (.cells #[x, y, z] 24)) := by
  have J : Below w.heap.size w (w.alloc (.cells #[x, y, z] 24)) := (Below.refl _ w).alloc (Nat.le_refl _) _
  have hg := h.ge
  exact ⟨WF.of_below J (by omega), h.keep J, IHolds.new' w 24 [x, y, z] rfl, by omega⟩
theorem WB.cells {B g k : Nat} {x y z : Value} {w : World} {lb : List UInt8} {W : World} (h : WB B g k x y z w lb W) : W.cell? ⟨k, 0, none⟩ = some x ∧ W.cell? ⟨k, 1, none⟩ = some y ∧ W.cell? ⟨k, 2, none⟩ = some z :=
  ⟨h.box.cell 0 (by simp), h.box.cell 1 (by simp), h.box.cell 2 (by simp)⟩

set_option maxHeartbeats 2000000 in
theorem node_leaf (B g : Nat) (ar : Nat) (t : List UInt8) (adr : Option Addr) (cap : Nat) (lb : List UInt8) (w : World) (hP : Pows w) (hW : Wr B g lb w) (hl : lb.length ≤ 1048576) (ht : t.length ≤ 1048576) :
    Calls Tryd.prog 20 #[.pointer (some ⟨g, 0, none⟩), .agg #[.bool true, S t, .slice adr 0 cap], .int .i64 (ar : Int)] w fun e w' => WEnd B g w (wrs ar [.mk true t []] lb) e w' := by
  rw [wrs_one, if_neg (by simp [shp]), if_pos rfl]
  have hI := fun W => inShape_any true t [] adr cap W
  rw [show shp true t [] = true from rfl, List.length_nil] at hI
  have hx := txt_len t.length ht
  have hsz := size_S t
  have hIt := fun W h => itoa_ok t.length ht W h
  have A1 := fun W (h : Wr B g lb W) => add_any B g lb (txt t.length) W h hl (by omega) (by have := h.ge; omega)
  have N0 : Hid (WB B g w.heap.size (.bool true) (S t) (.slice adr 0 cap) w lb (w.alloc (.cells #[.bool true, S t, .slice adr 0 cap] 24))) := WB.new _ _ _ hW
  have P0 : Hid (Pows (w.alloc (.cells #[.bool true, S t, .slice adr 0 cap] 24))) := hP.keep ((Below.refl _ w).alloc (Nat.le_refl _) _)
  clear hW hP
  unfold leafW
  generalize txt t.length = tx at *
  rcases addP_cases lb (tx) with ⟨h1, e1⟩ | ⟨h1, e1⟩
  · rw [e1]
    rw [e1] at A1
    clear h1 e1
    go_enter Tryd.func20, Tryd.ntmps20
    go_wp2_with (first | (go_at_call 33; refine (hI _).mono ?_; rintro e w1 ⟨rfl, hB1⟩; have N1 : Hid (WB B g w.heap.size (.bool true) (S t) (.slice adr 0 cap) w lb w1) := N0.out.below hB1; have P1 : Hid (Pows w1) := P0.out.keep hB1; obtain ⟨c0, c1, c2⟩ := N1.out.cells; clear hB1) | (go_at_call 25; refine (hIt _ P1.out).mono ?_; rintro e w2 ⟨rfl, hB2⟩; have N2 : Hid (WB B g w.heap.size (.bool true) (S t) (.slice adr 0 cap) w lb w2) := N1.out.below hB2; clear hB2) | (go_at_call 34; refine (A1 _ N2.out.wr).mono ?_; rintro e w3 ⟨hf3, rfl⟩))
    exact ⟨rfl, N2.out.wf.trans hf3, rfl⟩
  · rw [e1]
    rw [e1] at A1
    simp only [WR.andThen]
    have A2 := fun W (h : Wr B g (lb ++ tx) W) => add_any B g (lb ++ tx) [58] W h (by simpa using h1) (by simp) (by have := h.ge; omega)
    clear e1
    rcases addP_cases (lb ++ tx) [58] with ⟨h2, e2⟩ | ⟨h2, e2⟩
    · rw [e2]
      rw [e2] at A2
      clear h1 h2 e2
      go_enter Tryd.func20, Tryd.ntmps20
      go_wp2_with (first | (go_at_call 33; refine (hI _).mono ?_; rintro e w1 ⟨rfl, hB1⟩; have N1 : Hid (WB B g w.heap.size (.bool true) (S t) (.slice adr 0 cap) w lb w1) := N0.out.below hB1; have P1 : Hid (Pows w1) := P0.out.keep hB1; obtain ⟨c0, c1, c2⟩ := N1.out.cells; clear hB1) | (go_at_call 25; refine (hIt _ P1.out).mono ?_; rintro e w2 ⟨rfl, hB2⟩; have N2 : Hid (WB B g w.heap.size (.bool true) (S t) (.slice adr 0 cap) w lb w2) := N1.out.below hB2; clear hB2) | (go_at_call 34; refine (A1 _ N2.out.wr).mono ?_; rintro e w3 ⟨hf3, rfl, hw3⟩; have N3 : Hid (WB B g w.heap.size (.bool true) (S t) (.slice adr 0 cap) w (lb ++ tx) w3) := N2.out.add hf3 hw3; clear hf3 hw3 A1) | (go_at_call 34; refine (A2 _ N3.out.wr).mono ?_; rintro e w4 ⟨hf4, rfl⟩))
      exact ⟨rfl, N3.out.wf.trans hf4, rfl⟩
    · rw [e2]
      rw [e2] at A2
      simp only []
      have A3 := fun W (h : Wr B g (lb ++ tx ++ [58]) W) => add_any B g (lb ++ tx ++ [58]) t W h (by simp at h2 ⊢; omega) ht (by have := h.ge; omega)
      clear e2
      rcases addP_cases (lb ++ tx ++ [58]) t with ⟨h3, e3⟩ | ⟨h3, e3⟩
      all_goals
        rw [e3]
        rw [e3] at A3
        clear h1 h2 h3 e3
        go_enter Tryd.func20, Tryd.ntmps20
        go_wp2_with (first | (go_at_call 33; refine (hI _).mono ?_; rintro e w1 ⟨rfl, hB1⟩; have N1 : Hid (WB B g w.heap.size (.bool true) (S t) (.slice adr 0 cap) w lb w1) := N0.out.below hB1; have P1 : Hid (Pows w1) := P0.out.keep hB1; obtain ⟨c0, c1, c2⟩ := N1.out.cells; clear hB1) | (go_at_call 25; refine (hIt _ P1.out).mono ?_; rintro e w2 ⟨rfl, hB2⟩; have N2 : Hid (WB B g w.heap.size (.bool true) (S t) (.slice adr 0 cap) w lb w2) := N1.out.below hB2; clear hB2) | (go_at_call 34; refine (A1 _ N2.out.wr).mono ?_; rintro e w3 ⟨hf3, rfl, hw3⟩; have N3 : Hid (WB B g w.heap.size (.bool true) (S t) (.slice adr 0 cap) w (lb ++ tx) w3) := N2.out.add hf3 hw3; clear hf3 hw3 A1) | (go_at_call 34; refine (A2 _ N3.out.wr).mono ?_; rintro e w4 ⟨hf4, rfl, hw4⟩; have N4 : Hid (WB B g w.heap.size (.bool true) (S t) (.slice adr 0 cap) w (lb ++ tx ++ [58]) w4) := N3.out.add hf4 hw4; obtain ⟨d0, d1, d2⟩ := N4.out.cells; clear hf4 hw4 A2) | (go_at_call 34; refine (A3 _ N4.out.wr).mono ?_; first | (rintro e w5 ⟨hf5, rfl, hw5⟩) | (rintro e w5 ⟨hf5, rfl⟩)))
      · exact ⟨rfl, N4.out.wf.trans hf5, rfl⟩
      · go_end0
        exact ⟨N4.out.wf.trans hf5, rfl, hw5⟩
end Go.Proofs.YtlogilmeefcipaaDoor
