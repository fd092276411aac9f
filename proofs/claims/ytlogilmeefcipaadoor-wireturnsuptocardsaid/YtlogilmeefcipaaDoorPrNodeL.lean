/- The writer's node: a list. -/
import Derived.Test.YtlogilmeefcipaaDoorPrNode
set_option linter.unusedSimpArgs false
set_option linter.unusedVariables false
set_option maxRecDepth 100000
namespace Go.Proofs.YtlogilmeefcipaaDoor
open Go.RowKit Go.Deep Go.PlainAid

theorem shp_list (l : List Gn) : shp false [] l = true := rfl
set_option maxHeartbeats 1000000 in
theorem node_deep (B g : Nat) (l : List Gn) (adr : Option Addr) (cap : Nat) (lb : List UInt8) (w : World) (hW : Wr B g lb w) :
    Calls Tryd.prog 20 #[.pointer (some ⟨g, 0, none⟩), .agg #[.bool false, S [], .slice adr l.length cap], .int .i64 12] w fun e w' => WEnd B g w (wrs 12 [.mk false [] l] lb) e w' := by
  rw [wrs_one, if_neg (by simp [shp]), if_neg (by simp), if_pos rfl]
  have hI := fun W => inShape_any false [] l adr cap W
  rw [shp_list] at hI
  have N0 : Hid (WB B g w.heap.size (.bool false) (S []) (.slice adr l.length cap) w lb (w.alloc (.cells #[.bool false, S [], .slice adr l.length cap] 24))) := WB.new _ _ _ hW
  clear hW
  go_enter Tryd.func20, Tryd.ntmps20
  go_wp2_with (go_at_call 33; refine (hI _).mono ?_; rintro e w1 ⟨rfl, hB1⟩; have N1 : Hid (WB B g w.heap.size (.bool false) (S []) (.slice adr l.length cap) w lb w1) := N0.out.below hB1; obtain ⟨c0, c1, c2⟩ := N1.out.cells; clear hB1)
  exact ⟨rfl, N1.out.wf, rfl⟩
set_option maxHeartbeats 1000000 in
theorem node_full (B g ar : Nat) (har : ar < 12) (l : List Gn) (adr : Option Addr) (cap : Nat) (lb : List UInt8) (w : World) (hW : Wr B g lb w) (hl : lb.length ≤ 1048576) (h1 : addP lb [40] = .err 3) :
    Calls Tryd.prog 20 #[.pointer (some ⟨g, 0, none⟩), .agg #[.bool false, S [], .slice adr l.length cap], .int .i64 (ar : Int)] w fun e w' => WEnd B g w (wrs ar [.mk false [] l] lb) e w' := by
  rw [wrs_one, if_neg (by simp [shp]), if_neg (by simp), if_neg (by omega), h1]
  have hI := fun W => inShape_any false [] l adr cap W
  rw [shp_list] at hI
  have A1 := fun W (h : Wr B g lb W) => add_any B g lb [40] W h hl (by simp) (by have := h.ge; omega)
  rw [h1] at A1
  have h12 : ((ar : Int) == 12) = false := by simp; omega
  have N0 : Hid (WB B g w.heap.size (.bool false) (S []) (.slice adr l.length cap) w lb (w.alloc (.cells #[.bool false, S [], .slice adr l.length cap] 24))) := WB.new _ _ _ hW
  clear hW h1
  go_enter Tryd.func20, Tryd.ntmps20
  go_wp2_with (first | (go_at_call 33; refine (hI _).mono ?_; rintro e w1 ⟨rfl, hB1⟩; have N1 : Hid (WB B g w.heap.size (.bool false) (S []) (.slice adr l.length cap) w lb w1) := N0.out.below hB1; obtain ⟨c0, c1, c2⟩ := N1.out.cells; clear hB1) | (go_at_call 34; refine (A1 _ N1.out.wr).mono ?_; rintro e w3 ⟨hf3, rfl⟩))
  exact ⟨rfl, N1.out.wf.trans hf3, rfl⟩
/-- How the loop stands: so many bytes are written, of the list so many nodes. -/
structure LW (B g ar : Nat) (l : List Gn) (lb : List UInt8) (w : World) (i : Nat) (b : List UInt8) (W : World) : Prop where
  wf : WF B g w W
  wr : Wr B g b W
  len : b.length ≤ 1048576
  plain : wrs (ar + 1) l (lb ++ [40]) = wrs (ar + 1) (l.drop i) b
theorem LW.split {B g ar : Nat} {l : List Gn} {lb : List UInt8} {w : World} {i : Nat} {b : List UInt8} {W : World} (h : LW B g ar l lb w i b W) (hi : i < l.length) :
    wrs (ar + 1) l (lb ++ [40]) = (wrs (ar + 1) [l[i]] b).andThen fun b => wrs (ar + 1) (l.drop (i + 1)) b := by
  rw [h.plain, List.drop_eq_getElem_cons hi, wrs_cons]
theorem LW.below {B g ar : Nat} {l : List Gn} {lb : List UInt8} {w : World} {i : Nat} {b : List UInt8} {W W' : World} (h : LW B g ar l lb w i b W) (hb : Below W.heap.size W W') : LW B g ar l lb w i b W' :=
  ⟨h.wf.trans (WF.of_below hb (by have := h.wr.ge; omega)), h.wr.keep hb, h.len, h.plain⟩
set_option maxHeartbeats 4000000 in
theorem node_list {w0 : World} (g ar : Nat) (har : ar < 12) (l : List Gn) (adr : Option Addr) (cap : Nat) (c1 c2 c3 : Nat → Value)
    (hc : ∀ i, i < l.length → ∃ b o, adr = some ⟨b, o, none⟩ ∧ b < w0.heap.size ∧ w0.cell? ⟨b, o + 3 * i, none⟩ = some (c1 i) ∧ w0.cell? ⟨b, o + 3 * i + 1, none⟩ = some (c2 i) ∧ w0.cell? ⟨b, o + 3 * i + 2, none⟩ = some (c3 i))
    (hf : ∀ i, i < l.length → ∃ ab bb ca cm cc, c1 i = .bool ab ∧ c2 i = .string bb ∧ c3 i = .slice ca cm cc)
    (ih : ∀ i (h : i < l.length), ∀ lb, lb.length ≤ 1048576 → ∀ w, Below w0.heap.size w0 w → Wr w0.heap.size g lb w → Calls Tryd.prog 20 #[.pointer (some ⟨g, 0, none⟩), .agg #[c1 i, c2 i, c3 i], .int .i64 ((ar + 1 : Nat) : Int)] w fun e w' => WEnd w0.heap.size g w (wrs (ar + 1) [l[i]] lb) e w')
    (hll : l.length ≤ 1048576) (lb : List UInt8) (w : World) (hw : Below w0.heap.size w0 w) (hW : Wr w0.heap.size g lb w) (hl : lb.length ≤ 1048576) (h1 : addP lb [40] = .ok (lb ++ [40])) (h1' : lb.length + 1 ≤ 1048576) :
    Calls Tryd.prog 20 #[.pointer (some ⟨g, 0, none⟩), .agg #[.bool false, S [], .slice adr l.length cap], .int .i64 (ar : Int)] w fun e w' => WEnd w0.heap.size g w (wrs ar [.mk false [] l] lb) e w' := by
  have ew : wrs ar [.mk false [] l] lb = (wrs (ar + 1) l (lb ++ [40])).andThen fun b => addP b [41] := by
    rw [wrs_one, if_neg (by simp [shp]), if_neg (by simp), if_neg (by omega), h1]; rfl
  have hI := fun W => inShape_any false [] l adr cap W
  rw [shp_list] at hI
  have A1 := fun W (h : Wr w0.heap.size g lb W) => add_any w0.heap.size g lb [40] W h hl (by simp) (by have := h.ge; omega)
  rw [h1] at A1
  have h12 : ((ar : Int) == 12) = false := by simp; omega
  have ar3 : (ar : Int) ≤ 11 := by omega
  have earc : (((ar + 1 : Nat)) : Int) = (ar : Int) + 1 := by omega
  have N0 : Hid (WB w0.heap.size g w.heap.size (.bool false) (S []) (.slice adr l.length cap) w lb (w.alloc (.cells #[.bool false, S [], .slice adr l.length cap] 24))) := WB.new _ _ _ hW
  have HC : Hid _ := hc
  have HF : Hid _ := hf
  have IH : Hid _ := ih
  have EW : Hid _ := ew
  clear hc hf ih hW h1 ew
  go_enter Tryd.func20, Tryd.ntmps20
  go_wp2_with (first | (go_at_call 33; refine (hI _).mono ?_; rintro e w1 ⟨rfl, hB1⟩; have N1 : Hid (WB w0.heap.size g w.heap.size (.bool false) (S []) (.slice adr l.length cap) w lb w1) := N0.out.below hB1; obtain ⟨c0, c1', c2'⟩ := N1.out.cells; clear hB1) | (go_at_call 34; refine (A1 _ N1.out.wr).mono ?_; rintro e w3 ⟨hf3, rfl, hw3⟩; have N3 : Hid (WB w0.heap.size g w.heap.size (.bool false) (S []) (.slice adr l.length cap) w (lb ++ [40]) w3) := N1.out.add hf3 hw3; obtain ⟨d0, d1, d2⟩ := N3.out.cells; clear hf3 hw3 A1))
  have L3 : Hid (LW w0.heap.size g ar l lb w 0 (lb ++ [40]) w3) := ⟨N3.out.wf, N3.out.wr, by simp; omega, by simp⟩
  clear c0 c1' c2' d0 d1 d2
  go_loopg [7, 34] l.length (fun gk v7 v34 wr => ∃ i b, i + gk = l.length ∧ v34 = .int .i64 ((i : Nat) : Int) ∧ LW w0.heap.size g ar l lb w i b wr)
  case atStart => exact ⟨0, _, by omega, rfl, L3.out⟩
  case round =>
    obtain ⟨i, b, hig, rfl, hLW⟩ := hrel
    have LL : Hid (LW w0.heap.size g ar l lb w i b wr) := hLW
    have JW : Hid (Below w0.heap.size w0 wr) := hw.trans hLW.wf.below
    clear hLW L3
    by_cases hi : i < l.length
    · obtain ⟨bk', o, rfl, hb, x1, x2, x3⟩ := HC.out i hi
      obtain ⟨ab, bb, ca, cm, cc, e1, e2, e3⟩ := HF.out i hi
      have hcall := IH.out i hi b LL.out.len
      rw [e1] at x1
      rw [e2] at x2
      rw [e3] at x3
      rw [e1, e2, e3, earc] at hcall
      have x1' : wr.cell? ⟨bk', o + i * 3, none⟩ = some (.bool ab) := by rw [Nat.mul_comm i 3]; exact (World.cell?_of_block (a := ⟨bk', _, none⟩) (JW.out.block bk' hb)).trans x1
      have x2' : wr.cell? ⟨bk', o + i * 3 + 1, none⟩ = some (.string bb) := by rw [Nat.mul_comm i 3]; exact (World.cell?_of_block (a := ⟨bk', _, none⟩) (JW.out.block bk' hb)).trans x2
      have x3' : wr.cell? ⟨bk', o + i * 3 + 2, none⟩ = some (.slice ca cm cc) := by rw [Nat.mul_comm i 3]; exact (World.cell?_of_block (a := ⟨bk', _, none⟩) (JW.out.block bk' hb)).trans x3
      clear x1 x2 x3 hb e1 e2 e3
      have il : (i : Int) < (l.length : Int) := by omega
      have LB : Hid (LW w0.heap.size g ar l lb w i b (wr.alloc (.cells #[.bool ab, .string bb, .slice ca cm cc] 24))) := LL.out.below ((Below.refl _ wr).alloc (Nat.le_refl _) _)
      have JB : Hid (Below w0.heap.size w0 (wr.alloc (.cells #[.bool ab, .string bb, .slice ca cm cc] 24))) := hw.trans LB.out.wf.below
      have SP : Hid _ := LL.out.split hi
      have W3' := wrs_spec [l[i]] (ar + 1) b (by omega) LL.out.len
      cases hr : wrs (ar + 1) [l[i]] b with
      | err k =>
        rw [hr] at hcall SP
        clear W3' hr
        go_wp2_with (go_at_call 20; refine (hcall _ JB.out LB.out.wr).mono ?_; rintro e w4 ⟨hf4, rfl⟩)
        refine ⟨rfl, LB.out.wf.trans hf4, ?_⟩
        rw [EW.out, SP.out]
        rfl
      | ok b' =>
        rw [hr] at hcall SP W3'
        clear hr
        have hb' := W3'.2.2.2
        clear W3'
        go_wp2_with (go_at_call 20; refine (hcall _ JB.out LB.out.wr).mono ?_; rintro e w4 ⟨hf4, rfl, hw4⟩; have L4 : Hid (LW w0.heap.size g ar l lb w (i + 1) b' w4) := ⟨LB.out.wf.trans hf4, hw4, hb', SP.out⟩; clear hf4 hw4)
        go_roundg (gk - 1)
        case measure => omega
        case rel => exact ⟨i + 1, b', by omega, by go_num, L4.out⟩
    · have il : ¬ (i : Int) < (l.length : Int) := by omega
      have hP : Hid (wrs (ar + 1) l (lb ++ [40]) = .ok b) := by
        show _ = _
        rw [LL.out.plain, List.drop_eq_nil_of_le (by omega), wrs]
      have A2 := fun W (h : Wr w0.heap.size g b W) => add_any w0.heap.size g b [41] W h LL.out.len (by simp) (by have := h.ge; omega)
      rcases addP_cases b [41] with ⟨h2, e2⟩ | ⟨h2, e2⟩
      · rw [e2] at A2
        have E2 : Hid _ := e2
        clear h2 e2
        go_wp2_with (go_at_call 34; refine (A2 _ LL.out.wr).mono ?_; rintro e w4 ⟨hf4, rfl⟩)
        refine ⟨rfl, LL.out.wf.trans hf4, ?_⟩
        rw [EW.out, hP.out]
        simp only [WR.andThen]
        rw [E2.out]
        rfl
      · rw [e2] at A2
        have E2 : Hid _ := e2
        clear h2 e2
        go_wp2_with (go_at_call 34; refine (A2 _ LL.out.wr).mono ?_; rintro e w4 ⟨hf4, rfl, hw4⟩)
        go_end0
        refine ⟨LL.out.wf.trans hf4, ?_⟩
        rw [EW.out, hP.out]
        simp only [WR.andThen]
        rw [E2.out]
        exact ⟨by trivial, hw4⟩
/-- The writer's node. -/
theorem node_any {w0 : World} {n : Gn} {a b c : Value} (hP : Pows w0) (h : GAt w0 n a b c) (g : Nat) : bk [n] ≤ 1048576 → ∀ ar : Nat, ar ≤ 12 → ∀ lb, lb.length ≤ 1048576 → ∀ w, Below w0.heap.size w0 w → Wr w0.heap.size g lb w →
    Calls Tryd.prog 20 #[.pointer (some ⟨g, 0, none⟩), .agg #[a, b, c], .int .i64 (ar : Int)] w fun e w' => WEnd w0.heap.size g w (wrs ar [n] lb) e w' := by
  induction h with
  | mk lf t l adr cap c1 c2 c3 hc hn ih =>
    intro hk ar har lb hl w hw hW
    rw [bk] at hk
    by_cases hs : shp lf t l = false
    · exact node_bad _ g ar lf t l adr cap lb w hW hs
    · have hs' : shp lf t l = true := by simpa using hs
      cases lf with
      | true =>
        obtain rfl : l = [] := by simpa [shp] using hs'
        exact node_leaf _ g ar t adr cap lb w (hP.keep hw) hW hl (by omega)
      | false =>
        obtain rfl : t = [] := by simpa [shp] using hs'
        by_cases h12 : ar = 12
        · subst h12
          exact node_deep _ g l adr cap lb w hW
        · rcases addP_cases lb [40] with ⟨h1, e1⟩ | ⟨h1, e1⟩
          · exact node_full _ g ar (by omega) l adr cap lb w hW hl e1
          · exact node_list g ar (by omega) l adr cap c1 c2 c3 hc (fun i hi => (hn i hi).form) (fun i hi lb hl w hw hW => ih i hi (by have := bk_mem (List.getElem_mem hi); simp at hk; omega) (ar + 1) (by omega) lb hl w hw hW) (by have := len_bk l; omega) lb w hw hW hl e1 (by simpa using h1)
end Go.Proofs.YtlogilmeefcipaaDoor
