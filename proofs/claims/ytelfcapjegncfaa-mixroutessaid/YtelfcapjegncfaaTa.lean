/- A gate's two. -/
import Derived.Test.YtelfcapjegncfaaRb
import Derived.Lib.LazyBuf
set_option linter.unusedSimpArgs false
set_option linter.unusedVariables false
set_option maxRecDepth 100000
namespace Go.Proofs.Ytelfcapjegncfaa
open Go.RowKit Go.Deep Go.PlainAid

theorem IHolds.alloc {w : World} {b : Nat} {t : TypeId} {l : List Value} (h : IHolds w b t l) (o : Obj) : IHolds (w.alloc o) b t l := h.of_below ((Below.refl _ _).alloc (Nat.le_refl _) _)
theorem cell_far2 {V : World} {b c o p q : Nat} {x y : Value} (h : b ≠ c) : ((V.setCell ⟨c, p, none⟩ x).setCell ⟨c, q, none⟩ y).cell? ⟨b, o, none⟩ = V.cell? ⟨b, o, none⟩ := by
  rw [World.cell?_of_block (a := ⟨b, o, none⟩) (Below.heap_setCell _ _ _ _ h), World.cell?_of_block (a := ⟨b, o, none⟩) (Below.heap_setCell _ _ _ _ h)]
/-- What a gate makes of two. -/
def twX (x y : Nat) (c : Bool) : Nat := if c then y else x
def twY (x y : Nat) (c : Bool) : Nat := if c then x else y
set_option maxHeartbeats 1000000 in
theorem turned19 (w : World) (x y : Nat) (c : Bool) : Calls Try.prog 19 #[.agg #[.int .i64 (x : Int), .int .i64 (y : Int)], .bool c] w fun e w' => e = .returned (.agg #[.int .i64 (twX x y c : Int), .int .i64 (twY x y c : Int)]) ∧ Below w.heap.size w w' := by
  cases c with
  | true =>
    go_enter Try.func19, Try.ntmps19
    go_wp2_with fail
    exact bodyPost_ret (v := .agg #[.int .i64 (y : Int), .int .i64 (x : Int)]) (by simp [results, Try.results19, go_sem]) rfl ⟨rfl, ((Below.refl _ _).alloc (Nat.le_refl _) _).alloc (by simp only [World.size_alloc]; omega) _⟩
  | false =>
    go_enter Try.func19, Try.ntmps19
    go_wp2_with fail
    exact bodyPost_ret (v := .agg #[.int .i64 (x : Int), .int .i64 (y : Int)]) (by simp [results, Try.results19, go_sem]) rfl ⟨rfl, ((Below.refl _ _).alloc (Nat.le_refl _) _).alloc (by simp only [World.size_alloc]; omega) _⟩
set_option maxHeartbeats 2000000 in
theorem clos18 {w : World} {x y k cc bx : Nat} {ac : Option Addr} {cs : List Bool} (hbx : w.cell? ⟨bx, 0, none⟩ = some (.slice ac cs.length cc)) (hcs : VL w ac (bvs cs)) (hk : k < cs.length) :
    Calls Try.prog 18 #[.int .i64 (k : Int), .agg #[.int .i64 (x : Int), .int .i64 (y : Int)], .pointer (some ⟨bx, 0, none⟩)] w fun e w' => e = .returned (.agg #[.int .i64 (twX x y (cs.getD k false) : Int), .int .i64 (twY x y (cs.getD k false) : Int)]) ∧ Below w.heap.size w w' := by
  obtain ⟨b, o, rfl, q0⟩ := hcs.bool k hk
  have il : (k : Int) < (cs.length : Int) := by omega
  have ec : cs.getD k false = cs[k] := by simp [List.getD_eq_getElem?_getD, hk]
  rw [ec]
  clear ec
  generalize cs[k] = c at *
  have H19 : Hid (∀ V, Calls Try.prog 19 #[.agg #[.int .i64 (x : Int), .int .i64 (y : Int)], .bool c] V fun e w' => e = .returned (.agg #[.int .i64 (twX x y c : Int), .int .i64 (twY x y c : Int)]) ∧ Below V.heap.size V w') := fun V => turned19 V x y c
  generalize twX x y c = p at *
  generalize twY x y c = q at *
  obtain ⟨W, hW⟩ : ∃ W, W = (w.alloc (.cells #[.int .i64 (x : Int), .int .i64 (y : Int)] 43)).alloc (.cells #[.int .i64 0, .int .i64 0] 43) := ⟨_, rfl⟩
  have h3 : Below w.heap.size w W := by rw [hW]; exact ((Below.refl _ _).alloc (Nat.le_refl _) _).alloc (by simp only [World.size_alloc]; omega) _
  have h1 : IHolds W w.heap.size 43 [.int .i64 (x : Int), .int .i64 (y : Int)] := by rw [hW]; exact (IHolds.new w 43 [_, _]).alloc _
  have h2 : IHolds W (w.heap.size + 1) 43 [.int .i64 0, .int .i64 0] := by
    have q := IHolds.new (w.alloc (.cells #[.int .i64 (x : Int), .int .i64 (y : Int)] 43)) 43 [.int .i64 0, .int .i64 0]
    simp only [World.size_alloc] at q
    rw [hW]
    exact q
  have KQ : Hid (∀ V, Below W.heap.size W V → (V.cell? ⟨w.heap.size, 0, none⟩ = some (.int .i64 (x : Int)) ∧ V.cell? ⟨w.heap.size, 1, none⟩ = some (.int .i64 (y : Int)) ∧ V.cell? ⟨bx, 0, none⟩ = some (.slice (some ⟨b, o, none⟩) cs.length cc) ∧ V.cell? ⟨b, o + k, none⟩ = some (.bool c))) := fun V hV => ⟨(h1.of_below hV).cell 0 (by simp), (h1.of_below hV).cell 1 (by simp), cell_keep (cell_keep hbx h3) hV, cell_keep (cell_keep q0 h3) hV⟩
  have KS : Hid (∀ V, Below W.heap.size W V → ((V.setCell ⟨w.heap.size + 1, 0, none⟩ (.int .i64 (p : Int))).setCell ⟨w.heap.size + 1, 1, none⟩ (.int .i64 (q : Int))).cell? ⟨w.heap.size, 0, none⟩ = some (.int .i64 (x : Int)) ∧ ((V.setCell ⟨w.heap.size + 1, 0, none⟩ (.int .i64 (p : Int))).setCell ⟨w.heap.size + 1, 1, none⟩ (.int .i64 (q : Int))).cell? ⟨w.heap.size, 1, none⟩ = some (.int .i64 (y : Int)) ∧ ((V.setCell ⟨w.heap.size + 1, 0, none⟩ (.int .i64 (p : Int))).setCell ⟨w.heap.size + 1, 1, none⟩ (.int .i64 (q : Int))).cell? ⟨bx, 0, none⟩ = some (.slice (some ⟨b, o, none⟩) cs.length cc) ∧ ((V.setCell ⟨w.heap.size + 1, 0, none⟩ (.int .i64 (p : Int))).setCell ⟨w.heap.size + 1, 1, none⟩ (.int .i64 (q : Int))).cell? ⟨b, o + k, none⟩ = some (.bool c)) := fun V hV => by
    obtain ⟨k1, k2, k3, k4⟩ := KQ.out V hV
    have hb1 := cell_lt hbx
    have hb2 := cell_lt q0
    refine ⟨?_, ?_, ?_, ?_⟩
    · rw [cell_far2 (by omega)]; exact k1
    · rw [cell_far2 (by omega)]; exact k2
    · rw [cell_far2 (by omega)]; exact k3
    · rw [cell_far2 (by omega)]; exact k4
  have H2 : Hid (IHolds W (w.heap.size + 1) 43 [.int .i64 0, .int .i64 0]) := h2
  have H3 : Hid (Below w.heap.size w W) := h3
  go_enter Try.func18, Try.ntmps18
  go_wp2_with fail
  rw [← hW]
  clear hW h1 h2 h3 hbx q0 hcs hk
  go_region_held3 (fun V => V.cell? ⟨w.heap.size, 0, none⟩ = some (.int .i64 (x : Int)) ∧ V.cell? ⟨w.heap.size, 1, none⟩ = some (.int .i64 (y : Int)) ∧ V.cell? ⟨bx, 0, none⟩ = some (.slice (some ⟨b, o, none⟩) cs.length cc) ∧ V.cell? ⟨b, o + k, none⟩ = some (.bool c))
    (first | exact KQ.out _ (Below.refl _ W).drew | assumption | exact KT.out | exact KQ.out _ B6.out | fail)
    (first
      | (go_at_call 19; refine (H19.out _).mono ?_; rintro e w6 ⟨rfl, hB6⟩; have B6 : Hid (Below W.heap.size W w6) := (Below.refl _ W).drew.trans hB6; have J6 : Hid (IHolds w6 (w.heap.size + 1) 43 [.int .i64 0, .int .i64 0]) := H2.out.of_below B6.out; have z0 : w6.cell? ⟨w.heap.size + 1, 0, none⟩ = some (.int .i64 0) := J6.out.cell 0 (by simp); have z1 : w6.cell? ⟨w.heap.size + 1, 1, none⟩ = some (.int .i64 0) := J6.out.cell 1 (by simp); have f0 := J6.out.frozen 0; have f1 := J6.out.frozen 1; have KT : Hid _ := KS.out w6 B6.out; clear hB6)
      | fail)
  clear z0 z1 f0 f1
  have I4 : Hid (IHolds ((w6.setCell ⟨w.heap.size + 1, 0, none⟩ (.int .i64 (p : Int))).setCell ⟨w.heap.size + 1, 1, none⟩ (.int .i64 (q : Int))) (w.heap.size + 1) 43 [.int .i64 (p : Int), .int .i64 (q : Int)]) := (J6.out.set 0 _).set 1 _
  have B4 : Hid (Below w.heap.size w ((w6.setCell ⟨w.heap.size + 1, 0, none⟩ (.int .i64 (p : Int))).setCell ⟨w.heap.size + 1, 1, none⟩ (.int .i64 (q : Int)))) := ((H3.out.trans (B6.out.mono H3.out.size)).setCell (p := ⟨w.heap.size + 1, 0, none⟩) (by show w.heap.size ≤ w.heap.size + 1; omega) _).setCell (p := ⟨w.heap.size + 1, 1, none⟩) (by show w.heap.size ≤ w.heap.size + 1; omega) _
  clear KT KS
  generalize (w6.setCell ⟨w.heap.size + 1, 0, none⟩ (.int .i64 (p : Int))).setCell ⟨w.heap.size + 1, 1, none⟩ (.int .i64 (q : Int)) = WF at *
  have E0 : Hid (WF.cell? ⟨w.heap.size + 1, 0, none⟩ = some (.int .i64 (p : Int))) := I4.out.cell 0 (by simp)
  have E1 : Hid (WF.cell? ⟨w.heap.size + 1, 1, none⟩ = some (.int .i64 (q : Int))) := I4.out.cell 1 (by simp)
  go_wp2_with fail
  exact bodyPost_ret (v := .agg #[.int .i64 (p : Int), .int .i64 (q : Int)]) (by simp [results, Try.results18, go_sem, E0.out, E1.out]) rfl ⟨rfl, B4.out⟩
set_option maxHeartbeats 1000000 in
theorem clone23 {w : World} {b c : Nat} {l : List Nat} (h : VL w (some ⟨b, 0, none⟩) (ivs l)) (hl : l.length ≤ 256) : Calls Try.prog 23 #[.slice (some ⟨b, 0, none⟩) l.length c] w fun e w' => (∃ v, e = .returned v ∧ w'.ownsRow w.heap.size 3 1 v l.length (ivs l)) ∧ Below w.heap.size w w' := by
  obtain ⟨i3, hi3, hz3, hy3, hb3⟩ := info_parts info3
  have O2 : Hid ((w.alloc (.cells #[] 3)).ownsRow w.heap.size 3 1 (.slice (some ⟨w.heap.size, 0, none⟩) 0 0) 0 []) := World.ownsRow_lit w #[] 0 (Nat.le_refl _) (by unfold maxLen; omega) rfl
  have B2 : Hid (Below w.heap.size w (w.alloc (.cells #[] 3))) := (Below.refl _ _).alloc (Nat.le_refl _) _
  have V2 : Hid (VL (w.alloc (.cells #[] 3)) (some ⟨b, 0, none⟩) (ivs l)) := h.of_below B2.out
  have ON : Hid (∀ u ∈ ivs l, u.oneCell' = true) := fun u hu => by
    simp only [ivs, List.mem_map] at hu
    obtain ⟨_, _, rfl⟩ := hu
    rfl
  clear h
  have heq : ∀ W : World, (binOp .eql 29 (.slice (some ⟨b, 0, none⟩) l.length c) (.slice none 0 0)).run Try.prog W = .ok (.bool false) W := fun W => run_eql_slice_nil W 29 3 _ _ _ Try.underlying29
  go_enter Try.func23, Try.ntmps23
  go_wp2_with (at_builtin; refine wpList_append_own _ rfl (.tmp 5) (.tmp 6) 29 rfl w.heap.size 3 i3 (.int .i64 0) 1 8 Try.underlying29 hi3 hz3 hy3 hb3 rfl (by decide) (.slice (some ⟨w.heap.size, 0, none⟩) 0 0) 0 [] rfl O2.out ⟨b, 0, none⟩ l.length c (ivs l) rfl (by rw [ivs_len]; omega) V2.out.cellsA ON.out (by unfold maxLen; omega) (by omega) B2.out.size ?_; intro v5 w5 hown hgrow hn5; have O5 : Hid (w5.ownsRow w.heap.size 3 1 v5 l.length (ivs l)) := (by have q := hown; rw [Nat.zero_add, List.nil_append] at q; exact q); have B5 : Hid (Below w.heap.size w w5) := B2.out.grown hgrow B2.out.size (fun k hk => (O2.out.lt k hk).1); clear hown hgrow hn5)
  go_ret
  exact ⟨⟨_, rfl, O5.out⟩, B5.out⟩
end Go.Proofs.Ytelfcapjegncfaa
