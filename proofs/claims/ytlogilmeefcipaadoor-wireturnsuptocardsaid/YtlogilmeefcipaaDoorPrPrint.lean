/- wire's Print. -/
import Derived.Test.YtlogilmeefcipaaDoorPrMis
import Derived.Test.YtlogilmeefcipaaDoorPrThrow
import Derived.Test.YtlogilmeefcipaaDoorPrDoc
set_option linter.unusedSimpArgs false
set_option linter.unusedVariables false
set_option maxRecDepth 100000
namespace Go.Proofs.YtlogilmeefcipaaDoor
open Go.RowKit Go.Deep Go.PlainAid

theorem cellsByte : Tryd.prog.cellsOf 5 = 1 := by kernel_rfl
set_option maxHeartbeats 2000000 in
theorem string_any (B b : Nat) (l : List UInt8) (w : World) (h : Wr B b l w) (h0 : l ≠ []) :
    Calls Tryd.prog 22 #[.pointer (some ⟨b, 0, none⟩)] w fun e w' => e = .returned (S l) ∧ Below B w w' := by
  obtain ⟨p, hB, v, hbk, hown, hne⟩ : ∃ p, Lib.BuilderAt 45 5 B b p (Lib.byteCells l) w := by
    rcases h with h | h
    · exact ⟨_, h⟩
    · exact ⟨_, h⟩
  have hl0 : l.length ≠ 0 := by simpa using h0
  rw [Lib.byteCells_length] at hown
  obtain ⟨g, cap, cur, rfl, hbg, hg, hnc, hcm, hcs, htake⟩ : ∃ g cap cur, v = .slice (some ⟨g, 0, none⟩) l.length cap ∧ B ≤ g ∧ w.heap[g]? = some (.cells cur 5 (0, 0)) ∧ l.length ≤ cap ∧ cap ≤ maxLen ∧ cur.size = cap * 1 ∧ cur.toList.take (l.length * 1) = Lib.byteCells l := by
    rcases hown.2 with ⟨_, hz⟩ | ⟨g, cap, cur, hv, r⟩
    · exact absurd hz hl0
    · exact ⟨g, cap, cur, hv, r⟩
  have c1 : w.drew.cell? ⟨b, 1, none⟩ = some (.slice (some ⟨g, 0, none⟩) l.length cap) := by
    have : w.drew.heap[b]? = some (.cells #[p, .slice (some ⟨g, 0, none⟩) l.length cap] 45 (0, 0)) := hbk
    rw [Lib.cell_of_heap this]; rfl
  have hSD : (Builtin.unsafeSliceData_ #[41] 65 #[.slice (some ⟨g, 0, none⟩) l.length cap]).run Tryd.prog w.drew = .ok (.pointer (some ⟨g, 0, none⟩)) w.drew :=
    Lib.run_unsafeSliceData_row _ _ _ _ _ _ (by omega)
  have hUS : (Builtin.unsafeString_ #[65, 3] 9 #[.pointer (some ⟨g, 0, none⟩), .int .i64 l.length]).run Tryd.prog w.drew = .ok (.string ⟨l.toArray⟩) (w.drew.freeze ⟨g, 0, none⟩ l.length) := by
    refine Lib.run_unsafeString_row w.drew 65 3 9 5 Tryd.underlying65 cellsByte g cur.size (by have hg' : w.drew.heap[g]? = some (.cells cur 5 (0, 0)) := hg; simp [World.shape?, hg']) l h0 (by omega) (by unfold maxLen at hcm; omega) ?_
    intro j x hx
    have := hown.cells (g := g) rfl j (.int .u8 x.toNat) (by simp [Lib.byteCells, hx])
    exact this
  have mixed : Tryd.prog.follows .mixedOrders = true := by kernel_rfl
  clear hbk hown htake hg hcs h
  go_enter Tryd.func22, Tryd.ntmps22
  go_wp2_with fail
  go_region_o
  all_goals (go_wp2_with fail; go_ret; exact ⟨rfl, Lib.below_freeze (Below.drew (Below.refl B w)) (p := ⟨g, 0, none⟩) hbg _⟩)
theorem wrts_ne (n : Gn) : wrts [n] ≠ [] := by
  obtain ⟨lf, t, l⟩ := n
  cases lf
  · rw [wrts_list]; simp
  · rw [wrts_leaf]; simp
theorem wr_new (w W : World) (hs : w.heap.size ≤ W.heap.size) : Wr w.heap.size W.heap.size [] (W.alloc (.cells #[.pointer none, .slice none 0 0] 45)) :=
  Or.inl ⟨hs, .slice none 0 0, heap_alloc_new W _, World.ownsRow_nil _ _ _ _, by simp [Value.ownBlock]⟩
/-- What Print answers. -/
def PrE (r : WR) (e : Ending) : Prop := match r with
  | .ok l => e = .returned (.tuple #[S l, .int .i64 0])
  | .err _ => ∃ k : Nat, k ≠ 0 ∧ e = .returned (.tuple #[S [], .int .i64 (k : Int)])
set_option maxHeartbeats 2000000 in
theorem print_any {w : World} {n : Gn} {a b c : Value} (hP : Pows w) (hn : GAt w n a b c) (hk : bk [n] ≤ 1048576) (hz : wrs 0 [n] [] = .err 3 → GFz w n c) :
    Calls Tryd.prog 7 #[.agg #[a, b, c]] w fun e w' => PrE (wrs 0 [n] []) e ∧ Below w.heap.size w w' := by
  have hmf : ∀ (fn : Fn) (first cap : Array Value) (w : World), (Instr.makeFunc fn first cap).run Tryd.prog w = .ok (.func fn first cap) w := fun _ _ _ _ => rfl
  have hsp := wrs_spec [n] 0 [] (by omega) (by simp)
  have hmis := fun (h : GFz w n c) w' hw => misshapen_any hn h hk w' hw
  have J0 : Below w.heap.size w ((w.alloc (.cells #[a, b, c] 24)).alloc (.cells #[.pointer none, .slice none 0 0] 45)) := ((Below.refl _ w).alloc (Nat.le_refl _) _).alloc (by simp) _
  have hs1 : (w.alloc (.cells #[a, b, c] 24)).heap.size = w.heap.size + 1 := by simp
  have hW := wr_new w (w.alloc (.cells #[a, b, c] 24)) (by simp)
  rw [hs1] at hW
  have hB : IHolds ((w.alloc (.cells #[a, b, c] 24)).alloc (.cells #[.pointer none, .slice none 0 0] 45)) w.heap.size 24 [a, b, c] := (IHolds.new' w 24 [a, b, c] rfl).alloc _
  have hth := thrownPr_any hP hn (w.heap.size + 1) w.heap.size hk _ J0 hW hB
  have J1 : Hid _ := J0
  have HB : Hid _ := hB
  obtain ⟨ab, bb, ca, cm, cc, rfl, rfl, rfl⟩ := hn.form
  clear hP hW J0 hB
  cases hr : wrs 0 [n] [] with
  | ok l =>
    rw [hr] at hth hsp
    have hl0 : l ≠ [] := by rw [hsp.2.2.1, List.nil_append]; exact wrts_ne n
    have hst := fun W h => string_any w.heap.size (w.heap.size + 1) l W h hl0
    clear hr hsp hmis hz hn hl0
    go_enter Tryd.func7, Tryd.ntmps7
    go_wp2_with (first | (go_at_call 18; refine hth.mono ?_; rintro e w1 ⟨hf1, rfl, hw1⟩; have F1 : Hid _ := hf1; have W1 : Hid _ := hw1; clear hf1 hw1) | (go_at_call 22; refine (hst _ W1.out).mono ?_; rintro e w2 ⟨rfl, hB2⟩))
    go_ret2
    exact ⟨rfl, (J1.out.trans F1.out.below).trans hB2⟩
  | err k =>
    rw [hr] at hth hsp
    have hk23 : k = 2 ∨ k = 3 := by rcases hsp with ⟨h, _⟩ | ⟨h, _⟩ <;> omega
    clear hsp
    rcases hk23 with rfl | rfl
    · clear hr hmis hz hn
      replace hth : Calls Tryd.prog 18 _ _ (fun e w' => WF w.heap.size (w.heap.size + 1) _ w' ∧ e = .returned (.int .i64 2)) := hth
      go_enter Tryd.func7, Tryd.ntmps7
      go_wp2_with (go_at_call 18; refine hth.mono ?_; rintro e w1 ⟨hf1, rfl⟩)
      go_ret2
      exact ⟨⟨2, by decide, rfl⟩, J1.out.trans hf1.below⟩
    · have hm := hmis (hz hr)
      clear hr hmis hz hn
      replace hth : Calls Tryd.prog 18 _ _ (fun e w' => WF w.heap.size (w.heap.size + 1) _ w' ∧ e = .returned (.int .i64 3)) := hth
      go_enter Tryd.func7, Tryd.ntmps7
      go_wp2_with (first | (go_at_call 18; refine hth.mono ?_; rintro e w1 ⟨hf1, rfl⟩; have N1 : Hid (IHolds w1 w.heap.size 24 [.bool ab, .string bb, .slice ca cm cc]) := hf1.keep HB.out (by omega) (by decide); have B1 : Hid (Below w.heap.size w w1) := J1.out.trans hf1.below; have d0 : w1.cell? ⟨w.heap.size, 0, none⟩ = some (.bool ab) := N1.out.cell 0 (by simp); have d1 : w1.cell? ⟨w.heap.size, 1, none⟩ = some (.string bb) := N1.out.cell 1 (by simp); have d2 : w1.cell? ⟨w.heap.size, 2, none⟩ = some (.slice ca cm cc) := N1.out.cell 2 (by simp); clear hf1) | (go_at_call 21; refine (hm _ B1.out).mono ?_; rintro e w2 ⟨r, rfl, hB2⟩))
      all_goals
        go_ret2
        exact ⟨⟨_, by decide, rfl⟩, B1.out.trans (hB2.mono B1.out.size)⟩
end Go.Proofs.YtlogilmeefcipaaDoor
