/- What a kind stands on. -/
import Derived.Test.YtohpbclofcflaaaGreatTold
import Derived.Great.BuildSlice
import Derived.Deep.WholeRow
set_option linter.unusedSimpArgs false
set_option linter.unusedVariables false
namespace Go.Proofs.YtohpbclofcflaaaGreat
open Go.RowKit Go.Deep Go.PlainAid

def gz : Array Value := #[.int .i64 0, .int .i64 0, U 0, U 0, U 0, U 0, U 0, U 0, U 0, U 0, U 0, U 0, U 0, U 0, U 0, .int .i64 0, U 0, U 0, U 0, U 0, U 0, U 0, U 0, U 0, U 0, U 0, U 0, U 0, U 0]
def gr1 : Array Value := #[.int .i64 2, .int .i64 1, U 641, U 0, U 0, U 0, U 28778071877862015, U 1, U 0, U 0, U 0, U 1, U 0, U 0, U 0, .int .i64 1, U 1283, U 0, U 0, U 0, U 690135397925220949, U 989, U 0, U 0, U 0, U 475, U 0, U 0, U 0]
theorem size70 : (Tryz.prog.info? 97).map (·.size) = some 29 := by kernel_rfl
theorem IHolds.range {w : World} {b : Nat} {t : TypeId} {l : List Value} (h : IHolds w b t l) : w.rangeAt b 0 l := by
  intro j v hv
  rw [Nat.zero_add]
  obtain ⟨hj, e⟩ := List.getElem?_eq_some_iff.1 hv
  rw [h.cell j hj, e]
theorem results_cell2 {P : Program} {fn : Func} {p q : Tmp} {ty : TypeId} (h : fn.results = #[.cell p ty, .tmp q]) (tmps : Array Value) (w : World) (b o : Nat) (cs : List Value) (d : TypeDesc)
    (hp : tmps.getD p undef = .pointer (some ⟨b, o, none⟩)) (hc : w.rangeAt b o cs) (hu : P.underlying ty = some d) (hd : d.isRow = true) (hi : (P.info? ty).map (·.size) = some cs.length) :
    (results fn tmps).run P w = .ok (.tuple #[.agg cs.toArray, tmps.getD q undef]) w := by
  have := run_loadVar_mid w b o ty cs d hc hu hd hi
  rw [Array.getD_eq_getD_getElem?] at hp
  simp only [results, h]
  simp [Sem.run_bind, hp, asAddr, this]
def gr2 : Array Value := #[.int .i64 8, .int .i64 1, U 576465431670292481, U 0, U 0, U 0, U 14411523486952456191, U 576315691930484705, U 0, U 0, U 0, U 164727685076202836, U 0, U 0, U 0, .int .i64 1, U 1152930863340584963, U 0, U 0, U 0, U 2177741659672237397, U 1152781123600777171, U 0, U 0, U 0, U 169519337302233854, U 0, U 0, U 0]
def gr3 : Array Value := #[.int .i64 32, .int .i64 4, U 1, U 9223372036854775808, U 4543, U 1152921504606846976, U 18446744073709551615, U 18446744073709551601, U 9223372036854775807, U 18446744073709483463, U 1152921504606846975, U 18446743989154217217, U 9223372036854775807, U 18446359896548872895, U 1152921504606846975, .int .i64 4, U 3, U 0, U 9087, U 2305843009213693952, U 6148914691236517205, U 18446744073709551595, U 18446744073709551615, U 18446744073709488006, U 2305843009213693951, U 18446743946876550211, U 18446744073709551615, U 18446359896550040574, U 2305843009213693951]
set_option maxRecDepth 100000 in
set_option maxHeartbeats 4000000 in
theorem ground1 (w : World) : Calls Tryz.prog 73 #[.int .i64 1] w fun e w' => e = .returned (.tuple #[.agg gr1, .bool true]) ∧ Below w.heap.size w w' := by
  have hg : (w.alloc (.cells gz 97)).heap[w.heap.size]? = some (.cells gz 97 (0, 0)) := by
    have h := IHolds.new w 97 gz.toList
    unfold IHolds at h
    rw [Array.toArray_toList] at h
    exact h
  have hi : (Tryz.prog.info? 97).map (·.size) = some gr1.size := size70
  have ho : gz.size = gr1.size := rfl
  have h1 : gr1.all (·.oneCell') = true := by kernel_rfl
  go_enter Tryz.func73, Tryz.ntmps73
  go_wp2_with (first
    | (refine wpList_buildTo rfl 97 _ rfl (some 15) rfl gr1 (by as_aux_lemma => kernel_rfl) ?_)
    | (refine wpList_store_row rfl 97 (.tmp 2) (.tmp 15) rfl w.heap.size gr1 rfl rfl 97 gz hg hi ho h1 ?_))
  rw [World.setRow_alloc_new]
  have J : IHolds (w.alloc (.cells gr1 97)) w.heap.size 97 gr1.toList := by
    have h := IHolds.new w 97 gr1.toList
    rw [Array.toArray_toList] at h
    exact h
  exact bodyPost_ret (v := .tuple #[.agg gr1.toList.toArray, .bool true]) (results_cell2 Tryz.results73 _ _ w.heap.size 0 gr1.toList _ rfl J.range Tryz.underlying97 rfl size70) rfl ⟨by rw [Array.toArray_toList], nB _ _⟩
set_option maxRecDepth 100000 in
set_option maxHeartbeats 4000000 in
theorem ground2 (w : World) : Calls Tryz.prog 73 #[.int .i64 2] w fun e w' => e = .returned (.tuple #[.agg gr2, .bool true]) ∧ Below w.heap.size w w' := by
  have hg : (w.alloc (.cells gz 97)).heap[w.heap.size]? = some (.cells gz 97 (0, 0)) := by
    have h := IHolds.new w 97 gz.toList
    unfold IHolds at h
    rw [Array.toArray_toList] at h
    exact h
  have hi : (Tryz.prog.info? 97).map (·.size) = some gr2.size := size70
  have ho : gz.size = gr2.size := rfl
  have h1 : gr2.all (·.oneCell') = true := by kernel_rfl
  go_enter Tryz.func73, Tryz.ntmps73
  go_wp2_with (first
    | (refine wpList_buildTo rfl 97 _ rfl (some 26) rfl gr2 (by as_aux_lemma => kernel_rfl) ?_)
    | (refine wpList_store_row rfl 97 (.tmp 2) (.tmp 26) rfl w.heap.size gr2 rfl rfl 97 gz hg hi ho h1 ?_))
  rw [World.setRow_alloc_new]
  have J : IHolds (w.alloc (.cells gr2 97)) w.heap.size 97 gr2.toList := by
    have h := IHolds.new w 97 gr2.toList
    rw [Array.toArray_toList] at h
    exact h
  exact bodyPost_ret (v := .tuple #[.agg gr2.toList.toArray, .bool true]) (results_cell2 Tryz.results73 _ _ w.heap.size 0 gr2.toList _ rfl J.range Tryz.underlying97 rfl size70) rfl ⟨by rw [Array.toArray_toList], nB _ _⟩
set_option maxRecDepth 100000 in
set_option maxHeartbeats 4000000 in
theorem ground3 (w : World) : Calls Tryz.prog 73 #[.int .i64 3] w fun e w' => e = .returned (.tuple #[.agg gr3, .bool true]) ∧ Below w.heap.size w w' := by
  have hg : (w.alloc (.cells gz 97)).heap[w.heap.size]? = some (.cells gz 97 (0, 0)) := by
    have h := IHolds.new w 97 gz.toList
    unfold IHolds at h
    rw [Array.toArray_toList] at h
    exact h
  have hi : (Tryz.prog.info? 97).map (·.size) = some gr3.size := size70
  have ho : gz.size = gr3.size := rfl
  have h1 : gr3.all (·.oneCell') = true := by kernel_rfl
  go_enter Tryz.func73, Tryz.ntmps73
  go_wp2_with (first
    | (refine wpList_buildTo rfl 97 _ rfl (some 37) rfl gr3 (by as_aux_lemma => kernel_rfl) ?_)
    | (refine wpList_store_row rfl 97 (.tmp 2) (.tmp 37) rfl w.heap.size gr3 rfl rfl 97 gz hg hi ho h1 ?_))
  rw [World.setRow_alloc_new]
  have J : IHolds (w.alloc (.cells gr3 97)) w.heap.size 97 gr3.toList := by
    have h := IHolds.new w 97 gr3.toList
    rw [Array.toArray_toList] at h
    exact h
  exact bodyPost_ret (v := .tuple #[.agg gr3.toList.toArray, .bool true]) (results_cell2 Tryz.results73 _ _ w.heap.size 0 gr3.toList _ rfl J.range Tryz.underlying97 rfl size70) rfl ⟨by rw [Array.toArray_toList], nB _ _⟩
set_option maxRecDepth 100000 in
set_option maxHeartbeats 4000000 in
theorem ground0 (w : World) (z : Int) (z1 : (z == 1) = false) (z2 : (z == 2) = false) (z3 : (z == 3) = false) : Calls Tryz.prog 73 #[.int .i64 z] w fun e w' => e = .returned (.tuple #[.agg gz, .bool false]) ∧ Below w.heap.size w w' := by
  have hg : (w.alloc (.cells gz 97)).heap[w.heap.size]? = some (.cells gz 97 (0, 0)) := by
    have h := IHolds.new w 97 gz.toList
    unfold IHolds at h
    rw [Array.toArray_toList] at h
    exact h
  have hi : (Tryz.prog.info? 97).map (·.size) = some gz.size := size70
  have ho : gz.size = gz.size := rfl
  have h1 : gz.all (·.oneCell') = true := by kernel_rfl
  go_enter Tryz.func73, Tryz.ntmps73
  go_wp2_with (first
    | (refine wpList_buildTo rfl 97 _ rfl (some 38) rfl gz (by as_aux_lemma => kernel_rfl) ?_)
    | (refine wpList_store_row rfl 97 (.tmp 2) (.tmp 38) rfl w.heap.size gz rfl rfl 97 gz hg hi ho h1 ?_))
  rw [World.setRow_alloc_new]
  have J : IHolds (w.alloc (.cells gz 97)) w.heap.size 97 gz.toList := by
    have h := IHolds.new w 97 gz.toList
    rw [Array.toArray_toList] at h
    exact h
  exact bodyPost_ret (v := .tuple #[.agg gz.toList.toArray, .bool false]) (results_cell2 Tryz.results73 _ _ w.heap.size 0 gz.toList _ rfl J.range Tryz.underlying97 rfl size70) rfl ⟨by rw [Array.toArray_toList], nB _ _⟩
end Go.Proofs.YtohpbclofcflaaaGreat
