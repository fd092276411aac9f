/-
  For every label and every list of parts, where all that is handed in is of bulk at most 1048576, the law FoldTags answers true: Tag answers what the document's own steps answer. Condition: the package variables start, orders and places hold what the program's text lays in them (the card ties them).
-/
import Derived.Test.YtalagjmjpoacmaaDoorPressesCard
import Derived.Test.YtalagjmjpoacmaaDoorTagsWalk
import Derived.Deep.Strs
set_option linter.unusedSimpArgs false
set_option linter.unusedVariables false
namespace Go.Proofs.YtalagjmjpoacmaaDoor.foldTags
open Go.ChangeShapes Go.WideShapes Go.ChangeAt Go.RowKit Go.ChangeMaps Go.Deep

/-! ### What the bound gives -/
theorem small {H : Type} {l : List (DataW H)} (hk : Rows.uptoSmall H l = true) : Rows.uptoBulkAll l ≤ 1048576 := of_decide_eq_true hk
theorem parts_bulk {H : Type} (Sx : Nat → ByteArray) : ∀ l : List Nat, (partsL (l.map Sx)).length ≤ 4 * Rows.uptoBulkAll (l.map fun i => (DataW.lit (.string (Sx i).data.toList) : DataW H))
  | [] => by simp [partsL]
  | i :: l => by
    have ih := parts_bulk (H := H) Sx l
    simp only [List.map_cons, partsL_cons, List.length_append, fourL_length, Rows.uptoBulkAll, Rows.uptoBulk]
    omega
theorem each_bulk {H : Type} (Sx : Nat → ByteArray) : ∀ l : List Nat, ∀ i ∈ l, (Sx i).size ≤ Rows.uptoBulkAll (l.map fun i => (DataW.lit (.string (Sx i).data.toList) : DataW H))
  | [], _, h => by cases h
  | j :: l, i, h => by
    simp only [List.map_cons, Rows.uptoBulkAll, Rows.uptoBulk]
    rw [Lib.size_eq]
    rcases List.mem_cons.1 h with rfl | h'
    · omega
    · have := each_bulk (H := H) Sx l i h'
      rw [Lib.size_eq] at this
      omega
theorem many_bulk {H : Type} (Sx : Nat → ByteArray) : ∀ l : List Nat, l.length ≤ Rows.uptoBulkAll (l.map fun i => (DataW.lit (.string (Sx i).data.toList) : DataW H))
  | [] => by simp
  | j :: l => by
    have := many_bulk (H := H) Sx l
    simp only [List.map_cons, List.length_cons, Rows.uptoBulkAll, Rows.uptoBulk]
    omega
theorem laidOut : laidOutB Tryd.prog = true := by kernel_rfl
theorem cells9 : Tryd.prog.cellsOf 9 = 1 := by kernel_rfl

/-- WHAT THE WALK GIVES, FOR EVERY ARGUMENT OF SUCH BULK AND EVERY WORLD THAT HOLDS THE TABLES. -/
theorem contract (H : Type) (enc : TypeId × Value → H) (W : World) (base : Nat) (args : Array Value) (ds gs : List (DataW H)) (before : List MemPlace)
    (hval : ∀ (j : Nat) t v, Tryd.f7.params[j]? = some t → args[j]? = some v → Value.okWide Tryd.prog W .any base t v)
    (hW : DataW.Whole enc Tryd.prog Tryd.f7.params.toList Rows.foldTagsSpec.vars false W args.toList ds gs before)
    (hk : Rows.uptoSmall H (ds ++ gs) = true) (hT : Tabs W) (hS : Starts W) :
    Calls Tryd.prog 7 args W fun e W' => ∃ v, e = .returned v ∧ Rows.foldTagsSpec.post enc Tryd.prog Tryd.f7 false true false false W args v W' := by
  have hW' := hW
  have hlt0 := hW.lt
  obtain ⟨p, q, hA0, hV, rfl, hfz, hnd⟩ := hW
  have hA : DataW.TrodAll enc Tryd.prog W 0 (fun _ => true) true Tryd.f7.params.toList args.toList ds p := hA0
  rw [Tryd.params7] at hA hval
  obtain ⟨v0, vs0, d0, ds0, p0, q0, hargs, rfl, rfl, h0, r0⟩ := trodAll_cons hA
  obtain ⟨v1, vs1, d1, ds1, p1, q1, rfl, rfl, rfl, h1, r1⟩ := trodAll_cons r0
  obtain ⟨rfl, rfl, rfl⟩ := trodAll_nil r1
  obtain rfl : args = #[v0, v1] := by cases args; simp_all
  obtain ⟨rfl, rfl⟩ := trodVars_none hV
  obtain ⟨s0, rfl, rfl, rfl, m0⟩ := open_string Tryd.underlying9 (hval 0 9 v0 rfl rfl) h0
  obtain ⟨a0, len, cap, rfl⟩ := okWide_slice Tryd.underlying38 (hval 1 38 v1 rfl rfl)
  have h1k := h1
  obtain ⟨fuel, hf⟩ := h1
  clear hA0
  have hsm := small hk
  have fin : ∀ ps : List ByteArray, len = ps.length → SAt W a0 ps → ps.length < 4611686018427387904 → s0.size < 4611686018427387904 → (∀ i (h : i < ps.length), ps[i].size < 4611686018427387904) → (partsL (s0 :: ps)).length < 4611686018427387904 →
      Calls Tryd.prog 7 #[.string s0, .slice a0 len cap] W fun e W' => ∃ v, e = .returned v ∧ Rows.foldTagsSpec.post enc Tryd.prog Tryd.f7 false true false false W #[.string s0, .slice a0 len cap] v W' := by
    intro ps hlen hat b1 b2 b3 b4
    subst hlen
    simp only [List.append_nil, List.nil_append] at hW'
    have hlt : ∀ x ∈ p1, x.block < W.heap.size := fun x hx => by simpa using hW'.lt x hx
    refine (foldTags_walk s0 a0 cap ps W hat b1 b2 b3 b4 hT hS).mono fun e W' ⟨he, hb⟩ => ?_
    subst he
    exact ⟨_, rfl, post_of_below (pa := p1) (pv := []) hb hW' (fun _ _ _ => trodAll_cons_mk (shut_bool Tryd.underlying4 _) trodAll_mk0)
      (fun sp hsp => by
        have t1 := WideElems.Trod_stays (sp' := sp) laidOut (by kernel_rfl) (of_decide_eq_true (by kernel_rfl)) h1k (fun x hx => hb.same (hlt x hx)) (fun x hx => hsp x hx)
        have t2 := trodAll_cons_mk (shut_string (enc := enc) (P := Tryd.prog) (w := W') (base := 0) (sp := sp) (held := true) Tryd.underlying9 m0) (trodAll_cons_mk t1 trodAll_mk0)
        rw [List.append_nil, List.nil_append] at t2
        exact t2) (fun _ _ => rfl) (by simp)
      (ok_one (by kernel_rfl) rfl (okWide_bool_mk Tryd.underlying4 _))⟩
  rcases open_strs Tryd.underlying38 Tryd.underlying9 cells9 hf with ⟨hcs, hx⟩ | ⟨a, len', cap', m, Sx, hcs, _, hl, hm, hmm, hx, hcell⟩
  · simp [Value.cells] at hcs
    obtain ⟨rfl, rfl, rfl⟩ := hcs
    simp only [Prod.mk.injEq] at hx
    obtain ⟨rfl, rfl⟩ := hx
    simp only [List.cons_append, List.nil_append, Rows.uptoBulkAll, Rows.uptoBulk] at hsm
    have hs0 : s0.size < 1048577 := by rw [Lib.size_eq]; omega
    exact fin [] rfl (fun i hi => by cases hi) (by simp) (by omega) (fun i hi => by cases hi) (by rw [partsL_one, List.length_append, fourL_length, ← Lib.size_eq]; omega)
  · simp [Value.cells] at hcs
    obtain ⟨rfl, rfl, rfl⟩ := hcs
    simp only [if_true] at hmm
    obtain rfl : cap = m := hmm.symm
    simp only [Prod.mk.injEq] at hx
    obtain ⟨rfl, rfl⟩ := hx
    simp only [List.cons_append, List.nil_append, Rows.uptoBulkAll, Rows.uptoBulk] at hsm
    have hs0 : s0.size < 1048577 := by rw [Lib.size_eq]; omega
    have k1 := parts_bulk (H := H) Sx (List.range len)
    have k2 := each_bulk (H := H) Sx (List.range len)
    have k3 := many_bulk (H := H) Sx (List.range len)
    rw [List.length_range] at k3
    refine fin ((List.range len).map Sx) (by simp) (fun i hi => ?_) (by simp; omega) (by omega) (fun i hi => ?_) ?_
    · have hi' : i < len := by simpa using hi
      obtain ⟨b, off, spot⟩ := a
      have hspot : spot = none := by simpa [Addr.add] using World.cell?_spot (hcell 0 (by omega)).1
      subst hspot
      refine ⟨b, off, rfl, ?_⟩
      have := (hcell i (by omega)).1
      rw [add_plain] at this
      simpa using this
    · have hi' : i < len := by simpa using hi
      have := k2 i (by simpa using hi')
      simp only [List.getElem_map, List.getElem_range]
      omega
    · rw [partsL_cons, List.length_append, List.length_append, fourL_length, ← Lib.size_eq]
      omega

def wargs : Array Value := #[.string ⟨#[]⟩, .slice none 0 0]
theorem laid_met (os : Os) : laidMet Tryd.prog Rows.foldTagsUptoRow.laid ((laidWorld Tryd.prog os).forCall (fun _ _ => 0) ⟨#[], wargs, []⟩).memory :=
  laidMet_of_run' 8 (by kernel_rfl) (by kernel_rfl)
theorem reads (os : Os) {H : Type} (enc : TypeId × Value → H) : ∃ places, DataW.whole enc Tryd.prog ((laidWorld Tryd.prog os).forCall (fun _ _ => 0) ⟨#[], wargs, []⟩).memory Tryd.f7.params.toList Rows.foldTagsSpec.vars false wargs.toList 8 = some ([.lit (.string []), .nil], [], places) :=
  ⟨[], by kernel_rfl⟩

set_option maxRecDepth 100000 in
theorem lifted (os : Os) (started : os.Started) (H : Type) (enc : TypeId × Value → H) (F : Stop.Interp) :
    ReturnsInHanded {} Tryd.checked os 7 .any ((Rows.OpenSpec.upto Rows.foldTagsSpec).preRow enc Tryd.prog Tryd.f7 Rows.foldTagsUptoRow.domain false Rows.foldTagsUptoRow.laid) (((Rows.OpenSpec.upto Rows.foldTagsSpec).at F).post enc Tryd.prog Tryd.f7 false true false false) := by
  obtain ⟨places, hx⟩ := reads os enc
  refine returnsInHanded_of_row (C := Tryd.checked) (s := Rows.OpenSpec.upto Rows.foldTagsSpec) own started (by kernel_rfl) Tryd.func7
    (witness_row_at (enc := enc) (C := Tryd.checked) false (laidWorld Tryd.prog os) wargs rfl (by kernel_rfl) (by kernel_rfl) (by kernel_rfl)
      (OpenSpec.preRow_of_cond 8 hx (by kernel_rfl) (fun k hk => by cases hk; kernel_rfl) (by kernel_rfl) (laid_met os))) ?_
  intro W base args ds gs before hval hW _ hcond _ hL hsh _
  exact contract H enc W base args ds gs before hval hW (hcond _ rfl) (tabs3 hL hsh) (foldPresses.starts hL)

theorem said : Rows.FoldTagsUptoSaid :=
  OpenClaim.holds_of_cond 7 Tryd.f7 rfl rfl rfl rfl rfl rfl rfl ⟨rfl, rfl, rfl, rfl, rfl⟩ rfl rfl rfl rfl rfl (by kernel_rfl) Tryd.func7 (by kernel_rfl)
    (of_decide_eq_true (by kernel_rfl)) (by unfold Func.isWrapper; first | (rw [if_pos (by decide +kernel)]; kernel_rfl) | (rw [if_neg (by decide +kernel)]; exact ⟨rfl, rfl⟩))
    (fun os started H enc _ F => by rw [OpenClaim.pre_eq_preRow]; exact lifted os started H enc F)

/-- No parameter wants a stand-in; the program's own looks are off. -/
theorem plain (f : FuncId) (fn : Func) (hf : Tryd.pinned.checked.prog.funcNamed "hustings/hustingslaw1.FoldTags" = some f) (hfn : Tryd.pinned.checked.prog.funcs[f]? = some fn) :
    false = Tryd.pinned.checked.prog.looks [] ∧ ∀ (j : Nat) t, fn.params[j]? = some t → Tryd.pinned.checked.prog.wantsStandIn t = false := by
  obtain rfl : f = 7 := Option.some.inj ((show Tryd.prog.funcNamed "hustings/hustingslaw1.FoldTags" = some 7 by kernel_rfl).symm.trans hf) |>.symm
  obtain rfl : fn = Tryd.f7 := (Option.some.inj (Tryd.func7.symm.trans hfn)).symm
  refine ⟨by kernel_rfl, fun j t ht => ?_⟩
  rw [Tryd.params7] at ht
  have hm := Array.mem_of_getElem? ht
  simp only [List.mem_toArray, List.mem_cons, List.not_mem_nil, or_false] at hm
  rcases hm with rfl | rfl
  · exact (show Tryd.prog.wantsStandIn 9 = false by kernel_rfl)
  · exact (show Tryd.prog.wantsStandIn 38 = false by kernel_rfl)

/-- THE CARD. -/
theorem card : Rows.FoldTagsUptoCardSaid :=
  Claim7.holds_tied_plain_at .later [] _ _ _ _ said (fun _ h => by cases h) (by kernel_rfl) (fun _ h => by cases h) foldTagsUpto_row_tie rfl ⟨rfl, rfl⟩ (by kernel_rfl) rfl plain (by kernel_rfl)
end Go.Proofs.YtalagjmjpoacmaaDoor.foldTags
namespace Go.Proofs.YtalagjmjpoacmaaDoor
theorem foldTagsUpto_holds : Rows.FoldTagsUptoCardSaid := foldTags.card
end Go.Proofs.YtalagjmjpoacmaaDoor
