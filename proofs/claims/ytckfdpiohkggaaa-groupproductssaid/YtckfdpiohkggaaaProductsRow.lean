/-
  For every number of a kind and every two lists of texts the law GroupProducts answers true: Product answers as the document's own reckoning does. No condition.
-/
import Derived.Test.YtckfdpiohkggaaaFrame
import Derived.ChangeMaps5
import Derived.Deep.Strs
import Derived.Test.YtckfdpiohkggaaaProdW
set_option linter.unusedSimpArgs false
set_option linter.unusedVariables false
namespace Go.Proofs.Ytckfdpiohkggaaa
open Go.RowKit Go.Deep Go.PlainAid
theorem products_kind {z : Int} {G : Array Value} {S Wd M low one sq Ri Wd2 M2 low2 one2 sq2 Ri2 : Nat} (k : KD z G S Wd M low one sq Ri Wd2 M2 low2 one2 sq2 Ri2) (w : World) (xs ns : List ByteArray) {ax an : Option Addr} {cx cn : Nat} (hx : SAt w ax xs) (hn : SAt w an ns) :
    Calls Try.prog 7 #[.int .i64 z, .slice ax xs.length cx, .slice an ns.length cn] w fun e w' => e = .returned (.bool true) ∧ Below w.heap.size w w' := by
  by_cases h1 : 256 < xs.length
  · exact plaw_longA k.hS0 k.K9 (by omega) (prod_longA k w h1) (fun W => lawText_bad 3 _ W rfl)
  by_cases h2 : 256 < ns.length
  · exact plaw_longN k.hS0 k.K9 (by omega) (by omega) (prod_longN k w h1 h2) (fun W => lawText_bad 3 _ W rfl)
  by_cases h3 : xs.length = ns.length
  · rw [← h3]
    exact plaw_ok k hx hn rfl h3.symm (by omega)
  · exact plaw_form k.hS0 k.K9 (by omega) (by omega) (by omega) (by simp [bne]; omega) (prod_form k w h1 h2 h3) (fun W => lawText_bad 2 _ W rfl)
theorem groupProducts_walk (z : Int) (xs ns : List ByteArray) {ax an : Option Addr} {cx cn : Nat} (w : World) (hx : SAt w ax xs) (hn : SAt w an ns) :
    Calls Try.prog 7 #[.int .i64 z, .slice ax xs.length cx, .slice an ns.length cn] w fun e w' => e = .returned (.bool true) ∧ Below w.heap.size w w' := by
  by_cases z1 : z = 1
  · subst z1; exact products_kind kd1 w xs ns hx hn
  by_cases z2 : z = 2
  · subst z2; exact products_kind kd2 w xs ns hx hn
  by_cases z3 : z = 3
  · subst z3; exact products_kind kd3 w xs ns hx hn
  have G := fun W => ground0 W z (beq_eq_false_iff_ne.2 z1) (beq_eq_false_iff_ne.2 z2) (beq_eq_false_iff_ne.2 z3)
  exact plaw_none (q := 0) (p := 0) (S := 0) (fun W => kind0 W z (beq_eq_false_iff_ne.2 z1) (bne_iff_ne.2 z1) (beq_eq_false_iff_ne.2 z2) (beq_eq_false_iff_ne.2 z3)) (prod_none w rfl size70 (by kernel_rfl) G) (fun W => lawText_bad 1 _ W rfl)
end Go.Proofs.Ytckfdpiohkggaaa
namespace Go.Proofs.Ytckfdpiohkggaaa.groupProducts
open Go.ChangeShapes Go.WideShapes Go.ChangeAt Go.RowKit Go.Deep

theorem laidOut : laidOutB Try.prog = true := by kernel_rfl
theorem cells9 : Try.prog.cellsOf 9 = 1 := by kernel_rfl
set_option maxRecDepth 100000 in
/-- A list of texts that came in, as a list. -/
theorem strs_at {H : Type} {enc : TypeId × Value → H} {W : World} {base b0 : Nat} {sp : Nat → Bool} {held : Bool} {v : Value} {d : DataW H} {ps : List MemPlace} (hv : Value.okWide Try.prog W .any base 49 v) (h : DataW.Trod enc Try.prog W b0 sp held 49 v d ps) :
    ∃ (l : List ByteArray) (a : Option Addr) (cap : Nat), v = .slice a l.length cap ∧ SAt W a l := by
  obtain ⟨a0, len, cap, rfl⟩ := okWide_slice Try.underlying49 hv
  obtain ⟨fuel, hf⟩ := h
  rcases open_strs Try.underlying49 Try.underlying9 cells9 hf with ⟨hcs, hx⟩ | ⟨a, len', cap', m, Sx, hcs, _, hl, hm, hmm, hx, hcell⟩
  · simp [Value.cells] at hcs
    obtain ⟨rfl, rfl, rfl⟩ := hcs
    exact ⟨[], none, 0, rfl, fun i hi => by cases hi⟩
  · simp [Value.cells] at hcs
    obtain ⟨rfl, rfl, rfl⟩ := hcs
    have hlm : len ≤ m := by rw [hmm]; split <;> omega
    refine ⟨(List.range len).map Sx, some a, cap, by simp, fun i hi => ?_⟩
    have hi' : i < len := by simpa using hi
    obtain ⟨b, off, spot⟩ := a
    have hspot : spot = none := by simpa [Addr.add] using World.cell?_spot (hcell 0 (by omega)).1
    subst hspot
    refine ⟨b, off, rfl, ?_⟩
    have := (hcell i (by omega)).1
    rw [add_plain] at this
    have e : tx ((List.range len).map Sx) i = Sx i := by simp [tx, List.getD_eq_getElem?_getD, hi']
    rw [e]
    simpa using this
set_option maxRecDepth 100000 in
theorem lifted (os : Os) (started : os.Started) (H : Type) (enc : TypeId × Value → H) :
    ReturnsInHanded {} Try.checked os 7 .any (Rows.groupProductsSpec.pre6 enc Try.prog Try.f7 Rows.groupProductsRow.domain false) (Rows.groupProductsSpec.post enc Try.prog Try.f7 false true false false) := by
  refine returnsInHanded_of_change (C := Try.checked) own started (by kernel_rfl) Try.func7
    (ChangeSpec.witness6 (enc := enc) (C := Try.checked) false ⟨#[], #[.int .i64 0, .slice none 0 0, .slice none 0 0], []⟩ 8 (by kernel_rfl) (by kernel_rfl) (by kernel_rfl) (by kernel_rfl)) ?_
  intro W base args ds gs before hval0 hW hcnd _
  have hval : ∀ (j : Nat) t v, Try.f7.params[j]? = some t → args[j]? = some v → Value.okWide Try.prog W .any base t v := hval0
  have hW' := hW
  obtain ⟨p, q, hA0, hV, rfl, hfz, hnd⟩ := hW
  have hA : DataW.TrodAll enc Try.prog W 0 (fun _ => true) true Try.f7.params.toList args.toList ds p := hA0
  rw [Try.params7] at hA hval
  obtain ⟨v0, vs0, d0, ds0, p0, q0, hargs, rfl, rfl, h0, r0⟩ := trodAll_cons hA
  obtain ⟨v1, vs1, d1, ds1, p1, q1, rfl, rfl, rfl, h1, r1⟩ := trodAll_cons r0
  obtain ⟨v2, vs2, d2, ds2, p2, q2, rfl, rfl, rfl, h2, r2⟩ := trodAll_cons r1
  obtain ⟨rfl, rfl, rfl⟩ := trodAll_nil r2
  obtain rfl : args = #[v0, v1, v2] := by cases args; simp_all
  obtain ⟨rfl, rfl⟩ := trodVars_none hV
  obtain ⟨a0, rfl, rfl, rfl, w0⟩ := open_int Try.underlying3 (hval 0 3 v0 rfl rfl) h0
  obtain ⟨xs, ax, cx, rfl, hx⟩ := strs_at (hval 1 49 v1 rfl rfl) h1
  obtain ⟨ns, an, cn, rfl, hn⟩ := strs_at (hval 2 49 v2 rfl rfl) h2
  clear hA0 hval0
  simp only [List.append_nil, List.nil_append] at hW'
  have hlt : ∀ x ∈ p1 ++ p2, x.block < W.heap.size := fun x hx => by simpa using hW'.lt x hx
  refine (groupProducts_walk a0 xs ns W hx hn).mono fun e W' ⟨he, hb⟩ => ?_
  subst he
  exact ⟨_, rfl, post_of_below (pa := p1 ++ p2) (pv := []) hb hW' (fun _ _ _ => trodAll_cons_mk (shut_bool Try.underlying4 _) trodAll_mk0)
    (fun sp hsp => by
      have t1 := WideElems.Trod_stays (sp' := sp) laidOut (by kernel_rfl) (of_decide_eq_true (by kernel_rfl)) h1 (fun x hx => hb.same (hlt x (List.mem_append_left _ hx))) (fun x hx => hsp x (List.mem_append_left _ hx))
      have t2 := WideElems.Trod_stays (sp' := sp) laidOut (by kernel_rfl) (of_decide_eq_true (by kernel_rfl)) h2 (fun x hx => hb.same (hlt x (List.mem_append_right _ hx))) (fun x hx => hsp x (List.mem_append_right _ hx))
      have t3 := trodAll_cons_mk (shut_int (enc := enc) (P := Try.prog) (w := W') (base := 0) (spare := sp) (held := true) Try.underlying3 w0) (trodAll_cons_mk t1 (trodAll_cons_mk t2 trodAll_mk0))
      rw [List.append_nil, List.nil_append] at t3
      exact t3) (fun _ _ => rfl) (by simp)
    (ok_one (by kernel_rfl) rfl (okWide_bool_mk Try.underlying4 _))⟩
theorem over : Rows.GroupProductsSaid :=
  OpenClaim.holds_of_wide 7 Try.f7 rfl rfl rfl rfl rfl rfl rfl ⟨rfl, rfl, rfl, rfl, rfl⟩ rfl rfl rfl rfl rfl (by kernel_rfl) Try.func7 (by kernel_rfl)
    (of_decide_eq_true (by kernel_rfl)) (by unfold Func.isWrapper; first | (rw [if_pos (by decide +kernel)]; kernel_rfl) | (rw [if_neg (by decide +kernel)]; exact ⟨rfl, rfl⟩))
    (fun os started H enc _ => lifted os started H enc)
end Go.Proofs.Ytckfdpiohkggaaa.groupProducts
namespace Go.Proofs.Ytckfdpiohkggaaa
theorem groupProducts_holds : Rows.GroupProductsSaid := groupProducts.over
end Go.Proofs.Ytckfdpiohkggaaa
