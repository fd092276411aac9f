/-
  For every label and every list of steps the law FoldTalks answers true: talks, step by step, answer what the document's own talks answer, and a fork goes on beside what it came of. Condition: the package variables start, orders and places hold what the program's text lays in them (the card ties them).
-/
import Derived.Test.YtalagjmjpoacmabDoorFrame
import Derived.Test.YtalagjmjpoacmabDoorTalksWalk
import Derived.Deep.Strs
set_option linter.unusedSimpArgs false
set_option linter.unusedVariables false
namespace Go.Proofs.YtalagjmjpoacmabDoor.foldTalks
open Go.ChangeShapes Go.WideShapes Go.ChangeAt Go.RowKit Go.ChangeMaps Go.Deep

def staZ : List Int := [1779033703, 3144134277, 1013904242, 2773480762, 1359893119, 2600822924, 528734635, 1541459225]
theorem sta_data : (Rows.laid_hustings_fold_start : DataW Unit) = Lib.tabData .u32 staZ := by kernel_rfl
theorem sta_get : ∀ i, i < 8 → staZ.getD i 0 = ((staL.getD i 0).toNat : Int) := by decide +kernel
theorem starts {W : World} {rest : List (String × DataW Unit)} (h : laidMet Tryd.prog (("hustings/fold.start", Rows.laid_hustings_fold_start) :: rest) W) : Starts W := by
  rw [sta_data] at h
  have hT := Lib.tabIs_of_head gSta gStaType Tryd.underlying44 Tryd.underlying43 cells22 cells27 h
  exact ⟨fun i hi => by rw [hT.cell gSta i hi, sta_get i hi]⟩


theorem laidOut : laidOutB Tryd.prog = true := by kernel_rfl
theorem cells35 : Tryd.prog.cellsOf 35 = 4 := by kernel_rfl
theorem cells3 : Tryd.prog.cellsOf 3 = 1 := by kernel_rfl
theorem cells9 : Tryd.prog.cellsOf 9 = 1 := by kernel_rfl
theorem bytes35 : Tryd.prog.bytesOf 35 = 48 := by kernel_rfl
theorem weightsAll_mem {H : Type} {P : Program} {e : TypeId} : ∀ {l : List (DataW H)} {d : DataW H}, d ∈ l → ∀ n ∈ d.weights P e, n ∈ DataW.weightsAll P e l
  | [], _, h, _, _ => by cases h
  | x :: l, d, h, n, hn => by
    simp only [DataW.weightsAll, List.mem_append]
    rcases List.mem_cons.1 h with rfl | h'
    · exact Or.inl hn
    · exact Or.inr (weightsAll_mem h' n hn)

/-- A step, as data. -/
def stepD {H : Type} (t : TStep) : DataW H := .agg [.lit (.int .i64 t.do_), .lit (.int .i64 t.at_), .lit (.string t.label.data.toList), .lit (.string t.text.data.toList)]
theorem open_step {H : Type} {enc : TypeId × Value → H} {W : World} {base : Nat} {sp : Nat → Bool} {held : Bool} {fuel : Nat} {cs : List Value} {x : DataW H × List MemPlace} (h : DataW.trod enc Tryd.prog W base sp held fuel 35 cs = some x) :
    ∃ t : TStep, cs = [.int .i64 t.do_, .int .i64 t.at_, .string t.label, .string t.text] ∧ x.1 = stepD t ∧ (-9223372036854775808 ≤ t.at_ ∧ t.at_ ≤ 9223372036854775807) := by
  obtain ⟨xs, n, rfl, rfl, hlen, hxl, hat⟩ := DataW.trod_struct Tryd.underlying35 h
  rw [cells35] at hlen
  match cs, hlen with
  | [a, b, c, d], _ =>
    have hxl' : xs.length = 4 := hxl
    match xs, hxl' with
    | [x0, x1, x2, x3], _ =>
      have h0 := hat 0 _ rfl
      change DataW.trod enc Tryd.prog W base sp held n 3 (([a, b, c, d].drop 0).take (Tryd.prog.cellsOf 3)) = [x0, x1, x2, x3][0]? at h0
      rw [cells3] at h0
      change DataW.trod enc Tryd.prog W base sp held n 3 [a] = some x0 at h0
      have h1 := hat 1 _ rfl
      change DataW.trod enc Tryd.prog W base sp held n 3 (([a, b, c, d].drop 1).take (Tryd.prog.cellsOf 3)) = [x0, x1, x2, x3][1]? at h1
      rw [cells3] at h1
      change DataW.trod enc Tryd.prog W base sp held n 3 [b] = some x1 at h1
      have h2 := hat 2 _ rfl
      change DataW.trod enc Tryd.prog W base sp held n 9 (([a, b, c, d].drop 2).take (Tryd.prog.cellsOf 9)) = [x0, x1, x2, x3][2]? at h2
      rw [cells9] at h2
      change DataW.trod enc Tryd.prog W base sp held n 9 [c] = some x2 at h2
      have h3 := hat 3 _ rfl
      change DataW.trod enc Tryd.prog W base sp held n 9 (([a, b, c, d].drop 3).take (Tryd.prog.cellsOf 9)) = [x0, x1, x2, x3][3]? at h3
      rw [cells9] at h3
      change DataW.trod enc Tryd.prog W base sp held n 9 [d] = some x3 at h3
      obtain ⟨z0, e0, rfl, w0⟩ := DataW.trod_int Tryd.underlying3 h0
      obtain ⟨z1, e1, rfl, w1⟩ := DataW.trod_int Tryd.underlying3 h1
      obtain ⟨s2, e2, rfl, w2⟩ := DataW.trod_string Tryd.underlying9 h2
      obtain ⟨s3, e3, rfl, w3⟩ := DataW.trod_string Tryd.underlying9 h3
      simp only [List.cons.injEq, and_true] at e0 e1 e2 e3
      subst e0 e1 e2 e3
      exact ⟨⟨z0, z1, s2, s3⟩, rfl, rfl, bounds_i64 w1⟩

/-- WHAT THE WALK GIVES, FOR EVERY ARGUMENT AND EVERY WORLD THAT HOLDS THE TABLES. -/
theorem contract (H : Type) (enc : TypeId × Value → H) (W : World) (base : Nat) (args : Array Value) (ds gs : List (DataW H)) (before : List MemPlace)
    (hval : ∀ (j : Nat) t v, Tryd.f4.params[j]? = some t → args[j]? = some v → Value.okWide Tryd.prog W .any base t v)
    (hW : DataW.Whole enc Tryd.prog Tryd.f4.params.toList Rows.foldTalksSpec.vars false W args.toList ds gs before)
    (hsz : (DataW.weightsEach Tryd.prog (Tryd.f4.params.toList ++ (OpenSpec.ofChange Rows.foldTalksSpec).bare.plain.varTypes Tryd.prog) (ds ++ gs)).all (· ≤ reachBytes) = true) (hT : Tabs W) (hS : Starts W) :
    Calls Tryd.prog 4 args W fun e W' => ∃ v, e = .returned v ∧ Rows.foldTalksSpec.post enc Tryd.prog Tryd.f4 false true false false W args v W' := by
  have hW' := hW
  obtain ⟨p, q, hA0, hV, rfl, hfz, hnd⟩ := hW
  have hA : DataW.TrodAll enc Tryd.prog W 0 (fun _ => true) true Tryd.f4.params.toList args.toList ds p := hA0
  rw [Tryd.params4] at hA hval hsz
  obtain ⟨v0, vs0, d0, ds0, p0, q0, hargs, rfl, rfl, h0, r0⟩ := trodAll_cons hA
  obtain ⟨v1, vs1, d1, ds1, p1, q1, rfl, rfl, rfl, h1, r1⟩ := trodAll_cons r0
  obtain ⟨rfl, rfl, rfl⟩ := trodAll_nil r1
  obtain rfl : args = #[v0, v1] := by cases args; simp_all
  obtain ⟨rfl, rfl⟩ := trodVars_none hV
  obtain ⟨s0, rfl, rfl, rfl, m0⟩ := open_string Tryd.underlying9 (hval 0 9 v0 rfl rfl) h0
  obtain ⟨a0, len, cap, rfl⟩ := okWide_slice Tryd.underlying26 (hval 1 26 v1 rfl rfl)
  have h1k := h1
  obtain ⟨fuel, hf⟩ := h1
  clear hA0
  have z0 := sized_string hsz (j := 0) (t := 9) rfl rfl
  have hr := reachBytes_lt
  have hs0 : s0.size < 1125899906842624 := by rw [Lib.size_eq]; omega
  have fin : ∀ st : List TStep, len = st.length → StAt W a0 st → st.length < 4398046511104 → (∀ i (h : i < st.length), st[i].label.size < 1125899906842624 ∧ st[i].text.size < 1125899906842624) → (∀ i (h : i < st.length), -9223372036854775808 ≤ st[i].at_ ∧ st[i].at_ ≤ 9223372036854775807) →
      Calls Tryd.prog 4 #[.string s0, .slice a0 len cap] W fun e W' => ∃ v, e = .returned v ∧ Rows.foldTalksSpec.post enc Tryd.prog Tryd.f4 false true false false W #[.string s0, .slice a0 len cap] v W' := by
    intro st hlen hat b1 b2 b3
    subst hlen
    simp only [List.append_nil, List.nil_append] at hW'
    have hlt : ∀ x ∈ p1, x.block < W.heap.size := fun x hx => by simpa using hW'.lt x hx
    refine (foldTalks_walk s0 hs0 a0 cap st W hat b1 b2 b3 hT hS).mono fun e W' ⟨he, hb⟩ => ?_
    subst he
    exact ⟨_, rfl, post_of_below (pa := p1) (pv := []) hb hW' (fun _ _ _ => trodAll_cons_mk (shut_bool Tryd.underlying4 _) trodAll_mk0)
      (fun sp hsp => by
        have t1 := WideElems.Trod_stays (sp' := sp) laidOut (by kernel_rfl) (of_decide_eq_true (by kernel_rfl)) h1k (fun x hx => hb.same (hlt x hx)) (fun x hx => hsp x hx)
        have t2 := trodAll_cons_mk (shut_string (enc := enc) (P := Tryd.prog) (w := W') (base := 0) (sp := sp) (held := true) Tryd.underlying9 m0) (trodAll_cons_mk t1 trodAll_mk0)
        rw [List.append_nil, List.nil_append] at t2
        exact t2) (fun _ _ => rfl) (by simp)
      (ok_one (by kernel_rfl) rfl (okWide_bool_mk Tryd.underlying4 _))⟩
  rcases open_slice Tryd.underlying26 hf with ⟨hcs, hx⟩ | ⟨a, len', cap', m, n, D, Pl, hcs, _, hl, hm, hmm, hx, hcell⟩
  · simp [Value.cells] at hcs
    obtain ⟨rfl, rfl, rfl⟩ := hcs
    exact fin [] rfl (fun i hi => by cases hi) (by simp) (fun i hi => by cases hi) (fun i hi => by cases hi)
  · simp [Value.cells] at hcs
    obtain ⟨rfl, rfl, rfl⟩ := hcs
    simp only [if_true] at hmm
    obtain rfl : cap = m := hmm.symm
    simp only [Prod.mk.injEq] at hx
    obtain ⟨rfl, hp1⟩ := hx
    rw [cells35] at hcell
    haveI : Inhabited TStep := ⟨⟨0, 0, noB, noB⟩⟩
    obtain ⟨F, hF⟩ := choose_lt (α := TStep) (p := fun i (t : TStep) => W.cells? 0 (a.add (i * 4)) 4 = some [.int .i64 t.do_, .int .i64 t.at_, .string t.label, .string t.text] ∧ D i = stepD t ∧ (-9223372036854775808 ≤ t.at_ ∧ t.at_ ≤ 9223372036854775807)) (fun i hi => by
      obtain ⟨cs', g1, g2⟩ := hcell i hi
      obtain ⟨t, rfl, h2, h3⟩ := open_step g2
      exact ⟨t, g1, h2, h3⟩)
    have hlen : len ≤ 2932031007500 := by
      have := sized_slice hsz (j := 1) (t := 26) (e := 35) rfl rfl Tryd.underlying26
      rw [bytes35] at this
      simp only [List.length_map, List.length_range] at this
      have h3 : (len + (cap - len)) * 48 < 2 ^ 47 := by omega
      omega
    have hstr : ∀ i, i < len → (F i).label.size < 1125899906842624 ∧ (F i).text.size < 1125899906842624 := by
      intro i hi
      have hm1 : D i ∈ (List.range len).map D := List.mem_map.2 ⟨i, by simpa using hi, rfl⟩
      have hw : ∀ k ∈ (D i).weights Tryd.prog 35, k ≤ reachBytes := by
        intro k hk
        have := List.all_eq_true.1 hsz k (DataW.weights_mem_each (j := 1) (t := 26) rfl rfl k (by
          simp only [DataW.weights, Tryd.underlying26, List.mem_cons, List.mem_append]
          exact Or.inr (Or.inl (weightsAll_mem hm1 k hk))))
        simpa using this
      rw [(hF i (by omega)).2.1] at hw
      have hw1 := hw (F i).label.data.toList.length (by simp [stepD, DataW.weights, Tryd.underlying35, DataW.weightsEach])
      have hw2 := hw (F i).text.data.toList.length (by simp [stepD, DataW.weights, Tryd.underlying35, DataW.weightsEach])
      rw [Lib.size_eq, Lib.size_eq]
      omega
    refine fin ((List.range len).map F) (by simp) (fun i hi => ?_) (by simp; omega) (fun i hi => ?_) (fun i hi => ?_)
    · have hi' : i < len := by simpa using hi
      have c := (World.cells?_some (hF i (by omega)).1).2.2
      have c00 := (World.cells?_some (hF 0 (by omega)).1).2.2 0 (by omega)
      obtain ⟨b, off, spot⟩ := a
      have hspot : spot = none := by simpa [Addr.add] using World.cell?_spot c00
      subst hspot
      have e := fun j hj => c j hj
      simp only [add_plain] at e
      have e0 := e 0 (by omega)
      have e1 := e 1 (by omega)
      have e2 := e 2 (by omega)
      have e3 := e 3 (by omega)
      refine ⟨b, off, rfl, World.block_lt_of_cell? _ _ e0, ?_, ?_, ?_, ?_⟩
      · simpa using e0
      · simpa using e1
      · simpa using e2
      · simpa using e3
    · have hi' : i < len := by simpa using hi
      simpa using hstr i hi'
    · have hi' : i < len := by simpa using hi
      simpa using (hF i (by omega)).2.2

def wargs : Array Value := #[.string ⟨#[]⟩, .slice none 0 0]
theorem laid_met (os : Os) : laidMet Tryd.prog Rows.foldTalksRow.laid ((laidWorld Tryd.prog os).forCall (fun _ _ => 0) ⟨#[], wargs, []⟩).memory :=
  laidMet_of_run' 8 (by kernel_rfl) (by kernel_rfl)
theorem reads (os : Os) {H : Type} (enc : TypeId × Value → H) : ∃ places, DataW.whole enc Tryd.prog ((laidWorld Tryd.prog os).forCall (fun _ _ => 0) ⟨#[], wargs, []⟩).memory Tryd.f4.params.toList Rows.foldTalksSpec.vars false wargs.toList 8 = some ([.lit (.string []), .nil], [], places) :=
  ⟨[], by kernel_rfl⟩

set_option maxRecDepth 100000 in
theorem lifted (os : Os) (started : os.Started) (H : Type) (enc : TypeId × Value → H) (F : Stop.Interp) :
    ReturnsInHanded {} Tryd.checked os 4 .any ((OpenSpec.ofChange Rows.foldTalksSpec).preRow enc Tryd.prog Tryd.f4 Rows.foldTalksRow.domain false Rows.foldTalksRow.laid) (((OpenSpec.ofChange Rows.foldTalksSpec).at F).post enc Tryd.prog Tryd.f4 false true false false) := by
  obtain ⟨places, hx⟩ := reads os enc
  refine returnsInHanded_of_row (C := Tryd.checked) (s := OpenSpec.ofChange Rows.foldTalksSpec) own started (by kernel_rfl) Tryd.func4
    (witness_row_at (enc := enc) (C := Tryd.checked) false (laidWorld Tryd.prog os) wargs rfl (by kernel_rfl) (by kernel_rfl) (by kernel_rfl)
      (OpenSpec.preRow_of_cond 8 hx (by kernel_rfl) (fun k hk => by cases hk) (by kernel_rfl) (laid_met os))) ?_
  intro W base args ds gs before hval hW _ _ hsz hL hsh _
  exact contract H enc W base args ds gs before hval hW hsz (tabs3 hL hsh) (starts hL)

theorem said : Rows.FoldTalksSaid :=
  OpenClaim.holds_of_cond 4 Tryd.f4 rfl rfl rfl rfl rfl rfl rfl ⟨rfl, rfl, rfl, rfl, rfl⟩ rfl rfl rfl rfl rfl (by kernel_rfl) Tryd.func4 (by kernel_rfl)
    (of_decide_eq_true (by kernel_rfl)) (by unfold Func.isWrapper; first | (rw [if_pos (by decide +kernel)]; kernel_rfl) | (rw [if_neg (by decide +kernel)]; exact ⟨rfl, rfl⟩))
    (fun os started H enc _ F => by rw [OpenClaim.pre_eq_preRow]; exact lifted os started H enc F)

/-- No parameter wants a stand-in; the program's own looks are off. -/
theorem plain (f : FuncId) (fn : Func) (hf : Tryd.pinned.checked.prog.funcNamed "hustings/hustingslaw1.FoldTalks" = some f) (hfn : Tryd.pinned.checked.prog.funcs[f]? = some fn) :
    false = Tryd.pinned.checked.prog.looks [] ∧ ∀ (j : Nat) t, fn.params[j]? = some t → Tryd.pinned.checked.prog.wantsStandIn t = false := by
  obtain rfl : f = 4 := Option.some.inj ((show Tryd.prog.funcNamed "hustings/hustingslaw1.FoldTalks" = some 4 by kernel_rfl).symm.trans hf) |>.symm
  obtain rfl : fn = Tryd.f4 := (Option.some.inj (Tryd.func4.symm.trans hfn)).symm
  refine ⟨by kernel_rfl, fun j t ht => ?_⟩
  rw [Tryd.params4] at ht
  have hm := Array.mem_of_getElem? ht
  simp only [List.mem_toArray, List.mem_cons, List.not_mem_nil, or_false] at hm
  rcases hm with rfl | rfl
  · exact (show Tryd.prog.wantsStandIn 9 = false by kernel_rfl)
  · exact (show Tryd.prog.wantsStandIn 26 = false by kernel_rfl)

/-- THE CARD. -/
theorem card : Rows.FoldTalksCardSaid :=
  Claim7.holds_tied_plain_at .later [] _ _ _ _ said (fun _ h => by cases h) (by kernel_rfl) (fun _ h => by cases h) foldTalks_row_tie rfl ⟨rfl, rfl⟩ (by kernel_rfl) rfl plain (by kernel_rfl)
end Go.Proofs.YtalagjmjpoacmabDoor.foldTalks
namespace Go.Proofs.YtalagjmjpoacmabDoor
theorem foldTalks_holds : Rows.FoldTalksCardSaid := foldTalks.card
end Go.Proofs.YtalagjmjpoacmabDoor
