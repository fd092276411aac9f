/- For every contest, all ballots and every text of lots the law CountBest answers true: whoever beats all others is elected where pairs are counted, whoever is elected is in the least set that beats all others, and that one way is stronger than the way back is passed on. Condition: the package variables start, orders and places of package fold, and the tables first and acceptRanges of Go's own package utf8, hold what the program's text lays in them (the card ties them). -/
import Derived.Test.YtkcnpcjogfhkbaaGreatDoorZ30
import Derived.ChangeMaps5
import Derived.Deep.Strs
import Derived.WideKeyArgs
set_option linter.unusedSimpArgs false
set_option linter.unusedVariables false
set_option maxRecDepth 100000
namespace Go.Proofs.YtkcnpcjogfhkbaaGreatDoor
open Go.ChangeShapes Go.WideShapes Go.ChangeAt Go.RowKit Go.Deep

theorem cells3 : Tryz.prog.cellsOf 3 = 1 := by kernel_rfl
theorem cells26 : Tryz.prog.cellsOf 26 = 1 := by kernel_rfl
theorem cells22 : Tryz.prog.cellsOf 22 = 1 := by kernel_rfl
theorem cells24 : Tryz.prog.cellsOf 24 = 5 := by kernel_rfl
theorem cells9 : Tryz.prog.cellsOf 9 = 1 := by kernel_rfl
theorem weightsAll_mem {H : Type} {P : Program} {e : TypeId} : ∀ {l : List (DataW H)} {d : DataW H}, d ∈ l → ∀ n ∈ d.weights P e, n ∈ DataW.weightsAll P e l
  | [], _, h, _, _ => by cases h
  | x :: l, d, h, n, hn => by
    simp only [DataW.weightsAll, List.mem_append]
    rcases List.mem_cons.1 h with rfl | h'
    · exact Or.inl hn
    · exact Or.inr (weightsAll_mem h' n hn)
theorem cells1 {w : World} {a : Addr} {cs : List Value} (h : w.cells? 0 a 1 = some cs) : ∃ x, cs = [x] ∧ w.cell? (a.add 0) = some x := by
  unfold World.cells? at h
  rw [if_pos (Nat.zero_le _), show List.range 1 = [0] from rfl] at h
  simp only [List.mapM_cons, List.mapM_nil, Option.bind_eq_bind, Option.bind_eq_some_iff, Option.pure_def, Option.some.injEq] at h
  obtain ⟨x, hx, r, rfl, rfl⟩ := h
  exact ⟨x, rfl, hx⟩
theorem add_add (b o i j : Nat) : ((⟨b, o, none⟩ : Addr).add i).add j = ⟨b, o + i + j, none⟩ := by
  unfold Addr.add
  by_cases h1 : i = 0 <;> by_cases h2 : j = 0 <;> simp [h1, h2]
/-- A list of texts that came in. -/
theorem strs_any {H : Type} {enc : TypeId × Value → H} {W : World} {fuel : Nat} {z : Value} {r : DataW H × List MemPlace} (h : DataW.trod enc Tryz.prog W 0 (fun _ => true) true fuel 22 [z] = some r) :
    ∃ (l : List ByteArray) (a : Option Addr) (cap : Nat), z = .slice a l.length cap ∧ F.SAt W a l ∧ l.length ≤ cap ∧ cap ≤ maxLen ∧ (a = none → cap = 0) ∧ ∀ p ∈ l, p.data.toList.length ∈ r.1.weights Tryz.prog 22 := by
  rcases DataW.trod_slice Tryz.underlying22 h with ⟨hcs, rfl⟩ | ⟨a, len, cap, elems, rest, n', hn', hcs, rfl, _, hlc, hcm, hel, hget, hsp, _⟩
  · simp only [List.cons.injEq, and_true] at hcs
    subst hcs
    exact ⟨[], none, 0, rfl, (fun i hi => by cases hi), by simp, by simp, fun _ => rfl, fun p hp => by simp at hp⟩
  · simp only [List.cons.injEq, and_true] at hcs
    subst hcs
    rw [cells9] at hget
    have each : ∀ i, i < len → ∃ s : ByteArray, W.cell? ((a.add (i * 1)).add 0) = some (.string s) ∧ (DataW.lit (.string s.data.toList) : DataW H) ∈ elems.map (·.1) := by
      intro i hi
      have hi' : i < elems.length := by omega
      have hg := hget i hi
      rw [List.getElem?_eq_getElem hi', Option.bind_eq_some_iff] at hg
      obtain ⟨cs, hc1, hc2⟩ := hg
      obtain ⟨u0, rfl, k0⟩ := cells1 hc1
      obtain ⟨s, e1, e2, _⟩ := DataW.trod_string Tryz.underlying9 hc2
      simp only [List.cons.injEq, and_true] at e1
      subst e1
      exact ⟨s, k0, List.mem_map.2 ⟨elems[i], List.getElem_mem hi', by rw [e2]⟩⟩
    obtain ⟨Q, hQ⟩ := choose_lt each
    refine ⟨(List.range len).map Q, some a, cap, by simp, fun i hi => ?_, by simpa using hlc, hcm, (fun q => by cases q), fun p hp => ?_⟩
    · have hi' : i < len := by simpa using hi
      have h0 := (hQ i hi').1
      obtain ⟨b, o, sp⟩ := a
      have hsp := World.cell?_spot (hQ 0 (by omega)).1
      simp [Addr.add] at hsp
      subst hsp
      rw [add_add] at h0
      refine ⟨b, o, rfl, ?_⟩
      simpa using h0
    · obtain ⟨i, hi, rfl⟩ := List.mem_map.1 hp
      have hm := (hQ i (by simpa using hi)).2
      simp only [DataW.weights, Tryz.underlying22, List.mem_cons, List.mem_append]
      exact Or.inr (Or.inl (weightsAll_mem hm _ (by simp [DataW.weights])))
/-- A list of numbers that came in. -/
theorem ints_in {H : Type} {enc : TypeId × Value → H} {W : World} {fuel : Nat} {z : Value} {r : DataW H × List MemPlace} (h : DataW.trod enc Tryz.prog W 0 (fun _ => true) true fuel 26 [z] = some r) :
    ∃ (l : List Int) (a : Option Addr) (cap : Nat), z = .slice a l.length cap ∧ IL W a l := by
  rcases DataW.trod_slice Tryz.underlying26 h with ⟨hcs, rfl⟩ | ⟨a, len, cap, elems, rest, n', hn', hcs, rfl, _, hlc, hcm, hel, hget, hsp, _⟩
  · simp only [List.cons.injEq, and_true] at hcs
    subst hcs
    exact ⟨[], none, 0, rfl, (fun i hi => by cases hi)⟩
  · simp only [List.cons.injEq, and_true] at hcs
    subst hcs
    rw [cells3] at hget
    have each : ∀ i, i < len → ∃ s : Int, W.cell? ((a.add (i * 1)).add 0) = some (.int .i64 s) := by
      intro i hi
      have hi' : i < elems.length := by omega
      have hg := hget i hi
      rw [List.getElem?_eq_getElem hi', Option.bind_eq_some_iff] at hg
      obtain ⟨cs, hc1, hc2⟩ := hg
      obtain ⟨u0, rfl, k0⟩ := cells1 hc1
      obtain ⟨s, e1, _, _⟩ := DataW.trod_int Tryz.underlying3 hc2
      simp only [List.cons.injEq, and_true] at e1
      subst e1
      exact ⟨s, k0⟩
    obtain ⟨Q, hQ⟩ := choose_lt each
    refine ⟨(List.range len).map Q, some a, cap, by simp, fun i hi => ?_⟩
    have hi' : i < len := by simpa using hi
    have h0 := hQ i hi'
    obtain ⟨b, o, sp⟩ := a
    have hsp := World.cell?_spot (hQ 0 (by omega))
    simp [Addr.add] at hsp
    subst hsp
    rw [add_add] at h0
    refine ⟨b, o, rfl, ?_⟩
    simpa using h0
/-- A list of lists of numbers that came in. -/
theorem lists_in {H : Type} {enc : TypeId × Value → H} {W : World} {fuel : Nat} {z : Value} {r : DataW H × List MemPlace} (h : DataW.trod enc Tryz.prog W 0 (fun _ => true) true fuel 25 [z] = some r) :
    ∃ (l : List (List Int)) (a : Option Addr) (cap : Nat), z = .slice a l.length cap ∧ LL W a l := by
  rcases DataW.trod_slice Tryz.underlying25 h with ⟨hcs, rfl⟩ | ⟨a, len, cap, elems, rest, n', hn', hcs, rfl, _, hlc, hcm, hel, hget, hsp, _⟩
  · simp only [List.cons.injEq, and_true] at hcs
    subst hcs
    exact ⟨[], none, 0, rfl, (fun i hi => by cases hi)⟩
  · simp only [List.cons.injEq, and_true] at hcs
    subst hcs
    rw [cells26] at hget
    have each : ∀ i, i < len → ∃ q : List Int × Option Addr × Nat, W.cell? ((a.add (i * 1)).add 0) = some (.slice q.2.1 q.1.length q.2.2) ∧ IL W q.2.1 q.1 := by
      intro i hi
      have hi' : i < elems.length := by omega
      have hg := hget i hi
      rw [List.getElem?_eq_getElem hi', Option.bind_eq_some_iff] at hg
      obtain ⟨cs, hc1, hc2⟩ := hg
      obtain ⟨u0, rfl, k0⟩ := cells1 hc1
      obtain ⟨l, a', c', rfl, hl⟩ := ints_in hc2
      exact ⟨(l, a', c'), k0, hl⟩
    obtain ⟨Q, hQ⟩ := choose_lt each
    have eL : ∀ i (hi : i < ((List.range len).map fun i => (Q i).1).length), ((List.range len).map fun i => (Q i).1)[i] = (Q i).1 := fun i hi => by simp
    refine ⟨(List.range len).map fun i => (Q i).1, some a, cap, by simp, fun i hi => ?_⟩
    have hi' : i < len := by simpa using hi
    obtain ⟨h0, h1⟩ := hQ i hi'
    obtain ⟨b, o, sp⟩ := a
    have hsp := World.cell?_spot (hQ 0 (by omega)).1
    simp [Addr.add] at hsp
    subst hsp
    rw [add_add] at h0
    rw [eL i hi]
    exact ⟨b, o, (Q i).2.1, (Q i).2.2, rfl, by simpa using h0, h1⟩
theorem five_of {cs : Array Value} (h : cs.size = 5) : ∃ x y z u v, cs = #[x, y, z, u, v] := by
  match cs, h with
  | ⟨[x, y, z, u, v]⟩, _ => exact ⟨x, y, z, u, v, rfl⟩
/-- A contest that came in. -/
theorem contest_in {H : Type} {enc : TypeId × Value → H} {W : World} {fuel : Nat} {x y z u v : Value} {r : DataW H × List MemPlace} (h : DataW.trod enc Tryz.prog W 0 (fun _ => true) true fuel 24 [x, y, z, u, v] = some r) (hsz : ∀ k ∈ r.1.weights Tryz.prog 24, k ≤ reachBytes) :
    ∃ (nm : ByteArray) (a : Option Addr) (c : Nat) (r s m : Int) (os : List ByteArray), Value.agg #[x, y, z, u, v] = CV nm a os.length c r s m ∧ F.SAt W a os ∧ nm.size ≤ 140737488355328 ∧ ∀ i (h : i < os.length), os[i].size ≤ 140737488355328 := by
  obtain ⟨xs, n, hn, rfl, hl, hlen, hf⟩ := DataW.trod_struct Tryz.underlying24 h
  match xs, hlen with
  | [y0, y1, y2, y3, y4], _ =>
    have h0 : DataW.trod enc Tryz.prog W 0 (fun _ => true) true n 9 [x] = some y0 := by simpa [cells9] using hf 0 _ rfl
    have h1 : DataW.trod enc Tryz.prog W 0 (fun _ => true) true n 22 [y] = some y1 := by simpa [cells9, cells22] using hf 1 _ rfl
    have h2 : DataW.trod enc Tryz.prog W 0 (fun _ => true) true n 3 [z] = some y2 := by simpa [cells9, cells22, cells3] using hf 2 _ rfl
    have h3 : DataW.trod enc Tryz.prog W 0 (fun _ => true) true n 3 [u] = some y3 := by simpa [cells9, cells22, cells3] using hf 3 _ rfl
    have h4 : DataW.trod enc Tryz.prog W 0 (fun _ => true) true n 3 [v] = some y4 := by simpa [cells9, cells22, cells3] using hf 4 _ rfl
    have hw0 : ∀ k ∈ y0.1.weights Tryz.prog 9, k ≤ reachBytes := fun k hk => hsz k (by
      simp only [DataW.weights, Tryz.underlying24, List.map_cons, List.map_nil, DataW.weightsEach, List.mem_append]
      exact Or.inl hk)
    have hw1 : ∀ k ∈ y1.1.weights Tryz.prog 22, k ≤ reachBytes := fun k hk => hsz k (by
      simp only [DataW.weights, Tryz.underlying24, List.map_cons, List.map_nil, DataW.weightsEach, List.mem_append]
      exact Or.inr (Or.inl hk))
    have hr := reachBytes_lt
    obtain ⟨s, e1, e1b, _⟩ := DataW.trod_string Tryz.underlying9 h0
    simp only [List.cons.injEq, and_true] at e1
    subst e1
    obtain ⟨os, a, cap, rfl, hs, _, _, _, hw⟩ := strs_any h1
    obtain ⟨i2, e2, _, _⟩ := DataW.trod_int Tryz.underlying3 h2
    simp only [List.cons.injEq, and_true] at e2
    subst e2
    obtain ⟨i3, e3, _, _⟩ := DataW.trod_int Tryz.underlying3 h3
    simp only [List.cons.injEq, and_true] at e3
    subst e3
    obtain ⟨i4, e4, _, _⟩ := DataW.trod_int Tryz.underlying3 h4
    simp only [List.cons.injEq, and_true] at e4
    subst e4
    refine ⟨s, a, cap, i2, i3, i4, os, rfl, hs, ?_, fun i hi => ?_⟩
    · have q := hw0 s.data.toList.length (by rw [e1b]; simp [DataW.weights])
      have e : s.size = s.data.toList.length := rfl
      omega
    · have q := hw1 _ (hw _ (List.getElem_mem hi))
      have e : os[i].size = os[i].data.toList.length := rfl
      omega
end Go.Proofs.YtkcnpcjogfhkbaaGreatDoor
namespace Go.Proofs.YtkcnpcjogfhkbaaGreatDoor.countBest
open Go.ChangeShapes Go.WideShapes Go.ChangeAt Go.RowKit Go.ChangeMaps

theorem laidOut : laidOutB Tryz.prog = true := by kernel_rfl
set_option maxHeartbeats 1000000 in
/-- WHAT THE WALK GIVES, FOR EVERY ARGUMENT AND EVERY WORLD THAT HOLDS THE TABLES. -/
theorem contract (H : Type) (enc : TypeId × Value → H) (W : World) (base : Nat) (args : Array Value) (ds gs : List (DataW H)) (before : List MemPlace)
    (hval : ∀ (j : Nat) t v, Tryz.f3.params[j]? = some t → args[j]? = some v → Value.okWide Tryz.prog W .any base t v)
    (hW : DataW.Whole enc Tryz.prog Tryz.f3.params.toList Rows.countBestSpec.vars false W args.toList ds gs before)
    (hsz : (DataW.weightsEach Tryz.prog (Tryz.f3.params.toList ++ (OpenSpec.ofChange Rows.countBestSpec).bare.plain.varTypes Tryz.prog) (ds ++ gs)).all (· ≤ reachBytes) = true) (hT : F.Tabs W) (hS : F.Starts W) :
    Calls Tryz.prog 3 args W fun e W' => ∃ v, e = .returned v ∧ Rows.countBestSpec.post enc Tryz.prog Tryz.f3 false true false false W args v W' := by
  have hW' := hW
  obtain ⟨p, q, hA0, hV, rfl, hfz, hnd⟩ := hW
  have hA : DataW.TrodAll enc Tryz.prog W 0 (fun _ => true) true Tryz.f3.params.toList args.toList ds p := hA0
  rw [Tryz.params3] at hA hval hsz
  obtain ⟨v0, vs0, d0, ds0, p0, q0, hargs, rfl, rfl, h0, r0⟩ := trodAll_cons hA
  obtain ⟨v1, vs1, d1, ds1, p1, q1, rfl, rfl, rfl, h1, r1⟩ := trodAll_cons r0
  obtain ⟨v2, vs2, d2, ds2, p2, q2, rfl, rfl, rfl, h2, r2⟩ := trodAll_cons r1
  obtain ⟨rfl, rfl, rfl⟩ := trodAll_nil r2
  obtain rfl : args = #[v0, v1, v2] := by cases args; simp_all
  obtain ⟨rfl, rfl⟩ := trodVars_none hV
  obtain ⟨s2, rfl, rfl, rfl, m2⟩ := open_string Tryz.underlying9 (hval 2 9 v2 rfl rfl) h2
  obtain ⟨cs1, rfl, e1⟩ := okWide_struct Tryz.underlying24 (hval 0 24 v0 rfl rfl)
  obtain ⟨x, y, z, u, v, rfl⟩ := five_of (e1.trans cells24)
  obtain ⟨f0, g0⟩ := id h0
  obtain ⟨f1, g1⟩ := id h1
  have z2 := sized_string hsz (j := 2) (t := 9) rfl rfl
  have hr := reachBytes_lt
  have hsz0 : ∀ k ∈ d0.weights Tryz.prog 24, k ≤ reachBytes := fun k hk => by
    have h2 := List.all_eq_true.1 hsz _ (DataW.weights_mem_each (j := 0) (t := 24) rfl rfl _ hk)
    simpa using h2
  obtain ⟨nm, ca, cc, r, s, m, os, hcv, hos, hnm, hoz⟩ := contest_in g0 hsz0
  obtain ⟨a9, n9, c9, rfl⟩ := okWide_slice Tryz.underlying25 (hval 1 25 v1 rfl rfl)
  obtain ⟨l, a, c, ev, hs⟩ := lists_in (z := .slice a9 n9 c9) g1
  simp only [Value.slice.injEq] at ev
  obtain ⟨rfl, rfl, rfl⟩ := ev
  clear hA0
  simp only [List.append_nil, List.nil_append] at hW'
  have hlt : ∀ x ∈ p0 ++ p1, x.block < W.heap.size := fun x hx => by simpa using hW'.lt x (by simpa using hx)
  have hw := best_walk (cc := cc) (c := c9) (r := r) (s := s) (m := m) (lt := s2) (nm := nm) ⟨by rw [Lib.size_eq]; omega, hnm, hoz⟩ hos rfl hs hT hS
  rw [← hcv] at hw
  refine hw.mono fun e W' ⟨he, hb⟩ => ?_
  subst he
  exact ⟨_, rfl, F.post_of_below (pa := p0 ++ p1) (pv := []) hb hW' (fun _ _ _ => trodAll_cons_mk (shut_bool Tryz.underlying4 _) trodAll_mk0)
    (fun sp hsp => by
      have t0 := WideElems.Trod_stays (sp' := sp) laidOut (by kernel_rfl) (of_decide_eq_true (by kernel_rfl)) h0 (fun x hx => hb.same (hlt x (by simp [hx]))) (fun x hx => hsp x (by simp [hx]))
      have t1 := WideElems.Trod_stays (sp' := sp) laidOut (by kernel_rfl) (of_decide_eq_true (by kernel_rfl)) h1 (fun x hx => hb.same (hlt x (by simp [hx]))) (fun x hx => hsp x (by simp [hx]))
      have t9 := trodAll_cons_mk t0 (trodAll_cons_mk t1 (trodAll_cons_mk (shut_string (enc := enc) (P := Tryz.prog) (sp := sp) Tryz.underlying9 m2) trodAll_mk0))
      simp only [List.append_nil, List.nil_append] at t9
      exact t9) (fun _ _ => rfl) (by simp)
    (ok_one (by kernel_rfl) rfl (okWide_bool_mk Tryz.underlying4 _))⟩

def wargs : Array Value := #[.agg #[.string ⟨#[]⟩, .slice none 0 0, .int .i64 0, .int .i64 0, .int .i64 0], .slice none 0 0, .string ⟨#[]⟩]
theorem laid_met (os : Os) : laidMet Tryz.prog Rows.countBestRow.laid ((laidWorld Tryz.prog os).forCall (fun _ _ => 0) ⟨#[], wargs, []⟩).memory :=
  laidMet_of_run' 8 (by kernel_rfl) (by kernel_rfl)
theorem reads (os : Os) {H : Type} (enc : TypeId × Value → H) : ∃ places, DataW.whole enc Tryz.prog ((laidWorld Tryz.prog os).forCall (fun _ _ => 0) ⟨#[], wargs, []⟩).memory Tryz.f3.params.toList Rows.countBestSpec.vars false wargs.toList 8 = some ([.agg [.lit (.string []), .nil, .lit (.int .i64 0), .lit (.int .i64 0), .lit (.int .i64 0)], .nil, .lit (.string [])], [], places) :=
  ⟨[], by kernel_rfl⟩
theorem lifted (os : Os) (started : os.Started) (H : Type) (enc : TypeId × Value → H) (Fi : Stop.Interp) :
    ReturnsInHanded {} Tryz.checked os 3 .any ((OpenSpec.ofChange Rows.countBestSpec).preRow enc Tryz.prog Tryz.f3 Rows.countBestRow.domain false Rows.countBestRow.laid) (((OpenSpec.ofChange Rows.countBestSpec).at Fi).post enc Tryz.prog Tryz.f3 false true false false) := by
  obtain ⟨places, hx⟩ := reads os enc
  refine returnsInHanded_of_row (C := Tryz.checked) (s := OpenSpec.ofChange Rows.countBestSpec) F.own started (by kernel_rfl) Tryz.func3
    (witness_row_at (enc := enc) (C := Tryz.checked) false (laidWorld Tryz.prog os) wargs rfl (by kernel_rfl) (by kernel_rfl) (by kernel_rfl)
      (OpenSpec.preRow_of_cond 8 hx (by kernel_rfl) (fun k hk => by cases hk) (by kernel_rfl) (laid_met os))) ?_
  intro W base args ds gs before hval hW _ _ hsz hL hsh _
  exact contract H enc W base args ds gs before hval hW hsz (tabs5 hL hsh) (F.starts hL)
theorem said : Rows.CountBestSaid :=
  OpenClaim.holds_of_cond 3 Tryz.f3 rfl rfl rfl rfl rfl rfl rfl ⟨rfl, rfl, rfl, rfl, rfl⟩ rfl rfl rfl rfl rfl (by kernel_rfl) Tryz.func3 (by kernel_rfl)
    (of_decide_eq_true (by kernel_rfl)) (by unfold Func.isWrapper; first | (rw [if_pos (by decide +kernel)]; kernel_rfl) | (rw [if_neg (by decide +kernel)]; exact ⟨rfl, rfl⟩))
    (fun os started H enc _ Fi => by rw [OpenClaim.pre_eq_preRow]; exact lifted os started H enc Fi)
/-- No parameter wants a stand-in; the program's own looks are off. -/
theorem plain (f : FuncId) (fn : Func) (hf : Tryz.pinned.checked.prog.funcNamed "hustings/hustingslaw13.CountBest" = some f) (hfn : Tryz.pinned.checked.prog.funcs[f]? = some fn) :
    false = Tryz.pinned.checked.prog.looks [] ∧ ∀ (j : Nat) t, fn.params[j]? = some t → Tryz.pinned.checked.prog.wantsStandIn t = false := by
  obtain rfl : f = 3 := Option.some.inj ((show Tryz.prog.funcNamed "hustings/hustingslaw13.CountBest" = some 3 by kernel_rfl).symm.trans hf) |>.symm
  obtain rfl : fn = Tryz.f3 := (Option.some.inj (Tryz.func3.symm.trans hfn)).symm
  refine ⟨by kernel_rfl, fun j t ht => ?_⟩
  rw [Tryz.params3] at ht
  have hm := Array.mem_of_getElem? ht
  simp only [List.mem_toArray, List.mem_cons, List.not_mem_nil, or_false] at hm
  rcases hm with rfl | rfl | rfl
  · exact (show Tryz.prog.wantsStandIn 24 = false by kernel_rfl)
  · exact (show Tryz.prog.wantsStandIn 25 = false by kernel_rfl)
  · exact (show Tryz.prog.wantsStandIn 9 = false by kernel_rfl)
/-- THE CARD. -/
theorem card : Rows.CountBestCardSaid :=
  Claim7.holds_tied_plain_at .later [] _ _ _ _ said (fun _ h => by cases h) (by kernel_rfl) (fun _ h => by cases h) countBest_row_tie rfl ⟨rfl, rfl⟩ (by kernel_rfl) rfl plain (by kernel_rfl)
end Go.Proofs.YtkcnpcjogfhkbaaGreatDoor.countBest
namespace Go.Proofs.YtkcnpcjogfhkbaaGreatDoor
theorem countBest_holds : Rows.CountBestCardSaid := countBest.card
end Go.Proofs.YtkcnpcjogfhkbaaGreatDoor
