/-
  For every contest, all ballots and all pairs the law CountPairs answers true. No condition.
-/
import Derived.Test.YtcdmndcpjememaaFrame
import Derived.Test.YtcdmndcpjememaaQn
import Derived.Deep.Strs
import Derived.WideKeyArgs
import Derived.Deep.DeepHandedRow
set_option linter.unusedSimpArgs false
set_option linter.unusedVariables false
set_option maxRecDepth 100000
namespace Go.Proofs.Ytcdmndcpjememaa
open Go.ChangeShapes Go.WideShapes Go.ChangeAt Go.RowKit Go.Deep

theorem cells3 : Try.prog.cellsOf 3 = 1 := by kernel_rfl
theorem cells9 : Try.prog.cellsOf 9 = 1 := by kernel_rfl
theorem cells31 : Try.prog.cellsOf 31 = 1 := by kernel_rfl
theorem cells22 : Try.prog.cellsOf 22 = 1 := by kernel_rfl
theorem cells24 : Try.prog.cellsOf 24 = 5 := by kernel_rfl
theorem cells1 {w : World} {a : Addr} {cs : List Value} (h : w.cells? 0 a 1 = some cs) : ∃ x, cs = [x] ∧ w.cell? (a.add 0) = some x := by
  unfold World.cells? at h
  rw [if_pos (Nat.zero_le _), show List.range 1 = [0] from rfl] at h
  simp only [List.mapM_cons, List.mapM_nil, Option.bind_eq_bind, Option.bind_eq_some_iff, Option.pure_def, Option.some.injEq] at h
  obtain ⟨x, hx, r, rfl, rfl⟩ := h
  exact ⟨x, rfl, hx⟩
theorem add_add (b o i j : Nat) : ((⟨b, o, none⟩ : Addr).add i).add j = ⟨b, o + i + j, none⟩ := by
  unfold Addr.add
  by_cases h1 : i = 0 <;> by_cases h2 : j = 0 <;> simp [h1, h2]
/-- A list of numbers that came in. -/
theorem ints_in {H : Type} {enc : TypeId × Value → H} {W : World} {fuel : Nat} {z : Value} {r : DataW H × List MemPlace} (h : DataW.trod enc Try.prog W 0 (fun _ => true) true fuel 31 [z] = some r) :
    ∃ (l : List Int) (a : Option Addr) (cap : Nat), z = .slice a l.length cap ∧ IL W a l := by
  rcases DataW.trod_slice Try.underlying31 h with ⟨hcs, rfl⟩ | ⟨a, len, cap, elems, rest, n', hn', hcs, rfl, _, hlc, hcm, hel, hget, hsp, _⟩
  · simp only [List.cons.injEq, and_true] at hcs
    subst hcs
    exact ⟨[], none, 0, rfl, (fun i hi => by cases hi)⟩
  · simp only [List.cons.injEq, and_true] at hcs
    subst hcs
    rw [cells3] at hget
    have each : ∀ i, i < len → ∃ s : Int, W.cell? ((a.add (i * 1)).add 0) = some (.int .i64 s) := by
      intro i hi
      have hi' : i < elems.length := by omega
      have hg := hget i hi
      rw [List.getElem?_eq_getElem hi', Option.bind_eq_some_iff] at hg
      obtain ⟨cs, hc1, hc2⟩ := hg
      obtain ⟨u0, rfl, k0⟩ := cells1 hc1
      obtain ⟨s, e1, _, _⟩ := DataW.trod_int Try.underlying3 hc2
      simp only [List.cons.injEq, and_true] at e1
      subst e1
      exact ⟨s, k0⟩
    obtain ⟨Q, hQ⟩ := choose_lt each
    refine ⟨(List.range len).map Q, some a, cap, by simp, fun i hi => ?_⟩
    have hi' : i < len := by simpa using hi
    have h0 := hQ i hi'
    obtain ⟨b, o, sp⟩ := a
    have hsp := World.cell?_spot (hQ 0 (by omega))
    simp [Addr.add] at hsp
    subst hsp
    rw [add_add] at h0
    refine ⟨b, o, rfl, ?_⟩
    simpa using h0
/-- A list of lists of numbers that came in. -/
theorem lists_in {H : Type} {enc : TypeId × Value → H} {W : World} {fuel : Nat} {z : Value} {r : DataW H × List MemPlace} (h : DataW.trod enc Try.prog W 0 (fun _ => true) true fuel 25 [z] = some r) :
    ∃ (l : List (List Int)) (a : Option Addr) (cap : Nat), z = .slice a l.length cap ∧ LL W a l := by
  rcases DataW.trod_slice Try.underlying25 h with ⟨hcs, rfl⟩ | ⟨a, len, cap, elems, rest, n', hn', hcs, rfl, _, hlc, hcm, hel, hget, hsp, _⟩
  · simp only [List.cons.injEq, and_true] at hcs
    subst hcs
    exact ⟨[], none, 0, rfl, (fun i hi => by cases hi)⟩
  · simp only [List.cons.injEq, and_true] at hcs
    subst hcs
    rw [cells31] at hget
    have each : ∀ i, i < len → ∃ q : List Int × Option Addr × Nat, W.cell? ((a.add (i * 1)).add 0) = some (.slice q.2.1 q.1.length q.2.2) ∧ IL W q.2.1 q.1 := by
      intro i hi
      have hi' : i < elems.length := by omega
      have hg := hget i hi
      rw [List.getElem?_eq_getElem hi', Option.bind_eq_some_iff] at hg
      obtain ⟨cs, hc1, hc2⟩ := hg
      obtain ⟨u0, rfl, k0⟩ := cells1 hc1
      obtain ⟨l, a', c', rfl, hl⟩ := ints_in hc2
      exact ⟨(l, a', c'), k0, hl⟩
    obtain ⟨Q, hQ⟩ := choose_lt each
    have eL : ∀ i (hi : i < ((List.range len).map fun i => (Q i).1).length), ((List.range len).map fun i => (Q i).1)[i] = (Q i).1 := fun i hi => by simp
    refine ⟨(List.range len).map fun i => (Q i).1, some a, cap, by simp, fun i hi => ?_⟩
    have hi' : i < len := by simpa using hi
    obtain ⟨h0, h1⟩ := hQ i hi'
    obtain ⟨b, o, sp⟩ := a
    have hsp := World.cell?_spot (hQ 0 (by omega)).1
    simp [Addr.add] at hsp
    subst hsp
    rw [add_add] at h0
    rw [eL i hi]
    exact ⟨b, o, (Q i).2.1, (Q i).2.2, rfl, by simpa using h0, h1⟩
/-- A slice that came in, whatever it holds. -/
theorem slice_in {H : Type} {enc : TypeId × Value → H} {W : World} {fuel : Nat} {z : Value} {r : DataW H × List MemPlace} (h : DataW.trod enc Try.prog W 0 (fun _ => true) true fuel 22 [z] = some r) :
    ∃ (n : Nat) (a : Option Addr) (cap : Nat), z = .slice a n cap := by
  rcases DataW.trod_slice Try.underlying22 h with ⟨hcs, rfl⟩ | ⟨a, len, cap, elems, rest, n', hn', hcs, rfl, _, hlc, hcm, hel, hget, hsp, _⟩
  · simp only [List.cons.injEq, and_true] at hcs
    subst hcs
    exact ⟨0, none, 0, rfl⟩
  · simp only [List.cons.injEq, and_true] at hcs
    subst hcs
    exact ⟨len, some a, cap, rfl⟩
theorem five_of {cs : Array Value} (h : cs.size = 5) : ∃ x y z u v, cs = #[x, y, z, u, v] := by
  match cs, h with
  | ⟨[x, y, z, u, v]⟩, _ => exact ⟨x, y, z, u, v, rfl⟩
/-- A contest that came in. -/
theorem contest_in {H : Type} {enc : TypeId × Value → H} {W : World} {fuel : Nat} {x y z u v : Value} {r : DataW H × List MemPlace} (h : DataW.trod enc Try.prog W 0 (fun _ => true) true fuel 24 [x, y, z, u, v] = some r) :
    ∃ (nm : ByteArray) (a : Option Addr) (n c : Nat) (r s m : Int), Value.agg #[x, y, z, u, v] = CV nm a n c r s m := by
  obtain ⟨xs, n, hn, rfl, hl, hlen, hf⟩ := DataW.trod_struct Try.underlying24 h
  match xs, hlen with
  | [y0, y1, y2, y3, y4], _ =>
    have h0 : DataW.trod enc Try.prog W 0 (fun _ => true) true n 9 [x] = some y0 := by simpa [cells9] using hf 0 _ rfl
    have h1 : DataW.trod enc Try.prog W 0 (fun _ => true) true n 22 [y] = some y1 := by simpa [cells9, cells22] using hf 1 _ rfl
    have h2 : DataW.trod enc Try.prog W 0 (fun _ => true) true n 3 [z] = some y2 := by simpa [cells9, cells22, cells3] using hf 2 _ rfl
    have h3 : DataW.trod enc Try.prog W 0 (fun _ => true) true n 3 [u] = some y3 := by simpa [cells9, cells22, cells3] using hf 3 _ rfl
    have h4 : DataW.trod enc Try.prog W 0 (fun _ => true) true n 3 [v] = some y4 := by simpa [cells9, cells22, cells3] using hf 4 _ rfl
    obtain ⟨s, e1, rfl, _⟩ := DataW.trod_string Try.underlying9 h0
    simp only [List.cons.injEq, and_true] at e1
    subst e1
    obtain ⟨k, a, cap, rfl⟩ := slice_in h1
    obtain ⟨i2, e2, _, _⟩ := DataW.trod_int Try.underlying3 h2
    simp only [List.cons.injEq, and_true] at e2
    subst e2
    obtain ⟨i3, e3, _, _⟩ := DataW.trod_int Try.underlying3 h3
    simp only [List.cons.injEq, and_true] at e3
    subst e3
    obtain ⟨i4, e4, _, _⟩ := DataW.trod_int Try.underlying3 h4
    simp only [List.cons.injEq, and_true] at e4
    subst e4
    exact ⟨s, a, k, cap, i2, i3, i4, rfl⟩
end Go.Proofs.Ytcdmndcpjememaa
namespace Go.Proofs.Ytcdmndcpjememaa.countPairs
open Go.ChangeShapes Go.WideShapes Go.ChangeAt Go.RowKit Go.Deep

theorem laidOut : laidOutB Try.prog = true := by kernel_rfl
set_option maxRecDepth 100000 in
theorem lifted (os : Os) (started : os.Started) (H : Type) (enc : TypeId × Value → H) :
    ReturnsInHanded {} Try.checked os 3 .any (Rows.countPairsSpec.pre6 enc Try.prog Try.f3 Rows.countPairsRow.domain false) (Rows.countPairsSpec.post enc Try.prog Try.f3 false true false false) := by
  refine returnsInHanded_of_change (C := Try.checked) own started (by kernel_rfl) Try.func3
    (ChangeSpec.witness6 (enc := enc) (C := Try.checked) false ⟨#[], #[.agg #[.string ⟨#[]⟩, .slice none 0 0, .int .i64 0, .int .i64 0, .int .i64 0], .slice none 0 0, .slice none 0 0], []⟩ 8 (by kernel_rfl) (by kernel_rfl) (by kernel_rfl) (by kernel_rfl)) ?_
  intro W base args ds gs before hval0 hW hcnd _
  have hval : ∀ (j : Nat) t v, Try.f3.params[j]? = some t → args[j]? = some v → Value.okWide Try.prog W .any base t v := hval0
  have hW' := hW
  obtain ⟨p, q, hA0, hV, rfl, hfz, hnd⟩ := hW
  have hA : DataW.TrodAll enc Try.prog W 0 (fun _ => true) true Try.f3.params.toList args.toList ds p := hA0
  rw [Try.params3] at hA hval
  obtain ⟨v0, vs0, d0, ds0, p0, q0, hargs, rfl, rfl, h0, r0⟩ := trodAll_cons hA
  obtain ⟨v1, vs1, d1, ds1, p1, q1, rfl, rfl, rfl, h1, r1⟩ := trodAll_cons r0
  obtain ⟨v2, vs2, d2, ds2, p2, q2, rfl, rfl, rfl, h2, r2⟩ := trodAll_cons r1
  obtain ⟨rfl, rfl, rfl⟩ := trodAll_nil r2
  obtain rfl : args = #[v0, v1, v2] := by cases args; simp_all
  obtain ⟨rfl, rfl⟩ := trodVars_none hV
  obtain ⟨cs1, rfl, e1⟩ := okWide_struct Try.underlying24 (hval 0 24 v0 rfl rfl)
  obtain ⟨x, y, z, u, v, rfl⟩ := five_of (e1.trans cells24)
  obtain ⟨f0, g0⟩ := id h0
  obtain ⟨f1, g1⟩ := id h1
  obtain ⟨f2, g2⟩ := id h2
  obtain ⟨nm, ca, n, cc, r, s, m, hcv⟩ := contest_in g0
  obtain ⟨a9, n9, c9, rfl⟩ := okWide_slice Try.underlying25 (hval 1 25 v1 rfl rfl)
  obtain ⟨l, a, c, ev, hs⟩ := lists_in (z := .slice a9 n9 c9) g1
  simp only [Value.slice.injEq] at ev
  obtain ⟨rfl, rfl, rfl⟩ := ev
  obtain ⟨a8, n8, c8, rfl⟩ := okWide_slice Try.underlying25 (hval 2 25 v2 rfl rfl)
  obtain ⟨l2, a2, c2, ev, hs2⟩ := lists_in (z := .slice a8 n8 c8) g2
  simp only [Value.slice.injEq] at ev
  obtain ⟨rfl, rfl, rfl⟩ := ev
  clear hA0 hval0
  simp only [List.append_nil, List.nil_append] at hW'
  have hlt : ∀ x ∈ p0 ++ (p1 ++ p2), x.block < W.heap.size := fun x hx => by simpa using hW'.lt x hx
  have hw := law3 (nm := nm) (ca := ca) (n := n) (cc := cc) (r := r) (s := s) (m := m) (c := c9) (d := c8) hs hs2
  rw [← hcv] at hw
  refine hw.mono fun e W' ⟨he, hb⟩ => ?_
  subst he
  exact ⟨_, rfl, post_of_below (pa := p0 ++ (p1 ++ p2)) (pv := []) hb hW' (fun _ _ _ => trodAll_cons_mk (shut_bool Try.underlying4 _) trodAll_mk0)
    (fun sp hsp => by
      have t0 := WideElems.Trod_stays (sp' := sp) laidOut (by kernel_rfl) (of_decide_eq_true (by kernel_rfl)) h0 (fun x hx => hb.same (hlt x (by simp [hx]))) (fun x hx => hsp x (by simp [hx]))
      have t1 := WideElems.Trod_stays (sp' := sp) laidOut (by kernel_rfl) (of_decide_eq_true (by kernel_rfl)) h1 (fun x hx => hb.same (hlt x (by simp [hx]))) (fun x hx => hsp x (by simp [hx]))
      have t2 := WideElems.Trod_stays (sp' := sp) laidOut (by kernel_rfl) (of_decide_eq_true (by kernel_rfl)) h2 (fun x hx => hb.same (hlt x (by simp [hx]))) (fun x hx => hsp x (by simp [hx]))
      have t5 := trodAll_cons_mk t0 (trodAll_cons_mk t1 (trodAll_cons_mk t2 trodAll_mk0))
      rw [List.append_nil] at t5
      exact t5) (fun _ _ => rfl) (by simp)
    (ok_one (by kernel_rfl) rfl (okWide_bool_mk Try.underlying4 _))⟩
theorem over : Rows.CountPairsSaid :=
  OpenClaim.holds_of_wide 3 Try.f3 rfl rfl rfl rfl rfl rfl rfl ⟨rfl, rfl, rfl, rfl, rfl⟩ rfl rfl rfl rfl rfl (by kernel_rfl) Try.func3 (by kernel_rfl)
    (of_decide_eq_true (by kernel_rfl)) (by unfold Func.isWrapper; first | (rw [if_pos (by decide +kernel)]; kernel_rfl) | (rw [if_neg (by decide +kernel)]; exact ⟨rfl, rfl⟩))
    (fun os started H enc _ => lifted os started H enc)
end Go.Proofs.Ytcdmndcpjememaa.countPairs
namespace Go.Proofs.Ytcdmndcpjememaa
theorem countPairs_holds : Rows.CountPairsSaid := countPairs.over
end Go.Proofs.Ytcdmndcpjememaa
