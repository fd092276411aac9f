/-
  For every number of a kind, every four texts, every list of ciphertexts and every ciphertext the law BallotHides answers true: Encrypt, Sum, Renew and Decrypt answer as the document's own reckoning does. No other condition.
-/
import Derived.Test.YtohpbclofcflaaaGreatFrame
import Derived.ChangeMaps5
import Derived.Deep.Strs
import Derived.WideKeyArgs
import Derived.SizedLaws
import Derived.Deep.DeepHandedRow
import Derived.Test.YtohpbclofcflaaaGreatK2
set_option linter.unusedSimpArgs false
set_option linter.unusedVariables false
set_option maxRecDepth 100000
namespace Go.Proofs.YtohpbclofcflaaaGreat
open Go.ChangeShapes Go.WideShapes Go.ChangeAt Go.RowKit Go.Deep

theorem bytes24 : Tryz.prog.bytesOf 24 = 32 := by kernel_rfl
theorem cells24 : Tryz.prog.cellsOf 24 = 2 := by kernel_rfl
theorem cells9 : Tryz.prog.cellsOf 9 = 1 := by kernel_rfl
theorem cells2 {w : World} {a : Addr} {cs : List Value} (h : w.cells? 0 a 2 = some cs) : ∃ x y, cs = [x, y] ∧ w.cell? (a.add 0) = some x ∧ w.cell? (a.add 1) = some y := by
  unfold World.cells? at h
  rw [if_pos (Nat.zero_le _), show List.range 2 = [0, 1] from rfl] at h
  simp only [List.mapM_cons, List.mapM_nil, Option.bind_eq_bind, Option.bind_eq_some_iff, Option.pure_def, Option.some.injEq] at h
  obtain ⟨x, hx, r, ⟨y, hy, s, rfl, rfl⟩, rfl⟩ := h
  exact ⟨x, y, rfl, hx, hy⟩
theorem add_add (b o i j : Nat) : ((⟨b, o, none⟩ : Addr).add i).add j = ⟨b, o + i + j, none⟩ := by
  unfold Addr.add
  by_cases h1 : i = 0 <;> by_cases h2 : j = 0 <;> simp [h1, h2]
/-- A ciphertext that came in. -/
theorem cipher_in {H : Type} {enc : TypeId × Value → H} {W : World} {fuel : Nat} {x y : Value} {r : DataW H × List MemPlace} (h : DataW.trod enc Tryz.prog W 0 (fun _ => true) true fuel 24 [x, y] = some r) :
    ∃ a b : ByteArray, x = .string a ∧ y = .string b := by
  obtain ⟨xs, n, hn, rfl, hl, hlen, hf⟩ := DataW.trod_struct Tryz.underlying24 h
  match xs, hlen with
  | [y0, y1], _ =>
    have h0 : DataW.trod enc Tryz.prog W 0 (fun _ => true) true n 9 [x] = some y0 := by simpa [cells9] using hf 0 _ rfl
    have h1 : DataW.trod enc Tryz.prog W 0 (fun _ => true) true n 9 [y] = some y1 := by simpa [cells9] using hf 1 _ rfl
    obtain ⟨s, e1, _, _⟩ := DataW.trod_string Tryz.underlying9 h0
    obtain ⟨t, e2, _, _⟩ := DataW.trod_string Tryz.underlying9 h1
    simp only [List.cons.injEq, and_true] at e1 e2
    exact ⟨s, t, e1, e2⟩
/-- A list of ciphertexts that came in. -/
theorem ciphers_in {H : Type} {enc : TypeId × Value → H} {W : World} {fuel : Nat} {z : Value} {r : DataW H × List MemPlace} (h : DataW.trod enc Tryz.prog W 0 (fun _ => true) true fuel 22 [z] = some r)
    (hw : ∀ n ∈ r.1.weights Tryz.prog 22, n ≤ reachBytes) :
    ∃ (l : List (ByteArray × ByteArray)) (a : Option Addr) (cap : Nat), z = .slice a l.length cap ∧ CL W a l ∧ l.length ≤ 4611686018427387903 := by
  rcases DataW.trod_slice Tryz.underlying22 h with ⟨hcs, rfl⟩ | ⟨a, len, cap, elems, rest, n', hn', hcs, rfl, _, hlc, hcm, hel, hget, hsp, _⟩
  · simp only [List.cons.injEq, and_true] at hcs
    subst hcs
    exact ⟨[], none, 0, rfl, (fun i hi => by cases hi), by simp⟩
  · simp only [List.cons.injEq, and_true] at hcs
    subst hcs
    rw [cells24] at hget
    have each : ∀ i, i < len → ∃ c : ByteArray × ByteArray, W.cell? ((a.add (i * 2)).add 0) = some (.string c.1) ∧ W.cell? ((a.add (i * 2)).add 1) = some (.string c.2) := by
      intro i hi
      have hi' : i < elems.length := by omega
      have hg := hget i hi
      rw [List.getElem?_eq_getElem hi', Option.bind_eq_some_iff] at hg
      obtain ⟨cs, hc1, hc2⟩ := hg
      obtain ⟨u0, u1, rfl, k0, k1⟩ := cells2 hc1
      obtain ⟨s, t, rfl, rfl⟩ := cipher_in hc2
      exact ⟨(s, t), k0, k1⟩
    obtain ⟨Q, hQ⟩ := choose_lt each
    have hlen : len ≤ 4611686018427387903 := by
      simp only [DataW.weights, Tryz.underlying22, bytes24] at hw
      have h1 := hw _ (List.mem_cons_self ..)
      have h2 := reachBytes_lt
      simp only [List.length_map] at h1
      omega
    refine ⟨(List.range len).map Q, some a, cap, by simp, fun i hi => ?_, by simpa using hlen⟩
    have hi' : i < len := by simpa using hi
    have h0 := hQ i hi'
    obtain ⟨b, o, sp⟩ := a
    have hsp := World.cell?_spot (hQ 0 (by omega)).1
    simp [Addr.add] at hsp
    subst hsp
    rw [add_add, add_add] at h0
    refine ⟨b, o, rfl, ?_⟩
    simpa using h0
end Go.Proofs.YtohpbclofcflaaaGreat
namespace Go.Proofs.YtohpbclofcflaaaGreat.ballotHides
open Go.ChangeShapes Go.WideShapes Go.ChangeAt Go.RowKit Go.Deep

theorem laidOut : laidOutB Tryz.prog = true := by kernel_rfl
theorem two_of {cs : Array Value} (h : cs.size = 2) : ∃ x y, cs = #[x, y] := by
  match cs, h with
  | ⟨[x, y]⟩, _ => exact ⟨x, y, rfl⟩
/-- WHAT THE WALK GIVES, FOR EVERY ARGUMENT AND EVERY WORLD. -/
theorem contract (H : Type) (enc : TypeId × Value → H) (W : World) (base : Nat) (args : Array Value) (ds gs : List (DataW H)) (before : List MemPlace)
    (hval : ∀ (j : Nat) t v, Tryz.f3.params[j]? = some t → args[j]? = some v → Value.okWide Tryz.prog W .any base t v)
    (hW : DataW.Whole enc Tryz.prog Tryz.f3.params.toList Rows.ballotHidesSpec.vars false W args.toList ds gs before)
    (hsz : (DataW.weightsEach Tryz.prog (Tryz.f3.params.toList ++ (OpenSpec.ofChange Rows.ballotHidesSpec).bare.plain.varTypes Tryz.prog) (ds ++ gs)).all (· ≤ reachBytes) = true) :
    Calls Tryz.prog 3 args W fun e W' => ∃ v, e = .returned v ∧ Rows.ballotHidesSpec.post enc Tryz.prog Tryz.f3 false true false false W args v W' := by
  have hW' := hW
  obtain ⟨p, q, hA0, hV, rfl, hfz, hnd⟩ := hW
  have hA : DataW.TrodAll enc Tryz.prog W 0 (fun _ => true) true Tryz.f3.params.toList args.toList ds p := hA0
  rw [Tryz.params3] at hA hval hsz
  obtain ⟨v0, vs0, d0, ds0, p0, q0, hargs, rfl, rfl, h0, r0⟩ := trodAll_cons hA
  obtain ⟨v1, vs1, d1, ds1, p1, q1, rfl, rfl, rfl, h1, r1⟩ := trodAll_cons r0
  obtain ⟨v2, vs2, d2, ds2, p2, q2, rfl, rfl, rfl, h2, r2⟩ := trodAll_cons r1
  obtain ⟨v3, vs3, d3, ds3, p3, q3, rfl, rfl, rfl, h3, r3⟩ := trodAll_cons r2
  obtain ⟨v4, vs4, d4, ds4, p4, q4, rfl, rfl, rfl, h4, r4⟩ := trodAll_cons r3
  obtain ⟨v5, vs5, d5, ds5, p5, q5, rfl, rfl, rfl, h5, r5⟩ := trodAll_cons r4
  obtain ⟨v6, vs6, d6, ds6, p6, q6, rfl, rfl, rfl, h6, r6⟩ := trodAll_cons r5
  obtain ⟨rfl, rfl, rfl⟩ := trodAll_nil r6
  obtain rfl : args = #[v0, v1, v2, v3, v4, v5, v6] := by cases args; simp_all
  obtain ⟨rfl, rfl⟩ := trodVars_none hV
  have hw4 : ∀ n ∈ d4.weights Tryz.prog 22, n ≤ reachBytes := fun n hn => by simpa using List.all_eq_true.1 hsz _ (DataW.weights_mem_each (j := 4) (t := 22) rfl rfl _ hn)
  obtain ⟨a0, rfl, rfl, rfl, w0⟩ := open_int Tryz.underlying3 (hval 0 3 v0 rfl rfl) h0
  obtain ⟨a1, rfl, rfl, rfl, w1⟩ := Go.ChangeMaps.open_string Tryz.underlying9 (hval 1 9 v1 rfl rfl) h1
  obtain ⟨a2, rfl, rfl, rfl, w2⟩ := Go.ChangeMaps.open_string Tryz.underlying9 (hval 2 9 v2 rfl rfl) h2
  obtain ⟨a3, rfl, rfl, rfl, w3⟩ := Go.ChangeMaps.open_string Tryz.underlying9 (hval 3 9 v3 rfl rfl) h3
  obtain ⟨a6, rfl, rfl, rfl, w6⟩ := Go.ChangeMaps.open_string Tryz.underlying9 (hval 6 9 v6 rfl rfl) h6
  obtain ⟨s4, n4, c4, rfl⟩ := okWide_slice Tryz.underlying22 (hval 4 22 v4 rfl rfl)
  obtain ⟨cs5, rfl, e5⟩ := okWide_struct Tryz.underlying24 (hval 5 24 v5 rfl rfl)
  obtain ⟨x5, y5, rfl⟩ := two_of (e5.trans cells24)
  obtain ⟨f4, g4⟩ := id h4
  obtain ⟨f5, g5⟩ := id h5
  obtain ⟨L, sL, cL, e4, hL1, hl⟩ := ciphers_in (z := .slice s4 n4 c4) g4 hw4
  simp only [Value.slice.injEq] at e4
  obtain ⟨rfl, rfl, rfl⟩ := e4
  obtain ⟨a, b, rfl, rfl⟩ := cipher_in g5
  clear hA0
  simp only [List.append_nil, List.nil_append] at hW'
  have hlt : ∀ x ∈ p4 ++ p5, x.block < W.heap.size := fun x hx => by simpa using hW'.lt x hx
  refine (hides_walk a0 a1 a2 a3 a6 a b hl hL1).mono fun e W' ⟨he, hb⟩ => ?_
  subst he
  exact ⟨_, rfl, post_of_below (pa := p4 ++ p5) (pv := []) hb hW' (fun _ _ _ => trodAll_cons_mk (shut_bool Tryz.underlying4 _) trodAll_mk0)
    (fun sp hsp => by
      have t4 := WideElems.Trod_stays (sp' := sp) laidOut (by kernel_rfl) (of_decide_eq_true (by kernel_rfl)) h4 (fun x hx => hb.same (hlt x (by simp [hx]))) (fun x hx => hsp x (by simp [hx]))
      have tt := WideElems.Trod_stays (sp' := sp) laidOut (by kernel_rfl) (of_decide_eq_true (by kernel_rfl)) h5 (fun x hx => hb.same (hlt x (by simp [hx]))) (fun x hx => hsp x (by simp [hx]))
      have t5 := trodAll_cons_mk (shut_int (enc := enc) (P := Tryz.prog) (w := W') (base := 0) (spare := sp) (held := true) Tryz.underlying3 w0) (trodAll_cons_mk (Go.ChangeMaps.shut_string Tryz.underlying9 w1) (trodAll_cons_mk (Go.ChangeMaps.shut_string Tryz.underlying9 w2) (trodAll_cons_mk (Go.ChangeMaps.shut_string Tryz.underlying9 w3) (trodAll_cons_mk t4 (trodAll_cons_mk tt (trodAll_cons_mk (Go.ChangeMaps.shut_string Tryz.underlying9 w6) trodAll_mk0))))))
      simp only [List.append_nil, List.nil_append] at t5
      exact t5) (fun _ _ => rfl) (by simp)
    (ok_one (by kernel_rfl) rfl (okWide_bool_mk Tryz.underlying4 _))⟩
def wargs : Array Value := #[.int .i64 0, .string ⟨#[]⟩, .string ⟨#[]⟩, .string ⟨#[]⟩, .slice none 0 0, .agg #[.string ⟨#[]⟩, .string ⟨#[]⟩], .string ⟨#[]⟩]
theorem lifted (os : Os) (started : os.Started) (H : Type) (enc : TypeId × Value → H) (F : Stop.Interp) :
    ReturnsInHanded {} Tryz.checked os 3 .any ((OpenSpec.ofChange Rows.ballotHidesSpec).preRow enc Tryz.prog Tryz.f3 Rows.ballotHidesRow.domain false []) (((OpenSpec.ofChange Rows.ballotHidesSpec).at F).post enc Tryz.prog Tryz.f3 false true false false) := by
  obtain ⟨w, tape, i, k1, k2, k3, k4, k5, k6, _⟩ := OpenSpec.witness_stopped (enc := enc) (C := Tryz.checked) (os := os) (f := 3) (fn := Tryz.f3) (s := OpenSpec.ofChange Rows.ballotHidesSpec) (conds := Rows.ballotHidesRow.domain) (apart := false) false ⟨#[], wargs, []⟩ 8 (by kernel_rfl) (by kernel_rfl) (by kernel_rfl) (by kernel_rfl) (by kernel_rfl) rfl F
  refine returnsInHanded_of_row (C := Tryz.checked) (s := OpenSpec.ofChange Rows.ballotHidesSpec) own started (by kernel_rfl) Tryz.func3
    ⟨w, tape, i, k1, k2, k3, k4, k5, k6⟩ ?_
  intro W base args ds gs before hval hW _ _ hsz _ _ _
  exact contract H enc W base args ds gs before hval hW hsz
theorem over : Rows.BallotHidesSaid :=
  OpenClaim.holds_of_cond 3 Tryz.f3 rfl rfl rfl rfl rfl rfl rfl ⟨rfl, rfl, rfl, rfl, rfl⟩ rfl rfl rfl rfl rfl (by kernel_rfl) Tryz.func3 (by kernel_rfl)
    (of_decide_eq_true (by kernel_rfl)) (by unfold Func.isWrapper; first | (rw [if_pos (by decide +kernel)]; kernel_rfl) | (rw [if_neg (by decide +kernel)]; exact ⟨rfl, rfl⟩))
    (fun os started H enc _ F => by rw [OpenClaim.pre_eq_preRow]; exact lifted os started H enc F)
end Go.Proofs.YtohpbclofcflaaaGreat.ballotHides
namespace Go.Proofs.YtohpbclofcflaaaGreat
theorem ballotHides_holds : Rows.BallotHidesSaid := ballotHides.over
end Go.Proofs.YtohpbclofcflaaaGreat
