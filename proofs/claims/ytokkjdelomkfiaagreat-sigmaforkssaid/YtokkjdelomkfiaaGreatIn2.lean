/- Lists of texts that came in, and how long they can be. -/
import Derived.Test.YtokkjdelomkfiaaGreatIn
import Derived.Test.YtokkjdelomkfiaaGreatDg
import Derived.SizedLaws
set_option linter.unusedSimpArgs false
set_option linter.unusedVariables false
set_option maxRecDepth 100000
namespace Go.Proofs.YtokkjdelomkfiaaGreat
open Go.ChangeShapes Go.WideShapes Go.ChangeAt Go.RowKit Go.Deep

theorem bytes9 : Tryz.prog.bytesOf 9 = 16 := by kernel_rfl
theorem bytes22 : Tryz.prog.bytesOf 23 = 24 := by kernel_rfl
theorem weightsAll_mem {H : Type} {P : Program} {e : TypeId} : ∀ {l : List (DataW H)} {d : DataW H}, d ∈ l → ∀ n ∈ d.weights P e, n ∈ DataW.weightsAll P e l
  | [], _, h, _, _ => by cases h
  | x :: l, d, h, n, hn => by
    simp only [DataW.weightsAll, List.mem_append]
    rcases List.mem_cons.1 h with rfl | h'
    · exact Or.inl hn
    · exact Or.inr (weightsAll_mem h' n hn)
theorem len22 {H : Type} {enc : TypeId × Value → H} {W : World} {fuel n cap : Nat} {a : Option Addr} {r : DataW H × List MemPlace} (h : DataW.trod enc Tryz.prog W 0 (fun _ => true) true fuel 23 [.slice a n cap] = some r)
    (hw : ∀ n ∈ r.1.weights Tryz.prog 23, n ≤ reachBytes) : n ≤ 8796093022207 := by
  rcases DataW.trod_slice Tryz.underlying23 h with ⟨hcs, rfl⟩ | ⟨a, len, cap, elems, rest, n', hn', hcs, rfl, _, hlc, hcm, hel, hget, hsp, _⟩
  · simp only [List.cons.injEq, and_true, Value.slice.injEq] at hcs
    omega
  · simp only [List.cons.injEq, and_true, Value.slice.injEq] at hcs
    obtain ⟨_, rfl, _⟩ := hcs
    simp only [DataW.weights, Tryz.underlying23, bytes9] at hw
    have h1 := hw _ (List.mem_cons_self ..)
    have h2 := reachBytes_lt
    simp only [List.length_map] at h1
    omega
theorem len25 {H : Type} {enc : TypeId × Value → H} {W : World} {fuel n cap : Nat} {a : Option Addr} {r : DataW H × List MemPlace} (h : DataW.trod enc Tryz.prog W 0 (fun _ => true) true fuel 24 [.slice a n cap] = some r)
    (hw : ∀ n ∈ r.1.weights Tryz.prog 24, n ≤ reachBytes) : n ≤ 8796093022207 := by
  rcases DataW.trod_slice Tryz.underlying24 h with ⟨hcs, rfl⟩ | ⟨a, len, cap, elems, rest, n', hn', hcs, rfl, _, hlc, hcm, hel, hget, hsp, _⟩
  · simp only [List.cons.injEq, and_true, Value.slice.injEq] at hcs
    omega
  · simp only [List.cons.injEq, and_true, Value.slice.injEq] at hcs
    obtain ⟨_, rfl, _⟩ := hcs
    simp only [DataW.weights, Tryz.underlying24, bytes22] at hw
    have h1 := hw _ (List.mem_cons_self ..)
    have h2 := reachBytes_lt
    simp only [List.length_map] at h1
    omega
/-- A list of texts that came in. -/
theorem strs_w {H : Type} {enc : TypeId × Value → H} {W : World} {fuel : Nat} {z : Value} {r : DataW H × List MemPlace} (h : DataW.trod enc Tryz.prog W 0 (fun _ => true) true fuel 23 [z] = some r)
    (hw : ∀ n ∈ r.1.weights Tryz.prog 23, n ≤ reachBytes) :
    ∃ (l : List ByteArray) (a : Option Addr) (cap : Nat), z = .slice a l.length cap ∧ SL W a l ∧ l.length ≤ 8796093022207 := by
  obtain ⟨l, a, cap, rfl, hs, _⟩ := strs_in h
  exact ⟨l, a, cap, rfl, hs, len22 h hw⟩
/-- A list of lists of texts that came in. -/
theorem lists_w {H : Type} {enc : TypeId × Value → H} {W : World} {fuel : Nat} {z : Value} {r : DataW H × List MemPlace} (h : DataW.trod enc Tryz.prog W 0 (fun _ => true) true fuel 24 [z] = some r)
    (hw : ∀ n ∈ r.1.weights Tryz.prog 24, n ≤ reachBytes) :
    ∃ (l : List (List ByteArray)) (a : Option Addr) (cap : Nat), z = .slice a l.length cap ∧ SLL W a l ∧ l.length ≤ 8796093022207 ∧ ∀ i (h : i < l.length), (l[i]).length ≤ 8796093022207 := by
  have hh := h
  rcases DataW.trod_slice Tryz.underlying24 h with ⟨hcs, rfl⟩ | ⟨a, len, cap, elems, rest, n', hn', hcs, rfl, _, hlc, hcm, hel, hget, hsp, _⟩
  · simp only [List.cons.injEq, and_true] at hcs
    subst hcs
    exact ⟨[], none, 0, rfl, (fun i hi => by cases hi), by simp, (fun i hi => by cases hi)⟩
  · simp only [List.cons.injEq, and_true] at hcs
    subst hcs
    have hlen := len25 hh hw
    rw [cells22] at hget
    have each : ∀ i, i < len → ∃ q : List ByteArray × Option Addr × Nat, W.cell? ((a.add (i * 1)).add 0) = some (.slice q.2.1 q.1.length q.2.2) ∧ SL W q.2.1 q.1 ∧ q.1.length ≤ 8796093022207 := by
      intro i hi
      have hi' : i < elems.length := by omega
      have hg := hget i hi
      rw [List.getElem?_eq_getElem hi', Option.bind_eq_some_iff] at hg
      obtain ⟨cs, hc1, hc2⟩ := hg
      obtain ⟨u0, rfl, k0⟩ := cells1 hc1
      obtain ⟨l, a', c', rfl, hl, hb⟩ := strs_w hc2 (fun n hn => hw n (by
        simp only [DataW.weights, Tryz.underlying24, List.mem_cons, List.mem_append]
        exact Or.inr (Or.inl (weightsAll_mem (List.mem_map.2 ⟨elems[i], List.getElem_mem hi', rfl⟩) n hn))))
      exact ⟨(l, a', c'), k0, hl, hb⟩
    obtain ⟨Q, hQ⟩ := choose_lt each
    have eL : ∀ i (hi : i < ((List.range len).map fun i => (Q i).1).length), ((List.range len).map fun i => (Q i).1)[i] = (Q i).1 := fun i hi => by simp
    refine ⟨(List.range len).map fun i => (Q i).1, some a, cap, by simp, fun i hi => ?_, by simpa using hlen, fun i hi => ?_⟩
    · have hi' : i < len := by simpa using hi
      obtain ⟨h0, h1, h2⟩ := hQ i hi'
      obtain ⟨b, o, sp⟩ := a
      have hsp := World.cell?_spot (hQ 0 (by omega)).1
      simp [Addr.add] at hsp
      subst hsp
      rw [add_add] at h0
      rw [eL i hi]
      exact ⟨b, o, (Q i).2.1, (Q i).2.2, rfl, by simpa using h0, h1⟩
    · have hi' : i < len := by simpa using hi
      rw [eL i hi]
      exact (hQ i hi').2.2
/-- A disjunction's proof that came in. -/
theorem either_w {H : Type} {enc : TypeId × Value → H} {W : World} {fuel : Nat} {x z : Value} {r : DataW H × List MemPlace} (h : DataW.trod enc Tryz.prog W 0 (fun _ => true) true fuel 26 [x, z] = some r)
    (hw : ∀ n ∈ r.1.weights Tryz.prog 26, n ≤ reachBytes) :
    ∃ (xs : List ByteArray) (ll : List (List ByteArray)) (a1 a2 : Option Addr) (c1 c2 : Nat), x = .slice a1 xs.length c1 ∧ z = .slice a2 ll.length c2 ∧ SL W a1 xs ∧ SLL W a2 ll ∧ xs.length ≤ 8796093022207 ∧ ll.length ≤ 8796093022207 ∧ ∀ i (h : i < ll.length), (ll[i]).length ≤ 8796093022207 := by
  obtain ⟨xs, n, hn, rfl, hl, hlen, hf⟩ := DataW.trod_struct Tryz.underlying26 h
  match xs, hlen with
  | [y0, y1], _ =>
    have h0 : DataW.trod enc Tryz.prog W 0 (fun _ => true) true n 23 [x] = some y0 := by simpa [cells22] using hf 0 _ rfl
    have h1 : DataW.trod enc Tryz.prog W 0 (fun _ => true) true n 24 [z] = some y1 := by simpa [cells22, cells25] using hf 1 _ rfl
    simp only [DataW.weights, Tryz.underlying26] at hw
    obtain ⟨xs, a1, c1, rfl, hs1, hb1⟩ := strs_w h0 (fun n hn => hw n (DataW.weights_mem_each (j := 0) (t := 23) rfl rfl n hn))
    obtain ⟨ll, a2, c2, rfl, hs2, hb2, hb3⟩ := lists_w h1 (fun n hn => hw n (DataW.weights_mem_each (j := 1) (t := 24) rfl rfl n hn))
    exact ⟨xs, ll, a1, a2, c1, c2, rfl, rfl, hs1, hs2, hb1, hb2, hb3⟩
theorem cells27c : Tryz.prog.cellsOf 27 = 1 := by kernel_rfl
theorem cells58 : Tryz.prog.cellsOf 58 = 2 := by kernel_rfl
theorem bytes58 : Tryz.prog.bytesOf 58 = 48 := by kernel_rfl
theorem bytes27 : Tryz.prog.bytesOf 27 = 24 := by kernel_rfl
theorem cells2 {w : World} {a : Addr} {cs : List Value} (h : w.cells? 0 a 2 = some cs) : ∃ x y, cs = [x, y] ∧ w.cell? (a.add 0) = some x ∧ w.cell? (a.add 1) = some y := by
  unfold World.cells? at h
  rw [if_pos (Nat.zero_le _), show List.range 2 = [0, 1] from rfl] at h
  simp only [List.mapM_cons, List.mapM_nil, Option.bind_eq_bind, Option.bind_eq_some_iff, Option.pure_def, Option.some.injEq] at h
  obtain ⟨x, hx, r, ⟨y, hy, r', rfl, rfl⟩, rfl⟩ := h
  exact ⟨x, y, rfl, hx, hy⟩
/-- A claim that came in. -/
theorem claim_w {H : Type} {enc : TypeId × Value → H} {W : World} {fuel : Nat} {x z : Value} {r : DataW H × List MemPlace} (h : DataW.trod enc Tryz.prog W 0 (fun _ => true) true fuel 58 [x, z] = some r)
    (hw : ∀ n ∈ r.1.weights Tryz.prog 58, n ≤ reachBytes) :
    ∃ (t : Cl) (a1 a2 : Option Addr) (c1 c2 : Nat), x = .slice a1 t.1.length c1 ∧ z = .slice a2 t.2.length c2 ∧ SL W a1 t.1 ∧ SL W a2 t.2 ∧ t.1.length ≤ 8796093022207 ∧ t.2.length ≤ 8796093022207 := by
  obtain ⟨xs, n, hn, rfl, hl, hlen, hf⟩ := DataW.trod_struct Tryz.underlying58 h
  match xs, hlen with
  | [y0, y1], _ =>
    have h0 : DataW.trod enc Tryz.prog W 0 (fun _ => true) true n 23 [x] = some y0 := by simpa [cells22] using hf 0 _ rfl
    have h1 : DataW.trod enc Tryz.prog W 0 (fun _ => true) true n 23 [z] = some y1 := by simpa [cells22] using hf 1 _ rfl
    simp only [DataW.weights, Tryz.underlying58] at hw
    obtain ⟨l, a1, c1, rfl, hs1, hb1⟩ := strs_w h0 (fun n hn => hw n (DataW.weights_mem_each (j := 0) (t := 23) rfl rfl n hn))
    obtain ⟨m, a2, c2, rfl, hs2, hb2⟩ := strs_w h1 (fun n hn => hw n (DataW.weights_mem_each (j := 1) (t := 23) rfl rfl n hn))
    exact ⟨(l, m), a1, a2, c1, c2, rfl, rfl, hs1, hs2, hb1, hb2⟩
theorem len27 {H : Type} {enc : TypeId × Value → H} {W : World} {fuel n cap : Nat} {a : Option Addr} {r : DataW H × List MemPlace} (h : DataW.trod enc Tryz.prog W 0 (fun _ => true) true fuel 27 [.slice a n cap] = some r)
    (hw : ∀ n ∈ r.1.weights Tryz.prog 27, n ≤ reachBytes) : n ≤ 8796093022207 := by
  rcases DataW.trod_slice Tryz.underlying27 h with ⟨hcs, rfl⟩ | ⟨a, len, cap, elems, rest, n', hn', hcs, rfl, _, hlc, hcm, hel, hget, hsp, _⟩
  · simp only [List.cons.injEq, and_true, Value.slice.injEq] at hcs
    omega
  · simp only [List.cons.injEq, and_true, Value.slice.injEq] at hcs
    obtain ⟨_, rfl, _⟩ := hcs
    simp only [DataW.weights, Tryz.underlying27, bytes58] at hw
    have h1 := hw _ (List.mem_cons_self ..)
    have h2 := reachBytes_lt
    simp only [List.length_map] at h1
    omega
theorem len22c {H : Type} {enc : TypeId × Value → H} {W : World} {fuel n cap : Nat} {a : Option Addr} {r : DataW H × List MemPlace} (h : DataW.trod enc Tryz.prog W 0 (fun _ => true) true fuel 22 [.slice a n cap] = some r)
    (hw : ∀ n ∈ r.1.weights Tryz.prog 22, n ≤ reachBytes) : n ≤ 8796093022207 := by
  rcases DataW.trod_slice Tryz.underlying22 h with ⟨hcs, rfl⟩ | ⟨a, len, cap, elems, rest, n', hn', hcs, rfl, _, hlc, hcm, hel, hget, hsp, _⟩
  · simp only [List.cons.injEq, and_true, Value.slice.injEq] at hcs
    omega
  · simp only [List.cons.injEq, and_true, Value.slice.injEq] at hcs
    obtain ⟨_, rfl, _⟩ := hcs
    simp only [DataW.weights, Tryz.underlying22, bytes27] at hw
    have h1 := hw _ (List.mem_cons_self ..)
    have h2 := reachBytes_lt
    simp only [List.length_map] at h1
    omega
/-- How long the lists of claims are. -/
def ClsB (l : List Cl) : Prop := l.length ≤ 8796093022207 ∧ ∀ i (h : i < l.length), (l[i]).1.length ≤ 8796093022207 ∧ (l[i]).2.length ≤ 8796093022207
theorem add_add2 (b o i j : Nat) : ((⟨b, o, none⟩ : Addr).add i).add j = ⟨b, o + i + j, none⟩ := add_add b o i j
/-- A list of claims that came in. -/
theorem claims_w {H : Type} {enc : TypeId × Value → H} {W : World} {fuel : Nat} {z : Value} {r : DataW H × List MemPlace} (h : DataW.trod enc Tryz.prog W 0 (fun _ => true) true fuel 27 [z] = some r)
    (hw : ∀ n ∈ r.1.weights Tryz.prog 27, n ≤ reachBytes) :
    ∃ (l : List Cl) (a : Option Addr) (cap : Nat), z = .slice a l.length cap ∧ CM W a l ∧ ClsB l := by
  have hh := h
  rcases DataW.trod_slice Tryz.underlying27 h with ⟨hcs, rfl⟩ | ⟨a, len, cap, elems, rest, n', hn', hcs, rfl, _, hlc, hcm, hel, hget, hsp, _⟩
  · simp only [List.cons.injEq, and_true] at hcs
    subst hcs
    exact ⟨[], none, 0, rfl, (fun i hi => by cases hi), by simp, (fun i hi => by cases hi)⟩
  · simp only [List.cons.injEq, and_true] at hcs
    subst hcs
    have hlen := len27 hh hw
    rw [cells58] at hget
    have each : ∀ i, i < len → ∃ q : Cl × (Option Addr × Nat) × (Option Addr × Nat), W.cell? ((a.add (i * 2)).add 0) = some (.slice q.2.1.1 q.1.1.length q.2.1.2) ∧ W.cell? ((a.add (i * 2)).add 1) = some (.slice q.2.2.1 q.1.2.length q.2.2.2) ∧ SL W q.2.1.1 q.1.1 ∧ SL W q.2.2.1 q.1.2 ∧ q.1.1.length ≤ 8796093022207 ∧ q.1.2.length ≤ 8796093022207 := by
      intro i hi
      have hi' : i < elems.length := by omega
      have hg := hget i hi
      rw [List.getElem?_eq_getElem hi', Option.bind_eq_some_iff] at hg
      obtain ⟨cs, hc1, hc2⟩ := hg
      obtain ⟨u0, u1, rfl, k0, k1⟩ := cells2 hc1
      obtain ⟨t, a1, a2, c1, c2, rfl, rfl, s1, s2, b1, b2⟩ := claim_w hc2 (fun n hn => hw n (by
        simp only [DataW.weights, Tryz.underlying27, List.mem_cons, List.mem_append]
        exact Or.inr (Or.inl (weightsAll_mem (List.mem_map.2 ⟨elems[i], List.getElem_mem hi', rfl⟩) n hn))))
      exact ⟨(t, (a1, c1), (a2, c2)), k0, k1, s1, s2, b1, b2⟩
    obtain ⟨Q, hQ⟩ := choose_lt each
    have eL : ∀ i (hi : i < ((List.range len).map fun i => (Q i).1).length), ((List.range len).map fun i => (Q i).1)[i] = (Q i).1 := fun i hi => by simp
    refine ⟨(List.range len).map fun i => (Q i).1, some a, cap, by simp, fun i hi => ?_, by simpa using hlen, fun i hi => ?_⟩
    · have hi' : i < len := by simpa using hi
      obtain ⟨h0, h1, h2, h3, _⟩ := hQ i hi'
      obtain ⟨b, o, sp⟩ := a
      have hsp := World.cell?_spot (hQ 0 (by omega)).1
      simp [Addr.add] at hsp
      subst hsp
      rw [add_add] at h0 h1
      rw [eL i hi]
      exact ⟨b, o, (Q i).2.1.1, (Q i).2.1.2, (Q i).2.2.1, (Q i).2.2.2, rfl, by simpa using h0, h1, h2, h3⟩
    · have hi' : i < len := by simpa using hi
      rw [eL i hi]
      exact (hQ i hi').2.2.2.2
/-- A list of lists of claims that came in. -/
theorem sets_w {H : Type} {enc : TypeId × Value → H} {W : World} {fuel : Nat} {z : Value} {r : DataW H × List MemPlace} (h : DataW.trod enc Tryz.prog W 0 (fun _ => true) true fuel 22 [z] = some r)
    (hw : ∀ n ∈ r.1.weights Tryz.prog 22, n ≤ reachBytes) :
    ∃ (l : List (List Cl)) (a : Option Addr) (cap : Nat), z = .slice a l.length cap ∧ CMM W a l ∧ l.length ≤ 8796093022207 ∧ ∀ i (h : i < l.length), ClsB l[i] := by
  have hh := h
  rcases DataW.trod_slice Tryz.underlying22 h with ⟨hcs, rfl⟩ | ⟨a, len, cap, elems, rest, n', hn', hcs, rfl, _, hlc, hcm, hel, hget, hsp, _⟩
  · simp only [List.cons.injEq, and_true] at hcs
    subst hcs
    exact ⟨[], none, 0, rfl, (fun i hi => by cases hi), by simp, (fun i hi => by cases hi)⟩
  · simp only [List.cons.injEq, and_true] at hcs
    subst hcs
    have hlen := len22c hh hw
    rw [cells27c] at hget
    have each : ∀ i, i < len → ∃ q : List Cl × Option Addr × Nat, W.cell? ((a.add (i * 1)).add 0) = some (.slice q.2.1 q.1.length q.2.2) ∧ CM W q.2.1 q.1 ∧ ClsB q.1 := by
      intro i hi
      have hi' : i < elems.length := by omega
      have hg := hget i hi
      rw [List.getElem?_eq_getElem hi', Option.bind_eq_some_iff] at hg
      obtain ⟨cs, hc1, hc2⟩ := hg
      obtain ⟨u0, rfl, k0⟩ := cells1 hc1
      obtain ⟨l, a', c', rfl, hl, hb⟩ := claims_w hc2 (fun n hn => hw n (by
        simp only [DataW.weights, Tryz.underlying22, List.mem_cons, List.mem_append]
        exact Or.inr (Or.inl (weightsAll_mem (List.mem_map.2 ⟨elems[i], List.getElem_mem hi', rfl⟩) n hn))))
      exact ⟨(l, a', c'), k0, hl, hb⟩
    obtain ⟨Q, hQ⟩ := choose_lt each
    have eL : ∀ i (hi : i < ((List.range len).map fun i => (Q i).1).length), ((List.range len).map fun i => (Q i).1)[i] = (Q i).1 := fun i hi => by simp
    refine ⟨(List.range len).map fun i => (Q i).1, some a, cap, by simp, fun i hi => ?_, by simpa using hlen, fun i hi => ?_⟩
    · have hi' : i < len := by simpa using hi
      obtain ⟨h0, h1, _⟩ := hQ i hi'
      obtain ⟨b, o, sp⟩ := a
      have hsp := World.cell?_spot (hQ 0 (by omega)).1
      simp [Addr.add] at hsp
      subst hsp
      rw [add_add] at h0
      rw [eL i hi]
      exact ⟨b, o, (Q i).2.1, (Q i).2.2, rfl, by simpa using h0, h1⟩
    · have hi' : i < len := by simpa using hi
      rw [eL i hi]
      exact (hQ i hi').2.2
end Go.Proofs.YtokkjdelomkfiaaGreat
