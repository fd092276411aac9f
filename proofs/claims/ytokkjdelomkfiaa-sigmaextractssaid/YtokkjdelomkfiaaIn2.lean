/- Lists of texts that came in, and how long they can be. -/
import Derived.Test.YtokkjdelomkfiaaIn
import Derived.SizedLaws
set_option linter.unusedSimpArgs false
set_option linter.unusedVariables false
set_option maxRecDepth 100000
namespace Go.Proofs.Ytokkjdelomkfiaa
open Go.ChangeShapes Go.WideShapes Go.ChangeAt Go.RowKit Go.Deep

theorem bytes9 : Try.prog.bytesOf 9 = 16 := by kernel_rfl
theorem bytes22 : Try.prog.bytesOf 22 = 24 := by kernel_rfl
theorem weightsAll_mem {H : Type} {P : Program} {e : TypeId} : ∀ {l : List (DataW H)} {d : DataW H}, d ∈ l → ∀ n ∈ d.weights P e, n ∈ DataW.weightsAll P e l
  | [], _, h, _, _ => by cases h
  | x :: l, d, h, n, hn => by
    simp only [DataW.weightsAll, List.mem_append]
    rcases List.mem_cons.1 h with rfl | h'
    · exact Or.inl hn
    · exact Or.inr (weightsAll_mem h' n hn)
theorem len22 {H : Type} {enc : TypeId × Value → H} {W : World} {fuel n cap : Nat} {a : Option Addr} {r : DataW H × List MemPlace} (h : DataW.trod enc Try.prog W 0 (fun _ => true) true fuel 22 [.slice a n cap] = some r)
    (hw : ∀ n ∈ r.1.weights Try.prog 22, n ≤ reachBytes) : n ≤ 8796093022207 := by
  rcases DataW.trod_slice Try.underlying22 h with ⟨hcs, rfl⟩ | ⟨a, len, cap, elems, rest, n', hn', hcs, rfl, _, hlc, hcm, hel, hget, hsp, _⟩
  · simp only [List.cons.injEq, and_true, Value.slice.injEq] at hcs
    omega
  · simp only [List.cons.injEq, and_true, Value.slice.injEq] at hcs
    obtain ⟨_, rfl, _⟩ := hcs
    simp only [DataW.weights, Try.underlying22, bytes9] at hw
    have h1 := hw _ (List.mem_cons_self ..)
    have h2 := reachBytes_lt
    simp only [List.length_map] at h1
    omega
theorem len25 {H : Type} {enc : TypeId × Value → H} {W : World} {fuel n cap : Nat} {a : Option Addr} {r : DataW H × List MemPlace} (h : DataW.trod enc Try.prog W 0 (fun _ => true) true fuel 25 [.slice a n cap] = some r)
    (hw : ∀ n ∈ r.1.weights Try.prog 25, n ≤ reachBytes) : n ≤ 8796093022207 := by
  rcases DataW.trod_slice Try.underlying25 h with ⟨hcs, rfl⟩ | ⟨a, len, cap, elems, rest, n', hn', hcs, rfl, _, hlc, hcm, hel, hget, hsp, _⟩
  · simp only [List.cons.injEq, and_true, Value.slice.injEq] at hcs
    omega
  · simp only [List.cons.injEq, and_true, Value.slice.injEq] at hcs
    obtain ⟨_, rfl, _⟩ := hcs
    simp only [DataW.weights, Try.underlying25, bytes22] at hw
    have h1 := hw _ (List.mem_cons_self ..)
    have h2 := reachBytes_lt
    simp only [List.length_map] at h1
    omega
/-- A list of texts that came in. -/
theorem strs_w {H : Type} {enc : TypeId × Value → H} {W : World} {fuel : Nat} {z : Value} {r : DataW H × List MemPlace} (h : DataW.trod enc Try.prog W 0 (fun _ => true) true fuel 22 [z] = some r)
    (hw : ∀ n ∈ r.1.weights Try.prog 22, n ≤ reachBytes) :
    ∃ (l : List ByteArray) (a : Option Addr) (cap : Nat), z = .slice a l.length cap ∧ SL W a l ∧ l.length ≤ 8796093022207 := by
  obtain ⟨l, a, cap, rfl, hs, _⟩ := strs_in h
  exact ⟨l, a, cap, rfl, hs, len22 h hw⟩
/-- A list of lists of texts that came in. -/
theorem lists_w {H : Type} {enc : TypeId × Value → H} {W : World} {fuel : Nat} {z : Value} {r : DataW H × List MemPlace} (h : DataW.trod enc Try.prog W 0 (fun _ => true) true fuel 25 [z] = some r)
    (hw : ∀ n ∈ r.1.weights Try.prog 25, n ≤ reachBytes) :
    ∃ (l : List (List ByteArray)) (a : Option Addr) (cap : Nat), z = .slice a l.length cap ∧ SLL W a l ∧ l.length ≤ 8796093022207 ∧ ∀ i (h : i < l.length), (l[i]).length ≤ 8796093022207 := by
  have hh := h
  rcases DataW.trod_slice Try.underlying25 h with ⟨hcs, rfl⟩ | ⟨a, len, cap, elems, rest, n', hn', hcs, rfl, _, hlc, hcm, hel, hget, hsp, _⟩
  · simp only [List.cons.injEq, and_true] at hcs
    subst hcs
    exact ⟨[], none, 0, rfl, (fun i hi => by cases hi), by simp, (fun i hi => by cases hi)⟩
  · simp only [List.cons.injEq, and_true] at hcs
    subst hcs
    have hlen := len25 hh hw
    rw [cells22] at hget
    have each : ∀ i, i < len → ∃ q : List ByteArray × Option Addr × Nat, W.cell? ((a.add (i * 1)).add 0) = some (.slice q.2.1 q.1.length q.2.2) ∧ SL W q.2.1 q.1 ∧ q.1.length ≤ 8796093022207 := by
      intro i hi
      have hi' : i < elems.length := by omega
      have hg := hget i hi
      rw [List.getElem?_eq_getElem hi', Option.bind_eq_some_iff] at hg
      obtain ⟨cs, hc1, hc2⟩ := hg
      obtain ⟨u0, rfl, k0⟩ := cells1 hc1
      obtain ⟨l, a', c', rfl, hl, hb⟩ := strs_w hc2 (fun n hn => hw n (by
        simp only [DataW.weights, Try.underlying25, List.mem_cons, List.mem_append]
        exact Or.inr (Or.inl (weightsAll_mem (List.mem_map.2 ⟨elems[i], List.getElem_mem hi', rfl⟩) n hn))))
      exact ⟨(l, a', c'), k0, hl, hb⟩
    obtain ⟨Q, hQ⟩ := choose_lt each
    have eL : ∀ i (hi : i < ((List.range len).map fun i => (Q i).1).length), ((List.range len).map fun i => (Q i).1)[i] = (Q i).1 := fun i hi => by simp
    refine ⟨(List.range len).map fun i => (Q i).1, some a, cap, by simp, fun i hi => ?_, by simpa using hlen, fun i hi => ?_⟩
    · have hi' : i < len := by simpa using hi
      obtain ⟨h0, h1, h2⟩ := hQ i hi'
      obtain ⟨b, o, sp⟩ := a
      have hsp := World.cell?_spot (hQ 0 (by omega)).1
      simp [Addr.add] at hsp
      subst hsp
      rw [add_add] at h0
      rw [eL i hi]
      exact ⟨b, o, (Q i).2.1, (Q i).2.2, rfl, by simpa using h0, h1⟩
    · have hi' : i < len := by simpa using hi
      rw [eL i hi]
      exact (hQ i hi').2.2
/-- A proof that came in. -/
theorem proof_w {H : Type} {enc : TypeId × Value → H} {W : World} {fuel : Nat} {x z : Value} {r : DataW H × List MemPlace} (h : DataW.trod enc Try.prog W 0 (fun _ => true) true fuel 24 [x, z] = some r)
    (hw : ∀ n ∈ r.1.weights Try.prog 24, n ≤ reachBytes) :
    ∃ (s : ByteArray) (l : List ByteArray) (a : Option Addr) (cap : Nat), x = .string s ∧ z = .slice a l.length cap ∧ SL W a l ∧ l.length ≤ 8796093022207 := by
  obtain ⟨xs, n, hn, rfl, hl, hlen, hf⟩ := DataW.trod_struct Try.underlying24 h
  match xs, hlen with
  | [y0, y1], _ =>
    have h0 : DataW.trod enc Try.prog W 0 (fun _ => true) true n 9 [x] = some y0 := by simpa [cells9] using hf 0 _ rfl
    have h1 : DataW.trod enc Try.prog W 0 (fun _ => true) true n 22 [z] = some y1 := by simpa [cells9, cells22] using hf 1 _ rfl
    obtain ⟨s, e1, rfl, _⟩ := DataW.trod_string Try.underlying9 h0
    simp only [List.cons.injEq, and_true] at e1
    subst e1
    simp only [DataW.weights, Try.underlying24] at hw
    obtain ⟨l, a, cap, rfl, hs, hb⟩ := strs_w h1 (fun n hn => hw n (DataW.weights_mem_each (j := 1) (t := 22) rfl rfl n hn))
    exact ⟨s, l, a, cap, rfl, rfl, hs, hb⟩
/-- A disjunction's proof that came in. -/
theorem either_w {H : Type} {enc : TypeId × Value → H} {W : World} {fuel : Nat} {x z : Value} {r : DataW H × List MemPlace} (h : DataW.trod enc Try.prog W 0 (fun _ => true) true fuel 27 [x, z] = some r)
    (hw : ∀ n ∈ r.1.weights Try.prog 27, n ≤ reachBytes) :
    ∃ (xs : List ByteArray) (ll : List (List ByteArray)) (a1 a2 : Option Addr) (c1 c2 : Nat), x = .slice a1 xs.length c1 ∧ z = .slice a2 ll.length c2 ∧ SL W a1 xs ∧ SLL W a2 ll ∧ xs.length ≤ 8796093022207 ∧ ll.length ≤ 8796093022207 ∧ ∀ i (h : i < ll.length), (ll[i]).length ≤ 8796093022207 := by
  obtain ⟨xs, n, hn, rfl, hl, hlen, hf⟩ := DataW.trod_struct Try.underlying27 h
  match xs, hlen with
  | [y0, y1], _ =>
    have h0 : DataW.trod enc Try.prog W 0 (fun _ => true) true n 22 [x] = some y0 := by simpa [cells22] using hf 0 _ rfl
    have h1 : DataW.trod enc Try.prog W 0 (fun _ => true) true n 25 [z] = some y1 := by simpa [cells22, cells25] using hf 1 _ rfl
    simp only [DataW.weights, Try.underlying27] at hw
    obtain ⟨xs, a1, c1, rfl, hs1, hb1⟩ := strs_w h0 (fun n hn => hw n (DataW.weights_mem_each (j := 0) (t := 22) rfl rfl n hn))
    obtain ⟨ll, a2, c2, rfl, hs2, hb2, hb3⟩ := lists_w h1 (fun n hn => hw n (DataW.weights_mem_each (j := 1) (t := 25) rfl rfl n hn))
    exact ⟨xs, ll, a1, a2, c1, c2, rfl, rfl, hs1, hs2, hb1, hb2, hb3⟩
end Go.Proofs.Ytokkjdelomkfiaa
