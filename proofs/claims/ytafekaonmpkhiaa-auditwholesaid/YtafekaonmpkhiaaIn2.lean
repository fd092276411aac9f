/- The hands that came in, and how long they can be. -/
import Derived.Test.YtafekaonmpkhiaaIn
import Derived.SizedLaws
set_option linter.unusedSimpArgs false
set_option linter.unusedVariables false
set_option maxRecDepth 100000
namespace Go.Proofs.Ytafekaonmpkhiaa
open Go.ChangeShapes Go.WideShapes Go.ChangeAt Go.RowKit Go.Deep

theorem bytes26 : Try.prog.bytesOf 26 = 80 := by kernel_rfl
theorem weightsAll_mem {H : Type} {P : Program} {e : TypeId} : ∀ {l : List (DataW H)} {d : DataW H}, d ∈ l → ∀ n ∈ d.weights P e, n ∈ DataW.weightsAll P e l
  | [], _, h, _, _ => by cases h
  | x :: l, d, h, n, hn => by
    simp only [DataW.weightsAll, List.mem_append]
    rcases List.mem_cons.1 h with rfl | h'
    · exact Or.inl hn
    · exact Or.inr (weightsAll_mem h' n hn)
theorem str_w {H : Type} {enc : TypeId × Value → H} {W : World} {fuel : Nat} {x : Value} {r : DataW H × List MemPlace} (h : DataW.trod enc Try.prog W 0 (fun _ => true) true fuel 9 [x] = some r) (hw : ∀ n ∈ r.1.weights Try.prog 9, n ≤ reachBytes) :
    ∃ s : ByteArray, x = .string s ∧ s.size ≤ 140737488355328 := by
  obtain ⟨s, e1, rfl, _⟩ := DataW.trod_string Try.underlying9 h
  simp only [List.cons.injEq, and_true] at e1
  have h1 := hw s.data.toList.length (by simp [DataW.weights])
  have h2 := reachBytes_lt
  have z : s.data.toList.length = s.size := by simp
  exact ⟨s, e1, by omega⟩
/-- A hand that came in. -/
theorem hand_w {H : Type} {enc : TypeId × Value → H} {W : World} {fuel : Nat} {x0 x1 x2 x3 x4 x5 : Value} {r : DataW H × List MemPlace} (h : DataW.trod enc Try.prog W 0 (fun _ => true) true fuel 26 [x0, x1, x2, x3, x4, x5] = some r) (hw : ∀ n ∈ r.1.weights Try.prog 26, n ≤ reachBytes) :
    ∃ h : Hd, x0 = .int .i64 h.act ∧ x1 = .string h.box ∧ x2 = .string h.who ∧ x3 = .string h.to_ ∧ x4 = .int .i64 h.cnt ∧ x5 = .string h.sl ∧ Hs h := by
  obtain ⟨xs, n, hn, rfl, hl, hlen, hf⟩ := DataW.trod_struct Try.underlying26 h
  match xs, hlen with
  | [y0, y1, y2, y3, y4, y5], _ =>
    have h0 : DataW.trod enc Try.prog W 0 (fun _ => true) true n 3 [x0] = some y0 := by simpa [cells9, cells3] using hf 0 _ rfl
    have h1 : DataW.trod enc Try.prog W 0 (fun _ => true) true n 9 [x1] = some y1 := by simpa [cells9, cells3] using hf 1 _ rfl
    have h2 : DataW.trod enc Try.prog W 0 (fun _ => true) true n 9 [x2] = some y2 := by simpa [cells9, cells3] using hf 2 _ rfl
    have h3 : DataW.trod enc Try.prog W 0 (fun _ => true) true n 9 [x3] = some y3 := by simpa [cells9, cells3] using hf 3 _ rfl
    have h4 : DataW.trod enc Try.prog W 0 (fun _ => true) true n 3 [x4] = some y4 := by simpa [cells9, cells3] using hf 4 _ rfl
    have h5 : DataW.trod enc Try.prog W 0 (fun _ => true) true n 9 [x5] = some y5 := by simpa [cells9, cells3] using hf 5 _ rfl
    simp only [DataW.weights, Try.underlying26] at hw
    obtain ⟨a0, e0, rfl, _⟩ := DataW.trod_int Try.underlying3 h0
    obtain ⟨a1, e1, b1⟩ := str_w h1 (fun n hn => hw n (DataW.weights_mem_each (j := 1) (t := 9) rfl rfl n hn))
    obtain ⟨a2, e2, b2⟩ := str_w h2 (fun n hn => hw n (DataW.weights_mem_each (j := 2) (t := 9) rfl rfl n hn))
    obtain ⟨a3, e3, b3⟩ := str_w h3 (fun n hn => hw n (DataW.weights_mem_each (j := 3) (t := 9) rfl rfl n hn))
    obtain ⟨a4, e4, rfl, _⟩ := DataW.trod_int Try.underlying3 h4
    obtain ⟨a5, e5, b5⟩ := str_w h5 (fun n hn => hw n (DataW.weights_mem_each (j := 5) (t := 9) rfl rfl n hn))
    simp only [List.cons.injEq, and_true] at e0 e4
    exact ⟨⟨a0, a1, a2, a3, a4, a5⟩, e0, e1, e2, e3, e4, e5, ⟨b1, b2, b3, b5⟩⟩
/-- A list of hands that came in. -/
theorem hands_w {H : Type} {enc : TypeId × Value → H} {W : World} {fuel : Nat} {z : Value} {r : DataW H × List MemPlace} (h : DataW.trod enc Try.prog W 0 (fun _ => true) true fuel 22 [z] = some r) (hw : ∀ n ∈ r.1.weights Try.prog 22, n ≤ reachBytes) :
    ∃ hs : List Hd, HLs W z hs ∧ (∀ h ∈ hs, Hs h) ∧ hs.length * 80 ≤ 140737488355328 := by
  rcases DataW.trod_slice Try.underlying22 h with ⟨hcs, rfl⟩ | ⟨a, len, cap, elems, rest, n', hn', hcs, rfl, _, hlc, hcm, hel, hget, hsp, _⟩
  · simp only [List.cons.injEq, and_true] at hcs
    subst hcs
    exact ⟨[], ⟨none, 0, rfl, fun k hk => by cases hk⟩, (fun h hh => by cases hh), by simp⟩
  · simp only [List.cons.injEq, and_true] at hcs
    subst hcs
    rw [cells26] at hget
    simp only [DataW.weights, Try.underlying22, bytes26] at hw
    have hlen : len * 80 ≤ 140737488355328 := by
      have h1 := hw _ (List.mem_cons_self ..)
      have h2 := reachBytes_lt
      simp only [List.length_map] at h1
      omega
    have each : ∀ i, i < len → ∃ h : Hd, (W.cell? ((a.add (i * 6)).add 0) = some (.int .i64 h.act) ∧ W.cell? ((a.add (i * 6)).add 1) = some (.string h.box) ∧ W.cell? ((a.add (i * 6)).add 2) = some (.string h.who) ∧ W.cell? ((a.add (i * 6)).add 3) = some (.string h.to_) ∧ W.cell? ((a.add (i * 6)).add 4) = some (.int .i64 h.cnt) ∧ W.cell? ((a.add (i * 6)).add 5) = some (.string h.sl)) ∧ Hs h := by
      intro i hi
      have hi' : i < elems.length := by omega
      have hg := hget i hi
      rw [List.getElem?_eq_getElem hi', Option.bind_eq_some_iff] at hg
      obtain ⟨cs, hc1, hc2⟩ := hg
      obtain ⟨x0, x1, x2, x3, x4, x5, rfl, k0, k1, k2, k3, k4, k5⟩ := cells6 hc1
      obtain ⟨h, rfl, rfl, rfl, rfl, rfl, rfl, hh⟩ := hand_w hc2 (fun n hn => hw n (by
        simp only [List.mem_cons, List.mem_append]
        exact Or.inr (Or.inl (weightsAll_mem (List.mem_map.2 ⟨elems[i], List.getElem_mem hi', rfl⟩) n hn))))
      exact ⟨h, ⟨k0, k1, k2, k3, k4, k5⟩, hh⟩
    haveI : Inhabited Hd := ⟨⟨0, ⟨#[]⟩, ⟨#[]⟩, ⟨#[]⟩, 0, ⟨#[]⟩⟩⟩
    obtain ⟨Q, hQ⟩ := choose_lt each
    have hL : ((List.range len).map Q).length = len := by simp
    refine ⟨(List.range len).map Q, ⟨some a, cap, by rw [hL], fun i hi => ?_⟩, fun h hh => ?_, by rw [hL]; exact hlen⟩
    · have hi' : i < len := by simpa using hi
      obtain ⟨⟨h0, h1, h2, h3, h4, h5⟩, -⟩ := hQ i hi'
      obtain ⟨b, o, sp⟩ := a
      have hsp := World.cell?_spot (hQ 0 (by omega)).1.1
      simp [Addr.add] at hsp
      subst hsp
      rw [add_add] at h0 h1 h2 h3 h4 h5
      have e : ((List.range len).map Q)[i] = Q i := by simp
      rw [e]
      exact ⟨b, o, rfl, by simpa using h0, h1, h2, h3, h4, h5⟩
    · obtain ⟨i, hi, rfl⟩ := List.mem_map.1 hh
      exact (hQ i (List.mem_range.1 hi)).2
end Go.Proofs.Ytafekaonmpkhiaa
