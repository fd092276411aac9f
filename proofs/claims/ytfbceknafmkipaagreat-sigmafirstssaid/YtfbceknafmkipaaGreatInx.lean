/- Lists of texts that came in. Lists of texts that came in, and how long they can be. -/
import Derived.Test.YtfbceknafmkipaaGreatFrame
import Derived.Test.YtfbceknafmkipaaGreatSl
import Derived.Deep.Strs
import Derived.WideKeyArgs
import Derived.Test.YtfbceknafmkipaaGreatEx
import Derived.SizedLaws
set_option linter.unusedSimpArgs false
set_option linter.unusedVariables false
set_option maxRecDepth 100000
namespace Go.Proofs.YtfbceknafmkipaaGreat
open Go.ChangeShapes Go.WideShapes Go.ChangeAt Go.RowKit Go.Deep

theorem cells9 : Tryz.prog.cellsOf 9 = 1 := by kernel_rfl
theorem cells22 : Tryz.prog.cellsOf 23 = 1 := by kernel_rfl
theorem cells25 : Tryz.prog.cellsOf 25 = 1 := by kernel_rfl
theorem cells27 : Tryz.prog.cellsOf 63 = 2 := by kernel_rfl
theorem bulk_pos {H : Type} (d : DataW H) : 1 ≤ Rows.uptoBulk d := by
  cases d with
  | lit v => cases v <;> simp [Rows.uptoBulk]
  | _ => simp [Rows.uptoBulk]
theorem bulk_len {H : Type} : ∀ ds : List (DataW H), ds.length ≤ Rows.uptoBulkAll ds
  | [] => by simp [Rows.uptoBulkAll]
  | d :: r => by
    have := bulk_len r
    have := bulk_pos d
    simp only [Rows.uptoBulkAll, List.length_cons]
    omega
theorem bulk_at {H : Type} : ∀ (ds : List (DataW H)) (i : Nat) (h : i < ds.length), Rows.uptoBulk ds[i] ≤ Rows.uptoBulkAll ds
  | [], i, h => by simp at h
  | d :: r, 0, h => by simp [Rows.uptoBulkAll]
  | d :: r, i + 1, h => by
    have := bulk_at r i (by simpa using h)
    simp only [Rows.uptoBulkAll, List.getElem_cons_succ]
    omega
theorem cells1 {w : World} {a : Addr} {cs : List Value} (h : w.cells? 0 a 1 = some cs) : ∃ x, cs = [x] ∧ w.cell? (a.add 0) = some x := by
  unfold World.cells? at h
  rw [if_pos (Nat.zero_le _), show List.range 1 = [0] from rfl] at h
  simp only [List.mapM_cons, List.mapM_nil, Option.bind_eq_bind, Option.bind_eq_some_iff, Option.pure_def, Option.some.injEq] at h
  obtain ⟨x, hx, r, rfl, rfl⟩ := h
  exact ⟨x, rfl, hx⟩
theorem add_add (b o i j : Nat) : ((⟨b, o, none⟩ : Addr).add i).add j = ⟨b, o + i + j, none⟩ := by
  unfold Addr.add
  by_cases h1 : i = 0 <;> by_cases h2 : j = 0 <;> simp [h1, h2]
/-- A list of texts that came in. -/
theorem strs_in {H : Type} {enc : TypeId × Value → H} {W : World} {fuel : Nat} {z : Value} {r : DataW H × List MemPlace} (h : DataW.trod enc Tryz.prog W 0 (fun _ => true) true fuel 23 [z] = some r) :
    ∃ (l : List ByteArray) (a : Option Addr) (cap : Nat), z = .slice a l.length cap ∧ SL W a l ∧ l.length ≤ Rows.uptoBulk r.1 := by
  rcases DataW.trod_slice Tryz.underlying23 h with ⟨hcs, rfl⟩ | ⟨a, len, cap, elems, rest, n', hn', hcs, rfl, _, hlc, hcm, hel, hget, hsp, _⟩
  · simp only [List.cons.injEq, and_true] at hcs
    subst hcs
    exact ⟨[], none, 0, rfl, (fun i hi => by cases hi), by simp⟩
  · simp only [List.cons.injEq, and_true] at hcs
    subst hcs
    rw [cells9] at hget
    have each : ∀ i, i < len → ∃ s : ByteArray, W.cell? ((a.add (i * 1)).add 0) = some (.string s) := by
      intro i hi
      have hi' : i < elems.length := by omega
      have hg := hget i hi
      rw [List.getElem?_eq_getElem hi', Option.bind_eq_some_iff] at hg
      obtain ⟨cs, hc1, hc2⟩ := hg
      obtain ⟨u0, rfl, k0⟩ := cells1 hc1
      obtain ⟨s, e1, _, _⟩ := DataW.trod_string Tryz.underlying9 hc2
      simp only [List.cons.injEq, and_true] at e1
      subst e1
      exact ⟨s, k0⟩
    obtain ⟨Q, hQ⟩ := choose_lt each
    refine ⟨(List.range len).map Q, some a, cap, by simp, fun i hi => ?_, ?_⟩
    · have hi' : i < len := by simpa using hi
      have h0 := hQ i hi'
      obtain ⟨b, o, sp⟩ := a
      have hsp := World.cell?_spot (hQ 0 (by omega))
      simp [Addr.add] at hsp
      subst hsp
      rw [add_add] at h0
      refine ⟨b, o, rfl, ?_⟩
      simpa using h0
    · have := bulk_len (elems.map (·.1))
      simp only [Rows.uptoBulk, List.length_map, List.length_range] at this ⊢
      omega
/-- A list of lists of texts that came in. -/
theorem lists_in {H : Type} {enc : TypeId × Value → H} {W : World} {fuel : Nat} {z : Value} {r : DataW H × List MemPlace} (h : DataW.trod enc Tryz.prog W 0 (fun _ => true) true fuel 25 [z] = some r) :
    ∃ (l : List (List ByteArray)) (a : Option Addr) (cap : Nat), z = .slice a l.length cap ∧ SLL W a l ∧ l.length ≤ Rows.uptoBulk r.1 ∧ ∀ i (h : i < l.length), (l[i]).length ≤ Rows.uptoBulk r.1 := by
  rcases DataW.trod_slice Tryz.underlying25 h with ⟨hcs, rfl⟩ | ⟨a, len, cap, elems, rest, n', hn', hcs, rfl, _, hlc, hcm, hel, hget, hsp, _⟩
  · simp only [List.cons.injEq, and_true] at hcs
    subst hcs
    exact ⟨[], none, 0, rfl, (fun i hi => by cases hi), by simp, (fun i hi => by cases hi)⟩
  · simp only [List.cons.injEq, and_true] at hcs
    subst hcs
    rw [cells22] at hget
    have each : ∀ i, i < len → ∃ q : List ByteArray × Option Addr × Nat, W.cell? ((a.add (i * 1)).add 0) = some (.slice q.2.1 q.1.length q.2.2) ∧ SL W q.2.1 q.1 ∧ q.1.length ≤ Rows.uptoBulkAll (elems.map (·.1)) := by
      intro i hi
      have hi' : i < elems.length := by omega
      have hg := hget i hi
      rw [List.getElem?_eq_getElem hi', Option.bind_eq_some_iff] at hg
      obtain ⟨cs, hc1, hc2⟩ := hg
      obtain ⟨u0, rfl, k0⟩ := cells1 hc1
      obtain ⟨l, a', c', rfl, hl, hb⟩ := strs_in hc2
      refine ⟨(l, a', c'), k0, hl, ?_⟩
      have := bulk_at (elems.map (·.1)) i (by simpa using hi')
      rw [List.getElem_map] at this
      simp only [] at hb ⊢
      omega
    obtain ⟨Q, hQ⟩ := choose_lt each
    have eL : ∀ i (hi : i < ((List.range len).map fun i => (Q i).1).length), ((List.range len).map fun i => (Q i).1)[i] = (Q i).1 := fun i hi => by simp
    refine ⟨(List.range len).map fun i => (Q i).1, some a, cap, by simp, fun i hi => ?_, ?_, fun i hi => ?_⟩
    · have hi' : i < len := by simpa using hi
      obtain ⟨h0, h1, h2⟩ := hQ i hi'
      obtain ⟨b, o, sp⟩ := a
      have hsp := World.cell?_spot (hQ 0 (by omega)).1
      simp [Addr.add] at hsp
      subst hsp
      rw [add_add] at h0
      rw [eL i hi]
      exact ⟨b, o, (Q i).2.1, (Q i).2.2, rfl, by simpa using h0, h1⟩
    · have := bulk_len (elems.map (·.1))
      simp only [Rows.uptoBulk, List.length_map, List.length_range] at this ⊢
      omega
    · have hi' : i < len := by simpa using hi
      rw [eL i hi]
      have := (hQ i hi').2.2
      simp only [Rows.uptoBulk]
      omega
/-- A disjunction's proof that came in. -/
theorem either_in {H : Type} {enc : TypeId × Value → H} {W : World} {fuel : Nat} {x z : Value} {r : DataW H × List MemPlace} (h : DataW.trod enc Tryz.prog W 0 (fun _ => true) true fuel 63 [x, z] = some r) :
    ∃ (xs : List ByteArray) (ll : List (List ByteArray)) (a1 a2 : Option Addr) (c1 c2 : Nat), x = .slice a1 xs.length c1 ∧ z = .slice a2 ll.length c2 ∧ SL W a1 xs ∧ SLL W a2 ll ∧ xs.length ≤ Rows.uptoBulk r.1 ∧ ll.length ≤ Rows.uptoBulk r.1 ∧ ∀ i (h : i < ll.length), (ll[i]).length ≤ Rows.uptoBulk r.1 := by
  obtain ⟨xs, n, hn, rfl, hl, hlen, hf⟩ := DataW.trod_struct Tryz.underlying63 h
  match xs, hlen with
  | [y0, y1], _ =>
    have h0 : DataW.trod enc Tryz.prog W 0 (fun _ => true) true n 23 [x] = some y0 := by simpa [cells22] using hf 0 _ rfl
    have h1 : DataW.trod enc Tryz.prog W 0 (fun _ => true) true n 25 [z] = some y1 := by simpa [cells22, cells25] using hf 1 _ rfl
    obtain ⟨xs, a1, c1, rfl, hs1, hb1⟩ := strs_in h0
    obtain ⟨ll, a2, c2, rfl, hs2, hb2, hb3⟩ := lists_in h1
    refine ⟨xs, ll, a1, a2, c1, c2, rfl, rfl, hs1, hs2, ?_, ?_, fun i hi => ?_⟩
    · simp only [Rows.uptoBulk, Rows.uptoBulkAll, List.map_cons, List.map_nil]; omega
    · simp only [Rows.uptoBulk, Rows.uptoBulkAll, List.map_cons, List.map_nil]; omega
    · have := hb3 i hi
      simp only [Rows.uptoBulk, Rows.uptoBulkAll, List.map_cons, List.map_nil]; omega
end Go.Proofs.YtfbceknafmkipaaGreat
namespace Go.Proofs.YtfbceknafmkipaaGreat
open Go.ChangeShapes Go.WideShapes Go.ChangeAt Go.RowKit Go.Deep

theorem bytes9 : Tryz.prog.bytesOf 9 = 16 := by kernel_rfl
theorem weightsAll_mem {H : Type} {P : Program} {e : TypeId} : ∀ {l : List (DataW H)} {d : DataW H}, d ∈ l → ∀ n ∈ d.weights P e, n ∈ DataW.weightsAll P e l
  | [], _, h, _, _ => by cases h
  | x :: l, d, h, n, hn => by
    simp only [DataW.weightsAll, List.mem_append]
    rcases List.mem_cons.1 h with rfl | h'
    · exact Or.inl hn
    · exact Or.inr (weightsAll_mem h' n hn)
theorem len22 {H : Type} {enc : TypeId × Value → H} {W : World} {fuel n cap : Nat} {a : Option Addr} {r : DataW H × List MemPlace} (h : DataW.trod enc Tryz.prog W 0 (fun _ => true) true fuel 23 [.slice a n cap] = some r)
    (hw : ∀ n ∈ r.1.weights Tryz.prog 23, n ≤ reachBytes) : n ≤ 8796093022207 := by
  rcases DataW.trod_slice Tryz.underlying23 h with ⟨hcs, rfl⟩ | ⟨a, len, cap, elems, rest, n', hn', hcs, rfl, _, hlc, hcm, hel, hget, hsp, _⟩
  · simp only [List.cons.injEq, and_true, Value.slice.injEq] at hcs
    omega
  · simp only [List.cons.injEq, and_true, Value.slice.injEq] at hcs
    obtain ⟨_, rfl, _⟩ := hcs
    simp only [DataW.weights, Tryz.underlying23, bytes9] at hw
    have h1 := hw _ (List.mem_cons_self ..)
    have h2 := reachBytes_lt
    simp only [List.length_map] at h1
    omega
/-- A list of texts that came in. -/
theorem strs_w {H : Type} {enc : TypeId × Value → H} {W : World} {fuel : Nat} {z : Value} {r : DataW H × List MemPlace} (h : DataW.trod enc Tryz.prog W 0 (fun _ => true) true fuel 23 [z] = some r)
    (hw : ∀ n ∈ r.1.weights Tryz.prog 23, n ≤ reachBytes) :
    ∃ (l : List ByteArray) (a : Option Addr) (cap : Nat), z = .slice a l.length cap ∧ SL W a l ∧ l.length ≤ 8796093022207 := by
  obtain ⟨l, a, cap, rfl, hs, _⟩ := strs_in h
  exact ⟨l, a, cap, rfl, hs, len22 h hw⟩
theorem cells72 : Tryz.prog.cellsOf 72 = 2 := by kernel_rfl
theorem bytes72 : Tryz.prog.bytesOf 72 = 48 := by kernel_rfl
theorem cells2 {w : World} {a : Addr} {cs : List Value} (h : w.cells? 0 a 2 = some cs) : ∃ x y, cs = [x, y] ∧ w.cell? (a.add 0) = some x ∧ w.cell? (a.add 1) = some y := by
  unfold World.cells? at h
  rw [if_pos (Nat.zero_le _), show List.range 2 = [0, 1] from rfl] at h
  simp only [List.mapM_cons, List.mapM_nil, Option.bind_eq_bind, Option.bind_eq_some_iff, Option.pure_def, Option.some.injEq] at h
  obtain ⟨x, hx, r, ⟨y, hy, r', rfl, rfl⟩, rfl⟩ := h
  exact ⟨x, y, rfl, hx, hy⟩
/-- A claim that came in. -/
theorem claim_w {H : Type} {enc : TypeId × Value → H} {W : World} {fuel : Nat} {x z : Value} {r : DataW H × List MemPlace} (h : DataW.trod enc Tryz.prog W 0 (fun _ => true) true fuel 72 [x, z] = some r)
    (hw : ∀ n ∈ r.1.weights Tryz.prog 72, n ≤ reachBytes) :
    ∃ (t : Cl) (a1 a2 : Option Addr) (c1 c2 : Nat), x = .slice a1 t.1.length c1 ∧ z = .slice a2 t.2.length c2 ∧ SL W a1 t.1 ∧ SL W a2 t.2 ∧ t.1.length ≤ 8796093022207 ∧ t.2.length ≤ 8796093022207 := by
  obtain ⟨xs, n, hn, rfl, hl, hlen, hf⟩ := DataW.trod_struct Tryz.underlying72 h
  match xs, hlen with
  | [y0, y1], _ =>
    have h0 : DataW.trod enc Tryz.prog W 0 (fun _ => true) true n 23 [x] = some y0 := by simpa [cells22] using hf 0 _ rfl
    have h1 : DataW.trod enc Tryz.prog W 0 (fun _ => true) true n 23 [z] = some y1 := by simpa [cells22] using hf 1 _ rfl
    simp only [DataW.weights, Tryz.underlying72] at hw
    obtain ⟨l, a1, c1, rfl, hs1, hb1⟩ := strs_w h0 (fun n hn => hw n (DataW.weights_mem_each (j := 0) (t := 23) rfl rfl n hn))
    obtain ⟨m, a2, c2, rfl, hs2, hb2⟩ := strs_w h1 (fun n hn => hw n (DataW.weights_mem_each (j := 1) (t := 23) rfl rfl n hn))
    exact ⟨(l, m), a1, a2, c1, c2, rfl, rfl, hs1, hs2, hb1, hb2⟩
theorem len22c {H : Type} {enc : TypeId × Value → H} {W : World} {fuel n cap : Nat} {a : Option Addr} {r : DataW H × List MemPlace} (h : DataW.trod enc Tryz.prog W 0 (fun _ => true) true fuel 22 [.slice a n cap] = some r)
    (hw : ∀ n ∈ r.1.weights Tryz.prog 22, n ≤ reachBytes) : n ≤ 8796093022207 := by
  rcases DataW.trod_slice Tryz.underlying22 h with ⟨hcs, rfl⟩ | ⟨a, len, cap, elems, rest, n', hn', hcs, rfl, _, hlc, hcm, hel, hget, hsp, _⟩
  · simp only [List.cons.injEq, and_true, Value.slice.injEq] at hcs
    omega
  · simp only [List.cons.injEq, and_true, Value.slice.injEq] at hcs
    obtain ⟨_, rfl, _⟩ := hcs
    simp only [DataW.weights, Tryz.underlying22, bytes72] at hw
    have h1 := hw _ (List.mem_cons_self ..)
    have h2 := reachBytes_lt
    simp only [List.length_map] at h1
    omega
/-- How long the lists of claims are. -/
def ClsB (l : List Cl) : Prop := l.length ≤ 8796093022207 ∧ ∀ i (h : i < l.length), (l[i]).1.length ≤ 8796093022207 ∧ (l[i]).2.length ≤ 8796093022207
theorem add_add2 (b o i j : Nat) : ((⟨b, o, none⟩ : Addr).add i).add j = ⟨b, o + i + j, none⟩ := add_add b o i j
/-- A list of claims that came in. -/
theorem claims_w {H : Type} {enc : TypeId × Value → H} {W : World} {fuel : Nat} {z : Value} {r : DataW H × List MemPlace} (h : DataW.trod enc Tryz.prog W 0 (fun _ => true) true fuel 22 [z] = some r)
    (hw : ∀ n ∈ r.1.weights Tryz.prog 22, n ≤ reachBytes) :
    ∃ (l : List Cl) (a : Option Addr) (cap : Nat), z = .slice a l.length cap ∧ CM W a l ∧ ClsB l := by
  have hh := h
  rcases DataW.trod_slice Tryz.underlying22 h with ⟨hcs, rfl⟩ | ⟨a, len, cap, elems, rest, n', hn', hcs, rfl, _, hlc, hcm, hel, hget, hsp, _⟩
  · simp only [List.cons.injEq, and_true] at hcs
    subst hcs
    exact ⟨[], none, 0, rfl, (fun i hi => by cases hi), by simp, (fun i hi => by cases hi)⟩
  · simp only [List.cons.injEq, and_true] at hcs
    subst hcs
    have hlen := len22c hh hw
    rw [cells72] at hget
    have each : ∀ i, i < len → ∃ q : Cl × (Option Addr × Nat) × (Option Addr × Nat), W.cell? ((a.add (i * 2)).add 0) = some (.slice q.2.1.1 q.1.1.length q.2.1.2) ∧ W.cell? ((a.add (i * 2)).add 1) = some (.slice q.2.2.1 q.1.2.length q.2.2.2) ∧ SL W q.2.1.1 q.1.1 ∧ SL W q.2.2.1 q.1.2 ∧ q.1.1.length ≤ 8796093022207 ∧ q.1.2.length ≤ 8796093022207 := by
      intro i hi
      have hi' : i < elems.length := by omega
      have hg := hget i hi
      rw [List.getElem?_eq_getElem hi', Option.bind_eq_some_iff] at hg
      obtain ⟨cs, hc1, hc2⟩ := hg
      obtain ⟨u0, u1, rfl, k0, k1⟩ := cells2 hc1
      obtain ⟨t, a1, a2, c1, c2, rfl, rfl, s1, s2, b1, b2⟩ := claim_w hc2 (fun n hn => hw n (by
        simp only [DataW.weights, Tryz.underlying22, List.mem_cons, List.mem_append]
        exact Or.inr (Or.inl (weightsAll_mem (List.mem_map.2 ⟨elems[i], List.getElem_mem hi', rfl⟩) n hn))))
      exact ⟨(t, (a1, c1), (a2, c2)), k0, k1, s1, s2, b1, b2⟩
    obtain ⟨Q, hQ⟩ := choose_lt each
    have eL : ∀ i (hi : i < ((List.range len).map fun i => (Q i).1).length), ((List.range len).map fun i => (Q i).1)[i] = (Q i).1 := fun i hi => by simp
    refine ⟨(List.range len).map fun i => (Q i).1, some a, cap, by simp, fun i hi => ?_, by simpa using hlen, fun i hi => ?_⟩
    · have hi' : i < len := by simpa using hi
      obtain ⟨h0, h1, h2, h3, _⟩ := hQ i hi'
      obtain ⟨b, o, sp⟩ := a
      have hsp := World.cell?_spot (hQ 0 (by omega)).1
      simp [Addr.add] at hsp
      subst hsp
      rw [add_add] at h0 h1
      rw [eL i hi]
      exact ⟨b, o, (Q i).2.1.1, (Q i).2.1.2, (Q i).2.2.1, (Q i).2.2.2, rfl, by simpa using h0, h1, h2, h3⟩
    · have hi' : i < len := by simpa using hi
      rw [eL i hi]
      exact (hQ i hi').2.2.2.2
theorem cells33 : Tryz.prog.cellsOf 33 = 2 := by kernel_rfl
/-- A proof that came in. -/
theorem proof_w {H : Type} {enc : TypeId × Value → H} {W : World} {fuel : Nat} {x z : Value} {r : DataW H × List MemPlace} (h : DataW.trod enc Tryz.prog W 0 (fun _ => true) true fuel 33 [x, z] = some r)
    (hw : ∀ n ∈ r.1.weights Tryz.prog 33, n ≤ reachBytes) :
    ∃ (s : ByteArray) (l : List ByteArray) (a : Option Addr) (cap : Nat), x = .string s ∧ z = .slice a l.length cap ∧ SL W a l ∧ l.length ≤ 8796093022207 := by
  obtain ⟨xs, n, hn, rfl, hl, hlen, hf⟩ := DataW.trod_struct Tryz.underlying33 h
  match xs, hlen with
  | [y0, y1], _ =>
    have h0 : DataW.trod enc Tryz.prog W 0 (fun _ => true) true n 9 [x] = some y0 := by simpa [cells9] using hf 0 _ rfl
    have h1 : DataW.trod enc Tryz.prog W 0 (fun _ => true) true n 23 [z] = some y1 := by simpa [cells9, cells22] using hf 1 _ rfl
    obtain ⟨s, e1, rfl, _⟩ := DataW.trod_string Tryz.underlying9 h0
    simp only [List.cons.injEq, and_true] at e1
    subst e1
    simp only [DataW.weights, Tryz.underlying33] at hw
    obtain ⟨l, a, cap, rfl, hs, hb⟩ := strs_w h1 (fun n hn => hw n (DataW.weights_mem_each (j := 1) (t := 23) rfl rfl n hn))
    exact ⟨s, l, a, cap, rfl, rfl, hs, hb⟩
theorem ClsB.big {l : List Cl} (h : ClsB l) : Big l := ⟨Nat.le_trans h.1 (by decide), fun i hi => ⟨Nat.le_trans (h.2 i hi).1 (by decide), Nat.le_trans (h.2 i hi).2 (by decide)⟩⟩
end Go.Proofs.YtfbceknafmkipaaGreat
