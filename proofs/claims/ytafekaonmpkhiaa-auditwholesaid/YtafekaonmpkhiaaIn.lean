/- The hands that came in. -/
import Derived.Test.YtafekaonmpkhiaaFrame
import Derived.ChangeMaps5
import Derived.Deep.Strs
import Derived.WideKeyArgs
import Derived.Deep.DeepHandedRow
import Derived.Test.YtafekaonmpkhiaaDj
set_option linter.unusedSimpArgs false
set_option linter.unusedVariables false
set_option maxRecDepth 100000
namespace Go.Proofs.Ytafekaonmpkhiaa
open Go.ChangeShapes Go.WideShapes Go.ChangeAt Go.RowKit Go.Deep

theorem cells3 : Try.prog.cellsOf 3 = 1 := by kernel_rfl
theorem cells9 : Try.prog.cellsOf 9 = 1 := by kernel_rfl
theorem cells26 : Try.prog.cellsOf 26 = 6 := by kernel_rfl
theorem bulk_pos {H : Type} (d : DataW H) : 1 ≤ Rows.uptoBulk d := by
  cases d with
  | lit v => cases v <;> simp [Rows.uptoBulk]
  | _ => simp [Rows.uptoBulk]
theorem bulk_len {H : Type} : ∀ ds : List (DataW H), ds.length ≤ Rows.uptoBulkAll ds
  | [] => by simp [Rows.uptoBulkAll]
  | d :: r => by
    have := bulk_len r
    have := bulk_pos d
    simp only [Rows.uptoBulkAll, List.length_cons]
    omega
theorem bulk_mem {H : Type} {d : DataW H} : ∀ {ds : List (DataW H)}, d ∈ ds → Rows.uptoBulk d ≤ Rows.uptoBulkAll ds
  | x :: r, h => by
    simp only [Rows.uptoBulkAll]
    rcases List.mem_cons.1 h with e | e
    · subst e; omega
    · have := bulk_mem e; omega
theorem cells6 {w : World} {a : Addr} {cs : List Value} (h : w.cells? 0 a 6 = some cs) : ∃ x0 x1 x2 x3 x4 x5, cs = [x0, x1, x2, x3, x4, x5] ∧ w.cell? (a.add 0) = some x0 ∧ w.cell? (a.add 1) = some x1 ∧ w.cell? (a.add 2) = some x2 ∧ w.cell? (a.add 3) = some x3 ∧ w.cell? (a.add 4) = some x4 ∧ w.cell? (a.add 5) = some x5 := by
  unfold World.cells? at h
  rw [if_pos (Nat.zero_le _), show List.range 6 = [0, 1, 2, 3, 4, 5] from rfl] at h
  simp only [List.mapM_cons, List.mapM_nil, Option.bind_eq_bind, Option.bind_eq_some_iff, Option.pure_def, Option.some.injEq] at h
  obtain ⟨x0, h0, r0, ⟨x1, h1, r1, ⟨x2, h2, r2, ⟨x3, h3, r3, ⟨x4, h4, r4, ⟨x5, h5, r5, rfl, rfl⟩, rfl⟩, rfl⟩, rfl⟩, rfl⟩, rfl⟩ := h
  exact ⟨x0, x1, x2, x3, x4, x5, rfl, h0, h1, h2, h3, h4, h5⟩
theorem add_add (b o i j : Nat) : ((⟨b, o, none⟩ : Addr).add i).add j = ⟨b, o + i + j, none⟩ := by
  unfold Addr.add
  by_cases h1 : i = 0 <;> by_cases h2 : j = 0 <;> simp [h1, h2]
/-- A hand that came in. -/
theorem hand_in {H : Type} {enc : TypeId × Value → H} {W : World} {fuel : Nat} {x0 x1 x2 x3 x4 x5 : Value} {r : DataW H × List MemPlace} (h : DataW.trod enc Try.prog W 0 (fun _ => true) true fuel 26 [x0, x1, x2, x3, x4, x5] = some r) (hb : Rows.uptoBulk r.1 ≤ 1048576) :
    ∃ h : Hd, x0 = .int .i64 h.act ∧ x1 = .string h.box ∧ x2 = .string h.who ∧ x3 = .string h.to_ ∧ x4 = .int .i64 h.cnt ∧ x5 = .string h.sl ∧ Hs h := by
  obtain ⟨xs, n, hn, rfl, hl, hlen, hf⟩ := DataW.trod_struct Try.underlying26 h
  match xs, hlen with
  | [y0, y1, y2, y3, y4, y5], _ =>
    have h0 : DataW.trod enc Try.prog W 0 (fun _ => true) true n 3 [x0] = some y0 := by simpa [cells9, cells3] using hf 0 _ rfl
    have h1 : DataW.trod enc Try.prog W 0 (fun _ => true) true n 9 [x1] = some y1 := by simpa [cells9, cells3] using hf 1 _ rfl
    have h2 : DataW.trod enc Try.prog W 0 (fun _ => true) true n 9 [x2] = some y2 := by simpa [cells9, cells3] using hf 2 _ rfl
    have h3 : DataW.trod enc Try.prog W 0 (fun _ => true) true n 9 [x3] = some y3 := by simpa [cells9, cells3] using hf 3 _ rfl
    have h4 : DataW.trod enc Try.prog W 0 (fun _ => true) true n 3 [x4] = some y4 := by simpa [cells9, cells3] using hf 4 _ rfl
    have h5 : DataW.trod enc Try.prog W 0 (fun _ => true) true n 9 [x5] = some y5 := by simpa [cells9, cells3] using hf 5 _ rfl
    obtain ⟨a0, e0, rfl, _⟩ := DataW.trod_int Try.underlying3 h0
    obtain ⟨a1, e1, rfl, _⟩ := DataW.trod_string Try.underlying9 h1
    obtain ⟨a2, e2, rfl, _⟩ := DataW.trod_string Try.underlying9 h2
    obtain ⟨a3, e3, rfl, _⟩ := DataW.trod_string Try.underlying9 h3
    obtain ⟨a4, e4, rfl, _⟩ := DataW.trod_int Try.underlying3 h4
    obtain ⟨a5, e5, rfl, _⟩ := DataW.trod_string Try.underlying9 h5
    simp only [List.cons.injEq, and_true] at e0 e1 e2 e3 e4 e5
    simp only [List.map_cons, List.map_nil, Rows.uptoBulk, Rows.uptoBulkAll, Array.length_toList] at hb
    have z : ∀ s : ByteArray, s.data.size = s.size := fun _ => rfl
    simp only [z] at hb
    exact ⟨⟨a0, a1, a2, a3, a4, a5⟩, e0, e1, e2, e3, e4, e5, ⟨by show a1.size ≤ _; omega, by show a2.size ≤ _; omega, by show a3.size ≤ _; omega, by show a5.size ≤ _; omega⟩⟩
/-- A list of hands that came in. -/
theorem hands_in {H : Type} {enc : TypeId × Value → H} {W : World} {fuel : Nat} {z : Value} {r : DataW H × List MemPlace} (h : DataW.trod enc Try.prog W 0 (fun _ => true) true fuel 22 [z] = some r) (hb : Rows.uptoBulk r.1 ≤ 1048576) :
    ∃ hs : List Hd, HLs W z hs ∧ (∀ h ∈ hs, Hs h) ∧ hs.length ≤ 1048576 := by
  rcases DataW.trod_slice Try.underlying22 h with ⟨hcs, rfl⟩ | ⟨a, len, cap, elems, rest, n', hn', hcs, rfl, _, hlc, hcm, hel, hget, hsp, _⟩
  · simp only [List.cons.injEq, and_true] at hcs
    subst hcs
    exact ⟨[], ⟨none, 0, rfl, fun k hk => by cases hk⟩, (fun h hh => by cases hh), by simp⟩
  · simp only [List.cons.injEq, and_true] at hcs
    subst hcs
    rw [cells26] at hget
    simp only [Rows.uptoBulk] at hb
    have each : ∀ i, i < len → ∃ h : Hd, (W.cell? ((a.add (i * 6)).add 0) = some (.int .i64 h.act) ∧ W.cell? ((a.add (i * 6)).add 1) = some (.string h.box) ∧ W.cell? ((a.add (i * 6)).add 2) = some (.string h.who) ∧ W.cell? ((a.add (i * 6)).add 3) = some (.string h.to_) ∧ W.cell? ((a.add (i * 6)).add 4) = some (.int .i64 h.cnt) ∧ W.cell? ((a.add (i * 6)).add 5) = some (.string h.sl)) ∧ Hs h := by
      intro i hi
      have hi' : i < elems.length := by omega
      have hg := hget i hi
      rw [List.getElem?_eq_getElem hi', Option.bind_eq_some_iff] at hg
      obtain ⟨cs, hc1, hc2⟩ := hg
      obtain ⟨x0, x1, x2, x3, x4, x5, rfl, k0, k1, k2, k3, k4, k5⟩ := cells6 hc1
      have hm : elems[i].1 ∈ elems.map (fun x => x.fst) := List.mem_map.2 ⟨_, List.getElem_mem hi', rfl⟩
      have hbm := bulk_mem hm
      obtain ⟨h, rfl, rfl, rfl, rfl, rfl, rfl, hh⟩ := hand_in hc2 (by omega)
      exact ⟨h, ⟨k0, k1, k2, k3, k4, k5⟩, hh⟩
    haveI : Inhabited Hd := ⟨⟨0, ⟨#[]⟩, ⟨#[]⟩, ⟨#[]⟩, 0, ⟨#[]⟩⟩⟩
    obtain ⟨Q, hQ⟩ := choose_lt each
    have hL : ((List.range len).map Q).length = len := by simp
    refine ⟨(List.range len).map Q, ⟨some a, cap, by rw [hL], fun i hi => ?_⟩, fun h hh => ?_, ?_⟩
    · have hi' : i < len := by simpa using hi
      obtain ⟨⟨h0, h1, h2, h3, h4, h5⟩, -⟩ := hQ i hi'
      obtain ⟨b, o, sp⟩ := a
      have hsp := World.cell?_spot (hQ 0 (by omega)).1.1
      simp [Addr.add] at hsp
      subst hsp
      rw [add_add] at h0 h1 h2 h3 h4 h5
      have e : ((List.range len).map Q)[i] = Q i := by simp
      rw [e]
      exact ⟨b, o, rfl, by simpa using h0, h1, h2, h3, h4, h5⟩
    · obtain ⟨i, hi, rfl⟩ := List.mem_map.1 hh
      exact (hQ i (List.mem_range.1 hi)).2
    · have := bulk_len (elems.map (fun x => x.fst))
      simp only [List.length_map, List.length_range] at this ⊢
      omega
end Go.Proofs.Ytafekaonmpkhiaa
