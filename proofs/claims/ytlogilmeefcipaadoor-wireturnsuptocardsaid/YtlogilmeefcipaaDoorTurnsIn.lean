/- A node that came in; the law WireTurns, whatever comes in. -/
import Derived.Test.YtlogilmeefcipaaDoorTurnsW
import Derived.Test.YtlogilmeefcipaaDoorFrame
import Derived.Deep.Strs
import Derived.WideKeyArgs
set_option linter.unusedSimpArgs false
set_option linter.unusedVariables false
set_option maxRecDepth 100000
namespace Go.Proofs.YtlogilmeefcipaaDoor
open Go.ChangeShapes Go.WideShapes Go.ChangeAt Go.RowKit Go.Deep

theorem cells4 : Tryd.prog.cellsOf 4 = 1 := by kernel_rfl
theorem cells9 : Tryd.prog.cellsOf 9 = 1 := by kernel_rfl
theorem cells22 : Tryd.prog.cellsOf 22 = 1 := by kernel_rfl
theorem cells24 : Tryd.prog.cellsOf 24 = 3 := by kernel_rfl
theorem bk_bulk {H : Type} : ∀ (l : List Gn) (ds : List (DataW H)), l.length = ds.length → (∀ i (h : i < l.length) (h' : i < ds.length), bk [l[i]] ≤ Rows.uptoBulk ds[i]) → bk l ≤ Rows.uptoBulkAll ds
  | [], ds, _, _ => by simp [bk]
  | n :: r, [], h, _ => by simp at h
  | n :: r, d :: ds, h, hb => by
    rw [bk_cons, Rows.uptoBulkAll]
    have h0 := hb 0 (by simp) (by simp)
    have h1 := bk_bulk r ds (by simpa using h) (fun i hi hi' => by have := hb (i + 1) (by simpa using hi) (by simpa using hi'); simpa using this)
    simp only [List.getElem_cons_zero] at h0
    omega
theorem cells3 {w : World} {a : Addr} {cs : List Value} (h : w.cells? 0 a 3 = some cs) : ∃ x y z, cs = [x, y, z] ∧ w.cell? (a.add 0) = some x ∧ w.cell? (a.add 1) = some y ∧ w.cell? (a.add 2) = some z := by
  unfold World.cells? at h
  rw [if_pos (Nat.zero_le _), show List.range 3 = [0, 1, 2] from rfl] at h
  simp only [List.mapM_cons, List.mapM_nil, Option.bind_eq_bind, Option.bind_eq_some_iff, Option.pure_def, Option.some.injEq] at h
  obtain ⟨x, hx, r, ⟨y, hy, r2, ⟨z, hz, r3, rfl, rfl⟩, rfl⟩, rfl⟩ := h
  exact ⟨x, y, z, rfl, hx, hy, hz⟩
/-- A node that came in. -/
theorem node_in {H : Type} {enc : TypeId × Value → H} {W : World} : ∀ (fuel : Nat) (x y z : Value) (r : DataW H × List MemPlace), DataW.trod enc Tryd.prog W 0 (fun _ => true) true fuel 24 [x, y, z] = some r → W.noneFrozen r.2 →
    ∃ n, GAt W n x y z ∧ GFz W n z ∧ bk [n] ≤ Rows.uptoBulk r.1 := by
  intro fuel
  induction fuel using Nat.strongRecOn with
  | _ fuel ih =>
  intro x y z r h hfz
  cases fuel with
  | zero => simp [DataW.trod] at h
  | succ fuel =>
  obtain ⟨y0, y1, y2, n, rfl, hl, h0, h1, h2⟩ : ∃ y0 y1 y2 n, r = (.agg [y0.1, y1.1, y2.1], y0.2 ++ (y1.2 ++ y2.2)) ∧ n = fuel ∧ DataW.trod enc Tryd.prog W 0 (fun _ => true) true n 4 [x] = some y0 ∧ DataW.trod enc Tryd.prog W 0 (fun _ => true) true n 9 [y] = some y1 ∧ DataW.trod enc Tryd.prog W 0 (fun _ => true) true n 22 [z] = some y2 := by
    obtain ⟨xs, n, hn, rfl, hl, hlen, hf⟩ := DataW.trod_struct Tryd.underlying24 h
    match xs, hlen with
    | [y0, y1, y2], _ =>
      exact ⟨y0, y1, y2, n, by simp, by omega, by simpa [cells4] using hf 0 _ rfl, by simpa [cells9] using hf 1 _ rfl, by simpa [cells22] using hf 2 _ rfl⟩
  subst hl
  obtain ⟨lf, e0, rfl⟩ := DataW.trod_bool Tryd.underlying4 h0
  obtain ⟨s, e1, rfl, hs⟩ := DataW.trod_string Tryd.underlying9 h1
  simp only [List.cons.injEq, and_true] at e0 e1
  subst e0
  subst e1
  have eS : S s.data.toList = .string s := by
    show Value.string ⟨s.data.toList.toArray⟩ = _
    cases s; simp
  rcases DataW.trod_slice Tryd.underlying22 h2 with ⟨hcs, rfl⟩ | ⟨a, len, cap, elems, rest, n', hn', hcs, rfl, _, hlc, hcm, hel, hget, hsp, _⟩
  · simp only [List.cons.injEq, and_true] at hcs
    subst hcs
    refine ⟨.mk lf s.data.toList [], ?_, ?_, ?_⟩
    · rw [← eS]
      exact .mk lf _ [] none 0 (fun _ => .bool true) (fun _ => .bool true) (fun _ => .bool true) (fun i h => by simp at h) (fun i h => by simp at h)
    · exact .mk lf _ [] none 0 (fun _ => .bool true) (by simp) (fun h => absurd rfl h) (fun i h => by simp at h) (fun i h => by simp at h)
    · rw [bk]; simp [bk, Rows.uptoBulk, Rows.uptoBulkAll]; omega
  · simp only [List.cons.injEq, and_true] at hcs
    subst hcs
    rw [cells24] at hget hfz
    have each : ∀ i, i < len → ∃ q : Gn × Value × Value × Value, ∃ hi : i < elems.length, W.cell? (a.add (i * 3)) = some q.2.1 ∧ W.cell? ((a.add (i * 3)).add 1) = some q.2.2.1 ∧ W.cell? ((a.add (i * 3)).add 2) = some q.2.2.2 ∧ GAt W q.1 q.2.1 q.2.2.1 q.2.2.2 ∧ GFz W q.1 q.2.2.2 ∧ bk [q.1] ≤ Rows.uptoBulk (elems[i]'hi).1 := by
      intro i hi
      have hi' : i < elems.length := by omega
      have hg := hget i hi
      rw [List.getElem?_eq_getElem hi', Option.bind_eq_some_iff] at hg
      obtain ⟨cs, hc1, hc2⟩ := hg
      obtain ⟨u0, u1, u2, rfl, k0, k1, k2⟩ := cells3 hc1
      obtain ⟨m, g1, g2, g3⟩ := ih n' (by omega) u0 u1 u2 _ hc2 (fun b off hp => hfz b off (by
        simp only [List.mem_append, List.mem_flatMap]
        exact Or.inr (Or.inr (Or.inr ⟨_, Or.inl (List.getElem_mem hi'), hp⟩))))
      exact ⟨(m, u0, u1, u2), hi', k0, k1, k2, g1, g2, g3⟩
    haveI : Inhabited (Gn × Value × Value × Value) := ⟨(.mk true [] [], .bool true, .bool true, .bool true)⟩
    obtain ⟨Q, hQ⟩ := choose_lt each
    have hL : ((List.range len).map fun i => (Q i).1).length = len := by simp
    have hat : 0 < len → ∃ b o, a = ⟨b, o, none⟩ := fun hp => by
      obtain ⟨_, h, _⟩ := hQ 0 hp
      have := World.cell?_spot h
      obtain ⟨b, o, sp⟩ := a
      simp [Addr.add] at this
      subst this
      exact ⟨b, o, rfl⟩
    have hadd : ∀ b o i j, ((⟨b, o, none⟩ : Addr).add i).add j = ⟨b, o + i + j, none⟩ := by
      intro b o i j
      unfold Addr.add
      by_cases h1 : i = 0 <;> by_cases h2 : j = 0 <;> simp [h1, h2]
    have hadd0 : ∀ b o i, (⟨b, o, none⟩ : Addr).add i = ⟨b, o + i, none⟩ := by
      intro b o i
      unfold Addr.add
      by_cases h1 : i = 0 <;> simp [h1]
    refine ⟨.mk lf s.data.toList ((List.range len).map fun i => (Q i).1), ?_, ?_, ?_⟩
    · rw [← eS]
      have := GAt.mk (w := W) lf s.data.toList ((List.range len).map fun i => (Q i).1) (some a) cap (fun i => (Q i).2.1) (fun i => (Q i).2.2.1) (fun i => (Q i).2.2.2) ?_ ?_
      · rw [hL] at this; exact this
      · intro i hi
        rw [hL] at hi
        obtain ⟨b, o, rfl⟩ := hat (by omega)
        obtain ⟨_, h1, h2, h3, _⟩ := hQ i hi
        rw [hadd0] at h1
        rw [hadd] at h2 h3
        have hlt : b < W.heap.size := by
          obtain ⟨cs, t, fr, hcs⟩ := cells_of_cell h1
          exact (Array.getElem?_eq_some_iff.1 hcs).1
        rw [Nat.mul_comm 3 i]
        exact ⟨b, o, rfl, hlt, h1, h2, h3⟩
      · intro i hi
        rw [hL] at hi
        have e : ((List.range len).map fun i => (Q i).1)[i]'(by rw [hL]; exact hi) = (Q i).1 := by simp
        rw [e]
        exact (hQ i hi).2.2.2.2.1
    · have := GFz.mk (w := W) lf s.data.toList ((List.range len).map fun i => (Q i).1) (some a) cap (fun i => (Q i).2.2.2) (by rw [hL]; exact hlc) ?_ ?_ ?_
      · rw [hL] at this; exact this
      · intro hne
        have hp : 0 < len := by
          rcases Nat.eq_zero_or_pos len with h | h
          · rw [h] at hne; simp at hne
          · exact h
        obtain ⟨b, o, rfl⟩ := hat hp
        refine ⟨b, o, rfl, hfz b o ?_⟩
        simp only [List.mem_append]
        refine Or.inr (Or.inr (Or.inl ?_))
        unfold MemPlace.row
        rw [List.mem_map]
        exact ⟨0, by rw [List.mem_range]; omega, rfl⟩
      · intro i hi
        rw [hL] at hi
        obtain ⟨b, o, rfl⟩ := hat (by omega)
        obtain ⟨_, h1, h2, h3, _⟩ := hQ i hi
        rw [hadd] at h3
        rw [Nat.mul_comm 3 i]
        exact ⟨b, o, rfl, h3⟩
      · intro i hi
        rw [hL] at hi
        have e : ((List.range len).map fun i => (Q i).1)[i]'(by rw [hL]; exact hi) = (Q i).1 := by simp
        rw [e]
        exact (hQ i hi).2.2.2.2.2.1
    · have hb := bk_bulk ((List.range len).map fun i => (Q i).1) (elems.map (·.1)) (by simp [hel]) (fun i hi hi' => by
        rw [hL] at hi
        have := (hQ i hi).2.2.2.2.2.2
        simpa using this)
      rw [bk]
      simp only [Rows.uptoBulk, Rows.uptoBulkAll, bk]
      omega
/-- The law, whatever comes in. -/
theorem turns_any {w : World} {n : Gn} {a b c : Value} (bl : List UInt8) (hP : Pows w) (hn : GAt w n a b c) (hk : bk [n] ≤ 1048576) (hz : GFz w n c) (hbl : bl.length ≤ 1048576) :
    Calls Tryd.prog 4 #[.agg #[a, b, c], S bl] w fun e w' => e = .returned (.bool true) ∧ Below w.heap.size w w' := by
  have hsp := wrs_spec [n] 0 [] (by omega) (by simp)
  have h2 : (∃ n2 k2, parsV bl = (n2, k2) ∧ k2 ≠ 0 ∧ (bl == [40, 41]) = false ∧ (bl == [48, 58]) = false) ∨ (∃ m2, parsV bl = (m2, 0) ∧ wrs 0 [toG m2] [] = .ok bl ∧ bk [toG m2] ≤ 1048576) := by
    cases hp : parsP bl with
    | none =>
      have e : parsV bl = (.list [], 2) := by simp [parsV, hp, show ¬ 1048576 < bl.length by omega]
      refine Or.inl ⟨_, _, e, by decide, ?_, ?_⟩
      · rw [beq_eq_false_iff_ne]; intro h; rw [h] at e; have := pars_empty; rw [e] at this; cases this
      · rw [beq_eq_false_iff_ne]; intro h; rw [h] at e; have := pars_zero; rw [e] at this; cases this
    | some m =>
      have e : parsV bl = (m, 0) := by simp [parsV, hp, show ¬ 1048576 < bl.length by omega]
      exact Or.inr ⟨m, e, wrs_parsed hp hbl, Nat.le_trans (parsP_back hp).2.2.2 hbl⟩
  cases hr : wrs 0 [n] [] with
  | ok s =>
    rw [hr] at hsp
    obtain ⟨g1, g2, g3, g4⟩ := hsp
    rw [List.nil_append] at g3
    obtain ⟨m, hm, hmn⟩ := parsP_wrts n g1 (by omega)
    have e : parsV s = (m, 0) := by rw [g3] at g4 ⊢; simp [parsV, hm, show ¬ 1048576 < (wrts [n]).length by omega]
    rcases h2 with ⟨n2, k2, a1, a2, a3, a4⟩ | ⟨m2, a1, a2, a3⟩
    · exact turns_A_no bl hP hn hk hz hbl s m hr e hmn n2 k2 a1 a2 a3 a4
    · exact turns_A_yes bl hP hn hk hz hbl s m hr e hmn m2 a1 a2 a3
  | err k =>
    rw [hr] at hsp
    cases hg : goods [n] with
    | false =>
      rcases h2 with ⟨n2, k2, a1, a2, a3, a4⟩ | ⟨m2, a1, a2, a3⟩
      · exact turns_B1_no bl hP hn hk hz hbl k hr hg n2 k2 a1 a2 a3 a4
      · exact turns_B1_yes bl hP hn hk hz hbl k hr hg m2 a1 a2 a3
    | true =>
      have h3 : 12 < deps [n] ∨ 1048576 < (wrts [n]).length := by
        rcases hsp with ⟨_, h⟩ | ⟨_, h⟩
        · rw [hg] at h; cases h
        · simpa using h hg
      by_cases hd : 3 ≤ deps [n]
      · rcases h2 with ⟨n2, k2, a1, a2, a3, a4⟩ | ⟨m2, a1, a2, a3⟩
        · exact turns_B2_no bl hP hn hk hz hbl k hr hg hd n2 k2 a1 a2 a3 a4
        · exact turns_B2_yes bl hP hn hk hz hbl k hr hg hd m2 a1 a2 a3
      · rcases h2 with ⟨n2, k2, a1, a2, a3, a4⟩ | ⟨m2, a1, a2, a3⟩
        · exact turns_B3_no bl hP hn hk hz hbl k hr hg (by omega) (by omega) n2 k2 a1 a2 a3 a4
        · exact turns_B3_yes bl hP hn hk hz hbl k hr hg (by omega) (by omega) m2 a1 a2 a3
end Go.Proofs.YtlogilmeefcipaaDoor
