/- The program's Parse. -/
import Derived.Test.YtlogilmeefcipaaDoorWhole
set_option linter.unusedSimpArgs false
set_option linter.unusedVariables false
set_option maxRecDepth 100000
namespace Go.Proofs.YtlogilmeefcipaaDoor
open Go.RowKit Go.Deep Go.PlainAid Go.Shelf

/-- What a text is parsed to: the node, and what is wrong. -/
def parsV (l : List UInt8) : Nd × Nat := if 1048576 < l.length then (.list [], 3) else match parsP l with
  | none => (.list [], 2)
  | some n => (n, 0)
theorem results_row2 {P : Program} {fn : Func} {p q : Tmp} {ty : TypeId} (h : fn.results = #[.cell p ty, .tmp q]) (tmps : Array Value) (w : World) (g : Nat) (t : TypeId) (cs : Array Value) (fr : Nat × Nat) (d : TypeDesc)
    (hp : tmps.getD p undef = .pointer (some ⟨g, 0, none⟩)) (hg : w.heap[g]? = some (.cells cs t fr))
    (hu : P.underlying ty = some d) (hd : (match d with | .struct _ | .array _ _ => true | _ => false) = true) (hi : (P.info? ty).map (·.size) = some cs.size) :
    (results fn tmps).run P w = .ok (.tuple #[.agg cs, tmps.getD q undef]) w := by
  have hp' : tmps[p]?.getD undef = .pointer (some ⟨g, 0, none⟩) := by simpa using hp
  simp [results, h, hp', asAddr, run_loadVar_row w g t ty cs fr d hg hu hd hi, Sem.run_bind]
theorem NAt.zero (w : World) (F : Nat → Prop) : NAt w F (.list []) (.bool false) (.string ⟨#[]⟩) (.slice none 0 0) :=
  .list [] none 0 (fun _ => .bool false) (fun _ => .bool false) (fun _ => .bool false) (fun i h => by simp at h) (fun i h => by simp at h)
set_option maxHeartbeats 1000000 in
theorem parse_any (l : List UInt8) (w : World) :
    Calls Tryd.prog 8 #[S l] w fun e w' => Below w.heap.size w w' ∧ ∃ a b c, e = .returned (.tuple #[.agg #[a, b, c], .int .i64 ((parsV l).2 : Int)]) ∧ NAt w' (fun k => w.heap.size ≤ k) (parsV l).1 a b c := by
  have hmf : ∀ (fn : Fn) (first cap : Array Value) (w : World), (Instr.makeFunc fn first cap).run Tryd.prog w = .ok (.func fn first cap) w := fun _ _ _ _ => rfl
  have hsz := size_S l
  by_cases hbig : 1048576 < l.length
  · have hb' : (1048576 : Int) < (l.length : Int) := by omega
    have hv : parsV l = (.list [], 3) := by simp [parsV, hbig]
    rw [hv]
    simp only []
    clear hv
    go_enter Tryd.func8, Tryd.ntmps8
    go_wp2_with fail
    exact bodyPost_ret (v := .tuple #[.agg #[.bool false, .string ⟨#[]⟩, .slice none 0 0], .int .i64 3]) (results_row2 Tryd.results8 _ _ w.heap.size 24 #[.bool false, .string ⟨#[]⟩, .slice none 0 0] (0, 0) _ rfl (heap_alloc_new w _) Tryd.underlying24 rfl size24) rfl ⟨(Below.refl _ w).alloc (Nat.le_refl _) _, _, _, _, rfl, NAt.zero _ _⟩
  · have hb' : ¬ (1048576 : Int) < (l.length : Int) := by omega
    have hth := fun w1 hr hh => thrown_any l (w.heap.size + 1) (w.heap.size + 1 + 1) (w.heap.size + 1) w1 (by omega) hr (.bool false) (.string ⟨#[]⟩) (.slice none 0 0) hh (by omega) (by omega) (by omega)
    have R0 : Hid (IHolds (((w.alloc zN).alloc (.cells #[S l] 50)).alloc zN) (w.heap.size + 1) 50 [S l]) := (IHolds.new' (w.alloc zN) 50 [S l] (by simp)).alloc _
    have H0 : Hid (IHolds (((w.alloc zN).alloc (.cells #[S l] 50)).alloc zN) (w.heap.size + 1 + 1) 24 [.bool false, .string ⟨#[]⟩, .slice none 0 0]) := IHolds.new' ((w.alloc zN).alloc (.cells #[S l] 50)) 24 [.bool false, .string ⟨#[]⟩, .slice none 0 0] (by simp)
    have C0 := hth _ R0.out H0.out
    have Z0 : Hid (IHolds (((w.alloc zN).alloc (.cells #[S l] 50)).alloc zN) w.heap.size 24 [.bool false, .string ⟨#[]⟩, .slice none 0 0]) := ((IHolds.new' w 24 [.bool false, .string ⟨#[]⟩, .slice none 0 0] rfl).alloc _).alloc _
    have J0 : Hid (Below w.heap.size w (((w.alloc zN).alloc (.cells #[S l] 50)).alloc zN)) := (((Below.refl _ w).alloc (Nat.le_refl _) _).alloc (by simp) _).alloc (by simp; omega) _
    clear hth
    cases hp : parsP l with
    | none =>
      have hv : parsV l = (.list [], 2) := by simp [parsV, hbig, hp]
      simp only [hp] at C0
      rw [hv]
      simp only []
      clear hv hp
      go_enter Tryd.func8, Tryd.ntmps8
      go_wp2_with (go_at_call 18; refine C0.mono ?_; rintro e w1 ⟨hB1, rfl⟩; have M2 : Hid (IHolds w1 w.heap.size 24 [.bool false, .string ⟨#[]⟩, .slice none 0 0]) := (by show IHolds _ _ _ _; unfold IHolds; rw [hB1.block w.heap.size (by omega)]; exact Z0.out); have c0 : w1.cell? ⟨w.heap.size, 0, none⟩ = some (.bool false) := M2.out.cell 0 (by simp); have c1 : w1.cell? ⟨w.heap.size, 1, none⟩ = some (.string ⟨#[]⟩) := M2.out.cell 1 (by simp); have c2 : w1.cell? ⟨w.heap.size, 2, none⟩ = some (.slice none 0 0) := M2.out.cell 2 (by simp); have f0 : w1.frozen? ⟨w.heap.size, 0, none⟩ = false := M2.out.frozen 0; have f1 : w1.frozen? ⟨w.heap.size, 1, none⟩ = false := M2.out.frozen 1; have f2 : w1.frozen? ⟨w.heap.size, 2, none⟩ = false := M2.out.frozen 2)
      have P3 := put3 M2.out (.bool false) (.string ⟨#[]⟩) (.slice none 0 0)
      have Q3 := put3_but w1 w.heap.size (.bool false) (.string ⟨#[]⟩) (.slice none 0 0)
      generalize ((w1.setCell ⟨w.heap.size, 0, none⟩ (.bool false)).setCell ⟨w.heap.size, 1, none⟩ (.string ⟨#[]⟩)).setCell ⟨w.heap.size, 2, none⟩ (.slice none 0 0) = w3 at *
      have J3 : Below w.heap.size w w3 := (J0.out.trans (hB1.mono (by omega))).trans (Q3.below (Nat.le_refl _) (by have := M2.out.lt; omega))
      exact bodyPost_ret (v := .tuple #[.agg #[.bool false, .string ⟨#[]⟩, .slice none 0 0], .int .i64 2]) (results_row2 Tryd.results8 _ _ w.heap.size 24 #[.bool false, .string ⟨#[]⟩, .slice none 0 0] (0, 0) _ rfl P3 Tryd.underlying24 rfl size24) rfl ⟨J3, _, _, _, rfl, NAt.zero _ _⟩
    | some n =>
      have hv : parsV l = (n, 0) := by simp [parsV, hbig, hp]
      simp only [hp] at C0
      rw [hv]
      simp only []
      clear hv hp
      go_enter Tryd.func8, Tryd.ntmps8
      go_wp2_with (go_at_call 18; refine C0.mono ?_; rintro e w1 ⟨hB1, rfl, a, b, c, hh1, hN1⟩; obtain ⟨ab, bb, ca, cm, cc, rfl, rfl, rfl⟩ := hN1.form; have d0 : w1.cell? ⟨w.heap.size + 1 + 1, 0, none⟩ = some (.bool ab) := hh1.cell 0 (by simp); have d1 : w1.cell? ⟨w.heap.size + 1 + 1, 1, none⟩ = some (.string bb) := hh1.cell 1 (by simp); have d2 : w1.cell? ⟨w.heap.size + 1 + 1, 2, none⟩ = some (.slice ca cm cc) := hh1.cell 2 (by simp); have K1 : Hid (NAt w1 (fun k => w.heap.size + 3 ≤ k) n (.bool ab) (.string bb) (.slice ca cm cc)) := hN1.keep (Nat.le_refl _) (fun k h _ => by simp at h; omega) (fun k _ _ => rfl); have M2 : Hid (IHolds w1 w.heap.size 24 [.bool false, .string ⟨#[]⟩, .slice none 0 0]) := (by show IHolds _ _ _ _; unfold IHolds; rw [hB1.block w.heap.size (by omega)]; exact Z0.out); have c0 : w1.cell? ⟨w.heap.size, 0, none⟩ = some (.bool false) := M2.out.cell 0 (by simp); have c1 : w1.cell? ⟨w.heap.size, 1, none⟩ = some (.string ⟨#[]⟩) := M2.out.cell 1 (by simp); have c2 : w1.cell? ⟨w.heap.size, 2, none⟩ = some (.slice none 0 0) := M2.out.cell 2 (by simp); have f0 : w1.frozen? ⟨w.heap.size, 0, none⟩ = false := M2.out.frozen 0; have f1 : w1.frozen? ⟨w.heap.size, 1, none⟩ = false := M2.out.frozen 1; have f2 : w1.frozen? ⟨w.heap.size, 2, none⟩ = false := M2.out.frozen 2)
      have P3 := put3 M2.out (.bool ab) (.string bb) (.slice ca cm cc)
      have Q3 := put3_but w1 w.heap.size (.bool ab) (.string bb) (.slice ca cm cc)
      generalize ((w1.setCell ⟨w.heap.size, 0, none⟩ (.bool ab)).setCell ⟨w.heap.size, 1, none⟩ (.string bb)).setCell ⟨w.heap.size, 2, none⟩ (.slice ca cm cc) = w3 at *
      have J3 : Below w.heap.size w w3 := (J0.out.trans (hB1.mono (by omega))).trans (Q3.below (Nat.le_refl _) (by have := M2.out.lt; omega))
      have K3 := K1.out.keep (w' := w3) (G := fun k => w.heap.size ≤ k) Q3.size (fun k h _ => by omega) (fun k h1 h2 => by rw [Q3.block k h2 (by omega)])
      exact bodyPost_ret (v := .tuple #[.agg #[.bool ab, .string bb, .slice ca cm cc], .int .i64 0]) (results_row2 Tryd.results8 _ _ w.heap.size 24 #[.bool ab, .string bb, .slice ca cm cc] (0, 0) _ rfl P3 Tryd.underlying24 rfl size24) rfl ⟨J3, _, _, _, rfl, K3⟩
end Go.Proofs.YtlogilmeefcipaaDoor
