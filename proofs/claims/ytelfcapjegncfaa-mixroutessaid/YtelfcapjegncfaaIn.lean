/- What comes in. -/
import Derived.Test.YtelfcapjegncfaaFrame
import Derived.Test.YtelfcapjegncfaaBa
import Derived.Deep.Strs
import Derived.WideKeyArgs
import Derived.Deep.DeepHandedRow
set_option linter.unusedSimpArgs false
set_option linter.unusedVariables false
set_option maxRecDepth 100000
namespace Go.Proofs.Ytelfcapjegncfaa
open Go.ChangeShapes Go.WideShapes Go.ChangeAt Go.RowKit Go.Deep

theorem cells3 : Try.prog.cellsOf 3 = 1 := by kernel_rfl
theorem cells4 : Try.prog.cellsOf 4 = 1 := by kernel_rfl
theorem cells1 {w : World} {a : Addr} {cs : List Value} (h : w.cells? 0 a 1 = some cs) : ∃ x, cs = [x] ∧ w.cell? (a.add 0) = some x := by
  unfold World.cells? at h
  rw [if_pos (Nat.zero_le _), show List.range 1 = [0] from rfl] at h
  simp only [List.mapM_cons, List.mapM_nil, Option.bind_eq_bind, Option.bind_eq_some_iff, Option.pure_def, Option.some.injEq] at h
  obtain ⟨x, hx, r, rfl, rfl⟩ := h
  exact ⟨x, rfl, hx⟩
theorem add_add (b o i j : Nat) : ((⟨b, o, none⟩ : Addr).add i).add j = ⟨b, o + i + j, none⟩ := by
  unfold Addr.add
  by_cases h1 : i = 0 <;> by_cases h2 : j = 0 <;> simp [h1, h2]

theorem bools_in {H : Type} {enc : TypeId × Value → H} {W : World} {fuel : Nat} {z : Value} {r : DataW H × List MemPlace} (h : DataW.trod enc Try.prog W 0 (fun _ => true) true fuel 22 [z] = some r) :
    ∃ (l : List Bool) (a : Option Addr) (cap : Nat), z = .slice a l.length cap ∧ VL W a (l.map (Value.bool)) := by
  rcases DataW.trod_slice Try.underlying22 h with ⟨hcs, rfl⟩ | ⟨a, len, cap, elems, rest, n', hn', hcs, rfl, _, hlc, hcm, hel, hget, hsp, _⟩
  · simp only [List.cons.injEq, and_true] at hcs
    subst hcs
    exact ⟨[], none, 0, rfl, VL.nil _ _⟩
  · simp only [List.cons.injEq, and_true] at hcs
    subst hcs
    rw [cells4] at hget
    have each : ∀ i, i < len → ∃ s : Bool, W.cell? ((a.add (i * 1)).add 0) = some (Value.bool s) := by
      intro i hi
      have hi' : i < elems.length := by omega
      have hg := hget i hi
      rw [List.getElem?_eq_getElem hi', Option.bind_eq_some_iff] at hg
      obtain ⟨cs, hc1, hc2⟩ := hg
      obtain ⟨u0, rfl, k0⟩ := cells1 hc1
      obtain ⟨s, e1, _⟩ := DataW.trod_bool Try.underlying4 hc2
      simp only [List.cons.injEq, and_true] at e1
      subst e1
      exact ⟨s, k0⟩
    obtain ⟨Q, hQ⟩ := choose_lt each
    refine ⟨(List.range len).map Q, some a, cap, by simp, fun i u hu => ?_⟩
    have hi' : i < len := by
      have := (List.getElem?_eq_some_iff.1 hu).1
      simpa using this
    have h0 := hQ i hi'
    obtain ⟨b, o, sp⟩ := a
    have hsp := World.cell?_spot (hQ 0 (by omega))
    simp [Addr.add] at hsp
    subst hsp
    rw [add_add] at h0
    refine ⟨b, o, rfl, ?_⟩
    simp [hi'] at hu
    subst hu
    simpa using h0

theorem ints_in {H : Type} {enc : TypeId × Value → H} {W : World} {fuel : Nat} {z : Value} {r : DataW H × List MemPlace} (h : DataW.trod enc Try.prog W 0 (fun _ => true) true fuel 29 [z] = some r) :
    ∃ (l : List Int) (a : Option Addr) (cap : Nat), z = .slice a l.length cap ∧ VL W a (l.map (Value.int .i64)) := by
  rcases DataW.trod_slice Try.underlying29 h with ⟨hcs, rfl⟩ | ⟨a, len, cap, elems, rest, n', hn', hcs, rfl, _, hlc, hcm, hel, hget, hsp, _⟩
  · simp only [List.cons.injEq, and_true] at hcs
    subst hcs
    exact ⟨[], none, 0, rfl, VL.nil _ _⟩
  · simp only [List.cons.injEq, and_true] at hcs
    subst hcs
    rw [cells3] at hget
    have each : ∀ i, i < len → ∃ s : Int, W.cell? ((a.add (i * 1)).add 0) = some (Value.int .i64 s) := by
      intro i hi
      have hi' : i < elems.length := by omega
      have hg := hget i hi
      rw [List.getElem?_eq_getElem hi', Option.bind_eq_some_iff] at hg
      obtain ⟨cs, hc1, hc2⟩ := hg
      obtain ⟨u0, rfl, k0⟩ := cells1 hc1
      obtain ⟨s, e1, _, _⟩ := DataW.trod_int Try.underlying3 hc2
      simp only [List.cons.injEq, and_true] at e1
      subst e1
      exact ⟨s, k0⟩
    obtain ⟨Q, hQ⟩ := choose_lt each
    refine ⟨(List.range len).map Q, some a, cap, by simp, fun i u hu => ?_⟩
    have hi' : i < len := by
      have := (List.getElem?_eq_some_iff.1 hu).1
      simpa using this
    have h0 := hQ i hi'
    obtain ⟨b, o, sp⟩ := a
    have hsp := World.cell?_spot (hQ 0 (by omega))
    simp [Addr.add] at hsp
    subst hsp
    rw [add_add] at h0
    refine ⟨b, o, rfl, ?_⟩
    simp [hi'] at hu
    subst hu
    simpa using h0
end Go.Proofs.Ytelfcapjegncfaa
