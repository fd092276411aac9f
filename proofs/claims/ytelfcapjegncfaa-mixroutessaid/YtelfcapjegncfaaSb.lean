/- slices.Backward. -/
import Derived.Test.YtelfcapjegncfaaSa
import Derived.Test.YtelfcapjegncfaaQa
set_option linter.unusedSimpArgs false
set_option linter.unusedVariables false
set_option maxRecDepth 100000
namespace Go.Proofs.Ytelfcapjegncfaa
open Go.RowKit Go.Shelf Go.PlainAid

attribute [local go_sem] Oper.semAt_some

theorem backward29 (w : World) (a : Option Addr) (n c : Nat) : Calls Try.prog 29 #[.slice a n c] w fun e w' => e = .returned (.func (.func 32) #[] #[.pointer (some ⟨w.heap.size, 0, none⟩)]) ∧ w' = w.alloc (.cells #[.slice a n c] 29) := by
  have hmf : ∀ (fn : Fn) (first cap : Array Value) (w : World), (Instr.makeFunc fn first cap).run Try.prog w = .ok (.func fn first cap) w := fun _ _ _ _ => rfl
  go_enter Try.func29, Try.ntmps29
  go_wp2_with fail
  go_ret
  exact ⟨rfl, rfl⟩
/-- What the k-th round is handed. -/
def encB (L : List Nat) (k : Nat) : Array Value := #[.int .i64 ((L.length - 1 - k : Nat) : Int), .int .i64 (oo L (L.length - 1 - k) : Int)]
def leftB (v : Value) : Nat := match v with | .int _ x => (x + 1).toNat | _ => 0
set_option maxHeartbeats 1000000 in
theorem backward32 (L : List Nat) (hL : L.length ≤ 256) (Bs : Nat) (a : Option Addr) (c : Nat) {I : Nat → World → Prop} (hI : ∀ k V, I k V → V.cell? ⟨Bs, 0, none⟩ = some (.slice a L.length c) ∧ VL V a (ivs L))
    (l : Nat) (J : Nat → World → Prop) (W : World) (hJ : ∀ k V, J k V → I k V) (hY : ∀ k V, k < L.length → J k V → YieldAt Fence.wide (3 - 1 - 1) Try.prog l (encB L k) V fun e V' => e = .returned (.bool true) ∧ J (k + 1) V') (h0 : J 0 W) :
    CallsIn Fence.wide (3 - 1) Try.prog 32 (#[.func (.yield l) #[] #[]] ++ #[.pointer (some ⟨Bs, 0, none⟩)]) W fun e V => (∃ v, e = .returned v) ∧ J L.length V := by
  have g0 := (hI _ _ (hJ _ _ h0)).1
  have HJ : Hid (∀ k V, J k V → V.cell? ⟨Bs, 0, none⟩ = some (.slice a L.length c) ∧ VL V a (ivs L)) := fun k V h => hI _ _ (hJ _ _ h)
  have HY : Hid (∀ k V, k < L.length → J k V → YieldAt Fence.wide (3 - 1 - 1) Try.prog l (encB L k) V fun e V' => e = .returned (.bool true) ∧ J (k + 1) V') := hY
  have H0 : Hid (J 0 W) := h0
  clear hI hJ hY h0
  refine callsIn_of_wp Try.func32 rfl trivial ?_ rfl
  simp only [Try.ntmps32, List.size_toArray, List.length_cons, List.length_nil, Nat.reduceAdd, Nat.reduceSub, Array.replicate_succ, Array.replicate_zero, List.push_toArray, List.append_toArray, List.nil_append, List.cons_append]
  gi_wp2
  gi_loopw [3] (fun v3 wr => ∃ k : Nat, k ≤ L.length ∧ v3 = .int .i64 ((L.length : Int) - 1 - (k : Int)) ∧ J k wr) (fun v3 _ => leftB v3)
  case atStart => exact ⟨0, by omega, by simp, H0.out⟩
  case round =>
    obtain ⟨k, hk, rfl, hJs⟩ := hrel
    clear g0 H0
    by_cases hlt : k < L.length
    · obtain ⟨i, hi⟩ : ∃ i, i = L.length - 1 - k := ⟨_, rfl⟩
      have e1 : (L.length : Int) - 1 - (k : Int) = (i : Int) := by omega
      have hiL : i < L.length := by omega
      have il : (i : Int) < (L.length : Int) := by omega
      have i0 : (0 : Int) ≤ (i : Int) := by omega
      obtain ⟨q1, q2⟩ := HJ.out k wr hJs
      obtain ⟨b, o, rfl, q3⟩ := q2.int i hiL
      clear q2
      have g1 : oo L i = L[i] := getD_at hiL
      rw [← g1] at q3
      obtain ⟨fn, tmps, assign, body, hy, hR⟩ := HY.out k wr hlt hJs
      dsimp only [encB] at hy
      rw [← hi] at hy
      rw [e1]
      have HE : Hid ((L.length : Int) - 1 - (k : Int) = (i : Int)) := e1
      clear e1 g1 hi
      generalize oo L i = x at *
      gi_wp2
      refine hR.mono ?_
      rintro e W3 ⟨rfl, hJ3⟩
      have H3 : Hid (J (k + 1) W3) := hJ3
      clear hJ3 hR hy q1 q3
      gi_wp2
      go_roundw
      case rel => exact ⟨k + 1, by omega, by have := HE.out; congr 1; omega, H3.out⟩
      case measure => simp [leftB]
    · obtain rfl : k = L.length := by omega
      have e1 : (L.length : Int) - 1 - (L.length : Int) = -1 := by omega
      rw [e1]
      clear e1
      gi_wp2
      go_end0
      exact ⟨⟨_, rfl⟩, hJs⟩
end Go.Proofs.Ytelfcapjegncfaa
