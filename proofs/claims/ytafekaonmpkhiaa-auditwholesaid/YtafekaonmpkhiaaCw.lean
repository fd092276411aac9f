/- slices.Values$1. -/
import Derived.Test.YtafekaonmpkhiaaCv
set_option linter.unusedSimpArgs false
set_option linter.unusedVariables false
set_option maxRecDepth 100000
namespace Go.Proofs.Ytafekaonmpkhiaa
open Go.RowKit Go.Shelf Go.PlainAid

attribute [local go_sem] Oper.semAt_some

def nth (ns : List ByteArray) (k : Nat) : ByteArray := ns.getD k ⟨#[]⟩
theorem nth_at {ns : List ByteArray} {k : Nat} (h : k < ns.length) : nth ns k = ns[k] := by simp [nth, h]
def intC (v : Value) : Nat := match v with | .int _ x => x.toNat | _ => 0
theorem BL.at {V : World} {v : Value} {l : List Hd} {ns : List ByteArray} (h : BL V v l ns) : ∃ a c, v = .slice a ns.length c ∧ ∀ k, k < ns.length → ∃ b o, a = some ⟨b, o, none⟩ ∧ V.cell? ⟨b, o + k * 4, none⟩ = some (.string (nth ns k)) ∧
    V.cell? ⟨b, o + k * 4 + 1, none⟩ = some (.int .i64 (bx l (nth ns k)).count) ∧ V.cell? ⟨b, o + k * 4 + 2, none⟩ = some (.string (bx l (nth ns k)).holder) ∧ V.cell? ⟨b, o + k * 4 + 3, none⟩ = some (.string (bx l (nth ns k)).sl) := by
  obtain ⟨a, c, e, q⟩ := h
  refine ⟨a, c, e, fun k hk => ?_⟩
  obtain ⟨b, o, e0, q0⟩ := q k hk 0 (by omega)
  obtain ⟨b1, o1, e1, q1⟩ := q k hk 1 (by omega)
  obtain ⟨b2, o2, e2, q2⟩ := q k hk 2 (by omega)
  obtain ⟨b3, o3, e3, q3⟩ := q k hk 3 (by omega)
  subst e0
  cases e1; cases e2; cases e3
  rw [nth_at hk]
  exact ⟨b, o, rfl, q0, q1, q2, q3⟩
/-- What the k-th round is handed. -/
def encV (l : List Hd) (ns : List ByteArray) (k : Nat) : Array Value := #[.agg (encB l (nth ns k)).toArray]
set_option maxHeartbeats 2000000 in
theorem values42_yield (l : List Hd) (ns : List ByteArray) (hL : ns.length ≤ 256) (Bs : Nat) (v : Value) {I : Nat → World → Prop} (hI : ∀ k V, I k V → V.cell? ⟨Bs, 0, none⟩ = some v ∧ BL V v l ns)
    (l' : Nat) (J : Nat → World → Prop) (W : World) (hJ : ∀ k V, J k V → I k V) (hA : ∀ k V o, J k V → J k (V.alloc o)) (hY : ∀ k V, k < ns.length → J k V → YieldAt Fence.wide (3 - 1 - 1) Try.prog l' (encV l ns k) V fun e V' => e = .returned (.bool true) ∧ J (k + 1) V') (h0 : J 0 W) :
    CallsIn Fence.wide (3 - 1) Try.prog 42 (#[.func (.yield l') #[] #[]] ++ #[.pointer (some ⟨Bs, 0, none⟩)]) W fun e V => (∃ v, e = .returned v) ∧ J ns.length V := by
  obtain ⟨a, c, rfl, -⟩ := (hI _ _ (hJ _ _ h0)).2.at
  have g0 := (hI _ _ (hJ _ _ h0)).1
  have HJ : Hid (∀ k V, J k V → V.cell? ⟨Bs, 0, none⟩ = some (.slice a ns.length c) ∧ BL V (.slice a ns.length c) l ns) := fun k V h => hI _ _ (hJ _ _ h)
  have HY : Hid (∀ k V, k < ns.length → J k V → YieldAt Fence.wide (3 - 1 - 1) Try.prog l' (encV l ns k) V fun e V' => e = .returned (.bool true) ∧ J (k + 1) V') := hY
  have H0 : Hid (J 0 W) := h0
  have HA : Hid (∀ k V o, J k V → J k (V.alloc o)) := hA
  clear hI hJ hY h0 hA
  refine callsIn_of_wp Try.func42 rfl trivial ?_ rfl
  simp only [Try.ntmps42, List.size_toArray, List.length_cons, List.length_nil, Nat.reduceAdd, Nat.reduceSub, Array.replicate_succ, Array.replicate_zero, List.push_toArray, List.append_toArray, List.nil_append, List.cons_append]
  gi_wp2
  gi_loopw [7] (fun v7 wr => ∃ k : Nat, k ≤ ns.length ∧ v7 = .int .i64 (k : Int) ∧ J k wr) (fun v7 _ => ns.length - intC v7)
  case atStart => exact ⟨0, by omega, by simp, H0.out⟩
  case round =>
    obtain ⟨k, hk, rfl, hJs⟩ := hrel
    clear g0 H0
    have HJs : Hid (J k wr) := hJs
    by_cases hlt : k < ns.length
    · have il : (k : Int) < (ns.length : Int) := by omega
      obtain ⟨-, q2⟩ := HJ.out k wr hJs
      obtain ⟨a', c', e, q3⟩ := q2.at
      cases e
      obtain ⟨b, o, rfl, q4, q5, q6, q7⟩ := q3 k hlt
      clear q2 q3 hJs
      have hY := HY.out k (wr.alloc (.cells #[.string (nth ns k), .int .i64 (bx l (nth ns k)).count, .string (bx l (nth ns k)).holder, .string (bx l (nth ns k)).sl] 38)) hlt (HA.out _ _ _ HJs.out)
      obtain ⟨fn, tmps, assign, body, hy, hR⟩ := hY
      dsimp only [encV, encB] at hy
      generalize (bx l (nth ns k)).count = y1 at *
      generalize (bx l (nth ns k)).holder = y2 at *
      generalize (bx l (nth ns k)).sl = y3 at *
      generalize nth ns k = x at *
      gi_wp2
      refine hR.mono ?_
      rintro e W3 ⟨rfl, hJ3⟩
      have H3 : Hid (J (k + 1) W3) := hJ3
      clear hJ3 hR hy q4 q5 q6 q7
      gi_wp2
      go_roundw
      case rel => exact ⟨k + 1, by omega, by simp, H3.out⟩
      case measure => simp [intC]; omega
    · obtain rfl : k = ns.length := by omega
      gi_wp2
      go_end0
      exact ⟨⟨_, rfl⟩, HJs.out⟩
set_option maxHeartbeats 2000000 in
theorem values42_fn (l : List Hd) (ns : List ByteArray) (hL : ns.length ≤ 256) (Bs : Nat) (v : Value) (c1 c2 c3 c4 : Value) (J : Nat → Bool → World → Prop)
    (hJ : ∀ k b V, J k b V → V.cell? ⟨Bs, 0, none⟩ = some v ∧ BL V v l ns) (hA : ∀ k b V o, J k b V → J k b (V.alloc o)) (W : World)
    (hY : ∀ k V, k < ns.length → J k true V → Calls Try.prog 21 #[.agg (encB l (nth ns k)).toArray, c1, c2, c3, c4] V fun e V' => ∃ b, e = .returned (.bool b) ∧ J (k + 1) b V') (h0 : J 0 true W) :
    Calls Try.prog 42 #[.func (.func 21) #[] #[c1, c2, c3, c4], .pointer (some ⟨Bs, 0, none⟩)] W fun e V => (∃ v, e = .returned v) ∧ ∃ k b, J k b V := by
  obtain ⟨a, c, rfl, -⟩ := (hJ _ _ _ h0).2.at
  have g0 := (hJ _ _ _ h0).1
  have HJ : Hid (∀ k b V, J k b V → V.cell? ⟨Bs, 0, none⟩ = some (.slice a ns.length c) ∧ BL V (.slice a ns.length c) l ns) := hJ
  have HY : Hid (∀ k V, k < ns.length → J k true V → Calls Try.prog 21 #[.agg (encB l (nth ns k)).toArray, c1, c2, c3, c4] V fun e V' => ∃ b, e = .returned (.bool b) ∧ J (k + 1) b V') := hY
  have H0 : Hid (J 0 true W) := h0
  have HA : Hid (∀ k b V o, J k b V → J k b (V.alloc o)) := hA
  clear hJ hY h0 hA
  go_enter Try.func42, Try.ntmps42
  go_wp2_with fail
  go_loopw [7] (fun v7 wr => ∃ k : Nat, k ≤ ns.length ∧ v7 = .int .i64 (k : Int) ∧ J k true wr) (fun v7 _ => ns.length - intC v7)
  case atStart => exact ⟨0, by omega, by simp, H0.out⟩
  case round =>
    obtain ⟨k, hk, rfl, hJs⟩ := hrel
    clear g0 H0
    have HJs : Hid (J k true wr) := hJs
    by_cases hlt : k < ns.length
    · have il : (k : Int) < (ns.length : Int) := by omega
      obtain ⟨-, q2⟩ := HJ.out k _ wr hJs
      obtain ⟨a', c', e, q3⟩ := q2.at
      cases e
      obtain ⟨b, o, rfl, q4, q5, q6, q7⟩ := q3 k hlt
      clear q2 q3 hJs
      have hY := HY.out k (wr.alloc (.cells #[.string (nth ns k), .int .i64 (bx l (nth ns k)).count, .string (bx l (nth ns k)).holder, .string (bx l (nth ns k)).sl] 38)) hlt (HA.out _ _ _ _ HJs.out)
      dsimp only [encB] at hY
      generalize (bx l (nth ns k)).count = y1 at *
      generalize (bx l (nth ns k)).holder = y2 at *
      generalize (bx l (nth ns k)).sl = y3 at *
      generalize nth ns k = x at *
      go_wp2_with (go_at_call 21; refine hY.mono ?_)
      rintro e W3 ⟨bb, rfl, hJ3⟩
      have H3 : Hid (J (k + 1) bb W3) := hJ3
      clear hJ3 hY q4 q5 q6 q7
      cases bb with
      | true =>
        go_wp2_with fail
        go_roundw
        case rel => exact ⟨k + 1, by omega, by simp, H3.out⟩
        case measure => simp [intC]; omega
      | false =>
        go_wp2_with fail
        refine bodyPost_ret (results_none rfl _ _ _) rfl ?_
        exact ⟨⟨_, rfl⟩, _, _, H3.out⟩
    · obtain rfl : k = ns.length := by omega
      go_wp2_with fail
      go_end0
      exact ⟨⟨_, rfl⟩, _, _, HJs.out⟩
end Go.Proofs.Ytafekaonmpkhiaa
