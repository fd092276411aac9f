/- The blocks of a cover, one by one. -/
import Derived.RangeFuncNested
import Derived.RangeFuncBound
import Derived.RangeFuncCalls
import Derived.RangeFuncLeaves
import Derived.RangeFuncBox
import Derived.RangeFuncFrom
import Derived.Shelf.Abstract
import Derived.Shelf.RegionOpen
import Derived.WalkKit
import Derived.OwnWalkIn
import Derived.TacticsInMore
import Derived.LoopNIn
import Derived.LoopIn
import Derived.Maps.AppendAt
import Derived.ArgAppend
import Derived.Test.YteomefhjglnghaaDoorCv
set_option linter.unusedSimpArgs false
set_option linter.unusedVariables false
namespace Go.Proofs.YteomefhjglnghaaDoor
open Go.RowKit Go.Shelf

attribute [local go_sem] Oper.semAt_some

/-- Each block of spans or of one number lies as it lay. -/
def Two (A B : World) : Prop := ∀ (k : Nat) (cs : Array Value) (t : TypeId), A.heap[k]? = some (Obj.cells cs t) → (t = 37 ∨ t = 3) → B.heap[k]? = A.heap[k]?
theorem Two.trans {A B C : World} (h : Two A B) (k : Two B C) : Two A C := fun i cs t hi hs => (k i cs t ((h i cs t hi hs).trans hi) hs).trans (h i cs t hi hs)
/-- What lay below n₀ lies as it lay, and so does each block of spans or of one number. -/
def KT (n₀ : Nat) (A B : World) : Prop := Below n₀ A B ∧ Two A B
theorem KT.refl (n₀ : Nat) (A : World) : KT n₀ A A := ⟨Below.refl _ _, fun _ _ _ _ _ => rfl⟩
theorem KT.trans {n₀ : Nat} {A B C : World} (h : KT n₀ A B) (k : KT n₀ B C) : KT n₀ A C := ⟨h.1.trans k.1, h.2.trans k.2⟩
/-- How far it is to the end, read off a place. -/
def left (hi : Nat) (v : Value) : Nat := match v with | .int _ x => hi - x.toNat | _ => 0
def encS (p : Nat × Nat) : Array Value := #[.agg #[.int .i64 (p.1 : Int), .int .i64 (p.2 : Int)]]
theorem cov_more : ∀ (k k' lo hi : Nat), hi - lo ≤ k → hi - lo ≤ k' → cov k lo hi = cov k' lo hi
  | 0, k', lo, hi, h, _ => by rw [cov_nil (by omega), cov_nil (by omega)]
  | k + 1, 0, lo, hi, _, h => by rw [cov_nil (by omega), cov_nil (by omega)]
  | k + 1, k' + 1, lo, hi, h1, h2 => by
    by_cases h : lo < hi
    · have := down_pos (hi - lo) lo (by omega) 20
      rw [cov, cov, if_pos h, if_pos h, cov_more k k' _ _ (by omega) (by omega)]
    · rw [cov_nil h, cov_nil h]
theorem cover_step {lo hi : Nat} (h : lo < hi) (hh : hi ≤ 1048576) : cover lo hi = (lo, lo + down 20 (hi - lo) lo) :: cover (lo + down 20 (hi - lo) lo) hi := by
  unfold cover
  have := down_pos (hi - lo) lo (by omega) 20
  rw [show (1048576 : Nat) = 1048575 + 1 from rfl, cov, if_pos h, cov_more 1048575 (1048575 + 1) _ _ (by omega) (by omega)]
theorem cover_none {lo hi : Nat} (h : ¬ lo < hi) : cover lo hi = [] := cov_nil h
set_option maxRecDepth 100000 in
set_option maxHeartbeats 1000000 in
theorem cover1_in {Pp : Nat × Nat → Prop} (n l Bl Bh n₀ lo hi : Nat) (hn : 1 ≤ n) (h1 : lo ≤ hi) (h2 : hi ≤ 1048576) (hP : ∀ p ∈ cover lo hi, Pp p) (J Jx : List {p : Nat × Nat // Pp p} → World → Prop)
    (W : World) (hn₀ : n₀ ≤ W.heap.size) (hJ : AbidesFrom W.heap.size J)
    (hY : ∀ pre x W1, J pre W1 → pre.length < (cover lo hi).length → YieldAt Fence.wide (n - 1) Tryd.prog l (encS x.1) W1 fun e W' =>
      (e = .returned (.bool true) ∧ J (pre ++ [x]) W' ∧ KT n₀ W1 W') ∨ (e = .returned (.bool false) ∧ Jx (pre ++ [x]) W'))
    (hl : W.cell? ⟨Bl, 0, none⟩ = some (.int .i64 (lo : Int))) (hh0 : IHolds W Bh 3 [.int .i64 (hi : Int)]) (h0 : J [] W) :
    CallsIn Fence.wide n Tryd.prog 24 #[.func (.yield l) #[] #[], .pointer (some ⟨Bl, 0, none⟩), .pointer (some ⟨Bh, 0, none⟩)] W fun e W' => (∃ v, e = .returned v) ∧
      ((∃ ys : List {p : Nat × Nat // Pp p}, ys.map Subtype.val = cover lo hi ∧ J ys W') ∨ (∃ pre : List {p : Nat × Nat // Pp p}, pre.map Subtype.val <+: cover lo hi ∧ Jx pre W')) := by
  have h13 : Fence.wide.fn 25 := trivial
  have hh : W.cell? ⟨Bh, 0, none⟩ = some (.int .i64 (hi : Int)) := hh0.cell 0 (by simp)
  refine callsIn_of_wp Tryd.func24 rfl trivial ?_ rfl
  simp only [Tryd.ntmps24, List.size_toArray, List.length_cons, List.length_nil, Nat.reduceAdd, Nat.reduceSub, Array.replicate_succ, Array.replicate_zero, List.push_toArray, List.append_toArray, List.nil_append, List.cons_append]
  gi_wp2
  gi_loopw [4] (fun p wr => ∃ (pre : List {p : Nat × Nat // Pp p}) (q : Nat), p = .int .i64 (q : Int) ∧ q ≤ hi ∧ cover lo hi = pre.map Subtype.val ++ cover q hi ∧ IHolds wr Bh 3 [.int .i64 (hi : Int)] ∧ J pre wr)
    (fun p wr => left hi p)
  case atStart => exact ⟨[], lo, rfl, h1, rfl, hh0, h0⟩
  case round =>
    obtain ⟨pre, q, rfl, hq, hc, hI2, hJs⟩ := hrel
    have hh2 : wr.cell? ⟨Bh, 0, none⟩ = some (.int .i64 (hi : Int)) := hI2.cell 0 (by simp)
    have HI2 : Hid (IHolds wr Bh 3 [.int .i64 (hi : Int)]) := hI2
    clear hI2
    by_cases hlt : q < hi
    · have hlt' : (q : Int) < (hi : Int) := by omega
      obtain ⟨g, hg⟩ : ∃ g, down 20 (hi - q) q = g := ⟨_, rfl⟩
      have hgp := down_pos (hi - q) q (by omega) 20
      rw [hg] at hgp
      obtain ⟨M, hM⟩ : ∃ M, M = q + g := ⟨_, rfl⟩
      have kM : (q : Int) + (g : Int) = (M : Int) := by omega
      have HC : Hid (cover q hi = (q, M) :: cover M hi) := by rw [hM, ← hg]; exact cover_step hlt h2
      have HG : Hid (∀ V, CallsIn Fence.wide (n - 1) Tryd.prog 25 #[.int .i64 (q : Int), .int .i64 (hi : Int)] V fun e w' => e = .returned (.int .i64 (g : Int)) ∧ w' = V) := fun V => callsIn_wide.2 (greatest27 V q hi hlt h2 g hg)
      have hJ1 : J pre (wr.alloc (.cells #[.int .i64 (q : Int), .int .i64 (M : Int)] 37)) := hJ pre wr _ none hJs (World.grownBy_alloc _ _ _) (fun r e => by cases e)
      have hlen : pre.length < (cover lo hi).length := by rw [hc, HC.out]; simp
      obtain ⟨xx, hxx⟩ : ∃ xx : {p : Nat × Nat // Pp p}, xx.1 = (q, M) := ⟨⟨(q, M), hP _ (by rw [hc, HC.out]; simp)⟩, rfl⟩
      obtain ⟨fn, tmps, assign, body, hy, hR⟩ := hY pre xx _ hJ1 hlen
      rw [hxx] at hy
      have HXX : Hid (xx.1 = (q, M)) := hxx
      clear hxx
      dsimp only [encS] at hy
      have hMh : M ≤ hi := by omega
      have hqM : q < M := by omega
      have HCC : Hid (cover lo hi = pre.map Subtype.val ++ cover q hi) := hc
      have HJ1 : Hid (J pre (wr.alloc (.cells #[.int .i64 (q : Int), .int .i64 (M : Int)] 37))) := hJ1
      have HY : Hid _ := hY
      have HJ : Hid (AbidesFrom W.heap.size J) := hJ
      clear hg hgp hM hc hJ1 hY hJ hlen hJs hlt
      gi_wp2_with (gi_at_call 25; refine (HG.out _).mono ?_; rintro e w' ⟨rfl, rfl⟩)
      refine hR.mono ?_
      rintro e W3 (⟨rfl, hJ3, hk3⟩ | ⟨rfl, hJx3⟩)
      · have I0 : IHolds (w'.alloc (.cells #[.int .i64 (q : Int), .int .i64 (M : Int)] 37)) w'.heap.size 37 [.int .i64 (q : Int), .int .i64 (M : Int)] := IHolds.new w' 37 [.int .i64 (q : Int), .int .i64 (M : Int)]
        have I3 : IHolds W3 w'.heap.size 37 [.int .i64 (q : Int), .int .i64 (M : Int)] := (hk3.2 _ _ _ I0 (Or.inl rfl)).trans I0
        have c1 : W3.cell? ⟨w'.heap.size, 1, none⟩ = some (.int .i64 (M : Int)) := I3.cell 1 (by simp)
        have hh3 : IHolds W3 Bh 3 [.int .i64 (hi : Int)] := (hk3.2 _ _ _ (HI2.out.alloc _) (Or.inr rfl)).trans (HI2.out.alloc _)
        have HI3 : Hid (IHolds W3 Bh 3 [.int .i64 (hi : Int)]) := hh3
        clear hh3
        have HJ3 : Hid (J (pre ++ [xx]) W3) := hJ3
        clear I0 I3 hk3 hh2 hy hR hJ3
        gi_wp2
        go_roundw
        case rel => exact ⟨pre ++ [xx], M, rfl, hMh, by rw [HCC.out, HC.out, List.map_append, List.map_cons, List.map_nil, HXX.out]; simp, HI3.out, HJ3.out⟩
        case measure => simp [left]; omega
      · have HJ3 : Hid (Jx (pre ++ [xx]) W3) := hJx3
        clear hJx3
        gi_wp2
        refine bodyPost_ret (results_none rfl _ _ _) rfl ?_
        exact ⟨⟨_, rfl⟩, .inr ⟨pre ++ [xx], ⟨cover M hi, by rw [HCC.out, HC.out, List.map_append, List.map_cons, List.map_nil, HXX.out]; simp⟩, HJ3.out⟩⟩
    · have hlt' : ¬ (q : Int) < (hi : Int) := by omega
      rw [cover_none hlt, List.append_nil] at hc
      have HJP : Hid (J pre wr) := hJs
      clear hJs
      gi_wp2
      go_end0
      first | exact ⟨⟨_, rfl⟩, .inl ⟨pre, hc.symm, HJP.out⟩⟩ | exact ⟨⟨_, rfl⟩, .inl ⟨pre, rfl, HJP.out⟩⟩
theorem KT_b {n₀ : Nat} {w : World} (h : n₀ ≤ w.heap.size) (W : World) (l : Nat) (o o' : Obj) (hl : w.heap.size ≤ l) (ho : W.heap[l]? = some o) (h1 : o.isCells = false) (h2 : o.isWalk = false) : KT n₀ W (W.putObj l o') :=
  ⟨belowK_b h W l o o' hl ho h1 h2, fun k cs t hk hs => by
    have hne : k ≠ l := fun e => by
      subst e
      rw [hk] at ho
      cases ho
      cases h1
    unfold World.putObj
    simp [Array.getElem?_setIfInBounds, Ne.symm hne]⟩
/-- cover HANDS BACK A VALUE THAT TELLS THE BLOCKS. -/
theorem cover_stops {Pp : Nat × Nat → Prop} (n Bl Bh n₀ lo hi : Nat) (hn : 1 ≤ n) (h1 : lo ≤ hi) (h2 : hi ≤ 1048576) (hP : ∀ p ∈ cover lo hi, Pp p) (w : World) (hn₀ : n₀ ≤ w.heap.size) (hl : w.cell? ⟨Bl, 0, none⟩ = some (.int .i64 (lo : Int))) (hh : IHolds w Bh 3 [.int .i64 (hi : Int)]) :
    SeqStopsK Fence.wide n Tryd.prog 24 #[.pointer (some ⟨Bl, 0, none⟩), .pointer (some ⟨Bh, 0, none⟩)] (fun x : {p : Nat × Nat // Pp p} => encS x.1) (KT n₀) (fun ys => ys.map Subtype.val = cover lo hi) (fun pre => pre.map Subtype.val <+: cover lo hi) (cover lo hi).length w := fun l J Jx W hW hJ _ hY h0 =>
  cover1_in n l Bl Bh n₀ lo hi hn h1 h2 hP J Jx W (Nat.le_trans hn₀ hW.size) hJ hY (cell_keep hl hW) (hh.of_below hW) h0
set_option maxHeartbeats 1000000 in
theorem cover13 (w : World) (lo hi : Int) : Calls Tryd.prog 10 #[.int .i64 lo, .int .i64 hi] w fun e w' => e = .returned (.func (.func 24) #[] #[.pointer (some ⟨w.heap.size, 0, none⟩), .pointer (some ⟨w.heap.size + 1, 0, none⟩)]) ∧ w' = (w.alloc (.cells #[.int .i64 lo] 3)).alloc (.cells #[.int .i64 hi] 3) := by
  have hmf : ∀ (fn : Fn) (first cap : Array Value) (w : World), (Instr.makeFunc fn first cap).run Tryd.prog w = .ok (.func fn first cap) w := fun _ _ _ _ => rfl
  go_enter Tryd.func10, Tryd.ntmps10
  go_wp2_with fail
  go_ret
  exact ⟨rfl, rfl⟩
end Go.Proofs.YteomefhjglnghaaDoor
