/- Sets of claims where nothing is wrong. -/
import Derived.Test.YtfbceknafmkipaaGreatCa
set_option linter.unusedSimpArgs false
set_option linter.unusedVariables false
set_option maxRecDepth 100000
namespace Go.Proofs.YtfbceknafmkipaaGreat
open Go.RowKit Go.Deep Go.PlainAid

/-- Claims with which nothing is wrong. -/
structure OkC (p : ByteArray → Bool) (l : List Cl) : Prop where
  pos : 0 < l.length
  most : l.length ≤ 64
  few : ∀ i (h : i < l.length), (l[i]).1.length ≤ 8 ∧ 0 < (l[i]).1.length ∧ (l[i]).2.length = (l[i]).1.length
  el : ∀ i (h : i < l.length), (l[i]).1.all p = true ∧ (l[i]).2.all p = true
set_option maxHeartbeats 2000000 in
theorem set83 {w : World} {a : Option Addr} {l : List Cl} {c : Nat} {z : Int} {p : ByteArray → Bool} (ok : OkC p l) (hs : CM w a l)
    (CN : ∀ s W, Calls Tryz.prog 113 #[.agg #[.int .i64 z], .string s] W fun e w' => e = .returned (.bool (!p s)) ∧ Below W.heap.size W w') :
    Calls Tryz.prog 31 #[.agg #[.int .i64 z], .slice a l.length c] w fun e w' => e = .returned (.tuple #[.agg #[.int .i64 z, .slice a l.length c], .int .i64 0]) ∧ Below w.heap.size w w' := by
  have hn := ok.most
  have hmf : ∀ (fn : Fn) (first cap : Array Value) (w : World), (Instr.makeFunc fn first cap).run Tryz.prog w = .ok (.func fn first cap) w := fun _ _ _ _ => rfl
  have H1 : Hid (∀ W, Below w.heap.size w W → Calls Tryz.prog 61 #[.slice a l.length c, .func (.func 62) #[] #[]] W fun e w' => e = .returned (.bool false) ∧ Below W.heap.size W w') := fun W hB => contains111_112 (by omega) (hs.of_below hB) (fun i hi a1 c1 a2 c2 V hV h1 h2 => tooLong112 (ok.few i hi).1 (by have := (ok.few i hi); omega))
  have H2 : Hid (∀ W, Below w.heap.size w W → Calls Tryz.prog 61 #[.slice a l.length c, .func (.func 63) #[] #[]] W fun e w' => e = .returned (.bool false) ∧ Below W.heap.size W w') := fun W hB => contains111_113 (by omega) (hs.of_below hB) (fun i hi a1 c1 a2 c2 V hV h1 h2 => by rw [(ok.few i hi).2.2]; exact uneven113 (ok.few i hi).2.1)
  have H3 : Hid (∀ W, Below w.heap.size w W → Calls Tryz.prog 61 #[.slice a l.length c, .func (.func 64) #[.agg #[.int .i64 z]] #[]] W fun e w' => e = .returned (.bool false) ∧ Below W.heap.size W w') := fun W hB => contains111_114 (by omega) (hs.of_below hB) (fun i hi a1 c1 a2 c2 V hV h1 h2 => strange114
    (fun X hX => by have q := elems127 (w := X) (c := c1) p (by have := (ok.few i hi).1; omega) (h1.of_below hX) CN; rw [(ok.el i hi).1] at q; exact q)
    (fun X hX => by have q := elems127 (w := X) (c := c2) p (by have := ok.few i hi; omega) (h2.of_below hX) CN; rw [(ok.el i hi).2] at q; exact q))
  have g1 : ¬ (64 : Int) < (l.length : Int) := by omega
  have g2 : ((l.length : Int) == 0) = false := beq_eq_false_iff_ne.2 (by have := ok.pos; omega)
  clear CN hs ok hn
  generalize l.length = n at *
  generalize hW : (w.alloc (.cells #[.int .i64 z] 39)).alloc (.cells #[.int .i64 0, .slice none 0 0] 41) = U
  have B : Hid (Below w.heap.size w U) := by rw [← hW]; exact ((Below.refl _ w).alloc (Nat.le_refl _) _).alloc (by simp) _
  have I0 : Hid (IHolds U w.heap.size 39 [.int .i64 z]) := by rw [← hW]; exact (IHolds.new w 39 [.int .i64 z]).alloc _
  have I1 : Hid (IHolds U (w.heap.size + 1) 41 [.int .i64 0, .slice none 0 0]) := by rw [← hW]; exact IHolds.new' _ 41 [_, _] (by simp)
  go_enter Tryz.func31, Tryz.ntmps31
  go_wp2_with (go_at_call 61; first
    | (refine (H1.out _ B.out).mono ?_; rintro e w1 ⟨rfl, hB1⟩; have B1 : Hid (Below w.heap.size w w1) := B.out.trans (hB1.mono B.out.size); have J0 : Hid (IHolds w1 w.heap.size 39 [.int .i64 z]) := I0.out.of_below hB1; have J1 : Hid (IHolds w1 (w.heap.size + 1) 41 [.int .i64 0, .slice none 0 0]) := I1.out.of_below hB1; clear hB1 H1)
    | (refine (H2.out _ B1.out).mono ?_; rintro e w2 ⟨rfl, hB2⟩; have B2 : Hid (Below w.heap.size w w2) := B1.out.trans (hB2.mono B1.out.size); have K0 : Hid (IHolds w2 w.heap.size 39 [.int .i64 z]) := J0.out.of_below hB2; have K1 : Hid (IHolds w2 (w.heap.size + 1) 41 [.int .i64 0, .slice none 0 0]) := J1.out.of_below hB2; have q0 : w2.cell? ⟨w.heap.size, 0, none⟩ = some (.int .i64 z) := K0.out.cell 0 (by simp); clear hB2 H2)
    | (refine (H3.out _ B2.out).mono ?_; rintro e w3 ⟨rfl, hB3⟩; have B3 : Hid (Below w.heap.size w w3) := B2.out.trans (hB3.mono B2.out.size); have L0 : Hid (IHolds w3 w.heap.size 39 [.int .i64 z]) := K0.out.of_below hB3; have L1 : Hid (IHolds w3 (w.heap.size + 1) 41 [.int .i64 0, .slice none 0 0]) := K1.out.of_below hB3; have r0 : w3.cell? ⟨w.heap.size, 0, none⟩ = some (.int .i64 z) := L0.out.cell 0 (by simp); have r1 : w3.cell? ⟨w.heap.size + 1, 0, none⟩ = some (.int .i64 0) := L1.out.cell 0 (by simp); have r2 : w3.cell? ⟨w.heap.size + 1, 1, none⟩ = some (.slice none 0 0) := L1.out.cell 1 (by simp); have f := L1.out.frozen; clear hB3 H3))
  have I9 : Hid (IHolds ((w3.setCell ⟨w.heap.size + 1, 0, none⟩ (.int .i64 z)).setCell ⟨w.heap.size + 1, 1, none⟩ (.slice a n c)) (w.heap.size + 1) 41 [.int .i64 z, .slice a n c]) := (L1.out.set 0 (.int .i64 z)).set 1 (.slice a n c)
  have B9 : Hid (Below w.heap.size w ((w3.setCell ⟨w.heap.size + 1, 0, none⟩ (.int .i64 z)).setCell ⟨w.heap.size + 1, 1, none⟩ (.slice a n c))) := (B3.out.setCell (by simp) _).setCell (by simp) _
  generalize (w3.setCell ⟨w.heap.size + 1, 0, none⟩ (.int .i64 z)).setCell ⟨w.heap.size + 1, 1, none⟩ (.slice a n c) = w9 at *
  have E0 : w9.cell? ⟨w.heap.size + 1, 0, none⟩ = some (.int .i64 z) := I9.out.cell 0 (by simp)
  have E1 : w9.cell? ⟨w.heap.size + 1, 1, none⟩ = some (.slice a n c) := I9.out.cell 1 (by simp)
  exact bodyPost_ret (v := .tuple #[.agg #[.int .i64 z, .slice a n c], .int .i64 0]) (by simp [results, Tryz.results31, go_sem, E0, E1]) rfl ⟨rfl, B9.out⟩
set_option maxHeartbeats 2000000 in
theorem setOf42 {w : World} {a : Option Addr} {n c : Nat} {z : Int} (CG : ∀ W, Calls Tryz.prog 30 #[.int .i64 z] W fun e w' => e = .returned (.tuple #[.agg #[.int .i64 z], .int .i64 0]) ∧ Below W.heap.size W w')
    (CS : ∀ W, Below w.heap.size w W → Calls Tryz.prog 31 #[.agg #[.int .i64 z], .slice a n c] W fun e w' => e = .returned (.tuple #[.agg #[.int .i64 z, .slice a n c], .int .i64 0]) ∧ Below W.heap.size W w') :
    Calls Tryz.prog 14 #[.int .i64 z, .slice a n c] w fun e w' => e = .returned (.tuple #[.agg #[.int .i64 z, .slice a n c], .int .i64 0]) ∧ Below w.heap.size w w' := by
  have HG : Hid _ := CG
  have HC : Hid _ := CS
  clear CG CS
  generalize hW : w.alloc (.cells #[.int .i64 0, .slice none 0 0] 41) = U
  have B : Hid (Below w.heap.size w U) := by rw [← hW]; exact (Below.refl _ w).alloc (Nat.le_refl _) _
  have I0 : Hid (IHolds U w.heap.size 41 [.int .i64 0, .slice none 0 0]) := by rw [← hW]; exact IHolds.new w 41 [.int .i64 0, .slice none 0 0]
  go_enter Tryz.func14, Tryz.ntmps14
  go_wp2_with (first
    | (go_at_call 30; refine (HG.out _).mono ?_; rintro e w1 ⟨rfl, hB1⟩; have B1 : Hid (Below w.heap.size w (w1.alloc (.cells #[.int .i64 z] 39))) := (B.out.trans (hB1.mono B.out.size)).alloc (B.out.trans (hB1.mono B.out.size)).size _; have J0 : Hid (IHolds (w1.alloc (.cells #[.int .i64 z] 39)) w.heap.size 41 [.int .i64 0, .slice none 0 0]) := (I0.out.of_below hB1).alloc _; clear hB1 HG)
    | (go_at_call 31; refine (HC.out _ B1.out).mono ?_; rintro e w2 ⟨rfl, hB2⟩; have B2 : Hid (Below w.heap.size w w2) := B1.out.trans (hB2.mono B1.out.size); have K0 : Hid (IHolds w2 w.heap.size 41 [.int .i64 0, .slice none 0 0]) := J0.out.of_below hB2; have q0 : w2.cell? ⟨w.heap.size, 0, none⟩ = some (.int .i64 0) := K0.out.cell 0 (by simp); have q1 : w2.cell? ⟨w.heap.size, 1, none⟩ = some (.slice none 0 0) := K0.out.cell 1 (by simp); have f := K0.out.frozen; clear hB2 HC))
  have I9 : Hid (IHolds ((w2.setCell ⟨w.heap.size, 0, none⟩ (.int .i64 z)).setCell ⟨w.heap.size, 1, none⟩ (.slice a n c)) w.heap.size 41 [.int .i64 z, .slice a n c]) := (K0.out.set 0 (.int .i64 z)).set 1 (.slice a n c)
  have B9 : Hid (Below w.heap.size w ((w2.setCell ⟨w.heap.size, 0, none⟩ (.int .i64 z)).setCell ⟨w.heap.size, 1, none⟩ (.slice a n c))) := (B2.out.setCell (Nat.le_refl _) _).setCell (Nat.le_refl _) _
  generalize (w2.setCell ⟨w.heap.size, 0, none⟩ (.int .i64 z)).setCell ⟨w.heap.size, 1, none⟩ (.slice a n c) = w9 at *
  have E0 : w9.cell? ⟨w.heap.size, 0, none⟩ = some (.int .i64 z) := I9.out.cell 0 (by simp)
  have E1 : w9.cell? ⟨w.heap.size, 1, none⟩ = some (.slice a n c) := I9.out.cell 1 (by simp)
  exact bodyPost_ret (v := .tuple #[.agg #[.int .i64 z, .slice a n c], .int .i64 0]) (by simp [results, Tryz.results14, go_sem, E0, E1]) rfl ⟨rfl, B9.out⟩
theorem wrong43 {w : World} {a b : Option Addr} {n c d : Nat} {z : Int} {t : Bool} (CS : ∀ W, Below w.heap.size w W → Calls Tryz.prog 41 #[.agg #[.int .i64 z], .slice b n d] W fun e w' => e = .returned (.bool t) ∧ Below W.heap.size W w') :
    Calls Tryz.prog 20 #[.agg #[.int .i64 z, .slice a n c], .slice b n d] w fun e w' => e = .returned (.int .i64 (if t then 0 else 6)) ∧ Below w.heap.size w w' := by
  have HC : Hid _ := CS
  clear CS
  have B : Hid (Below w.heap.size w (w.alloc (.cells #[.int .i64 z, .slice a n c] 41))) := (Below.refl _ w).alloc (Nat.le_refl _) _
  have k2 : ((n : Int) != (n : Int)) = false := by simp
  cases t with
  | true =>
    go_enter Tryz.func20, Tryz.ntmps20
    go_wp2_with (go_at_call 41; refine (HC.out _ B.out).mono ?_; rintro e w1 ⟨rfl, hB1⟩)
    go_ret
    exact ⟨rfl, B.out.trans (hB1.mono B.out.size)⟩
  | false =>
    go_enter Tryz.func20, Tryz.ntmps20
    go_wp2_with (go_at_call 41; refine (HC.out _ B.out).mono ?_; rintro e w1 ⟨rfl, hB1⟩)
    go_ret
    exact ⟨rfl, B.out.trans (hB1.mono B.out.size)⟩
end Go.Proofs.YtfbceknafmkipaaGreat
