/- The document's Raise, Hide, elems, Both. The document's elems, Both, Shown. The document's Encrypt, Renew, Decrypt. The document's Encrypt, Renew, Decrypt: the good way. -/
import Derived.Test.YtohpbclofcflaaaGreatBB
import Derived.Deep.RegionHeld3
set_option linter.unusedSimpArgs false
set_option linter.unusedVariables false
set_option maxRecDepth 100000
namespace Go.Proofs.YtohpbclofcflaaaGreat
open Go.RowKit Go.Deep Go.PlainAid

section
variable {z : Int} {G : Array Value} {S Wd M low one sq Ri Wd2 M2 low2 one2 sq2 Ri2 : Nat}
theorem E_le {x : Nat} (h : PK S M M2) : E M M2 x ≤ M := sgn_le h.e2 (h.ml x)
theorem textE (k : KD z G S Wd M low one sq Ri Wd2 M2 low2 one2 sq2 Ri2) (h : PK S M M2) {W : World} {x : Nat} {v : Value} (hv : NumV W 65536 (E M M2 x) v) : Calls Tryz.prog 23 #[v, .int .i64 (S : Int)] W fun e w' => e = .returned (.string (EX S M M2 x)) ∧ Below W.heap.size W w' := by
  have q := refTextV (S := S) hv (lenD (E_le h) k.l5) (by have := k.hS; omega)
  exact q
theorem el_EX {b : ByteArray} (h : PK S M M2) (hb : isEl S M b = true) : EX S M M2 (numS b) = b := by
  have := h.e2
  have := isEl_le hb
  unfold EX E
  rw [Nat.mod_eq_of_lt (by omega)]
  unfold sgn
  rw [if_neg (by omega), TX_numS (isEl_size hb)]
theorem el_nd {b : ByteArray} (h : PK S M M2) (hb : isEl S M b = true) : ¬ M2 ∣ numS b := fun hd => by
  have h1 := Nat.le_of_dvd (Nat.pos_of_ne_zero (isEl_pos hb)) hd
  have := isEl_le hb
  have := h.e2
  omega
theorem prodE (k : KD z G S Wd M low one sq Ri Wd2 M2 low2 one2 sq2 Ri2) (h : PK S M M2) {W : World} {u1 u2 va vb : Value} {x y : Nat} (h1 : NumV W 65536 M u1) (h2 : NumV W 65536 M2 u2) (ha : NumV W 65536 (E M M2 x) va) (hb : NumV W 65536 (E M M2 y) vb) :
    Calls Tryz.prog 42 #[.agg #[.int .i64 (S : Int), u1, u2], va, vb] W fun e w' => (∃ v, e = .returned v ∧ NumV w' 65536 (E M M2 (x * y)) v) ∧ Below W.heap.size W w' := by
  have q := productV k h1 h2 ha hb (by have := E_le (x := x) h; have := h.e2; omega) (by have := E_le (x := y) h; have := h.e2; omega)
  have e : sgn M M2 (E M M2 x * E M M2 y % M2) = E M M2 (x * y) := by
    unfold E
    rw [sgn_mul h.e2 (h.ml _) (h.ml _), ← Nat.mul_mod]
  rw [e] at q
  exact q
theorem el_E {b : ByteArray} (h : PK S M M2) (hb : isEl S M b = true) : E M M2 (numS b) = numS b := by
  have := h.e2
  have := isEl_le hb
  unfold E
  rw [Nat.mod_eq_of_lt (by omega)]
  unfold sgn
  rw [if_neg (by omega)]
set_option maxHeartbeats 4000000 in
theorem raise43 (k : KD z G S Wd M low one sq Ri Wd2 M2 low2 one2 sq2 Ri2) (h : PK S M M2) {w : World} {qa pa : Option Addr} {ql qc pl pc : Nat} {n : Nat} {vn : Value} (hn : NumV w 65536 n vn) (n9 : n ≤ M) (n1 : NumV w 65536 M (.slice qa ql qc)) (n2 : NumV w 65536 M2 (.slice pa pl pc)) :
    Calls Tryz.prog 43 #[.agg #[.int .i64 (S : Int), .slice qa ql qc, .slice pa pl pc], vn] w fun e w' => (∃ v, e = .returned v ∧ NumV w' 65536 (E M M2 (2 ^ n)) v) ∧ Below w.heap.size w w' := by
  generalize hW : w.alloc (.cells #[.int .i64 (S : Int), .slice qa ql qc, .slice pa pl pc] 42) = W
  have J : Hid (Below w.heap.size w W) := by rw [← hW]; exact (Below.refl _ w).alloc (Nat.le_refl _) _
  have I0 : Hid (IHolds W w.heap.size 42 [.int .i64 (S : Int), .slice qa ql qc, .slice pa pl pc]) := by rw [← hW]; exact IHolds.new w 42 [.int .i64 (S : Int), .slice qa ql qc, .slice pa pl pc]
  obtain ⟨na, nl, nc, rfl⟩ := sN (show Hid (NumV w 65536 n vn) from hn)
  have R2 : Hid (∀ V, Calls Tryz.prog 24 #[.int .i64 2] V fun e w' => (∃ v, e = .returned v ∧ NumV w' 65536 2 v) ∧ Below V.heap.size V w') := fun V => of_any V 2 (by decide)
  have RP : Hid (∀ V va, Below W.heap.size W V → NumV V 65536 2 va → Calls Tryz.prog 44 #[.agg #[.int .i64 (S : Int), .slice qa ql qc, .slice pa pl pc], va, .slice na nl nc] V fun e w' => (∃ v, e = .returned v ∧ NumV w' 65536 (E M M2 (2 ^ n)) v) ∧ Below V.heap.size V w') := fun V va hV ha => powerEV k ((n1.of_below J.out).of_below hV) ((n2.of_below J.out).of_below hV) ha ((hn.of_below J.out).of_below hV) (by have := h.e2; have := h.m1; omega) n9
  have KP : Hid (∀ V, Below W.heap.size W V → (Below W.heap.size W V ∧ V.cell? ⟨w.heap.size, 0, none⟩ = some (.int .i64 (S : Int)) ∧ V.cell? ⟨w.heap.size, 1, none⟩ = some (.slice qa ql qc) ∧ V.cell? ⟨w.heap.size, 2, none⟩ = some (.slice pa pl pc))) := fun V hV => ⟨hV, (I0.out.of_below hV).cell 0 (by simp), (I0.out.of_below hV).cell 1 (by simp), (I0.out.of_below hV).cell 2 (by simp)⟩
  have sB : Hid (∀ V V', Below V.heap.size V V' → Below W.heap.size W V → Below W.heap.size W V') := fun V V' h h' => h'.trans (h.mono h'.size)
  clear n1 n2 hn
  go_enter Tryz.func43, Tryz.ntmps43
  go_wp2_with fail
  clear hW
  go_region_held3 (fun V => Below W.heap.size W V ∧ V.cell? ⟨w.heap.size, 0, none⟩ = some (.int .i64 (S : Int)) ∧ V.cell? ⟨w.heap.size, 1, none⟩ = some (.slice qa ql qc) ∧ V.cell? ⟨w.heap.size, 2, none⟩ = some (.slice pa pl pc))
    (first | exact KP.out _ (dB _) | assumption | exact KP.out _ B7.out | exact KP.out _ B6.out | fail)
    (first
      | (go_at_call 24; refine (R2.out _).mono ?_; rintro e w6 ⟨⟨r6, rfl, n6⟩, hB6⟩; have B6 : Hid (Below W.heap.size W w6) := sB.out _ _ hB6 (dB _); have M6 : Hid (NumV w6 65536 2 r6) := n6; clear n6 R2)
      | (go_at_call 44; refine (RP.out _ _ B6.out M6.out).mono ?_; rintro e w7 ⟨⟨r7, rfl, n7⟩, hB7⟩; have B7 : Hid (Below W.heap.size W w7) := sB.out _ _ hB7 B6.out; have M7 : Hid (NumV w7 65536 (E M M2 (2 ^ n)) r7) := n7; clear n7)
      | fail)
  go_wp2_with fail
  go_ret
  exact ⟨⟨_, rfl, M7.out⟩, J.out.trans (B7.out.mono J.out.size)⟩
set_option maxHeartbeats 4000000 in
theorem hide19 (k : KD z G S Wd M low one sq Ri Wd2 M2 low2 one2 sq2 Ri2) (h : PK S M M2) {w : World} {qa pa : Option Addr} {ql qc pl pc : Nat} {key : ByteArray} (hk : isEl S M key = true) {x n : Nat} {vx vn : Value} (hx : NumV w 65536 x vx) (x9 : x ≤ M) (hn : NumV w 65536 n vn) (n9 : n ≤ M) (n1 : NumV w 65536 M (.slice qa ql qc)) (n2 : NumV w 65536 M2 (.slice pa pl pc)) :
    Calls Tryz.prog 19 #[.agg #[.int .i64 (S : Int), .slice qa ql qc, .slice pa pl pc], .string key, vx, vn] w fun e w' => e = .returned (.agg #[.string (EX S M M2 (2 ^ n)), .string (EX S M M2 (2 ^ x * numS key ^ n))]) ∧ Below w.heap.size w w' := by
  obtain ⟨xa, xl, xc, rfl⟩ := sN (show Hid (NumV w 65536 x vx) from hx)
  obtain ⟨na, nl, nc, rfl⟩ := sN (show Hid (NumV w 65536 n vn) from hn)
  obtain ⟨T1, hT1⟩ : ∃ T1, EX S M M2 (2 ^ n) = T1 := ⟨_, rfl⟩
  obtain ⟨T2, hT2⟩ : ∃ T2, EX S M M2 (2 ^ x * numS key ^ n) = T2 := ⟨_, rfl⟩
  rw [hT1, hT2]
  go_enter Tryz.func19, Tryz.ntmps19
  go_wp2_with fail
  obtain ⟨W1, hW1⟩ : ∃ X, X = ((w.alloc (.cells #[.int .i64 (S : Int), .slice qa ql qc, .slice pa pl pc] 42)).alloc (.cells #[.string ⟨#[]⟩, .string ⟨#[]⟩] 24)) := ⟨_, rfl⟩
  have Jg : Hid (IHolds W1 (w.heap.size) 42 [.int .i64 (S : Int), .slice qa ql qc, .slice pa pl pc]) := by
    have q := IHolds.new w 42 [.int .i64 (S : Int), .slice qa ql qc, .slice pa pl pc]
    show IHolds _ _ _ _
    rw [hW1]
    exact (q.alloc _)
  have Jr : Hid (IHolds W1 (w.heap.size + 1) 24 [.string ⟨#[]⟩, .string ⟨#[]⟩]) := by
    have q := IHolds.new (w.alloc (.cells #[.int .i64 (S : Int), .slice qa ql qc, .slice pa pl pc] 42)) 24 [.string ⟨#[]⟩, .string ⟨#[]⟩]
    simp only [World.size_alloc, Nat.add_assoc, Nat.reduceAdd] at q
    show IHolds _ _ _ _
    rw [hW1]
    exact q
  have B : Hid (Below w.heap.size w W1) := by
    show Below _ _ _
    rw [hW1]
    exact (((Below.refl _ w).alloc (Nat.le_refl _) _).alloc (by simp only [World.size_alloc]; omega) _)
  rw [← hW1]
  clear hW1
  obtain ⟨W, rfl⟩ : ∃ W, W = W1 := ⟨_, rfl⟩
  have sB : Hid (∀ V V', Below V.heap.size V V' → Below W.heap.size W V → Below W.heap.size W V') := fun V V' h h' => h'.trans (h.mono h'.size)
  have NB : Hid (∀ V, Below W.heap.size W V → NumV V 65536 M (.slice qa ql qc) ∧ NumV V 65536 M2 (.slice pa pl pc) ∧ NumV V 65536 x (.slice xa xl xc) ∧ NumV V 65536 n (.slice na nl nc)) := fun V hV => ⟨(n1.of_below B.out).of_below hV, (n2.of_below B.out).of_below hV, (hx.of_below B.out).of_below hV, (hn.of_below B.out).of_below hV⟩
  have KP : Hid (∀ V, Below W.heap.size W V → (Below W.heap.size W V ∧ V.cell? ⟨w.heap.size, 0, none⟩ = some (.int .i64 (S : Int)) ∧ V.cell? ⟨w.heap.size, 1, none⟩ = some (.slice qa ql qc) ∧ V.cell? ⟨w.heap.size, 2, none⟩ = some (.slice pa pl pc))) := fun V hV => ⟨hV, (Jg.out.of_below hV).cell 0 (by simp), (Jg.out.of_below hV).cell 1 (by simp), (Jg.out.of_below hV).cell 2 (by simp)⟩
  have R1 : Hid (∀ V, Below W.heap.size W V → Calls Tryz.prog 43 #[.agg #[.int .i64 (S : Int), .slice qa ql qc, .slice pa pl pc], .slice xa xl xc] V fun e w' => (∃ v, e = .returned v ∧ NumV w' 65536 (E M M2 (2 ^ x)) v) ∧ Below V.heap.size V w') := fun V hV => raise43 k h (NB.out V hV).2.2.1 x9 (NB.out V hV).1 (NB.out V hV).2.1
  have R2 : Hid (∀ V, Calls Tryz.prog 20 #[.string key] V fun e w' => (∃ v, e = .returned v ∧ NumV w' 65536 (numS key) v) ∧ Below V.heap.size V w') := fun V => read_small (isEl_size hk) k.hS V
  have R3 : Hid (∀ V va, Below W.heap.size W V → NumV V 65536 (numS key) va → Calls Tryz.prog 44 #[.agg #[.int .i64 (S : Int), .slice qa ql qc, .slice pa pl pc], va, .slice na nl nc] V fun e w' => (∃ v, e = .returned v ∧ NumV w' 65536 (E M M2 (numS key ^ n)) v) ∧ Below V.heap.size V w') := fun V va hV ha => powerEV k (NB.out V hV).1 (NB.out V hV).2.1 ha (NB.out V hV).2.2.2 (k.el hk) n9
  have R4 : Hid (∀ V va vb, Below W.heap.size W V → NumV V 65536 (E M M2 (2 ^ x)) va → NumV V 65536 (E M M2 (numS key ^ n)) vb → Calls Tryz.prog 42 #[.agg #[.int .i64 (S : Int), .slice qa ql qc, .slice pa pl pc], va, vb] V fun e w' => (∃ v, e = .returned v ∧ NumV w' 65536 (E M M2 (2 ^ x * numS key ^ n)) v) ∧ Below V.heap.size V w') := fun V va vb hV ha hb => prodE k h (NB.out V hV).1 (NB.out V hV).2.1 ha hb
  have R5 : Hid (∀ V, Below W.heap.size W V → Calls Tryz.prog 43 #[.agg #[.int .i64 (S : Int), .slice qa ql qc, .slice pa pl pc], .slice na nl nc] V fun e w' => (∃ v, e = .returned v ∧ NumV w' 65536 (E M M2 (2 ^ n)) v) ∧ Below V.heap.size V w') := fun V hV => raise43 k h (NB.out V hV).2.2.2 n9 (NB.out V hV).1 (NB.out V hV).2.1
  have R6 : Hid (∀ V va, NumV V 65536 (E M M2 (2 ^ n)) va → Calls Tryz.prog 23 #[va, .int .i64 (S : Int)] V fun e w' => e = .returned (.string T1) ∧ Below V.heap.size V w') := fun V va ha => by rw [← hT1]; exact textE k h ha
  have R7 : Hid (∀ V va, NumV V 65536 (E M M2 (2 ^ x * numS key ^ n)) va → Calls Tryz.prog 23 #[va, .int .i64 (S : Int)] V fun e w' => e = .returned (.string T2) ∧ Below V.heap.size V w') := fun V va ha => by rw [← hT2]; exact textE k h ha
  clear hT1 hT2
  generalize E M M2 (2 ^ x * numS key ^ n) = e4 at *
  generalize E M M2 (2 ^ x) = e1 at *
  generalize E M M2 (numS key ^ n) = e3 at *
  generalize E M M2 (2 ^ n) = e5 at *
  clear n1 n2 hx hn hk NB
  go_region_held3 (fun V => Below W.heap.size W V ∧ V.cell? ⟨w.heap.size, 0, none⟩ = some (.int .i64 (S : Int)) ∧ V.cell? ⟨w.heap.size, 1, none⟩ = some (.slice qa ql qc) ∧ V.cell? ⟨w.heap.size, 2, none⟩ = some (.slice pa pl pc))
    (first | exact KP.out _ (dB _) | assumption | exact KP.out _ B9.out | exact KP.out _ B8.out | exact KP.out _ B7.out | exact KP.out _ B6.out | fail)
    (first
      | (go_at_call 43; refine (R1.out _ (dB _)).mono ?_; rintro e w6 ⟨⟨r6, rfl, n6⟩, hB6⟩; have B6 : Hid (Below W.heap.size W w6) := sB.out _ _ hB6 (dB _); have M6 : Hid (NumV w6 65536 e1 r6) := n6; clear n6 R1)
      | (go_at_call 20; refine (R2.out _).mono ?_; rintro e w7 ⟨⟨r7, rfl, n7⟩, hB7⟩; have B7 : Hid (Below W.heap.size W w7) := sB.out _ _ hB7 B6.out; have M7 : Hid (NumV w7 65536 (numS key) r7) := n7; replace M6 : Hid (NumV w7 65536 e1 r6) := M6.out.of_below hB7; clear n7 R2)
      | (go_at_call 44; refine (R3.out _ _ B7.out M7.out).mono ?_; rintro e w8 ⟨⟨r8, rfl, n8⟩, hB8⟩; have B8 : Hid (Below W.heap.size W w8) := sB.out _ _ hB8 B7.out; have M8 : Hid (NumV w8 65536 e3 r8) := n8; replace M6 : Hid (NumV w8 65536 e1 r6) := M6.out.of_below hB8; clear n8 R3)
      | (go_at_call 42; refine (R4.out _ _ _ B8.out M6.out M8.out).mono ?_; rintro e w9 ⟨⟨r9, rfl, n9⟩, hB9⟩; have B9 : Hid (Below W.heap.size W w9) := sB.out _ _ hB9 B8.out; have M9 : Hid (NumV w9 65536 e4 r9) := n9; clear n9 R4)
      | fail)
  clear M6 M7 M8
  go_wp2_with fail
  go_region_held3 (fun V => V.cell? ⟨w.heap.size, 0, none⟩ = some (.int .i64 (S : Int)) ∧ V.cell? ⟨w.heap.size, 1, none⟩ = some (.slice qa ql qc) ∧ V.cell? ⟨w.heap.size, 2, none⟩ = some (.slice pa pl pc))
    (first | exact (KP.out _ B9.out.drew).2 | assumption | exact KS.out | exact (KP.out _ B12.out).2 | exact (KP.out _ B11.out).2 | exact (KP.out _ B10.out).2 | fail)
    (first
      | (go_at_call 43; refine (R5.out _ B9.out.drew).mono ?_; rintro e w10 ⟨⟨r10, rfl, n10⟩, hB10⟩; have B10 : Hid (Below W.heap.size W w10) := sB.out _ _ hB10 B9.out.drew; have M10 : Hid (NumV w10 65536 e5 r10) := n10; replace M9 : Hid (NumV w10 65536 e4 r9) := (M9.out.of_below (dB _)).of_below hB10; clear n10 R5)
      | (go_at_call 23; refine (R6.out _ _ M10.out).mono ?_; rintro e w11 ⟨rfl, hB11⟩; have B11 : Hid (Below W.heap.size W w11) := sB.out _ _ hB11 B10.out; replace M9 : Hid (NumV w11 65536 e4 r9) := M9.out.of_below hB11; clear R6 M10)
      | (go_at_call 23; refine (R7.out _ _ M9.out).mono ?_; rintro e w12 ⟨rfl, hB12⟩; have B12 : Hid (Below W.heap.size W w12) := sB.out _ _ hB12 B11.out; clear R7; have Jr2 : Hid (IHolds w12 (w.heap.size + 1) 24 [.string ⟨#[]⟩, .string ⟨#[]⟩]) := Jr.out.of_below B12.out; have zr0 : w12.cell? ⟨w.heap.size + 1, 0, none⟩ = some (.string ⟨#[]⟩) := Jr2.out.cell 0 (by simp); have zr1 : w12.cell? ⟨w.heap.size + 1, 1, none⟩ = some (.string ⟨#[]⟩) := Jr2.out.cell 1 (by simp); have fr := fJ Jr2; have Jg2 : Hid (IHolds w12 w.heap.size 42 [.int .i64 (S : Int), .slice qa ql qc, .slice pa pl pc]) := Jg.out.of_below B12.out; have hBut : But (w.heap.size + 1) w12 ((w12.setCell ⟨w.heap.size + 1, 0, none⟩ (.string T1)).setCell ⟨w.heap.size + 1, 1, none⟩ (.string T2)) := (((But.refl _ w12).setCell 0 _).setCell 1 _); have Jg3 := tJ Jg2 hBut (by omega); have KS : Hid (((w12.setCell ⟨w.heap.size + 1, 0, none⟩ (.string T1)).setCell ⟨w.heap.size + 1, 1, none⟩ (.string T2)).cell? ⟨w.heap.size, 0, none⟩ = some (.int .i64 (S : Int)) ∧ ((w12.setCell ⟨w.heap.size + 1, 0, none⟩ (.string T1)).setCell ⟨w.heap.size + 1, 1, none⟩ (.string T2)).cell? ⟨w.heap.size, 1, none⟩ = some (.slice qa ql qc) ∧ ((w12.setCell ⟨w.heap.size + 1, 0, none⟩ (.string T1)).setCell ⟨w.heap.size + 1, 1, none⟩ (.string T2)).cell? ⟨w.heap.size, 2, none⟩ = some (.slice pa pl pc)) := ⟨Jg3.out.cell 0 (by simp), Jg3.out.cell 1 (by simp), Jg3.out.cell 2 (by simp)⟩; clear Jg3 hBut Jg2)
      | fail)
  clear zr0 zr1 fr KS
  have I4 : Hid (IHolds ((w12.setCell ⟨w.heap.size + 1, 0, none⟩ (.string T1)).setCell ⟨w.heap.size + 1, 1, none⟩ (.string T2)) (w.heap.size + 1) 24 [.string T1, .string T2]) := ((Jr2.out.set 0 _).set 1 _)
  have B4 : Hid (Below w.heap.size w ((w12.setCell ⟨w.heap.size + 1, 0, none⟩ (.string T1)).setCell ⟨w.heap.size + 1, 1, none⟩ (.string T2))) := (((B.out.trans (B12.out.mono B.out.size)).setCell (by show w.heap.size ≤ w.heap.size + 1; omega) _).setCell (by show w.heap.size ≤ w.heap.size + 1; omega) _)
  generalize ((w12.setCell ⟨w.heap.size + 1, 0, none⟩ (.string T1)).setCell ⟨w.heap.size + 1, 1, none⟩ (.string T2)) = WF at *
  have E0 : Hid (WF.cell? ⟨w.heap.size + 1, 0, none⟩ = some (.string T1)) := I4.out.cell 0 (by simp)
  have E1 : Hid (WF.cell? ⟨w.heap.size + 1, 1, none⟩ = some (.string T2)) := I4.out.cell 1 (by simp)
  go_wp2_with fail
  exact bodyPost_ret (v := .agg #[.string T1, .string T2]) (by simp [results, Tryz.results19, go_sem, E0.out, E1.out]) rfl ⟨rfl, B4.out⟩
end
end Go.Proofs.YtohpbclofcflaaaGreat
namespace Go.Proofs.YtohpbclofcflaaaGreat
open Go.RowKit Go.Deep Go.PlainAid

section
variable {z : Int} {G : Array Value} {S Wd M low one sq Ri Wd2 M2 low2 one2 sq2 Ri2 : Nat}
set_option maxHeartbeats 4000000 in
theorem elems25 (k : KD z G S Wd M low one sq Ri Wd2 M2 low2 one2 sq2 Ri2) {w : World} {qa pa : Option Addr} {ql qc pl pc : Nat} {a b : ByteArray} (n1 : NumV w 65536 M (.slice qa ql qc)) (n2 : NumV w 65536 M2 (.slice pa pl pc)) :
    Calls Tryz.prog 25 #[.agg #[.int .i64 (S : Int), .slice qa ql qc, .slice pa pl pc], .agg #[.string a, .string b]] w fun e w' => e = .returned (.bool (isEl S M a && isEl S M b)) ∧ Below w.heap.size w w' := by
  have CA : Hid (∀ V, Below w.heap.size w V → Calls Tryz.prog 17 #[.agg #[.int .i64 (S : Int), .slice qa ql qc, .slice pa pl pc], .string a] V fun e w' => e = .returned (.bool (isEl S M a)) ∧ Below V.heap.size V w') := fun V hV => isElemV (n1.of_below hV) (n2.of_below hV) a k.hS k.l6
  have CB : Hid (∀ V, Below w.heap.size w V → Calls Tryz.prog 17 #[.agg #[.int .i64 (S : Int), .slice qa ql qc, .slice pa pl pc], .string b] V fun e w' => e = .returned (.bool (isEl S M b)) ∧ Below V.heap.size V w') := fun V hV => isElemV (n1.of_below hV) (n2.of_below hV) b k.hS k.l6
  clear n1 n2
  generalize isEl S M a = ta at *
  generalize isEl S M b = tb at *
  cases ta with
  | false =>
    go_enter Tryz.func25, Tryz.ntmps25
    go_wp2_with fail
    obtain ⟨W1, hW1⟩ : ∃ X, X = ((w.alloc (.cells #[.int .i64 (S : Int), .slice qa ql qc, .slice pa pl pc] 42)).alloc (.cells #[.string a, .string b] 24)) := ⟨_, rfl⟩
    have Jg : Hid (IHolds W1 (w.heap.size) 42 [.int .i64 (S : Int), .slice qa ql qc, .slice pa pl pc]) := by
      have q := IHolds.new w 42 [.int .i64 (S : Int), .slice qa ql qc, .slice pa pl pc]
      show IHolds _ _ _ _
      rw [hW1]
      exact (q.alloc _)
    have Jc : Hid (IHolds W1 (w.heap.size + 1) 24 [.string a, .string b]) := by
      have q := IHolds.new (w.alloc (.cells #[.int .i64 (S : Int), .slice qa ql qc, .slice pa pl pc] 42)) 24 [.string a, .string b]
      simp only [World.size_alloc, Nat.add_assoc, Nat.reduceAdd] at q
      show IHolds _ _ _ _
      rw [hW1]
      exact q
    have B : Hid (Below w.heap.size w W1) := by
      show Below _ _ _
      rw [hW1]
      exact (((Below.refl _ w).alloc (Nat.le_refl _) _).alloc (by simp only [World.size_alloc]; omega) _)
    rw [← hW1]
    clear hW1
    refine (CA.out _ B.out).mono ?_
    rintro e W2 ⟨rfl, hb⟩
    replace B := aB B hb
    replace Jg := aJ Jg hb
    replace Jc := aJ Jc hb
    clear hb
    go_wp2_with fail
    go_ret
    exact ⟨rfl, B.out⟩
  | true =>
    go_enter Tryz.func25, Tryz.ntmps25
    go_wp2_with fail
    obtain ⟨W1, hW1⟩ : ∃ X, X = ((w.alloc (.cells #[.int .i64 (S : Int), .slice qa ql qc, .slice pa pl pc] 42)).alloc (.cells #[.string a, .string b] 24)) := ⟨_, rfl⟩
    have Jg : Hid (IHolds W1 (w.heap.size) 42 [.int .i64 (S : Int), .slice qa ql qc, .slice pa pl pc]) := by
      have q := IHolds.new w 42 [.int .i64 (S : Int), .slice qa ql qc, .slice pa pl pc]
      show IHolds _ _ _ _
      rw [hW1]
      exact (q.alloc _)
    have Jc : Hid (IHolds W1 (w.heap.size + 1) 24 [.string a, .string b]) := by
      have q := IHolds.new (w.alloc (.cells #[.int .i64 (S : Int), .slice qa ql qc, .slice pa pl pc] 42)) 24 [.string a, .string b]
      simp only [World.size_alloc, Nat.add_assoc, Nat.reduceAdd] at q
      show IHolds _ _ _ _
      rw [hW1]
      exact q
    have B : Hid (Below w.heap.size w W1) := by
      show Below _ _ _
      rw [hW1]
      exact (((Below.refl _ w).alloc (Nat.le_refl _) _).alloc (by simp only [World.size_alloc]; omega) _)
    rw [← hW1]
    clear hW1
    refine (CA.out _ B.out).mono ?_
    rintro e W2 ⟨rfl, hb⟩
    replace B := aB B hb
    replace Jg := aJ Jg hb
    replace Jc := aJ Jc hb
    clear hb
    have zg_0 : W2.cell? ⟨w.heap.size, 0, none⟩ = some (.int .i64 (S : Int)) := Jg.out.cell 0 (by simp)
    have zg_1 : W2.cell? ⟨w.heap.size, 1, none⟩ = some (.slice qa ql qc) := Jg.out.cell 1 (by simp)
    have zg_2 : W2.cell? ⟨w.heap.size, 2, none⟩ = some (.slice pa pl pc) := Jg.out.cell 2 (by simp)
    have zc_0 : W2.cell? ⟨w.heap.size + 1, 0, none⟩ = some (.string a) := Jc.out.cell 0 (by simp)
    have zc_1 : W2.cell? ⟨w.heap.size + 1, 1, none⟩ = some (.string b) := Jc.out.cell 1 (by simp)
    go_wp2_with fail
    clear zg_0 zg_1 zg_2 zc_0 zc_1
    refine (CB.out _ B.out).mono ?_
    rintro e W3 ⟨rfl, hb⟩
    replace B := aB B hb
    replace Jg := aJ Jg hb
    replace Jc := aJ Jc hb
    clear hb
    go_wp2_with fail
    go_ret
    exact ⟨by cases tb <;> rfl, B.out⟩
set_option maxHeartbeats 4000000 in
theorem both26 (k : KD z G S Wd M low one sq Ri Wd2 M2 low2 one2 sq2 Ri2) (h : PK S M M2) {w : World} {qa pa : Option Addr} {ql qc pl pc : Nat} {a b x y : ByteArray} (ha : isEl S M a = true) (hb : isEl S M b = true) (hx : isEl S M x = true) (hy : isEl S M y = true) (n1 : NumV w 65536 M (.slice qa ql qc)) (n2 : NumV w 65536 M2 (.slice pa pl pc)) :
    Calls Tryz.prog 26 #[.agg #[.int .i64 (S : Int), .slice qa ql qc, .slice pa pl pc], .agg #[.string a, .string b], .agg #[.string x, .string y]] w fun e w' => e = .returned (.agg #[.string (EX S M M2 (numS a * numS x)), .string (EX S M M2 (numS b * numS y))]) ∧ Below w.heap.size w w' := by
  obtain ⟨T1, hT1⟩ : ∃ T1, EX S M M2 (numS a * numS x) = T1 := ⟨_, rfl⟩
  obtain ⟨T2, hT2⟩ : ∃ T2, EX S M M2 (numS b * numS y) = T2 := ⟨_, rfl⟩
  rw [hT1, hT2]
  go_enter Tryz.func26, Tryz.ntmps26
  go_wp2_with fail
  obtain ⟨W1, hW1⟩ : ∃ X, X = ((((w.alloc (.cells #[.int .i64 (S : Int), .slice qa ql qc, .slice pa pl pc] 42)).alloc (.cells #[.string a, .string b] 24)).alloc (.cells #[.string x, .string y] 24)).alloc (.cells #[.string ⟨#[]⟩, .string ⟨#[]⟩] 24)) := ⟨_, rfl⟩
  have Jg : Hid (IHolds W1 (w.heap.size) 42 [.int .i64 (S : Int), .slice qa ql qc, .slice pa pl pc]) := by
    have q := IHolds.new w 42 [.int .i64 (S : Int), .slice qa ql qc, .slice pa pl pc]
    show IHolds _ _ _ _
    rw [hW1]
    exact (((q.alloc _).alloc _).alloc _)
  have Ja : Hid (IHolds W1 (w.heap.size + 1) 24 [.string a, .string b]) := by
    have q := IHolds.new (w.alloc (.cells #[.int .i64 (S : Int), .slice qa ql qc, .slice pa pl pc] 42)) 24 [.string a, .string b]
    simp only [World.size_alloc, Nat.add_assoc, Nat.reduceAdd] at q
    show IHolds _ _ _ _
    rw [hW1]
    exact ((q.alloc _).alloc _)
  have Jx : Hid (IHolds W1 (w.heap.size + 2) 24 [.string x, .string y]) := by
    have q := IHolds.new ((w.alloc (.cells #[.int .i64 (S : Int), .slice qa ql qc, .slice pa pl pc] 42)).alloc (.cells #[.string a, .string b] 24)) 24 [.string x, .string y]
    simp only [World.size_alloc, Nat.add_assoc, Nat.reduceAdd] at q
    show IHolds _ _ _ _
    rw [hW1]
    exact (q.alloc _)
  have Jr : Hid (IHolds W1 (w.heap.size + 3) 24 [.string ⟨#[]⟩, .string ⟨#[]⟩]) := by
    have q := IHolds.new (((w.alloc (.cells #[.int .i64 (S : Int), .slice qa ql qc, .slice pa pl pc] 42)).alloc (.cells #[.string a, .string b] 24)).alloc (.cells #[.string x, .string y] 24)) 24 [.string ⟨#[]⟩, .string ⟨#[]⟩]
    simp only [World.size_alloc, Nat.add_assoc, Nat.reduceAdd] at q
    show IHolds _ _ _ _
    rw [hW1]
    exact q
  have B : Hid (Below w.heap.size w W1) := by
    show Below _ _ _
    rw [hW1]
    exact (((((Below.refl _ w).alloc (Nat.le_refl _) _).alloc (by simp only [World.size_alloc]; omega) _).alloc (by simp only [World.size_alloc]; omega) _).alloc (by simp only [World.size_alloc]; omega) _)
  rw [← hW1]
  clear hW1
  obtain ⟨W, rfl⟩ : ∃ W, W = W1 := ⟨_, rfl⟩
  have sB : Hid (∀ V V', Below V.heap.size V V' → Below W.heap.size W V → Below W.heap.size W V') := fun V V' h h' => h'.trans (h.mono h'.size)
  have NB : Hid (∀ V, Below W.heap.size W V → NumV V 65536 M (.slice qa ql qc) ∧ NumV V 65536 M2 (.slice pa pl pc)) := fun V hV => ⟨(n1.of_below B.out).of_below hV, (n2.of_below B.out).of_below hV⟩
  have KP : Hid (∀ V, Below W.heap.size W V → (V.cell? ⟨w.heap.size, 0, none⟩ = some (.int .i64 (S : Int)) ∧ V.cell? ⟨w.heap.size, 1, none⟩ = some (.slice qa ql qc) ∧ V.cell? ⟨w.heap.size, 2, none⟩ = some (.slice pa pl pc) ∧ V.cell? ⟨w.heap.size + 1, 0, none⟩ = some (.string a) ∧ V.cell? ⟨w.heap.size + 1, 1, none⟩ = some (.string b) ∧ V.cell? ⟨w.heap.size + 2, 0, none⟩ = some (.string x) ∧ V.cell? ⟨w.heap.size + 2, 1, none⟩ = some (.string y))) := fun V hV => ⟨(Jg.out.of_below hV).cell 0 (by simp), (Jg.out.of_below hV).cell 1 (by simp), (Jg.out.of_below hV).cell 2 (by simp), (Ja.out.of_below hV).cell 0 (by simp), (Ja.out.of_below hV).cell 1 (by simp), (Jx.out.of_below hV).cell 0 (by simp), (Jx.out.of_below hV).cell 1 (by simp)⟩
  have Ra : Hid (∀ V, Calls Tryz.prog 20 #[.string a] V fun e w' => (∃ v, e = .returned v ∧ NumV w' 65536 (E M M2 (numS a)) v) ∧ Below V.heap.size V w') := fun V => by rw [el_E h ha]; exact read_small (isEl_size ha) k.hS V
  have Rx : Hid (∀ V, Calls Tryz.prog 20 #[.string x] V fun e w' => (∃ v, e = .returned v ∧ NumV w' 65536 (E M M2 (numS x)) v) ∧ Below V.heap.size V w') := fun V => by rw [el_E h hx]; exact read_small (isEl_size hx) k.hS V
  have Rb : Hid (∀ V, Calls Tryz.prog 20 #[.string b] V fun e w' => (∃ v, e = .returned v ∧ NumV w' 65536 (E M M2 (numS b)) v) ∧ Below V.heap.size V w') := fun V => by rw [el_E h hb]; exact read_small (isEl_size hb) k.hS V
  have Ry : Hid (∀ V, Calls Tryz.prog 20 #[.string y] V fun e w' => (∃ v, e = .returned v ∧ NumV w' 65536 (E M M2 (numS y)) v) ∧ Below V.heap.size V w') := fun V => by rw [el_E h hy]; exact read_small (isEl_size hy) k.hS V
  have P1 : Hid (∀ V va vb, Below W.heap.size W V → NumV V 65536 (E M M2 (numS a)) va → NumV V 65536 (E M M2 (numS x)) vb → Calls Tryz.prog 42 #[.agg #[.int .i64 (S : Int), .slice qa ql qc, .slice pa pl pc], va, vb] V fun e w' => (∃ v, e = .returned v ∧ NumV w' 65536 (E M M2 (numS a * numS x)) v) ∧ Below V.heap.size V w') := fun V va vb hV ha hb => prodE k h (NB.out V hV).1 (NB.out V hV).2 ha hb
  have P2 : Hid (∀ V va vb, Below W.heap.size W V → NumV V 65536 (E M M2 (numS b)) va → NumV V 65536 (E M M2 (numS y)) vb → Calls Tryz.prog 42 #[.agg #[.int .i64 (S : Int), .slice qa ql qc, .slice pa pl pc], va, vb] V fun e w' => (∃ v, e = .returned v ∧ NumV w' 65536 (E M M2 (numS b * numS y)) v) ∧ Below V.heap.size V w') := fun V va vb hV ha hb => prodE k h (NB.out V hV).1 (NB.out V hV).2 ha hb
  have Q1 : Hid (∀ V va, NumV V 65536 (E M M2 (numS a * numS x)) va → Calls Tryz.prog 23 #[va, .int .i64 (S : Int)] V fun e w' => e = .returned (.string T1) ∧ Below V.heap.size V w') := fun V va ha => by rw [← hT1]; exact textE k h ha
  have Q2 : Hid (∀ V va, NumV V 65536 (E M M2 (numS b * numS y)) va → Calls Tryz.prog 23 #[va, .int .i64 (S : Int)] V fun e w' => e = .returned (.string T2) ∧ Below V.heap.size V w') := fun V va ha => by rw [← hT2]; exact textE k h ha
  clear hT1 hT2 n1 n2 NB ha hb hx hy
  generalize E M M2 (numS a * numS x) = e1 at *
  generalize E M M2 (numS b * numS y) = e2 at *
  generalize E M M2 (numS a) = ea at *
  generalize E M M2 (numS b) = eb at *
  generalize E M M2 (numS x) = ex at *
  generalize E M M2 (numS y) = ey at *
  go_region_held3 (fun V => V.cell? ⟨w.heap.size, 0, none⟩ = some (.int .i64 (S : Int)) ∧ V.cell? ⟨w.heap.size, 1, none⟩ = some (.slice qa ql qc) ∧ V.cell? ⟨w.heap.size, 2, none⟩ = some (.slice pa pl pc) ∧ V.cell? ⟨w.heap.size + 1, 0, none⟩ = some (.string a) ∧ V.cell? ⟨w.heap.size + 1, 1, none⟩ = some (.string b) ∧ V.cell? ⟨w.heap.size + 2, 0, none⟩ = some (.string x) ∧ V.cell? ⟨w.heap.size + 2, 1, none⟩ = some (.string y))
    (first | exact KP.out _ (dB _) | assumption | exact KS.out | exact KP.out _ B13.out | exact KP.out _ B12.out | exact KP.out _ B11.out | exact KP.out _ B10.out | exact KP.out _ B9.out | exact KP.out _ B8.out | exact KP.out _ B7.out | exact KP.out _ B6.out | fail)
    (first
      | (go_at_call 20; have zz := Ra.out; clear zz; refine (Ra.out _).mono ?_; rintro e w6 ⟨⟨r6, rfl, n6⟩, hB6⟩; have B6 : Hid (Below W.heap.size W w6) := sB.out _ _ hB6 (dB _); have M6 : Hid (NumV w6 65536 (ea) r6) := n6; clear n6; clear Ra)
      | (go_at_call 20; have zz := Rx.out; clear zz; refine (Rx.out _).mono ?_; rintro e w7 ⟨⟨r7, rfl, n7⟩, hB7⟩; have B7 : Hid (Below W.heap.size W w7) := sB.out _ _ hB7 B6.out; have M7 : Hid (NumV w7 65536 (ex) r7) := n7; clear n7; replace M6 : Hid (NumV w7 65536 (ea) r6) := M6.out.of_below hB7; clear Rx)
      | (go_at_call 42; have zz := P1.out; clear zz; refine (P1.out _ _ _ B7.out M6.out M7.out).mono ?_; rintro e w8 ⟨⟨r8, rfl, n8⟩, hB8⟩; have B8 : Hid (Below W.heap.size W w8) := sB.out _ _ hB8 B7.out; have M8 : Hid (NumV w8 65536 (e1) r8) := n8; clear n8; clear P1)
      | (go_at_call 23; have zz := Q1.out; clear zz; refine (Q1.out _ _ M8.out).mono ?_; rintro e w9 ⟨rfl, hB9⟩; have B9 : Hid (Below W.heap.size W w9) := sB.out _ _ hB9 B8.out; clear Q1)
      | (go_at_call 20; have zz := Rb.out; clear zz; refine (Rb.out _).mono ?_; rintro e w10 ⟨⟨r10, rfl, n10⟩, hB10⟩; have B10 : Hid (Below W.heap.size W w10) := sB.out _ _ hB10 B9.out; have M10 : Hid (NumV w10 65536 (eb) r10) := n10; clear n10; clear Rb)
      | (go_at_call 20; have zz := Ry.out; clear zz; refine (Ry.out _).mono ?_; rintro e w11 ⟨⟨r11, rfl, n11⟩, hB11⟩; have B11 : Hid (Below W.heap.size W w11) := sB.out _ _ hB11 B10.out; have M11 : Hid (NumV w11 65536 (ey) r11) := n11; clear n11; replace M10 : Hid (NumV w11 65536 (eb) r10) := M10.out.of_below hB11; clear Ry)
      | (go_at_call 42; have zz := P2.out; clear zz; refine (P2.out _ _ _ B11.out M10.out M11.out).mono ?_; rintro e w12 ⟨⟨r12, rfl, n12⟩, hB12⟩; have B12 : Hid (Below W.heap.size W w12) := sB.out _ _ hB12 B11.out; have M12 : Hid (NumV w12 65536 (e2) r12) := n12; clear n12; clear P2)
      | (go_at_call 23; have zz := Q2.out; clear zz; refine (Q2.out _ _ M12.out).mono ?_; rintro e w13 ⟨rfl, hB13⟩; have B13 : Hid (Below W.heap.size W w13) := sB.out _ _ hB13 B12.out; clear Q2; have Jr2 : Hid (IHolds w13 (w.heap.size + 3) 24 [.string ⟨#[]⟩, .string ⟨#[]⟩]) := Jr.out.of_below B13.out; have zr0 : w13.cell? ⟨w.heap.size + 3, 0, none⟩ = some (.string ⟨#[]⟩) := Jr2.out.cell 0 (by simp); have zr1 : w13.cell? ⟨w.heap.size + 3, 1, none⟩ = some (.string ⟨#[]⟩) := Jr2.out.cell 1 (by simp); have fr := fJ Jr2; have hBut : But (w.heap.size + 3) w13 ((w13.setCell ⟨w.heap.size + 3, 0, none⟩ (.string T1)).setCell ⟨w.heap.size + 3, 1, none⟩ (.string T2)) := (((But.refl _ w13).setCell 0 _).setCell 1 _); have Jg3 := tJ (aJ Jg B13.out) hBut (by omega); have Ja3 := tJ (aJ Ja B13.out) hBut (by omega); have Jx3 := tJ (aJ Jx B13.out) hBut (by omega); have KS : Hid (((w13.setCell ⟨w.heap.size + 3, 0, none⟩ (.string T1)).setCell ⟨w.heap.size + 3, 1, none⟩ (.string T2)).cell? ⟨w.heap.size, 0, none⟩ = some (.int .i64 (S : Int)) ∧ ((w13.setCell ⟨w.heap.size + 3, 0, none⟩ (.string T1)).setCell ⟨w.heap.size + 3, 1, none⟩ (.string T2)).cell? ⟨w.heap.size, 1, none⟩ = some (.slice qa ql qc) ∧ ((w13.setCell ⟨w.heap.size + 3, 0, none⟩ (.string T1)).setCell ⟨w.heap.size + 3, 1, none⟩ (.string T2)).cell? ⟨w.heap.size, 2, none⟩ = some (.slice pa pl pc) ∧ ((w13.setCell ⟨w.heap.size + 3, 0, none⟩ (.string T1)).setCell ⟨w.heap.size + 3, 1, none⟩ (.string T2)).cell? ⟨w.heap.size + 1, 0, none⟩ = some (.string a) ∧ ((w13.setCell ⟨w.heap.size + 3, 0, none⟩ (.string T1)).setCell ⟨w.heap.size + 3, 1, none⟩ (.string T2)).cell? ⟨w.heap.size + 1, 1, none⟩ = some (.string b) ∧ ((w13.setCell ⟨w.heap.size + 3, 0, none⟩ (.string T1)).setCell ⟨w.heap.size + 3, 1, none⟩ (.string T2)).cell? ⟨w.heap.size + 2, 0, none⟩ = some (.string x) ∧ ((w13.setCell ⟨w.heap.size + 3, 0, none⟩ (.string T1)).setCell ⟨w.heap.size + 3, 1, none⟩ (.string T2)).cell? ⟨w.heap.size + 2, 1, none⟩ = some (.string y)) := ⟨Jg3.out.cell 0 (by simp), Jg3.out.cell 1 (by simp), Jg3.out.cell 2 (by simp), Ja3.out.cell 0 (by simp), Ja3.out.cell 1 (by simp), Jx3.out.cell 0 (by simp), Jx3.out.cell 1 (by simp)⟩; clear Jg3 Ja3 Jx3 hBut)
      | fail)
  clear zr0 zr1 fr KS
  have I4 : Hid (IHolds ((w13.setCell ⟨w.heap.size + 3, 0, none⟩ (.string T1)).setCell ⟨w.heap.size + 3, 1, none⟩ (.string T2)) (w.heap.size + 3) 24 [.string T1, .string T2]) := ((Jr2.out.set 0 _).set 1 _)
  have B4 : Hid (Below w.heap.size w ((w13.setCell ⟨w.heap.size + 3, 0, none⟩ (.string T1)).setCell ⟨w.heap.size + 3, 1, none⟩ (.string T2))) := (((B.out.trans (B13.out.mono B.out.size)).setCell (by show w.heap.size ≤ w.heap.size + 3; omega) _).setCell (by show w.heap.size ≤ w.heap.size + 3; omega) _)
  generalize ((w13.setCell ⟨w.heap.size + 3, 0, none⟩ (.string T1)).setCell ⟨w.heap.size + 3, 1, none⟩ (.string T2)) = WF at *
  have E0 : Hid (WF.cell? ⟨w.heap.size + 3, 0, none⟩ = some (.string T1)) := I4.out.cell 0 (by simp)
  have E1 : Hid (WF.cell? ⟨w.heap.size + 3, 1, none⟩ = some (.string T2)) := I4.out.cell 1 (by simp)
  go_wp2_with fail
  exact bodyPost_ret (v := .agg #[.string T1, .string T2]) (by simp [results, Tryz.results26, go_sem, E0.out, E1.out]) rfl ⟨rfl, B4.out⟩
theorem under_sameE (h : PK S M M2) {x : Nat} (hx : ¬ M2 ∣ x) : E M M2 (x ^ (M - 1)) = E M M2 (x ^ (M2 - 2)) := by
  have e2 := h.e2
  have m1 := h.m1
  have q : ∀ j, E M M2 (x ^ j) = E M M2 (x ^ (j % M)) := fun j => by
    have e : ∀ t, E M M2 (x ^ t) = E M M2 ((x % M2) ^ t) := fun t => E_mod (by rw [Nat.pow_mod])
    rw [e j, e (j % M)]
    exact sgn_exp h.hp e2 (by omega) (fun c => hx (Nat.dvd_of_mod_eq_zero c)) (h.ml x) j
  rw [q (M2 - 2), q (M - 1)]
  congr 2
  rw [e2, show 2 * M + 1 - 2 = (M - 1) + M by omega, Nat.add_mod_right]
theorem underE (k : KD z G S Wd M low one sq Ri Wd2 M2 low2 one2 sq2 Ri2) (h : PK S M M2) {W : World} {u1 u2 va : Value} {x : Nat} (hx : ¬ M2 ∣ x) (h1 : NumV W 65536 M u1) (h2 : NumV W 65536 M2 u2) (ha : NumV W 65536 (E M M2 x) va) :
    Calls Tryz.prog 50 #[.agg #[.int .i64 (S : Int), u1, u2], va] W fun e w' => (∃ v, e = .returned v ∧ NumV w' 65536 (E M M2 (x ^ (M2 - 2))) v) ∧ Below W.heap.size W w' := by
  have q := underV k h1 h2 ha (by have := E_le (x := x) h; have := h.e2; omega)
  have e : sgn M M2 (E M M2 x ^ (M - 1) % M2) = E M M2 (x ^ (M - 1)) := by
    unfold E
    rw [sgn_pow h.e2 (by have := h.m1; omega) (h.ml x), ← Nat.pow_mod]
  rw [e, under_sameE h hx] at q
  exact q
set_option maxHeartbeats 4000000 in
theorem shown31 (k : KD z G S Wd M low one sq Ri Wd2 M2 low2 one2 sq2 Ri2) (h : PK S M M2) {w : World} {qa pa : Option Addr} {ql qc pl pc : Nat} {s a b : ByteArray} (hs : isSc S M s = true) (ha : isEl S M a = true) (hb : isEl S M b = true) (n1 : NumV w 65536 M (.slice qa ql qc)) (n2 : NumV w 65536 M2 (.slice pa pl pc)) :
    Calls Tryz.prog 31 #[.agg #[.int .i64 (S : Int), .slice qa ql qc, .slice pa pl pc], .string s, .agg #[.string a, .string b]] w fun e w' => (∃ v, e = .returned v ∧ NumV w' 65536 (E M M2 (numS b * (numS a ^ numS s) ^ (M2 - 2))) v) ∧ Below w.heap.size w w' := by
  obtain ⟨e4, he4⟩ : ∃ e4, E M M2 (numS b * (numS a ^ numS s) ^ (M2 - 2)) = e4 := ⟨_, rfl⟩
  rw [he4]
  go_enter Tryz.func31, Tryz.ntmps31
  go_wp2_with fail
  obtain ⟨W1, hW1⟩ : ∃ X, X = ((w.alloc (.cells #[.int .i64 (S : Int), .slice qa ql qc, .slice pa pl pc] 42)).alloc (.cells #[.string a, .string b] 24)) := ⟨_, rfl⟩
  have Jg : Hid (IHolds W1 (w.heap.size) 42 [.int .i64 (S : Int), .slice qa ql qc, .slice pa pl pc]) := by
    have q := IHolds.new w 42 [.int .i64 (S : Int), .slice qa ql qc, .slice pa pl pc]
    show IHolds _ _ _ _
    rw [hW1]
    exact (q.alloc _)
  have Jc : Hid (IHolds W1 (w.heap.size + 1) 24 [.string a, .string b]) := by
    have q := IHolds.new (w.alloc (.cells #[.int .i64 (S : Int), .slice qa ql qc, .slice pa pl pc] 42)) 24 [.string a, .string b]
    simp only [World.size_alloc, Nat.add_assoc, Nat.reduceAdd] at q
    show IHolds _ _ _ _
    rw [hW1]
    exact q
  have B : Hid (Below w.heap.size w W1) := by
    show Below _ _ _
    rw [hW1]
    exact (((Below.refl _ w).alloc (Nat.le_refl _) _).alloc (by simp only [World.size_alloc]; omega) _)
  rw [← hW1]
  clear hW1
  obtain ⟨W, rfl⟩ : ∃ W, W = W1 := ⟨_, rfl⟩
  have sB : Hid (∀ V V', Below V.heap.size V V' → Below W.heap.size W V → Below W.heap.size W V') := fun V V' h h' => h'.trans (h.mono h'.size)
  have NB : Hid (∀ V, Below W.heap.size W V → NumV V 65536 M (.slice qa ql qc) ∧ NumV V 65536 M2 (.slice pa pl pc)) := fun V hV => ⟨(n1.of_below B.out).of_below hV, (n2.of_below B.out).of_below hV⟩
  have KP : Hid (∀ V, Below W.heap.size W V → (V.cell? ⟨w.heap.size, 0, none⟩ = some (.int .i64 (S : Int)) ∧ V.cell? ⟨w.heap.size, 1, none⟩ = some (.slice qa ql qc) ∧ V.cell? ⟨w.heap.size, 2, none⟩ = some (.slice pa pl pc) ∧ V.cell? ⟨w.heap.size + 1, 0, none⟩ = some (.string a) ∧ V.cell? ⟨w.heap.size + 1, 1, none⟩ = some (.string b))) := fun V hV => ⟨(Jg.out.of_below hV).cell 0 (by simp), (Jg.out.of_below hV).cell 1 (by simp), (Jg.out.of_below hV).cell 2 (by simp), (Jc.out.of_below hV).cell 0 (by simp), (Jc.out.of_below hV).cell 1 (by simp)⟩
  have Rb : Hid (∀ V, Calls Tryz.prog 20 #[.string b] V fun e w' => (∃ v, e = .returned v ∧ NumV w' 65536 (E M M2 (numS b)) v) ∧ Below V.heap.size V w') := fun V => by rw [el_E h hb]; exact read_small (isEl_size hb) k.hS V
  have Ra : Hid (∀ V, Calls Tryz.prog 20 #[.string a] V fun e w' => (∃ v, e = .returned v ∧ NumV w' 65536 (numS a) v) ∧ Below V.heap.size V w') := fun V => read_small (isEl_size ha) k.hS V
  have Rs : Hid (∀ V, Calls Tryz.prog 20 #[.string s] V fun e w' => (∃ v, e = .returned v ∧ NumV w' 65536 (numS s) v) ∧ Below V.heap.size V w') := fun V => read_small (isSc_size hs) k.hS V
  have P1 : Hid (∀ V va vb, Below W.heap.size W V → NumV V 65536 (numS a) va → NumV V 65536 (numS s) vb → Calls Tryz.prog 44 #[.agg #[.int .i64 (S : Int), .slice qa ql qc, .slice pa pl pc], va, vb] V fun e w' => (∃ v, e = .returned v ∧ NumV w' 65536 (E M M2 (numS a ^ numS s)) v) ∧ Below V.heap.size V w') := fun V va vb hV g1 g2 => powerEV k (NB.out V hV).1 (NB.out V hV).2 g1 g2 (k.el ha) (Nat.le_of_lt (isSc_lt hs))
  have P2 : Hid (∀ V va, Below W.heap.size W V → NumV V 65536 (E M M2 (numS a ^ numS s)) va → Calls Tryz.prog 50 #[.agg #[.int .i64 (S : Int), .slice qa ql qc, .slice pa pl pc], va] V fun e w' => (∃ v, e = .returned v ∧ NumV w' 65536 (E M M2 ((numS a ^ numS s) ^ (M2 - 2))) v) ∧ Below V.heap.size V w') := fun V va hV g1 => underE k h (h.np (el_nd h ha) _) (NB.out V hV).1 (NB.out V hV).2 g1
  have P3 : Hid (∀ V va vb, Below W.heap.size W V → NumV V 65536 (E M M2 (numS b)) va → NumV V 65536 (E M M2 ((numS a ^ numS s) ^ (M2 - 2))) vb → Calls Tryz.prog 42 #[.agg #[.int .i64 (S : Int), .slice qa ql qc, .slice pa pl pc], va, vb] V fun e w' => (∃ v, e = .returned v ∧ NumV w' 65536 (E M M2 (numS b * (numS a ^ numS s) ^ (M2 - 2))) v) ∧ Below V.heap.size V w') := fun V va vb hV g1 g2 => prodE k h (NB.out V hV).1 (NB.out V hV).2 g1 g2
  rw [he4] at P3
  clear he4
  generalize E M M2 ((numS a ^ numS s) ^ (M2 - 2)) = e3 at *
  generalize E M M2 (numS a ^ numS s) = e2 at *
  generalize E M M2 (numS b) = eb at *
  generalize numS a = na at *
  generalize numS s = ns at *
  clear n1 n2 ha hb hs NB
  go_region_held3 (fun V => V.cell? ⟨w.heap.size, 0, none⟩ = some (.int .i64 (S : Int)) ∧ V.cell? ⟨w.heap.size, 1, none⟩ = some (.slice qa ql qc) ∧ V.cell? ⟨w.heap.size, 2, none⟩ = some (.slice pa pl pc) ∧ V.cell? ⟨w.heap.size + 1, 0, none⟩ = some (.string a) ∧ V.cell? ⟨w.heap.size + 1, 1, none⟩ = some (.string b))
    (first | exact KP.out _ (dB _) | assumption | exact KP.out _ B11.out | exact KP.out _ B10.out | exact KP.out _ B9.out | exact KP.out _ B8.out | exact KP.out _ B7.out | exact KP.out _ B6.out | fail)
    (first
      | (go_at_call 20; have zz := Rb.out; clear zz; refine (Rb.out _).mono ?_; rintro e w6 ⟨⟨r6, rfl, n6⟩, hB6⟩; have B6 : Hid (Below W.heap.size W w6) := sB.out _ _ hB6 (dB _); have M6 : Hid (NumV w6 65536 (eb) r6) := n6; clear n6; clear Rb)
      | (go_at_call 20; have zz := Ra.out; clear zz; refine (Ra.out _).mono ?_; rintro e w7 ⟨⟨r7, rfl, n7⟩, hB7⟩; have B7 : Hid (Below W.heap.size W w7) := sB.out _ _ hB7 B6.out; have M7 : Hid (NumV w7 65536 (na) r7) := n7; clear n7; replace M6 : Hid (NumV w7 65536 (eb) r6) := M6.out.of_below hB7; clear Ra)
      | (go_at_call 20; have zz := Rs.out; clear zz; refine (Rs.out _).mono ?_; rintro e w8 ⟨⟨r8, rfl, n8⟩, hB8⟩; have B8 : Hid (Below W.heap.size W w8) := sB.out _ _ hB8 B7.out; have M8 : Hid (NumV w8 65536 (ns) r8) := n8; clear n8; replace M6 : Hid (NumV w8 65536 (eb) r6) := M6.out.of_below hB8; replace M7 : Hid (NumV w8 65536 (na) r7) := M7.out.of_below hB8; clear Rs)
      | (go_at_call 44; have zz := P1.out; clear zz; refine (P1.out _ _ _ B8.out M7.out M8.out).mono ?_; rintro e w9 ⟨⟨r9, rfl, n9⟩, hB9⟩; have B9 : Hid (Below W.heap.size W w9) := sB.out _ _ hB9 B8.out; have M9 : Hid (NumV w9 65536 (e2) r9) := n9; clear n9; replace M6 : Hid (NumV w9 65536 (eb) r6) := M6.out.of_below hB9; clear P1)
      | (go_at_call 50; have zz := P2.out; clear zz; refine (P2.out _ _ B9.out M9.out).mono ?_; rintro e w10 ⟨⟨r10, rfl, n10⟩, hB10⟩; have B10 : Hid (Below W.heap.size W w10) := sB.out _ _ hB10 B9.out; have M10 : Hid (NumV w10 65536 (e3) r10) := n10; clear n10; replace M6 : Hid (NumV w10 65536 (eb) r6) := M6.out.of_below hB10; clear P2)
      | (go_at_call 42; have zz := P3.out; clear zz; refine (P3.out _ _ _ B10.out M6.out M10.out).mono ?_; rintro e w11 ⟨⟨r11, rfl, n11⟩, hB11⟩; have B11 : Hid (Below W.heap.size W w11) := sB.out _ _ hB11 B10.out; have M11 : Hid (NumV w11 65536 (e4) r11) := n11; clear n11; clear P3)
      | fail)
  go_wp2_with fail
  go_ret
  exact ⟨⟨_, rfl, M11.out⟩, B.out.trans (B11.out.mono B.out.size)⟩
end
end Go.Proofs.YtohpbclofcflaaaGreat
namespace Go.Proofs.YtohpbclofcflaaaGreat
open Go.RowKit Go.Deep Go.PlainAid

section
variable {z : Int} {G : Array Value} {S Wd M low one sq Ri Wd2 M2 low2 one2 sq2 Ri2 : Nat}
set_option maxHeartbeats 4000000 in
theorem ref5_none {w : World} {z : Int} (z1 : z ≠ 1) (z2 : z ≠ 2) (z3 : z ≠ 3) {key x n : ByteArray} :
    Calls Tryz.prog 5 #[.int .i64 z, .string key, .string x, .string n] w fun e w' => e = .returned (.tuple #[.agg #[.string ⟨#[]⟩, .string ⟨#[]⟩], .int .i64 1]) ∧ Below w.heap.size w w' := by
  have q1 : Hid ((z == 1) = false) := beq_eq_false_iff_ne.2 z1
  have q1' : Hid ((z != 1) = true) := bne_iff_ne.2 z1
  have q2 : Hid ((z == 2) = false) := beq_eq_false_iff_ne.2 z2
  have q3 : Hid ((z == 3) = false) := beq_eq_false_iff_ne.2 z3
  clear z1 z2 z3
  go_enter Tryz.func5, Tryz.ntmps5
  go_wp2_with fail
  obtain ⟨W1, hW1⟩ : ∃ X, X = (w.alloc (.cells #[.string ⟨#[]⟩, .string ⟨#[]⟩] 24)) := ⟨_, rfl⟩
  have Jr : Hid (IHolds W1 (w.heap.size) 24 [.string ⟨#[]⟩, .string ⟨#[]⟩]) := by
    have q := IHolds.new w 24 [.string ⟨#[]⟩, .string ⟨#[]⟩]
    show IHolds _ _ _ _
    rw [hW1]
    exact q
  have B : Hid (Below w.heap.size w W1) := by
    show Below _ _ _
    rw [hW1]
    exact ((Below.refl _ w).alloc (Nat.le_refl _) _)
  rw [← hW1]
  clear hW1
  have q := kind0 W1 z q1.out q1'.out q2.out q3.out
  refine q.mono ?_
  clear q
  rintro e W2 ⟨rfl, hb⟩
  replace B := aB B hb
  replace Jr := aJ Jr hb
  clear hb
  have hb := nB W2 (.cells #[.int .i64 0, .slice none 0 0, .slice none 0 0] 42)
  have Jg : Hid (IHolds (W2.alloc (.cells #[.int .i64 0, .slice none 0 0, .slice none 0 0] 42)) W2.heap.size 42 [.int .i64 0, .slice none 0 0, .slice none 0 0]) := IHolds.new _ _ _
  have ne_r_g := nJ Jr
  have ge_g : Hid (w.heap.size ≤ W2.heap.size) := B.out.size
  replace B := aB B hb
  replace Jr := aJ Jr hb
  clear hb
  obtain ⟨zr_0, zr_1⟩ := cJ Jr
  have f0 := fJ Jr
  have I4 : Hid (IHolds (((W2.alloc (.cells #[.int .i64 0, .slice none 0 0, .slice none 0 0] 42)).setCell ⟨w.heap.size, 0, none⟩ (.string ⟨#[]⟩)).setCell ⟨w.heap.size, 1, none⟩ (.string ⟨#[]⟩)) (w.heap.size) 24 [.string ⟨#[]⟩, .string ⟨#[]⟩]) := ((Jr.out.set 0 _).set 1 _)
  have B4 : Hid (Below w.heap.size w (((W2.alloc (.cells #[.int .i64 0, .slice none 0 0, .slice none 0 0] 42)).setCell ⟨w.heap.size, 0, none⟩ (.string ⟨#[]⟩)).setCell ⟨w.heap.size, 1, none⟩ (.string ⟨#[]⟩))) := ((B.out.setCell (by show w.heap.size ≤ w.heap.size; omega) _).setCell (by show w.heap.size ≤ w.heap.size; omega) _)
  go_wp2_with fail
  clear zr_0 zr_1 f0
  generalize (((W2.alloc (.cells #[.int .i64 0, .slice none 0 0, .slice none 0 0] 42)).setCell ⟨w.heap.size, 0, none⟩ (.string ⟨#[]⟩)).setCell ⟨w.heap.size, 1, none⟩ (.string ⟨#[]⟩)) = W3 at *
  have E0 : Hid (W3.cell? ⟨w.heap.size, 0, none⟩ = some (.string ⟨#[]⟩)) := I4.out.cell 0 (by simp)
  have E1 : Hid (W3.cell? ⟨w.heap.size, 1, none⟩ = some (.string ⟨#[]⟩)) := I4.out.cell 1 (by simp)
  exact bodyPost_ret (v := .tuple #[.agg #[.string ⟨#[]⟩, .string ⟨#[]⟩], .int .i64 1]) (by simp [results, Tryz.results5, go_sem, E0.out, E1.out]) rfl ⟨rfl, B4.out⟩
set_option maxHeartbeats 4000000 in
theorem ref9_none {w : World} {z : Int} (z1 : z ≠ 1) (z2 : z ≠ 2) (z3 : z ≠ 3) {key a b n : ByteArray} :
    Calls Tryz.prog 9 #[.int .i64 z, .string key, .agg #[.string a, .string b], .string n] w fun e w' => e = .returned (.tuple #[.agg #[.string ⟨#[]⟩, .string ⟨#[]⟩], .int .i64 1]) ∧ Below w.heap.size w w' := by
  have q1 : Hid ((z == 1) = false) := beq_eq_false_iff_ne.2 z1
  have q1' : Hid ((z != 1) = true) := bne_iff_ne.2 z1
  have q2 : Hid ((z == 2) = false) := beq_eq_false_iff_ne.2 z2
  have q3 : Hid ((z == 3) = false) := beq_eq_false_iff_ne.2 z3
  clear z1 z2 z3
  go_enter Tryz.func9, Tryz.ntmps9
  go_wp2_with fail
  obtain ⟨W1, hW1⟩ : ∃ X, X = ((w.alloc (.cells #[.string a, .string b] 24)).alloc (.cells #[.string ⟨#[]⟩, .string ⟨#[]⟩] 24)) := ⟨_, rfl⟩
  have Jc : Hid (IHolds W1 (w.heap.size) 24 [.string a, .string b]) := by
    have q := IHolds.new w 24 [.string a, .string b]
    show IHolds _ _ _ _
    rw [hW1]
    exact (q.alloc _)
  have Jr : Hid (IHolds W1 (w.heap.size + 1) 24 [.string ⟨#[]⟩, .string ⟨#[]⟩]) := by
    have q := IHolds.new (w.alloc (.cells #[.string a, .string b] 24)) 24 [.string ⟨#[]⟩, .string ⟨#[]⟩]
    simp only [World.size_alloc, Nat.add_assoc, Nat.reduceAdd] at q
    show IHolds _ _ _ _
    rw [hW1]
    exact q
  have B : Hid (Below w.heap.size w W1) := by
    show Below _ _ _
    rw [hW1]
    exact (((Below.refl _ w).alloc (Nat.le_refl _) _).alloc (by simp only [World.size_alloc]; omega) _)
  rw [← hW1]
  clear hW1
  have q := kind0 W1 z q1.out q1'.out q2.out q3.out
  refine q.mono ?_
  clear q
  rintro e W2 ⟨rfl, hb⟩
  replace B := aB B hb
  replace Jc := aJ Jc hb
  replace Jr := aJ Jr hb
  clear hb
  have hb := nB W2 (.cells #[.int .i64 0, .slice none 0 0, .slice none 0 0] 42)
  have Jg : Hid (IHolds (W2.alloc (.cells #[.int .i64 0, .slice none 0 0, .slice none 0 0] 42)) W2.heap.size 42 [.int .i64 0, .slice none 0 0, .slice none 0 0]) := IHolds.new _ _ _
  have ne_c_g := nJ Jc
  have ne_r_g := nJ Jr
  have ge_g : Hid (w.heap.size ≤ W2.heap.size) := B.out.size
  replace B := aB B hb
  replace Jc := aJ Jc hb
  replace Jr := aJ Jr hb
  clear hb
  obtain ⟨zr_0, zr_1⟩ := cJ Jr
  have f0 := fJ Jr
  have I4 : Hid (IHolds (((W2.alloc (.cells #[.int .i64 0, .slice none 0 0, .slice none 0 0] 42)).setCell ⟨w.heap.size + 1, 0, none⟩ (.string ⟨#[]⟩)).setCell ⟨w.heap.size + 1, 1, none⟩ (.string ⟨#[]⟩)) (w.heap.size + 1) 24 [.string ⟨#[]⟩, .string ⟨#[]⟩]) := ((Jr.out.set 0 _).set 1 _)
  have B4 : Hid (Below w.heap.size w (((W2.alloc (.cells #[.int .i64 0, .slice none 0 0, .slice none 0 0] 42)).setCell ⟨w.heap.size + 1, 0, none⟩ (.string ⟨#[]⟩)).setCell ⟨w.heap.size + 1, 1, none⟩ (.string ⟨#[]⟩))) := ((B.out.setCell (by show w.heap.size ≤ w.heap.size + 1; omega) _).setCell (by show w.heap.size ≤ w.heap.size + 1; omega) _)
  go_wp2_with fail
  clear zr_0 zr_1 f0
  generalize (((W2.alloc (.cells #[.int .i64 0, .slice none 0 0, .slice none 0 0] 42)).setCell ⟨w.heap.size + 1, 0, none⟩ (.string ⟨#[]⟩)).setCell ⟨w.heap.size + 1, 1, none⟩ (.string ⟨#[]⟩)) = W3 at *
  have E0 : Hid (W3.cell? ⟨w.heap.size + 1, 0, none⟩ = some (.string ⟨#[]⟩)) := I4.out.cell 0 (by simp)
  have E1 : Hid (W3.cell? ⟨w.heap.size + 1, 1, none⟩ = some (.string ⟨#[]⟩)) := I4.out.cell 1 (by simp)
  exact bodyPost_ret (v := .tuple #[.agg #[.string ⟨#[]⟩, .string ⟨#[]⟩], .int .i64 1]) (by simp [results, Tryz.results9, go_sem, E0.out, E1.out]) rfl ⟨rfl, B4.out⟩
set_option maxHeartbeats 4000000 in
theorem ref11_none {w : World} {z : Int} (z1 : z ≠ 1) (z2 : z ≠ 2) (z3 : z ≠ 3) {s a b : ByteArray} :
    Calls Tryz.prog 11 #[.int .i64 z, .string s, .agg #[.string a, .string b]] w fun e w' => e = .returned (.tuple #[.string ⟨#[]⟩, .int .i64 1]) ∧ Below w.heap.size w w' := by
  have q1 : Hid ((z == 1) = false) := beq_eq_false_iff_ne.2 z1
  have q1' : Hid ((z != 1) = true) := bne_iff_ne.2 z1
  have q2 : Hid ((z == 2) = false) := beq_eq_false_iff_ne.2 z2
  have q3 : Hid ((z == 3) = false) := beq_eq_false_iff_ne.2 z3
  clear z1 z2 z3
  go_enter Tryz.func11, Tryz.ntmps11
  go_wp2_with fail
  obtain ⟨W1, hW1⟩ : ∃ X, X = (w.alloc (.cells #[.string a, .string b] 24)) := ⟨_, rfl⟩
  have Jc : Hid (IHolds W1 (w.heap.size) 24 [.string a, .string b]) := by
    have q := IHolds.new w 24 [.string a, .string b]
    show IHolds _ _ _ _
    rw [hW1]
    exact q
  have B : Hid (Below w.heap.size w W1) := by
    show Below _ _ _
    rw [hW1]
    exact ((Below.refl _ w).alloc (Nat.le_refl _) _)
  rw [← hW1]
  clear hW1
  have q := kind0 W1 z q1.out q1'.out q2.out q3.out
  refine q.mono ?_
  clear q
  rintro e W2 ⟨rfl, hb⟩
  replace B := aB B hb
  replace Jc := aJ Jc hb
  clear hb
  have hb := nB W2 (.cells #[.int .i64 0, .slice none 0 0, .slice none 0 0] 42)
  have Jg : Hid (IHolds (W2.alloc (.cells #[.int .i64 0, .slice none 0 0, .slice none 0 0] 42)) W2.heap.size 42 [.int .i64 0, .slice none 0 0, .slice none 0 0]) := IHolds.new _ _ _
  have ne_c_g := nJ Jc
  have ge_g : Hid (w.heap.size ≤ W2.heap.size) := B.out.size
  replace B := aB B hb
  replace Jc := aJ Jc hb
  clear hb
  go_wp2_with fail
  exact bodyPost_ret (v := .tuple #[.string ⟨#[]⟩, .int .i64 1]) (by simp [results, Tryz.results11, go_sem]) rfl ⟨rfl, B.out⟩
set_option maxHeartbeats 4000000 in
theorem ref7_none {w : World} {z : Int} (z1 : z ≠ 1) (z2 : z ≠ 2) (z3 : z ≠ 3) {ca : Option Addr} {cn cc : Nat} :
    Calls Tryz.prog 7 #[.int .i64 z, .slice ca cn cc] w fun e w' => e = .returned (.tuple #[.agg #[.string ⟨#[]⟩, .string ⟨#[]⟩], .int .i64 1]) ∧ Below w.heap.size w w' := by
  have q1 : Hid ((z == 1) = false) := beq_eq_false_iff_ne.2 z1
  have q1' : Hid ((z != 1) = true) := bne_iff_ne.2 z1
  have q2 : Hid ((z == 2) = false) := beq_eq_false_iff_ne.2 z2
  have q3 : Hid ((z == 3) = false) := beq_eq_false_iff_ne.2 z3
  clear z1 z2 z3
  go_enter Tryz.func7, Tryz.ntmps7
  go_wp2_with fail
  obtain ⟨W1, hW1⟩ : ∃ X, X = (w.alloc (.cells #[.string ⟨#[]⟩, .string ⟨#[]⟩] 24)) := ⟨_, rfl⟩
  have Jr : Hid (IHolds W1 (w.heap.size) 24 [.string ⟨#[]⟩, .string ⟨#[]⟩]) := by
    have q := IHolds.new w 24 [.string ⟨#[]⟩, .string ⟨#[]⟩]
    show IHolds _ _ _ _
    rw [hW1]
    exact q
  have B : Hid (Below w.heap.size w W1) := by
    show Below _ _ _
    rw [hW1]
    exact ((Below.refl _ w).alloc (Nat.le_refl _) _)
  rw [← hW1]
  clear hW1
  have q := kind0 W1 z q1.out q1'.out q2.out q3.out
  refine q.mono ?_
  clear q
  rintro e W2 ⟨rfl, hb⟩
  replace B := aB B hb
  replace Jr := aJ Jr hb
  clear hb
  have hb := nB W2 (.cells #[.int .i64 0, .slice none 0 0, .slice none 0 0] 42)
  have Jg : Hid (IHolds (W2.alloc (.cells #[.int .i64 0, .slice none 0 0, .slice none 0 0] 42)) W2.heap.size 42 [.int .i64 0, .slice none 0 0, .slice none 0 0]) := IHolds.new _ _ _
  have ne_r_g := nJ Jr
  have ge_g : Hid (w.heap.size ≤ W2.heap.size) := B.out.size
  replace B := aB B hb
  replace Jr := aJ Jr hb
  clear hb
  obtain ⟨zr_0, zr_1⟩ := cJ Jr
  have f0 := fJ Jr
  have I4 : Hid (IHolds (((W2.alloc (.cells #[.int .i64 0, .slice none 0 0, .slice none 0 0] 42)).setCell ⟨w.heap.size, 0, none⟩ (.string ⟨#[]⟩)).setCell ⟨w.heap.size, 1, none⟩ (.string ⟨#[]⟩)) (w.heap.size) 24 [.string ⟨#[]⟩, .string ⟨#[]⟩]) := ((Jr.out.set 0 _).set 1 _)
  have B4 : Hid (Below w.heap.size w (((W2.alloc (.cells #[.int .i64 0, .slice none 0 0, .slice none 0 0] 42)).setCell ⟨w.heap.size, 0, none⟩ (.string ⟨#[]⟩)).setCell ⟨w.heap.size, 1, none⟩ (.string ⟨#[]⟩))) := ((B.out.setCell (by show w.heap.size ≤ w.heap.size; omega) _).setCell (by show w.heap.size ≤ w.heap.size; omega) _)
  go_wp2_with fail
  clear zr_0 zr_1 f0
  generalize (((W2.alloc (.cells #[.int .i64 0, .slice none 0 0, .slice none 0 0] 42)).setCell ⟨w.heap.size, 0, none⟩ (.string ⟨#[]⟩)).setCell ⟨w.heap.size, 1, none⟩ (.string ⟨#[]⟩)) = W3 at *
  have E0 : Hid (W3.cell? ⟨w.heap.size, 0, none⟩ = some (.string ⟨#[]⟩)) := I4.out.cell 0 (by simp)
  have E1 : Hid (W3.cell? ⟨w.heap.size, 1, none⟩ = some (.string ⟨#[]⟩)) := I4.out.cell 1 (by simp)
  exact bodyPost_ret (v := .tuple #[.agg #[.string ⟨#[]⟩, .string ⟨#[]⟩], .int .i64 1]) (by simp [results, Tryz.results7, go_sem, E0.out, E1.out]) rfl ⟨rfl, B4.out⟩
set_option maxHeartbeats 4000000 in
theorem ref5_A (k : KD z G S Wd M low one sq Ri Wd2 M2 low2 one2 sq2 Ri2) {w : World} {key x n : ByteArray} (k1 : isEl S M key = false) :
    Calls Tryz.prog 5 #[.int .i64 z, .string key, .string x, .string n] w fun e w' => e = .returned (.tuple #[.agg #[.string ⟨#[]⟩, .string ⟨#[]⟩], .int .i64 7]) ∧ Below w.heap.size w w' := by
  have Xk1 : Hid (isEl S M key = false) := k1
  clear k1
  have hS0 := k.hS0
  go_enter Tryz.func5, Tryz.ntmps5
  go_wp2_with fail
  obtain ⟨W1, hW1⟩ : ∃ X, X = (w.alloc (.cells #[.string ⟨#[]⟩, .string ⟨#[]⟩] 24)) := ⟨_, rfl⟩
  have Jr : Hid (IHolds W1 (w.heap.size) 24 [.string ⟨#[]⟩, .string ⟨#[]⟩]) := by
    have q := IHolds.new w 24 [.string ⟨#[]⟩, .string ⟨#[]⟩]
    show IHolds _ _ _ _
    rw [hW1]
    exact q
  have B : Hid (Below w.heap.size w W1) := by
    show Below _ _ _
    rw [hW1]
    exact ((Below.refl _ w).alloc (Nat.le_refl _) _)
  rw [← hW1]
  clear hW1
  refine (k.K9 _).mono ?_
  rintro e W2 ⟨⟨u1, u2, rfl, n1, n2⟩, hb⟩
  replace B := aB B hb
  replace Jr := aJ Jr hb
  clear hb
  obtain ⟨qa, ql, qc, rfl⟩ := sN (show Hid (NumV W2 65536 M u1) from n1)
  obtain ⟨pa, pl, pc, rfl⟩ := sN (show Hid (NumV W2 65536 M2 u2) from n2)
  have N1 : Hid (NumV W2 65536 M (.slice qa ql qc)) := n1
  have N2 : Hid (NumV W2 65536 M2 (.slice pa pl pc)) := n2
  clear n1 n2
  have hb := nB W2 (.cells #[.int .i64 (S : Int), .slice qa ql qc, .slice pa pl pc] 42)
  have Jg : Hid (IHolds (W2.alloc (.cells #[.int .i64 (S : Int), .slice qa ql qc, .slice pa pl pc] 42)) W2.heap.size 42 [.int .i64 (S : Int), .slice qa ql qc, .slice pa pl pc]) := IHolds.new _ _ _
  have ne_r_g := nJ Jr
  have ge_g : Hid (w.heap.size ≤ W2.heap.size) := B.out.size
  replace B := aB B hb
  replace Jr := aJ Jr hb
  replace N1 := aN N1 hb
  replace N2 := aN N2 hb
  clear hb
  go_wp2_with fail
  generalize (W2.alloc (.cells #[.int .i64 (S : Int), .slice qa ql qc, .slice pa pl pc] 42)) = W3 at *
  generalize W2.heap.size = b4 at *
  have q := isElemV N1.out N2.out key k.hS k.l6
  rw [Xk1.out] at q
  refine q.mono ?_
  clear q
  rintro e W5 ⟨rfl, hb⟩
  replace B := aB B hb
  replace Jr := aJ Jr hb
  replace Jg := aJ Jg hb
  replace N1 := aN N1 hb
  replace N2 := aN N2 hb
  clear hb
  obtain ⟨zr_0, zr_1⟩ := cJ Jr
  have f0 := fJ Jr
  have I4 : Hid (IHolds ((W5.setCell ⟨w.heap.size, 0, none⟩ (.string ⟨#[]⟩)).setCell ⟨w.heap.size, 1, none⟩ (.string ⟨#[]⟩)) (w.heap.size) 24 [.string ⟨#[]⟩, .string ⟨#[]⟩]) := ((Jr.out.set 0 _).set 1 _)
  have B4 : Hid (Below w.heap.size w ((W5.setCell ⟨w.heap.size, 0, none⟩ (.string ⟨#[]⟩)).setCell ⟨w.heap.size, 1, none⟩ (.string ⟨#[]⟩))) := ((B.out.setCell (by show w.heap.size ≤ w.heap.size; omega) _).setCell (by show w.heap.size ≤ w.heap.size; omega) _)
  go_wp2_with fail
  clear zr_0 zr_1 f0
  generalize ((W5.setCell ⟨w.heap.size, 0, none⟩ (.string ⟨#[]⟩)).setCell ⟨w.heap.size, 1, none⟩ (.string ⟨#[]⟩)) = W6 at *
  have E0 : Hid (W6.cell? ⟨w.heap.size, 0, none⟩ = some (.string ⟨#[]⟩)) := I4.out.cell 0 (by simp)
  have E1 : Hid (W6.cell? ⟨w.heap.size, 1, none⟩ = some (.string ⟨#[]⟩)) := I4.out.cell 1 (by simp)
  exact bodyPost_ret (v := .tuple #[.agg #[.string ⟨#[]⟩, .string ⟨#[]⟩], .int .i64 7]) (by simp [results, Tryz.results5, go_sem, E0.out, E1.out]) rfl ⟨rfl, B4.out⟩
set_option maxHeartbeats 4000000 in
theorem ref5_B (k : KD z G S Wd M low one sq Ri Wd2 M2 low2 one2 sq2 Ri2) {w : World} {key x n : ByteArray} (k1 : isEl S M key = true) (k2 : isSc S M x = false) :
    Calls Tryz.prog 5 #[.int .i64 z, .string key, .string x, .string n] w fun e w' => e = .returned (.tuple #[.agg #[.string ⟨#[]⟩, .string ⟨#[]⟩], .int .i64 6]) ∧ Below w.heap.size w w' := by
  have Xk1 : Hid (isEl S M key = true) := k1
  have Xk2 : Hid (isSc S M x = false) := k2
  clear k1 k2
  have hS0 := k.hS0
  go_enter Tryz.func5, Tryz.ntmps5
  go_wp2_with fail
  obtain ⟨W1, hW1⟩ : ∃ X, X = (w.alloc (.cells #[.string ⟨#[]⟩, .string ⟨#[]⟩] 24)) := ⟨_, rfl⟩
  have Jr : Hid (IHolds W1 (w.heap.size) 24 [.string ⟨#[]⟩, .string ⟨#[]⟩]) := by
    have q := IHolds.new w 24 [.string ⟨#[]⟩, .string ⟨#[]⟩]
    show IHolds _ _ _ _
    rw [hW1]
    exact q
  have B : Hid (Below w.heap.size w W1) := by
    show Below _ _ _
    rw [hW1]
    exact ((Below.refl _ w).alloc (Nat.le_refl _) _)
  rw [← hW1]
  clear hW1
  refine (k.K9 _).mono ?_
  rintro e W2 ⟨⟨u1, u2, rfl, n1, n2⟩, hb⟩
  replace B := aB B hb
  replace Jr := aJ Jr hb
  clear hb
  obtain ⟨qa, ql, qc, rfl⟩ := sN (show Hid (NumV W2 65536 M u1) from n1)
  obtain ⟨pa, pl, pc, rfl⟩ := sN (show Hid (NumV W2 65536 M2 u2) from n2)
  have N1 : Hid (NumV W2 65536 M (.slice qa ql qc)) := n1
  have N2 : Hid (NumV W2 65536 M2 (.slice pa pl pc)) := n2
  clear n1 n2
  have hb := nB W2 (.cells #[.int .i64 (S : Int), .slice qa ql qc, .slice pa pl pc] 42)
  have Jg : Hid (IHolds (W2.alloc (.cells #[.int .i64 (S : Int), .slice qa ql qc, .slice pa pl pc] 42)) W2.heap.size 42 [.int .i64 (S : Int), .slice qa ql qc, .slice pa pl pc]) := IHolds.new _ _ _
  have ne_r_g := nJ Jr
  have ge_g : Hid (w.heap.size ≤ W2.heap.size) := B.out.size
  replace B := aB B hb
  replace Jr := aJ Jr hb
  replace N1 := aN N1 hb
  replace N2 := aN N2 hb
  clear hb
  go_wp2_with fail
  generalize (W2.alloc (.cells #[.int .i64 (S : Int), .slice qa ql qc, .slice pa pl pc] 42)) = W3 at *
  generalize W2.heap.size = b4 at *
  have q := isElemV N1.out N2.out key k.hS k.l6
  rw [Xk1.out] at q
  refine q.mono ?_
  clear q
  rintro e W5 ⟨rfl, hb⟩
  replace B := aB B hb
  replace Jr := aJ Jr hb
  replace Jg := aJ Jg hb
  replace N1 := aN N1 hb
  replace N2 := aN N2 hb
  clear hb
  have zg_0 : W5.cell? ⟨b4, 0, none⟩ = some (.int .i64 (S : Int)) := Jg.out.cell 0 (by simp)
  have zg_1 : W5.cell? ⟨b4, 1, none⟩ = some (.slice qa ql qc) := Jg.out.cell 1 (by simp)
  have zg_2 : W5.cell? ⟨b4, 2, none⟩ = some (.slice pa pl pc) := Jg.out.cell 2 (by simp)
  go_wp2_with fail
  clear zg_0 zg_1 zg_2
  have q := isScalarV N1.out N2.out x k.hS k.l6
  rw [Xk2.out] at q
  refine q.mono ?_
  clear q
  rintro e W6 ⟨rfl, hb⟩
  replace B := aB B hb
  replace Jr := aJ Jr hb
  replace Jg := aJ Jg hb
  replace N1 := aN N1 hb
  replace N2 := aN N2 hb
  clear hb
  obtain ⟨zr_0, zr_1⟩ := cJ Jr
  have f0 := fJ Jr
  have I4 : Hid (IHolds ((W6.setCell ⟨w.heap.size, 0, none⟩ (.string ⟨#[]⟩)).setCell ⟨w.heap.size, 1, none⟩ (.string ⟨#[]⟩)) (w.heap.size) 24 [.string ⟨#[]⟩, .string ⟨#[]⟩]) := ((Jr.out.set 0 _).set 1 _)
  have B4 : Hid (Below w.heap.size w ((W6.setCell ⟨w.heap.size, 0, none⟩ (.string ⟨#[]⟩)).setCell ⟨w.heap.size, 1, none⟩ (.string ⟨#[]⟩))) := ((B.out.setCell (by show w.heap.size ≤ w.heap.size; omega) _).setCell (by show w.heap.size ≤ w.heap.size; omega) _)
  go_wp2_with fail
  clear zr_0 zr_1 f0
  generalize ((W6.setCell ⟨w.heap.size, 0, none⟩ (.string ⟨#[]⟩)).setCell ⟨w.heap.size, 1, none⟩ (.string ⟨#[]⟩)) = W7 at *
  have E0 : Hid (W7.cell? ⟨w.heap.size, 0, none⟩ = some (.string ⟨#[]⟩)) := I4.out.cell 0 (by simp)
  have E1 : Hid (W7.cell? ⟨w.heap.size, 1, none⟩ = some (.string ⟨#[]⟩)) := I4.out.cell 1 (by simp)
  exact bodyPost_ret (v := .tuple #[.agg #[.string ⟨#[]⟩, .string ⟨#[]⟩], .int .i64 6]) (by simp [results, Tryz.results5, go_sem, E0.out, E1.out]) rfl ⟨rfl, B4.out⟩
set_option maxHeartbeats 4000000 in
theorem ref5_C (k : KD z G S Wd M low one sq Ri Wd2 M2 low2 one2 sq2 Ri2) {w : World} {key x n : ByteArray} (k1 : isEl S M key = true) (k2 : isSc S M x = true) (k3 : isSc S M n = false) :
    Calls Tryz.prog 5 #[.int .i64 z, .string key, .string x, .string n] w fun e w' => e = .returned (.tuple #[.agg #[.string ⟨#[]⟩, .string ⟨#[]⟩], .int .i64 6]) ∧ Below w.heap.size w w' := by
  have Xk1 : Hid (isEl S M key = true) := k1
  have Xk2 : Hid (isSc S M x = true) := k2
  have Xk3 : Hid (isSc S M n = false) := k3
  clear k1 k2 k3
  have hS0 := k.hS0
  go_enter Tryz.func5, Tryz.ntmps5
  go_wp2_with fail
  obtain ⟨W1, hW1⟩ : ∃ X, X = (w.alloc (.cells #[.string ⟨#[]⟩, .string ⟨#[]⟩] 24)) := ⟨_, rfl⟩
  have Jr : Hid (IHolds W1 (w.heap.size) 24 [.string ⟨#[]⟩, .string ⟨#[]⟩]) := by
    have q := IHolds.new w 24 [.string ⟨#[]⟩, .string ⟨#[]⟩]
    show IHolds _ _ _ _
    rw [hW1]
    exact q
  have B : Hid (Below w.heap.size w W1) := by
    show Below _ _ _
    rw [hW1]
    exact ((Below.refl _ w).alloc (Nat.le_refl _) _)
  rw [← hW1]
  clear hW1
  refine (k.K9 _).mono ?_
  rintro e W2 ⟨⟨u1, u2, rfl, n1, n2⟩, hb⟩
  replace B := aB B hb
  replace Jr := aJ Jr hb
  clear hb
  obtain ⟨qa, ql, qc, rfl⟩ := sN (show Hid (NumV W2 65536 M u1) from n1)
  obtain ⟨pa, pl, pc, rfl⟩ := sN (show Hid (NumV W2 65536 M2 u2) from n2)
  have N1 : Hid (NumV W2 65536 M (.slice qa ql qc)) := n1
  have N2 : Hid (NumV W2 65536 M2 (.slice pa pl pc)) := n2
  clear n1 n2
  have hb := nB W2 (.cells #[.int .i64 (S : Int), .slice qa ql qc, .slice pa pl pc] 42)
  have Jg : Hid (IHolds (W2.alloc (.cells #[.int .i64 (S : Int), .slice qa ql qc, .slice pa pl pc] 42)) W2.heap.size 42 [.int .i64 (S : Int), .slice qa ql qc, .slice pa pl pc]) := IHolds.new _ _ _
  have ne_r_g := nJ Jr
  have ge_g : Hid (w.heap.size ≤ W2.heap.size) := B.out.size
  replace B := aB B hb
  replace Jr := aJ Jr hb
  replace N1 := aN N1 hb
  replace N2 := aN N2 hb
  clear hb
  go_wp2_with fail
  generalize (W2.alloc (.cells #[.int .i64 (S : Int), .slice qa ql qc, .slice pa pl pc] 42)) = W3 at *
  generalize W2.heap.size = b4 at *
  have q := isElemV N1.out N2.out key k.hS k.l6
  rw [Xk1.out] at q
  refine q.mono ?_
  clear q
  rintro e W5 ⟨rfl, hb⟩
  replace B := aB B hb
  replace Jr := aJ Jr hb
  replace Jg := aJ Jg hb
  replace N1 := aN N1 hb
  replace N2 := aN N2 hb
  clear hb
  have zg_0 : W5.cell? ⟨b4, 0, none⟩ = some (.int .i64 (S : Int)) := Jg.out.cell 0 (by simp)
  have zg_1 : W5.cell? ⟨b4, 1, none⟩ = some (.slice qa ql qc) := Jg.out.cell 1 (by simp)
  have zg_2 : W5.cell? ⟨b4, 2, none⟩ = some (.slice pa pl pc) := Jg.out.cell 2 (by simp)
  go_wp2_with fail
  clear zg_0 zg_1 zg_2
  have q := isScalarV N1.out N2.out x k.hS k.l6
  rw [Xk2.out] at q
  refine q.mono ?_
  clear q
  rintro e W6 ⟨rfl, hb⟩
  replace B := aB B hb
  replace Jr := aJ Jr hb
  replace Jg := aJ Jg hb
  replace N1 := aN N1 hb
  replace N2 := aN N2 hb
  clear hb
  have zg_0 : W6.cell? ⟨b4, 0, none⟩ = some (.int .i64 (S : Int)) := Jg.out.cell 0 (by simp)
  have zg_1 : W6.cell? ⟨b4, 1, none⟩ = some (.slice qa ql qc) := Jg.out.cell 1 (by simp)
  have zg_2 : W6.cell? ⟨b4, 2, none⟩ = some (.slice pa pl pc) := Jg.out.cell 2 (by simp)
  go_wp2_with fail
  clear zg_0 zg_1 zg_2
  have q := isScalarV N1.out N2.out n k.hS k.l6
  rw [Xk3.out] at q
  refine q.mono ?_
  clear q
  rintro e W7 ⟨rfl, hb⟩
  replace B := aB B hb
  replace Jr := aJ Jr hb
  replace Jg := aJ Jg hb
  replace N1 := aN N1 hb
  replace N2 := aN N2 hb
  clear hb
  obtain ⟨zr_0, zr_1⟩ := cJ Jr
  have f0 := fJ Jr
  have I4 : Hid (IHolds ((W7.setCell ⟨w.heap.size, 0, none⟩ (.string ⟨#[]⟩)).setCell ⟨w.heap.size, 1, none⟩ (.string ⟨#[]⟩)) (w.heap.size) 24 [.string ⟨#[]⟩, .string ⟨#[]⟩]) := ((Jr.out.set 0 _).set 1 _)
  have B4 : Hid (Below w.heap.size w ((W7.setCell ⟨w.heap.size, 0, none⟩ (.string ⟨#[]⟩)).setCell ⟨w.heap.size, 1, none⟩ (.string ⟨#[]⟩))) := ((B.out.setCell (by show w.heap.size ≤ w.heap.size; omega) _).setCell (by show w.heap.size ≤ w.heap.size; omega) _)
  go_wp2_with fail
  clear zr_0 zr_1 f0
  generalize ((W7.setCell ⟨w.heap.size, 0, none⟩ (.string ⟨#[]⟩)).setCell ⟨w.heap.size, 1, none⟩ (.string ⟨#[]⟩)) = W8 at *
  have E0 : Hid (W8.cell? ⟨w.heap.size, 0, none⟩ = some (.string ⟨#[]⟩)) := I4.out.cell 0 (by simp)
  have E1 : Hid (W8.cell? ⟨w.heap.size, 1, none⟩ = some (.string ⟨#[]⟩)) := I4.out.cell 1 (by simp)
  exact bodyPost_ret (v := .tuple #[.agg #[.string ⟨#[]⟩, .string ⟨#[]⟩], .int .i64 6]) (by simp [results, Tryz.results5, go_sem, E0.out, E1.out]) rfl ⟨rfl, B4.out⟩
set_option maxHeartbeats 4000000 in
theorem ref9_A (k : KD z G S Wd M low one sq Ri Wd2 M2 low2 one2 sq2 Ri2) {w : World} {key a b n : ByteArray} (k1 : isEl S M key = false) :
    Calls Tryz.prog 9 #[.int .i64 z, .string key, .agg #[.string a, .string b], .string n] w fun e w' => e = .returned (.tuple #[.agg #[.string ⟨#[]⟩, .string ⟨#[]⟩], .int .i64 7]) ∧ Below w.heap.size w w' := by
  have Xk1 : Hid (isEl S M key = false) := k1
  clear k1
  have hS0 := k.hS0
  go_enter Tryz.func9, Tryz.ntmps9
  go_wp2_with fail
  obtain ⟨W1, hW1⟩ : ∃ X, X = ((w.alloc (.cells #[.string a, .string b] 24)).alloc (.cells #[.string ⟨#[]⟩, .string ⟨#[]⟩] 24)) := ⟨_, rfl⟩
  have Jc : Hid (IHolds W1 (w.heap.size) 24 [.string a, .string b]) := by
    have q := IHolds.new w 24 [.string a, .string b]
    show IHolds _ _ _ _
    rw [hW1]
    exact (q.alloc _)
  have Jr : Hid (IHolds W1 (w.heap.size + 1) 24 [.string ⟨#[]⟩, .string ⟨#[]⟩]) := by
    have q := IHolds.new (w.alloc (.cells #[.string a, .string b] 24)) 24 [.string ⟨#[]⟩, .string ⟨#[]⟩]
    simp only [World.size_alloc, Nat.add_assoc, Nat.reduceAdd] at q
    show IHolds _ _ _ _
    rw [hW1]
    exact q
  have B : Hid (Below w.heap.size w W1) := by
    show Below _ _ _
    rw [hW1]
    exact (((Below.refl _ w).alloc (Nat.le_refl _) _).alloc (by simp only [World.size_alloc]; omega) _)
  rw [← hW1]
  clear hW1
  refine (k.K9 _).mono ?_
  rintro e W2 ⟨⟨u1, u2, rfl, n1, n2⟩, hb⟩
  replace B := aB B hb
  replace Jc := aJ Jc hb
  replace Jr := aJ Jr hb
  clear hb
  obtain ⟨qa, ql, qc, rfl⟩ := sN (show Hid (NumV W2 65536 M u1) from n1)
  obtain ⟨pa, pl, pc, rfl⟩ := sN (show Hid (NumV W2 65536 M2 u2) from n2)
  have N1 : Hid (NumV W2 65536 M (.slice qa ql qc)) := n1
  have N2 : Hid (NumV W2 65536 M2 (.slice pa pl pc)) := n2
  clear n1 n2
  have hb := nB W2 (.cells #[.int .i64 (S : Int), .slice qa ql qc, .slice pa pl pc] 42)
  have Jg : Hid (IHolds (W2.alloc (.cells #[.int .i64 (S : Int), .slice qa ql qc, .slice pa pl pc] 42)) W2.heap.size 42 [.int .i64 (S : Int), .slice qa ql qc, .slice pa pl pc]) := IHolds.new _ _ _
  have ne_c_g := nJ Jc
  have ne_r_g := nJ Jr
  have ge_g : Hid (w.heap.size ≤ W2.heap.size) := B.out.size
  replace B := aB B hb
  replace Jc := aJ Jc hb
  replace Jr := aJ Jr hb
  replace N1 := aN N1 hb
  replace N2 := aN N2 hb
  clear hb
  go_wp2_with fail
  generalize (W2.alloc (.cells #[.int .i64 (S : Int), .slice qa ql qc, .slice pa pl pc] 42)) = W3 at *
  generalize W2.heap.size = b4 at *
  have q := isElemV N1.out N2.out key k.hS k.l6
  rw [Xk1.out] at q
  refine q.mono ?_
  clear q
  rintro e W5 ⟨rfl, hb⟩
  replace B := aB B hb
  replace Jc := aJ Jc hb
  replace Jr := aJ Jr hb
  replace Jg := aJ Jg hb
  replace N1 := aN N1 hb
  replace N2 := aN N2 hb
  clear hb
  obtain ⟨zr_0, zr_1⟩ := cJ Jr
  have f0 := fJ Jr
  have I4 : Hid (IHolds ((W5.setCell ⟨w.heap.size + 1, 0, none⟩ (.string ⟨#[]⟩)).setCell ⟨w.heap.size + 1, 1, none⟩ (.string ⟨#[]⟩)) (w.heap.size + 1) 24 [.string ⟨#[]⟩, .string ⟨#[]⟩]) := ((Jr.out.set 0 _).set 1 _)
  have B4 : Hid (Below w.heap.size w ((W5.setCell ⟨w.heap.size + 1, 0, none⟩ (.string ⟨#[]⟩)).setCell ⟨w.heap.size + 1, 1, none⟩ (.string ⟨#[]⟩))) := ((B.out.setCell (by show w.heap.size ≤ w.heap.size + 1; omega) _).setCell (by show w.heap.size ≤ w.heap.size + 1; omega) _)
  go_wp2_with fail
  clear zr_0 zr_1 f0
  generalize ((W5.setCell ⟨w.heap.size + 1, 0, none⟩ (.string ⟨#[]⟩)).setCell ⟨w.heap.size + 1, 1, none⟩ (.string ⟨#[]⟩)) = W6 at *
  have E0 : Hid (W6.cell? ⟨w.heap.size + 1, 0, none⟩ = some (.string ⟨#[]⟩)) := I4.out.cell 0 (by simp)
  have E1 : Hid (W6.cell? ⟨w.heap.size + 1, 1, none⟩ = some (.string ⟨#[]⟩)) := I4.out.cell 1 (by simp)
  exact bodyPost_ret (v := .tuple #[.agg #[.string ⟨#[]⟩, .string ⟨#[]⟩], .int .i64 7]) (by simp [results, Tryz.results9, go_sem, E0.out, E1.out]) rfl ⟨rfl, B4.out⟩
set_option maxHeartbeats 4000000 in
theorem ref9_B (k : KD z G S Wd M low one sq Ri Wd2 M2 low2 one2 sq2 Ri2) {w : World} {key a b n : ByteArray} (k1 : isEl S M key = true) (k2 : (isEl S M a && isEl S M b) = false) :
    Calls Tryz.prog 9 #[.int .i64 z, .string key, .agg #[.string a, .string b], .string n] w fun e w' => e = .returned (.tuple #[.agg #[.string ⟨#[]⟩, .string ⟨#[]⟩], .int .i64 7]) ∧ Below w.heap.size w w' := by
  have Xk1 : Hid (isEl S M key = true) := k1
  have Xk2 : Hid ((isEl S M a && isEl S M b) = false) := k2
  clear k1 k2
  have hS0 := k.hS0
  go_enter Tryz.func9, Tryz.ntmps9
  go_wp2_with fail
  obtain ⟨W1, hW1⟩ : ∃ X, X = ((w.alloc (.cells #[.string a, .string b] 24)).alloc (.cells #[.string ⟨#[]⟩, .string ⟨#[]⟩] 24)) := ⟨_, rfl⟩
  have Jc : Hid (IHolds W1 (w.heap.size) 24 [.string a, .string b]) := by
    have q := IHolds.new w 24 [.string a, .string b]
    show IHolds _ _ _ _
    rw [hW1]
    exact (q.alloc _)
  have Jr : Hid (IHolds W1 (w.heap.size + 1) 24 [.string ⟨#[]⟩, .string ⟨#[]⟩]) := by
    have q := IHolds.new (w.alloc (.cells #[.string a, .string b] 24)) 24 [.string ⟨#[]⟩, .string ⟨#[]⟩]
    simp only [World.size_alloc, Nat.add_assoc, Nat.reduceAdd] at q
    show IHolds _ _ _ _
    rw [hW1]
    exact q
  have B : Hid (Below w.heap.size w W1) := by
    show Below _ _ _
    rw [hW1]
    exact (((Below.refl _ w).alloc (Nat.le_refl _) _).alloc (by simp only [World.size_alloc]; omega) _)
  rw [← hW1]
  clear hW1
  refine (k.K9 _).mono ?_
  rintro e W2 ⟨⟨u1, u2, rfl, n1, n2⟩, hb⟩
  replace B := aB B hb
  replace Jc := aJ Jc hb
  replace Jr := aJ Jr hb
  clear hb
  obtain ⟨qa, ql, qc, rfl⟩ := sN (show Hid (NumV W2 65536 M u1) from n1)
  obtain ⟨pa, pl, pc, rfl⟩ := sN (show Hid (NumV W2 65536 M2 u2) from n2)
  have N1 : Hid (NumV W2 65536 M (.slice qa ql qc)) := n1
  have N2 : Hid (NumV W2 65536 M2 (.slice pa pl pc)) := n2
  clear n1 n2
  have hb := nB W2 (.cells #[.int .i64 (S : Int), .slice qa ql qc, .slice pa pl pc] 42)
  have Jg : Hid (IHolds (W2.alloc (.cells #[.int .i64 (S : Int), .slice qa ql qc, .slice pa pl pc] 42)) W2.heap.size 42 [.int .i64 (S : Int), .slice qa ql qc, .slice pa pl pc]) := IHolds.new _ _ _
  have ne_c_g := nJ Jc
  have ne_r_g := nJ Jr
  have ge_g : Hid (w.heap.size ≤ W2.heap.size) := B.out.size
  replace B := aB B hb
  replace Jc := aJ Jc hb
  replace Jr := aJ Jr hb
  replace N1 := aN N1 hb
  replace N2 := aN N2 hb
  clear hb
  go_wp2_with fail
  generalize (W2.alloc (.cells #[.int .i64 (S : Int), .slice qa ql qc, .slice pa pl pc] 42)) = W3 at *
  generalize W2.heap.size = b4 at *
  have q := isElemV N1.out N2.out key k.hS k.l6
  rw [Xk1.out] at q
  refine q.mono ?_
  clear q
  rintro e W5 ⟨rfl, hb⟩
  replace B := aB B hb
  replace Jc := aJ Jc hb
  replace Jr := aJ Jr hb
  replace Jg := aJ Jg hb
  replace N1 := aN N1 hb
  replace N2 := aN N2 hb
  clear hb
  have zg_0 : W5.cell? ⟨b4, 0, none⟩ = some (.int .i64 (S : Int)) := Jg.out.cell 0 (by simp)
  have zg_1 : W5.cell? ⟨b4, 1, none⟩ = some (.slice qa ql qc) := Jg.out.cell 1 (by simp)
  have zg_2 : W5.cell? ⟨b4, 2, none⟩ = some (.slice pa pl pc) := Jg.out.cell 2 (by simp)
  have zc_0 : W5.cell? ⟨w.heap.size, 0, none⟩ = some (.string a) := Jc.out.cell 0 (by simp)
  have zc_1 : W5.cell? ⟨w.heap.size, 1, none⟩ = some (.string b) := Jc.out.cell 1 (by simp)
  go_wp2_with fail
  clear zg_0 zg_1 zg_2 zc_0 zc_1
  have q := elems25 (a := a) (b := b) k N1.out N2.out
  rw [Xk2.out] at q
  refine q.mono ?_
  clear q
  rintro e W6 ⟨rfl, hb⟩
  replace B := aB B hb
  replace Jc := aJ Jc hb
  replace Jr := aJ Jr hb
  replace Jg := aJ Jg hb
  replace N1 := aN N1 hb
  replace N2 := aN N2 hb
  clear hb
  obtain ⟨zr_0, zr_1⟩ := cJ Jr
  have f0 := fJ Jr
  have I4 : Hid (IHolds ((W6.setCell ⟨w.heap.size + 1, 0, none⟩ (.string ⟨#[]⟩)).setCell ⟨w.heap.size + 1, 1, none⟩ (.string ⟨#[]⟩)) (w.heap.size + 1) 24 [.string ⟨#[]⟩, .string ⟨#[]⟩]) := ((Jr.out.set 0 _).set 1 _)
  have B4 : Hid (Below w.heap.size w ((W6.setCell ⟨w.heap.size + 1, 0, none⟩ (.string ⟨#[]⟩)).setCell ⟨w.heap.size + 1, 1, none⟩ (.string ⟨#[]⟩))) := ((B.out.setCell (by show w.heap.size ≤ w.heap.size + 1; omega) _).setCell (by show w.heap.size ≤ w.heap.size + 1; omega) _)
  go_wp2_with fail
  clear zr_0 zr_1 f0
  generalize ((W6.setCell ⟨w.heap.size + 1, 0, none⟩ (.string ⟨#[]⟩)).setCell ⟨w.heap.size + 1, 1, none⟩ (.string ⟨#[]⟩)) = W7 at *
  have E0 : Hid (W7.cell? ⟨w.heap.size + 1, 0, none⟩ = some (.string ⟨#[]⟩)) := I4.out.cell 0 (by simp)
  have E1 : Hid (W7.cell? ⟨w.heap.size + 1, 1, none⟩ = some (.string ⟨#[]⟩)) := I4.out.cell 1 (by simp)
  exact bodyPost_ret (v := .tuple #[.agg #[.string ⟨#[]⟩, .string ⟨#[]⟩], .int .i64 7]) (by simp [results, Tryz.results9, go_sem, E0.out, E1.out]) rfl ⟨rfl, B4.out⟩
set_option maxHeartbeats 4000000 in
theorem ref9_C (k : KD z G S Wd M low one sq Ri Wd2 M2 low2 one2 sq2 Ri2) {w : World} {key a b n : ByteArray} (k1 : isEl S M key = true) (k2 : (isEl S M a && isEl S M b) = true) (k3 : isSc S M n = false) :
    Calls Tryz.prog 9 #[.int .i64 z, .string key, .agg #[.string a, .string b], .string n] w fun e w' => e = .returned (.tuple #[.agg #[.string ⟨#[]⟩, .string ⟨#[]⟩], .int .i64 6]) ∧ Below w.heap.size w w' := by
  have Xk1 : Hid (isEl S M key = true) := k1
  have Xk2 : Hid ((isEl S M a && isEl S M b) = true) := k2
  have Xk3 : Hid (isSc S M n = false) := k3
  clear k1 k2 k3
  have hS0 := k.hS0
  go_enter Tryz.func9, Tryz.ntmps9
  go_wp2_with fail
  obtain ⟨W1, hW1⟩ : ∃ X, X = ((w.alloc (.cells #[.string a, .string b] 24)).alloc (.cells #[.string ⟨#[]⟩, .string ⟨#[]⟩] 24)) := ⟨_, rfl⟩
  have Jc : Hid (IHolds W1 (w.heap.size) 24 [.string a, .string b]) := by
    have q := IHolds.new w 24 [.string a, .string b]
    show IHolds _ _ _ _
    rw [hW1]
    exact (q.alloc _)
  have Jr : Hid (IHolds W1 (w.heap.size + 1) 24 [.string ⟨#[]⟩, .string ⟨#[]⟩]) := by
    have q := IHolds.new (w.alloc (.cells #[.string a, .string b] 24)) 24 [.string ⟨#[]⟩, .string ⟨#[]⟩]
    simp only [World.size_alloc, Nat.add_assoc, Nat.reduceAdd] at q
    show IHolds _ _ _ _
    rw [hW1]
    exact q
  have B : Hid (Below w.heap.size w W1) := by
    show Below _ _ _
    rw [hW1]
    exact (((Below.refl _ w).alloc (Nat.le_refl _) _).alloc (by simp only [World.size_alloc]; omega) _)
  rw [← hW1]
  clear hW1
  refine (k.K9 _).mono ?_
  rintro e W2 ⟨⟨u1, u2, rfl, n1, n2⟩, hb⟩
  replace B := aB B hb
  replace Jc := aJ Jc hb
  replace Jr := aJ Jr hb
  clear hb
  obtain ⟨qa, ql, qc, rfl⟩ := sN (show Hid (NumV W2 65536 M u1) from n1)
  obtain ⟨pa, pl, pc, rfl⟩ := sN (show Hid (NumV W2 65536 M2 u2) from n2)
  have N1 : Hid (NumV W2 65536 M (.slice qa ql qc)) := n1
  have N2 : Hid (NumV W2 65536 M2 (.slice pa pl pc)) := n2
  clear n1 n2
  have hb := nB W2 (.cells #[.int .i64 (S : Int), .slice qa ql qc, .slice pa pl pc] 42)
  have Jg : Hid (IHolds (W2.alloc (.cells #[.int .i64 (S : Int), .slice qa ql qc, .slice pa pl pc] 42)) W2.heap.size 42 [.int .i64 (S : Int), .slice qa ql qc, .slice pa pl pc]) := IHolds.new _ _ _
  have ne_c_g := nJ Jc
  have ne_r_g := nJ Jr
  have ge_g : Hid (w.heap.size ≤ W2.heap.size) := B.out.size
  replace B := aB B hb
  replace Jc := aJ Jc hb
  replace Jr := aJ Jr hb
  replace N1 := aN N1 hb
  replace N2 := aN N2 hb
  clear hb
  go_wp2_with fail
  generalize (W2.alloc (.cells #[.int .i64 (S : Int), .slice qa ql qc, .slice pa pl pc] 42)) = W3 at *
  generalize W2.heap.size = b4 at *
  have q := isElemV N1.out N2.out key k.hS k.l6
  rw [Xk1.out] at q
  refine q.mono ?_
  clear q
  rintro e W5 ⟨rfl, hb⟩
  replace B := aB B hb
  replace Jc := aJ Jc hb
  replace Jr := aJ Jr hb
  replace Jg := aJ Jg hb
  replace N1 := aN N1 hb
  replace N2 := aN N2 hb
  clear hb
  have zg_0 : W5.cell? ⟨b4, 0, none⟩ = some (.int .i64 (S : Int)) := Jg.out.cell 0 (by simp)
  have zg_1 : W5.cell? ⟨b4, 1, none⟩ = some (.slice qa ql qc) := Jg.out.cell 1 (by simp)
  have zg_2 : W5.cell? ⟨b4, 2, none⟩ = some (.slice pa pl pc) := Jg.out.cell 2 (by simp)
  have zc_0 : W5.cell? ⟨w.heap.size, 0, none⟩ = some (.string a) := Jc.out.cell 0 (by simp)
  have zc_1 : W5.cell? ⟨w.heap.size, 1, none⟩ = some (.string b) := Jc.out.cell 1 (by simp)
  go_wp2_with fail
  clear zg_0 zg_1 zg_2 zc_0 zc_1
  have q := elems25 (a := a) (b := b) k N1.out N2.out
  rw [Xk2.out] at q
  refine q.mono ?_
  clear q
  rintro e W6 ⟨rfl, hb⟩
  replace B := aB B hb
  replace Jc := aJ Jc hb
  replace Jr := aJ Jr hb
  replace Jg := aJ Jg hb
  replace N1 := aN N1 hb
  replace N2 := aN N2 hb
  clear hb
  have zg_0 : W6.cell? ⟨b4, 0, none⟩ = some (.int .i64 (S : Int)) := Jg.out.cell 0 (by simp)
  have zg_1 : W6.cell? ⟨b4, 1, none⟩ = some (.slice qa ql qc) := Jg.out.cell 1 (by simp)
  have zg_2 : W6.cell? ⟨b4, 2, none⟩ = some (.slice pa pl pc) := Jg.out.cell 2 (by simp)
  go_wp2_with fail
  clear zg_0 zg_1 zg_2
  have q := isScalarV N1.out N2.out n k.hS k.l6
  rw [Xk3.out] at q
  refine q.mono ?_
  clear q
  rintro e W7 ⟨rfl, hb⟩
  replace B := aB B hb
  replace Jc := aJ Jc hb
  replace Jr := aJ Jr hb
  replace Jg := aJ Jg hb
  replace N1 := aN N1 hb
  replace N2 := aN N2 hb
  clear hb
  obtain ⟨zr_0, zr_1⟩ := cJ Jr
  have f0 := fJ Jr
  have I4 : Hid (IHolds ((W7.setCell ⟨w.heap.size + 1, 0, none⟩ (.string ⟨#[]⟩)).setCell ⟨w.heap.size + 1, 1, none⟩ (.string ⟨#[]⟩)) (w.heap.size + 1) 24 [.string ⟨#[]⟩, .string ⟨#[]⟩]) := ((Jr.out.set 0 _).set 1 _)
  have B4 : Hid (Below w.heap.size w ((W7.setCell ⟨w.heap.size + 1, 0, none⟩ (.string ⟨#[]⟩)).setCell ⟨w.heap.size + 1, 1, none⟩ (.string ⟨#[]⟩))) := ((B.out.setCell (by show w.heap.size ≤ w.heap.size + 1; omega) _).setCell (by show w.heap.size ≤ w.heap.size + 1; omega) _)
  go_wp2_with fail
  clear zr_0 zr_1 f0
  generalize ((W7.setCell ⟨w.heap.size + 1, 0, none⟩ (.string ⟨#[]⟩)).setCell ⟨w.heap.size + 1, 1, none⟩ (.string ⟨#[]⟩)) = W8 at *
  have E0 : Hid (W8.cell? ⟨w.heap.size + 1, 0, none⟩ = some (.string ⟨#[]⟩)) := I4.out.cell 0 (by simp)
  have E1 : Hid (W8.cell? ⟨w.heap.size + 1, 1, none⟩ = some (.string ⟨#[]⟩)) := I4.out.cell 1 (by simp)
  exact bodyPost_ret (v := .tuple #[.agg #[.string ⟨#[]⟩, .string ⟨#[]⟩], .int .i64 6]) (by simp [results, Tryz.results9, go_sem, E0.out, E1.out]) rfl ⟨rfl, B4.out⟩
set_option maxHeartbeats 4000000 in
theorem ref11_A (k : KD z G S Wd M low one sq Ri Wd2 M2 low2 one2 sq2 Ri2) {w : World} {s a b : ByteArray} (k1 : isSc S M s = false) :
    Calls Tryz.prog 11 #[.int .i64 z, .string s, .agg #[.string a, .string b]] w fun e w' => e = .returned (.tuple #[.string ⟨#[]⟩, .int .i64 6]) ∧ Below w.heap.size w w' := by
  have Xk1 : Hid (isSc S M s = false) := k1
  clear k1
  have hS0 := k.hS0
  go_enter Tryz.func11, Tryz.ntmps11
  go_wp2_with fail
  obtain ⟨W1, hW1⟩ : ∃ X, X = (w.alloc (.cells #[.string a, .string b] 24)) := ⟨_, rfl⟩
  have Jc : Hid (IHolds W1 (w.heap.size) 24 [.string a, .string b]) := by
    have q := IHolds.new w 24 [.string a, .string b]
    show IHolds _ _ _ _
    rw [hW1]
    exact q
  have B : Hid (Below w.heap.size w W1) := by
    show Below _ _ _
    rw [hW1]
    exact ((Below.refl _ w).alloc (Nat.le_refl _) _)
  rw [← hW1]
  clear hW1
  refine (k.K9 _).mono ?_
  rintro e W2 ⟨⟨u1, u2, rfl, n1, n2⟩, hb⟩
  replace B := aB B hb
  replace Jc := aJ Jc hb
  clear hb
  obtain ⟨qa, ql, qc, rfl⟩ := sN (show Hid (NumV W2 65536 M u1) from n1)
  obtain ⟨pa, pl, pc, rfl⟩ := sN (show Hid (NumV W2 65536 M2 u2) from n2)
  have N1 : Hid (NumV W2 65536 M (.slice qa ql qc)) := n1
  have N2 : Hid (NumV W2 65536 M2 (.slice pa pl pc)) := n2
  clear n1 n2
  have hb := nB W2 (.cells #[.int .i64 (S : Int), .slice qa ql qc, .slice pa pl pc] 42)
  have Jg : Hid (IHolds (W2.alloc (.cells #[.int .i64 (S : Int), .slice qa ql qc, .slice pa pl pc] 42)) W2.heap.size 42 [.int .i64 (S : Int), .slice qa ql qc, .slice pa pl pc]) := IHolds.new _ _ _
  have ne_c_g := nJ Jc
  have ge_g : Hid (w.heap.size ≤ W2.heap.size) := B.out.size
  replace B := aB B hb
  replace Jc := aJ Jc hb
  replace N1 := aN N1 hb
  replace N2 := aN N2 hb
  clear hb
  go_wp2_with fail
  generalize (W2.alloc (.cells #[.int .i64 (S : Int), .slice qa ql qc, .slice pa pl pc] 42)) = W3 at *
  generalize W2.heap.size = b4 at *
  have q := isScalarV N1.out N2.out s k.hS k.l6
  rw [Xk1.out] at q
  refine q.mono ?_
  clear q
  rintro e W5 ⟨rfl, hb⟩
  replace B := aB B hb
  replace Jc := aJ Jc hb
  replace Jg := aJ Jg hb
  replace N1 := aN N1 hb
  replace N2 := aN N2 hb
  clear hb
  go_wp2_with fail
  exact bodyPost_ret (v := .tuple #[.string ⟨#[]⟩, .int .i64 6]) (by simp [results, Tryz.results11, go_sem]) rfl ⟨rfl, B.out⟩
set_option maxHeartbeats 4000000 in
theorem ref11_B (k : KD z G S Wd M low one sq Ri Wd2 M2 low2 one2 sq2 Ri2) {w : World} {s a b : ByteArray} (k1 : isSc S M s = true) (k2 : (isEl S M a && isEl S M b) = false) :
    Calls Tryz.prog 11 #[.int .i64 z, .string s, .agg #[.string a, .string b]] w fun e w' => e = .returned (.tuple #[.string ⟨#[]⟩, .int .i64 7]) ∧ Below w.heap.size w w' := by
  have Xk1 : Hid (isSc S M s = true) := k1
  have Xk2 : Hid ((isEl S M a && isEl S M b) = false) := k2
  clear k1 k2
  have hS0 := k.hS0
  go_enter Tryz.func11, Tryz.ntmps11
  go_wp2_with fail
  obtain ⟨W1, hW1⟩ : ∃ X, X = (w.alloc (.cells #[.string a, .string b] 24)) := ⟨_, rfl⟩
  have Jc : Hid (IHolds W1 (w.heap.size) 24 [.string a, .string b]) := by
    have q := IHolds.new w 24 [.string a, .string b]
    show IHolds _ _ _ _
    rw [hW1]
    exact q
  have B : Hid (Below w.heap.size w W1) := by
    show Below _ _ _
    rw [hW1]
    exact ((Below.refl _ w).alloc (Nat.le_refl _) _)
  rw [← hW1]
  clear hW1
  refine (k.K9 _).mono ?_
  rintro e W2 ⟨⟨u1, u2, rfl, n1, n2⟩, hb⟩
  replace B := aB B hb
  replace Jc := aJ Jc hb
  clear hb
  obtain ⟨qa, ql, qc, rfl⟩ := sN (show Hid (NumV W2 65536 M u1) from n1)
  obtain ⟨pa, pl, pc, rfl⟩ := sN (show Hid (NumV W2 65536 M2 u2) from n2)
  have N1 : Hid (NumV W2 65536 M (.slice qa ql qc)) := n1
  have N2 : Hid (NumV W2 65536 M2 (.slice pa pl pc)) := n2
  clear n1 n2
  have hb := nB W2 (.cells #[.int .i64 (S : Int), .slice qa ql qc, .slice pa pl pc] 42)
  have Jg : Hid (IHolds (W2.alloc (.cells #[.int .i64 (S : Int), .slice qa ql qc, .slice pa pl pc] 42)) W2.heap.size 42 [.int .i64 (S : Int), .slice qa ql qc, .slice pa pl pc]) := IHolds.new _ _ _
  have ne_c_g := nJ Jc
  have ge_g : Hid (w.heap.size ≤ W2.heap.size) := B.out.size
  replace B := aB B hb
  replace Jc := aJ Jc hb
  replace N1 := aN N1 hb
  replace N2 := aN N2 hb
  clear hb
  go_wp2_with fail
  generalize (W2.alloc (.cells #[.int .i64 (S : Int), .slice qa ql qc, .slice pa pl pc] 42)) = W3 at *
  generalize W2.heap.size = b4 at *
  have q := isScalarV N1.out N2.out s k.hS k.l6
  rw [Xk1.out] at q
  refine q.mono ?_
  clear q
  rintro e W5 ⟨rfl, hb⟩
  replace B := aB B hb
  replace Jc := aJ Jc hb
  replace Jg := aJ Jg hb
  replace N1 := aN N1 hb
  replace N2 := aN N2 hb
  clear hb
  have zg_0 : W5.cell? ⟨b4, 0, none⟩ = some (.int .i64 (S : Int)) := Jg.out.cell 0 (by simp)
  have zg_1 : W5.cell? ⟨b4, 1, none⟩ = some (.slice qa ql qc) := Jg.out.cell 1 (by simp)
  have zg_2 : W5.cell? ⟨b4, 2, none⟩ = some (.slice pa pl pc) := Jg.out.cell 2 (by simp)
  have zc_0 : W5.cell? ⟨w.heap.size, 0, none⟩ = some (.string a) := Jc.out.cell 0 (by simp)
  have zc_1 : W5.cell? ⟨w.heap.size, 1, none⟩ = some (.string b) := Jc.out.cell 1 (by simp)
  go_wp2_with fail
  clear zg_0 zg_1 zg_2 zc_0 zc_1
  have q := elems25 (a := a) (b := b) k N1.out N2.out
  rw [Xk2.out] at q
  refine q.mono ?_
  clear q
  rintro e W6 ⟨rfl, hb⟩
  replace B := aB B hb
  replace Jc := aJ Jc hb
  replace Jg := aJ Jg hb
  replace N1 := aN N1 hb
  replace N2 := aN N2 hb
  clear hb
  go_wp2_with fail
  exact bodyPost_ret (v := .tuple #[.string ⟨#[]⟩, .int .i64 7]) (by simp [results, Tryz.results11, go_sem]) rfl ⟨rfl, B.out⟩
end
end Go.Proofs.YtohpbclofcflaaaGreat
namespace Go.Proofs.YtohpbclofcflaaaGreat
open Go.RowKit Go.Deep Go.PlainAid

section
variable {z : Int} {G : Array Value} {S Wd M low one sq Ri Wd2 M2 low2 one2 sq2 Ri2 : Nat}
theorem EX_el (k : KD z G S Wd M low one sq Ri Wd2 M2 low2 one2 sq2 Ri2) (h : PK S M M2) {x : Nat} (hx : ¬ M2 ∣ x) : isEl S M (EX S M M2 x) = true ∧ numS (EX S M M2 x) = E M M2 x := by
  have e : EX S M M2 x = TX S (E M M2 x) := rfl
  rw [e]
  exact ⟨k.ee h.hs (h.sp hx) (h.sl x), k.en h.hs (h.sl x)⟩
set_option maxHeartbeats 4000000 in
theorem ref5_ok (k : KD z G S Wd M low one sq Ri Wd2 M2 low2 one2 sq2 Ri2) (h : PK S M M2) {w : World} {key x n : ByteArray} (k1 : isEl S M key = true) (k2 : isSc S M x = true) (k3 : isSc S M n = true) :
    Calls Tryz.prog 5 #[.int .i64 z, .string key, .string x, .string n] w fun e w' => e = .returned (.tuple #[.agg #[.string (EX S M M2 (2 ^ numS n)), .string (EX S M M2 (2 ^ numS x * numS key ^ numS n))], .int .i64 0]) ∧ Below w.heap.size w w' := by
  obtain ⟨T1, hT1⟩ : ∃ T1, EX S M M2 (2 ^ numS n) = T1 := ⟨_, rfl⟩
  obtain ⟨T2, hT2⟩ : ∃ T2, EX S M M2 (2 ^ numS x * numS key ^ numS n) = T2 := ⟨_, rfl⟩
  rw [hT1, hT2]
  replace hT1 : Hid _ := hT1
  replace hT2 : Hid _ := hT2
  have Xk1 : Hid (isEl S M key = true) := k1
  have Xk2 : Hid (isSc S M x = true) := k2
  have Xk3 : Hid (isSc S M n = true) := k3
  clear k1 k2 k3
  have hS0 := k.hS0
  go_enter Tryz.func5, Tryz.ntmps5
  go_wp2_with fail
  obtain ⟨W1, hW1⟩ : ∃ X, X = (w.alloc (.cells #[.string ⟨#[]⟩, .string ⟨#[]⟩] 24)) := ⟨_, rfl⟩
  have Jr : Hid (IHolds W1 (w.heap.size) 24 [.string ⟨#[]⟩, .string ⟨#[]⟩]) := by
    have q := IHolds.new w 24 [.string ⟨#[]⟩, .string ⟨#[]⟩]
    show IHolds _ _ _ _
    rw [hW1]
    exact q
  have B : Hid (Below w.heap.size w W1) := by
    show Below _ _ _
    rw [hW1]
    exact ((Below.refl _ w).alloc (Nat.le_refl _) _)
  rw [← hW1]
  clear hW1
  refine (k.K9 _).mono ?_
  rintro e W2 ⟨⟨u1, u2, rfl, n1, n2⟩, hb⟩
  replace B := aB B hb
  replace Jr := aJ Jr hb
  clear hb
  obtain ⟨qa, ql, qc, rfl⟩ := sN (show Hid (NumV W2 65536 M u1) from n1)
  obtain ⟨pa, pl, pc, rfl⟩ := sN (show Hid (NumV W2 65536 M2 u2) from n2)
  have N1 : Hid (NumV W2 65536 M (.slice qa ql qc)) := n1
  have N2 : Hid (NumV W2 65536 M2 (.slice pa pl pc)) := n2
  clear n1 n2
  have hb := nB W2 (.cells #[.int .i64 (S : Int), .slice qa ql qc, .slice pa pl pc] 42)
  have Jg : Hid (IHolds (W2.alloc (.cells #[.int .i64 (S : Int), .slice qa ql qc, .slice pa pl pc] 42)) W2.heap.size 42 [.int .i64 (S : Int), .slice qa ql qc, .slice pa pl pc]) := IHolds.new _ _ _
  have ne_r_g := nJ Jr
  have ge_g : Hid (w.heap.size ≤ W2.heap.size) := B.out.size
  replace B := aB B hb
  replace Jr := aJ Jr hb
  replace N1 := aN N1 hb
  replace N2 := aN N2 hb
  clear hb
  go_wp2_with fail
  generalize (W2.alloc (.cells #[.int .i64 (S : Int), .slice qa ql qc, .slice pa pl pc] 42)) = W3 at *
  generalize W2.heap.size = b4 at *
  have q := isElemV N1.out N2.out key k.hS k.l6
  rw [Xk1.out] at q
  refine q.mono ?_
  clear q
  rintro e W5 ⟨rfl, hb⟩
  replace B := aB B hb
  replace Jr := aJ Jr hb
  replace Jg := aJ Jg hb
  replace N1 := aN N1 hb
  replace N2 := aN N2 hb
  clear hb
  have zg_0 : W5.cell? ⟨b4, 0, none⟩ = some (.int .i64 (S : Int)) := Jg.out.cell 0 (by simp)
  have zg_1 : W5.cell? ⟨b4, 1, none⟩ = some (.slice qa ql qc) := Jg.out.cell 1 (by simp)
  have zg_2 : W5.cell? ⟨b4, 2, none⟩ = some (.slice pa pl pc) := Jg.out.cell 2 (by simp)
  go_wp2_with fail
  clear zg_0 zg_1 zg_2
  have q := isScalarV N1.out N2.out x k.hS k.l6
  rw [Xk2.out] at q
  refine q.mono ?_
  clear q
  rintro e W6 ⟨rfl, hb⟩
  replace B := aB B hb
  replace Jr := aJ Jr hb
  replace Jg := aJ Jg hb
  replace N1 := aN N1 hb
  replace N2 := aN N2 hb
  clear hb
  have zg_0 : W6.cell? ⟨b4, 0, none⟩ = some (.int .i64 (S : Int)) := Jg.out.cell 0 (by simp)
  have zg_1 : W6.cell? ⟨b4, 1, none⟩ = some (.slice qa ql qc) := Jg.out.cell 1 (by simp)
  have zg_2 : W6.cell? ⟨b4, 2, none⟩ = some (.slice pa pl pc) := Jg.out.cell 2 (by simp)
  go_wp2_with fail
  clear zg_0 zg_1 zg_2
  have q := isScalarV N1.out N2.out n k.hS k.l6
  rw [Xk3.out] at q
  refine q.mono ?_
  clear q
  rintro e W7 ⟨rfl, hb⟩
  replace B := aB B hb
  replace Jr := aJ Jr hb
  replace Jg := aJ Jg hb
  replace N1 := aN N1 hb
  replace N2 := aN N2 hb
  clear hb
  have zg_0 : W7.cell? ⟨b4, 0, none⟩ = some (.int .i64 (S : Int)) := Jg.out.cell 0 (by simp)
  have zg_1 : W7.cell? ⟨b4, 1, none⟩ = some (.slice qa ql qc) := Jg.out.cell 1 (by simp)
  have zg_2 : W7.cell? ⟨b4, 2, none⟩ = some (.slice pa pl pc) := Jg.out.cell 2 (by simp)
  go_wp2_with fail
  clear zg_0 zg_1 zg_2
  obtain ⟨W, rfl⟩ : ∃ W, W = W7 := ⟨_, rfl⟩
  have NB : Hid (∀ V, Below W.heap.size W V → NumV V 65536 M (.slice qa ql qc) ∧ NumV V 65536 M2 (.slice pa pl pc)) := fun V hV => ⟨N1.out.of_below hV, N2.out.of_below hV⟩
  have Rx : Hid (∀ V, Calls Tryz.prog 20 #[.string x] V fun e w' => (∃ v, e = .returned v ∧ NumV w' 65536 (numS x) v) ∧ Below V.heap.size V w') := fun V => read_small (isSc_size Xk2.out) k.hS V
  have Rn : Hid (∀ V, Calls Tryz.prog 20 #[.string n] V fun e w' => (∃ v, e = .returned v ∧ NumV w' 65536 (numS n) v) ∧ Below V.heap.size V w') := fun V => read_small (isSc_size Xk3.out) k.hS V
  have PH : Hid (∀ V va vb, Below W.heap.size W V → NumV V 65536 (numS x) va → NumV V 65536 (numS n) vb → Calls Tryz.prog 19 #[.agg #[.int .i64 (S : Int), .slice qa ql qc, .slice pa pl pc], .string key, va, vb] V fun e w' => e = .returned (.agg #[.string T1, .string T2]) ∧ Below V.heap.size V w') := fun V va vb hV g1 g2 => by
    rw [← hT1.out, ← hT2.out]
    exact hide19 k h Xk1.out g1 (Nat.le_of_lt (isSc_lt Xk2.out)) g2 (Nat.le_of_lt (isSc_lt Xk3.out)) (NB.out V hV).1 (NB.out V hV).2
  clear hT1 hT2 NB Xk1 Xk2 Xk3
  have sB : Hid (∀ V V', Below V.heap.size V V' → Below W.heap.size W V → Below W.heap.size W V') := fun V V' h h' => h'.trans (h.mono h'.size)
  have KP : Hid (∀ V, Below W.heap.size W V → (V.cell? ⟨b4, 0, none⟩ = some (.int .i64 (S : Int)) ∧ V.cell? ⟨b4, 1, none⟩ = some (.slice qa ql qc) ∧ V.cell? ⟨b4, 2, none⟩ = some (.slice pa pl pc))) := fun V hV => ⟨(Jg.out.of_below hV).cell 0 (by simp), (Jg.out.of_below hV).cell 1 (by simp), (Jg.out.of_below hV).cell 2 (by simp)⟩
  go_region_held3 (fun V => V.cell? ⟨b4, 0, none⟩ = some (.int .i64 (S : Int)) ∧ V.cell? ⟨b4, 1, none⟩ = some (.slice qa ql qc) ∧ V.cell? ⟨b4, 2, none⟩ = some (.slice pa pl pc))
    (first | exact KP.out _ (dB _) | assumption | exact KS.out | exact KP.out _ D8.out | exact KP.out _ D7.out | exact KP.out _ D6.out | fail)
    (first
      | (go_at_call 20; refine (Rx.out _).mono ?_; rintro e v6 ⟨⟨r6, rfl, n6⟩, hB6⟩; have D6 : Hid (Below W.heap.size W v6) := sB.out _ _ hB6 (dB _); have M6 : Hid (NumV v6 65536 (numS x) r6) := n6; clear n6; clear Rx)
      | (go_at_call 20; refine (Rn.out _).mono ?_; rintro e v7 ⟨⟨r7, rfl, n7⟩, hB7⟩; have D7 : Hid (Below W.heap.size W v7) := sB.out _ _ hB7 D6.out; have M7 : Hid (NumV v7 65536 (numS n) r7) := n7; clear n7; replace M6 : Hid (NumV v7 65536 (numS x) r6) := M6.out.of_below hB7; clear Rn)
      | (go_at_call 19; refine (PH.out _ _ _ D7.out M6.out M7.out).mono ?_; rintro e v8 ⟨rfl, hB8⟩; have D8 : Hid (Below W.heap.size W v8) := sB.out _ _ hB8 D7.out; have Jr2 : Hid (IHolds v8 (w.heap.size) 24 [.string ⟨#[]⟩, .string ⟨#[]⟩]) := Jr.out.of_below D8.out; have zr0 : v8.cell? ⟨w.heap.size, 0, none⟩ = some (.string ⟨#[]⟩) := Jr2.out.cell 0 (by simp); have zr1 : v8.cell? ⟨w.heap.size, 1, none⟩ = some (.string ⟨#[]⟩) := Jr2.out.cell 1 (by simp); have fr := fJ Jr2; have hBut : But (w.heap.size) v8 ((v8.setCell ⟨w.heap.size, 0, none⟩ (.string T1)).setCell ⟨w.heap.size, 1, none⟩ (.string T2)) := (((But.refl _ v8).setCell 0 _).setCell 1 _); have Kg := tJ (aJ Jg D8.out) hBut (by first | omega | exact fun h => ne_r_g.out h.symm | exact fun h => ne_g_r.out h); have KS : Hid (((v8.setCell ⟨w.heap.size, 0, none⟩ (.string T1)).setCell ⟨w.heap.size, 1, none⟩ (.string T2)).cell? ⟨b4, 0, none⟩ = some (.int .i64 (S : Int)) ∧ ((v8.setCell ⟨w.heap.size, 0, none⟩ (.string T1)).setCell ⟨w.heap.size, 1, none⟩ (.string T2)).cell? ⟨b4, 1, none⟩ = some (.slice qa ql qc) ∧ ((v8.setCell ⟨w.heap.size, 0, none⟩ (.string T1)).setCell ⟨w.heap.size, 1, none⟩ (.string T2)).cell? ⟨b4, 2, none⟩ = some (.slice pa pl pc)) := ⟨Kg.out.cell 0 (by simp), Kg.out.cell 1 (by simp), Kg.out.cell 2 (by simp)⟩; clear Kg hBut; clear PH)
      | fail)
  clear zr0 zr1 fr KS
  have I4 : Hid (IHolds ((v8.setCell ⟨w.heap.size, 0, none⟩ (.string T1)).setCell ⟨w.heap.size, 1, none⟩ (.string T2)) (w.heap.size) 24 [.string T1, .string T2]) := ((Jr2.out.set 0 _).set 1 _)
  have B4 : Hid (Below w.heap.size w ((v8.setCell ⟨w.heap.size, 0, none⟩ (.string T1)).setCell ⟨w.heap.size, 1, none⟩ (.string T2))) := (((B.out.trans (D8.out.mono B.out.size)).setCell (by first | exact ge_r.out | (show w.heap.size ≤ w.heap.size; omega)) _).setCell (by first | exact ge_r.out | (show w.heap.size ≤ w.heap.size; omega)) _)
  generalize ((v8.setCell ⟨w.heap.size, 0, none⟩ (.string T1)).setCell ⟨w.heap.size, 1, none⟩ (.string T2)) = WF at *
  have E0 : Hid (WF.cell? ⟨w.heap.size, 0, none⟩ = some (.string T1)) := I4.out.cell 0 (by simp)
  have E1 : Hid (WF.cell? ⟨w.heap.size, 1, none⟩ = some (.string T2)) := I4.out.cell 1 (by simp)
  go_wp2_with fail
  exact bodyPost_ret (v := .tuple #[.agg #[.string T1, .string T2], .int .i64 0]) (by simp [results, Tryz.results5, go_sem, E0.out, E1.out]) rfl ⟨rfl, B4.out⟩
set_option maxHeartbeats 4000000 in
theorem ref9_ok (k : KD z G S Wd M low one sq Ri Wd2 M2 low2 one2 sq2 Ri2) (h : PK S M M2) {w : World} {key a b n : ByteArray} (k1 : isEl S M key = true) (k2 : (isEl S M a && isEl S M b) = true) (k3 : isSc S M n = true) :
    Calls Tryz.prog 9 #[.int .i64 z, .string key, .agg #[.string a, .string b], .string n] w fun e w' => e = .returned (.tuple #[.agg #[.string (EX S M M2 (numS a * E M M2 (2 ^ numS n))), .string (EX S M M2 (numS b * E M M2 (numS key ^ numS n)))], .int .i64 0]) ∧ Below w.heap.size w w' := by
  obtain ⟨T1, hT1⟩ : ∃ T1, EX S M M2 (numS a * E M M2 (2 ^ numS n)) = T1 := ⟨_, rfl⟩
  obtain ⟨T2, hT2⟩ : ∃ T2, EX S M M2 (numS b * E M M2 (numS key ^ numS n)) = T2 := ⟨_, rfl⟩
  rw [hT1, hT2]
  replace hT1 : Hid _ := hT1
  replace hT2 : Hid _ := hT2
  have Xk1 : Hid (isEl S M key = true) := k1
  have Xk2 : Hid ((isEl S M a && isEl S M b) = true) := k2
  have Xk3 : Hid (isSc S M n = true) := k3
  clear k1 k2 k3
  have hS0 := k.hS0
  go_enter Tryz.func9, Tryz.ntmps9
  go_wp2_with fail
  obtain ⟨W1, hW1⟩ : ∃ X, X = ((w.alloc (.cells #[.string a, .string b] 24)).alloc (.cells #[.string ⟨#[]⟩, .string ⟨#[]⟩] 24)) := ⟨_, rfl⟩
  have Jc : Hid (IHolds W1 (w.heap.size) 24 [.string a, .string b]) := by
    have q := IHolds.new w 24 [.string a, .string b]
    show IHolds _ _ _ _
    rw [hW1]
    exact (q.alloc _)
  have Jr : Hid (IHolds W1 (w.heap.size + 1) 24 [.string ⟨#[]⟩, .string ⟨#[]⟩]) := by
    have q := IHolds.new (w.alloc (.cells #[.string a, .string b] 24)) 24 [.string ⟨#[]⟩, .string ⟨#[]⟩]
    simp only [World.size_alloc, Nat.add_assoc, Nat.reduceAdd] at q
    show IHolds _ _ _ _
    rw [hW1]
    exact q
  have B : Hid (Below w.heap.size w W1) := by
    show Below _ _ _
    rw [hW1]
    exact (((Below.refl _ w).alloc (Nat.le_refl _) _).alloc (by simp only [World.size_alloc]; omega) _)
  rw [← hW1]
  clear hW1
  refine (k.K9 _).mono ?_
  rintro e W2 ⟨⟨u1, u2, rfl, n1, n2⟩, hb⟩
  replace B := aB B hb
  replace Jc := aJ Jc hb
  replace Jr := aJ Jr hb
  clear hb
  obtain ⟨qa, ql, qc, rfl⟩ := sN (show Hid (NumV W2 65536 M u1) from n1)
  obtain ⟨pa, pl, pc, rfl⟩ := sN (show Hid (NumV W2 65536 M2 u2) from n2)
  have N1 : Hid (NumV W2 65536 M (.slice qa ql qc)) := n1
  have N2 : Hid (NumV W2 65536 M2 (.slice pa pl pc)) := n2
  clear n1 n2
  have hb := nB W2 (.cells #[.int .i64 (S : Int), .slice qa ql qc, .slice pa pl pc] 42)
  have Jg : Hid (IHolds (W2.alloc (.cells #[.int .i64 (S : Int), .slice qa ql qc, .slice pa pl pc] 42)) W2.heap.size 42 [.int .i64 (S : Int), .slice qa ql qc, .slice pa pl pc]) := IHolds.new _ _ _
  have ne_c_g := nJ Jc
  have ne_r_g := nJ Jr
  have ge_g : Hid (w.heap.size ≤ W2.heap.size) := B.out.size
  replace B := aB B hb
  replace Jc := aJ Jc hb
  replace Jr := aJ Jr hb
  replace N1 := aN N1 hb
  replace N2 := aN N2 hb
  clear hb
  go_wp2_with fail
  generalize (W2.alloc (.cells #[.int .i64 (S : Int), .slice qa ql qc, .slice pa pl pc] 42)) = W3 at *
  generalize W2.heap.size = b4 at *
  have q := isElemV N1.out N2.out key k.hS k.l6
  rw [Xk1.out] at q
  refine q.mono ?_
  clear q
  rintro e W5 ⟨rfl, hb⟩
  replace B := aB B hb
  replace Jc := aJ Jc hb
  replace Jr := aJ Jr hb
  replace Jg := aJ Jg hb
  replace N1 := aN N1 hb
  replace N2 := aN N2 hb
  clear hb
  have zg_0 : W5.cell? ⟨b4, 0, none⟩ = some (.int .i64 (S : Int)) := Jg.out.cell 0 (by simp)
  have zg_1 : W5.cell? ⟨b4, 1, none⟩ = some (.slice qa ql qc) := Jg.out.cell 1 (by simp)
  have zg_2 : W5.cell? ⟨b4, 2, none⟩ = some (.slice pa pl pc) := Jg.out.cell 2 (by simp)
  have zc_0 : W5.cell? ⟨w.heap.size, 0, none⟩ = some (.string a) := Jc.out.cell 0 (by simp)
  have zc_1 : W5.cell? ⟨w.heap.size, 1, none⟩ = some (.string b) := Jc.out.cell 1 (by simp)
  go_wp2_with fail
  clear zg_0 zg_1 zg_2 zc_0 zc_1
  have q := elems25 (a := a) (b := b) k N1.out N2.out
  rw [Xk2.out] at q
  refine q.mono ?_
  clear q
  rintro e W6 ⟨rfl, hb⟩
  replace B := aB B hb
  replace Jc := aJ Jc hb
  replace Jr := aJ Jr hb
  replace Jg := aJ Jg hb
  replace N1 := aN N1 hb
  replace N2 := aN N2 hb
  clear hb
  have zg_0 : W6.cell? ⟨b4, 0, none⟩ = some (.int .i64 (S : Int)) := Jg.out.cell 0 (by simp)
  have zg_1 : W6.cell? ⟨b4, 1, none⟩ = some (.slice qa ql qc) := Jg.out.cell 1 (by simp)
  have zg_2 : W6.cell? ⟨b4, 2, none⟩ = some (.slice pa pl pc) := Jg.out.cell 2 (by simp)
  go_wp2_with fail
  clear zg_0 zg_1 zg_2
  have q := isScalarV N1.out N2.out n k.hS k.l6
  rw [Xk3.out] at q
  refine q.mono ?_
  clear q
  rintro e W7 ⟨rfl, hb⟩
  replace B := aB B hb
  replace Jc := aJ Jc hb
  replace Jr := aJ Jr hb
  replace Jg := aJ Jg hb
  replace N1 := aN N1 hb
  replace N2 := aN N2 hb
  clear hb
  have zg_0 : W7.cell? ⟨b4, 0, none⟩ = some (.int .i64 (S : Int)) := Jg.out.cell 0 (by simp)
  have zg_1 : W7.cell? ⟨b4, 1, none⟩ = some (.slice qa ql qc) := Jg.out.cell 1 (by simp)
  have zg_2 : W7.cell? ⟨b4, 2, none⟩ = some (.slice pa pl pc) := Jg.out.cell 2 (by simp)
  go_wp2_with fail
  clear zg_0 zg_1 zg_2
  obtain ⟨W, rfl⟩ : ∃ W, W = W7 := ⟨_, rfl⟩
  have NB : Hid (∀ V, Below W.heap.size W V → NumV V 65536 M (.slice qa ql qc) ∧ NumV V 65536 M2 (.slice pa pl pc)) := fun V hV => ⟨N1.out.of_below hV, N2.out.of_below hV⟩
  have Rn : Hid (∀ V, Calls Tryz.prog 20 #[.string n] V fun e w' => (∃ v, e = .returned v ∧ NumV w' 65536 (numS n) v) ∧ Below V.heap.size V w') := fun V => read_small (isSc_size Xk3.out) k.hS V
  have R0 : Hid (∀ V, Calls Tryz.prog 24 #[.int .i64 0] V fun e w' => (∃ v, e = .returned v ∧ NumV w' 65536 0 v) ∧ Below V.heap.size V w') := fun V => of_any V 0 (by decide)
  obtain ⟨T3, hT3⟩ : ∃ T3, EX S M M2 (2 ^ numS n) = T3 := ⟨_, rfl⟩
  obtain ⟨T4, hT4⟩ : ∃ T4, EX S M M2 (2 ^ 0 * numS key ^ numS n) = T4 := ⟨_, rfl⟩
  have PH : Hid (∀ V va vb, Below W.heap.size W V → NumV V 65536 (0) va → NumV V 65536 (numS n) vb → Calls Tryz.prog 19 #[.agg #[.int .i64 (S : Int), .slice qa ql qc, .slice pa pl pc], .string key, va, vb] V fun e w' => e = .returned (.agg #[.string T3, .string T4]) ∧ Below V.heap.size V w') := fun V va vb hV g1 g2 => by
    rw [← hT3, ← hT4]
    exact hide19 k h Xk1.out g1 (Nat.zero_le _) g2 (Nat.le_of_lt (isSc_lt Xk3.out)) (NB.out V hV).1 (NB.out V hV).2
  have PB : Hid (∀ V, Below W.heap.size W V → Calls Tryz.prog 26 #[.agg #[.int .i64 (S : Int), .slice qa ql qc, .slice pa pl pc], .agg #[.string a, .string b], .agg #[.string T3, .string T4]] V fun e w' => e = .returned (.agg #[.string T1, .string T2]) ∧ Below V.heap.size V w') := fun V hV => by
    have ab := Bool.and_eq_true_iff.1 Xk2.out
    have e3 := EX_el k h (n2p h.hp h.hq h.e2 (numS n))
    have e4 := EX_el k h (x := 2 ^ 0 * numS key ^ numS n) (by rw [Nat.pow_zero, Nat.one_mul]; exact h.np (el_nd h Xk1.out) _)
    rw [hT3] at e3
    rw [hT4] at e4
    have q := both26 k h ab.1 ab.2 e3.1 e4.1 (NB.out V hV).1 (NB.out V hV).2
    rw [e3.2, e4.2, Nat.pow_zero, Nat.one_mul, hT1.out, hT2.out] at q
    exact q
  clear hT1 hT2 hT3 hT4 NB Xk1 Xk2 Xk3
  have sB : Hid (∀ V V', Below V.heap.size V V' → Below W.heap.size W V → Below W.heap.size W V') := fun V V' h h' => h'.trans (h.mono h'.size)
  have KP : Hid (∀ V, Below W.heap.size W V → (V.cell? ⟨w.heap.size, 0, none⟩ = some (.string a) ∧ V.cell? ⟨w.heap.size, 1, none⟩ = some (.string b) ∧ V.cell? ⟨b4, 0, none⟩ = some (.int .i64 (S : Int)) ∧ V.cell? ⟨b4, 1, none⟩ = some (.slice qa ql qc) ∧ V.cell? ⟨b4, 2, none⟩ = some (.slice pa pl pc))) := fun V hV => ⟨(Jc.out.of_below hV).cell 0 (by simp), (Jc.out.of_below hV).cell 1 (by simp), (Jg.out.of_below hV).cell 0 (by simp), (Jg.out.of_below hV).cell 1 (by simp), (Jg.out.of_below hV).cell 2 (by simp)⟩
  go_region_held3 (fun V => V.cell? ⟨w.heap.size, 0, none⟩ = some (.string a) ∧ V.cell? ⟨w.heap.size, 1, none⟩ = some (.string b) ∧ V.cell? ⟨b4, 0, none⟩ = some (.int .i64 (S : Int)) ∧ V.cell? ⟨b4, 1, none⟩ = some (.slice qa ql qc) ∧ V.cell? ⟨b4, 2, none⟩ = some (.slice pa pl pc))
    (first | exact KP.out _ (dB _) | assumption | exact KS.out | exact KP.out _ D9.out | exact KP.out _ D8.out | exact KP.out _ D7.out | exact KP.out _ D6.out | fail)
    (first
      | (go_at_call 24; refine (R0.out _).mono ?_; rintro e v6 ⟨⟨r6, rfl, n6⟩, hB6⟩; have D6 : Hid (Below W.heap.size W v6) := sB.out _ _ hB6 (dB _); have M6 : Hid (NumV v6 65536 (0) r6) := n6; clear n6; clear R0)
      | (go_at_call 20; refine (Rn.out _).mono ?_; rintro e v7 ⟨⟨r7, rfl, n7⟩, hB7⟩; have D7 : Hid (Below W.heap.size W v7) := sB.out _ _ hB7 D6.out; have M7 : Hid (NumV v7 65536 (numS n) r7) := n7; clear n7; replace M6 : Hid (NumV v7 65536 (0) r6) := M6.out.of_below hB7; clear Rn)
      | (go_at_call 19; refine (PH.out _ _ _ D7.out M6.out M7.out).mono ?_; rintro e v8 ⟨rfl, hB8⟩; have D8 : Hid (Below W.heap.size W v8) := sB.out _ _ hB8 D7.out; clear PH)
      | (go_at_call 26; refine (PB.out _ D8.out).mono ?_; rintro e v9 ⟨rfl, hB9⟩; have D9 : Hid (Below W.heap.size W v9) := sB.out _ _ hB9 D8.out; have Jr2 : Hid (IHolds v9 (w.heap.size + 1) 24 [.string ⟨#[]⟩, .string ⟨#[]⟩]) := Jr.out.of_below D9.out; have zr0 : v9.cell? ⟨w.heap.size + 1, 0, none⟩ = some (.string ⟨#[]⟩) := Jr2.out.cell 0 (by simp); have zr1 : v9.cell? ⟨w.heap.size + 1, 1, none⟩ = some (.string ⟨#[]⟩) := Jr2.out.cell 1 (by simp); have fr := fJ Jr2; have hBut : But (w.heap.size + 1) v9 ((v9.setCell ⟨w.heap.size + 1, 0, none⟩ (.string T1)).setCell ⟨w.heap.size + 1, 1, none⟩ (.string T2)) := (((But.refl _ v9).setCell 0 _).setCell 1 _); have Kc := tJ (aJ Jc D9.out) hBut (by first | omega | exact fun h => ne_r_c.out h.symm | exact fun h => ne_c_r.out h); have Kg := tJ (aJ Jg D9.out) hBut (by first | omega | exact fun h => ne_r_g.out h.symm | exact fun h => ne_g_r.out h); have KS : Hid (((v9.setCell ⟨w.heap.size + 1, 0, none⟩ (.string T1)).setCell ⟨w.heap.size + 1, 1, none⟩ (.string T2)).cell? ⟨w.heap.size, 0, none⟩ = some (.string a) ∧ ((v9.setCell ⟨w.heap.size + 1, 0, none⟩ (.string T1)).setCell ⟨w.heap.size + 1, 1, none⟩ (.string T2)).cell? ⟨w.heap.size, 1, none⟩ = some (.string b) ∧ ((v9.setCell ⟨w.heap.size + 1, 0, none⟩ (.string T1)).setCell ⟨w.heap.size + 1, 1, none⟩ (.string T2)).cell? ⟨b4, 0, none⟩ = some (.int .i64 (S : Int)) ∧ ((v9.setCell ⟨w.heap.size + 1, 0, none⟩ (.string T1)).setCell ⟨w.heap.size + 1, 1, none⟩ (.string T2)).cell? ⟨b4, 1, none⟩ = some (.slice qa ql qc) ∧ ((v9.setCell ⟨w.heap.size + 1, 0, none⟩ (.string T1)).setCell ⟨w.heap.size + 1, 1, none⟩ (.string T2)).cell? ⟨b4, 2, none⟩ = some (.slice pa pl pc)) := ⟨Kc.out.cell 0 (by simp), Kc.out.cell 1 (by simp), Kg.out.cell 0 (by simp), Kg.out.cell 1 (by simp), Kg.out.cell 2 (by simp)⟩; clear Kc Kg hBut; clear PB)
      | fail)
  clear zr0 zr1 fr KS
  have I4 : Hid (IHolds ((v9.setCell ⟨w.heap.size + 1, 0, none⟩ (.string T1)).setCell ⟨w.heap.size + 1, 1, none⟩ (.string T2)) (w.heap.size + 1) 24 [.string T1, .string T2]) := ((Jr2.out.set 0 _).set 1 _)
  have B4 : Hid (Below w.heap.size w ((v9.setCell ⟨w.heap.size + 1, 0, none⟩ (.string T1)).setCell ⟨w.heap.size + 1, 1, none⟩ (.string T2))) := (((B.out.trans (D9.out.mono B.out.size)).setCell (by first | exact ge_r.out | (show w.heap.size ≤ w.heap.size + 1; omega)) _).setCell (by first | exact ge_r.out | (show w.heap.size ≤ w.heap.size + 1; omega)) _)
  generalize ((v9.setCell ⟨w.heap.size + 1, 0, none⟩ (.string T1)).setCell ⟨w.heap.size + 1, 1, none⟩ (.string T2)) = WF at *
  have E0 : Hid (WF.cell? ⟨w.heap.size + 1, 0, none⟩ = some (.string T1)) := I4.out.cell 0 (by simp)
  have E1 : Hid (WF.cell? ⟨w.heap.size + 1, 1, none⟩ = some (.string T2)) := I4.out.cell 1 (by simp)
  go_wp2_with fail
  exact bodyPost_ret (v := .tuple #[.agg #[.string T1, .string T2], .int .i64 0]) (by simp [results, Tryz.results9, go_sem, E0.out, E1.out]) rfl ⟨rfl, B4.out⟩
set_option maxHeartbeats 4000000 in
theorem ref11_ok (k : KD z G S Wd M low one sq Ri Wd2 M2 low2 one2 sq2 Ri2) (h : PK S M M2) {w : World} {s a b : ByteArray} (k1 : isSc S M s = true) (k2 : (isEl S M a && isEl S M b) = true) :
    Calls Tryz.prog 11 #[.int .i64 z, .string s, .agg #[.string a, .string b]] w fun e w' => e = .returned (.tuple #[.string (EX S M M2 (numS b * (numS a ^ numS s) ^ (M2 - 2))), .int .i64 0]) ∧ Below w.heap.size w w' := by
  obtain ⟨T1, hT1⟩ : ∃ T1, EX S M M2 (numS b * (numS a ^ numS s) ^ (M2 - 2)) = T1 := ⟨_, rfl⟩
  rw [hT1]
  replace hT1 : Hid _ := hT1
  have Xk1 : Hid (isSc S M s = true) := k1
  have Xk2 : Hid ((isEl S M a && isEl S M b) = true) := k2
  clear k1 k2
  have hS0 := k.hS0
  go_enter Tryz.func11, Tryz.ntmps11
  go_wp2_with fail
  obtain ⟨W1, hW1⟩ : ∃ X, X = (w.alloc (.cells #[.string a, .string b] 24)) := ⟨_, rfl⟩
  have Jc : Hid (IHolds W1 (w.heap.size) 24 [.string a, .string b]) := by
    have q := IHolds.new w 24 [.string a, .string b]
    show IHolds _ _ _ _
    rw [hW1]
    exact q
  have B : Hid (Below w.heap.size w W1) := by
    show Below _ _ _
    rw [hW1]
    exact ((Below.refl _ w).alloc (Nat.le_refl _) _)
  rw [← hW1]
  clear hW1
  refine (k.K9 _).mono ?_
  rintro e W2 ⟨⟨u1, u2, rfl, n1, n2⟩, hb⟩
  replace B := aB B hb
  replace Jc := aJ Jc hb
  clear hb
  obtain ⟨qa, ql, qc, rfl⟩ := sN (show Hid (NumV W2 65536 M u1) from n1)
  obtain ⟨pa, pl, pc, rfl⟩ := sN (show Hid (NumV W2 65536 M2 u2) from n2)
  have N1 : Hid (NumV W2 65536 M (.slice qa ql qc)) := n1
  have N2 : Hid (NumV W2 65536 M2 (.slice pa pl pc)) := n2
  clear n1 n2
  have hb := nB W2 (.cells #[.int .i64 (S : Int), .slice qa ql qc, .slice pa pl pc] 42)
  have Jg : Hid (IHolds (W2.alloc (.cells #[.int .i64 (S : Int), .slice qa ql qc, .slice pa pl pc] 42)) W2.heap.size 42 [.int .i64 (S : Int), .slice qa ql qc, .slice pa pl pc]) := IHolds.new _ _ _
  have ne_c_g := nJ Jc
  have ge_g : Hid (w.heap.size ≤ W2.heap.size) := B.out.size
  replace B := aB B hb
  replace Jc := aJ Jc hb
  replace N1 := aN N1 hb
  replace N2 := aN N2 hb
  clear hb
  go_wp2_with fail
  generalize (W2.alloc (.cells #[.int .i64 (S : Int), .slice qa ql qc, .slice pa pl pc] 42)) = W3 at *
  generalize W2.heap.size = b4 at *
  have q := isScalarV N1.out N2.out s k.hS k.l6
  rw [Xk1.out] at q
  refine q.mono ?_
  clear q
  rintro e W5 ⟨rfl, hb⟩
  replace B := aB B hb
  replace Jc := aJ Jc hb
  replace Jg := aJ Jg hb
  replace N1 := aN N1 hb
  replace N2 := aN N2 hb
  clear hb
  have zg_0 : W5.cell? ⟨b4, 0, none⟩ = some (.int .i64 (S : Int)) := Jg.out.cell 0 (by simp)
  have zg_1 : W5.cell? ⟨b4, 1, none⟩ = some (.slice qa ql qc) := Jg.out.cell 1 (by simp)
  have zg_2 : W5.cell? ⟨b4, 2, none⟩ = some (.slice pa pl pc) := Jg.out.cell 2 (by simp)
  have zc_0 : W5.cell? ⟨w.heap.size, 0, none⟩ = some (.string a) := Jc.out.cell 0 (by simp)
  have zc_1 : W5.cell? ⟨w.heap.size, 1, none⟩ = some (.string b) := Jc.out.cell 1 (by simp)
  go_wp2_with fail
  clear zg_0 zg_1 zg_2 zc_0 zc_1
  have q := elems25 (a := a) (b := b) k N1.out N2.out
  rw [Xk2.out] at q
  refine q.mono ?_
  clear q
  rintro e W6 ⟨rfl, hb⟩
  replace B := aB B hb
  replace Jc := aJ Jc hb
  replace Jg := aJ Jg hb
  replace N1 := aN N1 hb
  replace N2 := aN N2 hb
  clear hb
  have zg_0 : W6.cell? ⟨b4, 0, none⟩ = some (.int .i64 (S : Int)) := Jg.out.cell 0 (by simp)
  have zg_1 : W6.cell? ⟨b4, 1, none⟩ = some (.slice qa ql qc) := Jg.out.cell 1 (by simp)
  have zg_2 : W6.cell? ⟨b4, 2, none⟩ = some (.slice pa pl pc) := Jg.out.cell 2 (by simp)
  go_wp2_with fail
  clear zg_0 zg_1 zg_2
  obtain ⟨W, rfl⟩ : ∃ W, W = W6 := ⟨_, rfl⟩
  have NB : Hid (∀ V, Below W.heap.size W V → NumV V 65536 M (.slice qa ql qc) ∧ NumV V 65536 M2 (.slice pa pl pc)) := fun V hV => ⟨N1.out.of_below hV, N2.out.of_below hV⟩
  obtain ⟨e4, he4⟩ : ∃ e4, E M M2 (numS b * (numS a ^ numS s) ^ (M2 - 2)) = e4 := ⟨_, rfl⟩
  have PS : Hid (∀ V, Below W.heap.size W V → Calls Tryz.prog 31 #[.agg #[.int .i64 (S : Int), .slice qa ql qc, .slice pa pl pc], .string s, .agg #[.string a, .string b]] V fun e w' => (∃ v, e = .returned v ∧ NumV w' 65536 e4 v) ∧ Below V.heap.size V w') := fun V hV => by
    have ab := Bool.and_eq_true_iff.1 Xk2.out
    rw [← he4]
    exact shown31 k h Xk1.out ab.1 ab.2 (NB.out V hV).1 (NB.out V hV).2
  have RT : Hid (∀ V va, NumV V 65536 e4 va → Calls Tryz.prog 23 #[va, .int .i64 (S : Int)] V fun e w' => e = .returned (.string T1) ∧ Below V.heap.size V w') := fun V va ha => by rw [← hT1.out]; rw [← he4] at ha; exact textE k h ha
  clear hT1 he4 NB Xk1 Xk2
  have sB : Hid (∀ V V', Below V.heap.size V V' → Below W.heap.size W V → Below W.heap.size W V') := fun V V' h h' => h'.trans (h.mono h'.size)
  have KP : Hid (∀ V, Below W.heap.size W V → (V.cell? ⟨w.heap.size, 0, none⟩ = some (.string a) ∧ V.cell? ⟨w.heap.size, 1, none⟩ = some (.string b) ∧ V.cell? ⟨b4, 0, none⟩ = some (.int .i64 (S : Int)) ∧ V.cell? ⟨b4, 1, none⟩ = some (.slice qa ql qc) ∧ V.cell? ⟨b4, 2, none⟩ = some (.slice pa pl pc))) := fun V hV => ⟨(Jc.out.of_below hV).cell 0 (by simp), (Jc.out.of_below hV).cell 1 (by simp), (Jg.out.of_below hV).cell 0 (by simp), (Jg.out.of_below hV).cell 1 (by simp), (Jg.out.of_below hV).cell 2 (by simp)⟩
  go_region_held3 (fun V => V.cell? ⟨w.heap.size, 0, none⟩ = some (.string a) ∧ V.cell? ⟨w.heap.size, 1, none⟩ = some (.string b) ∧ V.cell? ⟨b4, 0, none⟩ = some (.int .i64 (S : Int)) ∧ V.cell? ⟨b4, 1, none⟩ = some (.slice qa ql qc) ∧ V.cell? ⟨b4, 2, none⟩ = some (.slice pa pl pc))
    (first | exact KP.out _ (dB _) | assumption | exact KP.out _ D7.out | exact KP.out _ D6.out | fail)
    (first
      | (go_at_call 31; refine (PS.out _ (dB _)).mono ?_; rintro e v6 ⟨⟨r6, rfl, n6⟩, hB6⟩; have D6 : Hid (Below W.heap.size W v6) := sB.out _ _ hB6 (dB _); have M6 : Hid (NumV v6 65536 (e4) r6) := n6; clear n6; clear PS)
      | (go_at_call 23; refine (RT.out _ _ M6.out).mono ?_; rintro e v7 ⟨rfl, hB7⟩; have D7 : Hid (Below W.heap.size W v7) := sB.out _ _ hB7 D6.out; clear RT)
      | fail)
  go_wp2_with fail
  exact bodyPost_ret (v := .tuple #[.string T1, .int .i64 0]) (by simp [results, Tryz.results11, go_sem]) rfl ⟨rfl, B.out.trans (D7.out.mono B.out.size)⟩
end
end Go.Proofs.YtohpbclofcflaaaGreat
