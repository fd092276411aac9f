/- The reference's Extract: the ways that end early. -/
import Derived.Test.YtokkjdelomkfiaaSm3
set_option linter.unusedSimpArgs false
set_option linter.unusedVariables false
set_option maxRecDepth 100000
namespace Go.Proofs.Ytokkjdelomkfiaa
open Go.RowKit Go.Deep Go.PlainAid

section
variable {z : Int} {G : Array Value} {S Wd M low one sq Ri Wd2 M2 low2 one2 sq2 Ri2 : Nat}
set_option maxHeartbeats 2000000 in
theorem ref7_len (k : KD z G S Wd M low one sq Ri Wd2 M2 low2 one2 sq2 Ri2) {w : World} {a b : Option Addr} {x y : ByteArray} {l m : List ByteArray} {c d : Nat} (hl : l.length ≤ 8796093022207) (hml : m.length ≤ 8796093022207) (hs : SL w a l) (hm : SL w b m) (hne : m.length ≠ l.length) :
    Calls Try.prog 7 #[.int .i64 z, .agg #[.string x, .slice a l.length c], .agg #[.string y, .slice b m.length d]] w fun e w' => e = .returned (.tuple #[.slice none 0 0, .int .i64 2]) ∧ Below w.heap.size w w' := by
  generalize hW : (w.alloc (.cells #[.string x, .slice a l.length c] 24)).alloc (.cells #[.string y, .slice b m.length d] 24) = W
  have J : Hid (Below w.heap.size w W) := by rw [← hW]; exact ((Below.refl _ w).alloc (Nat.le_refl _) _).alloc (by simp) _
  have I1 : Hid (IHolds W w.heap.size 24 [.string x, .slice a l.length c]) := by rw [← hW]; exact (IHolds.new' w 24 [.string x, .slice a l.length c] rfl).alloc _
  have I2 : Hid (IHolds W (w.heap.size + 1) 24 [.string y, .slice b m.length d]) := by rw [← hW]; exact IHolds.new' (w.alloc _) 24 [.string y, .slice b m.length d] (by simp)
  have HS : Hid (SL W a l) := hs.of_below J.out
  have HM : Hid (SL W b m) := hm.of_below J.out
  clear hs hm
  go_enter Try.func7, Try.ntmps7
  go_wp2_with fail
  clear hW
  refine (k.K9 _).mono ?_
  rintro e w1 ⟨⟨u1, u2, rfl, n1, n2⟩, hB1⟩
  obtain ⟨qa, ql, qc, rfl⟩ := sN (show Hid (NumV w1 65536 M u1) from n1)
  obtain ⟨pa, pl, pc, rfl⟩ := sN (show Hid (NumV w1 65536 M2 u2) from n2)
  obtain ⟨U, hU⟩ : ∃ U, w1.alloc (.cells #[.int .i64 (S : Int), .slice qa ql qc, .slice pa pl pc] 54) = U := ⟨_, rfl⟩
  have B1 : Hid (Below W.heap.size W U) := by rw [← hU]; exact hB1.trans ((nB _ _).mono hB1.size)
  have N1 : Hid (NumV U 65536 M (.slice qa ql qc)) := by rw [← hU]; exact n1.of_below (nB _ _)
  have N2 : Hid (NumV U 65536 M2 (.slice pa pl pc)) := by rw [← hU]; exact n2.of_below (nB _ _)
  have J0 : Hid (IHolds U w1.heap.size 54 [.int .i64 (S : Int), .slice qa ql qc, .slice pa pl pc]) := by rw [← hU]; exact IHolds.new' w1 54 [.int .i64 (S : Int), .slice qa ql qc, .slice pa pl pc] rfl
  have J1 : Hid (IHolds U w.heap.size 24 [.string x, .slice a l.length c]) := I1.out.of_below B1.out
  have J2 : Hid (IHolds U (w.heap.size + 1) 24 [.string y, .slice b m.length d]) := I2.out.of_below B1.out
  clear I1 I2 n1 n2 hB1
  have KC : Hid (∀ V, Below U.heap.size U V → V.cell? ⟨w1.heap.size, 0, none⟩ = some (.int .i64 (S : Int)) ∧ V.cell? ⟨w1.heap.size, 1, none⟩ = some (.slice qa ql qc) ∧ V.cell? ⟨w1.heap.size, 2, none⟩ = some (.slice pa pl pc) ∧ V.cell? ⟨w.heap.size, 0, none⟩ = some (.string x) ∧ V.cell? ⟨w.heap.size, 1, none⟩ = some (.slice a l.length c) ∧ V.cell? ⟨w.heap.size + 1, 0, none⟩ = some (.string y) ∧ V.cell? ⟨w.heap.size + 1, 1, none⟩ = some (.slice b m.length d)) := fun V hV => ⟨cell_keep (J0.out.cell 0 (by simp)) hV, cell_keep (J0.out.cell 1 (by simp)) hV, cell_keep (J0.out.cell 2 (by simp)) hV, cell_keep J1.out.two0 hV, cell_keep J1.out.two1 hV, cell_keep J2.out.two0 hV, cell_keep J2.out.two1 hV⟩
  have CX : Hid (∀ V, Below U.heap.size U V → Calls Try.prog 24 #[.agg #[.int .i64 (S : Int), .slice qa ql qc, .slice pa pl pc], .string x] V fun e w' => e = .returned (.bool (isSc S M x)) ∧ Below V.heap.size V w') := fun V hV => isScalarV (N1.out.of_below hV) (N2.out.of_below hV) x k.hS k.l6
  have CY : Hid (∀ V, Below U.heap.size U V → Calls Try.prog 24 #[.agg #[.int .i64 (S : Int), .slice qa ql qc, .slice pa pl pc], .string y] V fun e w' => e = .returned (.bool (isSc S M y)) ∧ Below V.heap.size V w') := fun V hV => isScalarV (N1.out.of_below hV) (N2.out.of_below hV) y k.hS k.l6
  have CL : Hid (∀ V, Below U.heap.size U V → Calls Try.prog 23 #[.agg #[.int .i64 (S : Int), .slice qa ql qc, .slice pa pl pc], .int .i64 (l.length : Int), .slice a l.length c] V fun e w' => e = .returned (.int .i64 (if l.all (isSc S M) = true then 0 else 6)) ∧ Below V.heap.size V w') := fun V hV => wrongScalars23 (isSc S M) hl ((HS.out.of_below B1.out).of_below hV) (fun s V2 h2 => isScalarV ((N1.out.of_below hV).of_below h2) ((N2.out.of_below hV).of_below h2) s k.hS k.l6)
  have CM : Hid (∀ V, Below U.heap.size U V → Calls Try.prog 23 #[.agg #[.int .i64 (S : Int), .slice qa ql qc, .slice pa pl pc], .int .i64 (m.length : Int), .slice b m.length d] V fun e w' => e = .returned (.int .i64 (if m.all (isSc S M) = true then 0 else 6)) ∧ Below V.heap.size V w') := fun V hV => wrongScalars23 (isSc S M) hml ((HM.out.of_below B1.out).of_below hV) (fun s V2 h2 => isScalarV ((N1.out.of_below hV).of_below h2) ((N2.out.of_below hV).of_below h2) s k.hS k.l6)
  have hS0 := k.hS0
  obtain ⟨y0, y1, y2, y3, y4, y5, y6⟩ := KC.out U (Below.refl _ _)
  have hne' : ((l.length : Int) != (m.length : Int)) = true := by simp [bne]; omega
  clear CX CY CL CM
  go_wp2_with fail
  exact bodyPost_ret (v := .tuple #[.slice none 0 0, .int .i64 2]) (by simp [results, Try.results7, go_sem]) rfl ⟨rfl, J.out.trans ((B1.out).mono J.out.size)⟩
set_option maxHeartbeats 2000000 in
theorem ref7_nil (k : KD z G S Wd M low one sq Ri Wd2 M2 low2 one2 sq2 Ri2) {w : World} {a b : Option Addr} {x y : ByteArray} {l m : List ByteArray} {c d : Nat} (hl : l.length ≤ 8796093022207) (hml : m.length ≤ 8796093022207) (hs : SL w a l) (hm : SL w b m) (he : m.length = l.length) (h0 : l.length = 0) :
    Calls Try.prog 7 #[.int .i64 z, .agg #[.string x, .slice a l.length c], .agg #[.string y, .slice b m.length d]] w fun e w' => e = .returned (.tuple #[.slice none 0 0, .int .i64 2]) ∧ Below w.heap.size w w' := by
  have HE : Hid (m.length = l.length) := he
  have H0 : Hid _ := h0
  rw [he]
  clear he h0
  generalize hW : (w.alloc (.cells #[.string x, .slice a l.length c] 24)).alloc (.cells #[.string y, .slice b l.length d] 24) = W
  have J : Hid (Below w.heap.size w W) := by rw [← hW]; exact ((Below.refl _ w).alloc (Nat.le_refl _) _).alloc (by simp) _
  have I1 : Hid (IHolds W w.heap.size 24 [.string x, .slice a l.length c]) := by rw [← hW]; exact (IHolds.new' w 24 [.string x, .slice a l.length c] rfl).alloc _
  have I2 : Hid (IHolds W (w.heap.size + 1) 24 [.string y, .slice b l.length d]) := by rw [← hW]; exact IHolds.new' (w.alloc _) 24 [.string y, .slice b l.length d] (by simp)
  have HS : Hid (SL W a l) := hs.of_below J.out
  have HM : Hid (SL W b m) := hm.of_below J.out
  clear hs hm
  go_enter Try.func7, Try.ntmps7
  go_wp2_with fail
  clear hW
  refine (k.K9 _).mono ?_
  rintro e w1 ⟨⟨u1, u2, rfl, n1, n2⟩, hB1⟩
  obtain ⟨qa, ql, qc, rfl⟩ := sN (show Hid (NumV w1 65536 M u1) from n1)
  obtain ⟨pa, pl, pc, rfl⟩ := sN (show Hid (NumV w1 65536 M2 u2) from n2)
  obtain ⟨U, hU⟩ : ∃ U, w1.alloc (.cells #[.int .i64 (S : Int), .slice qa ql qc, .slice pa pl pc] 54) = U := ⟨_, rfl⟩
  have B1 : Hid (Below W.heap.size W U) := by rw [← hU]; exact hB1.trans ((nB _ _).mono hB1.size)
  have N1 : Hid (NumV U 65536 M (.slice qa ql qc)) := by rw [← hU]; exact n1.of_below (nB _ _)
  have N2 : Hid (NumV U 65536 M2 (.slice pa pl pc)) := by rw [← hU]; exact n2.of_below (nB _ _)
  have J0 : Hid (IHolds U w1.heap.size 54 [.int .i64 (S : Int), .slice qa ql qc, .slice pa pl pc]) := by rw [← hU]; exact IHolds.new' w1 54 [.int .i64 (S : Int), .slice qa ql qc, .slice pa pl pc] rfl
  have J1 : Hid (IHolds U w.heap.size 24 [.string x, .slice a l.length c]) := I1.out.of_below B1.out
  have J2 : Hid (IHolds U (w.heap.size + 1) 24 [.string y, .slice b l.length d]) := I2.out.of_below B1.out
  clear I1 I2 n1 n2 hB1
  have KC : Hid (∀ V, Below U.heap.size U V → V.cell? ⟨w1.heap.size, 0, none⟩ = some (.int .i64 (S : Int)) ∧ V.cell? ⟨w1.heap.size, 1, none⟩ = some (.slice qa ql qc) ∧ V.cell? ⟨w1.heap.size, 2, none⟩ = some (.slice pa pl pc) ∧ V.cell? ⟨w.heap.size, 0, none⟩ = some (.string x) ∧ V.cell? ⟨w.heap.size, 1, none⟩ = some (.slice a l.length c) ∧ V.cell? ⟨w.heap.size + 1, 0, none⟩ = some (.string y) ∧ V.cell? ⟨w.heap.size + 1, 1, none⟩ = some (.slice b l.length d)) := fun V hV => ⟨cell_keep (J0.out.cell 0 (by simp)) hV, cell_keep (J0.out.cell 1 (by simp)) hV, cell_keep (J0.out.cell 2 (by simp)) hV, cell_keep J1.out.two0 hV, cell_keep J1.out.two1 hV, cell_keep J2.out.two0 hV, cell_keep J2.out.two1 hV⟩
  have CX : Hid (∀ V, Below U.heap.size U V → Calls Try.prog 24 #[.agg #[.int .i64 (S : Int), .slice qa ql qc, .slice pa pl pc], .string x] V fun e w' => e = .returned (.bool (isSc S M x)) ∧ Below V.heap.size V w') := fun V hV => isScalarV (N1.out.of_below hV) (N2.out.of_below hV) x k.hS k.l6
  have CY : Hid (∀ V, Below U.heap.size U V → Calls Try.prog 24 #[.agg #[.int .i64 (S : Int), .slice qa ql qc, .slice pa pl pc], .string y] V fun e w' => e = .returned (.bool (isSc S M y)) ∧ Below V.heap.size V w') := fun V hV => isScalarV (N1.out.of_below hV) (N2.out.of_below hV) y k.hS k.l6
  have CL : Hid (∀ V, Below U.heap.size U V → Calls Try.prog 23 #[.agg #[.int .i64 (S : Int), .slice qa ql qc, .slice pa pl pc], .int .i64 (l.length : Int), .slice a l.length c] V fun e w' => e = .returned (.int .i64 (if l.all (isSc S M) = true then 0 else 6)) ∧ Below V.heap.size V w') := fun V hV => wrongScalars23 (isSc S M) hl ((HS.out.of_below B1.out).of_below hV) (fun s V2 h2 => isScalarV ((N1.out.of_below hV).of_below h2) ((N2.out.of_below hV).of_below h2) s k.hS k.l6)
  have CM : Hid (∀ V, Below U.heap.size U V → Calls Try.prog 23 #[.agg #[.int .i64 (S : Int), .slice qa ql qc, .slice pa pl pc], .int .i64 (l.length : Int), .slice b l.length d] V fun e w' => e = .returned (.int .i64 (if m.all (isSc S M) = true then 0 else 6)) ∧ Below V.heap.size V w') := fun V hV => by
    have q := wrongScalars23 (c := d) (isSc S M) hml ((HM.out.of_below B1.out).of_below hV) (fun s V2 h2 => isScalarV ((N1.out.of_below hV).of_below h2) ((N2.out.of_below hV).of_below h2) s k.hS k.l6)
    rw [HE.out] at q
    exact q
  have hS0 := k.hS0
  obtain ⟨y0, y1, y2, y3, y4, y5, y6⟩ := KC.out U (Below.refl _ _)
  have hz : ((l.length : Int) == 0) = true := beq_iff_eq.2 (by have := H0.out; omega)
  clear CX CY CL CM
  go_wp2_with fail
  exact bodyPost_ret (v := .tuple #[.slice none 0 0, .int .i64 2]) (by simp [results, Try.results7, go_sem]) rfl ⟨rfl, J.out.trans ((B1.out).mono J.out.size)⟩
set_option maxHeartbeats 2000000 in
theorem ref7_one (k : KD z G S Wd M low one sq Ri Wd2 M2 low2 one2 sq2 Ri2) {w : World} {a b : Option Addr} {x y : ByteArray} {l m : List ByteArray} {c d : Nat} (hl : l.length ≤ 8796093022207) (hml : m.length ≤ 8796093022207) (hs : SL w a l) (hm : SL w b m) (he : m.length = l.length) (h0 : l.length ≠ 0) (h1 : l.all (isSc S M) = false) :
    Calls Try.prog 7 #[.int .i64 z, .agg #[.string x, .slice a l.length c], .agg #[.string y, .slice b m.length d]] w fun e w' => e = .returned (.tuple #[.slice none 0 0, .int .i64 6]) ∧ Below w.heap.size w w' := by
  have HE : Hid (m.length = l.length) := he
  have H0 : Hid _ := h0
  rw [he]
  clear he h0
  generalize hW : (w.alloc (.cells #[.string x, .slice a l.length c] 24)).alloc (.cells #[.string y, .slice b l.length d] 24) = W
  have J : Hid (Below w.heap.size w W) := by rw [← hW]; exact ((Below.refl _ w).alloc (Nat.le_refl _) _).alloc (by simp) _
  have I1 : Hid (IHolds W w.heap.size 24 [.string x, .slice a l.length c]) := by rw [← hW]; exact (IHolds.new' w 24 [.string x, .slice a l.length c] rfl).alloc _
  have I2 : Hid (IHolds W (w.heap.size + 1) 24 [.string y, .slice b l.length d]) := by rw [← hW]; exact IHolds.new' (w.alloc _) 24 [.string y, .slice b l.length d] (by simp)
  have HS : Hid (SL W a l) := hs.of_below J.out
  have HM : Hid (SL W b m) := hm.of_below J.out
  clear hs hm
  go_enter Try.func7, Try.ntmps7
  go_wp2_with fail
  clear hW
  refine (k.K9 _).mono ?_
  rintro e w1 ⟨⟨u1, u2, rfl, n1, n2⟩, hB1⟩
  obtain ⟨qa, ql, qc, rfl⟩ := sN (show Hid (NumV w1 65536 M u1) from n1)
  obtain ⟨pa, pl, pc, rfl⟩ := sN (show Hid (NumV w1 65536 M2 u2) from n2)
  obtain ⟨U, hU⟩ : ∃ U, w1.alloc (.cells #[.int .i64 (S : Int), .slice qa ql qc, .slice pa pl pc] 54) = U := ⟨_, rfl⟩
  have B1 : Hid (Below W.heap.size W U) := by rw [← hU]; exact hB1.trans ((nB _ _).mono hB1.size)
  have N1 : Hid (NumV U 65536 M (.slice qa ql qc)) := by rw [← hU]; exact n1.of_below (nB _ _)
  have N2 : Hid (NumV U 65536 M2 (.slice pa pl pc)) := by rw [← hU]; exact n2.of_below (nB _ _)
  have J0 : Hid (IHolds U w1.heap.size 54 [.int .i64 (S : Int), .slice qa ql qc, .slice pa pl pc]) := by rw [← hU]; exact IHolds.new' w1 54 [.int .i64 (S : Int), .slice qa ql qc, .slice pa pl pc] rfl
  have J1 : Hid (IHolds U w.heap.size 24 [.string x, .slice a l.length c]) := I1.out.of_below B1.out
  have J2 : Hid (IHolds U (w.heap.size + 1) 24 [.string y, .slice b l.length d]) := I2.out.of_below B1.out
  clear I1 I2 n1 n2 hB1
  have KC : Hid (∀ V, Below U.heap.size U V → V.cell? ⟨w1.heap.size, 0, none⟩ = some (.int .i64 (S : Int)) ∧ V.cell? ⟨w1.heap.size, 1, none⟩ = some (.slice qa ql qc) ∧ V.cell? ⟨w1.heap.size, 2, none⟩ = some (.slice pa pl pc) ∧ V.cell? ⟨w.heap.size, 0, none⟩ = some (.string x) ∧ V.cell? ⟨w.heap.size, 1, none⟩ = some (.slice a l.length c) ∧ V.cell? ⟨w.heap.size + 1, 0, none⟩ = some (.string y) ∧ V.cell? ⟨w.heap.size + 1, 1, none⟩ = some (.slice b l.length d)) := fun V hV => ⟨cell_keep (J0.out.cell 0 (by simp)) hV, cell_keep (J0.out.cell 1 (by simp)) hV, cell_keep (J0.out.cell 2 (by simp)) hV, cell_keep J1.out.two0 hV, cell_keep J1.out.two1 hV, cell_keep J2.out.two0 hV, cell_keep J2.out.two1 hV⟩
  have CX : Hid (∀ V, Below U.heap.size U V → Calls Try.prog 24 #[.agg #[.int .i64 (S : Int), .slice qa ql qc, .slice pa pl pc], .string x] V fun e w' => e = .returned (.bool (isSc S M x)) ∧ Below V.heap.size V w') := fun V hV => isScalarV (N1.out.of_below hV) (N2.out.of_below hV) x k.hS k.l6
  have CY : Hid (∀ V, Below U.heap.size U V → Calls Try.prog 24 #[.agg #[.int .i64 (S : Int), .slice qa ql qc, .slice pa pl pc], .string y] V fun e w' => e = .returned (.bool (isSc S M y)) ∧ Below V.heap.size V w') := fun V hV => isScalarV (N1.out.of_below hV) (N2.out.of_below hV) y k.hS k.l6
  have CL : Hid (∀ V, Below U.heap.size U V → Calls Try.prog 23 #[.agg #[.int .i64 (S : Int), .slice qa ql qc, .slice pa pl pc], .int .i64 (l.length : Int), .slice a l.length c] V fun e w' => e = .returned (.int .i64 (if l.all (isSc S M) = true then 0 else 6)) ∧ Below V.heap.size V w') := fun V hV => wrongScalars23 (isSc S M) hl ((HS.out.of_below B1.out).of_below hV) (fun s V2 h2 => isScalarV ((N1.out.of_below hV).of_below h2) ((N2.out.of_below hV).of_below h2) s k.hS k.l6)
  have CM : Hid (∀ V, Below U.heap.size U V → Calls Try.prog 23 #[.agg #[.int .i64 (S : Int), .slice qa ql qc, .slice pa pl pc], .int .i64 (l.length : Int), .slice b l.length d] V fun e w' => e = .returned (.int .i64 (if m.all (isSc S M) = true then 0 else 6)) ∧ Below V.heap.size V w') := fun V hV => by
    have q := wrongScalars23 (c := d) (isSc S M) hml ((HM.out.of_below B1.out).of_below hV) (fun s V2 h2 => isScalarV ((N1.out.of_below hV).of_below h2) ((N2.out.of_below hV).of_below h2) s k.hS k.l6)
    rw [HE.out] at q
    exact q
  have hS0 := k.hS0
  obtain ⟨y0, y1, y2, y3, y4, y5, y6⟩ := KC.out U (Below.refl _ _)
  have hz : ((l.length : Int) == 0) = false := beq_eq_false_iff_ne.2 (fun q => H0.out (by omega))
  replace CL : Hid (∀ V, Below U.heap.size U V → Calls Try.prog 23 #[.agg #[.int .i64 (S : Int), .slice qa ql qc, .slice pa pl pc], .int .i64 (l.length : Int), .slice a l.length c] V fun e w' => e = .returned (.int .i64 6) ∧ Below V.heap.size V w') := fun V hV => by have q := CL.out V hV; rw [h1] at q; exact q
  clear CM
  clear CX
  clear CY
  clear h1
  go_wp2_with (first
    | (go_at_call 23; refine (CL.out _ (Below.refl _ _)).mono ?_; rintro e w2 ⟨rfl, hB2⟩; have B2 : Hid (Below U.heap.size U w2) := hB2; obtain ⟨y0, y1, y2, y3, y4, y5, y6⟩ := KC.out w2 hB2; clear hB2 CL))
  exact bodyPost_ret (v := .tuple #[.slice none 0 0, .int .i64 6]) (by simp [results, Try.results7, go_sem]) rfl ⟨rfl, J.out.trans ((B1.out.trans (B2.out.mono B1.out.size)).mono J.out.size)⟩
set_option maxHeartbeats 2000000 in
theorem ref7_two (k : KD z G S Wd M low one sq Ri Wd2 M2 low2 one2 sq2 Ri2) {w : World} {a b : Option Addr} {x y : ByteArray} {l m : List ByteArray} {c d : Nat} (hl : l.length ≤ 8796093022207) (hml : m.length ≤ 8796093022207) (hs : SL w a l) (hm : SL w b m) (he : m.length = l.length) (h0 : l.length ≠ 0) (h1 : l.all (isSc S M) = true) (h2 : m.all (isSc S M) = false) :
    Calls Try.prog 7 #[.int .i64 z, .agg #[.string x, .slice a l.length c], .agg #[.string y, .slice b m.length d]] w fun e w' => e = .returned (.tuple #[.slice none 0 0, .int .i64 6]) ∧ Below w.heap.size w w' := by
  have HE : Hid (m.length = l.length) := he
  have H0 : Hid _ := h0
  rw [he]
  clear he h0
  generalize hW : (w.alloc (.cells #[.string x, .slice a l.length c] 24)).alloc (.cells #[.string y, .slice b l.length d] 24) = W
  have J : Hid (Below w.heap.size w W) := by rw [← hW]; exact ((Below.refl _ w).alloc (Nat.le_refl _) _).alloc (by simp) _
  have I1 : Hid (IHolds W w.heap.size 24 [.string x, .slice a l.length c]) := by rw [← hW]; exact (IHolds.new' w 24 [.string x, .slice a l.length c] rfl).alloc _
  have I2 : Hid (IHolds W (w.heap.size + 1) 24 [.string y, .slice b l.length d]) := by rw [← hW]; exact IHolds.new' (w.alloc _) 24 [.string y, .slice b l.length d] (by simp)
  have HS : Hid (SL W a l) := hs.of_below J.out
  have HM : Hid (SL W b m) := hm.of_below J.out
  clear hs hm
  go_enter Try.func7, Try.ntmps7
  go_wp2_with fail
  clear hW
  refine (k.K9 _).mono ?_
  rintro e w1 ⟨⟨u1, u2, rfl, n1, n2⟩, hB1⟩
  obtain ⟨qa, ql, qc, rfl⟩ := sN (show Hid (NumV w1 65536 M u1) from n1)
  obtain ⟨pa, pl, pc, rfl⟩ := sN (show Hid (NumV w1 65536 M2 u2) from n2)
  obtain ⟨U, hU⟩ : ∃ U, w1.alloc (.cells #[.int .i64 (S : Int), .slice qa ql qc, .slice pa pl pc] 54) = U := ⟨_, rfl⟩
  have B1 : Hid (Below W.heap.size W U) := by rw [← hU]; exact hB1.trans ((nB _ _).mono hB1.size)
  have N1 : Hid (NumV U 65536 M (.slice qa ql qc)) := by rw [← hU]; exact n1.of_below (nB _ _)
  have N2 : Hid (NumV U 65536 M2 (.slice pa pl pc)) := by rw [← hU]; exact n2.of_below (nB _ _)
  have J0 : Hid (IHolds U w1.heap.size 54 [.int .i64 (S : Int), .slice qa ql qc, .slice pa pl pc]) := by rw [← hU]; exact IHolds.new' w1 54 [.int .i64 (S : Int), .slice qa ql qc, .slice pa pl pc] rfl
  have J1 : Hid (IHolds U w.heap.size 24 [.string x, .slice a l.length c]) := I1.out.of_below B1.out
  have J2 : Hid (IHolds U (w.heap.size + 1) 24 [.string y, .slice b l.length d]) := I2.out.of_below B1.out
  clear I1 I2 n1 n2 hB1
  have KC : Hid (∀ V, Below U.heap.size U V → V.cell? ⟨w1.heap.size, 0, none⟩ = some (.int .i64 (S : Int)) ∧ V.cell? ⟨w1.heap.size, 1, none⟩ = some (.slice qa ql qc) ∧ V.cell? ⟨w1.heap.size, 2, none⟩ = some (.slice pa pl pc) ∧ V.cell? ⟨w.heap.size, 0, none⟩ = some (.string x) ∧ V.cell? ⟨w.heap.size, 1, none⟩ = some (.slice a l.length c) ∧ V.cell? ⟨w.heap.size + 1, 0, none⟩ = some (.string y) ∧ V.cell? ⟨w.heap.size + 1, 1, none⟩ = some (.slice b l.length d)) := fun V hV => ⟨cell_keep (J0.out.cell 0 (by simp)) hV, cell_keep (J0.out.cell 1 (by simp)) hV, cell_keep (J0.out.cell 2 (by simp)) hV, cell_keep J1.out.two0 hV, cell_keep J1.out.two1 hV, cell_keep J2.out.two0 hV, cell_keep J2.out.two1 hV⟩
  have CX : Hid (∀ V, Below U.heap.size U V → Calls Try.prog 24 #[.agg #[.int .i64 (S : Int), .slice qa ql qc, .slice pa pl pc], .string x] V fun e w' => e = .returned (.bool (isSc S M x)) ∧ Below V.heap.size V w') := fun V hV => isScalarV (N1.out.of_below hV) (N2.out.of_below hV) x k.hS k.l6
  have CY : Hid (∀ V, Below U.heap.size U V → Calls Try.prog 24 #[.agg #[.int .i64 (S : Int), .slice qa ql qc, .slice pa pl pc], .string y] V fun e w' => e = .returned (.bool (isSc S M y)) ∧ Below V.heap.size V w') := fun V hV => isScalarV (N1.out.of_below hV) (N2.out.of_below hV) y k.hS k.l6
  have CL : Hid (∀ V, Below U.heap.size U V → Calls Try.prog 23 #[.agg #[.int .i64 (S : Int), .slice qa ql qc, .slice pa pl pc], .int .i64 (l.length : Int), .slice a l.length c] V fun e w' => e = .returned (.int .i64 (if l.all (isSc S M) = true then 0 else 6)) ∧ Below V.heap.size V w') := fun V hV => wrongScalars23 (isSc S M) hl ((HS.out.of_below B1.out).of_below hV) (fun s V2 h2 => isScalarV ((N1.out.of_below hV).of_below h2) ((N2.out.of_below hV).of_below h2) s k.hS k.l6)
  have CM : Hid (∀ V, Below U.heap.size U V → Calls Try.prog 23 #[.agg #[.int .i64 (S : Int), .slice qa ql qc, .slice pa pl pc], .int .i64 (l.length : Int), .slice b l.length d] V fun e w' => e = .returned (.int .i64 (if m.all (isSc S M) = true then 0 else 6)) ∧ Below V.heap.size V w') := fun V hV => by
    have q := wrongScalars23 (c := d) (isSc S M) hml ((HM.out.of_below B1.out).of_below hV) (fun s V2 h2 => isScalarV ((N1.out.of_below hV).of_below h2) ((N2.out.of_below hV).of_below h2) s k.hS k.l6)
    rw [HE.out] at q
    exact q
  have hS0 := k.hS0
  obtain ⟨y0, y1, y2, y3, y4, y5, y6⟩ := KC.out U (Below.refl _ _)
  have hz : ((l.length : Int) == 0) = false := beq_eq_false_iff_ne.2 (fun q => H0.out (by omega))
  replace CL : Hid (∀ V, Below U.heap.size U V → Calls Try.prog 23 #[.agg #[.int .i64 (S : Int), .slice qa ql qc, .slice pa pl pc], .int .i64 (l.length : Int), .slice a l.length c] V fun e w' => e = .returned (.int .i64 0) ∧ Below V.heap.size V w') := fun V hV => by have q := CL.out V hV; rw [h1] at q; exact q
  replace CM : Hid (∀ V, Below U.heap.size U V → Calls Try.prog 23 #[.agg #[.int .i64 (S : Int), .slice qa ql qc, .slice pa pl pc], .int .i64 (l.length : Int), .slice b l.length d] V fun e w' => e = .returned (.int .i64 6) ∧ Below V.heap.size V w') := fun V hV => by have q := CM.out V hV; rw [h2] at q; exact q
  clear CX
  clear CY
  clear h1 h2
  go_wp2_with (first
    | (go_at_call 23; refine (CL.out _ (Below.refl _ _)).mono ?_; rintro e w2 ⟨rfl, hB2⟩; have B2 : Hid (Below U.heap.size U w2) := hB2; obtain ⟨y0, y1, y2, y3, y4, y5, y6⟩ := KC.out w2 hB2; clear hB2 CL)
    | (go_at_call 23; refine (CM.out _ B2.out).mono ?_; rintro e w3 ⟨rfl, hB3⟩; have B3 : Hid (Below U.heap.size U w3) := B2.out.trans (hB3.mono B2.out.size); obtain ⟨y0, y1, y2, y3, y4, y5, y6⟩ := KC.out w3 B3.out; clear hB3 CM))
  exact bodyPost_ret (v := .tuple #[.slice none 0 0, .int .i64 6]) (by simp [results, Try.results7, go_sem]) rfl ⟨rfl, J.out.trans ((B1.out.trans (B3.out.mono B1.out.size)).mono J.out.size)⟩
set_option maxHeartbeats 2000000 in
theorem ref7_thr (k : KD z G S Wd M low one sq Ri Wd2 M2 low2 one2 sq2 Ri2) {w : World} {a b : Option Addr} {x y : ByteArray} {l m : List ByteArray} {c d : Nat} (hl : l.length ≤ 8796093022207) (hml : m.length ≤ 8796093022207) (hs : SL w a l) (hm : SL w b m) (he : m.length = l.length) (h0 : l.length ≠ 0) (h1 : l.all (isSc S M) = true) (h2 : m.all (isSc S M) = true) (h3 : isSc S M x = false) :
    Calls Try.prog 7 #[.int .i64 z, .agg #[.string x, .slice a l.length c], .agg #[.string y, .slice b m.length d]] w fun e w' => e = .returned (.tuple #[.slice none 0 0, .int .i64 6]) ∧ Below w.heap.size w w' := by
  have HE : Hid (m.length = l.length) := he
  have H0 : Hid _ := h0
  rw [he]
  clear he h0
  generalize hW : (w.alloc (.cells #[.string x, .slice a l.length c] 24)).alloc (.cells #[.string y, .slice b l.length d] 24) = W
  have J : Hid (Below w.heap.size w W) := by rw [← hW]; exact ((Below.refl _ w).alloc (Nat.le_refl _) _).alloc (by simp) _
  have I1 : Hid (IHolds W w.heap.size 24 [.string x, .slice a l.length c]) := by rw [← hW]; exact (IHolds.new' w 24 [.string x, .slice a l.length c] rfl).alloc _
  have I2 : Hid (IHolds W (w.heap.size + 1) 24 [.string y, .slice b l.length d]) := by rw [← hW]; exact IHolds.new' (w.alloc _) 24 [.string y, .slice b l.length d] (by simp)
  have HS : Hid (SL W a l) := hs.of_below J.out
  have HM : Hid (SL W b m) := hm.of_below J.out
  clear hs hm
  go_enter Try.func7, Try.ntmps7
  go_wp2_with fail
  clear hW
  refine (k.K9 _).mono ?_
  rintro e w1 ⟨⟨u1, u2, rfl, n1, n2⟩, hB1⟩
  obtain ⟨qa, ql, qc, rfl⟩ := sN (show Hid (NumV w1 65536 M u1) from n1)
  obtain ⟨pa, pl, pc, rfl⟩ := sN (show Hid (NumV w1 65536 M2 u2) from n2)
  obtain ⟨U, hU⟩ : ∃ U, w1.alloc (.cells #[.int .i64 (S : Int), .slice qa ql qc, .slice pa pl pc] 54) = U := ⟨_, rfl⟩
  have B1 : Hid (Below W.heap.size W U) := by rw [← hU]; exact hB1.trans ((nB _ _).mono hB1.size)
  have N1 : Hid (NumV U 65536 M (.slice qa ql qc)) := by rw [← hU]; exact n1.of_below (nB _ _)
  have N2 : Hid (NumV U 65536 M2 (.slice pa pl pc)) := by rw [← hU]; exact n2.of_below (nB _ _)
  have J0 : Hid (IHolds U w1.heap.size 54 [.int .i64 (S : Int), .slice qa ql qc, .slice pa pl pc]) := by rw [← hU]; exact IHolds.new' w1 54 [.int .i64 (S : Int), .slice qa ql qc, .slice pa pl pc] rfl
  have J1 : Hid (IHolds U w.heap.size 24 [.string x, .slice a l.length c]) := I1.out.of_below B1.out
  have J2 : Hid (IHolds U (w.heap.size + 1) 24 [.string y, .slice b l.length d]) := I2.out.of_below B1.out
  clear I1 I2 n1 n2 hB1
  have KC : Hid (∀ V, Below U.heap.size U V → V.cell? ⟨w1.heap.size, 0, none⟩ = some (.int .i64 (S : Int)) ∧ V.cell? ⟨w1.heap.size, 1, none⟩ = some (.slice qa ql qc) ∧ V.cell? ⟨w1.heap.size, 2, none⟩ = some (.slice pa pl pc) ∧ V.cell? ⟨w.heap.size, 0, none⟩ = some (.string x) ∧ V.cell? ⟨w.heap.size, 1, none⟩ = some (.slice a l.length c) ∧ V.cell? ⟨w.heap.size + 1, 0, none⟩ = some (.string y) ∧ V.cell? ⟨w.heap.size + 1, 1, none⟩ = some (.slice b l.length d)) := fun V hV => ⟨cell_keep (J0.out.cell 0 (by simp)) hV, cell_keep (J0.out.cell 1 (by simp)) hV, cell_keep (J0.out.cell 2 (by simp)) hV, cell_keep J1.out.two0 hV, cell_keep J1.out.two1 hV, cell_keep J2.out.two0 hV, cell_keep J2.out.two1 hV⟩
  have CX : Hid (∀ V, Below U.heap.size U V → Calls Try.prog 24 #[.agg #[.int .i64 (S : Int), .slice qa ql qc, .slice pa pl pc], .string x] V fun e w' => e = .returned (.bool (isSc S M x)) ∧ Below V.heap.size V w') := fun V hV => isScalarV (N1.out.of_below hV) (N2.out.of_below hV) x k.hS k.l6
  have CY : Hid (∀ V, Below U.heap.size U V → Calls Try.prog 24 #[.agg #[.int .i64 (S : Int), .slice qa ql qc, .slice pa pl pc], .string y] V fun e w' => e = .returned (.bool (isSc S M y)) ∧ Below V.heap.size V w') := fun V hV => isScalarV (N1.out.of_below hV) (N2.out.of_below hV) y k.hS k.l6
  have CL : Hid (∀ V, Below U.heap.size U V → Calls Try.prog 23 #[.agg #[.int .i64 (S : Int), .slice qa ql qc, .slice pa pl pc], .int .i64 (l.length : Int), .slice a l.length c] V fun e w' => e = .returned (.int .i64 (if l.all (isSc S M) = true then 0 else 6)) ∧ Below V.heap.size V w') := fun V hV => wrongScalars23 (isSc S M) hl ((HS.out.of_below B1.out).of_below hV) (fun s V2 h2 => isScalarV ((N1.out.of_below hV).of_below h2) ((N2.out.of_below hV).of_below h2) s k.hS k.l6)
  have CM : Hid (∀ V, Below U.heap.size U V → Calls Try.prog 23 #[.agg #[.int .i64 (S : Int), .slice qa ql qc, .slice pa pl pc], .int .i64 (l.length : Int), .slice b l.length d] V fun e w' => e = .returned (.int .i64 (if m.all (isSc S M) = true then 0 else 6)) ∧ Below V.heap.size V w') := fun V hV => by
    have q := wrongScalars23 (c := d) (isSc S M) hml ((HM.out.of_below B1.out).of_below hV) (fun s V2 h2 => isScalarV ((N1.out.of_below hV).of_below h2) ((N2.out.of_below hV).of_below h2) s k.hS k.l6)
    rw [HE.out] at q
    exact q
  have hS0 := k.hS0
  obtain ⟨y0, y1, y2, y3, y4, y5, y6⟩ := KC.out U (Below.refl _ _)
  have hz : ((l.length : Int) == 0) = false := beq_eq_false_iff_ne.2 (fun q => H0.out (by omega))
  replace CL : Hid (∀ V, Below U.heap.size U V → Calls Try.prog 23 #[.agg #[.int .i64 (S : Int), .slice qa ql qc, .slice pa pl pc], .int .i64 (l.length : Int), .slice a l.length c] V fun e w' => e = .returned (.int .i64 0) ∧ Below V.heap.size V w') := fun V hV => by have q := CL.out V hV; rw [h1] at q; exact q
  replace CM : Hid (∀ V, Below U.heap.size U V → Calls Try.prog 23 #[.agg #[.int .i64 (S : Int), .slice qa ql qc, .slice pa pl pc], .int .i64 (l.length : Int), .slice b l.length d] V fun e w' => e = .returned (.int .i64 0) ∧ Below V.heap.size V w') := fun V hV => by have q := CM.out V hV; rw [h2] at q; exact q
  replace CX : Hid (∀ V, Below U.heap.size U V → Calls Try.prog 24 #[.agg #[.int .i64 (S : Int), .slice qa ql qc, .slice pa pl pc], .string x] V fun e w' => e = .returned (.bool false) ∧ Below V.heap.size V w') := fun V hV => by have q := CX.out V hV; rw [h3] at q; exact q
  clear CY
  clear h1 h2 h3
  go_wp2_with (first
    | (go_at_call 23; refine (CL.out _ (Below.refl _ _)).mono ?_; rintro e w2 ⟨rfl, hB2⟩; have B2 : Hid (Below U.heap.size U w2) := hB2; obtain ⟨y0, y1, y2, y3, y4, y5, y6⟩ := KC.out w2 hB2; clear hB2 CL)
    | (go_at_call 23; refine (CM.out _ B2.out).mono ?_; rintro e w3 ⟨rfl, hB3⟩; have B3 : Hid (Below U.heap.size U w3) := B2.out.trans (hB3.mono B2.out.size); obtain ⟨y0, y1, y2, y3, y4, y5, y6⟩ := KC.out w3 B3.out; clear hB3 CM)
    | (go_at_call 24; refine (CX.out _ B3.out).mono ?_; rintro e w4 ⟨rfl, hB4⟩; have B4 : Hid (Below U.heap.size U w4) := B3.out.trans (hB4.mono B3.out.size); obtain ⟨y0, y1, y2, y3, y4, y5, y6⟩ := KC.out w4 B4.out; clear hB4 CX))
  exact bodyPost_ret (v := .tuple #[.slice none 0 0, .int .i64 6]) (by simp [results, Try.results7, go_sem]) rfl ⟨rfl, J.out.trans ((B1.out.trans (B4.out.mono B1.out.size)).mono J.out.size)⟩
set_option maxHeartbeats 2000000 in
theorem ref7_fou (k : KD z G S Wd M low one sq Ri Wd2 M2 low2 one2 sq2 Ri2) {w : World} {a b : Option Addr} {x y : ByteArray} {l m : List ByteArray} {c d : Nat} (hl : l.length ≤ 8796093022207) (hml : m.length ≤ 8796093022207) (hs : SL w a l) (hm : SL w b m) (he : m.length = l.length) (h0 : l.length ≠ 0) (h1 : l.all (isSc S M) = true) (h2 : m.all (isSc S M) = true) (h3 : isSc S M x = true) (h4 : isSc S M y = false) :
    Calls Try.prog 7 #[.int .i64 z, .agg #[.string x, .slice a l.length c], .agg #[.string y, .slice b m.length d]] w fun e w' => e = .returned (.tuple #[.slice none 0 0, .int .i64 6]) ∧ Below w.heap.size w w' := by
  have HE : Hid (m.length = l.length) := he
  have H0 : Hid _ := h0
  rw [he]
  clear he h0
  generalize hW : (w.alloc (.cells #[.string x, .slice a l.length c] 24)).alloc (.cells #[.string y, .slice b l.length d] 24) = W
  have J : Hid (Below w.heap.size w W) := by rw [← hW]; exact ((Below.refl _ w).alloc (Nat.le_refl _) _).alloc (by simp) _
  have I1 : Hid (IHolds W w.heap.size 24 [.string x, .slice a l.length c]) := by rw [← hW]; exact (IHolds.new' w 24 [.string x, .slice a l.length c] rfl).alloc _
  have I2 : Hid (IHolds W (w.heap.size + 1) 24 [.string y, .slice b l.length d]) := by rw [← hW]; exact IHolds.new' (w.alloc _) 24 [.string y, .slice b l.length d] (by simp)
  have HS : Hid (SL W a l) := hs.of_below J.out
  have HM : Hid (SL W b m) := hm.of_below J.out
  clear hs hm
  go_enter Try.func7, Try.ntmps7
  go_wp2_with fail
  clear hW
  refine (k.K9 _).mono ?_
  rintro e w1 ⟨⟨u1, u2, rfl, n1, n2⟩, hB1⟩
  obtain ⟨qa, ql, qc, rfl⟩ := sN (show Hid (NumV w1 65536 M u1) from n1)
  obtain ⟨pa, pl, pc, rfl⟩ := sN (show Hid (NumV w1 65536 M2 u2) from n2)
  obtain ⟨U, hU⟩ : ∃ U, w1.alloc (.cells #[.int .i64 (S : Int), .slice qa ql qc, .slice pa pl pc] 54) = U := ⟨_, rfl⟩
  have B1 : Hid (Below W.heap.size W U) := by rw [← hU]; exact hB1.trans ((nB _ _).mono hB1.size)
  have N1 : Hid (NumV U 65536 M (.slice qa ql qc)) := by rw [← hU]; exact n1.of_below (nB _ _)
  have N2 : Hid (NumV U 65536 M2 (.slice pa pl pc)) := by rw [← hU]; exact n2.of_below (nB _ _)
  have J0 : Hid (IHolds U w1.heap.size 54 [.int .i64 (S : Int), .slice qa ql qc, .slice pa pl pc]) := by rw [← hU]; exact IHolds.new' w1 54 [.int .i64 (S : Int), .slice qa ql qc, .slice pa pl pc] rfl
  have J1 : Hid (IHolds U w.heap.size 24 [.string x, .slice a l.length c]) := I1.out.of_below B1.out
  have J2 : Hid (IHolds U (w.heap.size + 1) 24 [.string y, .slice b l.length d]) := I2.out.of_below B1.out
  clear I1 I2 n1 n2 hB1
  have KC : Hid (∀ V, Below U.heap.size U V → V.cell? ⟨w1.heap.size, 0, none⟩ = some (.int .i64 (S : Int)) ∧ V.cell? ⟨w1.heap.size, 1, none⟩ = some (.slice qa ql qc) ∧ V.cell? ⟨w1.heap.size, 2, none⟩ = some (.slice pa pl pc) ∧ V.cell? ⟨w.heap.size, 0, none⟩ = some (.string x) ∧ V.cell? ⟨w.heap.size, 1, none⟩ = some (.slice a l.length c) ∧ V.cell? ⟨w.heap.size + 1, 0, none⟩ = some (.string y) ∧ V.cell? ⟨w.heap.size + 1, 1, none⟩ = some (.slice b l.length d)) := fun V hV => ⟨cell_keep (J0.out.cell 0 (by simp)) hV, cell_keep (J0.out.cell 1 (by simp)) hV, cell_keep (J0.out.cell 2 (by simp)) hV, cell_keep J1.out.two0 hV, cell_keep J1.out.two1 hV, cell_keep J2.out.two0 hV, cell_keep J2.out.two1 hV⟩
  have CX : Hid (∀ V, Below U.heap.size U V → Calls Try.prog 24 #[.agg #[.int .i64 (S : Int), .slice qa ql qc, .slice pa pl pc], .string x] V fun e w' => e = .returned (.bool (isSc S M x)) ∧ Below V.heap.size V w') := fun V hV => isScalarV (N1.out.of_below hV) (N2.out.of_below hV) x k.hS k.l6
  have CY : Hid (∀ V, Below U.heap.size U V → Calls Try.prog 24 #[.agg #[.int .i64 (S : Int), .slice qa ql qc, .slice pa pl pc], .string y] V fun e w' => e = .returned (.bool (isSc S M y)) ∧ Below V.heap.size V w') := fun V hV => isScalarV (N1.out.of_below hV) (N2.out.of_below hV) y k.hS k.l6
  have CL : Hid (∀ V, Below U.heap.size U V → Calls Try.prog 23 #[.agg #[.int .i64 (S : Int), .slice qa ql qc, .slice pa pl pc], .int .i64 (l.length : Int), .slice a l.length c] V fun e w' => e = .returned (.int .i64 (if l.all (isSc S M) = true then 0 else 6)) ∧ Below V.heap.size V w') := fun V hV => wrongScalars23 (isSc S M) hl ((HS.out.of_below B1.out).of_below hV) (fun s V2 h2 => isScalarV ((N1.out.of_below hV).of_below h2) ((N2.out.of_below hV).of_below h2) s k.hS k.l6)
  have CM : Hid (∀ V, Below U.heap.size U V → Calls Try.prog 23 #[.agg #[.int .i64 (S : Int), .slice qa ql qc, .slice pa pl pc], .int .i64 (l.length : Int), .slice b l.length d] V fun e w' => e = .returned (.int .i64 (if m.all (isSc S M) = true then 0 else 6)) ∧ Below V.heap.size V w') := fun V hV => by
    have q := wrongScalars23 (c := d) (isSc S M) hml ((HM.out.of_below B1.out).of_below hV) (fun s V2 h2 => isScalarV ((N1.out.of_below hV).of_below h2) ((N2.out.of_below hV).of_below h2) s k.hS k.l6)
    rw [HE.out] at q
    exact q
  have hS0 := k.hS0
  obtain ⟨y0, y1, y2, y3, y4, y5, y6⟩ := KC.out U (Below.refl _ _)
  have hz : ((l.length : Int) == 0) = false := beq_eq_false_iff_ne.2 (fun q => H0.out (by omega))
  replace CL : Hid (∀ V, Below U.heap.size U V → Calls Try.prog 23 #[.agg #[.int .i64 (S : Int), .slice qa ql qc, .slice pa pl pc], .int .i64 (l.length : Int), .slice a l.length c] V fun e w' => e = .returned (.int .i64 0) ∧ Below V.heap.size V w') := fun V hV => by have q := CL.out V hV; rw [h1] at q; exact q
  replace CM : Hid (∀ V, Below U.heap.size U V → Calls Try.prog 23 #[.agg #[.int .i64 (S : Int), .slice qa ql qc, .slice pa pl pc], .int .i64 (l.length : Int), .slice b l.length d] V fun e w' => e = .returned (.int .i64 0) ∧ Below V.heap.size V w') := fun V hV => by have q := CM.out V hV; rw [h2] at q; exact q
  replace CX : Hid (∀ V, Below U.heap.size U V → Calls Try.prog 24 #[.agg #[.int .i64 (S : Int), .slice qa ql qc, .slice pa pl pc], .string x] V fun e w' => e = .returned (.bool true) ∧ Below V.heap.size V w') := fun V hV => by have q := CX.out V hV; rw [h3] at q; exact q
  replace CY : Hid (∀ V, Below U.heap.size U V → Calls Try.prog 24 #[.agg #[.int .i64 (S : Int), .slice qa ql qc, .slice pa pl pc], .string y] V fun e w' => e = .returned (.bool false) ∧ Below V.heap.size V w') := fun V hV => by have q := CY.out V hV; rw [h4] at q; exact q
  clear h1 h2 h3 h4
  go_wp2_with (first
    | (go_at_call 23; refine (CL.out _ (Below.refl _ _)).mono ?_; rintro e w2 ⟨rfl, hB2⟩; have B2 : Hid (Below U.heap.size U w2) := hB2; obtain ⟨y0, y1, y2, y3, y4, y5, y6⟩ := KC.out w2 hB2; clear hB2 CL)
    | (go_at_call 23; refine (CM.out _ B2.out).mono ?_; rintro e w3 ⟨rfl, hB3⟩; have B3 : Hid (Below U.heap.size U w3) := B2.out.trans (hB3.mono B2.out.size); obtain ⟨y0, y1, y2, y3, y4, y5, y6⟩ := KC.out w3 B3.out; clear hB3 CM)
    | (go_at_call 24; refine (CX.out _ B3.out).mono ?_; rintro e w4 ⟨rfl, hB4⟩; have B4 : Hid (Below U.heap.size U w4) := B3.out.trans (hB4.mono B3.out.size); obtain ⟨y0, y1, y2, y3, y4, y5, y6⟩ := KC.out w4 B4.out; clear hB4 CX)
    | (go_at_call 24; refine (CY.out _ B4.out).mono ?_; rintro e w5 ⟨rfl, hB5⟩; have B5 : Hid (Below U.heap.size U w5) := B4.out.trans (hB5.mono B4.out.size); obtain ⟨y0, y1, y2, y3, y4, y5, y6⟩ := KC.out w5 B5.out; clear hB5 CY))
  exact bodyPost_ret (v := .tuple #[.slice none 0 0, .int .i64 6]) (by simp [results, Try.results7, go_sem]) rfl ⟨rfl, J.out.trans ((B1.out.trans (B5.out.mono B1.out.size)).mono J.out.size)⟩
end
end Go.Proofs.Ytokkjdelomkfiaa
