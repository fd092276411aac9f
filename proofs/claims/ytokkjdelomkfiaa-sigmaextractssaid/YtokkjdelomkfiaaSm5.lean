/- The reference's Extract: the rest. -/
import Derived.Test.YtokkjdelomkfiaaSm4
import Derived.Test.YtokkjdelomkfiaaBg
import Derived.Deep.RegionHeld3
import Derived.Deep.AppendLies
set_option linter.unusedSimpArgs false
set_option linter.unusedVariables false
set_option maxRecDepth 100000
namespace Go.Proofs.Ytokkjdelomkfiaa
open Go.RowKit Go.Deep Go.PlainAid

theorem one_news (w : World) (T : ByteArray) : ∀ jj u, [Value.string T][jj]? = some u → (w.alloc (.cells #[.string T] 9)).cell? ((⟨w.heap.size, 0, none⟩ : Addr).add jj) = some u := fun jj u hu => by
  match jj, hu with
  | 0, hu => simp at hu; subst hu; simp [Addr.add]
theorem own_sl {w : World} {base : Nat} {v : Value} {n : Nat} {qs : List ByteArray} (hn : qs.length = n) (h : w.ownsRow base 9 1 v n (qs.map Value.string)) : ∃ a' c', v = .slice a' n c' ∧ SL w a' qs := by
  obtain ⟨hl, ⟨rfl, h0⟩ | ⟨g, cap, cur, rfl, h1, hg, h2, h3, h4, h5⟩⟩ := h
  · refine ⟨none, 0, by rw [h0], fun i hi => ?_⟩
    omega
  · refine ⟨_, _, rfl, fun i hi => ⟨g, 0, rfl, ?_⟩⟩
    have e : (cur.toList.take (n * 1))[i]? = (qs.map Value.string)[i]? := by rw [h5]
    rw [List.getElem?_take_of_lt (by omega), List.getElem?_map, List.getElem?_eq_getElem hi, Array.getElem?_toList] at e
    rw [Nat.zero_add]
    unfold World.cell?
    simp [hg, e]
/-- What is drawn out of two proofs. -/
def exRow (S M : Nat) (x y : ByteArray) (l m : List ByteArray) : List ByteArray := List.zipWith (fun s t => TX S (((numS x + M - numS y) % M) ^ (M - 2) % M * ((numS s + M - numS t) % M) % M)) l m
section
variable {z : Int} {G : Array Value} {S Wd M low one sq Ri Wd2 M2 low2 one2 sq2 Ri2 : Nat}
set_option maxHeartbeats 2000000 in
theorem ref7_same (k : KD z G S Wd M low one sq Ri Wd2 M2 low2 one2 sq2 Ri2) {w : World} {a b : Option Addr} {x y : ByteArray} {l m : List ByteArray} {c d : Nat} (hl : l.length ≤ 8796093022207) (hml : m.length ≤ 8796093022207) (hs : SL w a l) (hm : SL w b m) (he : m.length = l.length) (h0 : l.length ≠ 0) (h1 : l.all (isSc S M) = true) (h2 : m.all (isSc S M) = true) (h3 : isSc S M x = true) (h4 : isSc S M y = true) (hxy : x = y) :
    Calls Try.prog 7 #[.int .i64 z, .agg #[.string x, .slice a l.length c], .agg #[.string y, .slice b m.length d]] w fun e w' => e = .returned (.tuple #[.slice none 0 0, .int .i64 9]) ∧ Below w.heap.size w w' := by
  have H1 : Hid (l.all (isSc S M) = true) := h1
  have H2 : Hid (m.all (isSc S M) = true) := h2
  have H3 : Hid (isSc S M x = true) := h3
  have H4 : Hid (isSc S M y = true) := h4
  clear h1 h2 h3 h4
  have hxy' : (x.toList == y.toList) = true := by rw [hxy]; simp
  clear hxy
  have HE : Hid (m.length = l.length) := he
  have H0 : Hid _ := h0
  rw [he]
  clear he h0
  generalize hW : (w.alloc (.cells #[.string x, .slice a l.length c] 24)).alloc (.cells #[.string y, .slice b l.length d] 24) = W
  have J : Hid (Below w.heap.size w W) := by rw [← hW]; exact ((Below.refl _ w).alloc (Nat.le_refl _) _).alloc (by simp) _
  have I1 : Hid (IHolds W w.heap.size 24 [.string x, .slice a l.length c]) := by rw [← hW]; exact (IHolds.new' w 24 [.string x, .slice a l.length c] rfl).alloc _
  have I2 : Hid (IHolds W (w.heap.size + 1) 24 [.string y, .slice b l.length d]) := by rw [← hW]; exact IHolds.new' (w.alloc _) 24 [.string y, .slice b l.length d] (by simp)
  have HS : Hid (SL W a l) := hs.of_below J.out
  have HM : Hid (SL W b m) := hm.of_below J.out
  clear hs hm
  go_enter Try.func7, Try.ntmps7
  go_wp2_with fail
  clear hW
  refine (k.K9 _).mono ?_
  rintro e w1 ⟨⟨u1, u2, rfl, n1, n2⟩, hB1⟩
  obtain ⟨qa, ql, qc, rfl⟩ := sN (show Hid (NumV w1 65536 M u1) from n1)
  obtain ⟨pa, pl, pc, rfl⟩ := sN (show Hid (NumV w1 65536 M2 u2) from n2)
  obtain ⟨U, hU⟩ : ∃ U, w1.alloc (.cells #[.int .i64 (S : Int), .slice qa ql qc, .slice pa pl pc] 54) = U := ⟨_, rfl⟩
  have B1 : Hid (Below W.heap.size W U) := by rw [← hU]; exact hB1.trans ((nB _ _).mono hB1.size)
  have N1 : Hid (NumV U 65536 M (.slice qa ql qc)) := by rw [← hU]; exact n1.of_below (nB _ _)
  have N2 : Hid (NumV U 65536 M2 (.slice pa pl pc)) := by rw [← hU]; exact n2.of_below (nB _ _)
  have J0 : Hid (IHolds U w1.heap.size 54 [.int .i64 (S : Int), .slice qa ql qc, .slice pa pl pc]) := by rw [← hU]; exact IHolds.new' w1 54 [.int .i64 (S : Int), .slice qa ql qc, .slice pa pl pc] rfl
  have J1 : Hid (IHolds U w.heap.size 24 [.string x, .slice a l.length c]) := I1.out.of_below B1.out
  have J2 : Hid (IHolds U (w.heap.size + 1) 24 [.string y, .slice b l.length d]) := I2.out.of_below B1.out
  clear I1 I2 n1 n2 hB1
  have KC : Hid (∀ V, Below U.heap.size U V → V.cell? ⟨w1.heap.size, 0, none⟩ = some (.int .i64 (S : Int)) ∧ V.cell? ⟨w1.heap.size, 1, none⟩ = some (.slice qa ql qc) ∧ V.cell? ⟨w1.heap.size, 2, none⟩ = some (.slice pa pl pc) ∧ V.cell? ⟨w.heap.size, 0, none⟩ = some (.string x) ∧ V.cell? ⟨w.heap.size, 1, none⟩ = some (.slice a l.length c) ∧ V.cell? ⟨w.heap.size + 1, 0, none⟩ = some (.string y) ∧ V.cell? ⟨w.heap.size + 1, 1, none⟩ = some (.slice b l.length d)) := fun V hV => ⟨cell_keep (J0.out.cell 0 (by simp)) hV, cell_keep (J0.out.cell 1 (by simp)) hV, cell_keep (J0.out.cell 2 (by simp)) hV, cell_keep J1.out.two0 hV, cell_keep J1.out.two1 hV, cell_keep J2.out.two0 hV, cell_keep J2.out.two1 hV⟩
  have CX : Hid (∀ V, Below U.heap.size U V → Calls Try.prog 24 #[.agg #[.int .i64 (S : Int), .slice qa ql qc, .slice pa pl pc], .string x] V fun e w' => e = .returned (.bool (isSc S M x)) ∧ Below V.heap.size V w') := fun V hV => isScalarV (N1.out.of_below hV) (N2.out.of_below hV) x k.hS k.l6
  have CY : Hid (∀ V, Below U.heap.size U V → Calls Try.prog 24 #[.agg #[.int .i64 (S : Int), .slice qa ql qc, .slice pa pl pc], .string y] V fun e w' => e = .returned (.bool (isSc S M y)) ∧ Below V.heap.size V w') := fun V hV => isScalarV (N1.out.of_below hV) (N2.out.of_below hV) y k.hS k.l6
  have CL : Hid (∀ V, Below U.heap.size U V → Calls Try.prog 23 #[.agg #[.int .i64 (S : Int), .slice qa ql qc, .slice pa pl pc], .int .i64 (l.length : Int), .slice a l.length c] V fun e w' => e = .returned (.int .i64 (if l.all (isSc S M) = true then 0 else 6)) ∧ Below V.heap.size V w') := fun V hV => wrongScalars23 (isSc S M) hl ((HS.out.of_below B1.out).of_below hV) (fun s V2 h2 => isScalarV ((N1.out.of_below hV).of_below h2) ((N2.out.of_below hV).of_below h2) s k.hS k.l6)
  have CM : Hid (∀ V, Below U.heap.size U V → Calls Try.prog 23 #[.agg #[.int .i64 (S : Int), .slice qa ql qc, .slice pa pl pc], .int .i64 (l.length : Int), .slice b l.length d] V fun e w' => e = .returned (.int .i64 (if m.all (isSc S M) = true then 0 else 6)) ∧ Below V.heap.size V w') := fun V hV => by
    have q := wrongScalars23 (c := d) (isSc S M) hml ((HM.out.of_below B1.out).of_below hV) (fun s V2 h2 => isScalarV ((N1.out.of_below hV).of_below h2) ((N2.out.of_below hV).of_below h2) s k.hS k.l6)
    rw [HE.out] at q
    exact q
  have hS0 := k.hS0
  obtain ⟨y0, y1, y2, y3, y4, y5, y6⟩ := KC.out U (Below.refl _ _)
  have hz : ((l.length : Int) == 0) = false := beq_eq_false_iff_ne.2 (fun q => H0.out (by omega))
  replace CL : Hid (∀ V, Below U.heap.size U V → Calls Try.prog 23 #[.agg #[.int .i64 (S : Int), .slice qa ql qc, .slice pa pl pc], .int .i64 (l.length : Int), .slice a l.length c] V fun e w' => e = .returned (.int .i64 0) ∧ Below V.heap.size V w') := fun V hV => by have q := CL.out V hV; rw [H1.out] at q; exact q
  replace CM : Hid (∀ V, Below U.heap.size U V → Calls Try.prog 23 #[.agg #[.int .i64 (S : Int), .slice qa ql qc, .slice pa pl pc], .int .i64 (l.length : Int), .slice b l.length d] V fun e w' => e = .returned (.int .i64 0) ∧ Below V.heap.size V w') := fun V hV => by have q := CM.out V hV; rw [H2.out] at q; exact q
  replace CX : Hid (∀ V, Below U.heap.size U V → Calls Try.prog 24 #[.agg #[.int .i64 (S : Int), .slice qa ql qc, .slice pa pl pc], .string x] V fun e w' => e = .returned (.bool true) ∧ Below V.heap.size V w') := fun V hV => by have q := CX.out V hV; rw [H3.out] at q; exact q
  replace CY : Hid (∀ V, Below U.heap.size U V → Calls Try.prog 24 #[.agg #[.int .i64 (S : Int), .slice qa ql qc, .slice pa pl pc], .string y] V fun e w' => e = .returned (.bool true) ∧ Below V.heap.size V w') := fun V hV => by have q := CY.out V hV; rw [H4.out] at q; exact q
  go_wp2_with (first
    | (go_at_call 23; refine (CL.out _ (Below.refl _ _)).mono ?_; rintro e w2 ⟨rfl, hB2⟩; have B2 : Hid (Below U.heap.size U w2) := hB2; obtain ⟨y0, y1, y2, y3, y4, y5, y6⟩ := KC.out w2 hB2; clear hB2 CL)
    | (go_at_call 23; refine (CM.out _ B2.out).mono ?_; rintro e w3 ⟨rfl, hB3⟩; have B3 : Hid (Below U.heap.size U w3) := B2.out.trans (hB3.mono B2.out.size); obtain ⟨y0, y1, y2, y3, y4, y5, y6⟩ := KC.out w3 B3.out; clear hB3 CM)
    | (go_at_call 24; refine (CX.out _ B3.out).mono ?_; rintro e w4 ⟨rfl, hB4⟩; have B4 : Hid (Below U.heap.size U w4) := B3.out.trans (hB4.mono B3.out.size); obtain ⟨y0, y1, y2, y3, y4, y5, y6⟩ := KC.out w4 B4.out; clear hB4 CX)
    | (go_at_call 24; refine (CY.out _ B4.out).mono ?_; rintro e w5 ⟨rfl, hB5⟩; have B5 : Hid (Below U.heap.size U w5) := B4.out.trans (hB5.mono B4.out.size); obtain ⟨y0, y1, y2, y3, y4, y5, y6⟩ := KC.out w5 B5.out; clear hB5 CY))
  exact bodyPost_ret (v := .tuple #[.slice none 0 0, .int .i64 9]) (by simp [results, Try.results7, go_sem]) rfl ⟨rfl, J.out.trans ((B1.out.trans (B5.out.mono B1.out.size)).mono J.out.size)⟩
set_option maxHeartbeats 2000000 in
theorem ref7_good (k : KD z G S Wd M low one sq Ri Wd2 M2 low2 one2 sq2 Ri2) {w : World} {a b : Option Addr} {x y : ByteArray} {l m : List ByteArray} {c d : Nat} (hl : l.length ≤ 8796093022207) (hml : m.length ≤ 8796093022207) (hs : SL w a l) (hm : SL w b m) (he : m.length = l.length) (h0 : l.length ≠ 0) (h1 : l.all (isSc S M) = true) (h2 : m.all (isSc S M) = true) (h3 : isSc S M x = true) (h4 : isSc S M y = true) (hxy : x ≠ y) :
    Calls Try.prog 7 #[.int .i64 z, .agg #[.string x, .slice a l.length c], .agg #[.string y, .slice b m.length d]] w fun e w' => (∃ a' c', e = .returned (.tuple #[.slice a' (exRow S M x y l m).length c', .int .i64 0]) ∧ SL w' a' (exRow S M x y l m)) ∧ Below w.heap.size w w' := by
  have H1 : Hid (l.all (isSc S M) = true) := h1
  have H2 : Hid (m.all (isSc S M) = true) := h2
  have H3 : Hid (isSc S M x = true) := h3
  have H4 : Hid (isSc S M y = true) := h4
  clear h1 h2 h3 h4
  have hxy' : (x.toList == y.toList) = false := toList_ne hxy
  have hexl : (exRow S M x y l m).length = l.length := by unfold exRow; simp; omega
  have HX : Hid ((exRow S M x y l m).length = l.length) := hexl
  rw [hexl]
  clear hxy hexl
  have HE : Hid (m.length = l.length) := he
  have H0 : Hid _ := h0
  rw [he]
  clear he h0
  generalize hW : (w.alloc (.cells #[.string x, .slice a l.length c] 24)).alloc (.cells #[.string y, .slice b l.length d] 24) = W
  have J : Hid (Below w.heap.size w W) := by rw [← hW]; exact ((Below.refl _ w).alloc (Nat.le_refl _) _).alloc (by simp) _
  have I1 : Hid (IHolds W w.heap.size 24 [.string x, .slice a l.length c]) := by rw [← hW]; exact (IHolds.new' w 24 [.string x, .slice a l.length c] rfl).alloc _
  have I2 : Hid (IHolds W (w.heap.size + 1) 24 [.string y, .slice b l.length d]) := by rw [← hW]; exact IHolds.new' (w.alloc _) 24 [.string y, .slice b l.length d] (by simp)
  have HS : Hid (SL W a l) := hs.of_below J.out
  have HM : Hid (SL W b m) := hm.of_below J.out
  clear hs hm
  go_enter Try.func7, Try.ntmps7
  go_wp2_with fail
  clear hW
  refine (k.K9 _).mono ?_
  rintro e w1 ⟨⟨u1, u2, rfl, n1, n2⟩, hB1⟩
  obtain ⟨qa, ql, qc, rfl⟩ := sN (show Hid (NumV w1 65536 M u1) from n1)
  obtain ⟨pa, pl, pc, rfl⟩ := sN (show Hid (NumV w1 65536 M2 u2) from n2)
  obtain ⟨U, hU⟩ : ∃ U, w1.alloc (.cells #[.int .i64 (S : Int), .slice qa ql qc, .slice pa pl pc] 54) = U := ⟨_, rfl⟩
  have B1 : Hid (Below W.heap.size W U) := by rw [← hU]; exact hB1.trans ((nB _ _).mono hB1.size)
  have N1 : Hid (NumV U 65536 M (.slice qa ql qc)) := by rw [← hU]; exact n1.of_below (nB _ _)
  have N2 : Hid (NumV U 65536 M2 (.slice pa pl pc)) := by rw [← hU]; exact n2.of_below (nB _ _)
  have J0 : Hid (IHolds U w1.heap.size 54 [.int .i64 (S : Int), .slice qa ql qc, .slice pa pl pc]) := by rw [← hU]; exact IHolds.new' w1 54 [.int .i64 (S : Int), .slice qa ql qc, .slice pa pl pc] rfl
  have J1 : Hid (IHolds U w.heap.size 24 [.string x, .slice a l.length c]) := I1.out.of_below B1.out
  have J2 : Hid (IHolds U (w.heap.size + 1) 24 [.string y, .slice b l.length d]) := I2.out.of_below B1.out
  clear I1 I2 n1 n2 hB1
  have KC : Hid (∀ V, Below U.heap.size U V → V.cell? ⟨w1.heap.size, 0, none⟩ = some (.int .i64 (S : Int)) ∧ V.cell? ⟨w1.heap.size, 1, none⟩ = some (.slice qa ql qc) ∧ V.cell? ⟨w1.heap.size, 2, none⟩ = some (.slice pa pl pc) ∧ V.cell? ⟨w.heap.size, 0, none⟩ = some (.string x) ∧ V.cell? ⟨w.heap.size, 1, none⟩ = some (.slice a l.length c) ∧ V.cell? ⟨w.heap.size + 1, 0, none⟩ = some (.string y) ∧ V.cell? ⟨w.heap.size + 1, 1, none⟩ = some (.slice b l.length d)) := fun V hV => ⟨cell_keep (J0.out.cell 0 (by simp)) hV, cell_keep (J0.out.cell 1 (by simp)) hV, cell_keep (J0.out.cell 2 (by simp)) hV, cell_keep J1.out.two0 hV, cell_keep J1.out.two1 hV, cell_keep J2.out.two0 hV, cell_keep J2.out.two1 hV⟩
  have CX : Hid (∀ V, Below U.heap.size U V → Calls Try.prog 24 #[.agg #[.int .i64 (S : Int), .slice qa ql qc, .slice pa pl pc], .string x] V fun e w' => e = .returned (.bool (isSc S M x)) ∧ Below V.heap.size V w') := fun V hV => isScalarV (N1.out.of_below hV) (N2.out.of_below hV) x k.hS k.l6
  have CY : Hid (∀ V, Below U.heap.size U V → Calls Try.prog 24 #[.agg #[.int .i64 (S : Int), .slice qa ql qc, .slice pa pl pc], .string y] V fun e w' => e = .returned (.bool (isSc S M y)) ∧ Below V.heap.size V w') := fun V hV => isScalarV (N1.out.of_below hV) (N2.out.of_below hV) y k.hS k.l6
  have CL : Hid (∀ V, Below U.heap.size U V → Calls Try.prog 23 #[.agg #[.int .i64 (S : Int), .slice qa ql qc, .slice pa pl pc], .int .i64 (l.length : Int), .slice a l.length c] V fun e w' => e = .returned (.int .i64 (if l.all (isSc S M) = true then 0 else 6)) ∧ Below V.heap.size V w') := fun V hV => wrongScalars23 (isSc S M) hl ((HS.out.of_below B1.out).of_below hV) (fun s V2 h2 => isScalarV ((N1.out.of_below hV).of_below h2) ((N2.out.of_below hV).of_below h2) s k.hS k.l6)
  have CM : Hid (∀ V, Below U.heap.size U V → Calls Try.prog 23 #[.agg #[.int .i64 (S : Int), .slice qa ql qc, .slice pa pl pc], .int .i64 (l.length : Int), .slice b l.length d] V fun e w' => e = .returned (.int .i64 (if m.all (isSc S M) = true then 0 else 6)) ∧ Below V.heap.size V w') := fun V hV => by
    have q := wrongScalars23 (c := d) (isSc S M) hml ((HM.out.of_below B1.out).of_below hV) (fun s V2 h2 => isScalarV ((N1.out.of_below hV).of_below h2) ((N2.out.of_below hV).of_below h2) s k.hS k.l6)
    rw [HE.out] at q
    exact q
  have hS0 := k.hS0
  obtain ⟨y0, y1, y2, y3, y4, y5, y6⟩ := KC.out U (Below.refl _ _)
  have hz : ((l.length : Int) == 0) = false := beq_eq_false_iff_ne.2 (fun q => H0.out (by omega))
  replace CL : Hid (∀ V, Below U.heap.size U V → Calls Try.prog 23 #[.agg #[.int .i64 (S : Int), .slice qa ql qc, .slice pa pl pc], .int .i64 (l.length : Int), .slice a l.length c] V fun e w' => e = .returned (.int .i64 0) ∧ Below V.heap.size V w') := fun V hV => by have q := CL.out V hV; rw [H1.out] at q; exact q
  replace CM : Hid (∀ V, Below U.heap.size U V → Calls Try.prog 23 #[.agg #[.int .i64 (S : Int), .slice qa ql qc, .slice pa pl pc], .int .i64 (l.length : Int), .slice b l.length d] V fun e w' => e = .returned (.int .i64 0) ∧ Below V.heap.size V w') := fun V hV => by have q := CM.out V hV; rw [H2.out] at q; exact q
  replace CX : Hid (∀ V, Below U.heap.size U V → Calls Try.prog 24 #[.agg #[.int .i64 (S : Int), .slice qa ql qc, .slice pa pl pc], .string x] V fun e w' => e = .returned (.bool true) ∧ Below V.heap.size V w') := fun V hV => by have q := CX.out V hV; rw [H3.out] at q; exact q
  replace CY : Hid (∀ V, Below U.heap.size U V → Calls Try.prog 24 #[.agg #[.int .i64 (S : Int), .slice qa ql qc, .slice pa pl pc], .string y] V fun e w' => e = .returned (.bool true) ∧ Below V.heap.size V w') := fun V hV => by have q := CY.out V hV; rw [H4.out] at q; exact q
  go_wp2_with (first
    | (go_at_call 23; refine (CL.out _ (Below.refl _ _)).mono ?_; rintro e w2 ⟨rfl, hB2⟩; have B2 : Hid (Below U.heap.size U w2) := hB2; obtain ⟨y0, y1, y2, y3, y4, y5, y6⟩ := KC.out w2 hB2; clear hB2 CL)
    | (go_at_call 23; refine (CM.out _ B2.out).mono ?_; rintro e w3 ⟨rfl, hB3⟩; have B3 : Hid (Below U.heap.size U w3) := B2.out.trans (hB3.mono B2.out.size); obtain ⟨y0, y1, y2, y3, y4, y5, y6⟩ := KC.out w3 B3.out; clear hB3 CM)
    | (go_at_call 24; refine (CX.out _ B3.out).mono ?_; rintro e w4 ⟨rfl, hB4⟩; have B4 : Hid (Below U.heap.size U w4) := B3.out.trans (hB4.mono B3.out.size); obtain ⟨y0, y1, y2, y3, y4, y5, y6⟩ := KC.out w4 B4.out; clear hB4 CX)
    | (go_at_call 24; refine (CY.out _ B4.out).mono ?_; rintro e w5 ⟨rfl, hB5⟩; have B5 : Hid (Below U.heap.size U w5) := B4.out.trans (hB5.mono B4.out.size); obtain ⟨y0, y1, y2, y3, y4, y5, y6⟩ := KC.out w5 B5.out; clear hB5 CY))
  have KP : Hid (∀ V, Below w5.heap.size w5 V → (Below w5.heap.size w5 V ∧ V.cell? ⟨w1.heap.size, 0, none⟩ = some (.int .i64 (S : Int)) ∧ V.cell? ⟨w1.heap.size, 1, none⟩ = some (.slice qa ql qc) ∧ V.cell? ⟨w1.heap.size, 2, none⟩ = some (.slice pa pl pc) ∧ V.cell? ⟨w.heap.size, 0, none⟩ = some (.string x) ∧ V.cell? ⟨w.heap.size, 1, none⟩ = some (.slice a l.length c) ∧ V.cell? ⟨w.heap.size + 1, 0, none⟩ = some (.string y) ∧ V.cell? ⟨w.heap.size + 1, 1, none⟩ = some (.slice b l.length d))) := fun V hV => ⟨hV, KC.out V (B5.out.trans (hV.mono B5.out.size))⟩
  have sB : Hid (∀ V V', Below V.heap.size V V' → Below w5.heap.size w5 V → Below w5.heap.size w5 V') := fun V V' h h' => h'.trans (h.mono h'.size)
  have NB : Hid (∀ V, Below w5.heap.size w5 V → NumV V 65536 M (.slice qa ql qc) ∧ NumV V 65536 M2 (.slice pa pl pc)) := fun V hV => ⟨N1.out.of_below (B5.out.trans (hV.mono B5.out.size)), N2.out.of_below (B5.out.trans (hV.mono B5.out.size))⟩
  have RX : Hid (∀ V, Calls Try.prog 27 #[.string x] V fun e w' => (∃ v, e = .returned v ∧ NumV w' 65536 (numS x) v) ∧ Below V.heap.size V w') := fun V => read_small (isSc_size H3.out) k.hS V
  have RY : Hid (∀ V, Calls Try.prog 27 #[.string y] V fun e w' => (∃ v, e = .returned v ∧ NumV w' 65536 (numS y) v) ∧ Below V.heap.size V w') := fun V => read_small (isSc_size H4.out) k.hS V
  have RS : Hid (∀ V va vb, Below w5.heap.size w5 V → NumV V 65536 (numS x) va → NumV V 65536 (numS y) vb → Calls Try.prog 26 #[.agg #[.int .i64 (S : Int), .slice qa ql qc, .slice pa pl pc], va, vb] V fun e w' => (∃ v, e = .returned v ∧ NumV w' 65536 ((numS x + M - numS y) % M) v) ∧ Below V.heap.size V w') := fun V va vb hV ha hb => subV (NB.out V hV).1 (NB.out V hV).2 ha hb (isSc_lt H3.out) (isSc_lt H4.out) k.l5
  have RI : Hid (∀ V va, Below w5.heap.size w5 V → NumV V 65536 ((numS x + M - numS y) % M) va → Calls Try.prog 25 #[.agg #[.int .i64 (S : Int), .slice qa ql qc, .slice pa pl pc], va] V fun e w' => (∃ v, e = .returned v ∧ NumV w' 65536 (((numS x + M - numS y) % M) ^ (M - 2) % M) v) ∧ Below V.heap.size V w') := fun V va hV ha => invV k (NB.out V hV).1 (NB.out V hV).2 ha (Nat.mod_lt _ (by have := k.m2; omega))
  clear y0 y1 y2 y3 y4 y5 y6
  go_region_held3 (fun V => Below w5.heap.size w5 V ∧ V.cell? ⟨w1.heap.size, 0, none⟩ = some (.int .i64 (S : Int)) ∧ V.cell? ⟨w1.heap.size, 1, none⟩ = some (.slice qa ql qc) ∧ V.cell? ⟨w1.heap.size, 2, none⟩ = some (.slice pa pl pc) ∧ V.cell? ⟨w.heap.size, 0, none⟩ = some (.string x) ∧ V.cell? ⟨w.heap.size, 1, none⟩ = some (.slice a l.length c) ∧ V.cell? ⟨w.heap.size + 1, 0, none⟩ = some (.string y) ∧ V.cell? ⟨w.heap.size + 1, 1, none⟩ = some (.slice b l.length d))
    (first | exact KP.out _ (dB _) | assumption | exact KP.out _ B9.out | exact KP.out _ B8.out | exact KP.out _ B7.out | exact KP.out _ B6.out | fail)
    (first
      | (go_at_call 27; refine (RX.out _).mono ?_; rintro e w6 ⟨⟨r6, rfl, n6⟩, hB6⟩; have B6 : Hid (Below w5.heap.size w5 w6) := sB.out _ _ hB6 (And.left (by assumption)); have M6 : Hid (NumV w6 65536 (numS x) r6) := n6; clear n6 RX)
      | (go_at_call 27; refine (RY.out _).mono ?_; rintro e w7 ⟨⟨r7, rfl, n7⟩, hB7⟩; have B7 : Hid (Below w5.heap.size w5 w7) := sB.out _ _ hB7 B6.out; have M7 : Hid (NumV w7 65536 (numS y) r7) := n7; replace M6 : Hid (NumV w7 65536 (numS x) r6) := M6.out.of_below hB7; clear n7)
      | (go_at_call 26; refine (RS.out _ _ _ B7.out M6.out M7.out).mono ?_; rintro e w8 ⟨⟨r8, rfl, n8⟩, hB8⟩; have B8 : Hid (Below w5.heap.size w5 w8) := sB.out _ _ hB8 B7.out; have M8 : Hid (NumV w8 65536 ((numS x + M - numS y) % M) r8) := n8; clear n8)
      | (go_at_call 25; refine (RI.out _ _ B8.out M8.out).mono ?_; rintro e w9 ⟨⟨r9, rfl, n9⟩, hB9⟩; have B9 : Hid (Below w5.heap.size w5 w9) := sB.out _ _ hB9 B8.out; have M9 : Hid (NumV w9 65536 (((numS x + M - numS y) % M) ^ (M - 2) % M) r9) := n9; clear n9))
  clear M6 M7 M8 RY RS RI KP sB NB
  have BW : Hid (Below U.heap.size U w9) := B5.out.trans (B9.out.mono B5.out.size)
  obtain ⟨i0, hi0, hzz⟩ := Option.map_eq_some_iff.1 Try.info9'
  simp only [Prod.mk.injEq] at hzz
  obtain ⟨hz0, hz1, hz2⟩ := hzz
  go_wp2_with fail
  go_loopg [11, 12] l.length (fun gk v11 v12 wr => ∃ (i : Nat) (v : Value), i + gk = l.length ∧ v = v11 ∧ v12 = .int .i64 (i : Int) ∧ Below w9.heap.size w9 wr ∧ wr.ownsRow w9.heap.size 9 1 v i (((exRow S M x y l m).take i).map Value.string))
  case atStart => exact ⟨0, _, by omega, rfl, rfl, Below.refl _ _, World.ownsRow_nil _ _ _ _⟩
  case round =>
    obtain ⟨i, v, hig, rfl, rfl, hB, hO⟩ := hrel
    have B : Hid (Below w9.heap.size w9 wr) := hB
    have HO : Hid (wr.ownsRow w9.heap.size 9 1 v i (((exRow S M x y l m).take i).map Value.string)) := hO
    clear hB hO
    by_cases hi : i < l.length
    · have hi2 : i < m.length := by have := HE.out; omega
      have il : (i : Int) < (l.length : Int) := by omega
      obtain ⟨b1, o1, rfl, hc1⟩ := (((HS.out.of_below B1.out).of_below BW.out)) i hi
      obtain ⟨b2, o2, rfl, hc2⟩ := (((HM.out.of_below B1.out).of_below BW.out)) i hi2
      have p1 : Hid (isSc S M l[i] = true) := List.all_eq_true.1 H1.out _ (List.getElem_mem hi)
      have p2 : Hid (isSc S M m[i] = true) := List.all_eq_true.1 H2.out _ (List.getElem_mem hi2)
      have HR : Hid (((exRow S M x y l m).take (i + 1)).map Value.string = ((exRow S M x y l m).take i).map Value.string ++ [Value.string (TX S (((numS x + M - numS y) % M) ^ (M - 2) % M * ((numS l[i] + M - numS m[i]) % M) % M))]) := by
        show _ = _
        rw [List.take_succ_eq_append_getElem (by rw [HX.out]; exact hi), List.map_append]
        simp [exRow]
      generalize l[i] = s at *
      generalize m[i] = t at *
      generalize hT : TX S (((numS x + M - numS y) % M) ^ (M - 2) % M * ((numS s + M - numS t) % M) % M) = T at *
      have HT : Hid _ := hT
      clear hT
      have KP : Hid (∀ V, Below w9.heap.size w9 V → (Below w9.heap.size w9 V ∧ V.cell? ⟨w1.heap.size, 0, none⟩ = some (.int .i64 (S : Int)) ∧ V.cell? ⟨w1.heap.size, 1, none⟩ = some (.slice qa ql qc) ∧ V.cell? ⟨w1.heap.size, 2, none⟩ = some (.slice pa pl pc) ∧ V.cell? ⟨w.heap.size, 1, none⟩ = some (.slice (some ⟨b1, o1, none⟩) l.length c) ∧ V.cell? ⟨w.heap.size + 1, 1, none⟩ = some (.slice (some ⟨b2, o2, none⟩) l.length d) ∧ V.cell? ⟨b1, o1 + i, none⟩ = some (.string s) ∧ V.cell? ⟨b2, o2 + i, none⟩ = some (.string t))) := fun V hV => by
        obtain ⟨q0, q1, q2, q3, q4, q5, q6⟩ := KC.out V (BW.out.trans (hV.mono BW.out.size))
        exact ⟨hV, q0, q1, q2, q4, q6, cell_keep hc1 hV, cell_keep hc2 hV⟩
      have sB : Hid (∀ V V', Below V.heap.size V V' → Below w9.heap.size w9 V → Below w9.heap.size w9 V') := fun V V' h h' => h'.trans (h.mono h'.size)
      have sA : Hid (∀ V o, Below w9.heap.size w9 V → Below w9.heap.size w9 (V.alloc o)) := fun V o h => h.alloc h.size o
      have NB : Hid (∀ V, Below w9.heap.size w9 V → NumV V 65536 M (.slice qa ql qc) ∧ NumV V 65536 M2 (.slice pa pl pc)) := fun V hV => ⟨N1.out.of_below (BW.out.trans (hV.mono BW.out.size)), N2.out.of_below (BW.out.trans (hV.mono BW.out.size))⟩
      have RX : Hid (∀ V, Calls Try.prog 27 #[.string s] V fun e w' => (∃ v, e = .returned v ∧ NumV w' 65536 (numS s) v) ∧ Below V.heap.size V w') := fun V => read_small (isSc_size p1.out) k.hS V
      have RY : Hid (∀ V, Calls Try.prog 27 #[.string t] V fun e w' => (∃ v, e = .returned v ∧ NumV w' 65536 (numS t) v) ∧ Below V.heap.size V w') := fun V => read_small (isSc_size p2.out) k.hS V
      have RS : Hid (∀ V va vb, Below w9.heap.size w9 V → NumV V 65536 (numS s) va → NumV V 65536 (numS t) vb → Calls Try.prog 26 #[.agg #[.int .i64 (S : Int), .slice qa ql qc, .slice pa pl pc], va, vb] V fun e w' => (∃ v, e = .returned v ∧ NumV w' 65536 ((numS s + M - numS t) % M) v) ∧ Below V.heap.size V w') := fun V va vb hV ha hb => subV (NB.out V hV).1 (NB.out V hV).2 ha hb (isSc_lt p1.out) (isSc_lt p2.out) k.l5
      have RM : Hid (∀ V va, Below w9.heap.size w9 V → NumV V 65536 ((numS s + M - numS t) % M) va → Calls Try.prog 29 #[.agg #[.int .i64 (S : Int), .slice qa ql qc, .slice pa pl pc], r9, va] V fun e w' => (∃ v, e = .returned v ∧ NumV w' 65536 (((numS x + M - numS y) % M) ^ (M - 2) % M * ((numS s + M - numS t) % M) % M) v) ∧ Below V.heap.size V w') := fun V va hV ha => mulV k (NB.out V hV).1 (NB.out V hV).2 (M9.out.of_below hV) ha (Nat.mod_lt _ (by have := k.m2; omega)) (Nat.mod_lt _ (by have := k.m2; omega))
      have RT : Hid (∀ V va, NumV V 65536 (((numS x + M - numS y) % M) ^ (M - 2) % M * ((numS s + M - numS t) % M) % M) va → Calls Try.prog 28 #[va, .int .i64 (S : Int)] V fun e w' => e = .returned (.string T) ∧ Below V.heap.size V w') := fun V va ha => by
        have q := refTextV (S := S) ha (lenD (Nat.le_of_lt (Nat.mod_lt _ (by have := k.m2; omega))) k.l5) (by have := k.hS; omega)
        have e := HT.out
        unfold TX at e
        rw [e] at q
        exact q
      have HNi : Hid (i + 1 ≤ 8796093022207) := by show _ ≤ _; omega
      clear hc1 hc2 p1 p2
      go_wp2_with fail
      go_region_held3 (fun V => Below w9.heap.size w9 V ∧ V.cell? ⟨w1.heap.size, 0, none⟩ = some (.int .i64 (S : Int)) ∧ V.cell? ⟨w1.heap.size, 1, none⟩ = some (.slice qa ql qc) ∧ V.cell? ⟨w1.heap.size, 2, none⟩ = some (.slice pa pl pc) ∧ V.cell? ⟨w.heap.size, 1, none⟩ = some (.slice (some ⟨b1, o1, none⟩) l.length c) ∧ V.cell? ⟨w.heap.size + 1, 1, none⟩ = some (.slice (some ⟨b2, o2, none⟩) l.length d) ∧ V.cell? ⟨b1, o1 + i, none⟩ = some (.string s) ∧ V.cell? ⟨b2, o2 + i, none⟩ = some (.string t))
        (first | exact KP.out _ B.out.drew | assumption | exact KP.out _ B16.out | exact KP.out _ B15.out | exact KP.out _ B14.out | exact KP.out _ B13.out | exact KP.out _ B12.out | exact KP.out _ B11.out | exact KP.out _ B10.out | fail)
        (first
          | (go_at_call 27; refine (RX.out _).mono ?_; rintro e w10 ⟨⟨r10, rfl, n10⟩, hB10⟩; have B10 : Hid (Below w9.heap.size w9 w10) := sB.out _ _ hB10 B.out.drew; have M10 : Hid (NumV w10 65536 (numS s) r10) := n10; replace HO : Hid (w10.ownsRow w9.heap.size 9 1 v i (((exRow S M x y l m).take i).map Value.string)) := own_below (w := wr.drew) HO.out hB10; clear n10 RX)
          | (go_at_call 27; refine (RY.out _).mono ?_; rintro e w11 ⟨⟨r11, rfl, n11⟩, hB11⟩; have B11 : Hid (Below w9.heap.size w9 w11) := sB.out _ _ hB11 B10.out; have M11 : Hid (NumV w11 65536 (numS t) r11) := n11; replace M10 : Hid (NumV w11 65536 (numS s) r10) := M10.out.of_below hB11; replace HO : Hid (w11.ownsRow w9.heap.size 9 1 v i (((exRow S M x y l m).take i).map Value.string)) := own_below HO.out hB11; clear n11)
          | (go_at_call 26; refine (RS.out _ _ _ B11.out M10.out M11.out).mono ?_; rintro e w12 ⟨⟨r12, rfl, n12⟩, hB12⟩; have B12 : Hid (Below w9.heap.size w9 w12) := sB.out _ _ hB12 B11.out; have M12 : Hid (NumV w12 65536 ((numS s + M - numS t) % M) r12) := n12; replace HO : Hid (w12.ownsRow w9.heap.size 9 1 v i (((exRow S M x y l m).take i).map Value.string)) := own_below HO.out hB12; clear n12)
          | (go_at_call 29; refine (RM.out _ _ B12.out M12.out).mono ?_; rintro e w13 ⟨⟨r13, rfl, n13⟩, hB13⟩; have B13 : Hid (Below w9.heap.size w9 w13) := sB.out _ _ hB13 B12.out; have M13 : Hid (NumV w13 65536 (((numS x + M - numS y) % M) ^ (M - 2) % M * ((numS s + M - numS t) % M) % M) r13) := n13; replace HO : Hid (w13.ownsRow w9.heap.size 9 1 v i (((exRow S M x y l m).take i).map Value.string)) := own_below HO.out hB13; clear n13)
          | (go_at_call 28; refine (RT.out _ _ M13.out).mono ?_; rintro e w14 ⟨rfl, hB14⟩; have B14 : Hid (Below w9.heap.size w9 w14) := sB.out _ _ hB14 B13.out; have B15 : Hid (Below w9.heap.size w9 (w14.alloc (.cells #[.string T] 9))) := sA.out _ _ B14.out; have HO15 : Hid ((w14.alloc (.cells #[.string T] 9)).ownsRow w9.heap.size 9 1 v i (((exRow S M x y l m).take i).map Value.string)) := (own_below HO.out hB14).alloc _; have HC15 : Hid (∀ jj u, [Value.string T][jj]? = some u → (w14.alloc (.cells #[.string T] 9)).cell? ((⟨w14.heap.size, 0, none⟩ : Addr).add jj) = some u) := one_news w14 T)
          | (refine step_append_lies _ (by rfl) (.tmp 78) (.tmp 99) 22 (by rfl) w9.heap.size 9 i0 (.string ⟨#[]⟩) 1 16 Try.under22 hi0 hz0 hz1 hz2 rfl (by decide) v i (((exRow S M x y l m).take i).map Value.string) (by rfl) HO15.out ⟨w14.heap.size, 0, none⟩ 1 1 [.string T] (by rfl) rfl HC15.out (fun u hu => by simp at hu; subst hu; rfl) (by omega) (by have := HNi.out; unfold maxLen; omega) (by have := HNi.out; omega) B15.out.size _ rfl ?_; intro g cap w16 hown hgrow hat hlt; have HO16 : Hid (w16.ownsRow w9.heap.size 9 1 (.slice (some ⟨g, 0, none⟩) (i + 1) cap) (i + 1) (((exRow S M x y l m).take i).map Value.string ++ [Value.string T])) := hown; have B16 : Hid (Below w9.heap.size w9 w16) := B15.out.grown hgrow B15.out.size (fun k hk => (HO15.out.lt k hk).1); clear hown hgrow hat hlt)
          | fail)
      go_wp2_with fail
      go_roundg (gk - 1)
      case measure => omega
      case rel => exact ⟨i + 1, _, by omega, rfl, by go_num, B16.out, by rw [HR.out]; exact HO16.out⟩
    · have il : ¬ (i : Int) < (l.length : Int) := by omega
      have e : i = l.length := by omega
      have HF : Hid (∃ a' c', v = .slice a' l.length c' ∧ SL wr a' (exRow S M x y l m)) := by
        have h := HO.out
        rw [e, List.take_of_length_le (Nat.le_of_eq HX.out)] at h
        exact own_sl HX.out h
      clear e HO
      obtain ⟨a', c', rfl, hsl⟩ := HF.out
      have HSL : Hid (SL wr a' (exRow S M x y l m)) := hsl
      clear hsl
      go_wp2_with fail
      exact bodyPost_ret (v := .tuple #[.slice a' l.length c', .int .i64 0]) (by simp [results, Try.results7, go_sem]) rfl ⟨by first | exact ⟨_, _, rfl, HSL.out⟩ | exact ⟨_, ⟨_, rfl⟩, HSL.out⟩, J.out.trans ((B1.out.trans ((BW.out.trans (B.out.mono BW.out.size)).mono B1.out.size)).mono J.out.size)⟩
end
end Go.Proofs.Ytokkjdelomkfiaa
