/- Left, on the document's side, where nothing is wrong. -/
import Derived.Test.YtckgihloiecdmaaDoorMem
set_option linter.unusedSimpArgs false
set_option linter.unusedVariables false
set_option maxRecDepth 100000
namespace Go.Proofs.YtckgihloiecdmaaDoor
open Go.RowKit Go.Deep Go.PlainAid

theorem spl_form {w : World} {base n : Nat} {v : Value} {l : List (Nat × Nat)} (hn : l.length = n) (h : w.ownsRow base 36 2 v n (flat l)) : ∃ a c, v = .slice a n c ∧ SPL w a l := by
  subst hn
  exact own_spl h
/-- What pair answers. -/
def PR (l : List P3) (r : Int) : Prop := (r = -1 ∧ NoPair l) ∨ ∃ (i : Nat) (hi : i + 1 < l.length), r = (i : Int) ∧ half l[i] l[i + 1] = true ∧ ∀ j (hj : j < i), half l[j] l[j + 1] = false
theorem zip_take3 {L : List (Nat × Nat)} {ds : List ByteArray} {i : Nat} (h1 : i < L.length) (h2 : i < ds.length) : flat3 ((L.zip ds).take (i + 1)) = flat3 ((L.zip ds).take i) ++ [.int .i64 (L[i].1 : Int), .int .i64 (L[i].2 : Int), .string ds[i]] := by
  have h : i < (L.zip ds).length := by rw [List.length_zip]; omega
  rw [List.take_succ_eq_append_getElem h, flat3_append, List.getElem_zip]
  rfl
theorem flat3_join (p : List P3) (a b : P3) (r : List P3) : flat3 (p ++ join2 a b :: r) = flat3 p ++ [.int .i64 (a.1.1 : Int), .int .i64 (b.1.2 : Int), .string (tgF lBlock [a.2, b.2])] ++ flat3 r := by
  rw [flat3_append, List.append_assoc]
  rfl
theorem step_ex {l : List P3} {z i : Nat} (hi : i + 1 < l.length) (hh : half l[i] l[i + 1] = true) (hp : ∀ j (hj : j < i), half l[j] l[j + 1] = false) (hA : Al 0 z l) (h32 : ∀ p ∈ l, p.2.size = 32) :
    ∃ l3 : List P3, joinedL l3 = joinedL l ∧ Al 0 z l3 ∧ (∀ p ∈ l3, p.2.size = 32) ∧ l3.length + 1 = l.length ∧ flat3 l3 = flat3 (l.take i) ++ [.int .i64 (l[i].1.1 : Int), .int .i64 (l[i + 1].1.2 : Int), .string (tgF lBlock [l[i].2, l[i + 1].2])] ++ flat3 (l.drop (i + 2)) :=
  let ⟨h1, h2, h3, h4⟩ := step_red hi hh hp hA h32
  ⟨_, h1, h2, h3, h4, flat3_join _ _ _ _⟩
theorem flat3_take_at {l : List P3} {i : Nat} : ∀ (j : Nat) (u : Value), (flat3 (l.take i))[j]? = some u → (flat3 l)[j]? = some u := fun j u hj => by
  have e : flat3 l = flat3 (l.take i) ++ flat3 (l.drop i) := by rw [← flat3_append, List.take_append_drop]
  rw [e, List.getElem?_append_left (List.getElem?_eq_some_iff.1 hj).1]
  exact hj
theorem flat3_drop_at {l : List P3} {i : Nat} (hi : i ≤ l.length) : ∀ (j : Nat) (u : Value), (flat3 (l.drop i))[j]? = some u → (flat3 l)[i * 3 + j]? = some u := fun j u hj => by
  have e : flat3 l = flat3 (l.take i) ++ flat3 (l.drop i) := by rw [← flat3_append, List.take_append_drop]
  have hl : (flat3 (l.take i)).length = i * 3 := by rw [flat3_len, List.length_take]; congr 1; omega
  rw [e, List.getElem?_append_right (by omega), hl, Nat.add_sub_cancel_left]
  exact hj
set_option maxHeartbeats 8000000 in
theorem left25_good {w : World} {lo hi : Int} {zn : Nat} {aA aB aC : Option Addr} {cA cB cC : Nat} {A B C : List ByteArray} {LA LB LC : List (Nat × Nat)} (hzn : zn ≤ 1048576) (HR0 : Calls Tryd.prog 15 #[.int .i64 lo, .int .i64 hi, .int .i64 (zn : Int)] w fun e w' => e = .returned (.bool true) ∧ w' = w) (ra : RO 0 lo LA) (rb : RS lo hi LB) (rc : RS hi (zn : Int) LC) (ra2 : RS 0 lo LA) (lA : LA.length ≤ 1048576) (lB : LB.length ≤ 1048576) (lC : LC.length ≤ 1048576) (lT : LA.length + LB.length + LC.length ≤ 1048576) (eA : (((A.length : Nat) : Int) != ((LA.length : Nat) : Int)) = false) (sA : SL w aA A) (nA : aA = none → cA = 0) (eB : (((B.length : Nat) : Int) != ((LB.length : Nat) : Int)) = false) (sB : SL w aB B) (nB' : aB = none → cB = 0) (eC : (((C.length : Nat) : Int) != ((LC.length : Nat) : Int)) = false) (sC : SL w aC C) (nC : aC = none → cC = 0) (h32 : (A ++ B ++ C).all (fun p => decide (p.size = 32)) = true)
    {l : List P3} (hl : l = (LA ++ LB ++ LC).zip (A ++ B ++ C)) (hA : Al 0 zn l) (hl32 : ∀ p ∈ l, p.2.size = 32) :
    Calls Tryd.prog 25 #[.int .i64 (zn : Int), .int .i64 lo, .int .i64 hi, .slice aA A.length cA, .slice aB B.length cB, .slice aC C.length cC] w fun e w' => (∃ a c, e = .returned (.tuple #[.slice a ((joinedL l).map Prod.snd).length c, .bool true]) ∧ SL w' a ((joinedL l).map Prod.snd) ∧ (a = none → c = 0) ∧ NoPair (joinedL l)) ∧ Below w.heap.size w w' := by
  have hz : ¬ (1048576 : Int) < (zn : Int) := by omega
  have HR : Hid _ := HR0
  have HA1 : Hid (∀ V : World, Calls Tryd.prog 16 #[.int .i64 0, .int .i64 lo] V fun e w' => (∃ v, e = .returned v ∧ w'.ownsRow V.heap.size 36 2 v LA.length (flat LA)) ∧ Below V.heap.size V w') := ra
  have HB1 : Hid (∀ V : World, Calls Tryd.prog 16 #[.int .i64 lo, .int .i64 hi] V fun e w' => (∃ a c, e = .returned (.slice a LB.length c) ∧ SPL w' a LB ∧ (a = none → LB.length = 0 ∧ c = 0)) ∧ Below V.heap.size V w') := rb
  have HC1 : Hid (∀ V : World, Calls Tryd.prog 16 #[.int .i64 hi, .int .i64 (zn : Int)] V fun e w' => (∃ a c, e = .returned (.slice a LC.length c) ∧ SPL w' a LC ∧ (a = none → LC.length = 0 ∧ c = 0)) ∧ Below V.heap.size V w') := rc
  have HA2 : Hid (∀ V : World, Calls Tryd.prog 16 #[.int .i64 0, .int .i64 lo] V fun e w' => (∃ a c, e = .returned (.slice a LA.length c) ∧ SPL w' a LA ∧ (a = none → LA.length = 0 ∧ c = 0)) ∧ Below V.heap.size V w') := ra2
  have HB2 : Hid (∀ V : World, Calls Tryd.prog 16 #[.int .i64 lo, .int .i64 hi] V fun e w' => (∃ a c, e = .returned (.slice a LB.length c) ∧ SPL w' a LB ∧ (a = none → LB.length = 0 ∧ c = 0)) ∧ Below V.heap.size V w') := rb
  have HC2 : Hid (∀ V : World, Calls Tryd.prog 16 #[.int .i64 hi, .int .i64 (zn : Int)] V fun e w' => (∃ a c, e = .returned (.slice a LC.length c) ∧ SPL w' a LC ∧ (a = none → LC.length = 0 ∧ c = 0)) ∧ Below V.heap.size V w') := rc
  obtain ⟨i0, hi0, hz0, hz1, hz2⟩ := info_parts info36
  clear HR0 ra rb rc ra2
  obtain ⟨j0, hj0, hy0, hy1, hy2⟩ := info_parts info9
  have SA : Hid (SL w aA A) := sA
  have SB : Hid (SL w aB B) := sB
  have SC : Hid (SL w aC C) := sC
  have NA : Hid (aA = none → A.length = 0 ∧ cA = 0) := fun q => ⟨by rw [q] at sA; exact sA.none0, nA q⟩
  have NB : Hid (aB = none → B.length = 0 ∧ cB = 0) := fun q => ⟨by rw [q] at sB; exact sB.none0, nB' q⟩
  have NC : Hid (aC = none → C.length = 0 ∧ cC = 0) := fun q => ⟨by rw [q] at sC; exact sC.none0, nC q⟩
  have mA : A.length ≤ 1048576 := by simp [bne] at eA; omega
  have mB : B.length ≤ 1048576 := by simp [bne] at eB; omega
  have mC : C.length ≤ 1048576 := by simp [bne] at eC; omega
  clear sA sB sC nA nB' nC
  obtain ⟨nD, hnD⟩ : ∃ nD, 0 + A.length + B.length + C.length = nD := ⟨_, rfl⟩
  have HND : Hid (0 + A.length + B.length + C.length = nD) := hnD
  have HW : Hid (∀ V a c, SL V a (A ++ B ++ C) → Calls Tryd.prog 20 #[.slice a nD c] V fun e w' => e = .returned (.bool true) ∧ Below V.heap.size V w') := fun V a c hs => by
    have q := wide20 (c := c) (by simp only [List.length_append]; simp [bne] at eA eB eC; omega) hs
    rw [h32] at q
    rw [← hnD, show 0 + A.length + B.length + C.length = (A ++ B ++ C).length by simp only [List.length_append]; omega]
    exact q
  clear hnD
  have H40 : Hid (∀ V a c (l2 : List P3), Al 0 zn l2 → PTL V a l2 → Calls Tryd.prog 39 #[.slice a l2.length c] V fun e w' => (∃ r : Int, e = .returned (.int .i64 r) ∧ PR l2 r) ∧ Below V.heap.size V w') := fun V a c l2 h1 h2 => pair40 (by have := al_len h1; omega) h2 (al_each h1 hzn)
  have H31 : Hid (∀ V (f d : ByteArray), f.size = 32 → d.size = 32 → Calls Tryd.prog 31 #[.string f, .string d] V fun e w' => e = .returned (.string (tgF lBlock [f, d])) ∧ Below V.heap.size V w') := fun V f d h1 h2 => both31 (tagR V) f d (by omega) (by omega)
  obtain ⟨nS, hnS0⟩ : ∃ nS, LA.length + LB.length + LC.length = nS := ⟨_, rfl⟩
  have HNS : Hid (LA.length + LB.length + LC.length = nS) := hnS0
  have HLE : Hid (l = (LA ++ LB ++ LC).zip (A ++ B ++ C)) := hl
  have HSL : Hid ((LA ++ LB ++ LC).length = nS) := by show _ = _; rw [← HNS.out]; simp only [List.length_append]
  have HDL : Hid ((A ++ B ++ C).length = nS) := by show _ = _; rw [← HNS.out]; simp only [List.length_append]; simp [bne] at eA eB eC; omega
  have HDS : Hid (nD = nS) := by show _ = _; rw [← HNS.out, ← HND.out]; simp [bne] at eA eB eC; omega
  have HAL : Hid (Al 0 zn l) := hA
  have H32L : Hid (∀ p ∈ l, p.2.size = 32) := hl32
  have HLL : Hid (l.length = nS) := by show _ = _; rw [HLE.out, List.length_zip, HSL.out, HDL.out]; omega
  have hnS : nS ≤ 1048576 := by rw [← HNS.out]; exact lT
  obtain ⟨k0, hk0, hw0, hw1, hw2⟩ := info_parts info66
  clear hl hA hl32 hnS0
  go_enter Tryd.func25, Tryd.ntmps25
  go_wp2_with (first
    | (go_at_call 15; refine (Calls.mono HR.out) ?_; rintro e w0 ⟨rfl, rfl⟩; clear HR)
    | (go_at_call 16; refine (HA1.out _).mono ?_; rintro e w1 ⟨⟨v1, rfl, hO⟩, hB⟩; have B1 : Hid (Below w0.heap.size w0 w1) := hB; have O1 : Hid (w1.ownsRow w0.heap.size 36 2 v1 LA.length (flat LA)) := hO; clear hO hB HA1)
    | (go_at_call 16; refine (HB1.out _).mono ?_; rintro e w2 ⟨⟨a2, c2, rfl, hS, hN⟩, hB⟩; have B2 : Hid (Below w0.heap.size w0 w2) := B1.out.trans (hB.mono B1.out.size); have O2 : Hid (w2.ownsRow w0.heap.size 36 2 v1 LA.length (flat LA)) := row_keep O1.out hB; have S2 : Hid (SPL w2 a2 LB) := hS; have N2 : Hid (a2 = none → LB.length = 0 ∧ c2 = 0) := hN; clear hS hN hB HB1 O1)
    | (at_builtin; refine wpList_append_opt rfl (.tmp 34) (.tmp 37) 38 rfl w0.heap.size 36 i0 (.agg #[.int .i64 0, .int .i64 0]) 2 16 Tryd.underlying38 hi0 hz0 hz1 hz2 rfl (by decide) v1 LA.length (flat LA) rfl O2.out a2 LB.length c2 (flat LB) rfl (flat_len LB) N2.out (S2.out.cellsO) (flat_one LB) (by unfold maxLen; omega) (by omega) B2.out.size ?_; intro v3 w3 hown hgrow hn; have O3 : Hid (w3.ownsRow w0.heap.size 36 2 v3 (LA.length + LB.length) (flat LA ++ flat LB)) := hown; have B3 : Hid (Below w0.heap.size w0 w3) := B2.out.grown hgrow B2.out.size (fun k hk => (O2.out.lt k hk).1); clear hown hgrow hn O2 S2 N2)
    | (go_at_call 16; refine (HC1.out _).mono ?_; rintro e w4 ⟨⟨a4, c4, rfl, hS, hN⟩, hB⟩; have B4 : Hid (Below w0.heap.size w0 w4) := B3.out.trans (hB.mono B3.out.size); have O4 : Hid (w4.ownsRow w0.heap.size 36 2 v3 (LA.length + LB.length) (flat LA ++ flat LB)) := row_keep O3.out hB; have S4 : Hid (SPL w4 a4 LC) := hS; have N4 : Hid (a4 = none → LC.length = 0 ∧ c4 = 0) := hN; clear hS hN hB HC1 O3)
    | (at_builtin; refine wpList_append_opt rfl (.tmp 38) (.tmp 41) 38 rfl w0.heap.size 36 i0 (.agg #[.int .i64 0, .int .i64 0]) 2 16 Tryd.underlying38 hi0 hz0 hz1 hz2 rfl (by decide) v3 (LA.length + LB.length) (flat LA ++ flat LB) rfl O4.out a4 LC.length c4 (flat LC) rfl (flat_len LC) N4.out (S4.out.cellsO) (flat_one LC) (by unfold maxLen; omega) (by omega) B4.out.size ?_; intro v5 w5 hown hgrow hn; have O5 : Hid (w5.ownsRow w0.heap.size 36 2 v5 (LA.length + LB.length + LC.length) (flat LA ++ flat LB ++ flat LC)) := hown; have B5 : Hid (Below w0.heap.size w0 w5) := B4.out.grown hgrow B4.out.size (fun k hk => (O4.out.lt k hk).1); clear hown hgrow hn O4 S4 N4)
    | (go_at_call 16; refine (HA2.out _).mono ?_; rintro e w6 ⟨⟨a6, c6, rfl, _, _⟩, hB⟩; have B6 : Hid (Below w0.heap.size w0 w6) := B5.out.trans (hB.mono B5.out.size); have O6 : Hid (w6.ownsRow w0.heap.size 36 2 v5 (LA.length + LB.length + LC.length) (flat LA ++ flat LB ++ flat LC)) := row_keep O5.out hB; clear hB HA2 O5)
    | (go_at_call 16; refine (HB2.out _).mono ?_; rintro e w7 ⟨⟨a7, c7, rfl, _, _⟩, hB⟩; have B7 : Hid (Below w0.heap.size w0 w7) := B6.out.trans (hB.mono B6.out.size); have O7 : Hid (w7.ownsRow w0.heap.size 36 2 v5 (LA.length + LB.length + LC.length) (flat LA ++ flat LB ++ flat LC)) := row_keep O6.out hB; clear hB HB2 O6)
    | (go_at_call 16; refine (HC2.out _).mono ?_; rintro e w8 ⟨⟨a8, c8, rfl, _, _⟩, hB⟩; have B8 : Hid (Below w0.heap.size w0 w8) := B7.out.trans (hB.mono B7.out.size); have O8 : Hid (w8.ownsRow w0.heap.size 36 2 v5 (LA.length + LB.length + LC.length) (flat LA ++ flat LB ++ flat LC)) := row_keep O7.out hB; have D0 : Hid ((w8.alloc (.cells #[] 9)).ownsRow w0.heap.size 9 1 (.slice (some ⟨w8.heap.size, 0, none⟩) 0 0) 0 []) := none_own9 B8.out.size; have B9 : Hid (Below w0.heap.size w0 (w8.alloc (.cells #[] 9))) := B8.out.trans ((nB w8 _).mono B8.out.size); have P9 : Hid ((w8.alloc (.cells #[] 9)).ownsRow w0.heap.size 36 2 v5 (LA.length + LB.length + LC.length) (flat LA ++ flat LB ++ flat LC)) := row_keep O8.out (nB w8 _); clear hB HC2 O7 O8)
    | (at_builtin; refine wpList_append_opt rfl (.tmp 67) (.tmp 68) 22 rfl w0.heap.size 9 j0 (.string ⟨#[]⟩) 1 16 Tryd.underlying22 hj0 hy0 hy1 hy2 rfl (by decide) (.slice (some ⟨w8.heap.size, 0, none⟩) 0 0) 0 [] rfl D0.out aA A.length cA (A.map Value.string) rfl (by simp) NA.out ((SA.out.of_below B9.out).cellsO) (str_one A) (by unfold maxLen; omega) (by omega) B9.out.size ?_; intro v10 w10 hown hgrow hn; have D1 : Hid (w10.ownsRow w0.heap.size 9 1 v10 (0 + A.length) ([] ++ A.map Value.string)) := hown; have B10 : Hid (Below w0.heap.size w0 w10) := B9.out.grown hgrow B9.out.size (fun k hk => (D0.out.lt k hk).1); have P10 : Hid (w10.ownsRow w0.heap.size 36 2 v5 (LA.length + LB.length + LC.length) (flat LA ++ flat LB ++ flat LC)) := row_apart P9.out D0.out (by decide) hgrow; clear P9; clear hown hgrow hn D0)
    | (at_builtin; refine wpList_append_opt rfl (.tmp 69) (.tmp 70) 22 rfl w0.heap.size 9 j0 (.string ⟨#[]⟩) 1 16 Tryd.underlying22 hj0 hy0 hy1 hy2 rfl (by decide) v10 (0 + A.length) ([] ++ A.map Value.string) rfl D1.out aB B.length cB (B.map Value.string) rfl (by simp) NB.out ((SB.out.of_below B10.out).cellsO) (str_one B) (by unfold maxLen; omega) (by omega) B10.out.size ?_; intro v11 w11 hown hgrow hn; have D2 : Hid (w11.ownsRow w0.heap.size 9 1 v11 (0 + A.length + B.length) ([] ++ A.map Value.string ++ B.map Value.string)) := hown; have B11 : Hid (Below w0.heap.size w0 w11) := B10.out.grown hgrow B10.out.size (fun k hk => (D1.out.lt k hk).1); have P11 : Hid (w11.ownsRow w0.heap.size 36 2 v5 (LA.length + LB.length + LC.length) (flat LA ++ flat LB ++ flat LC)) := row_apart P10.out D1.out (by decide) hgrow; clear P10; clear hown hgrow hn D1)
    | (at_builtin; refine wpList_append_opt rfl (.tmp 71) (.tmp 72) 22 rfl w0.heap.size 9 j0 (.string ⟨#[]⟩) 1 16 Tryd.underlying22 hj0 hy0 hy1 hy2 rfl (by decide) v11 (0 + A.length + B.length) ([] ++ A.map Value.string ++ B.map Value.string) rfl D2.out aC C.length cC (C.map Value.string) rfl (by simp) NC.out ((SC.out.of_below B11.out).cellsO) (str_one C) (by unfold maxLen; omega) (by omega) B11.out.size ?_; intro v12 w12 hown hgrow hn; have D3 : Hid (w12.ownsRow w0.heap.size 9 1 v12 (0 + A.length + B.length + C.length) ([] ++ A.map Value.string ++ B.map Value.string ++ C.map Value.string)) := hown; have B12 : Hid (Below w0.heap.size w0 w12) := B11.out.grown hgrow B11.out.size (fun k hk => (D2.out.lt k hk).1); have P12 : Hid (w12.ownsRow w0.heap.size 36 2 v5 (LA.length + LB.length + LC.length) (flat LA ++ flat LB ++ flat LC)) := row_apart P11.out D2.out (by decide) hgrow; clear P11; obtain ⟨a12, c12, rfl, s12⟩ := own_sl (w := w12) (v := v12) (base := w0.heap.size) (n := nD) (qs := A ++ B ++ C) (by rw [← HND.out]; simp only [List.length_append]; omega) (by have q := hown; rw [HND.out, List.nil_append, ← List.map_append, ← List.map_append] at q; exact q); have S12 : Hid (SL w12 a12 (A ++ B ++ C)) := s12; clear s12; clear hown hgrow hn D2)
    | (go_at_call 20; refine (HW.out _ _ _ S12.out).mono ?_; rintro e w13 ⟨rfl, hB⟩; have B13 : Hid (Below w0.heap.size w0 w13) := B12.out.trans (hB.mono B12.out.size); have S13 : Hid (SL w13 a12 (A ++ B ++ C)) := S12.out.of_below hB; have P13 : Hid (w13.ownsRow w0.heap.size 36 2 v5 (LA.length + LB.length + LC.length) (flat LA ++ flat LB ++ flat LC)) := row_keep P12.out hB; obtain ⟨a5, c5, rfl, s5⟩ := spl_form (v := v5) (n := nS) (l := LA ++ LB ++ LC) (by rw [← HNS.out]; simp only [List.length_append]) (by have q := P13.out; rw [HNS.out, ← flat_append, ← flat_append] at q; exact q); have S5 : Hid (SPL w13 a5 (LA ++ LB ++ LC)) := s5; clear hB HW S12 P12 P13 s5))

  clear HNS HND
  generalize LA ++ LB ++ LC = S at *
  generalize A ++ B ++ C = D at *
  go_loopg [16, 17, 18, 79] nS (fun gk v16 v17 v18 v79 wr => ∃ i : Nat, i + gk = nS ∧ v79 = .int .i64 (i : Int) ∧ wr.ownsRow w13.heap.size 67 3 v16 i (flat3 (l.take i)) ∧ Below w13.heap.size w13 wr)
  case atStart => exact ⟨0, by omega, rfl, World.ownsRow_nil _ _ _ _, Below.refl _ _⟩
  case round =>
    obtain ⟨i, hig, rfl, hO, hB⟩ := hrel
    have B : Hid (Below w13.heap.size w13 wr) := hB
    have O : Hid (wr.ownsRow w13.heap.size 67 3 u16 i (flat3 (l.take i))) := hO
    clear hO hB
    by_cases hi : i < nS
    · have il : (i : Int) < (nS : Int) := by omega
      have il2 : (i : Int) < (nD : Int) := by have := HDS.out; omega
      have hiS : i < S.length := by rw [HSL.out]; exact hi
      have hiD : i < D.length := by rw [HDL.out]; exact hi
      obtain ⟨b1, o1, rfl, q1, q2⟩ := (S5.out.of_below B.out).two i hiS
      rw [Nat.mul_comm 2 i] at q1 q2
      obtain ⟨b2, o2, rfl, q3⟩ := S13.out i hiD
      have hb2 : b2 < w13.heap.size := cell_lt q3
      have q4 := cell_keep q3 B.out
      have HT : Hid (flat3 (l.take (i + 1)) = flat3 (l.take i) ++ [.int .i64 (S[i].1 : Int), .int .i64 (S[i].2 : Int), .string D[i]]) := by
        show _ = _
        rw [HLE.out]
        exact zip_take3 hiS hiD
      generalize S[i] = p at *
      generalize D[i] = s at *
      obtain ⟨p1, p2⟩ := p
      dsimp only at q1 q2 HT
      have I4 : Hid (IHolds (wr.alloc (.cells #[.int .i64 (p1 : Int), .int .i64 (p2 : Int)] 36)) wr.heap.size 36 [.int .i64 (p1 : Int), .int .i64 (p2 : Int)]) := IHolds.new wr 36 [.int .i64 (p1 : Int), .int .i64 (p2 : Int)]
      obtain ⟨W4, hW4⟩ : ∃ W4, wr.alloc (.cells #[.int .i64 (p1 : Int), .int .i64 (p2 : Int)] 36) = W4 := ⟨_, rfl⟩
      have B4 : Hid (Below wr.heap.size wr W4) := by rw [← hW4]; exact nB wr _
      have O4 : Hid (W4.ownsRow w13.heap.size 67 3 u16 i (flat3 (l.take i))) := row_keep O.out B4.out
      rw [hW4] at I4
      have Q4 : Hid (W4.cell? ⟨b2, o2 + i, none⟩ = some (.string s)) := cell_keep q4 B4.out
      have hsz : w13.heap.size ≤ W4.heap.size := Nat.le_trans B.out.size B4.out.size
      clear q3 q4
      go_wp2_with fail
      refine Code.wp_mono (Q := fun e aa ww => match e with | .normal => (?Ra : Act → World → Prop) aa ww | _ => False) ?nexta ?herea
      case nexta =>
        intro ex aa ww hh
        cases ex with
        | normal => exact hh
        | _ => exact hh.elim
      case herea =>
        refine r13_top (n₀ := w13.heap.size) il2 (by omega) hsz hb2 O4.out I4.out Q4.out ?_
        intro V v' u84 u85 u86 u87 u88 u89 u90 u91 u92 hO' hB'
        have O5 : Hid (V.ownsRow w13.heap.size 67 3 v' (i + 1) (flat3 (l.take (i + 1)))) := by rw [HT.out]; exact hO'
        have B5 : Hid (Below w13.heap.size w13 V) := B.out.trans ((B4.out.mono B.out.size).trans hB')
        clear hO' hB' HT hW4 I4 Q4
        go_wp2_with fail
        go_roundg (gk - 1)
        case measure => omega
        case rel => exact ⟨i + 1, by omega, by go_num, O5.out, B5.out⟩
    · have il : ¬ (i : Int) < (nS : Int) := by omega
      have e0 : i = l.length := by have := HLL.out; omega
      subst e0
      rw [List.take_length] at O
      obtain ⟨a16, c16, rfl, p16⟩ := own_ptlT rfl O.out
      have P16 : Hid (PTL wr a16 l) := p16
      clear p16
      go_wp2_with (go_at_call 39; refine (H40.out _ _ _ _ HAL.out P16.out).mono ?_; rintro e w14 ⟨⟨r, rfl, hr⟩, hB⟩; have B14 : Hid (Below w13.heap.size w13 w14) := B.out.trans (hB.mono B.out.size); have O14 : Hid (w14.ownsRow w13.heap.size 67 3 (.slice a16 l.length c16) l.length (flat3 l)) := row_keep O.out hB; have R14 : Hid (PR l r) := hr; clear hr hB)
      clear B O P16 S5 S13

      go_loopg [16, 19, 20] l.length (fun gk v16 v19 v20 wr => ∃ (l2 : List P3) (r : Int), l2.length = gk ∧ v19 = .int .i64 r ∧ PR l2 r ∧ wr.ownsRow w13.heap.size 67 3 v16 l2.length (flat3 l2) ∧ joinedL l2 = joinedL l ∧ Al 0 zn l2 ∧ (∀ p ∈ l2, p.2.size = 32) ∧ Below w13.heap.size w13 wr)
      case atStart => exact ⟨l, r, rfl, rfl, R14.out, O14.out, rfl, HAL.out, H32L.out, B14.out⟩
      case round =>
        obtain ⟨l2, r, hlg, rfl, hr, hO, hj, hA, h3, hB⟩ := hrel
        have B : Hid (Below w13.heap.size w13 wr) := hB
        have O : Hid (wr.ownsRow w13.heap.size 67 3 u16 l2.length (flat3 l2)) := hO
        have J : Hid (joinedL l2 = joinedL l) := hj
        have A2 : Hid (Al 0 zn l2) := hA
        have S2 : Hid (∀ p ∈ l2, p.2.size = 32) := h3
        have hl2 := al_len hA
        have HLG : Hid (l2.length = gk) := hlg
        clear hO hB hj hA h3 O14 B14 R14 hlg
        rcases hr with ⟨rfl, hnp⟩ | ⟨i, hi, rfl, hh, hp⟩
        · obtain ⟨a16, c16, rfl, p16⟩ := own_ptlT rfl O.out
          have P16 : Hid (PTL wr a16 l2) := p16
          have HJ : Hid (l2 = joinedL l) := by show _ = _; rw [← J.out, joined_np hnp]
          have HNP : Hid (NoPair l2) := hnp
          clear p16 hnp
          go_wp2_with fail
          obtain ⟨W, rfl⟩ : ∃ W, W = wr := ⟨wr, rfl⟩
          go_loopg [21, 23, 142] l2.length (fun gk v21 v23 v142 wr => ∃ i : Nat, i + gk = l2.length ∧ v142 = .int .i64 (i : Int) ∧ wr.ownsRow W.heap.size 9 1 v21 i (((l2.take i).map Prod.snd).map Value.string) ∧ Below W.heap.size W wr)
          case atStart => exact ⟨0, by omega, rfl, World.ownsRow_nil _ _ _ _, Below.refl _ _⟩
          case round =>
            obtain ⟨i, hig, rfl, hO, hB⟩ := hrel
            have BB : Hid (Below W.heap.size W wr) := hB
            have OO : Hid (wr.ownsRow W.heap.size 9 1 u21 i (((l2.take i).map Prod.snd).map Value.string)) := hO
            clear hB hO
            by_cases hi : i < l2.length
            · have il : (i : Int) < (l2.length : Int) := by omega
              obtain ⟨b, o, rfl, q1, q2, q3⟩ := (P16.out.of_below BB.out).three i hi
              have HST : Hid _ := snd_take hi
              generalize l2[i] = p at *
              obtain ⟨⟨p1, p2⟩, s⟩ := p
              dsimp only at q1 q2 q3 HST
              have I4 : Hid (IHolds (wr.alloc (.cells #[.int .i64 (p1 : Int), .int .i64 (p2 : Int), .string s] 67)) wr.heap.size 67 [.int .i64 (p1 : Int), .int .i64 (p2 : Int), .string s]) := IHolds.new wr 67 [.int .i64 (p1 : Int), .int .i64 (p2 : Int), .string s]
              obtain ⟨W4, hW4⟩ : ∃ W4, wr.alloc (.cells #[.int .i64 (p1 : Int), .int .i64 (p2 : Int), .string s] 67) = W4 := ⟨_, rfl⟩
              have B4 : Hid (Below wr.heap.size wr W4) := by rw [← hW4]; exact nB wr _
              have O4 : Hid (W4.ownsRow W.heap.size 9 1 u21 i (((l2.take i).map Prod.snd).map Value.string)) := row_keep OO.out B4.out
              rw [hW4] at I4
              have c4 : W4.cell? ⟨wr.heap.size, 2, none⟩ = some (.string s) := I4.out.cell 2 (by simp)
              go_wp2_with (at_builtin; refine wpList_append_own _ rfl (.tmp 146) (.tmp 149) 22 rfl W.heap.size 9 j0 (.string ⟨#[]⟩) 1 16 Tryd.underlying22 hj0 hy0 hy1 hy2 rfl (by decide) u21 i (((l2.take i).map Prod.snd).map Value.string) rfl (O4.out.alloc (.cells #[.string s] 9)) ⟨W4.heap.size, 0, none⟩ 1 1 [.string s] rfl rfl (one_news W4 s) (fun u hu => by simp at hu; subst hu; rfl) (by unfold maxLen; omega) (by omega) (Nat.le_trans BB.out.size (Nat.le_trans B4.out.size (nB W4 (.cells #[.string s] 9)).size)) ?_; intro v5 w5 hown hgrow hn; have O5 : Hid (w5.ownsRow W.heap.size 9 1 v5 (i + 1) (((l2.take i).map Prod.snd).map Value.string ++ [.string s])) := hown; have B5 : Hid (Below W.heap.size W w5) := (BB.out.trans ((B4.out.trans ((nB W4 (.cells #[.string s] 9)).mono B4.out.size)).mono BB.out.size)).grown hgrow (Nat.le_trans BB.out.size (Nat.le_trans B4.out.size (nB W4 (.cells #[.string s] 9)).size)) (fun k hk => ((O4.out.alloc (.cells #[.string s] 9)).lt k hk).1); clear hown hgrow hn)
              go_roundg (gk - 1)
              case measure => omega
              case rel => exact ⟨i + 1, by omega, by go_num, by rw [HST.out, List.map_append]; exact O5.out, B5.out⟩
            · have il : ¬ (i : Int) < (l2.length : Int) := by omega
              obtain ⟨a9, c9, rfl, s9⟩ := own_sl (w := wr) (v := u21) (base := W.heap.size) (qs := l2.map Prod.snd) (n := l2.length) (by simp) (by
                have h := OO.out
                rw [List.take_of_length_le (by omega)] at h
                have e : i = l2.length := by omega
                rw [e] at h
                exact h)
              have S9 : Hid (SL wr a9 (l2.map Prod.snd)) := s9
              have e : i = l2.length := by omega
              have N9 : Hid (a9 = none → c9 = 0) := by
                have h := OO.out
                rw [e] at h
                exact own_noneT h
              have B9 : Hid (Below w0.heap.size w0 wr) := B13.out.trans ((B.out.mono B13.out.size).trans (BB.out.mono (Nat.le_trans B13.out.size B.out.size)))
              clear s9 e
              go_wp2_with fail
              refine bodyPost_ret (v := .tuple #[.slice a9 l2.length c9, .bool true]) (by simp [results, Tryd.results25, go_sem]) rfl ⟨⟨a9, c9, ?_, ?_, N9.out, ?_⟩, B9.out⟩
              · first | rw [← HJ.out] | rw [List.length_map, ← HJ.out]
              · rw [← HJ.out]; exact S9.out
              · rw [← HJ.out]; exact HNP.out
        · obtain ⟨g, cap, rfl, hn1, hn2, hbg, hgW, hcells⟩ := row_formT (show 0 < l2.length by omega) O.out
          have PT : PTL wr (some ⟨g, 0, none⟩) l2 := fun j u hj => ⟨g, 0, rfl, by rw [Nat.zero_add]; exact hcells j u hj⟩
          obtain ⟨n1, hn1e⟩ : ∃ n1, n1 = i + 1 := ⟨_, rfl⟩
          obtain ⟨b, o, e1, q1, q2, q3⟩ := PT.three i (by omega)
          cases e1
          obtain ⟨b, o, e1, q4, q5, q6⟩ := PT.three (i + 1) hi
          cases e1
          rw [Nat.zero_add] at q1 q2 q3 q4 q5 q6
          obtain ⟨l3, RD1, RD2, RD3, RD4, hfj⟩ := step_ex hi hh hp A2.out S2.out
          have f32 : l2[i].2.size = 32 := S2.out _ (List.getElem_mem (by omega))
          have d32 : l2[i + 1].2.size = 32 := S2.out _ (List.getElem_mem hi)
          clear hh hp
          obtain ⟨pa, hpa⟩ : ∃ pa, pa = l2[i] := ⟨_, rfl⟩
          obtain ⟨pb, hpb⟩ : ∃ pb, pb = l2[i + 1] := ⟨_, rfl⟩
          rw [← hpa] at q1 q2 q3 f32 hfj
          rw [← hpb] at q4 q5 q6 d32 hfj
          clear hpa hpb
          obtain ⟨⟨a1, a2⟩, f⟩ := pa
          obtain ⟨⟨b1, b2⟩, d⟩ := pb
          dsimp only at q1 q2 q3 q4 q5 q6 f32 d32 hfj
          rw [← hn1e] at q4 q5 q6
          have RR : Hid (joinedL l3 = joinedL l ∧ Al 0 zn l3 ∧ (∀ p ∈ l3, p.2.size = 32) ∧ l3.length + 1 = l2.length) := ⟨RD1.trans J.out, RD2, RD3, RD4⟩
          have FJ : Hid (flat3 l3 = flat3 (l2.take i) ++ [.int .i64 (a1 : Int), .int .i64 (b2 : Int), .string (tgF lBlock [f, d])] ++ flat3 (l2.drop (i + 2))) := hfj
          have HXC : Hid (∀ V, Below wr.heap.size wr V → ∀ j u, (flat3 (l2.take i))[j]? = some u → V.cell? ⟨g, j, none⟩ = some u) := fun V hV j u hj => cell_keep (hcells j u (flat3_take_at j u hj)) hV
          have HYC : Hid (∀ V, Below wr.heap.size wr V → ∀ j u, (flat3 (l2.drop (i + 2)))[j]? = some u → V.cell? ⟨g, (i + 2) * 3 + j, none⟩ = some u) := fun V hV j u hj => cell_keep (hcells _ u (flat3_drop_at (by omega) j u hj)) hV
          have hxl : (flat3 (l2.take i)).length = i * 3 := by rw [flat3_len, List.length_take]; congr 1; omega
          have hyl : (flat3 (l2.drop (i + 2))).length = (l2.length - (i + 2)) * 3 := by rw [flat3_len, List.length_drop]
          have hx1 := flat3_one (l2.take i)
          have hy1 := flat3_one (l2.drop (i + 2))
          have C31 : Hid (∀ V, Calls Tryd.prog 31 #[.string f, .string d] V fun e w' => e = .returned (.string (tgF lBlock [f, d])) ∧ Below V.heap.size V w') := fun V => H31.out V f d f32 d32
          have il : (0 : Int) ≤ (i : Int) := by omega
          have k2 : (i : Int) + 1 = (n1 : Int) := by omega
          have K1 : Hid (n1 = i + 1) := hn1e
          generalize tgF lBlock [f, d] = DD at *
          generalize flat3 (l2.take i) = xs at *
          generalize flat3 (l2.drop (i + 2)) = ys at *
          clear RD1 RD2 RD3 RD4 hfj hcells f32 d32 PT hn1e S2 A2 J
          go_wp2_with fail
          refine Code.wp_mono (Q := fun e aa ww => match e with | .normal => (?Rb : Act → World → Prop) aa ww | _ => False) ?nextb ?hereb
          case nextb =>
            intro ex aa ww hh
            cases ex with
            | normal => exact hh
            | _ => exact hh.elim
          case hereb =>
            refine r18_top (n1 := n1) (by have := K1.out; omega) (by have := K1.out; omega) k2 (wrapN (by have := K1.out; omega)) hgW q1 q3 q5 q6 (fun V _ => C31.out V) ?_
            intro V Bk x100 x101 x102 x103 x104 x105 x106 x107 x108 x109 x110 x111 x112 x113 x114 x115 x116 x117 x118 x119 x120 x121 x122 x123 x124 x125 x126 hV hBk hIB
            have HV : Hid (Below wr.heap.size wr V) := hV
            have IB : Hid (IHolds V Bk 67 [.int .i64 (a1 : Int), .int .i64 (b2 : Int), .string DD]) := hIB
            clear hV hIB
            go_wp2_with fail
            refine Code.wp_mono (Q := fun e aa ww => match e with | .normal => (?R2 : Act → World → Prop) aa ww | _ => False) ?next2 ?here2
            case next2 =>
              intro ex aa ww hh
              cases ex with
              | normal => exact hh
              | _ => exact hh.elim
            case here2 =>
              refine r19_top (n2 := i + 2) (r := l2.length - (i + 2)) (xs := xs) (ys := ys) (D := DD) (by omega) (by omega) (by omega) (wrapN (by omega)) (by omega) (by omega) (by omega) (by omega) (Nat.lt_of_lt_of_le hgW HV.out.size) hxl hyl hx1 hy1 (HXC.out V HV.out) (HYC.out V HV.out) IB.out ?_
              intro V3 v' y127 y128 y129 y130 y131 y132 y133 y134 y135 y136 y137 y138 y139 hV3 hO3
              have B3 : Hid (Below w13.heap.size w13 V3) := B.out.trans ((HV.out.trans (hV3.mono HV.out.size)).mono B.out.size)
              obtain ⟨rj, rA, r3, rl⟩ := RR.out
              have O3 : Hid (V3.ownsRow w13.heap.size 67 3 v' l3.length (flat3 l3)) := by
                rw [FJ.out, show l3.length = i + 1 + (l2.length - (i + 2)) by omega]
                exact row_base hO3 (Nat.le_trans B.out.size HV.out.size)
              obtain ⟨a17, c17, rfl, p17⟩ := own_ptlT rfl O3.out
              have P17 : Hid (PTL V3 a17 l3) := p17
              have RA : Hid (Al 0 zn l3) := rA
              have RJ : Hid (joinedL l3 = joinedL l) := rj
              have R3 : Hid (∀ p ∈ l3, p.2.size = 32) := r3
              clear hV3 hO3 p17 rA rj r3 RR FJ HXC HYC hxl hyl hx1 hy1 q1 q2 q3 q4 q5 q6 IB C31
              go_wp2_with (go_at_call 39; refine (H40.out _ _ _ _ RA.out P17.out).mono ?_; rintro e w15 ⟨⟨r, rfl, hr⟩, hB⟩; have B15 : Hid (Below w13.heap.size w13 w15) := B3.out.trans (hB.mono B3.out.size); have O15 : Hid (w15.ownsRow w13.heap.size 67 3 (.slice a17 l3.length c17) l3.length (flat3 l3)) := row_keep O3.out hB; have R15 : Hid (PR l3 r) := hr; clear hr hB)
              go_roundg (gk - 1)
              case measure => have := HLG.out; omega
              case rel => exact ⟨l3, r, by have := HLG.out; omega, rfl, R15.out, O15.out, RJ.out, RA.out, R3.out, B15.out⟩
end Go.Proofs.YtckgihloiecdmaaDoor

/- The law BoardMeets, walked. -/
set_option linter.unusedSimpArgs false
set_option linter.unusedVariables false
set_option maxRecDepth 100000
namespace Go.Proofs.YtckgihloiecdmaaDoor
open Go.RowKit Go.Deep Go.PlainAid

set_option maxHeartbeats 1000000 in
theorem meets11_no {w : World} {H : ByteArray} {z lo hi : Int} {aA aB aC : Option Addr} {cA cB cC : Nat} {A B C : List ByteArray} (h : Calls Tryd.prog 25 #[.int .i64 z, .int .i64 lo, .int .i64 hi, .slice aA A.length cA, .slice aB B.length cB, .slice aC C.length cC] w fun e w' => e = .returned (.tuple #[.slice none 0 0, .bool false]) ∧ Below w.heap.size w w') :
    Calls Tryd.prog 11 #[.string H, .int .i64 z, .int .i64 lo, .int .i64 hi, .slice aA A.length cA, .slice aB B.length cB, .slice aC C.length cC] w fun e w' => e = .returned (.bool false) ∧ Below w.heap.size w w' := by
  have HL : Hid _ := h
  clear h
  go_enter Tryd.func11, Tryd.ntmps11
  go_wp2_with (go_at_call 25; refine (Calls.mono HL.out) ?_; rintro e w1 ⟨rfl, hB⟩; have B1 : Hid (Below w.heap.size w w1) := hB; clear hB)
  go_ret
  exact ⟨rfl, B1.out⟩
set_option maxHeartbeats 1000000 in
theorem meets11_good {w : World} {H : ByteArray} {zn : Nat} {lo hi : Int} {aA aB aC : Option Addr} {cA cB cC : Nat} {A B C : List ByteArray} {l : List P3} (hz : zn ≤ 1048576) (hA : Al 0 zn l) (h32 : ∀ p ∈ l, p.2.size = 32)
    (h : Calls Tryd.prog 25 #[.int .i64 (zn : Int), .int .i64 lo, .int .i64 hi, .slice aA A.length cA, .slice aB B.length cB, .slice aC C.length cC] w fun e w' => (∃ a c, e = .returned (.tuple #[.slice a ((joinedL l).map Prod.snd).length c, .bool true]) ∧ SL w' a ((joinedL l).map Prod.snd) ∧ (a = none → c = 0) ∧ NoPair (joinedL l)) ∧ Below w.heap.size w w') :
    Calls Tryd.prog 11 #[.string H, .int .i64 (zn : Int), .int .i64 lo, .int .i64 hi, .slice aA A.length cA, .slice aB B.length cB, .slice aC C.length cC] w fun e w' => e = .returned (.bool (decide (H = hdOf zn l))) ∧ Below w.heap.size w w' := by
  have HL : Hid _ := h
  have H9 : Hid (∀ V a c, SL V a ((joinedL l).map Prod.snd) → (a = none → c = 0) → NoPair (joinedL l) → Calls Tryd.prog 9 #[.int .i64 (zn : Int), .slice a ((joinedL l).map Prod.snd).length c] V fun e w' => e = .returned (.tuple #[.string (hdOf zn l), .int .i64 0]) ∧ Below V.heap.size V w') := fun V a c hs hn hp => by
    have hcv := al_cover (joined_al hA) hz hp
    have hlen := al_len (joined_al hA)
    exact refHead_good V zn hz (by rw [List.length_map]; omega) hs hn (by rw [← hcv, List.length_map, List.length_map]) (all32_of (joined_32 h32))
  obtain ⟨tt, htt⟩ : ∃ tt, decide (H = hdOf zn l) = tt := ⟨_, rfl⟩
  have hcmp : ((hdOf zn l).toList == H.toList) = tt := by
    rw [← htt]
    by_cases hq : H = hdOf zn l
    · rw [← hq]; simp
    · rw [toList_ne (fun e => hq e.symm), decide_eq_false hq]
  rw [htt]
  generalize hdOf zn l = DD at *
  generalize (joinedL l).map Prod.snd = J at *
  generalize NoPair (joinedL l) = NP at *
  clear h hA h32 htt
  go_enter Tryd.func11, Tryd.ntmps11
  go_wp2_with (first
    | (go_at_call 25; refine (Calls.mono HL.out) ?_; rintro e w1 ⟨⟨a1, c1, rfl, hs, hn, hp⟩, hB⟩; have B1 : Hid (Below w.heap.size w w1) := hB; have S1 : Hid (SL w1 a1 J) := hs; have N1 : Hid (a1 = none → c1 = 0) := hn; have P1 : Hid NP := hp; clear hB hs hn hp HL)
    | (go_at_call 9; refine (H9.out _ _ _ S1.out N1.out P1.out).mono ?_; rintro e w2 ⟨rfl, hB⟩; have B2 : Hid (Below w.heap.size w w2) := B1.out.trans (hB.mono B1.out.size); clear hB H9))
  go_ret
  exact ⟨rfl, B2.out⟩
/-- What a function answers of all that comes in. -/
def AnsM (f : Nat) (w0 : World) (args : Array Value) (tt : Bool) : Prop := ∀ V, Below w0.heap.size w0 V → Calls Tryd.prog f args V fun e V' => e = .returned (.bool tt) ∧ Below V.heap.size V V'
theorem all32_append (A B : List ByteArray) : all32 (A ++ B) = (all32 A && all32 B) := by
  unfold all32
  rw [List.all_append]
theorem ne_false {a b : Nat} (h : a = b) : (((a : Nat) : Int) != ((b : Nat) : Int)) = false := by rw [h]; simp [bne]
theorem ne_true {a b : Nat} (h : ¬ a = b) : (((a : Nat) : Int) != ((b : Nat) : Int)) = true := by simp [bne]; omega
theorem meets_good {w : World} (TP : TagC tgF 41 w) (H : ByteArray) {zn lo hi : Nat} (h1 : lo ≤ hi) (h2 : hi ≤ zn) (hz : zn ≤ 1048576) {aA aB aC : Option Addr} {cA cB cC : Nat} {A B C : List ByteArray} (mA : A.length ≤ 9223372036854775807) (mB : B.length ≤ 9223372036854775807) (mC : C.length ≤ 9223372036854775807)
    (sA : SL w aA A) (sB : SL w aB B) (sC : SL w aC C) (nA : aA = none → cA = 0) (nB' : aB = none → cB = 0) (nC : aC = none → cC = 0) (hg : Good zn lo hi A B C) :
    AnsM 10 w #[.string H, .int .i64 (zn : Int), .int .i64 (lo : Int), .int .i64 (hi : Int), .slice aA A.length cA, .slice aB B.length cB, .slice aC C.length cC] (decide (H = hdOf zn (lay3 zn lo hi A B C))) ∧ AnsM 11 w #[.string H, .int .i64 (zn : Int), .int .i64 (lo : Int), .int .i64 (hi : Int), .slice aA A.length cA, .slice aB B.length cB, .slice aC C.length cC] (decide (H = hdOf zn (lay3 zn lo hi A B C))) := by
  have hA := lay3_al h1 h2 hz hg
  have h32 := lay3_32 hg
  have hlen := al_len hA
  obtain ⟨⟨a1, a2⟩, ⟨b1, b2⟩, ⟨c1, c2⟩⟩ := id hg
  have hzip : lay3 zn lo hi A B C = (cover 0 lo ++ cover lo hi ++ cover hi zn).zip (A ++ B ++ C) := by
    unfold lay3
    rw [List.zip_append (by simp only [List.length_append]; omega), List.zip_append (by omega)]
  have hlt : (cover 0 lo).length + (cover lo hi).length + (cover hi zn).length ≤ 1048576 := by
    unfold lay3 at hlen
    simp only [List.length_append, List.length_zip] at hlen
    omega
  constructor
  · intro V hV
    exact good10 hz (within12 V lo hi zn true (decide_eq_true (by omega))) (pyes (lo := 0) (hi := lo) mA (sA.of_below hV) (by omega) (by omega) ⟨a1, a2⟩) (pyes mB (sB.of_below hV) h1 (by omega) ⟨b1, b2⟩) (pyes mC (sC.of_below hV) h2 hz ⟨c1, c2⟩) hA h32 (TP.of hV)
  · intro V hV
    exact meets11_good hz hA h32 (left25_good hz (right15 V lo hi zn true (decide_eq_true (by omega))) (ro_cover (x := 0) (y := lo) (by omega) (by omega)) (rs_cover h1 (by omega)) (rs_cover h2 hz) (rs_cover (x := 0) (y := lo) (by omega) (by omega)) (by omega) (by omega) (by omega) hlt
      (ne_false a1) (sA.of_below hV) nA (ne_false b1) (sB.of_below hV) nB' (ne_false c1) (sC.of_below hV) nC (by
        show all32 (A ++ B ++ C) = true
        rw [all32_append, all32_append, a2, b2, c2]; rfl) hzip hA h32)
theorem meets_bad {w : World} (H : ByteArray) {zn lo hi : Nat} (h1 : lo ≤ hi) (h2 : hi ≤ zn) (hz : zn ≤ 1048576) {aA aB aC : Option Addr} {cA cB cC : Nat} {A B C : List ByteArray} (mA : A.length ≤ 9223372036854775807) (mB : B.length ≤ 9223372036854775807) (mC : C.length ≤ 9223372036854775807)
    (sA : SL w aA A) (sB : SL w aB B) (sC : SL w aC C) (nA : aA = none → cA = 0) (nB' : aB = none → cB = 0) (nC : aC = none → cC = 0) (hg : ¬ Good zn lo hi A B C) :
    AnsM 10 w #[.string H, .int .i64 (zn : Int), .int .i64 (lo : Int), .int .i64 (hi : Int), .slice aA A.length cA, .slice aB B.length cB, .slice aC C.length cC] false ∧ AnsM 11 w #[.string H, .int .i64 (zn : Int), .int .i64 (lo : Int), .int .i64 (hi : Int), .slice aA A.length cA, .slice aB B.length cB, .slice aC C.length cC] false := by
  have z0 : ¬ (1048576 : Int) < (zn : Int) := by omega
  constructor
  · intro V hV
    have W := within12 V lo hi zn true (decide_eq_true (by omega))
    have sA := sA.of_below hV
    have sB := sB.of_below hV
    have sC := sC.of_below hV
    by_cases gA : A.length = (cover 0 lo).length ∧ all32 A = true
    · by_cases gB : B.length = (cover lo hi).length ∧ all32 B = true
      · by_cases gC : C.length = (cover hi zn).length ∧ all32 C = true
        · exact absurd ⟨gA, gB, gC⟩ hg
        · exact bad10_C z0 W (pyes (lo := 0) (hi := lo) mA sA (by omega) (by omega) gA) (pyes mB sB h1 (by omega) gB) (pno mC sC h2 hz gC)
      · by_cases gC : C.length = (cover hi zn).length ∧ all32 C = true
        · exact bad10_B z0 W (pyes (lo := 0) (hi := lo) mA sA (by omega) (by omega) gA) (pno mB sB h1 (by omega) gB) (pyes mC sC h2 hz gC)
        · exact bad10_BC z0 W (pyes (lo := 0) (hi := lo) mA sA (by omega) (by omega) gA) (pno mB sB h1 (by omega) gB) (pno mC sC h2 hz gC)
    · by_cases gB : B.length = (cover lo hi).length ∧ all32 B = true
      · by_cases gC : C.length = (cover hi zn).length ∧ all32 C = true
        · exact bad10_A z0 W (pno (lo := 0) (hi := lo) mA sA (by omega) (by omega) gA) (pyes mB sB h1 (by omega) gB) (pyes mC sC h2 hz gC)
        · exact bad10_AC z0 W (pno (lo := 0) (hi := lo) mA sA (by omega) (by omega) gA) (pyes mB sB h1 (by omega) gB) (pno mC sC h2 hz gC)
      · by_cases gC : C.length = (cover hi zn).length ∧ all32 C = true
        · exact bad10_AB z0 W (pno (lo := 0) (hi := lo) mA sA (by omega) (by omega) gA) (pno mB sB h1 (by omega) gB) (pyes mC sC h2 hz gC)
        · exact bad10_ABC z0 W (pno (lo := 0) (hi := lo) mA sA (by omega) (by omega) gA) (pno mB sB h1 (by omega) gB) (pno mC sC h2 hz gC)
  · intro V hV
    have W := right15 V lo hi zn true (decide_eq_true (by omega))
    have kA := cover_len 0 lo (by omega)
    have kB := cover_len lo hi (by omega)
    have kC := cover_len hi zn hz
    have ra := ro_cover (x := 0) (y := lo) (by omega) (by omega)
    have ra2 := rs_cover (x := 0) (y := lo) (by omega) (by omega)
    have rb := rs_cover (x := lo) (y := hi) h1 (by omega)
    have rc := rs_cover (x := hi) (y := zn) h2 hz
    refine meets11_no ?_
    by_cases gA : A.length = (cover 0 lo).length
    · by_cases gB : B.length = (cover lo hi).length
      · by_cases gC : C.length = (cover hi zn).length
        · have hlt : (cover 0 lo).length + (cover lo hi).length + (cover hi zn).length ≤ 1048576 := by
            have q1 := al_len (al_cov 1048576 0 lo A (by omega) (by omega) gA)
            have q2 := al_len (al_cov 1048576 lo hi B (by omega) (by omega) gB)
            have q3 := al_len (al_cov 1048576 hi zn C (by omega) (by omega) gC)
            rw [List.length_zip] at q1 q2 q3
            have e1 : (cov 1048576 0 lo).length = (cover 0 lo).length := rfl
            have e2 : (cov 1048576 lo hi).length = (cover lo hi).length := rfl
            have e3 : (cov 1048576 hi zn).length = (cover hi zn).length := rfl
            omega
          exact left25_W z0 W ra rb rc ra2 kA kB kC hlt (ne_false gA) (sA.of_below hV) nA (ne_false gB) (sB.of_below hV) nB' (ne_false gC) (sC.of_below hV) nC (by
            show all32 (A ++ B ++ C) = false
            rw [all32_append, all32_append]
            cases hA : all32 A with
            | false => rfl
            | true =>
              cases hB : all32 B with
              | false => rfl
              | true =>
                cases hC : all32 C with
                | false => rfl
                | true => exact absurd ⟨⟨gA, hA⟩, ⟨gB, hB⟩, ⟨gC, hC⟩⟩ hg)
        · exact left25_C z0 W ra rb rc ra2 kA kB kC (ne_false gA) (ne_false gB) (ne_true gC)
      · exact left25_B z0 W ra rb rc ra2 kA kB kC (ne_false gA) (ne_true gB)
    · exact left25_A z0 W ra rb rc ra2 kA kB kC (ne_true gA)
theorem meets_same {w : World} (TP : TagC tgF 41 w) (H : ByteArray) (z lo hi : Int) {aA aB aC : Option Addr} {cA cB cC : Nat} {A B C : List ByteArray} (mA : A.length ≤ 9223372036854775807) (mB : B.length ≤ 9223372036854775807) (mC : C.length ≤ 9223372036854775807)
    (sA : SL w aA A) (sB : SL w aB B) (sC : SL w aC C) (nA : aA = none → cA = 0) (nB' : aB = none → cB = 0) (nC : aC = none → cC = 0) :
    ∃ tt, AnsM 10 w #[.string H, .int .i64 z, .int .i64 lo, .int .i64 hi, .slice aA A.length cA, .slice aB B.length cB, .slice aC C.length cC] tt ∧ AnsM 11 w #[.string H, .int .i64 z, .int .i64 lo, .int .i64 hi, .slice aA A.length cA, .slice aB B.length cB, .slice aC C.length cC] tt := by
  by_cases hr : 0 ≤ lo ∧ lo ≤ hi ∧ hi ≤ z ∧ z ≤ 1048576
  · obtain ⟨h1, h2, h3, h4⟩ := hr
    obtain ⟨x, rfl⟩ := Int.eq_ofNat_of_zero_le h1
    obtain ⟨y, rfl⟩ := Int.eq_ofNat_of_zero_le (Int.le_trans h1 h2)
    obtain ⟨zn, rfl⟩ := Int.eq_ofNat_of_zero_le (show 0 ≤ z by omega)
    by_cases hg : Good zn x y A B C
    · exact ⟨_, meets_good TP H (by omega) (by omega) (by omega) mA mB mC sA sB sC nA nB' nC hg⟩
    · exact ⟨_, meets_bad H (by omega) (by omega) (by omega) mA mB mC sA sB sC nA nB' nC hg⟩
  · exact ⟨false, fun V hV => meets10_range V H z lo hi hr, fun V hV => meets11_no (left25_range V z lo hi hr)⟩
set_option maxHeartbeats 1000000 in
theorem law4 {w : World} {v0 v1 v2 v3 v4 v5 v6 : Value} {tt : Bool} (h10 : AnsM 10 w #[v0, v1, v2, v3, v4, v5, v6] tt) (h11 : AnsM 11 w #[v0, v1, v2, v3, v4, v5, v6] tt) :
    Calls Tryd.prog 4 #[v0, v1, v2, v3, v4, v5, v6] w fun e w' => e = .returned (.bool true) ∧ Below w.heap.size w w' := by
  have C10 : Hid (∀ V, Below w.heap.size w V → Calls Tryd.prog 10 #[v0, v1, v2, v3, v4, v5, v6] V fun e V' => e = .returned (.bool tt) ∧ Below V.heap.size V V') := h10
  have C11 : Hid (∀ V, Below w.heap.size w V → Calls Tryd.prog 11 #[v0, v1, v2, v3, v4, v5, v6] V fun e V' => e = .returned (.bool tt) ∧ Below V.heap.size V V') := h11
  clear h10 h11
  have hb : (tt == tt) = true := beq_self_eq_true _
  go_enter Tryd.func4, Tryd.ntmps4
  go_wp2_with (first
    | (go_at_call 10; refine (C10.out _ (Below.refl _ _)).mono ?_; rintro e w1 ⟨rfl, hB⟩; have B1 : Hid (Below w.heap.size w w1) := hB; clear hB C10)
    | (go_at_call 11; refine (C11.out _ B1.out).mono ?_; rintro e w2 ⟨rfl, hB⟩; have B2 : Hid (Below w.heap.size w w2) := B1.out.trans (hB.mono B1.out.size); clear hB C11))
  go_ret
  exact ⟨rfl, B2.out⟩
/-- The law, whatever comes in. -/
theorem meets_walk {w : World} (hT : F.Tabs w) (hS : F.Starts w) (H : ByteArray) (z lo hi : Int) {aA aB aC : Option Addr} {cA cB cC : Nat} {A B C : List ByteArray} (mA : A.length ≤ 9223372036854775807) (mB : B.length ≤ 9223372036854775807) (mC : C.length ≤ 9223372036854775807)
    (sA : SL w aA A) (sB : SL w aB B) (sC : SL w aC C) (nA : aA = none → cA = 0) (nB' : aB = none → cB = 0) (nC : aC = none → cC = 0) :
    Calls Tryd.prog 4 #[.string H, .int .i64 z, .int .i64 lo, .int .i64 hi, .slice aA A.length cA, .slice aB B.length cB, .slice aC C.length cC] w fun e w' => e = .returned (.bool true) ∧ Below w.heap.size w w' := by
  obtain ⟨tt, h10, h11⟩ := meets_same (tagP hT hS) H z lo hi mA mB mC sA sB sC nA nB' nC
  exact law4 h10 h11
end Go.Proofs.YtckgihloiecdmaaDoor

