/- The law SigmaHides, walked with what it calls. -/
import Derived.Test.YtokkjdelomkfiaaCk
import Derived.Laws.AppendOwn
set_option linter.unusedSimpArgs false
set_option linter.unusedVariables false
set_option maxRecDepth 100000
namespace Go.Proofs.Ytokkjdelomkfiaa
open Go.RowKit Go.Deep Go.PlainAid

theorem own9_below {w w' : World} {b0 n : Nat} {v : Value} {cs : List Value} (h : w.ownsRow b0 9 1 v n cs) (hb : Below w.heap.size w w') : w'.ownsRow b0 9 1 v n cs := by
  obtain ⟨hl, ⟨rfl, h0⟩ | ⟨r, cap, cur, rfl, q1, hg, q2, q3, q4, q5⟩⟩ := h
  · exact ⟨hl, Or.inl ⟨rfl, h0⟩⟩
  · exact ⟨hl, Or.inr ⟨r, cap, cur, rfl, q1, by rw [hb.block r (Array.getElem?_eq_some_iff.1 hg).1]; exact hg, q2, q3, q4, q5⟩⟩
theorem own9_sl {w : World} {base : Nat} {v : Value} {n : Nat} {qs : List ByteArray} (hn : qs.length = n) (h : w.ownsRow base 9 1 v n (qs.map Value.string)) : ∃ a' c', v = .slice a' n c' ∧ SL w a' qs := by
  obtain ⟨hl, ⟨rfl, h0⟩ | ⟨g, cap, cur, rfl, h1, hg, h2, h3, h4, h5⟩⟩ := h
  · refine ⟨none, 0, by rw [h0], fun i hi => ?_⟩
    omega
  · refine ⟨_, _, rfl, fun i hi => ⟨g, 0, rfl, ?_⟩⟩
    have e : (cur.toList.take (n * 1))[i]? = (qs.map Value.string)[i]? := by rw [h5]
    rw [List.getElem?_take_of_lt (by omega), List.getElem?_map, List.getElem?_eq_getElem hi, Array.getElem?_toList] at e
    rw [Nat.zero_add]
    unfold World.cell?
    simp [hg, e]
set_option maxHeartbeats 4000000 in
theorem hides_nil {w : World} {z : Int} {ot ch : ByteArray} {sa aa : Option Addr} {ns na ps pa : Nat} (CL : ∀ W, Calls Try.prog 11 #[] W fun e w' => e = .returned (.bool true) ∧ Below W.heap.size W w') (C12 : ∀ W, Below w.heap.size w W → Calls Try.prog 12 #[.int .i64 z, .string ot, .slice sa ns ps] W fun e w' => e = .returned (.slice none 0 0) ∧ Below W.heap.size W w') :
    Calls Try.prog 4 #[.int .i64 z, .string ot, .slice sa ns ps, .string ch, .slice aa na pa] w fun e w' => e = .returned (.bool true) ∧ Below w.heap.size w w' := by
  have HL : Hid _ := CL
  have H12 : Hid _ := C12
  clear CL C12
  go_enter Try.func4, Try.ntmps4
  go_wp2_with (first | (go_at_call 11; refine (HL.out _).mono ?_; rintro e w1 ⟨rfl, hB1⟩; have B1 : Hid (Below w.heap.size w w1) := hB1; clear hB1 HL) | (go_at_call 12; refine (H12.out _ B1.out).mono ?_; rintro e w2 ⟨rfl, hB2⟩; have B2 : Hid (Below w.heap.size w w2) := B1.out.trans (hB2.mono B1.out.size); clear hB2 B1 H12))
  go_ret
  exact ⟨rfl, B2.out⟩
set_option maxHeartbeats 4000000 in
theorem hides_0 {w : World} {z : Int} {ot ch : ByteArray} {sa aa : Option Addr} {ns na ps pa : Nat} {n : Nat} {l : List Cl} (CL : ∀ W, Calls Try.prog 11 #[] W fun e w' => e = .returned (.bool true) ∧ Below W.heap.size W w') (C12 : ∀ W, Below w.heap.size w W → Calls Try.prog 12 #[.int .i64 z, .string ot, .slice sa ns ps] W fun e w' => (∃ a c, e = .returned (.slice a n c) ∧ CM w' a l) ∧ Below W.heap.size W w') (h0 : ((n : Int) == 0) = true) :
    Calls Try.prog 4 #[.int .i64 z, .string ot, .slice sa ns ps, .string ch, .slice aa na pa] w fun e w' => e = .returned (.bool true) ∧ Below w.heap.size w w' := by
  have HL : Hid _ := CL
  have H12 : Hid _ := C12
  clear CL C12
  go_enter Try.func4, Try.ntmps4
  go_wp2_with (first | (go_at_call 11; refine (HL.out _).mono ?_; rintro e w1 ⟨rfl, hB1⟩; have B1 : Hid (Below w.heap.size w w1) := hB1; clear hB1 HL) | (go_at_call 12; refine (H12.out _ B1.out).mono ?_; rintro e w2 ⟨⟨ac, cc, rfl, hcm⟩, hB2⟩; have B2 : Hid (Below w.heap.size w w2) := B1.out.trans (hB2.mono B1.out.size); have M2 : Hid (CM w2 ac l) := hcm; clear hB2 B1 H12 hcm))
  go_ret
  exact ⟨rfl, B2.out⟩
set_option maxHeartbeats 4000000 in
theorem hides_64 {w : World} {z : Int} {ot ch : ByteArray} {sa aa : Option Addr} {ns na ps pa : Nat} {n : Nat} {l : List Cl} (CL : ∀ W, Calls Try.prog 11 #[] W fun e w' => e = .returned (.bool true) ∧ Below W.heap.size W w') (C12 : ∀ W, Below w.heap.size w W → Calls Try.prog 12 #[.int .i64 z, .string ot, .slice sa ns ps] W fun e w' => (∃ a c, e = .returned (.slice a n c) ∧ CM w' a l) ∧ Below W.heap.size W w') (h0 : ((n : Int) == 0) = false) (h1 : (64 : Int) < (n : Int)) :
    Calls Try.prog 4 #[.int .i64 z, .string ot, .slice sa ns ps, .string ch, .slice aa na pa] w fun e w' => e = .returned (.bool true) ∧ Below w.heap.size w w' := by
  have HL : Hid _ := CL
  have H12 : Hid _ := C12
  clear CL C12
  go_enter Try.func4, Try.ntmps4
  go_wp2_with (first | (go_at_call 11; refine (HL.out _).mono ?_; rintro e w1 ⟨rfl, hB1⟩; have B1 : Hid (Below w.heap.size w w1) := hB1; clear hB1 HL) | (go_at_call 12; refine (H12.out _ B1.out).mono ?_; rintro e w2 ⟨⟨ac, cc, rfl, hcm⟩, hB2⟩; have B2 : Hid (Below w.heap.size w w2) := B1.out.trans (hB2.mono B1.out.size); have M2 : Hid (CM w2 ac l) := hcm; clear hB2 B1 H12 hcm))
  go_ret
  exact ⟨rfl, B2.out⟩
set_option maxHeartbeats 4000000 in
theorem hides_few {w : World} {z : Int} {ot ch : ByteArray} {sa aa : Option Addr} {ns na ps pa : Nat} {n : Nat} {l : List Cl} (CL : ∀ W, Calls Try.prog 11 #[] W fun e w' => e = .returned (.bool true) ∧ Below W.heap.size W w') (C12 : ∀ W, Below w.heap.size w W → Calls Try.prog 12 #[.int .i64 z, .string ot, .slice sa ns ps] W fun e w' => (∃ a c, e = .returned (.slice a n c) ∧ CM w' a l) ∧ Below W.heap.size W w') (h0 : ((n : Int) == 0) = false) (h1 : ¬ (64 : Int) < (n : Int)) (h2 : (na : Int) < (n : Int)) :
    Calls Try.prog 4 #[.int .i64 z, .string ot, .slice sa ns ps, .string ch, .slice aa na pa] w fun e w' => e = .returned (.bool true) ∧ Below w.heap.size w w' := by
  have HL : Hid _ := CL
  have H12 : Hid _ := C12
  clear CL C12
  go_enter Try.func4, Try.ntmps4
  go_wp2_with (first | (go_at_call 11; refine (HL.out _).mono ?_; rintro e w1 ⟨rfl, hB1⟩; have B1 : Hid (Below w.heap.size w w1) := hB1; clear hB1 HL) | (go_at_call 12; refine (H12.out _ B1.out).mono ?_; rintro e w2 ⟨⟨ac, cc, rfl, hcm⟩, hB2⟩; have B2 : Hid (Below w.heap.size w w2) := B1.out.trans (hB2.mono B1.out.size); have M2 : Hid (CM w2 ac l) := hcm; clear hB2 B1 H12 hcm))
  go_ret
  exact ⟨rfl, B2.out⟩
set_option maxHeartbeats 4000000 in
theorem hides_ch {w : World} {z : Int} {ot ch : ByteArray} {sa aa : Option Addr} {ns na ps pa : Nat} {n : Nat} {l : List Cl} (CL : ∀ W, Calls Try.prog 11 #[] W fun e w' => e = .returned (.bool true) ∧ Below W.heap.size W w') (C12 : ∀ W, Below w.heap.size w W → Calls Try.prog 12 #[.int .i64 z, .string ot, .slice sa ns ps] W fun e w' => (∃ a c, e = .returned (.slice a n c) ∧ CM w' a l) ∧ Below W.heap.size W w') (h0 : ((n : Int) == 0) = false) (h1 : ¬ (64 : Int) < (n : Int)) (h2 : ¬ (na : Int) < (n : Int)) (C13 : ∀ W, Calls Try.prog 13 #[.int .i64 z, .string ch] W fun e w' => e = .returned (.bool false) ∧ Below W.heap.size W w') :
    Calls Try.prog 4 #[.int .i64 z, .string ot, .slice sa ns ps, .string ch, .slice aa na pa] w fun e w' => e = .returned (.bool true) ∧ Below w.heap.size w w' := by
  have HL : Hid _ := CL
  have H12 : Hid _ := C12
  clear CL C12
  have H13 : Hid _ := C13
  clear C13
  go_enter Try.func4, Try.ntmps4
  go_wp2_with (first | (go_at_call 11; refine (HL.out _).mono ?_; rintro e w1 ⟨rfl, hB1⟩; have B1 : Hid (Below w.heap.size w w1) := hB1; clear hB1 HL) | (go_at_call 12; refine (H12.out _ B1.out).mono ?_; rintro e w2 ⟨⟨ac, cc, rfl, hcm⟩, hB2⟩; have B2 : Hid (Below w.heap.size w w2) := B1.out.trans (hB2.mono B1.out.size); have M2 : Hid (CM w2 ac l) := hcm; clear hB2 B1 H12 hcm) | (go_at_call 13; refine (H13.out _).mono ?_; rintro e w3 ⟨rfl, hB3⟩; have B3 : Hid (Below w.heap.size w w3) := B2.out.trans (hB3.mono B2.out.size); have M3 : Hid (CM w3 ac l) := M2.out.of_below hB3; clear hB3 B2 M2))
  go_ret
  exact ⟨rfl, B3.out⟩
set_option maxHeartbeats 4000000 in
theorem hides_main {w : World} {z : Int} {ot ch : ByteArray} {sa aa : Option Addr} {na ps pa : Nat} {xs rs : List ByteArray} {l : List Cl} {p : ByteArray → Bool} {mu : ByteArray → ByteArray} {nn : ByteArray → ByteArray → ByteArray} {L : List (List ByteArray)} (CL : ∀ W, Calls Try.prog 11 #[] W fun e w' => e = .returned (.bool true) ∧ Below W.heap.size W w') (C12 : ∀ W, Below w.heap.size w W → Calls Try.prog 12 #[.int .i64 z, .string ot, .slice sa xs.length ps] W fun e w' => (∃ a c, e = .returned (.slice a xs.length c) ∧ CM w' a l) ∧ Below W.heap.size W w') (h0 : 0 < xs.length) (h1 : xs.length ≤ 64) (h2 : rs.length = xs.length) (h3 : rs.length ≤ na) (h4 : na ≤ pa) (h5 : pa ≤ 9223372036854775807) (hx : SL w sa xs) (hr : SL w aa rs)
    (CS : ∀ s W, Calls Try.prog 13 #[.int .i64 z, .string s] W fun e w' => e = .returned (.bool (p s)) ∧ Below W.heap.size W w') (hch : p ch = true) (hxs : xs.all p = true)
    (CU : ∀ x, p x = true → ∀ W, Calls Try.prog 14 #[.int .i64 z, .string ch, .string x] W fun e w' => e = .returned (.tuple #[.string (mu x), .int .i64 0]) ∧ Below W.heap.size W w')
    (CV : ∀ x r, p x = true → p r = true → ∀ W, Calls Try.prog 15 #[.int .i64 z, .string r, .string (mu x)] W fun e w' => e = .returned (.tuple #[.string (nn x r), .int .i64 0]) ∧ Below W.heap.size W w')
    (CK : rs.all p = true → ∀ W a b c d, CM W a l → SL W b rs → Calls Try.prog 16 #[.int .i64 z, .slice a xs.length c, .string ch, .slice b xs.length d] W fun e w' => (∃ a' c', e = .returned (.tuple #[.slice a' xs.length c', .int .i64 0]) ∧ SLL w' a' L) ∧ Below W.heap.size W w')
    (CF : rs.all p = true → ∀ W a b c d, CM W a l → SL W b (List.zipWith nn xs rs) → Calls Try.prog 17 #[.int .i64 z, .slice a xs.length c, .slice b xs.length d] W fun e w' => (∃ a' c', e = .returned (.tuple #[.slice a' xs.length c', .int .i64 0]) ∧ SLL w' a' L) ∧ Below W.heap.size W w')
    (CE : ∀ W a b c d, SLL W a L → SLL W b L → Calls Try.prog 18 #[.slice a xs.length c, .slice b xs.length d] W fun e w' => e = .returned (.bool true) ∧ Below W.heap.size W w') :
    Calls Try.prog 4 #[.int .i64 z, .string ot, .slice sa xs.length ps, .string ch, .slice aa na pa] w fun e w' => e = .returned (.bool true) ∧ Below w.heap.size w w' := by
  have HL : Hid _ := CL
  have H12 : Hid _ := C12
  clear CL C12
  have HS : Hid _ := CS
  have HU : Hid _ := CU
  have HV : Hid _ := CV
  have HK : Hid _ := CK
  have HF : Hid _ := CF
  have HE : Hid _ := CE
  have H13 : Hid (∀ W, Calls Try.prog 13 #[.int .i64 z, .string ch] W fun e w' => e = .returned (.bool true) ∧ Below W.heap.size W w') := fun W => by have q := CS ch W; rw [hch] at q; exact q
  have HX : Hid (SL w sa xs) := hx
  have HR : Hid (SL w aa rs) := hr
  have H2 : Hid (rs.length = xs.length) := h2
  have HXS : Hid (xs.all p = true) := hxs
  have g0 : ((xs.length : Int) == 0) = false := beq_eq_false_iff_ne.2 (by omega)
  have g1 : ¬ (64 : Int) < (xs.length : Int) := by omega
  have g2 : ¬ (na : Int) < (xs.length : Int) := by omega
  have g3 : xs.length ≤ pa := by omega
  have g1b : decide ((64 : Int) < (xs.length : Int)) = false := decide_eq_false (by omega)
  have g2b : decide (na < xs.length) = false := decide_eq_false (by omega)
  clear CS CU CV CK CF CE hx hr hch hxs h2 h3
  go_enter Try.func4, Try.ntmps4
  go_wp2_with (first | (go_at_call 11; refine (HL.out _).mono ?_; rintro e w1 ⟨rfl, hB1⟩; have B1 : Hid (Below w.heap.size w w1) := hB1; clear hB1 HL) | (go_at_call 12; refine (H12.out _ B1.out).mono ?_; rintro e w2 ⟨⟨ac, cc, rfl, hcm⟩, hB2⟩; have B2 : Hid (Below w.heap.size w w2) := B1.out.trans (hB2.mono B1.out.size); have M2 : Hid (CM w2 ac l) := hcm; clear hB2 B1 H12 hcm) | (go_at_call 13; refine (H13.out _).mono ?_; rintro e w3 ⟨rfl, hB3⟩; have B3 : Hid (Below w.heap.size w w3) := B2.out.trans (hB3.mono B2.out.size); have M3 : Hid (CM w3 ac l) := M2.out.of_below hB3; clear hB3 B2 M2))
  obtain ⟨i0, hi0, hz0, hz1, hz2⟩ := info_parts Try.info9'
  have H2' : Hid ((List.zipWith nn xs rs).length = xs.length) := by show _ = _; rw [List.length_zipWith, H2.out]; simp
  go_loopg [12, 13, 14, 15, 16, 17, 18, 56] xs.length (fun gk v12 v13 v14 v15 v16 v17 v18 v56 wr => ∃ i : Nat, i + gk = xs.length ∧ v56 = .int .i64 (i : Int) ∧ Below w3.heap.size w3 wr ∧ (rs.take i).all p = true ∧ wr.ownsRow w3.heap.size 9 1 v12 i (((List.zipWith nn xs rs).take i).map Value.string))
  case atStart => exact ⟨0, by omega, rfl, Below.refl _ _, by simp, ⟨by simp, Or.inl ⟨rfl, rfl⟩⟩⟩
  case round =>
    obtain ⟨i, hig, rfl, hB, hA, hO⟩ := hrel
    have BB : Hid (Below w3.heap.size w3 wr) := hB
    have HA : Hid ((rs.take i).all p = true) := hA
    have HO : Hid (wr.ownsRow w3.heap.size 9 1 u12 i (((List.zipWith nn xs rs).take i).map Value.string)) := hO
    clear hB hA hO
    have BW : Hid (Below w.heap.size w wr) := B3.out.trans (BB.out.mono B3.out.size)
    by_cases hi : i < xs.length
    · have hi2 : i < rs.length := by have := H2.out; omega
      have hi3 : i < (List.zipWith nn xs rs).length := by have := H2'.out; omega
      obtain ⟨b1, o1, rfl, hc1⟩ := HX.out.of_below BW.out i hi
      obtain ⟨b2, o2, rfl, hc2⟩ := HR.out.of_below BW.out i hi2
      have il : (i : Int) < (xs.length : Int) := by omega
      have hpx : p xs[i] = true := List.all_eq_true.1 HXS.out _ (List.getElem_mem hi)
      have HT : Hid _ := List.take_succ_eq_append_getElem hi3
      have HT2 : Hid _ := List.take_succ_eq_append_getElem hi2
      have hz : (List.zipWith nn xs rs)[i] = nn xs[i] rs[i] := by simp
      rw [hz] at HT
      have U14 : Hid _ := HU.out xs[i] hpx
      have V15 : Hid _ := fun (h : p rs[i] = true) => HV.out xs[i] rs[i] hpx h
      have S13 : Hid _ := HS.out rs[i]
      clear hz hpx
      generalize xs[i] = x at *
      generalize rs[i] = r at *
      cases hp : p r with
      | false =>
        have S13' : Hid (∀ W, Calls Try.prog 13 #[.int .i64 z, .string r] W fun e w' => e = .returned (.bool false) ∧ Below W.heap.size W w') := fun W => by have q := S13.out W; rw [hp] at q; exact q
        clear S13 HK HF HE HU HV HS
        go_wp2_with (go_at_call 13; refine (S13'.out _).mono ?_; rintro e w5 ⟨rfl, hB5⟩; have B5 : Hid (Below w.heap.size w w5) := BW.out.trans (hB5.mono BW.out.size); clear hB5)
        go_ret
        exact ⟨rfl, B5.out⟩
      | true =>
        have S13' : Hid (∀ W, Calls Try.prog 13 #[.int .i64 z, .string r] W fun e w' => e = .returned (.bool true) ∧ Below W.heap.size W w') := fun W => by have q := S13.out W; rw [hp] at q; exact q
        have V15' : Hid (∀ W, Calls Try.prog 15 #[.int .i64 z, .string r, .string (mu x)] W fun e w' => e = .returned (.tuple #[.string (nn x r), .int .i64 0]) ∧ Below W.heap.size W w') := fun W => V15.out hp W
        have HP : Hid (p r = true) := hp
        clear S13 V15 hp HK HF HE HU HV HS BW
        go_wp2_with (first
          | (go_at_call 13; refine (S13'.out _).mono ?_; rintro e w5 ⟨rfl, hB5⟩; have B5 : Hid (Below w3.heap.size w3 w5) := BB.out.trans (hB5.mono BB.out.size); have O5 : Hid _ := own9_below HO.out hB5; have d5 := cell_keep hc2 hB5; clear hB5 BB HO)
          | (go_at_call 14; refine (U14.out _).mono ?_; rintro e w6 ⟨rfl, hB6⟩; have B6 : Hid (Below w3.heap.size w3 w6) := B5.out.trans (hB6.mono B5.out.size); have O6 : Hid _ := own9_below O5.out hB6; have d6 := cell_keep d5 hB6; clear hB6 B5 O5)
          | (go_at_call 15; refine (V15'.out _).mono ?_; rintro e w7 ⟨rfl, hB7⟩; have B7 : Hid (Below w3.heap.size w3 (w7.alloc (.cells #[.string (nn x r)] 9))) := (B6.out.trans (hB7.mono B6.out.size)).alloc (B6.out.trans (hB7.mono B6.out.size)).size _; have O7 : Hid ((w7.alloc (.cells #[.string (nn x r)] 9)).ownsRow w3.heap.size 9 1 u12 i (((List.zipWith nn xs rs).take i).map Value.string)) := own9_below (own9_below O6.out hB7) (nB w7 _); have J7 : Hid (IHolds (w7.alloc (.cells #[.string (nn x r)] 9)) w7.heap.size 9 [.string (nn x r)]) := IHolds.new w7 9 [.string (nn x r)]; clear hB7 B6 O6)
          | (at_builtin; refine wpList_append_own _ rfl (.tmp 91) (.tmp 93) 22 rfl w3.heap.size 9 i0 (.string ⟨#[]⟩) 1 16 Try.under22 hi0 hz0 hz1 hz2 rfl (by decide) u12 i (((List.zipWith nn xs rs).take i).map Value.string) rfl O7.out ⟨w7.heap.size, 0, none⟩ 1 1 [.string (nn x r)] rfl rfl (news_of J7.out) (fun u hu => by simp at hu; subst hu; rfl) (by unfold maxLen; omega) (by omega) B7.out.size ?_; intro v2 w8 hown hgrow hn; have B8 : Hid (Below w3.heap.size w3 w8) := B7.out.grown hgrow B7.out.size (fun k hk => (O7.out.lt k hk).1); have O8 : Hid (w8.ownsRow w3.heap.size 9 1 v2 (i + 1) (((List.zipWith nn xs rs).take i).map Value.string ++ [Value.string (nn x r)])) := hown; clear hown hgrow hn))
        have HA2 : Hid ((rs.take (i + 1)).all p = true) := by show _ = _; rw [HT2.out, List.all_append, HA.out]; simp [HP.out]
        go_roundg (gk - 1)
        case measure => omega
        case rel => exact ⟨i + 1, by omega, by go_num, B8.out, HA2.out, by rw [HT.out, List.map_append]; exact O8.out⟩
    · have il : ¬ (i : Int) < (xs.length : Int) := by omega
      have e : i = xs.length := by omega
      have HA2 : rs.all p = true := by have h := HA.out; rw [e, ← H2.out, List.take_length] at h; exact h
      obtain ⟨a9, c9, hv9, hs9⟩ := own9_sl (qs := List.zipWith nn xs rs) (n := xs.length) H2'.out (by have h := HO.out; rw [e, ← H2'.out, List.take_length, H2'.out] at h; exact h)
      subst hv9
      have S9 : Hid (SL wr a9 (List.zipWith nn xs rs)) := hs9
      have R9 : Hid (SL wr aa rs) := HR.out.of_below BW.out
      have M9 : Hid (CM wr ac l) := M3.out.of_below BB.out
      have K9 : Hid _ := HK.out HA2
      have F9 : Hid _ := HF.out HA2
      clear e HA2 hs9 HA HO HK HF HU HV HS HX HR HXS
      go_wp2_with (first
        | (go_at_call 16; refine (K9.out _ _ _ _ _ M9.out R9.out).mono ?_; rintro e wa ⟨⟨a1, c1, rfl, hsa⟩, hBa⟩; have SA : Hid (SLL wa a1 L) := hsa; have MA : Hid (CM wa ac l) := M9.out.of_below hBa; have SB : Hid (SL wa a9 (List.zipWith nn xs rs)) := S9.out.of_below hBa; have BA : Hid (Below w.heap.size w wa) := BW.out.trans (hBa.mono BW.out.size); clear hsa hBa M9 S9 R9 K9)
        | (go_at_call 17; refine (F9.out _ _ _ _ _ MA.out SB.out).mono ?_; rintro e wb ⟨⟨a2, c2, rfl, hsb⟩, hBb⟩; have SD : Hid (SLL wb a2 L) := hsb; have SE : Hid (SLL wb a1 L) := SA.out.of_below hBb; have BD : Hid (Below w.heap.size w wb) := BA.out.trans (hBb.mono BA.out.size); clear hsb hBb MA SB BA SA F9)
        | (go_at_call 18; refine (HE.out _ _ _ _ _ SE.out SD.out).mono ?_; rintro e wc ⟨rfl, hBc⟩; have BC : Hid (Below w.heap.size w wc) := BD.out.trans (hBc.mono BD.out.size); clear hBc BD SE SD HE))
      go_ret
      exact ⟨rfl, BC.out⟩
end Go.Proofs.Ytokkjdelomkfiaa
