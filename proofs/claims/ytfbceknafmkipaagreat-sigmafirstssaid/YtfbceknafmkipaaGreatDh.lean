/- The law SigmaForks in every kind. -/
import Derived.Test.YtfbceknafmkipaaGreatDf
set_option linter.unusedSimpArgs false
set_option linter.unusedVariables false
set_option maxRecDepth 100000
namespace Go.Proofs.YtfbceknafmkipaaGreat
open Go.RowKit Go.Deep Go.PlainAid

theorem set18_all {l : List Cl} {z : Int} {p : ByteArray → Bool} (hl : l.length ≤ 9223372036854775807) (hll : ∀ i (h : i < l.length), (l[i]).1.length ≤ 9223372036854775807 ∧ (l[i]).2.length ≤ 9223372036854775807)
    (CN : ∀ s W, Calls Tryz.prog 113 #[.agg #[.int .i64 z], .string s] W fun e w' => e = .returned (.bool (!p s)) ∧ Below W.heap.size W w') :
    OkC p l ∨ ∃ k : Int, (k == 0) = false ∧ (k != 0) = true ∧ ∀ a c W, CM W a l → Calls Tryz.prog 31 #[.agg #[.int .i64 z], .slice a l.length c] W fun e w' => e = .returned (.tuple #[.agg #[.int .i64 0, .slice none 0 0], .int .i64 k]) ∧ Below W.heap.size W w' := by
  have H1 : ∀ a c X, CM X a l → ∀ W, Below X.heap.size X W → Calls Tryz.prog 61 #[.slice a l.length c, .func (.func 62) #[] #[]] W fun e w' => e = .returned (.bool (l.any tooL)) ∧ Below W.heap.size W w' := fun a c X hX W hB => contains37_38 tooL hl (hX.of_below hB) (fun i hi a1 c1 a2 c2 V hV h1 h2 => tooLong38)
  have H2 : ∀ a c X, CM X a l → ∀ W, Below X.heap.size X W → Calls Tryz.prog 61 #[.slice a l.length c, .func (.func 63) #[] #[]] W fun e w' => e = .returned (.bool (l.any unev)) ∧ Below W.heap.size W w' := fun a c X hX W hB => contains37_39 unev hl (hX.of_below hB) (fun i hi a1 c1 a2 c2 V hV h1 h2 => uneven39)
  have H3 : ∀ a c X, CM X a l → ∀ W, Below X.heap.size X W → Calls Tryz.prog 61 #[.slice a l.length c, .func (.func 64) #[.agg #[.int .i64 z]] #[]] W fun e w' => e = .returned (.bool (l.any (stra p))) ∧ Below W.heap.size W w' := fun a c X hX W hB => contains37_40 (stra p) hl (hX.of_below hB) (fun i hi a1 c1 a2 c2 V hV h1 h2 => strange40 (hll i hi).1 (hll i hi).2 h1 h2 CN)
  by_cases h64 : 64 < l.length
  · exact Or.inr ⟨3, rfl, rfl, fun a c W hB => set18_A (by omega)⟩
  cases t1 : l.any tooL with
  | true => rw [t1] at H1; exact Or.inr ⟨3, rfl, rfl, fun a c W hB => set18_B (by omega) (H1 a c W hB)⟩
  | false =>
    rw [t1] at H1
    by_cases h0 : l.length = 0
    · exact Or.inr ⟨2, rfl, rfl, fun a c W hB => set18_C (by omega) (by rw [h0]; rfl) (H1 a c W hB)⟩
    have g2 : ((l.length : Int) == 0) = false := beq_eq_false_iff_ne.2 (by omega)
    cases t2 : l.any unev with
    | true => rw [t2] at H2; exact Or.inr ⟨2, rfl, rfl, fun a c W hB => set18_D (by omega) g2 (H1 a c W hB) (H2 a c W hB)⟩
    | false =>
      rw [t2] at H2
      cases t3 : l.any (stra p) with
      | true => rw [t3] at H3; exact Or.inr ⟨7, rfl, rfl, fun a c W hB => set18_E (by omega) g2 (H1 a c W hB) (H2 a c W hB) (H3 a c W hB)⟩
      | false =>
        refine Or.inl ⟨by omega, by omega, fun i hi => ?_, fun i hi => ?_⟩
        · have a1 := List.any_eq_false.1 t1 l[i] (List.getElem_mem hi)
          have a2 := List.any_eq_false.1 t2 l[i] (List.getElem_mem hi)
          unfold tooL at a1
          unfold unev at a2
          simp only [Bool.or_eq_true, decide_eq_true_eq, not_or] at a1 a2
          omega
        · have a3 := List.any_eq_false.1 t3 l[i] (List.getElem_mem hi)
          unfold stra at a3
          generalize (l[i]).1.all p = x at *
          generalize (l[i]).2.all p = y at *
          revert a3
          cases x <;> cases y <;> decide
section
variable {z : Int} {G : Array Value} {S Wd M low one sq Ri Wd2 M2 low2 one2 sq2 Ri2 : Nat}
/-- Back of anything. -/
theorem BACK (k : KD z G S Wd M low one sq Ri Wd2 M2 low2 one2 sq2 Ri2) (h : PK S M M2) {l : List Cl} {m : List ByteArray} {u : ByteArray} (hl : l.length ≤ 9223372036854775807) (hll : ∀ i (h : i < l.length), (l[i]).1.length ≤ 9223372036854775807 ∧ (l[i]).2.length ≤ 9223372036854775807) :
    ∃ (p : Int) (L : List (List ByteArray)), (p = 0 → OkC (isEl S M) l ∧ m.length = l.length ∧ m.all (isSc S M) = true ∧ isSc S M u = true ∧ L = bkG S M M2 ((0 + M - numS u) % M) l m) ∧
      ∀ a c a' c' W, CM W a l → SL W a' m → Calls Tryz.prog 10 #[.int .i64 z, .slice a l.length c, .string u, .slice a' m.length c'] W fun e w' => (∃ a9 c9 n9, e = .returned (.tuple #[.slice a9 n9 c9, .int .i64 p]) ∧ (p = 0 → n9 = l.length ∧ SLL w' a9 L)) ∧ Below W.heap.size W w' := by
  have fail : ∀ (q : Int), (q == 0) = false → (∀ a c a' c' W, CM W a l → SL W a' m → Calls Tryz.prog 10 #[.int .i64 z, .slice a l.length c, .string u, .slice a' m.length c'] W fun e w' => e = .returned (.tuple #[.slice none 0 0, .int .i64 q]) ∧ Below W.heap.size W w') → ∃ (p : Int) (L : List (List ByteArray)), (p = 0 → OkC (isEl S M) l ∧ m.length = l.length ∧ m.all (isSc S M) = true ∧ isSc S M u = true ∧ L = bkG S M M2 ((0 + M - numS u) % M) l m) ∧
      ∀ a c a' c' W, CM W a l → SL W a' m → Calls Tryz.prog 10 #[.int .i64 z, .slice a l.length c, .string u, .slice a' m.length c'] W fun e w' => (∃ a9 c9 n9, e = .returned (.tuple #[.slice a9 n9 c9, .int .i64 p]) ∧ (p = 0 → n9 = l.length ∧ SLL w' a9 L)) ∧ Below W.heap.size W w' := fun q hq H => by
    have q0 : q ≠ 0 := by simpa using hq
    exact ⟨q, [], fun h0 => absurd h0 q0, fun a c a' c' W h1 h2 => (H a c a' c' W h1 h2).mono (by rintro e w' ⟨rfl, hB⟩; exact ⟨⟨none, 0, 0, rfl, fun h0 => absurd h0 q0⟩, hB⟩)⟩
  rcases set18_all (z := z) (p := isEl S M) hl hll (fun s X => noElem133 (fun Y => memb_call k Y s)) with ok | ⟨q, q1, q2, H⟩
  · by_cases hm : m.length = l.length
    · rcases Bool.eq_false_or_eq_true (m.all (isSc S M)) with hsc | hsc
      · rcases Bool.eq_false_or_eq_true (isSc S M u) with hu | hu
        · refine ⟨0, bkG S M M2 ((0 + M - numS u) % M) l m, fun _ => ⟨ok, hm, hsc, hu, rfl⟩, fun a c a' c' W h1 h2 => ?_⟩
          have q := BCKG k h ok (isSc_lt hu) (c := c) (d := c') h1 h2 hm hsc
          rw [TX_numS (isSc_size hu)] at q
          rw [hm]
          exact q.mono (by rintro e w' ⟨⟨a9, c9, rfl, hs⟩, hB⟩; exact ⟨⟨a9, c9, _, rfl, fun _ => ⟨rfl, hs⟩⟩, hB⟩)
        · exact fail 6 rfl (fun a c a' c' W h1 h2 => by rw [hm]; exact back16_c (fun V hV => SETG k ok h1 V hV) (fun V hV => WRO k hm ok.most h2 hsc V hV) (fun V => by have q := noScalar k u V; rw [hu] at q; exact q))
      · exact fail 6 rfl (fun a c a' c' W h1 h2 => by rw [hm]; exact back16_a (fun V hV => SETG k ok h1 V hV) (fun V hV => WRO k hm ok.most h2 hsc V hV))
    · exact fail 2 rfl (fun a c a' c' W h1 h2 => back4_len rfl rfl (fun V hV => SETG k ok h1 V hV) (fun V hV => wrong10_len (bne_iff_ne.2 (by omega))))
  · exact fail q q1 (fun a c a' c' W h1 h2 => back4_bad q1 q2 (fun V hV => setOf9_bad (fun X => groundOf_yes k X) (fun X hX => H a c X ((h1.of_below hV).of_below hX))))
end
end Go.Proofs.YtfbceknafmkipaaGreat
