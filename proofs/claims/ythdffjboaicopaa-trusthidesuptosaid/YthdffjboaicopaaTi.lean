/- Through of every kind. -/
import Derived.Test.YthdffjboaicopaaTh
set_option linter.unusedSimpArgs false
set_option linter.unusedVariables false
set_option maxRecDepth 100000
namespace Go.Proofs.Ythdffjboaicopaa
open Go.RowKit Go.Deep Go.PlainAid
open Lg

section
variable {z : Int} {G : Array Value} {S Wd M low one sq Ri Wd2 M2 low2 one2 sq2 Ri2 : Nat}
theorem scal_call (k : KD z G S Wd M low one sq Ri Wd2 M2 low2 one2 sq2 Ri2) (w : World) (s : ByteArray) : Calls Try.prog 22 #[.int .i64 z, .string s] w fun e w' => e = .returned (.bool (isSc S M s)) ∧ Below w.heap.size w w' :=
  scalar_face (c := if isSc S M s then 0 else 6) (by cases isSc S M s <;> rfl) (fun W cp hc => on57_58 hc k.hG k.hi k.h1 k.CG (fun W g hI hc => clos58 hc (fun W' hb => scalarA ((k.gh W g hI).of_below hb) s k.hS k.big)))
theorem num_call (k : KD z G S Wd M low one sq Ri Wd2 M2 low2 one2 sq2 Ri2) (w : World) (n : Int) (n1 : -9223372036854775808 ≤ n) (n2 : n ≤ 9223372036854775807) : Calls Try.prog 23 #[.int .i64 z, .int .i64 n] w fun e w' => e = .returned (.tuple #[.string (TX S (numF M n)), .int .i64 0]) ∧ Below w.heap.size w w' :=
  number_face (fun W cp hc => on48_52 hc k.hG k.hi k.h1 k.CG (fun W g hI hc => clos52 hc (fun W' hb => fnumberA ((k.gh W g hI).of_below hb).fs k.fl n n1 n2) (fun W' hb => toldA ((k.gh W g hI).of_below hb).c k.hS (Nat.lt_trans (numF_lt k.m2) k.big))))
theorem size_call (k : KD z G S Wd M low one sq Ri Wd2 M2 low2 one2 sq2 Ri2) (w : World) : Calls Try.prog 18 #[.int .i64 z] w fun e w' => e = .returned (.tuple #[.int .i64 (S : Int), .int .i64 (S : Int), .int .i64 0]) ∧ Below w.heap.size w w' :=
  sizes_call (on46_ok k.hG k.hi k.h1 k.CG (fun W g h => sizes_any (k.gh W g h).c))
theorem GRO (k : KD z G S Wd M low one sq Ri Wd2 M2 low2 one2 sq2 Ri2) (W : World) : Calls Try.prog 9 #[.int .i64 z] W fun e w' => e = .returned (.tuple #[.agg #[.int .i64 z], .int .i64 0]) ∧ Below W.heap.size W w' := groundOf9 (fun V => size_call k V)
theorem NUM (k : KD z G S Wd M low one sq Ri Wd2 M2 low2 one2 sq2 Ri2) {n : Int} (n1 : -255 ≤ n) (n2 : n ≤ 255) (W : World) : Calls Try.prog 14 #[.agg #[.int .i64 z], .int .i64 n] W fun e w' => e = .returned (.string (nu S M n)) ∧ Below W.heap.size W w' := number14 (fun V => num_call k V n (by omega) (by omega))
theorem TIM (k : KD z G S Wd M low one sq Ri Wd2 M2 low2 one2 sq2 Ri2) {s t : ByteArray} (h : isSc S M s = true) (h' : isSc S M t = true) (W : World) : Calls Try.prog 17 #[.agg #[.int .i64 z], .string s, .string t] W fun e w' => e = .returned (.string (tm S M s t)) ∧ Below W.heap.size W w' := times17 (fun V => mul_yes k V h h')
theorem PLU (k : KD z G S Wd M low one sq Ri Wd2 M2 low2 one2 sq2 Ri2) {s t : ByteArray} (h : isSc S M s = true) (h' : isSc S M t = true) (W : World) : Calls Try.prog 16 #[.agg #[.int .i64 z], .string s, .string t] W fun e w' => e = .returned (.string (pl S M s t)) ∧ Below W.heap.size W w' := plus16 (fun V => add_yes k V h h')
theorem OVE (k : KD z G S Wd M low one sq Ri Wd2 M2 low2 one2 sq2 Ri2) {s t : ByteArray} (h : isSc S M s = true) (h' : isSc S M t = true) (h0 : numS t ≠ 0) (W : World) : Calls Try.prog 37 #[.agg #[.int .i64 z], .string s, .string t] W fun e w' => e = .returned (.string (tm S M s (iv S M t))) ∧ Below W.heap.size W w' := over37 (fun V => inv_yes k V h' h0) (fun V => TIM k h (iv_sc k.sz k.m2 t) V)
theorem NSC (k : KD z G S Wd M low one sq Ri Wd2 M2 low2 one2 sq2 Ri2) (s : ByteArray) (W : World) : Calls Try.prog 13 #[.agg #[.int .i64 z], .string s] W fun e w' => e = .returned (.bool (!isSc S M s)) ∧ Below W.heap.size W w' := noScalar13 (fun V => scal_call k V s)
theorem WEI (k : KD z G S Wd M low one sq Ri Wd2 M2 low2 one2 sq2 Ri2) (hM : 641 ≤ M) (hq : IsP M) {W : World} {a : Option Addr} {c : Nat} {P : List Int} {here x : Int} (hn : P.length ≤ 16) (hP : ∀ y ∈ P, 0 ≤ y ∧ y ≤ 255) (hh : here ∈ P) (hx : 0 ≤ x ∧ x ≤ 255) (hs : IL W a P) : Calls Try.prog 24 #[.agg #[.int .i64 z, .slice a P.length c], .int .i64 here, .int .i64 x] W fun e w' => e = .returned (.string (wt S M P here x)) ∧ Below W.heap.size W w' := by
  refine weight24 (nu := nu S M) (tm := tm S M) (p := fun s => isSc S M s = true) hn hP (hP here hh) hx hs (nu_sc k.sz k.m2) (fun s t _ _ => tm_sc k.sz k.m2 s t) (fun n h1 h2 V => NUM k h1 h2 V) (fun s t h h' V => TIM k h h' V) (fun V => OVE k (cg_fo k.sz k.m2 here x P).1 (cg_fo k.sz k.m2 here here P).1 ?_ V)
  intro h0
  have h1 := (cg_fo k.sz k.m2 here here P).2
  rw [h0] at h1
  have h2 : (M : Int) ∣ prodL here (oth P here) := by
    have := Int.dvd_neg.2 h1
    have e : -(((0 : Nat) : Int) - prodL here (oth P here)) = prodL here (oth P here) := by omega
    rwa [e] at this
  refine prod_not (prI hq) (n1 hM) _ (fun y hy => ?_) h2
  have h3 := oth_mem.1 hy
  have h4 := hP y h3.1
  have h5 := hP here hh
  have h6 := h3.2
  exact ndvd hM (by omega) (by omega) (by omega)
theorem CT_kind (k : KD z G S Wd M low one sq Ri Wd2 M2 low2 one2 sq2 Ri2) (hM : 641 ≤ M) (hq : IsP M) (P : List Int) (L : List ByteArray) (x : Int) (a b : Option Addr) (c d : Nat) (W : World) (ia : IL W a P) (ib : SL W b L) (hP : P.length ≤ 2097152) (hL : L.length ≤ 2097152) (hc : P.length ≤ c) (hc9 : c ≤ 9223372036854775807) :
    Calls Try.prog 4 #[.int .i64 z, .slice a P.length c, .slice b L.length d, .int .i64 x] W fun e w' => e = .returned (.tuple #[.string (FF S M P L x), .int .i64 (KK S M P L x)]) ∧ Below W.heap.size W w' := by
  have bad : ∀ q : Int, KK S M P L x = q → q ≠ 0 → FF S M P L x = ⟨#[]⟩ := fun q h h0 => by unfold FF; rw [h, if_neg h0]
  have CG : ∀ W, Calls Try.prog 9 #[.int .i64 z] W fun e w' => e = .returned (.tuple #[.agg #[.int .i64 z], .int .i64 0]) ∧ Below W.heap.size W w' := fun W => GRO k W
  by_cases h1 : 16 < P.length
  · have hK : KK S M P L x = 3 := by unfold KK; rw [if_pos h1]
    rw [bad 3 hK (by decide), hK]
    exact thr_places (fun V hb => places_long CG (by omega)) rfl rfl
  by_cases h2 : P.length = 0
  · have hK : KK S M P L x = 2 := by unfold KK; rw [if_neg h1, if_pos h2]
    rw [bad 2 hK (by decide), hK]
    exact thr_places (fun V hb => places_nil CG (by omega) (by rw [h2]; rfl)) rfl rfl
  have h1' : ¬ (16 : Int) < (P.length : Int) := by omega
  have h2' : ((P.length : Int) == 0) = false := beq_eq_false_iff_ne.2 (by omega)
  have C10 : ∀ V, Below W.heap.size W V → ∀ V2, Below V.heap.size V V2 → Calls Try.prog 10 #[.slice a P.length c, .func (.func 7) #[] #[]] V2 fun e w' => e = .returned (.bool (P.any nop)) ∧ Below V2.heap.size V2 w' := fun V hb V2 hb2 => contains10 (z := 0) nop (by omega) ((ia.of_below hb).of_below hb2) (fun s V => noPlace7 s)
  by_cases h3 : P.any nop = true
  · have hK : KK S M P L x = 4 := by unfold KK; rw [if_neg h1, if_neg h2, if_pos h3]
    rw [bad 4 hK (by decide), hK]
    rw [h3] at C10
    exact thr_places (fun V hb => places_range CG h1' h2' (C10 V hb)) rfl rfl
  have C11 : ∀ V, Below W.heap.size W V → ∀ V2, Below V.heap.size V V2 → Calls Try.prog 11 #[.slice a P.length c] V2 fun e w' => e = .returned (.bool (twi P P.length)) ∧ Below V2.heap.size V2 w' := fun V hb V2 hb2 => (twice11 (by omega) hc hc9 ((ia.of_below hb).of_below hb2)).mono (by rintro e w' ⟨h, rfl⟩; exact ⟨h, Below.refl _ _⟩)
  have h3' : P.any nop = false := Bool.eq_false_iff.2 h3
  have C10' := C10
  rw [h3'] at C10'
  by_cases h4 : twi P P.length = true
  · have hK : KK S M P L x = 10 := by unfold KK; rw [if_neg h1, if_neg h2, if_neg h3, if_pos h4]
    rw [bad 10 hK (by decide), hK]
    rw [h4] at C11
    exact thr_places (fun V hb => places_twice CG h1' h2' (C10' V hb) (C11 V hb)) rfl rfl
  have h4' : twi P P.length = false := Bool.eq_false_iff.2 h4
  rw [h4'] at C11
  have C5 : ∀ V, Below W.heap.size W V → Calls Try.prog 5 #[.int .i64 z, .slice a P.length c] V fun e w' => e = .returned (.tuple #[.agg #[.int .i64 z, .slice a P.length c], .int .i64 0]) ∧ Below V.heap.size V w' := fun V hb => places_ok CG h1' h2' (C10' V hb) (C11 V hb)
  by_cases h5 : L.length ≠ P.length
  · have hK : KK S M P L x = 2 := by unfold KK; rw [if_neg h1, if_neg h2, if_neg h3, if_neg h4, if_pos h5]
    rw [bad 2 hK (by decide), hK]
    exact thr_wrong C5 (fun V hb => wrong6_len (bne_iff_ne.2 (by omega))) rfl rfl
  have hl : L.length = P.length := Decidable.not_not.1 h5
  have C6 : ∀ V, Below W.heap.size W V → Calls Try.prog 6 #[.agg #[.int .i64 z, .slice a P.length c], .slice b L.length d] V fun e w' => e = .returned (.int .i64 (if L.any (fun s => !isSc S M s) then 6 else 0)) ∧ Below V.heap.size V w' := fun V hb => by
    rw [hl]
    refine wrong6 (fun V2 hb2 => ?_)
    rw [← hl]
    exact contains12 (fun s => !isSc S M s) (by omega) ((ib.of_below hb).of_below hb2) (fun s V => NSC k s V)
  by_cases h6 : L.any (fun s => !isSc S M s) = true
  · have hK : KK S M P L x = 6 := by unfold KK; rw [if_neg h1, if_neg h2, if_neg h3, if_neg h4, if_neg h5, if_pos h6]
    rw [bad 6 hK (by decide), hK]
    rw [h6] at C6
    exact thr_wrong C5 C6 rfl rfl
  have h6' : L.any (fun s => !isSc S M s) = false := Bool.eq_false_iff.2 h6
  rw [h6'] at C6
  have C7 : ∀ V, Calls Try.prog 7 #[.int .i64 x] V fun e w' => e = .returned (.bool (nop x)) ∧ Below V.heap.size V w' := fun V => noPlace7 x
  by_cases h7 : nop x = true
  · have hK : KK S M P L x = 4 := by unfold KK; rw [if_neg h1, if_neg h2, if_neg h3, if_neg h4, if_neg h5, if_neg h6, if_pos h7]
    rw [bad 4 hK (by decide), hK]
    rw [h7] at C7
    exact thr_range C5 C6 C7
  have h7' : nop x = false := Bool.eq_false_iff.2 h7
  rw [h7'] at C7
  have g : Gd S M P L x := ⟨h1, h2, h3, h4, h5, h6, h7⟩
  rw [g.ff, g.kk]
  refine thr_ok C5 C6 C7 (fun V hb => ?_)
  rw [hl]
  refine through8 (ws := P.map fun here => wt S M P here x) (vs := L) (pl := pl S M) (tm := tm S M) (z0 := nu S M 0) (by omega) (by simp) hl (ib.of_below hb) (fun V => NUM k (by decide) (by decide) V) (fun V2 hb2 => ?_) (fun i h h' V => TIM k ?_ ?_ V) (fun i h h' V => PLU k (su_sc k.sz k.m2 _ _) (tm_sc k.sz k.m2 _ _) V)
  · refine weights15 (by omega) (by simp) ((ia.of_below hb).of_below hb2) (fun i h h' V3 hb3 => ?_)
    rw [List.getElem_map]
    exact WEI k hM hq (by omega) g.inr (List.getElem_mem h) (nop_in h7') (((ia.of_below hb).of_below hb2).of_below hb3)
  · rw [List.getElem_map]
    exact (cg_wt k.sz k.m2 _ x P).1
  · exact List.all_eq_true.1 g.all _ (List.getElem_mem h')
end
theorem CT_none {z : Int} (z1 : ¬ z = 1) (z2 : ¬ z = 2) (z3 : ¬ z = 3) (P : List Int) (L : List ByteArray) (x : Int) (a b : Option Addr) (c d : Nat) (W : World) :
    Calls Try.prog 4 #[.int .i64 z, .slice a P.length c, .slice b L.length d, .int .i64 x] W fun e w' => e = .returned (.tuple #[.string ⟨#[]⟩, .int .i64 1]) ∧ Below W.heap.size W w' := by
  have G := fun W => ground0 W z (beq_eq_false_iff_ne.2 z1) (beq_eq_false_iff_ne.2 z2) (beq_eq_false_iff_ne.2 z3)
  exact thr_places (fun V hb => places_none (fun V => groundOf9 (fun V => sizes_call (on46_no 28 rfl size70 (by kernel_rfl) G)))) rfl rfl
theorem wants_none (A O : List Int) (V : List ByteArray) (s : ByteArray) : Wants (fun _ _ _ => ⟨#[]⟩) (fun _ _ _ => 1) A O V s where
  codes := fun x => by simp
  few := fun h => absurd h (by decide)
  many := fun h hO => absurd (h 0 (by omega)) (by decide)
/-- THE LAW. -/
theorem trustHides_walk {w : World} (z : Int) {aa av ao : Option Addr} {ca cv co : Nat} {A O : List Int} {V : List ByteArray} {s : ByteArray} (hA : A.length ≤ 1048576) (hV : V.length ≤ 1048576) (hO : O.length ≤ 1048576) (hna : aa = none → A.length = 0 ∧ ca = 0) (hnv : av = none → V.length = 0 ∧ cv = 0) (hoc : O.length ≤ co) (hoc9 : co ≤ 9223372036854775807) (ia : IL w aa A) (iv : SL w av V) (io : IL w ao O) :
    Calls Try.prog 3 #[.int .i64 z, .slice aa A.length ca, .slice av V.length cv, .string s, .slice ao O.length co] w fun e w' => e = .returned (.bool true) ∧ Below w.heap.size w w' := by
  by_cases z1 : z = 1
  · subst z1
    exact law_walk hA hV hO hna hnv hoc hoc9 ia iv io (wants kd1.sz (by decide) prime_q1 A O V s) (CT_kind kd1 (by decide) prime_q1)
  by_cases z2 : z = 2
  · subst z2
    exact law_walk hA hV hO hna hnv hoc hoc9 ia iv io (wants kd2.sz (by decide) prime_q2 A O V s) (CT_kind kd2 (by decide) prime_q2)
  by_cases z3 : z = 3
  · subst z3
    exact law_walk hA hV hO hna hnv hoc hoc9 ia iv io (wants kd3.sz (by decide) prime_q3 A O V s) (CT_kind kd3 (by decide) prime_q3)
  exact law_walk hA hV hO hna hnv hoc hoc9 ia iv io (wants_none A O V s) (fun P L x a b c d W _ _ _ _ _ _ => CT_none z1 z2 z3 P L x a b c d W)
end Go.Proofs.Ythdffjboaicopaa
