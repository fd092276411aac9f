/- The law SigmaOnce, of every kind. -/
import Derived.Test.YtokkjdelomkfiaaCl
set_option linter.unusedSimpArgs false
set_option linter.unusedVariables false
set_option maxRecDepth 100000
namespace Go.Proofs.Ytokkjdelomkfiaa
open Go.RowKit Go.Deep Go.PlainAid

section
variable {z : Int} {G : Array Value} {S Wd M low one sq Ri Wd2 M2 low2 one2 sq2 Ri2 : Nat}
theorem EX_low {S M M2 A : Nat} (h : PK S M M2) (hA : A ≤ M) : EX S M M2 A = TX S A := by
  have := h.e2
  unfold EX E
  rw [Nat.mod_eq_of_lt (by omega), sgn_low hA]
theorem el_EX {S M M2 : Nat} {s : ByteArray} (h : PK S M M2) (hs : isEl S M s = true) : ∃ A, ¬ M2 ∣ A ∧ s = EX S M M2 A ∧ E M M2 A = A := by
  obtain ⟨A, A0, A9, rfl⟩ := as_EX hs
  have e2 := h.e2
  refine ⟨A, h.hp.not_dvd_lt (by omega) (by omega), (EX_low h A9).symm, ?_⟩
  unfold E
  rw [Nat.mod_eq_of_lt (by omega), sgn_low A9]
/-- Powers of the base and of the other one. -/
def pf (S M M2 A : Nat) (s : ByteArray) : ByteArray := EX S M M2 (A ^ numS s)
theorem pow_ok (k : KD z G S Wd M low one sq Ri Wd2 M2 low2 one2 sq2 Ri2) (h : PK S M M2) {A : Nat} (hA : ¬ M2 ∣ A) {x : ByteArray} (hx : isSc S M x = true) (W : World) :
    Calls Try.prog 20 #[.int .i64 z, .string (EX S M M2 A), .string x] W fun e w' => e = .returned (.tuple #[.string (pf S M M2 A x), .int .i64 0]) ∧ Below W.heap.size W w' := by
  have q := POW k h (x := A) (t := numS x) hA (isSc_lt hx) W
  rw [← isSc_TX' hx] at q
  exact q
theorem MADE (k : KD z G S Wd M low one sq Ri Wd2 M2 low2 one2 sq2 Ri2) (h : PK S M M2) {A : Nat} (hA : ¬ M2 ∣ A) {l : List ByteArray} (hl : l.length ≤ 1048576) {w : World} {a : Option Addr} {c : Nat} (hs : SL w a l) :
    Calls Try.prog 12 #[.int .i64 z, .string (EX S M M2 A), .slice a l.length c] w fun e w' => Made (isSc S M) (pf S M M2 2) (pf S M M2 A) (EX S M M2 2) (EX S M M2 A) l w.heap.size e w' ∧ Below w.heap.size w w' :=
  made12 hl hs (fun W => BAS k h W) (fun W => MEM k (elE k h hA) W) (fun x hx W => ⟨pow_ok k h h.n2 hx W, pow_ok k h hA hx W⟩) (fun x hx W => ⟨power_nay2 k W (elE k h h.n2) hx, power_nay2 k W (elE k h hA) hx⟩)
theorem made_yes (k : KD z G S Wd M low one sq Ri Wd2 M2 low2 one2 sq2 Ri2) (h : PK S M M2) {A : Nat} (hA : ¬ M2 ∣ A) {x : ByteArray} (hx : isSc S M x = true) (W : World) (b : Nat) (hI : IHolds W b 9 [.string x]) :
    Calls Try.prog 12 #[.int .i64 z, .string (EX S M M2 A), .slice (some ⟨b, 0, none⟩) 1 1] W fun e w' => (∃ r p q c, e = .returned (.slice (some ⟨r, 0, none⟩) 1 c) ∧ One w' r p q (EX S M M2 2) (EX S M M2 A) (pf S M M2 2 x) (pf S M M2 A x) ∧ W.heap.size ≤ q) ∧ Below W.heap.size W w' := by
  refine (MADE k h hA (l := [x]) (c := 1) (by simp) (IHolds.sl (q := [x]) hI)).mono ?_
  rintro e w' ⟨⟨_, v, B, rfl, hm⟩ | ⟨hf, _⟩, hB⟩
  · obtain ⟨r, p, q, c, rfl, h1, h2⟩ := hm.one
    exact ⟨⟨r, p, q, c, rfl, h1, h2⟩, hB⟩
  · simp [hx] at hf
theorem made_nay (k : KD z G S Wd M low one sq Ri Wd2 M2 low2 one2 sq2 Ri2) (h : PK S M M2) {A : Nat} (hA : ¬ M2 ∣ A) {x : ByteArray} (hx : isSc S M x = false) (W : World) (b : Nat) (hI : IHolds W b 9 [.string x]) :
    Calls Try.prog 12 #[.int .i64 z, .string (EX S M M2 A), .slice (some ⟨b, 0, none⟩) 1 1] W fun e w' => e = .returned (.slice none 0 0) ∧ Below W.heap.size W w' := by
  refine (MADE k h hA (l := [x]) (c := 1) (by simp) (IHolds.sl (q := [x]) hI)).mono ?_
  rintro e w' ⟨⟨hf, _⟩ | ⟨_, rfl⟩, hB⟩
  · simp [hx] at hf
  · exact ⟨rfl, hB⟩
/-- The claim that is false. -/
theorem okU1 (h : PK S M M2) {A : Nat} (hA : ¬ M2 ∣ A) (a b : Nat) : OkU M2 A [(2 ^ a, A ^ b)] :=
  ⟨by simp, by simp, hA, fun i hi => by
    match i, hi with
    | 0, _ => exact ⟨h.np h.n2 a, h.np hA b⟩⟩
theorem back_yes (k : KD z G S Wd M low one sq Ri Wd2 M2 low2 one2 sq2 Ri2) (h : PK S M M2) {A ch : Nat} (hA : ¬ M2 ∣ A) (x y : ByteArray) (hch : ch < M) {w : World} {b : Option Addr} {d : Nat} {s : ByteArray} (hm : SL w b [s]) (hsc : isSc S M s = true) (W : World) (a' : Option Addr) (c' : Nat) (hB : Below w.heap.size w W) (hs : CM W a' [([EX S M M2 2, EX S M M2 A], [pf S M M2 2 x, pf S M M2 A y])]) :
    Calls Try.prog 16 #[.int .i64 z, .slice a' 1 c', .string (TX S ch), .slice b 1 d] W fun e w' => (∃ a' c', e = .returned (.tuple #[.slice a' 1 c', .int .i64 0]) ∧ SLL w' a' [[EX S M M2 (2 ^ numS s * (2 ^ numS x) ^ ((0 + M - ch) % M)), EX S M M2 (A ^ numS s * (A ^ numS y) ^ ((0 + M - ch) % M))]]) ∧ Below W.heap.size W w' :=
  BCK k h (okU1 h hA (numS x) (numS y)) hch (w := W) (a := a') (c := c') (d := d) (m := [s]) hs (hm.of_below hB) rfl (by simp [hsc])
theorem back_nay (k : KD z G S Wd M low one sq Ri Wd2 M2 low2 one2 sq2 Ri2) (h : PK S M M2) {A : Nat} (hA : ¬ M2 ∣ A) (x y : ByteArray) {ch : ByteArray} {w : World} {b : Option Addr} {d : Nat} {s : ByteArray} (hm : SL w b [s]) (hbad : isSc S M s = false ∨ isSc S M ch = false) (W : World) (a' : Option Addr) (c' : Nat) (hB : Below w.heap.size w W) (hs : CM W a' [([EX S M M2 2, EX S M M2 A], [pf S M M2 2 x, pf S M M2 A y])]) :
    Calls Try.prog 16 #[.int .i64 z, .slice a' 1 c', .string ch, .slice b 1 d] W fun e w' => e = .returned (.tuple #[.slice none 0 0, .int .i64 6]) ∧ Below W.heap.size W w' := by
  cases hsc : isSc S M s with
  | false => exact back16_a (SET k h (okU1 h hA (numS x) (numS y)) hs) (fun V hV => WRO k (m := [s]) rfl (by simp) (hm.of_below hB) (t := false) (by simp [hsc]) V hV)
  | true =>
    have hc : isSc S M ch = false := by rcases hbad with g | g
                                        · rw [hsc] at g; cases g
                                        · exact g
    exact back16_c (SET k h (okU1 h hA (numS x) (numS y)) hs) (fun V hV => WRO k (m := [s]) rfl (by simp) (hm.of_below hB) (t := true) (by simp [hsc]) V hV) (fun V => by have q := noScalar k ch V; rw [hc] at q; exact q)
theorem back_any (k : KD z G S Wd M low one sq Ri Wd2 M2 low2 one2 sq2 Ri2) (h : PK S M M2) {A : Nat} (hA : ¬ M2 ∣ A) (x y : ByteArray) {ch : ByteArray} {w : World} {b : Option Addr} {d : Nat} {s : ByteArray} (hm : SL w b [s]) (W : World) (a' : Option Addr) (c' : Nat) (hB : Below w.heap.size w W) (hs : CM W a' [([EX S M M2 2, EX S M M2 A], [pf S M M2 2 x, pf S M M2 A y])]) :
    Calls Try.prog 16 #[.int .i64 z, .slice a' 1 c', .string ch, .slice b 1 d] W fun e w' => (∃ r k, e = .returned (.tuple #[r, .int .i64 k])) ∧ Below W.heap.size W w' := by
  by_cases hg : isSc S M s = true ∧ isSc S M ch = true
  · obtain ⟨h1, h2⟩ := hg
    obtain ⟨c, c9, rfl⟩ := as_TX h2
    exact (back_yes k h hA x y c9 hm h1 W a' c' hB hs).mono fun e w' ⟨⟨_, _, he, _⟩, hb⟩ => ⟨⟨_, _, he⟩, hb⟩
  · refine (back_nay k h hA x y hm ?_ W a' c' hB hs).mono fun e w' ⟨he, hb⟩ => ⟨⟨_, _, he⟩, hb⟩
    cases g1 : isSc S M s
    · exact Or.inl rfl
    · cases g2 : isSc S M ch
      · exact Or.inr rfl
      · exact absurd ⟨g1, g2⟩ hg
theorem beq_ne {a b : ByteArray} (h : a ≠ b) : (a.toList == b.toList) = false := toList_ne h
theorem once_kind (k : KD z G S Wd M low one sq Ri Wd2 M2 low2 one2 sq2 Ri2) (h : PK S M M2) (w : World) (ot x y ca cb : ByteArray) {aa ab : Option Addr} {pa pb : Nat} {la lb : List ByteArray} (ha : SL w aa la) (hb : SL w ab lb) :
    Calls Try.prog 5 #[.int .i64 z, .string ot, .string x, .string y, .agg #[.string ca, .slice aa la.length pa], .agg #[.string cb, .slice ab lb.length pb]] w fun e w' => e = .returned (.bool true) ∧ Below w.heap.size w w' := by
  have m1 := h.m1
  have hS : 0 < S := Nat.pos_of_ne_zero fun e => by have := h.hs; rw [e] at this; simp at this; omega
  cases hot : isEl S M ot with
  | false => exact once_p alive_any (fun V => zero_call k V) (fun V => power_nay k V hot)
  | true =>
    obtain ⟨A, nA, rfl, eA⟩ := el_EX h hot
    have cP := fun V => POW k h (x := A) (t := 0) nA (by omega) V
    have z1 : (TX S 0).size = S := size_TX S 0
    have z2 : (EX S M M2 (A ^ 0)).size = S := size_TX S _
    by_cases ho : EX S M M2 A = EX S M M2 (A ^ 0)
    · exact once_o alive_any (fun V => zero_call k V) cP (congrArg ByteArray.toList ho) (by rw [z1]; exact hS) (by rw [z1, z2])
    have ho' : ¬ (EX S M M2 A).toList = (EX S M M2 (A ^ 0)).toList := fun q => ho ((toList_iff _ _).1 q)
    by_cases hxy : x = y
    · exact once_x alive_any (fun V => zero_call k V) cP ho' (congrArg ByteArray.toList hxy) (by rw [z1]; exact hS) (by rw [z1, z2])
    have b1 := beq_ne ho
    have b2 := beq_ne hxy
    have hA1 : E M M2 A ≠ 1 := fun q => ho (by unfold EX; rw [q, Nat.pow_zero, E_one h.hq h.e2])
    cases hx : isSc S M x with
    | false =>
      cases hy : isSc S M y with
      | false => exact once_mxx (f := id) (g := id) (bs := ⟨#[]⟩) alive_any (fun V => zero_call k V) cP b1 b2 (made_nay k h nA hx) (made_nay k h nA hy)
      | true => exact once_mxy alive_any (fun V => zero_call k V) cP b1 b2 (made_nay k h nA hx) (made_yes k h nA hy)
    | true =>
      cases hy : isSc S M y with
      | false => exact once_my alive_any (fun V => zero_call k V) cP b1 b2 (made_yes k h nA hx) (made_nay k h nA hy)
      | true =>
        have MX := made_yes k h nA hx
        have MY := made_yes k h nA hy
        by_cases n1 : la.length = 1
        · by_cases n2 : lb.length = 1
          · match la, n1, lb, n2, ha, hb with
            | [s], _, [t], _, ha, hb =>
              by_cases g1 : isSc S M s = true ∧ isSc S M ca = true
              · obtain ⟨s1, s2⟩ := g1
                obtain ⟨c, c9, rfl⟩ := as_TX s2
                have BA := fun V a' c' => back_yes k h nA x y c9 (d := pa) ha s1 V a' c'
                by_cases g2 : isSc S M t = true ∧ isSc S M cb = true
                · obtain ⟨t1, t2⟩ := g2
                  obtain ⟨d, d9, rfl⟩ := as_TX t2
                  have BB := fun V a' c' => back_yes k h nA x y d9 (d := pb) hb t1 V a' c'
                  by_cases hcd : c = d
                  · subst hcd
                    exact once_same alive_any (fun V => zero_call k V) cP b1 b2 MX MY BA BB (by simp)
                  · refine once_ne alive_any (fun V => zero_call k V) cP b1 b2 MX MY BA BB (beq_ne fun q => hcd (TX_inj h c9 d9 q)) (decide_eq_false fun q => ?_)
                    simp only [List.cons.injEq, and_true] at q
                    have nx : numS x ≠ numS y := fun e => hxy (isSc_inj hx hy e)
                    exact once_plain h.hp h.hq h.e2 nA hA1 (isSc_lt hx) (isSc_lt hy) c9 d9 nx hcd (EX_inj h q.1) (EX_inj h q.2)
                · refine once_six2 alive_any (fun V => zero_call k V) cP b1 b2 MX MY BA (fun V a' c' => back_nay k h nA x y (d := pb) hb ?_ V a' c')
                  cases q1 : isSc S M t
                  · exact Or.inl rfl
                  · cases q2 : isSc S M cb
                    · exact Or.inr rfl
                    · exact absurd ⟨q1, q2⟩ g2
              · refine once_six alive_any (fun V => zero_call k V) cP b1 b2 MX MY (fun V a' c' => back_nay k h nA x y (d := pa) ha ?_ V a' c') (fun V a' c' => back_any k h nA x y (d := pb) hb V a' c')
                cases q1 : isSc S M s
                · exact Or.inl rfl
                · cases q2 : isSc S M ca
                  · exact Or.inr rfl
                  · exact absurd ⟨q1, q2⟩ g1
          · exact once_lb alive_any (fun V => zero_call k V) cP b1 b2 MX MY (by rw [n1]; rfl) (bne_iff_ne.2 (by omega))
        · exact once_la alive_any (fun V => zero_call k V) cP b1 b2 MX MY (bne_iff_ne.2 (by omega))
theorem once_walk (z : Int) (w : World) (ot x y ca cb : ByteArray) {aa ab : Option Addr} {pa pb : Nat} {la lb : List ByteArray} (ha : SL w aa la) (hb : SL w ab lb) :
    Calls Try.prog 5 #[.int .i64 z, .string ot, .string x, .string y, .agg #[.string ca, .slice aa la.length pa], .agg #[.string cb, .slice ab lb.length pb]] w fun e w' => e = .returned (.bool true) ∧ Below w.heap.size w w' := by
  by_cases z1 : z = 1
  · subst z1; exact once_kind kd1 pk1 w ot x y ca cb ha hb
  by_cases z2 : z = 2
  · subst z2; exact once_kind kd2 pk2 w ot x y ca cb ha hb
  by_cases z3 : z = 3
  · subst z3; exact once_kind kd3 pk3 w ot x y ca cb ha hb
  have G := fun W => ground0 W z (beq_eq_false_iff_ne.2 z1) (beq_eq_false_iff_ne.2 z2) (beq_eq_false_iff_ne.2 z3)
  exact once_n alive_any (fun V => number_face (fun W cp hc => on48c_no hc rfl size70 (by kernel_rfl) G)) (fun V => power_face (withTwo_any (fun W2 q1 q2 q3 k1 k2 k3 hb2 => one_none W2 rfl size70 (by kernel_rfl) G)))
end
end Go.Proofs.Ytokkjdelomkfiaa
