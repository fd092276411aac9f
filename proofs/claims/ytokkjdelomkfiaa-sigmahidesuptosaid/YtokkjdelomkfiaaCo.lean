/- The law SigmaHides, of every kind. -/
import Derived.Test.YtokkjdelomkfiaaCn
import Derived.Test.YtokkjdelomkfiaaCm
set_option linter.unusedSimpArgs false
set_option linter.unusedVariables false
set_option maxRecDepth 100000
namespace Go.Proofs.Ytokkjdelomkfiaa
open Go.RowKit Go.Deep Go.PlainAid

section
variable {z : Int} {G : Array Value} {S Wd M low one sq Ri Wd2 M2 low2 one2 sq2 Ri2 : Nat}
/-- The images' numbers. -/
def us2 (A : Nat) (xs : List ByteArray) : List (Nat × Nat) := xs.map fun x => (2 ^ numS x, A ^ numS x)
theorem us2_len (A : Nat) (xs : List ByteArray) : (us2 A xs).length = xs.length := by simp [us2]
theorem cm_eq (S M M2 A : Nat) (xs : List ByteArray) : (xs.map fun x => ([EX S M M2 2, EX S M M2 A], [pf S M M2 2 x, pf S M M2 A x])) = mkC S M M2 A (us2 A xs) := by simp [mkC, us2, pf]
/-- The nonce that a secret and an answer come of. -/
def nn (S M c : Nat) (x r : ByteArray) : ByteArray := TX S ((numS r + M - c * numS x % M) % M)
theorem okUs (h : PK S M M2) {A : Nat} (hA : ¬ M2 ∣ A) {xs : List ByteArray} (h0 : 0 < xs.length) (h1 : xs.length ≤ 64) : OkU M2 A (us2 A xs) :=
  ⟨by rw [us2_len]; exact h0, by rw [us2_len]; exact h1, hA, fun i hi => by
    have e : (us2 A xs)[i] = (2 ^ numS (xs[i]'(by rw [us2_len] at hi; exact hi)), A ^ numS (xs[i]'(by rw [us2_len] at hi; exact hi))) := by simp [us2]
    rw [e]
    exact ⟨h.np h.n2 _, h.np hA _⟩⟩
theorem hides_lists (k : KD z G S Wd M low one sq Ri Wd2 M2 low2 one2 sq2 Ri2) (h : PK S M M2) {A c : Nat} (hA : ¬ M2 ∣ A) (hc : c < M) {xs rs : List ByteArray} (hl : rs.length = xs.length) :
    fs S M M2 A (List.zipWith (nn S M c) xs rs) = bk S M M2 A ((0 + M - c) % M) (us2 A xs) rs := by
  have m1 := h.m1
  apply List.ext_getElem
  · simp [fs, bk, us2]
  · intro i h1 h2
    have hi : i < xs.length := by simp [fs] at h1; omega
    have hi2 : i < rs.length := by omega
    have e1 : (fs S M M2 A (List.zipWith (nn S M c) xs rs))[i] = [EX S M M2 (2 ^ numS (nn S M c xs[i] rs[i])), EX S M M2 (A ^ numS (nn S M c xs[i] rs[i]))] := by simp [fs]
    have e2 : (bk S M M2 A ((0 + M - c) % M) (us2 A xs) rs)[i] = [EX S M M2 (2 ^ numS rs[i] * (2 ^ numS xs[i]) ^ ((0 + M - c) % M)), EX S M M2 (A ^ numS rs[i] * (A ^ numS xs[i]) ^ ((0 + M - c) % M))] := by simp [bk, us2]
    rw [e1, e2]
    have en : numS (nn S M c xs[i] rs[i]) = (numS rs[i] + M - c * numS xs[i] % M) % M := by
      unfold nn
      rw [k.nu (Nat.mod_lt _ (by omega))]
    rw [en]
    unfold EX
    rw [hides_plain h.hp h.hq h.e2 h.n2 hc, hides_plain h.hp h.hq h.e2 hA hc]
theorem nn_sc (k : KD z G S Wd M low one sq Ri Wd2 M2 low2 one2 sq2 Ri2) (h : PK S M M2) (c : Nat) (xs rs : List ByteArray) : (List.zipWith (nn S M c) xs rs).all (isSc S M) = true := by
  have m1 := h.m1
  rw [List.all_eq_true]
  intro s hs
  obtain ⟨i, hi, rfl⟩ := List.mem_iff_getElem.1 hs
  rw [List.getElem_zipWith]
  exact k.sc (Nat.mod_lt _ (by omega))
theorem SL.take {w : World} {a : Option Addr} {l : List ByteArray} (h : SL w a l) (n : Nat) : SL w a (l.take n) := by
  intro i hi
  obtain ⟨b, o, e, hc⟩ := h i (by simp at hi; omega)
  exact ⟨b, o, e, by rw [List.getElem_take]; exact hc⟩
theorem hides_kind (k : KD z G S Wd M low one sq Ri Wd2 M2 low2 one2 sq2 Ri2) (h : PK S M M2) (w : World) (ot ch : ByteArray) {sa aa : Option Addr} {ps pa : Nat} {xs al : List ByteArray} (hx : SL w sa xs) (ha : SL w aa al) (hxl : xs.length ≤ 1048576) (hcap : al.length ≤ pa) (hpa : pa ≤ 9223372036854775807) :
    Calls Try.prog 4 #[.int .i64 z, .string ot, .slice sa xs.length ps, .string ch, .slice aa al.length pa] w fun e w' => e = .returned (.bool true) ∧ Below w.heap.size w w' := by
  have m1 := h.m1
  cases hot : isEl S M ot with
  | false => exact hides_nil alive_any (fun W hW => made12_no2 (fun V => BAS k h V) (fun V => MEM k hot V))
  | true =>
    obtain ⟨A, nA, rfl, eA⟩ := el_EX h hot
    cases hall : xs.all (isSc S M) with
    | false =>
      refine hides_nil alive_any (fun W hW => (MADE k h nA hxl (c := ps) (hx.of_below hW)).mono ?_)
      rintro e w' ⟨⟨hf, _⟩ | ⟨_, rfl⟩, hB⟩
      · rw [hall] at hf; cases hf
      · exact ⟨rfl, hB⟩
    | true =>
      have CC : ∀ W, Below w.heap.size w W → Calls Try.prog 12 #[.int .i64 z, .string (EX S M M2 A), .slice sa xs.length ps] W fun e w' => (∃ a c, e = .returned (.slice a xs.length c) ∧ CM w' a (mkC S M M2 A (us2 A xs))) ∧ Below W.heap.size W w' := fun W hW => by
        refine (MADE k h nA hxl (c := ps) (hx.of_below hW)).mono ?_
        rintro e w' ⟨⟨_, v, B, rfl, hm⟩ | ⟨hf, _⟩, hB⟩
        · obtain ⟨a, c, rfl, hcm⟩ := hm.cm
          rw [cm_eq] at hcm
          exact ⟨⟨a, c, rfl, hcm⟩, hB⟩
        · rw [hall] at hf; cases hf
      by_cases n0 : xs.length = 0
      · exact hides_0 alive_any CC (by rw [n0]; rfl)
      have b0 : ((xs.length : Int) == 0) = false := beq_eq_false_iff_ne.2 (by omega)
      by_cases n64 : 64 < xs.length
      · exact hides_64 alive_any CC b0 (by omega)
      by_cases nf : al.length < xs.length
      · exact hides_few alive_any CC b0 (by omega) (by omega)
      cases hch : isSc S M ch with
      | false => exact hides_ch alive_any CC b0 (by omega) (by omega) (fun V => SCA k hch V)
      | true =>
        obtain ⟨c, c9, rfl⟩ := as_TX hch
        have hrl : (al.take xs.length).length = xs.length := by simp; omega
        have eL : (mkC S M M2 A (us2 A xs)).length = xs.length := by rw [mkC_len, us2_len]
        have ok := okUs (xs := xs) h nA (by omega) (by omega)
        have hBL : (bk S M M2 A ((0 + M - c) % M) (us2 A xs) (al.take xs.length)).length = xs.length := by simp [bk, us2]; omega
        refine hides_main (rs := al.take xs.length) (l := mkC S M M2 A (us2 A xs)) (p := isSc S M) (mu := fun x => TX S (c * numS x % M)) (nn := nn S M c) (L := bk S M M2 A ((0 + M - c) % M) (us2 A xs) (al.take xs.length)) alive_any CC (by omega) (by omega) hrl (by omega) hcap hpa hx (ha.take _) (fun s V => scal_call k V s) hch hall ?_ ?_ ?_ ?_ ?_
        · intro x px V
          have q := MUL k c9 (isSc_lt px) V
          rw [← isSc_TX' px] at q
          exact q
        · intro x r px pr V
          have q := SUB k (isSc_lt pr) (Nat.mod_lt (c * numS x) (show M > 0 by omega)) V
          rw [← isSc_TX' pr] at q
          exact q
        · intro hsc V a b cc d hcm hsl
          have q := BCK k h ok c9 (w := V) (a := a) (b := b) (c := cc) (d := d) (m := al.take xs.length) hcm hsl (by rw [us2_len]; exact hrl) hsc
          rw [eL] at q
          exact q
        · intro hsc V a b cc d hcm hsl
          have q := FIR k h ok (w := V) (a := a) (b := b) (c := cc) (d := d) (m := List.zipWith (nn S M c) xs (al.take xs.length)) hcm hsl (by rw [us2_len, List.length_zipWith, hrl]; simp) (nn_sc k h c _ _)
          rw [eL, hides_lists k h nA c9 hrl] at q
          exact q
        · intro V a b cc d h1 h2
          have q := sameLists18 (w := V) (a := a) (b := b) (c := cc) (d := d) (by rw [hBL]; omega) (fun i hi => by simp [bk]) rfl h1 h2
          rw [hBL] at q
          simpa using q
theorem hides_walk (z : Int) (w : World) (ot ch : ByteArray) {sa aa : Option Addr} {ps pa : Nat} {xs al : List ByteArray} (hx : SL w sa xs) (ha : SL w aa al) (hxl : xs.length ≤ 1048576) (hcap : al.length ≤ pa) (hpa : pa ≤ 9223372036854775807) :
    Calls Try.prog 4 #[.int .i64 z, .string ot, .slice sa xs.length ps, .string ch, .slice aa al.length pa] w fun e w' => e = .returned (.bool true) ∧ Below w.heap.size w w' := by
  by_cases z1 : z = 1
  · subst z1; exact hides_kind kd1 pk1 w ot ch hx ha hxl hcap hpa
  by_cases z2 : z = 2
  · subst z2; exact hides_kind kd2 pk2 w ot ch hx ha hxl hcap hpa
  by_cases z3 : z = 3
  · subst z3; exact hides_kind kd3 pk3 w ot ch hx ha hxl hcap hpa
  have G := fun W => ground0 W z (beq_eq_false_iff_ne.2 z1) (beq_eq_false_iff_ne.2 z2) (beq_eq_false_iff_ne.2 z3)
  exact hides_nil alive_any (fun W hW => made12_no1 (c := 1) (by decide) (fun V => base_call (on48_no 73 rfl size70 (by kernel_rfl) G)))
end
end Go.Proofs.Ytokkjdelomkfiaa
