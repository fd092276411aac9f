/- Polynomials modulo a prime: one that has as many roots as coefficients is nothing; what goes through values goes through what it gives to others. Texts of numbers. Trust's reckoning, modulo the order: what goes through values. What the law TrustHides wants of what goes through values: the codes, the values. Through of every kind. -/
import Derived.Test.YtlimogamjgehjaaGreatKnowsAll
import Derived.Test.YtlimogamjgehjaaGreatT1
import Derived.Test.YtlimogamjgehjaaGreatPrime
import Derived.Test.YtlimogamjgehjaaGreatKinds
set_option linter.unusedSimpArgs false
set_option linter.unusedVariables false
set_option maxRecDepth 100000
namespace Go.Proofs.YtlimogamjgehjaaGreat.Lg

/-- The value of a polynomial, the lowest coefficient first. -/
def ev : List Int → Int → Int
  | [], _ => 0
  | b :: c, x => b + x * ev c x
def add : List Int → List Int → List Int
  | [], d => d
  | c, [] => c
  | a :: c, b :: d => (a + b) :: add c d
def scale (k : Int) : List Int → List Int
  | [] => []
  | a :: c => k * a :: scale k c
theorem ev_add : ∀ (c d : List Int) (x : Int), ev (add c d) x = ev c x + ev d x
  | [], d, x => by simp [add, ev]
  | a :: c, [], x => by simp [add, ev]
  | a :: c, b :: d, x => by
    simp only [add, ev, ev_add c d x]
    grind
theorem ev_scale (k : Int) : ∀ (c : List Int) (x : Int), ev (scale k c) x = k * ev c x
  | [], x => by simp [scale, ev]
  | a :: c, x => by
    simp only [scale, ev, ev_scale k c x]
    grind
theorem add_len : ∀ (c d : List Int), (add c d).length = max c.length d.length
  | [], d => by simp [add]
  | a :: c, [] => by simp [add]
  | a :: c, b :: d => by
    simp only [add, List.length_cons, add_len c d]
    omega
theorem scale_len (k : Int) : ∀ (c : List Int), (scale k c).length = c.length
  | [] => rfl
  | a :: c => by simp [scale, scale_len k c]
/-- What is left when a root is taken out. -/
def quo (a : Int) : List Int → List Int
  | [] => []
  | _ :: c => add c (scale a (quo a c))
theorem quo_len (a : Int) : ∀ (c : List Int), (quo a c).length = c.length - 1
  | [] => rfl
  | b :: c => by
    rw [quo, add_len, scale_len, quo_len a c]
    simp only [List.length_cons]
    omega
theorem quo_ev (a : Int) : ∀ (c : List Int) (x : Int), ev c x - ev c a = (x - a) * ev (quo a c) x
  | [], x => by simp [ev, quo]
  | b :: c, x => by
    have ih := quo_ev a c x
    rw [quo, ev_add, ev_scale]
    simp only [ev]
    grind
/-- A prime, as far as it is wanted. -/
def Pr (q : Int) : Prop := ∀ a b : Int, q ∣ a * b → q ∣ a ∨ q ∣ b
/-- No two places are one modulo q. -/
def Apart (q : Int) : List Int → Prop
  | [] => True
  | a :: xs => (∀ x ∈ xs, ¬ q ∣ x - a) ∧ Apart q xs
theorem roots {q : Int} (hq : Pr q) : ∀ (xs c : List Int), c.length ≤ xs.length → Apart q xs → (∀ x ∈ xs, q ∣ ev c x) → ∀ x, q ∣ ev c x
  | [], c, hl, _, _, x => by
    have : c = [] := List.length_eq_zero_iff.1 (by simpa using hl)
    subst this
    simp [ev]
  | a :: xs, c, hl, ha, hr, x => by
    have h0 := hr a (by simp)
    have key : ∀ y, q ∣ ev (quo a c) y := roots hq xs (quo a c) (by rw [quo_len]; simp at hl; omega) ha.2 (fun y hy => by
      have h1 := hr y (by simp [hy])
      have h2 : q ∣ (y - a) * ev (quo a c) y := by
        rw [← quo_ev]
        exact Int.dvd_sub h1 h0
      rcases hq _ _ h2 with h | h
      · exact absurd h (ha.1 y hy)
      · exact h)
    have h3 : q ∣ ev c x - ev c a := by
      rw [quo_ev]
      exact Int.dvd_mul_of_dvd_right (key x)
    have := Int.dvd_add h3 h0
    rwa [Int.sub_add_cancel] at this
/-- Two polynomials that agree at as many places as they have coefficients agree everywhere. -/
theorem agree {q : Int} (hq : Pr q) {xs c d : List Int} (hc : c.length ≤ xs.length) (hd : d.length ≤ xs.length) (ha : Apart q xs) (h : ∀ x ∈ xs, q ∣ ev c x - ev d x) (x : Int) : q ∣ ev c x - ev d x := by
  have e : ∀ y, ev (add c (scale (-1) d)) y = ev c y - ev d y := fun y => by rw [ev_add, ev_scale]; grind
  rw [← e]
  refine roots hq xs _ (by rw [add_len, scale_len]; omega) ha (fun y hy => ?_) x
  rw [e]
  exact h y hy
/-- A product of linear factors. -/
def lin : List Int → List Int
  | [] => [1]
  | a :: ys => add (scale a (lin ys)) (0 :: scale (-1) (lin ys))
theorem lin_len : ∀ ys : List Int, (lin ys).length = ys.length + 1
  | [] => rfl
  | a :: ys => by
    rw [lin, add_len]
    simp only [scale_len, List.length_cons, lin_len ys]
    omega
def prodL (x : Int) : List Int → Int
  | [] => 1
  | a :: ys => (a - x) * prodL x ys
theorem lin_ev : ∀ (ys : List Int) (x : Int), ev (lin ys) x = prodL x ys
  | [], x => by simp [lin, ev, prodL]
  | a :: ys, x => by
    rw [lin, ev_add, ev_scale, prodL, ← lin_ev ys x]
    simp only [ev, ev_scale]
    grind
/-- A sum of weights times values; each weight a product of linear factors times a number that does not hang on x. -/
def comb : List (Int × List Int) → List Int
  | [] => []
  | (k, ys) :: r => add (scale k (lin ys)) (comb r)
def sumW (x : Int) : List (Int × List Int) → Int
  | [] => 0
  | (k, ys) :: r => k * prodL x ys + sumW x r
theorem comb_ev : ∀ (l : List (Int × List Int)) (x : Int), ev (comb l) x = sumW x l
  | [], x => rfl
  | (k, ys) :: r, x => by rw [comb, ev_add, ev_scale, lin_ev, comb_ev r x, sumW]
theorem comb_len {n : Nat} : ∀ (l : List (Int × List Int)), (∀ p ∈ l, p.2.length + 1 ≤ n) → (comb l).length ≤ n
  | [], _ => by simp [comb]
  | (k, ys) :: r, h => by
    rw [comb, add_len, scale_len, lin_len]
    have h1 := h (k, ys) (by simp)
    have h2 := comb_len (n := n) r (fun p hp => h p (by simp [hp]))
    dsimp only at h1
    omega
/-- What stands at a place but for the others: products are not nothing where all are apart. -/
theorem prod_not {q : Int} (hq : Pr q) (h1 : ¬ q ∣ 1) {x : Int} : ∀ (ys : List Int), (∀ y ∈ ys, ¬ q ∣ y - x) → ¬ q ∣ prodL x ys
  | [], _ => by simpa [prodL] using h1
  | a :: ys, h => fun hd => by
    rw [prodL] at hd
    rcases hq _ _ hd with g | g
    · exact h a (by simp) g
    · exact prod_not hq h1 ys (fun y hy => h y (by simp [hy])) g
theorem prod_zero {x : Int} : ∀ (ys : List Int), x ∈ ys → prodL x ys = 0
  | [], h => by simp at h
  | a :: ys, h => by
    rw [prodL]
    rcases List.mem_cons.1 h with rfl | h
    · simp
    · rw [prod_zero ys h]
      simp
/-- The others of a list of places. -/
def oth (P : List Int) (p : Int) : List Int := P.filter (fun y => decide (y ≠ p))
theorem oth_mem {P : List Int} {p y : Int} : y ∈ oth P p ↔ y ∈ P ∧ y ≠ p := by
  unfold oth
  simp
theorem oth_len : ∀ {P : List Int} {p : Int}, p ∈ P → (oth P p).length + 1 ≤ P.length
  | a :: P, p, h => by
    unfold oth
    rw [List.filter_cons]
    by_cases e : a = p
    · simp only [e, ne_eq, not_true_eq_false, decide_false, List.length_cons]
      exact Nat.succ_le_succ (List.length_filter_le _ P)
    · have hp : p ∈ P := by
        rcases List.mem_cons.1 h with q | q
        · exact absurd q.symm e
        · exact q
      have ih := oth_len hp
      unfold oth at ih
      simp only [ne_eq, e, not_false_eq_true, decide_true, if_true, List.length_cons]
      simp only [ne_eq] at ih
      omega
/-- The summands of the value at x of what goes through values at places. -/
def terms (inv : Int → Int) (P : List Int) : List (Int × Int) → List (Int × List Int)
  | [] => []
  | (p, v) :: r => (v * inv (prodL p (oth P p)), oth P p) :: terms inv P r
def thr (inv : Int → Int) (L : List (Int × Int)) (x : Int) : Int := sumW x (terms inv (L.map Prod.fst) L)
theorem terms_mem {inv : Int → Int} {P : List Int} : ∀ {r : List (Int × Int)} {t : Int × List Int}, t ∈ terms inv P r → ∃ p v, (p, v) ∈ r ∧ t = (v * inv (prodL p (oth P p)), oth P p)
  | (p, v) :: r, t, h => by
    rw [terms] at h
    rcases List.mem_cons.1 h with rfl | h
    · exact ⟨p, v, by simp, rfl⟩
    · obtain ⟨p', v', h1, h2⟩ := terms_mem h
      exact ⟨p', v', by simp [h1], h2⟩
theorem thr_len {inv : Int → Int} {L : List (Int × Int)} : (comb (terms inv (L.map Prod.fst) L)).length ≤ L.length := by
  refine comb_len _ (fun t ht => ?_)
  obtain ⟨p, v, h1, rfl⟩ := terms_mem ht
  have := oth_len (P := L.map Prod.fst) (p := p) (List.mem_map.2 ⟨(p, v), h1, rfl⟩)
  simpa using this
theorem apart_in {q : Int} : ∀ {P : List Int} {x y : Int}, Apart q P → x ∈ P → y ∈ P → x ≠ y → ¬ q ∣ y - x
  | a :: P, x, y, h, hx, hy, hne => by
    rcases List.mem_cons.1 hx with hx1 | hx1
    · rcases List.mem_cons.1 hy with hy1 | hy1
      · exact absurd (hx1.trans hy1.symm) hne
      · rw [hx1]
        exact h.1 y hy1
    · rcases List.mem_cons.1 hy with hy1 | hy1
      · intro g
        refine h.1 x hx1 ?_
        have e : x - a = -(y - x) := by omega
        rw [e]
        exact Int.dvd_neg.2 g
      · exact apart_in h.2 hx1 hy1 hne
theorem apart_nodup {q : Int} : ∀ {P : List Int}, Apart q P → P.Nodup
  | [], _ => List.nodup_nil
  | a :: P, h => List.nodup_cons.2 ⟨fun g => h.1 a g (by simp), apart_nodup h.2⟩
/-- A part of the summands, at a place that is not among its places: nothing. -/
theorem sum_off {q : Int} {inv : Int → Int} {P : List Int} {x : Int} (hx : x ∈ P) : ∀ (r : List (Int × Int)), (∀ p ∈ r, p.1 ≠ x) → sumW x (terms inv P r) = 0
  | [], _ => rfl
  | (p, v) :: r, h => by
    rw [terms, sumW, prod_zero (oth P p) (oth_mem.2 ⟨hx, fun e => h (p, v) (by simp) e.symm⟩), sum_off hx (q := q) r (fun t ht => h t (by simp [ht]))]
    simp
theorem sum_at {q : Int} (hq : Pr q) (h1 : ¬ q ∣ 1) {inv : Int → Int} (hi : ∀ a, ¬ q ∣ a → q ∣ a * inv a - 1) {P : List Int} (hP : Apart q P) : ∀ (r : List (Int × Int)) (p v : Int), (p, v) ∈ r → (r.map Prod.fst).Nodup → (∀ t ∈ r, t.1 ∈ P) → q ∣ sumW p (terms inv P r) - v
  | (a, u) :: r, p, v, h, hn, hP' => by
    simp only [List.map_cons, List.nodup_cons] at hn
    rw [terms, sumW]
    have hpP : p ∈ P := hP' (p, v) h
    by_cases e : a = p
    · subst e
      have hv : v = u := by
        rcases List.mem_cons.1 h with g | g
        · cases g; rfl
        · exact absurd (List.mem_map.2 ⟨(a, v), g, rfl⟩) hn.1
      subst hv
      rw [sum_off (q := q) hpP r (fun t ht e => hn.1 (List.mem_map.2 ⟨t, ht, e⟩))]
      have hnp := prod_not hq h1 (x := a) (oth P a) (fun y hy => apart_in hP hpP (oth_mem.1 hy).1 (fun e => (oth_mem.1 hy).2 e.symm))
      have hh := hi _ hnp
      generalize prodL a (oth P a) = D at *
      have e : v * inv D * D + 0 - v = v * (D * inv D - 1) := by grind
      rw [e]
      exact Int.dvd_mul_of_dvd_right hh
    · have hr : (p, v) ∈ r := by
        rcases List.mem_cons.1 h with g | g
        · cases g; exact absurd rfl e
        · exact g
      rw [prod_zero (oth P a) (oth_mem.2 ⟨hpP, fun g => e g.symm⟩)]
      have ih := sum_at hq h1 hi hP r p v hr hn.2 (fun t ht => hP' t (by simp [ht]))
      simpa using ih
/-- IT GOES THROUGH THE VALUES. -/
theorem thr_at {q : Int} (hq : Pr q) (h1 : ¬ q ∣ 1) {inv : Int → Int} (hi : ∀ a, ¬ q ∣ a → q ∣ a * inv a - 1) {L : List (Int × Int)} (hP : Apart q (L.map Prod.fst)) {p v : Int} (h : (p, v) ∈ L) : q ∣ thr inv L p - v :=
  sum_at hq h1 hi hP L p v h (apart_nodup hP) (fun t ht => List.mem_map.2 ⟨t, ht, rfl⟩)
/-- WHAT GOES THROUGH WHAT IT GIVES TO OTHERS IS IT. -/
theorem thr_again {q : Int} (hq : Pr q) (h1 : ¬ q ∣ 1) {inv : Int → Int} (hi : ∀ a, ¬ q ∣ a → q ∣ a * inv a - 1) {L G : List (Int × Int)} (hO : Apart q (G.map Prod.fst)) (hl : L.length ≤ G.length) (hg : ∀ t ∈ G, q ∣ t.2 - thr inv L t.1) (x : Int) : q ∣ thr inv G x - thr inv L x := by
  unfold thr
  rw [← comb_ev, ← comb_ev]
  refine agree hq (xs := G.map Prod.fst) (by rw [List.length_map]; exact thr_len) (by rw [List.length_map]; exact Nat.le_trans thr_len hl) hO (fun y hy => ?_) x
  obtain ⟨t, ht, rfl⟩ := List.mem_map.1 hy
  rw [comb_ev, comb_ev]
  have a1 := thr_at hq h1 hi hO (p := t.1) (v := t.2) ht
  have a2 := hg t ht
  have := Int.dvd_add a1 a2
  unfold thr at this
  have e : sumW t.1 (terms inv (G.map Prod.fst) G) - t.2 + (t.2 - sumW t.1 (terms inv (L.map Prod.fst) L)) = sumW t.1 (terms inv (G.map Prod.fst) G) - sumW t.1 (terms inv (L.map Prod.fst) L) := by omega
  rw [e] at this
  exact this
end Go.Proofs.YtlimogamjgehjaaGreat.Lg
namespace Go.Proofs.YtlimogamjgehjaaGreat
open Go.RowKit Go.Deep Go.PlainAid

theorem beV_beB (n : Nat) : ∀ k, beV (beB k n) = n % 256 ^ k
  | 0 => by simp [beB, beV, Nat.mod_one]
  | k + 1 => by
    rw [beB, beV, beV_beB n k, beB_length, Nat.mod_pow_succ, UInt8.toNat_ofNat']
    have : n / 256 ^ k % 256 % 2 ^ 8 = n / 256 ^ k % 256 := Nat.mod_eq_of_lt (by omega)
    rw [this, Nat.mul_comm]
    omega
theorem beB_add (n : Nat) : ∀ (k c : Nat), beB k (n + 256 ^ k * c) = beB k n
  | 0, _ => rfl
  | k + 1, c => by
    have e : n + 256 ^ (k + 1) * c = n + 256 ^ k * (256 * c) := by rw [Nat.pow_succ, Nat.mul_assoc]
    rw [e, beB, beB, beB_add n k, Nat.add_mul_div_left _ _ (Nat.pow_pos (by omega)), Nat.add_mul_mod_self_left]
theorem beB_beV : ∀ l : List UInt8, beB l.length (beV l) = l
  | [] => rfl
  | c :: l => by
    have hl := beV_lt l
    rw [List.length_cons, beB, beV]
    have h1 : (c.toNat * 256 ^ l.length + beV l) / 256 ^ l.length % 256 = c.toNat := by
      rw [Nat.add_comm, Nat.add_mul_div_right _ _ (Nat.pow_pos (by omega)), Nat.div_eq_of_lt hl, Nat.zero_add]
      exact Nat.mod_eq_of_lt (UInt8.toNat_lt c)
    rw [h1]
    have h2 : beB l.length (c.toNat * 256 ^ l.length + beV l) = l := by
      rw [Nat.add_comm, Nat.mul_comm, beB_add]
      exact beB_beV l
    rw [h2]
    congr 1
    exact UInt8.ofNat_toNat
/-- The text of a number in S bytes. -/
def TX (S n : Nat) : ByteArray := ⟨(beB S n).toArray⟩
theorem numS_TX {S n : Nat} (h : n < 256 ^ S) : numS (TX S n) = n := by
  unfold numS TX
  rw [List.toList_toArray, beV_beB, Nat.mod_eq_of_lt h]
theorem size_TX (S n : Nat) : (TX S n).size = S := by
  show (beB S n).toArray.size = S
  rw [List.size_toArray, beB_length]
theorem TX_numS {S : Nat} {s : ByteArray} (h : s.size = S) : TX S (numS s) = s := by
  unfold TX numS
  have e : S = s.data.toList.length := by rw [← h]; rfl
  rw [e, beB_beV]
theorem isSc_TX {S M n : Nat} (h : n < M) (hM : M ≤ 256 ^ S) : isSc S M (TX S n) = true := decide_eq_true ⟨size_TX S n, by rw [numS_TX (Nat.lt_of_lt_of_le h hM)]; exact h⟩
end Go.Proofs.YtlimogamjgehjaaGreat
namespace Go.Proofs.YtlimogamjgehjaaGreat
open Lg

/-- A scalar's text that is this number modulo the order. -/
def Cg (S M : Nat) (s : ByteArray) (v : Int) : Prop := isSc S M s = true ∧ (M : Int) ∣ (numS s : Int) - v
theorem cg_mk {S M n : Nat} {v : Int} (hs : M ≤ 256 ^ S) (hn : n < M) (h : (M : Int) ∣ (n : Int) - v) : Cg S M (TX S n) v := ⟨isSc_TX hn hs, by rw [numS_TX (Nat.lt_of_lt_of_le hn hs)]; exact h⟩
theorem dvd_small {M a b : Nat} (ha : a < M) (hb : b < M) (h : (M : Int) ∣ (a : Int) - (b : Int)) : a = b := by
  have h1 : (a : Int) % (M : Int) = (b : Int) % (M : Int) := Int.emod_eq_emod_iff_emod_sub_eq_zero.2 (Int.emod_eq_zero_of_dvd h)
  rw [Int.emod_eq_of_lt (by omega) (by omega), Int.emod_eq_of_lt (by omega) (by omega)] at h1
  omega
theorem sc_inj {S M : Nat} {s t : ByteArray} (h : isSc S M s = true) (h' : isSc S M t = true) (e : numS s = numS t) : s = t := by
  rw [← TX_numS (isSc_size h), ← TX_numS (isSc_size h'), e]
theorem cg_uniq {S M : Nat} {s t : ByteArray} {u v : Int} (h1 : Cg S M s u) (h2 : Cg S M t v) (hv : (M : Int) ∣ u - v) : s = t := by
  refine sc_inj h1.1 h2.1 (dvd_small (isSc_lt h1.1) (isSc_lt h2.1) ?_)
  have := Int.dvd_sub (Int.dvd_add h1.2 hv) h2.2
  have e : (numS s : Int) - u + (u - v) - ((numS t : Int) - v) = (numS s : Int) - (numS t : Int) := by omega
  rwa [e] at this
theorem cg_self {S M : Nat} {s : ByteArray} (h : isSc S M s = true) : Cg S M s (numS s : Int) := ⟨h, by rw [Int.sub_self]; exact Int.dvd_zero _⟩
theorem cg_eq {S M : Nat} {s : ByteArray} {u v : Int} (h : Cg S M s u) (hv : (M : Int) ∣ u - v) : Cg S M s v := ⟨h.1, by
  have := Int.dvd_add h.2 hv
  have e : (numS s : Int) - u + (u - v) = (numS s : Int) - v := by omega
  rwa [e] at this⟩
theorem dvd_mod (M n : Nat) : (M : Int) ∣ ((n % M : Nat) : Int) - (n : Int) := by
  refine ⟨-((n / M : Nat) : Int), ?_⟩
  have h : ((M * (n / M) : Nat) : Int) + ((n % M : Nat) : Int) = (n : Int) := by exact_mod_cast Nat.div_add_mod n M
  rw [Int.mul_neg]
  push_cast at h ⊢
  omega
theorem mod_mod {M n : Nat} {v : Int} (h : (M : Int) ∣ (n : Int) - v) : (M : Int) ∣ ((n % M : Nat) : Int) - v := by
  have := Int.dvd_add (dvd_mod M n) h
  have e : ((n % M : Nat) : Int) - (n : Int) + ((n : Int) - v) = ((n % M : Nat) : Int) - v := by omega
  rwa [e] at this
section
variable {S M : Nat}
/-- Sums, products, numbers, inverses, as the program has them. -/
def nu (S M : Nat) (k : Int) : ByteArray := TX S (numF M k)
def tm (S M : Nat) (a b : ByteArray) : ByteArray := TX S (numS a * numS b % M)
def pl (S M : Nat) (a b : ByteArray) : ByteArray := TX S ((numS a + numS b) % M)
def iv (S M : Nat) (b : ByteArray) : ByteArray := TX S (numS b ^ (M - 2) % M)
theorem cg_nu (hs : M ≤ 256 ^ S) (hM : 2 ≤ M) (k : Int) : Cg S M (nu S M k) k := by
  refine cg_mk hs (numF_lt hM) ?_
  unfold numF
  by_cases h : k < 0
  · rw [if_pos h]
    obtain ⟨n, hn⟩ : ∃ n : Nat, n = (-k).toNat := ⟨_, rfl⟩
    have hk : k = -(n : Int) := by omega
    rw [← hn, hk]
    have d := dvd_mod M n
    have hl := Nat.mod_lt n (show M > 0 by omega)
    generalize n % M = r at *
    unfold subF
    by_cases hr : 0 < r
    · rw [if_pos hr]
      have e : ((0 + M - r : Nat) : Int) - -(n : Int) = (M : Int) - ((r : Int) - (n : Int)) := by omega
      rw [e]
      exact Int.dvd_sub (Int.dvd_refl _) d
    · rw [if_neg hr]
      have e : ((0 - r : Nat) : Int) - -(n : Int) = -((r : Int) - (n : Int)) := by omega
      rw [e]
      exact Int.dvd_neg.2 d
  · rw [if_neg h]
    refine mod_mod ?_
    have e : (k.toNat : Int) - k = 0 := by omega
    rw [e]
    exact Int.dvd_zero _
theorem cg_tm (hs : M ≤ 256 ^ S) (hM : 2 ≤ M) {a b : ByteArray} {u v : Int} (ha : Cg S M a u) (hb : Cg S M b v) : Cg S M (tm S M a b) (u * v) := by
  refine cg_mk hs (Nat.mod_lt _ (by omega)) (mod_mod ?_)
  have h1 : (M : Int) ∣ (numS a : Int) * ((numS b : Int) - v) := Int.dvd_trans hb.2 (Int.dvd_mul_left _ _)
  have h2 : (M : Int) ∣ ((numS a : Int) - u) * v := Int.dvd_trans ha.2 (Int.dvd_mul_right _ _)
  have e : ((numS a * numS b : Nat) : Int) - u * v = (numS a : Int) * ((numS b : Int) - v) + ((numS a : Int) - u) * v := by
    push_cast
    grind
  rw [e]
  exact Int.dvd_add h1 h2
theorem cg_pl (hs : M ≤ 256 ^ S) (hM : 2 ≤ M) {a b : ByteArray} {u v : Int} (ha : Cg S M a u) (hb : Cg S M b v) : Cg S M (pl S M a b) (u + v) := by
  refine cg_mk hs (Nat.mod_lt _ (by omega)) (mod_mod ?_)
  have e : ((numS a + numS b : Nat) : Int) - (u + v) = ((numS a : Int) - u) + ((numS b : Int) - v) := by
    push_cast
    omega
  rw [e]
  exact Int.dvd_add ha.2 hb.2
/-- An inverse modulo the order. -/
def inv (M : Nat) (a : Int) : Int := (((a % (M : Int)).toNat ^ (M - 2) : Nat) : Int)
theorem inv_pow {p a : Nat} (hp : IsP p) (ha : ¬ p ∣ a) : a ^ (p - 2) * a % p = 1 := by
  have := hp.1
  rw [← Nat.pow_succ, show (p - 2).succ = p - 1 by omega]
  exact hp.fermat1 ha
theorem res (hM : 2 ≤ M) (a : Int) : ((a % (M : Int)).toNat : Int) = a % (M : Int) := Int.toNat_of_nonneg (Int.emod_nonneg _ (by omega))
theorem inv_ok (hq : IsP M) (a : Int) (ha : ¬ (M : Int) ∣ a) : (M : Int) ∣ a * inv M a - 1 := by
  have hM := hq.1
  unfold inv
  obtain ⟨n, hn⟩ : ∃ n : Nat, n = (a % (M : Int)).toNat := ⟨_, rfl⟩
  have hr := res hM a
  rw [← hn] at hr ⊢
  have d : (M : Int) ∣ a - (n : Int) := by
    rw [hr]
    exact Int.dvd_of_emod_eq_zero (by rw [Int.sub_emod, Int.emod_emod_of_dvd _ (Int.dvd_refl _), Int.sub_self, Int.zero_emod])
  have hnd : ¬ M ∣ n := fun h => ha (by
    have h2 : (M : Int) ∣ (n : Int) := Int.ofNat_dvd.2 h
    have := Int.dvd_add d h2
    rwa [Int.sub_add_cancel] at this)
  have i := inv_pow hq hnd
  have k : (M : Int) ∣ ((n ^ (M - 2) * n : Nat) : Int) - 1 := by
    have q := dvd_mod M (n ^ (M - 2) * n)
    rw [i] at q
    have e : ((n ^ (M - 2) * n : Nat) : Int) - 1 = -(((1 : Nat) : Int) - ((n ^ (M - 2) * n : Nat) : Int)) := by omega
    rw [e]
    exact Int.dvd_neg.2 q
  have h3 : (M : Int) ∣ (a - (n : Int)) * ((n ^ (M - 2) : Nat) : Int) := Int.dvd_trans d (Int.dvd_mul_right _ _)
  have e : a * ((n ^ (M - 2) : Nat) : Int) - 1 = (a - (n : Int)) * ((n ^ (M - 2) : Nat) : Int) + (((n ^ (M - 2) * n : Nat) : Int) - 1) := by
    push_cast
    generalize (n : Int) ^ (M - 2) = t
    grind
  rw [e]
  exact Int.dvd_add h3 k
theorem cg_res {s : ByteArray} {v : Int} (hM : 2 ≤ M) (h : Cg S M s v) : numS s = (v % (M : Int)).toNat := by
  have hl : (v % (M : Int)).toNat < M := by
    have := Int.emod_lt_of_pos v (show (0 : Int) < (M : Int) by omega)
    have := Int.emod_nonneg v (show (M : Int) ≠ 0 by omega)
    omega
  refine dvd_small (isSc_lt h.1) hl ?_
  rw [res hM]
  have d : (M : Int) ∣ v - v % (M : Int) := Int.dvd_of_emod_eq_zero (by rw [Int.sub_emod, Int.emod_emod_of_dvd _ (Int.dvd_refl _), Int.sub_self, Int.zero_emod])
  have := Int.dvd_add h.2 d
  have e : (numS s : Int) - v + (v - v % (M : Int)) = (numS s : Int) - v % (M : Int) := by omega
  rwa [e] at this
theorem cg_iv (hs : M ≤ 256 ^ S) (hM : 2 ≤ M) {b : ByteArray} {v : Int} (hb : Cg S M b v) : Cg S M (iv S M b) (inv M v) := by
  refine cg_mk hs (Nat.mod_lt _ (by omega)) (mod_mod ?_)
  rw [cg_res hM hb]
  unfold inv
  rw [Int.sub_self]
  exact Int.dvd_zero _
theorem cg_fold (hs : M ≤ 256 ^ S) (hM : 2 ≤ M) (here x : Int) : ∀ (P : List Int) (a : ByteArray) (v : Int), Cg S M a v → Cg S M (P.foldl (fun acc y => if y ≠ here then tm S M acc (nu S M (y - x)) else acc) a) (v * prodL x (oth P here))
  | [], a, v, h => by simpa [oth, prodL] using h
  | y :: P, a, v, h => by
    rw [List.foldl_cons]
    unfold oth
    rw [List.filter_cons]
    by_cases hy : y = here
    · rw [if_neg (by simpa using hy), if_neg (by simpa using hy)]
      exact cg_fold hs hM here x P a v h
    · rw [if_pos hy, if_pos (by simpa using hy), prodL, ← Int.mul_assoc]
      exact cg_fold hs hM here x P _ _ (cg_tm hs hM h (cg_nu hs hM _))
theorem cg_fo (hs : M ≤ 256 ^ S) (hM : 2 ≤ M) (here x : Int) (P : List Int) : Cg S M (fo (nu S M) (tm S M) here x P) (prodL x (oth P here)) := by
  have := cg_fold hs hM here x P _ _ (cg_nu hs hM 1)
  rwa [Int.one_mul] at this
/-- A weight. -/
def wt (S M : Nat) (P : List Int) (here x : Int) : ByteArray := tm S M (fo (nu S M) (tm S M) here x P) (iv S M (fo (nu S M) (tm S M) here here P))
theorem cg_wt (hs : M ≤ 256 ^ S) (hM : 2 ≤ M) (here x : Int) (P : List Int) : Cg S M (wt S M P here x) (prodL x (oth P here) * inv M (prodL here (oth P here))) := cg_tm hs hM (cg_fo hs hM here x P) (cg_iv hs hM (cg_fo hs hM here here P))
def vals (vs : List ByteArray) : List Int := vs.map fun v => (numS v : Int)
theorem cg_sum (hs : M ≤ 256 ^ S) (hM : 2 ≤ M) (x : Int) (P : List Int) : ∀ (ps : List Int) (vs : List ByteArray) (a : ByteArray) (u : Int), ps.length = vs.length → vs.all (isSc S M) = true → Cg S M a u → Cg S M ((List.zipWith (tm S M) (ps.map fun here => wt S M P here x) vs).foldl (pl S M) a) (u + sumW x (terms (inv M) P (List.zip ps (vals vs))))
  | [], [], a, u, _, _, h => by simpa [vals, terms, sumW] using h
  | p :: ps, v :: vs, a, u, hl, hv, h => by
    simp only [List.all_cons, Bool.and_eq_true] at hv
    have h1 := cg_pl hs hM h (cg_tm hs hM (cg_wt hs hM p x P) (cg_self hv.1))
    have ih := cg_sum hs hM x P ps vs _ _ (by simpa using hl) hv.2 h1
    simp only [List.map_cons, List.zipWith_cons_cons, List.foldl_cons, vals, List.zip_cons_cons, terms, sumW]
    refine cg_eq ih ?_
    unfold vals
    have e : u + prodL x (oth P p) * inv M (prodL p (oth P p)) * (numS v : Int) + sumW x (terms (inv M) P (List.zip ps (List.map (fun v => (numS v : Int)) vs))) - (u + ((numS v : Int) * inv M (prodL p (oth P p)) * prodL x (oth P p) + sumW x (terms (inv M) P (List.zip ps (List.map (fun v => (numS v : Int)) vs))))) = 0 := by
      generalize sumW x _ = t
      generalize inv M (prodL p (oth P p)) = i
      generalize prodL x (oth P p) = q
      grind
    rw [e]
    exact Int.dvd_zero _
/-- What goes through values. -/
def go (S M : Nat) (P : List Int) (L : List ByteArray) (x : Int) : ByteArray := su (pl S M) (tm S M) (nu S M 0) (P.map fun here => wt S M P here x) L
theorem cg_go (hs : M ≤ 256 ^ S) (hM : 2 ≤ M) {P : List Int} {L : List ByteArray} (hl : L.length = P.length) (hL : L.all (isSc S M) = true) (x : Int) : Cg S M (go S M P L x) (thr (inv M) (List.zip P (vals L)) x) := by
  have h := cg_sum hs hM x P P L (nu S M 0) 0 hl.symm hL (cg_nu hs hM 0)
  rw [Int.zero_add] at h
  unfold thr
  rw [List.map_fst_zip (by simp [vals, hl])]
  exact h
end
end Go.Proofs.YtlimogamjgehjaaGreat
namespace Go.Proofs.YtlimogamjgehjaaGreat
open Lg

theorem ndvd {M : Nat} (hM : 641 ≤ M) {d : Int} (h0 : d ≠ 0) (h1 : -255 ≤ d) (h2 : d ≤ 255) : ¬ (M : Int) ∣ d := fun h => by
  have h3 := Int.natAbs_dvd_natAbs.2 h
  have h4 := Nat.le_of_dvd (by omega) h3
  omega
theorem prI {M : Nat} (hq : IsP M) : Pr (M : Int) := fun a b h => by
  have h3 := Int.natAbs_dvd_natAbs.2 h
  rw [Int.natAbs_mul] at h3
  rcases hq.euclid h3 with h4 | h4
  · exact Or.inl (Int.natAbs_dvd_natAbs.1 h4)
  · exact Or.inr (Int.natAbs_dvd_natAbs.1 h4)
theorem n1 {M : Nat} (hM : 641 ≤ M) : ¬ (M : Int) ∣ 1 := ndvd hM (by decide) (by decide) (by decide)
theorem nop_in {x : Int} (h : nop x = false) : 0 ≤ x ∧ x ≤ 255 := by
  unfold nop at h
  simp only [Bool.or_eq_false_iff, decide_eq_false_iff_not] at h
  omega
theorem any_in {P : List Int} (h : P.any nop = false) : ∀ y ∈ P, 0 ≤ y ∧ y ≤ 255 := fun y hy => nop_in (by
  have := List.any_eq_false.1 h y hy
  simpa using this)
theorem twi_pair {P : List Int} (h : twi P P.length = false) : P.Pairwise (· ≠ ·) := by
  rw [List.pairwise_iff_getElem]
  intro i j hi hj hij he
  unfold twi at h
  have h1 := List.any_eq_false.1 h j (List.mem_range.2 hj)
  apply h1
  rw [List.any_eq_true]
  refine ⟨P[i], ?_, ?_⟩
  · rw [List.mem_take_iff_getElem]
    exact ⟨i, by omega, rfl⟩
  · rw [List.getD_eq_getElem?_getD, List.getElem?_eq_getElem hj]
    simp [he]
theorem apart_of {M : Nat} (hM : 641 ≤ M) : ∀ {P : List Int}, P.Pairwise (· ≠ ·) → (∀ y ∈ P, 0 ≤ y ∧ y ≤ 255) → Lg.Apart (M : Int) P
  | [], _, _ => trivial
  | a :: P, h, hr => by
    rw [List.pairwise_cons] at h
    refine ⟨fun x hx => ?_, apart_of hM h.2 (fun y hy => hr y (List.mem_cons_of_mem _ hy))⟩
    have h1 := hr x (List.mem_cons_of_mem _ hx)
    have h2 := hr a List.mem_cons_self
    have h3 := h.1 x hx
    exact ndvd hM (by omega) (by omega) (by omega)
section
variable {S M : Nat}
theorem pl_sc (hs : M ≤ 256 ^ S) (hM : 2 ≤ M) (a b : ByteArray) : isSc S M (pl S M a b) = true := isSc_TX (Nat.mod_lt _ (by omega)) hs
theorem tm_sc (hs : M ≤ 256 ^ S) (hM : 2 ≤ M) (a b : ByteArray) : isSc S M (tm S M a b) = true := isSc_TX (Nat.mod_lt _ (by omega)) hs
theorem iv_sc (hs : M ≤ 256 ^ S) (hM : 2 ≤ M) (a : ByteArray) : isSc S M (iv S M a) = true := isSc_TX (Nat.mod_lt _ (by omega)) hs
theorem nu_sc (hs : M ≤ 256 ^ S) (hM : 2 ≤ M) (k : Int) : isSc S M (nu S M k) = true := isSc_TX (numF_lt hM) hs
theorem fold_sc (hs : M ≤ 256 ^ S) (hM : 2 ≤ M) : ∀ (l : List ByteArray) (a : ByteArray), isSc S M a = true → isSc S M (l.foldl (pl S M) a) = true
  | [], a, h => h
  | b :: l, a, h => fold_sc hs hM l _ (pl_sc hs hM a b)
theorem su_sc (hs : M ≤ 256 ^ S) (hM : 2 ≤ M) (ws vs : List ByteArray) : isSc S M (su (pl S M) (tm S M) (nu S M 0) ws vs) = true := fold_sc hs hM _ _ (nu_sc hs hM 0)
/-- What Through answers: its code, its value. -/
def KK (S M : Nat) (P : List Int) (L : List ByteArray) (x : Int) : Int :=
  if 16 < P.length then 3 else if P.length = 0 then 2 else if P.any nop = true then 4 else if twi P P.length = true then 10 else if L.length ≠ P.length then 2 else if L.any (fun s => !isSc S M s) = true then 6 else if nop x = true then 4 else 0
def FF (S M : Nat) (P : List Int) (L : List ByteArray) (x : Int) : ByteArray := if KK S M P L x = 0 then go S M P L x else ⟨#[]⟩
structure Gd (S M : Nat) (P : List Int) (L : List ByteArray) (x : Int) : Prop where
  n16 : ¬ 16 < P.length
  n0 : ¬ P.length = 0
  rg : ¬ P.any nop = true
  tw : ¬ twi P P.length = true
  ln : ¬ L.length ≠ P.length
  sc : ¬ L.any (fun s => !isSc S M s) = true
  at' : ¬ nop x = true
theorem Gd.kk {P : List Int} {L : List ByteArray} {x : Int} (g : Gd S M P L x) : KK S M P L x = 0 := by
  unfold KK
  rw [if_neg g.n16, if_neg g.n0, if_neg g.rg, if_neg g.tw, if_neg g.ln, if_neg g.sc, if_neg g.at']
theorem gd {P : List Int} {L : List ByteArray} {x : Int} (h : KK S M P L x = 0) : Gd S M P L x := by
  unfold KK at h
  by_cases h1 : 16 < P.length
  · rw [if_pos h1] at h; exact absurd h (by decide)
  rw [if_neg h1] at h
  by_cases h2 : P.length = 0
  · rw [if_pos h2] at h; exact absurd h (by decide)
  rw [if_neg h2] at h
  by_cases h3 : P.any nop = true
  · rw [if_pos h3] at h; exact absurd h (by decide)
  rw [if_neg h3] at h
  by_cases h4 : twi P P.length = true
  · rw [if_pos h4] at h; exact absurd h (by decide)
  rw [if_neg h4] at h
  by_cases h5 : L.length ≠ P.length
  · rw [if_pos h5] at h; exact absurd h (by decide)
  rw [if_neg h5] at h
  by_cases h6 : L.any (fun s => !isSc S M s) = true
  · rw [if_pos h6] at h; exact absurd h (by decide)
  rw [if_neg h6] at h
  by_cases h7 : nop x = true
  · rw [if_pos h7] at h; exact absurd h (by decide)
  exact ⟨h1, h2, h3, h4, h5, h6, h7⟩
theorem Gd.all {P : List Int} {L : List ByteArray} {x : Int} (g : Gd S M P L x) : L.all (isSc S M) = true := by
  rw [List.all_eq_true]
  intro s hs
  have := List.any_eq_false.1 (Bool.eq_false_iff.2 g.sc) s hs
  simpa using this
theorem Gd.inr {P : List Int} {L : List ByteArray} {x : Int} (g : Gd S M P L x) : ∀ y ∈ P, 0 ≤ y ∧ y ≤ 255 := any_in (Bool.eq_false_iff.2 g.rg)
theorem Gd.ff {P : List Int} {L : List ByteArray} {x : Int} (g : Gd S M P L x) : FF S M P L x = go S M P L x := by unfold FF; rw [if_pos g.kk]
theorem Gd.len {P : List Int} {L : List ByteArray} {x : Int} (g : Gd S M P L x) : L.length = P.length := Decidable.not_not.1 g.ln
theorem Gd.ap (hM : 641 ≤ M) {P : List Int} {L : List ByteArray} {x : Int} (g : Gd S M P L x) : Lg.Apart (M : Int) P := apart_of hM (twi_pair (Bool.eq_false_iff.2 g.tw)) g.inr
theorem codes (P : List Int) (L : List ByteArray) (x : Int) : KK S M P L x = 0 ∨ KK S M P L x = 1 ∨ KK S M P L x = 3 ∨ KK S M P L x = 2 ∨ KK S M P L x = 4 ∨ KK S M P L x = 10 ∨ KK S M P L x = 6 := by
  unfold KK
  repeat' split
  all_goals simp
theorem fst_zip {P : List Int} {L : List ByteArray} (h : L.length = P.length) : (List.zip P (vals L)).map Prod.fst = P := List.map_fst_zip (by simp [vals, h])
theorem mem_zip {P : List Int} {L : List ByteArray} {i : Nat} (h : i < P.length) (h' : i < L.length) : (P[i], (numS L[i] : Int)) ∈ List.zip P (vals L) := by
  rw [List.mem_iff_getElem]
  exact ⟨i, by simp [vals]; omega, by simp [vals]⟩
theorem Gd.at (hs : M ≤ 256 ^ S) (hM : 641 ≤ M) (hq : IsP M) {P : List Int} {L : List ByteArray} {i : Nat} (h : i < P.length) (h' : i < L.length) (g : Gd S M P L P[i]) : go S M P L P[i] = L[i] := by
  have hsc : isSc S M L[i] = true := List.all_eq_true.1 g.all _ (List.getElem_mem h')
  refine cg_uniq (cg_go hs (by omega) g.len g.all P[i]) (cg_self hsc) ?_
  exact thr_at (prI hq) (n1 hM) (inv_ok hq) (by rw [fst_zip g.len]; exact g.ap hM) (mem_zip h h')
theorem go_sc (hs : M ≤ 256 ^ S) (hM : 641 ≤ M) (P : List Int) (L : List ByteArray) (x : Int) : isSc S M (go S M P L x) = true := su_sc hs (by omega) _ _
/-- What goes through what it gives to others is it. -/
theorem go_again (hs : M ≤ 256 ^ S) (hM : 641 ≤ M) (hq : IsP M) {P O : List Int} {L : List ByteArray} {y x : Int} (g : Gd S M P L y) (gO : Gd S M O (O.map (go S M P L)) x) (hl : P.length ≤ O.length) : go S M O (O.map (go S M P L)) x = go S M P L x := by
  refine cg_uniq (cg_go hs (by omega) gO.len gO.all x) (cg_go hs (by omega) g.len g.all x) ?_
  refine thr_again (prI hq) (n1 hM) (inv_ok hq) (by rw [fst_zip gO.len]; exact gO.ap hM) ?_ ?_ x
  · have e1 := g.len
    simp only [List.length_zip, vals, List.length_map]
    omega
  · intro t ht
    obtain ⟨i, hi, rfl⟩ := List.mem_iff_getElem.1 ht
    simp only [List.getElem_zip, vals, List.getElem_map]
    exact (cg_go hs (by omega) g.len g.all _).2
end
end Go.Proofs.YtlimogamjgehjaaGreat
namespace Go.Proofs.YtlimogamjgehjaaGreat
open Go.RowKit Go.Deep Go.PlainAid
open Lg

section
variable {z : Int} {G : Array Value} {S Wd M low one sq Ri Wd2 M2 low2 one2 sq2 Ri2 : Nat}
theorem scal_call (k : KD z G S Wd M low one sq Ri Wd2 M2 low2 one2 sq2 Ri2) (w : World) (s : ByteArray) : Calls Tryz.prog 59 #[.int .i64 z, .string s] w fun e w' => e = .returned (.bool (isSc S M s)) ∧ Below w.heap.size w w' :=
  scalar_face (c := if isSc S M s then 0 else 6) (by cases isSc S M s <;> rfl) (fun W cp hc => on57_58 hc k.hG k.hi k.h1 k.CG (fun W g hI hc => clos58 hc (fun W' hb => scalarA ((k.gh W g hI).of_below hb) s k.hS k.big)))
theorem num_call (k : KD z G S Wd M low one sq Ri Wd2 M2 low2 one2 sq2 Ri2) (w : World) (n : Int) (n1 : -9223372036854775808 ≤ n) (n2 : n ≤ 9223372036854775807) : Calls Tryz.prog 60 #[.int .i64 z, .int .i64 n] w fun e w' => e = .returned (.tuple #[.string (TX S (numF M n)), .int .i64 0]) ∧ Below w.heap.size w w' :=
  number_face (fun W cp hc => on48_52 hc k.hG k.hi k.h1 k.CG (fun W g hI hc => clos52 hc (fun W' hb => fnumberA ((k.gh W g hI).of_below hb).fs k.fl n n1 n2) (fun W' hb => toldA ((k.gh W g hI).of_below hb).c k.hS (Nat.lt_trans (numF_lt k.m2) k.big))))
theorem size_call (k : KD z G S Wd M low one sq Ri Wd2 M2 low2 one2 sq2 Ri2) (w : World) : Calls Tryz.prog 53 #[.int .i64 z] w fun e w' => e = .returned (.tuple #[.int .i64 (S : Int), .int .i64 (S : Int), .int .i64 0]) ∧ Below w.heap.size w w' :=
  sizes_call (on46_ok k.hG k.hi k.h1 k.CG (fun W g h => sizes_any (k.gh W g h).c))
theorem GRO (k : KD z G S Wd M low one sq Ri Wd2 M2 low2 one2 sq2 Ri2) (W : World) : Calls Tryz.prog 29 #[.int .i64 z] W fun e w' => e = .returned (.tuple #[.agg #[.int .i64 z], .int .i64 0]) ∧ Below W.heap.size W w' := groundOf9 (fun V => size_call k V)
theorem NUM (k : KD z G S Wd M low one sq Ri Wd2 M2 low2 one2 sq2 Ri2) {n : Int} (n1 : -255 ≤ n) (n2 : n ≤ 255) (W : World) : Calls Tryz.prog 41 #[.agg #[.int .i64 z], .int .i64 n] W fun e w' => e = .returned (.string (nu S M n)) ∧ Below W.heap.size W w' := number14 (fun V => num_call k V n (by omega) (by omega))
theorem TIM (k : KD z G S Wd M low one sq Ri Wd2 M2 low2 one2 sq2 Ri2) {s t : ByteArray} (h : isSc S M s = true) (h' : isSc S M t = true) (W : World) : Calls Tryz.prog 43 #[.agg #[.int .i64 z], .string s, .string t] W fun e w' => e = .returned (.string (tm S M s t)) ∧ Below W.heap.size W w' := times17 (fun V => mul_yes k V h h')
theorem PLU (k : KD z G S Wd M low one sq Ri Wd2 M2 low2 one2 sq2 Ri2) {s t : ByteArray} (h : isSc S M s = true) (h' : isSc S M t = true) (W : World) : Calls Tryz.prog 42 #[.agg #[.int .i64 z], .string s, .string t] W fun e w' => e = .returned (.string (pl S M s t)) ∧ Below W.heap.size W w' := plus16 (fun V => add_yes k V h h')
theorem OVE (k : KD z G S Wd M low one sq Ri Wd2 M2 low2 one2 sq2 Ri2) {s t : ByteArray} (h : isSc S M s = true) (h' : isSc S M t = true) (h0 : numS t ≠ 0) (W : World) : Calls Tryz.prog 56 #[.agg #[.int .i64 z], .string s, .string t] W fun e w' => e = .returned (.string (tm S M s (iv S M t))) ∧ Below W.heap.size W w' := over37 (fun V => inv_yes k V h' h0) (fun V => TIM k h (iv_sc k.sz k.m2 t) V)
theorem NSC (k : KD z G S Wd M low one sq Ri Wd2 M2 low2 one2 sq2 Ri2) (s : ByteArray) (W : World) : Calls Tryz.prog 40 #[.agg #[.int .i64 z], .string s] W fun e w' => e = .returned (.bool (!isSc S M s)) ∧ Below W.heap.size W w' := noScalar13 (fun V => scal_call k V s)
theorem WEI (k : KD z G S Wd M low one sq Ri Wd2 M2 low2 one2 sq2 Ri2) (hM : 641 ≤ M) (hq : IsP M) {W : World} {a : Option Addr} {c : Nat} {P : List Int} {here x : Int} (hn : P.length ≤ 16) (hP : ∀ y ∈ P, 0 ≤ y ∧ y ≤ 255) (hh : here ∈ P) (hx : 0 ≤ x ∧ x ≤ 255) (hs : IL W a P) : Calls Tryz.prog 32 #[.agg #[.int .i64 z, .slice a P.length c], .int .i64 here, .int .i64 x] W fun e w' => e = .returned (.string (wt S M P here x)) ∧ Below W.heap.size W w' := by
  refine weight24 (nu := nu S M) (tm := tm S M) (p := fun s => isSc S M s = true) hn hP (hP here hh) hx hs (nu_sc k.sz k.m2) (fun s t _ _ => tm_sc k.sz k.m2 s t) (fun n h1 h2 V => NUM k h1 h2 V) (fun s t h h' V => TIM k h h' V) (fun V => OVE k (cg_fo k.sz k.m2 here x P).1 (cg_fo k.sz k.m2 here here P).1 ?_ V)
  intro h0
  have h1 := (cg_fo k.sz k.m2 here here P).2
  rw [h0] at h1
  have h2 : (M : Int) ∣ prodL here (oth P here) := by
    have := Int.dvd_neg.2 h1
    have e : -(((0 : Nat) : Int) - prodL here (oth P here)) = prodL here (oth P here) := by omega
    rwa [e] at this
  refine prod_not (prI hq) (n1 hM) _ (fun y hy => ?_) h2
  have h3 := oth_mem.1 hy
  have h4 := hP y h3.1
  have h5 := hP here hh
  have h6 := h3.2
  exact ndvd hM (by omega) (by omega) (by omega)
theorem CT_kind (k : KD z G S Wd M low one sq Ri Wd2 M2 low2 one2 sq2 Ri2) (hM : 641 ≤ M) (hq : IsP M) (P : List Int) (L : List ByteArray) (x : Int) (a b : Option Addr) (c d : Nat) (W : World) (ia : IL W a P) (ib : SL W b L) (hP : P.length ≤ 9223372036854775807) (hL : L.length ≤ 9223372036854775807) (hc : P.length ≤ c) (hc9 : c ≤ 9223372036854775807) :
    Calls Tryz.prog 7 #[.int .i64 z, .slice a P.length c, .slice b L.length d, .int .i64 x] W fun e w' => e = .returned (.tuple #[.string (FF S M P L x), .int .i64 (KK S M P L x)]) ∧ Below W.heap.size W w' := by
  have bad : ∀ q : Int, KK S M P L x = q → q ≠ 0 → FF S M P L x = ⟨#[]⟩ := fun q h h0 => by unfold FF; rw [h, if_neg h0]
  have CG : ∀ W, Calls Tryz.prog 29 #[.int .i64 z] W fun e w' => e = .returned (.tuple #[.agg #[.int .i64 z], .int .i64 0]) ∧ Below W.heap.size W w' := fun W => GRO k W
  by_cases h1 : 16 < P.length
  · have hK : KK S M P L x = 3 := by unfold KK; rw [if_pos h1]
    rw [bad 3 hK (by decide), hK]
    exact thr_places (fun V hb => places_long CG (by omega)) rfl rfl
  by_cases h2 : P.length = 0
  · have hK : KK S M P L x = 2 := by unfold KK; rw [if_neg h1, if_pos h2]
    rw [bad 2 hK (by decide), hK]
    exact thr_places (fun V hb => places_nil CG (by omega) (by rw [h2]; rfl)) rfl rfl
  have h1' : ¬ (16 : Int) < (P.length : Int) := by omega
  have h2' : ((P.length : Int) == 0) = false := beq_eq_false_iff_ne.2 (by omega)
  have C10 : ∀ V, Below W.heap.size W V → ∀ V2, Below V.heap.size V V2 → Calls Tryz.prog 30 #[.slice a P.length c, .func (.func 18) #[] #[]] V2 fun e w' => e = .returned (.bool (P.any nop)) ∧ Below V2.heap.size V2 w' := fun V hb V2 hb2 => contains10 (z := 0) nop (by omega) ((ia.of_below hb).of_below hb2) (fun s V => noPlace7 s)
  by_cases h3 : P.any nop = true
  · have hK : KK S M P L x = 4 := by unfold KK; rw [if_neg h1, if_neg h2, if_pos h3]
    rw [bad 4 hK (by decide), hK]
    rw [h3] at C10
    exact thr_places (fun V hb => places_range CG h1' h2' (C10 V hb)) rfl rfl
  have C11 : ∀ V, Below W.heap.size W V → ∀ V2, Below V.heap.size V V2 → Calls Tryz.prog 31 #[.slice a P.length c] V2 fun e w' => e = .returned (.bool (twi P P.length)) ∧ Below V2.heap.size V2 w' := fun V hb V2 hb2 => (twice11 (by omega) hc hc9 ((ia.of_below hb).of_below hb2)).mono (by rintro e w' ⟨h, rfl⟩; exact ⟨h, Below.refl _ _⟩)
  have h3' : P.any nop = false := Bool.eq_false_iff.2 h3
  have C10' := C10
  rw [h3'] at C10'
  by_cases h4 : twi P P.length = true
  · have hK : KK S M P L x = 10 := by unfold KK; rw [if_neg h1, if_neg h2, if_neg h3, if_pos h4]
    rw [bad 10 hK (by decide), hK]
    rw [h4] at C11
    exact thr_places (fun V hb => places_twice CG h1' h2' (C10' V hb) (C11 V hb)) rfl rfl
  have h4' : twi P P.length = false := Bool.eq_false_iff.2 h4
  rw [h4'] at C11
  have C5 : ∀ V, Below W.heap.size W V → Calls Tryz.prog 11 #[.int .i64 z, .slice a P.length c] V fun e w' => e = .returned (.tuple #[.agg #[.int .i64 z, .slice a P.length c], .int .i64 0]) ∧ Below V.heap.size V w' := fun V hb => places_ok CG h1' h2' (C10' V hb) (C11 V hb)
  by_cases h5 : L.length ≠ P.length
  · have hK : KK S M P L x = 2 := by unfold KK; rw [if_neg h1, if_neg h2, if_neg h3, if_neg h4, if_pos h5]
    rw [bad 2 hK (by decide), hK]
    exact thr_wrong C5 (fun V hb => wrong6_len (bne_iff_ne.2 (by omega))) rfl rfl
  have hl : L.length = P.length := Decidable.not_not.1 h5
  have C6 : ∀ V, Below W.heap.size W V → Calls Tryz.prog 17 #[.agg #[.int .i64 z, .slice a P.length c], .slice b L.length d] V fun e w' => e = .returned (.int .i64 (if L.any (fun s => !isSc S M s) then 6 else 0)) ∧ Below V.heap.size V w' := fun V hb => by
    rw [hl]
    refine wrong6 (fun V2 hb2 => ?_)
    rw [← hl]
    exact contains12 (fun s => !isSc S M s) (by omega) ((ib.of_below hb).of_below hb2) (fun s V => NSC k s V)
  by_cases h6 : L.any (fun s => !isSc S M s) = true
  · have hK : KK S M P L x = 6 := by unfold KK; rw [if_neg h1, if_neg h2, if_neg h3, if_neg h4, if_neg h5, if_pos h6]
    rw [bad 6 hK (by decide), hK]
    rw [h6] at C6
    exact thr_wrong C5 C6 rfl rfl
  have h6' : L.any (fun s => !isSc S M s) = false := Bool.eq_false_iff.2 h6
  rw [h6'] at C6
  have C7 : ∀ V, Calls Tryz.prog 18 #[.int .i64 x] V fun e w' => e = .returned (.bool (nop x)) ∧ Below V.heap.size V w' := fun V => noPlace7 x
  by_cases h7 : nop x = true
  · have hK : KK S M P L x = 4 := by unfold KK; rw [if_neg h1, if_neg h2, if_neg h3, if_neg h4, if_neg h5, if_neg h6, if_pos h7]
    rw [bad 4 hK (by decide), hK]
    rw [h7] at C7
    exact thr_range C5 C6 C7
  have h7' : nop x = false := Bool.eq_false_iff.2 h7
  rw [h7'] at C7
  have g : Gd S M P L x := ⟨h1, h2, h3, h4, h5, h6, h7⟩
  rw [g.ff, g.kk]
  refine thr_ok C5 C6 C7 (fun V hb => ?_)
  rw [hl]
  refine through8 (ws := P.map fun here => wt S M P here x) (vs := L) (pl := pl S M) (tm := tm S M) (z0 := nu S M 0) (by omega) (by simp) hl (ib.of_below hb) (fun V => NUM k (by decide) (by decide) V) (fun V2 hb2 => ?_) (fun i h h' V => TIM k ?_ ?_ V) (fun i h h' V => PLU k (su_sc k.sz k.m2 _ _) (tm_sc k.sz k.m2 _ _) V)
  · refine weights15 (by omega) (by simp) ((ia.of_below hb).of_below hb2) (fun i h h' V3 hb3 => ?_)
    rw [List.getElem_map]
    exact WEI k hM hq (by omega) g.inr (List.getElem_mem h) (nop_in h7') (((ia.of_below hb).of_below hb2).of_below hb3)
  · rw [List.getElem_map]
    exact (cg_wt k.sz k.m2 _ x P).1
  · exact List.all_eq_true.1 g.all _ (List.getElem_mem h')
end
theorem CT_none {z : Int} (z1 : ¬ z = 1) (z2 : ¬ z = 2) (z3 : ¬ z = 3) (P : List Int) (L : List ByteArray) (x : Int) (a b : Option Addr) (c d : Nat) (W : World) :
    Calls Tryz.prog 7 #[.int .i64 z, .slice a P.length c, .slice b L.length d, .int .i64 x] W fun e w' => e = .returned (.tuple #[.string ⟨#[]⟩, .int .i64 1]) ∧ Below W.heap.size W w' := by
  have G := fun W => ground0 W z (beq_eq_false_iff_ne.2 z1) (beq_eq_false_iff_ne.2 z2) (beq_eq_false_iff_ne.2 z3)
  exact thr_places (fun V hb => places_none (fun V => groundOf9 (fun V => sizes_call (on46_no 68 rfl size70 (by kernel_rfl) G)))) rfl rfl
end Go.Proofs.YtlimogamjgehjaaGreat
