/- Trust's reckoning, modulo the order: what goes through values. -/
import Derived.Test.YthdffjboaicopaaTf
import Derived.Test.YthdffjboaicopaaLg
import Derived.Test.YthdffjboaicopaaTx
import Derived.Test.YthdffjboaicopaaPrime
import Derived.Test.YthdffjboaicopaaKindsX
set_option linter.unusedSimpArgs false
set_option linter.unusedVariables false
set_option maxRecDepth 100000
namespace Go.Proofs.Ythdffjboaicopaa
open Lg

/-- A scalar's text that is this number modulo the order. -/
def Cg (S M : Nat) (s : ByteArray) (v : Int) : Prop := isSc S M s = true ∧ (M : Int) ∣ (numS s : Int) - v
theorem cg_mk {S M n : Nat} {v : Int} (hs : M ≤ 256 ^ S) (hn : n < M) (h : (M : Int) ∣ (n : Int) - v) : Cg S M (TX S n) v := ⟨isSc_TX hn hs, by rw [numS_TX (Nat.lt_of_lt_of_le hn hs)]; exact h⟩
theorem dvd_small {M a b : Nat} (ha : a < M) (hb : b < M) (h : (M : Int) ∣ (a : Int) - (b : Int)) : a = b := by
  have h1 : (a : Int) % (M : Int) = (b : Int) % (M : Int) := Int.emod_eq_emod_iff_emod_sub_eq_zero.2 (Int.emod_eq_zero_of_dvd h)
  rw [Int.emod_eq_of_lt (by omega) (by omega), Int.emod_eq_of_lt (by omega) (by omega)] at h1
  omega
theorem sc_inj {S M : Nat} {s t : ByteArray} (h : isSc S M s = true) (h' : isSc S M t = true) (e : numS s = numS t) : s = t := by
  rw [← TX_numS (isSc_size h), ← TX_numS (isSc_size h'), e]
theorem cg_uniq {S M : Nat} {s t : ByteArray} {u v : Int} (h1 : Cg S M s u) (h2 : Cg S M t v) (hv : (M : Int) ∣ u - v) : s = t := by
  refine sc_inj h1.1 h2.1 (dvd_small (isSc_lt h1.1) (isSc_lt h2.1) ?_)
  have := Int.dvd_sub (Int.dvd_add h1.2 hv) h2.2
  have e : (numS s : Int) - u + (u - v) - ((numS t : Int) - v) = (numS s : Int) - (numS t : Int) := by omega
  rwa [e] at this
theorem cg_self {S M : Nat} {s : ByteArray} (h : isSc S M s = true) : Cg S M s (numS s : Int) := ⟨h, by rw [Int.sub_self]; exact Int.dvd_zero _⟩
theorem cg_eq {S M : Nat} {s : ByteArray} {u v : Int} (h : Cg S M s u) (hv : (M : Int) ∣ u - v) : Cg S M s v := ⟨h.1, by
  have := Int.dvd_add h.2 hv
  have e : (numS s : Int) - u + (u - v) = (numS s : Int) - v := by omega
  rwa [e] at this⟩
theorem dvd_mod (M n : Nat) : (M : Int) ∣ ((n % M : Nat) : Int) - (n : Int) := by
  refine ⟨-((n / M : Nat) : Int), ?_⟩
  have h : ((M * (n / M) : Nat) : Int) + ((n % M : Nat) : Int) = (n : Int) := by exact_mod_cast Nat.div_add_mod n M
  rw [Int.mul_neg]
  push_cast at h ⊢
  omega
theorem mod_mod {M n : Nat} {v : Int} (h : (M : Int) ∣ (n : Int) - v) : (M : Int) ∣ ((n % M : Nat) : Int) - v := by
  have := Int.dvd_add (dvd_mod M n) h
  have e : ((n % M : Nat) : Int) - (n : Int) + ((n : Int) - v) = ((n % M : Nat) : Int) - v := by omega
  rwa [e] at this
section
variable {S M : Nat}
/-- Sums, products, numbers, inverses, as the program has them. -/
def nu (S M : Nat) (k : Int) : ByteArray := TX S (numF M k)
def tm (S M : Nat) (a b : ByteArray) : ByteArray := TX S (numS a * numS b % M)
def pl (S M : Nat) (a b : ByteArray) : ByteArray := TX S ((numS a + numS b) % M)
def iv (S M : Nat) (b : ByteArray) : ByteArray := TX S (numS b ^ (M - 2) % M)
theorem cg_nu (hs : M ≤ 256 ^ S) (hM : 2 ≤ M) (k : Int) : Cg S M (nu S M k) k := by
  refine cg_mk hs (numF_lt hM) ?_
  unfold numF
  by_cases h : k < 0
  · rw [if_pos h]
    obtain ⟨n, hn⟩ : ∃ n : Nat, n = (-k).toNat := ⟨_, rfl⟩
    have hk : k = -(n : Int) := by omega
    rw [← hn, hk]
    have d := dvd_mod M n
    have hl := Nat.mod_lt n (show M > 0 by omega)
    generalize n % M = r at *
    unfold subF
    by_cases hr : 0 < r
    · rw [if_pos hr]
      have e : ((0 + M - r : Nat) : Int) - -(n : Int) = (M : Int) - ((r : Int) - (n : Int)) := by omega
      rw [e]
      exact Int.dvd_sub (Int.dvd_refl _) d
    · rw [if_neg hr]
      have e : ((0 - r : Nat) : Int) - -(n : Int) = -((r : Int) - (n : Int)) := by omega
      rw [e]
      exact Int.dvd_neg.2 d
  · rw [if_neg h]
    refine mod_mod ?_
    have e : (k.toNat : Int) - k = 0 := by omega
    rw [e]
    exact Int.dvd_zero _
theorem cg_tm (hs : M ≤ 256 ^ S) (hM : 2 ≤ M) {a b : ByteArray} {u v : Int} (ha : Cg S M a u) (hb : Cg S M b v) : Cg S M (tm S M a b) (u * v) := by
  refine cg_mk hs (Nat.mod_lt _ (by omega)) (mod_mod ?_)
  have h1 : (M : Int) ∣ (numS a : Int) * ((numS b : Int) - v) := Int.dvd_trans hb.2 (Int.dvd_mul_left _ _)
  have h2 : (M : Int) ∣ ((numS a : Int) - u) * v := Int.dvd_trans ha.2 (Int.dvd_mul_right _ _)
  have e : ((numS a * numS b : Nat) : Int) - u * v = (numS a : Int) * ((numS b : Int) - v) + ((numS a : Int) - u) * v := by
    push_cast
    grind
  rw [e]
  exact Int.dvd_add h1 h2
theorem cg_pl (hs : M ≤ 256 ^ S) (hM : 2 ≤ M) {a b : ByteArray} {u v : Int} (ha : Cg S M a u) (hb : Cg S M b v) : Cg S M (pl S M a b) (u + v) := by
  refine cg_mk hs (Nat.mod_lt _ (by omega)) (mod_mod ?_)
  have e : ((numS a + numS b : Nat) : Int) - (u + v) = ((numS a : Int) - u) + ((numS b : Int) - v) := by
    push_cast
    omega
  rw [e]
  exact Int.dvd_add ha.2 hb.2
/-- An inverse modulo the order. -/
def inv (M : Nat) (a : Int) : Int := (((a % (M : Int)).toNat ^ (M - 2) : Nat) : Int)
theorem inv_pow {p a : Nat} (hp : IsP p) (ha : ¬ p ∣ a) : a ^ (p - 2) * a % p = 1 := by
  have := hp.1
  rw [← Nat.pow_succ, show (p - 2).succ = p - 1 by omega]
  exact hp.fermat1 ha
theorem res (hM : 2 ≤ M) (a : Int) : ((a % (M : Int)).toNat : Int) = a % (M : Int) := Int.toNat_of_nonneg (Int.emod_nonneg _ (by omega))
theorem inv_ok (hq : IsP M) (a : Int) (ha : ¬ (M : Int) ∣ a) : (M : Int) ∣ a * inv M a - 1 := by
  have hM := hq.1
  unfold inv
  obtain ⟨n, hn⟩ : ∃ n : Nat, n = (a % (M : Int)).toNat := ⟨_, rfl⟩
  have hr := res hM a
  rw [← hn] at hr ⊢
  have d : (M : Int) ∣ a - (n : Int) := by
    rw [hr]
    exact Int.dvd_of_emod_eq_zero (by rw [Int.sub_emod, Int.emod_emod_of_dvd _ (Int.dvd_refl _), Int.sub_self, Int.zero_emod])
  have hnd : ¬ M ∣ n := fun h => ha (by
    have h2 : (M : Int) ∣ (n : Int) := Int.ofNat_dvd.2 h
    have := Int.dvd_add d h2
    rwa [Int.sub_add_cancel] at this)
  have i := inv_pow hq hnd
  have k : (M : Int) ∣ ((n ^ (M - 2) * n : Nat) : Int) - 1 := by
    have q := dvd_mod M (n ^ (M - 2) * n)
    rw [i] at q
    have e : ((n ^ (M - 2) * n : Nat) : Int) - 1 = -(((1 : Nat) : Int) - ((n ^ (M - 2) * n : Nat) : Int)) := by omega
    rw [e]
    exact Int.dvd_neg.2 q
  have h3 : (M : Int) ∣ (a - (n : Int)) * ((n ^ (M - 2) : Nat) : Int) := Int.dvd_trans d (Int.dvd_mul_right _ _)
  have e : a * ((n ^ (M - 2) : Nat) : Int) - 1 = (a - (n : Int)) * ((n ^ (M - 2) : Nat) : Int) + (((n ^ (M - 2) * n : Nat) : Int) - 1) := by
    push_cast
    generalize (n : Int) ^ (M - 2) = t
    grind
  rw [e]
  exact Int.dvd_add h3 k
theorem cg_res {s : ByteArray} {v : Int} (hM : 2 ≤ M) (h : Cg S M s v) : numS s = (v % (M : Int)).toNat := by
  have hl : (v % (M : Int)).toNat < M := by
    have := Int.emod_lt_of_pos v (show (0 : Int) < (M : Int) by omega)
    have := Int.emod_nonneg v (show (M : Int) ≠ 0 by omega)
    omega
  refine dvd_small (isSc_lt h.1) hl ?_
  rw [res hM]
  have d : (M : Int) ∣ v - v % (M : Int) := Int.dvd_of_emod_eq_zero (by rw [Int.sub_emod, Int.emod_emod_of_dvd _ (Int.dvd_refl _), Int.sub_self, Int.zero_emod])
  have := Int.dvd_add h.2 d
  have e : (numS s : Int) - v + (v - v % (M : Int)) = (numS s : Int) - v % (M : Int) := by omega
  rwa [e] at this
theorem cg_iv (hs : M ≤ 256 ^ S) (hM : 2 ≤ M) {b : ByteArray} {v : Int} (hb : Cg S M b v) : Cg S M (iv S M b) (inv M v) := by
  refine cg_mk hs (Nat.mod_lt _ (by omega)) (mod_mod ?_)
  rw [cg_res hM hb]
  unfold inv
  rw [Int.sub_self]
  exact Int.dvd_zero _
theorem cg_fold (hs : M ≤ 256 ^ S) (hM : 2 ≤ M) (here x : Int) : ∀ (P : List Int) (a : ByteArray) (v : Int), Cg S M a v → Cg S M (P.foldl (fun acc y => if y ≠ here then tm S M acc (nu S M (y - x)) else acc) a) (v * prodL x (oth P here))
  | [], a, v, h => by simpa [oth, prodL] using h
  | y :: P, a, v, h => by
    rw [List.foldl_cons]
    unfold oth
    rw [List.filter_cons]
    by_cases hy : y = here
    · rw [if_neg (by simpa using hy), if_neg (by simpa using hy)]
      exact cg_fold hs hM here x P a v h
    · rw [if_pos hy, if_pos (by simpa using hy), prodL, ← Int.mul_assoc]
      exact cg_fold hs hM here x P _ _ (cg_tm hs hM h (cg_nu hs hM _))
theorem cg_fo (hs : M ≤ 256 ^ S) (hM : 2 ≤ M) (here x : Int) (P : List Int) : Cg S M (fo (nu S M) (tm S M) here x P) (prodL x (oth P here)) := by
  have := cg_fold hs hM here x P _ _ (cg_nu hs hM 1)
  rwa [Int.one_mul] at this
/-- A weight. -/
def wt (S M : Nat) (P : List Int) (here x : Int) : ByteArray := tm S M (fo (nu S M) (tm S M) here x P) (iv S M (fo (nu S M) (tm S M) here here P))
theorem cg_wt (hs : M ≤ 256 ^ S) (hM : 2 ≤ M) (here x : Int) (P : List Int) : Cg S M (wt S M P here x) (prodL x (oth P here) * inv M (prodL here (oth P here))) := cg_tm hs hM (cg_fo hs hM here x P) (cg_iv hs hM (cg_fo hs hM here here P))
def vals (vs : List ByteArray) : List Int := vs.map fun v => (numS v : Int)
theorem cg_sum (hs : M ≤ 256 ^ S) (hM : 2 ≤ M) (x : Int) (P : List Int) : ∀ (ps : List Int) (vs : List ByteArray) (a : ByteArray) (u : Int), ps.length = vs.length → vs.all (isSc S M) = true → Cg S M a u → Cg S M ((List.zipWith (tm S M) (ps.map fun here => wt S M P here x) vs).foldl (pl S M) a) (u + sumW x (terms (inv M) P (List.zip ps (vals vs))))
  | [], [], a, u, _, _, h => by simpa [vals, terms, sumW] using h
  | p :: ps, v :: vs, a, u, hl, hv, h => by
    simp only [List.all_cons, Bool.and_eq_true] at hv
    have h1 := cg_pl hs hM h (cg_tm hs hM (cg_wt hs hM p x P) (cg_self hv.1))
    have ih := cg_sum hs hM x P ps vs _ _ (by simpa using hl) hv.2 h1
    simp only [List.map_cons, List.zipWith_cons_cons, List.foldl_cons, vals, List.zip_cons_cons, terms, sumW]
    refine cg_eq ih ?_
    unfold vals
    have e : u + prodL x (oth P p) * inv M (prodL p (oth P p)) * (numS v : Int) + sumW x (terms (inv M) P (List.zip ps (List.map (fun v => (numS v : Int)) vs))) - (u + ((numS v : Int) * inv M (prodL p (oth P p)) * prodL x (oth P p) + sumW x (terms (inv M) P (List.zip ps (List.map (fun v => (numS v : Int)) vs))))) = 0 := by
      generalize sumW x _ = t
      generalize inv M (prodL p (oth P p)) = i
      generalize prodL x (oth P p) = q
      grind
    rw [e]
    exact Int.dvd_zero _
/-- What goes through values. -/
def go (S M : Nat) (P : List Int) (L : List ByteArray) (x : Int) : ByteArray := su (pl S M) (tm S M) (nu S M 0) (P.map fun here => wt S M P here x) L
theorem cg_go (hs : M ≤ 256 ^ S) (hM : 2 ≤ M) {P : List Int} {L : List ByteArray} (hl : L.length = P.length) (hL : L.all (isSc S M) = true) (x : Int) : Cg S M (go S M P L x) (thr (inv M) (List.zip P (vals L)) x) := by
  have h := cg_sum hs hM x P P L (nu S M 0) 0 hl.symm hL (cg_nu hs hM 0)
  rw [Int.zero_add] at h
  unfold thr
  rw [List.map_fst_zip (by simp [vals, hl])]
  exact h
end
end Go.Proofs.Ythdffjboaicopaa
