/- What the law TrustHides wants of what goes through values: the codes, the values. -/
import Derived.Test.YthdffjboaicopaaTg
set_option linter.unusedSimpArgs false
set_option linter.unusedVariables false
set_option maxRecDepth 100000
namespace Go.Proofs.Ythdffjboaicopaa
open Lg

theorem ndvd {M : Nat} (hM : 641 ≤ M) {d : Int} (h0 : d ≠ 0) (h1 : -255 ≤ d) (h2 : d ≤ 255) : ¬ (M : Int) ∣ d := fun h => by
  have h3 := Int.natAbs_dvd_natAbs.2 h
  have h4 := Nat.le_of_dvd (by omega) h3
  omega
theorem prI {M : Nat} (hq : IsP M) : Pr (M : Int) := fun a b h => by
  have h3 := Int.natAbs_dvd_natAbs.2 h
  rw [Int.natAbs_mul] at h3
  rcases hq.euclid h3 with h4 | h4
  · exact Or.inl (Int.natAbs_dvd_natAbs.1 h4)
  · exact Or.inr (Int.natAbs_dvd_natAbs.1 h4)
theorem n1 {M : Nat} (hM : 641 ≤ M) : ¬ (M : Int) ∣ 1 := ndvd hM (by decide) (by decide) (by decide)
theorem nop_in {x : Int} (h : nop x = false) : 0 ≤ x ∧ x ≤ 255 := by
  unfold nop at h
  simp only [Bool.or_eq_false_iff, decide_eq_false_iff_not] at h
  omega
theorem any_in {P : List Int} (h : P.any nop = false) : ∀ y ∈ P, 0 ≤ y ∧ y ≤ 255 := fun y hy => nop_in (by
  have := List.any_eq_false.1 h y hy
  simpa using this)
theorem twi_pair {P : List Int} (h : twi P P.length = false) : P.Pairwise (· ≠ ·) := by
  rw [List.pairwise_iff_getElem]
  intro i j hi hj hij he
  unfold twi at h
  have h1 := List.any_eq_false.1 h j (List.mem_range.2 hj)
  apply h1
  rw [List.any_eq_true]
  refine ⟨P[i], ?_, ?_⟩
  · rw [List.mem_take_iff_getElem]
    exact ⟨i, by omega, rfl⟩
  · rw [List.getD_eq_getElem?_getD, List.getElem?_eq_getElem hj]
    simp [he]
theorem apart_of {M : Nat} (hM : 641 ≤ M) : ∀ {P : List Int}, P.Pairwise (· ≠ ·) → (∀ y ∈ P, 0 ≤ y ∧ y ≤ 255) → Lg.Apart (M : Int) P
  | [], _, _ => trivial
  | a :: P, h, hr => by
    rw [List.pairwise_cons] at h
    refine ⟨fun x hx => ?_, apart_of hM h.2 (fun y hy => hr y (List.mem_cons_of_mem _ hy))⟩
    have h1 := hr x (List.mem_cons_of_mem _ hx)
    have h2 := hr a List.mem_cons_self
    have h3 := h.1 x hx
    exact ndvd hM (by omega) (by omega) (by omega)
section
variable {S M : Nat}
theorem pl_sc (hs : M ≤ 256 ^ S) (hM : 2 ≤ M) (a b : ByteArray) : isSc S M (pl S M a b) = true := isSc_TX (Nat.mod_lt _ (by omega)) hs
theorem tm_sc (hs : M ≤ 256 ^ S) (hM : 2 ≤ M) (a b : ByteArray) : isSc S M (tm S M a b) = true := isSc_TX (Nat.mod_lt _ (by omega)) hs
theorem iv_sc (hs : M ≤ 256 ^ S) (hM : 2 ≤ M) (a : ByteArray) : isSc S M (iv S M a) = true := isSc_TX (Nat.mod_lt _ (by omega)) hs
theorem nu_sc (hs : M ≤ 256 ^ S) (hM : 2 ≤ M) (k : Int) : isSc S M (nu S M k) = true := isSc_TX (numF_lt hM) hs
theorem fold_sc (hs : M ≤ 256 ^ S) (hM : 2 ≤ M) : ∀ (l : List ByteArray) (a : ByteArray), isSc S M a = true → isSc S M (l.foldl (pl S M) a) = true
  | [], a, h => h
  | b :: l, a, h => fold_sc hs hM l _ (pl_sc hs hM a b)
theorem su_sc (hs : M ≤ 256 ^ S) (hM : 2 ≤ M) (ws vs : List ByteArray) : isSc S M (su (pl S M) (tm S M) (nu S M 0) ws vs) = true := fold_sc hs hM _ _ (nu_sc hs hM 0)
/-- What Through answers: its code, its value. -/
def KK (S M : Nat) (P : List Int) (L : List ByteArray) (x : Int) : Int :=
  if 16 < P.length then 3 else if P.length = 0 then 2 else if P.any nop = true then 4 else if twi P P.length = true then 10 else if L.length ≠ P.length then 2 else if L.any (fun s => !isSc S M s) = true then 6 else if nop x = true then 4 else 0
def FF (S M : Nat) (P : List Int) (L : List ByteArray) (x : Int) : ByteArray := if KK S M P L x = 0 then go S M P L x else ⟨#[]⟩
structure Gd (S M : Nat) (P : List Int) (L : List ByteArray) (x : Int) : Prop where
  n16 : ¬ 16 < P.length
  n0 : ¬ P.length = 0
  rg : ¬ P.any nop = true
  tw : ¬ twi P P.length = true
  ln : ¬ L.length ≠ P.length
  sc : ¬ L.any (fun s => !isSc S M s) = true
  at' : ¬ nop x = true
theorem Gd.kk {P : List Int} {L : List ByteArray} {x : Int} (g : Gd S M P L x) : KK S M P L x = 0 := by
  unfold KK
  rw [if_neg g.n16, if_neg g.n0, if_neg g.rg, if_neg g.tw, if_neg g.ln, if_neg g.sc, if_neg g.at']
theorem gd {P : List Int} {L : List ByteArray} {x : Int} (h : KK S M P L x = 0) : Gd S M P L x := by
  unfold KK at h
  by_cases h1 : 16 < P.length
  · rw [if_pos h1] at h; exact absurd h (by decide)
  rw [if_neg h1] at h
  by_cases h2 : P.length = 0
  · rw [if_pos h2] at h; exact absurd h (by decide)
  rw [if_neg h2] at h
  by_cases h3 : P.any nop = true
  · rw [if_pos h3] at h; exact absurd h (by decide)
  rw [if_neg h3] at h
  by_cases h4 : twi P P.length = true
  · rw [if_pos h4] at h; exact absurd h (by decide)
  rw [if_neg h4] at h
  by_cases h5 : L.length ≠ P.length
  · rw [if_pos h5] at h; exact absurd h (by decide)
  rw [if_neg h5] at h
  by_cases h6 : L.any (fun s => !isSc S M s) = true
  · rw [if_pos h6] at h; exact absurd h (by decide)
  rw [if_neg h6] at h
  by_cases h7 : nop x = true
  · rw [if_pos h7] at h; exact absurd h (by decide)
  exact ⟨h1, h2, h3, h4, h5, h6, h7⟩
theorem Gd.all {P : List Int} {L : List ByteArray} {x : Int} (g : Gd S M P L x) : L.all (isSc S M) = true := by
  rw [List.all_eq_true]
  intro s hs
  have := List.any_eq_false.1 (Bool.eq_false_iff.2 g.sc) s hs
  simpa using this
theorem Gd.inr {P : List Int} {L : List ByteArray} {x : Int} (g : Gd S M P L x) : ∀ y ∈ P, 0 ≤ y ∧ y ≤ 255 := any_in (Bool.eq_false_iff.2 g.rg)
theorem Gd.ff {P : List Int} {L : List ByteArray} {x : Int} (g : Gd S M P L x) : FF S M P L x = go S M P L x := by unfold FF; rw [if_pos g.kk]
theorem Gd.len {P : List Int} {L : List ByteArray} {x : Int} (g : Gd S M P L x) : L.length = P.length := Decidable.not_not.1 g.ln
theorem Gd.ap (hM : 641 ≤ M) {P : List Int} {L : List ByteArray} {x : Int} (g : Gd S M P L x) : Lg.Apart (M : Int) P := apart_of hM (twi_pair (Bool.eq_false_iff.2 g.tw)) g.inr
theorem codes (P : List Int) (L : List ByteArray) (x : Int) : KK S M P L x = 0 ∨ KK S M P L x = 1 ∨ KK S M P L x = 3 ∨ KK S M P L x = 2 ∨ KK S M P L x = 4 ∨ KK S M P L x = 10 ∨ KK S M P L x = 6 := by
  unfold KK
  repeat' split
  all_goals simp
theorem fst_zip {P : List Int} {L : List ByteArray} (h : L.length = P.length) : (List.zip P (vals L)).map Prod.fst = P := List.map_fst_zip (by simp [vals, h])
theorem mem_zip {P : List Int} {L : List ByteArray} {i : Nat} (h : i < P.length) (h' : i < L.length) : (P[i], (numS L[i] : Int)) ∈ List.zip P (vals L) := by
  rw [List.mem_iff_getElem]
  exact ⟨i, by simp [vals]; omega, by simp [vals]⟩
theorem Gd.at (hs : M ≤ 256 ^ S) (hM : 641 ≤ M) (hq : IsP M) {P : List Int} {L : List ByteArray} {i : Nat} (h : i < P.length) (h' : i < L.length) (g : Gd S M P L P[i]) : go S M P L P[i] = L[i] := by
  have hsc : isSc S M L[i] = true := List.all_eq_true.1 g.all _ (List.getElem_mem h')
  refine cg_uniq (cg_go hs (by omega) g.len g.all P[i]) (cg_self hsc) ?_
  exact thr_at (prI hq) (n1 hM) (inv_ok hq) (by rw [fst_zip g.len]; exact g.ap hM) (mem_zip h h')
theorem go_sc (hs : M ≤ 256 ^ S) (hM : 641 ≤ M) (P : List Int) (L : List ByteArray) (x : Int) : isSc S M (go S M P L x) = true := su_sc hs (by omega) _ _
/-- What goes through what it gives to others is it. -/
theorem go_again (hs : M ≤ 256 ^ S) (hM : 641 ≤ M) (hq : IsP M) {P O : List Int} {L : List ByteArray} {y x : Int} (g : Gd S M P L y) (gO : Gd S M O (O.map (go S M P L)) x) (hl : P.length ≤ O.length) : go S M O (O.map (go S M P L)) x = go S M P L x := by
  refine cg_uniq (cg_go hs (by omega) gO.len gO.all x) (cg_go hs (by omega) g.len g.all x) ?_
  refine thr_again (prI hq) (n1 hM) (inv_ok hq) (by rw [fst_zip gO.len]; exact gO.ap hM) ?_ ?_ x
  · have e1 := g.len
    simp only [List.length_zip, vals, List.length_map]
    omega
  · intro t ht
    obtain ⟨i, hi, rfl⟩ := List.mem_iff_getElem.1 ht
    simp only [List.getElem_zip, vals, List.getElem_map]
    exact (cg_go hs (by omega) g.len g.all _).2
theorem wants (hs : M ≤ 256 ^ S) (hM : 641 ≤ M) (hq : IsP M) (A O : List Int) (V : List ByteArray) (s : ByteArray) : Wants (FF S M) (KK S M) A O V s where
  codes := fun x => codes _ _ x
  few := fun h => by
    have g := gd h
    rw [g.ff]
    exact Gd.at hs hM hq (P := 0 :: A) (L := s :: V) (i := 0) (by simp) (by simp) g
  many := fun h hO => by
    have hO0 : 0 < O.length := by omega
    have g0 := gd (h 0 hO0)
    have hmap : O.map (FF S M (0 :: A) (s :: V)) = O.map (go S M (0 :: A) (s :: V)) := by
      refine List.map_congr_left fun y hy => ?_
      obtain ⟨i, hi, rfl⟩ := List.mem_iff_getElem.1 hy
      exact (gd (h i hi)).ff
    rw [hmap]
    have hr : ¬ O.any nop = true := by
      rw [List.any_eq_true]
      rintro ⟨y, hy, hn⟩
      obtain ⟨i, hi, rfl⟩ := List.mem_iff_getElem.1 hy
      exact (gd (h i hi)).at' hn
    by_cases h16 : 16 < O.length
    · left; unfold KK; rw [if_pos h16]
    by_cases htw : twi O O.length = true
    · right; left; unfold KK; rw [if_neg h16, if_neg (by omega), if_neg hr, if_pos htw]
    have hsc : ¬ (O.map (go S M (0 :: A) (s :: V))).any (fun s => !isSc S M s) = true := by
      rw [List.any_eq_true]
      rintro ⟨y, hy, hn⟩
      obtain ⟨o, ho, rfl⟩ := List.mem_map.1 hy
      rw [go_sc hs hM] at hn
      exact absurd hn (by decide)
    have gO : ∀ x, nop x = false → Gd S M O (O.map (go S M (0 :: A) (s :: V))) x := fun x hx => ⟨h16, by omega, hr, htw, by simp, hsc, by rw [hx]; decide⟩
    have hin := g0.inr
    have gP : ∀ x, nop x = false → Gd S M (0 :: A) (s :: V) x := fun x hx => ⟨g0.n16, g0.n0, g0.rg, g0.tw, g0.ln, g0.sc, by rw [hx]; decide⟩
    have hle : (0 :: A).length ≤ O.length := by simp only [List.length_cons]; omega
    have z0 : nop 0 = false := by decide
    right; right
    have hlen : V.length = A.length := by have := g0.len; simpa using this
    refine ⟨(gO 0 z0).kk, ?_, hlen, fun i hi hi' => ?_⟩
    · rw [(gO 0 z0).ff, go_again hs hM hq g0 (gO 0 z0) hle]
      exact Gd.at hs hM hq (P := 0 :: A) (L := s :: V) (i := 0) (by simp) (by simp) (gP 0 z0)
    · have hx : nop A[i] = false := by
        have := List.any_eq_false.1 (Bool.eq_false_iff.2 g0.rg) A[i] (List.mem_cons_of_mem _ (List.getElem_mem hi))
        simpa using this
      refine ⟨(gO _ hx).kk, ?_⟩
      rw [(gO _ hx).ff, go_again hs hM hq g0 (gO _ hx) hle]
      exact Gd.at hs hM hq (P := 0 :: A) (L := s :: V) (i := i + 1) (by simpa using hi) (by simpa using hi') (gP _ hx)
end
end Go.Proofs.Ythdffjboaicopaa
