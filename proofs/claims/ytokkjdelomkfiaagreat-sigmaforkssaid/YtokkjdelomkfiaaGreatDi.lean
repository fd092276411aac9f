/- The law SigmaForks in every kind, whole. -/
import Derived.Test.YtokkjdelomkfiaaGreatDh
import Derived.Deep.Strs
set_option linter.unusedSimpArgs false
set_option linter.unusedVariables false
set_option maxRecDepth 100000
namespace Go.Proofs.YtokkjdelomkfiaaGreat
open Go.RowKit Go.Deep Go.PlainAid

section
variable {z : Int} {G : Array Value} {S Wd M low one sq Ri Wd2 M2 low2 one2 sq2 Ri2 : Nat}
theorem bkG_len {S M M2 less : Nat} {l : List Cl} {m : List ByteArray} (h : m.length = l.length) : (bkG S M M2 less l m).length = l.length := by simp [bkG]; omega
theorem bkG_row {S M M2 less : Nat} {p : ByteArray → Bool} {l : List Cl} {m : List ByteArray} (ok : OkC p l) (i : Nat) (h : i < (bkG S M M2 less l m).length) : ((bkG S M M2 less l m)[i]).length ≤ 64 := by
  have hi : i < l.length := by simp [bkG] at h; omega
  have := ok.few i hi
  simp [bkG]
  omega
theorem forks_kind (k : KD z G S Wd M low one sq Ri Wd2 M2 low2 one2 sq2 Ri2) (h : PK S M M2) {w : World} {sa a1 a2 b1 b2 : Option Addr} {sc c1 c2 d1 d2 : Nat} {sets : List (List Cl)} {xs ys : List ByteArray} {ll mm : List (List ByteArray)} (hn : 0 < sets.length) (h63 : sets.length ≤ 8796093022207)
    (hss : ∀ i (h : i < sets.length), (sets[i]).length ≤ 9223372036854775807 ∧ ∀ j (h' : j < (sets[i]).length), ((sets[i])[j]).1.length ≤ 9223372036854775807 ∧ ((sets[i])[j]).2.length ≤ 9223372036854775807)
    (hx : xs.length = sets.length) (hy : ys.length = sets.length) (hl : ll.length = sets.length) (hm : mm.length = sets.length) (lo : ∀ i (h : i < ll.length), (ll[i]).length ≤ 8796093022207) (lo2 : ∀ i (h : i < mm.length), (mm[i]).length ≤ 8796093022207)
    (hs : CMM w sa sets) (s1 : SL w a1 xs) (s2 : SLL w a2 ll) (t1 : SL w b1 ys) (t2 : SLL w b2 mm) :
    Calls Tryz.prog 3 #[.int .i64 z, .slice sa sets.length sc, .agg #[.slice a1 sets.length c1, .slice a2 sets.length c2], .agg #[.slice b1 sets.length d1, .slice b2 sets.length d2]] w fun e w' => e = .returned (.bool true) ∧ Below w.heap.size w w' := by
  have BA := fun i (hi : i < sets.length) => BACK k h (l := sets[i]) (m := ll[i]'(by omega)) (u := xs[i]'(by omega)) (hss i hi).1 (hss i hi).2
  have BB := fun i (hi : i < sets.length) => BACK k h (l := sets[i]) (m := mm[i]'(by omega)) (u := ys[i]'(by omega)) (hss i hi).1 (hss i hi).2
  have CA : ∃ (ka : Nat → Int) (La : Nat → List (List ByteArray)), ∀ i (hi : i < sets.length) (i1 : i < xs.length) (i2 : i < ll.length), (ka i = 0 → OkC (isEl S M) sets[i] ∧ (ll[i]).length = (sets[i]).length ∧ (ll[i]).all (isSc S M) = true ∧ isSc S M xs[i] = true ∧ La i = bkG S M M2 ((0 + M - numS xs[i]) % M) sets[i] ll[i]) ∧
      ∀ a c a' c' W, CM W a sets[i] → SL W a' ll[i] → Calls Tryz.prog 4 #[.int .i64 z, .slice a (sets[i]).length c, .string xs[i], .slice a' (ll[i]).length c'] W fun e w' => (∃ a9 c9 n9, e = .returned (.tuple #[.slice a9 n9 c9, .int .i64 (ka i)]) ∧ (ka i = 0 → n9 = (sets[i]).length ∧ SLL w' a9 (La i))) ∧ Below W.heap.size W w' := by
    classical
    refine ⟨fun i => if hi : i < sets.length then (BA i hi).choose else 0, fun i => if hi : i < sets.length then (BA i hi).choose_spec.choose else [], fun i hi i1 i2 => ?_⟩
    simp only [dif_pos hi]
    exact (BA i hi).choose_spec.choose_spec
  have CB : ∃ (ka : Nat → Int) (La : Nat → List (List ByteArray)), ∀ i (hi : i < sets.length) (i1 : i < ys.length) (i2 : i < mm.length), (ka i = 0 → OkC (isEl S M) sets[i] ∧ (mm[i]).length = (sets[i]).length ∧ (mm[i]).all (isSc S M) = true ∧ isSc S M ys[i] = true ∧ La i = bkG S M M2 ((0 + M - numS ys[i]) % M) sets[i] mm[i]) ∧
      ∀ a c a' c' W, CM W a sets[i] → SL W a' mm[i] → Calls Tryz.prog 4 #[.int .i64 z, .slice a (sets[i]).length c, .string ys[i], .slice a' (mm[i]).length c'] W fun e w' => (∃ a9 c9 n9, e = .returned (.tuple #[.slice a9 n9 c9, .int .i64 (ka i)]) ∧ (ka i = 0 → n9 = (sets[i]).length ∧ SLL w' a9 (La i))) ∧ Below W.heap.size W w' := by
    classical
    refine ⟨fun i => if hi : i < sets.length then (BB i hi).choose else 0, fun i => if hi : i < sets.length then (BB i hi).choose_spec.choose else [], fun i hi i1 i2 => ?_⟩
    simp only [dif_pos hi]
    exact (BB i hi).choose_spec.choose_spec
  obtain ⟨ka, La, CA⟩ := CA
  obtain ⟨kb, Lb, CB⟩ := CB
  clear BA BB
  refine law_main hn h63 hx hy hl hm hs s1 s2 t1 t2 (ka := ka) (kb := kb) (La := La) (Lb := Lb) (fun i hi i1 i2 a c a' c' W _ h1 h2 => (CA i hi i1 i2).2 a c a' c' W h1 h2) (fun i hi i1 i2 a c a' c' W _ h1 h2 => (CB i hi i1 i2).2 a c a' c' W h1 h2) (fun i hi ha hb a c a' c' W q1 q2 => ?_) (fun hall => ?_)
  · obtain ⟨ok, e1, _, _, eA⟩ := (CA i hi (by omega) (by omega)).1 ha
    obtain ⟨_, e2, _, _, eB⟩ := (CB i hi (by omega) (by omega)).1 hb
    rw [eA] at q1 ⊢
    rw [eB] at q2 ⊢
    have n1 := bkG_len (S := S) (M := M) (M2 := M2) (less := (0 + M - numS (xs[i]'(by omega))) % M) e1
    have n2 := bkG_len (S := S) (M := M) (M2 := M2) (less := (0 + M - numS (ys[i]'(by omega))) % M) e2
    have q := sameLists18 (c := c) (d := c') (by rw [n1]; exact ok.most) (fun j hj => bkG_row ok j hj) (n2.trans n1.symm) q1 q2
    rw [n1, n2] at q
    exact q
  · have fit : ∀ i (hi : i < sets.length), OkC (isEl S M) sets[i] ∧ (ll[i]'(by omega)).length = (sets[i]).length ∧ (mm[i]'(by omega)).length = (sets[i]).length ∧ (ll[i]'(by omega)).all (isSc S M) = true ∧ (mm[i]'(by omega)).all (isSc S M) = true ∧ isSc S M (xs[i]'(by omega)) = true ∧ isSc S M (ys[i]'(by omega)) = true ∧ bkG S M M2 ((0 + M - numS (xs[i]'(by omega))) % M) sets[i] (ll[i]'(by omega)) = bkG S M M2 ((0 + M - numS (ys[i]'(by omega))) % M) sets[i] (mm[i]'(by omega)) := fun i hi => by
      obtain ⟨h1, h2, h3⟩ := hall i hi
      obtain ⟨ok, e1, u1, v1, eA⟩ := (CA i hi (by omega) (by omega)).1 h1
      obtain ⟨_, e2, u2, v2, eB⟩ := (CB i hi (by omega) (by omega)).1 h2
      exact ⟨ok, e1, e2, u1, u2, v1, v2, by rw [← eA, ← eB, h3]⟩
    have Le : Lens ll := ⟨by omega, fun i hi => by have := lo i hi; omega⟩
    have Lm : Lens mm := ⟨by omega, fun i hi => by have := lo2 i hi; omega⟩
    have hev : evenB ll mm = true := evenB_of ll mm (by omega) (fun i hi hi' => by
      obtain ⟨ok, e1, e2, _⟩ := fit i (by omega)
      have := ok.pos
      omega)
    have hun : unl xs ys ll mm = false := by
      unfold unl
      rw [hev, decide_eq_false (by omega)]
      rfl
    have al : (allP (isSc S M) xs ll && allP (isSc S M) ys mm) = true := by
      unfold allP
      simp only [Bool.and_eq_true, List.all_eq_true]
      refine ⟨⟨fun s hs => ?_, fun r hr => ?_⟩, fun s hs => ?_, fun r hr => ?_⟩
      · obtain ⟨i, hi, rfl⟩ := List.mem_iff_getElem.1 hs; exact (fit i (by omega)).2.2.2.2.2.1
      · obtain ⟨i, hi, rfl⟩ := List.mem_iff_getElem.1 hr; exact List.all_eq_true.1 (fit i (by omega)).2.2.2.1
      · obtain ⟨i, hi, rfl⟩ := List.mem_iff_getElem.1 hs; exact (fit i (by omega)).2.2.2.2.2.2.1
      · obtain ⟨i, hi, rfl⟩ := List.mem_iff_getElem.1 hr; exact List.all_eq_true.1 (fit i (by omega)).2.2.2.2.1
    by_cases hE : xs = ys
    · left
      refine ⟨hE, fun W hW => ?_⟩
      have hcode : wpCode (isSc S M) xs ys ll mm = 9 := by unfold wpCode; rw [hun, al, decide_eq_true hE]; rfl
      have q := any9_wrong (w := W) (c := 9) rfl (fun X => groundOf_yes k X) (fun X hX => by
        have q := wrongPair31 (w := X) (c1 := c1) (c2 := c2) (d1 := d1) (d2 := d2) (z := z) (isSc S M) (by omega) (by omega) Le Lm ((s1.of_below hW).of_below hX) ((s2.of_below hW).of_below hX) ((t1.of_below hW).of_below hX) ((t2.of_below hW).of_below hX) (fun s Y => noScalar k s Y)
        rw [hcode, hx, hy, hl, hm] at q
        exact q)
      exact q
    · right
      refine ⟨hE, ?_⟩
      have hcode : wpCode (isSc S M) xs ys ll mm = 0 := by unfold wpCode; rw [hun, al, decide_eq_false hE]; rfl
      obtain ⟨j, fd⟩ := FD.exists xs ys (by omega) hE
      have j1 := fd.lt1
      have j2 := fd.lt2
      have hj : j < sets.length := by omega
      obtain ⟨ok, e1, e2, u1, u2, v1, v2, eb⟩ := fit j hj
      have ne := fd.ne
      refine ⟨j, List.zipWith (ext S M xs[j] ys[j]) (ll[j]'(by omega)) (mm[j]'(by omega)), hj, fun W hW => ?_, fun W a c a' c' hW hcm hsl => ?_⟩
      · have q := EXA k h.hq (w := W) (c1 := c1) (c2 := c2) (d1 := d1) (d2 := d2) (j := j) (by omega) (by omega) Le Lm (by omega) (by omega) (s1.of_below hW) (s2.of_below hW) (t1.of_below hW) (t2.of_below hW) hcode fd (by omega) (by omega) (lo j (by omega)) (by omega) v1 v2 u1 u2
        obtain ⟨rs, hrs⟩ : ∃ rs, rs = List.zipWith (ext S M xs[j] ys[j]) (ll[j]'(by omega)) (mm[j]'(by omega)) := ⟨_, rfl⟩
        rw [← hrs] at q ⊢
        rw [hx, hy, hl, hm] at q
        exact q
      · have len : (List.zipWith (ext S M xs[j] ys[j]) (ll[j]'(by omega)) (mm[j]'(by omega))).length = (sets[j]).length := by simp; omega
        have nn : numS xs[j] ≠ numS ys[j] := fun he => ne (by rw [← TX_numS (isSc_size v1), ← TX_numS (isSc_size v2), he])
        have m1 := h.m1
        have sc' : (List.zipWith (ext S M xs[j] ys[j]) (ll[j]'(by omega)) (mm[j]'(by omega))).all (isSc S M) = true := by
          rw [List.all_eq_true]
          intro s hs
          obtain ⟨i, hi, rfl⟩ := List.mem_iff_getElem.1 hs
          rw [List.getElem_zipWith]
          exact k.sc (Nat.mod_lt _ (by omega))
        have snd := sound_set h ok (c := numS xs[j]) (d := numS ys[j]) e1 e2 len u1 u2 (isSc_lt v1) (isSc_lt v2) nn (fun i h1 h2 h3 => by rw [List.getElem_zipWith]; exact ext_mul k.sz h.hq v1 v2 ne) eb
        have q := HOLG k h ok (c := c) (d := c') hcm hsl len sc'
        rw [decide_eq_true snd] at q
        rw [len]
        exact q
end
end Go.Proofs.YtokkjdelomkfiaaGreat
