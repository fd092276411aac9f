/- Claims that are made: they hold. -/
import Derived.Test.YtokkjdelomkfiaaCf
import Derived.Test.YtokkjdelomkfiaaSm3
import Derived.Laws.AppendOwn
set_option linter.unusedSimpArgs false
set_option linter.unusedVariables false
set_option maxRecDepth 100000
namespace Go.Proofs.Ytokkjdelomkfiaa
open Go.RowKit Go.Deep Go.PlainAid

/-- Claims as the cells hold them: each is two slices of two texts. -/
def cellsC : List (Nat × Nat) → List Value
  | [] => []
  | p :: l => .slice (some ⟨p.1, 0, none⟩) 2 2 :: .slice (some ⟨p.2, 0, none⟩) 2 2 :: cellsC l
theorem cellsC_len : ∀ l, (cellsC l).length = l.length * 2
  | [] => rfl
  | p :: l => by simp [cellsC, cellsC_len l]; omega
theorem cellsC_append : ∀ l r, cellsC (l ++ r) = cellsC l ++ cellsC r
  | [], r => rfl
  | p :: l, r => by simp [cellsC, cellsC_append l r]
theorem cellsC_at : ∀ (l : List (Nat × Nat)) (i : Nat) (h : i < l.length), (cellsC l)[i * 2]? = some (.slice (some ⟨(l[i]).1, 0, none⟩) 2 2) ∧ (cellsC l)[i * 2 + 1]? = some (.slice (some ⟨(l[i]).2, 0, none⟩) 2 2)
  | [], i, h => by simp at h
  | p :: l, 0, h => by simp [cellsC]
  | p :: l, i + 1, h => by
    have := cellsC_at l i (by simpa using h)
    rw [show (i + 1) * 2 = i * 2 + 1 + 1 by omega, cellsC]
    simpa using this
/-- A list of claims, laid out of its own. -/
structure MD (w : World) (b0 : Nat) (v : Value) (xs : List ByteArray) (f g : ByteArray → ByteArray) (bs ot : ByteArray) (B : List (Nat × Nat)) : Prop where
  len : B.length = xs.length
  own : w.ownsRow b0 48 2 v xs.length (cellsC B)
  each : ∀ i (h : i < B.length) (h' : i < xs.length), IHolds w (B[i]).1 9 [.string bs, .string ot] ∧ IHolds w (B[i]).2 9 [.string (f xs[i]), .string (g xs[i])] ∧ (B[i]).1 ≠ (B[i]).2 ∧ b0 ≤ (B[i]).2
theorem MD.begin (w : World) (b0 : Nat) (f g : ByteArray → ByteArray) (bs ot : ByteArray) : MD w b0 (.slice none 0 0) [] f g bs ot [] :=
  ⟨rfl, ⟨rfl, Or.inl ⟨rfl, rfl⟩⟩, fun i h => by simp at h⟩
theorem MD.of_below {w w' : World} {b0 : Nat} {v : Value} {xs : List ByteArray} {f g : ByteArray → ByteArray} {bs ot : ByteArray} {B : List (Nat × Nat)} (h : MD w b0 v xs f g bs ot B) (hb : Below w.heap.size w w') : MD w' b0 v xs f g bs ot B := by
  refine ⟨h.len, ?_, fun i h1 h2 => ?_⟩
  · obtain ⟨hl, ⟨rfl, h0⟩ | ⟨r, cap, cur, rfl, q1, hg, q2, q3, q4, q5⟩⟩ := h.own
    · exact ⟨hl, Or.inl ⟨rfl, h0⟩⟩
    · exact ⟨hl, Or.inr ⟨r, cap, cur, rfl, q1, by rw [hb.block r (Array.getElem?_eq_some_iff.1 hg).1]; exact hg, q2, q3, q4, q5⟩⟩
  · obtain ⟨k1, k2, k3, k4⟩ := h.each i h1 h2
    exact ⟨k1.of_below hb, k2.of_below hb, k3, k4⟩
theorem own_apart {w : World} {b0 n b : Nat} {v : Value} {cs L : List Value} (h : w.ownsRow b0 48 2 v n cs) (hI : IHolds w b 9 L) : v.ownBlock ≠ some b := by
  obtain ⟨hl, ⟨rfl, h0⟩ | ⟨r, cap, cur, rfl, q1, hg, q2, q3, q4, q5⟩⟩ := h
  · intro e; cases e
  · intro e
    have e' : r = b := by simpa [Value.ownBlock] using e
    subst e'
    unfold IHolds at hI
    rw [hg] at hI
    cases hI
theorem IHolds.grown {w w' : World} {b : Nat} {T : TypeId} {L : List Value} {row : Option Nat} (h : IHolds w b T L) (hg : w.grownBy w' row) (hne : row ≠ some b) : IHolds w' b T L := by
  unfold IHolds
  rw [hg.block b h.lt (fun e => hne e.symm)]
  exact h
theorem MD.step {w w' : World} {b0 : Nat} {v v' : Value} {xs : List ByteArray} {f g : ByteArray → ByteArray} {bs ot x : ByteArray} {B : List (Nat × Nat)} (h : MD w b0 v xs f g bs ot B) {p q : Nat}
    (hown : w'.ownsRow b0 48 2 v' (xs.length + 1) (cellsC B ++ cellsC [(p, q)])) (hgr : w.grownBy w' v.ownBlock) (hp : IHolds w p 9 [.string bs, .string ot]) (hq : IHolds w q 9 [.string (f x), .string (g x)]) (hne : p ≠ q) (hb : b0 ≤ q) :
    MD w' b0 v' (xs ++ [x]) f g bs ot (B ++ [(p, q)]) := by
  refine ⟨by simp [h.len], by rw [cellsC_append, List.length_append]; exact hown, fun i h1 h2 => ?_⟩
  have keep : ∀ {b : Nat} {L : List Value}, IHolds w b 9 L → IHolds w' b 9 L := fun hI => hI.grown hgr (own_apart h.own hI)
  by_cases hi : i < B.length
  · have hi' : i < xs.length := by rw [← h.len]; exact hi
    obtain ⟨k1, k2, k3, k4⟩ := h.each i hi hi'
    rw [List.getElem_append_left hi, List.getElem_append_left hi']
    exact ⟨keep k1, keep k2, k3, k4⟩
  · have e : i = B.length := by simp at h1; omega
    have e' : i = xs.length := by rw [← h.len]; exact e
    have g1 : (B ++ [(p, q)])[i] = (p, q) := by simp [e]
    have g2 : (xs ++ [x])[i] = x := by simp [e']
    rw [g1, g2]
    exact ⟨keep hp, keep hq, hne, hb⟩
theorem two_sl {w : World} {b : Nat} {x y : ByteArray} (h : IHolds w b 9 [.string x, .string y]) : SL w (some ⟨b, 0, none⟩) [x, y] := IHolds.sl (q := [x, y]) h
theorem MD.cm {w : World} {b0 : Nat} {v : Value} {xs : List ByteArray} {f g : ByteArray → ByteArray} {bs ot : ByteArray} {B : List (Nat × Nat)} (h : MD w b0 v xs f g bs ot B) : ∃ a c, v = .slice a xs.length c ∧ CM w a (xs.map fun x => ([bs, ot], [f x, g x])) := by
  obtain ⟨hl, ⟨rfl, h0⟩ | ⟨r, cap, cur, rfl, q1, hg, q2, q3, q4, q5⟩⟩ := h.own
  · exact ⟨none, 0, by rw [h0], fun i hi => by simp at hi; omega⟩
  · refine ⟨_, _, rfl, fun i hi => ?_⟩
    have hi' : i < xs.length := by simpa using hi
    have hB : i < B.length := by rw [h.len]; exact hi'
    obtain ⟨k1, k2, _, _⟩ := h.each i hB hi'
    obtain ⟨g1, g2⟩ := cellsC_at B i hB
    have cell : ∀ j u, j < xs.length * 2 → (cellsC B)[j]? = some u → w.cell? ⟨r, 0 + j, none⟩ = some u := fun j u hj hu => by
      rw [← q5, List.getElem?_take_of_lt hj, Array.getElem?_toList] at hu
      rw [Nat.zero_add]
      unfold World.cell?
      simp [hg, hu]
    refine ⟨r, 0, some ⟨(B[i]).1, 0, none⟩, 2, some ⟨(B[i]).2, 0, none⟩, 2, rfl, ?_, ?_, ?_, ?_⟩
    · simpa using cell _ _ (by omega) g1
    · have := cell _ _ (by omega) g2
      simpa [Nat.add_assoc] using this
    · simpa using two_sl k1
    · simpa using two_sl k2
theorem Try.info48' : (Try.prog.info? 48).map (fun i => (i.zero, i.size, i.bytes)) = some (some (.agg #[.slice none 0 0, .slice none 0 0]), 2, 48) := by kernel_rfl
theorem made12_no1 {w : World} {z : Int} {ot r : ByteArray} {v : Value} {c : Int} (hc : (c != 0) = true) (CB : ∀ W, Calls Try.prog 34 #[.int .i64 z] W fun e w' => e = .returned (.tuple #[.string r, .int .i64 c]) ∧ Below W.heap.size W w') :
    Calls Try.prog 12 #[.int .i64 z, .string ot, v] w fun e w' => e = .returned (.slice none 0 0) ∧ Below w.heap.size w w' := by
  go_enter Try.func12, Try.ntmps12
  go_wp2_with (go_at_call 34; refine (CB _).mono ?_; rintro e w1 ⟨rfl, hB1⟩)
  go_ret
  exact ⟨rfl, hB1⟩
theorem made12_no2 {w : World} {z : Int} {ot r : ByteArray} {v : Value} (CB : ∀ W, Calls Try.prog 34 #[.int .i64 z] W fun e w' => e = .returned (.tuple #[.string r, .int .i64 0]) ∧ Below W.heap.size W w')
    (CM' : ∀ W, Calls Try.prog 35 #[.int .i64 z, .string ot] W fun e w' => e = .returned (.bool false) ∧ Below W.heap.size W w') :
    Calls Try.prog 12 #[.int .i64 z, .string ot, v] w fun e w' => e = .returned (.slice none 0 0) ∧ Below w.heap.size w w' := by
  have H1 : Hid _ := CB
  have H2 : Hid _ := CM'
  clear CB CM'
  go_enter Try.func12, Try.ntmps12
  go_wp2_with (first
    | (go_at_call 34; refine (H1.out _).mono ?_; rintro e w1 ⟨rfl, hB1⟩; have B1 : Hid (Below w.heap.size w w1) := hB1; clear hB1)
    | (go_at_call 35; refine (H2.out _).mono ?_; rintro e w2 ⟨rfl, hB2⟩; have B2 : Hid (Below w.heap.size w w2) := B1.out.trans (hB2.mono B1.out.size); clear hB2))
  go_ret
  exact ⟨rfl, B2.out⟩
theorem news_of {w : World} {b : Nat} {T : TypeId} {L : List Value} (h : IHolds w b T L) : ∀ j u, L[j]? = some u → w.cell? ((⟨b, 0, none⟩ : Addr).add j) = some u := fun j u hu => by
  obtain ⟨hj, e⟩ := List.getElem?_eq_some_iff.1 hu
  have hc := h.cell j hj
  rw [e] at hc
  unfold Addr.add
  by_cases h0 : j = 0
  · subst h0; simpa using hc
  · simpa [h0] using hc
theorem cellsC_one : ∀ l, ∀ u ∈ cellsC l, u.oneCell' = true
  | [], u, h => by simp [cellsC] at h
  | p :: l, u, h => by
    simp only [cellsC, List.mem_cons] at h
    rcases h with rfl | rfl | h
    · rfl
    · rfl
    · exact cellsC_one l u h
theorem three (w4 : World) (bs ot fx gx : ByteArray) : ∃ W7, ((w4.alloc (.cells #[.string bs, .string ot] 9)).alloc (.cells #[.string fx, .string gx] 9)).alloc (.cells #[.slice (some ⟨w4.heap.size, 0, none⟩) 2 2, .slice (some ⟨w4.heap.size + 1, 0, none⟩) 2 2] 48) = W7 ∧ Hid (Below w4.heap.size w4 W7) ∧ Hid (IHolds W7 w4.heap.size 9 [.string bs, .string ot]) ∧ Hid (IHolds W7 (w4.heap.size + 1) 9 [.string fx, .string gx]) ∧ Hid (IHolds W7 (w4.heap.size + 1 + 1) 48 (cellsC [(w4.heap.size, w4.heap.size + 1)])) := by
  refine ⟨_, rfl, ?_, ?_, ?_, ?_⟩
  · exact (((Below.refl _ _).alloc (Nat.le_refl _) _).alloc (by simp) _).alloc (by simp; omega) _
  · exact ((IHolds.new w4 9 [_, _]).alloc _).alloc _
  · exact (IHolds.new' _ 9 [_, _] (by simp)).alloc _
  · exact IHolds.new' _ 48 [_, _] (by simp)
/-- What is made of secrets. -/
def Made (p : ByteArray → Bool) (f g : ByteArray → ByteArray) (bs ot : ByteArray) (l : List ByteArray) (b0 : Nat) (e : Ending) (w' : World) : Prop :=
  (l.all p = true ∧ ∃ v B, e = .returned v ∧ MD w' b0 v l f g bs ot B) ∨ (l.all p = false ∧ e = .returned (.slice none 0 0))
set_option maxHeartbeats 4000000 in
theorem made12 {w : World} {z : Int} {a : Option Addr} {l : List ByteArray} {c : Nat} {bs ot : ByteArray} {p : ByteArray → Bool} {f g : ByteArray → ByteArray} (hl : l.length ≤ 1048576) (hs : SL w a l)
    (CB : ∀ W, Calls Try.prog 34 #[.int .i64 z] W fun e w' => e = .returned (.tuple #[.string bs, .int .i64 0]) ∧ Below W.heap.size W w')
    (CM' : ∀ W, Calls Try.prog 35 #[.int .i64 z, .string ot] W fun e w' => e = .returned (.bool true) ∧ Below W.heap.size W w')
    (CY : ∀ x, p x = true → ∀ W, (Calls Try.prog 20 #[.int .i64 z, .string bs, .string x] W fun e w' => e = .returned (.tuple #[.string (f x), .int .i64 0]) ∧ Below W.heap.size W w') ∧ (Calls Try.prog 20 #[.int .i64 z, .string ot, .string x] W fun e w' => e = .returned (.tuple #[.string (g x), .int .i64 0]) ∧ Below W.heap.size W w'))
    (CN : ∀ x, p x = false → ∀ W, (Calls Try.prog 20 #[.int .i64 z, .string bs, .string x] W fun e w' => e = .returned (.tuple #[.string ⟨#[]⟩, .int .i64 6]) ∧ Below W.heap.size W w') ∧ (Calls Try.prog 20 #[.int .i64 z, .string ot, .string x] W fun e w' => e = .returned (.tuple #[.string ⟨#[]⟩, .int .i64 6]) ∧ Below W.heap.size W w')) :
    Calls Try.prog 12 #[.int .i64 z, .string ot, .slice a l.length c] w fun e w' => Made p f g bs ot l w.heap.size e w' ∧ Below w.heap.size w w' := by
  have H1 : Hid _ := CB
  have H2 : Hid _ := CM'
  have HY : Hid _ := CY
  have HN : Hid _ := CN
  have HS : Hid (SL w a l) := hs
  obtain ⟨i0, hi0, hz0, hz1, hz2⟩ := info_parts Try.info48'
  clear CB CM' CY CN hs
  go_enter Try.func12, Try.ntmps12
  go_wp2_with (first
    | (go_at_call 34; refine (H1.out _).mono ?_; rintro e w1 ⟨rfl, hB1⟩; have B1 : Hid (Below w.heap.size w w1) := hB1; clear hB1)
    | (go_at_call 35; refine (H2.out _).mono ?_; rintro e w2 ⟨rfl, hB2⟩; have B2 : Hid (Below w.heap.size w w2) := B1.out.trans (hB2.mono B1.out.size); clear hB2))
  go_loopg [9, 11, 12, 13, 14, 15, 31] l.length (fun gk v9 v11 v12 v13 v14 v15 v31 wr => ∃ (i : Nat) (B : List (Nat × Nat)), i + gk = l.length ∧ v31 = .int .i64 (i : Int) ∧ Below w.heap.size w wr ∧ (l.take i).all p = true ∧ MD wr w.heap.size v9 (l.take i) f g bs ot B)
  case atStart => exact ⟨0, [], by omega, rfl, B2.out, by simp, MD.begin _ _ _ _ _ _⟩
  case round =>
    obtain ⟨i, B, hig, rfl, hB, hA, hM⟩ := hrel
    have BB : Hid (Below w.heap.size w wr) := hB
    have HA : Hid _ := hA
    have HM : Hid _ := hM
    clear hB hA hM B1 B2 H1 H2
    by_cases hi : i < l.length
    · obtain ⟨b, o, rfl, hc⟩ := HS.out.of_below BB.out i hi
      have il : (i : Int) < (l.length : Int) := by omega
      have HT : Hid _ := List.take_succ_eq_append_getElem hi
      have HF : Hid (p l[i] = false → l.all p = false) := all_not p hi
      have HLn : Hid ((l.take i).length = i) := by show _ = _; simp; omega
      generalize l[i] = x at *
      cases hp : p x with
      | false =>
        have HX1 : Hid (∀ W, Calls Try.prog 20 #[.int .i64 z, .string bs, .string x] W fun e w' => e = .returned (.tuple #[.string ⟨#[]⟩, .int .i64 6]) ∧ Below W.heap.size W w') := fun W => (HN.out x hp W).1
        have HX2 : Hid (∀ W, Calls Try.prog 20 #[.int .i64 z, .string ot, .string x] W fun e w' => e = .returned (.tuple #[.string ⟨#[]⟩, .int .i64 6]) ∧ Below W.heap.size W w') := fun W => (HN.out x hp W).2
        have HZ : Hid _ := HF.out hp
        clear HY HN HF HM HT HA
        go_wp2_with (go_at_call 20; first
          | (have zz := BB.out; clear zz; refine (HX1.out _).mono ?_; rintro e w3 ⟨rfl, hB3⟩; have B3 : Hid (Below w.heap.size w w3) := BB.out.trans (hB3.mono BB.out.size); clear hB3 BB)
          | (have zz := B3.out; clear zz; refine (HX2.out _).mono ?_; rintro e w4 ⟨rfl, hB4⟩; have B4 : Hid (Below w.heap.size w w4) := B3.out.trans (hB4.mono B3.out.size); clear hB4 B3))
        go_ret
        exact ⟨Or.inr ⟨HZ.out, rfl⟩, B4.out⟩
      | true =>
        have HX1 : Hid (∀ W, Calls Try.prog 20 #[.int .i64 z, .string bs, .string x] W fun e w' => e = .returned (.tuple #[.string (f x), .int .i64 0]) ∧ Below W.heap.size W w') := fun W => (HY.out x hp W).1
        have HX2 : Hid (∀ W, Calls Try.prog 20 #[.int .i64 z, .string ot, .string x] W fun e w' => e = .returned (.tuple #[.string (g x), .int .i64 0]) ∧ Below W.heap.size W w') := fun W => (HY.out x hp W).2
        have HP : Hid (p x = true) := hp
        clear HY HN HF hp
        go_wp2_with (first
          | (go_at_call 20; have zz := BB.out; clear zz; refine (HX1.out _).mono ?_; rintro e w3 ⟨rfl, hB3⟩; have B3 : Hid (Below w.heap.size w w3) := BB.out.trans (hB3.mono BB.out.size); have M3 : Hid _ := HM.out.of_below hB3; clear hB3 BB HM)
          | (go_at_call 20; have zz := B3.out; clear zz; refine (HX2.out _).mono ?_; rintro e w4 ⟨rfl, hB4⟩; have B4 : Hid (Below w.heap.size w w4) := B3.out.trans (hB4.mono B3.out.size); have M4 : Hid _ := M3.out.of_below hB4; clear hB4 B3 M3; obtain ⟨W7, hW, BW, J1, J2, J3⟩ := three w4 bs ot (f x) (g x); have M7 : Hid _ := M4.out.of_below BW.out; have B7 : Hid (Below w.heap.size w W7) := B4.out.trans (BW.out.mono B4.out.size); have hle : Hid (w.heap.size ≤ w4.heap.size) := B4.out.size; clear M4 B4 BW; have HOwn : Hid (W7.ownsRow w.heap.size 48 2 u9 i (cellsC B)) := by (have h := M7.out.own; rw [HLn.out] at h; first | done | exact h))
          | (at_builtin; refine wpList_append_own _ rfl (.tmp 55) (.tmp 63) 36 rfl w.heap.size 48 i0 (.agg #[.slice none 0 0, .slice none 0 0]) 2 48 Try.underlying36 hi0 hz0 hz1 hz2 rfl (by decide) u9 i (cellsC B) rfl HOwn.out ⟨w4.heap.size + 1 + 1, 0, none⟩ 1 1 (cellsC [(w4.heap.size, w4.heap.size + 1)]) rfl rfl (news_of J3.out) (cellsC_one _) (by unfold maxLen; omega) (by omega) B7.out.size ?_; intro v2 w8 hown hgrow hn; have B8 : Hid (Below w.heap.size w w8) := B7.out.grown hgrow B7.out.size (fun k hk => (HOwn.out.lt k hk).1); have M8 : Hid (MD w8 w.heap.size v2 (l.take i ++ [x]) f g bs ot (B ++ [(w4.heap.size, w4.heap.size + 1)])) := MD.step M7.out (by rw [HLn.out]; exact hown) hgrow J1.out J2.out (by omega) (by have := hle.out; omega); clear hown hgrow hn))
        have HA2 : Hid ((l.take (i + 1)).all p = true) := by show _ = _; rw [HT.out, List.all_append, HA.out]; simp [HP.out]
        rw [← HT.out] at M8
        go_roundg (gk - 1)
        case measure => omega
        case rel => exact ⟨i + 1, _, by omega, by go_num, B8.out, HA2.out, M8.out⟩
    · have il : ¬ (i : Int) < (l.length : Int) := by omega
      have e : i = l.length := by omega
      have HA2 : Hid (l.all p = true) := by have h := HA.out; rw [e, List.take_length] at h; exact h
      have HM2 : Hid (MD wr w.heap.size u9 l f g bs ot B) := by have h := HM.out; rw [e, List.take_length] at h; exact h
      clear e HA HM
      go_wp2_with fail
      go_ret
      exact ⟨Or.inl ⟨HA2.out, _, _, rfl, HM2.out⟩, BB.out⟩
end Go.Proofs.Ytokkjdelomkfiaa
