/- Blocks, on the document's side; same. -/
import Derived.Test.YtckgihloiecdmaaDoorDgm
set_option linter.unusedSimpArgs false
set_option linter.unusedVariables false
set_option maxRecDepth 100000
namespace Go.Proofs.YtckgihloiecdmaaDoor
open Go.RowKit Go.Deep Go.PlainAid

theorem down_log (d lo : Nat) (hd : 1 ≤ d) : ∃ j, j ≤ 20 ∧ down 20 d lo = 2 ^ j := by
  obtain ⟨j, h1, h2, _⟩ := down_spec d lo hd 20
  exact ⟨j, h1, h2⟩
/-- A span of a cover, with the power of two that it is long. -/
theorem cov_span : ∀ (k lo hi : Nat) (p : Nat × Nat), p ∈ cov k lo hi → ∃ j, j ≤ 20 ∧ p.2 = p.1 + 2 ^ j ∧ lo ≤ p.1 ∧ p.2 ≤ hi
  | 0, lo, hi, p, h => by simp [cov] at h
  | k + 1, lo, hi, p, h => by
    rw [cov] at h
    split at h
    · rename_i hlt
      have hd := down_pos (hi - lo) lo (by omega) 20
      obtain ⟨j, h1, h2⟩ := down_log (hi - lo) lo (by omega)
      rcases List.mem_cons.1 h with rfl | h
      · exact ⟨j, h1, by rw [← h2], Nat.le_refl _, by show lo + _ ≤ hi; omega⟩
      · obtain ⟨j', q1, q2, q3, q4⟩ := cov_span k _ hi p h
        exact ⟨j', q1, q2, by omega, q4⟩
    · simp at h
/-- The logarithm of a power of two. -/
def lg : Nat → Nat → Nat
  | 0, _ => 0
  | f + 1, n => if n ≤ 1 then 0 else 1 + lg f (n / 2)
theorem lg_pow : ∀ (j f : Nat), j ≤ f → lg f (2 ^ j) = j
  | 0, f, _ => by cases f <;> simp [lg]
  | j + 1, 0, h => by omega
  | j + 1, f + 1, h => by
    rw [lg, if_neg (by have : 1 ≤ 2 ^ j := Nat.one_le_two_pow; rw [Nat.pow_succ]; omega), Nat.pow_succ, Nat.mul_div_cancel _ (by omega), lg_pow j f (by omega)]
    omega
/-- The digest of a span. -/
def blk (tg : ByteArray → List ByteArray → ByteArray) (E : List ByteArray) (p : Nat × Nat) : ByteArray := dgst tg (lg 20 (p.2 - p.1)) (seg E p.1 (p.2 - p.1))
section
variable {tg : ByteArray → List ByteArray → ByteArray}
theorem one_news (w : World) (s : ByteArray) : ∀ j u, [Value.string s][j]? = some u → (w.alloc (.cells #[.string s] 9)).cell? ((⟨w.heap.size, 0, none⟩ : Addr).add j) = some u := fun j u hu => by
  match j, hu with
  | 0, hu => simp at hu; subst hu; simp [Addr.add]
theorem own_sl {w : World} {base : Nat} {v : Value} {n : Nat} {qs : List ByteArray} (hn : qs.length = n) (h : w.ownsRow base 9 1 v n (qs.map Value.string)) : ∃ a' c', v = .slice a' n c' ∧ SL w a' qs := by
  obtain ⟨hl, ⟨rfl, h0⟩ | ⟨g, cap, cur, rfl, h1, hg, h2, h3, h4, h5⟩⟩ := h
  · refine ⟨none, 0, by rw [h0], fun i hi => ?_⟩
    omega
  · refine ⟨_, _, rfl, fun i hi => ⟨g, 0, rfl, ?_⟩⟩
    have e : (cur.toList.take (n * 1))[i]? = (qs.map Value.string)[i]? := by rw [h5]
    rw [List.getElem?_take_of_lt (by omega), List.getElem?_map, List.getElem?_eq_getElem hi, Array.getElem?_toList] at e
    rw [Nat.zero_add]
    unfold World.cell?
    simp [hg, e]
theorem row_keep {w w' : World} {base : Nat} {e : TypeId} {s n : Nat} {v : Value} {xs : List Value} (h : w.ownsRow base e s v n xs) (hb : Below w.heap.size w w') : w'.ownsRow base e s v n xs := by
  obtain ⟨h1, h2 | ⟨g, cap, cur, q1, q2, q3, q4⟩⟩ := h
  · exact ⟨h1, Or.inl h2⟩
  · exact ⟨h1, Or.inr ⟨g, cap, cur, q1, q2, (hb.block g (Array.getElem?_eq_some_iff.1 q3).1).trans q3, q4⟩⟩
theorem info9 : (Tryd.prog.info? 9).map (fun i => (i.zero, i.size, i.bytes)) = some (some (.string ⟨#[]⟩), 1, 16) := by kernel_rfl
theorem map_take {f : Nat × Nat → ByteArray} {L : List (Nat × Nat)} {i : Nat} (h : i < L.length) : (L.take (i + 1)).map f = (L.take i).map f ++ [f L[i]] := by
  rw [List.take_succ_eq_append_getElem h, List.map_append]
  rfl
set_option maxHeartbeats 2000000 in
theorem refBlocks_no (w : World) {a : Option Addr} {n c : Nat} (lo hi : Int) (h : ¬ (0 ≤ lo ∧ lo ≤ hi ∧ hi ≤ (n : Int)) ∨ 1048576 < n) : Calls Tryd.prog 6 #[.slice a n c, .int .i64 lo, .int .i64 hi] w fun e w' => e = .returned (.tuple #[.slice none 0 0, .int .i64 4]) ∧ Below w.heap.size w w' := by
  by_cases hr : 0 ≤ lo ∧ lo ≤ hi ∧ hi ≤ (n : Int)
  · have HR : Hid (Calls Tryd.prog 15 #[.int .i64 lo, .int .i64 hi, .int .i64 (n : Int)] w fun e w' => e = .returned (.bool true) ∧ w' = w) := right15 w lo hi n true (decide_eq_true hr)
    have hn : (1048576 : Int) < (n : Int) := by omega
    clear h hr
    go_enter Tryd.func6, Tryd.ntmps6
    go_wp2_with (go_at_call 15; refine HR.out.mono ?_; rintro e w1 ⟨rfl, rfl⟩)
    exact bodyPost_ret (v := .tuple #[.slice none 0 0, .int .i64 4]) (by simp [results, Tryd.results6, go_sem]) rfl ⟨rfl, Below.refl _ _⟩
  · have HR : Hid (Calls Tryd.prog 15 #[.int .i64 lo, .int .i64 hi, .int .i64 (n : Int)] w fun e w' => e = .returned (.bool false) ∧ w' = w) := right15 w lo hi n false (decide_eq_false hr)
    clear h hr
    go_enter Tryd.func6, Tryd.ntmps6
    go_wp2_with (go_at_call 15; refine HR.out.mono ?_; rintro e w1 ⟨rfl, rfl⟩)
    exact bodyPost_ret (v := .tuple #[.slice none 0 0, .int .i64 4]) (by simp [results, Tryd.results6, go_sem]) rfl ⟨rfl, Below.refl _ _⟩
theorem cover_mem {lo hi : Nat} {i : Nat} (h : i < (cover lo hi).length) : ∃ j, j ≤ 20 ∧ (cover lo hi)[i].2 = (cover lo hi)[i].1 + 2 ^ j ∧ lo ≤ (cover lo hi)[i].1 ∧ (cover lo hi)[i].2 ≤ hi := cov_span _ lo hi _ (List.getElem_mem h)
set_option maxHeartbeats 4000000 in
theorem refBlocks_yes (hts : ∀ l ps, (tg l ps).size = 32) {w : World} (T : TagC tg 21 w) {a : Option Addr} {c : Nat} (E : List ByteArray) (hE : E.length ≤ 1048576) (hc : E.length ≤ c) (hc2 : c ≤ 9223372036854775807) (hs : ∀ p ∈ E, p.size ≤ 1048576) (h : SL w a E) (lo hi : Nat) (h1 : lo ≤ hi) (h2 : hi ≤ E.length) :
    Calls Tryd.prog 6 #[.slice a E.length c, .int .i64 (lo : Int), .int .i64 (hi : Int)] w fun e w' => (∃ a' c', e = .returned (.tuple #[.slice a' ((cover lo hi).map (blk tg E)).length c', .int .i64 0]) ∧ SL w' a' ((cover lo hi).map (blk tg E))) ∧ Below w.heap.size w w' := by
  have HR : Hid (Calls Tryd.prog 15 #[.int .i64 (lo : Int), .int .i64 (hi : Int), .int .i64 (E.length : Int)] w fun e w' => e = .returned (.bool true) ∧ w' = w) := right15 w lo hi E.length true (decide_eq_true (by omega))
  have HP : Hid (Calls Tryd.prog 16 #[.int .i64 (lo : Int), .int .i64 (hi : Int)] w fun e w' => (∃ a c, e = .returned (.slice a (cover lo hi).length c) ∧ SPL w' a (cover lo hi) ∧ (cover lo hi = [] → a = none ∧ c = 0)) ∧ Below w.heap.size w w') := parts16 1048576 lo hi (by omega) h1 (by omega) w
  have HE : Hid (SL w a E) := h
  have HM : Hid (∀ i (h : i < (cover lo hi).length), ∃ j, j ≤ 20 ∧ (cover lo hi)[i].2 = (cover lo hi)[i].1 + 2 ^ j ∧ lo ≤ (cover lo hi)[i].1 ∧ (cover lo hi)[i].2 ≤ hi) := fun i h => cover_mem h
  have hlen := cover_len lo hi (by omega)
  have HS : Hid (∀ p ∈ E, p.size ≤ 1048576) := hs
  have hne : ¬ (1048576 : Int) < (E.length : Int) := by omega
  obtain ⟨i0, hi0, hz0, hz1, hz2⟩ := info_parts info9
  have HT : Hid (TagC tg 21 w) := T
  have HTS : Hid (∀ l ps, (tg l ps).size = 32) := hts
  clear h hs T hts
  generalize cover lo hi = L at *
  simp only [List.length_map]
  go_enter Tryd.func6, Tryd.ntmps6
  go_wp2_with (first
    | (go_at_call 15; refine HR.out.mono ?_; rintro e w1 ⟨rfl, rfl⟩)
    | (go_at_call 16; refine HP.out.mono ?_; rintro e w2 ⟨⟨a2, c2, rfl, hs2, hnl⟩, hB2⟩; clear hnl; have B2 : Hid (Below w1.heap.size w1 w2) := hB2; have S2 : Hid (SPL w2 a2 L) := hs2; clear hB2 hs2))
  clear HR HP
  go_loopg [8, 10, 26] (L.length) (fun gk v8 v10 v26 wr => ∃ i : Nat, i + gk = L.length ∧ v26 = .int .i64 (i : Int) ∧ wr.ownsRow w2.heap.size 9 1 v8 i (((L.take i).map (blk tg E)).map Value.string) ∧ Below w2.heap.size w2 wr)
  case atStart => exact ⟨0, by omega, rfl, World.ownsRow_nil _ _ _ _, Below.refl _ _⟩
  case round =>
    obtain ⟨i, hig, rfl, hO, hB⟩ := hrel
    have B : Hid (Below w2.heap.size w2 wr) := hB
    have O : Hid (wr.ownsRow w2.heap.size 9 1 u8 i (((L.take i).map (blk tg E)).map Value.string)) := hO
    clear hB hO
    by_cases hi : i < L.length
    · have il : (i : Int) < (L.length : Int) := by omega
      obtain ⟨b2, o2, rfl, q1, q2⟩ := (S2.out.of_below B.out).two i hi
      rw [Nat.mul_comm 2 i] at q1 q2
      obtain ⟨j, hj, m1, m2, m3⟩ := HM.out i hi
      have HMT : Hid _ := map_take (f := blk tg E) hi
      generalize L[i] = p at *
      obtain ⟨p1, p2⟩ := p
      dsimp only at q1 q2 m1 m2 m3
      obtain ⟨N, hN⟩ : ∃ N, N = 2 ^ j := ⟨_, rfl⟩
      have hN1 : 1 ≤ N := by rw [hN]; exact Nat.one_le_two_pow
      obtain ⟨b, o, rfl, hr0⟩ := HE.out p1 (by omega)
      have B12 : Hid (Below w1.heap.size w1 wr) := B2.out.trans (B.out.mono B2.out.size)
      have C17 : Hid (∀ V, Below wr.heap.size wr V → Calls Tryd.prog 17 #[.slice (some ⟨b, o + p1, none⟩) N (c - p1)] V fun e w' => e = .returned (.string (blk tg E (p1, p2))) ∧ Below V.heap.size V w') := fun V hV => by
        have hb1 : Below w1.heap.size w1 V := B12.out.trans (hV.mono B12.out.size)
        have e1 : p2 - p1 = N := by omega
        have q := digest17 HTS.out j (seg E p1 N) V (some ⟨b, o + p1, none⟩) (c - p1) (HT.out.of hb1) hj (by rw [seg_len (by omega), hN]) (by rw [seg_len (by omega)]; omega) (by omega) (fun p hp => HS.out p (List.mem_of_mem_drop (List.mem_of_mem_take hp))) ((HE.out.of_below hb1).seg (by omega))
        rw [seg_len (by omega)] at q
        have e2 : blk tg E (p1, p2) = dgst tg j (seg E p1 N) := by
          unfold blk
          simp only [e1]
          rw [hN, lg_pow j 20 hj]
        rw [e2]
        exact q
      generalize blk tg E (p1, p2) = D at *
      have k1 : p2 - p1 = N := by omega
      have k2 : (p1 : Int) ≤ (p2 : Int) := by omega
      have k3 : (p2 : Int) ≤ (c : Int) := by omega
      have k4 : (p1 : Int) ≤ (c : Int) := by omega
      clear hr0 hN m1
      have I0 : Hid (IHolds (wr.alloc (.cells #[.int .i64 (p1 : Int), .int .i64 (p2 : Int)] 36)) wr.heap.size 36 [.int .i64 (p1 : Int), .int .i64 (p2 : Int)]) := IHolds.new wr 36 [.int .i64 (p1 : Int), .int .i64 (p2 : Int)]
      have sB : Hid (∀ V V', Below V.heap.size V V' → Below wr.heap.size wr V → Below wr.heap.size wr V') := fun V V' h h' => h'.trans (h.mono h'.size)
      go_wp2_with (first
        | (go_at_call 17; refine (C17.out _ (nB wr _)).mono ?_; rintro e w3 ⟨rfl, hB3⟩; have B3 : Hid (Below wr.heap.size wr w3) := sB.out _ _ hB3 (nB wr _); have O3 : Hid (w3.ownsRow w2.heap.size 9 1 u8 i (((L.take i).map (blk tg E)).map Value.string)) := row_keep O.out B3.out; clear hB3)
        | (at_builtin; refine wpList_append_own _ rfl (.tmp 30) (.tmp 38) 22 rfl w2.heap.size 9 i0 (.string ⟨#[]⟩) 1 16 Tryd.underlying22 hi0 hz0 hz1 hz2 rfl (by decide) u8 i (((L.take i).map (blk tg E)).map Value.string) rfl (O3.out.alloc (.cells #[.string D] 9)) ⟨w3.heap.size, 0, none⟩ 1 1 [.string D] rfl rfl (one_news w3 D) (fun u hu => by simp at hu; subst hu; rfl) (by unfold maxLen; omega) (by omega) (Nat.le_trans B.out.size (Nat.le_trans B3.out.size (nB w3 (.cells #[.string D] 9)).size)) ?_; intro v4 w4 hown hgrow hn; have O4 : Hid (w4.ownsRow w2.heap.size 9 1 v4 (i + 1) (((L.take i).map (blk tg E)).map Value.string ++ [.string D])) := hown; have B4 : Hid (Below w2.heap.size w2 w4) := (B.out.trans ((B3.out.trans ((nB w3 (.cells #[.string D] 9)).mono B3.out.size)).mono B.out.size)).grown hgrow (Nat.le_trans B.out.size (Nat.le_trans B3.out.size (nB w3 (.cells #[.string D] 9)).size)) (fun k hk => ((O3.out.alloc (.cells #[.string D] 9)).lt k hk).1); clear hown hgrow hn))
      go_roundg (gk - 1)
      case measure => omega
      case rel => exact ⟨i + 1, by omega, by go_num, by rw [HMT.out, List.map_append]; exact O4.out, B4.out⟩
    · have il : ¬ (i : Int) < (L.length : Int) := by omega
      obtain ⟨a5, c5, e5, s5⟩ := own_sl (qs := L.map (blk tg E)) (n := L.length) (by simp) (by
        have h := O.out
        rw [List.take_of_length_le (by omega)] at h
        have e : i = L.length := by omega
        rw [e] at h
        exact h)
      subst e5
      go_wp2_with fail
      refine bodyPost_ret (v := .tuple #[.slice a5 L.length c5, .int .i64 0]) (by simp [results, Tryd.results6, go_sem]) rfl ?_
      first | exact ⟨⟨_, _, rfl, s5⟩, B2.out.trans (B.out.mono B2.out.size)⟩ | exact ⟨⟨_, ⟨_, rfl⟩, s5⟩, B2.out.trans (B.out.mono B2.out.size)⟩
end
end Go.Proofs.YtckgihloiecdmaaDoor
