/- Head, on the program's side. -/
import Derived.Test.YteomefhjglnghaaDoorPt
set_option linter.unusedSimpArgs false
set_option linter.unusedVariables false
set_option maxRecDepth 100000
namespace Go.Proofs.YteomefhjglnghaaDoor
open Go.RowKit Go.Deep Go.PlainAid

set_option maxHeartbeats 1000000 in
theorem size33_nil (w : World) (a : Option Addr) (c : Nat) : Calls Tryd.prog 29 #[.slice a 0 c] w fun e w' => e = .returned (.int .i64 ((0 : Nat) : Int)) ∧ Below w.heap.size w w' := by
  go_enter Tryd.func29, Tryd.ntmps29
  go_wp2_with fail
  go_ret
  exact ⟨rfl, Below.refl _ _⟩
set_option maxHeartbeats 1000000 in
theorem size33_cons {w : World} {a : Option Addr} {c n : Nat} {l : List ((Nat × Nat) × ByteArray)} (hl : l.length = n + 1) (hn : n ≤ 1048576) (h : PTL w a l) : Calls Tryd.prog 29 #[.slice a l.length c] w fun e w' => e = .returned (.int .i64 ((l[n].1.2 : Nat) : Int)) ∧ Below w.heap.size w w' := by
  obtain ⟨b, o, rfl, q1, q2, q3⟩ := h.three n (by omega)
  generalize l[n].1.2 = z at *
  rw [hl]
  have e1 : (((n + 1 : Nat) : Int) == 0) = false := by simp; omega
  have e2 : ((n + 1 : Nat) : Int) - 1 = (n : Int) := by omega
  have e3 : (n : Int) < ((n + 1 : Nat) : Int) := by omega
  clear hl h q1 q3
  generalize hN : n + 1 = N at *
  clear hN
  go_enter Tryd.func29, Tryd.ntmps29
  go_wp2_with fail
  go_ret
  exact ⟨rfl, Below.refl _ _⟩
theorem snd_take {l : List ((Nat × Nat) × ByteArray)} {i : Nat} (h : i < l.length) : (l.take (i + 1)).map Prod.snd = (l.take i).map Prod.snd ++ [l[i].2] := by
  rw [List.take_succ_eq_append_getElem h, List.map_append]
  rfl
theorem wp_append_at {P : Program} {o : Oper} {a : Act} {w w' : World} {K : Act → World → Prop} {Q : Exit → Act → World → Prop} (s x : Operand) (t : TypeId) (ho : o.op = .call { callee := .builtin .append, args := #[s, x], argTypes := #[t, t] })
    (v v' y : Value) (hs : a.eval s = v) (hx : a.eval x = y) (hr : (Builtin.append_ #[t, t] o.type #[v, y]).run P w = .ok v' w') (h : K (a.put o.dst v') w') : Oper.wp P o a w K Q := by
  unfold Oper.wp execOp
  simp only [ho, resolve, invoke, builtin, Sem.run_bind, Sem.run_pure, Result.andThen_ok, List.map_toArray, List.map_cons, List.map_nil, hs, hx, hr]
  exact h
/-- A list of the call's own behind another one. -/
theorem app9 {V : World} {base base2 n m : Nat} {v y : Value} {xs ys : List Value} (ho : V.ownsRow base 9 1 v n xs) (hb : base ≤ V.heap.size) (hy : V.ownsRow base2 9 1 y m ys) (h1 : ∀ u ∈ ys, u.oneCell' = true) (h9 : n + m ≤ 1048578) (ty : TypeId) :
    ∃ v' V', (Builtin.append_ #[22, 22] ty #[v, y]).run Tryd.prog V = .ok v' V' ∧ V'.ownsRow base 9 1 v' (n + m) (xs ++ ys) ∧ V.grownBy V' v.ownBlock := by
  obtain ⟨i0, hi0, hz0, hz1, hz2⟩ := info_parts info9
  obtain ⟨hl, ⟨rfl, h0⟩ | ⟨g, cap, cur, rfl, hbg, hg, hnc, hm, hs, ht⟩⟩ := id hy
  · have e : ys = [] := List.eq_nil_of_length_eq_zero (by rw [hl, h0])
    subst e
    subst h0
    exact ⟨v, V, run_append_owned_none V base 22 ty 9 i0 1 Tryd.underlying22 hi0 v n xs ho, by simpa using ho, World.grownBy.refl _ _⟩
  · obtain ⟨v', V', hr, ho', hg', _⟩ := run_append_own (P := Tryd.prog) V base 22 ty 9 i0 (.string ⟨#[]⟩) 1 16 Tryd.underlying22 hi0 hz0 hz1 hz2 rfl (by decide) v n xs ho ⟨g, 0, none⟩ m cap ys hl (fun j u hu => by
        have hj := (List.getElem?_eq_some_iff.1 hu).1
        have q := hy.cellAt j (by omega)
        rw [show (⟨g, 0, none⟩ : Addr).add j = ⟨g, j, none⟩ by unfold Addr.add; by_cases z : j = 0 <;> simp [z]]
        exact q.trans hu) h1 (by unfold maxLen; omega) (by omega) hb
    exact ⟨v', V', hr, ho', hg'⟩
theorem str_one9 {qs : List ByteArray} : ∀ u ∈ qs.map Value.string, u.oneCell' = true := by
  intro u hu
  obtain ⟨s, _, rfl⟩ := List.mem_map.1 hu
  rfl
set_option maxHeartbeats 2000000 in
theorem headK {w : World} {base z : Nat} {v : Value} {l : List ByteArray} (ho : w.ownsRow base 9 1 v l.length (l.map Value.string)) (hl : l.length ≤ 1048576) (hz : z ≤ 1048576) (h32 : all32 l = true) (T : TagC tgF 35 w) :
    Calls Tryd.prog 28 #[.int .i64 (z : Int), v] w fun e w' => e = .returned (.string (tgF lHead (fourT z :: l))) ∧ Below w.heap.size w w' := by
  have H32 : Hid (∀ V, Calls Tryd.prog 36 #[.int .i64 (z : Int)] V fun e w' => e = .returned (.string (fourT z)) ∧ Below V.heap.size V w') := fun V => F.four32 z (by omega) V
  have HT : Hid (∀ V a' c', Below w.heap.size w V → SL V a' (fourT z :: l) → Calls Tryd.prog 35 #[.string lHead, .slice a' (1 + l.length) c'] V fun e w' => e = .returned (.string (tgF lHead (fourT z :: l))) ∧ Below V.heap.size V w') := fun V a' c' hV hS => by
    have q := T lHead (fourT z :: l) V a' c' hV (by decide) (Sz.head hl h32) hS
    rw [List.length_cons, Nat.add_comm] at q
    exact q
  have HO : Hid (w.ownsRow base 9 1 v l.length (l.map Value.string)) := ho
  generalize tgF lHead (fourT z :: l) = DD at *
  generalize hF4 : fourT z = F4 at *
  unfold lHead at *
  clear T h32 hF4 ho
  go_enter Tryd.func28, Tryd.ntmps28
  go_wp2_with (go_at_call 36; refine (H32.out _).mono ?_)
  rintro e w2 ⟨rfl, hB2⟩
  have B2 : Hid (Below w.heap.size w w2) := hB2
  have O2 : Hid ((w2.alloc (.cells #[.string F4] 9)).ownsRow w.heap.size 9 1 (.slice (some ⟨w2.heap.size, 0, none⟩) 1 1) 1 ([F4].map Value.string)) := one_own9 (IHolds.new w2 9 [.string F4]) B2.out.size
  have B3 : Hid (Below w.heap.size w (w2.alloc (.cells #[.string F4] 9))) := B2.out.trans ((nB w2 _).mono B2.out.size)
  have L3 : Hid ((w2.alloc (.cells #[.string F4] 9)).ownsRow base 9 1 v l.length (l.map Value.string)) := row_keep HO.out B3.out
  clear hB2
  obtain ⟨v9, W9, hr, h9, hg⟩ := app9 O2.out B3.out.size L3.out str_one9 (by omega) 22
  obtain ⟨a5, c5, e5, s5⟩ := own_sl (qs := F4 :: l) (n := 1 + l.length) (by simp; omega) (by simpa using h9)
  subst e5
  have S5 : Hid (SL W9 a5 (F4 :: l)) := s5
  have B9 : Hid (Below w.heap.size w W9) := B3.out.grown hg B3.out.size (fun k hk => (O2.out.lt k hk).1)
  have HR : Hid _ := hr
  clear s5 h9 hg hr
  go_wp2_with (at_builtin; refine wpList_plain rfl fun K hK => ?_; refine wp_append_at (.tmp 7) (.tmp 8) 22 rfl _ _ _ rfl rfl HR.out ?_; refine hK _ _ ?_)
  go_wp2_with (go_at_call 35; refine (HT.out _ _ _ B9.out S5.out).mono ?_)
  rintro e w6 ⟨rfl, hB6⟩
  have B6 : Hid (Below w.heap.size w w6) := B9.out.trans (hB6.mono B9.out.size)
  go_wp2_with fail
  go_ret
  exact ⟨rfl, B6.out⟩
set_option maxHeartbeats 2000000 in
theorem head19 {w : World} {a : Option Addr} {c z : Nat} {l : List ((Nat × Nat) × ByteArray)} (hl : l.length ≤ 1048576) (hz : z ≤ 1048576) (h : PTL w a l) (h32 : all32 (l.map Prod.snd) = true) (T : TagC tgF 35 w)
    (C33 : ∀ V, PTL V a l → Calls Tryd.prog 29 #[.slice a l.length c] V fun e w' => e = .returned (.int .i64 (z : Int)) ∧ Below V.heap.size V w') :
    Calls Tryd.prog 13 #[.slice a l.length c] w fun e w' => e = .returned (.string (tgF lHead (fourT z :: l.map Prod.snd))) ∧ Below w.heap.size w w' := by
  have H33 : Hid (∀ V, Below w.heap.size w V → Calls Tryd.prog 29 #[.slice a l.length c] V fun e w' => e = .returned (.int .i64 (z : Int)) ∧ Below V.heap.size V w') := fun V hV => C33 V (h.of_below hV)
  have HH : Hid (∀ V v, Below w.heap.size w V → V.ownsRow w.heap.size 9 1 v l.length ((l.map Prod.snd).map Value.string) → Calls Tryd.prog 28 #[.int .i64 (z : Int), v] V fun e w' => e = .returned (.string (tgF lHead (fourT z :: l.map Prod.snd))) ∧ Below V.heap.size V w') := fun V v hV hO =>
    headK (l := l.map Prod.snd) (by rw [List.length_map]; exact hO) (by rw [List.length_map]; exact hl) hz h32 (T.of hV)
  have HP : Hid (PTL w a l) := h
  obtain ⟨i0, hi0, hz0, hz1, hz2⟩ := info_parts info9
  generalize tgF lHead (fourT z :: l.map Prod.snd) = DD at *
  clear h T C33 h32
  go_enter Tryd.func13, Tryd.ntmps13
  go_wp2_with fail
  go_loopg [3, 5, 8] (l.length) (fun gk v3 v5 v8 wr => ∃ i : Nat, i + gk = l.length ∧ v8 = .int .i64 (i : Int) ∧ wr.ownsRow w.heap.size 9 1 v3 i (((l.take i).map Prod.snd).map Value.string) ∧ Below w.heap.size w wr)
  case atStart => exact ⟨0, by omega, rfl, World.ownsRow_nil _ _ _ _, Below.refl _ _⟩
  case round =>
    obtain ⟨i, hig, rfl, hO, hB⟩ := hrel
    have B : Hid (Below w.heap.size w wr) := hB
    have O : Hid (wr.ownsRow w.heap.size 9 1 u3 i (((l.take i).map Prod.snd).map Value.string)) := hO
    clear hB hO
    by_cases hi : i < l.length
    · have il : (i : Int) < (l.length : Int) := by omega
      obtain ⟨b, o, rfl, q1, q2, q3⟩ := (HP.out.of_below B.out).three i hi
      have HST : Hid _ := snd_take hi
      generalize l[i] = p at *
      obtain ⟨⟨p1, p2⟩, s⟩ := p
      dsimp only at q1 q2 q3 HST
      have I4 : Hid (IHolds (wr.alloc (.cells #[.int .i64 (p1 : Int), .int .i64 (p2 : Int), .string s] 46)) wr.heap.size 46 [.int .i64 (p1 : Int), .int .i64 (p2 : Int), .string s]) := IHolds.new wr 46 [.int .i64 (p1 : Int), .int .i64 (p2 : Int), .string s]
      obtain ⟨W4, hW4⟩ : ∃ W4, wr.alloc (.cells #[.int .i64 (p1 : Int), .int .i64 (p2 : Int), .string s] 46) = W4 := ⟨_, rfl⟩
      have B4 : Hid (Below wr.heap.size wr W4) := by rw [← hW4]; exact nB wr _
      have O4 : Hid (W4.ownsRow w.heap.size 9 1 u3 i (((l.take i).map Prod.snd).map Value.string)) := row_keep O.out B4.out
      rw [hW4] at I4
      have c4 : W4.cell? ⟨wr.heap.size, 2, none⟩ = some (.string s) := I4.out.cell 2 (by simp)
      go_wp2_with (at_builtin; refine wpList_append_own _ rfl (.tmp 12) (.tmp 15) 22 rfl w.heap.size 9 i0 (.string ⟨#[]⟩) 1 16 Tryd.underlying22 hi0 hz0 hz1 hz2 rfl (by decide) u3 i (((l.take i).map Prod.snd).map Value.string) rfl (O4.out.alloc (.cells #[.string s] 9)) ⟨W4.heap.size, 0, none⟩ 1 1 [.string s] rfl rfl (one_news W4 s) (fun u hu => by simp at hu; subst hu; rfl) (by unfold maxLen; omega) (by omega) (Nat.le_trans B.out.size (Nat.le_trans B4.out.size (nB W4 (.cells #[.string s] 9)).size)) ?_; intro v5 w5 hown hgrow hn; have O5 : Hid (w5.ownsRow w.heap.size 9 1 v5 (i + 1) ((((l.take i).map Prod.snd).map Value.string) ++ [.string s])) := hown; have B5 : Hid (Below w.heap.size w w5) := (B.out.trans ((B4.out.trans ((nB W4 (.cells #[.string s] 9)).mono B4.out.size)).mono B.out.size)).grown hgrow (Nat.le_trans B.out.size (Nat.le_trans B4.out.size (nB W4 (.cells #[.string s] 9)).size)) (fun k hk => ((O4.out.alloc (.cells #[.string s] 9)).lt k hk).1); clear hown hgrow hn)
      go_roundg (gk - 1)
      case measure => omega
      case rel => exact ⟨i + 1, by omega, by go_num, by rw [HST.out, List.map_append]; exact O5.out, B5.out⟩
    · have e : i = l.length := by omega
      subst e
      have OF : Hid (wr.ownsRow w.heap.size 9 1 u3 l.length ((l.map Prod.snd).map Value.string)) := by have q := O.out; rw [List.take_of_length_le (Nat.le_refl _)] at q; exact q
      clear hi O
      go_wp2_with (go_at_call 29; refine (H33.out _ B.out).mono ?_)
      rintro e w5 ⟨rfl, hB5⟩
      have B5 : Hid (Below w.heap.size w w5) := B.out.trans (hB5.mono B.out.size)
      have O5 : Hid (w5.ownsRow w.heap.size 9 1 u3 l.length ((l.map Prod.snd).map Value.string)) := row_keep OF.out hB5
      clear hB5 OF B
      go_wp2_with (go_at_call 28; refine (HH.out _ _ B5.out O5.out).mono ?_)
      rintro e w6 ⟨rfl, hB6⟩
      have B6 : Hid (Below w.heap.size w w6) := B5.out.trans (hB6.mono B5.out.size)
      go_wp2_with fail
      go_ret
      exact ⟨rfl, B6.out⟩
theorem cov_last : ∀ (k lo hi : Nat), hi - lo ≤ k → lo < hi → ∀ n (h : (cov k lo hi).length = n + 1), ((cov k lo hi)[n]).2 = hi
  | 0, lo, hi, h1, h2, n, h => by omega
  | k + 1, lo, hi, h1, h2, n, h => by
    have hd := down_pos (hi - lo) lo (by omega) 20
    have e : cov (k + 1) lo hi = (lo, lo + down 20 (hi - lo) lo) :: cov k (lo + down 20 (hi - lo) lo) hi := by rw [cov, if_pos h2]
    simp only [e] at h ⊢
    by_cases h3 : lo + down 20 (hi - lo) lo < hi
    · cases n with
      | zero =>
        exfalso
        have hk : k ≠ 0 := by omega
        obtain ⟨k', rfl⟩ : ∃ k', k = k' + 1 := ⟨k - 1, by omega⟩
        rw [cov, if_pos h3] at h
        simp at h
      | succ n =>
        simp only [List.getElem_cons_succ]
        exact cov_last k _ hi (by omega) h3 n (by simpa using h)
    · rw [cov_nil h3] at h
      have hn : n = 0 := by simpa using h.symm
      subst hn
      simp only [List.getElem_cons_zero]
      omega
theorem map_snd_zip : ∀ (l : List (Nat × Nat)) (ds : List ByteArray), l.length = ds.length → (l.zip ds).map Prod.snd = ds
  | [], [], _ => rfl
  | p :: l, d :: ds, h => by simp [map_snd_zip l ds (by simpa using h)]
  | [], d :: ds, h => by simp at h
  | p :: l, [], h => by simp at h
set_option maxHeartbeats 1000000 in
theorem head8_range (w : World) (z : Int) {a : Option Addr} {n c : Nat} (h : z < 0 ∨ 1048576 < z) : Calls Tryd.prog 5 #[.int .i64 z, .slice a n c] w fun e w' => e = .returned (.tuple #[.string ⟨#[]⟩, .int .i64 4]) ∧ Below w.heap.size w w' := by
  have HR : Hid (Calls Tryd.prog 9 #[.int .i64 0, .int .i64 z, .int .i64 1048576] w fun e w' => e = .returned (.bool false) ∧ w' = w) := within12 w 0 z 1048576 false (decide_eq_false (by omega))
  clear h
  go_enter Tryd.func5, Tryd.ntmps5
  go_wp2_with (go_at_call 9; refine (Calls.mono HR.out) ?_; rintro e w1 ⟨rfl, rfl⟩)
  exact bodyPost_ret (v := .tuple #[.string ⟨#[]⟩, .int .i64 4]) (by simp [results, Tryd.results5, go_sem]) rfl ⟨rfl, Below.refl _ _⟩
set_option maxHeartbeats 1000000 in
theorem head8_form (w : World) (z : Nat) (hz : z ≤ 1048576) {a : Option Addr} {c : Nat} {l : List ByteArray} (hl : l.length ≤ 1048576) (hs : SL w a l) (h : l.length ≠ (cover 0 z).length ∨ all32 l = false) : Calls Tryd.prog 5 #[.int .i64 (z : Int), .slice a l.length c] w fun e w' => e = .returned (.tuple #[.string ⟨#[]⟩, .int .i64 2]) ∧ Below w.heap.size w w' := by
  have HR : Hid (Calls Tryd.prog 9 #[.int .i64 0, .int .i64 (z : Int), .int .i64 1048576] w fun e w' => e = .returned (.bool true) ∧ w' = w) := within12 w 0 z 1048576 true (decide_eq_true (by omega))
  have HP : Hid (Calls Tryd.prog 12 #[.int .i64 ((0 : Nat) : Int), .int .i64 (z : Int), .slice a l.length c] w fun e w' => (∃ v, e = .returned (.tuple #[v, .bool false])) ∧ Below w.heap.size w w') := (partsOf18 (c := c) l hl hs 0 z (by omega) hz).mono fun e w' ⟨hd, hb⟩ => ⟨by
    rcases hd with ⟨q1, q2, _⟩ | ⟨_, q⟩
    · rcases h with h | h
      · exact absurd q1 h
      · rw [h] at q2; cases q2
    · exact q, hb⟩
  clear h hs
  go_enter Tryd.func5, Tryd.ntmps5
  go_wp2_with (first
    | (go_at_call 9; refine (Calls.mono HR.out) ?_; rintro e w1 ⟨rfl, rfl⟩)
    | (go_at_call 12; refine (Calls.mono HP.out) ?_; rintro e w2 ⟨⟨v, rfl⟩, hB⟩))
  exact bodyPost_ret (v := .tuple #[.string ⟨#[]⟩, .int .i64 2]) (by simp [results, Tryd.results5, go_sem]) rfl ⟨rfl, hB⟩
set_option maxHeartbeats 1000000 in
theorem head8_good {w : World} (T : TagC tgF 35 w) (z : Nat) (hz : z ≤ 1048576) {a : Option Addr} {c : Nat} {l : List ByteArray} (hl : l.length ≤ 1048576) (hs : SL w a l) (h1 : l.length = (cover 0 z).length) (h2 : all32 l = true) : Calls Tryd.prog 5 #[.int .i64 (z : Int), .slice a l.length c] w fun e w' => e = .returned (.tuple #[.string (tgF lHead (fourT z :: l)), .int .i64 0]) ∧ Below w.heap.size w w' := by
  have HR : Hid (Calls Tryd.prog 9 #[.int .i64 0, .int .i64 (z : Int), .int .i64 1048576] w fun e w' => e = .returned (.bool true) ∧ w' = w) := within12 w 0 z 1048576 true (decide_eq_true (by omega))
  have hzl : ((cover 0 z).zip l).length = l.length := by rw [List.length_zip]; omega
  have hsn : ((cover 0 z).zip l).map Prod.snd = l := map_snd_zip _ _ h1.symm
  have HP : Hid (Calls Tryd.prog 12 #[.int .i64 ((0 : Nat) : Int), .int .i64 (z : Int), .slice a l.length c] w fun e w' => (∃ a' c', e = .returned (.tuple #[.slice a' l.length c', .bool true]) ∧ PTL w' a' ((cover 0 z).zip l)) ∧ Below w.heap.size w w') := (partsOf18 (c := c) l hl hs 0 z (by omega) hz).mono fun e w' ⟨hd, hb⟩ => ⟨by
    rcases hd with ⟨_, _, q⟩ | ⟨q, _⟩
    · exact q
    · rcases q with q | q
      · exact absurd h1 q
      · rw [h2] at q
        exact Bool.noConfusion q, hb⟩
  have HH : Hid (∀ V a' c', Below w.heap.size w V → PTL V a' ((cover 0 z).zip l) → Calls Tryd.prog 13 #[.slice a' l.length c'] V fun e w' => e = .returned (.string (tgF lHead (fourT z :: l))) ∧ Below V.heap.size V w') := fun V a' c' hV hp => by
    have q := head19 (c := c') (z := z) (by rw [hzl]; exact hl) hz hp (by rw [hsn]; exact h2) (T.of hV) (fun V hp => by
      by_cases h0 : z = 0
      · subst h0
        have e : (cover 0 0).zip l = [] := by
          rw [show cover 0 0 = [] from cov_nil (by omega)]
          rfl
        rw [e]
        exact size33_nil V a' c'
      · obtain ⟨n, hn⟩ : ∃ n, ((cover 0 z).zip l).length = n + 1 := by
          refine ⟨((cover 0 z).zip l).length - 1, ?_⟩
          have : 0 < (cover 0 z).length := by
            unfold cover
            rw [show (1048576 : Nat) = 1048575 + 1 from rfl, cov, if_pos (by omega)]
            simp
          omega
        have q := size33_cons (c := c') hn (by omega) hp
        have e : ((cover 0 z).zip l)[n].1.2 = z := by
          rw [List.getElem_zip]
          exact cov_last 1048576 0 z (by omega) (by omega) n (by show (cover 0 z).length = n + 1; omega)
        rw [e] at q
        exact q)
    rw [hsn, hzl] at q
    exact q
  generalize tgF lHead (fourT z :: l) = DD at *
  clear hs h1 h2 hzl hsn T
  go_enter Tryd.func5, Tryd.ntmps5
  go_wp2_with (first
    | (go_at_call 9; refine (Calls.mono HR.out) ?_; rintro e w1 ⟨rfl, rfl⟩)
    | (go_at_call 12; refine (Calls.mono HP.out) ?_; rintro e w2 ⟨⟨a2, c2, rfl, hp2⟩, hB⟩; have B2 : Hid (Below w1.heap.size w1 w2) := hB; have P2 : Hid (PTL w2 a2 ((cover 0 z).zip l)) := hp2; clear hB hp2)
    | (go_at_call 13; refine (HH.out _ _ _ B2.out P2.out).mono ?_; rintro e w3 ⟨rfl, hB3⟩))
  exact bodyPost_ret (v := .tuple #[.string DD, .int .i64 0]) (by simp [results, Tryd.results5, go_sem]) rfl ⟨rfl, B2.out.trans (hB3.mono B2.out.size)⟩
end Go.Proofs.YteomefhjglnghaaDoor
