/- What is filled, the document's. -/
import Derived.Test.YtcdmndcpjememaaQi
set_option linter.unusedSimpArgs false
set_option linter.unusedVariables false
set_option maxRecDepth 100000
namespace Go.Proofs.Ytcdmndcpjememaa
open Go.RowKit Go.Deep Go.PlainAid

theorem wb_len {n : Nat} {L : List (List Int)} (h : wb n L = 0) : L.length ≤ 4096 ∧ ∀ i (h : i < L.length), L[i].length = n := by
  unfold wb at h
  split at h
  · omega
  · split at h
    · rename_i h1 h2
      exact ⟨by omega, fun i h => by have := List.all_eq_true.1 h2 _ (List.getElem_mem h); simpa using this⟩
    · omega
theorem any_rank {b : List Int} (h : rankB b = true) : b.any (fun x => decide (0 < x)) = b.any (fun x => x != 0) := by
  have hr : Ranked b := by unfold rankB at h; exact @of_decide_eq_true _ (Classical.propDecidable _) h
  rw [Bool.eq_iff_iff, List.any_eq_true, List.any_eq_true]
  constructor
  · rintro ⟨x, hx, h2⟩
    have h3 : 0 < x := by simpa using h2
    exact ⟨x, hx, by simp; omega⟩
  · rintro ⟨x, hx, h2⟩
    have h3 : x ≠ 0 := by simpa using h2
    have := (hr.1 x hx).1
    exact ⟨x, hx, by simp; omega⟩
theorem any_none {b : List Int} (h : b.any (fun x => x != 0) = false) : b.any (fun x => decide (0 < x)) = false := by
  rw [List.any_eq_false] at h ⊢
  intro x hx
  have := h x hx
  simp at this
  simp; omega
theorem flB_none {b : List Int} (h : b.any (fun x => x != 0) = false) : flB b = false := by unfold flB; rw [any_none h]; simp
theorem flB_some {b : List Int} (h : b.any (fun x => x != 0) = true) : flB b = rankB b := by
  unfold flB
  cases q : rankB b with
  | false => rfl
  | true => rw [any_rank q, h]; rfl
theorem any_take {l : List Int} {i : Nat} (h : i < l.length) : (l.take (i + 1)).any (fun x => x != 0) = ((l.take i).any (fun x => x != 0) || (l[i] != 0)) := by
  rw [List.take_succ_eq_append_getElem h, List.any_append]; simp
set_option maxHeartbeats 8000000 in
theorem filled15_bad {w : World} {nm : ByteArray} {ca a : Option Addr} {n cc c : Nat} {r s m : Int} {L : List (List Int)} {z : Int} (hz : z ≠ 0) (hb : wb n L = z) (hs : LL w a L) :
    Calls Try.prog 15 #[CV nm ca n cc r s m, .int .i64 4, .slice a L.length c] w fun e w' => e = .returned (.tuple #[.slice none 0 0, .int .i64 z]) ∧ Below w.heap.size w w' := by
  unfold CV
  have B : Hid (Below w.heap.size w (w.alloc (.cells #[.string nm, .slice ca n cc, .int .i64 r, .int .i64 s, .int .i64 m] 24))) := (Below.refl _ _).alloc (Nat.le_refl _) _
  have I0 : Hid (IHolds (w.alloc (.cells #[.string nm, .slice ca n cc, .int .i64 r, .int .i64 s, .int .i64 m] 24)) w.heap.size 24 [.string nm, .slice ca n cc, .int .i64 r, .int .i64 s, .int .i64 m]) := IHolds.new w 24 _
  have HS : Hid (LL w a L) := hs
  clear hs
  by_cases h1 : 4096 < L.length
  · have e : z = 3 := by rw [← hb]; unfold wb; rw [if_pos h1]
    subst e
    have l1 : (4096 : Int) < (L.length : Int) := by omega
    clear hb hz
    go_enter Try.func15, Try.ntmps15
    go_wp2_with fail
    go_ret2
    exact ⟨rfl, B.out⟩
  · have l1 : ¬ (4096 : Int) < (L.length : Int) := by omega
    have ha : L.all (fun b => decide (b.length = n)) = false := by
      unfold wb at hb
      rw [if_neg h1] at hb
      cases q : L.all (fun b => decide (b.length = n)) with
      | false => rfl
      | true => rw [q] at hb; simp at hb; omega
    have e : z = 2 := by rw [← hb]; unfold wb; rw [if_neg h1, ha]; simp
    subst e
    have HA : Hid (L.all (fun b => decide (b.length = n)) = false) := ha
    clear hb hz ha
    obtain ⟨N, hN⟩ : ∃ N, N = L.length := ⟨_, rfl⟩
    have HN : Hid (N = L.length) := hN
    rw [← hN] at l1 h1 ⊢
    clear hN
    have I1 : Hid (IHolds ((w.alloc (.cells #[.string nm, .slice ca n cc, .int .i64 r, .int .i64 s, .int .i64 m] 24)).setCell ⟨w.heap.size, 2, none⟩ (.int .i64 4)) w.heap.size 24 [.string nm, .slice ca n cc, .int .i64 4, .int .i64 s, .int .i64 m]) := I0.out.set 2 _
    have B1 : Hid (Below w.heap.size w ((w.alloc (.cells #[.string nm, .slice ca n cc, .int .i64 r, .int .i64 s, .int .i64 m] 24)).setCell ⟨w.heap.size, 2, none⟩ (.int .i64 4))) := B.out.setCell (Nat.le_refl _) _
    generalize hU : (w.alloc (.cells #[.string nm, .slice ca n cc, .int .i64 r, .int .i64 s, .int .i64 m] 24)).setCell ⟨w.heap.size, 2, none⟩ (.int .i64 4) = U at *
    go_enter Try.func15, Try.ntmps15
    go_wp2_with fail
    try rw [hU]
    clear hU
    go_loopg [10, 23] N (fun gk v10 v23 wr => ∃ i : Nat, i + gk = N ∧ v23 = .int .i64 (i : Int) ∧ (L.take i).all (fun b => decide (b.length = n)) = true ∧ wr = U)
    case atStart => exact ⟨0, by omega, rfl, by simp, rfl⟩
    case round =>
      obtain ⟨i, hig, rfl, hx, rfl⟩ := hrel
      have HX : Hid ((L.take i).all (fun b => decide (b.length = n)) = true) := hx
      clear hx
      by_cases hi : i < N
      · have il : (i : Int) < (N : Int) := by omega
        have hi2 : i < L.length := by rw [← HN.out]; exact hi
        obtain ⟨b, o, a', c', rfl, q1, _⟩ := HS.out.of_below B1.out i hi2
        have q2 : wr.cell? ⟨w.heap.size, 1, none⟩ = some (.slice ca n cc) := I1.out.cell 1 (by simp)
        have AT : Hid ((L.take (i + 1)).all (fun b => decide (b.length = n)) = ((L.take i).all (fun b => decide (b.length = n)) && decide (L[i].length = n))) := all_take hi2
        generalize L[i].length = k at *
        by_cases hk : k = n
        · have e1 : ((k : Int) != (n : Int)) = false := by simp [hk]
          have H1 : Hid ((L.take (i + 1)).all (fun b => decide (b.length = n)) = true) := by show _ = _; rw [AT.out, HX.out, decide_eq_true hk]; rfl
          clear hk AT HX
          go_wp2_with fail
          go_roundg (gk - 1)
          case measure => omega
          case rel => exact ⟨i + 1, by omega, by go_num, H1.out, rfl⟩
        · have e1 : ((k : Int) != (n : Int)) = true := by simp; omega
          clear hk AT HX
          go_wp2_with fail
          go_ret2
          exact ⟨rfl, B1.out⟩
      · exfalso
        have z := HX.out
        rw [List.take_of_length_le (by rw [← HN.out]; omega), HA.out] at z
        cases z
set_option maxHeartbeats 8000000 in
theorem filled15_ok {w : World} {nm : ByteArray} {ca a : Option Addr} {n cc c : Nat} {r s m : Int} {L : List (List Int)} (hn : n ≤ 12) (hb : wb n L = 0) (hs : LL w a L) :
    Calls Try.prog 15 #[CV nm ca n cc r s m, .int .i64 4, .slice a L.length c] w fun e w' => (∃ a' c', e = .returned (.tuple #[.slice a' (fl L).length c', .int .i64 0]) ∧ LH w' w a' (fl L)) ∧ Below w.heap.size w w' := by
  unfold CV
  have B : Hid (Below w.heap.size w (w.alloc (.cells #[.string nm, .slice ca n cc, .int .i64 r, .int .i64 s, .int .i64 m] 24))) := (Below.refl _ _).alloc (Nat.le_refl _) _
  have I0 : Hid (IHolds (w.alloc (.cells #[.string nm, .slice ca n cc, .int .i64 r, .int .i64 s, .int .i64 m] 24)) w.heap.size 24 [.string nm, .slice ca n cc, .int .i64 r, .int .i64 s, .int .i64 m]) := IHolds.new w 24 _
  have HS : Hid (LL w a L) := hs
  clear hs
  obtain ⟨h9, hlen⟩ := wb_len hb
  have HE : Hid (∀ i (h : i < L.length), L[i].length = n) := hlen
  have l1 : ¬ (4096 : Int) < (L.length : Int) := by omega
  clear hb hlen
  obtain ⟨N, hN⟩ : ∃ N, N = L.length := ⟨_, rfl⟩
  have HN : Hid (N = L.length) := hN
  rw [← hN] at l1 h9 ⊢
  clear hN
  have I1 : Hid (IHolds ((w.alloc (.cells #[.string nm, .slice ca n cc, .int .i64 r, .int .i64 s, .int .i64 m] 24)).setCell ⟨w.heap.size, 2, none⟩ (.int .i64 4)) w.heap.size 24 [.string nm, .slice ca n cc, .int .i64 4, .int .i64 s, .int .i64 m]) := I0.out.set 2 _
  have B1 : Hid (Below w.heap.size w ((w.alloc (.cells #[.string nm, .slice ca n cc, .int .i64 r, .int .i64 s, .int .i64 m] 24)).setCell ⟨w.heap.size, 2, none⟩ (.int .i64 4))) := B.out.setCell (Nat.le_refl _) _
  generalize hU : (w.alloc (.cells #[.string nm, .slice ca n cc, .int .i64 r, .int .i64 s, .int .i64 m] 24)).setCell ⟨w.heap.size, 2, none⟩ (.int .i64 4) = U at *
  go_enter Try.func15, Try.ntmps15
  go_wp2_with fail
  try rw [hU]
  clear hU
  go_loopg [10, 23] N (fun gk v10 v23 wr => ∃ i : Nat, i + gk = N ∧ v23 = .int .i64 (i : Int) ∧ wr = U)
  case atStart => exact ⟨0, by omega, rfl, rfl⟩
  case round =>
    obtain ⟨i, hig, rfl, rfl⟩ := hrel
    by_cases hi : i < N
    · have il : (i : Int) < (N : Int) := by omega
      have hi2 : i < L.length := by rw [← HN.out]; exact hi
      obtain ⟨b, o, a', c', rfl, q1, _⟩ := HS.out.of_below B1.out i hi2
      rw [HE.out i hi2] at q1
      have q2 : wr.cell? ⟨w.heap.size, 1, none⟩ = some (.slice ca n cc) := I1.out.cell 1 (by simp)
      have e1 : ((n : Int) != (n : Int)) = false := by simp
      go_wp2_with fail
      go_roundg (gk - 1)
      case measure => omega
      case rel => exact ⟨i + 1, by omega, by go_num, rfl⟩
    · have il : ¬ (i : Int) < (N : Int) := by omega
      obtain ⟨U, rfl⟩ : ∃ X, X = wr := ⟨wr, rfl⟩
      have S0 : Hid (OH U U (.slice none 0 0) [] ∧ HD w [] (fl (L.take 0))) := ⟨OH.nil U, HD.nil w⟩
      clear hi hig
      go_wp2_with fail
      go_loopg [8, 12, 13, 15, 36] N (fun gk v8 v12 v13 v15 v36 wr => ∃ (i : Nat) (v : Value) (hs : List Value), i + gk = N ∧ v36 = .int .i64 (i : Int) ∧ v = v8 ∧ OH U wr v hs ∧ HD w hs (fl (L.take i)))
      case atStart => exact ⟨0, _, _, by omega, rfl, rfl, S0.out.1, S0.out.2⟩
      case round =>
        clear S0 il
        obtain ⟨i, v, hs, hig, rfl, rfl, hO, hD⟩ := hrel
        have O1 : Hid (OH U wr v hs) := hO
        have D1 : Hid (HD w hs (fl (L.take i))) := hD
        clear hO hD
        have BW : Hid (Below w.heap.size w wr) := B1.out.trans (O1.out.bl.mono B1.out.size)
        obtain ⟨G1, rfl⟩ : ∃ G, G = gk := ⟨gk, rfl⟩
        by_cases hi : i < N
        · have il : (i : Int) < (N : Int) := by omega
          have hi2 : i < L.length := by rw [← HN.out]; exact hi
          obtain ⟨b, o, a', c', rfl, q1, q2⟩ := HS.out i hi2
          have q3 := cell_keep q1 BW.out
          have LB : Hid (L[i].length = n) := HE.out i hi2
          have FS : Hid (fl (L.take (i + 1)) = if flB L[i] = true then fl (L.take i) ++ [L[i]] else fl (L.take i)) := fl_succ hi2
          have FL9 : Hid (hs.length ≤ 4096) := by rw [D1.out.len]; exact Nat.le_trans (fl_len _) (by rw [List.length_take]; omega)
          have QI : Hid (IL w a' L[i]) := q2
          obtain ⟨bb, hbb⟩ : ∃ b, b = L[i] := ⟨_, rfl⟩
          rw [← hbb] at q3 LB FS QI
          clear hbb hi2 q1 q2
          have FT : Hid (∀ V, Below w.heap.size w V → Calls Try.prog 28 #[.agg #[.string nm, .slice ca n cc, .int .i64 4, .int .i64 s, .int .i64 m], .slice a' bb.length c'] V fun e w' => e = .returned (.int .i64 (if rankB bb = true then 0 else 4)) ∧ Below V.heap.size V w') := fun V hV => by
            have q := fits5 nm ca n cc 4 s m (c := c') (by omega : n ≤ 1000) (QI.out.of_below hV)
            rw [fits_rank rfl LB.out] at q
            exact q
          rw [LB.out] at q3 FT
          go_wp2_with fail
          clear q3
          obtain ⟨WI, rfl⟩ : ∃ X, X = wr := ⟨wr, rfl⟩
          go_loopg [13, 15, 42] n (fun gk v13 v15 v42 wr => ∃ j : Nat, j + gk = n ∧ v42 = .int .i64 (j : Int) ∧ v13 = .bool ((bb.take j).any (fun x => x != 0)) ∧ wr = WI)
          case atStart => exact ⟨0, by omega, rfl, by simp, rfl⟩
          case round =>
            obtain ⟨j, hjg, rfl, rfl, rfl⟩ := hrel
            by_cases hj : j < n
            · have jl : (j : Int) < (n : Int) := by omega
              have hjb : j < bb.length := by rw [LB.out]; exact hj
              obtain ⟨xb, xo, rfl, c1⟩ := QI.out.of_below BW.out j hjb
              have AT : Hid ((bb.take (j + 1)).any (fun x => x != 0) = ((bb.take j).any (fun x => x != 0) || (bb[j] != 0))) := any_take hjb
              generalize bb[j] = x at *
              generalize (bb.take j).any (fun x => x != 0) = z at *
              cases z with
              | true =>
                go_wp2_with fail
                go_roundg (gk - 1)
                case measure => omega
                case rel => exact ⟨j + 1, by omega, by go_num, by rw [AT.out]; rfl, rfl⟩
              | false =>
                have A2 : Hid ((bb.take (j + 1)).any (fun x => x != 0) = (x != 0)) := by show _ = _; rw [AT.out]; rfl
                go_wp2_with fail
                go_roundg (gk - 1)
                case measure => omega
                case rel => exact ⟨j + 1, by omega, by go_num, by rw [A2.out], rfl⟩
            · have jl : ¬ (j : Int) < (n : Int) := by omega
              have et : bb.take j = bb := List.take_of_length_le (by rw [LB.out]; omega)
              rw [et]
              clear et
              obtain ⟨k0, k1, k2, k3, k4⟩ := five (I1.out.of_below O1.out.bl)
              cases ha : bb.any (fun x => x != 0) with
              | false =>
                have F2 : Hid (fl (L.take (i + 1)) = fl (L.take i)) := by show _ = _; rw [FS.out, flB_none ha]; simp
                clear FS FT ha
                go_wp2_with fail
                go_roundg (G1 - 1)
                case measure => omega
                case rel => exact ⟨i + 1, v, hs, by omega, by go_num, rfl, O1.out, by rw [F2.out]; exact D1.out⟩
              | true =>
                rw [flB_some ha] at FS
                clear ha
                cases hr : rankB bb with
                | false =>
                  rw [hr] at FT FS
                  have F2 : Hid (fl (L.take (i + 1)) = fl (L.take i)) := by show _ = _; rw [FS.out]; simp
                  have FT2 : Hid (∀ V, Below w.heap.size w V → Calls Try.prog 28 #[.agg #[.string nm, .slice ca n cc, .int .i64 4, .int .i64 s, .int .i64 m], .slice a' n c'] V fun e w' => e = .returned (.int .i64 4) ∧ Below V.heap.size V w') := fun V hV => by have z := FT.out V hV; simpa using z
                  clear FT FS hr
                  go_wp2_with (go_at_call 28; refine (FT2.out _ BW.out).mono ?_)
                  rintro e w7 rfl hB7
                  have O7 : Hid (OH U w7 v hs) := O1.out.of_below hB7
                  clear hB7 FT2
                  go_wp2_with fail
                  go_roundg (G1 - 1)
                  case measure => omega
                  case rel => exact ⟨i + 1, v, hs, by omega, by go_num, rfl, O7.out, by rw [F2.out]; exact D1.out⟩
                | true =>
                  rw [hr] at FT FS
                  have F2 : Hid (fl (L.take (i + 1)) = fl (L.take i) ++ [bb]) := by show _ = _; rw [FS.out]; simp
                  have D2 : Hid (HD w (hs ++ [.slice a' n c']) (fl (L.take (i + 1)))) := by
                    have z := D1.out.snoc (c := c') QI.out
                    rw [LB.out] at z
                    rw [F2.out]; exact z
                  have FT2 : Hid (∀ V, Below w.heap.size w V → Calls Try.prog 28 #[.agg #[.string nm, .slice ca n cc, .int .i64 4, .int .i64 s, .int .i64 m], .slice a' n c'] V fun e w' => e = .returned (.int .i64 0) ∧ Below V.heap.size V w') := fun V hV => by have z := FT.out V hV; simpa using z
                  clear FT FS hr F2
                  go_wp2_with (go_at_call 28; refine (FT2.out _ BW.out).mono ?_)
                  rintro e w8 rfl hB8
                  have O8 : Hid (OH U w8 v hs) := O1.out.of_below hB8
                  clear hB8 FT2
                  obtain ⟨v9, w9, hrr, ho⟩ := (O8.out.of_below (V' := w8.alloc (.cells #[.slice a' n c'] 31)) ((Below.refl _ _).alloc (Nat.le_refl _) _)).app (G := w8.heap.size) (a := a') (n := n) (c := c') (by simp) (by have := FL9.out; omega) 25
                  have HR : Hid ((Builtin.append_ #[25, 25] 25 #[v, .slice (some ⟨w8.heap.size, 0, none⟩) 1 1]).run Try.prog (w8.alloc (.cells #[.slice a' n c'] 31)) = .ok v9 w9) := hrr
                  have O9 : Hid (OH U w9 v9 (hs ++ [.slice a' n c'])) := ho
                  clear hrr ho
                  go_wp2_with (at_builtin; refine wpList_append_at rfl (.tmp 59) (.tmp 61) 25 rfl _ _ _ rfl rfl HR.out ?_)
                  go_roundg (G1 - 1)
                  case measure => omega
                  case rel => exact ⟨i + 1, v9, _, by omega, by go_num, rfl, O9.out, D2.out⟩
        · have il : ¬ (i : Int) < (N : Int) := by omega
          have e : L.take i = L := List.take_of_length_le (by rw [← HN.out]; omega)
          obtain ⟨av, cv, hv, hll⟩ := O1.out.lh (by have z := D1.out; rw [e] at z; exact z)
          have HLL : Hid (LH wr w av (fl L)) := hll
          clear hll e
          subst hv
          go_wp2_with fail
          first
            | exact bodyPost_ret (v := .tuple #[.slice av (fl L).length cv, .int .i64 0]) (by simp [results, Try.results15, go_sem]) rfl ⟨⟨av, cv, rfl, HLL.out⟩, BW.out⟩
            | exact bodyPost_ret (v := .tuple #[.slice av (fl L).length cv, .int .i64 0]) (by simp [results, Try.results15, go_sem]) rfl ⟨⟨av, ⟨cv, rfl⟩, HLL.out⟩, BW.out⟩
end Go.Proofs.Ytcdmndcpjememaa
