/- A poll: ranked. -/
import Derived.Test.YtkcnpcjogfhkbaaGreatDoorZ21
set_option linter.unusedSimpArgs false
set_option linter.unusedVariables false
set_option maxRecDepth 100000
namespace Go.Proofs.YtkcnpcjogfhkbaaGreatDoor
open Go.RowKit Go.Deep Go.PlainAid

/-- A poll as a value. -/
def PV (nm : ByteArray) (ca : Option Addr) (n cc : Nat) (r s m : Int) (a : Option Addr) (N c : Nat) (lt : ByteArray) : Value := .agg #[.string nm, .slice ca n cc, .int .i64 r, .int .i64 s, .int .i64 m, .slice a N c, .string lt]
theorem IHolds.far {w w' : World} {row : Option Nat} {b : Nat} {t : TypeId} {l : List Value} (h : IHolds w b t l) (hg : w.grownBy w' row) (hne : some b ≠ row) : IHolds w' b t l := by
  unfold IHolds; rw [hg.block _ h.lt hne]; exact h
theorem seven {W : World} {b : Nat} {t : TypeId} {x0 x1 x2 x3 x4 x5 x6 : Value} (h : IHolds W b t [x0, x1, x2, x3, x4, x5, x6]) : W.cell? ⟨b, 0, none⟩ = some x0 ∧ W.cell? ⟨b, 1, none⟩ = some x1 ∧ W.cell? ⟨b, 2, none⟩ = some x2 ∧ W.cell? ⟨b, 3, none⟩ = some x3 ∧ W.cell? ⟨b, 4, none⟩ = some x4 ∧ W.cell? ⟨b, 5, none⟩ = some x5 ∧ W.cell? ⟨b, 6, none⟩ = some x6 := ⟨h.cell 0 (by simp), h.cell 1 (by simp), h.cell 2 (by simp), h.cell 3 (by simp), h.cell 4 (by simp), h.cell 5 (by simp), h.cell 6 (by simp)⟩
set_option maxHeartbeats 1000000 in
theorem ranked25 {w : World} {nm lt : ByteArray} {ca a : Option Addr} {n cc N c : Nat} {r s m : Int} :
    Calls Tryz.prog 24 #[PV nm ca n cc r s m a N c lt] w fun e w' => e = .returned (PV nm ca n cc 3 s m a N c lt) ∧ Below w.heap.size w w' := by
  unfold PV
  go_enter Tryz.func24, Tryz.ntmps24
  go_wp2_with fail
  exact bodyPost_ret (v := PV nm ca n cc 3 s m a N c lt) (by simp [results, Tryz.results24, go_sem, PV]) rfl ⟨rfl, ((Below.refl _ _).alloc (Nat.le_refl _) _).alloc (by simp) _⟩
theorem infoL : ∃ i, Tryz.prog.info? 26 = some i ∧ i.zero = some (.slice none 0 0) ∧ i.size = 1 ∧ i.bytes = 24 := by
  have h1 : (Tryz.prog.info? 26).map (fun i => (i.size, i.bytes)) = some (1, 24) := by kernel_rfl
  have h2 : (Tryz.prog.info? 26).bind (fun i => i.zero) = some (.slice none 0 0) := by kernel_rfl
  cases hq : Tryz.prog.info? 26 with
  | none => rw [hq] at h1; cases h1
  | some i =>
    rw [hq] at h1 h2
    simp only [Option.map_some, Option.some.injEq, Prod.mk.injEq] at h1
    exact ⟨i, rfl, h2, h1.1, h1.2⟩
/-- A list of lists of the call's own that grows: its headers. -/
structure OH (U V : World) (v : Value) (hs : List Value) : Prop where
  own : V.ownsRow U.heap.size 26 1 v hs.length hs
  bl : Below U.heap.size U V
theorem OH.nil (U : World) : OH U U (.slice none 0 0) [] := ⟨World.ownsRow_nil _ _ _ _, Below.refl _ _⟩
theorem OH.of_below {U V V' : World} {v : Value} {hs : List Value} (h : OH U V v hs) (hb : Below V.heap.size V V') : OH U V' v hs := by
  refine ⟨⟨h.own.1, ?_⟩, h.bl.trans (hb.mono h.bl.size)⟩
  rcases h.own.2 with hn | ⟨g, cap, cur, hv, hbg, hc, rest⟩
  · exact .inl hn
  · exact .inr ⟨g, cap, cur, hv, hbg, by rw [hb.block g (Array.getElem?_eq_some_iff.1 hc).1]; exact hc, rest⟩
theorem OH.app {U V : World} {v : Value} {hs : List Value} (h : OH U V v hs) {G : Nat} {a : Option Addr} {n c : Nat} (hx : V.cell? ⟨G, 0, none⟩ = some (.slice a n c)) (h9 : hs.length ≤ 4200) (ty : TypeId) :
    ∃ v' V', (Builtin.append_ #[25, 25] ty #[v, .slice (some ⟨G, 0, none⟩) 1 1]).run Tryz.prog V = .ok v' V' ∧ OH U V' v' (hs ++ [.slice a n c]) := by
  obtain ⟨i0, hi0, hz0, hz1, hz2⟩ := infoL
  obtain ⟨v', V', hr, ho, hg, _⟩ := run_append_own (P := Tryz.prog) V U.heap.size 25 ty 26 i0 (.slice none 0 0) 1 24 Tryz.under25 hi0 hz0 hz1 hz2 rfl (by decide) v hs.length hs h.own ⟨G, 0, none⟩ 1 1 [.slice a n c] rfl
    (fun j u hu => by match j, hu with | 0, hu => (simp at hu; subst hu; simpa [Addr.add] using hx)) (fun u hu => by simp at hu; subst hu; rfl) (by unfold maxLen; omega) (by omega) h.bl.size
  exact ⟨v', V', hr, ⟨by rw [List.length_append]; exact ho, h.bl.grown hg h.bl.size (fun k hk => (h.own.lt k hk).1)⟩⟩
/-- What the headers lead to. -/
structure HD (W : World) (hs : List Value) (LF : List (List Int)) : Prop where
  len : hs.length = LF.length
  at_ : ∀ k (h : k < hs.length) (h' : k < LF.length), ∃ a' c', hs[k] = .slice a' (LF[k].length) c' ∧ IL W a' LF[k]
theorem HD.nil (W : World) : HD W [] [] := ⟨rfl, fun k h => by cases h⟩
theorem HD.of_below {W V : World} {hs : List Value} {LF : List (List Int)} (h : HD W hs LF) (hb : Below W.heap.size W V) : HD V hs LF := ⟨h.len, fun k h1 h2 => by
  obtain ⟨a', c', e, q⟩ := h.at_ k h1 h2
  exact ⟨a', c', e, q.of_below hb⟩⟩
theorem HD.snoc {W : World} {hs : List Value} {LF : List (List Int)} (h : HD W hs LF) {a : Option Addr} {c : Nat} {b : List Int} (hb : IL W a b) : HD W (hs ++ [.slice a b.length c]) (LF ++ [b]) := ⟨by simp [h.len], fun k h1 h2 => by
  by_cases e : k < hs.length
  · have e2 : k < LF.length := by rw [← h.len]; exact e
    rw [List.getElem_append_left e, List.getElem_append_left e2]
    exact h.at_ k e e2
  · have e3 : k = hs.length := by simp at h1; omega
    have e4 : k = LF.length := by rw [← h.len]; exact e3
    have q1 : (hs ++ [Value.slice a b.length c])[k] = .slice a b.length c := by rw [List.getElem_append_right (by omega)]; simp [e3]
    have q2 : (LF ++ [b])[k] = b := by rw [List.getElem_append_right (by omega)]; simp [e4]
    rw [q1, q2]
    exact ⟨a, c, rfl, hb⟩⟩
theorem OH.ll {U V W : World} {v : Value} {hs : List Value} {LF : List (List Int)} (h : OH U V v hs) (hd : HD W hs LF) (hb : Below W.heap.size W V) : ∃ a c, v = .slice a LF.length c ∧ LL V a LF := by
  obtain ⟨hlen, ⟨rfl, h0⟩ | ⟨g, cap, cur, rfl, hbg, hg, hc, hm, hsz, ht⟩⟩ := h.own
  · have e : LF = [] := List.eq_nil_of_length_eq_zero (by rw [← hd.len]; exact h0)
    subst e
    exact ⟨none, 0, rfl, fun i hi => by cases hi⟩
  · refine ⟨some ⟨g, 0, none⟩, cap, by rw [hd.len], fun i hi => ?_⟩
    have hi2 : i < hs.length := by rw [hd.len]; exact hi
    obtain ⟨a', c', e, q⟩ := hd.at_ i hi2 hi
    refine ⟨g, 0, a', c', rfl, ?_, q.of_below hb⟩
    rw [Nat.mul_one] at ht
    have h1 : hs[i]? = some (.slice a' (LF[i].length) c') := by rw [List.getElem?_eq_getElem hi2, e]
    rw [← ht, List.getElem?_take, if_pos hi2] at h1
    simp only [World.cell?, hg, Nat.zero_add]
    simpa using h1
/-- Headers in the one world, what they lead to in the other one. -/
def LH (V W : World) (a : Option Addr) (L : List (List Int)) : Prop := ∀ i (h : i < L.length), ∃ b o a' c, a = some ⟨b, o, none⟩ ∧ V.cell? ⟨b, o + i, none⟩ = some (.slice a' (L[i]'h).length c) ∧ IL W a' (L[i]'h)
theorem LH.of_below {V V' W : World} {a : Option Addr} {L : List (List Int)} (h : LH V W a L) (hb : Below V.heap.size V V') : LH V' W a L := fun i hi => by
  obtain ⟨b, o, a', c, e, h1, h2⟩ := h i hi
  exact ⟨b, o, a', c, e, cell_keep h1 hb, h2⟩
theorem OH.lh {U V W : World} {v : Value} {hs : List Value} {LF : List (List Int)} (h : OH U V v hs) (hd : HD W hs LF) : ∃ a c, v = .slice a LF.length c ∧ LH V W a LF := by
  obtain ⟨hlen, ⟨rfl, h0⟩ | ⟨g, cap, cur, rfl, hbg, hg, hc, hm, hsz, ht⟩⟩ := h.own
  · have e : LF = [] := List.eq_nil_of_length_eq_zero (by rw [← hd.len]; exact h0)
    subst e
    exact ⟨none, 0, rfl, fun i hi => by cases hi⟩
  · refine ⟨some ⟨g, 0, none⟩, cap, by rw [hd.len], fun i hi => ?_⟩
    have hi2 : i < hs.length := by rw [hd.len]; exact hi
    obtain ⟨a', c', e, q⟩ := hd.at_ i hi2 hi
    refine ⟨g, 0, a', c', rfl, ?_, q⟩
    rw [Nat.mul_one] at ht
    have h1 : hs[i]? = some (.slice a' (LF[i].length) c') := by rw [List.getElem?_eq_getElem hi2, e]
    rw [← ht, List.getElem?_take, if_pos hi2] at h1
    simp only [World.cell?, hg, Nat.zero_add]
    simpa using h1
/-- Is a ballot one that is counted. -/
noncomputable def flB (b : List Int) : Bool := rankB b && b.any (fun x => decide (0 < x))
noncomputable def fl (L : List (List Int)) : List (List Int) := L.filter flB
theorem fl_succ {L : List (List Int)} {i : Nat} (h : i < L.length) : fl (L.take (i + 1)) = if flB L[i] = true then fl (L.take i) ++ [L[i]] else fl (L.take i) := by
  unfold fl
  rw [List.take_succ_eq_append_getElem h, List.filter_append]
  cases q : flB L[i] <;> simp [q]
theorem fl_len (L : List (List Int)) : (fl L).length ≤ L.length := List.length_filter_le _ _
theorem fits_rank {b : List Int} {n : Nat} {m r : Int} (hr : rk r = true) (hb : b.length = n) : fitsV b n r m = if rankB b = true then 0 else 4 := by
  subst hb
  have q := fitsV_rank (l := b) (m := m) hr (t := rankB b) rfl
  exact q
set_option maxHeartbeats 4000000 in
theorem counted26 {w W0 : World} {nm lt : ByteArray} {ca a : Option Addr} {n cc c : Nat} {s m : Int} {L : List (List Int)} (hn : n ≤ 12) (h0 : Below W0.heap.size W0 w) (hs : LL W0 a L) (hlen : ∀ i (h : i < L.length), L[i].length = n) (h9 : L.length ≤ 4096) :
    Calls Tryz.prog 25 #[PV nm ca n cc 3 s m a L.length c lt] w fun e w' => (∃ a' c', e = .returned (.slice a' (fl L).length c') ∧ LH w' W0 a' (fl L)) ∧ Below w.heap.size w w' := by
  have HS : Hid (LL W0 a L) := hs
  have HE : Hid (∀ i (h : i < L.length), L[i].length = n) := hlen
  obtain ⟨N, hN⟩ : ∃ N, N = L.length := ⟨_, rfl⟩
  have HN : Hid (N = L.length) := hN
  rw [← hN] at h9 ⊢
  clear hs hlen hN
  unfold PV
  have Bw : Hid (Below w.heap.size w (w.alloc (.cells #[.string nm, .slice ca n cc, .int .i64 3, .int .i64 s, .int .i64 m, .slice a N c, .string lt] 41))) := (Below.refl _ _).alloc (Nat.le_refl _) _
  have B : Hid (Below W0.heap.size W0 (w.alloc (.cells #[.string nm, .slice ca n cc, .int .i64 3, .int .i64 s, .int .i64 m, .slice a N c, .string lt] 41))) := h0.trans (Bw.out.mono h0.size)
  have I0 : Hid (IHolds (w.alloc (.cells #[.string nm, .slice ca n cc, .int .i64 3, .int .i64 s, .int .i64 m, .slice a N c, .string lt] 41)) w.heap.size 41 [.string nm, .slice ca n cc, .int .i64 3, .int .i64 s, .int .i64 m, .slice a N c, .string lt]) := IHolds.new w 41 _
  go_enter Tryz.func25, Tryz.ntmps25
  go_wp2_with fail
  generalize w.alloc (.cells #[.string nm, .slice ca n cc, .int .i64 3, .int .i64 s, .int .i64 m, .slice a N c, .string lt] 41) = U at *
  have S0 : Hid (OH U U (.slice none 0 0) [] ∧ HD W0 [] (fl (L.take 0))) := ⟨OH.nil U, HD.nil W0⟩
  go_loopg [3, 5, 9] N (fun gk v3 v5 v9 wr => ∃ (i : Nat) (v : Value) (hs : List Value), i + gk = N ∧ v9 = .int .i64 (i : Int) ∧ v = v3 ∧ OH U wr v hs ∧ HD W0 hs (fl (L.take i)))
  case atStart => exact ⟨0, _, _, by omega, rfl, rfl, S0.out.1, S0.out.2⟩
  case round =>
    clear S0
    obtain ⟨i, v, hs, hig, rfl, rfl, hO, hD⟩ := hrel
    have O1 : Hid (OH U wr v hs) := hO
    have D1 : Hid (HD W0 hs (fl (L.take i))) := hD
    clear hO hD
    by_cases hi : i < N
    · have il : (i : Int) < (N : Int) := by omega
      have hi2 : i < L.length := by rw [← HN.out]; exact hi
      have BW : Hid (Below W0.heap.size W0 wr) := B.out.trans (O1.out.bl.mono B.out.size)
      obtain ⟨b, o, a', c', rfl, q1, q2⟩ := HS.out i hi2
      have q3 := cell_keep q1 BW.out
      have LB : Hid (L[i].length = n) := HE.out i hi2
      have FS : Hid (fl (L.take (i + 1)) = if flB L[i] = true then fl (L.take i) ++ [L[i]] else fl (L.take i)) := fl_succ hi2
      have FL9 : Hid (hs.length ≤ 4096) := by rw [D1.out.len]; exact Nat.le_trans (fl_len _) (by rw [List.length_take]; omega)
      have QI : Hid (IL W0 a' L[i]) := q2
      obtain ⟨bb, hbb⟩ : ∃ b, b = L[i] := ⟨_, rfl⟩
      rw [← hbb] at q3 LB FS QI
      clear hbb hi2 q1 q2
      have FT : Hid (∀ V, Below W0.heap.size W0 V → Calls Tryz.prog 37 #[.agg #[.string nm, .slice ca n cc, .int .i64 3, .int .i64 s, .int .i64 m], .slice a' bb.length c'] V fun e w' => e = .returned (.int .i64 (if rankB bb = true then 0 else 4)) ∧ Below V.heap.size V w') := fun V hV => by
        have q := fits4 nm ca n cc 3 s m (c := c') (by omega : n ≤ 1000) (QI.out.of_below hV)
        rw [fits_rank rfl LB.out] at q
        exact q
      have CO : Hid (∀ V, Below W0.heap.size W0 V → Calls Tryz.prog 38 #[.slice a' bb.length c', .func (.func 39) #[] #[]] V fun e w' => e = .returned (.bool (bb.any (fun x => decide (0 < x)))) ∧ Below V.heap.size V w') := fun V hV => contains35 rfl (by rw [LB.out]; omega) (QI.out.of_below hV)
      obtain ⟨k0, k1, k2, k3, k4, k5, k6⟩ := seven (I0.out.of_below O1.out.bl)
      obtain ⟨nb, hnb⟩ : ∃ k, k = bb.length := ⟨_, rfl⟩
      have HNB : Hid (nb = bb.length) := hnb
      rw [← hnb] at q3 FT CO
      clear hnb
      unfold flB at FS
      cases hr : rankB bb with
      | false =>
        rw [hr] at FT FS
        have F2 : Hid (fl (L.take (i + 1)) = fl (L.take i)) := by show _ = _; rw [FS.out]; simp
        have FT2 : Hid (∀ V, Below W0.heap.size W0 V → Calls Tryz.prog 37 #[.agg #[.string nm, .slice ca n cc, .int .i64 3, .int .i64 s, .int .i64 m], .slice a' nb c'] V fun e w' => e = .returned (.int .i64 4) ∧ Below V.heap.size V w') := fun V hV => by have z := FT.out V hV; simpa using z
        clear FT FS hr CO
        go_wp2_with (first
          | (go_at_call 37; refine (FT2.out _ BW.out).mono ?_; rintro e w7 ⟨rfl, hB7⟩; have O7 : Hid (OH U w7 v hs) := O1.out.of_below hB7; clear hB7 FT2)
          | fail)
        go_roundg (gk - 1)
        case measure => omega
        case rel => exact ⟨i + 1, v, hs, by omega, by go_num, rfl, O7.out, by rw [F2.out]; exact D1.out⟩
      | true =>
        rw [hr] at FT FS
        have FT2 : Hid (∀ V, Below W0.heap.size W0 V → Calls Tryz.prog 37 #[.agg #[.string nm, .slice ca n cc, .int .i64 3, .int .i64 s, .int .i64 m], .slice a' nb c'] V fun e w' => e = .returned (.int .i64 0) ∧ Below V.heap.size V w') := fun V hV => by have z := FT.out V hV; simpa using z
        clear FT hr
        cases ha : bb.any (fun x => decide (0 < x)) with
        | false =>
          rw [ha] at CO FS
          have F2 : Hid (fl (L.take (i + 1)) = fl (L.take i)) := by show _ = _; rw [FS.out]; simp
          clear FS ha
          go_wp2_with (first
            | (go_at_call 37; refine (FT2.out _ BW.out).mono ?_; rintro e w7 ⟨rfl, hB7⟩; have O7 : Hid (OH U w7 v hs) := O1.out.of_below hB7; have B7 : Hid (Below W0.heap.size W0 w7) := BW.out.trans (hB7.mono BW.out.size); clear hB7 FT2)
            | (go_at_call 38; refine (CO.out _ B7.out).mono ?_; rintro e w8 ⟨rfl, hB8⟩; have O8 : Hid (OH U w8 v hs) := O7.out.of_below hB8; clear hB8 CO)
            | fail)
          go_roundg (gk - 1)
          case measure => omega
          case rel => exact ⟨i + 1, v, hs, by omega, by go_num, rfl, O8.out, by rw [F2.out]; exact D1.out⟩
        | true =>
          rw [ha] at CO FS
          have F2 : Hid (fl (L.take (i + 1)) = fl (L.take i) ++ [bb]) := by show _ = _; rw [FS.out]; simp
          have D2 : Hid (HD W0 (hs ++ [.slice a' nb c']) (fl (L.take (i + 1)))) := by rw [F2.out, HNB.out]; exact D1.out.snoc QI.out
          clear FS ha F2
          go_wp2_with (first
            | (go_at_call 37; refine (FT2.out _ BW.out).mono ?_; rintro e w7 ⟨rfl, hB7⟩; have O7 : Hid (OH U w7 v hs) := O1.out.of_below hB7; have B7 : Hid (Below W0.heap.size W0 w7) := BW.out.trans (hB7.mono BW.out.size); clear hB7 FT2)
            | (go_at_call 38; refine (CO.out _ B7.out).mono ?_; rintro e w8 ⟨rfl, hB8⟩; have O8 : Hid (OH U w8 v hs) := O7.out.of_below hB8; obtain ⟨v9, w9, hr, ho⟩ := (O8.out.of_below (V' := w8.alloc (.cells #[.slice a' nb c'] 26)) ((Below.refl _ _).alloc (Nat.le_refl _) _)).app (G := w8.heap.size) (a := a') (n := nb) (c := c') (by simp) (by have := FL9.out; omega) 25; have HR : Hid ((Builtin.append_ #[25, 25] 25 #[v, .slice (some ⟨w8.heap.size, 0, none⟩) 1 1]).run Tryz.prog (w8.alloc (.cells #[.slice a' nb c'] 26)) = .ok v9 w9) := hr; have O9 : Hid (OH U w9 v9 (hs ++ [.slice a' nb c'])) := ho; clear hB8 CO hr ho)
            | (at_builtin; refine wpList_append_at rfl (.tmp 22) (.tmp 24) 25 rfl _ _ _ rfl rfl HR.out ?_)
            | fail)
          go_roundg (gk - 1)
          case measure => omega
          case rel => exact ⟨i + 1, v9, _, by omega, by go_num, rfl, O9.out, D2.out⟩
    · have il : ¬ (i : Int) < (N : Int) := by omega
      have e : L.take i = L := List.take_of_length_le (by rw [← HN.out]; omega)
      have BW : Hid (Below W0.heap.size W0 wr) := B.out.trans (O1.out.bl.mono B.out.size)
      obtain ⟨av, cv, hv, hll⟩ := O1.out.lh (by have z := D1.out; rw [e] at z; exact z)
      have HLL : Hid (LH wr W0 av (fl L)) := hll
      clear hll e
      subst hv
      go_wp2_with fail
      exact bodyPost_ret (v := .slice av (fl L).length cv) (by simp [results, Tryz.results25, go_sem]) rfl ⟨⟨av, ⟨cv, rfl⟩, HLL.out⟩, Bw.out.trans (O1.out.bl.mono Bw.out.size)⟩
end Go.Proofs.YtkcnpcjogfhkbaaGreatDoor
