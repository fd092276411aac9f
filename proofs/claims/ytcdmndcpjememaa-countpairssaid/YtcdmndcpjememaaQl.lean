/- Pairs, the document's. -/
import Derived.Test.YtcdmndcpjememaaQk
set_option linter.unusedSimpArgs false
set_option linter.unusedVariables false
set_option maxRecDepth 100000
namespace Go.Proofs.Ytcdmndcpjememaa
open Go.RowKit Go.Deep Go.PlainAid

/-- A row that lies at the head of a block of numbers. -/
def RL (V : World) (g : Nat) (l : List Int) : Prop := ∃ cur, V.heap[g]? = some (.cells cur 3 (0, 0)) ∧ cur.toList.take l.length = vi l
theorem RL.of_below {V V' : World} {g : Nat} {l : List Int} (h : RL V g l) (hb : Below V.heap.size V V') : RL V' g l := by
  obtain ⟨cur, h1, h2⟩ := h
  exact ⟨cur, by rw [hb.block g (Array.getElem?_eq_some_iff.1 h1).1]; exact h1, h2⟩
theorem RL.il {V : World} {g : Nat} {l : List Int} (h : RL V g l) : IL V (some ⟨g, 0, none⟩) l := fun i hi => by
  obtain ⟨cur, h1, ht⟩ := h
  refine ⟨g, 0, rfl, ?_⟩
  have e : (vi l)[i]? = some (.int .i64 l[i]) := by simp [vi, hi]
  rw [← ht, List.getElem?_take, if_pos hi] at e
  simp only [World.cell?, h1, Nat.zero_add]
  simpa using e
theorem OW.rl {W V : World} {v : Value} {l : List Int} (h : OW W V v l) (h0 : l ≠ []) : ∃ g c, v = .slice (some ⟨g, 0, none⟩) l.length c ∧ RL V g l := by
  obtain ⟨hlen, ⟨rfl, h1⟩ | ⟨g, cap, cur, rfl, hb, hg, hc, hm, hs, ht⟩⟩ := h.own
  · exact absurd (List.eq_nil_of_length_eq_zero h1) h0
  · exact ⟨g, cap, rfl, cur, hg, by rw [Nat.mul_one] at ht; exact ht⟩
theorem OW.of_below {W V V' : World} {v : Value} {l : List Int} (h : OW W V v l) (hb : Below V.heap.size V V') : OW W V' v l := by
  refine ⟨⟨h.own.1, ?_⟩, h.bl.trans (hb.mono h.bl.size)⟩
  rcases h.own.2 with hn | ⟨g, cap, cur, hv, hbg, hc, rest⟩
  · exact .inl hn
  · exact .inr ⟨g, cap, cur, hv, hbg, by rw [hb.block g (Array.getElem?_eq_some_iff.1 hc).1]; exact hc, rest⟩
/-- What the headers lead to: rows that lie at the heads of blocks of numbers. -/
structure HR (V : World) (hs : List Value) (R : List (List Int)) : Prop where
  len : hs.length = R.length
  at_ : ∀ k (h : k < hs.length) (h' : k < R.length), ∃ g c, hs[k] = .slice (some ⟨g, 0, none⟩) (R[k].length) c ∧ RL V g R[k]
theorem HR.nil (W : World) : HR W [] [] := ⟨rfl, fun k h => by cases h⟩
theorem HR.of_below {W V : World} {hs : List Value} {R : List (List Int)} (h : HR W hs R) (hb : Below W.heap.size W V) : HR V hs R := ⟨h.len, fun k h1 h2 => by
  obtain ⟨g, c, e, q⟩ := h.at_ k h1 h2
  exact ⟨g, c, e, q.of_below hb⟩⟩
theorem HR.snoc {W : World} {hs : List Value} {R : List (List Int)} (h : HR W hs R) {g c : Nat} {b : List Int} (hb : RL W g b) : HR W (hs ++ [.slice (some ⟨g, 0, none⟩) b.length c]) (R ++ [b]) := ⟨by simp [h.len], fun k h1 h2 => by
  by_cases e : k < hs.length
  · have e2 : k < R.length := by rw [← h.len]; exact e
    rw [List.getElem_append_left e, List.getElem_append_left e2]
    exact h.at_ k e e2
  · have e3 : k = hs.length := by simp at h1; omega
    have e4 : k = R.length := by rw [← h.len]; exact e3
    have q1 : (hs ++ [Value.slice (some ⟨g, 0, none⟩) b.length c])[k] = .slice (some ⟨g, 0, none⟩) b.length c := by rw [List.getElem_append_right (by omega)]; simp [e3]
    have q2 : (R ++ [b])[k] = b := by rw [List.getElem_append_right (by omega)]; simp [e4]
    rw [q1, q2]
    exact ⟨g, c, rfl, hb⟩⟩
theorem OH.app2 {U V : World} {v : Value} {hs : List Value} (h : OH U V v hs) {G : Nat} {a : Option Addr} {n c : Nat} (hx : V.cell? ⟨G, 0, none⟩ = some (.slice a n c)) (h9 : hs.length ≤ 4200) (ty : TypeId) :
    ∃ v' V', (Builtin.append_ #[25, 25] ty #[v, .slice (some ⟨G, 0, none⟩) 1 1]).run Try.prog V = .ok v' V' ∧ OH U V' v' (hs ++ [.slice a n c]) ∧ ∀ xs R, HR V xs R → HR V' xs R := by
  obtain ⟨i0, hi0, hz0, hz1, hz2⟩ := infoL
  obtain ⟨v', V', hr, ho, hg, _⟩ := run_append_own (P := Try.prog) V U.heap.size 25 ty 31 i0 (.slice none 0 0) 1 24 Try.under25 hi0 hz0 hz1 hz2 rfl (by decide) v hs.length hs h.own ⟨G, 0, none⟩ 1 1 [.slice a n c] rfl
    (fun j u hu => by match j, hu with | 0, hu => (simp at hu; subst hu; simpa [Addr.add] using hx)) (fun u hu => by simp at hu; subst hu; rfl) (by unfold maxLen; omega) (by omega) h.bl.size
  refine ⟨v', V', hr, ⟨by rw [List.length_append]; exact ho, h.bl.grown hg h.bl.size (fun k hk => (h.own.lt k hk).1)⟩, fun xs R hR => ⟨hR.len, fun k h1 h2 => ?_⟩⟩
  obtain ⟨g, cc, e, cur, hc, ht⟩ := hR.at_ k h1 h2
  refine ⟨g, cc, e, cur, ?_, ht⟩
  rw [hg.block g (Array.getElem?_eq_some_iff.1 hc).1 (fun e' => ?_)]
  · exact hc
  · rcases h.own.2 with ⟨rfl, _⟩ | ⟨g', cap, cur', rfl, _, hgb, _⟩
    · simp [Value.ownBlock] at e'
    · obtain rfl : g = g' := by simpa [Value.ownBlock] using e'
      have := hc.symm.trans hgb
      simp at this
theorem OH.sq {U V : World} {v : Value} {hs : List Value} {n : Nat} {M : Mt} (h : OH U V v hs) (hd : HR V hs ((List.range n).map fun x => (List.range n).map (M x))) : ∃ a c, v = .slice a n c ∧ SQ V a n M := by
  have hl : hs.length = n := by rw [hd.len]; simp
  obtain ⟨hlen, ⟨rfl, h0⟩ | ⟨g, cap, cur, rfl, hbg, hg, hc, hm, hsz, ht⟩⟩ := h.own
  · have e : n = 0 := by omega
    subst e
    exact ⟨none, 0, rfl, fun i hi => by cases hi⟩
  · refine ⟨some ⟨g, 0, none⟩, cap, by rw [hl], fun i hi => ?_⟩
    have hi2 : i < hs.length := by rw [hl]; exact hi
    obtain ⟨g', c', e, q⟩ := hd.at_ i hi2 (by simp; exact hi)
    have e2 : ((List.range n).map fun x => (List.range n).map (M x))[i]'(by simp; exact hi) = (List.range n).map (M i) := by simp
    rw [e2] at e q
    refine ⟨g, 0, some ⟨g', 0, none⟩, c', rfl, ?_, ?_⟩
    · rw [Nat.mul_one] at ht
      have h1 : hs[i]? = some (.slice (some ⟨g', 0, none⟩) n c') := by rw [List.getElem?_eq_getElem hi2, e]; simp
      rw [← ht, List.getElem?_take, if_pos hi2] at h1
      simp only [World.cell?, hg, Nat.zero_add]
      simpa using h1
    · intro j hj
      obtain ⟨b, o, e3, h3⟩ := q.il j (by simp; exact hj)
      exact ⟨b, o, e3, by simpa using h3⟩
theorem pc_succ {LF : List (List Int)} {k : Nat} (h : k < LF.length) (x y : Nat) : pcM (LF.take (k + 1)) x y = pcM (LF.take k) x y + (if ah (LF[k].getD x 0) (LF[k].getD y 0) = true then 1 else 0) := by
  unfold pcM
  rw [List.take_succ_eq_append_getElem h, List.countP_append, List.countP_singleton]
  split <;> simp
theorem pc_le (LF : List (List Int)) (k x y : Nat) : 0 ≤ pcM (LF.take k) x y ∧ pcM (LF.take k) x y ≤ (k : Int) := by
  unfold pcM
  have h1 : (LF.take k).countP (fun b => ah (b.getD x 0) (b.getD y 0)) ≤ k := Nat.le_trans List.countP_le_length (by rw [List.length_take]; omega)
  omega
theorem row_succ (f : Nat → Int) (j : Nat) : (List.range (j + 1)).map f = (List.range j).map f ++ [f j] := by rw [List.range_succ, List.map_append]; rfl
theorem rows_succ (f : Nat → List Int) (j : Nat) : (List.range (j + 1)).map f = (List.range j).map f ++ [f j] := by rw [List.range_succ, List.map_append]; rfl
set_option maxHeartbeats 2000000 in
theorem pairs5_w {w : World} {nm : ByteArray} {ca a : Option Addr} {n cc c k : Nat} {r s m : Int} (hw : wc n r s = 2) :
    Calls Try.prog 5 #[CV nm ca n cc r s m, .slice a k c] w fun e w' => e = .returned (.tuple #[.slice none 0 0, .int .i64 2]) ∧ Below w.heap.size w w' := by
  have H : Hid (∀ W, Calls Try.prog 14 #[.agg #[.string nm, .slice ca n cc, .int .i64 r, .int .i64 s, .int .i64 m]] W fun e w' => e = .returned (.int .i64 2) ∧ Below W.heap.size W w') := fun W => by have := wrong14 nm ca n cc r s m W; rw [hw] at this; exact this
  clear hw
  unfold CV
  have B : Hid (Below w.heap.size w (w.alloc (.cells #[.string nm, .slice ca n cc, .int .i64 r, .int .i64 s, .int .i64 m] 24))) := (Below.refl _ _).alloc (Nat.le_refl _) _
  have I0 : Hid (IHolds (w.alloc (.cells #[.string nm, .slice ca n cc, .int .i64 r, .int .i64 s, .int .i64 m] 24)) w.heap.size 24 [.string nm, .slice ca n cc, .int .i64 r, .int .i64 s, .int .i64 m]) := IHolds.new w 24 _
  go_enter Try.func5, Try.ntmps5
  go_wp2_with (go_at_call 14; refine (H.out _).mono ?_)
  rintro e w1 ⟨rfl, hB⟩
  have B1 : Hid (Below w.heap.size w w1) := B.out.trans (hB.mono B.out.size)
  clear hB H I0
  go_wp2_with fail
  go_ret2
  exact ⟨rfl, B1.out⟩
set_option maxHeartbeats 2000000 in
theorem pairs5_b {w : World} {nm : ByteArray} {ca a : Option Addr} {n cc c : Nat} {r s m : Int} {L : List (List Int)} (hw : wc n r s = 0) {z : Int} (hz : z ≠ 0) (hb : wb n L = z) (hs : LL w a L) :
    Calls Try.prog 5 #[CV nm ca n cc r s m, .slice a L.length c] w fun e w' => e = .returned (.tuple #[.slice none 0 0, .int .i64 z]) ∧ Below w.heap.size w w' := by
  have H : Hid (∀ W, Calls Try.prog 14 #[.agg #[.string nm, .slice ca n cc, .int .i64 r, .int .i64 s, .int .i64 m]] W fun e w' => e = .returned (.int .i64 0) ∧ Below W.heap.size W w') := fun W => by have := wrong14 nm ca n cc r s m W; rw [hw] at this; exact this
  have H2 : Hid (∀ W, Below w.heap.size w W → Calls Try.prog 15 #[.agg #[.string nm, .slice ca n cc, .int .i64 r, .int .i64 s, .int .i64 m], .int .i64 4, .slice a L.length c] W fun e w' => e = .returned (.tuple #[.slice none 0 0, .int .i64 z]) ∧ Below W.heap.size W w') := fun W hW => filled15_bad hz hb (hs.of_below hW)
  have z0 : (z != 0) = true := by simpa using hz
  clear hw hb hz hs
  obtain ⟨K, hK⟩ : ∃ K, K = L.length := ⟨_, rfl⟩
  rw [← hK] at H2 ⊢
  clear hK
  unfold CV
  have B : Hid (Below w.heap.size w (w.alloc (.cells #[.string nm, .slice ca n cc, .int .i64 r, .int .i64 s, .int .i64 m] 24))) := (Below.refl _ _).alloc (Nat.le_refl _) _
  have I0 : Hid (IHolds (w.alloc (.cells #[.string nm, .slice ca n cc, .int .i64 r, .int .i64 s, .int .i64 m] 24)) w.heap.size 24 [.string nm, .slice ca n cc, .int .i64 r, .int .i64 s, .int .i64 m]) := IHolds.new w 24 _
  go_enter Try.func5, Try.ntmps5
  go_wp2_with (go_at_call 14; refine (H.out _).mono ?_)
  rintro e w1 ⟨rfl, hB⟩
  have B1 : Hid (Below w.heap.size w w1) := B.out.trans (hB.mono B.out.size)
  have I1 : Hid (IHolds w1 w.heap.size 24 [.string nm, .slice ca n cc, .int .i64 r, .int .i64 s, .int .i64 m]) := I0.out.of_below hB
  obtain ⟨k0, k1, k2, k3, k4⟩ := five I1.out
  clear hB H I0
  go_wp2_with (go_at_call 15; refine (H2.out _ B1.out).mono ?_)
  rintro e w2 ⟨rfl, hB⟩
  have B2 : Hid (Below w.heap.size w w2) := B1.out.trans (hB.mono B1.out.size)
  clear hB H2 I1 k0 k1 k2 k3 k4
  go_wp2_with fail
  go_ret2
  exact ⟨rfl, B2.out⟩
set_option maxHeartbeats 16000000 in
theorem pairs5_ok {w : World} {nm : ByteArray} {ca a : Option Addr} {n cc c : Nat} {r s m : Int} {L : List (List Int)} (hw : wc n r s = 0) (hb : wb n L = 0) (hs : LL w a L) :
    Calls Try.prog 5 #[CV nm ca n cc r s m, .slice a L.length c] w fun e w' => (∃ a' c', e = .returned (.tuple #[.slice a' n c', .int .i64 0]) ∧ SQ w' a' n (pcM (fl L))) ∧ Below w.heap.size w w' := by
  have H : Hid (∀ W, Calls Try.prog 14 #[.agg #[.string nm, .slice ca n cc, .int .i64 r, .int .i64 s, .int .i64 m]] W fun e w' => e = .returned (.int .i64 0) ∧ Below W.heap.size W w') := fun W => by have := wrong14 nm ca n cc r s m W; rw [hw] at this; exact this
  have hn := (wc_fits hw).1
  have hq := wb_len hb
  have H2 : Hid (∀ W, Below w.heap.size w W → Calls Try.prog 15 #[.agg #[.string nm, .slice ca n cc, .int .i64 r, .int .i64 s, .int .i64 m], .int .i64 4, .slice a L.length c] W fun e w' => (∃ a' c', e = .returned (.tuple #[.slice a' (fl L).length c', .int .i64 0]) ∧ LH w' W a' (fl L)) ∧ Below W.heap.size W w') := fun W hW => filled15_ok hn.2 hb (hs.of_below hW)
  have LN : Hid (∀ k (h : k < (fl L).length), (fl L)[k].length = n) := fun k h => by
    have q : (fl L)[k] ∈ L := (List.mem_filter.1 (List.getElem_mem h)).1
    obtain ⟨i, hi, e⟩ := List.getElem_of_mem q
    rw [← e]; exact hq.2 i hi
  have L9 : Hid ((fl L).length ≤ 4096) := Nat.le_trans (fl_len L) hq.1
  clear hw hb hs hq
  obtain ⟨K, hK⟩ : ∃ K, K = L.length := ⟨_, rfl⟩
  rw [← hK] at H2 ⊢
  clear hK
  generalize fl L = LF at *
  obtain ⟨NL, hNL⟩ : ∃ k, k = LF.length := ⟨_, rfl⟩
  have HNL : Hid (NL = LF.length) := hNL
  rw [← hNL] at H2 L9
  clear hNL
  unfold CV
  have B : Hid (Below w.heap.size w (w.alloc (.cells #[.string nm, .slice ca n cc, .int .i64 r, .int .i64 s, .int .i64 m] 24))) := (Below.refl _ _).alloc (Nat.le_refl _) _
  have I0 : Hid (IHolds (w.alloc (.cells #[.string nm, .slice ca n cc, .int .i64 r, .int .i64 s, .int .i64 m] 24)) w.heap.size 24 [.string nm, .slice ca n cc, .int .i64 r, .int .i64 s, .int .i64 m]) := IHolds.new w 24 _
  go_enter Try.func5, Try.ntmps5
  go_wp2_with (go_at_call 14; refine (H.out _).mono ?_)
  rintro e w1 ⟨rfl, hB⟩
  have B1 : Hid (Below w.heap.size w w1) := B.out.trans (hB.mono B.out.size)
  have I1 : Hid (IHolds w1 w.heap.size 24 [.string nm, .slice ca n cc, .int .i64 r, .int .i64 s, .int .i64 m]) := I0.out.of_below hB
  obtain ⟨k0, k1, k2, k3, k4⟩ := five I1.out
  clear hB H I0
  go_wp2_with (go_at_call 15; refine (H2.out _ B1.out).mono ?_)
  rintro e w2 ⟨⟨av, cv, rfl, hl⟩, hB⟩
  have B2 : Hid (Below w.heap.size w w2) := B1.out.trans (hB.mono B1.out.size)
  have I2 : Hid (IHolds w2 w.heap.size 24 [.string nm, .slice ca n cc, .int .i64 r, .int .i64 s, .int .i64 m]) := I1.out.of_below hB
  have LV : Hid (LH w2 w1 av LF) := hl
  have B12 : Hid (Below w1.heap.size w1 w2) := hB
  clear k0 k1 k2 k3 k4
  obtain ⟨k0, k1, k2, k3, k4⟩ := five I2.out
  clear hB hl H2 I1
  go_wp2_with fail
  obtain ⟨U, rfl⟩ : ∃ X, X = w2 := ⟨w2, rfl⟩
  have S0 : Hid (OH U U (.slice none 0 0) [] ∧ HR U [] ((List.range 0).map fun x => (List.range n).map (pcM LF x))) := ⟨OH.nil U, HR.nil U⟩
  clear k0 k1 k2 k3 k4
  go_loopg [8, 9, 10, 11, 12, 14, 32] n (fun gk v8 v9 v10 v11 v12 v14 v32 wr => ∃ (i : Nat) (v : Value) (hs : List Value), i + gk = n ∧ v32 = .int .i64 (i : Int) ∧ v = v8 ∧ OH U wr v hs ∧ HR wr hs ((List.range i).map fun x => (List.range n).map (pcM LF x)))
  case atStart => exact ⟨0, _, _, by omega, rfl, rfl, S0.out.1, S0.out.2⟩
  case round =>
    clear S0
    obtain ⟨i, v, hs, hig, rfl, rfl, hO, hR⟩ := hrel
    have O1 : Hid (OH U wr v hs) := hO
    have R1 : Hid (HR wr hs ((List.range i).map fun x => (List.range n).map (pcM LF x))) := hR
    have HL9 : Hid (hs.length = i) := by show _ = _; rw [hR.len]; simp
    clear hO hR
    obtain ⟨G1, rfl⟩ : ∃ G, G = gk := ⟨gk, rfl⟩
    by_cases hi : i < n
    · have il : (i : Int) < (n : Int) := by omega
      obtain ⟨k0, k1, k2, k3, k4⟩ := five (I2.out.of_below O1.out.bl)
      go_wp2_with fail
      clear k0 k1 k2 k3 k4
      obtain ⟨WR, rfl⟩ : ∃ X, X = wr := ⟨wr, rfl⟩
      have S1 : Hid (OW WR WR (.slice none 0 0) ((List.range 0).map (pcM LF i))) := OW.nil WR
      go_loopg [10, 11, 12, 14, 38] n (fun gk v10 v11 v12 v14 v38 wr => ∃ (j : Nat) (v' : Value), j + gk = n ∧ v38 = .int .i64 (j : Int) ∧ v' = v10 ∧ OW WR wr v' ((List.range j).map (pcM LF i)))
      case atStart => exact ⟨0, _, by omega, rfl, rfl, S1.out⟩
      case round =>
        clear S1
        obtain ⟨j, v', hjg, rfl, rfl, hW⟩ := hrel
        have W1 : Hid (OW WR wr v' ((List.range j).map (pcM LF i))) := hW
        clear hW
        obtain ⟨G2, rfl⟩ : ∃ G, G = gk := ⟨gk, rfl⟩
        by_cases hj : j < n
        · have jl : (j : Int) < (n : Int) := by omega
          have P0 : Hid (pcM (LF.take 0) i j = 0) := by show _ = _; simp [pcM]
          go_wp2_with fail
          obtain ⟨WI, rfl⟩ : ∃ X, X = wr := ⟨wr, rfl⟩
          have BL0 : Hid (Below WI.heap.size WI WI) := Below.refl _ _
          go_loopg [12, 14, 43] NL (fun gk v12 v14 v43 wr => ∃ k : Nat, k + gk = NL ∧ v43 = .int .i64 (k : Int) ∧ v12 = .int .i64 (pcM (LF.take k) i j) ∧ Below WI.heap.size WI wr)
          case atStart => exact ⟨0, by omega, rfl, by rw [P0.out], BL0.out⟩
          case round =>
            clear P0 BL0
            obtain ⟨k, hkg, rfl, rfl, hB⟩ := hrel
            have BI : Hid (Below WI.heap.size WI wr) := hB
            clear hB
            have BU : Hid (Below U.heap.size U wr) := (O1.out.bl.trans (W1.out.bl.mono O1.out.bl.size)).trans (BI.out.mono (Nat.le_trans O1.out.bl.size W1.out.bl.size))
            have BD : Hid (Below WI.heap.size WI wr.drew) := BI.out.trans ⟨rfl, rfl, rfl, Nat.le_refl _, fun _ _ => rfl⟩
            by_cases hk : k < NL
            · have kl : (k : Int) < (NL : Int) := by omega
              have hk2 : k < LF.length := by rw [← HNL.out]; exact hk
              obtain ⟨gb, go, ab, cb, rfl, q1, q2⟩ := LV.out.of_below BU.out k hk2
              have LK : Hid (LF[k].length = n) := LN.out k hk2
              rw [LK.out] at q1
              have hib : i < LF[k].length := by rw [LK.out]; exact hi
              have hjb : j < LF[k].length := by rw [LK.out]; exact hj
              have BB : Hid (Below w1.heap.size w1 wr.drew) := B12.out.trans ((BU.out.mono B12.out.size).trans ⟨rfl, rfl, rfl, Nat.le_refl _, fun _ _ => rfl⟩)
              obtain ⟨sb, so, rfl, p1⟩ := q2.of_below BB.out i hib
              obtain ⟨sb', so', e', p2⟩ := q2.of_below BB.out j hjb
              cases e'
              have PS : Hid (pcM (LF.take (k + 1)) i j = pcM (LF.take k) i j + (if ah LF[k][i] LF[k][j] = true then 1 else 0)) := by
                have z := pc_succ hk2 i j
                show _ = _
                rw [z]; simp [hib, hjb]
              have PL := pc_le LF k i j
              have k9 : k ≤ 4096 := by have := L9.out; omega
              have BE : Hid (i = j → LF[k][i] = LF[k][j]) := fun e => by subst e; rfl
              generalize LF[k][i] = bi at *
              generalize LF[k][j] = bj at *
              generalize pcM (LF.take k) i j = pv at *
              have wv : wrap64 (pv + 1) = pv + 1 := by unfold wrap64; omega
              clear LK hib hjb BB q2 hk2
              by_cases e0 : i = j
              · have e1 : ((i : Int) != (j : Int)) = false := by simp [e0]
                have PN : Hid (pcM (LF.take (k + 1)) i j = pv) := by show _ = _; rw [PS.out, ← BE.out e0]; simp [ah]
                clear PS BE e0 p1 p2
                go_wp2_with fail
                refine wp_region_noPanic ?_
                refine rg19_1 il jl e1 (fun _ _ _ _ h => h) ?_
                intro u47 u48 u49 u50 u51 u52 u53 u54 u55 u56 u57 u58 u59 u60 u61 u62 u63 u64 u65 u66 u67 u68 u69 u70 u71 u72 u73
                refine NoPanic.normal ?_
                try dsimp only
                go_wp2_with fail
                go_roundg (gk - 1)
                case measure => omega
                case rel => exact ⟨k + 1, by omega, by go_num, by rw [PN.out], BD.out⟩
              · have e1 : ((i : Int) != (j : Int)) = true := by simp; omega
                clear BE e0
                by_cases e0 : bi = 0
                · have e2 : (bi != 0) = false := by simp [e0]
                  have PN : Hid (pcM (LF.take (k + 1)) i j = pv) := by show _ = _; rw [PS.out, e0]; simp [ah]
                  clear PS e0 p2
                  go_wp2_with fail
                  refine wp_region_noPanic ?_
                  refine rg19_2 il jl e1 p1 e2 (fun _ _ _ _ h => h) ?_
                  intro u47 u48 u49 u50 u51 u52 u53 u54 u55 u56 u57 u58 u59 u60 u61 u62 u63 u64 u65 u66 u67 u68 u69 u70 u71 u72 u73
                  refine NoPanic.normal ?_
                  try dsimp only
                  go_wp2_with fail
                  go_roundg (gk - 1)
                  case measure => omega
                  case rel => exact ⟨k + 1, by omega, by go_num, by rw [PN.out], BD.out⟩
                · have e2 : (bi != 0) = true := by simp [e0]
                  by_cases f0 : bj = 0
                  · have e3 : (bj == 0) = true := by simp [f0]
                    have PN : Hid (pcM (LF.take (k + 1)) i j = pv + 1) := by show _ = _; rw [PS.out, f0]; simp [ah, e0]
                    clear PS e0 f0
                    go_wp2_with fail
                    refine wp_region_noPanic ?_
                    refine rg19_3 il jl e1 p1 e2 p2 e3 (fun _ _ _ _ h => h) ?_
                    intro u47 u48 u49 u50 u51 u52 u53 u54 u55 u56 u57 u58 u59 u60 u61 u62 u63 u64 u65 u66 u67 u68 u69 u70 u71 u72 u73
                    refine NoPanic.normal ?_
                    try dsimp only
                    go_wp2_with fail
                    go_roundg (gk - 1)
                    case measure => omega
                    case rel => exact ⟨k + 1, by omega, by go_num, by rw [PN.out], BD.out⟩
                  · have e3 : (bj == 0) = false := by simp [f0]
                    by_cases e4 : bi < bj
                    · have PN : Hid (pcM (LF.take (k + 1)) i j = pv + 1) := by show _ = _; rw [PS.out]; simp [ah, e0, e4]
                      clear PS e0 f0
                      go_wp2_with fail
                      refine wp_region_noPanic ?_
                      refine rg19_4 il jl e1 p1 e2 p2 e3 e4 (fun _ _ _ _ h => h) ?_
                      intro u47 u48 u49 u50 u51 u52 u53 u54 u55 u56 u57 u58 u59 u60 u61 u62 u63 u64 u65 u66 u67 u68 u69 u70 u71 u72 u73
                      refine NoPanic.normal ?_
                      try dsimp only
                      go_wp2_with fail
                      go_roundg (gk - 1)
                      case measure => omega
                      case rel => exact ⟨k + 1, by omega, by go_num, by rw [PN.out], BD.out⟩
                    · have PN : Hid (pcM (LF.take (k + 1)) i j = pv) := by show _ = _; rw [PS.out]; simp [ah, e0, f0, e4]
                      clear PS e0 f0
                      go_wp2_with fail
                      refine wp_region_noPanic ?_
                      refine rg19_5 il jl e1 p1 e2 p2 e3 (Int.not_lt.2 e4) (fun _ _ _ _ h => h) ?_
                      intro u47 u48 u49 u50 u51 u52 u53 u54 u55 u56 u57 u58 u59 u60 u61 u62 u63 u64 u65 u66 u67 u68 u69 u70 u71 u72 u73
                      refine NoPanic.normal ?_
                      try dsimp only
                      go_wp2_with fail
                      go_roundg (gk - 1)
                      case measure => omega
                      case rel => exact ⟨k + 1, by omega, by go_num, by rw [PN.out], BD.out⟩
            · have kl : ¬ (k : Int) < (NL : Int) := by omega
              have e : LF.take k = LF := List.take_of_length_le (by rw [← HNL.out]; omega)
              rw [e]
              clear e
              have l9 : ((List.range j).map (pcM LF i)).length + 1 ≤ 4096 := by simp; omega
              obtain ⟨v9, w9, hrr, ho, _⟩ := (W1.out.of_below (BI.out.alloc BI.out.size (.cells #[.int .i64 (pcM LF i j)] 3))).app (a := some ⟨wr.heap.size, 0, none⟩) (c := 1) (k := 1) (m := [pcM LF i j]) rfl (by simp) (IL.one wr _) l9 31
              have HRr : Hid ((Builtin.append_ #[31, 31] 31 #[v', .slice (some ⟨wr.heap.size, 0, none⟩) 1 1]).run Try.prog (wr.alloc (.cells #[.int .i64 (pcM LF i j)] 3)) = .ok v9 w9) := hrr
              have W9 : Hid (OW WR w9 v9 ((List.range (j + 1)).map (pcM LF i))) := by show OW _ _ _ _; rw [row_succ]; exact ho
              clear hrr ho l9
              generalize pcM LF i j = pv at *
              go_wp2_with (at_builtin; refine wpList_append_at rfl (.tmp 78) (.tmp 80) 31 rfl _ _ _ rfl rfl HRr.out ?_)
              go_roundg (G2 - 1)
              case measure => omega
              case rel => exact ⟨j + 1, v9, by omega, by go_num, rfl, W9.out⟩
        · have jl : ¬ (j : Int) < (n : Int) := by omega
          have e : j = n := by omega
          have hne : (List.range n).map (pcM LF i) ≠ [] := by simp; omega
          have W2 := W1.out
          rw [e] at W2
          obtain ⟨g, c2, e2, hrl⟩ := W2.rl hne
          have RL1 : Hid (RL wr g ((List.range n).map (pcM LF i))) := hrl
          have el : ((List.range n).map (pcM LF i)).length = n := by simp
          rw [el] at e2
          subst e2
          have BA : Hid (Below wr.heap.size wr (wr.alloc (.cells #[.slice (some ⟨g, 0, none⟩) n c2] 31))) := (Below.refl _ _).alloc (Nat.le_refl _) _
          obtain ⟨v9, w9, hrr, ho, hkeep⟩ := ((O1.out.of_below W2.bl).of_below BA.out).app2 (G := wr.heap.size) (a := some ⟨g, 0, none⟩) (n := n) (c := c2) (by simp) (by have := HL9.out; omega) 25
          have HRr : Hid ((Builtin.append_ #[25, 25] 25 #[v, .slice (some ⟨wr.heap.size, 0, none⟩) 1 1]).run Try.prog (wr.alloc (.cells #[.slice (some ⟨g, 0, none⟩) n c2] 31)) = .ok v9 w9) := hrr
          have O9 : Hid (OH U w9 v9 (hs ++ [.slice (some ⟨g, 0, none⟩) n c2])) := ho
          have R9 : Hid (HR w9 (hs ++ [.slice (some ⟨g, 0, none⟩) n c2]) ((List.range (i + 1)).map fun x => (List.range n).map (pcM LF x))) := by
            have z := hkeep _ _ (((R1.out.of_below W2.bl).of_below BA.out).snoc (c := c2) (RL1.out.of_below BA.out))
            rw [el] at z
            show HR _ _ _
            rw [rows_succ]; exact z
          clear hrr ho hkeep W2 hrl e el hne
          go_wp2_with (at_builtin; refine wpList_append_at rfl (.tmp 83) (.tmp 85) 25 rfl _ _ _ rfl rfl HRr.out ?_)
          go_roundg (G1 - 1)
          case measure => omega
          case rel => exact ⟨i + 1, v9, _, by omega, by go_num, rfl, O9.out, R9.out⟩
    · have il : ¬ (i : Int) < (n : Int) := by omega
      have e : i = n := by omega
      obtain ⟨ax, cx, hv, hsq⟩ := O1.out.sq (M := pcM LF) (n := n) (by have z := R1.out; rw [e] at z; exact z)
      have BF : Hid (Below w.heap.size w wr) := B2.out.trans (O1.out.bl.mono B2.out.size)
      have SF : Hid (SQ wr ax n (pcM LF)) := hsq
      clear hsq e
      subst hv
      go_wp2_with fail
      exact bodyPost_ret (v := .tuple #[.slice ax n cx, .int .i64 0]) (by simp [results, Try.results5, go_sem]) rfl ⟨⟨ax, ⟨cx, rfl⟩, SF.out⟩, BF.out⟩
end Go.Proofs.Ytcdmndcpjememaa
