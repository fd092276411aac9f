/- AuditHands: the law. -/
import Derived.Test.YtafekaonmpkhiaaEm
import Derived.Test.YtafekaonmpkhiaaDn
import Derived.Deep.CutBlock
set_option linter.unusedSimpArgs false
set_option linter.unusedVariables false
set_option maxRecDepth 100000
namespace Go.Proofs.Ytafekaonmpkhiaa
open Go.RowKit Go.Shelf Go.Deep Go.PlainAid Go.Maps Go.WideMaps

theorem info26 : ∃ i, Try.prog.info? 26 = some i ∧ i.zero = some (.agg #[.int .i64 0, .string ⟨#[]⟩, .string ⟨#[]⟩, .string ⟨#[]⟩, .int .i64 0, .string ⟨#[]⟩]) ∧ i.size = 6 ∧ i.bytes = 80 := by
  have h1 : (Try.prog.info? 26).map (fun i => (i.size, i.bytes)) = some (6, 80) := by kernel_rfl
  have h2 : (Try.prog.info? 26).bind (fun i => i.zero) = some (.agg #[.int .i64 0, .string ⟨#[]⟩, .string ⟨#[]⟩, .string ⟨#[]⟩, .int .i64 0, .string ⟨#[]⟩]) := by kernel_rfl
  cases hq : Try.prog.info? 26 with
  | none => rw [hq] at h1; cases h1
  | some i =>
    rw [hq] at h1 h2
    simp only [Option.map_some, Option.some.injEq, Prod.mk.injEq] at h1
    exact ⟨i, rfl, h2, h1.1, h1.2⟩
def hrows (l : List Hd) : List Value := l.flatMap hcells
theorem hcells_len (h : Hd) : (hcells h).length = 6 := rfl
theorem hrows_snoc (l : List Hd) (h : Hd) : hrows (l ++ [h]) = hrows l ++ hcells h := by simp [hrows]
theorem hrows_get : ∀ (l : List Hd) (i j : Nat) (hi : i < l.length) (hj : j < 6), (hrows l)[i * 6 + j]? = some ((hcells l[i])[j]'(by rw [hcells_len]; exact hj))
  | [], i, j, hi, _ => by cases hi
  | a :: t, 0, j, _, hj => by
    show (hcells a ++ hrows t)[0 * 6 + j]? = _
    rw [List.getElem?_append_left (by rw [hcells_len]; omega), Nat.zero_mul, Nat.zero_add, List.getElem?_eq_getElem]
    rfl
  | a :: t, i + 1, j, hi, hj => by
    show (hcells a ++ hrows t)[(i + 1) * 6 + j]? = _
    rw [List.getElem?_append_right (by rw [hcells_len]; omega), hcells_len, show (i + 1) * 6 + j - 6 = i * 6 + j by omega, hrows_get t i j (by simpa using hi) hj]
    rfl
theorem hl_of_own {V : World} {v : Value} {l : List Hd} {base : Nat} (ho : V.ownsRow base 26 6 v l.length (hrows l)) : HLs V v l := by
  obtain ⟨hlen, ⟨rfl, h0⟩ | ⟨g, cap, cur, rfl, hbg, hg, hc, hm, hs, ht⟩⟩ := id ho
  · have e : l = [] := List.eq_nil_of_length_eq_zero h0
    subst e
    exact ⟨none, 0, rfl, fun k hk => by cases hk⟩
  · refine ⟨some ⟨g, 0, none⟩, cap, rfl, fun k hk => ?_⟩
    have q : ∀ j (hj : j < 6), V.cell? ⟨g, 0 + k * 6 + j, none⟩ = some ((hcells l[k])[j]'(by rw [hcells_len]; exact hj)) := fun j hj => by
      rw [Nat.zero_add, ho.cellAt (k * 6 + j) (by omega)]
      exact hrows_get l k j hk hj
    exact ⟨g, 0, rfl, q 0 (by omega), q 1 (by omega), q 2 (by omega), q 3 (by omega), q 4 (by omega), q 5 (by omega)⟩
theorem CU.of_row {cb bm bs base : Nat} {l : List Hd} {U V : World} {row : Option Nat} (h : CU U cb bm bs l) (g : U.grownBy V row) (hr : ∀ k, row = some k → base ≤ k) (h1 : cb < base) (h2 : bm < base) (h3 : bs < base) : CU V cb bm bs l := by
  obtain ⟨n, D, m1, m2⟩ := h.m
  obtain ⟨k, S, s1, s2⟩ := h.s
  have ne : ∀ x, x < base → row ≠ some x := fun x hx e => by have := hr x e; omega
  refine ⟨?_, h.n1, h.n2, h.n3, ⟨n, D, m1.kept g (fun e => ne bm h2 (by rw [e])), m2⟩, ⟨k, S, s1.kept g (fun e => ne bs h3 (by rw [e])), s2⟩⟩
  exact (g.block cb h.c.lt (fun e => ne cb h1 e.symm)).trans h.c
theorem own26_fr {cb bm bs base n : Nat} {U V : World} {v : Value} {xs : List Value} {l : List Hd} (ho : U.ownsRow base 26 6 v n xs) (c : CU U cb bm bs l) (g : FR U V bm bs) : V.ownsRow base 26 6 v n xs := by
  refine own_far ho fun k hk => ?_
  obtain ⟨hl, ⟨e0, -⟩ | ⟨b, cap, cur, e0, hbg, hg, -⟩⟩ := id ho
  · rw [e0] at hk; cases hk
  · rw [e0] at hk; cases hk
    exact g.block _ (ho.lt _ (by rw [e0]; rfl)).2 (c.cells hg).1 (c.cells hg).2
/-- How the walk stands behind i hands. -/
structure LW (w W : World) (cb bm bs base i : Nat) (l : List Hd) (v4 : Value) : Prop where
  hist : Hist l
  few : l.length ≤ i
  cu : CU W cb bm bs l
  own : W.ownsRow base 26 6 v4 l.length (hrows l)
  sz : base ≤ W.heap.size
  below : Below w.heap.size w W
theorem FR.below2 {r bm bs : Nat} {w U V : World} (h : Below r w U) (f : FR U V bm bs) (h1 : r ≤ bm) (h2 : r ≤ bs) (hb : r ≤ U.heap.size) : Below r w V :=
  ⟨f.os.trans h.os, f.tape.trans h.tape, f.output.trans h.output, Nat.le_trans h.size f.size, fun k hk => (f.block k (by omega) (by omega) (by omega)).trans (h.block k hk)⟩
set_option maxHeartbeats 16000000 in
theorem law3 {w : World} {hs : List Hd} {v : Value} (hh : HLs w v hs) (hhs : ∀ h ∈ hs, Hs h) (hN : hs.length * 80 ≤ 140737488355328) :
    Calls Try.prog 3 #[v] w fun e w' => e = .returned (.bool true) ∧ Below w.heap.size w w' := by
  obtain ⟨a0, c0, rfl, -⟩ := id hh
  obtain ⟨i0, hi0, hz0, hz1, hz2⟩ := info26
  have HH : Hid (HLs w (.slice a0 hs.length c0) hs) := hh
  have HS : Hid ((∀ h ∈ hs, Hs h) ∧ hs.length * 80 ≤ 140737488355328) := ⟨hhs, hN⟩
  generalize hn : hs.length = N at *
  have HNN : Hid (hs.length = N) := hn
  clear hh hhs hN hn
  go_enter Try.func3, Try.ntmps3
  go_wp2_with (go_at_call 5; refine (newCustody5 _).mono ?_)
  rintro e V ⟨rfl, hcu, hbl⟩
  generalize hcb : w.heap.size + 2 = cb at *
  generalize hbs : w.heap.size + 1 = bs at *
  generalize hbm : w.heap.size = bm at *
  have NB : Hid (w.heap.size = bm ∧ w.heap.size + 1 = bs ∧ w.heap.size + 2 = cb) := ⟨hbm, by rw [hbm]; exact hbs, by rw [hbm]; exact hcb⟩
  have NC : Hid (cb < V.heap.size ∧ bm < V.heap.size ∧ bs < V.heap.size) := ⟨hcu.c.lt, hcu.ch.bm_lt, hcu.ch.bs_lt⟩
  have O0 : Hid (LW w V cb bm bs V.heap.size 0 [] (.slice none 0 0)) := ⟨.nil, Nat.le_refl _, hcu, World.ownsRow_nil _ _ _ _, Nat.le_refl _, by rw [hbm]; exact hbl⟩
  have WB : Hid (w.heap.size ≤ V.heap.size) := hbl.size
  generalize hbase : V.heap.size = base at *
  clear hbase hcu hbl hbm hbs hcb
  go_wp2_with fail
  go_loopg [4, 15] N (fun gk v4 v15 wr => ∃ (i : Nat) (l : List Hd), i + gk = N ∧ v15 = .int .i64 (i : Int) ∧ LW w wr cb bm bs base i l v4)
  case atStart => exact ⟨0, [], by omega, rfl, O0.out⟩
  case round =>
    clear O0
    obtain ⟨i, l, hk, rfl, hO⟩ := hrel
    have HO : Hid (LW w wr cb bm bs base i l u4) := hO
    have HOC : Hid (CU wr cb bm bs l) := hO.cu
    have LL : Hid (l.length < 140737488355328) := by show _ < _; have := hO.few; have := HS.out.2; omega
    have HI : Hid (Inv1 l) := hO.hist.inv
    clear hO
    by_cases hlt : i < N
    · have il : (i : Int) < (N : Int) := by omega
      have nb : N < 140737488355328 := by have := HS.out.2; omega
      have hx := HH.out.of_below HO.out.below
      have hlt' : i < hs.length := by rw [HNN.out]; exact hlt
      obtain ⟨a', c', e', q⟩ := hx
      have e1 : a0 = a' := by injection e'
      subst e1
      obtain ⟨b0, o0, rfl, p0, p1, p2, p3, p4, p5⟩ := q i hlt'
      have HSI : Hid (Hs hs[i]) := HS.out.1 _ (List.getElem_mem hlt')
      generalize hs[i] = h at *
      clear q e' hlt'
      have B1 : Hid (Below wr.heap.size wr (wr.alloc (.cells #[.int .i64 h.act, .string h.box, .string h.who, .string h.to_, .int .i64 h.cnt, .string h.sl] 26))) := (Below.refl _ wr).alloc (Nat.le_refl _) _
      have J1 : Hid (IHolds (wr.alloc (.cells #[.int .i64 h.act, .string h.box, .string h.who, .string h.to_, .int .i64 h.cnt, .string h.sl] 26)) wr.heap.size 26 [.int .i64 h.act, .string h.box, .string h.who, .string h.to_, .int .i64 h.cnt, .string h.sl]) := IHolds.new wr 26 _
      have C1 : Hid (CU (wr.alloc (.cells #[.int .i64 h.act, .string h.box, .string h.who, .string h.to_, .int .i64 h.cnt, .string h.sl] 26)) cb bm bs l) := HOC.out.of_below B1.out
      have O1 : Hid ((wr.alloc (.cells #[.int .i64 h.act, .string h.box, .string h.who, .string h.to_, .int .i64 h.cnt, .string h.sl] 26)).ownsRow base 26 6 u4 l.length (hrows l)) := HO.out.own.alloc _
      have BW1 : Hid (Below w.heap.size w (wr.alloc (.cells #[.int .i64 h.act, .string h.box, .string h.who, .string h.to_, .int .i64 h.cnt, .string h.sl] 26))) := HO.out.below.alloc HO.out.below.size _
      have S1 : Hid (base ≤ (wr.alloc (.cells #[.int .i64 h.act, .string h.box, .string h.who, .string h.to_, .int .i64 h.cnt, .string h.sl] 26)).heap.size) := Nat.le_trans HO.out.sz B1.out.size
      have H6 : Hid (Calls Try.prog 6 #[u4, .agg #[.int .i64 h.act, .string h.box, .string h.who, .string h.to_, .int .i64 h.cnt, .string h.sl]] (wr.alloc (.cells #[.int .i64 h.act, .string h.box, .string h.who, .string h.to_, .int .i64 h.cnt, .string h.sl] 26)) fun e w' => e = .returned (.int .i64 (handC l h)) ∧ Below (wr.alloc (.cells #[.int .i64 h.act, .string h.box, .string h.who, .string h.to_, .int .i64 h.cnt, .string h.sl] 26)).heap.size (wr.alloc (.cells #[.int .i64 h.act, .string h.box, .string h.who, .string h.to_, .int .i64 h.cnt, .string h.sl] 26)) w') := hand6 (hl_of_own O1.out) HSI.out LL.out
      have HW : Hid (Hist l ∧ l.length ≤ i) := ⟨HO.out.hist, HO.out.few⟩
      clear HO HOC B1
      have H7 : Hid (∀ V, CU V cb bm bs l → Calls Try.prog 7 #[.pointer (some ⟨cb, 0, none⟩), .agg #[.int .i64 h.act, .string h.box, .string h.who, .string h.to_, .int .i64 h.cnt, .string h.sl]] V fun e w' => e = .returned (.int .i64 (handC l h)) ∧ CU w' cb bm bs (nxt l h) ∧ FR V w' bm bs) := fun V hV => hand7 hV HI.out HSI.out LL.out
      by_cases he : handC l h = 0
      · have HE : Hid (handC l h = 0) := he
        rw [he] at H6 H7
        rw [nxt_yes he] at H7
        clear he
        go_wp2_with (go_at_call 6; refine H6.out.mono ?_)
        rintro e V1 ⟨rfl, hB⟩
        have J2 : Hid (IHolds V1 wr.heap.size 26 [.int .i64 h.act, .string h.box, .string h.who, .string h.to_, .int .i64 h.cnt, .string h.sl]) := J1.out.of_below hB
        have C2 : Hid (CU V1 cb bm bs l) := C1.out.of_below hB
        have O2 : Hid (V1.ownsRow base 26 6 u4 l.length (hrows l)) := own_far O1.out (fun g hg => hB.block g (O1.out.lt g hg).2)
        have BW2 : Hid (Below w.heap.size w V1) := BW1.out.trans (hB.mono BW1.out.size)
        have S2 : Hid (base ≤ V1.heap.size) := Nat.le_trans S1.out hB.size
        clear H6 hB J1 C1 O1 BW1 S1 p0 p1 p2 p3 p4 p5
        obtain ⟨p0, p1, p2, p3, p4, p5⟩ := six J2.out
        go_wp2_with (go_at_call 7; refine (H7.out V1 C2.out).mono ?_)
        rintro e V2 ⟨rfl, hcu, hfr⟩
        have J3 : Hid (IHolds V2 wr.heap.size 26 [.int .i64 h.act, .string h.box, .string h.who, .string h.to_, .int .i64 h.cnt, .string h.sl]) := hfr.holds J2.out (C2.out.cells J2.out).1 (C2.out.cells J2.out).2
        have O3 : Hid (V2.ownsRow base 26 6 u4 l.length (hrows l)) := own26_fr O2.out C2.out hfr
        have C3 : Hid (CU V2 cb bm bs (l ++ [h])) := hcu
        have BW3 : Hid (Below w.heap.size w V2) := FR.below2 BW2.out hfr (by have := NB.out; omega) (by have := NB.out; omega) BW2.out.size
        have S3 : Hid (base ≤ V2.heap.size) := Nat.le_trans S2.out hfr.size
        clear H7 hcu hfr J2 O2 C2 BW2 S2 p0 p1 p2 p3 p4 p5
        obtain ⟨p0, p1, p2, p3, p4, p5⟩ := six J3.out
        have O4 : Hid ((V2.alloc (.cells #[.int .i64 h.act, .string h.box, .string h.who, .string h.to_, .int .i64 h.cnt, .string h.sl] 26)).ownsRow base 26 6 u4 l.length (hrows l)) := O3.out.alloc _
        have J4 : Hid (IHolds (V2.alloc (.cells #[.int .i64 h.act, .string h.box, .string h.who, .string h.to_, .int .i64 h.cnt, .string h.sl] 26)) V2.heap.size 26 [.int .i64 h.act, .string h.box, .string h.who, .string h.to_, .int .i64 h.cnt, .string h.sl]) := IHolds.new V2 26 _
        have BW4 : Hid (Below w.heap.size w (V2.alloc (.cells #[.int .i64 h.act, .string h.box, .string h.who, .string h.to_, .int .i64 h.cnt, .string h.sl] 26))) := BW3.out.alloc BW3.out.size _
        have C4 : Hid (CU (V2.alloc (.cells #[.int .i64 h.act, .string h.box, .string h.who, .string h.to_, .int .i64 h.cnt, .string h.sl] 26)) cb bm bs (l ++ [h])) := C3.out.of_below ((Below.refl _ V2).alloc (Nat.le_refl _) _)
        have S4 : Hid (base ≤ (V2.alloc (.cells #[.int .i64 h.act, .string h.box, .string h.who, .string h.to_, .int .i64 h.cnt, .string h.sl] 26)).heap.size) := by show _ ≤ _; have := S3.out; simp; omega
        have HC4 : Hid (∀ jj u, ([.int .i64 h.act, .string h.box, .string h.who, .string h.to_, .int .i64 h.cnt, .string h.sl] : List Value)[jj]? = some u → (V2.alloc (.cells #[.int .i64 h.act, .string h.box, .string h.who, .string h.to_, .int .i64 h.cnt, .string h.sl] 26)).cell? ((⟨V2.heap.size, 0, none⟩ : Addr).add jj) = some u) := fun jj u hu => by
          have hj := (List.getElem?_eq_some_iff.1 hu).1
          have q := J4.out.cell jj hj
          rw [show (⟨V2.heap.size, 0, none⟩ : Addr).add jj = ⟨V2.heap.size, jj, none⟩ by unfold Addr.add; by_cases z : jj = 0 <;> simp [z]]
          rw [q, ← hu, List.getElem?_eq_getElem hj]
        have ONE : Hid (∀ u ∈ ([.int .i64 h.act, .string h.box, .string h.who, .string h.to_, .int .i64 h.cnt, .string h.sl] : List Value), u.oneCell' = true) := fun u hu => by
          simp at hu
          rcases hu with rfl | rfl | rfl | rfl | rfl | rfl <;> rfl
        have NN : Hid ((l.length + 1) * 80 ≤ 140737488355328) := by show _ ≤ _; have := HW.out.2; have := HS.out.2; omega
        go_wp2_with (at_builtin; refine wpList_append_own _ rfl (.tmp 29) (.tmp 31) 22 rfl base 26 i0 (.agg #[.int .i64 0, .string ⟨#[]⟩, .string ⟨#[]⟩, .string ⟨#[]⟩, .int .i64 0, .string ⟨#[]⟩]) 6 80 Try.underlying22 hi0 hz0 hz1 hz2 rfl (by decide) u4 l.length (hrows l) rfl O4.out ⟨V2.heap.size, 0, none⟩ 1 1 [.int .i64 h.act, .string h.box, .string h.who, .string h.to_, .int .i64 h.cnt, .string h.sl] rfl rfl HC4.out ONE.out (by have := NN.out; unfold maxLen; omega) (by have := NN.out; omega) S4.out ?_; intro v9 w9 hown1 hgrow1 hn1; clear hn1; have hO9 : Hid (w9.ownsRow base 26 6 v9 (l.length + 1) (hrows l ++ [.int .i64 h.act, .string h.box, .string h.who, .string h.to_, .int .i64 h.cnt, .string h.sl])) := hown1; have hG9 : Hid ((V2.alloc (.cells #[.int .i64 h.act, .string h.box, .string h.who, .string h.to_, .int .i64 h.cnt, .string h.sl] 26)).grownBy w9 u4.ownBlock) := hgrow1; clear hown1 hgrow1)
        have XO : Hid (LW w w9 cb bm bs base (i + 1) (l ++ [h]) v9) := ⟨.snoc HW.out.1 HE.out, by have := HW.out.2; simp; omega, C4.out.of_row hG9.out (fun k hk => (O4.out.lt k hk).1) NC.out.1 NC.out.2.1 NC.out.2.2,
          by have q := hO9.out; rw [hrows_snoc, List.length_append]; exact q, Nat.le_trans S4.out hG9.out.size, below_grown2 BW4.out hG9.out BW4.out.size (fun k hk => by have := (O4.out.lt k hk).1; have := WB.out; omega)⟩
        clear hO9 hG9 C4 O4 J4 BW4 S4 J3 O3 C3 BW3 S3 HC4 ONE NN p0 p1 p2 p3 p4 p5
        go_roundg (gk - 1)
        case measure => omega
        case rel => exact ⟨i + 1, _, by omega, by go_num, XO.out⟩
      · have hz : (handC l h == 0) = false := by simp [he]
        rw [nxt_no he] at H7
        clear he
        generalize handC l h = z at *
        go_wp2_with (go_at_call 6; refine H6.out.mono ?_)
        rintro e V1 ⟨rfl, hB⟩
        have J2 : Hid (IHolds V1 wr.heap.size 26 [.int .i64 h.act, .string h.box, .string h.who, .string h.to_, .int .i64 h.cnt, .string h.sl]) := J1.out.of_below hB
        have C2 : Hid (CU V1 cb bm bs l) := C1.out.of_below hB
        have O2 : Hid (V1.ownsRow base 26 6 u4 l.length (hrows l)) := own_far O1.out (fun g hg => hB.block g (O1.out.lt g hg).2)
        have BW2 : Hid (Below w.heap.size w V1) := BW1.out.trans (hB.mono BW1.out.size)
        have S2 : Hid (base ≤ V1.heap.size) := Nat.le_trans S1.out hB.size
        clear H6 hB J1 C1 O1 BW1 S1 p0 p1 p2 p3 p4 p5
        obtain ⟨p0, p1, p2, p3, p4, p5⟩ := six J2.out
        go_wp2_with (go_at_call 7; refine (H7.out V1 C2.out).mono ?_)
        rintro e V2 ⟨rfl, hcu, hfr⟩
        have XO : Hid (LW w V2 cb bm bs base (i + 1) l u4) := ⟨HW.out.1, by have := HW.out.2; omega, hcu, own26_fr O2.out C2.out hfr, Nat.le_trans S2.out hfr.size, FR.below2 BW2.out hfr (by have := NB.out; omega) (by have := NB.out; omega) BW2.out.size⟩
        clear H7 hcu hfr J2 O2 C2 BW2 S2 p0 p1 p2 p3 p4 p5
        go_wp2_with fail
        go_roundg (gk - 1)
        case measure => omega
        case rel => exact ⟨i + 1, _, by omega, by go_num, XO.out⟩
    · obtain rfl : i = N := by omega
      have H8 : Hid (Calls Try.prog 8 #[.pointer (some ⟨cb, 0, none⟩)] wr fun e w' => (∃ v, e = .returned (.tuple #[v, .bool true]) ∧ BL w' v l (sn (packs l)) ∧ BT w' v) ∧ Below wr.heap.size wr w') := boxes8 HOC.out HI.out
      have N9 : Hid ((sn (packs l)).length ≤ 256) := by show _ ≤ _; rw [(sn_perm _).length_eq]; exact HI.out.few
      clear hlt HOC
      go_wp2_with (go_at_call 8; refine H8.out.mono ?_)
      rintro e V1 ⟨⟨v1, rfl, hv, -⟩, hB⟩
      have BW2 : Hid (Below w.heap.size w V1) := HO.out.below.trans (hB.mono HO.out.below.size)
      have G1 : Hid (BL V1 v1 l (sn (packs l))) := hv
      have H10 : Hid (Calls Try.prog 10 #[u4] V1 fun e w' => (∃ v', e = .returned v' ∧ BL w' v' l (sn (packs l))) ∧ Below V1.heap.size V1 w') := boxes10 ((hl_of_own HO.out.own).of_below hB) HI.out LL.out
      clear H8 hv hB HO
      go_wp2_with (go_at_call 10; refine H10.out.mono ?_)
      rintro e V2 ⟨⟨v2, rfl, hv⟩, hB⟩
      have BW3 : Hid (Below w.heap.size w V2) := BW2.out.trans (hB.mono BW2.out.size)
      have H9 : Hid (Calls Try.prog 9 #[v1, v2] V2 fun e w' => e = .returned (.bool true) ∧ Below V2.heap.size V2 w') := sameBoxes9 N9.out (G1.out.of_below hB) hv
      clear H10 hv hB G1 BW2
      go_wp2_with (go_at_call 9; refine H9.out.mono ?_)
      rintro e V3 ⟨rfl, hB⟩
      have BW4 : Hid (Below w.heap.size w V3) := BW3.out.trans (hB.mono BW3.out.size)
      clear H9 hB BW3
      go_wp2_with fail
      exact bodyPost_ret (v := .bool true) (by simp [results, Try.results3, go_sem]) rfl ⟨rfl, BW4.out⟩
end Go.Proofs.Ytafekaonmpkhiaa
