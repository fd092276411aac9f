/- Answers; a proof is made. Proofs, made and verified. Verify and Prove, whole. -/
import Derived.Test.YtmpiipcllgjhdaaGreatDoorZ22
set_option linter.unusedSimpArgs false
set_option linter.unusedVariables false
set_option maxRecDepth 100000
namespace Go.Proofs.YtmpiipcllgjhdaaGreatDoor
open Go.RowKit Go.Deep Go.PlainAid

set_option maxHeartbeats 2000000 in
theorem both91_92 {w : World} {a b : Option Addr} {l m q : List ByteArray} {c d g p : Nat} (hn : l.length ≤ 8796093022207) (hml : m.length = l.length) (hql : q.length = l.length) (hs : SL w a l) (hm : SL w b m)
    (CF : ∀ i (h1 : i < l.length) (h2 : i < m.length) (h3 : i < q.length) W, Below w.heap.size w W → Calls Tryz.prog 92 #[.string l[i], .string m[i], .pointer (some ⟨g, 0, none⟩), .pointer (some ⟨p, 0, none⟩)] W fun e w' => e = .returned (.string q[i]) ∧ Below W.heap.size W w') :
    Calls Tryz.prog 91 #[.slice a l.length c, .slice b m.length d, .func (.func 92) #[] #[.pointer (some ⟨g, 0, none⟩), .pointer (some ⟨p, 0, none⟩)]] w fun e w' => (∃ a' c', e = .returned (.slice a' l.length c') ∧ SY w' a' c' q) ∧ Below w.heap.size w w' := by
  have HS : Hid (SL w a l) := hs
  have HM : Hid (SL w b m) := hm
  have HQ : Hid (q.length = l.length) := hql
  have hmk := make22 _ l.length rfl hn w
  have JI : Hid (IHolds (w.alloc (.cells (List.replicate l.length (Value.string ⟨#[]⟩)).toArray 9)) w.heap.size 9 (half q l.length 0)) := by rw [half_zero]; exact IHolds.new _ _ _
  have JB : Hid (Below w.heap.size w (w.alloc (.cells (List.replicate l.length (Value.string ⟨#[]⟩)).toArray 9))) := (Below.refl _ w).alloc (Nat.le_refl _) _
  rw [hml]
  clear hs hm hql
  go_enter Tryz.func91, Tryz.ntmps91
  generalize w.alloc (.cells (List.replicate l.length (Value.string ⟨#[]⟩)).toArray 9) = U at *
  go_wp2_with fail
  go_loopg [8, 9, 15] l.length (fun gk v8 v9 v15 wr => ∃ i : Nat, i + gk = l.length ∧ v15 = .int .i64 (i : Int) ∧ Below w.heap.size w wr ∧ IHolds wr w.heap.size 9 (half q l.length i))
  case atStart => exact ⟨0, by omega, rfl, JB.out, JI.out⟩
  case round =>
    obtain ⟨i, hig, rfl, hB, hI⟩ := hrel
    have B : Hid (Below w.heap.size w wr) := hB
    have I : Hid (IHolds wr w.heap.size 9 (half q l.length i)) := hI
    clear hB hI
    by_cases hi : i < l.length
    · have hi2 : i < m.length := by omega
      have hi3 : i < q.length := by have := HQ.out; omega
      have il : (i : Int) < (l.length : Int) := by omega
      obtain ⟨b1, o1, rfl, hc1⟩ := HS.out.of_below B.out i hi
      obtain ⟨b2, o2, rfl, hc2⟩ := HM.out.of_below B.out i hi2
      have hcall := CF i hi hi2 hi3 wr B.out
      have HH : Hid _ := half_set HQ.out hi hi3
      have HL : Hid ((half q l.length i).length = l.length) := half_length HQ.out (by omega)
      generalize l[i] = s at *
      generalize m[i] = t at *
      generalize q[i] = rr at *
      go_wp2_with (go_at_call 92; refine hcall.mono ?_; rintro e w3 ⟨rfl, hB3⟩; have B3 : Hid (Below w.heap.size w w3) := B.out.trans (hB3.mono B.out.size); have I3 : Hid (IHolds w3 w.heap.size 9 (half q l.length i)) := I.out.of_below hB3; have f3 : w3.frozen? ⟨w.heap.size, i, none⟩ = false := I3.out.frozen i; have g3 := I3.out.cell i (by have := HL.out; omega); clear hB3)
      have I4 : Hid (IHolds (w3.setCell ⟨w.heap.size, i, none⟩ (.string rr)) w.heap.size 9 (half q l.length (i + 1))) := by
        have := I3.out.set i (.string rr)
        rw [HH.out] at this
        exact this
      have B4 : Hid (Below w.heap.size w (w3.setCell ⟨w.heap.size, i, none⟩ (.string rr))) := Below.setCell B3.out (Nat.le_refl _) _
      go_roundg (gk - 1)
      case measure => omega
      case rel => exact ⟨i + 1, by omega, by go_num, B4.out, I4.out⟩
    · have il : ¬ (i : Int) < (l.length : Int) := by omega
      have e : i = l.length := by omega
      have I5 : Hid (SL wr (some ⟨w.heap.size, 0, none⟩) q) := by
        have h := I.out
        rw [e, half_full HQ.out] at h
        exact h.sl
      clear e
      go_wp2_with fail
      go_ret
      exact ⟨⟨_, _, rfl, ⟨⟨I5.out, by have := HQ.out; omega⟩, fun b o e => by cases e; exact ⟨_, _, I.out⟩⟩⟩, B.out⟩
set_option maxHeartbeats 1000000 in
theorem answers49 {w : World} {z : Int} {a a1 a2 : Option Addr} {n c c1 c2 : Nat} {ch : ByteArray} {l m q : List ByteArray} (hn : l.length ≤ 64) (hml : m.length = l.length) (hql : q.length = l.length) (hs : SL w a1 l) (hm : SL w a2 m)
    (C : ∀ i (h1 : i < l.length) (h2 : i < m.length) (h3 : i < q.length) W g p, W.cell? ⟨g, 0, none⟩ = some (.int .i64 z) → W.cell? ⟨p, 0, none⟩ = some (.string ch) → Calls Tryz.prog 92 #[.string l[i], .string m[i], .pointer (some ⟨g, 0, none⟩), .pointer (some ⟨p, 0, none⟩)] W fun e w' => e = .returned (.string q[i]) ∧ Below W.heap.size W w') :
    Calls Tryz.prog 49 #[.agg #[.int .i64 z, .slice a n c], .slice a1 l.length c1, .string ch, .slice a2 m.length c2] w fun e w' => (∃ a' c', e = .returned (.slice a' l.length c') ∧ SY w' a' c' q) ∧ Below w.heap.size w w' := by
  have hmf := hmfun
  obtain ⟨U, hU⟩ : ∃ U, U = (w.alloc (.cells #[.int .i64 z, .slice a n c] 53)).alloc (.cells #[.string ch] 9) := ⟨_, rfl⟩
  have BU : Hid (Below w.heap.size w U) := by rw [hU]; exact ((Below.refl _ _).alloc (Nat.le_refl _) _).alloc (by simp) _
  have I1 : Hid (IHolds U w.heap.size 53 [.int .i64 z, .slice a n c]) := by rw [hU]; exact (IHolds.new w 53 [_, _]).alloc _
  have I2 : Hid (IHolds U (w.heap.size + 1) 9 [.string ch]) := by rw [hU]; exact IHolds.new' _ 9 [_] (by simp)
  have H : Hid (Calls Tryz.prog 91 #[.slice a1 l.length c1, .slice a2 m.length c2, .func (.func 92) #[] #[.pointer (some ⟨w.heap.size, 0, none⟩), .pointer (some ⟨w.heap.size + 1, 0, none⟩)]] U fun e w' => (∃ a' c', e = .returned (.slice a' l.length c') ∧ SY w' a' c' q) ∧ Below U.heap.size U w') :=
    both91_92 (by omega) hml hql (hs.of_below BU.out) (hm.of_below BU.out) (fun i h1 h2 h3 W hW => C i h1 h2 h3 W _ _ (cell_keep (I1.out.cell 0 (by simp)) hW) (cell_keep (I2.out.cell 0 (by simp)) hW))
  clear hs hm C hql hml
  generalize m.length = mm at *
  generalize l.length = nn at *
  go_enter Tryz.func49, Tryz.ntmps49
  go_wp2_with (go_at_call 91; rw [← hU]; refine (H.out).mono ?_; rintro e V1 ⟨⟨a', c', rfl, hS⟩, hB⟩; have S1 : Hid (SY V1 a' c' q) := hS; have B1 : Hid (Below w.heap.size w V1) := BU.out.trans (hB.mono BU.out.size); clear hS hB H)
  go_ret
  exact ⟨⟨a', c', rfl, S1.out⟩, B1.out⟩
theorem SL.of_holds {w : World} {b : Nat} {q : List ByteArray} (h : IHolds w b 9 (q.map Value.string)) : SL w (some ⟨b, 0, none⟩) q := h.sl
theorem SY.far {w : World} {a : Option Addr} {c : Nat} {l : List ByteArray} {b : Nat} {T : TypeId} {V : List Value} (h : SY w a c l) (hI : IHolds w b T V) (hT : T ≠ 9) (i : Nat) (x : Value) : SY (w.setCell ⟨b, i, none⟩ x) a c l := by
  have ne : ∀ b' o, a = some ⟨b', o, none⟩ → b' ≠ b := fun b' o e e2 => by
    obtain ⟨cs, fz, q⟩ := h.ty b' o e
    subst e2
    unfold IHolds at hI
    rw [hI] at q
    cases q
    exact hT rfl
  refine ⟨⟨fun j hj => ?_, h.sk.le⟩, fun b' o e => ?_⟩
  · obtain ⟨b', o, e, hc⟩ := h.sk.sl j hj
    exact ⟨b', o, e, (World.cell?_of_block (a := ⟨b', o + j, none⟩) (Below.heap_setCell w ⟨b, i, none⟩ x b' (ne _ _ e))).trans hc⟩
  · obtain ⟨cs, fz, q⟩ := h.ty b' o e
    exact ⟨cs, fz, (Below.heap_setCell w ⟨b, i, none⟩ x b' (ne _ _ e)).trans q⟩
theorem size28 : (Tryz.prog.info? 28).map (·.size) = some 2 := by kernel_rfl
set_option maxHeartbeats 2000000 in
theorem prove20 {w : World} {z : Int} {a a2 : Option Addr} {l : List Cl} {c c2 S M : Nat} {label seed : ByteArray} {ms q : List ByteArray} {fs : List (List ByteArray)} (hT : TT w) (hlb : label.size < 1125899906842624) (hsd : seed.size < 1125899906842624) (hl : l.length ≤ 64) (hC : CK w a l) (hz : ∀ i (h : i < l.length), Zl (l[i]).1 ∧ Zl (l[i]).2) (hms : SL w a2 ms) (hml : ms.length = l.length)
    (hfl : fs.length = l.length) (hfz : ∀ i (h : i < fs.length), Zl fs[i]) (hql : q.length = l.length)
    {st : ByteArray} (hst : st = telS l (st0 z ⟨#[99, 108, 97, 105, 109, 115]⟩ label))
    (CC : ∀ n w0 W tb s lab, TW n w0 W tb s → 3 < n → lab.size < 1125899906842624 → Calls Tryz.prog 48 #[.agg #[.int .i64 z], .pointer (some ⟨tb, 0, none⟩), .string lab] W fun e w' => e = .returned (.string (TX S (askN lab s M))) ∧ TW n w0 w' tb (ak lab s) ∧ F.But tb W w')
    (CF : ∀ W a' c', Below w.heap.size w W → SL W a' (nonL S M l.length (sy st sedB seed)) → Calls Tryz.prog 47 #[.agg #[.int .i64 z, .slice a l.length c], .slice a' l.length c'] W fun e w' => (∃ x y, e = .returned (.slice x l.length y) ∧ SLL w' x fs) ∧ Below W.heap.size W w')
    (CA : ∀ W a' c', Below w.heap.size w W → SL W a' (nonL S M l.length (sy st sedB seed)) → Calls Tryz.prog 49 #[.agg #[.int .i64 z, .slice a l.length c], .slice a' l.length c', .string (TX S (askN chaB (firS fs st) M)), .slice a2 ms.length c2] W fun e w' => (∃ x y, e = .returned (.slice x l.length y) ∧ SY w' x y q) ∧ Below W.heap.size W w') :
    Calls Tryz.prog 20 #[.agg #[.int .i64 z, .slice a l.length c], .string label, .slice a2 ms.length c2, .string seed] w fun e w' => (∃ x y, e = .returned (.agg #[.string (TX S (askN chaB (firS fs st) M)), .slice x l.length y]) ∧ SY w' x y q) ∧ Below w.heap.size w w' := by
  obtain ⟨U, hU⟩ : ∃ U, U = (w.alloc (.cells #[.int .i64 z, .slice a l.length c] 53)).alloc (.cells #[.string ⟨#[]⟩, .slice none 0 0] 28) := ⟨_, rfl⟩
  have BU : Hid (Below w.heap.size w U) := by rw [hU]; exact ((Below.refl _ _).alloc (Nat.le_refl _) _).alloc (by simp) _
  have I1 : Hid (IHolds U w.heap.size 53 [.int .i64 z, .slice a l.length c]) := by rw [hU]; exact (IHolds.new w 53 [_, _]).alloc _
  have I2 : Hid (IHolds U (w.heap.size + 1) 28 [.string ⟨#[]⟩, .slice none 0 0]) := by rw [hU]; exact IHolds.new' _ 28 [_, _] (by simp)
  have U3 : 3 < U.heap.size := (hT.below BU.out).T.size
  have H43 : Hid (Calls Tryz.prog 43 #[.agg #[.int .i64 z, .slice a l.length c], .string label] U fun e w' => ∃ b, e = .returned (.pointer (some ⟨b, 0, none⟩)) ∧ TW U.heap.size U w' b st) := by rw [hst]; exact talk43 (hT.below BU.out) hlb hl (hC.of_below BU.out) hz
  have H45 : Hid (∀ W tb, TB W tb st → Calls Tryz.prog 45 #[.pointer (some ⟨tb, 0, none⟩), .string seed] W fun e w' => e = .returned (.pointer (some ⟨W.heap.size, 0, none⟩)) ∧ TW W.heap.size W w' W.heap.size (sy st sedB seed) ∧ TB w' tb st) := fun W tb hA => seeded45 hA (by rw [hst]; exact telS_size (st0_size _ _ _)) hsd
  have H44 : Hid (∀ W0 W tb, Below w.heap.size w W0 → TW W0.heap.size W0 W tb (sy st sedB seed) → 3 < W0.heap.size → Calls Tryz.prog 44 #[.agg #[.int .i64 z, .slice a l.length c], .pointer (some ⟨tb, 0, none⟩)] W fun e w' => (∃ b, e = .returned (.slice (some ⟨b, 0, none⟩) l.length l.length) ∧ W.heap.size ≤ b ∧ IHolds w' b 9 ((nonL S M l.length (sy st sedB seed)).map Value.string)) ∧ TW W0.heap.size W0 w' tb (nonS l.length (sy st sedB seed)) ∧ F.But tb W w') := fun W0 W tb hB hA h3 => nonces44 hl (hC.cm.of_below hB) hA (fun i V hV => CC _ _ _ _ _ _ hV h3 (by decide))
  have H47 : Hid (∀ W a' c', Below w.heap.size w W → SL W a' (nonL S M l.length (sy st sedB seed)) → Calls Tryz.prog 47 #[.agg #[.int .i64 z, .slice a l.length c], .slice a' l.length c'] W fun e w' => (∃ x y, e = .returned (.slice x l.length y) ∧ SLL w' x fs) ∧ Below W.heap.size W w') := CF
  have H46 : Hid (∀ W tb x y, TW U.heap.size U W tb st → SLL W x fs → Calls Tryz.prog 46 #[.pointer (some ⟨tb, 0, none⟩), .slice x l.length y] W fun e w' => e = .returned (.tuple #[]) ∧ TW U.heap.size U w' tb (firS fs st) ∧ F.But tb W w') := fun W tb x y hA hq => by
    have := tellFirsts46 (c := y) hA U3 (by omega) hq hfz
    rw [hfl] at this
    exact this
  have H48 : Hid (∀ W tb, TW U.heap.size U W tb (firS fs st) → Calls Tryz.prog 48 #[.agg #[.int .i64 z], .pointer (some ⟨tb, 0, none⟩), .string chaB] W fun e w' => e = .returned (.string (TX S (askN chaB (firS fs st) M))) ∧ TW U.heap.size U w' tb (ak chaB (firS fs st)) ∧ F.But tb W w') := fun W tb hA => CC _ _ _ _ _ _ hA U3 (by decide)
  have H49 : Hid (∀ W a' c', Below w.heap.size w W → SL W a' (nonL S M l.length (sy st sedB seed)) → Calls Tryz.prog 49 #[.agg #[.int .i64 z, .slice a l.length c], .slice a' l.length c', .string (TX S (askN chaB (firS fs st) M)), .slice a2 ms.length c2] W fun e w' => (∃ x y, e = .returned (.slice x l.length y) ∧ SY w' x y q) ∧ Below W.heap.size W w') := CA
  have c0 := I1.out.cell 0 (by simp)
  have c1 := I1.out.cell 1 (by simp)
  clear hT hC hz hms hml hfl hfz hql hst CC CF CA
  generalize TX S (askN chaB (firS fs st) M) = ch at *
  generalize ms.length = mm at *
  go_enter Tryz.func20, Tryz.ntmps20
  go_upto_region 1 with fail
  rw [← hU]
  clear hU
  go_wp2_with (go_at_call 43; refine (H43.out).mono ?_; rintro e V1 ⟨tb, rfl, hA⟩; have A1 : Hid (TW U.heap.size U V1 tb st) := hA; have J1 : Hid (IHolds V1 w.heap.size 53 [.int .i64 z, .slice a l.length c]) := I1.out.of_below hA.bl; have J2 : Hid (IHolds V1 (w.heap.size + 1) 28 [.string ⟨#[]⟩, .slice none 0 0]) := I2.out.of_below hA.bl; clear hA H43 c0 c1)
  have lt1 : tb < V1.heap.size := A1.out.at_.t.lt
  have le1 : U.heap.size ≤ tb := A1.out.le
  have ltb : w.heap.size + 1 < U.heap.size := I2.out.lt
  have n1 : w.heap.size ≠ tb := by omega
  have n2 : w.heap.size + 1 ≠ tb := by omega
  have BW1 : Hid (Below w.heap.size w V1) := BU.out.trans (A1.out.bl.mono BU.out.size)
  have v3 : 3 < V1.heap.size := A1.out.at_.T.size
  have T1 : Hid (TB V1.drew tb st) := A1.out.at_.below ((Below.refl _ V1).drew)
  have D1 : Hid (Below V1.heap.size V1 V1.drew) := (Below.refl _ V1).drew
  have KS : Hid (∀ V, Below V1.heap.size V1 V → V.cell? ⟨w.heap.size, 0, none⟩ = some (.int .i64 z) ∧ V.cell? ⟨w.heap.size, 1, none⟩ = some (.slice a l.length c)) := fun V hV => ⟨cell_keep (J1.out.cell 0 (by simp)) hV, cell_keep (J1.out.cell 1 (by simp)) hV⟩
  go_region_held3 (fun V => V.cell? ⟨w.heap.size, 0, none⟩ = some (.int .i64 z) ∧ V.cell? ⟨w.heap.size, 1, none⟩ = some (.slice a l.length c))
    (first | exact KS.out _ D1.out | exact KS.out _ B2.out | exact KS.out _ B3.out | assumption | fail)
    (first
      | (go_at_call 45; refine (H45.out _ _ T1.out).mono ?_; rintro e V2 ⟨rfl, hA, hT⟩; have A2 : Hid (TW V1.drew.heap.size V1.drew V2 V1.drew.heap.size (sy st sedB seed)) := hA; have T2 : Hid (TB V2 tb st) := hT; have B2 : Hid (Below V1.heap.size V1 V2) := D1.out.trans hA.bl; clear hA hT H45)
      | (go_at_call 44; refine (H44.out V1.drew _ _ (BW1.out.trans (D1.out.mono BW1.out.size)) A2.out v3).mono ?_; rintro e V3 ⟨⟨bN, rfl, hbN, hI⟩, hA, hB⟩; have N3 : Hid (IHolds V3 bN 9 ((nonL S M l.length (sy st sedB seed)).map Value.string)) := hI; have B3 : Hid (Below V1.heap.size V1 V3) := D1.out.trans hA.bl; have T3 : Hid (TB V3 tb st) := ⟨T2.out.t.of_but hB (by show tb ≠ V1.heap.size; omega), hA.at_.T, hA.at_.S⟩; have nN : Hid (bN ≠ tb) := (by have := T2.out.t.lt; show _ ≠ _; omega); clear hI hA hB hbN H44)
      | fail)
  have A3 : Hid (TW U.heap.size U V3 tb st) := ⟨T3.out, A1.out.bl.trans (B3.out.mono (by omega)), le1, A1.out.sz⟩
  have c0 := (J1.out.of_below B3.out).cell 0 (by simp)
  have c1 := (J1.out.of_below B3.out).cell 1 (by simp)
  have L1 : Hid (IHolds V3 w.heap.size 53 [.int .i64 z, .slice a l.length c]) := J1.out.of_below B3.out
  have L2 : Hid (IHolds V3 (w.heap.size + 1) 28 [.string ⟨#[]⟩, .slice none 0 0]) := J2.out.of_below B3.out
  have BW3 : Hid (Below w.heap.size w V3) := BW1.out.trans (B3.out.mono BW1.out.size)
  clear A1 T1 T2 T3 KS D1 J1 J2 A2 B2
  generalize nonL S M l.length (sy st sedB seed) = ns at *
  go_wp2_with (first
    | (go_at_call 47; refine (H47.out _ _ _ BW3.out N3.out.sl).mono ?_; rintro e V4 ⟨⟨x4, y4, rfl, hQ⟩, hB⟩; have Q4 : Hid (SLL V4 x4 fs) := hQ; have A4 : Hid (TW U.heap.size U V4 tb st) := A3.out.below hB; have N4 : Hid (IHolds V4 bN 9 (ns.map Value.string)) := N3.out.of_below hB; have M1 : Hid (IHolds V4 w.heap.size 53 [.int .i64 z, .slice a l.length c]) := L1.out.of_below hB; have M2 : Hid (IHolds V4 (w.heap.size + 1) 28 [.string ⟨#[]⟩, .slice none 0 0]) := L2.out.of_below hB; clear hQ hB H47 c0 c1 L1 L2 N3 A3)
    | (go_at_call 46; refine (H46.out _ _ _ _ A4.out Q4.out).mono ?_; rintro e V5 ⟨rfl, hA, hB⟩; have A5 : Hid (TW U.heap.size U V5 tb (firS fs st)) := hA; have N5 : Hid (IHolds V5 bN 9 (ns.map Value.string)) := N4.out.offB hB nN.out; have O1 : Hid (IHolds V5 w.heap.size 53 [.int .i64 z, .slice a l.length c]) := M1.out.offB hB n1; have O2 : Hid (IHolds V5 (w.heap.size + 1) 28 [.string ⟨#[]⟩, .slice none 0 0]) := M2.out.offB hB n2; have d0 := O1.out.cell 0 (by simp); clear hA hB H46 A4 Q4 N4 M1 M2)
    | (go_at_call 48; refine (H48.out _ _ A5.out).mono ?_; rintro e V6 ⟨rfl, hA, hB⟩; have N6 : Hid (IHolds V6 bN 9 (ns.map Value.string)) := N5.out.offB hB nN.out; have P1 : Hid (IHolds V6 w.heap.size 53 [.int .i64 z, .slice a l.length c]) := O1.out.offB hB n1; have P2 : Hid (IHolds V6 (w.heap.size + 1) 28 [.string ⟨#[]⟩, .slice none 0 0]) := O2.out.offB hB n2; have BW6 : Hid (Below w.heap.size w V6) := BU.out.trans (hA.bl.mono BU.out.size); have e0 := P1.out.cell 0 (by simp); have e1 := P1.out.cell 1 (by simp); clear hA hB H48 A5 N5 O1 O2 d0)
    | (go_at_call 49; refine (H49.out _ _ _ BW6.out N6.out.sl).mono ?_; rintro e V7 ⟨⟨x7, y7, rfl, hQ⟩, hB⟩; have Q7 : Hid (SY V7 x7 y7 q) := hQ; have BW7 : Hid (Below w.heap.size w V7) := BW6.out.trans (hB.mono BW6.out.size); have R2 : Hid (IHolds V7 (w.heap.size + 1) 28 [.string ⟨#[]⟩, .slice none 0 0]) := P2.out.of_below hB; have g0 := R2.out.cell 0 (by simp); have g1 := R2.out.cell 1 (by simp); have f0 := R2.out.frozen 0; have f1 := R2.out.frozen 1; clear hQ hB H49 e0 e1 P1 P2 N6)
    | fail)
  have R3 : Hid (IHolds (V7.setCell ⟨w.heap.size + 1, 0, none⟩ (.string ch)) (w.heap.size + 1) 28 [.string ch, .slice none 0 0]) := R2.out.set 0 (.string ch)
  have R4 : Hid (IHolds ((V7.setCell ⟨w.heap.size + 1, 0, none⟩ (.string ch)).setCell ⟨w.heap.size + 1, 1, none⟩ (.slice x7 l.length y7)) (w.heap.size + 1) 28 [.string ch, .slice x7 l.length y7]) := R3.out.set 1 (.slice x7 l.length y7)
  refine bodyPost_ret (v := .agg [.string ch, .slice x7 l.length y7].toArray) (F.results_cell Tryz.results20 _ _ (w.heap.size + 1) 0 [.string ch, .slice x7 l.length y7] _ rfl R4.out.range Tryz.underlying28 rfl size28) rfl ⟨⟨x7, y7, rfl, (Q7.out.far R2.out (by decide) _ _).far R3.out (by decide) _ _⟩, (BW7.out.setCell (p := ⟨w.heap.size + 1, 0, none⟩) (by show _ ≤ w.heap.size + 1; omega) _).setCell (p := ⟨w.heap.size + 1, 1, none⟩) (by show _ ≤ w.heap.size + 1; omega) _⟩
end Go.Proofs.YtmpiipcllgjhdaaGreatDoor
namespace Go.Proofs.YtmpiipcllgjhdaaGreatDoor
open Go.RowKit Go.Deep Go.PlainAid

theorem E_left {M M2 x y : Nat} (e : M2 = 2 * M + 1) : sgn M M2 (E M M2 x * y % M2) = E M M2 (x * y) := by
  unfold E
  rw [sgn_mul_left e (Nat.mod_lt _ (by omega)), Nat.mod_mul_mod]
theorem E_mulR {M M2 x x' y : Nat} (e : M2 = 2 * M + 1) (h : E M M2 x = E M M2 x') : E M M2 (x * y) = E M M2 (x' * y) := by
  rw [← E_left e, ← E_left e, h]
theorem E_mulL {M M2 x x' y : Nat} (e : M2 = 2 * M + 1) (h : E M M2 x = E M M2 x') : E M M2 (y * x) = E M M2 (y * x') := by
  rw [Nat.mul_comm y x, Nat.mul_comm y x']
  exact E_mulR e h
theorem E_of_E {M M2 x n : Nat} (hq : IsP M) (e : M2 = 2 * M + 1) : E M M2 (E M M2 x ^ n) = E M M2 (x ^ n) := E_powE hq e
theorem numS_EX {S M M2 x : Nat} (h : PK S M M2) : numS (EX S M M2 x) = E M M2 x := numS_TX (Nat.lt_of_le_of_lt (sgn_le h.e2 (h.ml x)) h.hs)
theorem answer_mod {M n c x : Nat} (hM : 0 < M) (hc : c < M) : ((n + c * x % M) % M + x * ((0 + M - c) % M)) % M = n % M := by
  have e1 : ((n + c * x % M) % M + x * ((0 + M - c) % M)) % M = (n + c * x + x * (M - c)) % M := by
    rw [Nat.zero_add]
    have a1 : (n + c * x % M) % M = (n + c * x) % M := by rw [Nat.add_mod n (c * x % M), Nat.mod_mod, ← Nat.add_mod]
    have a2 : x * ((M - c) % M) % M = x * (M - c) % M := by rw [Nat.mul_mod x ((M - c) % M), Nat.mod_mod, ← Nat.mul_mod]
    rw [a1, Nat.add_mod ((n + c * x) % M), Nat.mod_mod, a2, ← Nat.add_mod]
  have e2 : n + c * x + x * (M - c) = n + x * M := by
    have h1 : c * x + x * (M - c) = x * M := by rw [Nat.mul_comm c x, ← Nat.mul_add, Nat.add_sub_cancel' (Nat.le_of_lt hc)]
    omega
  rw [e1, e2, Nat.add_mul_mod_self_right]
/-- The answers of who knows the secrets. -/
def ansL (S M c : Nat) (ns ms : List ByteArray) : List ByteArray := List.zipWith (fun n x => TX S ((numS n + c * numS x % M) % M)) ns ms
theorem ansL_len {S M c : Nat} {ns ms : List ByteArray} {k : Nat} (h1 : ns.length = k) (h2 : ms.length = k) : (ansL S M c ns ms).length = k := by simp [ansL]; omega
theorem ansL_sc {S M M2 c : Nat} (h : PK S M M2) (ns ms : List ByteArray) : (ansL S M c ns ms).all (isSc S M) = true := by
  rw [List.all_eq_true]
  intro s hs
  obtain ⟨i, hi, rfl⟩ := List.mem_iff_getElem.1 hs
  simp only [ansL, List.getElem_zipWith]
  exact isSc_TX (Nat.mod_lt _ (by have := h.m1; omega)) (Nat.le_of_lt h.hs)
/-- COMPLETENESS, plain: what comes back of right answers is what was said first. -/
theorem complete_plain {S M M2 c : Nat} (h : PK S M M2) {l : List Cl} (ok : OkC (isEl S M) l) {ms ns : List ByteArray} (hm : ms.length = l.length) (hn : ns.length = l.length) (hc : c < M) (hold : l.map Prod.snd = fsG S M M2 l ms) :
    bkG S M M2 ((0 + M - c) % M) l (ansL S M c ns ms) = fsG S M M2 l ns := by
  have m1 := h.m1
  have la : (ansL S M c ns ms).length = l.length := ansL_len hn hm
  refine List.ext_getElem (by simp [bkG, fsG]; omega) (fun i h1 h2 => ?_)
  have hi : i < l.length := by simp [bkG] at h1; omega
  have f := ok.few i hi
  have el := ok.el i hi
  have ho : (l[i]).2 = (l[i]).1.map fun b => EX S M M2 (numS b ^ numS (ms[i]'(by omega))) := by
    have q : (l.map Prod.snd)[i]? = (fsG S M M2 l ms)[i]? := by rw [hold]
    rw [List.getElem?_eq_getElem (by simpa using hi), List.getElem?_eq_getElem (by simp [fsG]; omega)] at q
    simpa [fsG] using q
  have ha : numS ((ansL S M c ns ms)[i]'(by omega)) = (numS (ns[i]'(by omega)) + c * numS (ms[i]'(by omega)) % M) % M := by
    simp only [ansL, List.getElem_zipWith]
    exact numS_TX (Nat.lt_trans (Nat.mod_lt _ (by omega)) h.hs)
  simp only [bkG, fsG, List.getElem_zipWith]
  rw [ha]
  generalize (ns[i]'(by omega)) = n at *
  generalize (ms[i]'(by omega)) = x at *
  refine List.ext_getElem (by simp; omega) (fun j j1 j2 => ?_)
  have hj : j < (l[i]).1.length := by simpa using j2
  have hb := List.all_eq_true.1 el.1 _ (List.getElem_mem hj)
  have hy : (l[i]).2[j]'(by omega) = EX S M M2 (numS ((l[i]).1[j]) ^ numS x) := by
    rw [List.getElem_of_eq ho]; simp
  rw [List.getElem_zipWith, List.getElem_map, hy, numS_EX h]
  generalize (l[i]).1[j] = b at *
  unfold EX
  congr 1
  have e1 : E M M2 (numS b ^ ((numS n + c * numS x % M) % M) * E M M2 (numS b ^ numS x) ^ ((0 + M - c) % M)) = E M M2 (numS b ^ ((numS n + c * numS x % M) % M) * (numS b ^ numS x) ^ ((0 + M - c) % M)) := E_mulL h.e2 (E_of_E h.hq h.e2)
  rw [e1, ← Nat.pow_mul, ← Nat.pow_add]
  exact E_sameA h.hp h.hq h.e2 (el_nd h hb) (answer_mod (by omega) hc)

section
variable {z : Int} {G : Array Value} {S Wd M low one sq Ri Wd2 M2 low2 one2 sq2 Ri2 : Nat}
theorem BCKI (k : KD z G S Wd M low one sq Ri Wd2 M2 low2 one2 sq2 Ri2) (h : PK S M M2) {ch : Nat} {l : List Cl} (ok : OkC (isEl S M) l) (hch : ch < M) {w : World} {a b : Option Addr} {c d : Nat} {m : List ByteArray} (hs : CM w a l) (hm : SL w b m) (hml : m.length = l.length) (hsc : m.all (isSc S M) = true) (W : World) (hW : Below w.heap.size w W) :
    Calls Tryz.prog 51 #[.agg #[.int .i64 z, .slice a l.length c], .string (TX S ch), .slice b l.length d] W fun e w' => (∃ a' c', e = .returned (.slice a' l.length c') ∧ SLL w' a' (bkG S M M2 ((0 + M - ch) % M) l m)) ∧ Below W.heap.size W w' := by
  have h64 := ok.most
  have m1 := h.m1
  have l9 : (0 + M - ch) % M < M := Nat.mod_lt _ (by omega)
  refine back45_any (fun V => zero85 (fun X => zero_call k X)) (fun V => minus68 (fun X => SUB k (by omega) hch X)) (fun V pb hV hI hP => ?_)
  generalize (0 + M - ch) % M = less at *
  have q := both86_87 (w := V) (c := c) (d := d) (g := W.heap.size) (p := pb) (q := bkG S M M2 less l m) h64 hml (by simp [bkG]; omega) ((hs.of_below hW).of_below hV) ((hm.of_below hW).of_below hV) (fun i h1 h2 h3 a1 c1 a2 c2 X hX s1 s2 => ?_)
  · rw [hml] at q
    exact q
  · have hsi : isSc S M m[i] = true := List.all_eq_true.1 hsc _ (List.getElem_mem h2)
    have e2 : (bkG S M M2 less l m)[i] = List.zipWith (fun b y => EX S M M2 (numS b ^ numS m[i] * numS y ^ less)) (l[i]).1 (l[i]).2 := by simp [bkG]
    have f := ok.few i h1
    have el := ok.el i h1
    rw [e2]
    have hx := isSc_TX' hsi
    have x9 := isSc_lt hsi
    generalize m[i] = s at *
    generalize l[i] = t at *
    have hzl : (List.zipWith (fun b y => EX S M M2 (numS b ^ numS s * numS y ^ less)) t.1 t.2).length = t.1.length := by simp; omega
    rw [hzl]
    refine clos87 (w := X) (z := z) (g := W.heap.size) (p := pb) (a1 := a1) (a2 := a2) (c1 := c1) (c2 := c2) (bs := t.1) (ms := t.2) (q := List.zipWith (fun b y => EX S M M2 (numS b ^ numS s * numS y ^ less)) t.1 t.2) (t := s) (u := TX S less) f.1 f.2.2 (by simp; omega) s1 s2 (cell_keep (hI.cell 0 (by simp)) hX) (cell_keep (hP.cell 0 (by simp)) hX) (fun j j1 j2 j3 Y => ?_)
    have eb : isEl S M t.1[j] = true := List.all_eq_true.1 el.1 _ (List.getElem_mem j1)
    have ei : isEl S M t.2[j] = true := List.all_eq_true.1 el.2 _ (List.getElem_mem j2)
    have pp := fun V b1 b2 => PRO k h (x := numS t.1[j]) (y := numS t.2[j]) (a := numS s) (b := less) (el_nd h eb) (el_nd h ei) x9 l9 V b1 b2
    rw [← hx, el_EX h eb, el_EX h ei] at pp
    rw [List.getElem_zipWith]
    exact powers89 pp

theorem EX_size (h : PK S M M2) (x : Nat) : (EX S M M2 x).size = S := size_TX S _
theorem TX_size (S n : Nat) : (TX S n).size = S := size_TX S n
theorem okZ (k : KD z G S Wd M low one sq Ri Wd2 M2 low2 one2 sq2 Ri2) {l : List Cl} (ok : OkC (isEl S M) l) : ∀ i (h : i < l.length), Zl (l[i]).1 ∧ Zl (l[i]).2 := fun i hi => by
  have f := ok.few i hi
  have e := ok.el i hi
  exact ⟨Zl.of k.hS (by omega) (fun x hx => isEl_size (List.all_eq_true.1 e.1 x hx)), Zl.of k.hS (by omega) (fun x hx => isEl_size (List.all_eq_true.1 e.2 x hx))⟩
theorem fsZ (k : KD z G S Wd M low one sq Ri Wd2 M2 low2 one2 sq2 Ri2) (h : PK S M M2) {l : List Cl} (ok : OkC (isEl S M) l) (m : List ByteArray) : ∀ i (hh : i < (fsG S M M2 l m).length), Zl (fsG S M M2 l m)[i] := fun i hi => by
  have hil : i < l.length := by simp [fsG] at hi; omega
  have f := ok.few i hil
  refine Zl.of k.hS (by simp [fsG]; omega) (fun x hx => ?_)
  simp only [fsG, List.getElem_zipWith, List.mem_map] at hx
  obtain ⟨b, _, rfl⟩ := hx
  exact EX_size h _
theorem bkZ (k : KD z G S Wd M low one sq Ri Wd2 M2 low2 one2 sq2 Ri2) (h : PK S M M2) {less : Nat} {l : List Cl} (ok : OkC (isEl S M) l) (m : List ByteArray) : ∀ i (hh : i < (bkG S M M2 less l m).length), Zl (bkG S M M2 less l m)[i] := fun i hi => by
  have hil : i < l.length := by simp [bkG] at hi; omega
  have f := ok.few i hil
  refine Zl.of k.hS (by simp [bkG]; omega) (fun x hx => ?_)
  obtain ⟨j, hj, rfl⟩ := List.getElem_of_mem hx
  simp only [bkG, List.getElem_zipWith]
  exact EX_size h _
theorem nonL_sc (h : PK S M M2) (n : Nat) (s : ByteArray) : (nonL S M n s).all (isSc S M) = true := by
  rw [List.all_eq_true]
  intro x hx
  obtain ⟨i, hi, rfl⟩ := List.getElem_of_mem hx
  rw [nonL_at]
  exact isSc_TX (Nat.mod_lt _ (by have := h.m1; omega)) (Nat.le_of_lt h.hs)
theorem askN_lt (h : PK S M M2) (lab s : ByteArray) : askN lab s M < M := Nat.mod_lt _ (by have := h.m1; omega)
/-- The state of a talk of claims; its nonces; its challenge. -/
def sT (z : Int) (l : List Cl) (label : ByteArray) : ByteArray := telS l (st0 z ⟨#[99, 108, 97, 105, 109, 115]⟩ label)
theorem sT_size (z : Int) (l : List Cl) (label : ByteArray) : (sT z l label).size = 32 := telS_size (st0_size _ _ _)
def nsT (z : Int) (S M : Nat) (l : List Cl) (label seed : ByteArray) : List ByteArray := nonL S M l.length (sy (sT z l label) sedB seed)
def chT (z : Int) (M : Nat) (l : List Cl) (label : ByteArray) (q : List (List ByteArray)) : Nat := askN chaB (firS q (sT z l label)) M
theorem ANS (k : KD z G S Wd M low one sq Ri Wd2 M2 low2 one2 sq2 Ri2) (h : PK S M M2) {ch : Nat} (hch : ch < M) {w : World} {a a1 a2 : Option Addr} {n c c1 c2 : Nat} {ns ms : List ByteArray} (hn : ns.length ≤ 64) (hml : ms.length = ns.length) (s1 : ns.all (isSc S M) = true) (s2 : ms.all (isSc S M) = true) (hs : SL w a1 ns) (hm : SL w a2 ms) :
    Calls Tryz.prog 49 #[.agg #[.int .i64 z, .slice a n c], .slice a1 ns.length c1, .string (TX S ch), .slice a2 ms.length c2] w fun e w' => (∃ a' c', e = .returned (.slice a' ns.length c') ∧ SY w' a' c' (ansL S M ch ns ms)) ∧ Below w.heap.size w w' := by
  refine answers49 hn hml (ansL_len rfl hml) hs hm (fun i h1 h2 h3 W g p hg hp => ?_)
  have q1 : isSc S M ns[i] = true := List.all_eq_true.1 s1 _ (List.getElem_mem h1)
  have q2 : isSc S M ms[i] = true := List.all_eq_true.1 s2 _ (List.getElem_mem h2)
  have e3 : (ansL S M ch ns ms)[i] = TX S ((numS ns[i] + ch * numS ms[i] % M) % M) := by simp [ansL]
  rw [e3]
  have m1 := h.m1
  have hk : isSc S M (TX S (ch * numS ms[i] % M)) = true := k.sc (Nat.mod_lt _ (by omega))
  refine clos92 (m := TX S (ch * numS ms[i] % M)) hg hp (fun V => times94 (y := 0) (fun X => ?_)) (fun V => plus93 (y := 0) (fun X => ?_))
  · have := mul_yes k X (a := TX S ch) (b := ms[i]) (k.sc hch) q2
    rw [k.nu hch] at this
    exact this
  · have := add_yes k X (a := ns[i]) (b := TX S (ch * numS ms[i] % M)) q1 hk
    rw [k.nu (Nat.mod_lt _ (by omega))] at this
    exact this
theorem PRI (k : KD z G S Wd M low one sq Ri Wd2 M2 low2 one2 sq2 Ri2) (h : PK S M M2) {l : List Cl} (ok : OkC (isEl S M) l) {w : World} {a a2 : Option Addr} {c c2 : Nat} {label seed : ByteArray} {ms : List ByteArray} (hT : TT w) (hlb : label.size < 1125899906842624) (hsd : seed.size < 1125899906842624) (hC : CK w a l) (hms : SL w a2 ms) (hml : ms.length = l.length) (hsc : ms.all (isSc S M) = true) (W : World) (hW : Below w.heap.size w W) :
    Calls Tryz.prog 20 #[.agg #[.int .i64 z, .slice a l.length c], .string label, .slice a2 ms.length c2, .string seed] W fun e w' => (∃ x y, e = .returned (.agg #[.string (TX S (chT z M l label (fsG S M M2 l (nsT z S M l label seed)))), .slice x l.length y]) ∧ SY w' x y (ansL S M (chT z M l label (fsG S M M2 l (nsT z S M l label seed))) (nsT z S M l label seed) ms)) ∧ Below W.heap.size W w' := by
  have hnl : (nsT z S M l label seed).length = l.length := nonL_len _ _ _ _
  refine prove20 (hT.below hW) hlb hsd ok.most (hC.of_below hW) (okZ k ok) (hms.of_below hW) hml (by simp [fsG]; omega) (fsZ k h ok _) (ansL_len hnl hml) rfl (fun n w0 V tb s lab hA h3 hl => CHA k hA h3 hl) (fun V a' c' hV hS => ?_) (fun V a' c' hV hS => ?_)
  · exact FIRG k h ok (((hC.cm.of_below hW).of_below hV)) hS hnl (nonL_sc h _ _) V (Below.refl _ _)
  · have q := ANS k h (askN_lt h chaB (firS (fsG S M M2 l (nsT z S M l label seed)) (sT z l label))) (w := V) (a := a) (n := l.length) (c := c) (c1 := c') (c2 := c2) (ns := nsT z S M l label seed) (ms := ms) (by have := ok.most; omega) (by omega) (nonL_sc h _ _) hsc hS ((hms.of_below hW).of_below hV)
    rw [hnl] at q
    exact q
end
end Go.Proofs.YtmpiipcllgjhdaaGreatDoor
namespace Go.Proofs.YtmpiipcllgjhdaaGreatDoor
open Go.RowKit Go.Deep Go.PlainAid

set_option maxHeartbeats 2000000 in
theorem verify22 {w : World} {z : Int} {a x : Option Addr} {l : List Cl} {c y : Nat} {label u : ByteArray} {q : List (List ByteArray)} (hT : TT w) (hlb : label.size < 1125899906842624) (hl : l.length ≤ 64) (hC : CK w a l) (hz : ∀ i (h : i < l.length), Zl (l[i]).1 ∧ Zl (l[i]).2)
    (hql : q.length = l.length) (hqz : ∀ i (h : i < q.length), Zl q[i])
    (C51 : ∀ W, Below w.heap.size w W → Calls Tryz.prog 51 #[.agg #[.int .i64 z, .slice a l.length c], .string u, .slice x l.length y] W fun e w' => (∃ a' c', e = .returned (.slice a' l.length c') ∧ SLL w' a' q) ∧ Below W.heap.size W w')
    (C48 : ∀ n w0 W tb, TW n w0 W tb (firS q (sT z l label)) → 3 < n → Calls Tryz.prog 48 #[.agg #[.int .i64 z], .pointer (some ⟨tb, 0, none⟩), .string chaB] W fun e w' => e = .returned (.string u) ∧ TW n w0 w' tb (ak chaB (firS q (sT z l label))) ∧ F.But tb W w') :
    Calls Tryz.prog 22 #[.agg #[.int .i64 z, .slice a l.length c], .string label, .agg #[.string u, .slice x l.length y]] w fun e w' => e = .returned (.bool true) ∧ Below w.heap.size w w' := by
  obtain ⟨U, hU⟩ : ∃ U, U = (w.alloc (.cells #[.int .i64 z, .slice a l.length c] 53)).alloc (.cells #[.string u, .slice x l.length y] 28) := ⟨_, rfl⟩
  have BU : Hid (Below w.heap.size w U) := by rw [hU]; exact ((Below.refl _ _).alloc (Nat.le_refl _) _).alloc (by simp) _
  have I1 : Hid (IHolds U w.heap.size 53 [.int .i64 z, .slice a l.length c]) := by rw [hU]; exact (IHolds.new w 53 [_, _]).alloc _
  have I2 : Hid (IHolds U (w.heap.size + 1) 28 [.string u, .slice x l.length y]) := by rw [hU]; exact IHolds.new' _ 28 [_, _] (by simp)
  have U3 : 3 < U.heap.size := (hT.below BU.out).T.size
  have H43 : Hid (Calls Tryz.prog 43 #[.agg #[.int .i64 z, .slice a l.length c], .string label] U fun e w' => ∃ b, e = .returned (.pointer (some ⟨b, 0, none⟩)) ∧ TW U.heap.size U w' b (sT z l label)) := talk43 (hT.below BU.out) hlb hl (hC.of_below BU.out) hz
  have H51 : Hid (∀ W, Below w.heap.size w W → Calls Tryz.prog 51 #[.agg #[.int .i64 z, .slice a l.length c], .string u, .slice x l.length y] W fun e w' => (∃ a' c', e = .returned (.slice a' l.length c') ∧ SLL w' a' q) ∧ Below W.heap.size W w') := C51
  have H46 : Hid (∀ W tb x y, TW U.heap.size U W tb (sT z l label) → SLL W x q → Calls Tryz.prog 46 #[.pointer (some ⟨tb, 0, none⟩), .slice x l.length y] W fun e w' => e = .returned (.tuple #[]) ∧ TW U.heap.size U w' tb (firS q (sT z l label)) ∧ F.But tb W w') := fun W tb x y hA hq => by
    have := tellFirsts46 (c := y) hA U3 (by omega) hq hqz
    rw [hql] at this
    exact this
  have H48 : Hid (∀ W tb, TW U.heap.size U W tb (firS q (sT z l label)) → Calls Tryz.prog 48 #[.agg #[.int .i64 z], .pointer (some ⟨tb, 0, none⟩), .string chaB] W fun e w' => e = .returned (.string u) ∧ TW U.heap.size U w' tb (ak chaB (firS q (sT z l label))) ∧ F.But tb W w') := fun W tb hA => C48 _ _ _ _ hA U3
  have c0 := I1.out.cell 0 (by simp)
  have c1 := I1.out.cell 1 (by simp)
  clear hT hC hz hql hqz C51 C48
  generalize sT z l label = st at *
  go_enter Tryz.func22, Tryz.ntmps22
  go_upto_region 1 with fail
  rw [← hU]
  clear hU
  go_upto_region 3 with (first
    | (go_at_call 43; refine (H43.out).mono ?_; rintro e V1 ⟨tb, rfl, hA⟩; have A1 : Hid (TW U.heap.size U V1 tb st) := hA; have J1 : Hid (IHolds V1 w.heap.size 53 [.int .i64 z, .slice a l.length c]) := I1.out.of_below hA.bl; have J2 : Hid (IHolds V1 (w.heap.size + 1) 28 [.string u, .slice x l.length y]) := I2.out.of_below hA.bl; have d0 := J1.out.cell 0 (by simp); have d1 := J1.out.cell 1 (by simp); have d2 := J2.out.cell 0 (by simp); have d3 := J2.out.cell 1 (by simp); have BW1 : Hid (Below w.heap.size w V1) := BU.out.trans (hA.bl.mono BU.out.size); have le1 : Hid (U.heap.size ≤ tb) := hA.le; clear hA H43 c0 c1)
    | (go_at_call 51; refine (H51.out _ BW1.out).mono ?_; rintro e V2 ⟨⟨x2, y2, rfl, hQ⟩, hB⟩; have Q2 : Hid (SLL V2 x2 q) := hQ; have A2 : Hid (TW U.heap.size U V2 tb st) := A1.out.below hB; have K1 : Hid (IHolds V2 w.heap.size 53 [.int .i64 z, .slice a l.length c]) := J1.out.of_below hB; have K2 : Hid (IHolds V2 (w.heap.size + 1) 28 [.string u, .slice x l.length y]) := J2.out.of_below hB; clear hQ hB H51 A1 J1 J2 d0 d1 d2 d3)
    | (go_at_call 46; refine (H46.out _ _ _ _ A2.out Q2.out).mono ?_; rintro e V3 ⟨rfl, hA, hB⟩; have A3 : Hid (TW U.heap.size U V3 tb (firS q st)) := hA; have L1 : Hid (IHolds V3 w.heap.size 53 [.int .i64 z, .slice a l.length c]) := K1.out.offB hB (by have := I2.out.lt; have := le1.out; omega); have L2 : Hid (IHolds V3 (w.heap.size + 1) 28 [.string u, .slice x l.length y]) := K2.out.offB hB (by have := I2.out.lt; have := le1.out; omega); clear hA hB H46 A2 Q2 K1 K2)
    | fail)
  have n1 : w.heap.size ≠ tb := by have := I2.out.lt; have := le1.out; omega
  have n2 : w.heap.size + 1 ≠ tb := by have := I2.out.lt; have := le1.out; omega
  have A4 : Hid (TW U.heap.size U V3.drew tb (firS q st)) := A3.out.below ((Below.refl _ V3).drew)
  have KS : Hid (∀ V, F.But tb V3 V → V.cell? ⟨w.heap.size, 0, none⟩ = some (.int .i64 z) ∧ V.cell? ⟨w.heap.size + 1, 0, none⟩ = some (.string u)) := fun V hV => ⟨(L1.out.offB hV n1).cell 0 (by simp), (L2.out.offB hV n2).cell 0 (by simp)⟩
  have D3 : Hid (F.But tb V3 V3.drew) := (F.But.refl tb V3).drew
  go_region_held3 (fun V => V.cell? ⟨w.heap.size, 0, none⟩ = some (.int .i64 z) ∧ V.cell? ⟨w.heap.size + 1, 0, none⟩ = some (.string u))
    (first | exact KS.out _ D3.out | exact KS.out _ D4.out | assumption | fail)
    (first
      | (go_at_call 48; refine (H48.out _ _ A4.out).mono ?_; rintro e V4 ⟨rfl, hA, hB⟩; have D4 : Hid (F.But tb V3 V4) := D3.out.trans hB; have BW4 : Hid (Below w.heap.size w V4) := BU.out.trans (hA.bl.mono BU.out.size); clear hA hB H48)
      | fail)
  go_wp2_with fail
  go_ret
  exact ⟨by simp, BW4.out⟩
set_option maxHeartbeats 1000000 in
theorem fits21 {w : World} {z : Int} {a x : Option Addr} {n m c y : Nat} {u : ByteArray} (C41 : ∀ W, Below w.heap.size w W → Calls Tryz.prog 41 #[.agg #[.int .i64 z, .slice a n c], .slice x m y] W fun e w' => e = .returned (.int .i64 0) ∧ Below W.heap.size W w') (C50 : ∀ W, Calls Tryz.prog 50 #[.agg #[.int .i64 z], .string u] W fun e w' => e = .returned (.bool false) ∧ Below W.heap.size W w') :
    Calls Tryz.prog 21 #[.agg #[.int .i64 z, .slice a n c], .agg #[.string u, .slice x m y]] w fun e w' => e = .returned (.bool true) ∧ Below w.heap.size w w' := by
  obtain ⟨U, hU⟩ : ∃ U, U = (w.alloc (.cells #[.int .i64 z, .slice a n c] 53)).alloc (.cells #[.string u, .slice x m y] 28) := ⟨_, rfl⟩
  have BU : Hid (Below w.heap.size w U) := by rw [hU]; exact ((Below.refl _ _).alloc (Nat.le_refl _) _).alloc (by simp) _
  have I1 : Hid (IHolds U w.heap.size 53 [.int .i64 z, .slice a n c]) := by rw [hU]; exact (IHolds.new w 53 [_, _]).alloc _
  have I2 : Hid (IHolds U (w.heap.size + 1) 28 [.string u, .slice x m y]) := by rw [hU]; exact IHolds.new' _ 28 [_, _] (by simp)
  have H41 : Hid (Calls Tryz.prog 41 #[.agg #[.int .i64 z, .slice a n c], .slice x m y] U fun e w' => e = .returned (.int .i64 0) ∧ Below U.heap.size U w') := C41 U BU.out
  have H50 : Hid (∀ W, Calls Tryz.prog 50 #[.agg #[.int .i64 z], .string u] W fun e w' => e = .returned (.bool false) ∧ Below W.heap.size W w') := C50
  have c0 := I1.out.cell 0 (by simp)
  have c1 := I1.out.cell 1 (by simp)
  have c3 := I2.out.cell 1 (by simp)
  clear C41 C50
  go_enter Tryz.func21, Tryz.ntmps21
  go_upto_region 1 with fail
  rw [← hU]
  clear hU
  go_wp2_with (first
    | (go_at_call 41; refine (H41.out).mono ?_; rintro e V1 ⟨rfl, hB⟩; have d0 := (I1.out.of_below hB).cell 0 (by simp); have d2 := (I2.out.of_below hB).cell 0 (by simp); have B1 : Hid (Below w.heap.size w V1) := BU.out.trans (hB.mono BU.out.size); clear hB H41 c0 c1 c3)
    | (go_at_call 50; refine (H50.out _).mono ?_; rintro e V2 ⟨rfl, hB⟩; have B2 : Hid (Below w.heap.size w V2) := B1.out.trans (hB.mono B1.out.size); clear hB H50)
    | fail)
  go_ret
  exact ⟨rfl, B2.out⟩
set_option maxHeartbeats 1000000 in
theorem verify9 {w : World} {z : Int} {a x : Option Addr} {n m c y : Nat} {label u : ByteArray}
    (C18 : ∀ W, Below w.heap.size w W → Calls Tryz.prog 18 #[.int .i64 z, .slice a n c] W fun e w' => e = .returned (.tuple #[.agg #[.int .i64 z, .slice a n c], .int .i64 0]) ∧ Below W.heap.size W w')
    (C21 : ∀ W, Below w.heap.size w W → Calls Tryz.prog 21 #[.agg #[.int .i64 z, .slice a n c], .agg #[.string u, .slice x m y]] W fun e w' => e = .returned (.bool true) ∧ Below W.heap.size W w')
    (C22 : ∀ W, Below w.heap.size w W → Calls Tryz.prog 22 #[.agg #[.int .i64 z, .slice a n c], .string label, .agg #[.string u, .slice x m y]] W fun e w' => e = .returned (.bool true) ∧ Below W.heap.size W w') :
    Calls Tryz.prog 9 #[.int .i64 z, .string label, .slice a n c, .agg #[.string u, .slice x m y]] w fun e w' => e = .returned (.bool true) ∧ Below w.heap.size w w' := by
  obtain ⟨U, hU⟩ : ∃ U, U = w.alloc (.cells #[.string u, .slice x m y] 28) := ⟨_, rfl⟩
  have BU : Hid (Below w.heap.size w U) := by rw [hU]; exact (Below.refl _ _).alloc (Nat.le_refl _) _
  have I2 : Hid (IHolds U w.heap.size 28 [.string u, .slice x m y]) := by rw [hU]; exact IHolds.new _ _ _
  have H18 : Hid (Calls Tryz.prog 18 #[.int .i64 z, .slice a n c] U fun e w' => e = .returned (.tuple #[.agg #[.int .i64 z, .slice a n c], .int .i64 0]) ∧ Below U.heap.size U w') := C18 U BU.out
  have H21 : Hid (∀ W, Below w.heap.size w W → Calls Tryz.prog 21 #[.agg #[.int .i64 z, .slice a n c], .agg #[.string u, .slice x m y]] W fun e w' => e = .returned (.bool true) ∧ Below W.heap.size W w') := C21
  have H22 : Hid (∀ W, Below w.heap.size w W → Calls Tryz.prog 22 #[.agg #[.int .i64 z, .slice a n c], .string label, .agg #[.string u, .slice x m y]] W fun e w' => e = .returned (.bool true) ∧ Below W.heap.size W w') := C22
  clear C18 C21 C22
  go_enter Tryz.func9, Tryz.ntmps9
  go_upto_region 1 with fail
  rw [← hU]
  clear hU
  go_upto_region 2 with (first
    | (go_at_call 18; refine (H18.out).mono ?_; rintro e V1 ⟨rfl, hB⟩; have B1 : Hid (Below w.heap.size w V1) := BU.out.trans (hB.mono BU.out.size); have J2 : Hid (IHolds V1 w.heap.size 28 [.string u, .slice x m y]) := I2.out.of_below hB; clear hB H18)
    | fail)
  obtain ⟨X, hX⟩ : ∃ X, X = V1.alloc (.cells #[.int .i64 z, .slice a n c] 53) := ⟨_, rfl⟩
  have BX : Hid (Below V1.heap.size V1 X) := by rw [hX]; exact (Below.refl _ _).alloc (Nat.le_refl _) _
  have X1 : Hid (IHolds X V1.heap.size 53 [.int .i64 z, .slice a n c]) := by rw [hX]; exact IHolds.new _ _ _
  have X2 : Hid (IHolds X w.heap.size 28 [.string u, .slice x m y]) := J2.out.of_below BX.out
  have B2 : Hid (Below w.heap.size w X) := B1.out.trans (BX.out.mono B1.out.size)
  rw [← hX]
  have c0 := X1.out.cell 0 (by simp)
  have c1 := X1.out.cell 1 (by simp)
  have c2 := X2.out.cell 0 (by simp)
  have c3 := X2.out.cell 1 (by simp)
  generalize V1.heap.size = bs at *
  clear hX BX J2 B1
  go_wp2_with (first
    | (go_at_call 21; refine (H21.out _ B2.out).mono ?_; rintro e V2 ⟨rfl, hB⟩; have B3 : Hid (Below w.heap.size w V2) := B2.out.trans (hB.mono B2.out.size); have d0 := (X1.out.of_below hB).cell 0 (by simp); have d1 := (X1.out.of_below hB).cell 1 (by simp); have d2 := (X2.out.of_below hB).cell 0 (by simp); have d3 := (X2.out.of_below hB).cell 1 (by simp); clear hB H21 c0 c1 c2 c3)
    | (go_at_call 22; refine (H22.out _ B3.out).mono ?_; rintro e V3 ⟨rfl, hB⟩; have B4 : Hid (Below w.heap.size w V3) := B3.out.trans (hB.mono B3.out.size); clear hB H22)
    | fail)
  go_ret
  exact ⟨rfl, B4.out⟩
end Go.Proofs.YtmpiipcllgjhdaaGreatDoor
