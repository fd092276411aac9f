/- Claims and firsts are told; a seed. Sums of scalars. Challenges, nonces, answers. -/
import Derived.Test.YtmpiipcllgjhdaaGreatDoorZ21
import Derived.Test.YtmpiipcllgjhdaaGreatDoorZ20
set_option linter.unusedSimpArgs false
set_option linter.unusedVariables false
set_option maxRecDepth 100000
namespace Go.Proofs.YtmpiipcllgjhdaaGreatDoor
open Go.RowKit Go.Deep Go.PlainAid

/-- Lists whose texts together are short. -/
structure Zl (l : List ByteArray) : Prop where
  n : l.length ≤ 1048576
  s : (catB l).size ≤ 1048576
theorem Zl.of {S : Nat} {l : List ByteArray} (hS : S ≤ 32) (hn : l.length ≤ 64) (h : ∀ x ∈ l, x.size = S) : Zl l := by
  refine ⟨by omega, ?_⟩
  rw [catB_size l S h]
  exact Nat.le_trans (Nat.mul_le_mul hn hS) (by omega)
set_option maxHeartbeats 2000000 in
theorem tell79 {w0 w : World} {tb : Nat} {s : ByteArray} {a : Option Addr} {l : List Cl} {c : Nat} {z : Int} (h : TW w0.heap.size w0 w tb s) (h3 : 3 < w0.heap.size) (hl : l.length ≤ 64) (hC : CK w0 a l) (hz : ∀ i (h : i < l.length), Zl (l[i]).1 ∧ Zl (l[i]).2) :
    Calls Tryz.prog 79 #[.agg #[.int .i64 z, .slice a l.length c], .pointer (some ⟨tb, 0, none⟩)] w fun e w' => e = .returned (.tuple #[]) ∧ TW w0.heap.size w0 w' tb (telS l s) ∧ F.But tb w w' := by
  obtain ⟨U, hU⟩ : ∃ U, U = w.alloc (.cells #[.int .i64 z, .slice a l.length c] 53) := ⟨_, rfl⟩
  have BU : Hid (Below w.heap.size w U) := by rw [hU]; exact (Below.refl _ _).alloc (Nat.le_refl _) _
  have A0 : Hid (TW w0.heap.size w0 U tb s) := h.below BU.out
  have HC : Hid (CK w0 a l) := hC
  have HZ : Hid (∀ i (h : i < l.length), Zl (l[i]).1 ∧ Zl (l[i]).2) := hz
  have K0 : Hid (F.But tb w U) := (F.But.refl tb w).of_below BU.out
  clear h hC hz
  go_enter Tryz.func79, Tryz.ntmps79
  go_wp2_with fail
  rw [← hU]
  clear hU
  go_loopg [5, 9] l.length (fun gk v5 v9 wr => ∃ i : Nat, i + gk = l.length ∧ v9 = .int .i64 (i : Int) ∧ TW w0.heap.size w0 wr tb (telS (l.take i) s) ∧ F.But tb w wr)
  case atStart => exact ⟨0, by omega, rfl, by simpa [telS] using A0.out, K0.out⟩
  case round =>
    obtain ⟨i, hig, rfl, hA, hK⟩ := hrel
    have A : Hid (TW w0.heap.size w0 wr tb (telS (l.take i) s)) := hA
    have K : Hid (F.But tb w wr) := hK
    clear hA hK A0 K0
    by_cases hi : i < l.length
    · have il : (i : Int) < (l.length : Int) := by omega
      obtain ⟨b, o, a1, c1, a2, c2, rfl, p1, p2, s1, s2⟩ := HC.out i hi
      have q1 := cell_keep p1 A.out.bl
      have q2 := cell_keep p2 A.out.bl
      clear p1 p2
      obtain ⟨z1, z2⟩ := HZ.out i hi
      have ET : Hid (telS (l.take (i + 1)) s = tel1 (telS (l.take i) s) l[i]) := telS_take hi s
      generalize telS (l.take i) s = st at *
      generalize l[i] = t at *
      obtain ⟨t1, t2⟩ := t
      dsimp only at q1 q2 s1 s2 z1 z2
      obtain ⟨W1, hW1⟩ : ∃ W1, W1 = wr.alloc (.cells #[.slice a1 t1.length c1, .slice a2 t2.length c2] 36) := ⟨_, rfl⟩
      have BW : Hid (Below wr.heap.size wr W1) := by rw [hW1]; exact (Below.refl _ _).alloc (Nat.le_refl _) _
      have IW : Hid (IHolds W1 wr.heap.size 36 [.slice a1 t1.length c1, .slice a2 t2.length c2]) := by rw [hW1]; exact IHolds.new _ _ _
      have A1 : Hid (TW w0.heap.size w0 W1 tb st) := A.out.below BW.out
      have K1 : Hid (F.But tb w W1) := K.out.of_below BW.out
      have NE : Hid (wr.heap.size ≠ tb) := by have := A.out.at_.t.lt; show _ ≠ _; omega
      have J1 : Hid (Calls Tryz.prog 84 #[.slice a1 t1.length c1, .string ⟨#[]⟩] W1 fun e w' => e = .returned (.string (catB t1)) ∧ Below W1.heap.size W1 w') := join84 (s1.of_below A1.out.bl) z1.n z1.s
      have J2 : Hid (∀ V, Below w0.heap.size w0 V → Calls Tryz.prog 84 #[.slice a2 t2.length c2, .string ⟨#[]⟩] V fun e w' => e = .returned (.string (catB t2)) ∧ Below V.heap.size V w') := fun V hV => join84 (s2.of_below hV) z2.n z2.s
      have zs1 : Hid ((catB t1).size < 1125899906842624) := by have := z1.s; show _ < _; omega
      have zs2 : Hid ((catB t2).size < 1125899906842624) := by have := z2.s; show _ < _; omega
      clear s1 s2 z1 z2 A K
      go_upto_region 4 with fail
      rw [← hW1]
      have k0 := IW.out.cell 0 (by simp)
      clear hW1 q1 q2
      go_wp2_with (first
        | (go_at_call 84; refine (J1.out).mono ?_; rintro e V1 ⟨rfl, hB⟩; have A2 : Hid (TW w0.heap.size w0 V1 tb st) := A1.out.below hB; have K2 : Hid (F.But tb w V1) := K1.out.of_below hB; have I2 : Hid (IHolds V1 wr.heap.size 36 [.slice a1 t1.length c1, .slice a2 t2.length c2]) := IW.out.of_below hB; clear hB J1 A1 K1 IW k0)
        | (go_at_call 83; refine (say_TW A2.out h3 (by decide) zs1.out).mono ?_; rintro e V2 ⟨rfl, hA, hB⟩; have A3 : Hid (TW w0.heap.size w0 V2 tb (sy st basB (catB t1))) := hA; have K3 : Hid (F.But tb w V2) := K2.out.trans hB; have k1 := (I2.out.offB hB NE.out).cell 1 (by simp); clear hA hB A2 K2 I2 zs1)
        | (go_at_call 84; refine (J2.out _ A3.out.bl).mono ?_; rintro e V3 ⟨rfl, hB⟩; have A4 : Hid (TW w0.heap.size w0 V3 tb (sy st basB (catB t1))) := A3.out.below hB; have K4 : Hid (F.But tb w V3) := K3.out.of_below hB; clear hB J2 A3 K3 k1)
        | (go_at_call 83; refine (say_TW A4.out h3 (by decide) zs2.out).mono ?_; rintro e V4 ⟨rfl, hA, hB⟩; have A5 : Hid (TW w0.heap.size w0 V4 tb (sy (sy st basB (catB t1)) imgB (catB t2))) := hA; have K5 : Hid (F.But tb w V4) := K4.out.trans hB; clear hA hB A4 K4)
        | fail)
      go_roundg (gk - 1)
      case measure => omega
      case rel => exact ⟨i + 1, by omega, by go_num, by rw [ET.out]; exact A5.out, K5.out⟩
    · have il : ¬ (i : Int) < (l.length : Int) := by omega
      have e : l.take i = l := List.take_of_length_le (by omega)
      rw [e] at A
      clear e
      go_wp2_with fail
      go_end0
      exact ⟨rfl, A.out, K.out⟩
set_option maxHeartbeats 1000000 in
theorem talk43 {w : World} {a : Option Addr} {l : List Cl} {c : Nat} {z : Int} {label : ByteArray} (hT : TT w) (hlb : label.size < 1125899906842624) (hl : l.length ≤ 64) (hC : CK w a l) (hz : ∀ i (h : i < l.length), Zl (l[i]).1 ∧ Zl (l[i]).2) :
    Calls Tryz.prog 43 #[.agg #[.int .i64 z, .slice a l.length c], .string label] w fun e w' => ∃ b, e = .returned (.pointer (some ⟨b, 0, none⟩)) ∧ TW w.heap.size w w' b (telS l (st0 z ⟨#[99, 108, 97, 105, 109, 115]⟩ label)) := by
  obtain ⟨U, hU⟩ : ∃ U, U = w.alloc (.cells #[.int .i64 z, .slice a l.length c] 53) := ⟨_, rfl⟩
  have BU : Hid (Below w.heap.size w U) := by rw [hU]; exact (Below.refl _ _).alloc (Nat.le_refl _) _
  have IU : Hid (IHolds U w.heap.size 53 [.int .i64 z, .slice a l.length c]) := by rw [hU]; exact IHolds.new _ _ _
  have h3 : 3 < w.heap.size := hT.T.size
  have H78 : Hid (Calls Tryz.prog 78 #[.agg #[.int .i64 z], .string ⟨#[99, 108, 97, 105, 109, 115]⟩, .string label] U fun e w' => (∃ b, e = .returned (.pointer (some ⟨b, 0, none⟩)) ∧ TW U.heap.size U w' b (st0 z ⟨#[99, 108, 97, 105, 109, 115]⟩ label))) := talk78 (hT.below BU.out) (by decide) hlb
  have H79 : Hid (∀ V tb s, TW w.heap.size w V tb s → Calls Tryz.prog 79 #[.agg #[.int .i64 z, .slice a l.length c], .pointer (some ⟨tb, 0, none⟩)] V fun e w' => e = .returned (.tuple #[]) ∧ TW w.heap.size w w' tb (telS l s) ∧ F.But tb V w') := fun V tb s hA => tell79 hA h3 hl hC hz
  have c0 := IU.out.cell 0 (by simp)
  have c1 := IU.out.cell 1 (by simp)
  clear hT hC hz
  generalize hst : st0 z ⟨#[99, 108, 97, 105, 109, 115]⟩ label = st at *
  have HST : Hid (st0 z ⟨#[99, 108, 97, 105, 109, 115]⟩ label = st) := hst
  clear hst
  go_enter Tryz.func43, Tryz.ntmps43
  go_upto_region 1 with fail
  rw [← hU]
  clear hU
  go_wp2_with (first
    | (go_at_call 78; refine (H78.out).mono ?_; rintro e V1 ⟨b, rfl, hA⟩; have A1 : Hid (TW w.heap.size w V1 b st) := ⟨hA.at_, BU.out.trans (hA.bl.mono BU.out.size), Nat.le_trans BU.out.size hA.le, hA.sz⟩; have d0 := (IU.out.of_below hA.bl).cell 0 (by simp); have d1 := (IU.out.of_below hA.bl).cell 1 (by simp); clear hA H78 c0 c1)
    | (go_at_call 79; refine (H79.out _ _ _ A1.out).mono ?_; rintro e V2 ⟨rfl, hA, hB⟩; have A2 : Hid (TW w.heap.size w V2 b (telS l st)) := hA; clear hA hB A1 H79)
    | fail)
  go_ret
  exact ⟨b, rfl, A2.out⟩
theorem SLL.off {w w' : World} {a : Option Addr} {q : List (List ByteArray)} {tb : Nat} {s : ByteArray} (h : SLL w a q) (hT : F.TAt w tb s) (hb : F.But tb w w') : SLL w' a q := fun i hi => by
  obtain ⟨b, o, a', c', e, hc, hs⟩ := h i hi
  have nt : ∀ b o x y z, w.cell? ⟨b, o, none⟩ = some (.slice x y z) → b ≠ tb := fun b o x y z hc e => by
    subst e
    unfold F.TAt at hT
    simp only [World.cell?, hT] at hc
    match o, hc with
    | 0, hc => simp at hc
    | o + 1, hc => simp at hc
  have ny : ∀ b o, a' = some ⟨b, o, none⟩ → b ≠ tb := fun b o e e2 => by
    obtain ⟨cs, fz, q⟩ := hs.ty b o e
    subst e2
    unfold F.TAt at hT
    rw [hT] at q
    cases q
  refine ⟨b, o, a', c', e, (hb.cell (cell_lt hc) (nt _ _ _ _ _ hc) _).trans hc, ⟨⟨fun j hj => ?_, hs.sk.le⟩, fun b1 o1 e1 => ?_⟩⟩
  · obtain ⟨b1, o1, e1, h1⟩ := hs.sk.sl j hj
    exact ⟨b1, o1, e1, (hb.cell (cell_lt h1) (ny _ _ e1) _).trans h1⟩
  · obtain ⟨cs, fz, q⟩ := hs.ty b1 o1 e1
    exact ⟨cs, fz, (hb.block b1 (Array.getElem?_eq_some_iff.1 q).1 (ny _ _ e1)).trans q⟩
set_option maxHeartbeats 1000000 in
theorem tellFirsts46 {w0 w : World} {tb : Nat} {s : ByteArray} {a : Option Addr} {q : List (List ByteArray)} {c : Nat} (h : TW w0.heap.size w0 w tb s) (h3 : 3 < w0.heap.size) (hl : q.length ≤ 64) (hC : SLL w a q) (hz : ∀ i (h : i < q.length), Zl q[i]) :
    Calls Tryz.prog 46 #[.pointer (some ⟨tb, 0, none⟩), .slice a q.length c] w fun e w' => e = .returned (.tuple #[]) ∧ TW w0.heap.size w0 w' tb (firS q s) ∧ F.But tb w w' := by
  have A0 : Hid (TW w0.heap.size w0 w tb s) := h
  have HC : Hid (∀ V, F.But tb w V → SLL V a q) := fun V hV => SLL.off hC h.at_.t hV
  have HZ : Hid (∀ i (h : i < q.length), Zl q[i]) := hz
  clear h hC hz
  go_enter Tryz.func46, Tryz.ntmps46
  go_wp2_with fail
  go_loopg [5, 8] q.length (fun gk v5 v8 wr => ∃ i : Nat, i + gk = q.length ∧ v8 = .int .i64 (i : Int) ∧ TW w0.heap.size w0 wr tb (firS (q.take i) s) ∧ F.But tb w wr)
  case atStart => exact ⟨0, by omega, rfl, by simpa [firS] using A0.out, F.But.refl _ _⟩
  case round =>
    obtain ⟨i, hig, rfl, hA, hK⟩ := hrel
    have A : Hid (TW w0.heap.size w0 wr tb (firS (q.take i) s)) := hA
    have K : Hid (F.But tb w wr) := hK
    clear hA hK A0
    by_cases hi : i < q.length
    · have il : (i : Int) < (q.length : Int) := by omega
      obtain ⟨b, o, a1, c1, rfl, q1, s1⟩ := HC.out wr K.out i hi
      replace s1 := s1.sk
      have z1 := HZ.out i hi
      have ET : Hid (firS (q.take (i + 1)) s = sy (firS (q.take i) s) fstB (catB q[i])) := firS_take hi s
      generalize firS (q.take i) s = st at *
      generalize q[i] = t at *
      have J1 : Hid (Calls Tryz.prog 84 #[.slice a1 t.length c1, .string ⟨#[]⟩] wr fun e w' => e = .returned (.string (catB t)) ∧ Below wr.heap.size wr w') := join84 s1 z1.n z1.s
      have zs1 : Hid ((catB t).size < 1125899906842624) := by have := z1.s; show _ < _; omega
      clear s1 z1
      go_wp2_with (first
        | (go_at_call 84; refine (J1.out).mono ?_; rintro e V1 ⟨rfl, hB⟩; have A2 : Hid (TW w0.heap.size w0 V1 tb st) := A.out.below hB; have K2 : Hid (F.But tb w V1) := K.out.of_below hB; clear hB J1 A K)
        | (go_at_call 83; refine (say_TW A2.out h3 (by decide) zs1.out).mono ?_; rintro e V2 ⟨rfl, hA, hB⟩; have A3 : Hid (TW w0.heap.size w0 V2 tb (sy st fstB (catB t))) := hA; have K3 : Hid (F.But tb w V2) := K2.out.trans hB; clear hA hB A2 K2 zs1)
        | fail)
      go_roundg (gk - 1)
      case measure => omega
      case rel => exact ⟨i + 1, by omega, by go_num, by rw [ET.out]; exact A3.out, K3.out⟩
    · have il : ¬ (i : Int) < (q.length : Int) := by omega
      have e : q.take i = q := List.take_of_length_le (by omega)
      rw [e] at A
      clear e
      go_wp2_with fail
      go_end0
      exact ⟨rfl, A.out, K.out⟩
theorem seeded45 {w : World} {tb : Nat} {s seed : ByteArray} (h : TB w tb s) (hs : s.size = 32) (hd : seed.size < 1125899906842624) :
    Calls Tryz.prog 45 #[.pointer (some ⟨tb, 0, none⟩), .string seed] w fun e w' => e = .returned (.pointer (some ⟨w.heap.size, 0, none⟩)) ∧ TW w.heap.size w w' w.heap.size (sy s sedB seed) ∧ TB w' tb s := by
  have H : Hid (TB w tb s) := h
  have h3 : 3 < w.heap.size := h.T.size
  have hlt : tb < w.heap.size := h.t.lt
  clear h
  go_enter Tryz.func45, Tryz.ntmps45
  go_wp2_with (first
    | (go_at_call 82; refine (fork_TB H.out).mono ?_; rintro e V1 ⟨rfl, h1, h2, hB⟩; have A1 : Hid (TW w.heap.size w V1 w.heap.size s) := ⟨h1, hB, Nat.le_refl _, hs⟩; have T1 : Hid (TB V1 tb s) := h2; clear h1 h2 hB)
    | (go_at_call 83; refine (say_TW A1.out h3 (by decide) hd).mono ?_; rintro e V2 ⟨rfl, hA, hB⟩; have A2 : Hid (TW w.heap.size w V2 w.heap.size (sy s sedB seed)) := hA; have T2 : Hid (TB V2 tb s) := ⟨T1.out.t.of_but hB (by omega), hA.at_.T, hA.at_.S⟩; clear hA hB A1 T1)
    | fail)
  go_ret
  exact ⟨rfl, A2.out, T2.out⟩
end Go.Proofs.YtmpiipcllgjhdaaGreatDoor
namespace Go.Proofs.YtmpiipcllgjhdaaGreatDoor
open Go.RowKit Go.Deep Go.PlainAid

set_option maxRecDepth 100000 in
set_option maxHeartbeats 2000000 in
theorem clos91_70 {w : World} {g r1 : Nat} {t : ByteArray} {x0 x1 x2 x3 m0 m1 m2 m3 v0 v1 v2 v3 : Nat} (Jh : Hid (IHolds w r1 181 [.func (.func 141) #[] #[]]))
    (C1 : Hid (∀ W, Below w.heap.size w W → Calls Tryz.prog 141 #[.pointer (some ⟨g, 1, none⟩), .agg #[U x0, U x1, U x2, U x3], .agg #[U m0, U m1, U m2, U m3]] W fun e w' => e = .returned (.agg #[U v0, U v1, U v2, U v3]) ∧ Below W.heap.size W w')) (C2 : Hid (∀ W, Below w.heap.size w W → Calls Tryz.prog 65 #[.pointer (some ⟨g, 0, none⟩), .agg #[U v0, U v1, U v2, U v3]] W fun e w' => e = .returned (.tuple #[.string t, .int .i64 0]) ∧ Below W.heap.size W w')) :
    Calls Tryz.prog 148 #[.pointer (some ⟨g, 0, none⟩), .agg #[U x0, U x1, U x2, U x3], .agg #[U m0, U m1, U m2, U m3], .pointer (some ⟨r1, 0, none⟩)] w fun e w' => e = .returned (.tuple #[.string t, .int .i64 0]) ∧ Below w.heap.size w w' := by
  have hh0 := Jh.out.lt
  go_enter Tryz.func148, Tryz.ntmps148
  go_wp2_with fail
  obtain ⟨U1, hU1⟩ : ∃ X, X = ((w.alloc (.cells #[U x0, U x1, U x2, U x3] 73)).alloc (.cells #[U m0, U m1, U m2, U m3] 73)) := ⟨_, rfl⟩
  have Jx : Hid (IHolds U1 (w.heap.size) 73 [U x0, U x1, U x2, U x3]) := by
    have q := IHolds.new w 73 [U x0, U x1, U x2, U x3]
    show IHolds _ _ _ _
    rw [hU1]
    exact (q.alloc _)
  have Jm : Hid (IHolds U1 (w.heap.size + 1) 73 [U m0, U m1, U m2, U m3]) := by
    have q := IHolds.new (w.alloc (.cells #[U x0, U x1, U x2, U x3] 73)) 73 [U m0, U m1, U m2, U m3]
    simp only [World.size_alloc, Nat.add_assoc, Nat.reduceAdd] at q
    show IHolds _ _ _ _
    rw [hU1]
    exact q
  have B : Hid (Below w.heap.size w U1) := by
    show Below _ _ _
    rw [hU1]
    exact (((Below.refl _ w).alloc (Nat.le_refl _) _).alloc (by simp only [World.size_alloc]; omega) _)
  rw [← hU1]
  clear hU1
  replace Jh := aJ Jh B.out
  have hb := dB U1
  replace B := aB B hb
  replace Jh := aJ Jh hb
  replace Jx := aJ Jx hb
  replace Jm := aJ Jm hb
  clear hb
  refine wp_region_held_drew (S := fun W => (IHolds W (r1) 181 [(.func (.func 141) #[] #[])]) ∧ (IHolds W (w.heap.size) 73 [U x0, U x1, U x2, U x3]) ∧ (IHolds W (w.heap.size + 1) 73 [U m0, U m1, U m2, U m3])) (by kernel_rfl) ⟨Jh.out, Jx.out, Jm.out⟩ (fun hHeld1 => ?_)
  generalize U1.drew = U2 at *
  refine tk (i := 0) (v := .pointer (some ⟨g, 0, none⟩)) rfl (by kernel_rfl) (fun _ _ _ h => h) rfl ?_ hHeld1 ?_
  · intro W hS; go_simp
  simp only [Act.put, y1, y2, y3, y4, y5, y6, y7]
  refine tk (i := 1) (v := (.func (.func 141) #[] #[])) rfl (by kernel_rfl) (fun _ _ _ h => h) rfl ?_ hHeld1 ?_
  · intro W hS; have zh_0 : W.cell? ⟨r1, 0, none⟩ = some ((.func (.func 141) #[] #[])) := IHolds.cell (l := [(.func (.func 141) #[] #[])]) (t := 181) (b := r1) (w := W) (hS.1) 0 (by simp); go_simp
  simp only [Act.put, y1, y2, y3, y4, y5, y6, y7]
  refine tk (i := 2) (v := .pointer (some ⟨g, 0, none⟩)) rfl (by kernel_rfl) (fun _ _ _ h => h) rfl ?_ hHeld1 ?_
  · intro W hS; go_simp
  simp only [Act.put, y1, y2, y3, y4, y5, y6, y7]
  refine tk (i := 5) (v := .agg #[U x0, U x1, U x2, U x3]) rfl (by kernel_rfl) (fun _ _ _ h => h) rfl ?_ hHeld1 ?_
  · intro W hS; have zx_0 : W.cell? ⟨w.heap.size, 0, none⟩ = some (U x0) := IHolds.cell (l := [U x0, U x1, U x2, U x3]) (t := 73) (b := w.heap.size) (w := W) (hS.2.1) 0 (by simp); have zx_1 : W.cell? ⟨w.heap.size, 1, none⟩ = some (U x1) := IHolds.cell (l := [U x0, U x1, U x2, U x3]) (t := 73) (b := w.heap.size) (w := W) (hS.2.1) 1 (by simp); have zx_2 : W.cell? ⟨w.heap.size, 2, none⟩ = some (U x2) := IHolds.cell (l := [U x0, U x1, U x2, U x3]) (t := 73) (b := w.heap.size) (w := W) (hS.2.1) 2 (by simp); have zx_3 : W.cell? ⟨w.heap.size, 3, none⟩ = some (U x3) := IHolds.cell (l := [U x0, U x1, U x2, U x3]) (t := 73) (b := w.heap.size) (w := W) (hS.2.1) 3 (by simp); go_simp
  simp only [Act.put, y1, y2, y3, y4, y5, y6, y7]
  refine tk (i := 6) (v := .agg #[U m0, U m1, U m2, U m3]) rfl (by kernel_rfl) (fun _ _ _ h => h) rfl ?_ hHeld1 ?_
  · intro W hS; have zm_0 : W.cell? ⟨w.heap.size + 1, 0, none⟩ = some (U m0) := IHolds.cell (l := [U m0, U m1, U m2, U m3]) (t := 73) (b := w.heap.size + 1) (w := W) (hS.2.2) 0 (by simp); have zm_1 : W.cell? ⟨w.heap.size + 1, 1, none⟩ = some (U m1) := IHolds.cell (l := [U m0, U m1, U m2, U m3]) (t := 73) (b := w.heap.size + 1) (w := W) (hS.2.2) 1 (by simp); have zm_2 : W.cell? ⟨w.heap.size + 1, 2, none⟩ = some (U m2) := IHolds.cell (l := [U m0, U m1, U m2, U m3]) (t := 73) (b := w.heap.size + 1) (w := W) (hS.2.2) 2 (by simp); have zm_3 : W.cell? ⟨w.heap.size + 1, 3, none⟩ = some (U m3) := IHolds.cell (l := [U m0, U m1, U m2, U m3]) (t := 73) (b := w.heap.size + 1) (w := W) (hS.2.2) 3 (by simp); go_simp
  simp only [Act.put, y1, y2, y3, y4, y5, y6, y7]
  refine tk (i := 3) (v := .pointer (some ⟨g, 0, none⟩)) rfl (by kernel_rfl) (fun _ _ _ h => h) rfl ?_ hHeld1 ?_
  · intro W hS; go_simp
  simp only [Act.put, y1, y2, y3, y4, y5, y6, y7]
  refine tk (i := 4) (v := .pointer (some ⟨g, 1, none⟩)) rfl (by kernel_rfl) (fun _ _ _ h => h) rfl ?_ hHeld1 ?_
  · intro W hS; go_simp
  simp only [Act.put, y1, y2, y3, y4, y5, y6, y7]
  refine wpAnyH_ready (rs := [7]) (by kernel_rfl) (by simp) ?_
  refine AllReadyH.cons rfl (fun K hK => ?_) AllReadyH.nil
  clear hHeld1
  go_simp
  refine (C1.out U2 B.out).mono ?_
  rintro e U3 ⟨rfl, hb⟩
  replace B := aB B hb
  replace Jh := aJ Jh hb
  replace Jx := aJ Jx hb
  replace Jm := aJ Jm hb
  clear hb
  go_wp2_with fail
  refine hK.out _ _ (⟨Jh.out, Jx.out, Jm.out⟩) (fun hHeld2 => ?_)
  clear hK K
  try simp only [Act.put, y1, y2, y3, y4, y5, y6, y7]
  refine wpAnyH_ready (rs := [8]) (by kernel_rfl) (by simp) ?_
  refine AllReadyH.cons rfl (fun K hK => ?_) AllReadyH.nil
  clear hHeld2
  go_simp
  refine (C2.out U3 B.out).mono ?_
  rintro e U4 ⟨rfl, hb⟩
  replace B := aB B hb
  replace Jh := aJ Jh hb
  replace Jx := aJ Jx hb
  replace Jm := aJ Jm hb
  clear hb
  go_wp2_with fail
  refine hK.out _ _ (⟨Jh.out, Jx.out, Jm.out⟩) (fun hHeld3 => ?_)
  clear hK K
  try simp only [Act.put, y1, y2, y3, y4, y5, y6, y7]
  refine tk (i := 9) (v := (.string t)) rfl (by kernel_rfl) (fun _ _ _ h => h) rfl ?_ hHeld3 ?_
  · intro W hS; go_simp
  simp only [Act.put, y1, y2, y3, y4, y5, y6, y7]
  refine tk (i := 10) (v := (.int .i64 0)) rfl (by kernel_rfl) (fun _ _ _ h => h) rfl ?_ hHeld3 ?_
  · intro W hS; go_simp
  simp only [Act.put, y1, y2, y3, y4, y5, y6, y7]
  refine tk (i := 11) (v := (.string t)) rfl (by kernel_rfl) (fun _ _ _ h => h) rfl ?_ hHeld3 ?_
  · intro W hS; go_simp
  simp only [Act.put, y1, y2, y3, y4, y5, y6, y7]
  refine tk (i := 12) (v := (.int .i64 0)) rfl (by kernel_rfl) (fun _ _ _ h => h) rfl ?_ hHeld3 ?_
  · intro W hS; go_simp
  simp only [Act.put, y1, y2, y3, y4, y5, y6, y7]
  refine wpAnyH_done (by kernel_rfl) ?_ _
  clear hHeld3
  go_wp2_with fail
  go_ret2
  exact ⟨rfl, B.out⟩
set_option maxRecDepth 100000 in
set_option maxHeartbeats 2000000 in
theorem add_face {w : World} {z c : Int} {t : ByteArray} {a b : ByteArray}
    (C : Hid (Calls Tryz.prog 131 #[.int .i64 z, .string a, .string b, .func (.func 141) #[] #[]] w fun e w' => e = .returned (.tuple #[.string t, .int .i64 c]) ∧ Below w.heap.size w w')) :
    Calls Tryz.prog 123 #[.int .i64 z, .string a, .string b] w fun e w' => e = .returned (.tuple #[.string t, .int .i64 c]) ∧ Below w.heap.size w w' := by
  go_enter Tryz.func123, Tryz.ntmps123
  go_wp2_with fail
  refine C.out.mono ?_
  rintro e V1 ⟨rfl, hb⟩
  have B : Hid (Below w.heap.size w V1) := hb
  clear hb
  go_wp2_with fail
  go_ret2
  exact ⟨rfl, B.out⟩
section
variable {z : Int} {G : Array Value} {S Wd M low one sq Ri Wd2 M2 low2 one2 sq2 Ri2 : Nat}
theorem add_yes (k : KD z G S Wd M low one sq Ri Wd2 M2 low2 one2 sq2 Ri2) (w : World) {a b : ByteArray} (h : isSc S M a = true) (h' : isSc S M b = true) :
    Calls Tryz.prog 123 #[.int .i64 z, .string a, .string b] w fun e w' => e = .returned (.tuple #[.string ⟨(beB S ((numS a + numS b) % M)).toArray⟩, .int .i64 0]) ∧ Below w.heap.size w w' := by
  have ha := isSc_lt h
  have hb' := isSc_lt h'
  have hm := k.m2
  exact add_face (reckon_any (fun W r1 jr hb => withTwo_any (fun W2 q1 q2 q3 k1 k2 k3 hb2 => withOne_any (fun W3 p1 p2 p3 j1 j2 j3 hb3 => on48_88 k.hG k.hi k.h1 k.CG (fun W4 g hI hb4 =>
    clos88_59_96 (j1.of_below hb4) (j2.of_below hb4) (j3.of_below hb4) (fun W5 hb5 => scalar_yes k ((k.gh W4 g hI).of_below hb5) h)
      (fun W5 hb5 => clos96_59_91 (((k1.of_below hb3).of_below hb4).of_below hb5) (((k2.of_below hb3).of_below hb4).of_below hb5) (((k3.of_below hb3).of_below hb4).of_below hb5)
        (fun W6 hb6 => scalar_yes k (((k.gh W4 g hI).of_below hb5).of_below hb6) h')
        (fun W6 hb6 => clos91_70 (((((jr.of_below hb2).of_below hb3).of_below hb4).of_below hb5).of_below hb6)
          (fun W7 hb7 => by have q := fplusA ((((k.gh W4 g hI).of_below hb5).of_below hb6).of_below hb7).fs ha hb' k.fl.big; rw [belowN_mod ha hb'] at q; exact q)
          (fun W7 hb7 => toldA ((((k.gh W4 g hI).of_below hb5).of_below hb6).of_below hb7).c k.hS (Nat.lt_trans (Nat.mod_lt _ (by omega)) k.big)))))))))
end
end Go.Proofs.YtmpiipcllgjhdaaGreatDoor
namespace Go.Proofs.YtmpiipcllgjhdaaGreatDoor
open Go.RowKit Go.Deep Go.PlainAid

/-- What a talk is behind a challenge; the challenge. -/
def ak (label s : ByteArray) : ByteArray := askS label (askS label s)
theorem ak_size (label s : ByteArray) : (ak label s).size = 32 := askS_size _ _
def nonB : ByteArray := ⟨#[110, 111, 110, 99, 101]⟩
def chaB : ByteArray := ⟨#[99, 104, 97, 108, 108, 101, 110, 103, 101]⟩
section
variable {z : Int} {G : Array Value} {S Wd M low one sq Ri Wd2 M2 low2 one2 sq2 Ri2 : Nat}
theorem CHL (k : KD z G S Wd M low one sq Ri Wd2 M2 low2 one2 sq2 Ri2) {label : ByteArray} (hl : label.size < 1125899906842624) (W : World) (tb : Nat) (s : ByteArray) (hs : s.size = 32) (h2 : 3 < tb) (h : TB W tb s) :
    Calls Tryz.prog 90 #[.int .i64 z, .pointer (some ⟨tb, 0, none⟩), .string label] W fun e w' => e = .returned (.tuple #[.string (TX S (askN label s M)), .int .i64 0]) ∧ TB w' tb (ak label s) ∧ F.But tb W w' :=
  challenge_kind k.hS k.fl k.hG k.hi k.h1 k.CG (fun W g hI => ⟨(k.gh W g hI).c, (k.gh W g hI).fs⟩) hl W tb s hs h2 h
end
set_option maxHeartbeats 1000000 in
theorem challenge48 {w : World} {z : Int} {tb : Nat} {s s2 label r : ByteArray} (h : TB w tb s) (C : ∀ V, TB V tb s → Calls Tryz.prog 90 #[.int .i64 z, .pointer (some ⟨tb, 0, none⟩), .string label] V fun e w' => e = .returned (.tuple #[.string r, .int .i64 0]) ∧ TB w' tb s2 ∧ F.But tb V w') :
    Calls Tryz.prog 48 #[.agg #[.int .i64 z], .pointer (some ⟨tb, 0, none⟩), .string label] w fun e w' => e = .returned (.string r) ∧ TB w' tb s2 ∧ F.But tb w w' := by
  obtain ⟨U, hU⟩ : ∃ U, U = w.alloc (.cells #[.int .i64 z] 51) := ⟨_, rfl⟩
  have BU : Hid (Below w.heap.size w U) := by rw [hU]; exact (Below.refl _ _).alloc (Nat.le_refl _) _
  have HC : Hid (Calls Tryz.prog 90 #[.int .i64 z, .pointer (some ⟨tb, 0, none⟩), .string label] U fun e w' => e = .returned (.tuple #[.string r, .int .i64 0]) ∧ TB w' tb s2 ∧ F.But tb U w') := C U (h.below BU.out)
  clear C h
  go_enter Tryz.func48, Tryz.ntmps48
  go_wp2_with (go_at_call 90; rw [← hU]; refine (HC.out).mono ?_; rintro e V1 ⟨rfl, hA, hB⟩; have A1 : Hid (TB V1 tb s2) := hA; have K1 : Hid (F.But tb w V1) := ((F.But.refl tb w).of_below BU.out).trans hB; clear hA hB HC)
  go_ret
  exact ⟨rfl, A1.out, K1.out⟩
section
variable {z : Int} {G : Array Value} {S Wd M low one sq Ri Wd2 M2 low2 one2 sq2 Ri2 : Nat}
theorem CHA (k : KD z G S Wd M low one sq Ri Wd2 M2 low2 one2 sq2 Ri2) {n : Nat} {w0 w : World} {tb : Nat} {s label : ByteArray} (h : TW n w0 w tb s) (h3 : 3 < n) (hl : label.size < 1125899906842624) :
    Calls Tryz.prog 48 #[.agg #[.int .i64 z], .pointer (some ⟨tb, 0, none⟩), .string label] w fun e w' => e = .returned (.string (TX S (askN label s M))) ∧ TW n w0 w' tb (ak label s) ∧ F.But tb w w' :=
  (challenge48 h.at_ (fun V hV => CHL k hl V tb s h.sz (by have := h.le; omega) hV)).mono fun e w' ⟨h1, h2, h4⟩ => ⟨h1, ⟨h2, h.bl.trans (But.low h4 h.le (by have := h.at_.t.lt; have := h.le; omega)), h.le, ak_size _ _⟩, h4⟩
end
/-- States of a talk that is asked for nonces, and the nonces. -/
def nonS : Nat → ByteArray → ByteArray
  | 0, s => s
  | i + 1, s => ak nonB (nonS i s)
theorem nonS_size {s : ByteArray} (h : s.size = 32) : ∀ i, (nonS i s).size = 32
  | 0 => h
  | i + 1 => ak_size _ _
def nonL (S M n : Nat) (s : ByteArray) : List ByteArray := (List.range n).map fun i => TX S (askN nonB (nonS i s) M)
theorem nonL_len (S M n : Nat) (s : ByteArray) : (nonL S M n s).length = n := by simp [nonL]
theorem nonL_at (S M n : Nat) (s : ByteArray) (i : Nat) (h : i < (nonL S M n s).length) : (nonL S M n s)[i] = TX S (askN nonB (nonS i s) M) := by simp [nonL]
set_option maxHeartbeats 1000000 in
theorem clos81 {n : Nat} {w0 w : World} {z : Int} {g p tb : Nat} {s s2 r : ByteArray} {a1 a2 : Option Addr} {n1 c1 n2 c2 : Nat} (h : TW n w0 w tb s) (hg : w.cell? ⟨g, 0, none⟩ = some (.int .i64 z)) (hp : w.cell? ⟨p, 0, none⟩ = some (.pointer (some ⟨tb, 0, none⟩)))
    (C : ∀ V, TW n w0 V tb s → Calls Tryz.prog 48 #[.agg #[.int .i64 z], .pointer (some ⟨tb, 0, none⟩), .string nonB] V fun e w' => e = .returned (.string r) ∧ TW n w0 w' tb s2 ∧ F.But tb V w') :
    Calls Tryz.prog 81 #[.agg #[.slice a1 n1 c1, .slice a2 n2 c2], .pointer (some ⟨g, 0, none⟩), .pointer (some ⟨p, 0, none⟩)] w fun e w' => e = .returned (.string r) ∧ TW n w0 w' tb s2 ∧ F.But tb w w' := by
  obtain ⟨U, hU⟩ : ∃ U, U = w.alloc (.cells #[.slice a1 n1 c1, .slice a2 n2 c2] 36) := ⟨_, rfl⟩
  have BU : Hid (Below w.heap.size w U) := by rw [hU]; exact (Below.refl _ _).alloc (Nat.le_refl _) _
  have HC : Hid (Calls Tryz.prog 48 #[.agg #[.int .i64 z], .pointer (some ⟨tb, 0, none⟩), .string nonB] U fun e w' => e = .returned (.string r) ∧ TW n w0 w' tb s2 ∧ F.But tb U w') := C U (h.below BU.out)
  have g1 := cell_keep hg BU.out
  have p1 := cell_keep hp BU.out
  clear C h hg hp
  go_enter Tryz.func81, Tryz.ntmps81
  go_upto_region 1 with fail
  rw [← hU]
  clear hU
  go_wp2_with (go_at_call 48; refine (HC.out).mono ?_; rintro e V1 ⟨rfl, hA, hB⟩; have A1 : Hid (TW n w0 V1 tb s2) := hA; have K1 : Hid (F.But tb w V1) := ((F.But.refl tb w).of_below BU.out).trans hB; clear hA hB HC)
  go_ret
  exact ⟨rfl, A1.out, K1.out⟩
theorem make22s (n : Nat) (hn : n ≤ 8796093022207) (w : World) : (Instr.makeSlice 22 (.int .i64 (n : Int)) (.int .i64 (n : Int))).run Tryz.prog w = .ok (.slice (some ⟨w.heap.size, 0, none⟩) n n) (w.alloc (.cells (List.replicate n (Value.string ⟨#[]⟩)).toArray 9)) := make22 _ n rfl hn w
set_option maxHeartbeats 2000000 in
theorem each80_81 {w0 w : World} {z : Int} {g p tb : Nat} {s : ByteArray} {a : Option Addr} {l : List Cl} {c S M : Nat} (hl : l.length ≤ 64) (hC : CM w0 a l) (h : TW w0.heap.size w0 w tb s) (hg : w.cell? ⟨g, 0, none⟩ = some (.int .i64 z)) (hp : w.cell? ⟨p, 0, none⟩ = some (.pointer (some ⟨tb, 0, none⟩))) (ng : g ≠ tb) (np : p ≠ tb)
    (C : ∀ i V, TW w0.heap.size w0 V tb (nonS i s) → Calls Tryz.prog 48 #[.agg #[.int .i64 z], .pointer (some ⟨tb, 0, none⟩), .string nonB] V fun e w' => e = .returned (.string (TX S (askN nonB (nonS i s) M))) ∧ TW w0.heap.size w0 w' tb (nonS (i + 1) s) ∧ F.But tb V w') :
    Calls Tryz.prog 80 #[.slice a l.length c, .func (.func 81) #[] #[.pointer (some ⟨g, 0, none⟩), .pointer (some ⟨p, 0, none⟩)]] w fun e w' => e = .returned (.slice (some ⟨w.heap.size, 0, none⟩) l.length l.length) ∧ IHolds w' w.heap.size 9 ((nonL S M l.length s).map Value.string) ∧ TW w0.heap.size w0 w' tb (nonS l.length s) ∧ F.But tb w w' := by
  have HC : Hid (CM w0 a l) := hC
  have HQ : Hid ((nonL S M l.length s).length = l.length) := nonL_len _ _ _ _
  have HA : Hid (∀ i (h : i < (nonL S M l.length s).length), (nonL S M l.length s)[i] = TX S (askN nonB (nonS i s) M)) := nonL_at S M l.length s
  have hmk := make22s l.length (by omega) w
  have JI : Hid (IHolds (w.alloc (.cells (List.replicate l.length (Value.string ⟨#[]⟩)).toArray 9)) w.heap.size 9 (half (nonL S M l.length s) l.length 0)) := by rw [half_zero]; exact IHolds.new _ _ _
  have JB : Hid (Below w.heap.size w (w.alloc (.cells (List.replicate l.length (Value.string ⟨#[]⟩)).toArray 9))) := (Below.refl _ w).alloc (Nat.le_refl _) _
  have HT : Hid (TW w0.heap.size w0 w tb s) := h
  have lt : tb < w.heap.size := h.at_.t.lt
  have t3 : 3 < w.heap.size := h.at_.T.size
  have GG : Hid (∀ V, F.But tb w V → V.cell? ⟨g, 0, none⟩ = some (.int .i64 z) ∧ V.cell? ⟨p, 0, none⟩ = some (.pointer (some ⟨tb, 0, none⟩))) := fun V hV => ⟨(hV.cell (cell_lt hg) ng 0).trans hg, (hV.cell (cell_lt hp) np 0).trans hp⟩
  have HCC : Hid (∀ i V, TW w0.heap.size w0 V tb (nonS i s) → Calls Tryz.prog 48 #[.agg #[.int .i64 z], .pointer (some ⟨tb, 0, none⟩), .string nonB] V fun e w' => e = .returned (.string (TX S (askN nonB (nonS i s) M))) ∧ TW w0.heap.size w0 w' tb (nonS (i + 1) s) ∧ F.But tb V w') := C
  generalize nonL S M l.length s = q at *
  clear hC h hg hp C
  go_enter Tryz.func80, Tryz.ntmps80
  generalize w.alloc (.cells (List.replicate l.length (Value.string ⟨#[]⟩)).toArray 9) = U at *
  go_wp2_with fail
  go_loopg [6, 7, 13] l.length (fun gk v6 v7 v13 wr => ∃ i : Nat, i + gk = l.length ∧ v13 = .int .i64 (i : Int) ∧ TW w0.heap.size w0 wr tb (nonS i s) ∧ F.But tb w wr ∧ IHolds wr w.heap.size 9 (half q l.length i))
  case atStart => exact ⟨0, by omega, rfl, HT.out.below JB.out, (F.But.refl tb w).of_below JB.out, JI.out⟩
  case round =>
    obtain ⟨i, hig, rfl, hT, hK, hI⟩ := hrel
    have A : Hid (TW w0.heap.size w0 wr tb (nonS i s)) := hT
    have K : Hid (F.But tb w wr) := hK
    have I : Hid (IHolds wr w.heap.size 9 (half q l.length i)) := hI
    clear hT hK hI JI JB HT hmk
    by_cases hi : i < l.length
    · have hi3 : i < q.length := by have := HQ.out; omega
      have il : (i : Int) < (l.length : Int) := by omega
      obtain ⟨b1, o1, a1, c1, a2, c2, rfl, h1, h2, _, _⟩ := HC.out.of_below A.out.bl i hi
      obtain ⟨W1, hW1⟩ : ∃ W1, W1 = wr.alloc (.cells #[.slice a1 (l[i]).1.length c1, .slice a2 (l[i]).2.length c2] 36) := ⟨_, rfl⟩
      have BW : Hid (Below wr.heap.size wr W1) := by rw [hW1]; exact (Below.refl _ _).alloc (Nat.le_refl _) _
      have IW : Hid (IHolds W1 wr.heap.size 36 [.slice a1 (l[i]).1.length c1, .slice a2 (l[i]).2.length c2]) := by rw [hW1]; exact IHolds.new _ _ _
      have K1 : Hid (F.But tb w W1) := K.out.of_below BW.out
      have hcall : Hid (Calls Tryz.prog 81 #[.agg #[.slice a1 (l[i]).1.length c1, .slice a2 (l[i]).2.length c2], .pointer (some ⟨g, 0, none⟩), .pointer (some ⟨p, 0, none⟩)] W1 fun e w' => e = .returned (.string (TX S (askN nonB (nonS i s) M))) ∧ TW w0.heap.size w0 w' tb (nonS (i + 1) s) ∧ F.But tb W1 w') := clos81 (a1 := a1) (n1 := (l[i]).1.length) (c1 := c1) (a2 := a2) (n2 := (l[i]).2.length) (c2 := c2) (A.out.below BW.out) (GG.out W1 K1.out).1 (GG.out W1 K1.out).2 (HCC.out i)
      have I1 : Hid (IHolds W1 w.heap.size 9 (half q l.length i)) := I.out.of_below BW.out
      have HH : Hid _ := half_set HQ.out hi hi3
      rw [HA.out i hi3] at HH
      have HL : Hid ((half q l.length i).length = l.length) := half_length HQ.out (by omega)
      have e0 := IW.out.cell 0 (by simp)
      have e1 := IW.out.cell 1 (by simp)
      generalize (l[i]).1.length = m1 at *
      generalize (l[i]).2.length = m2 at *
      generalize TX S (askN nonB (nonS i s) M) = r at *
      have nw : w.heap.size ≠ tb := by omega
      clear A K I
      go_upto_region 5 with fail
      rw [← hW1]
      clear hW1 h1 h2
      go_wp2_with (go_at_call 81; refine (hcall.out).mono ?_; rintro e w3 ⟨rfl, hA3, hB3⟩; have A3 : Hid (TW w0.heap.size w0 w3 tb (nonS (i + 1) s)) := hA3; have K3 : Hid (F.But tb w w3) := K1.out.trans hB3; have I3 : Hid (IHolds w3 w.heap.size 9 (half q l.length i)) := I1.out.offB hB3 nw; have f3 : w3.frozen? ⟨w.heap.size, i, none⟩ = false := I3.out.frozen i; have g3 := I3.out.cell i (by have := HL.out; omega); clear hA3 hB3 hcall)
      have I4 : Hid (IHolds (w3.setCell ⟨w.heap.size, i, none⟩ (.string r)) w.heap.size 9 (half q l.length (i + 1))) := by
        have := I3.out.set i (.string r)
        rw [HH.out] at this
        exact this
      have K4 : Hid (F.But tb w (w3.setCell ⟨w.heap.size, i, none⟩ (.string r))) := K3.out.setNew (p := ⟨w.heap.size, i, none⟩) (Nat.le_refl _) _
      have A4 : Hid (TW w0.heap.size w0 (w3.setCell ⟨w.heap.size, i, none⟩ (.string r)) tb (nonS (i + 1) s)) := by
        have hle := A3.out.le
        have h4 := (F.But.refl w.heap.size w3).setCell i (.string r)
        exact ⟨⟨A3.out.at_.t.of_but h4 (by omega), A3.out.at_.T.of_but h4 (by have := A3.out.at_.T.size; have := A3.out.le; omega), A3.out.at_.S.of_but h4 (by have := A3.out.le; omega) A3.out.at_.T.size⟩, A3.out.bl.setCell (p := ⟨w.heap.size, i, none⟩) (by show _ ≤ w.heap.size; omega) _, hle, A3.out.sz⟩
      go_roundg (gk - 1)
      case measure => omega
      case rel => exact ⟨i + 1, by omega, by go_num, A4.out, K4.out, I4.out⟩
    · have il : ¬ (i : Int) < (l.length : Int) := by omega
      have e : i = l.length := by omega
      have I5 : Hid (IHolds wr w.heap.size 9 (q.map Value.string)) := by
        have h := I.out
        rw [e, half_full HQ.out] at h
        exact h
      rw [e] at A
      clear e
      go_wp2_with fail
      go_ret
      exact ⟨rfl, I5.out, A.out, K.out⟩
set_option maxHeartbeats 1000000 in
theorem nonces44 {w0 w : World} {z : Int} {tb : Nat} {s : ByteArray} {a : Option Addr} {l : List Cl} {c S M : Nat} (hl : l.length ≤ 64) (hC : CM w0 a l) (h : TW w0.heap.size w0 w tb s)
    (C : ∀ i V, TW w0.heap.size w0 V tb (nonS i s) → Calls Tryz.prog 48 #[.agg #[.int .i64 z], .pointer (some ⟨tb, 0, none⟩), .string nonB] V fun e w' => e = .returned (.string (TX S (askN nonB (nonS i s) M))) ∧ TW w0.heap.size w0 w' tb (nonS (i + 1) s) ∧ F.But tb V w') :
    Calls Tryz.prog 44 #[.agg #[.int .i64 z, .slice a l.length c], .pointer (some ⟨tb, 0, none⟩)] w fun e w' => (∃ b, e = .returned (.slice (some ⟨b, 0, none⟩) l.length l.length) ∧ w.heap.size ≤ b ∧ IHolds w' b 9 ((nonL S M l.length s).map Value.string)) ∧ TW w0.heap.size w0 w' tb (nonS l.length s) ∧ F.But tb w w' := by
  have hmf := hmfun
  obtain ⟨U, hU⟩ : ∃ U, U = (w.alloc (.cells #[.int .i64 z, .slice a l.length c] 53)).alloc (.cells #[.pointer (some ⟨tb, 0, none⟩)] 90) := ⟨_, rfl⟩
  have BU : Hid (Below w.heap.size w U) := by rw [hU]; exact ((Below.refl _ _).alloc (Nat.le_refl _) _).alloc (by simp) _
  have I1 : Hid (IHolds U w.heap.size 53 [.int .i64 z, .slice a l.length c]) := by rw [hU]; exact (IHolds.new w 53 [_, _]).alloc _
  have I2 : Hid (IHolds U (w.heap.size + 1) 90 [.pointer (some ⟨tb, 0, none⟩)]) := by rw [hU]; exact IHolds.new' _ 90 [_] (by simp)
  have lt : tb < w.heap.size := h.at_.t.lt
  have H : Hid (Calls Tryz.prog 80 #[.slice a l.length c, .func (.func 81) #[] #[.pointer (some ⟨w.heap.size, 0, none⟩), .pointer (some ⟨w.heap.size + 1, 0, none⟩)]] U fun e w' => e = .returned (.slice (some ⟨U.heap.size, 0, none⟩) l.length l.length) ∧ IHolds w' U.heap.size 9 ((nonL S M l.length s).map Value.string) ∧ TW w0.heap.size w0 w' tb (nonS l.length s) ∧ F.But tb U w') :=
    each80_81 hl hC (h.below BU.out) (I1.out.cell 0 (by simp)) (I2.out.cell 0 (by simp)) (by omega) (by omega) C
  have c1 := I1.out.cell 1 (by simp)
  clear hC h C
  generalize (nonL S M l.length s).map Value.string = X at *
  go_enter Tryz.func44, Tryz.ntmps44
  go_upto_region 1 with fail
  rw [← hU]
  clear hU
  go_wp2_with (go_at_call 80; refine (H.out).mono ?_; rintro e V1 ⟨rfl, hI, hA, hB⟩; have J1 : Hid (IHolds V1 U.heap.size 9 X) := hI; have A1 : Hid (TW w0.heap.size w0 V1 tb (nonS l.length s)) := hA; have K1 : Hid (F.But tb w V1) := ((F.But.refl tb w).of_below BU.out).trans hB; clear hI hA hB H)
  go_ret
  exact ⟨⟨_, rfl, BU.out.size, J1.out⟩, A1.out, K1.out⟩
theorem plus93 {w : World} {z y : Int} {s t r : ByteArray} (h : ∀ W, Calls Tryz.prog 123 #[.int .i64 z, .string s, .string t] W fun e w' => e = .returned (.tuple #[.string r, .int .i64 y]) ∧ Below W.heap.size W w') :
    Calls Tryz.prog 93 #[.agg #[.int .i64 z], .string s, .string t] w fun e w' => e = .returned (.string r) ∧ Below w.heap.size w w' := by
  have B : Hid (Below w.heap.size w (w.alloc (.cells #[.int .i64 z] 51))) := (Below.refl _ _).alloc (Nat.le_refl _) _
  have H : Hid (∀ W, Calls Tryz.prog 123 #[.int .i64 z, .string s, .string t] W fun e w' => e = .returned (.tuple #[.string r, .int .i64 y]) ∧ Below W.heap.size W w') := h
  clear h
  go_enter Tryz.func93, Tryz.ntmps93
  go_wp2_with (go_at_call 123; refine (H.out _).mono ?_; rintro e w1 ⟨rfl, hB1⟩; have B1 : Hid (Below w.heap.size w w1) := B.out.trans (hB1.mono B.out.size); clear hB1)
  go_ret
  exact ⟨rfl, B1.out⟩
theorem times94 {w : World} {z y : Int} {s t r : ByteArray} (h : ∀ W, Calls Tryz.prog 124 #[.int .i64 z, .string s, .string t] W fun e w' => e = .returned (.tuple #[.string r, .int .i64 y]) ∧ Below W.heap.size W w') :
    Calls Tryz.prog 94 #[.agg #[.int .i64 z], .string s, .string t] w fun e w' => e = .returned (.string r) ∧ Below w.heap.size w w' := by
  have B : Hid (Below w.heap.size w (w.alloc (.cells #[.int .i64 z] 51))) := (Below.refl _ _).alloc (Nat.le_refl _) _
  have H : Hid (∀ W, Calls Tryz.prog 124 #[.int .i64 z, .string s, .string t] W fun e w' => e = .returned (.tuple #[.string r, .int .i64 y]) ∧ Below W.heap.size W w') := h
  clear h
  go_enter Tryz.func94, Tryz.ntmps94
  go_wp2_with (go_at_call 124; refine (H.out _).mono ?_; rintro e w1 ⟨rfl, hB1⟩; have B1 : Hid (Below w.heap.size w w1) := B.out.trans (hB1.mono B.out.size); clear hB1)
  go_ret
  exact ⟨rfl, B1.out⟩
set_option maxHeartbeats 1000000 in
theorem clos92 {w : World} {z : Int} {g p : Nat} {x y t m r : ByteArray} (hg : w.cell? ⟨g, 0, none⟩ = some (.int .i64 z)) (hp : w.cell? ⟨p, 0, none⟩ = some (.string t))
    (C1 : ∀ W, Calls Tryz.prog 94 #[.agg #[.int .i64 z], .string t, .string y] W fun e w' => e = .returned (.string m) ∧ Below W.heap.size W w') (C2 : ∀ W, Calls Tryz.prog 93 #[.agg #[.int .i64 z], .string x, .string m] W fun e w' => e = .returned (.string r) ∧ Below W.heap.size W w') :
    Calls Tryz.prog 92 #[.string x, .string y, .pointer (some ⟨g, 0, none⟩), .pointer (some ⟨p, 0, none⟩)] w fun e w' => e = .returned (.string r) ∧ Below w.heap.size w w' := by
  have H1 : Hid (∀ W, Calls Tryz.prog 94 #[.agg #[.int .i64 z], .string t, .string y] W fun e w' => e = .returned (.string m) ∧ Below W.heap.size W w') := C1
  have H2 : Hid (∀ W, Calls Tryz.prog 93 #[.agg #[.int .i64 z], .string x, .string m] W fun e w' => e = .returned (.string r) ∧ Below W.heap.size W w') := C2
  have KS : Hid (∀ V, Below w.heap.size w V → V.cell? ⟨g, 0, none⟩ = some (.int .i64 z) ∧ V.cell? ⟨p, 0, none⟩ = some (.string t)) := fun V hV => ⟨cell_keep hg hV, cell_keep hp hV⟩
  clear C1 C2 hg hp
  go_enter Tryz.func92, Tryz.ntmps92
  go_wp2_with fail
  go_region_held3 (fun V => V.cell? ⟨g, 0, none⟩ = some (.int .i64 z) ∧ V.cell? ⟨p, 0, none⟩ = some (.string t))
    (first | exact KS.out _ (Below.refl _ w).drew | exact KS.out _ B1.out | exact KS.out _ B2.out | assumption | fail)
    (first
      | (go_at_call 94; refine (H1.out _).mono ?_; rintro e V1 ⟨rfl, hB⟩; have B1 : Hid (Below w.heap.size w V1) := ((Below.refl _ w).drew).trans hB; clear hB H1)
      | (go_at_call 93; refine (H2.out _).mono ?_; rintro e V2 ⟨rfl, hB⟩; have B2 : Hid (Below w.heap.size w V2) := B1.out.trans (hB.mono B1.out.size); clear hB H2)
      | fail)
  go_wp2_with fail
  go_ret
  exact ⟨rfl, B2.out⟩
end Go.Proofs.YtmpiipcllgjhdaaGreatDoor
