/- Sums of scalars. Challenges, nonces, answers. Answers; a proof is made. -/
import Derived.Test.YtmpiipcllgjhdaaGreatDoorY17
import Derived.Test.YtmpiipcllgjhdaaGreatDoorY18
set_option linter.unusedSimpArgs false
set_option linter.unusedVariables false
set_option maxRecDepth 100000
namespace Go.Proofs.YtmpiipcllgjhdaaGreatDoor
open Go.RowKit Go.Deep Go.PlainAid

set_option maxRecDepth 100000 in
set_option maxHeartbeats 2000000 in
theorem clos91_70 {w : World} {g r1 : Nat} {t : ByteArray} {x0 x1 x2 x3 m0 m1 m2 m3 v0 v1 v2 v3 : Nat} (Jh : Hid (IHolds w r1 181 [.func (.func 141) #[] #[]]))
    (C1 : Hid (∀ W, Below w.heap.size w W → Calls Tryz.prog 141 #[.pointer (some ⟨g, 1, none⟩), .agg #[U x0, U x1, U x2, U x3], .agg #[U m0, U m1, U m2, U m3]] W fun e w' => e = .returned (.agg #[U v0, U v1, U v2, U v3]) ∧ Below W.heap.size W w')) (C2 : Hid (∀ W, Below w.heap.size w W → Calls Tryz.prog 65 #[.pointer (some ⟨g, 0, none⟩), .agg #[U v0, U v1, U v2, U v3]] W fun e w' => e = .returned (.tuple #[.string t, .int .i64 0]) ∧ Below W.heap.size W w')) :
    Calls Tryz.prog 148 #[.pointer (some ⟨g, 0, none⟩), .agg #[U x0, U x1, U x2, U x3], .agg #[U m0, U m1, U m2, U m3], .pointer (some ⟨r1, 0, none⟩)] w fun e w' => e = .returned (.tuple #[.string t, .int .i64 0]) ∧ Below w.heap.size w w' := by
  have hh0 := Jh.out.lt
  go_enter Tryz.func148, Tryz.ntmps148
  go_wp2_with fail
  obtain ⟨U1, hU1⟩ : ∃ X, X = ((w.alloc (.cells #[U x0, U x1, U x2, U x3] 73)).alloc (.cells #[U m0, U m1, U m2, U m3] 73)) := ⟨_, rfl⟩
  have Jx : Hid (IHolds U1 (w.heap.size) 73 [U x0, U x1, U x2, U x3]) := by
    have q := IHolds.new w 73 [U x0, U x1, U x2, U x3]
    show IHolds _ _ _ _
    rw [hU1]
    exact (q.alloc _)
  have Jm : Hid (IHolds U1 (w.heap.size + 1) 73 [U m0, U m1, U m2, U m3]) := by
    have q := IHolds.new (w.alloc (.cells #[U x0, U x1, U x2, U x3] 73)) 73 [U m0, U m1, U m2, U m3]
    simp only [World.size_alloc, Nat.add_assoc, Nat.reduceAdd] at q
    show IHolds _ _ _ _
    rw [hU1]
    exact q
  have B : Hid (Below w.heap.size w U1) := by
    show Below _ _ _
    rw [hU1]
    exact (((Below.refl _ w).alloc (Nat.le_refl _) _).alloc (by simp only [World.size_alloc]; omega) _)
  rw [← hU1]
  clear hU1
  replace Jh := aJ Jh B.out
  have hb := dB U1
  replace B := aB B hb
  replace Jh := aJ Jh hb
  replace Jx := aJ Jx hb
  replace Jm := aJ Jm hb
  clear hb
  refine wp_region_held_drew (S := fun W => (IHolds W (r1) 181 [(.func (.func 141) #[] #[])]) ∧ (IHolds W (w.heap.size) 73 [U x0, U x1, U x2, U x3]) ∧ (IHolds W (w.heap.size + 1) 73 [U m0, U m1, U m2, U m3])) (by kernel_rfl) ⟨Jh.out, Jx.out, Jm.out⟩ (fun hHeld1 => ?_)
  generalize U1.drew = U2 at *
  refine tk (i := 0) (v := .pointer (some ⟨g, 0, none⟩)) rfl (by kernel_rfl) (fun _ _ _ h => h) rfl ?_ hHeld1 ?_
  · intro W hS; go_simp
  simp only [Act.put, y1, y2, y3, y4, y5, y6, y7]
  refine tk (i := 1) (v := (.func (.func 141) #[] #[])) rfl (by kernel_rfl) (fun _ _ _ h => h) rfl ?_ hHeld1 ?_
  · intro W hS; have zh_0 : W.cell? ⟨r1, 0, none⟩ = some ((.func (.func 141) #[] #[])) := IHolds.cell (l := [(.func (.func 141) #[] #[])]) (t := 181) (b := r1) (w := W) (hS.1) 0 (by simp); go_simp
  simp only [Act.put, y1, y2, y3, y4, y5, y6, y7]
  refine tk (i := 2) (v := .pointer (some ⟨g, 0, none⟩)) rfl (by kernel_rfl) (fun _ _ _ h => h) rfl ?_ hHeld1 ?_
  · intro W hS; go_simp
  simp only [Act.put, y1, y2, y3, y4, y5, y6, y7]
  refine tk (i := 5) (v := .agg #[U x0, U x1, U x2, U x3]) rfl (by kernel_rfl) (fun _ _ _ h => h) rfl ?_ hHeld1 ?_
  · intro W hS; have zx_0 : W.cell? ⟨w.heap.size, 0, none⟩ = some (U x0) := IHolds.cell (l := [U x0, U x1, U x2, U x3]) (t := 73) (b := w.heap.size) (w := W) (hS.2.1) 0 (by simp); have zx_1 : W.cell? ⟨w.heap.size, 1, none⟩ = some (U x1) := IHolds.cell (l := [U x0, U x1, U x2, U x3]) (t := 73) (b := w.heap.size) (w := W) (hS.2.1) 1 (by simp); have zx_2 : W.cell? ⟨w.heap.size, 2, none⟩ = some (U x2) := IHolds.cell (l := [U x0, U x1, U x2, U x3]) (t := 73) (b := w.heap.size) (w := W) (hS.2.1) 2 (by simp); have zx_3 : W.cell? ⟨w.heap.size, 3, none⟩ = some (U x3) := IHolds.cell (l := [U x0, U x1, U x2, U x3]) (t := 73) (b := w.heap.size) (w := W) (hS.2.1) 3 (by simp); go_simp
  simp only [Act.put, y1, y2, y3, y4, y5, y6, y7]
  refine tk (i := 6) (v := .agg #[U m0, U m1, U m2, U m3]) rfl (by kernel_rfl) (fun _ _ _ h => h) rfl ?_ hHeld1 ?_
  · intro W hS; have zm_0 : W.cell? ⟨w.heap.size + 1, 0, none⟩ = some (U m0) := IHolds.cell (l := [U m0, U m1, U m2, U m3]) (t := 73) (b := w.heap.size + 1) (w := W) (hS.2.2) 0 (by simp); have zm_1 : W.cell? ⟨w.heap.size + 1, 1, none⟩ = some (U m1) := IHolds.cell (l := [U m0, U m1, U m2, U m3]) (t := 73) (b := w.heap.size + 1) (w := W) (hS.2.2) 1 (by simp); have zm_2 : W.cell? ⟨w.heap.size + 1, 2, none⟩ = some (U m2) := IHolds.cell (l := [U m0, U m1, U m2, U m3]) (t := 73) (b := w.heap.size + 1) (w := W) (hS.2.2) 2 (by simp); have zm_3 : W.cell? ⟨w.heap.size + 1, 3, none⟩ = some (U m3) := IHolds.cell (l := [U m0, U m1, U m2, U m3]) (t := 73) (b := w.heap.size + 1) (w := W) (hS.2.2) 3 (by simp); go_simp
  simp only [Act.put, y1, y2, y3, y4, y5, y6, y7]
  refine tk (i := 3) (v := .pointer (some ⟨g, 0, none⟩)) rfl (by kernel_rfl) (fun _ _ _ h => h) rfl ?_ hHeld1 ?_
  · intro W hS; go_simp
  simp only [Act.put, y1, y2, y3, y4, y5, y6, y7]
  refine tk (i := 4) (v := .pointer (some ⟨g, 1, none⟩)) rfl (by kernel_rfl) (fun _ _ _ h => h) rfl ?_ hHeld1 ?_
  · intro W hS; go_simp
  simp only [Act.put, y1, y2, y3, y4, y5, y6, y7]
  refine wpAnyH_ready (rs := [7]) (by kernel_rfl) (by simp) ?_
  refine AllReadyH.cons rfl (fun K hK => ?_) AllReadyH.nil
  clear hHeld1
  go_simp
  refine (C1.out U2 B.out).mono ?_
  rintro e U3 ⟨rfl, hb⟩
  replace B := aB B hb
  replace Jh := aJ Jh hb
  replace Jx := aJ Jx hb
  replace Jm := aJ Jm hb
  clear hb
  go_wp2_with fail
  refine hK.out _ _ (⟨Jh.out, Jx.out, Jm.out⟩) (fun hHeld2 => ?_)
  clear hK K
  try simp only [Act.put, y1, y2, y3, y4, y5, y6, y7]
  refine wpAnyH_ready (rs := [8]) (by kernel_rfl) (by simp) ?_
  refine AllReadyH.cons rfl (fun K hK => ?_) AllReadyH.nil
  clear hHeld2
  go_simp
  refine (C2.out U3 B.out).mono ?_
  rintro e U4 ⟨rfl, hb⟩
  replace B := aB B hb
  replace Jh := aJ Jh hb
  replace Jx := aJ Jx hb
  replace Jm := aJ Jm hb
  clear hb
  go_wp2_with fail
  refine hK.out _ _ (⟨Jh.out, Jx.out, Jm.out⟩) (fun hHeld3 => ?_)
  clear hK K
  try simp only [Act.put, y1, y2, y3, y4, y5, y6, y7]
  refine tk (i := 9) (v := (.string t)) rfl (by kernel_rfl) (fun _ _ _ h => h) rfl ?_ hHeld3 ?_
  · intro W hS; go_simp
  simp only [Act.put, y1, y2, y3, y4, y5, y6, y7]
  refine tk (i := 10) (v := (.int .i64 0)) rfl (by kernel_rfl) (fun _ _ _ h => h) rfl ?_ hHeld3 ?_
  · intro W hS; go_simp
  simp only [Act.put, y1, y2, y3, y4, y5, y6, y7]
  refine tk (i := 11) (v := (.string t)) rfl (by kernel_rfl) (fun _ _ _ h => h) rfl ?_ hHeld3 ?_
  · intro W hS; go_simp
  simp only [Act.put, y1, y2, y3, y4, y5, y6, y7]
  refine tk (i := 12) (v := (.int .i64 0)) rfl (by kernel_rfl) (fun _ _ _ h => h) rfl ?_ hHeld3 ?_
  · intro W hS; go_simp
  simp only [Act.put, y1, y2, y3, y4, y5, y6, y7]
  refine wpAnyH_done (by kernel_rfl) ?_ _
  clear hHeld3
  go_wp2_with fail
  go_ret2
  exact ⟨rfl, B.out⟩
set_option maxRecDepth 100000 in
set_option maxHeartbeats 2000000 in
theorem add_face {w : World} {z c : Int} {t : ByteArray} {a b : ByteArray}
    (C : Hid (Calls Tryz.prog 131 #[.int .i64 z, .string a, .string b, .func (.func 141) #[] #[]] w fun e w' => e = .returned (.tuple #[.string t, .int .i64 c]) ∧ Below w.heap.size w w')) :
    Calls Tryz.prog 123 #[.int .i64 z, .string a, .string b] w fun e w' => e = .returned (.tuple #[.string t, .int .i64 c]) ∧ Below w.heap.size w w' := by
  go_enter Tryz.func123, Tryz.ntmps123
  go_wp2_with fail
  refine C.out.mono ?_
  rintro e V1 ⟨rfl, hb⟩
  have B : Hid (Below w.heap.size w V1) := hb
  clear hb
  go_wp2_with fail
  go_ret2
  exact ⟨rfl, B.out⟩
section
variable {z : Int} {G : Array Value} {S Wd M low one sq Ri Wd2 M2 low2 one2 sq2 Ri2 : Nat}
theorem add_yes (k : KD z G S Wd M low one sq Ri Wd2 M2 low2 one2 sq2 Ri2) (w : World) {a b : ByteArray} (h : isSc S M a = true) (h' : isSc S M b = true) :
    Calls Tryz.prog 123 #[.int .i64 z, .string a, .string b] w fun e w' => e = .returned (.tuple #[.string ⟨(beB S ((numS a + numS b) % M)).toArray⟩, .int .i64 0]) ∧ Below w.heap.size w w' := by
  have ha := isSc_lt h
  have hb' := isSc_lt h'
  have hm := k.m2
  exact add_face (reckon_any (fun W r1 jr hb => withTwo_any (fun W2 q1 q2 q3 k1 k2 k3 hb2 => withOne_any (fun W3 p1 p2 p3 j1 j2 j3 hb3 => on48_88 k.hG k.hi k.h1 k.CG (fun W4 g hI hb4 =>
    clos88_59_96 (j1.of_below hb4) (j2.of_below hb4) (j3.of_below hb4) (fun W5 hb5 => scalar_yes k ((k.gh W4 g hI).of_below hb5) h)
      (fun W5 hb5 => clos96_59_91 (((k1.of_below hb3).of_below hb4).of_below hb5) (((k2.of_below hb3).of_below hb4).of_below hb5) (((k3.of_below hb3).of_below hb4).of_below hb5)
        (fun W6 hb6 => scalar_yes k (((k.gh W4 g hI).of_below hb5).of_below hb6) h')
        (fun W6 hb6 => clos91_70 (((((jr.of_below hb2).of_below hb3).of_below hb4).of_below hb5).of_below hb6)
          (fun W7 hb7 => by have q := fplusA ((((k.gh W4 g hI).of_below hb5).of_below hb6).of_below hb7).fs ha hb' k.fl.big; rw [belowN_mod ha hb'] at q; exact q)
          (fun W7 hb7 => toldA ((((k.gh W4 g hI).of_below hb5).of_below hb6).of_below hb7).c k.hS (Nat.lt_trans (Nat.mod_lt _ (by omega)) k.big)))))))))
end
end Go.Proofs.YtmpiipcllgjhdaaGreatDoor
namespace Go.Proofs.YtmpiipcllgjhdaaGreatDoor
open Go.RowKit Go.Deep Go.PlainAid

/-- What a talk is behind a challenge; the challenge. -/
def ak (label s : ByteArray) : ByteArray := askS label (askS label s)
theorem ak_size (label s : ByteArray) : (ak label s).size = 32 := askS_size _ _
def nonB : ByteArray := ⟨#[110, 111, 110, 99, 101]⟩
def chaB : ByteArray := ⟨#[99, 104, 97, 108, 108, 101, 110, 103, 101]⟩
section
variable {z : Int} {G : Array Value} {S Wd M low one sq Ri Wd2 M2 low2 one2 sq2 Ri2 : Nat}
theorem CHL (k : KD z G S Wd M low one sq Ri Wd2 M2 low2 one2 sq2 Ri2) {label : ByteArray} (hl : label.size < 1125899906842624) (W : World) (tb : Nat) (s : ByteArray) (hs : s.size = 32) (h2 : 3 < tb) (h : TB W tb s) :
    Calls Tryz.prog 90 #[.int .i64 z, .pointer (some ⟨tb, 0, none⟩), .string label] W fun e w' => e = .returned (.tuple #[.string (TX S (askN label s M)), .int .i64 0]) ∧ TB w' tb (ak label s) ∧ F.But tb W w' :=
  challenge_kind k.hS k.fl k.hG k.hi k.h1 k.CG (fun W g hI => ⟨(k.gh W g hI).c, (k.gh W g hI).fs⟩) hl W tb s hs h2 h
end
set_option maxHeartbeats 1000000 in
theorem challenge48 {w : World} {z : Int} {tb : Nat} {s s2 label r : ByteArray} (h : TB w tb s) (C : ∀ V, TB V tb s → Calls Tryz.prog 90 #[.int .i64 z, .pointer (some ⟨tb, 0, none⟩), .string label] V fun e w' => e = .returned (.tuple #[.string r, .int .i64 0]) ∧ TB w' tb s2 ∧ F.But tb V w') :
    Calls Tryz.prog 48 #[.agg #[.int .i64 z], .pointer (some ⟨tb, 0, none⟩), .string label] w fun e w' => e = .returned (.string r) ∧ TB w' tb s2 ∧ F.But tb w w' := by
  obtain ⟨U, hU⟩ : ∃ U, U = w.alloc (.cells #[.int .i64 z] 51) := ⟨_, rfl⟩
  have BU : Hid (Below w.heap.size w U) := by rw [hU]; exact (Below.refl _ _).alloc (Nat.le_refl _) _
  have HC : Hid (Calls Tryz.prog 90 #[.int .i64 z, .pointer (some ⟨tb, 0, none⟩), .string label] U fun e w' => e = .returned (.tuple #[.string r, .int .i64 0]) ∧ TB w' tb s2 ∧ F.But tb U w') := C U (h.below BU.out)
  clear C h
  go_enter Tryz.func48, Tryz.ntmps48
  go_wp2_with (go_at_call 90; rw [← hU]; refine (HC.out).mono ?_; rintro e V1 ⟨rfl, hA, hB⟩; have A1 : Hid (TB V1 tb s2) := hA; have K1 : Hid (F.But tb w V1) := ((F.But.refl tb w).of_below BU.out).trans hB; clear hA hB HC)
  go_ret
  exact ⟨rfl, A1.out, K1.out⟩
section
variable {z : Int} {G : Array Value} {S Wd M low one sq Ri Wd2 M2 low2 one2 sq2 Ri2 : Nat}
theorem CHA (k : KD z G S Wd M low one sq Ri Wd2 M2 low2 one2 sq2 Ri2) {n : Nat} {w0 w : World} {tb : Nat} {s label : ByteArray} (h : TW n w0 w tb s) (h3 : 3 < n) (hl : label.size < 1125899906842624) :
    Calls Tryz.prog 48 #[.agg #[.int .i64 z], .pointer (some ⟨tb, 0, none⟩), .string label] w fun e w' => e = .returned (.string (TX S (askN label s M))) ∧ TW n w0 w' tb (ak label s) ∧ F.But tb w w' :=
  (challenge48 h.at_ (fun V hV => CHL k hl V tb s h.sz (by have := h.le; omega) hV)).mono fun e w' ⟨h1, h2, h4⟩ => ⟨h1, ⟨h2, h.bl.trans (But.low h4 h.le (by have := h.at_.t.lt; have := h.le; omega)), h.le, ak_size _ _⟩, h4⟩
end
/-- States of a talk that is asked for nonces, and the nonces. -/
def nonS : Nat → ByteArray → ByteArray
  | 0, s => s
  | i + 1, s => ak nonB (nonS i s)
theorem nonS_size {s : ByteArray} (h : s.size = 32) : ∀ i, (nonS i s).size = 32
  | 0 => h
  | i + 1 => ak_size _ _
def nonL (S M n : Nat) (s : ByteArray) : List ByteArray := (List.range n).map fun i => TX S (askN nonB (nonS i s) M)
theorem nonL_len (S M n : Nat) (s : ByteArray) : (nonL S M n s).length = n := by simp [nonL]
theorem nonL_at (S M n : Nat) (s : ByteArray) (i : Nat) (h : i < (nonL S M n s).length) : (nonL S M n s)[i] = TX S (askN nonB (nonS i s) M) := by simp [nonL]
set_option maxHeartbeats 1000000 in
theorem clos81 {n : Nat} {w0 w : World} {z : Int} {g p tb : Nat} {s s2 r : ByteArray} {a1 a2 : Option Addr} {n1 c1 n2 c2 : Nat} (h : TW n w0 w tb s) (hg : w.cell? ⟨g, 0, none⟩ = some (.int .i64 z)) (hp : w.cell? ⟨p, 0, none⟩ = some (.pointer (some ⟨tb, 0, none⟩)))
    (C : ∀ V, TW n w0 V tb s → Calls Tryz.prog 48 #[.agg #[.int .i64 z], .pointer (some ⟨tb, 0, none⟩), .string nonB] V fun e w' => e = .returned (.string r) ∧ TW n w0 w' tb s2 ∧ F.But tb V w') :
    Calls Tryz.prog 81 #[.agg #[.slice a1 n1 c1, .slice a2 n2 c2], .pointer (some ⟨g, 0, none⟩), .pointer (some ⟨p, 0, none⟩)] w fun e w' => e = .returned (.string r) ∧ TW n w0 w' tb s2 ∧ F.But tb w w' := by
  obtain ⟨U, hU⟩ : ∃ U, U = w.alloc (.cells #[.slice a1 n1 c1, .slice a2 n2 c2] 36) := ⟨_, rfl⟩
  have BU : Hid (Below w.heap.size w U) := by rw [hU]; exact (Below.refl _ _).alloc (Nat.le_refl _) _
  have HC : Hid (Calls Tryz.prog 48 #[.agg #[.int .i64 z], .pointer (some ⟨tb, 0, none⟩), .string nonB] U fun e w' => e = .returned (.string r) ∧ TW n w0 w' tb s2 ∧ F.But tb U w') := C U (h.below BU.out)
  have g1 := cell_keep hg BU.out
  have p1 := cell_keep hp BU.out
  clear C h hg hp
  go_enter Tryz.func81, Tryz.ntmps81
  go_upto_region 1 with fail
  rw [← hU]
  clear hU
  go_wp2_with (go_at_call 48; refine (HC.out).mono ?_; rintro e V1 ⟨rfl, hA, hB⟩; have A1 : Hid (TW n w0 V1 tb s2) := hA; have K1 : Hid (F.But tb w V1) := ((F.But.refl tb w).of_below BU.out).trans hB; clear hA hB HC)
  go_ret
  exact ⟨rfl, A1.out, K1.out⟩
theorem make22s (n : Nat) (hn : n ≤ 8796093022207) (w : World) : (Instr.makeSlice 22 (.int .i64 (n : Int)) (.int .i64 (n : Int))).run Tryz.prog w = .ok (.slice (some ⟨w.heap.size, 0, none⟩) n n) (w.alloc (.cells (List.replicate n (Value.string ⟨#[]⟩)).toArray 9)) := make22 _ n rfl hn w
set_option maxHeartbeats 2000000 in
theorem each80_81 {w0 w : World} {z : Int} {g p tb : Nat} {s : ByteArray} {a : Option Addr} {l : List Cl} {c S M : Nat} (hl : l.length ≤ 64) (hC : CM w0 a l) (h : TW w0.heap.size w0 w tb s) (hg : w.cell? ⟨g, 0, none⟩ = some (.int .i64 z)) (hp : w.cell? ⟨p, 0, none⟩ = some (.pointer (some ⟨tb, 0, none⟩))) (ng : g ≠ tb) (np : p ≠ tb)
    (C : ∀ i V, TW w0.heap.size w0 V tb (nonS i s) → Calls Tryz.prog 48 #[.agg #[.int .i64 z], .pointer (some ⟨tb, 0, none⟩), .string nonB] V fun e w' => e = .returned (.string (TX S (askN nonB (nonS i s) M))) ∧ TW w0.heap.size w0 w' tb (nonS (i + 1) s) ∧ F.But tb V w') :
    Calls Tryz.prog 80 #[.slice a l.length c, .func (.func 81) #[] #[.pointer (some ⟨g, 0, none⟩), .pointer (some ⟨p, 0, none⟩)]] w fun e w' => e = .returned (.slice (some ⟨w.heap.size, 0, none⟩) l.length l.length) ∧ IHolds w' w.heap.size 9 ((nonL S M l.length s).map Value.string) ∧ TW w0.heap.size w0 w' tb (nonS l.length s) ∧ F.But tb w w' := by
  have HC : Hid (CM w0 a l) := hC
  have HQ : Hid ((nonL S M l.length s).length = l.length) := nonL_len _ _ _ _
  have HA : Hid (∀ i (h : i < (nonL S M l.length s).length), (nonL S M l.length s)[i] = TX S (askN nonB (nonS i s) M)) := nonL_at S M l.length s
  have hmk := make22s l.length (by omega) w
  have JI : Hid (IHolds (w.alloc (.cells (List.replicate l.length (Value.string ⟨#[]⟩)).toArray 9)) w.heap.size 9 (half (nonL S M l.length s) l.length 0)) := by rw [half_zero]; exact IHolds.new _ _ _
  have JB : Hid (Below w.heap.size w (w.alloc (.cells (List.replicate l.length (Value.string ⟨#[]⟩)).toArray 9))) := (Below.refl _ w).alloc (Nat.le_refl _) _
  have HT : Hid (TW w0.heap.size w0 w tb s) := h
  have lt : tb < w.heap.size := h.at_.t.lt
  have t3 : 3 < w.heap.size := h.at_.T.size
  have GG : Hid (∀ V, F.But tb w V → V.cell? ⟨g, 0, none⟩ = some (.int .i64 z) ∧ V.cell? ⟨p, 0, none⟩ = some (.pointer (some ⟨tb, 0, none⟩))) := fun V hV => ⟨(hV.cell (cell_lt hg) ng 0).trans hg, (hV.cell (cell_lt hp) np 0).trans hp⟩
  have HCC : Hid (∀ i V, TW w0.heap.size w0 V tb (nonS i s) → Calls Tryz.prog 48 #[.agg #[.int .i64 z], .pointer (some ⟨tb, 0, none⟩), .string nonB] V fun e w' => e = .returned (.string (TX S (askN nonB (nonS i s) M))) ∧ TW w0.heap.size w0 w' tb (nonS (i + 1) s) ∧ F.But tb V w') := C
  generalize nonL S M l.length s = q at *
  clear hC h hg hp C
  go_enter Tryz.func80, Tryz.ntmps80
  generalize w.alloc (.cells (List.replicate l.length (Value.string ⟨#[]⟩)).toArray 9) = U at *
  go_wp2_with fail
  go_loopg [6, 7, 13] l.length (fun gk v6 v7 v13 wr => ∃ i : Nat, i + gk = l.length ∧ v13 = .int .i64 (i : Int) ∧ TW w0.heap.size w0 wr tb (nonS i s) ∧ F.But tb w wr ∧ IHolds wr w.heap.size 9 (half q l.length i))
  case atStart => exact ⟨0, by omega, rfl, HT.out.below JB.out, (F.But.refl tb w).of_below JB.out, JI.out⟩
  case round =>
    obtain ⟨i, hig, rfl, hT, hK, hI⟩ := hrel
    have A : Hid (TW w0.heap.size w0 wr tb (nonS i s)) := hT
    have K : Hid (F.But tb w wr) := hK
    have I : Hid (IHolds wr w.heap.size 9 (half q l.length i)) := hI
    clear hT hK hI JI JB HT hmk
    by_cases hi : i < l.length
    · have hi3 : i < q.length := by have := HQ.out; omega
      have il : (i : Int) < (l.length : Int) := by omega
      obtain ⟨b1, o1, a1, c1, a2, c2, rfl, h1, h2, _, _⟩ := HC.out.of_below A.out.bl i hi
      obtain ⟨W1, hW1⟩ : ∃ W1, W1 = wr.alloc (.cells #[.slice a1 (l[i]).1.length c1, .slice a2 (l[i]).2.length c2] 36) := ⟨_, rfl⟩
      have BW : Hid (Below wr.heap.size wr W1) := by rw [hW1]; exact (Below.refl _ _).alloc (Nat.le_refl _) _
      have IW : Hid (IHolds W1 wr.heap.size 36 [.slice a1 (l[i]).1.length c1, .slice a2 (l[i]).2.length c2]) := by rw [hW1]; exact IHolds.new _ _ _
      have K1 : Hid (F.But tb w W1) := K.out.of_below BW.out
      have hcall : Hid (Calls Tryz.prog 81 #[.agg #[.slice a1 (l[i]).1.length c1, .slice a2 (l[i]).2.length c2], .pointer (some ⟨g, 0, none⟩), .pointer (some ⟨p, 0, none⟩)] W1 fun e w' => e = .returned (.string (TX S (askN nonB (nonS i s) M))) ∧ TW w0.heap.size w0 w' tb (nonS (i + 1) s) ∧ F.But tb W1 w') := clos81 (a1 := a1) (n1 := (l[i]).1.length) (c1 := c1) (a2 := a2) (n2 := (l[i]).2.length) (c2 := c2) (A.out.below BW.out) (GG.out W1 K1.out).1 (GG.out W1 K1.out).2 (HCC.out i)
      have I1 : Hid (IHolds W1 w.heap.size 9 (half q l.length i)) := I.out.of_below BW.out
      have HH : Hid _ := half_set HQ.out hi hi3
      rw [HA.out i hi3] at HH
      have HL : Hid ((half q l.length i).length = l.length) := half_length HQ.out (by omega)
      have e0 := IW.out.cell 0 (by simp)
      have e1 := IW.out.cell 1 (by simp)
      generalize (l[i]).1.length = m1 at *
      generalize (l[i]).2.length = m2 at *
      generalize TX S (askN nonB (nonS i s) M) = r at *
      have nw : w.heap.size ≠ tb := by omega
      clear A K I
      go_upto_region 5 with fail
      rw [← hW1]
      clear hW1 h1 h2
      go_wp2_with (go_at_call 81; refine (hcall.out).mono ?_; rintro e w3 ⟨rfl, hA3, hB3⟩; have A3 : Hid (TW w0.heap.size w0 w3 tb (nonS (i + 1) s)) := hA3; have K3 : Hid (F.But tb w w3) := K1.out.trans hB3; have I3 : Hid (IHolds w3 w.heap.size 9 (half q l.length i)) := I1.out.offB hB3 nw; have f3 : w3.frozen? ⟨w.heap.size, i, none⟩ = false := I3.out.frozen i; have g3 := I3.out.cell i (by have := HL.out; omega); clear hA3 hB3 hcall)
      have I4 : Hid (IHolds (w3.setCell ⟨w.heap.size, i, none⟩ (.string r)) w.heap.size 9 (half q l.length (i + 1))) := by
        have := I3.out.set i (.string r)
        rw [HH.out] at this
        exact this
      have K4 : Hid (F.But tb w (w3.setCell ⟨w.heap.size, i, none⟩ (.string r))) := K3.out.setNew (p := ⟨w.heap.size, i, none⟩) (Nat.le_refl _) _
      have A4 : Hid (TW w0.heap.size w0 (w3.setCell ⟨w.heap.size, i, none⟩ (.string r)) tb (nonS (i + 1) s)) := by
        have hle := A3.out.le
        have h4 := (F.But.refl w.heap.size w3).setCell i (.string r)
        exact ⟨⟨A3.out.at_.t.of_but h4 (by omega), A3.out.at_.T.of_but h4 (by have := A3.out.at_.T.size; have := A3.out.le; omega), A3.out.at_.S.of_but h4 (by have := A3.out.le; omega) A3.out.at_.T.size⟩, A3.out.bl.setCell (p := ⟨w.heap.size, i, none⟩) (by show _ ≤ w.heap.size; omega) _, hle, A3.out.sz⟩
      go_roundg (gk - 1)
      case measure => omega
      case rel => exact ⟨i + 1, by omega, by go_num, A4.out, K4.out, I4.out⟩
    · have il : ¬ (i : Int) < (l.length : Int) := by omega
      have e : i = l.length := by omega
      have I5 : Hid (IHolds wr w.heap.size 9 (q.map Value.string)) := by
        have h := I.out
        rw [e, half_full HQ.out] at h
        exact h
      rw [e] at A
      clear e
      go_wp2_with fail
      go_ret
      exact ⟨rfl, I5.out, A.out, K.out⟩
set_option maxHeartbeats 1000000 in
theorem nonces44 {w0 w : World} {z : Int} {tb : Nat} {s : ByteArray} {a : Option Addr} {l : List Cl} {c S M : Nat} (hl : l.length ≤ 64) (hC : CM w0 a l) (h : TW w0.heap.size w0 w tb s)
    (C : ∀ i V, TW w0.heap.size w0 V tb (nonS i s) → Calls Tryz.prog 48 #[.agg #[.int .i64 z], .pointer (some ⟨tb, 0, none⟩), .string nonB] V fun e w' => e = .returned (.string (TX S (askN nonB (nonS i s) M))) ∧ TW w0.heap.size w0 w' tb (nonS (i + 1) s) ∧ F.But tb V w') :
    Calls Tryz.prog 44 #[.agg #[.int .i64 z, .slice a l.length c], .pointer (some ⟨tb, 0, none⟩)] w fun e w' => (∃ b, e = .returned (.slice (some ⟨b, 0, none⟩) l.length l.length) ∧ w.heap.size ≤ b ∧ IHolds w' b 9 ((nonL S M l.length s).map Value.string)) ∧ TW w0.heap.size w0 w' tb (nonS l.length s) ∧ F.But tb w w' := by
  have hmf := hmfun
  obtain ⟨U, hU⟩ : ∃ U, U = (w.alloc (.cells #[.int .i64 z, .slice a l.length c] 53)).alloc (.cells #[.pointer (some ⟨tb, 0, none⟩)] 90) := ⟨_, rfl⟩
  have BU : Hid (Below w.heap.size w U) := by rw [hU]; exact ((Below.refl _ _).alloc (Nat.le_refl _) _).alloc (by simp) _
  have I1 : Hid (IHolds U w.heap.size 53 [.int .i64 z, .slice a l.length c]) := by rw [hU]; exact (IHolds.new w 53 [_, _]).alloc _
  have I2 : Hid (IHolds U (w.heap.size + 1) 90 [.pointer (some ⟨tb, 0, none⟩)]) := by rw [hU]; exact IHolds.new' _ 90 [_] (by simp)
  have lt : tb < w.heap.size := h.at_.t.lt
  have H : Hid (Calls Tryz.prog 80 #[.slice a l.length c, .func (.func 81) #[] #[.pointer (some ⟨w.heap.size, 0, none⟩), .pointer (some ⟨w.heap.size + 1, 0, none⟩)]] U fun e w' => e = .returned (.slice (some ⟨U.heap.size, 0, none⟩) l.length l.length) ∧ IHolds w' U.heap.size 9 ((nonL S M l.length s).map Value.string) ∧ TW w0.heap.size w0 w' tb (nonS l.length s) ∧ F.But tb U w') :=
    each80_81 hl hC (h.below BU.out) (I1.out.cell 0 (by simp)) (I2.out.cell 0 (by simp)) (by omega) (by omega) C
  have c1 := I1.out.cell 1 (by simp)
  clear hC h C
  generalize (nonL S M l.length s).map Value.string = X at *
  go_enter Tryz.func44, Tryz.ntmps44
  go_upto_region 1 with fail
  rw [← hU]
  clear hU
  go_wp2_with (go_at_call 80; refine (H.out).mono ?_; rintro e V1 ⟨rfl, hI, hA, hB⟩; have J1 : Hid (IHolds V1 U.heap.size 9 X) := hI; have A1 : Hid (TW w0.heap.size w0 V1 tb (nonS l.length s)) := hA; have K1 : Hid (F.But tb w V1) := ((F.But.refl tb w).of_below BU.out).trans hB; clear hI hA hB H)
  go_ret
  exact ⟨⟨_, rfl, BU.out.size, J1.out⟩, A1.out, K1.out⟩
theorem plus93 {w : World} {z y : Int} {s t r : ByteArray} (h : ∀ W, Calls Tryz.prog 123 #[.int .i64 z, .string s, .string t] W fun e w' => e = .returned (.tuple #[.string r, .int .i64 y]) ∧ Below W.heap.size W w') :
    Calls Tryz.prog 93 #[.agg #[.int .i64 z], .string s, .string t] w fun e w' => e = .returned (.string r) ∧ Below w.heap.size w w' := by
  have B : Hid (Below w.heap.size w (w.alloc (.cells #[.int .i64 z] 51))) := (Below.refl _ _).alloc (Nat.le_refl _) _
  have H : Hid (∀ W, Calls Tryz.prog 123 #[.int .i64 z, .string s, .string t] W fun e w' => e = .returned (.tuple #[.string r, .int .i64 y]) ∧ Below W.heap.size W w') := h
  clear h
  go_enter Tryz.func93, Tryz.ntmps93
  go_wp2_with (go_at_call 123; refine (H.out _).mono ?_; rintro e w1 ⟨rfl, hB1⟩; have B1 : Hid (Below w.heap.size w w1) := B.out.trans (hB1.mono B.out.size); clear hB1)
  go_ret
  exact ⟨rfl, B1.out⟩
theorem times94 {w : World} {z y : Int} {s t r : ByteArray} (h : ∀ W, Calls Tryz.prog 124 #[.int .i64 z, .string s, .string t] W fun e w' => e = .returned (.tuple #[.string r, .int .i64 y]) ∧ Below W.heap.size W w') :
    Calls Tryz.prog 94 #[.agg #[.int .i64 z], .string s, .string t] w fun e w' => e = .returned (.string r) ∧ Below w.heap.size w w' := by
  have B : Hid (Below w.heap.size w (w.alloc (.cells #[.int .i64 z] 51))) := (Below.refl _ _).alloc (Nat.le_refl _) _
  have H : Hid (∀ W, Calls Tryz.prog 124 #[.int .i64 z, .string s, .string t] W fun e w' => e = .returned (.tuple #[.string r, .int .i64 y]) ∧ Below W.heap.size W w') := h
  clear h
  go_enter Tryz.func94, Tryz.ntmps94
  go_wp2_with (go_at_call 124; refine (H.out _).mono ?_; rintro e w1 ⟨rfl, hB1⟩; have B1 : Hid (Below w.heap.size w w1) := B.out.trans (hB1.mono B.out.size); clear hB1)
  go_ret
  exact ⟨rfl, B1.out⟩
set_option maxHeartbeats 1000000 in
theorem clos92 {w : World} {z : Int} {g p : Nat} {x y t m r : ByteArray} (hg : w.cell? ⟨g, 0, none⟩ = some (.int .i64 z)) (hp : w.cell? ⟨p, 0, none⟩ = some (.string t))
    (C1 : ∀ W, Calls Tryz.prog 94 #[.agg #[.int .i64 z], .string t, .string y] W fun e w' => e = .returned (.string m) ∧ Below W.heap.size W w') (C2 : ∀ W, Calls Tryz.prog 93 #[.agg #[.int .i64 z], .string x, .string m] W fun e w' => e = .returned (.string r) ∧ Below W.heap.size W w') :
    Calls Tryz.prog 92 #[.string x, .string y, .pointer (some ⟨g, 0, none⟩), .pointer (some ⟨p, 0, none⟩)] w fun e w' => e = .returned (.string r) ∧ Below w.heap.size w w' := by
  have H1 : Hid (∀ W, Calls Tryz.prog 94 #[.agg #[.int .i64 z], .string t, .string y] W fun e w' => e = .returned (.string m) ∧ Below W.heap.size W w') := C1
  have H2 : Hid (∀ W, Calls Tryz.prog 93 #[.agg #[.int .i64 z], .string x, .string m] W fun e w' => e = .returned (.string r) ∧ Below W.heap.size W w') := C2
  have KS : Hid (∀ V, Below w.heap.size w V → V.cell? ⟨g, 0, none⟩ = some (.int .i64 z) ∧ V.cell? ⟨p, 0, none⟩ = some (.string t)) := fun V hV => ⟨cell_keep hg hV, cell_keep hp hV⟩
  clear C1 C2 hg hp
  go_enter Tryz.func92, Tryz.ntmps92
  go_wp2_with fail
  go_region_held3 (fun V => V.cell? ⟨g, 0, none⟩ = some (.int .i64 z) ∧ V.cell? ⟨p, 0, none⟩ = some (.string t))
    (first | exact KS.out _ (Below.refl _ w).drew | exact KS.out _ B1.out | exact KS.out _ B2.out | assumption | fail)
    (first
      | (go_at_call 94; refine (H1.out _).mono ?_; rintro e V1 ⟨rfl, hB⟩; have B1 : Hid (Below w.heap.size w V1) := ((Below.refl _ w).drew).trans hB; clear hB H1)
      | (go_at_call 93; refine (H2.out _).mono ?_; rintro e V2 ⟨rfl, hB⟩; have B2 : Hid (Below w.heap.size w V2) := B1.out.trans (hB.mono B1.out.size); clear hB H2)
      | fail)
  go_wp2_with fail
  go_ret
  exact ⟨rfl, B2.out⟩
end Go.Proofs.YtmpiipcllgjhdaaGreatDoor
namespace Go.Proofs.YtmpiipcllgjhdaaGreatDoor
open Go.RowKit Go.Deep Go.PlainAid

set_option maxHeartbeats 2000000 in
theorem both91_92 {w : World} {a b : Option Addr} {l m q : List ByteArray} {c d g p : Nat} (hn : l.length ≤ 8796093022207) (hml : m.length = l.length) (hql : q.length = l.length) (hs : SL w a l) (hm : SL w b m)
    (CF : ∀ i (h1 : i < l.length) (h2 : i < m.length) (h3 : i < q.length) W, Below w.heap.size w W → Calls Tryz.prog 92 #[.string l[i], .string m[i], .pointer (some ⟨g, 0, none⟩), .pointer (some ⟨p, 0, none⟩)] W fun e w' => e = .returned (.string q[i]) ∧ Below W.heap.size W w') :
    Calls Tryz.prog 91 #[.slice a l.length c, .slice b m.length d, .func (.func 92) #[] #[.pointer (some ⟨g, 0, none⟩), .pointer (some ⟨p, 0, none⟩)]] w fun e w' => (∃ a' c', e = .returned (.slice a' l.length c') ∧ SY w' a' c' q) ∧ Below w.heap.size w w' := by
  have HS : Hid (SL w a l) := hs
  have HM : Hid (SL w b m) := hm
  have HQ : Hid (q.length = l.length) := hql
  have hmk := make22 _ l.length rfl hn w
  have JI : Hid (IHolds (w.alloc (.cells (List.replicate l.length (Value.string ⟨#[]⟩)).toArray 9)) w.heap.size 9 (half q l.length 0)) := by rw [half_zero]; exact IHolds.new _ _ _
  have JB : Hid (Below w.heap.size w (w.alloc (.cells (List.replicate l.length (Value.string ⟨#[]⟩)).toArray 9))) := (Below.refl _ w).alloc (Nat.le_refl _) _
  rw [hml]
  clear hs hm hql
  go_enter Tryz.func91, Tryz.ntmps91
  generalize w.alloc (.cells (List.replicate l.length (Value.string ⟨#[]⟩)).toArray 9) = U at *
  go_wp2_with fail
  go_loopg [8, 9, 15] l.length (fun gk v8 v9 v15 wr => ∃ i : Nat, i + gk = l.length ∧ v15 = .int .i64 (i : Int) ∧ Below w.heap.size w wr ∧ IHolds wr w.heap.size 9 (half q l.length i))
  case atStart => exact ⟨0, by omega, rfl, JB.out, JI.out⟩
  case round =>
    obtain ⟨i, hig, rfl, hB, hI⟩ := hrel
    have B : Hid (Below w.heap.size w wr) := hB
    have I : Hid (IHolds wr w.heap.size 9 (half q l.length i)) := hI
    clear hB hI
    by_cases hi : i < l.length
    · have hi2 : i < m.length := by omega
      have hi3 : i < q.length := by have := HQ.out; omega
      have il : (i : Int) < (l.length : Int) := by omega
      obtain ⟨b1, o1, rfl, hc1⟩ := HS.out.of_below B.out i hi
      obtain ⟨b2, o2, rfl, hc2⟩ := HM.out.of_below B.out i hi2
      have hcall := CF i hi hi2 hi3 wr B.out
      have HH : Hid _ := half_set HQ.out hi hi3
      have HL : Hid ((half q l.length i).length = l.length) := half_length HQ.out (by omega)
      generalize l[i] = s at *
      generalize m[i] = t at *
      generalize q[i] = rr at *
      go_wp2_with (go_at_call 92; refine hcall.mono ?_; rintro e w3 ⟨rfl, hB3⟩; have B3 : Hid (Below w.heap.size w w3) := B.out.trans (hB3.mono B.out.size); have I3 : Hid (IHolds w3 w.heap.size 9 (half q l.length i)) := I.out.of_below hB3; have f3 : w3.frozen? ⟨w.heap.size, i, none⟩ = false := I3.out.frozen i; have g3 := I3.out.cell i (by have := HL.out; omega); clear hB3)
      have I4 : Hid (IHolds (w3.setCell ⟨w.heap.size, i, none⟩ (.string rr)) w.heap.size 9 (half q l.length (i + 1))) := by
        have := I3.out.set i (.string rr)
        rw [HH.out] at this
        exact this
      have B4 : Hid (Below w.heap.size w (w3.setCell ⟨w.heap.size, i, none⟩ (.string rr))) := Below.setCell B3.out (Nat.le_refl _) _
      go_roundg (gk - 1)
      case measure => omega
      case rel => exact ⟨i + 1, by omega, by go_num, B4.out, I4.out⟩
    · have il : ¬ (i : Int) < (l.length : Int) := by omega
      have e : i = l.length := by omega
      have I5 : Hid (SL wr (some ⟨w.heap.size, 0, none⟩) q) := by
        have h := I.out
        rw [e, half_full HQ.out] at h
        exact h.sl
      clear e
      go_wp2_with fail
      go_ret
      exact ⟨⟨_, _, rfl, ⟨⟨I5.out, by have := HQ.out; omega⟩, fun b o e => by cases e; exact ⟨_, _, I.out⟩⟩⟩, B.out⟩
set_option maxHeartbeats 1000000 in
theorem answers49 {w : World} {z : Int} {a a1 a2 : Option Addr} {n c c1 c2 : Nat} {ch : ByteArray} {l m q : List ByteArray} (hn : l.length ≤ 64) (hml : m.length = l.length) (hql : q.length = l.length) (hs : SL w a1 l) (hm : SL w a2 m)
    (C : ∀ i (h1 : i < l.length) (h2 : i < m.length) (h3 : i < q.length) W g p, W.cell? ⟨g, 0, none⟩ = some (.int .i64 z) → W.cell? ⟨p, 0, none⟩ = some (.string ch) → Calls Tryz.prog 92 #[.string l[i], .string m[i], .pointer (some ⟨g, 0, none⟩), .pointer (some ⟨p, 0, none⟩)] W fun e w' => e = .returned (.string q[i]) ∧ Below W.heap.size W w') :
    Calls Tryz.prog 49 #[.agg #[.int .i64 z, .slice a n c], .slice a1 l.length c1, .string ch, .slice a2 m.length c2] w fun e w' => (∃ a' c', e = .returned (.slice a' l.length c') ∧ SY w' a' c' q) ∧ Below w.heap.size w w' := by
  have hmf := hmfun
  obtain ⟨U, hU⟩ : ∃ U, U = (w.alloc (.cells #[.int .i64 z, .slice a n c] 53)).alloc (.cells #[.string ch] 9) := ⟨_, rfl⟩
  have BU : Hid (Below w.heap.size w U) := by rw [hU]; exact ((Below.refl _ _).alloc (Nat.le_refl _) _).alloc (by simp) _
  have I1 : Hid (IHolds U w.heap.size 53 [.int .i64 z, .slice a n c]) := by rw [hU]; exact (IHolds.new w 53 [_, _]).alloc _
  have I2 : Hid (IHolds U (w.heap.size + 1) 9 [.string ch]) := by rw [hU]; exact IHolds.new' _ 9 [_] (by simp)
  have H : Hid (Calls Tryz.prog 91 #[.slice a1 l.length c1, .slice a2 m.length c2, .func (.func 92) #[] #[.pointer (some ⟨w.heap.size, 0, none⟩), .pointer (some ⟨w.heap.size + 1, 0, none⟩)]] U fun e w' => (∃ a' c', e = .returned (.slice a' l.length c') ∧ SY w' a' c' q) ∧ Below U.heap.size U w') :=
    both91_92 (by omega) hml hql (hs.of_below BU.out) (hm.of_below BU.out) (fun i h1 h2 h3 W hW => C i h1 h2 h3 W _ _ (cell_keep (I1.out.cell 0 (by simp)) hW) (cell_keep (I2.out.cell 0 (by simp)) hW))
  clear hs hm C hql hml
  generalize m.length = mm at *
  generalize l.length = nn at *
  go_enter Tryz.func49, Tryz.ntmps49
  go_wp2_with (go_at_call 91; rw [← hU]; refine (H.out).mono ?_; rintro e V1 ⟨⟨a', c', rfl, hS⟩, hB⟩; have S1 : Hid (SY V1 a' c' q) := hS; have B1 : Hid (Below w.heap.size w V1) := BU.out.trans (hB.mono BU.out.size); clear hS hB H)
  go_ret
  exact ⟨⟨a', c', rfl, S1.out⟩, B1.out⟩
theorem SL.of_holds {w : World} {b : Nat} {q : List ByteArray} (h : IHolds w b 9 (q.map Value.string)) : SL w (some ⟨b, 0, none⟩) q := h.sl
theorem SY.far {w : World} {a : Option Addr} {c : Nat} {l : List ByteArray} {b : Nat} {T : TypeId} {V : List Value} (h : SY w a c l) (hI : IHolds w b T V) (hT : T ≠ 9) (i : Nat) (x : Value) : SY (w.setCell ⟨b, i, none⟩ x) a c l := by
  have ne : ∀ b' o, a = some ⟨b', o, none⟩ → b' ≠ b := fun b' o e e2 => by
    obtain ⟨cs, fz, q⟩ := h.ty b' o e
    subst e2
    unfold IHolds at hI
    rw [hI] at q
    cases q
    exact hT rfl
  refine ⟨⟨fun j hj => ?_, h.sk.le⟩, fun b' o e => ?_⟩
  · obtain ⟨b', o, e, hc⟩ := h.sk.sl j hj
    exact ⟨b', o, e, (World.cell?_of_block (a := ⟨b', o + j, none⟩) (Below.heap_setCell w ⟨b, i, none⟩ x b' (ne _ _ e))).trans hc⟩
  · obtain ⟨cs, fz, q⟩ := h.ty b' o e
    exact ⟨cs, fz, (Below.heap_setCell w ⟨b, i, none⟩ x b' (ne _ _ e)).trans q⟩
theorem size28 : (Tryz.prog.info? 28).map (·.size) = some 2 := by kernel_rfl
set_option maxHeartbeats 2000000 in
theorem prove20 {w : World} {z : Int} {a a2 : Option Addr} {l : List Cl} {c c2 S M : Nat} {label seed : ByteArray} {ms q : List ByteArray} {fs : List (List ByteArray)} (hT : TT w) (hlb : label.size < 1125899906842624) (hsd : seed.size < 1125899906842624) (hl : l.length ≤ 64) (hC : CK w a l) (hz : ∀ i (h : i < l.length), Zl (l[i]).1 ∧ Zl (l[i]).2) (hms : SL w a2 ms) (hml : ms.length = l.length)
    (hfl : fs.length = l.length) (hfz : ∀ i (h : i < fs.length), Zl fs[i]) (hql : q.length = l.length)
    {st : ByteArray} (hst : st = telS l (st0 z ⟨#[99, 108, 97, 105, 109, 115]⟩ label))
    (CC : ∀ n w0 W tb s lab, TW n w0 W tb s → 3 < n → lab.size < 1125899906842624 → Calls Tryz.prog 48 #[.agg #[.int .i64 z], .pointer (some ⟨tb, 0, none⟩), .string lab] W fun e w' => e = .returned (.string (TX S (askN lab s M))) ∧ TW n w0 w' tb (ak lab s) ∧ F.But tb W w')
    (CF : ∀ W a' c', Below w.heap.size w W → SL W a' (nonL S M l.length (sy st sedB seed)) → Calls Tryz.prog 47 #[.agg #[.int .i64 z, .slice a l.length c], .slice a' l.length c'] W fun e w' => (∃ x y, e = .returned (.slice x l.length y) ∧ SLL w' x fs) ∧ Below W.heap.size W w')
    (CA : ∀ W a' c', Below w.heap.size w W → SL W a' (nonL S M l.length (sy st sedB seed)) → Calls Tryz.prog 49 #[.agg #[.int .i64 z, .slice a l.length c], .slice a' l.length c', .string (TX S (askN chaB (firS fs st) M)), .slice a2 ms.length c2] W fun e w' => (∃ x y, e = .returned (.slice x l.length y) ∧ SY w' x y q) ∧ Below W.heap.size W w') :
    Calls Tryz.prog 20 #[.agg #[.int .i64 z, .slice a l.length c], .string label, .slice a2 ms.length c2, .string seed] w fun e w' => (∃ x y, e = .returned (.agg #[.string (TX S (askN chaB (firS fs st) M)), .slice x l.length y]) ∧ SY w' x y q) ∧ Below w.heap.size w w' := by
  obtain ⟨U, hU⟩ : ∃ U, U = (w.alloc (.cells #[.int .i64 z, .slice a l.length c] 53)).alloc (.cells #[.string ⟨#[]⟩, .slice none 0 0] 28) := ⟨_, rfl⟩
  have BU : Hid (Below w.heap.size w U) := by rw [hU]; exact ((Below.refl _ _).alloc (Nat.le_refl _) _).alloc (by simp) _
  have I1 : Hid (IHolds U w.heap.size 53 [.int .i64 z, .slice a l.length c]) := by rw [hU]; exact (IHolds.new w 53 [_, _]).alloc _
  have I2 : Hid (IHolds U (w.heap.size + 1) 28 [.string ⟨#[]⟩, .slice none 0 0]) := by rw [hU]; exact IHolds.new' _ 28 [_, _] (by simp)
  have U3 : 3 < U.heap.size := (hT.below BU.out).T.size
  have H43 : Hid (Calls Tryz.prog 43 #[.agg #[.int .i64 z, .slice a l.length c], .string label] U fun e w' => ∃ b, e = .returned (.pointer (some ⟨b, 0, none⟩)) ∧ TW U.heap.size U w' b st) := by rw [hst]; exact talk43 (hT.below BU.out) hlb hl (hC.of_below BU.out) hz
  have H45 : Hid (∀ W tb, TB W tb st → Calls Tryz.prog 45 #[.pointer (some ⟨tb, 0, none⟩), .string seed] W fun e w' => e = .returned (.pointer (some ⟨W.heap.size, 0, none⟩)) ∧ TW W.heap.size W w' W.heap.size (sy st sedB seed) ∧ TB w' tb st) := fun W tb hA => seeded45 hA (by rw [hst]; exact telS_size (st0_size _ _ _)) hsd
  have H44 : Hid (∀ W0 W tb, Below w.heap.size w W0 → TW W0.heap.size W0 W tb (sy st sedB seed) → 3 < W0.heap.size → Calls Tryz.prog 44 #[.agg #[.int .i64 z, .slice a l.length c], .pointer (some ⟨tb, 0, none⟩)] W fun e w' => (∃ b, e = .returned (.slice (some ⟨b, 0, none⟩) l.length l.length) ∧ W.heap.size ≤ b ∧ IHolds w' b 9 ((nonL S M l.length (sy st sedB seed)).map Value.string)) ∧ TW W0.heap.size W0 w' tb (nonS l.length (sy st sedB seed)) ∧ F.But tb W w') := fun W0 W tb hB hA h3 => nonces44 hl (hC.cm.of_below hB) hA (fun i V hV => CC _ _ _ _ _ _ hV h3 (by decide))
  have H47 : Hid (∀ W a' c', Below w.heap.size w W → SL W a' (nonL S M l.length (sy st sedB seed)) → Calls Tryz.prog 47 #[.agg #[.int .i64 z, .slice a l.length c], .slice a' l.length c'] W fun e w' => (∃ x y, e = .returned (.slice x l.length y) ∧ SLL w' x fs) ∧ Below W.heap.size W w') := CF
  have H46 : Hid (∀ W tb x y, TW U.heap.size U W tb st → SLL W x fs → Calls Tryz.prog 46 #[.pointer (some ⟨tb, 0, none⟩), .slice x l.length y] W fun e w' => e = .returned (.tuple #[]) ∧ TW U.heap.size U w' tb (firS fs st) ∧ F.But tb W w') := fun W tb x y hA hq => by
    have := tellFirsts46 (c := y) hA U3 (by omega) hq hfz
    rw [hfl] at this
    exact this
  have H48 : Hid (∀ W tb, TW U.heap.size U W tb (firS fs st) → Calls Tryz.prog 48 #[.agg #[.int .i64 z], .pointer (some ⟨tb, 0, none⟩), .string chaB] W fun e w' => e = .returned (.string (TX S (askN chaB (firS fs st) M))) ∧ TW U.heap.size U w' tb (ak chaB (firS fs st)) ∧ F.But tb W w') := fun W tb hA => CC _ _ _ _ _ _ hA U3 (by decide)
  have H49 : Hid (∀ W a' c', Below w.heap.size w W → SL W a' (nonL S M l.length (sy st sedB seed)) → Calls Tryz.prog 49 #[.agg #[.int .i64 z, .slice a l.length c], .slice a' l.length c', .string (TX S (askN chaB (firS fs st) M)), .slice a2 ms.length c2] W fun e w' => (∃ x y, e = .returned (.slice x l.length y) ∧ SY w' x y q) ∧ Below W.heap.size W w') := CA
  have c0 := I1.out.cell 0 (by simp)
  have c1 := I1.out.cell 1 (by simp)
  clear hT hC hz hms hml hfl hfz hql hst CC CF CA
  generalize TX S (askN chaB (firS fs st) M) = ch at *
  generalize ms.length = mm at *
  go_enter Tryz.func20, Tryz.ntmps20
  go_upto_region 1 with fail
  rw [← hU]
  clear hU
  go_wp2_with (go_at_call 43; refine (H43.out).mono ?_; rintro e V1 ⟨tb, rfl, hA⟩; have A1 : Hid (TW U.heap.size U V1 tb st) := hA; have J1 : Hid (IHolds V1 w.heap.size 53 [.int .i64 z, .slice a l.length c]) := I1.out.of_below hA.bl; have J2 : Hid (IHolds V1 (w.heap.size + 1) 28 [.string ⟨#[]⟩, .slice none 0 0]) := I2.out.of_below hA.bl; clear hA H43 c0 c1)
  have lt1 : tb < V1.heap.size := A1.out.at_.t.lt
  have le1 : U.heap.size ≤ tb := A1.out.le
  have ltb : w.heap.size + 1 < U.heap.size := I2.out.lt
  have n1 : w.heap.size ≠ tb := by omega
  have n2 : w.heap.size + 1 ≠ tb := by omega
  have BW1 : Hid (Below w.heap.size w V1) := BU.out.trans (A1.out.bl.mono BU.out.size)
  have v3 : 3 < V1.heap.size := A1.out.at_.T.size
  have T1 : Hid (TB V1.drew tb st) := A1.out.at_.below ((Below.refl _ V1).drew)
  have D1 : Hid (Below V1.heap.size V1 V1.drew) := (Below.refl _ V1).drew
  have KS : Hid (∀ V, Below V1.heap.size V1 V → V.cell? ⟨w.heap.size, 0, none⟩ = some (.int .i64 z) ∧ V.cell? ⟨w.heap.size, 1, none⟩ = some (.slice a l.length c)) := fun V hV => ⟨cell_keep (J1.out.cell 0 (by simp)) hV, cell_keep (J1.out.cell 1 (by simp)) hV⟩
  go_region_held3 (fun V => V.cell? ⟨w.heap.size, 0, none⟩ = some (.int .i64 z) ∧ V.cell? ⟨w.heap.size, 1, none⟩ = some (.slice a l.length c))
    (first | exact KS.out _ D1.out | exact KS.out _ B2.out | exact KS.out _ B3.out | assumption | fail)
    (first
      | (go_at_call 45; refine (H45.out _ _ T1.out).mono ?_; rintro e V2 ⟨rfl, hA, hT⟩; have A2 : Hid (TW V1.drew.heap.size V1.drew V2 V1.drew.heap.size (sy st sedB seed)) := hA; have T2 : Hid (TB V2 tb st) := hT; have B2 : Hid (Below V1.heap.size V1 V2) := D1.out.trans hA.bl; clear hA hT H45)
      | (go_at_call 44; refine (H44.out V1.drew _ _ (BW1.out.trans (D1.out.mono BW1.out.size)) A2.out v3).mono ?_; rintro e V3 ⟨⟨bN, rfl, hbN, hI⟩, hA, hB⟩; have N3 : Hid (IHolds V3 bN 9 ((nonL S M l.length (sy st sedB seed)).map Value.string)) := hI; have B3 : Hid (Below V1.heap.size V1 V3) := D1.out.trans hA.bl; have T3 : Hid (TB V3 tb st) := ⟨T2.out.t.of_but hB (by show tb ≠ V1.heap.size; omega), hA.at_.T, hA.at_.S⟩; have nN : Hid (bN ≠ tb) := (by have := T2.out.t.lt; show _ ≠ _; omega); clear hI hA hB hbN H44)
      | fail)
  have A3 : Hid (TW U.heap.size U V3 tb st) := ⟨T3.out, A1.out.bl.trans (B3.out.mono (by omega)), le1, A1.out.sz⟩
  have c0 := (J1.out.of_below B3.out).cell 0 (by simp)
  have c1 := (J1.out.of_below B3.out).cell 1 (by simp)
  have L1 : Hid (IHolds V3 w.heap.size 53 [.int .i64 z, .slice a l.length c]) := J1.out.of_below B3.out
  have L2 : Hid (IHolds V3 (w.heap.size + 1) 28 [.string ⟨#[]⟩, .slice none 0 0]) := J2.out.of_below B3.out
  have BW3 : Hid (Below w.heap.size w V3) := BW1.out.trans (B3.out.mono BW1.out.size)
  clear A1 T1 T2 T3 KS D1 J1 J2 A2 B2
  generalize nonL S M l.length (sy st sedB seed) = ns at *
  go_wp2_with (first
    | (go_at_call 47; refine (H47.out _ _ _ BW3.out N3.out.sl).mono ?_; rintro e V4 ⟨⟨x4, y4, rfl, hQ⟩, hB⟩; have Q4 : Hid (SLL V4 x4 fs) := hQ; have A4 : Hid (TW U.heap.size U V4 tb st) := A3.out.below hB; have N4 : Hid (IHolds V4 bN 9 (ns.map Value.string)) := N3.out.of_below hB; have M1 : Hid (IHolds V4 w.heap.size 53 [.int .i64 z, .slice a l.length c]) := L1.out.of_below hB; have M2 : Hid (IHolds V4 (w.heap.size + 1) 28 [.string ⟨#[]⟩, .slice none 0 0]) := L2.out.of_below hB; clear hQ hB H47 c0 c1 L1 L2 N3 A3)
    | (go_at_call 46; refine (H46.out _ _ _ _ A4.out Q4.out).mono ?_; rintro e V5 ⟨rfl, hA, hB⟩; have A5 : Hid (TW U.heap.size U V5 tb (firS fs st)) := hA; have N5 : Hid (IHolds V5 bN 9 (ns.map Value.string)) := N4.out.offB hB nN.out; have O1 : Hid (IHolds V5 w.heap.size 53 [.int .i64 z, .slice a l.length c]) := M1.out.offB hB n1; have O2 : Hid (IHolds V5 (w.heap.size + 1) 28 [.string ⟨#[]⟩, .slice none 0 0]) := M2.out.offB hB n2; have d0 := O1.out.cell 0 (by simp); clear hA hB H46 A4 Q4 N4 M1 M2)
    | (go_at_call 48; refine (H48.out _ _ A5.out).mono ?_; rintro e V6 ⟨rfl, hA, hB⟩; have N6 : Hid (IHolds V6 bN 9 (ns.map Value.string)) := N5.out.offB hB nN.out; have P1 : Hid (IHolds V6 w.heap.size 53 [.int .i64 z, .slice a l.length c]) := O1.out.offB hB n1; have P2 : Hid (IHolds V6 (w.heap.size + 1) 28 [.string ⟨#[]⟩, .slice none 0 0]) := O2.out.offB hB n2; have BW6 : Hid (Below w.heap.size w V6) := BU.out.trans (hA.bl.mono BU.out.size); have e0 := P1.out.cell 0 (by simp); have e1 := P1.out.cell 1 (by simp); clear hA hB H48 A5 N5 O1 O2 d0)
    | (go_at_call 49; refine (H49.out _ _ _ BW6.out N6.out.sl).mono ?_; rintro e V7 ⟨⟨x7, y7, rfl, hQ⟩, hB⟩; have Q7 : Hid (SY V7 x7 y7 q) := hQ; have BW7 : Hid (Below w.heap.size w V7) := BW6.out.trans (hB.mono BW6.out.size); have R2 : Hid (IHolds V7 (w.heap.size + 1) 28 [.string ⟨#[]⟩, .slice none 0 0]) := P2.out.of_below hB; have g0 := R2.out.cell 0 (by simp); have g1 := R2.out.cell 1 (by simp); have f0 := R2.out.frozen 0; have f1 := R2.out.frozen 1; clear hQ hB H49 e0 e1 P1 P2 N6)
    | fail)
  have R3 : Hid (IHolds (V7.setCell ⟨w.heap.size + 1, 0, none⟩ (.string ch)) (w.heap.size + 1) 28 [.string ch, .slice none 0 0]) := R2.out.set 0 (.string ch)
  have R4 : Hid (IHolds ((V7.setCell ⟨w.heap.size + 1, 0, none⟩ (.string ch)).setCell ⟨w.heap.size + 1, 1, none⟩ (.slice x7 l.length y7)) (w.heap.size + 1) 28 [.string ch, .slice x7 l.length y7]) := R3.out.set 1 (.slice x7 l.length y7)
  refine bodyPost_ret (v := .agg [.string ch, .slice x7 l.length y7].toArray) (F.results_cell Tryz.results20 _ _ (w.heap.size + 1) 0 [.string ch, .slice x7 l.length y7] _ rfl R4.out.range Tryz.underlying28 rfl size28) rfl ⟨⟨x7, y7, rfl, (Q7.out.far R2.out (by decide) _ _).far R3.out (by decide) _ _⟩, (BW7.out.setCell (p := ⟨w.heap.size + 1, 0, none⟩) (by show _ ≤ w.heap.size + 1; omega) _).setCell (p := ⟨w.heap.size + 1, 1, none⟩) (by show _ ≤ w.heap.size + 1; omega) _⟩
end Go.Proofs.YtmpiipcllgjhdaaGreatDoor
