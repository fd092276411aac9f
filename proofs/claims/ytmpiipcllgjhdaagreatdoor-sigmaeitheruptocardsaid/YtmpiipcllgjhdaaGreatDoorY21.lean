/- Prove; signatures. Signatures. The law of completeness. The law of completeness at every kind. Lists of claims of any kind: what is wrong with them; the sets that lists of lists are. -/
import Derived.Test.YtmpiipcllgjhdaaGreatDoorY20
set_option linter.unusedSimpArgs false
set_option linter.unusedVariables false
set_option maxRecDepth 100000
namespace Go.Proofs.YtmpiipcllgjhdaaGreatDoor
open Go.RowKit Go.Deep Go.PlainAid

set_option maxHeartbeats 1000000 in
theorem prove8 {w : World} {z : Int} {a a2 : Option Addr} {n m c c2 k : Nat} {label seed u : ByteArray} {q : List ByteArray}
    (C18 : ∀ W, Below w.heap.size w W → Calls Tryz.prog 18 #[.int .i64 z, .slice a n c] W fun e w' => e = .returned (.tuple #[.agg #[.int .i64 z, .slice a n c], .int .i64 0]) ∧ Below W.heap.size W w')
    (C19 : ∀ W, Below w.heap.size w W → Calls Tryz.prog 19 #[.agg #[.int .i64 z, .slice a n c], .slice a2 m c2] W fun e w' => e = .returned (.int .i64 0) ∧ Below W.heap.size W w')
    (C20 : ∀ W, Below w.heap.size w W → Calls Tryz.prog 20 #[.agg #[.int .i64 z, .slice a n c], .string label, .slice a2 m c2, .string seed] W fun e w' => (∃ x y, e = .returned (.agg #[.string u, .slice x n y]) ∧ SY w' x y q) ∧ Below W.heap.size W w') :
    Calls Tryz.prog 8 #[.int .i64 z, .string label, .slice a n c, .slice a2 m c2, .string seed] w fun e w' => (∃ x y, e = .returned (.tuple #[.agg #[.string u, .slice x n y], .int .i64 0]) ∧ SY w' x y q) ∧ Below w.heap.size w w' := by
  obtain ⟨U, hU⟩ : ∃ U, U = w.alloc (.cells #[.string ⟨#[]⟩, .slice none 0 0] 28) := ⟨_, rfl⟩
  have BU : Hid (Below w.heap.size w U) := by rw [hU]; exact (Below.refl _ _).alloc (Nat.le_refl _) _
  have I2 : Hid (IHolds U w.heap.size 28 [.string ⟨#[]⟩, .slice none 0 0]) := by rw [hU]; exact IHolds.new _ _ _
  have H18 : Hid (Calls Tryz.prog 18 #[.int .i64 z, .slice a n c] U fun e w' => e = .returned (.tuple #[.agg #[.int .i64 z, .slice a n c], .int .i64 0]) ∧ Below U.heap.size U w') := C18 U BU.out
  have H19 : Hid (∀ W, Below w.heap.size w W → Calls Tryz.prog 19 #[.agg #[.int .i64 z, .slice a n c], .slice a2 m c2] W fun e w' => e = .returned (.int .i64 0) ∧ Below W.heap.size W w') := C19
  have H20 : Hid (∀ W, Below w.heap.size w W → Calls Tryz.prog 20 #[.agg #[.int .i64 z, .slice a n c], .string label, .slice a2 m c2, .string seed] W fun e w' => (∃ x y, e = .returned (.agg #[.string u, .slice x n y]) ∧ SY w' x y q) ∧ Below W.heap.size W w') := C20
  clear C18 C19 C20
  go_enter Tryz.func8, Tryz.ntmps8
  go_upto_region 1 with fail
  rw [← hU]
  clear hU
  go_upto_region 2 with (first
    | (go_at_call 18; refine (H18.out).mono ?_; rintro e V1 ⟨rfl, hB⟩; have B1 : Hid (Below w.heap.size w V1) := BU.out.trans (hB.mono BU.out.size); have J2 : Hid (IHolds V1 w.heap.size 28 [.string ⟨#[]⟩, .slice none 0 0]) := I2.out.of_below hB; clear hB H18)
    | fail)
  obtain ⟨X, hX⟩ : ∃ X, X = V1.alloc (.cells #[.int .i64 z, .slice a n c] 53) := ⟨_, rfl⟩
  have BX : Hid (Below V1.heap.size V1 X) := by rw [hX]; exact (Below.refl _ _).alloc (Nat.le_refl _) _
  have X1 : Hid (IHolds X V1.heap.size 53 [.int .i64 z, .slice a n c]) := by rw [hX]; exact IHolds.new _ _ _
  have X2 : Hid (IHolds X w.heap.size 28 [.string ⟨#[]⟩, .slice none 0 0]) := J2.out.of_below BX.out
  have B2 : Hid (Below w.heap.size w X) := B1.out.trans (BX.out.mono B1.out.size)
  rw [← hX]
  have c0 := X1.out.cell 0 (by simp)
  have c1 := X1.out.cell 1 (by simp)
  generalize V1.heap.size = bs at *
  clear hX BX J2 B1
  go_wp2_with (first
    | (go_at_call 19; refine (H19.out _ B2.out).mono ?_; rintro e V2 ⟨rfl, hB⟩; have B3 : Hid (Below w.heap.size w V2) := B2.out.trans (hB.mono B2.out.size); have d0 := (X1.out.of_below hB).cell 0 (by simp); have d1 := (X1.out.of_below hB).cell 1 (by simp); have Y2 : Hid (IHolds V2 w.heap.size 28 [.string ⟨#[]⟩, .slice none 0 0]) := X2.out.of_below hB; clear hB H19 c0 c1 X1 X2)
    | (go_at_call 20; refine (H20.out _ B3.out).mono ?_; rintro e V7 ⟨⟨x7, y7, rfl, hQ⟩, hB⟩; have Q7 : Hid (SY V7 x7 y7 q) := hQ; have BW7 : Hid (Below w.heap.size w V7) := B3.out.trans (hB.mono B3.out.size); have R2 : Hid (IHolds V7 w.heap.size 28 [.string ⟨#[]⟩, .slice none 0 0]) := Y2.out.of_below hB; have g0 := R2.out.cell 0 (by simp); have g1 := R2.out.cell 1 (by simp); have f0 := R2.out.frozen 0; have f1 := R2.out.frozen 1; clear hQ hB H20 d0 d1)
    | fail)
  have R3 : Hid (IHolds (V7.setCell ⟨w.heap.size, 0, none⟩ (.string u)) w.heap.size 28 [.string u, .slice none 0 0]) := R2.out.set 0 (.string u)
  have R4 : Hid (IHolds ((V7.setCell ⟨w.heap.size, 0, none⟩ (.string u)).setCell ⟨w.heap.size, 1, none⟩ (.slice x7 n y7)) w.heap.size 28 [.string u, .slice x7 n y7]) := R3.out.set 1 (.slice x7 n y7)
  refine bodyPost_ret (v := .tuple #[.agg [.string u, .slice x7 n y7].toArray, .int .i64 0]) (results_cell2 Tryz.results8 _ _ w.heap.size 0 [.string u, .slice x7 n y7] _ rfl R4.out.range Tryz.underlying28 rfl size28) rfl ⟨⟨x7, y7, rfl, (Q7.out.far R2.out (by decide) _ _).far R3.out (by decide) _ _⟩, (BW7.out.setCell (p := ⟨w.heap.size, 0, none⟩) (Nat.le_refl _) _).setCell (p := ⟨w.heap.size, 1, none⟩) (Nat.le_refl _) _⟩
section
variable {z : Int} {G : Array Value} {S Wd M low one sq Ri Wd2 M2 low2 one2 sq2 Ri2 : Nat}
theorem WSC (k : KD z G S Wd M low one sq Ri Wd2 M2 low2 one2 sq2 Ri2) (h : PK S M M2) {l : List Cl} (ok : OkC (isEl S M) l) {w : World} {a b : Option Addr} {c d : Nat} {m : List ByteArray} (hs : CM w a l) (hm : SL w b m) (hml : m.length = l.length) (hsc : m.all (isSc S M) = true) (hold : l.map Prod.snd = fsG S M M2 l m) (W : World) (hW : Below w.heap.size w W) :
    Calls Tryz.prog 19 #[.agg #[.int .i64 z, .slice a l.length c], .slice b l.length d] W fun e w' => e = .returned (.int .i64 0) ∧ Below W.heap.size W w' := by
  have q := wrongSecrets17 (w := W) (a := a) (b := b) (n := l.length) (m := l.length) (c := c) (d := d) (z := z) (t := decide (l.map Prod.snd = fsG S M M2 l m)) (fun V hV => WRO k hml ok.most (hm.of_below hW) hsc V hV) (fun V hV => by
    refine holds36 (q := fsG S M M2 l m) (fun X hX => FIRG k h ok ((hs.of_below hW).of_below hV) ((hm.of_below hW).of_below hV) hml hsc X hX) (fun X a' c' hX hq => ?_)
    exact equal56 ok.most (fun i hi => by have := ok.few i hi; omega) (by simp [fsG]; omega) (((hs.of_below hW).of_below hV).of_below hX) hq)
  rw [decide_eq_true hold] at q
  exact q
/-- Prove of what holds. -/
theorem PRV (k : KD z G S Wd M low one sq Ri Wd2 M2 low2 one2 sq2 Ri2) (h : PK S M M2) {l : List Cl} (ok : OkC (isEl S M) l) {w : World} {a a2 : Option Addr} {c c2 : Nat} {label seed : ByteArray} {ms : List ByteArray} (hT : TT w) (hlb : label.size < 1125899906842624) (hsd : seed.size < 1125899906842624) (hC : CK w a l) (hms : SL w a2 ms) (hml : ms.length = l.length) (hsc : ms.all (isSc S M) = true) (hold : l.map Prod.snd = fsG S M M2 l ms) :
    Calls Tryz.prog 8 #[.int .i64 z, .string label, .slice a l.length c, .slice a2 ms.length c2, .string seed] w fun e w' => (∃ x y, e = .returned (.tuple #[.agg #[.string (TX S (chT z M l label (fsG S M M2 l (nsT z S M l label seed)))), .slice x l.length y], .int .i64 0]) ∧ SY w' x y (ansL S M (chT z M l label (fsG S M M2 l (nsT z S M l label seed))) (nsT z S M l label seed) ms)) ∧ Below w.heap.size w w' :=
  prove8 (k := 0) (SETG k ok hC.cm) (fun W hW => by have q := WSC k h ok hC.cm hms hml hsc hold (c := c) (d := c2) W hW; rw [← hml] at q; rw [hml] at q ⊢; exact q) (PRI k h ok hT hlb hsd hC hms hml hsc)
/-- Verify of what was proved. -/
theorem VRF (k : KD z G S Wd M low one sq Ri Wd2 M2 low2 one2 sq2 Ri2) (h : PK S M M2) {l : List Cl} (ok : OkC (isEl S M) l) {w : World} {a x : Option Addr} {c y : Nat} {label seed : ByteArray} {ms : List ByteArray} (hT : TT w) (hlb : label.size < 1125899906842624) (hC : CK w a l) (hml : ms.length = l.length) (hold : l.map Prod.snd = fsG S M M2 l ms)
    (hx : SL w x (ansL S M (chT z M l label (fsG S M M2 l (nsT z S M l label seed))) (nsT z S M l label seed) ms)) :
    Calls Tryz.prog 9 #[.int .i64 z, .string label, .slice a l.length c, .agg #[.string (TX S (chT z M l label (fsG S M M2 l (nsT z S M l label seed)))), .slice x l.length y]] w fun e w' => e = .returned (.bool true) ∧ Below w.heap.size w w' := by
  have hnl : (nsT z S M l label seed).length = l.length := nonL_len _ _ _ _
  have hch : chT z M l label (fsG S M M2 l (nsT z S M l label seed)) < M := askN_lt h _ _
  have hb := complete_plain h ok hml hnl hch hold
  have hal : (ansL S M (chT z M l label (fsG S M M2 l (nsT z S M l label seed))) (nsT z S M l label seed) ms).length = l.length := ansL_len hnl hml
  have hsc : (ansL S M (chT z M l label (fsG S M M2 l (nsT z S M l label seed))) (nsT z S M l label seed) ms).all (isSc S M) = true := ansL_sc h _ _
  have C48 : ∀ n w0 W tb, TW n w0 W tb (firS (fsG S M M2 l (nsT z S M l label seed)) (sT z l label)) → 3 < n → Calls Tryz.prog 48 #[.agg #[.int .i64 z], .pointer (some ⟨tb, 0, none⟩), .string chaB] W fun e w' => e = .returned (.string (TX S (chT z M l label (fsG S M M2 l (nsT z S M l label seed))))) ∧ TW n w0 w' tb (ak chaB (firS (fsG S M M2 l (nsT z S M l label seed)) (sT z l label))) ∧ F.But tb W w' := fun n w0 W tb hA h3 => CHA k hA h3 (by decide)
  generalize chT z M l label (fsG S M M2 l (nsT z S M l label seed)) = ch at *
  refine verify9 (SETG k ok hC.cm) (fun W hW => fits21 (fun V hV => WRO k hal ok.most (hx.of_below hW) hsc V hV) (fun V => by have q := noScalar k (TX S ch) V; rw [k.sc hch] at q; exact q)) (fun W hW => ?_)
  refine verify22 (q := fsG S M M2 l (nsT z S M l label seed)) (hT.below hW) hlb ok.most (hC.of_below hW) (okZ k ok) (by simp [fsG]; omega) (fsZ k h ok _) (fun V hV => ?_) C48
  have q := BCKI k h ok hch (w := V) (a := a) (b := x) (c := c) (d := y) ((hC.cm.of_below hW).of_below hV) ((hx.of_below hW).of_below hV) hal hsc V (Below.refl _ _)
  rw [hb] at q
  exact q
end
end Go.Proofs.YtmpiipcllgjhdaaGreatDoor
namespace Go.Proofs.YtmpiipcllgjhdaaGreatDoor
open Go.RowKit Go.Deep Go.PlainAid

theorem base52 {w : World} {z : Int} {r : ByteArray} (C : ∀ W, Calls Tryz.prog 15 #[.int .i64 z] W fun e w' => e = .returned (.tuple #[.string r, .int .i64 0]) ∧ Below W.heap.size W w') :
    Calls Tryz.prog 52 #[.agg #[.int .i64 z]] w fun e w' => e = .returned (.string r) ∧ Below w.heap.size w w' := by
  have B : Hid (Below w.heap.size w (w.alloc (.cells #[.int .i64 z] 51))) := (Below.refl _ _).alloc (Nat.le_refl _) _
  have H : Hid (∀ W, Calls Tryz.prog 15 #[.int .i64 z] W fun e w' => e = .returned (.tuple #[.string r, .int .i64 0]) ∧ Below W.heap.size W w') := C
  clear C
  go_enter Tryz.func52, Tryz.ntmps52
  go_wp2_with (go_at_call 15; refine (H.out _).mono ?_; rintro e w1 ⟨rfl, hB1⟩; have B1 : Hid (Below w.heap.size w w1) := B.out.trans (hB1.mono B.out.size); clear hB1)
  go_ret
  exact ⟨rfl, B1.out⟩
theorem public23 {w : World} {z : Int} {r x p : ByteArray} (C1 : ∀ W, Calls Tryz.prog 52 #[.agg #[.int .i64 z]] W fun e w' => e = .returned (.string r) ∧ Below W.heap.size W w') (C2 : ∀ W, Calls Tryz.prog 17 #[.int .i64 z, .string r, .string x] W fun e w' => e = .returned (.tuple #[.string p, .int .i64 0]) ∧ Below W.heap.size W w') :
    Calls Tryz.prog 23 #[.int .i64 z, .string x] w fun e w' => e = .returned (.tuple #[.string p, .int .i64 0]) ∧ Below w.heap.size w w' := by
  have H1 : Hid (∀ W, Calls Tryz.prog 52 #[.agg #[.int .i64 z]] W fun e w' => e = .returned (.string r) ∧ Below W.heap.size W w') := C1
  have H2 : Hid (∀ W, Calls Tryz.prog 17 #[.int .i64 z, .string r, .string x] W fun e w' => e = .returned (.tuple #[.string p, .int .i64 0]) ∧ Below W.heap.size W w') := C2
  clear C1 C2
  go_enter Tryz.func23, Tryz.ntmps23
  go_wp2_with (first
    | (go_at_call 52; refine (H1.out _).mono ?_; rintro e w1 ⟨rfl, hB⟩; have B1 : Hid (Below w.heap.size w w1) := hB; clear hB)
    | (go_at_call 17; refine (H2.out _).mono ?_; rintro e w2 ⟨rfl, hB⟩; have B2 : Hid (Below w.heap.size w w2) := B1.out.trans (hB.mono B1.out.size); clear hB)
    | fail)
  go_ret2
  exact ⟨rfl, B2.out⟩
theorem tag53 {w w0 : World} {a : Option Addr} {n c : Nat} {lab r : ByteArray} (C : Calls Tryz.prog 98 #[.string lab, .slice a n c] w fun e w' => e = .returned (.string r) ∧ Below w0.heap.size w0 w') :
    Calls Tryz.prog 53 #[.string lab, .slice a n c] w fun e w' => e = .returned (.string r) ∧ Below w0.heap.size w0 w' := by
  have H : Hid (Calls Tryz.prog 98 #[.string lab, .slice a n c] w fun e w' => e = .returned (.string r) ∧ Below w0.heap.size w0 w') := C
  clear C
  go_enter Tryz.func53, Tryz.ntmps53
  go_wp2_with (go_at_call 98; refine (H.out).mono ?_; rintro e w1 ⟨rfl, hB⟩; have B1 : Hid (Below w0.heap.size w0 w1) := hB; clear hB)
  go_ret
  exact ⟨rfl, B1.out⟩
def sigB : ByteArray := ⟨#[115, 105, 103, 110]⟩
def sgl (text : ByteArray) : ByteArray := F.tagB sigB [text]
theorem sgl_size (text : ByteArray) : (sgl text).size = 32 := F.tagB_size _ _
theorem signLabel24 {w : World} {text : ByteArray} (hT : TT w) (ht : text.size < 1125899906842624) :
    Calls Tryz.prog 24 #[.string text] w fun e w' => e = .returned (.string (sgl text)) ∧ Below w.heap.size w w' := by
  have H : Hid (Calls Tryz.prog 53 #[.string ⟨#[115, 105, 103, 110]⟩, .slice (some ⟨w.heap.size, 0, none⟩) 1 1] (w.alloc (.cells #[.string text] 9)) fun e w' => e = .returned (.string (sgl text)) ∧ Below w.heap.size w w') :=
    tag53 (F.tag_new sigB [text] w (by simp) (by decide) (F.each1 ht) (by rw [F.parts2]; have : sigB.size = 4 := rfl; omega) hT.T hT.S)
  clear hT
  generalize sgl text = r at *
  go_enter Tryz.func24, Tryz.ntmps24
  go_wp2_with (go_at_call 53; refine (H.out).mono ?_; rintro e w1 ⟨rfl, hB⟩; have B1 : Hid (Below w.heap.size w w1) := hB; clear hB)
  go_ret
  exact ⟨rfl, B1.out⟩
/-- The claim of a key, in memory. -/
def KeyAt (w' : World) (bs pb : ByteArray) (e : Ending) : Prop := ∃ b, e = .returned (.slice (some ⟨b, 0, none⟩) 1 1) ∧ CK w' (some ⟨b, 0, none⟩) [([bs], [pb])]
set_option maxHeartbeats 1000000 in
theorem keyOf25 {w : World} {z : Int} {bs pb : ByteArray} (C : ∀ W, Calls Tryz.prog 52 #[.agg #[.int .i64 z]] W fun e w' => e = .returned (.string bs) ∧ Below W.heap.size W w') :
    Calls Tryz.prog 25 #[.int .i64 z, .string pb] w fun e w' => KeyAt w' bs pb e ∧ Below w.heap.size w w' := by
  have H : Hid (∀ W, Calls Tryz.prog 52 #[.agg #[.int .i64 z]] W fun e w' => e = .returned (.string bs) ∧ Below W.heap.size W w') := C
  clear C
  go_enter Tryz.func25, Tryz.ntmps25
  go_wp2_with (go_at_call 52; refine (H.out _).mono ?_; rintro e V ⟨rfl, hB⟩; have B1 : Hid (Below w.heap.size w V) := hB; clear hB)
  go_ret
  have e1 : IHolds (((V.alloc (.cells #[.string bs] 9)).alloc (.cells #[.string pb] 9)).alloc (.cells #[.slice (some ⟨V.heap.size, 0, none⟩) 1 1, .slice (some ⟨V.heap.size + 1, 0, none⟩) 1 1] 36)) V.heap.size 9 [.string bs] := ((IHolds.new V 9 [_]).alloc _).alloc _
  have e2 : IHolds (((V.alloc (.cells #[.string bs] 9)).alloc (.cells #[.string pb] 9)).alloc (.cells #[.slice (some ⟨V.heap.size, 0, none⟩) 1 1, .slice (some ⟨V.heap.size + 1, 0, none⟩) 1 1] 36)) (V.heap.size + 1) 9 [.string pb] := (IHolds.new' _ 9 [_] (by simp)).alloc _
  have e3 : IHolds (((V.alloc (.cells #[.string bs] 9)).alloc (.cells #[.string pb] 9)).alloc (.cells #[.slice (some ⟨V.heap.size, 0, none⟩) 1 1, .slice (some ⟨V.heap.size + 1, 0, none⟩) 1 1] 36)) (V.heap.size + 1 + 1) 36 [.slice (some ⟨V.heap.size, 0, none⟩) 1 1, .slice (some ⟨V.heap.size + 1, 0, none⟩) 1 1] := IHolds.new' _ 36 [_, _] (by simp)
  refine ⟨⟨_, rfl, fun i hi => ?_⟩, ((B1.out.alloc B1.out.size _).alloc (by have := B1.out.size; simp; omega) _).alloc (by have := B1.out.size; simp; omega) _⟩
  obtain rfl : i = 0 := by simp at hi; omega
  exact ⟨_, 0, _, 1, _, 1, rfl, e3.cell 0 (by simp), e3.cell 1 (by simp), ⟨IHolds.sl (q := [bs]) e1, by simp⟩, ⟨IHolds.sl (q := [pb]) e2, by simp⟩⟩
set_option maxHeartbeats 2000000 in
theorem sign10 {w : World} {z : Int} {x text seed bs pb u : ByteArray} {q : List ByteArray} (hT : TT w) (ht : text.size < 1125899906842624)
    (C23 : ∀ W, Calls Tryz.prog 23 #[.int .i64 z, .string x] W fun e w' => e = .returned (.tuple #[.string pb, .int .i64 0]) ∧ Below W.heap.size W w')
    (C52 : ∀ W, Calls Tryz.prog 52 #[.agg #[.int .i64 z]] W fun e w' => e = .returned (.string bs) ∧ Below W.heap.size W w')
    (C8 : ∀ W b b2, TT W → CK W (some ⟨b, 0, none⟩) [([bs], [pb])] → SL W (some ⟨b2, 0, none⟩) [x] → Calls Tryz.prog 8 #[.int .i64 z, .string (sgl text), .slice (some ⟨b, 0, none⟩) 1 1, .slice (some ⟨b2, 0, none⟩) 1 1, .string seed] W fun e w' => (∃ x y, e = .returned (.tuple #[.agg #[.string u, .slice x 1 y], .int .i64 0]) ∧ SY w' x y q) ∧ Below W.heap.size W w') :
    Calls Tryz.prog 10 #[.int .i64 z, .string x, .string text, .string seed] w fun e w' => (∃ x y, e = .returned (.tuple #[.agg #[.string u, .slice x 1 y], .int .i64 0]) ∧ SY w' x y q) ∧ Below w.heap.size w w' := by
  obtain ⟨U, hU⟩ : ∃ U, U = w.alloc (.cells #[.string ⟨#[]⟩, .slice none 0 0] 28) := ⟨_, rfl⟩
  have BU : Hid (Below w.heap.size w U) := by rw [hU]; exact (Below.refl _ _).alloc (Nat.le_refl _) _
  have I2 : Hid (IHolds U w.heap.size 28 [.string ⟨#[]⟩, .slice none 0 0]) := by rw [hU]; exact IHolds.new _ _ _
  have HT : Hid (TT w) := hT
  have H23 : Hid (∀ W, Calls Tryz.prog 23 #[.int .i64 z, .string x] W fun e w' => e = .returned (.tuple #[.string pb, .int .i64 0]) ∧ Below W.heap.size W w') := C23
  have H24 : Hid (∀ W, Below w.heap.size w W → Calls Tryz.prog 24 #[.string text] W fun e w' => e = .returned (.string (sgl text)) ∧ Below W.heap.size W w') := fun W hW => signLabel24 (hT.below hW) ht
  have H25 : Hid (∀ W, Calls Tryz.prog 25 #[.int .i64 z, .string pb] W fun e w' => KeyAt w' bs pb e ∧ Below W.heap.size W w') := fun W => keyOf25 C52
  have H8 : Hid (∀ W b b2, TT W → CK W (some ⟨b, 0, none⟩) [([bs], [pb])] → SL W (some ⟨b2, 0, none⟩) [x] → Calls Tryz.prog 8 #[.int .i64 z, .string (sgl text), .slice (some ⟨b, 0, none⟩) 1 1, .slice (some ⟨b2, 0, none⟩) 1 1, .string seed] W fun e w' => (∃ x y, e = .returned (.tuple #[.agg #[.string u, .slice x 1 y], .int .i64 0]) ∧ SY w' x y q) ∧ Below W.heap.size W w') := C8
  clear C23 C52 C8 hT
  generalize sgl text = lab at *
  go_enter Tryz.func10, Tryz.ntmps10
  go_upto_region 1 with fail
  rw [← hU]
  clear hU
  go_wp2_with (first
    | (go_at_call 23; refine (H23.out _).mono ?_; rintro e V1 ⟨rfl, hB⟩; have B1 : Hid (Below w.heap.size w V1) := BU.out.trans (hB.mono BU.out.size); have J1 : Hid (IHolds V1 w.heap.size 28 [.string ⟨#[]⟩, .slice none 0 0]) := I2.out.of_below hB; clear hB H23)
    | (go_at_call 24; refine (H24.out _ B1.out).mono ?_; rintro e V2 ⟨rfl, hB⟩; have B2 : Hid (Below w.heap.size w V2) := B1.out.trans (hB.mono B1.out.size); have J2 : Hid (IHolds V2 w.heap.size 28 [.string ⟨#[]⟩, .slice none 0 0]) := J1.out.of_below hB; clear hB H24 B1 J1)
    | (go_at_call 25; refine (H25.out _).mono ?_; rintro e V3 ⟨⟨b3, rfl, hC⟩, hB⟩; have B3 : Hid (Below w.heap.size w (V3.alloc (.cells #[.string x] 9))) := (B2.out.trans (hB.mono B2.out.size)).alloc (by have := B2.out.size; have := hB.size; omega) _; have J3 : Hid (IHolds (V3.alloc (.cells #[.string x] 9)) w.heap.size 28 [.string ⟨#[]⟩, .slice none 0 0]) := (J2.out.of_below hB).alloc _; have K3 : Hid (CK (V3.alloc (.cells #[.string x] 9)) (some ⟨b3, 0, none⟩) [([bs], [pb])]) := hC.of_below ((Below.refl _ _).alloc (Nat.le_refl _) _); have S3 : Hid (SL (V3.alloc (.cells #[.string x] 9)) (some ⟨V3.heap.size, 0, none⟩) [x]) := IHolds.sl (q := [x]) (IHolds.new V3 9 [_]); clear hC hB H25 B2 J2)
    | (go_at_call 8; refine (H8.out _ _ _ (HT.out.below B3.out) K3.out S3.out).mono ?_; rintro e V7 ⟨⟨x7, y7, rfl, hQ⟩, hB⟩; have Q7 : Hid (SY V7 x7 y7 q) := hQ; have BW7 : Hid (Below w.heap.size w V7) := B3.out.trans (hB.mono B3.out.size); have R2 : Hid (IHolds V7 w.heap.size 28 [.string ⟨#[]⟩, .slice none 0 0]) := J3.out.of_below hB; have g0 := R2.out.cell 0 (by simp); have g1 := R2.out.cell 1 (by simp); have f0 := R2.out.frozen 0; have f1 := R2.out.frozen 1; clear hQ hB H8)
    | fail)
  have R3 : Hid (IHolds (V7.setCell ⟨w.heap.size, 0, none⟩ (.string u)) w.heap.size 28 [.string u, .slice none 0 0]) := R2.out.set 0 (.string u)
  have R4 : Hid (IHolds ((V7.setCell ⟨w.heap.size, 0, none⟩ (.string u)).setCell ⟨w.heap.size, 1, none⟩ (.slice x7 1 y7)) w.heap.size 28 [.string u, .slice x7 1 y7]) := R3.out.set 1 (.slice x7 1 y7)
  refine bodyPost_ret (v := .tuple #[.agg [.string u, .slice x7 1 y7].toArray, .int .i64 0]) (results_cell2 Tryz.results10 _ _ w.heap.size 0 [.string u, .slice x7 1 y7] _ rfl R4.out.range Tryz.underlying28 rfl size28) rfl ⟨⟨x7, y7, rfl, (Q7.out.far R2.out (by decide) _ _).far R3.out (by decide) _ _⟩, (BW7.out.setCell (p := ⟨w.heap.size, 0, none⟩) (Nat.le_refl _) _).setCell (p := ⟨w.heap.size, 1, none⟩) (Nat.le_refl _) _⟩
set_option maxHeartbeats 2000000 in
theorem signed11 {w : World} {z : Int} {text bs pb u : ByteArray} {x : Option Addr} {y : Nat} (hT : TT w) (ht : text.size < 1125899906842624)
    (C52 : ∀ W, Calls Tryz.prog 52 #[.agg #[.int .i64 z]] W fun e w' => e = .returned (.string bs) ∧ Below W.heap.size W w')
    (C9 : ∀ W b, Below w.heap.size w W → CK W (some ⟨b, 0, none⟩) [([bs], [pb])] → Calls Tryz.prog 9 #[.int .i64 z, .string (sgl text), .slice (some ⟨b, 0, none⟩) 1 1, .agg #[.string u, .slice x 1 y]] W fun e w' => e = .returned (.bool true) ∧ Below W.heap.size W w') :
    Calls Tryz.prog 11 #[.int .i64 z, .string pb, .string text, .agg #[.string u, .slice x 1 y]] w fun e w' => e = .returned (.bool true) ∧ Below w.heap.size w w' := by
  obtain ⟨U, hU⟩ : ∃ U, U = w.alloc (.cells #[.string u, .slice x 1 y] 28) := ⟨_, rfl⟩
  have BU : Hid (Below w.heap.size w U) := by rw [hU]; exact (Below.refl _ _).alloc (Nat.le_refl _) _
  have I2 : Hid (IHolds U w.heap.size 28 [.string u, .slice x 1 y]) := by rw [hU]; exact IHolds.new _ _ _
  have H24 : Hid (∀ W, Below w.heap.size w W → Calls Tryz.prog 24 #[.string text] W fun e w' => e = .returned (.string (sgl text)) ∧ Below W.heap.size W w') := fun W hW => signLabel24 (hT.below hW) ht
  have H25 : Hid (∀ W, Calls Tryz.prog 25 #[.int .i64 z, .string pb] W fun e w' => KeyAt w' bs pb e ∧ Below W.heap.size W w') := fun W => keyOf25 C52
  have H9 : Hid (∀ W b, Below w.heap.size w W → CK W (some ⟨b, 0, none⟩) [([bs], [pb])] → Calls Tryz.prog 9 #[.int .i64 z, .string (sgl text), .slice (some ⟨b, 0, none⟩) 1 1, .agg #[.string u, .slice x 1 y]] W fun e w' => e = .returned (.bool true) ∧ Below W.heap.size W w') := C9
  have KS : Hid (∀ V, Below U.heap.size U V → V.cell? ⟨w.heap.size, 0, none⟩ = some (.string u) ∧ V.cell? ⟨w.heap.size, 1, none⟩ = some (.slice x 1 y)) := fun V hV => ⟨(I2.out.of_below hV).cell 0 (by simp), (I2.out.of_below hV).cell 1 (by simp)⟩
  clear C52 C9 hT
  generalize sgl text = lab at *
  go_enter Tryz.func11, Tryz.ntmps11
  go_wp2_with fail
  rw [← hU]
  clear hU
  have D0 : Hid (Below U.heap.size U U.drew) := (Below.refl _ U).drew
  go_region_held3 (fun V => V.cell? ⟨w.heap.size, 0, none⟩ = some (.string u) ∧ V.cell? ⟨w.heap.size, 1, none⟩ = some (.slice x 1 y))
    (first | exact KS.out _ D0.out | exact KS.out _ D1.out | exact KS.out _ D2.out | exact KS.out _ D3.out | assumption | fail)
    (first
      | (go_at_call 24; refine (H24.out _ (BU.out.trans (D0.out.mono BU.out.size))).mono ?_; rintro e V1 ⟨rfl, hB⟩; have D1 : Hid (Below U.heap.size U V1) := D0.out.trans hB; clear hB H24)
      | (go_at_call 25; refine (H25.out _).mono ?_; rintro e V2 ⟨⟨b3, rfl, hC⟩, hB⟩; have D2 : Hid (Below U.heap.size U V2) := D1.out.trans (hB.mono D1.out.size); have K2 : Hid (CK V2 (some ⟨b3, 0, none⟩) [([bs], [pb])]) := hC; clear hC hB H25)
      | (go_at_call 9; refine (H9.out _ _ (BU.out.trans (D2.out.mono BU.out.size)) K2.out).mono ?_; rintro e V3 ⟨rfl, hB⟩; have D3 : Hid (Below U.heap.size U V3) := D2.out.trans (hB.mono D2.out.size); clear hB H9)
      | fail)
  go_wp2_with fail
  go_ret
  exact ⟨rfl, BU.out.trans (D3.out.mono BU.out.size)⟩
end Go.Proofs.YtmpiipcllgjhdaaGreatDoor
namespace Go.Proofs.YtmpiipcllgjhdaaGreatDoor
open Go.RowKit Go.Deep Go.PlainAid

set_option maxHeartbeats 1000000 in
theorem complete_none {w : World} {z : Int} {label ot seed : ByteArray} {sa : Option Addr} {n ps : Nat} (h : n = 0 ∨ 64 < n)
    (C5 : ∀ W, Calls Tryz.prog 5 #[] W fun e w' => e = .returned (.bool true) ∧ Below W.heap.size W w') {m mp : Nat}
    (C6 : ∀ W, Below w.heap.size w W → Calls Tryz.prog 6 #[.int .i64 z, .string ot, .slice sa m mp] W fun e w' => (∃ a c, e = .returned (.slice a n c)) ∧ Below W.heap.size W w') :
    Calls Tryz.prog 3 #[.int .i64 z, .string label, .string ot, .slice sa m mp, .string seed] w fun e w' => e = .returned (.bool true) ∧ Below w.heap.size w w' := by
  have H5 : Hid (∀ W, Calls Tryz.prog 5 #[] W fun e w' => e = .returned (.bool true) ∧ Below W.heap.size W w') := C5
  have H6 : Hid (∀ W, Below w.heap.size w W → Calls Tryz.prog 6 #[.int .i64 z, .string ot, .slice sa m mp] W fun e w' => (∃ a c, e = .returned (.slice a n c)) ∧ Below W.heap.size W w') := C6
  clear C5 C6
  by_cases h0 : n = 0
  · subst h0
    clear h
    go_enter Tryz.func3, Tryz.ntmps3
    go_wp2_with (first
      | (go_at_call 5; refine (H5.out _).mono ?_; rintro e V1 ⟨rfl, hB⟩; have B1 : Hid (Below w.heap.size w V1) := hB; clear hB H5)
      | (go_at_call 6; refine (H6.out _ B1.out).mono ?_; rintro e V2 ⟨⟨a2, c2, rfl⟩, hB⟩; have B2 : Hid (Below w.heap.size w V2) := B1.out.trans (hB.mono B1.out.size); clear hB H6)
      | fail)
    go_ret
    exact ⟨rfl, B2.out⟩
  · have b0 : ((n : Int) == 0) = false := by simp; omega
    have b1 : (64 : Int) < (n : Int) := by omega
    clear h h0
    go_enter Tryz.func3, Tryz.ntmps3
    go_wp2_with (first
      | (go_at_call 5; refine (H5.out _).mono ?_; rintro e V1 ⟨rfl, hB⟩; have B1 : Hid (Below w.heap.size w V1) := hB; clear hB H5)
      | (go_at_call 6; refine (H6.out _ B1.out).mono ?_; rintro e V2 ⟨⟨a2, c2, rfl⟩, hB⟩; have B2 : Hid (Below w.heap.size w V2) := B1.out.trans (hB.mono B1.out.size); clear hB H6)
      | fail)
    go_ret
    exact ⟨rfl, B2.out⟩
set_option maxHeartbeats 4000000 in
theorem complete_main {w : World} {z : Int} {label ot seed x0 pb u u1 : ByteArray} {sa : Option Addr} {n ps : Nat} {l : List Cl} {q q1 xs : List ByteArray} (hn0 : 0 < n) (hn : n ≤ 64) (hln : l.length = n) (hpb : ∀ h0 : 0 < l.length, ∃ r, (l[0]).2 = pb :: r) (hxs : SL w sa xs) (hxn : xs.length = n) (hx0 : ∀ h0 : 0 < xs.length, xs[0] = x0)
    (C5 : ∀ W, Calls Tryz.prog 5 #[] W fun e w' => e = .returned (.bool true) ∧ Below W.heap.size W w')
    (C6 : ∀ W, Below w.heap.size w W → Calls Tryz.prog 6 #[.int .i64 z, .string ot, .slice sa n ps] W fun e w' => (∃ a c, e = .returned (.slice a n c) ∧ CK w' a l) ∧ Below W.heap.size W w')
    (C7 : ∀ W a c, Below w.heap.size w W → CK W a l → Calls Tryz.prog 7 #[.int .i64 z, .slice a n c, .slice sa n ps] W fun e w' => e = .returned (.bool true) ∧ Below W.heap.size W w')
    (C8 : ∀ W a c, Below w.heap.size w W → CK W a l → Calls Tryz.prog 8 #[.int .i64 z, .string label, .slice a n c, .slice sa n ps, .string seed] W fun e w' => (∃ x y, e = .returned (.tuple #[.agg #[.string u, .slice x n y], .int .i64 0]) ∧ SY w' x y q) ∧ Below W.heap.size W w')
    (C9 : ∀ W a c x y, Below w.heap.size w W → CK W a l → SL W x q → Calls Tryz.prog 9 #[.int .i64 z, .string label, .slice a n c, .agg #[.string u, .slice x n y]] W fun e w' => e = .returned (.bool true) ∧ Below W.heap.size W w')
    (C10 : ∀ W, Below w.heap.size w W → Calls Tryz.prog 10 #[.int .i64 z, .string x0, .string label, .string seed] W fun e w' => (∃ x y, e = .returned (.tuple #[.agg #[.string u1, .slice x 1 y], .int .i64 0]) ∧ SY w' x y q1) ∧ Below W.heap.size W w')
    (C11 : ∀ W x y, Below w.heap.size w W → SL W x q1 → Calls Tryz.prog 11 #[.int .i64 z, .string pb, .string label, .agg #[.string u1, .slice x 1 y]] W fun e w' => e = .returned (.bool true) ∧ Below W.heap.size W w') :
    Calls Tryz.prog 3 #[.int .i64 z, .string label, .string ot, .slice sa n ps, .string seed] w fun e w' => e = .returned (.bool true) ∧ Below w.heap.size w w' := by
  obtain ⟨bx, ox, rfl, hcx⟩ := hxs 0 (by omega)
  rw [hx0 (by omega)] at hcx
  have H5 : Hid (∀ W, Calls Tryz.prog 5 #[] W fun e w' => e = .returned (.bool true) ∧ Below W.heap.size W w') := C5
  have H6 : Hid (∀ W, Below w.heap.size w W → Calls Tryz.prog 6 #[.int .i64 z, .string ot, .slice (some ⟨bx, ox, none⟩) n ps] W fun e w' => (∃ a c, e = .returned (.slice a n c) ∧ CK w' a l) ∧ Below W.heap.size W w') := C6
  have H7 : Hid (∀ W a c, Below w.heap.size w W → CK W a l → Calls Tryz.prog 7 #[.int .i64 z, .slice a n c, .slice (some ⟨bx, ox, none⟩) n ps] W fun e w' => e = .returned (.bool true) ∧ Below W.heap.size W w') := C7
  have H8 : Hid (∀ W a c, Below w.heap.size w W → CK W a l → Calls Tryz.prog 8 #[.int .i64 z, .string label, .slice a n c, .slice (some ⟨bx, ox, none⟩) n ps, .string seed] W fun e w' => (∃ x y, e = .returned (.tuple #[.agg #[.string u, .slice x n y], .int .i64 0]) ∧ SY w' x y q) ∧ Below W.heap.size W w') := C8
  have H9 : Hid (∀ W a c x y, Below w.heap.size w W → CK W a l → SL W x q → Calls Tryz.prog 9 #[.int .i64 z, .string label, .slice a n c, .agg #[.string u, .slice x n y]] W fun e w' => e = .returned (.bool true) ∧ Below W.heap.size W w') := C9
  have H10 : Hid (∀ W, Below w.heap.size w W → Calls Tryz.prog 10 #[.int .i64 z, .string x0, .string label, .string seed] W fun e w' => (∃ x y, e = .returned (.tuple #[.agg #[.string u1, .slice x 1 y], .int .i64 0]) ∧ SY w' x y q1) ∧ Below W.heap.size W w') := C10
  have H11 : Hid (∀ W x y, Below w.heap.size w W → SL W x q1 → Calls Tryz.prog 11 #[.int .i64 z, .string pb, .string label, .agg #[.string u1, .slice x 1 y]] W fun e w' => e = .returned (.bool true) ∧ Below W.heap.size W w') := C11
  have HX : Hid (∀ V, Below w.heap.size w V → V.cell? ⟨bx, ox, none⟩ = some (.string x0)) := fun V hV => cell_keep hcx hV
  have HP : Hid (∀ V a, CK V a l → ∃ b o a2 c2 n2 b2 o2, a = some ⟨b, o, none⟩ ∧ V.cell? ⟨b, o + 1, none⟩ = some (.slice (some ⟨b2, o2, none⟩) n2 c2) ∧ 0 < n2 ∧ V.cell? ⟨b2, o2, none⟩ = some (.string pb) ∧ a2 = a) := fun V a hC => by
    obtain ⟨b, o, a1, c1, a2, c2, e, _, h2, _, h4⟩ := hC 0 (by omega)
    obtain ⟨r, hr⟩ := hpb (by omega)
    obtain ⟨b2, o2, e2, h5⟩ := h4.sl 0 (by rw [hr]; simp)
    refine ⟨b, o, a, c2, (l[0]'(by omega)).2.length, b2, o2, e, ?_, ?_, ?_, rfl⟩
    · rw [← e2]; simpa using h2
    · rw [hr]; simp
    · simpa [hr] using h5
  have b0 : ((n : Int) == 0) = false := by simp; omega
  have b1 : ¬ (64 : Int) < (n : Int) := by omega
  have b2 : (0 : Int) < (n : Int) := by omega
  clear C5 C6 C7 C8 C9 C10 C11 hcx hx0 hpb hxs hln hxn
  go_enter Tryz.func3, Tryz.ntmps3
  go_upto_region 9 with (first
    | (go_at_call 5; refine (H5.out _).mono ?_; rintro e V1 ⟨rfl, hB⟩; have B1 : Hid (Below w.heap.size w V1) := hB; clear hB H5)
    | (go_at_call 6; refine (H6.out _ B1.out).mono ?_; rintro e V2 ⟨⟨a, c, rfl, hC⟩, hB⟩; have B2 : Hid (Below w.heap.size w V2) := B1.out.trans (hB.mono B1.out.size); have K2 : Hid (CK V2 a l) := hC; clear hC hB H6 B1)
    | (go_at_call 7; refine (H7.out _ _ _ B2.out K2.out).mono ?_; rintro e V3 ⟨rfl, hB⟩; have B3 : Hid (Below w.heap.size w V3) := B2.out.trans (hB.mono B2.out.size); have K3 : Hid (CK V3 a l) := K2.out.of_below hB; clear hB H7 B2 K2)
    | (go_at_call 8; refine (H8.out _ _ _ B3.out K3.out).mono ?_; rintro e V4 ⟨⟨x4, y4, rfl, hQ⟩, hB⟩; have B4 : Hid (Below w.heap.size w V4) := B3.out.trans (hB.mono B3.out.size); have K4 : Hid (CK V4 a l) := K3.out.of_below hB; have Q4 : Hid (SL V4 x4 q) := hQ.sk.sl; clear hQ hB H8 B3 K3)
    | fail)
  obtain ⟨X, hX⟩ : ∃ X, X = V4.alloc (.cells #[.string u, .slice x4 n y4] 28) := ⟨_, rfl⟩
  have BX : Hid (Below V4.heap.size V4 X) := by rw [hX]; exact (Below.refl _ _).alloc (Nat.le_refl _) _
  have X1 : Hid (IHolds X V4.heap.size 28 [.string u, .slice x4 n y4]) := by rw [hX]; exact IHolds.new _ _ _
  have K5 : Hid (CK X a l) := K4.out.of_below BX.out
  have Q5 : Hid (SL X x4 q) := Q4.out.of_below BX.out
  have B5 : Hid (Below w.heap.size w X) := B4.out.trans (BX.out.mono B4.out.size)
  rw [← hX]
  have c0 := X1.out.cell 0 (by simp)
  have c1 := X1.out.cell 1 (by simp)
  generalize V4.heap.size = bp at *
  clear hX BX K4 Q4 B4
  go_upto_region 12 with (first
    | (go_at_call 9; refine (H9.out _ _ _ _ _ B5.out K5.out Q5.out).mono ?_; rintro e V6 ⟨rfl, hB⟩; have B6 : Hid (Below w.heap.size w V6) := B5.out.trans (hB.mono B5.out.size); have K6 : Hid (CK V6 a l) := K5.out.of_below hB; have d0 := HX.out _ B6.out; clear hB H9 B5 K5 Q5 c0 c1 X1)
    | (go_at_call 10; refine (H10.out _ B6.out).mono ?_; rintro e V7 ⟨⟨x7, y7, rfl, hQ⟩, hB⟩; have B7 : Hid (Below w.heap.size w V7) := B6.out.trans (hB.mono B6.out.size); have K7 : Hid (CK V7 a l) := K6.out.of_below hB; have Q7 : Hid (SL V7 x7 q1) := hQ.sk.sl; clear hQ hB H10 B6 K6 d0)
    | fail)
  obtain ⟨Y, hY⟩ : ∃ Y, Y = V7.alloc (.cells #[.string u1, .slice x7 1 y7] 28) := ⟨_, rfl⟩
  have BY : Hid (Below V7.heap.size V7 Y) := by rw [hY]; exact (Below.refl _ _).alloc (Nat.le_refl _) _
  have Y1 : Hid (IHolds Y V7.heap.size 28 [.string u1, .slice x7 1 y7]) := by rw [hY]; exact IHolds.new _ _ _
  have K8 : Hid (CK Y a l) := K7.out.of_below BY.out
  have Q8 : Hid (SL Y x7 q1) := Q7.out.of_below BY.out
  have B8 : Hid (Below w.heap.size w Y) := B7.out.trans (BY.out.mono B7.out.size)
  rw [← hY]
  generalize V7.heap.size = br at *
  clear hY BY K7 Q7 B7
  obtain ⟨b, o, _, c2, n2, bb, oo', rfl, e1, e2, e3, _⟩ := HP.out _ _ K8.out
  have e4 : (0 : Int) < (n2 : Int) := by omega
  have KS : Hid (∀ V, Below Y.heap.size Y V → V.cell? ⟨b, o + 1, none⟩ = some (.slice (some ⟨bb, oo', none⟩) n2 c2) ∧ V.cell? ⟨bb, oo', none⟩ = some (.string pb) ∧ V.cell? ⟨br, 0, none⟩ = some (.string u1) ∧ V.cell? ⟨br, 1, none⟩ = some (.slice x7 1 y7)) := fun V hV => ⟨cell_keep e1 hV, cell_keep e3 hV, cell_keep (Y1.out.cell 0 (by simp)) hV, cell_keep (Y1.out.cell 1 (by simp)) hV⟩
  have D0 : Hid (Below Y.heap.size Y Y.drew) := (Below.refl _ Y).drew
  clear e1 e3
  go_region_held3 (fun V => V.cell? ⟨b, o + 1, none⟩ = some (.slice (some ⟨bb, oo', none⟩) n2 c2) ∧ V.cell? ⟨bb, oo', none⟩ = some (.string pb) ∧ V.cell? ⟨br, 0, none⟩ = some (.string u1) ∧ V.cell? ⟨br, 1, none⟩ = some (.slice x7 1 y7))
    (first | exact KS.out _ D0.out | exact KS.out _ D1.out | assumption | fail)
    (first
      | (go_at_call 11; refine (H11.out _ _ _ (B8.out.trans (D0.out.mono B8.out.size)) (Q8.out.of_below D0.out)).mono ?_; rintro e V9 ⟨rfl, hB⟩; have D1 : Hid (Below Y.heap.size Y V9) := D0.out.trans hB; clear hB H11)
      | fail)
  go_wp2_with fail
  go_ret
  exact ⟨rfl, B8.out.trans (D1.out.mono B8.out.size)⟩
end Go.Proofs.YtmpiipcllgjhdaaGreatDoor
namespace Go.Proofs.YtmpiipcllgjhdaaGreatDoor
open Go.RowKit Go.Deep Go.PlainAid

theorem two_sk {w : World} {b : Nat} {x y : ByteArray} (h : IHolds w b 9 [.string x, .string y]) : SK w (some ⟨b, 0, none⟩) 2 [x, y] := ⟨two_sl h, Nat.le_refl _⟩
theorem MD.ck {w : World} {b0 : Nat} {v : Value} {xs : List ByteArray} {f g : ByteArray → ByteArray} {bs ot : ByteArray} {B : List (Nat × Nat)} (h : MD w b0 v xs f g bs ot B) : ∃ a c, v = .slice a xs.length c ∧ CK w a (xs.map fun x => ([bs, ot], [f x, g x])) := by
  obtain ⟨hl, ⟨rfl, h0⟩ | ⟨r, cap, cur, rfl, q1, hg, q2, q3, q4, q5⟩⟩ := h.own
  · exact ⟨none, 0, by rw [h0], fun i hi => by simp at hi; omega⟩
  · refine ⟨_, _, rfl, fun i hi => ?_⟩
    have hi' : i < xs.length := by simpa using hi
    have hB : i < B.length := by rw [h.len]; exact hi'
    obtain ⟨k1, k2, _, _⟩ := h.each i hB hi'
    obtain ⟨g1, g2⟩ := cellsC_at B i hB
    have cell : ∀ j u, j < xs.length * 2 → (cellsC B)[j]? = some u → w.cell? ⟨r, 0 + j, none⟩ = some u := fun j u hj hu => by
      rw [← q5, List.getElem?_take_of_lt hj, Array.getElem?_toList] at hu
      rw [Nat.zero_add]
      unfold World.cell?
      simp [hg, hu]
    refine ⟨r, 0, some ⟨(B[i]).1, 0, none⟩, 2, some ⟨(B[i]).2, 0, none⟩, 2, rfl, ?_, ?_, ?_, ?_⟩
    · simpa using cell _ _ (by omega) g1
    · have := cell _ _ (by omega) g2
      simpa [Nat.add_assoc] using this
    · simpa using two_sk k1
    · simpa using two_sk k2

section
variable {z : Int} {G : Array Value} {S Wd M low one sq Ri Wd2 M2 low2 one2 sq2 Ri2 : Nat}
theorem nd_pow (h : PK S M M2) {a : Nat} (ha : ¬ M2 ∣ a) : ∀ n, ¬ M2 ∣ a ^ n
  | 0 => by
    intro hd
    have := Nat.le_of_dvd (by simp) hd
    have := h.m1
    have := h.e2
    simp at *
    omega
  | n + 1 => by
    rw [Nat.pow_succ]
    intro hd
    rcases IsP.euclid h.hp hd with h1 | h1
    · exact nd_pow h ha n h1
    · exact ha h1
theorem pf_el (k : KD z G S Wd M low one sq Ri Wd2 M2 low2 one2 sq2 Ri2) (h : PK S M M2) {A : Nat} (hA : ¬ M2 ∣ A) (x : ByteArray) : isEl S M (pf S M M2 A x) = true := elE k h (nd_pow h hA _)
theorem pf_EX (h : PK S M M2) (A : Nat) (x : ByteArray) : EX S M M2 (numS (EX S M M2 A) ^ numS x) = pf S M M2 A x := by
  rw [numS_EX h]
  unfold EX pf
  rw [E_of_E h.hq h.e2]
  rfl
/-- What is made of secrets, as a list of claims. -/
def cls (S M M2 A : Nat) (xs : List ByteArray) : List Cl := xs.map fun x => ([EX S M M2 2, EX S M M2 A], [pf S M M2 2 x, pf S M M2 A x])
theorem cls_len (S M M2 A : Nat) (xs : List ByteArray) : (cls S M M2 A xs).length = xs.length := by simp [cls]
theorem cls_ok (k : KD z G S Wd M low one sq Ri Wd2 M2 low2 one2 sq2 Ri2) (h : PK S M M2) {A : Nat} (hA : ¬ M2 ∣ A) {xs : List ByteArray} (h0 : 0 < xs.length) (h1 : xs.length ≤ 64) : OkC (isEl S M) (cls S M M2 A xs) :=
  ⟨by rw [cls_len]; exact h0, by rw [cls_len]; exact h1, fun i hi => by simp [cls], fun i hi => by simp [cls, elE k h h.n2, elE k h hA, pf_el k h h.n2, pf_el k h hA]⟩
theorem cls_hold (h : PK S M M2) (A : Nat) (xs : List ByteArray) : (cls S M M2 A xs).map Prod.snd = fsG S M M2 (cls S M M2 A xs) xs := by
  refine List.ext_getElem (by simp [cls, fsG]) (fun i h1 h2 => ?_)
  simp [cls, fsG, pf_EX h]
/-- A key's one claim. -/
def key (S M M2 : Nat) (x : ByteArray) : List Cl := [([EX S M M2 2], [pf S M M2 2 x])]
theorem key_ok (k : KD z G S Wd M low one sq Ri Wd2 M2 low2 one2 sq2 Ri2) (h : PK S M M2) (x : ByteArray) : OkC (isEl S M) (key S M M2 x) :=
  ⟨by simp [key], by simp [key], fun i hi => by simp [key], fun i hi => by simp [key, elE k h h.n2, pf_el k h h.n2]⟩
theorem key_hold (h : PK S M M2) (x : ByteArray) : (key S M M2 x).map Prod.snd = fsG S M M2 (key S M M2 x) [x] := by
  simp [key, fsG, pf_EX h]
theorem B52 (k : KD z G S Wd M low one sq Ri Wd2 M2 low2 one2 sq2 Ri2) (h : PK S M M2) (W : World) : Calls Tryz.prog 52 #[.agg #[.int .i64 z]] W fun e w' => e = .returned (.string (EX S M M2 2)) ∧ Below W.heap.size W w' := base52 (fun V => BAS k h V)

theorem complete_kind (k : KD z G S Wd M low one sq Ri Wd2 M2 low2 one2 sq2 Ri2) (h : PK S M M2) (w : World) (hT : TT w) (label ot seed : ByteArray) (hlb : label.size < 1125899906842624) (hsd : seed.size < 1125899906842624) {sa : Option Addr} {ps : Nat} {xs : List ByteArray} (hx : SL w sa xs) (hxl : xs.length ≤ 1048576) :
    Calls Tryz.prog 3 #[.int .i64 z, .string label, .string ot, .slice sa xs.length ps, .string seed] w fun e w' => e = .returned (.bool true) ∧ Below w.heap.size w w' := by
  cases hot : isEl S M ot with
  | false =>
    refine complete_none (n := 0) (ps := 0) (Or.inl rfl) alive_any (fun W hW => (made12_no2 (fun V => BAS k h V) (fun V => MEM k hot V)).mono ?_)
    rintro e w' ⟨rfl, hB⟩
    exact ⟨⟨_, _, rfl⟩, hB⟩
  | true =>
    obtain ⟨A, hA, nA⟩ : ∃ A, EX S M M2 A = ot ∧ ¬ M2 ∣ A := ⟨numS ot, el_EX h hot, el_nd h hot⟩
    subst hA
    cases hall : xs.all (isSc S M) with
    | false =>
      refine complete_none (n := 0) (ps := 0) (Or.inl rfl) alive_any (fun W hW => (MADE k h nA hxl (c := ps) (hx.of_below hW)).mono ?_)
      rintro e w' ⟨⟨hf, _⟩ | ⟨_, rfl⟩, hB⟩
      · rw [hall] at hf; cases hf
      · exact ⟨⟨_, _, rfl⟩, hB⟩
    | true =>
      have CC : ∀ W, Below w.heap.size w W → Calls Tryz.prog 6 #[.int .i64 z, .string (EX S M M2 A), .slice sa xs.length ps] W fun e w' => (∃ a c, e = .returned (.slice a xs.length c) ∧ CK w' a (cls S M M2 A xs)) ∧ Below W.heap.size W w' := fun W hW => by
        refine (MADE k h nA hxl (c := ps) (hx.of_below hW)).mono ?_
        rintro e w' ⟨⟨_, v, B, rfl, hm⟩ | ⟨hf, _⟩, hB⟩
        · obtain ⟨a, c, rfl, hcm⟩ := hm.ck
          exact ⟨⟨a, c, rfl, hcm⟩, hB⟩
        · rw [hall] at hf; cases hf
      by_cases nn : xs.length = 0 ∨ 64 < xs.length
      · refine complete_none (n := xs.length) (ps := 0) nn alive_any (fun W hW => (CC W hW).mono ?_)
        rintro e w' ⟨⟨a, c, rfl, _⟩, hB⟩
        exact ⟨⟨_, _, rfl⟩, hB⟩
      · have n0 : 0 < xs.length := by omega
        have n64 : xs.length ≤ 64 := by omega
        obtain ⟨x0, hx0⟩ : ∃ x0, xs[0] = x0 := ⟨_, rfl⟩
        have sc0 : isSc S M x0 = true := by rw [← hx0]; exact List.all_eq_true.1 hall _ (List.getElem_mem n0)
        have ok := cls_ok k h nA n0 n64
        have ko := key_ok k h x0
        have cl : xs.length = (cls S M M2 A xs).length := (cls_len S M M2 A xs).symm
        refine complete_main (u := TX S (chT z M (cls S M M2 A xs) label (fsG S M M2 (cls S M M2 A xs) (nsT z S M (cls S M M2 A xs) label seed)))) (q := ansL S M (chT z M (cls S M M2 A xs) label (fsG S M M2 (cls S M M2 A xs) (nsT z S M (cls S M M2 A xs) label seed))) (nsT z S M (cls S M M2 A xs) label seed) xs) (u1 := TX S (chT z M (key S M M2 x0) (sgl label) (fsG S M M2 (key S M M2 x0) (nsT z S M (key S M M2 x0) (sgl label) seed)))) (q1 := ansL S M (chT z M (key S M M2 x0) (sgl label) (fsG S M M2 (key S M M2 x0) (nsT z S M (key S M M2 x0) (sgl label) seed))) (nsT z S M (key S M M2 x0) (sgl label) seed) [x0]) (x0 := x0) (pb := pf S M M2 2 x0) (l := cls S M M2 A xs) (xs := xs) n0 n64 (cls_len _ _ _ _ _) (fun h0 => ⟨[pf S M M2 A x0], by simp [cls, hx0]⟩) hx rfl (fun _ => hx0) alive_any CC ?_ ?_ ?_ ?_ ?_
        · intro W a c hW hC
          have q := HOLG k h ok (c := c) (d := ps) hC.cm (hx.of_below hW) cl hall
          rw [decide_eq_true (cls_hold h A xs), cls_len] at q
          exact q
        · intro W a c hW hC
          have q := PRV k h ok (c := c) (c2 := ps) (hT.below hW) hlb hsd hC (hx.of_below hW) cl hall (cls_hold h A xs)
          rw [cls_len] at q
          exact q
        · intro W a c x y hW hC hq
          have q := VRF k h ok (c := c) (y := y) (hT.below hW) hlb hC cl (cls_hold h A xs) hq
          rw [cls_len] at q
          exact q
        · intro W hW
          refine sign10 (bs := EX S M M2 2) (pb := pf S M M2 2 x0) (hT.below hW) hlb (fun V => public23 (fun X => B52 k h X) (fun X => pow_ok k h h.n2 sc0 X)) (fun V => B52 k h V) (fun V b b2 hV hC hs => ?_)
          exact PRV k h ko (label := sgl label) (ms := [x0]) hV (by rw [sgl_size]; decide) hsd hC hs rfl (by simp [sc0]) (key_hold h x0)
        · intro W x y hW hs
          refine signed11 (bs := EX S M M2 2) (hT.below hW) hlb (fun V => B52 k h V) (fun V b hV hC => ?_)
          exact VRF k h ko (label := sgl label) (ms := [x0]) ((hT.below hW).below hV) (by rw [sgl_size]; decide) hC rfl (key_hold h x0) (hs.of_below hV)
end
theorem complete_walk (z : Int) (w : World) (hT : TT w) (label ot seed : ByteArray) (hlb : label.size < 1125899906842624) (hsd : seed.size < 1125899906842624) {sa : Option Addr} {ps : Nat} {xs : List ByteArray} (hx : SL w sa xs) (hxl : xs.length ≤ 1048576) :
    Calls Tryz.prog 3 #[.int .i64 z, .string label, .string ot, .slice sa xs.length ps, .string seed] w fun e w' => e = .returned (.bool true) ∧ Below w.heap.size w w' := by
  by_cases z1 : z = 1
  · subst z1; exact complete_kind kd1 pk1 w hT label ot seed hlb hsd hx hxl
  by_cases z2 : z = 2
  · subst z2; exact complete_kind kd2 pk2 w hT label ot seed hlb hsd hx hxl
  by_cases z3 : z = 3
  · subst z3; exact complete_kind kd3 pk3 w hT label ot seed hlb hsd hx hxl
  have G := fun W => ground0 W z (beq_eq_false_iff_ne.2 z1) (beq_eq_false_iff_ne.2 z2) (beq_eq_false_iff_ne.2 z3)
  refine complete_none (n := 0) (ps := 0) (Or.inl rfl) alive_any (fun W hW => (made12_no1 (c := 1) (by decide) (fun V => base_call (on48_no 34 rfl size70 (by kernel_rfl) G))).mono ?_)
  rintro e w' ⟨rfl, hB⟩
  exact ⟨⟨_, _, rfl⟩, hB⟩
end Go.Proofs.YtmpiipcllgjhdaaGreatDoor
namespace Go.Proofs.YtmpiipcllgjhdaaGreatDoor
open Go.RowKit Go.Deep Go.PlainAid

/-- What is wrong with lists of claims: too long, no form, no elements. -/
def Bad (k : Int) : Prop := k = 2 ∨ k = 3 ∨ k = 7
def SetR (p : ByteArray → Bool) (z : Int) (a : Option Addr) (l : List Cl) (c : Nat) (e : Ending) : Prop :=
  (OkC p l ∧ e = .returned (.tuple #[.agg #[.int .i64 z, .slice a l.length c], .int .i64 0])) ∨ (¬ OkC p l ∧ ∃ k, Bad k ∧ e = .returned (.tuple #[.agg #[.int .i64 0, .slice none 0 0], .int .i64 k]))
theorem set40 {w : World} {a : Option Addr} {l : List Cl} {c : Nat} {z : Int} {p : ByteArray → Bool} (hl : l.length ≤ 1048576) (hb : ∀ i (h : i < l.length), (l[i]).1.length ≤ 1048576 ∧ (l[i]).2.length ≤ 1048576) (hs : CM w a l)
    (CN : ∀ s W, Calls Tryz.prog 138 #[.agg #[.int .i64 z], .string s] W fun e w' => e = .returned (.bool (!p s)) ∧ Below W.heap.size W w') :
    Calls Tryz.prog 40 #[.agg #[.int .i64 z], .slice a l.length c] w fun e w' => SetR p z a l c e ∧ Below w.heap.size w w' := by
  have H1 : ∀ W, Below w.heap.size w W → Calls Tryz.prog 71 #[.slice a l.length c, .func (.func 72) #[] #[]] W fun e w' => e = .returned (.bool (l.any tooL)) ∧ Below W.heap.size W w' := fun W hB => contains37_38 tooL (by omega) (hs.of_below hB) (fun i hi a1 c1 a2 c2 V hV h1 h2 => tooLong38)
  have H2 : ∀ W, Below w.heap.size w W → Calls Tryz.prog 71 #[.slice a l.length c, .func (.func 73) #[] #[]] W fun e w' => e = .returned (.bool (l.any unev)) ∧ Below W.heap.size W w' := fun W hB => contains37_39 unev (by omega) (hs.of_below hB) (fun i hi a1 c1 a2 c2 V hV h1 h2 => uneven39)
  have H3 : ∀ W, Below w.heap.size w W → Calls Tryz.prog 71 #[.slice a l.length c, .func (.func 74) #[.agg #[.int .i64 z]] #[]] W fun e w' => e = .returned (.bool (l.any (stra p))) ∧ Below W.heap.size W w' := fun W hB => contains37_40 (stra p) (by omega) (hs.of_below hB) (fun i hi a1 c1 a2 c2 V hV h1 h2 => strange40 (by have := hb i hi; omega) (by have := hb i hi; omega) h1 h2 CN)
  have fin : ∀ {k : Int}, Bad k → ¬ OkC p l → (Calls Tryz.prog 40 #[.agg #[.int .i64 z], .slice a l.length c] w fun e w' => e = .returned (.tuple #[.agg #[.int .i64 0, .slice none 0 0], .int .i64 k]) ∧ Below w.heap.size w w') → Calls Tryz.prog 40 #[.agg #[.int .i64 z], .slice a l.length c] w fun e w' => SetR p z a l c e ∧ Below w.heap.size w w' := fun hk hn q => q.mono fun e w' ⟨h1, h2⟩ => ⟨Or.inr ⟨hn, _, hk, h1⟩, h2⟩
  by_cases h64 : 64 < l.length
  · exact fin (Or.inr (Or.inl rfl)) (fun ok => by have := ok.most; omega) (set18_A (by omega))
  cases e1 : l.any tooL with
  | true =>
    rw [e1] at H1
    refine fin (Or.inr (Or.inl rfl)) (fun ok => ?_) (set18_B (by omega) H1)
    obtain ⟨x, hx, h⟩ := List.any_eq_true.1 e1
    obtain ⟨i, hi, rfl⟩ := List.getElem_of_mem hx
    have := ok.few i hi
    simp [tooL] at h
    omega
  | false =>
    rw [e1] at H1
    by_cases h0 : l.length = 0
    · exact fin (Or.inl rfl) (fun ok => by have := ok.pos; omega) (set18_C (by omega) (by simp [h0]) H1)
    have g2 : ((l.length : Int) == 0) = false := beq_eq_false_iff_ne.2 (by omega)
    cases e2 : l.any unev with
    | true =>
      rw [e2] at H2
      refine fin (Or.inl rfl) (fun ok => ?_) (set18_D (by omega) g2 H1 H2)
      obtain ⟨x, hx, h⟩ := List.any_eq_true.1 e2
      obtain ⟨i, hi, rfl⟩ := List.getElem_of_mem hx
      have := ok.few i hi
      simp [unev] at h
      rcases h with h | h
      · have e : (l[i]).1.length = 0 := by rw [h]; rfl
        omega
      · omega
    | false =>
      rw [e2] at H2
      cases e3 : l.any (stra p) with
      | true =>
        rw [e3] at H3
        refine fin (Or.inr (Or.inr rfl)) (fun ok => ?_) (set18_E (by omega) g2 H1 H2 H3)
        obtain ⟨x, hx, h⟩ := List.any_eq_true.1 e3
        obtain ⟨i, hi, rfl⟩ := List.getElem_of_mem hx
        have q := ok.el i hi
        simp [stra, q.1, q.2] at h
      | false =>
        have ok : OkC p l := by
          refine ⟨by omega, by omega, fun i hi => ?_, fun i hi => ?_⟩
          · have t1 := List.any_eq_false.1 e1 _ (List.getElem_mem hi)
            have t2 := List.any_eq_false.1 e2 _ (List.getElem_mem hi)
            simp only [tooL, unev, Bool.or_eq_true, decide_eq_true_eq] at t1 t2
            omega
          · have t3 := List.any_eq_false.1 e3 _ (List.getElem_mem hi)
            simp only [stra, Bool.or_eq_true, Bool.not_eq_true', not_or, Bool.not_eq_false] at t3
            exact t3
        exact (set83 ok hs CN).mono fun e w' ⟨h1, h2⟩ => ⟨Or.inl ⟨ok, h1⟩, h2⟩

/-- Lists of lists of claims, where their headers are known. -/
def LQ (w : World) (a : Option Addr) (qa : Nat → Option Addr) (qc : Nat → Nat) (L : List (List Cl)) : Prop := ∀ i (h : i < L.length), ∃ b o, a = some ⟨b, o, none⟩ ∧ w.cell? ⟨b, o + i, none⟩ = some (.slice (qa i) (L[i]).length (qc i)) ∧ CK w (qa i) L[i]
theorem LQ.of_below {w w' : World} {a : Option Addr} {qa : Nat → Option Addr} {qc : Nat → Nat} {L : List (List Cl)} (h : LQ w a qa qc L) (hb : Below w.heap.size w w') : LQ w' a qa qc L := fun i hi => by
  obtain ⟨b, o, e, h1, h2⟩ := h i hi
  exact ⟨b, o, e, cell_keep h1 hb, h2.of_below hb⟩
def valS (z : Int) (qa : Nat → Option Addr) (qc : Nat → Nat) (L : List (List Cl)) (j : Nat) : Value := if j % 2 = 0 then .int .i64 z else .slice (qa (j / 2)) (L.getD (j / 2) []).length (qc (j / 2))
def zerS (j : Nat) : Value := if j % 2 = 0 then .int .i64 0 else .slice none 0 0
def rowS (z : Int) (qa : Nat → Option Addr) (qc : Nat → Nat) (L : List (List Cl)) (i : Nat) : List Value := (List.range (L.length * 2)).map fun j => if j < i * 2 then valS z qa qc L j else zerS j
theorem rowS_len (z : Int) (qa : Nat → Option Addr) (qc : Nat → Nat) (L : List (List Cl)) (i : Nat) : (rowS z qa qc L i).length = L.length * 2 := by simp [rowS]
theorem rowS_set {z : Int} {qa : Nat → Option Addr} {qc : Nat → Nat} {L : List (List Cl)} {i : Nat} (h : i < L.length) : ((rowS z qa qc L i).set (i * 2) (.int .i64 z)).set (i * 2 + 1) (.slice (qa i) (L[i]).length (qc i)) = rowS z qa qc L (i + 1) := by
  refine List.ext_getElem (by simp [rowS]) (fun j h1 h2 => ?_)
  have hj : j < L.length * 2 := by simpa [rowS] using h2
  rw [List.getElem_set, List.getElem_set]
  by_cases e1 : i * 2 + 1 = j
  · subst e1
    have d : (i * 2 + 1) / 2 = i := by omega
    have m : ¬ (i * 2 + 1) % 2 = 0 := by omega
    simp [rowS, valS, d, m, h, show i * 2 + 1 < (i + 1) * 2 by omega]
  · rw [if_neg e1]
    by_cases e2 : i * 2 = j
    · subst e2
      simp [rowS, valS, show i * 2 < (i + 1) * 2 by omega]
    · rw [if_neg e2]
      simp only [rowS, List.getElem_map, List.getElem_range]
      by_cases h3 : j < i * 2
      · rw [if_pos h3, if_pos (by omega)]
      · rw [if_neg h3, if_neg (by omega)]
theorem Tryz.info53' : (Tryz.prog.info? 53).map (fun i => (i.zero, i.size, i.bytes)) = some (some (.agg #[.int .i64 0, .slice none 0 0]), 2, 32) := by kernel_rfl
theorem Tryz.under63 : Tryz.prog.underlying 63 = some (.slice 53) := by kernel_rfl
theorem make63 (n : Nat) (hn : n ≤ 4294967296) (z : Int) (qa : Nat → Option Addr) (qc : Nat → Nat) (L : List (List Cl)) (e : L.length = n) (w : World) : (Instr.makeSlice 63 (.int .i64 (n : Int)) (.int .i64 (n : Int))).run Tryz.prog w = .ok (.slice (some ⟨w.heap.size, 0, none⟩) n n) (w.alloc (.cells (rowS z qa qc L 0).toArray 53)) := by
  obtain ⟨i0, hi0, hz0, hz1, hz2⟩ := info_parts Tryz.info53'
  have hr := run_make (P := Tryz.prog) w 63 53 i0 _ Tryz.under63 hi0 hz0 .i64 .i64 n n (by omega) (Int.le_refl _) (by rw [hz2]; omega) (by omega)
  rw [hr, hz1]
  have e : madeCells (Value.agg #[.int .i64 0, .slice none 0 0]).cells ((n : Int).toNat * 2) = (rowS z qa qc L 0).toArray := by
    have ec : (Value.agg #[.int .i64 0, .slice none 0 0]).cells = #[.int .i64 0, .slice none 0 0] := rfl
    rw [ec]
    apply Array.toList_inj.1
    simp only [madeCells, rowS, Int.toNat_natCast, e]
    rw [Array.toList_map, Array.toList_range]
    refine List.map_congr_left fun j _ => ?_
    have hj : j % 2 = 0 ∨ j % 2 = 1 := by omega
    rcases hj with hj | hj
    · simp [zerS, hj]
    · simp [zerS, hj]
  rw [e]
  simp

end Go.Proofs.YtmpiipcllgjhdaaGreatDoor
