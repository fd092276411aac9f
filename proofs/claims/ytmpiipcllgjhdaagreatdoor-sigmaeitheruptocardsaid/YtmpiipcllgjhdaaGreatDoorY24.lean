/- Prove of sets. -/
import Derived.Test.YtmpiipcllgjhdaaGreatDoorY23
set_option linter.unusedSimpArgs false
set_option linter.unusedVariables false
set_option maxRecDepth 100000
namespace Go.Proofs.YtmpiipcllgjhdaaGreatDoor
open Go.RowKit Go.Deep Go.PlainAid

theorem half_at {q : List ByteArray} {n i k : Nat} (hq : q.length = n) (hi : i < n) (hi' : i < q.length) (hk : i < k) : (half q n k)[i]'(by unfold half; simp; omega) = .string q[i] := by
  unfold half
  rw [List.getElem_append_left (by simp; omega)]
  simp
def othB : ByteArray := ⟨#[111, 116, 104, 101, 114]⟩
theorem SL.low {w w' : World} {a : Option Addr} {l : List ByteArray} (h : SL w a l) (hb : Below w.heap.size w w') : SL w' a l := h.of_below hb
set_option maxHeartbeats 1000000 in
theorem prove27 {w : World} {z : Int} {b c which mm c2 S M : Nat} {a2 : Option Addr} {qa : Nat → Option Addr} {qc : Nat → Nat} {L : List (List Cl)} {label seed tot u : ByteArray} {chs q : List ByteArray} {Q : List (List ByteArray)} {Bk : List (List (List ByteArray))} {fs fc : Nat → ByteArray} (hL : L.length ≤ 16) (hw : which < L.length) (hT : TT w) (hlb : label.size < 1125899906842624) (hsd : seed.size < 1125899906842624) (hI : IHolds w b 53 (rowS z qa qc L L.length)) (hC : ∀ i (h : i < L.length), CK w (qa i) (L[i]'h)) (hm : ∀ i (h : i < L.length), (L[i]'h).length ≤ 64)
    (hz : ∀ i (h : i < L.length) j (h' : j < (L[i]'h).length), Zl ((L[i]'h)[j]'h').1 ∧ Zl ((L[i]'h)[j]'h').2)
    (hxl : chs.length = L.length) (hvl : Q.length = L.length) (hbl : Bk.length = L.length) (hb64 : ∀ i (h : i < Bk.length), (Bk[i]'h).length ≤ 64) (hbz : ∀ i (h : i < Bk.length) j (h' : j < (Bk[i]'h).length), Zl ((Bk[i]'h)[j]'h'))
    (f0 : fs 0 = sy (eitS L (st0 z eitB label)) sedB seed) (hfw : ∀ i (h : i < chs.length), i = which → (chs[i]'h) = TX S 0 ∧ fc i = fs i) (hfo : ∀ i (h : i < chs.length), i ≠ which → (chs[i]'h) = TX S (askN othB (fs i) M) ∧ fc i = ak othB (fs i))
    (hQ : ∀ i (h : i < L.length) (h' : i < Q.length), (Q[i]'h') = nonL S M (L[i]'h).length (fc i)) (hfs : ∀ i (h : i < L.length), fs (i + 1) = nonS (L[i]'h).length (fc i))
    (CH47 : ∀ i (h1 : i < L.length) (h2 : i < Q.length) (h3 : i < Bk.length) W x y, i = which → Below w.heap.size w W → SL W x (Q[i]'h2) → Calls Tryz.prog 47 #[.agg #[.int .i64 z, .slice (qa i) (L[i]'h1).length (qc i)], .slice x (Q[i]'h2).length y] W fun e w' => (∃ a' c', e = .returned (.slice a' (Bk[i]'h3).length c') ∧ SLL w' a' (Bk[i]'h3)) ∧ Below W.heap.size W w')
    (CH51 : ∀ i (h1 : i < L.length) (h2 : i < Q.length) (h3 : i < Bk.length) (h4 : i < chs.length) W x y, i ≠ which → Below w.heap.size w W → SL W x (Q[i]'h2) → Calls Tryz.prog 51 #[.agg #[.int .i64 z, .slice (qa i) (L[i]'h1).length (qc i)], .string (chs[i]'h4), .slice x (Q[i]'h2).length y] W fun e w' => (∃ a' c', e = .returned (.slice a' (Bk[i]'h3).length c') ∧ SLL w' a' (Bk[i]'h3)) ∧ Below W.heap.size W w')
    (CHCC : ∀ n w0 W tb s lab, TW n w0 W tb s → 3 < n → lab.size < 1125899906842624 → Calls Tryz.prog 48 #[.agg #[.int .i64 z], .pointer (some ⟨tb, 0, none⟩), .string lab] W fun e w' => e = .returned (.string (TX S (askN lab s M))) ∧ TW n w0 w' tb (ak lab s) ∧ F.But tb W w')
    (CH56 : ∀ W, Calls Tryz.prog 56 #[.agg #[.int .i64 z]] W fun e w' => e = .returned (.string (TX S 0)) ∧ Below W.heap.size W w')
    (CH58 : ∀ W x, SL W x chs → Calls Tryz.prog 58 #[.agg #[.int .i64 z, .slice (some ⟨b, 0, none⟩) L.length c], .slice x L.length L.length] W fun e w' => e = .returned (.string tot) ∧ Below W.heap.size W w')
    (CH57 : ∀ W, Calls Tryz.prog 57 #[.agg #[.int .i64 z], .string (TX S (askN chaB (verS Bk (eitS L (st0 z eitB label))) M)), .string tot] W fun e w' => e = .returned (.string u) ∧ Below W.heap.size W w')
    (CH49 : ∀ (h1 : which < L.length) (h2 : which < Q.length) W x y, Below w.heap.size w W → SL W x (Q[which]'h2) → Calls Tryz.prog 49 #[.agg #[.int .i64 z, .slice (qa which) (L[which]'h1).length (qc which)], .slice x (Q[which]'h2).length y, .string u, .slice a2 mm c2] W fun e w' => (∃ x y, e = .returned (.slice x q.length y) ∧ SY w' x y q) ∧ Below W.heap.size W w')
    : Calls Tryz.prog 27 #[.agg #[.int .i64 z, .slice (some ⟨b, 0, none⟩) L.length c], .string label, .int .i64 (which : Int), .slice a2 mm c2, .string seed] w fun e w' => (∃ bc ba, e = .returned (.agg #[.slice (some ⟨bc, 0, none⟩) L.length L.length, .slice (some ⟨ba, 0, none⟩) L.length L.length]) ∧ w.heap.size ≤ ba ∧ SL w' (some ⟨bc, 0, none⟩) (chs.set which u) ∧ AN w' (some ⟨ba, 0, none⟩) (Q.set which q)) ∧ Below w.heap.size w w' := by
  obtain ⟨U, hU⟩ : ∃ U, U = (w.alloc (.cells #[.int .i64 z, .slice (some ⟨b, 0, none⟩) L.length c] 65)).alloc (.cells #[.slice none 0 0, .slice none 0 0] 41) := ⟨_, rfl⟩
  have BU : Hid (Below w.heap.size w U) := by rw [hU]; exact ((Below.refl _ _).alloc (Nat.le_refl _) _).alloc (by simp) _
  have I1 : Hid (IHolds U w.heap.size 65 [.int .i64 z, .slice (some ⟨b, 0, none⟩) L.length c]) := by rw [hU]; exact (IHolds.new w 65 [_, _]).alloc _
  have I2 : Hid (IHolds U (w.heap.size + 1) 41 [.slice none 0 0, .slice none 0 0]) := by rw [hU]; exact IHolds.new' _ 41 [_, _] (by simp)
  have U3 : 3 < U.heap.size := (hT.below BU.out).T.size
  have H55 : Hid (Calls Tryz.prog 55 #[.agg #[.int .i64 z, .slice (some ⟨b, 0, none⟩) L.length c], .string label] U fun e w' => ∃ tb, e = .returned (.pointer (some ⟨tb, 0, none⟩)) ∧ TW U.heap.size U w' tb (eitS L (st0 z eitB label))) := talk55 hL (hT.below BU.out) hlb (hI.of_below BU.out) (fun i hi => (hC i hi).of_below BU.out) hm hz
  have H45 : Hid (∀ W tb, TB W tb (eitS L (st0 z eitB label)) → Calls Tryz.prog 45 #[.pointer (some ⟨tb, 0, none⟩), .string seed] W fun e w' => e = .returned (.pointer (some ⟨W.heap.size, 0, none⟩)) ∧ TW W.heap.size W w' W.heap.size (fs 0) ∧ TB w' tb (eitS L (st0 z eitB label))) := fun W tb hA => by rw [f0]; exact seeded45 hA (eitS_size (st0_size _ _ _)) hsd
  have HI : Hid (IHolds U b 53 (rowS z qa qc L L.length)) := hI.of_below BU.out
  have H46 : Hid (∀ i (h : i < Bk.length) s W tb x y, TW U.heap.size U W tb s → SLL W x (Bk[i]'h) → Calls Tryz.prog 46 #[.pointer (some ⟨tb, 0, none⟩), .slice x (Bk[i]'h).length y] W fun e w' => e = .returned (.tuple #[]) ∧ TW U.heap.size U w' tb (firS (Bk[i]'h) s) ∧ F.But tb W w') := fun i h s W tb x y hA hq => tellFirsts46 hA U3 (hb64 i h) hq (hbz i h)
  have H47 : Hid (∀ i (h1 : i < L.length) (h2 : i < Q.length) (h3 : i < Bk.length) W x y, i = which → Below w.heap.size w W → SL W x (Q[i]'h2) → Calls Tryz.prog 47 #[.agg #[.int .i64 z, .slice (qa i) (L[i]'h1).length (qc i)], .slice x (Q[i]'h2).length y] W fun e w' => (∃ a' c', e = .returned (.slice a' (Bk[i]'h3).length c') ∧ SLL w' a' (Bk[i]'h3)) ∧ Below W.heap.size W w') := CH47
  have H51 : Hid (∀ i (h1 : i < L.length) (h2 : i < Q.length) (h3 : i < Bk.length) (h4 : i < chs.length) W x y, i ≠ which → Below w.heap.size w W → SL W x (Q[i]'h2) → Calls Tryz.prog 51 #[.agg #[.int .i64 z, .slice (qa i) (L[i]'h1).length (qc i)], .string (chs[i]'h4), .slice x (Q[i]'h2).length y] W fun e w' => (∃ a' c', e = .returned (.slice a' (Bk[i]'h3).length c') ∧ SLL w' a' (Bk[i]'h3)) ∧ Below W.heap.size W w') := CH51
  have HCC : Hid (∀ n w0 W tb s lab, TW n w0 W tb s → 3 < n → lab.size < 1125899906842624 → Calls Tryz.prog 48 #[.agg #[.int .i64 z], .pointer (some ⟨tb, 0, none⟩), .string lab] W fun e w' => e = .returned (.string (TX S (askN lab s M))) ∧ TW n w0 w' tb (ak lab s) ∧ F.But tb W w') := CHCC
  have H56 : Hid (∀ W, Calls Tryz.prog 56 #[.agg #[.int .i64 z]] W fun e w' => e = .returned (.string (TX S 0)) ∧ Below W.heap.size W w') := CH56
  have H58 : Hid (∀ W x, SL W x chs → Calls Tryz.prog 58 #[.agg #[.int .i64 z, .slice (some ⟨b, 0, none⟩) L.length c], .slice x L.length L.length] W fun e w' => e = .returned (.string tot) ∧ Below W.heap.size W w') := CH58
  have H57 : Hid (∀ W, Calls Tryz.prog 57 #[.agg #[.int .i64 z], .string (TX S (askN chaB (verS Bk (eitS L (st0 z eitB label))) M)), .string tot] W fun e w' => e = .returned (.string u) ∧ Below W.heap.size W w') := CH57
  have H49 : Hid (∀ (h1 : which < L.length) (h2 : which < Q.length) W x y, Below w.heap.size w W → SL W x (Q[which]'h2) → Calls Tryz.prog 49 #[.agg #[.int .i64 z, .slice (qa which) (L[which]'h1).length (qc which)], .slice x (Q[which]'h2).length y, .string u, .slice a2 mm c2] W fun e w' => (∃ x y, e = .returned (.slice x q.length y) ∧ SY w' x y q) ∧ Below W.heap.size W w') := CH49
  have H44 : Hid (∀ i (h : i < L.length) (h' : i < Q.length) W tb, TW U.heap.size U W tb (fc i) → Calls Tryz.prog 44 #[.agg #[.int .i64 z, .slice (qa i) (L[i]'h).length (qc i)], .pointer (some ⟨tb, 0, none⟩)] W fun e w' => (∃ b, e = .returned (.slice (some ⟨b, 0, none⟩) (Q[i]'h').length (Q[i]'h').length) ∧ W.heap.size ≤ b ∧ IHolds w' b 9 ((Q[i]'h').map Value.string)) ∧ TW U.heap.size U w' tb (fs (i + 1)) ∧ F.But tb W w') := fun i h h' W tb hA => by
    rw [hfs i h, hQ i h h', nonL_len]
    exact nonces44 (hm i h) ((hC i h).of_below BU.out).cm hA (fun j V hV => CHCC _ _ _ _ _ _ hV U3 (by decide))
  have HFW : Hid (∀ i (h : i < chs.length), i = which → (chs[i]'h) = TX S 0 ∧ fc i = fs i) := hfw
  have HFO : Hid (∀ i (h : i < chs.length), i ≠ which → (chs[i]'h) = TX S (askN othB (fs i) M) ∧ fc i = ak othB (fs i)) := hfo
  have c0 := I1.out.cell 0 (by simp)
  have c1 := I1.out.cell 1 (by simp)
  have ltU : w.heap.size + 1 < U.heap.size := I2.out.lt
  clear hT hI hC hm hz hb64 hbz f0 hfw hfo hQ hfs CH47 CH51 CHCC CH56 CH58 CH57 CH49
  generalize eitS L (st0 z eitB label) = st at *
  go_enter Tryz.func27, Tryz.ntmps27
  go_upto_region 1 with fail
  rw [← hU]
  clear hU
  go_upto_region 3 with (first
    | (go_at_call 55; refine (H55.out).mono ?_; rintro e V1 ⟨tb, rfl, hA⟩; have A1 : Hid (TW U.heap.size U V1 tb st) := hA; clear hA H55 c0 c1)
    | (go_at_call 45; refine (H45.out _ _ A1.out.at_).mono ?_; rintro e V2 ⟨rfl, hA, hT⟩; have A2 : Hid (TW V1.heap.size V1 V2 V1.heap.size (fs 0)) := hA; have T2 : Hid (TB V2 tb st) := hT; clear hA hT H45)
    | fail)
  have le1 : U.heap.size ≤ tb := A1.out.le
  have lt1 : tb < V1.heap.size := A1.out.at_.t.lt
  have BL2 : Hid (Below U.heap.size U V2) := A1.out.bl.trans (A2.out.bl.mono (by omega))
  have c1 := (I1.out.of_below BL2.out).cell 1 (by simp)
  refine wp_region_noPanic ?_
  refine rg3_wp _ _ _ _ _ _ _ _ _ _ _ _ _ _ _ _ _ _ _ _ _ _ _ _ _ _ _ _ _ _ _ _ _ _ _ _ _ _ _ _ _ _ _ _ _ _ _ _ _ _ _ _ _ _ _ _ _ _ _ _ _ _ _ _ _ _ _ _ _ _ _ _ _ _ _ _ _ _ _ _ _ _ _ _ _ _ _ _ _ _ _ _ _ _ _ _ _ _ _ _ _ _ _ _ _ _ _ _ _ _ _ _ _ _ _ _ _ _ _ _ _ _ _ _ _ _ _ _ _ (I1.out.of_below BL2.out |>.cell 1 (by simp)) (by omega) (fun _ _ _ _ h => h) ?_
  intro bc ba bp V3 X3
  refine NoPanic.normal ?_
  have P0 : Hid (PS U L.length tb V1.heap.size bc ba bp chs Q 0 0 st (fs 0) (nil L.length) V3) := by
    have hb : Below U.heap.size U V3 := BL2.out.trans (X3.bl.mono BL2.out.size)
    exact ⟨⟨T2.out.below X3.bl, hb, le1, A1.out.sz⟩, ⟨A2.out.at_.below X3.bl, hb, by omega, A2.out.sz⟩, by rw [half_zero]; exact (X3.h3 bc rfl).1, (X3.h9 bp rfl).1, (X3.h7 ba rfl).1, by simp [nil], fun k hk h0 => by omega⟩
  have lt2 : V1.heap.size < V2.heap.size := A2.out.at_.t.lt
  have PP : Hid (PO U tb V1.heap.size bc ba bp) := ⟨U3, le1, lt1, by have := (X3.h3 bc rfl).2; omega, by have := (X3.h7 ba rfl).2; omega, by have := (X3.h9 bp rfl).2; omega⟩
  have c2 : V3.cell? ⟨w.heap.size, 1, none⟩ = some (.slice (some ⟨b, 0, none⟩) L.length c) := cell_keep c1 X3.bl
  clear A1 A2 T2 BL2 c1 X3 lt1 lt2
  generalize V1.heap.size = fb at *
  go_upto_region 5 with fail
  clear c2
  go_loopg [14, 15, 35] L.length (fun gk v14 v15 v35 wr => ∃ (i : Nat) (V : List Value), i + gk = L.length ∧ v35 = .int .i64 (i : Int) ∧ PS U L.length tb fb bc ba bp chs Q i i (verS (Bk.take i) st) (fs i) V wr)
  case atStart => exact ⟨0, _, by omega, rfl, by simpa [verS] using P0.out⟩
  case round =>
    obtain ⟨i, V, hig, rfl, hP⟩ := hrel
    have P : Hid (PS U L.length tb fb bc ba bp chs Q i i (verS (Bk.take i) st) (fs i) V wr) := hP
    clear hP P0
    by_cases hi : i < L.length
    · have il : (i : Int) < (L.length : Int) := by omega
      have i2 : i < chs.length := by omega
      have i3 : i < Q.length := by omega
      have i4 : i < Bk.length := by omega
      obtain ⟨p1, p2⟩ := rowS_cells (HI.out.of_below P.out.t.bl) hi
      have ET : Hid (verS (Bk.take (i + 1)) st = firS Bk[i] (verS (Bk.take i) st)) := verS_take i4 st
      have G46 : Hid (∀ s W x y, TW U.heap.size U W tb s → SLL W x Bk[i] → Calls Tryz.prog 46 #[.pointer (some ⟨tb, 0, none⟩), .slice x (Bk[i]).length y] W fun e w' => e = .returned (.tuple #[]) ∧ TW U.heap.size U w' tb (firS Bk[i] s) ∧ F.But tb W w') := fun s W x y => H46.out i i4 s W tb x y
      have G44 : Hid (∀ W, TW U.heap.size U W fb (fc i) → Calls Tryz.prog 44 #[.agg #[.int .i64 z, .slice (qa i) (L[i]).length (qc i)], .pointer (some ⟨fb, 0, none⟩)] W fun e w' => (∃ b, e = .returned (.slice (some ⟨b, 0, none⟩) (Q[i]).length (Q[i]).length) ∧ W.heap.size ≤ b ∧ IHolds w' b 9 ((Q[i]).map Value.string)) ∧ TW U.heap.size U w' fb (fs (i + 1)) ∧ F.But fb W w') := fun W => H44.out i hi i3 W fb
      have SC : Hid (∀ f V W, PS U L.length tb fb bc ba bp chs Q i i (verS (Bk.take i) st) f V W → PS U L.length tb fb bc ba bp chs Q (i + 1) i (verS (Bk.take i) st) f V (W.setCell ⟨bc, i, none⟩ (.string chs[i]))) := fun f V W h => h.setc PP.out hxl hi i2
      have SA : Hid (∀ f V W b, PS U L.length tb fb bc ba bp chs Q (i + 1) i (verS (Bk.take i) st) f V W → bc < b → IHolds W b 9 ((Q[i]).map Value.string) → PS U L.length tb fb bc ba bp chs Q (i + 1) (i + 1) (verS (Bk.take i) st) f (V.set i (.slice (some ⟨b, 0, none⟩) (Q[i]).length (Q[i]).length)) (W.setCell ⟨ba, i, none⟩ (.slice (some ⟨b, 0, none⟩) (Q[i]).length (Q[i]).length))) := fun f V W b h h1 h2 => h.seta PP.out hi i3 h1 h2
      have G47 : Hid (∀ W x y, i = which → Below w.heap.size w W → SL W x Q[i] → Calls Tryz.prog 47 #[.agg #[.int .i64 z, .slice (qa i) (L[i]).length (qc i)], .slice x (Q[i]).length y] W fun e w' => (∃ a' c', e = .returned (.slice a' (Bk[i]).length c') ∧ SLL w' a' Bk[i]) ∧ Below W.heap.size W w') := fun W x y => H47.out i hi i3 i4 W x y
      have G51 : Hid (∀ W x y, i ≠ which → Below w.heap.size w W → SL W x Q[i] → Calls Tryz.prog 51 #[.agg #[.int .i64 z, .slice (qa i) (L[i]).length (qc i)], .string chs[i], .slice x (Q[i]).length y] W fun e w' => (∃ a' c', e = .returned (.slice a' (Bk[i]).length c') ∧ SLL w' a' Bk[i]) ∧ Below W.heap.size W w') := fun W x y => H51.out i hi i3 i4 i2 W x y
      have FW : Hid (i = which → chs[i] = TX S 0 ∧ fc i = fs i) := HFW.out i i2
      have FO : Hid (i ≠ which → chs[i] = TX S (askN othB (fs i) M) ∧ fc i = ak othB (fs i)) := HFO.out i i2
      have WB : Hid (∀ {ii jj f V W s}, PS U L.length tb fb bc ba bp chs Q ii jj s f V W → Below w.heap.size w W) := fun h => BU.out.trans (h.t.bl.mono BU.out.size)
      clear H46 H44 H47 H51 HFW HFO H58 H57 H49
      generalize verS (Bk.take i) st = s at *
      generalize hF' : fs (i + 1) = f' at *
      generalize fs i = f0 at *
      generalize fc i = f1 at *
      generalize Bk[i] = q' at *
      generalize Q[i] = an at *
      generalize hU' : chs[i] = u' at *
      generalize (L[i]).length = l at *
      generalize qa i = ai at *
      generalize qc i = ci at *
      obtain ⟨W1, hW1⟩ : ∃ W1, W1 = wr.alloc (.cells #[.int .i64 z, .slice ai l ci] 53) := ⟨_, rfl⟩
      have BW : Hid (Below wr.heap.size wr W1) := by rw [hW1]; exact (Below.refl _ _).alloc (Nat.le_refl _) _
      have IW : Hid (IHolds W1 wr.heap.size 53 [.int .i64 z, .slice ai l ci]) := by rw [hW1]; exact IHolds.new _ _ _
      have P1 : Hid (PS U L.length tb fb bc ba bp chs Q i i s f0 V W1) := P.out.below BW.out
      have nt : wr.heap.size ≠ tb := by have := P.out.t.at_.t.lt; omega
      have nf : wr.heap.size ≠ fb := by have := P.out.f.at_.t.lt; omega
      have nc : wr.heap.size ≠ bc := by have := P.out.c.lt; omega
      have na : wr.heap.size ≠ ba := by have := P.out.a.lt; omega
      go_upto_region 7 with fail
      rw [← hW1]
      clear hW1 p1 p2 P BW
      generalize wr.heap.size = bs at *
      have KS : Hid (∀ {ii jj f V W s}, PS U L.length tb fb bc ba bp chs Q ii jj s f V W → IHolds W bs 53 [.int .i64 z, .slice ai l ci] → (W.cell? ⟨bp, 0, none⟩ = some (.slice (some ⟨bc, 0, none⟩) L.length L.length) ∧ W.cell? ⟨bp, 1, none⟩ = some (.slice (some ⟨ba, 0, none⟩) L.length L.length)) ∧ W.cell? ⟨bs, 0, none⟩ = some (.int .i64 z) ∧ W.cell? ⟨bs, 1, none⟩ = some (.slice ai l ci)) := fun h k => ⟨⟨h.p.cell 0 (by simp), h.p.cell 1 (by simp)⟩, k.cell 0 (by simp), k.cell 1 (by simp)⟩
      have P2 : Hid (PS U L.length tb fb bc ba bp chs Q i i s f0 V W1.drew) := P1.out.below ((Below.refl _ W1).drew)
      have I2' : Hid (IHolds W1.drew bs 53 [.int .i64 z, .slice ai l ci]) := IW.out.of_below ((Below.refl _ W1).drew)
      clear P1 IW
      by_cases ew : i = which
      · obtain ⟨hu, hf⟩ := FW.out ew
        have eb : ((i : Int) == (which : Int)) = true := by simp [ew]
        have EW : Hid (i = which) := ew
        clear ew
        have J56 : Hid (∀ W, Calls Tryz.prog 56 #[.agg #[.int .i64 z]] W fun e w' => e = .returned (.string u') ∧ Below W.heap.size W w') := by rw [hu]; exact H56.out
        rw [← hf] at P2
        clear hu hf FW FO H56 HCC
        go_upto_region 8 with fail
        go_region_held3 (fun V => (V.cell? ⟨bp, 0, none⟩ = some (.slice (some ⟨bc, 0, none⟩) L.length L.length) ∧ V.cell? ⟨bp, 1, none⟩ = some (.slice (some ⟨ba, 0, none⟩) L.length L.length)) ∧ V.cell? ⟨bs, 0, none⟩ = some (.int .i64 z) ∧ V.cell? ⟨bs, 1, none⟩ = some (.slice ai l ci))
          (first | exact KS.out P2.out I2'.out | exact KS.out P3.out I3.out | exact KS.out P4.out I4.out | assumption | fail)
          (first
            | (go_at_call 56; refine (J56.out _).mono ?_; rintro e V3 ⟨rfl, hB⟩; have P3 : Hid (PS U L.length tb fb bc ba bp chs Q i i s f1 V V3) := P2.out.below hB; have I3 : Hid (IHolds V3 bs 53 [.int .i64 z, .slice ai l ci]) := I2'.out.of_below hB; have P4 : Hid (PS U L.length tb fb bc ba bp chs Q (i + 1) i s f1 V (V3.setCell ⟨bc, i, none⟩ (.string u'))) := SC.out _ _ _ P3.out; have I4 : Hid (IHolds (V3.setCell ⟨bc, i, none⟩ (.string u')) bs 53 [.int .i64 z, .slice ai l ci]) := I3.out.store nc _ _; obtain ⟨x9, q9⟩ : ∃ x, V3.cell? ⟨bc, i, none⟩ = some x := ⟨_, P3.out.c.cell i (by rw [half_length hxl (by omega)]; exact hi)⟩; have f9 := P3.out.c.frozen; clear hB)
            | fail)
        clear q9 f9 P2 I2' P3 I3
        generalize V3.setCell ⟨bc, i, none⟩ (.string u') = V4 at *
        have P5 : Hid (PS U L.length tb fb bc ba bp chs Q (i + 1) i s f1 V V4.drew) := P4.out.below ((Below.refl _ V4).drew)
        have I5 : Hid (IHolds V4.drew bs 53 [.int .i64 z, .slice ai l ci]) := I4.out.of_below ((Below.refl _ V4).drew)
        clear P4 I4
        go_upto_region 9 with fail
        go_region_held3 (fun V => (V.cell? ⟨bp, 0, none⟩ = some (.slice (some ⟨bc, 0, none⟩) L.length L.length) ∧ V.cell? ⟨bp, 1, none⟩ = some (.slice (some ⟨ba, 0, none⟩) L.length L.length)) ∧ V.cell? ⟨bs, 0, none⟩ = some (.int .i64 z) ∧ V.cell? ⟨bs, 1, none⟩ = some (.slice ai l ci))
          (first | exact KS.out P5.out I5.out | exact KS.out P6.out I6.out | exact KS.out P7.out I7.out | assumption | fail)
          (first
            | (go_at_call 44; refine (G44.out _ P5.out.f).mono ?_; rintro e V6 ⟨⟨bN, rfl, hbN, hN⟩, hA, hB⟩; have P6 : Hid (PS U L.length tb fb bc ba bp chs Q (i + 1) i s f' V V6) := P5.out.from PP.out hA hB; have I6 : Hid (IHolds V6 bs 53 [.int .i64 z, .slice ai l ci]) := I5.out.offB hB nf; have lN : bc < bN := (by have := P5.out.c.lt; omega); have N6 : Hid (IHolds V6 bN 9 (an.map Value.string)) := hN; have P7 : Hid (PS U L.length tb fb bc ba bp chs Q (i + 1) (i + 1) s f' (V.set i (.slice (some ⟨bN, 0, none⟩) an.length an.length)) (V6.setCell ⟨ba, i, none⟩ (.slice (some ⟨bN, 0, none⟩) an.length an.length))) := SA.out _ _ _ _ P6.out lN hN; have I7 : Hid (IHolds (V6.setCell ⟨ba, i, none⟩ (.slice (some ⟨bN, 0, none⟩) an.length an.length)) bs 53 [.int .i64 z, .slice ai l ci]) := I6.out.store na _ _; have N7 : Hid (IHolds (V6.setCell ⟨ba, i, none⟩ (.slice (some ⟨bN, 0, none⟩) an.length an.length)) bN 9 (an.map Value.string)) := hN.store (ne_ty hN P6.out.a (by decide)) _ _; obtain ⟨x9, q9⟩ : ∃ x, V6.cell? ⟨ba, i, none⟩ = some x := ⟨_, P6.out.a.cell i (by rw [P6.out.al]; exact hi)⟩; have f9 := P6.out.a.frozen; clear hA hB hN hbN)
            | fail)
        have AL : V.length = L.length := P6.out.al
        clear q9 f9 P5 I5 P6 I6 N6
        generalize V6.setCell ⟨ba, i, none⟩ (.slice (some ⟨bN, 0, none⟩) an.length an.length) = V7 at *
        have P8 : Hid (PS U L.length tb fb bc ba bp chs Q (i + 1) (i + 1) s f' (V.set i (.slice (some ⟨bN, 0, none⟩) an.length an.length)) V7.drew) := P7.out.below ((Below.refl _ V7).drew)
        have I8 : Hid (IHolds V7.drew bs 53 [.int .i64 z, .slice ai l ci]) := I7.out.of_below ((Below.refl _ V7).drew)
        have N8 : Hid (IHolds V7.drew bN 9 (an.map Value.string)) := N7.out.of_below ((Below.refl _ V7).drew)
        have KT : Hid (∀ {ii jj s f W}, i < ii → PS U L.length tb fb bc ba bp chs Q ii jj s f (V.set i (.slice (some ⟨bN, 0, none⟩) an.length an.length)) W → IHolds W bs 53 [.int .i64 z, .slice ai l ci] → ((W.cell? ⟨bp, 0, none⟩ = some (.slice (some ⟨bc, 0, none⟩) L.length L.length) ∧ W.cell? ⟨bp, 1, none⟩ = some (.slice (some ⟨ba, 0, none⟩) L.length L.length)) ∧ W.cell? ⟨bs, 0, none⟩ = some (.int .i64 z) ∧ W.cell? ⟨bs, 1, none⟩ = some (.slice ai l ci)) ∧ W.cell? ⟨bc, i, none⟩ = some (.string u') ∧ W.cell? ⟨ba, i, none⟩ = some (.slice (some ⟨bN, 0, none⟩) an.length an.length)) := fun hii h k => by
          refine ⟨KS.out h k, ?_, ?_⟩
          · rw [h.c.cell i (by unfold half; simp; omega)]; congr 1; rw [← hU']; exact half_at hxl hi i2 hii
          · rw [h.a.cell i (by rw [h.al]; exact hi)]; simp
        clear P7 I7 N7
        go_upto_region 10 with fail
        go_region_held3 (fun V => ((V.cell? ⟨bp, 0, none⟩ = some (.slice (some ⟨bc, 0, none⟩) L.length L.length) ∧ V.cell? ⟨bp, 1, none⟩ = some (.slice (some ⟨ba, 0, none⟩) L.length L.length)) ∧ V.cell? ⟨bs, 0, none⟩ = some (.int .i64 z) ∧ V.cell? ⟨bs, 1, none⟩ = some (.slice ai l ci)) ∧ V.cell? ⟨bc, i, none⟩ = some (.string u') ∧ V.cell? ⟨ba, i, none⟩ = some (.slice (some ⟨bN, 0, none⟩) an.length an.length))
          (first | exact KT.out (Nat.lt_succ_self _) P8.out I8.out | exact KT.out (Nat.lt_succ_self _) P9.out I9.out | exact KT.out (Nat.lt_succ_self _) PA.out IA.out | assumption | fail)
          (first
            | (go_at_call 47; refine (G47.out _ _ _ EW.out (WB.out P8.out) N8.out.sl).mono ?_; rintro e V9 ⟨⟨x9, y9, rfl, hq⟩, hB⟩; have P9 : Hid (PS U L.length tb fb bc ba bp chs Q (i + 1) (i + 1) s f' (V.set i (.slice (some ⟨bN, 0, none⟩) an.length an.length)) V9) := P8.out.below hB; have I9 : Hid (IHolds V9 bs 53 [.int .i64 z, .slice ai l ci]) := I8.out.of_below hB; have Q9 : Hid (SLL V9 x9 q') := hq; clear hB hq)
            | (go_at_call 46; refine (G46.out _ _ _ _ P9.out.t Q9.out).mono ?_; rintro e VA ⟨rfl, hA, hB⟩; have PA : Hid (PS U L.length tb fb bc ba bp chs Q (i + 1) (i + 1) (firS q' s) f' (V.set i (.slice (some ⟨bN, 0, none⟩) an.length an.length)) VA) := P9.out.talk PP.out hA hB; have IA : Hid (IHolds VA bs 53 [.int .i64 z, .slice ai l ci]) := I9.out.offB hB nt; clear hA hB)
            | fail)
        go_wp2_with fail
        go_roundg (gk - 1)
        case measure => omega
        case rel => exact ⟨i + 1, _, by omega, by go_num, by rw [ET.out, hF']; exact PA.out⟩
      · obtain ⟨hu, hf⟩ := FO.out ew
        have eb : ((i : Int) == (which : Int)) = false := beq_eq_false_iff_ne.2 (by omega)
        have J48 : Hid (∀ W, TW U.heap.size U W fb f0 → Calls Tryz.prog 48 #[.agg #[.int .i64 z], .pointer (some ⟨fb, 0, none⟩), .string othB] W fun e w' => e = .returned (.string u') ∧ TW U.heap.size U w' fb f1 ∧ F.But fb W w') := by rw [hu, hf]; exact fun W hW => HCC.out _ _ _ _ _ _ hW U3 (by decide)
        clear hu hf FW FO H56 HCC
        go_upto_region 11 with fail
        go_region_held3 (fun V => (V.cell? ⟨bp, 0, none⟩ = some (.slice (some ⟨bc, 0, none⟩) L.length L.length) ∧ V.cell? ⟨bp, 1, none⟩ = some (.slice (some ⟨ba, 0, none⟩) L.length L.length)) ∧ V.cell? ⟨bs, 0, none⟩ = some (.int .i64 z) ∧ V.cell? ⟨bs, 1, none⟩ = some (.slice ai l ci))
          (first | exact KS.out P2.out I2'.out | exact KS.out P3.out I3.out | exact KS.out P4.out I4.out | assumption | fail)
          (first
            | (go_at_call 48; refine (J48.out _ P2.out.f).mono ?_; rintro e V3 ⟨rfl, hA, hB⟩; have P3 : Hid (PS U L.length tb fb bc ba bp chs Q i i s f1 V V3) := P2.out.from PP.out hA hB; have I3 : Hid (IHolds V3 bs 53 [.int .i64 z, .slice ai l ci]) := I2'.out.offB hB nf; clear hA; have P4 : Hid (PS U L.length tb fb bc ba bp chs Q (i + 1) i s f1 V (V3.setCell ⟨bc, i, none⟩ (.string u'))) := SC.out _ _ _ P3.out; have I4 : Hid (IHolds (V3.setCell ⟨bc, i, none⟩ (.string u')) bs 53 [.int .i64 z, .slice ai l ci]) := I3.out.store nc _ _; obtain ⟨x9, q9⟩ : ∃ x, V3.cell? ⟨bc, i, none⟩ = some x := ⟨_, P3.out.c.cell i (by rw [half_length hxl (by omega)]; exact hi)⟩; have f9 := P3.out.c.frozen; clear hB)
            | fail)
        clear q9 f9 P2 I2' P3 I3
        generalize V3.setCell ⟨bc, i, none⟩ (.string u') = V4 at *
        have P5 : Hid (PS U L.length tb fb bc ba bp chs Q (i + 1) i s f1 V V4.drew) := P4.out.below ((Below.refl _ V4).drew)
        have I5 : Hid (IHolds V4.drew bs 53 [.int .i64 z, .slice ai l ci]) := I4.out.of_below ((Below.refl _ V4).drew)
        clear P4 I4
        go_upto_region 12 with fail
        go_region_held3 (fun V => (V.cell? ⟨bp, 0, none⟩ = some (.slice (some ⟨bc, 0, none⟩) L.length L.length) ∧ V.cell? ⟨bp, 1, none⟩ = some (.slice (some ⟨ba, 0, none⟩) L.length L.length)) ∧ V.cell? ⟨bs, 0, none⟩ = some (.int .i64 z) ∧ V.cell? ⟨bs, 1, none⟩ = some (.slice ai l ci))
          (first | exact KS.out P5.out I5.out | exact KS.out P6.out I6.out | exact KS.out P7.out I7.out | assumption | fail)
          (first
            | (go_at_call 44; refine (G44.out _ P5.out.f).mono ?_; rintro e V6 ⟨⟨bN, rfl, hbN, hN⟩, hA, hB⟩; have P6 : Hid (PS U L.length tb fb bc ba bp chs Q (i + 1) i s f' V V6) := P5.out.from PP.out hA hB; have I6 : Hid (IHolds V6 bs 53 [.int .i64 z, .slice ai l ci]) := I5.out.offB hB nf; have lN : bc < bN := (by have := P5.out.c.lt; omega); have N6 : Hid (IHolds V6 bN 9 (an.map Value.string)) := hN; have P7 : Hid (PS U L.length tb fb bc ba bp chs Q (i + 1) (i + 1) s f' (V.set i (.slice (some ⟨bN, 0, none⟩) an.length an.length)) (V6.setCell ⟨ba, i, none⟩ (.slice (some ⟨bN, 0, none⟩) an.length an.length))) := SA.out _ _ _ _ P6.out lN hN; have I7 : Hid (IHolds (V6.setCell ⟨ba, i, none⟩ (.slice (some ⟨bN, 0, none⟩) an.length an.length)) bs 53 [.int .i64 z, .slice ai l ci]) := I6.out.store na _ _; have N7 : Hid (IHolds (V6.setCell ⟨ba, i, none⟩ (.slice (some ⟨bN, 0, none⟩) an.length an.length)) bN 9 (an.map Value.string)) := hN.store (ne_ty hN P6.out.a (by decide)) _ _; obtain ⟨x9, q9⟩ : ∃ x, V6.cell? ⟨ba, i, none⟩ = some x := ⟨_, P6.out.a.cell i (by rw [P6.out.al]; exact hi)⟩; have f9 := P6.out.a.frozen; clear hA hB hN hbN)
            | fail)
        have AL : V.length = L.length := P6.out.al
        clear q9 f9 P5 I5 P6 I6 N6
        generalize V6.setCell ⟨ba, i, none⟩ (.slice (some ⟨bN, 0, none⟩) an.length an.length) = V7 at *
        have P8 : Hid (PS U L.length tb fb bc ba bp chs Q (i + 1) (i + 1) s f' (V.set i (.slice (some ⟨bN, 0, none⟩) an.length an.length)) V7.drew) := P7.out.below ((Below.refl _ V7).drew)
        have I8 : Hid (IHolds V7.drew bs 53 [.int .i64 z, .slice ai l ci]) := I7.out.of_below ((Below.refl _ V7).drew)
        have N8 : Hid (IHolds V7.drew bN 9 (an.map Value.string)) := N7.out.of_below ((Below.refl _ V7).drew)
        have KT : Hid (∀ {ii jj s f W}, i < ii → PS U L.length tb fb bc ba bp chs Q ii jj s f (V.set i (.slice (some ⟨bN, 0, none⟩) an.length an.length)) W → IHolds W bs 53 [.int .i64 z, .slice ai l ci] → ((W.cell? ⟨bp, 0, none⟩ = some (.slice (some ⟨bc, 0, none⟩) L.length L.length) ∧ W.cell? ⟨bp, 1, none⟩ = some (.slice (some ⟨ba, 0, none⟩) L.length L.length)) ∧ W.cell? ⟨bs, 0, none⟩ = some (.int .i64 z) ∧ W.cell? ⟨bs, 1, none⟩ = some (.slice ai l ci)) ∧ W.cell? ⟨bc, i, none⟩ = some (.string u') ∧ W.cell? ⟨ba, i, none⟩ = some (.slice (some ⟨bN, 0, none⟩) an.length an.length)) := fun hii h k => by
          refine ⟨KS.out h k, ?_, ?_⟩
          · rw [h.c.cell i (by unfold half; simp; omega)]; congr 1; rw [← hU']; exact half_at hxl hi i2 hii
          · rw [h.a.cell i (by rw [h.al]; exact hi)]; simp
        clear P7 I7 N7
        go_upto_region 13 with fail
        go_region_held3 (fun V => ((V.cell? ⟨bp, 0, none⟩ = some (.slice (some ⟨bc, 0, none⟩) L.length L.length) ∧ V.cell? ⟨bp, 1, none⟩ = some (.slice (some ⟨ba, 0, none⟩) L.length L.length)) ∧ V.cell? ⟨bs, 0, none⟩ = some (.int .i64 z) ∧ V.cell? ⟨bs, 1, none⟩ = some (.slice ai l ci)) ∧ V.cell? ⟨bc, i, none⟩ = some (.string u') ∧ V.cell? ⟨ba, i, none⟩ = some (.slice (some ⟨bN, 0, none⟩) an.length an.length))
          (first | exact KT.out (Nat.lt_succ_self _) P8.out I8.out | exact KT.out (Nat.lt_succ_self _) P9.out I9.out | exact KT.out (Nat.lt_succ_self _) PA.out IA.out | assumption | fail)
          (first
            | (go_at_call 51; refine (G51.out _ _ _ ew (WB.out P8.out) N8.out.sl).mono ?_; rintro e V9 ⟨⟨x9, y9, rfl, hq⟩, hB⟩; have P9 : Hid (PS U L.length tb fb bc ba bp chs Q (i + 1) (i + 1) s f' (V.set i (.slice (some ⟨bN, 0, none⟩) an.length an.length)) V9) := P8.out.below hB; have I9 : Hid (IHolds V9 bs 53 [.int .i64 z, .slice ai l ci]) := I8.out.of_below hB; have Q9 : Hid (SLL V9 x9 q') := hq; clear hB hq)
            | (go_at_call 46; refine (G46.out _ _ _ _ P9.out.t Q9.out).mono ?_; rintro e VA ⟨rfl, hA, hB⟩; have PA : Hid (PS U L.length tb fb bc ba bp chs Q (i + 1) (i + 1) (firS q' s) f' (V.set i (.slice (some ⟨bN, 0, none⟩) an.length an.length)) VA) := P9.out.talk PP.out hA hB; have IA : Hid (IHolds VA bs 53 [.int .i64 z, .slice ai l ci]) := I9.out.offB hB nt; clear hA hB)
            | fail)
        go_wp2_with fail
        go_roundg (gk - 1)
        case measure => omega
        case rel => exact ⟨i + 1, _, by omega, by go_num, by rw [ET.out, hF']; exact PA.out⟩
    · have il : ¬ (i : Int) < (L.length : Int) := by omega
      have e : i = L.length := by omega
      subst e
      have e : Bk.take L.length = Bk := List.take_of_length_le (by omega)
      rw [e] at P
      clear e H46 H44 H47 H51 HFW HFO H56
      obtain ⟨sF, hsF⟩ : ∃ sF, sF = verS Bk st := ⟨_, rfl⟩
      rw [← hsF] at P H57
      have J48 : Hid (∀ W, TW U.heap.size U W tb sF → Calls Tryz.prog 48 #[.agg #[.int .i64 z], .pointer (some ⟨tb, 0, none⟩), .string chaB] W fun e w' => e = .returned (.string (TX S (askN chaB sF M))) ∧ TW U.heap.size U w' tb (ak chaB sF) ∧ F.But tb W w') := fun W hW => HCC.out _ _ _ _ _ _ hW U3 (by decide)
      generalize TX S (askN chaB sF M) = ch at *
      clear HCC hsF
      generalize fs L.length = fl at *
      have KS : Hid (∀ {s f V W}, PS U L.length tb fb bc ba bp chs Q L.length L.length s f V W → (W.cell? ⟨w.heap.size, 0, none⟩ = some (.int .i64 z) ∧ W.cell? ⟨w.heap.size, 1, none⟩ = some (.slice (some ⟨b, 0, none⟩) L.length c)) ∧ W.cell? ⟨bp, 0, none⟩ = some (.slice (some ⟨bc, 0, none⟩) L.length L.length)) := fun h => ⟨⟨cell_keep (I1.out.cell 0 (by simp)) h.t.bl, cell_keep (I1.out.cell 1 (by simp)) h.t.bl⟩, h.p.cell 0 (by simp)⟩
      have P2 : Hid (PS U L.length tb fb bc ba bp chs Q L.length L.length sF fl V wr.drew) := P.out.below ((Below.refl _ wr).drew)
      clear P
      go_upto_region 15 with fail
      go_region_held3 (fun W => (W.cell? ⟨w.heap.size, 0, none⟩ = some (.int .i64 z) ∧ W.cell? ⟨w.heap.size, 1, none⟩ = some (.slice (some ⟨b, 0, none⟩) L.length c)) ∧ W.cell? ⟨bp, 0, none⟩ = some (.slice (some ⟨bc, 0, none⟩) L.length L.length))
        (first | exact KS.out P2.out | exact KS.out P3.out | exact KS.out P4.out | exact KS.out P5.out | assumption | fail)
        (first
          | (go_at_call 48; refine (J48.out _ P2.out.t).mono ?_; rintro e V3 ⟨rfl, hA, hB⟩; have P3 : Hid (PS U L.length tb fb bc ba bp chs Q L.length L.length (ak chaB sF) fl V V3) := P2.out.talk PP.out hA hB; clear hA hB)
          | (go_at_call 58; refine (H58.out _ _ (by have h := P3.out.c; rw [half_full hxl] at h; exact h.sl)).mono ?_; rintro e V4 ⟨rfl, hB⟩; have P4 : Hid (PS U L.length tb fb bc ba bp chs Q L.length L.length (ak chaB sF) fl V V4) := P3.out.below hB; clear hB)
          | (go_at_call 57; refine (H57.out _).mono ?_; rintro e V5 ⟨rfl, hB⟩; have P5 : Hid (PS U L.length tb fb bc ba bp chs Q L.length L.length (ak chaB sF) fl V V5) := P4.out.below hB; clear hB)
          | fail)
      clear P2 P3 P4 J48 H58 H57
      have w2 : which < chs.length := by omega
      have w3 : which < Q.length := by omega
      have C5 : Hid (IHolds V5 bc 9 (chs.map Value.string)) := by have h := P5.out.c; rw [half_full hxl] at h; exact h
      obtain ⟨V6, hV6⟩ : ∃ V6, V6 = V5.setCell ⟨bc, which, none⟩ (.string u) := ⟨_, rfl⟩
      have bcU : U.heap.size ≤ bc := by have := PP.out.ut; have := PP.out.tf; have := PP.out.c; omega
      have baU : U.heap.size ≤ ba := by have := PP.out.ut; have := PP.out.tf; have := PP.out.a; omega
      have C6 : Hid (IHolds V6 bc 9 ((chs.set which u).map Value.string)) := by rw [hV6, List.map_set]; exact C5.out.set _ _
      have Q6 : Hid (IHolds V6 bp 41 [.slice (some ⟨bc, 0, none⟩) L.length L.length, .slice (some ⟨ba, 0, none⟩) L.length L.length]) := by rw [hV6]; exact P5.out.p.store (ne_ty P5.out.p C5.out (by decide)) _ _
      have A6 : Hid (IHolds V6 ba 22 V) := by rw [hV6]; exact P5.out.a.store (ne_ty P5.out.a C5.out (by decide)) _ _
      have L6 : Hid (Below U.heap.size U V6) := by rw [hV6]; exact P5.out.t.bl.setCell (p := ⟨bc, which, none⟩) bcU _
      have R6 : Hid (∀ k (h : k < Q.length), ∃ b, bc < b ∧ V[k]? = some (.slice (some ⟨b, 0, none⟩) (Q[k]'h).length (Q[k]'h).length) ∧ IHolds V6 b 9 ((Q[k]'h).map Value.string)) := by
        intro k hk
        obtain ⟨b', h1, h2, h3⟩ := P5.out.r k hk (by omega)
        exact ⟨b', h1, h2, by rw [hV6]; exact h3.store (by omega) _ _⟩
      have AL : V.length = L.length := P5.out.al
      have q0 : V5.cell? ⟨bp, 0, none⟩ = some (.slice (some ⟨bc, 0, none⟩) L.length L.length) := P5.out.p.cell 0 (by simp)
      obtain ⟨x9, q9⟩ : ∃ x, V5.cell? ⟨bc, which, none⟩ = some x := ⟨_, C5.out.cell which (by simp; omega)⟩
      have f9 := C5.out.frozen
      have wI : (which : Int) < (L.length : Int) := by omega
      go_upto_region 17 with fail
      rw [← hV6]
      clear hV6 q0 q9 f9 C5 P5 KS
      obtain ⟨bN, hbN, hVN, hN⟩ := R6.out which w3
      have N6 : Hid (IHolds V6 bN 9 ((Q[which]'w3).map Value.string)) := hN
      clear hN
      have G49 : Hid (∀ W x y, Below w.heap.size w W → SL W x (Q[which]'w3) → Calls Tryz.prog 49 #[.agg #[.int .i64 z, .slice (qa which) (L[which]'hw).length (qc which)], .slice x (Q[which]'w3).length y, .string u, .slice a2 mm c2] W fun e w' => (∃ x y, e = .returned (.slice x q.length y) ∧ SY w' x y q) ∧ Below W.heap.size W w') := fun W x y => H49.out hw w3 W x y
      clear H49
      have RC : Hid (∀ W, Below U.heap.size U W → W.cell? ⟨b, which * 2, none⟩ = some (.int .i64 z) ∧ W.cell? ⟨b, which * 2 + 1, none⟩ = some (.slice (qa which) (L[which]'hw).length (qc which))) := fun W hW => rowS_cells (HI.out.of_below hW) hw
      have WB : Hid (∀ W, Below U.heap.size U W → Below w.heap.size w W) := fun W h => BU.out.trans (h.mono BU.out.size)
      have KS : Hid (∀ W, Below U.heap.size U W → IHolds W bp 41 [.slice (some ⟨bc, 0, none⟩) L.length L.length, .slice (some ⟨ba, 0, none⟩) L.length L.length] → (W.cell? ⟨w.heap.size, 1, none⟩ = some (.slice (some ⟨b, 0, none⟩) L.length c) ∧ W.cell? ⟨bp, 1, none⟩ = some (.slice (some ⟨ba, 0, none⟩) L.length L.length)) ∧ W.cell? ⟨b, which * 2, none⟩ = some (.int .i64 z) ∧ W.cell? ⟨b, which * 2 + 1, none⟩ = some (.slice (qa which) (L[which]'hw).length (qc which))) := fun W hW h => ⟨⟨cell_keep (I1.out.cell 1 (by simp)) hW, h.cell 1 (by simp)⟩, RC.out W hW⟩
      generalize (L[which]'hw).length = l at *
      generalize hQw : (Q[which]'w3) = an at *
      generalize qa which = ai at *
      generalize qc which = ci at *
      have D6 : Hid (Below V6.heap.size V6 V6.drew) := (Below.refl _ V6).drew
      have L7 : Hid (Below U.heap.size U V6.drew) := L6.out.trans (D6.out.mono L6.out.size)
      have Q7 : Hid (IHolds V6.drew bp 41 [.slice (some ⟨bc, 0, none⟩) L.length L.length, .slice (some ⟨ba, 0, none⟩) L.length L.length]) := Q6.out.of_below D6.out
      have A7 : Hid (IHolds V6.drew ba 22 V) := A6.out.of_below D6.out
      have r7 : V6.drew.cell? ⟨ba, which, none⟩ = some (.slice (some ⟨bN, 0, none⟩) an.length an.length) := by
        rw [A7.out.cell which (by rw [AL]; exact hw)]
        rw [List.getElem?_eq_getElem (by rw [AL]; exact hw)] at hVN
        exact hVN
      refine wp_region_noPanic ?_
      refine wp_region_held_drew (S := (fun W => (W.cell? ⟨w.heap.size, 1, none⟩ = some (.slice (some ⟨b, 0, none⟩) L.length c) ∧ W.cell? ⟨bp, 1, none⟩ = some (.slice (some ⟨ba, 0, none⟩) L.length L.length)) ∧ W.cell? ⟨b, which * 2, none⟩ = some (.int .i64 z) ∧ W.cell? ⟨b, which * 2 + 1, none⟩ = some (.slice ai l ci))) (by kernel_rfl) (KS.out _ L7.out Q7.out) (fun hHeld => ?_)
      refine tk (i := 0) (v := (.pointer (some ⟨bp, 1, none⟩))) rfl (by kernel_rfl) (fun _ _ _ h => h) rfl ?_ hHeld ?_
      · intro W hS; obtain ⟨⟨z1, z2⟩, z3, z4⟩ := hS; go_simp
      simp only [Act.put, y1, y2, y3, y4, y5, y6, y7]
      refine tk (i := 1) (v := (.slice (some ⟨ba, 0, none⟩) L.length L.length)) rfl (by kernel_rfl) (fun _ _ _ h => h) rfl ?_ hHeld ?_
      · intro W hS; obtain ⟨⟨z1, z2⟩, z3, z4⟩ := hS; go_simp
      simp only [Act.put, y1, y2, y3, y4, y5, y6, y7]
      refine tk (i := 2) (v := (.int .i64 (which : Int))) rfl (by kernel_rfl) (fun _ _ _ h => h) rfl ?_ hHeld ?_
      · intro W hS; obtain ⟨⟨z1, z2⟩, z3, z4⟩ := hS; go_simp
      simp only [Act.put, y1, y2, y3, y4, y5, y6, y7]
      refine tk (i := 3) (v := (.pointer (some ⟨w.heap.size, 1, none⟩))) rfl (by kernel_rfl) (fun _ _ _ h => h) rfl ?_ hHeld ?_
      · intro W hS; obtain ⟨⟨z1, z2⟩, z3, z4⟩ := hS; go_simp
      simp only [Act.put, y1, y2, y3, y4, y5, y6, y7]
      refine tk (i := 4) (v := (.slice (some ⟨b, 0, none⟩) L.length c)) rfl (by kernel_rfl) (fun _ _ _ h => h) rfl ?_ hHeld ?_
      · intro W hS; obtain ⟨⟨z1, z2⟩, z3, z4⟩ := hS; go_simp
      simp only [Act.put, y1, y2, y3, y4, y5, y6, y7]
      refine tk (i := 5) (v := (.int .i64 (which : Int))) rfl (by kernel_rfl) (fun _ _ _ h => h) rfl ?_ hHeld ?_
      · intro W hS; obtain ⟨⟨z1, z2⟩, z3, z4⟩ := hS; go_simp
      simp only [Act.put, y1, y2, y3, y4, y5, y6, y7]
      refine tk (i := 6) (v := (.pointer (some ⟨b, which * 2, none⟩))) rfl (by kernel_rfl) (fun _ _ _ h => h) rfl ?_ hHeld ?_
      · intro W hS; obtain ⟨⟨z1, z2⟩, z3, z4⟩ := hS; go_simp
      simp only [Act.put, y1, y2, y3, y4, y5, y6, y7]
      refine tk (i := 7) (v := (.agg #[.int .i64 z, .slice ai l ci])) rfl (by kernel_rfl) (fun _ _ _ h => h) rfl ?_ hHeld ?_
      · intro W hS; obtain ⟨⟨z1, z2⟩, z3, z4⟩ := hS; go_simp
      simp only [Act.put, y1, y2, y3, y4, y5, y6, y7]
      refine tk (i := 8) (v := (.pointer (some ⟨bp, 1, none⟩))) rfl (by kernel_rfl) (fun _ _ _ h => h) rfl ?_ hHeld ?_
      · intro W hS; obtain ⟨⟨z1, z2⟩, z3, z4⟩ := hS; go_simp
      simp only [Act.put, y1, y2, y3, y4, y5, y6, y7]
      refine tk (i := 9) (v := (.slice (some ⟨ba, 0, none⟩) L.length L.length)) rfl (by kernel_rfl) (fun _ _ _ h => h) rfl ?_ hHeld ?_
      · intro W hS; obtain ⟨⟨z1, z2⟩, z3, z4⟩ := hS; go_simp
      simp only [Act.put, y1, y2, y3, y4, y5, y6, y7]
      refine tk (i := 10) (v := (.int .i64 (which : Int))) rfl (by kernel_rfl) (fun _ _ _ h => h) rfl ?_ hHeld ?_
      · intro W hS; obtain ⟨⟨z1, z2⟩, z3, z4⟩ := hS; go_simp
      simp only [Act.put, y1, y2, y3, y4, y5, y6, y7]
      refine tk (i := 11) (v := (.pointer (some ⟨ba, which, none⟩))) rfl (by kernel_rfl) (fun _ _ _ h => h) rfl ?_ hHeld ?_
      · intro W hS; obtain ⟨⟨z1, z2⟩, z3, z4⟩ := hS; go_simp
      simp only [Act.put, y1, y2, y3, y4, y5, y6, y7]
      refine tk (i := 13) (v := (.string u)) rfl (by kernel_rfl) (fun _ _ _ h => h) rfl ?_ hHeld ?_
      · intro W hS; obtain ⟨⟨z1, z2⟩, z3, z4⟩ := hS; go_simp
      simp only [Act.put, y1, y2, y3, y4, y5, y6, y7]
      refine tk (i := 14) (v := (.slice a2 mm c2)) rfl (by kernel_rfl) (fun _ _ _ h => h) rfl ?_ hHeld ?_
      · intro W hS; obtain ⟨⟨z1, z2⟩, z3, z4⟩ := hS; go_simp
      simp only [Act.put, y1, y2, y3, y4, y5, y6, y7]
      refine wpAnyH_ready (rs := [12]) (by kernel_rfl) (by simp) ?_
      refine AllReadyH.cons rfl (fun K hK => ?_) AllReadyH.nil
      go_simp
      refine hK.out _ _ (KS.out _ L7.out Q7.out) (fun hHeld1 => ?_)
      clear hK K hHeld
      try simp only [Act.put, y1, y2, y3, y4, y5, y6, y7]
      refine wpAnyH_ready (rs := [15]) (by kernel_rfl) (by simp) ?_
      refine AllReadyH.cons rfl (fun K hK => ?_) AllReadyH.nil
      go_simp
      refine (G49.out _ _ _ (WB.out _ L7.out) (N6.out.of_below D6.out).sl).mono ?_
      rintro e V8 ⟨⟨x8, y8, rfl, hS⟩, hB⟩
      have S8 : Hid (SY V8 x8 y8 q) := hS
      have B8 : Hid (Below V6.heap.size V6 V8) := D6.out.trans hB
      have L8 : Hid (Below U.heap.size U V8) := L7.out.trans (hB.mono L7.out.size)
      have Q8 : Hid (IHolds V8 bp 41 [.slice (some ⟨bc, 0, none⟩) L.length L.length, .slice (some ⟨ba, 0, none⟩) L.length L.length]) := Q7.out.of_below hB
      have A8 : Hid (IHolds V8 ba 22 V) := A7.out.of_below hB
      have L9 : Hid (Below U.heap.size U (V8.setCell ⟨ba, which, none⟩ (.slice x8 q.length y8))) := L8.out.setCell (p := ⟨ba, which, none⟩) baU _
      have Q9 : Hid (IHolds (V8.setCell ⟨ba, which, none⟩ (.slice x8 q.length y8)) bp 41 [.slice (some ⟨bc, 0, none⟩) L.length L.length, .slice (some ⟨ba, 0, none⟩) L.length L.length]) := Q8.out.store (ne_ty Q8.out A8.out (by decide)) _ _
      have QX : Hid (∃ x, V8.cell? ⟨ba, which, none⟩ = some x) := ⟨_, A8.out.cell which (by rw [AL]; exact hw)⟩
      clear hS hB r7
      go_wp2_with fail
      refine hK.out _ _ (KS.out _ L8.out Q8.out) (fun hHeld2 => ?_)
      clear hK K hHeld1
      try simp only [Act.put, y1, y2, y3, y4, y5, y6, y7]
      refine tk (i := 16) (v := (.pointer (some ⟨ba, which, none⟩))) rfl (by kernel_rfl) (fun _ _ _ h => h) rfl ?_ hHeld2 ?_
      · intro W hS; obtain ⟨⟨z1, z2⟩, z3, z4⟩ := hS; go_simp
      simp only [Act.put, y1, y2, y3, y4, y5, y6, y7]
      refine wpAnyH_ready (rs := [17]) (by kernel_rfl) (by simp) ?_
      refine AllReadyH.cons rfl (fun K hK => ?_) AllReadyH.nil
      obtain ⟨x9, q9⟩ := QX.out
      have f9 := A8.out.frozen
      clear hHeld2
      go_simp
      try go_wp2_with fail
      refine hK.out _ _ (KS.out _ L9.out Q9.out) (fun hHeld3 => ?_)
      clear hK K f9 q9
      try simp only [Act.put, y1, y2, y3, y4, y5, y6, y7]
      refine wpAnyH_done (by kernel_rfl) ?_ _
      refine NoPanic.normal ?_
      clear hHeld3
      have A9 : Hid (IHolds (V8.setCell ⟨ba, which, none⟩ (.slice x8 q.length y8)) ba 22 (V.set which (.slice x8 q.length y8))) := A8.out.set _ _
      have C9 : Hid (IHolds (V8.setCell ⟨ba, which, none⟩ (.slice x8 q.length y8)) bc 9 ((chs.set which u).map Value.string)) := (C6.out.of_below B8.out).store (ne_ty (C6.out.of_below B8.out) A8.out (by decide)) _ _
      have R9 : Hid (∀ k (h : k < Q.length), ∃ b, V[k]? = some (.slice (some ⟨b, 0, none⟩) (Q[k]'h).length (Q[k]'h).length) ∧ IHolds (V8.setCell ⟨ba, which, none⟩ (.slice x8 q.length y8)) b 9 ((Q[k]'h).map Value.string)) := by
        intro k hk
        obtain ⟨b', _, h2, h3⟩ := R6.out k hk
        have h4 := h3.of_below B8.out
        exact ⟨b', h2, h4.store (ne_ty h4 A8.out (by decide)) _ _⟩
      have S9 : Hid (SY (V8.setCell ⟨ba, which, none⟩ (.slice x8 q.length y8)) x8 y8 q) := S8.out.far A8.out (by decide) _ _
      generalize V8.setCell ⟨ba, which, none⟩ (.slice x8 q.length y8) = V9 at *
      have I9 : Hid (IHolds V9 (w.heap.size + 1) 41 [.slice none 0 0, .slice none 0 0]) := I2.out.of_below L9.out
      have q0 := Q9.out.cell 0 (by simp)
      have q1 := Q9.out.cell 1 (by simp)
      have d0 := I9.out.cell 0 (by simp)
      have d1 := I9.out.cell 1 (by simp)
      have f9 := I9.out.frozen
      clear R6 S8 B8 L8 Q8 A8 QX C6 Q6 A6 L6 N6 G49 RC KS D6 L7 Q7 A7
      go_wp2_with fail
      have IZ : Hid (IHolds ((V9.setCell ⟨w.heap.size + 1, 0, none⟩ (.slice (some ⟨bc, 0, none⟩) L.length L.length)).setCell ⟨w.heap.size + 1, 1, none⟩ (.slice (some ⟨ba, 0, none⟩) L.length L.length)) (w.heap.size + 1) 41 [.slice (some ⟨bc, 0, none⟩) L.length L.length, .slice (some ⟨ba, 0, none⟩) L.length L.length]) := (I9.out.set 0 (.slice (some ⟨bc, 0, none⟩) L.length L.length)).set 1 (.slice (some ⟨ba, 0, none⟩) L.length L.length)
      have BZ : Hid (Below w.heap.size w ((V9.setCell ⟨w.heap.size + 1, 0, none⟩ (.slice (some ⟨bc, 0, none⟩) L.length L.length)).setCell ⟨w.heap.size + 1, 1, none⟩ (.slice (some ⟨ba, 0, none⟩) L.length L.length))) := ((WB.out _ L9.out).setCell (by simp) _).setCell (by simp) _
      have sto : ∀ {b : Nat} {t : TypeId} {l : List Value}, IHolds V9 b t l → t ≠ 41 → IHolds ((V9.setCell ⟨w.heap.size + 1, 0, none⟩ (.slice (some ⟨bc, 0, none⟩) L.length L.length)).setCell ⟨w.heap.size + 1, 1, none⟩ (.slice (some ⟨ba, 0, none⟩) L.length L.length)) b t l := fun h ht => (h.store (ne_ty h I9.out ht) 0 _).store (ne_ty h I9.out ht) 1 _
      have AZ : Hid (IHolds ((V9.setCell ⟨w.heap.size + 1, 0, none⟩ (.slice (some ⟨bc, 0, none⟩) L.length L.length)).setCell ⟨w.heap.size + 1, 1, none⟩ (.slice (some ⟨ba, 0, none⟩) L.length L.length)) ba 22 (V.set which (.slice x8 q.length y8))) := sto A9.out (by decide)
      have CZ : Hid (IHolds ((V9.setCell ⟨w.heap.size + 1, 0, none⟩ (.slice (some ⟨bc, 0, none⟩) L.length L.length)).setCell ⟨w.heap.size + 1, 1, none⟩ (.slice (some ⟨ba, 0, none⟩) L.length L.length)) bc 9 ((chs.set which u).map Value.string)) := sto C9.out (by decide)
      have RZ : Hid (∀ k (h : k < Q.length), ∃ b, V[k]? = some (.slice (some ⟨b, 0, none⟩) (Q[k]'h).length (Q[k]'h).length) ∧ IHolds ((V9.setCell ⟨w.heap.size + 1, 0, none⟩ (.slice (some ⟨bc, 0, none⟩) L.length L.length)).setCell ⟨w.heap.size + 1, 1, none⟩ (.slice (some ⟨ba, 0, none⟩) L.length L.length)) b 9 ((Q[k]'h).map Value.string)) := fun k hk => by
        obtain ⟨b', h1, h2⟩ := R9.out k hk
        exact ⟨b', h1, sto h2 (by decide)⟩
      have SZ : Hid (SY ((V9.setCell ⟨w.heap.size + 1, 0, none⟩ (.slice (some ⟨bc, 0, none⟩) L.length L.length)).setCell ⟨w.heap.size + 1, 1, none⟩ (.slice (some ⟨ba, 0, none⟩) L.length L.length)) x8 y8 q) := (S9.out.far I9.out (by decide) _ _).far (I9.out.set 0 _) (by decide) _ _
      clear sto
      generalize (V9.setCell ⟨w.heap.size + 1, 0, none⟩ (.slice (some ⟨bc, 0, none⟩) L.length L.length)).setCell ⟨w.heap.size + 1, 1, none⟩ (.slice (some ⟨ba, 0, none⟩) L.length L.length) = VZ at *
      have E0 : VZ.cell? ⟨w.heap.size + 1, 0, none⟩ = some (.slice (some ⟨bc, 0, none⟩) L.length L.length) := IZ.out.cell 0 (by simp)
      have E1 : VZ.cell? ⟨w.heap.size + 1, 1, none⟩ = some (.slice (some ⟨ba, 0, none⟩) L.length L.length) := IZ.out.cell 1 (by simp)
      refine bodyPost_ret (v := .agg #[.slice (some ⟨bc, 0, none⟩) L.length L.length, .slice (some ⟨ba, 0, none⟩) L.length L.length]) (by simp [results, Tryz.results27, go_sem, E0, E1]) rfl ⟨⟨bc, ba, rfl, by have := BU.out.size; omega, CZ.out.sl, fun k hk => ?_⟩, BZ.out⟩
      have hk' : k < Q.length := by simpa using hk
      have kV : k < (V.set which (.slice x8 q.length y8)).length := by simp [AL]; omega
      have hc := AZ.out.cell k kV
      by_cases e : k = which
      · subst e
        refine ⟨ba, 0, x8, y8, rfl, ?_, ?_⟩
        · rw [Nat.zero_add, hc]; simp
        · simpa using SZ.out.sk.sl
      · obtain ⟨b', h1, h2⟩ := RZ.out k hk'
        rw [List.getElem?_eq_getElem (by rw [AL]; omega)] at h1
        refine ⟨ba, 0, some ⟨b', 0, none⟩, (Q[k]'hk').length, rfl, ?_, ?_⟩
        · rw [Nat.zero_add, hc, List.getElem_set_ne (by omega), List.getElem_set_ne (by omega)]; simpa using h1
        · rw [List.getElem_set_ne (by omega)]; exact h2.sl
end Go.Proofs.YtmpiipcllgjhdaaGreatDoor
