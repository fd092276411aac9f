/- A text out of values: the walks of wire's textOf and FromLetters. -/
import Derived.Test.YtlogilmeefcipaaReadS
set_option linter.unusedSimpArgs false
set_option linter.unusedVariables false
set_option maxRecDepth 100000
namespace Go.Proofs.Ytlogilmeefcipaa
open Go.RowKit Go.Deep Go.PlainAid

/-- Numbers as a text of bytes. -/
def strN (l : List Nat) : ByteArray := ⟨(l.map fun n => UInt8.ofNat n).toArray⟩
/-- The text that values make, and what is wrong. -/
def txtV (l : List Nat) : ByteArray × Nat := if V 32 l % 2 ^ (5 * l.length % 8) = 0 then (strN (dgs 256 (5 * l.length / 8) (V 32 l / 2 ^ (5 * l.length % 8))), 0) else (⟨#[]⟩, 2)
/-- The text that values and a check make, and what is wrong. -/
def fromV (i : List Nat) (c : Nat) : ByteArray × Nat := if 103 < i.length then (⟨#[]⟩, 3) else if sgn (5 * i.length / 8) ≠ i.length then (⟨#[]⟩, 2) else if chk i ≠ c then (⟨#[]⟩, 8) else txtV i
theorem convert_owned {w : World} {B n : Nat} {v : Value} {out : List Nat} (h : w.ownsRow B 5 1 v n (out.map Y)) : (convert 35 9 v).run Try.prog w = .ok (.string (strN out)) w := by
  obtain ⟨hlen, ⟨rfl, h0⟩ | ⟨g, cap, cur, rfl, hb, hg, hc, hm, hs, ht⟩⟩ := h
  · have : out = [] := by rw [List.length_map] at hlen; exact List.length_eq_zero_iff.1 (by omega)
    subst this
    have := run_convert_bytes_nil (P := Try.prog) w 35 5 Try.underlying35 Try.underlying5 0 0 9 Try.underlying9
    exact this
  · rw [List.length_map, Nat.mul_one] at hlen
    have := run_convert_bytes_arg (P := Try.prog) w 35 5 Try.underlying35 Try.underlying5 g 0 n cap (out.map fun n : Nat => (n : Int)) (by rw [List.length_map]; exact hlen) (fun i hi => by
      rw [Nat.zero_add]
      have hi' : i < out.length := by omega
      have h1 : (out.map Y)[i]? = some (Y out[i]) := by simp [hi']
      rw [← ht, List.getElem?_take, if_pos (by omega)] at h1
      have h2 : (out.map fun n : Nat => (n : Int)).getD i 0 = (out[i] : Int) := by simp [hi']
      rw [h2]
      simp only [World.cell?, hg]
      simpa using h1) 9 Try.underlying9
    rw [this]
    congr 2
    simp [strOfNums, strN, Function.comp_def]
set_option maxHeartbeats 1000000 in
theorem textOf_any (w : World) (a : Option Addr) (cap : Nat) (l : List Nat) (hl : l.length ≤ 1000) (hg : ∀ d ∈ l, d < 32) (hr : VRow w a (l.map Y)) :
    Calls Try.prog 27 #[.slice a l.length cap] w fun e w' => e = .returned (.tuple #[.string (txtV l).1, .int .i64 ((txtV l).2 : Int)]) ∧ Below w.heap.size w w' := by
  have C := regroup_any w 5 8 (by omega) (by omega) (by omega) (by omega) a cap l (by omega) hg hr
  go_enter Try.func27, Try.ntmps27
  go_wp2_with fail
  refine C.mono ?_
  rintro e W1 ⟨⟨v, out, held, left, rfl, hR, hlt, ho⟩, hb⟩
  have B : Hid (Below w.heap.size w W1) := hb
  obtain ⟨d1, d2, d3, d4, d5⟩ := hR.done hlt
  have hcv := convert_owned ho
  obtain ⟨va, vc, hv, _, _, _⟩ := VRow.of_owned ho
  rw [List.length_map] at hv
  have HT : Hid (txtV l = if held = 0 then (strN out, 0) else (⟨#[]⟩, 2)) := by
    show _ = _
    unfold txtV
    have e1 : V 32 l % 2 ^ (5 * l.length % 8) = held := by rw [← d2]; exact d3.symm
    have e2 : dgs 256 (5 * l.length / 8) (V 32 l / 2 ^ (5 * l.length % 8)) = out := by
      rw [← d2, ← d1]; exact d5.symm
    rw [e1, e2]
  clear hb hR d1 d2 d3 d4 d5 ho C
  subst hv
  generalize out.length = on at *
  by_cases h0 : held = 0
  · subst h0
    have HT2 : Hid (txtV l = (strN out, 0)) := by show _ = _; rw [HT.out, if_pos rfl]
    clear HT
    go_wp2_with fail
    go_ret2
    exact ⟨by rw [HT2.out]; rfl, B.out⟩
  · have HT2 : Hid (txtV l = (⟨#[]⟩, 2)) := by show _ = _; rw [HT.out, if_neg h0]
    have k0 : ((held : Int) != 0) = true := by simp; omega
    clear HT hcv h0
    go_wp2_with fail
    go_ret2
    exact ⟨by rw [HT2.out]; rfl, B.out⟩
theorem VRow.init {w : World} {a : Option Addr} {xs : List Value} {y : Value} (h : VRow w a (xs ++ [y])) : VRow w a xs := by
  intro i hi
  obtain ⟨b, o, e, c⟩ := h i (by simp; omega)
  exact ⟨b, o, e, by rw [c, List.getElem_append_left hi]⟩
theorem VRow.last {w : World} {a : Option Addr} {xs : List Value} {y : Value} (h : VRow w a (xs ++ [y])) : ∃ b o, a = some ⟨b, o, none⟩ ∧ w.cell? ⟨b, o + xs.length, none⟩ = some y := by
  obtain ⟨b, o, e, c⟩ := h xs.length (by simp)
  exact ⟨b, o, e, by rw [c]; simp⟩
set_option maxHeartbeats 1000000 in
theorem signsFor_any (w : World) (n : Nat) (hn : n ≤ 100000000) : Calls Try.prog 25 #[.int .i64 (n : Int)] w fun e w' => e = .returned (.int .i64 (sgn n : Int)) ∧ Below w.heap.size w w' := by
  obtain ⟨q, hq⟩ : ∃ q, q = sgn n := ⟨_, rfl⟩
  have HQ : Hid (sgn n = q) := hq.symm
  have q9 : q ≤ 200000000 := by rw [hq]; unfold sgn; omega
  have k1 : (8 * (n : Int) + 5 - 1).tdiv 5 = (q : Int) := by rw [Int.tdiv_eq_ediv_of_nonneg (by omega), hq]; unfold sgn; omega
  clear hq
  go_enter Try.func25, Try.ntmps25
  go_wp2_with fail
  go_ret
  exact ⟨by rw [HQ.out]; rfl, Below.refl _ _⟩
set_option maxHeartbeats 1000000 in
theorem bytesIn_any (w : World) (n : Nat) (hn : n ≤ 100000000) : Calls Try.prog 26 #[.int .i64 (n : Int)] w fun e w' => e = .returned (.int .i64 ((5 * n / 8 : Nat) : Int)) ∧ Below w.heap.size w w' := by
  obtain ⟨q, hq⟩ : ∃ q, q = 5 * n / 8 := ⟨_, rfl⟩
  have q9 : q ≤ 200000000 := by omega
  have k1 : (5 * (n : Int)).tdiv 8 = (q : Int) := by rw [Int.tdiv_eq_ediv_of_nonneg (by omega), hq]; omega
  rw [← hq]
  clear hq
  go_enter Try.func26, Try.ntmps26
  go_wp2_with fail
  go_ret
  exact ⟨rfl, Below.refl _ _⟩
set_option maxHeartbeats 2000000 in
theorem from_bad (w : World) (s : ByteArray) (hs : s.size ≤ 1100000) (h : okB (sls (bs s)) = false ∨ sls (bs s) = []) :
    Calls Try.prog 12 #[.string s] w fun e w' => e = .returned (.tuple #[.string ⟨#[]⟩, .int .i64 2]) ∧ Below w.heap.size w w' := by
  have C := readSigns_any w s hs
  go_enter Try.func12, Try.ntmps12
  go_wp2_with fail
  refine C.mono ?_
  rintro e W1 ⟨⟨hf, rfl⟩ | ⟨ht, v, rfl, ho⟩, hb⟩
  · have B : Hid (Below w.heap.size w W1) := hb
    clear hb C
    go_wp2_with fail
    go_ret2
    exact ⟨rfl, B.out⟩
  · have B : Hid (Below w.heap.size w W1) := hb
    have he : sls (bs s) = [] := by
      rcases h with h | h
      · rw [ht] at h; cases h
      · exact h
    have hd : decide (0 < (sls (bs s)).length) = false := by rw [he]; rfl
    rw [hd]
    obtain ⟨va, vc, hv, _, _, _⟩ := VRow.of_owned ho
    subst hv
    clear hb C ho h he hd
    generalize (mY (sls (bs s))).length = q at *
    go_wp2_with fail
    go_ret2
    exact ⟨rfl, B.out⟩
set_option maxHeartbeats 2000000 in
theorem from_good (w : World) (s : ByteArray) (hs : s.size ≤ 1100000) (i : List Nat) (c : Nat) (hok : okB (sls (bs s)) = true) (hl : (sls (bs s)).map Int.toNat = i ++ [c]) (hi : ∀ d ∈ i, d < 32) (hc : c < 37) :
    Calls Try.prog 12 #[.string s] w fun e w' => e = .returned (.tuple #[.string (fromV i c).1, .int .i64 ((fromV i c).2 : Int)]) ∧ Below w.heap.size w w' := by
  have C := readSigns_any w s hs
  have hlen : (sls (bs s)).length = i.length + 1 := by have := congrArg List.length hl; simpa using this
  have hmy : mY (sls (bs s)) = i.map Y ++ [Y c] := by
    have : mY (sls (bs s)) = ((sls (bs s)).map Int.toNat).map Y := by simp [mY]
    rw [this, hl]; simp
  have l9 : i.length ≤ 1100000 := by have := sls_length (bs s); rw [bs_length] at this; omega
  have HI : Hid (∀ d ∈ i, d < 32) := hi
  go_enter Try.func12, Try.ntmps12
  go_wp2_with fail
  refine C.mono ?_
  rintro e W1 ⟨⟨hf, rfl⟩ | ⟨ht, v, rfl, ho⟩, hb⟩
  · rw [hok] at hf; cases hf
  · have B : Hid (Below w.heap.size w W1) := hb
    rw [hlen, hmy] at ho
    have hd : decide (0 < (sls (bs s)).length) = true := by rw [hlen]; simp
    rw [hd]
    obtain ⟨va, vc, hv, hvc, _, hV⟩ := VRow.of_owned ho
    rw [List.length_append, List.length_map, List.length_singleton] at hv hvc
    subst hv
    obtain ⟨ab, ao, rfl, hcell⟩ := hV.last
    rw [List.length_map] at hcell
    have VI : Hid (VRow W1 (some ⟨ab, ao, none⟩) (i.map Y)) := hV.init
    have F1 : Hid (103 < i.length → fromV i c = (⟨#[]⟩, 3)) := fun h => by unfold fromV; rw [if_pos h]
    have F2 : Hid (¬ 103 < i.length → sgn (5 * i.length / 8) ≠ i.length → fromV i c = (⟨#[]⟩, 2)) := fun h h2 => by unfold fromV; rw [if_neg h, if_pos h2]
    have F3 : Hid (¬ 103 < i.length → ¬ sgn (5 * i.length / 8) ≠ i.length → chk i ≠ c → fromV i c = (⟨#[]⟩, 8)) := fun h h2 h3 => by unfold fromV; rw [if_neg h, if_neg h2, if_pos h3]
    have F4 : Hid (¬ 103 < i.length → ¬ sgn (5 * i.length / 8) ≠ i.length → ¬ chk i ≠ c → fromV i c = txtV i) := fun h h2 h3 => by unfold fromV; rw [if_neg h, if_neg h2, if_neg h3]
    have CK : Hid (i.length ≤ 103 → ∀ W, Below W1.heap.size W1 W → Calls Try.prog 23 #[.slice (some ⟨ab, ao, none⟩) i.length vc] W fun e w' => e = .returned (.int .u8 (chk i : Int)) ∧ Below W.heap.size W w') := fun h W hW => checkOf_any W _ vc i (by omega) (fun d hd => by have := HI.out d hd; omega) (VI.out.of_below hW)
    have CT : Hid (i.length ≤ 103 → ∀ W, Below W1.heap.size W1 W → Calls Try.prog 27 #[.slice (some ⟨ab, ao, none⟩) i.length vc] W fun e w' => e = .returned (.tuple #[.string (txtV i).1, .int .i64 ((txtV i).2 : Int)]) ∧ Below W.heap.size W w') := fun h W hW => textOf_any W _ vc i (by omega) HI.out (VI.out.of_below hW)
    have C25 : Hid (∀ W (n : Nat), n ≤ 100000000 → Calls Try.prog 25 #[.int .i64 (n : Int)] W fun e w' => e = .returned (.int .i64 (sgn n : Int)) ∧ Below W.heap.size W w') := fun W n h => signsFor_any W n h
    have C26 : Hid (∀ W, Calls Try.prog 26 #[.int .i64 (i.length : Int)] W fun e w' => e = .returned (.int .i64 ((5 * i.length / 8 : Nat) : Int)) ∧ Below W.heap.size W w') := fun W => bytesIn_any W i.length (by omega)
    have C64 : Hid (∀ W, Calls Try.prog 25 #[.int .i64 64] W fun e w' => e = .returned (.int .i64 103) ∧ Below W.heap.size W w') := fun W => signsFor_any W 64 (by omega)
    have ck9 := chk_lt i
    clear hb C ho hV hlen hmy hl hok hi HI VI ht hd
    generalize chk i = ck at *
    generalize txtV i = tx at *
    generalize i.length = k at *
    have kk : (k : Int) + 1 - 1 = (k : Int) := by omega
    have kl : (k : Int) < (k : Int) + 1 := by omega
    have kc : (k : Int) ≤ (vc : Int) := by omega
    have kvc : (k : Int) + 1 ≤ (vc : Int) := by omega
    go_wp2_with fail
    go_quiet (fail)
    have BQ : Hid (Below W1.heap.size W1 (W1.drewN nq)) := ⟨rfl, rfl, rfl, Nat.le_refl _, fun _ _ => rfl⟩
    generalize W1.drewN nq = wq at *
    clear hcell kk kl kc kvc
    go_wp2_with fail
    refine (C64.out wq).mono ?_
    rintro e W2 ⟨rfl, hb⟩
    replace BQ : Hid (Below W1.heap.size W1 W2) := BQ.out.trans (hb.mono BQ.out.size)
    clear hb C64
    by_cases h103 : 103 < k
    · have HF : Hid (fromV i c = (⟨#[]⟩, 3)) := F1.out h103
      have k1 : (103 : Int) < (k : Int) := by omega
      have B9 : Hid (Below w.heap.size w W2) := B.out.trans (BQ.out.mono B.out.size)
      clear F1 F2 F3 F4
      go_wp2_with fail
      go_ret2
      exact ⟨by rw [HF.out]; rfl, B9.out⟩
    have k1 : ¬ (103 : Int) < (k : Int) := by omega
    have CK1 := CK.out (by omega)
    have CT1 := CT.out (by omega)
    have HCK : Hid (∀ W, Below W1.heap.size W1 W → Calls Try.prog 23 #[.slice (some ⟨ab, ao, none⟩) k vc] W fun e w' => e = .returned (.int .u8 (ck : Int)) ∧ Below W.heap.size W w') := CK1
    have HCT : Hid (∀ W, Below W1.heap.size W1 W → Calls Try.prog 27 #[.slice (some ⟨ab, ao, none⟩) k vc] W fun e w' => e = .returned (.tuple #[.string tx.1, .int .i64 (tx.2 : Int)]) ∧ Below W.heap.size W w') := CT1
    have G2 : Hid (sgn (5 * k / 8) ≠ k → fromV i c = (⟨#[]⟩, 2)) := fun h => F2.out h103 h
    have G3 : Hid (¬ sgn (5 * k / 8) ≠ k → ck ≠ c → fromV i c = (⟨#[]⟩, 8)) := fun h h2 => F3.out h103 h h2
    have G4 : Hid (¬ sgn (5 * k / 8) ≠ k → ¬ ck ≠ c → fromV i c = tx) := fun h h2 => F4.out h103 h h2
    have C27 : Hid (∀ W, Calls Try.prog 25 #[.int .i64 ((5 * k / 8 : Nat) : Int)] W fun e w' => e = .returned (.int .i64 (sgn (5 * k / 8) : Int)) ∧ Below W.heap.size W w') := fun W => C25.out W _ (by omega)
    have s9 : sgn (5 * k / 8) ≤ 200 := by unfold sgn; omega
    clear F1 F2 F3 F4 CK1 CT1 CK CT C25
    generalize sgn (5 * k / 8) = sg9 at *
    generalize 5 * k / 8 = n8 at *
    go_wp2_with fail
    refine (C26.out W2).mono ?_
    rintro e W3 ⟨rfl, hb⟩
    replace BQ : Hid (Below W1.heap.size W1 W3) := BQ.out.trans (hb.mono BQ.out.size)
    clear hb C26
    go_wp2_with fail
    refine (C27.out W3).mono ?_
    rintro e W4 ⟨rfl, hb⟩
    replace BQ : Hid (Below W1.heap.size W1 W4) := BQ.out.trans (hb.mono BQ.out.size)
    clear hb C27
    by_cases hsg : sg9 ≠ k
    · have HF : Hid (fromV i c = (⟨#[]⟩, 2)) := G2.out hsg
      have k2 : ((k : Int) != (sg9 : Int)) = true := by simp; omega
      have B9 : Hid (Below w.heap.size w W4) := B.out.trans (BQ.out.mono B.out.size)
      clear G2 G3 G4 hsg
      go_wp2_with fail
      go_ret2
      exact ⟨by rw [HF.out]; rfl, B9.out⟩
    have H3 : Hid (ck ≠ c → fromV i c = (⟨#[]⟩, 8)) := fun h2 => G3.out hsg h2
    have H4 : Hid (¬ ck ≠ c → fromV i c = tx) := fun h2 => G4.out hsg h2
    have k2 : ((k : Int) != (sg9 : Int)) = false := by simp; omega
    clear G2 G3 G4
    go_wp2_with fail
    refine (HCK.out W4 BQ.out).mono ?_
    rintro e W5 ⟨rfl, hb⟩
    replace BQ : Hid (Below W1.heap.size W1 W5) := BQ.out.trans (hb.mono BQ.out.size)
    clear hb HCK k2 hsg
    by_cases hck : ck ≠ c
    · have HF : Hid (fromV i c = (⟨#[]⟩, 8)) := H3.out hck
      have k3 : ((c : Int) != (ck : Int)) = true := by simp; omega
      have B9 : Hid (Below w.heap.size w W5) := B.out.trans (BQ.out.mono B.out.size)
      clear H3 H4 hck
      go_wp2_with fail
      go_ret2
      exact ⟨by rw [HF.out]; rfl, B9.out⟩
    have HF : Hid (fromV i c = tx) := H4.out hck
    have k3 : ((c : Int) != (ck : Int)) = false := by simp; omega
    clear H3 H4
    go_wp2_with fail
    refine (HCT.out W5 BQ.out).mono ?_
    rintro e W6 ⟨rfl, hb⟩
    replace BQ : Hid (Below W1.heap.size W1 W6) := BQ.out.trans (hb.mono BQ.out.size)
    have B9 : Hid (Below w.heap.size w W6) := B.out.trans (BQ.out.mono B.out.size)
    clear hb HCT k3 hck
    go_wp2_with fail
    go_ret2
    exact ⟨by rw [HF.out]; rfl, B9.out⟩
end Go.Proofs.Ytlogilmeefcipaa
