/- The walks of Gcd and Div. -/
import Derived.Test.YtnahindcgedbaaaDoorGcdLow
set_option linter.unusedSimpArgs false
set_option linter.unusedVariables false
namespace Go.Proofs.YtnahindcgedbaaaDoor
open Go.RowKit Go.Deep Go.PlainAid

theorem textV {W : World} {n : Nat} {v : Value} (h : NumV W 1000000000 n v) (b : (dg 1000000000 n).length ≤ 1000000) :
    Calls Tryd.prog 53 #[v] W fun e w' => e = .returned (.string ⟨(txt n).toArray⟩) ∧ Below W.heap.size W w' := by
  obtain ⟨a1, c1, rfl, k1, r1⟩ := h
  exact text_any W a1 c1 n r1 b

set_option maxRecDepth 100000 in
set_option maxHeartbeats 1000000 in
theorem withTwo49_62_ok (a b : ByteArray) (w : World) (ha : wrT a = 0) (hb : wrT b = 0) (r : Value) (c : Int)
    (hF : ∀ W v1 v2, NumV W 1000000000 (bv a.data.toList) v1 → NumV W 1000000000 (bv b.data.toList) v2 → Calls Tryd.prog 62 #[v1, v2] W fun e w' => e = .returned (.tuple #[r, .int .i64 c]) ∧ Below W.heap.size W w') :
    Calls Tryd.prog 49 #[.func (.func 50) #[] #[], .string a, .string b, .func (.func 62) #[] #[]] w fun e w' => e = .returned (.tuple #[r, .int .i64 c]) ∧ Below w.heap.size w w' := by
  have HF : Hid (∀ W v1 v2, NumV W 1000000000 (bv a.data.toList) v1 → NumV W 1000000000 (bv b.data.toList) v2 → Calls Tryd.prog 62 #[v1, v2] W fun e w' => e = .returned (.tuple #[r, .int .i64 c]) ∧ Below W.heap.size W w') := hF
  clear hF
  go_enter Tryd.func49, Tryd.ntmps49
  go_wp2_with fail
  refine (readNumber_ok a w ha).mono ?_
  rintro e w1 ⟨⟨v1, rfl, h1⟩, b1⟩
  have H1 : Hid (NumV w1 1000000000 (bv a.data.toList) v1) := h1
  have B1 : Hid (Below w.heap.size w w1) := b1
  clear h1 b1
  go_wp2_with fail
  refine (readNumber_ok b w1 hb).mono ?_
  rintro e w2 ⟨⟨v2, rfl, h2⟩, b2⟩
  have H2 : Hid (NumV w2 1000000000 (bv b.data.toList) v2) := h2
  have H3 : Hid (NumV w2 1000000000 (bv a.data.toList) v1) := H1.out.of_below b2
  have B2 : Hid (Below w.heap.size w w2) := B1.out.trans (b2.mono B1.out.size)
  clear h2 b2
  go_wp2_with fail
  refine (HF.out w2 v1 v2 H3.out H2.out).mono ?_
  rintro e w3 ⟨rfl, b3⟩
  have B3 : Hid (Below w.heap.size w w3) := B2.out.trans (b3.mono B2.out.size)
  clear b3
  go_wp2_with fail
  go_ret2
  exact ⟨rfl, B3.out⟩

set_option maxHeartbeats 400000 in
theorem gcdF_any (n m : Nat) (b1 : (dg 1000000000 n).length ≤ 4000) (b2 : (dg 1000000000 m).length ≤ 4000) (W : World) (v1 v2 : Value) (h1 : NumV W 1000000000 n v1) (h2 : NumV W 1000000000 m v2) :
    Calls Tryd.prog 62 #[v1, v2] W fun e w' => e = .returned (.tuple #[.string ⟨(txt (Nat.gcd n m)).toArray⟩, .int .i64 0]) ∧ Below W.heap.size W w' := by
  obtain ⟨a1, c1, rfl, k1, r1⟩ := h1
  obtain ⟨a2, c2, rfl, k2, r2⟩ := h2
  have HB : Hid ((dg 1000000000 (Nat.gcd n m)).length ≤ 1000000) := by
    show _ ≤ _
    rcases Nat.eq_zero_or_pos n with h0 | h0
    · rw [h0, Nat.gcd_zero_left]; omega
    · exact Nat.le_trans (dg_len_mono bigBase (Nat.gcd_le_left m h0)) (by omega)
  have HC : Hid (Calls Tryd.prog 63 #[.slice a1 (dg 1000000000 n).length c1, .slice a2 (dg 1000000000 m).length c2] W fun e w' => (∃ v, e = .returned v ∧ NumV w' 1000000000 (Nat.gcd n m) v) ∧ Below W.heap.size W w') := gcdV ⟨a1, c1, rfl, k1, r1⟩ ⟨a2, c2, rfl, k2, r2⟩ (by omega) (by omega)
  generalize (dg 1000000000 n).length = x1 at *
  generalize (dg 1000000000 m).length = x2 at *
  clear r1 r2
  generalize hX : txt (Nat.gcd n m) = X
  have HX : Hid (txt (Nat.gcd n m) = X) := hX
  clear hX
  go_enter Tryd.func62, Tryd.ntmps62
  go_wp2_with fail
  refine HC.out.mono ?_
  rintro e w1 ⟨⟨v, rfl, hv⟩, hb⟩
  obtain ⟨a3, c3, rfl, k3, r3⟩ := hv
  have HT : Hid (Calls Tryd.prog 53 #[.slice a3 (dg 1000000000 (Nat.gcd n m)).length c3] w1 fun e w' => e = .returned (.string ⟨X.toArray⟩) ∧ Below w1.heap.size w1 w') := by
    rw [← HX.out]; exact text_any w1 a3 c3 (Nat.gcd n m) r3 HB.out
  have B1 : Hid (Below W.heap.size W w1) := hb
  clear hb r3 k3
  generalize (dg 1000000000 (Nat.gcd n m)).length = x3 at *
  go_wp2_with fail
  refine HT.out.mono ?_
  rintro e w2 ⟨rfl, hb⟩
  have B2 : Hid (Below W.heap.size W w2) := B1.out.trans (hb.mono B1.out.size)
  clear hb
  go_wp2_with fail
  go_ret2
  exact ⟨rfl, B2.out⟩

set_option maxHeartbeats 400000 in
theorem gcd_call {a b : ByteArray} {w : World} {B : Nat} {x y : Value} (h : Calls Tryd.prog 49 #[.func (.func 50) #[] #[], .string a, .string b, .func (.func 62) #[] #[]] w fun e w' => e = .returned (.tuple #[x, y]) ∧ Below B w w') :
    Calls Tryd.prog 21 #[.string a, .string b] w fun e w' => e = .returned (.tuple #[x, y]) ∧ Below B w w' := by
  go_enter Tryd.func21, Tryd.ntmps21
  go_wp2_with fail
  refine h.mono ?_
  rintro e w1 ⟨rfl, hb⟩
  go_wp2_with fail
  go_ret2
  exact ⟨rfl, hb⟩

theorem gcd_ok (a b : ByteArray) (w : World) (ha : wrT a = 0) (hb : wrT b = 0) :
    Calls Tryd.prog 21 #[.string a, .string b] w fun e w' => e = .returned (.tuple #[.string ⟨(txt (Nat.gcd (bv a.data.toList) (bv b.data.toList))).toArray⟩, .int .i64 0]) ∧ Below w.heap.size w w' :=
  gcd_call (withTwo49_62_ok a b w ha hb _ 0 (gcdF_any _ _ (dg_len_bv a ha) (dg_len_bv b hb)))
theorem gcd_bad (a b : ByteArray) (w : World) (h : wr2 a b ≠ 0) (ha : a.size ≤ 4611686018427387904) (hb : b.size ≤ 4611686018427387904) :
    Calls Tryd.prog 21 #[.string a, .string b] w fun e w' => e = .returned (.tuple #[.string ⟨#[]⟩, .int .i64 (wr2 a b : Int)]) ∧ Below w.heap.size w w' :=
  gcd_call (withTwo49_bad 62 a b w h ha hb)

set_option maxHeartbeats 1000000 in
theorem divF_any (n m : Nat) (hm : m ≠ 0) (b1 : (dg 1000000000 n).length ≤ 4000) (b2 : (dg 1000000000 m).length ≤ 4000) (W : World) (v1 v2 : Value) (h1 : NumV W 1000000000 n v1) (h2 : NumV W 1000000000 m v2) :
    Calls Tryd.prog 65 #[v1, v2] W fun e w' => e = .returned (.tuple #[.agg #[.string ⟨(txt (n / m)).toArray⟩, .string ⟨(txt (n % m)).toArray⟩], .int .i64 0]) ∧ Below W.heap.size W w' := by
  have Z : Hid (∀ W', Below W.heap.size W W' → Calls Tryd.prog 66 #[v2] W' fun e w' => e = .returned (.bool false) ∧ w' = W') := fun W' hW => by
    have := isZeroV (h2.of_below hW)
    rw [beq_eq_false_iff_ne.2 hm] at this
    exact this
  have O : Hid (∀ W', Below W.heap.size W W' → Calls Tryd.prog 67 #[v1, v2] W' fun e w' => (∃ u1 u2, e = .returned (.tuple #[u1, u2]) ∧ NumV w' 1000000000 (n / m) u1 ∧ NumV w' 1000000000 (n % m) u2) ∧ Below W'.heap.size W' w') := fun W' hW => overV (h1.of_below hW) (h2.of_below hW) hm (by omega) (by omega)
  have T1 : Hid (∀ W' v, NumV W' 1000000000 (n / m) v → Calls Tryd.prog 53 #[v] W' fun e w' => e = .returned (.string ⟨(txt (n / m)).toArray⟩) ∧ Below W'.heap.size W' w') := fun W' v h => textV h (Nat.le_trans (dg_len_mono bigBase (Nat.div_le_self n m)) (by omega))
  have T2 : Hid (∀ W' v, NumV W' 1000000000 (n % m) v → Calls Tryd.prog 53 #[v] W' fun e w' => e = .returned (.string ⟨(txt (n % m)).toArray⟩) ∧ Below W'.heap.size W' w') := fun W' v h => textV h (Nat.le_trans (dg_len_mono bigBase (Nat.mod_le n m)) (by omega))
  clear h1 h2
  generalize (⟨(txt (n / m)).toArray⟩ : ByteArray) = S1 at *
  generalize (⟨(txt (n % m)).toArray⟩ : ByteArray) = S2 at *
  generalize n / m = q at *
  generalize n % m = r at *
  go_enter Tryd.func65, Tryd.ntmps65
  go_wp2_with fail
  have B0 : Hid (Below W.heap.size W (W.alloc (.cells #[.string ⟨#[]⟩, .string ⟨#[]⟩] 77))) := (Below.refl _ W).alloc (Nat.le_refl _) _
  have I0 : Hid (IHolds (W.alloc (.cells #[.string ⟨#[]⟩, .string ⟨#[]⟩] 77)) W.heap.size 77 [.string ⟨#[]⟩, .string ⟨#[]⟩]) := IHolds.new W 77 [.string ⟨#[]⟩, .string ⟨#[]⟩]
  generalize W.alloc (.cells #[.string ⟨#[]⟩, .string ⟨#[]⟩] 77) = W0 at *
  refine (Z.out W0 B0.out).mono ?_
  rintro e W0 ⟨rfl, rfl⟩
  go_wp2_with fail
  refine (O.out W0 B0.out).mono ?_
  rintro e W1 ⟨⟨u1, u2, rfl, hu1, hu2⟩, hb⟩
  have N1 : Hid (NumV W1 1000000000 q u1) := hu1
  have N2 : Hid (NumV W1 1000000000 r u2) := hu2
  have B1 : Hid (Below W.heap.size W W1) := B0.out.trans (hb.mono B0.out.size)
  have I1 : Hid (IHolds W1 W.heap.size 77 [.string ⟨#[]⟩, .string ⟨#[]⟩]) := I0.out.of_below hb
  clear hu1 hu2 hb
  go_wp2_with fail
  refine (T1.out W1 u1 N1.out).mono ?_
  rintro e W2 ⟨rfl, hb⟩
  have N2' : Hid (NumV W2 1000000000 r u2) := N2.out.of_below hb
  have B2 : Hid (Below W.heap.size W W2) := B1.out.trans (hb.mono B1.out.size)
  have I2 : Hid (IHolds W2 W.heap.size 77 [.string ⟨#[]⟩, .string ⟨#[]⟩]) := I1.out.of_below hb
  clear hb
  go_wp2_with fail
  refine (T2.out W2 u2 N2'.out).mono ?_
  rintro e W3 ⟨rfl, hb⟩
  have B3 : Hid (Below W.heap.size W W3) := B2.out.trans (hb.mono B2.out.size)
  have I3 := I2.out.of_below hb
  have c0 : W3.cell? ⟨W.heap.size, 0, none⟩ = some (.string ⟨#[]⟩) := I3.cell 0 (by simp)
  have c1 : W3.cell? ⟨W.heap.size, 1, none⟩ = some (.string ⟨#[]⟩) := I3.cell 1 (by simp)
  have f0 : ∀ i, W3.frozen? ⟨W.heap.size, i, none⟩ = false := fun i => I3.frozen i
  have I4 := (I3.set 0 (.string S1)).set 1 (.string S2)
  have B4 : Below W.heap.size W ((W3.setCell ⟨W.heap.size, 0, none⟩ (.string S1)).setCell ⟨W.heap.size, 1, none⟩ (.string S2)) := (B3.out.setCell (Nat.le_refl _) _).setCell (Nat.le_refl _) _
  have d0 : ((W3.setCell ⟨W.heap.size, 0, none⟩ (.string S1)).setCell ⟨W.heap.size, 1, none⟩ (.string S2)).cell? ⟨W.heap.size, 0, none⟩ = some (.string S1) := I4.cell 0 (by simp)
  have d1 : ((W3.setCell ⟨W.heap.size, 0, none⟩ (.string S1)).setCell ⟨W.heap.size, 1, none⟩ (.string S2)).cell? ⟨W.heap.size, 1, none⟩ = some (.string S2) := I4.cell 1 (by simp)
  have HB4 : Hid (Below W.heap.size W ((W3.setCell ⟨W.heap.size, 0, none⟩ (.string S1)).setCell ⟨W.heap.size, 1, none⟩ (.string S2))) := B4
  have D0 : Hid (((W3.setCell ⟨W.heap.size, 0, none⟩ (.string S1)).setCell ⟨W.heap.size, 1, none⟩ (.string S2)).cell? ⟨W.heap.size, 0, none⟩ = some (.string S1)) := d0
  have D1 : Hid (((W3.setCell ⟨W.heap.size, 0, none⟩ (.string S1)).setCell ⟨W.heap.size, 1, none⟩ (.string S2)).cell? ⟨W.heap.size, 1, none⟩ = some (.string S2)) := d1
  clear hb I3 I4 B4 d0 d1
  go_wp2_with fail
  clear c0 c1 f0
  generalize (W3.setCell ⟨W.heap.size, 0, none⟩ (.string S1)).setCell ⟨W.heap.size, 1, none⟩ (.string S2) = W5 at *
  exact bodyPost_ret (v := .tuple #[.agg #[.string S1, .string S2], .int .i64 0]) (by simp [results, Tryd.results65, go_sem, D0.out, D1.out]) rfl ⟨rfl, HB4.out⟩
set_option maxHeartbeats 1000000 in
theorem divF_zero (W : World) (v1 v2 : Value) (h2 : NumV W 1000000000 0 v2) :
    Calls Tryd.prog 65 #[v1, v2] W fun e w' => e = .returned (.tuple #[.agg #[.string ⟨#[]⟩, .string ⟨#[]⟩], .int .i64 5]) ∧ Below W.heap.size W w' := by
  have Z : Hid (∀ W', Below W.heap.size W W' → Calls Tryd.prog 66 #[v2] W' fun e w' => e = .returned (.bool true) ∧ w' = W') := fun W' hW => isZeroV (h2.of_below hW)
  clear h2
  go_enter Tryd.func65, Tryd.ntmps65
  go_wp2_with fail
  have B0 : Hid (Below W.heap.size W (W.alloc (.cells #[.string ⟨#[]⟩, .string ⟨#[]⟩] 77))) := (Below.refl _ W).alloc (Nat.le_refl _) _
  refine (Z.out _ B0.out).mono ?_
  rintro e W0 ⟨rfl, rfl⟩
  go_wp2_with fail
  refine bodyPost_ret (v := .tuple #[.agg #[.string ⟨#[]⟩, .string ⟨#[]⟩], .int .i64 5]) (by simp [results, Tryd.results65, go_sem]) rfl ⟨rfl, ?_⟩
  first | exact B0.out | exact (B0.out.setCell (Nat.le_refl _) _).setCell (Nat.le_refl _) _
end Go.Proofs.YtnahindcgedbaaaDoor
