/- Products of powers, and rows of numbers in memory. The product of the powers of numbers. The inverse of a scalar. The reference: sums, products and powers modulo. The reference: the bits of a number, and powers modulo. The reference: powers modulo. What is known of the kinds, and the answers of Add, Sub, Mul, Inv. ExtractAny and Extract. Extract. -/
import Derived.Test.YtmpiipcllgjhdaaGreatDoorY10
import Derived.Deep.CutBlock
import Derived.Deep.DeepCutAuto
import Derived.Test.YtmpiipcllgjhdaaGreatDoorY09
import Derived.Test.YtmpiipcllgjhdaaGreatDoorY08
import Derived.Test.YtmpiipcllgjhdaaGreatDoorY05
set_option linter.unusedSimpArgs false
set_option linter.unusedVariables false
set_option maxRecDepth 100000
namespace Go.Proofs.YtmpiipcllgjhdaaGreatDoor
open Go.RowKit Go.Deep Go.PlainAid

/-- The product of the first powers, each by what is left of its exponent above place t. -/
def prodP (al nl : List Nat) (t : Nat) : Nat → Nat
  | 0 => 1
  | i + 1 => prodP al nl t i * (al.getD i 0) ^ (nl.getD i 0 / 16 ^ t)
/-- The product of the first powers, each by the digit at place p. -/
def digP (al nl : List Nat) (p : Nat) : Nat → Nat
  | 0 => 1
  | i + 1 => digP al nl p i * (al.getD i 0) ^ (dgt (nl.getD i 0) p)
/-- The product of the first powers. -/
def powP (al nl : List Nat) : Nat → Nat
  | 0 => 1
  | i + 1 => powP al nl i * (al.getD i 0) ^ (nl.getD i 0)
theorem dgt_step (n p : Nat) : n / 16 ^ p = n / 16 ^ (p + 1) * 16 + dgt n p := by
  unfold dgt
  rw [Nat.pow_succ, ← Nat.div_div_eq_div_mul]
  exact (Nat.div_add_mod' (n / 16 ^ p) 16).symm
theorem prodP_step (al nl : List Nat) (p i : Nat) : prodP al nl p i = prodP al nl (p + 1) i ^ 16 * digP al nl p i := by
  induction i with
  | zero => simp [prodP, digP]
  | succ i ih =>
    rw [prodP, prodP, digP, ih, dgt_step, Nat.pow_add, Nat.mul_pow, ← Nat.pow_mul]
    simp only [Nat.mul_assoc, Nat.mul_left_comm, Nat.mul_comm]
theorem prodP_top (al nl : List Nat) (t i : Nat) (h : ∀ j, j < i → nl.getD j 0 < 16 ^ t) : prodP al nl t i = 1 := by
  induction i with
  | zero => rfl
  | succ i ih => rw [prodP, ih (fun j hj => h j (by omega)), Nat.div_eq_of_lt (h i (by omega)), Nat.pow_zero]
theorem prodP_zero (al nl : List Nat) (i : Nat) : prodP al nl 0 i = powP al nl i := by
  induction i with
  | zero => rfl
  | succ i ih => rw [prodP, powP, ih, Nat.pow_zero, Nat.div_one]
/-- A number's four words lie there. -/
structure NA (W : World) (b o X : Nat) : Prop where
  a0 : W.cell? ⟨b, o, none⟩ = some (U (w4 X 0))
  a1 : W.cell? ⟨b, o + 1, none⟩ = some (U (w4 X 1))
  a2 : W.cell? ⟨b, o + 2, none⟩ = some (U (w4 X 2))
  a3 : W.cell? ⟨b, o + 3, none⟩ = some (U (w4 X 3))
theorem NA.lt {W : World} {b o X : Nat} (h : NA W b o X) : b < W.heap.size := World.block_lt_of_cell? W ⟨b, o, none⟩ h.a0
theorem NA.same {W W' : World} {b o X : Nat} (h : NA W b o X) (e : ∀ i, W'.cell? ⟨b, i, none⟩ = W.cell? ⟨b, i, none⟩) : NA W' b o X :=
  ⟨by rw [e]; exact h.a0, by rw [e]; exact h.a1, by rw [e]; exact h.a2, by rw [e]; exact h.a3⟩
theorem NA.of_below {W W' : World} {b o X : Nat} (h : NA W b o X) (hb : Below W.heap.size W W') : NA W' b o X := h.same fun i => hb.cell h.lt
theorem NA.of_but {W W' : World} {k b o X : Nat} (h : NA W b o X) (hb : But k W W') (hne : b ≠ k) : NA W' b o X := h.same fun i => hb.cell h.lt hne i
theorem aA {W W' : World} {b o X : Nat} (h : Hid (NA W b o X)) (hb : Below W.heap.size W W') : Hid (NA W' b o X) := h.out.of_below hb
theorem tA {W W' : World} {k b o X : Nat} (h : Hid (NA W b o X)) (hb : But k W W') (hne : b ≠ k) : Hid (NA W' b o X) := h.out.of_but hb hne
/-- A row of numbers. -/
def NumsV (W : World) (l : List Nat) (v : Value) : Prop :=
  ∃ a cap, v = .slice a l.length cap ∧ l.length ≤ cap ∧ cap ≤ 9223372036854775807 ∧ ∀ i, i < l.length → ∃ b o, a = some ⟨b, o, none⟩ ∧ NA W b (o + i * 4) (l.getD i 0)
theorem NumsV.of_below {W W' : World} {l : List Nat} {v : Value} (h : NumsV W l v) (hb : Below W.heap.size W W') : NumsV W' l v := by
  obtain ⟨a, cap, rfl, h1, h2, h3⟩ := h
  refine ⟨a, cap, rfl, h1, h2, fun i hi => ?_⟩
  obtain ⟨b, o, e, hn⟩ := h3 i hi
  exact ⟨b, o, e, hn.of_below hb⟩
/-- One number in a row of its own. -/
theorem NumsV.one {W : World} {b X : Nat} (h : IHolds W b 73 (us (ws4 X))) : NumsV W [X] (.slice (some ⟨b, 0, none⟩) 1 1) := by
  refine ⟨_, 1, rfl, by simp, by omega, ?_⟩
  intro i hi
  simp only [List.length_cons, List.length_nil, Nat.zero_add, Nat.lt_one_iff] at hi
  subst hi
  refine ⟨b, 0, rfl, ?_⟩
  have c := fun j hj => us_cell h j (by rw [ws4_length]; exact hj)
  have e := fun j hj => ws4_getD X j hj
  constructor
  · have := c 0 (by omega); rw [e 0 (by omega)] at this; exact this
  · have := c 1 (by omega); rw [e 1 (by omega)] at this; exact this
  · have := c 2 (by omega); rw [e 2 (by omega)] at this; exact this
  · have := c 3 (by omega); rw [e 3 (by omega)] at this; exact this
theorem TabV.mono {W W' : World} {base base' R M a n : Nat} {v : Value} (h : TabV W base R M a n v) (hb : base' ≤ base) (e : ∀ k i, base ≤ k → k < W.heap.size → W'.cell? ⟨k, i, none⟩ = W.cell? ⟨k, i, none⟩) : TabV W' base' R M a n v := by
  obtain ⟨gk, cap, k, rfl, h1, h2, h3, h4, h5⟩ := h
  refine ⟨gk, cap, k, rfl, by omega, h2, h3, h4, ?_⟩
  intro d j hd hj
  have := h5 d j hd hj
  rw [e gk _ h1 (World.block_lt_of_cell? W ⟨gk, d * 4 + j, none⟩ this)]
  exact this
/-- The first tables are laid. -/
def TS (W : World) (bt R M : Nat) (al nl : List Nat) (i : Nat) (TV : List Value) : Prop :=
  ∀ j, j < i → ∃ v, TV[j]? = some v ∧ TabV W (bt + 1) R M (al.getD j 0) (nl.getD j 0) v
theorem TS.of_below {W W' : World} {bt R M : Nat} {al nl : List Nat} {i : Nat} {TV : List Value} (h : TS W bt R M al nl i TV) (hb : Below W.heap.size W W') : TS W' bt R M al nl i TV := by
  intro j hj
  obtain ⟨v, e, t⟩ := h j hj
  exact ⟨v, e, t.mono (Nat.le_refl _) (fun k i _ hk => hb.cell hk)⟩
/-- One more is stored. -/
theorem TS.stored {W : World} {bt R M : Nat} {al nl : List Nat} {i : Nat} {TV : List Value} {v : Value} (h : TS W bt R M al nl i TV) (hv : TabV W (bt + 1) R M (al.getD i 0) (nl.getD i 0) v) (hi : i < TV.length) :
    TS (W.setCell ⟨bt, i, none⟩ v) bt R M al nl (i + 1) (TV.set i v) := by
  have c : ∀ k n, bt + 1 ≤ k → k < W.heap.size → (W.setCell ⟨bt, i, none⟩ v).cell? ⟨k, n, none⟩ = W.cell? ⟨k, n, none⟩ := fun k n h1 h2 => ((But.refl bt W).setCell i v).cell h2 (by omega) n
  intro j hj
  by_cases e : j = i
  · subst e
    exact ⟨v, by rw [List.getElem?_set_self hi], hv.mono (Nat.le_refl _) c⟩
  · obtain ⟨u, hu, t⟩ := h j (by omega)
    exact ⟨u, by rw [List.getElem?_set_ne (by omega)]; exact hu, t.mono (Nat.le_refl _) c⟩
theorem Tryz.info105 : (Tryz.prog.info? 121).map (fun i => (i.zero, i.size, i.bytes)) = some (some (.slice none 0 0), 1, 24) := by kernel_rfl
theorem make113 (z : Int) (n : Nat) (hz : z = (n : Int)) (hn : n ≤ 1000000) (w : World) : (Instr.makeSlice 151 (.int .i64 z) (.int .i64 z)).run Tryz.prog w = .ok (.slice (some ⟨w.heap.size, 0, none⟩) n n) (w.alloc (.cells (List.replicate n (Value.slice none 0 0)).toArray 121)) := by
  subst hz
  have := run_make_row' (P := Tryz.prog) 151 121 (.slice none 0 0) 24 Tryz.underlying151 Tryz.info105 rfl .i64 .i64 n (by omega) (by omega) w
  rw [this]
  have e : madeCells #[Value.slice none 0 0] n = (List.replicate n (Value.slice none 0 0)).toArray := by
    apply Array.toList_inj.1
    rw [toList_madeCells_one]
  rw [e]
end Go.Proofs.YtmpiipcllgjhdaaGreatDoor
namespace Go.Proofs.YtmpiipcllgjhdaaGreatDoor
open Go.RowKit Go.Deep Go.PlainAid

theorem holds4 {W : World} {b X : Nat} (h : IHolds W b 73 (us (ws4 X))) : W.cell? ⟨b, 0, none⟩ = some (U (w4 X 0)) ∧ W.cell? ⟨b, 1, none⟩ = some (U (w4 X 1)) ∧ W.cell? ⟨b, 2, none⟩ = some (U (w4 X 2)) ∧ W.cell? ⟨b, 3, none⟩ = some (U (w4 X 3)) :=
  ⟨IHolds.cell h 0 (by simp [us, ws4]), IHolds.cell h 1 (by simp [us, ws4]), IHolds.cell h 2 (by simp [us, ws4]), IHolds.cell h 3 (by simp [us, ws4])⟩
/-- All exponents are below. -/
def AllTop (nl : List Nat) (i t : Nat) : Prop := ∀ j, j < i → nl.getD j 0 < 16 ^ t
theorem AllTop.step {nl : List Nat} {i t D m : Nat} (h : AllTop nl i t) (hD : nl.getD i 0 < 16 ^ D) (h1 : t ≤ m) (h2 : D ≤ m) : AllTop nl (i + 1) m := by
  intro j hj
  by_cases e : j = i
  · subst e; exact Nat.lt_of_lt_of_le hD (Nat.pow_le_pow_right (by omega) h2)
  · exact Nat.lt_of_lt_of_le (h j (by omega)) (Nat.pow_le_pow_right (by omega) h1)
set_option maxRecDepth 100000 in
set_option maxHeartbeats 4000000 in
theorem powers_any {w : World} {g o Wd M low one sq Ri : Nat} (F : Hid (FH w g o Wd M low one sq)) (fl : Fld Wd M low one sq Ri) (al nl : List Nat) (va vn : Value) (ha : NumsV w al va) (hn : NumsV w nl vn) (hl : al.length = nl.length) (hk : al.length ≤ 1000)
    (ha9 : ∀ j, j < al.length → al.getD j 0 < BB ^ Wd) (hn9 : ∀ j, j < al.length → nl.getD j 0 < BB ^ 4) :
    Calls Tryz.prog 69 #[.pointer (some ⟨g, o, none⟩), va, vn] w fun e w' => e = .returned (A4 (powP al nl al.length % M)) ∧ Below w.heap.size w w' := by
  obtain ⟨R, hR⟩ : ∃ R, R = BB ^ Wd := ⟨_, rfl⟩
  have HO : Hid (one = 1 * R % M) := by show _ = _; rw [fl.o, Nat.one_mul, hR]
  have CE : Hid (∀ W X, FH W g o Wd M low one sq → X < R → Calls Tryz.prog 107 #[.pointer (some ⟨g, o, none⟩), A4 X] W fun e w' => e = .returned (A4 (X * R % M)) ∧ Below W.heap.size W w') := fun W X hF hX => by rw [hR] at hX ⊢; exact enterA hF fl hX
  have CT : Hid (∀ W a n, FH W g o Wd M low one sq → n < BB ^ 4 → Calls Tryz.prog 106 #[.pointer (some ⟨g, o, none⟩), A4 (a * R % M), A4 n] W fun e w' => (∃ v, e = .returned v ∧ TabV w' W.heap.size R M a n v) ∧ Below W.heap.size W w') := fun W a n hF hX => by rw [hR]; exact table_any hF fl hX
  have CJ : Hid (∀ W a b, FH W g o Wd M low one sq → Calls Tryz.prog 109 #[.pointer (some ⟨g, o, none⟩), A4 (a * R % M), A4 (b * R % M)] W fun e w' => e = .returned (A4 (a * b * R % M)) ∧ Below W.heap.size W w') := fun W a b hF => by rw [hR]; exact joined_both hF fl
  have CL : Hid (∀ W a, FH W g o Wd M low one sq → Calls Tryz.prog 111 #[.pointer (some ⟨g, o, none⟩), A4 (a * R % M)] W fun e w' => e = .returned (A4 (a % M)) ∧ Below W.heap.size W w') := fun W a hF => by rw [hR]; exact leaveA hF fl
  have HA9 : Hid (∀ j, j < al.length → al.getD j 0 < R) := by rw [hR]; exact ha9
  have HN9 : Hid (∀ j, j < al.length → nl.getD j 0 < BB ^ 4) := hn9
  clear ha9 hn9 fl hR
  obtain ⟨aa, ca, rfl, hca1, hca2, hA⟩ := ha
  obtain ⟨an, cn, rfl, hcn1, hcn2, hN⟩ := hn
  rw [← hl] at hcn1 hN ⊢
  clear hl
  obtain ⟨n, hn⟩ : ∃ n, n = al.length := ⟨_, rfl⟩
  rw [← hn] at hA hN HA9 HN9 hk hca1 hcn1 ⊢
  clear hn
  have HA : Hid (∀ i, i < n → ∃ b o, aa = some ⟨b, o, none⟩ ∧ NA w b (o + i * 4) (al.getD i 0)) := hA
  have HN : Hid (∀ i, i < n → ∃ b o, an = some ⟨b, o, none⟩ ∧ NA w b (o + i * 4) (nl.getD i 0)) := hN
  clear hA hN
  have hmk : ∀ W : World, (Instr.makeSlice 151 (.int .i64 (n : Int)) (.int .i64 (n : Int))).run Tryz.prog W = .ok (.slice (some ⟨W.heap.size, 0, none⟩) n n) (W.alloc (.cells (List.replicate n (Value.slice none 0 0)).toArray 121)) := fun W => make113 _ n rfl (by omega) W
  have Jr : Hid (IHolds (w.alloc (.cells #[.int .u64 0, .int .u64 0, .int .u64 0, .int .u64 0] 73)) w.heap.size 73 [.int .u64 0, .int .u64 0, .int .u64 0, .int .u64 0]) := IHolds.new w 73 [.int .u64 0, .int .u64 0, .int .u64 0, .int .u64 0]
  have B : Hid (Below w.heap.size w (w.alloc (.cells #[.int .u64 0, .int .u64 0, .int .u64 0, .int .u64 0] 73))) := nB _ _
  have hgl : g < w.heap.size := F.out.lt
  replace F := aF F B.out
  have HAl : Hid (∀ i, i < n → ∃ b o, aa = some ⟨b, o, none⟩ ∧ b < w.heap.size) := fun i hi => by obtain ⟨b, o, e, h⟩ := HA.out i hi; exact ⟨b, o, e, h.lt⟩
  replace HA : Hid (∀ i, i < n → ∃ b o, aa = some ⟨b, o, none⟩ ∧ NA (w.alloc (.cells #[.int .u64 0, .int .u64 0, .int .u64 0, .int .u64 0] 73)) b (o + i * 4) (al.getD i 0)) := fun i hi => by obtain ⟨b, o, e, h⟩ := HA.out i hi; exact ⟨b, o, e, h.of_below B.out⟩
  replace HN : Hid (∀ i, i < n → ∃ b o, an = some ⟨b, o, none⟩ ∧ NA (w.alloc (.cells #[.int .u64 0, .int .u64 0, .int .u64 0, .int .u64 0] 73)) b (o + i * 4) (nl.getD i 0)) := fun i hi => by obtain ⟨b, o, e, h⟩ := HN.out i hi; exact ⟨b, o, e, h.of_below B.out⟩
  have hmk1 := hmk (w.alloc (.cells #[.int .u64 0, .int .u64 0, .int .u64 0, .int .u64 0] 73))
  clear hmk HAl
  have Jt : Hid (IHolds ((w.alloc (.cells #[.int .u64 0, .int .u64 0, .int .u64 0, .int .u64 0] 73)).alloc (.cells (List.replicate n (Value.slice none 0 0)).toArray 121)) (w.alloc (.cells #[.int .u64 0, .int .u64 0, .int .u64 0, .int .u64 0] 73)).heap.size 121 (List.replicate n (Value.slice none 0 0))) := IHolds.new _ _ _
  have Bt : Hid (Below (w.alloc (.cells #[.int .u64 0, .int .u64 0, .int .u64 0, .int .u64 0] 73)).heap.size (w.alloc (.cells #[.int .u64 0, .int .u64 0, .int .u64 0, .int .u64 0] 73)) ((w.alloc (.cells #[.int .u64 0, .int .u64 0, .int .u64 0, .int .u64 0] 73)).alloc (.cells (List.replicate n (Value.slice none 0 0)).toArray 121))) := nB _ _
  have HSz : (w.alloc (.cells #[.int .u64 0, .int .u64 0, .int .u64 0, .int .u64 0] 73)).heap.size = w.heap.size + 1 := World.size_alloc _ _
  go_enter Tryz.func69, Tryz.ntmps69
  obtain ⟨b0, hb0⟩ : ∃ b, b = w.heap.size := ⟨_, rfl⟩
  generalize (w.alloc (.cells #[.int .u64 0, .int .u64 0, .int .u64 0, .int .u64 0] 73)).alloc (.cells (List.replicate n (Value.slice none 0 0)).toArray 121) = U1 at *
  go_wp2_with fail
  generalize w.alloc (.cells #[.int .u64 0, .int .u64 0, .int .u64 0, .int .u64 0] 73) = U0 at *
  rw [← hb0] at Jr hgl HSz ⊢
  have Hs : Hid (U0.heap.size = b0 + 1) := HSz
  rw [HSz] at Jt
  have Hb0 : Hid (b0 = w.heap.size) := hb0
  clear hb0 hmk1 HSz
  have CD : Hid (∀ W X, X < BB ^ 4 → Calls Tryz.prog 108 #[A4 X] W fun e w' => (∃ D : Nat, e = .returned (.int .i64 (D : Int)) ∧ X < 16 ^ D ∧ D ≤ 64) ∧ Below W.heap.size W w') := fun W X hX => digits_any W hX
  go_loopg [8, 19] n (fun gk v8 v19 wr => ∃ (i top : Nat) (TV : List Value), gk + i = n ∧ v8 = .int .i64 (top : Int) ∧ v19 = .int .i64 (i : Int) ∧ top ≤ 64 ∧ TV.length = n ∧ AllTop nl i top ∧ TS wr (b0 + 1) R M al nl i TV ∧ IHolds wr (b0 + 1) 121 TV ∧ Below U0.heap.size U0 wr)
  case atStart => exact ⟨0, 0, List.replicate n (Value.slice none 0 0), by omega, rfl, rfl, by omega, by simp, fun j h => by omega, fun j h => by omega, Jt.out, Bt.out⟩
  case round =>
    clear Jt Bt U1
    obtain ⟨i, top, TV, hi, rfl, rfl, htop, hTV, hAT, hTS, hIT, hB⟩ := hrel
    have HTV : Hid (TV.length = n) := hTV
    have HAT : Hid (AllTop nl i top) := hAT
    have HTS : Hid (TS wr (b0 + 1) R M al nl i TV) := hTS
    have JT : Hid (IHolds wr (b0 + 1) 121 TV) := hIT
    have B1 : Hid (Below U0.heap.size U0 wr) := hB
    clear hTV hAT hTS hIT hB
    by_cases hin : i < n
    · have k1 : (i : Int) < (n : Int) := by omega
      obtain ⟨ba, oa, ea, hNa⟩ := HA.out i hin
      obtain ⟨bn, on, en, hNn⟩ := HN.out i hin
      subst ea
      subst en
      obtain ⟨X, hX⟩ : ∃ X, X = al.getD i 0 := ⟨_, rfl⟩
      obtain ⟨Y, hY⟩ : ∃ Y, Y = nl.getD i 0 := ⟨_, rfl⟩
      rw [← hX] at hNa
      rw [← hY] at hNn
      have hba : ba < U0.heap.size := hNa.lt
      have hbn : bn < U0.heap.size := hNn.lt
      have neA : Hid (ba ≠ b0 + 1) := by have := Hs.out; show _ ≠ _; omega
      have neN : Hid (bn ≠ b0 + 1) := by have := Hs.out; show _ ≠ _; omega
      obtain ⟨qa, hqa⟩ : ∃ q, q = oa + i * 4 := ⟨_, rfl⟩
      obtain ⟨qn, hqn⟩ : ∃ q, q = on + i * 4 := ⟨_, rfl⟩
      rw [← hqa] at hNa
      rw [← hqn] at hNn
      have NAa : Hid (NA wr ba qa X) := hNa.of_below B1.out
      have NAn : Hid (NA wr bn qn Y) := hNn.of_below B1.out
      have C1 : Hid (∀ W, FH W g o Wd M low one sq → Calls Tryz.prog 107 #[.pointer (some ⟨g, o, none⟩), .agg #[U (w4 X 0), U (w4 X 1), U (w4 X 2), U (w4 X 3)]] W fun e w' => e = .returned (A4 (X * R % M)) ∧ Below W.heap.size W w') := fun W hF => CE.out W X hF (by rw [hX]; exact HA9.out i hin)
      have C2 : Hid (∀ W, FH W g o Wd M low one sq → Calls Tryz.prog 106 #[.pointer (some ⟨g, o, none⟩), A4 (X * R % M), .agg #[U (w4 Y 0), U (w4 Y 1), U (w4 Y 2), U (w4 Y 3)]] W fun e w' => (∃ v, e = .returned v ∧ TabV w' W.heap.size R M X Y v) ∧ Below W.heap.size W w') := fun W hF => CT.out W X Y hF (by rw [hY]; exact HN9.out i hin)
      have C3 : Hid (∀ W, Calls Tryz.prog 108 #[.agg #[U (w4 Y 0), U (w4 Y 1), U (w4 Y 2), U (w4 Y 3)]] W fun e w' => (∃ D : Nat, e = .returned (.int .i64 (D : Int)) ∧ Y < 16 ^ D ∧ D ≤ 64) ∧ Below W.heap.size W w') := fun W => CD.out W Y (by rw [hY]; exact HN9.out i hin)
      generalize A4 (X * R % M) = vX at *
      have F1 : Hid (FH wr g o Wd M low one sq) := aF F B1.out
      have HX : Hid (X = al.getD i 0) := hX
      have HY : Hid (Y = nl.getD i 0) := hY
      have Hqa : Hid (qa = oa + i * 4) := hqa
      have Hqn : Hid (qn = on + i * 4) := hqn
      have Hba : Hid (ba < U0.heap.size) := hba
      have Hbn : Hid (bn < U0.heap.size) := hbn
      clear hNa hNn hX hY hqa hqn hba hbn
      go_wp2_with fail
      have hb := dB wr
      replace B1 := aB B1 hb
      replace F1 := aF F1 hb
      replace NAa := aA NAa hb
      replace NAn := aA NAn hb
      replace JT := aJ JT hb
      replace HTS : Hid (TS wr.drew (b0 + 1) R M al nl i TV) := HTS.out.of_below hb
      clear hb
      refine wp_region_held_drew (S := fun W => NA W ba qa X ∧ NA W bn qn Y) (by kernel_rfl) ⟨NAa.out, NAn.out⟩ (fun h1 => ?_)
      generalize wr.drew = V1 at *
      refine tk (i := 0) (v := .slice (some ⟨b0 + 1, 0, none⟩) n n) rfl (by kernel_rfl) (fun _ _ _ h => h) rfl ?_ h1 ?_
      · intro W hS; go_simp
      simp only [Act.put, y1, y2, y3, y4, y5, y6, y7]
      refine tk (i := 1) (v := .int .i64 (i : Int)) rfl (by kernel_rfl) (fun _ _ _ h => h) rfl ?_ h1 ?_
      · intro W hS; go_simp
      simp only [Act.put, y1, y2, y3, y4, y5, y6, y7]
      refine tk (i := 2) (v := .pointer (some ⟨g, o, none⟩)) rfl (by kernel_rfl) (fun _ _ _ h => h) rfl ?_ h1 ?_
      · intro W hS; go_simp
      simp only [Act.put, y1, y2, y3, y4, y5, y6, y7]
      refine tk (i := 3) (v := .pointer (some ⟨g, o, none⟩)) rfl (by kernel_rfl) (fun _ _ _ h => h) rfl ?_ h1 ?_
      · intro W hS; go_simp
      simp only [Act.put, y1, y2, y3, y4, y5, y6, y7]
      refine tk (i := 4) (v := .slice (some ⟨ba, oa, none⟩) n ca) rfl (by kernel_rfl) (fun _ _ _ h => h) rfl ?_ h1 ?_
      · intro W hS; go_simp
      simp only [Act.put, y1, y2, y3, y4, y5, y6, y7]
      refine tk (i := 5) (v := .int .i64 (i : Int)) rfl (by kernel_rfl) (fun _ _ _ h => h) rfl ?_ h1 ?_
      · intro W hS; go_simp
      simp only [Act.put, y1, y2, y3, y4, y5, y6, y7]
      refine tk (i := 6) (v := .pointer (some ⟨ba, qa, none⟩)) rfl (by kernel_rfl) (fun _ _ _ h => h) rfl ?_ h1 ?_
      · intro W hS; have hlt : (i : Int) < (n : Int) := k1; have e4 : oa + i * 4 = qa := Hqa.out.symm; have e5 : on + i * 4 = qn := Hqn.out.symm; go_simp
      simp only [Act.put, y1, y2, y3, y4, y5, y6, y7]
      refine tk (i := 7) (v := .agg #[U (w4 X 0), U (w4 X 1), U (w4 X 2), U (w4 X 3)]) rfl (by kernel_rfl) (fun _ _ _ h => h) rfl ?_ h1 ?_
      · intro W hS; have za0 := hS.1.a0; have za1 := hS.1.a1; have za2 := hS.1.a2; have za3 := hS.1.a3; go_simp
      simp only [Act.put, y1, y2, y3, y4, y5, y6, y7]
      refine tk (i := 9) (v := .slice (some ⟨bn, on, none⟩) n cn) rfl (by kernel_rfl) (fun _ _ _ h => h) rfl ?_ h1 ?_
      · intro W hS; go_simp
      simp only [Act.put, y1, y2, y3, y4, y5, y6, y7]
      refine tk (i := 10) (v := .int .i64 (i : Int)) rfl (by kernel_rfl) (fun _ _ _ h => h) rfl ?_ h1 ?_
      · intro W hS; go_simp
      simp only [Act.put, y1, y2, y3, y4, y5, y6, y7]
      refine tk (i := 11) (v := .pointer (some ⟨bn, qn, none⟩)) rfl (by kernel_rfl) (fun _ _ _ h => h) rfl ?_ h1 ?_
      · intro W hS; have hlt : (i : Int) < (n : Int) := k1; have e4 : oa + i * 4 = qa := Hqa.out.symm; have e5 : on + i * 4 = qn := Hqn.out.symm; go_simp
      simp only [Act.put, y1, y2, y3, y4, y5, y6, y7]
      refine tk (i := 12) (v := .agg #[U (w4 Y 0), U (w4 Y 1), U (w4 Y 2), U (w4 Y 3)]) rfl (by kernel_rfl) (fun _ _ _ h => h) rfl ?_ h1 ?_
      · intro W hS; have za0 := hS.2.a0; have za1 := hS.2.a1; have za2 := hS.2.a2; have za3 := hS.2.a3; go_simp
      simp only [Act.put, y1, y2, y3, y4, y5, y6, y7]
      refine wpAnyH_ready (rs := [8]) (by kernel_rfl) (by simp) ?_
      refine AllReadyH.cons rfl (fun K hK => ?_) AllReadyH.nil
      clear h1
      go_simp
      refine (C1.out V1 F1.out).mono ?_
      rintro e V2 ⟨rfl, hb⟩
      replace B1 := aB B1 hb
      replace F1 := aF F1 hb
      replace NAa := aA NAa hb
      replace NAn := aA NAn hb
      replace JT := aJ JT hb
      replace HTS : Hid (TS V2 (b0 + 1) R M al nl i TV) := HTS.out.of_below hb
      clear hb C1
      go_wp2_with fail
      refine hK.out _ _ ⟨NAa.out, NAn.out⟩ (fun h1 => ?_)
      clear hK K
      try simp only [Act.put, y1, y2, y3, y4, y5, y6, y7]
      refine wpAnyH_ready (rs := [13]) (by kernel_rfl) (by simp) ?_
      refine AllReadyH.cons rfl (fun K hK => ?_) AllReadyH.nil
      clear h1
      go_simp
      refine (C2.out V2 F1.out).mono ?_
      rintro e V3 ⟨⟨v, rfl, hv⟩, hb⟩
      have hs2 : b0 + 1 + 1 ≤ V2.heap.size := JT.out.lt
      have HT : Hid (TabV V3 (b0 + 1 + 1) R M X Y v) := hv.mono hs2 (fun _ _ _ _ => rfl)
      replace B1 := aB B1 hb
      replace F1 := aF F1 hb
      replace NAa := aA NAa hb
      replace NAn := aA NAn hb
      replace JT := aJ JT hb
      replace HTS : Hid (TS V3 (b0 + 1) R M al nl i TV) := HTS.out.of_below hb
      clear hb C2 hv hs2
      go_wp2_with fail
      refine hK.out _ _ ⟨NAa.out, NAn.out⟩ (fun h1 => ?_)
      clear hK K
      try simp only [Act.put, y1, y2, y3, y4, y5, y6, y7]
      refine tk (i := 14) (v := .pointer (some ⟨b0 + 1, i, none⟩)) rfl (by kernel_rfl) (fun _ _ _ h => h) rfl ?_ h1 ?_
      · intro W hS; have hlt : (i : Int) < (n : Int) := k1; have e4 : oa + i * 4 = qa := Hqa.out.symm; have e5 : on + i * 4 = qn := Hqn.out.symm; go_simp
      simp only [Act.put, y1, y2, y3, y4, y5, y6, y7]
      refine wpAnyH_ready (rs := [15]) (by kernel_rfl) (by simp) ?_
      refine AllReadyH.cons rfl (fun K hK => ?_) AllReadyH.nil
      clear h1
      have Hhi : Hid (i < TV.length) := by show _ < _; rw [HTV.out]; exact hin
      have zt := JT.out.cell i Hhi.out
      have f0 := fJ JT
      have hBut : But (b0 + 1) V3 (V3.setCell ⟨b0 + 1, i, none⟩ v) := (But.refl _ V3).setCell i v
      have HTS2 : Hid (TS (V3.setCell ⟨b0 + 1, i, none⟩ v) (b0 + 1) R M al nl (i + 1) (TV.set i v)) := by
        have q := HT.out
        rw [HX.out, HY.out] at q
        exact HTS.out.stored q Hhi.out
      have JT2 : Hid (IHolds (V3.setCell ⟨b0 + 1, i, none⟩ v) (b0 + 1) 121 (TV.set i v)) := JT.out.set i v
      replace B1 : Hid (Below U0.heap.size U0 (V3.setCell ⟨b0 + 1, i, none⟩ v)) := B1.out.setCell (by rw [Hs.out]; exact Nat.le_refl _) _
      replace NAa := tA NAa hBut neA.out
      replace NAn := tA NAn hBut neN.out
      have HTV2 : Hid ((TV.set i v).length = n) := by show _ = _; rw [List.length_set]; exact HTV.out
      obtain ⟨gv, cv, kv, ev, _⟩ := HT.out
      subst ev
      clear hBut HTS JT HT F1 HTV
      go_simp
      clear zt f0
      generalize V3.setCell ⟨b0 + 1, i, none⟩ (.slice (some ⟨gv, 0, none⟩) kv cv) = V4 at *
      generalize TV.set i (.slice (some ⟨gv, 0, none⟩) kv cv) = TV2 at *
      generalize hvv : Value.slice (some ⟨gv, 0, none⟩) kv cv = vv at *
      refine hK.out _ _ ⟨NAa.out, NAn.out⟩ (fun h1 => ?_)
      clear hK K
      try simp only [Act.put, y1, y2, y3, y4, y5, y6, y7]
      refine wpAnyH_done (by kernel_rfl) ?_ _
      clear h1
      have zn0 := NAn.out.a0
      have zn1 := NAn.out.a1
      have zn2 := NAn.out.a2
      have zn3 := NAn.out.a3
      have e5 : on + i * 4 = qn := Hqn.out.symm
      go_wp2_with fail
      clear zn0 zn1 zn2 zn3 e5
      refine (C3.out V4).mono ?_
      rintro e V5 ⟨⟨D, rfl, hD, hD9⟩, hb⟩
      have HD : Hid (Y < 16 ^ D) := hD
      replace B1 := aB B1 hb
      replace JT2 := aJ JT2 hb
      replace HTS2 : Hid (TS V5 (b0 + 1) R M al nl (i + 1) TV2) := HTS2.out.of_below hb
      clear hb C3 hD
      by_cases hmd : top < D
      · have k2 : (top : Int) < (D : Int) := by omega
        have k3 : max (top : Int) (D : Int) = (D : Int) := by omega
        go_wp2_with fail
        go_roundg (gk - 1)
        case measure => omega
        case rel => exact ⟨i + 1, D, TV2, by omega, by first | rfl | go_num, by first | rfl | go_num, hD9, HTV2.out, HAT.out.step (by rw [← HY.out]; exact HD.out) (by omega) (Nat.le_refl _), HTS2.out, JT2.out, B1.out⟩
      · have k2 : ¬ (top : Int) < (D : Int) := by omega
        have k3 : max (top : Int) (D : Int) = (top : Int) := by omega
        go_wp2_with fail
        go_roundg (gk - 1)
        case measure => omega
        case rel => exact ⟨i + 1, top, TV2, by omega, by first | rfl | go_num, by first | rfl | go_num, htop, HTV2.out, HAT.out.step (by rw [← HY.out]; exact HD.out) (Nat.le_refl _) (by omega), HTS2.out, JT2.out, B1.out⟩
    · have k1 : ¬ (i : Int) < (n : Int) := by omega
      have ein : i = n := by omega
      subst ein
      generalize wr = Wb at *
      have F1 : Hid (FH Wb g o Wd M low one sq) := aF F B1.out
      have fo0 := F1.out.o0
      have fo1 := F1.out.o1
      have fo2 := F1.out.o2
      have fo3 := F1.out.o3
      have Jo : Hid (IHolds (Wb.alloc (.cells #[U (w4 one 0), U (w4 one 1), U (w4 one 2), U (w4 one 3)] 73)) Wb.heap.size 73 [U (w4 one 0), U (w4 one 1), U (w4 one 2), U (w4 one 3)]) := IHolds.new _ _ _
      have B2 : Hid (Below Wb.heap.size Wb (Wb.alloc (.cells #[U (w4 one 0), U (w4 one 1), U (w4 one 2), U (w4 one 3)] 73))) := nB _ _
      have HP1 : Hid (prodP al nl top i = 1) := prodP_top al nl top i HAT.out
      have Hot : Hid (U0.heap.size ≤ Wb.heap.size) := B1.out.size
      have HNb : Hid (∀ j, j < i → ∃ b o, an = some ⟨b, o, none⟩ ∧ NA Wb b (o + j * 4) (nl.getD j 0)) := fun j hj => by
        obtain ⟨b, o, e, h⟩ := HN.out j hj
        exact ⟨b, o, e, h.of_below B1.out⟩
      have Jrb : Hid (IHolds Wb b0 73 [.int .u64 0, .int .u64 0, .int .u64 0, .int .u64 0]) := Jr.out.of_below B1.out
      have Bw : Hid (Below w.heap.size w Wb) := B.out.trans (B1.out.mono B.out.size)
      clear HA HN HAT HA9 HN9 CE CT CD F Jr B hk
      have htop1 : (top : Int) ≤ 64 := by omega
      go_wp2_with fail
      clear fo0 fo1 fo2 fo3
      generalize Wb.alloc (.cells #[U (w4 one 0), U (w4 one 1), U (w4 one 2), U (w4 one 3)] 73) = W1 at *
      go_loopg [11] top (fun gj v11 wr => ∃ (t : Nat), gj = t ∧ t ≤ top ∧ v11 = .int .i64 ((t : Int) - 1) ∧ IHolds wr Wb.heap.size 73 (us (ws4 (prodP al nl t i * R % M))) ∧ Below Wb.heap.size Wb wr)
      case atStart => exact ⟨top, rfl, Nat.le_refl _, rfl, by rw [HP1.out, ← HO.out]; exact Jo.out, B2.out⟩
      case round =>
        clear Jo B2 W1
        obtain ⟨t, hgt, htt, rfl, hJo, hB2⟩ := hrel
        subst hgt
        have Jo : Hid (IHolds wr Wb.heap.size 73 (us (ws4 (prodP al nl gk i * R % M)))) := hJo
        have B2 : Hid (Below Wb.heap.size Wb wr) := hB2
        clear hJo hB2
        rcases Nat.eq_zero_or_pos gk with h0 | h0
        · subst h0
          have kz : ((0 : Nat) : Int) - 1 = -1 := by omega
          rw [kz]
          obtain ⟨Q, hQ⟩ : ∃ Q, Q = prodP al nl 0 i := ⟨_, rfl⟩
          rw [← hQ] at Jo
          have HE : Hid (Q = powP al nl i) := by show _ = _; rw [hQ]; exact prodP_zero al nl i
          clear hQ
          obtain ⟨N, hN⟩ : ∃ N, N = Q * R % M := ⟨_, rfl⟩
          rw [← hN] at Jo
          obtain ⟨V, hV⟩ : ∃ V, V = Q % M := ⟨_, rfl⟩
          have CL1 : Hid (∀ W, FH W g o Wd M low one sq → Calls Tryz.prog 111 #[.pointer (some ⟨g, o, none⟩), .agg #[U (w4 N 0), U (w4 N 1), U (w4 N 2), U (w4 N 3)]] W fun e w' => e = .returned (.agg #[U (w4 V 0), U (w4 V 1), U (w4 V 2), U (w4 V 3)]) ∧ Below W.heap.size W w') := fun W hF => by
            have h := CL.out W Q hF
            rw [← hN, ← hV] at h
            exact h
          have HV : Hid (V = powP al nl i % M) := by show _ = _; rw [hV, HE.out]
          clear hN hV HE
          have F2 : Hid (FH wr g o Wd M low one sq) := aF F1 B2.out
          have Jr2 : Hid (IHolds wr b0 73 [.int .u64 0, .int .u64 0, .int .u64 0, .int .u64 0]) := Jrb.out.of_below B2.out
          obtain ⟨zo0, zo1, zo2, zo3⟩ := holds4 Jo.out
          go_wp2_with fail
          clear zo0 zo1 zo2 zo3
          refine (CL1.out wr F2.out).mono ?_
          rintro e V5 ⟨rfl, hb⟩
          replace B2 := aB B2 hb
          replace Jr2 := aJ Jr2 hb
          clear hb CL1
          have zr0 := IHolds.cell Jr2.out 0 (by simp)
          have zr1 := IHolds.cell Jr2.out 1 (by simp)
          have zr2 := IHolds.cell Jr2.out 2 (by simp)
          have zr3 := IHolds.cell Jr2.out 3 (by simp)
          simp only [List.getElem_cons_zero, List.getElem_cons_succ] at zr0 zr1 zr2 zr3
          have f0 := fJ Jr2
          have hB5 : Below w.heap.size w V5 := Bw.out.trans (B2.out.mono Bw.out.size)
          have hge : w.heap.size ≤ b0 := by rw [← Hb0.out]; exact Nat.le_refl _
          have BF : Hid (Below w.heap.size w ((((V5.setCell ⟨b0, 0, none⟩ (U (w4 V 0))).setCell ⟨b0, 1, none⟩ (U (w4 V 1))).setCell ⟨b0, 2, none⟩ (U (w4 V 2))).setCell ⟨b0, 3, none⟩ (U (w4 V 3)))) := (((hB5.setCell hge _).setCell hge _).setCell hge _).setCell hge _
          have JF : Hid (IHolds ((((V5.setCell ⟨b0, 0, none⟩ (U (w4 V 0))).setCell ⟨b0, 1, none⟩ (U (w4 V 1))).setCell ⟨b0, 2, none⟩ (U (w4 V 2))).setCell ⟨b0, 3, none⟩ (U (w4 V 3))) b0 73 (us (ws4 V))) := (((Jr2.out.set 0 _).set 1 _).set 2 _).set 3 _
          clear hB5 hge
          go_wp2_with fail
          clear zr0 zr1 zr2 zr3 f0
          generalize (((V5.setCell ⟨b0, 0, none⟩ (U (w4 V 0))).setCell ⟨b0, 1, none⟩ (U (w4 V 1))).setCell ⟨b0, 2, none⟩ (U (w4 V 2))).setCell ⟨b0, 3, none⟩ (U (w4 V 3)) = V6 at *
          obtain ⟨E0, E1, E2, E3⟩ := holds4 JF.out
          exact bodyPost_ret (v := .agg #[U (w4 V 0), U (w4 V 1), U (w4 V 2), U (w4 V 3)]) (by simp [results, Tryz.results69, go_sem, E0, E1, E2, E3]) rfl ⟨by rw [← HV.out]; rfl, BF.out⟩
        · obtain ⟨p, rfl⟩ : ∃ p, gk = p + 1 := ⟨gk - 1, by omega⟩
          have kp : ((p + 1 : Nat) : Int) - 1 = (p : Int) := by omega
          rw [kp]
          have k2 : (0 : Int) ≤ (p : Int) := by omega
          obtain ⟨Q, hQ⟩ : ∃ Q, Q = prodP al nl (p + 1) i := ⟨_, rfl⟩
          rw [← hQ] at Jo
          have HQ : Hid (Q = prodP al nl (p + 1) i) := hQ
          clear hQ
          obtain ⟨tb, htb⟩ : ∃ tb : Bool, decide ((p : Int) < (top : Int) - 1) = tb := ⟨_, rfl⟩
          go_upto_if 58 with fail
          go_cut [11] (fun v11 wx => v11 = .int .i64 (p : Int) ∧ IHolds wx Wb.heap.size 73 (us (ws4 (Q ^ 16 * R % M))) ∧ Below Wb.heap.size Wb wx)
          case first =>
            cases tb
            rotate_left
            · clear htb
              go_wp2_with fail
              go_loopg [59] 4 (fun gj v59 wr => ∃ (s : Nat), gj + s = 4 ∧ v59 = .int .i64 (s : Int) ∧ IHolds wr Wb.heap.size 73 (us (ws4 (Q ^ (2 ^ s) * R % M))) ∧ Below Wb.heap.size Wb wr)
              case atStart => exact ⟨0, rfl, rfl, by rw [Nat.pow_zero, Nat.pow_one]; exact Jo.out, B2.out⟩
              case round =>
                clear Jo B2
                obtain ⟨s, hs, rfl, hJ, hB⟩ := hrel
                obtain ⟨N, hN⟩ : ∃ N, N = Q ^ (2 ^ s) * R % M := ⟨_, rfl⟩
                rw [← hN] at hJ
                have Jo : Hid (IHolds wr Wb.heap.size 73 (us (ws4 N))) := hJ
                have B2 : Hid (Below Wb.heap.size Wb wr) := hB
                clear hJ hB
                by_cases hs4 : s < 4
                · have k4 : (s : Int) < 4 := by omega
                  obtain ⟨N2, hN2⟩ : ∃ N, N = Q ^ (2 ^ (s + 1)) * R % M := ⟨_, rfl⟩
                  have C1 : Hid (∀ W, FH W g o Wd M low one sq → Calls Tryz.prog 109 #[.pointer (some ⟨g, o, none⟩), .agg #[U (w4 N 0), U (w4 N 1), U (w4 N 2), U (w4 N 3)], .agg #[U (w4 N 0), U (w4 N 1), U (w4 N 2), U (w4 N 3)]] W fun e w' => e = .returned (.agg #[U (w4 N2 0), U (w4 N2 1), U (w4 N2 2), U (w4 N2 3)]) ∧ Below W.heap.size W w') := fun W hF => by
                    have h := CJ.out W (Q ^ (2 ^ s)) (Q ^ (2 ^ s)) hF
                    rw [← Nat.pow_add, show 2 ^ s + 2 ^ s = 2 ^ (s + 1) by rw [Nat.pow_succ]; omega, ← hN, ← hN2] at h
                    exact h
                  have HN2 : Hid (N2 = Q ^ (2 ^ (s + 1)) * R % M) := hN2
                  clear hN hN2
                  have F2 : Hid (FH wr g o Wd M low one sq) := aF F1 B2.out
                  obtain ⟨zo0, zo1, zo2, zo3⟩ := holds4 Jo.out
                  go_wp2_with fail
                  clear zo0 zo1 zo2 zo3
                  refine (C1.out wr F2.out).mono ?_
                  rintro e V5 ⟨rfl, hb⟩
                  replace B2 := aB B2 hb
                  replace Jo := aJ Jo hb
                  clear hb C1
                  obtain ⟨zo0, zo1, zo2, zo3⟩ := holds4 Jo.out
                  have f0 := fJ Jo
                  have BF : Hid (Below Wb.heap.size Wb (((((V5.setCell ⟨Wb.heap.size, 0, none⟩ (U (w4 N2 0))).setCell ⟨Wb.heap.size, 1, none⟩ (U (w4 N2 1))).setCell ⟨Wb.heap.size, 2, none⟩ (U (w4 N2 2))).setCell ⟨Wb.heap.size, 3, none⟩ (U (w4 N2 3))))) := (((B2.out.setCell (Nat.le_refl _) _).setCell (Nat.le_refl _) _).setCell (Nat.le_refl _) _).setCell (Nat.le_refl _) _
                  have JF : Hid (IHolds (((((V5.setCell ⟨Wb.heap.size, 0, none⟩ (U (w4 N2 0))).setCell ⟨Wb.heap.size, 1, none⟩ (U (w4 N2 1))).setCell ⟨Wb.heap.size, 2, none⟩ (U (w4 N2 2))).setCell ⟨Wb.heap.size, 3, none⟩ (U (w4 N2 3)))) Wb.heap.size 73 (us (ws4 N2))) := (((Jo.out.set 0 _).set 1 _).set 2 _).set 3 _
                  go_wp2_with fail
                  clear zo0 zo1 zo2 zo3 f0
                  generalize ((((V5.setCell ⟨Wb.heap.size, 0, none⟩ (U (w4 N2 0))).setCell ⟨Wb.heap.size, 1, none⟩ (U (w4 N2 1))).setCell ⟨Wb.heap.size, 2, none⟩ (U (w4 N2 2))).setCell ⟨Wb.heap.size, 3, none⟩ (U (w4 N2 3))) = V6 at *
                  go_roundg (gk - 1)
                  case measure => omega
                  case rel => exact ⟨s + 1, by omega, by first | rfl | go_num, by rw [← HN2.out]; exact JF.out, BF.out⟩
                · have k4 : ¬ (s : Int) < 4 := by omega
                  have e4 : s = 4 := by omega
                  subst e4
                  have Jo2 : Hid (IHolds wr Wb.heap.size 73 (us (ws4 (Q ^ 16 * R % M)))) := by
                    have q := Jo.out
                    rw [hN] at q
                    exact q
                  clear hN
                  go_wp2_with fail
                  go_meet
                  case rel => exact ⟨rfl, Jo2.out, B2.out⟩
            · have k3 : ¬ (p : Int) < (top : Int) - 1 := of_decide_eq_false htb
              have et : top = p + 1 := by omega
              have HQ1 : Hid (Q = 1) := by show _ = _; rw [HQ.out, ← et]; exact HP1.out
              have Jo2 : Hid (IHolds wr Wb.heap.size 73 (us (ws4 (Q ^ 16 * R % M)))) := by
                have q := Jo.out
                rw [HQ1.out] at q ⊢
                exact q
              clear et k3 htb
              go_wp2_with fail
              go_meet
              case rel => exact ⟨rfl, Jo2.out, B2.out⟩
          case rest =>
            obtain ⟨rfl, hJ, hB⟩ := hcut
            have Jc : Hid (IHolds wc Wb.heap.size 73 (us (ws4 (Q ^ 16 * R % M)))) := hJ
            have Bc : Hid (Below Wb.heap.size Wb wc) := hB
            clear hJ hB htb tb Jo B2
            go_wp2_with fail
            go_loopg [68] i (fun gj v68 wr => ∃ (j : Nat), gj + j = i ∧ v68 = .int .i64 (j : Int) ∧ IHolds wr Wb.heap.size 73 (us (ws4 (Q ^ 16 * digP al nl p j * R % M))) ∧ Below Wb.heap.size Wb wr)
            case atStart => exact ⟨0, by omega, rfl, by rw [digP, Nat.mul_one]; exact Jc.out, Bc.out⟩
            case round =>
              clear Jc Bc
              obtain ⟨j, hj, rfl, hJ, hB⟩ := hrel
              have Jo : Hid (IHolds wr Wb.heap.size 73 (us (ws4 (Q ^ 16 * digP al nl p j * R % M)))) := hJ
              have B2 : Hid (Below Wb.heap.size Wb wr) := hB
              clear hJ hB
              by_cases hji : j < i
              · have k4 : (j : Int) < (i : Int) := by omega
                obtain ⟨bn, on, en, hNn⟩ := HNb.out j hji
                subst en
                obtain ⟨v, hv, gv, cv, kv, rfl, hb1, hkc, hc9, hdg, hcl⟩ := HTS.out j hji
                obtain ⟨a, ha⟩ : ∃ a, a = al.getD j 0 := ⟨_, rfl⟩
                obtain ⟨Y, hY⟩ : ∃ Y, Y = nl.getD j 0 := ⟨_, rfl⟩
                rw [← ha] at hcl
                rw [← hY] at hNn hdg
                obtain ⟨d, hd⟩ : ∃ d, d = dgt Y p := ⟨_, rfl⟩
                have hdk : d < kv := by rw [hd]; exact hdg p (by omega)
                have d16 : d < 16 := by rw [hd]; exact dgt_lt Y p
                have HG1 : Hid (digP al nl p (j + 1) = digP al nl p j * a ^ d) := by show _ = _; rw [digP, ← ha, ← hY, ← hd]
                have Hcell : Hid (∀ W, IHolds W (b0 + 1) 121 TV → W.cell? ⟨b0 + 1, j, none⟩ = some (.slice (some ⟨gv, 0, none⟩) kv cv)) := fun W h => by
                  have hl : j < TV.length := (List.getElem?_eq_some_iff.1 hv).1
                  have q := h.cell j hl
                  rw [(List.getElem?_eq_some_iff.1 hv).2] at q
                  exact q
                obtain ⟨qd, hqd⟩ : ∃ q, q = d * 4 := ⟨_, rfl⟩
                obtain ⟨T, hT⟩ : ∃ T, T = a ^ d * R % M := ⟨_, rfl⟩
                have NT : Hid (NA Wb gv qd T) := by
                  rw [hqd, hT]
                  exact ⟨hcl d 0 hdk (by omega), hcl d 1 hdk (by omega), hcl d 2 hdk (by omega), hcl d 3 hdk (by omega)⟩
                have NN : Hid (NA wr bn (on + j * 4) Y) := hNn.of_below B2.out
                obtain ⟨qn, hqn⟩ : ∃ q, q = on + j * 4 := ⟨_, rfl⟩
                rw [← hqn] at NN
                have C1 : Hid (∀ W, Calls Tryz.prog 110 #[.agg #[U (w4 Y 0), U (w4 Y 1), U (w4 Y 2), U (w4 Y 3)], .int .i64 (p : Int)] W fun e w' => e = .returned (.int .i64 (d : Int)) ∧ Below W.heap.size W w') := fun W => by
                  rw [hd]; exact digit_any W (by omega)
                obtain ⟨N, hN⟩ : ∃ N, N = Q ^ 16 * digP al nl p j * R % M := ⟨_, rfl⟩
                obtain ⟨N2, hN2⟩ : ∃ N, N = Q ^ 16 * digP al nl p (j + 1) * R % M := ⟨_, rfl⟩
                have C2 : Hid (∀ W, FH W g o Wd M low one sq → Calls Tryz.prog 109 #[.pointer (some ⟨g, o, none⟩), .agg #[U (w4 N 0), U (w4 N 1), U (w4 N 2), U (w4 N 3)], .agg #[U (w4 T 0), U (w4 T 1), U (w4 T 2), U (w4 T 3)]] W fun e w' => e = .returned (.agg #[U (w4 N2 0), U (w4 N2 1), U (w4 N2 2), U (w4 N2 3)]) ∧ Below W.heap.size W w') := fun W hF => by
                  have h := CJ.out W (Q ^ 16 * digP al nl p j) (a ^ d) hF
                  rw [Nat.mul_assoc (Q ^ 16) (digP al nl p j) (a ^ d), ← HG1.out, ← hN, ← hN2, ← hT] at h
                  exact h
                rw [← hN] at Jo
                have HN2 : Hid (N2 = Q ^ 16 * digP al nl p (j + 1) * R % M) := hN2
                have HN1 : Hid (N = Q ^ 16 * digP al nl p j * R % M) := hN
                have Hqn : Hid (qn = on + j * 4) := hqn
                have Hqd : Hid (qd = d * 4) := hqd
                have F2 : Hid (FH wr g o Wd M low one sq) := aF F1 B2.out
                have Hkc : Hid (kv ≤ cv) := hkc
                clear hb1 hkc hdg hcl hd hqd hT hqn hN hN2 hNn ha hY hv
                have e5 : on + j * 4 = qn := Hqn.out.symm
                have zn0 := NN.out.a0
                have zn1 := NN.out.a1
                have zn2 := NN.out.a2
                have zn3 := NN.out.a3
                go_wp2_with fail
                clear zn0 zn1 zn2 zn3 e5 NN
                refine (C1.out wr).mono ?_
                rintro e V5 ⟨rfl, hb⟩
                replace B2 := aB B2 hb
                replace Jo := aJ Jo hb
                replace F2 := aF F2 hb
                clear hb C1
                by_cases hd0 : d = 0
                · subst hd0
                  have Jo2 : Hid (IHolds V5 Wb.heap.size 73 (us (ws4 (Q ^ 16 * digP al nl p (j + 1) * R % M)))) := by
                    have q := Jo.out
                    rw [HN1.out] at q
                    rw [HG1.out, Nat.pow_zero, Nat.mul_one]
                    exact q
                  go_wp2_with fail
                  go_roundg (gk - 1)
                  case measure => omega
                  case rel => exact ⟨j + 1, by omega, by first | rfl | go_num, Jo2.out, B2.out⟩
                · have k5 : (0 : Int) < (d : Int) := by omega
                  have k6 : (d : Int) < (kv : Int) := by omega
                  go_wp2_with fail
                  have JT2 : Hid (IHolds V5 (b0 + 1) 121 TV) := JT.out.of_below B2.out
                  have NT2 : Hid (NA V5 gv qd T) := NT.out.of_below B2.out
                  have neT : Hid (b0 + 1 ≠ Wb.heap.size) := by have := JT.out.lt; show _ ≠ _; omega
                  have neV : Hid (gv ≠ Wb.heap.size) := by have := NT.out.lt; show _ ≠ _; omega
                  have hb := dB V5
                  replace B2 := aB B2 hb
                  replace Jo := aJ Jo hb
                  replace F2 := aF F2 hb
                  replace JT2 := aJ JT2 hb
                  replace NT2 := aA NT2 hb
                  clear hb
                  refine wp_region_held_drew (S := fun W => IHolds W (b0 + 1) 121 TV ∧ NA W gv qd T) (by kernel_rfl) ⟨JT2.out, NT2.out⟩ (fun h1 => ?_)
                  generalize V5.drew = V6 at *
                  refine tk (i := 0) (v := .pointer (some ⟨g, o, none⟩)) rfl (by kernel_rfl) (fun _ _ _ h => h) rfl ?_ h1 ?_
                  · intro W hS; go_simp
                  simp only [Act.put, y1, y2, y3, y4, y5, y6, y7]
                  refine tk (i := 2) (v := .slice (some ⟨b0 + 1, 0, none⟩) i i) rfl (by kernel_rfl) (fun _ _ _ h => h) rfl ?_ h1 ?_
                  · intro W hS; go_simp
                  simp only [Act.put, y1, y2, y3, y4, y5, y6, y7]
                  refine tk (i := 3) (v := .int .i64 (j : Int)) rfl (by kernel_rfl) (fun _ _ _ h => h) rfl ?_ h1 ?_
                  · intro W hS; go_simp
                  simp only [Act.put, y1, y2, y3, y4, y5, y6, y7]
                  refine tk (i := 4) (v := .pointer (some ⟨b0 + 1, j, none⟩)) rfl (by kernel_rfl) (fun _ _ _ h => h) rfl ?_ h1 ?_
                  · intro W hS; have hlt : (j : Int) < (i : Int) := k4; have e4 : d * 4 = qd := Hqd.out.symm; go_simp
                  simp only [Act.put, y1, y2, y3, y4, y5, y6, y7]
                  refine tk (i := 5) (v := .slice (some ⟨gv, 0, none⟩) kv cv) rfl (by kernel_rfl) (fun _ _ _ h => h) rfl ?_ h1 ?_
                  · intro W hS; have zc := Hcell.out W hS.1; go_simp
                  simp only [Act.put, y1, y2, y3, y4, y5, y6, y7]
                  refine tk (i := 6) (v := .int .i64 (d : Int)) rfl (by kernel_rfl) (fun _ _ _ h => h) rfl ?_ h1 ?_
                  · intro W hS; go_simp
                  simp only [Act.put, y1, y2, y3, y4, y5, y6, y7]
                  refine tk (i := 7) (v := .pointer (some ⟨gv, qd, none⟩)) rfl (by kernel_rfl) (fun _ _ _ h => h) rfl ?_ h1 ?_
                  · intro W hS; have hlt : (j : Int) < (i : Int) := k4; have e4 : d * 4 = qd := Hqd.out.symm; go_simp
                  simp only [Act.put, y1, y2, y3, y4, y5, y6, y7]
                  refine tk (i := 8) (v := .agg #[U (w4 T 0), U (w4 T 1), U (w4 T 2), U (w4 T 3)]) rfl (by kernel_rfl) (fun _ _ _ h => h) rfl ?_ h1 ?_
                  · intro W hS; have za0 := hS.2.a0; have za1 := hS.2.a1; have za2 := hS.2.a2; have za3 := hS.2.a3; go_simp
                  simp only [Act.put, y1, y2, y3, y4, y5, y6, y7]
                  refine wpAnyH_ready (rs := [1]) (by kernel_rfl) (by simp) ?_
                  refine AllReadyH.cons rfl (fun K hK => ?_) AllReadyH.nil
                  clear h1
                  obtain ⟨zo0, zo1, zo2, zo3⟩ := holds4 Jo.out
                  go_simp
                  clear zo0 zo1 zo2 zo3
                  refine hK.out _ _ ⟨JT2.out, NT2.out⟩ (fun h1 => ?_)
                  clear hK K
                  try simp only [Act.put, y1, y2, y3, y4, y5, y6, y7]
                  refine wpAnyH_ready (rs := [9]) (by kernel_rfl) (by simp) ?_
                  refine AllReadyH.cons rfl (fun K hK => ?_) AllReadyH.nil
                  clear h1
                  go_simp
                  refine (C2.out V6 F2.out).mono ?_
                  rintro e V7 ⟨rfl, hb⟩
                  replace B2 := aB B2 hb
                  replace Jo := aJ Jo hb
                  replace F2 := aF F2 hb
                  replace JT2 := aJ JT2 hb
                  replace NT2 := aA NT2 hb
                  clear hb C2
                  go_wp2_with fail
                  refine hK.out _ _ ⟨JT2.out, NT2.out⟩ (fun h1 => ?_)
                  clear hK K
                  try simp only [Act.put, y1, y2, y3, y4, y5, y6, y7]
                  refine wpAnyH_ready (rs := [10]) (by kernel_rfl) (by simp) ?_
                  refine AllReadyH.cons rfl (fun K hK => ?_) AllReadyH.nil
                  clear h1
                  obtain ⟨zo0, zo1, zo2, zo3⟩ := holds4 Jo.out
                  have f0 := fJ Jo
                  have hBut : But Wb.heap.size V7 (((((V7.setCell ⟨Wb.heap.size, 0, none⟩ (U (w4 N2 0))).setCell ⟨Wb.heap.size, 1, none⟩ (U (w4 N2 1))).setCell ⟨Wb.heap.size, 2, none⟩ (U (w4 N2 2))).setCell ⟨Wb.heap.size, 3, none⟩ (U (w4 N2 3)))) := ((((But.refl _ V7).setCell 0 _).setCell 1 _).setCell 2 _).setCell 3 _
                  have BF : Hid (Below Wb.heap.size Wb (((((V7.setCell ⟨Wb.heap.size, 0, none⟩ (U (w4 N2 0))).setCell ⟨Wb.heap.size, 1, none⟩ (U (w4 N2 1))).setCell ⟨Wb.heap.size, 2, none⟩ (U (w4 N2 2))).setCell ⟨Wb.heap.size, 3, none⟩ (U (w4 N2 3))))) := (((B2.out.setCell (Nat.le_refl _) _).setCell (Nat.le_refl _) _).setCell (Nat.le_refl _) _).setCell (Nat.le_refl _) _
                  have JF : Hid (IHolds (((((V7.setCell ⟨Wb.heap.size, 0, none⟩ (U (w4 N2 0))).setCell ⟨Wb.heap.size, 1, none⟩ (U (w4 N2 1))).setCell ⟨Wb.heap.size, 2, none⟩ (U (w4 N2 2))).setCell ⟨Wb.heap.size, 3, none⟩ (U (w4 N2 3)))) Wb.heap.size 73 (us (ws4 N2))) := (((Jo.out.set 0 _).set 1 _).set 2 _).set 3 _
                  replace JT2 := tJ JT2 hBut neT.out
                  replace NT2 := tA NT2 hBut neV.out
                  clear hBut B2 Jo F2
                  go_simp
                  clear zo0 zo1 zo2 zo3 f0
                  generalize ((((V7.setCell ⟨Wb.heap.size, 0, none⟩ (U (w4 N2 0))).setCell ⟨Wb.heap.size, 1, none⟩ (U (w4 N2 1))).setCell ⟨Wb.heap.size, 2, none⟩ (U (w4 N2 2))).setCell ⟨Wb.heap.size, 3, none⟩ (U (w4 N2 3))) = V8 at *
                  refine hK.out _ _ ⟨JT2.out, NT2.out⟩ (fun h1 => ?_)
                  clear hK K
                  try simp only [Act.put, y1, y2, y3, y4, y5, y6, y7]
                  refine wpAnyH_done (by kernel_rfl) ?_ _
                  clear h1
                  go_wp2_with fail
                  go_roundg (gk - 1)
                  case measure => omega
                  case rel => exact ⟨j + 1, by omega, by first | rfl | go_num, by rw [← HN2.out]; exact JF.out, BF.out⟩
              · have k4 : ¬ (j : Int) < (i : Int) := by omega
                have eji : j = i := by omega
                subst eji
                have Jo2 : Hid (IHolds wr Wb.heap.size 73 (us (ws4 (prodP al nl p j * R % M)))) := by
                  have q := Jo.out
                  rw [HQ.out, ← prodP_step] at q
                  exact q
                go_wp2_with fail
                go_roundg p
                case measure => omega
                case rel => exact ⟨p, rfl, by omega, by first | rfl | go_num, Jo2.out, B2.out⟩
end Go.Proofs.YtmpiipcllgjhdaaGreatDoor
namespace Go.Proofs.YtmpiipcllgjhdaaGreatDoor
open Go.RowKit Go.Deep Go.PlainAid

end Go.Proofs.YtmpiipcllgjhdaaGreatDoor
namespace Go.Proofs.YtmpiipcllgjhdaaGreatDoor
open Go.RowKit Go.Deep Go.PlainAid

end Go.Proofs.YtmpiipcllgjhdaaGreatDoor
namespace Go.Proofs.YtmpiipcllgjhdaaGreatDoor
open Go.RowKit Go.Deep Go.PlainAid

end Go.Proofs.YtmpiipcllgjhdaaGreatDoor
namespace Go.Proofs.YtmpiipcllgjhdaaGreatDoor
open Go.RowKit Go.Deep Go.PlainAid

end Go.Proofs.YtmpiipcllgjhdaaGreatDoor
namespace Go.Proofs.YtmpiipcllgjhdaaGreatDoor
open Go.RowKit Go.Deep Go.PlainAid

/-- All that is known of a kind. -/
structure KD (z : Int) (G : Array Value) (S Wd M low one sq Ri Wd2 M2 low2 one2 sq2 Ri2 : Nat) : Prop where
  hS : S ≤ 32
  hS0 : ((S : Int) == 0) = false
  fl : Fld Wd M low one sq Ri
  fl2 : Fld Wd2 M2 low2 one2 sq2 Ri2
  m21 : M2 = 2 * M + 1
  sz : M ≤ 256 ^ S
  wd : 256 ^ S ≤ BB ^ Wd
  wd2 : 256 ^ S ≤ BB ^ Wd2
  lq : (dg 65536 (M * M)).length ≤ 100000
  lp : (dg 65536 (M2 * M2)).length ≤ 100000
  hG : gz.size = G.size
  hi : (Tryz.prog.info? 111).map (·.size) = some G.size
  h1 : G.all (·.oneCell') = true
  CG : Hid (∀ W, Calls Tryz.prog 62 #[.int .i64 z] W fun e w' => e = .returned (.tuple #[.agg G, .bool true]) ∧ Below W.heap.size W w')
  gh : ∀ W g, IHolds W g 111 G.toList → GH W g S Wd M low one sq Wd2 M2 low2 one2 sq2
section
variable {z : Int} {G : Array Value} {S Wd M low one sq Ri Wd2 M2 low2 one2 sq2 Ri2 : Nat}
theorem KD.m2 (k : KD z G S Wd M low one sq Ri Wd2 M2 low2 one2 sq2 Ri2) : 2 ≤ M := k.fl.m2
theorem KD.big (k : KD z G S Wd M low one sq Ri Wd2 M2 low2 one2 sq2 Ri2) : M < BB ^ 4 := by have := k.fl.big; have := k.fl.m2; omega
theorem scalar_yes (k : KD z G S Wd M low one sq Ri Wd2 M2 low2 one2 sq2 Ri2) {w : World} {g : Nat} (F : GH w g S Wd M low one sq Wd2 M2 low2 one2 sq2) {s : ByteArray} (h : isSc S M s = true) :
    Calls Tryz.prog 32 #[.pointer (some ⟨g, 0, none⟩), .string s] w fun e w' => e = .returned (.tuple #[A4 (numS s), .int .i64 0]) ∧ Below w.heap.size w w' := by
  have q := scalarA F s k.hS k.big
  rw [h, if_pos rfl, if_pos rfl] at q
  exact q
theorem isSc_lt {S M : Nat} {s : ByteArray} (h : isSc S M s = true) : numS s < M := (of_decide_eq_true h).2
theorem isSc_size {S M : Nat} {s : ByteArray} (h : isSc S M s = true) : s.size = S := (of_decide_eq_true h).1
/-! The program's answers. -/
theorem subF_mod {M a b : Nat} (ha : a < M) (hb : b < M) : subF M a b = (a + M - b) % M := by
  unfold subF
  split
  · rw [Nat.mod_eq_of_lt (by omega)]
  · rw [show a + M - b = (a - b) + M by omega, Nat.add_mod_right, Nat.mod_eq_of_lt (by omega)]
theorem sub_yes (k : KD z G S Wd M low one sq Ri Wd2 M2 low2 one2 sq2 Ri2) (w : World) {a b : ByteArray} (h : isSc S M a = true) (h' : isSc S M b = true) :
    Calls Tryz.prog 100 #[.int .i64 z, .string a, .string b] w fun e w' => e = .returned (.tuple #[.string ⟨(beB S ((numS a + M - numS b) % M)).toArray⟩, .int .i64 0]) ∧ Below w.heap.size w w' := by
  have ha := isSc_lt h
  have hb' := isSc_lt h'
  have hm := k.m2
  exact sub_face (reckon_any (fun W r1 jr hb => withTwo_any (fun W2 q1 q2 q3 k1 k2 k3 hb2 => withOne_any (fun W3 p1 p2 p3 j1 j2 j3 hb3 => on48_88 k.hG k.hi k.h1 k.CG (fun W4 g hI hb4 =>
    clos88_59_96 (j1.of_below hb4) (j2.of_below hb4) (j3.of_below hb4) (fun W5 hb5 => scalar_yes k ((k.gh W4 g hI).of_below hb5) h)
      (fun W5 hb5 => clos96_59_91 (((k1.of_below hb3).of_below hb4).of_below hb5) (((k2.of_below hb3).of_below hb4).of_below hb5) (((k3.of_below hb3).of_below hb4).of_below hb5)
        (fun W6 hb6 => scalar_yes k (((k.gh W4 g hI).of_below hb5).of_below hb6) h')
        (fun W6 hb6 => clos91_71 (((((jr.of_below hb2).of_below hb3).of_below hb4).of_below hb5).of_below hb6)
          (fun W7 hb7 => by have q := fminusA ((((k.gh W4 g hI).of_below hb5).of_below hb6).of_below hb7).fs ha hb' k.fl.big; rw [subF_mod ha hb'] at q; exact q)
          (fun W7 hb7 => toldA ((((k.gh W4 g hI).of_below hb5).of_below hb6).of_below hb7).c k.hS (Nat.lt_trans (Nat.mod_lt _ (by omega)) k.big)))))))))
theorem mul_yes (k : KD z G S Wd M low one sq Ri Wd2 M2 low2 one2 sq2 Ri2) (w : World) {a b : ByteArray} (h : isSc S M a = true) (h' : isSc S M b = true) :
    Calls Tryz.prog 124 #[.int .i64 z, .string a, .string b] w fun e w' => e = .returned (.tuple #[.string ⟨(beB S (numS a * numS b % M)).toArray⟩, .int .i64 0]) ∧ Below w.heap.size w w' := by
  have ha := isSc_lt h
  have hb' := isSc_lt h'
  have hm := k.m2
  exact mul_face (reckon_any (fun W r1 jr hb => withTwo_any (fun W2 q1 q2 q3 k1 k2 k3 hb2 => withOne_any (fun W3 p1 p2 p3 j1 j2 j3 hb3 => on48_88 k.hG k.hi k.h1 k.CG (fun W4 g hI hb4 =>
    clos88_59_96 (j1.of_below hb4) (j2.of_below hb4) (j3.of_below hb4) (fun W5 hb5 => scalar_yes k ((k.gh W4 g hI).of_below hb5) h)
      (fun W5 hb5 => clos96_59_91 (((k1.of_below hb3).of_below hb4).of_below hb5) (((k2.of_below hb3).of_below hb4).of_below hb5) (((k3.of_below hb3).of_below hb4).of_below hb5)
        (fun W6 hb6 => scalar_yes k (((k.gh W4 g hI).of_below hb5).of_below hb6) h')
        (fun W6 hb6 => clos91_72 (((((jr.of_below hb2).of_below hb3).of_below hb4).of_below hb5).of_below hb6)
          (fun W7 hb7 => ftimesA ((((k.gh W4 g hI).of_below hb5).of_below hb6).of_below hb7).fs k.fl (k.fl.in_words ha) hb')
          (fun W7 hb7 => toldA ((((k.gh W4 g hI).of_below hb5).of_below hb6).of_below hb7).c k.hS (Nat.lt_trans (Nat.mod_lt _ (by omega)) k.big)))))))))
/-! The reference's. -/
end
theorem kd1 : KD 1 gr1 2 1 641 28778071877862015 1 1 1 1 1283 690135397925220949 989 475 48 where
  hS := by omega
  hS0 := by decide
  fl := fs1
  fl2 := fe1
  m21 := by decide +kernel
  sz := by decide +kernel
  wd := by decide +kernel
  wd2 := by decide +kernel
  lq := Nat.le_trans (len_lt (k := 40) (by decide +kernel)) (by omega)
  lp := Nat.le_trans (len_lt (k := 40) (by decide +kernel)) (by omega)
  hG := rfl
  hi := size70
  h1 := by kernel_rfl
  CG := fun W => ground1 W
  gh := gh1
theorem kd2 : KD 2 gr2 8 1 576465431670292481 14411523486952456191 576315691930484705 164727685076202836 450363764723817667 1 1152930863340584963 2177741659672237397 1152781123600777171 169519337302233854 136109958580553132 where
  hS := by omega
  hS0 := by decide
  fl := fs2
  fl2 := fe2
  m21 := by decide +kernel
  sz := by decide +kernel
  wd := by decide +kernel
  wd2 := by decide +kernel
  lq := Nat.le_trans (len_lt (k := 40) (by decide +kernel)) (by omega)
  lp := Nat.le_trans (len_lt (k := 40) (by decide +kernel)) (by omega)
  hG := rfl
  hi := size70
  h1 := by kernel_rfl
  CG := fun W => ground2 W
  gh := gh2
theorem kd3 : KD 3 gr3 32 4 7237005577332262213973186563042995786902308146886443998308627866733439352833 18446744073709551615 7237005577332262213973186563042971049735362462343904064828166006911539347441 7237005577332262213973055834329441520127728155767444907515600161428691746049 5880067031582463048853214082472434173487683750925480045240918195860869414465 4 14474011154664524427946373126085991573804616293772887996617255733466878705667 6148914691236517205 14474011154664524427946373126085966836637670609230348063136793873644978700267 14474011154664524427946242397372833101701167255334527841511617785270253517891 11458592164109415172124212058151410038875124957716978240262064368612367837670 where
  hS := by omega
  hS0 := by decide
  fl := fs3
  fl2 := fe3
  m21 := by decide +kernel
  sz := by decide +kernel
  wd := by decide +kernel
  wd2 := by decide +kernel
  lq := Nat.le_trans (len_lt (k := 40) (by decide +kernel)) (by omega)
  lp := Nat.le_trans (len_lt (k := 40) (by decide +kernel)) (by omega)
  hG := rfl
  hi := size70
  h1 := by kernel_rfl
  CG := fun W => ground3 W
  gh := gh3
end Go.Proofs.YtmpiipcllgjhdaaGreatDoor
namespace Go.Proofs.YtmpiipcllgjhdaaGreatDoor
open Go.RowKit Go.Deep Go.PlainAid

section
variable {w : World} {x1 x2 y1 y2 : Value} {z : Int}
end
end Go.Proofs.YtmpiipcllgjhdaaGreatDoor
namespace Go.Proofs.YtmpiipcllgjhdaaGreatDoor
open Go.RowKit Go.Deep Go.PlainAid

end Go.Proofs.YtmpiipcllgjhdaaGreatDoor
