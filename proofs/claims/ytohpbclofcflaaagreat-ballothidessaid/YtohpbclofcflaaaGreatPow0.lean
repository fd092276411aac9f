/- Products of powers, and rows of numbers in memory. -/
import Derived.Test.YtohpbclofcflaaaGreatTab
set_option linter.unusedSimpArgs false
set_option linter.unusedVariables false
namespace Go.Proofs.YtohpbclofcflaaaGreat
open Go.RowKit Go.Deep Go.PlainAid

/-- The product of the first powers, each by what is left of its exponent above place t. -/
def prodP (al nl : List Nat) (t : Nat) : Nat → Nat
  | 0 => 1
  | i + 1 => prodP al nl t i * (al.getD i 0) ^ (nl.getD i 0 / 16 ^ t)
/-- The product of the first powers, each by the digit at place p. -/
def digP (al nl : List Nat) (p : Nat) : Nat → Nat
  | 0 => 1
  | i + 1 => digP al nl p i * (al.getD i 0) ^ (dgt (nl.getD i 0) p)
/-- The product of the first powers. -/
def powP (al nl : List Nat) : Nat → Nat
  | 0 => 1
  | i + 1 => powP al nl i * (al.getD i 0) ^ (nl.getD i 0)
theorem dgt_step (n p : Nat) : n / 16 ^ p = n / 16 ^ (p + 1) * 16 + dgt n p := by
  unfold dgt
  rw [Nat.pow_succ, ← Nat.div_div_eq_div_mul]
  exact (Nat.div_add_mod' (n / 16 ^ p) 16).symm
theorem prodP_step (al nl : List Nat) (p i : Nat) : prodP al nl p i = prodP al nl (p + 1) i ^ 16 * digP al nl p i := by
  induction i with
  | zero => simp [prodP, digP]
  | succ i ih =>
    rw [prodP, prodP, digP, ih, dgt_step, Nat.pow_add, Nat.mul_pow, ← Nat.pow_mul]
    simp only [Nat.mul_assoc, Nat.mul_left_comm, Nat.mul_comm]
theorem prodP_top (al nl : List Nat) (t i : Nat) (h : ∀ j, j < i → nl.getD j 0 < 16 ^ t) : prodP al nl t i = 1 := by
  induction i with
  | zero => rfl
  | succ i ih => rw [prodP, ih (fun j hj => h j (by omega)), Nat.div_eq_of_lt (h i (by omega)), Nat.pow_zero]
theorem prodP_zero (al nl : List Nat) (i : Nat) : prodP al nl 0 i = powP al nl i := by
  induction i with
  | zero => rfl
  | succ i ih => rw [prodP, powP, ih, Nat.pow_zero, Nat.div_one]
/-- A number's four words lie there. -/
structure NA (W : World) (b o X : Nat) : Prop where
  a0 : W.cell? ⟨b, o, none⟩ = some (U (w4 X 0))
  a1 : W.cell? ⟨b, o + 1, none⟩ = some (U (w4 X 1))
  a2 : W.cell? ⟨b, o + 2, none⟩ = some (U (w4 X 2))
  a3 : W.cell? ⟨b, o + 3, none⟩ = some (U (w4 X 3))
theorem NA.lt {W : World} {b o X : Nat} (h : NA W b o X) : b < W.heap.size := World.block_lt_of_cell? W ⟨b, o, none⟩ h.a0
theorem NA.same {W W' : World} {b o X : Nat} (h : NA W b o X) (e : ∀ i, W'.cell? ⟨b, i, none⟩ = W.cell? ⟨b, i, none⟩) : NA W' b o X :=
  ⟨by rw [e]; exact h.a0, by rw [e]; exact h.a1, by rw [e]; exact h.a2, by rw [e]; exact h.a3⟩
theorem NA.of_below {W W' : World} {b o X : Nat} (h : NA W b o X) (hb : Below W.heap.size W W') : NA W' b o X := h.same fun i => hb.cell h.lt
theorem NA.of_but {W W' : World} {k b o X : Nat} (h : NA W b o X) (hb : But k W W') (hne : b ≠ k) : NA W' b o X := h.same fun i => hb.cell h.lt hne i
theorem aA {W W' : World} {b o X : Nat} (h : Hid (NA W b o X)) (hb : Below W.heap.size W W') : Hid (NA W' b o X) := h.out.of_below hb
theorem tA {W W' : World} {k b o X : Nat} (h : Hid (NA W b o X)) (hb : But k W W') (hne : b ≠ k) : Hid (NA W' b o X) := h.out.of_but hb hne
/-- A row of numbers. -/
def NumsV (W : World) (l : List Nat) (v : Value) : Prop :=
  ∃ a cap, v = .slice a l.length cap ∧ l.length ≤ cap ∧ cap ≤ 9223372036854775807 ∧ ∀ i, i < l.length → ∃ b o, a = some ⟨b, o, none⟩ ∧ NA W b (o + i * 4) (l.getD i 0)
theorem NumsV.of_below {W W' : World} {l : List Nat} {v : Value} (h : NumsV W l v) (hb : Below W.heap.size W W') : NumsV W' l v := by
  obtain ⟨a, cap, rfl, h1, h2, h3⟩ := h
  refine ⟨a, cap, rfl, h1, h2, fun i hi => ?_⟩
  obtain ⟨b, o, e, hn⟩ := h3 i hi
  exact ⟨b, o, e, hn.of_below hb⟩
/-- One number in a row of its own. -/
theorem NumsV.one {W : World} {b X : Nat} (h : IHolds W b 81 (us (ws4 X))) : NumsV W [X] (.slice (some ⟨b, 0, none⟩) 1 1) := by
  refine ⟨_, 1, rfl, by simp, by omega, ?_⟩
  intro i hi
  simp only [List.length_cons, List.length_nil, Nat.zero_add, Nat.lt_one_iff] at hi
  subst hi
  refine ⟨b, 0, rfl, ?_⟩
  have c := fun j hj => us_cell h j (by rw [ws4_length]; exact hj)
  have e := fun j hj => ws4_getD X j hj
  constructor
  · have := c 0 (by omega); rw [e 0 (by omega)] at this; exact this
  · have := c 1 (by omega); rw [e 1 (by omega)] at this; exact this
  · have := c 2 (by omega); rw [e 2 (by omega)] at this; exact this
  · have := c 3 (by omega); rw [e 3 (by omega)] at this; exact this
theorem TabV.mono {W W' : World} {base base' R M a n : Nat} {v : Value} (h : TabV W base R M a n v) (hb : base' ≤ base) (e : ∀ k i, base ≤ k → k < W.heap.size → W'.cell? ⟨k, i, none⟩ = W.cell? ⟨k, i, none⟩) : TabV W' base' R M a n v := by
  obtain ⟨gk, cap, k, rfl, h1, h2, h3, h4, h5⟩ := h
  refine ⟨gk, cap, k, rfl, by omega, h2, h3, h4, ?_⟩
  intro d j hd hj
  have := h5 d j hd hj
  rw [e gk _ h1 (World.block_lt_of_cell? W ⟨gk, d * 4 + j, none⟩ this)]
  exact this
/-- The first tables are laid. -/
def TS (W : World) (bt R M : Nat) (al nl : List Nat) (i : Nat) (TV : List Value) : Prop :=
  ∀ j, j < i → ∃ v, TV[j]? = some v ∧ TabV W (bt + 1) R M (al.getD j 0) (nl.getD j 0) v
theorem TS.of_below {W W' : World} {bt R M : Nat} {al nl : List Nat} {i : Nat} {TV : List Value} (h : TS W bt R M al nl i TV) (hb : Below W.heap.size W W') : TS W' bt R M al nl i TV := by
  intro j hj
  obtain ⟨v, e, t⟩ := h j hj
  exact ⟨v, e, t.mono (Nat.le_refl _) (fun k i _ hk => hb.cell hk)⟩
/-- One more is stored. -/
theorem TS.stored {W : World} {bt R M : Nat} {al nl : List Nat} {i : Nat} {TV : List Value} {v : Value} (h : TS W bt R M al nl i TV) (hv : TabV W (bt + 1) R M (al.getD i 0) (nl.getD i 0) v) (hi : i < TV.length) :
    TS (W.setCell ⟨bt, i, none⟩ v) bt R M al nl (i + 1) (TV.set i v) := by
  have c : ∀ k n, bt + 1 ≤ k → k < W.heap.size → (W.setCell ⟨bt, i, none⟩ v).cell? ⟨k, n, none⟩ = W.cell? ⟨k, n, none⟩ := fun k n h1 h2 => ((But.refl bt W).setCell i v).cell h2 (by omega) n
  intro j hj
  by_cases e : j = i
  · subst e
    exact ⟨v, by rw [List.getElem?_set_self hi], hv.mono (Nat.le_refl _) c⟩
  · obtain ⟨u, hu, t⟩ := h j (by omega)
    exact ⟨u, by rw [List.getElem?_set_ne (by omega)]; exact hu, t.mono (Nat.le_refl _) c⟩
theorem Tryz.info105 : (Tryz.prog.info? 104).map (fun i => (i.zero, i.size, i.bytes)) = some (some (.slice none 0 0), 1, 24) := by kernel_rfl
theorem make113 (z : Int) (n : Nat) (hz : z = (n : Int)) (hn : n ≤ 1000000) (w : World) : (Instr.makeSlice 120 (.int .i64 z) (.int .i64 z)).run Tryz.prog w = .ok (.slice (some ⟨w.heap.size, 0, none⟩) n n) (w.alloc (.cells (List.replicate n (Value.slice none 0 0)).toArray 104)) := by
  subst hz
  have := run_make_row' (P := Tryz.prog) 120 104 (.slice none 0 0) 24 Tryz.underlying120 Tryz.info105 rfl .i64 .i64 n (by omega) (by omega) w
  rw [this]
  have e : madeCells #[Value.slice none 0 0] n = (List.replicate n (Value.slice none 0 0)).toArray := by
    apply Array.toList_inj.1
    rw [toList_madeCells_one]
  rw [e]
end Go.Proofs.YtohpbclofcflaaaGreat
