/- A map with numbers as keys. -/
import Derived.Test.YtckfdpiohkggaabProd0X
import Derived.Maps.OwnSet
import Derived.WideKeyPair
import Derived.DeepKeys4
set_option linter.unusedSimpArgs false
set_option linter.unusedVariables false
namespace Go.Proofs.Ytckfdpiohkggaab
open Go.RowKit Go.Deep Go.PlainAid Go.Maps Go.WideMaps

/-- The base's power by n, but for its sign. -/
def pw2 (M M2 n : Nat) : Nat := sgn M M2 (2 ^ n % M2)
theorem Try.laidOutM : laidOutB Try.prog = true := by kernel_rfl
theorem Try.row66 : (41 : TypeId) < Try.prog.types.size := of_decide_eq_true (by kernel_rfl)
theorem Try.wide66 : (match Try.prog.underlying 41 with | some (.array _ _) | some (.struct _) => true | _ => false) = true := by rw [Try.underlying41]
set_option maxRecDepth 100000 in
theorem Try.law66 : KeyLaw Try.prog 41 := deep_law_laid Try.laidOutM (m := 2) (by omega) Try.row66 (by kernel_rfl) Try.wide66
theorem Try.arr66 : ArrKey Try.prog 41 39 4 := ⟨Try.underlying41, by kernel_rfl, by kernel_rfl, by kernel_rfl⟩
theorem Try.keyed66 : Keyed Try.prog 41 := Keyed.of_law Try.law66
theorem Try.sizeT : ∃ m, Try.prog.types.size = m + 1 := by
  have h : decide (0 < Try.prog.types.size) = true := by kernel_rfl
  have := of_decide_eq_true h
  exact ⟨Try.prog.types.size - 1, by omega⟩
theorem keyOf_four {P : Program} {k e : TypeId} {q : IntKind} (A : ArrKey P k e 4) (he : P.underlying e = some (.int q)) (hsz : ∃ m, P.types.size = m + 1) {a b c d : Int} (wa : (Lit.int q a).wf = true) (wb : (Lit.int q b).wf = true) (wc : (Lit.int q c).wf = true) (wd : (Lit.int q d).wf = true) :
    keyOf P k (.agg #[.int q a, .int q b, .int q c, .int q d]) = some (.string (keyBytes [.int q a, .int q b, .int q c, .int q d])) := by
  have hkt := A.keyType hsz
  obtain ⟨m, hm⟩ := hsz
  unfold keyOf
  simp only [A.hu]
  rw [if_pos (by simp [hkt, Value.formed, A.hu, A.size]), hm]
  unfold Program.keyLits
  simp only [A.hu, Value.cells]
  rw [if_pos (by rw [A.size]; rfl), show List.range 4 = [0, 1, 2, 3] from rfl, List.mapM_cons, List.mapM_cons, List.mapM_cons, List.mapM_cons, List.mapM_nil]
  simp [A.one, Program.keyLits, he, wa, wb, wc, wd]
/-- A number as a key. -/
def keyL (x : Nat) : Lit := .string (keyBytes [.int .u64 (w4 x 0 : Int), .int .u64 (w4 x 1 : Int), .int .u64 (w4 x 2 : Int), .int .u64 (w4 x 3 : Int)])
theorem wf_word (x i : Nat) : (Lit.int .u64 (w4 x i : Int)).wf = true := by
  have h := w4_lt x i
  have e : BB = 18446744073709551616 := rfl
  exact WalkArith.wf_u64 ⟨by omega, by omega⟩
theorem keyOf_A4 (x : Nat) : keyOf Try.prog 41 (A4 x) = some (keyL x) := keyOf_four Try.arr66 Try.underlying39 Try.sizeT (wf_word x 0) (wf_word x 1) (wf_word x 2) (wf_word x 3)
theorem keyL_inj {x y : Nat} (hx : x < BB ^ 4) (hy : y < BB ^ 4) (h : keyL x = keyL y) : x = y := by
  have e := Try.law66.inj (keyOf_A4 x) (by rw [h]; exact keyOf_A4 y)
  unfold A4 at e
  simp only [Value.agg.injEq, Array.mk.injEq, List.cons.injEq, Value.int.injEq, true_and, and_true] at e
  rw [← vl_w4 hx, ← vl_w4 hy]
  have e0 : w4 x 0 = w4 y 0 := by omega
  have e1 : w4 x 1 = w4 y 1 := by omega
  have e2 : w4 x 2 = w4 y 2 := by omega
  have e3 : w4 x 3 = w4 y 3 := by omega
  rw [e0, e1, e2, e3]
/-- The map tells of each number the least place below k at which f has it. -/
structure MapR (D : DataW Unit) (f : Nat → Nat) (k : Nat) : Prop where
  isMap : IsMap D
  has : ∀ x, x < BB ^ 4 → (Maps.has D (keyL x) = true ↔ ∃ i, i < k ∧ f i = x)
  at' : ∀ i, i < k → (∀ j, j < i → f j ≠ f i) → D.atKey (keyL (f i)) (.lit (.int .i64 0)) = .lit (.int .i64 (i : Int))
theorem MapR.zero (f : Nat → Nat) : MapR (.map []) f 0 := ⟨⟨[], rfl⟩, fun x hx => by simp [Maps.has], fun i h => by omega⟩
theorem MapR.there {D : DataW Unit} {f : Nat → Nat} {k : Nat} (h : MapR D f k) (hf : ∀ i, f i < BB ^ 4) (hk : Maps.has D (keyL (f k)) = true) : MapR D f (k + 1) := by
  obtain ⟨i0, hi0, e0⟩ := (h.has _ (hf k)).1 hk
  refine ⟨h.isMap, fun x hx => ?_, fun i hi hl => ?_⟩
  · rw [h.has x hx]
    constructor
    · rintro ⟨i, hi, e⟩; exact ⟨i, by omega, e⟩
    · rintro ⟨i, hi, e⟩
      by_cases hik : i = k
      · exact ⟨i0, hi0, by rw [e0, ← hik]; exact e⟩
      · exact ⟨i, by omega, e⟩
  · by_cases hik : i = k
    · exact absurd (by rw [hik]; exact e0) (hl i0 (by omega))
    · exact h.at' i (by omega) hl
theorem MapR.new {D : DataW Unit} {f : Nat → Nat} {k : Nat} (h : MapR D f k) (hf : ∀ i, f i < BB ^ 4) (hk : Maps.has D (keyL (f k)) = false) : MapR (D.put (keyL (f k)) (.lit (.int .i64 (k : Int)))) f (k + 1) := by
  have hno : ∀ i, i < k → f i ≠ f k := fun i hi e => by
    have := (h.has _ (hf k)).2 ⟨i, hi, e⟩
    rw [hk] at this
    cases this
  have hlit : WideAt.IsKeyLit (keyL (f k)) := trivial
  refine ⟨?_, fun x hx => ?_, fun i hi hl => ?_⟩
  · obtain ⟨es, rfl⟩ := h.isMap
    exact ⟨_, rfl⟩
  · by_cases e : x = f k
    · subst e
      rw [has_put_same h.isMap hlit]
      exact ⟨fun _ => ⟨k, by omega, rfl⟩, fun _ => rfl⟩
    · rw [has_put_other (fun q => e (keyL_inj hx (hf k) q)), h.has x hx]
      constructor
      · rintro ⟨i, hi, e1⟩; exact ⟨i, by omega, e1⟩
      · rintro ⟨i, hi, e1⟩
        by_cases hik : i = k
        · exact absurd (by rw [← e1, hik]) e
        · exact ⟨i, by omega, e1⟩
  · by_cases hik : i = k
    · subst hik
      exact atKey_put_same h.isMap hlit _ _
    · rw [atKey_put_other (fun q => hno i (by omega) (keyL_inj (hf i) (hf k) q))]
      exact h.at' i (by omega) hl
end Go.Proofs.Ytckfdpiohkggaab
