/- '==' of two arrays of words: as the words are. -/
import Derived.Test.YteomefhjglnghaaDoorFStir
set_option linter.unusedSimpArgs false
set_option linter.unusedVariables false
set_option maxRecDepth 100000
namespace Go.Proofs.YteomefhjglnghaaDoor.F
open Go.RowKit

theorem all_get_eq (n : Nat) (xs ys : List UInt32) (hx : xs.length = n) (hy : ys.length = n) : ((List.range n).all fun i => xs.getD i 0 == ys.getD i 0) = (xs == ys) := by
  rw [Bool.eq_iff_iff]
  simp only [List.all_eq_true, List.mem_range, beq_iff_eq]
  constructor
  · intro h
    apply List.ext_getElem (by omega)
    intro i h1 h2
    have := h i (by omega)
    simpa [List.getD_eq_getElem?_getD, h1, h2] using this
  · rintro rfl i _; rfl

theorem word_eq (a b : UInt32) : (((a.toNat : Int)) == ((b.toNat : Int))) = (a == b) := by
  rw [Bool.eq_iff_iff]
  simp only [beq_iff_eq]
  constructor
  · intro h; exact UInt32.toNat_inj.1 (by omega)
  · rintro rfl; rfl

theorem run_equalIn_words {P : Program} (w : World) (d : Nat) (t e : TypeId) (n : Nat) (ht : P.underlying t = some (.array n e)) (he : P.underlying e = some (.int .u32)) (hsz : ∀ w, (sizeOf e).run P w = .ok 1 w)
    (xs ys : List UInt32) (hx : xs.length = n) (hy : ys.length = n) :
    (Op.equalIn (d + 2) t (.agg (arr xs)) (.agg (arr ys))).run P w = .ok (xs == ys) w := by
  rw [← all_get_eq n xs ys hx hy, List.range_eq_range', Op.equalIn]
  simp only [Sem.run_bind, run_underlying ht, Result.andThen_ok, hsz, Std.Legacy.Range.forIn_eq_forIn_range', Std.Legacy.Range.size, Nat.sub_zero, Nat.add_sub_cancel, Nat.div_one]
  have hl : ∀ i ∈ List.range' 0 n 1, i < n := fun i hi => by simpa using (List.mem_range'_1.1 hi).2
  generalize List.range' 0 n 1 = l at hl ⊢
  induction l with
  | nil => simp
  | cons i l ih =>
    have hi : i < n := hl i (by simp)
    have px : (part e (arr xs) (i * 1)).run P w = .ok (U (xs.getD i 0)) w := by
      simp [part, isAgg, run_underlying he, arr_get, show i < xs.length by omega]
    have py : (part e (arr ys) (i * 1)).run P w = .ok (U (ys.getD i 0)) w := by
      simp [part, isAgg, run_underlying he, arr_get, show i < ys.length by omega]
    have pe : (Op.equalIn (d + 1) e (U (xs.getD i 0)) (U (ys.getD i 0))).run P w = .ok (xs.getD i 0 == ys.getD i 0) w := by
      rw [run_equalIn_int w d e .u32 .u32 _ _ he, ← word_eq]
    simp only [List.forIn_cons, Sem.run_bind, px, py, pe, Result.andThen_ok, List.all_cons]
    cases hb : (xs.getD i 0 == ys.getD i 0)
    · simp
    · simp only [Bool.not_true, Bool.false_eq_true, if_false, Sem.run_pure, Result.andThen_ok, Bool.true_and]
      exact ih fun j hj => hl j (by simp [hj])

theorem sizeOf22 (w : World) : (sizeOf 71).run Tryd.prog w = .ok 1 w := by
  have h : (Tryd.prog.info? 71).map (·.size) = some 1 := by kernel_rfl
  cases hq : Tryd.prog.info? 71 with
  | none => simp [hq] at h
  | some i =>
    have : i.size = 1 := by simpa [hq] using h
    simp [sizeOf, typeInfo, hq, this]

/-- The two array types of the program: sixteen words, eight words. -/
theorem eq23 (xs ys : List UInt32) (hx : xs.length = 16) (hy : ys.length = 16) (w : World) : (Op.equalIn 10000 74 (.agg (arr xs)) (.agg (arr ys))).run Tryd.prog w = .ok (xs == ys) w :=
  run_equalIn_words w 9998 74 71 16 Tryd.underlying74 Tryd.underlying71 sizeOf22 xs ys hx hy
theorem eq27 (xs ys : List UInt32) (hx : xs.length = 8) (hy : ys.length = 8) (w : World) : (Op.equalIn 10000 72 (.agg (arr xs)) (.agg (arr ys))).run Tryd.prog w = .ok (xs == ys) w :=
  run_equalIn_words w 9998 72 71 8 Tryd.underlying72 Tryd.underlying71 sizeOf22 xs ys hx hy
theorem eqg23 : Tryd.prog.eqGuardType Tryd.prog.depth 23 = false := by kernel_rfl
theorem eqg27 : Tryd.prog.eqGuardType Tryd.prog.depth 27 = false := by kernel_rfl

/-! Small facts for the laws' walks. -/
theorem range_arr {w : World} {b : Nat} {t : TypeId} {l : List UInt32} (h : Holds w b t l) : w.rangeAt b 0 (arr l).toList := by
  have := h.range; simpa [arr] using this
theorem hi_arr (l : List UInt32) (hl : l.length = 16) : (Tryd.prog.info? 74).map (·.size) = some (arr l).toList.length := by rw [size23, Array.length_toList, arr_size, hl]
theorem len_arr (l : List UInt32) (hl : l.length = 16) : (arr l).toList.length = 16 := by rw [Array.length_toList, arr_size, hl]
theorem one_arr (l : List UInt32) : ∀ v ∈ (arr l).toList, v.oneCell' = true := by
  intro v hv
  simp [arr] at hv
  obtain ⟨x, _, rfl⟩ := hv
  rfl
theorem Holds.of_below {w w' : World} {b B : Nat} {t : TypeId} {l : List UInt32} (h : Holds w b t l) (hb : Below B w w') (hB : b < B) : Holds w' b t l := by
  unfold Holds; rw [hb.block b hB]; exact h
theorem Below.of_drew {B : Nat} {u w : World} (h : Below B u.drew w) : Below B u w := ⟨h.os, h.tape, h.output, h.size, h.block⟩

end Go.Proofs.YteomefhjglnghaaDoor.F
