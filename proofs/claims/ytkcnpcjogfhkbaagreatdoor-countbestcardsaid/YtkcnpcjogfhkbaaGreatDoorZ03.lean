/- '==' of two arrays of words: as the words are. The walk of words: a piece of 64 bytes as sixteen words, the lowest byte of each first. Plain: sixteen words folded into eight. No Go text is walked here. -/
import Derived.Test.YtkcnpcjogfhkbaaGreatDoorZ02
import Derived.StillTailTactics
set_option linter.unusedSimpArgs false
set_option linter.unusedVariables false
set_option maxRecDepth 100000
namespace Go.Proofs.YtkcnpcjogfhkbaaGreatDoor.F
open Go.RowKit

theorem all_get_eq (n : Nat) (xs ys : List UInt32) (hx : xs.length = n) (hy : ys.length = n) : ((List.range n).all fun i => xs.getD i 0 == ys.getD i 0) = (xs == ys) := by
  rw [Bool.eq_iff_iff]
  simp only [List.all_eq_true, List.mem_range, beq_iff_eq]
  constructor
  · intro h
    apply List.ext_getElem (by omega)
    intro i h1 h2
    have := h i (by omega)
    simpa [List.getD_eq_getElem?_getD, h1, h2] using this
  · rintro rfl i _; rfl

theorem word_eq (a b : UInt32) : (((a.toNat : Int)) == ((b.toNat : Int))) = (a == b) := by
  rw [Bool.eq_iff_iff]
  simp only [beq_iff_eq]
  constructor
  · intro h; exact UInt32.toNat_inj.1 (by omega)
  · rintro rfl; rfl

theorem run_equalIn_words {P : Program} (w : World) (d : Nat) (t e : TypeId) (n : Nat) (ht : P.underlying t = some (.array n e)) (he : P.underlying e = some (.int .u32)) (hsz : ∀ w, (sizeOf e).run P w = .ok 1 w)
    (xs ys : List UInt32) (hx : xs.length = n) (hy : ys.length = n) :
    (Op.equalIn (d + 2) t (.agg (arr xs)) (.agg (arr ys))).run P w = .ok (xs == ys) w := by
  rw [← all_get_eq n xs ys hx hy, List.range_eq_range', Op.equalIn]
  simp only [Sem.run_bind, run_underlying ht, Result.andThen_ok, hsz, Std.Legacy.Range.forIn_eq_forIn_range', Std.Legacy.Range.size, Nat.sub_zero, Nat.add_sub_cancel, Nat.div_one]
  have hl : ∀ i ∈ List.range' 0 n 1, i < n := fun i hi => by simpa using (List.mem_range'_1.1 hi).2
  generalize List.range' 0 n 1 = l at hl ⊢
  induction l with
  | nil => simp
  | cons i l ih =>
    have hi : i < n := hl i (by simp)
    have px : (part e (arr xs) (i * 1)).run P w = .ok (U (xs.getD i 0)) w := by
      simp [part, isAgg, run_underlying he, arr_get, show i < xs.length by omega]
    have py : (part e (arr ys) (i * 1)).run P w = .ok (U (ys.getD i 0)) w := by
      simp [part, isAgg, run_underlying he, arr_get, show i < ys.length by omega]
    have pe : (Op.equalIn (d + 1) e (U (xs.getD i 0)) (U (ys.getD i 0))).run P w = .ok (xs.getD i 0 == ys.getD i 0) w := by
      rw [run_equalIn_int w d e .u32 .u32 _ _ he, ← word_eq]
    simp only [List.forIn_cons, Sem.run_bind, px, py, pe, Result.andThen_ok, List.all_cons]
    cases hb : (xs.getD i 0 == ys.getD i 0)
    · simp
    · simp only [Bool.not_true, Bool.false_eq_true, if_false, Sem.run_pure, Result.andThen_ok, Bool.true_and]
      exact ih fun j hj => hl j (by simp [hj])

theorem sizeOf22 (w : World) : (sizeOf 132).run Tryz.prog w = .ok 1 w := by
  have h : (Tryz.prog.info? 132).map (·.size) = some 1 := by kernel_rfl
  cases hq : Tryz.prog.info? 132 with
  | none => simp [hq] at h
  | some i =>
    have : i.size = 1 := by simpa [hq] using h
    simp [sizeOf, typeInfo, hq, this]

/-- The two array types of the program: sixteen words, eight words. -/
theorem eq23 (xs ys : List UInt32) (hx : xs.length = 16) (hy : ys.length = 16) (w : World) : (Op.equalIn 10000 176 (.agg (arr xs)) (.agg (arr ys))).run Tryz.prog w = .ok (xs == ys) w :=
  run_equalIn_words w 9998 176 132 16 Tryz.underlying176 Tryz.underlying132 sizeOf22 xs ys hx hy
theorem eq27 (xs ys : List UInt32) (hx : xs.length = 8) (hy : ys.length = 8) (w : World) : (Op.equalIn 10000 133 (.agg (arr xs)) (.agg (arr ys))).run Tryz.prog w = .ok (xs == ys) w :=
  run_equalIn_words w 9998 133 132 8 Tryz.underlying133 Tryz.underlying132 sizeOf22 xs ys hx hy
theorem eqg23 : Tryz.prog.eqGuardType Tryz.prog.depth 23 = false := by kernel_rfl
theorem eqg27 : Tryz.prog.eqGuardType Tryz.prog.depth 27 = false := by kernel_rfl

/-! Small facts for the laws' walks. -/
theorem range_arr {w : World} {b : Nat} {t : TypeId} {l : List UInt32} (h : Holds w b t l) : w.rangeAt b 0 (arr l).toList := by
  have := h.range; simpa [arr] using this
theorem hi_arr (l : List UInt32) (hl : l.length = 16) : (Tryz.prog.info? 176).map (·.size) = some (arr l).toList.length := by rw [size23, Array.length_toList, arr_size, hl]
theorem len_arr (l : List UInt32) (hl : l.length = 16) : (arr l).toList.length = 16 := by rw [Array.length_toList, arr_size, hl]
theorem one_arr (l : List UInt32) : ∀ v ∈ (arr l).toList, v.oneCell' = true := by
  intro v hv
  simp [arr] at hv
  obtain ⟨x, _, rfl⟩ := hv
  rfl
theorem Holds.of_below {w w' : World} {b B : Nat} {t : TypeId} {l : List UInt32} (h : Holds w b t l) (hb : Below B w w') (hB : b < B) : Holds w' b t l := by
  unfold Holds; rw [hb.block b hB]; exact h
theorem Below.of_drew {B : Nat} {u w : World} (h : Below B u.drew w) : Below B u w := ⟨h.os, h.tape, h.output, h.size, h.block⟩

end Go.Proofs.YtkcnpcjogfhkbaaGreatDoor.F
namespace Go.Proofs.YtkcnpcjogfhkbaaGreatDoor.F
open Go.RowKit

/-- A byte as the program holds it; bytes as cells. -/
abbrev Y (x : UInt8) : Value := .int .u8 (x.toNat : Int)
def barr (l : List UInt8) : Array Value := (l.map Y).toArray
theorem barr_size (l : List UInt8) : (barr l).size = l.length := by simp [barr]
theorem barr_get (l : List UInt8) (i : Nat) : (barr l)[i]? = (l[i]?).map Y := by simp [barr]
theorem ylt (x : UInt8) : x.toNat < 256 := x.toNat_lt
/-- A word of four bytes, the lowest first. -/
def w4 (a b c d : UInt8) : UInt32 := UInt32.ofNat (a.toNat + 256 * b.toNat + 65536 * c.toNat + 16777216 * d.toNat)
theorem w4_toNat (a b c d : UInt8) : (w4 a b c d).toNat = a.toNat + 256 * b.toNat + 65536 * c.toNat + 16777216 * d.toNat := by
  have := ylt a
  have := ylt b
  have := ylt c
  have := ylt d
  unfold w4; rw [UInt32.toNat_ofNat']; omega
def wordsL (p : List UInt8) : List UInt32 := (List.range 16).map fun j => w4 (p.getD (4 * j) 0) (p.getD (4 * j + 1) 0) (p.getD (4 * j + 2) 0) (p.getD (4 * j + 3) 0)
theorem wordsL_length (p : List UInt8) : (wordsL p).length = 16 := by simp [wordsL]
/-- So many words of it, the rest zeros. -/
def wordsTo (p : List UInt8) : Nat → List UInt32
  | 0 => List.replicate 16 0
  | i + 1 => (wordsTo p i).set i (w4 (p.getD (4 * i) 0) (p.getD (4 * i + 1) 0) (p.getD (4 * i + 2) 0) (p.getD (4 * i + 3) 0))
theorem wordsTo_length (p : List UInt8) (i : Nat) : (wordsTo p i).length = 16 := by
  induction i with
  | zero => rfl
  | succ i ih => simp [wordsTo, ih]
theorem wordsTo_get (p : List UInt8) : ∀ (i : Nat), i ≤ 16 → ∀ j, j < 16 → (wordsTo p i)[j]? = some (if j < i then w4 (p.getD (4 * j) 0) (p.getD (4 * j + 1) 0) (p.getD (4 * j + 2) 0) (p.getD (4 * j + 3) 0) else 0)
  | 0, _, j, hj => by rw [wordsTo, List.getElem?_replicate, if_pos hj, if_neg (by omega)]
  | i + 1, hi, j, hj => by
    rw [wordsTo, List.getElem?_set]
    by_cases h : i = j
    · subst h
      simp [wordsTo_length, hj]
    · rw [if_neg h, wordsTo_get p i (by omega) j hj]
      by_cases h2 : j < i
      · rw [if_pos h2, if_pos (by omega)]
      · rw [if_neg h2, if_neg (by omega)]
theorem wordsTo_all (p : List UInt8) : wordsTo p 16 = wordsL p := by
  apply List.ext_getElem?
  intro j
  by_cases hj : j < 16
  · rw [wordsTo_get p 16 (by omega) j hj, if_pos hj]
    simp [wordsL, hj]
  · rw [List.getElem?_eq_none (by rw [wordsTo_length]; omega), List.getElem?_eq_none (by rw [wordsL_length]; omega)]

theorem or2 (x y : Nat) (k : Nat) (hx : x < 2 ^ k) (hy : x + 2 ^ k * y < 4294967296) (hk : 2 ^ k ≤ 4294967296) : bits .or .u32 (x : Int) ((2 ^ k * y : Nat) : Int) = ((x + 2 ^ k * y : Nat) : Int) := by
  have h0 : 0 < 2 ^ k := Nat.two_pow_pos k
  rw [u32_or_nat _ _ (by omega) (by omega), Nat.or_comm, or_add _ _ k y rfl hx, Nat.add_comm]
theorem or_w4 (a b c d : UInt8) (B C D : Int) (hB : B = 256 * (b.toNat : Int)) (hC : C = 65536 * (c.toNat : Int)) (hD : D = 16777216 * (d.toNat : Int)) :
    bits .or .u32 (bits .or .u32 (bits .or .u32 (a.toNat : Int) B) C) D = ((w4 a b c d).toNat : Int) := by
  have ha := ylt a
  have hb := ylt b
  have hc := ylt c
  have hd := ylt d
  subst hB hC hD
  have e1 := or2 a.toNat b.toNat 8 (by omega) (by omega) (by omega)
  have e2 := or2 (a.toNat + 2 ^ 8 * b.toNat) c.toNat 16 (by omega) (by omega) (by omega)
  have e3 := or2 (a.toNat + 2 ^ 8 * b.toNat + 2 ^ 16 * c.toNat) d.toNat 24 (by omega) (by omega) (by omega)
  rw [show (256 : Int) * (b.toNat : Int) = ((2 ^ 8 * b.toNat : Nat) : Int) by omega, e1, show (65536 : Int) * (c.toNat : Int) = ((2 ^ 16 * c.toNat : Nat) : Int) by omega, e2, show (16777216 : Int) * (d.toNat : Int) = ((2 ^ 24 * d.toNat : Nat) : Int) by omega, e3, w4_toNat]

/-- Block b is an array of these bytes. -/
def BHolds (w : World) (b : Nat) (t : TypeId) (l : List UInt8) : Prop := w.heap[b]? = some (.cells (barr l) t)
theorem BHolds.lt {w : World} {b : Nat} {t : TypeId} {l : List UInt8} (h : BHolds w b t l) : b < w.heap.size := (Array.getElem?_eq_some_iff.1 h).1
theorem BHolds.cell {w : World} {b : Nat} {t : TypeId} {l : List UInt8} (h : BHolds w b t l) (i : Nat) (hi : i < l.length) : w.cell? ⟨b, i, none⟩ = some (Y (l.getD i 0)) := by
  unfold BHolds at h
  simp [World.cell?, h, barr_get, hi]

theorem mixedW : Tryz.prog.follows .mixedOrders = true := by kernel_rfl
theorem sizeOf5 (w : World) : (sizeOf 5).run Tryz.prog w = .ok 1 w := by
  have h : (Tryz.prog.info? 5).map (·.size) = some 1 := by kernel_rfl
  cases hq : Tryz.prog.info? 5 with
  | none => simp [hq] at h
  | some i =>
    have : i.size = 1 := by simpa [hq] using h
    simp [sizeOf, typeInfo, hq, this]
theorem alen57 : Tryz.prog.arrayLen 134 = 64 := by kernel_rfl
theorem elem57 : Tryz.prog.elem 134 = 5 := by kernel_rfl
/-- A part of an array of 64 bytes. -/
theorem slice57 (b o : Nat) (l h : Int) (lo hi : Nat) (el : l = (lo : Int)) (eh : h = (hi : Int)) (h1 : lo ≤ hi) (h2 : hi ≤ 64) (h3 : lo < 64) (w : World) :
    (Instr.sliceAt 134 (.pointer (some ⟨b, o, none⟩)) (some (.int .i64 l)) (some (.int .i64 h)) none).run Tryz.prog w = .ok (.slice (some ⟨b, o + lo, none⟩) (hi - lo) (64 - lo)) w := by
  subst el eh
  rw [run_sliceAt_array_lh w 134 ⟨b, o, none⟩ (by rw [alen57, elem57]; exact Tryz.underlying134) .i64 .i64 (lo : Int) (hi : Int) (by omega) (by omega) (by rw [alen57]; omega)]
  rw [elem57, sizeOf5, alen57]
  simp only [Result.andThen_ok, slicedAt, Int.toNat_natCast, Nat.mul_one]
  rw [if_neg (by omega), Addr.add_mid]
theorem slice57_from (b o : Nat) (l : Int) (lo : Nat) (el : l = (lo : Int)) (h3 : lo < 64) (w : World) :
    (Instr.sliceAt 134 (.pointer (some ⟨b, o, none⟩)) (some (.int .i64 l)) none none).run Tryz.prog w = .ok (.slice (some ⟨b, o + lo, none⟩) (64 - lo) (64 - lo)) w := by
  subst el
  rw [run_sliceAt_array_l w 134 ⟨b, o, none⟩ (by rw [alen57, elem57]; exact Tryz.underlying134) .i64 (lo : Int) (by omega) (by rw [alen57]; omega)]
  rw [elem57, sizeOf5, alen57]
  simp only [Result.andThen_ok, slicedAt, Int.toNat_natCast, Nat.mul_one]
  rw [if_neg (by omega), Addr.add_mid]
theorem slice57_all (b o : Nat) (w : World) :
    (Instr.sliceAt 134 (.pointer (some ⟨b, o, none⟩)) none none none).run Tryz.prog w = .ok (.slice (some ⟨b, o, none⟩) 64 64) w := by
  rw [run_sliceAt_array_all w 134 ⟨b, o, none⟩ (by rw [alen57, elem57]; exact Tryz.underlying134)]
  rw [elem57, sizeOf5, alen57]
  simp only [Result.andThen_ok, slicedAt, Nat.zero_mul, Nat.sub_zero]
  rw [if_neg (by omega), Addr.add_mid]; rfl

set_option maxRecDepth 100000 in
set_option maxHeartbeats 1000000 in
theorem words_any (p : List UInt8) (hp : p.length = 64) (w : World) :
    Calls Tryz.prog 126 #[.agg (barr p)] w fun e w' => e = .returned (.agg (arr (wordsL p))) ∧ Below w.heap.size w w' := by
  have s1 := arr_size
  have s2 := barr_size
  go_enter Tryz.func126, Tryz.ntmps126
  go_wp2_with fail
  obtain ⟨w2, hw2⟩ : ∃ w2, w2 = ((w.alloc (Obj.cells (barr p) 134)).alloc (Obj.cells (arr (List.replicate 16 0)) 176)).alloc (Obj.cells (arr (List.replicate 16 0)) 176) := ⟨_, rfl⟩
  have a1 : w2.heap[w.heap.size]? = some (.cells (barr p) 134) := by
    rw [hw2, Below.heap_alloc _ _ _ (by simp; omega), Below.heap_alloc _ _ _ (by simp)]
    show (w.heap.push _)[w.heap.size]? = _
    simp
  have a2 : Holds w2 (w.heap.size + 1) 176 (List.replicate 16 0) := by rw [hw2]; have := Holds.new (w.alloc (Obj.cells (barr p) 134)) 176 (List.replicate 16 0); rw [World.size_alloc] at this; exact this.alloc _
  have a3 : Holds w2 (w.heap.size + 1 + 1) 176 (List.replicate 16 0) := by rw [hw2]; have := Holds.new ((w.alloc (Obj.cells (barr p) 134)).alloc (Obj.cells (arr (List.replicate 16 0)) 176)) 176 (List.replicate 16 0); rw [World.size_alloc, World.size_alloc] at this; exact this
  have a4 : Hid (Below w.heap.size w w2) := by rw [hw2]; exact (((Below.refl _ w).alloc (Nat.le_refl _) _).alloc (by simp) _).alloc (by simp; omega) _
  have a5 : Hid (BHolds w2 w.heap.size 134 p) := a1
  clear a1
  change Code.wp _ _ _ _ (((w.alloc (Obj.cells (barr p) 134)).alloc (Obj.cells (arr (List.replicate 16 0)) 176)).alloc (Obj.cells (arr (List.replicate 16 0)) 176))
  rw [← hw2]
  clear hw2
  go_loopg [6] 16 (fun k v wr => ∃ i : Nat, i + k = 16 ∧ v = .int .i64 i ∧ Holds wr (w.heap.size + 1 + 1) 176 (wordsTo p i) ∧ But (w.heap.size + 1 + 1) w2 wr)
  case atStart => exact ⟨0, rfl, rfl, a3, But.refl _ _⟩
  case round =>
    obtain ⟨i, hi, rfl, hv, hb⟩ := hrel
    have hl := wordsTo_length p i
    have hB : Hid (BHolds wr w.heap.size 134 p) := by show _ = _; rw [hb.block _ a5.out.lt (by omega)]; exact a5.out
    by_cases hlt : i < 16
    · have i16 : (i : Int) < 16 := by omega
      have hnx : Hid (wordsTo p (i + 1) = (wordsTo p i).set i (w4 (p.getD (4 * i) 0) (p.getD (4 * i + 1) 0) (p.getD (4 * i + 2) 0) (p.getD (4 * i + 3) 0))) := rfl
      have c0 := hB.out.cell (4 * i) (by omega)
      have c1 := hB.out.cell (4 * i + 1) (by omega)
      have c2 := hB.out.cell (4 * i + 2) (by omega)
      have c3 := hB.out.cell (4 * i + 3) (by omega)
      have d0 := hv.cell i (by omega)
      have f0 := hv.frozen i
      generalize p.getD (4 * i) 0 = x0 at *
      generalize p.getD (4 * i + 1) 0 = x1 at *
      generalize p.getD (4 * i + 2) 0 = x2 at *
      generalize p.getD (4 * i + 3) 0 = x3 at *
      have b0 := ylt x0
      have b1 := ylt x1
      have b2 := ylt x2
      have b3 := ylt x3
      generalize (wordsTo p i).getD i 0 = old at *
      have k0 : IntKind.i64.wrap (4 * (i : Int)) = 4 * (i : Int) := IntWalk.i64_in _ ⟨by omega, by omega⟩
      have k1 : IntKind.i64.wrap (4 * (i : Int) + 4) = 4 * (i : Int) + 4 := IntWalk.i64_in _ ⟨by omega, by omega⟩
      have k2 : (4 * (i : Int)).toNat = 4 * i := by omega
      have k3 : (4 * (i : Int) + 4).toNat = 4 * i + 4 := by omega
      have k4 : (0 : Int) ≤ 4 * (i : Int) := by omega
      have k5 : 4 * (i : Int) + 4 ≤ 64 := by omega
      have k6 : 4 * i + 4 - 4 * i = 4 := by omega
      have hsl := fun w' => slice57 w.heap.size 0 (4 * (i : Int)) (4 * (i : Int) + 4) (4 * i) (4 * i + 4) (by omega) (by omega) (by omega) (by omega) (by omega) w'
      simp only [Nat.zero_add, k6] at hsl
      go_wp2_with fail
      refine wp_region_still_tail 23 mixedW (by kernel_rfl) ?_
      simp only [List.take_succ_cons, List.take_zero, List.drop_succ_cons, List.drop_zero]
      show wpStill _ _ wr.drew _ _ _
      repeat still_step
      refine wpStill_nil ?_
      go_wp2_with fail
      go_roundg (gk - 1)
      case measure => omega
      case rel =>
        refine ⟨i + 1, by omega, by go_num, ?_, (hb.setCell _ _).drew⟩
        rw [hnx.out]
        rw [or_w4 x0 x1 x2 x3 ((x1.toNat : Int) * 256) ((x2.toNat : Int) * 65536) ((x3.toNat : Int) * 16777216) (by omega) (by omega) (by omega)]
        exact hv.set _ _
    · have hid : Hid (i = 16) := by show i = 16; omega
      have hfin : Hid (wordsTo p i = wordsL p) := by show _ = _; rw [hid.out]; exact wordsTo_all p
      generalize wordsTo p i = L at *
      have h1' := hb.holds a2 (by omega)
      have r1 := range_arr hv
      have i23 := hi_arr L hl
      have i23' : (Tryz.prog.info? 176).map (·.size) = some (arr L).size := by rw [size23, arr_size, hl]
      have t23 : wr.there (w.heap.size + 1) 0 (arr L).size := by
        intro j hj
        rw [arr_size, hl] at hj
        rw [Nat.zero_add, h1'.cell j (by simpa using hj), h1'.frozen]
        exact ⟨rfl, rfl⟩
      have o23 := arr_one L
      go_wp2_with (first
        | (refine wpList_load_mid rfl 176 (.tmp 3) rfl (w.heap.size + 1 + 1) 0 rfl (arr L).toList _ r1 Tryz.underlying176 rfl i23 ?_)
        | (refine wpList_store_mid rfl 176 (.tmp 2) (.tmp 40) rfl (w.heap.size + 1) 0 (arr L) rfl rfl t23 i23' o23 ?_))
      refine bodyPost_ret (v := .agg (arr L).toList.toArray) (results_cell Tryz.results126 _ _ (w.heap.size + 1) 0 (arr L).toList _ rfl (World.rangeAt_setCells_same _ _ _ _ (by simpa using t23)) Tryz.underlying176 rfl i23) rfl ⟨?_, ?_⟩
      · rw [← hfin.out]
      · exact Below.setNews (by omega) _ _ _ (a4.out.trans (hb.below a4.out.size (by omega)))
end Go.Proofs.YtkcnpcjogfhkbaaGreatDoor.F
namespace Go.Proofs.YtkcnpcjogfhkbaaGreatDoor.F
open Go.RowKit

/-- The start. -/
def staL : List UInt32 := [1779033703, 3144134277, 1013904242, 2773480762, 1359893119, 2600822924, 528734635, 1541459225]
/-- All bits turned over. -/
def unot (x : UInt32) : UInt32 := UInt32.ofNat (4294967295 - x.toNat)
/-- The lower and the upper half of a number of 64 bits. -/
def loU (n : Nat) : UInt32 := UInt32.ofNat (n % 4294967296)
def hiU (n : Nat) : UInt32 := UInt32.ofNat (n / 4294967296 % 4294967296)

theorem unot_toNat (x : UInt32) : (unot x).toNat = 4294967295 - x.toNat := by
  have := ult x
  unfold unot; rw [UInt32.toNat_ofNat']; omega
theorem loU_toNat (n : Nat) : (loU n).toNat = n % 4294967296 := by
  unfold loU; rw [UInt32.toNat_ofNat']; omega
theorem hiU_toNat (n : Nat) (h : n < 18446744073709551616) : (hiU n).toNat = n / 4294967296 := by
  unfold hiU; rw [UInt32.toNat_ofNat']; omega
theorem uxor_assoc (a b c : UInt32) : uxor (uxor a b) c = uxor a (uxor b c) := by unfold uxor; exact UInt32.xor_assoc ..

/-- h, then the start: so many words of each. -/
def fillV (h : List UInt32) : Nat → List UInt32
  | 0 => List.replicate 16 0
  | i + 1 => ((fillV h i).set i (h.getD i 0)).set (i + 8) (staL.getD i 0)
theorem fillV_length (h : List UInt32) (i : Nat) : (fillV h i).length = 16 := by
  induction i with
  | zero => rfl
  | succ i ih => simp [fillV, ih]
def mix12 (v : List UInt32) (n : Nat) : List UInt32 := v.set 12 (uxor (v.getD 12 0) (loU n))
def mix13 (v : List UInt32) (n : Nat) : List UInt32 := v.set 13 (uxor (v.getD 13 0) (hiU n))
def mix14 (v : List UInt32) (last : Bool) : List UInt32 := if last = true then v.set 14 (unot (v.getD 14 0)) else v
def mixV (h : List UInt32) (n : Nat) (last : Bool) : List UInt32 := mix14 (mix13 (mix12 (fillV h 8) n) n) last
theorem mixV_length (h : List UInt32) (n : Nat) (last : Bool) : (mixV h n last).length = 16 := by
  unfold mixV mix14 mix13 mix12
  split <;> simp [fillV_length]
def outV (h w : List UInt32) : Nat → List UInt32
  | 0 => h
  | i + 1 => (outV h w i).set i (uxor ((outV h w i).getD i 0) (uxor (w.getD i 0) (w.getD (i + 8) 0)))
theorem outV_length (h w : List UInt32) (i : Nat) : (outV h w i).length = h.length := by
  induction i with
  | zero => rfl
  | succ i ih => simp [outV, ih]
/-- Press. -/
def pressL (h m : List UInt32) (n : Nat) (last : Bool) : List UInt32 := outV h (stirs m 10 (mixV h n last)) 8
theorem pressL_length (h m : List UInt32) (n : Nat) (last : Bool) : (pressL h m n last).length = h.length := outV_length ..

/-- The start lies in the program's own variable. -/
structure Starts (w : World) : Prop where
  sta : ∀ i, i < 8 → w.cell? ⟨0, i, none⟩ = some (U (staL.getD i 0))
theorem Starts.of_below {w w' : World} {B : Nat} (h : Starts w) (hb : Below B w w') (h2 : 4 < B) : Starts w' :=
  ⟨fun i hi => by rw [hb.cell (by show 0 < B; omega)]; exact h.sta i hi⟩
theorem Holds.other {w : World} {b : Nat} {t : TypeId} {l : List UInt32} (h : Holds w b t l) {p : Addr} (hp : b ≠ p.block) (x : Value) : Holds (w.setCell p x) b t l := by
  unfold Holds; rw [Below.heap_setCell _ _ _ _ hp]; exact h
theorem Holds.oth {w : World} {b : Nat} {t : TypeId} {l : List UInt32} (h : Holds w b t l) {g : Nat} (hp : b ≠ g) (i : Nat) (x : Value) : Holds (w.setCell ⟨g, i, none⟩ x) b t l := h.other (p := ⟨g, i, none⟩) hp x
theorem Below.own {B : Nat} {u w : World} (h : Below B u w) {g : Nat} (hp : B ≤ g) (i : Nat) (x : Value) : Below B u (w.setCell ⟨g, i, none⟩ x) := h.setCell (p := ⟨g, i, none⟩) hp x
theorem Holds.others {b g : Nat} {t : TypeId} {l : List UInt32} (hp : b ≠ g) : ∀ (vs : List Value) (o : Nat) (w : World), Holds w b t l → Holds (w.setCells g o vs) b t l
  | [], _, _, h => h
  | v :: r, o, _, h => Holds.others hp r (o + 1) _ (h.other (p := ⟨g, o, none⟩) hp v)
theorem Holds.drew {w : World} {b : Nat} {t : TypeId} {l : List UInt32} (h : Holds w b t l) : Holds w.drew b t l := h
end Go.Proofs.YtkcnpcjogfhkbaaGreatDoor.F
