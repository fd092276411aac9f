/- The walk of words: a piece of 64 bytes as sixteen words, the lowest byte of each first. -/
import Derived.Test.YteomefhjglnghaaDoorFEq
import Derived.StillTailTactics
set_option linter.unusedSimpArgs false
set_option linter.unusedVariables false
set_option maxRecDepth 100000
namespace Go.Proofs.YteomefhjglnghaaDoor.F
open Go.RowKit

/-- A byte as the program holds it; bytes as cells. -/
abbrev Y (x : UInt8) : Value := .int .u8 (x.toNat : Int)
def barr (l : List UInt8) : Array Value := (l.map Y).toArray
theorem barr_size (l : List UInt8) : (barr l).size = l.length := by simp [barr]
theorem barr_get (l : List UInt8) (i : Nat) : (barr l)[i]? = (l[i]?).map Y := by simp [barr]
theorem ylt (x : UInt8) : x.toNat < 256 := x.toNat_lt
/-- A word of four bytes, the lowest first. -/
def w4 (a b c d : UInt8) : UInt32 := UInt32.ofNat (a.toNat + 256 * b.toNat + 65536 * c.toNat + 16777216 * d.toNat)
theorem w4_toNat (a b c d : UInt8) : (w4 a b c d).toNat = a.toNat + 256 * b.toNat + 65536 * c.toNat + 16777216 * d.toNat := by
  have := ylt a
  have := ylt b
  have := ylt c
  have := ylt d
  unfold w4; rw [UInt32.toNat_ofNat']; omega
def wordsL (p : List UInt8) : List UInt32 := (List.range 16).map fun j => w4 (p.getD (4 * j) 0) (p.getD (4 * j + 1) 0) (p.getD (4 * j + 2) 0) (p.getD (4 * j + 3) 0)
theorem wordsL_length (p : List UInt8) : (wordsL p).length = 16 := by simp [wordsL]
/-- So many words of it, the rest zeros. -/
def wordsTo (p : List UInt8) : Nat → List UInt32
  | 0 => List.replicate 16 0
  | i + 1 => (wordsTo p i).set i (w4 (p.getD (4 * i) 0) (p.getD (4 * i + 1) 0) (p.getD (4 * i + 2) 0) (p.getD (4 * i + 3) 0))
theorem wordsTo_length (p : List UInt8) (i : Nat) : (wordsTo p i).length = 16 := by
  induction i with
  | zero => rfl
  | succ i ih => simp [wordsTo, ih]
theorem wordsTo_get (p : List UInt8) : ∀ (i : Nat), i ≤ 16 → ∀ j, j < 16 → (wordsTo p i)[j]? = some (if j < i then w4 (p.getD (4 * j) 0) (p.getD (4 * j + 1) 0) (p.getD (4 * j + 2) 0) (p.getD (4 * j + 3) 0) else 0)
  | 0, _, j, hj => by rw [wordsTo, List.getElem?_replicate, if_pos hj, if_neg (by omega)]
  | i + 1, hi, j, hj => by
    rw [wordsTo, List.getElem?_set]
    by_cases h : i = j
    · subst h
      simp [wordsTo_length, hj]
    · rw [if_neg h, wordsTo_get p i (by omega) j hj]
      by_cases h2 : j < i
      · rw [if_pos h2, if_pos (by omega)]
      · rw [if_neg h2, if_neg (by omega)]
theorem wordsTo_all (p : List UInt8) : wordsTo p 16 = wordsL p := by
  apply List.ext_getElem?
  intro j
  by_cases hj : j < 16
  · rw [wordsTo_get p 16 (by omega) j hj, if_pos hj]
    simp [wordsL, hj]
  · rw [List.getElem?_eq_none (by rw [wordsTo_length]; omega), List.getElem?_eq_none (by rw [wordsL_length]; omega)]

theorem or2 (x y : Nat) (k : Nat) (hx : x < 2 ^ k) (hy : x + 2 ^ k * y < 4294967296) (hk : 2 ^ k ≤ 4294967296) : bits .or .u32 (x : Int) ((2 ^ k * y : Nat) : Int) = ((x + 2 ^ k * y : Nat) : Int) := by
  have h0 : 0 < 2 ^ k := Nat.two_pow_pos k
  rw [u32_or_nat _ _ (by omega) (by omega), Nat.or_comm, or_add _ _ k y rfl hx, Nat.add_comm]
theorem or_w4 (a b c d : UInt8) (B C D : Int) (hB : B = 256 * (b.toNat : Int)) (hC : C = 65536 * (c.toNat : Int)) (hD : D = 16777216 * (d.toNat : Int)) :
    bits .or .u32 (bits .or .u32 (bits .or .u32 (a.toNat : Int) B) C) D = ((w4 a b c d).toNat : Int) := by
  have ha := ylt a
  have hb := ylt b
  have hc := ylt c
  have hd := ylt d
  subst hB hC hD
  have e1 := or2 a.toNat b.toNat 8 (by omega) (by omega) (by omega)
  have e2 := or2 (a.toNat + 2 ^ 8 * b.toNat) c.toNat 16 (by omega) (by omega) (by omega)
  have e3 := or2 (a.toNat + 2 ^ 8 * b.toNat + 2 ^ 16 * c.toNat) d.toNat 24 (by omega) (by omega) (by omega)
  rw [show (256 : Int) * (b.toNat : Int) = ((2 ^ 8 * b.toNat : Nat) : Int) by omega, e1, show (65536 : Int) * (c.toNat : Int) = ((2 ^ 16 * c.toNat : Nat) : Int) by omega, e2, show (16777216 : Int) * (d.toNat : Int) = ((2 ^ 24 * d.toNat : Nat) : Int) by omega, e3, w4_toNat]

/-- Block b is an array of these bytes. -/
def BHolds (w : World) (b : Nat) (t : TypeId) (l : List UInt8) : Prop := w.heap[b]? = some (.cells (barr l) t)
theorem BHolds.lt {w : World} {b : Nat} {t : TypeId} {l : List UInt8} (h : BHolds w b t l) : b < w.heap.size := (Array.getElem?_eq_some_iff.1 h).1
theorem BHolds.cell {w : World} {b : Nat} {t : TypeId} {l : List UInt8} (h : BHolds w b t l) (i : Nat) (hi : i < l.length) : w.cell? ⟨b, i, none⟩ = some (Y (l.getD i 0)) := by
  unfold BHolds at h
  simp [World.cell?, h, barr_get, hi]

theorem mixedW : Tryd.prog.follows .mixedOrders = true := by kernel_rfl
theorem sizeOf5 (w : World) : (sizeOf 5).run Tryd.prog w = .ok 1 w := by
  have h : (Tryd.prog.info? 5).map (·.size) = some 1 := by kernel_rfl
  cases hq : Tryd.prog.info? 5 with
  | none => simp [hq] at h
  | some i =>
    have : i.size = 1 := by simpa [hq] using h
    simp [sizeOf, typeInfo, hq, this]
theorem alen57 : Tryd.prog.arrayLen 82 = 64 := by kernel_rfl
theorem elem57 : Tryd.prog.elem 82 = 5 := by kernel_rfl
/-- A part of an array of 64 bytes. -/
theorem slice57 (b o : Nat) (l h : Int) (lo hi : Nat) (el : l = (lo : Int)) (eh : h = (hi : Int)) (h1 : lo ≤ hi) (h2 : hi ≤ 64) (h3 : lo < 64) (w : World) :
    (Instr.sliceAt 82 (.pointer (some ⟨b, o, none⟩)) (some (.int .i64 l)) (some (.int .i64 h)) none).run Tryd.prog w = .ok (.slice (some ⟨b, o + lo, none⟩) (hi - lo) (64 - lo)) w := by
  subst el eh
  rw [run_sliceAt_array_lh w 82 ⟨b, o, none⟩ (by rw [alen57, elem57]; exact Tryd.underlying82) .i64 .i64 (lo : Int) (hi : Int) (by omega) (by omega) (by rw [alen57]; omega)]
  rw [elem57, sizeOf5, alen57]
  simp only [Result.andThen_ok, slicedAt, Int.toNat_natCast, Nat.mul_one]
  rw [if_neg (by omega), Addr.add_mid]
theorem slice57_from (b o : Nat) (l : Int) (lo : Nat) (el : l = (lo : Int)) (h3 : lo < 64) (w : World) :
    (Instr.sliceAt 82 (.pointer (some ⟨b, o, none⟩)) (some (.int .i64 l)) none none).run Tryd.prog w = .ok (.slice (some ⟨b, o + lo, none⟩) (64 - lo) (64 - lo)) w := by
  subst el
  rw [run_sliceAt_array_l w 82 ⟨b, o, none⟩ (by rw [alen57, elem57]; exact Tryd.underlying82) .i64 (lo : Int) (by omega) (by rw [alen57]; omega)]
  rw [elem57, sizeOf5, alen57]
  simp only [Result.andThen_ok, slicedAt, Int.toNat_natCast, Nat.mul_one]
  rw [if_neg (by omega), Addr.add_mid]
theorem slice57_all (b o : Nat) (w : World) :
    (Instr.sliceAt 82 (.pointer (some ⟨b, o, none⟩)) none none none).run Tryd.prog w = .ok (.slice (some ⟨b, o, none⟩) 64 64) w := by
  rw [run_sliceAt_array_all w 82 ⟨b, o, none⟩ (by rw [alen57, elem57]; exact Tryd.underlying82)]
  rw [elem57, sizeOf5, alen57]
  simp only [Result.andThen_ok, slicedAt, Nat.zero_mul, Nat.sub_zero]
  rw [if_neg (by omega), Addr.add_mid]; rfl

set_option maxRecDepth 100000 in
set_option maxHeartbeats 1000000 in
theorem words_any (p : List UInt8) (hp : p.length = 64) (w : World) :
    Calls Tryd.prog 56 #[.agg (barr p)] w fun e w' => e = .returned (.agg (arr (wordsL p))) ∧ Below w.heap.size w w' := by
  have s1 := arr_size
  have s2 := barr_size
  go_enter Tryd.func56, Tryd.ntmps56
  go_wp2_with fail
  obtain ⟨w2, hw2⟩ : ∃ w2, w2 = ((w.alloc (Obj.cells (barr p) 82)).alloc (Obj.cells (arr (List.replicate 16 0)) 74)).alloc (Obj.cells (arr (List.replicate 16 0)) 74) := ⟨_, rfl⟩
  have a1 : w2.heap[w.heap.size]? = some (.cells (barr p) 82) := by
    rw [hw2, Below.heap_alloc _ _ _ (by simp; omega), Below.heap_alloc _ _ _ (by simp)]
    show (w.heap.push _)[w.heap.size]? = _
    simp
  have a2 : Holds w2 (w.heap.size + 1) 74 (List.replicate 16 0) := by rw [hw2]; have := Holds.new (w.alloc (Obj.cells (barr p) 82)) 74 (List.replicate 16 0); rw [World.size_alloc] at this; exact this.alloc _
  have a3 : Holds w2 (w.heap.size + 1 + 1) 74 (List.replicate 16 0) := by rw [hw2]; have := Holds.new ((w.alloc (Obj.cells (barr p) 82)).alloc (Obj.cells (arr (List.replicate 16 0)) 74)) 74 (List.replicate 16 0); rw [World.size_alloc, World.size_alloc] at this; exact this
  have a4 : Hid (Below w.heap.size w w2) := by rw [hw2]; exact (((Below.refl _ w).alloc (Nat.le_refl _) _).alloc (by simp) _).alloc (by simp; omega) _
  have a5 : Hid (BHolds w2 w.heap.size 82 p) := a1
  clear a1
  change Code.wp _ _ _ _ (((w.alloc (Obj.cells (barr p) 82)).alloc (Obj.cells (arr (List.replicate 16 0)) 74)).alloc (Obj.cells (arr (List.replicate 16 0)) 74))
  rw [← hw2]
  clear hw2
  go_loopg [6] 16 (fun k v wr => ∃ i : Nat, i + k = 16 ∧ v = .int .i64 i ∧ Holds wr (w.heap.size + 1 + 1) 74 (wordsTo p i) ∧ But (w.heap.size + 1 + 1) w2 wr)
  case atStart => exact ⟨0, rfl, rfl, a3, But.refl _ _⟩
  case round =>
    obtain ⟨i, hi, rfl, hv, hb⟩ := hrel
    have hl := wordsTo_length p i
    have hB : Hid (BHolds wr w.heap.size 82 p) := by show _ = _; rw [hb.block _ a5.out.lt (by omega)]; exact a5.out
    by_cases hlt : i < 16
    · have i16 : (i : Int) < 16 := by omega
      have hnx : Hid (wordsTo p (i + 1) = (wordsTo p i).set i (w4 (p.getD (4 * i) 0) (p.getD (4 * i + 1) 0) (p.getD (4 * i + 2) 0) (p.getD (4 * i + 3) 0))) := rfl
      have c0 := hB.out.cell (4 * i) (by omega)
      have c1 := hB.out.cell (4 * i + 1) (by omega)
      have c2 := hB.out.cell (4 * i + 2) (by omega)
      have c3 := hB.out.cell (4 * i + 3) (by omega)
      have d0 := hv.cell i (by omega)
      have f0 := hv.frozen i
      generalize p.getD (4 * i) 0 = x0 at *
      generalize p.getD (4 * i + 1) 0 = x1 at *
      generalize p.getD (4 * i + 2) 0 = x2 at *
      generalize p.getD (4 * i + 3) 0 = x3 at *
      have b0 := ylt x0
      have b1 := ylt x1
      have b2 := ylt x2
      have b3 := ylt x3
      generalize (wordsTo p i).getD i 0 = old at *
      have k0 : IntKind.i64.wrap (4 * (i : Int)) = 4 * (i : Int) := IntWalk.i64_in _ ⟨by omega, by omega⟩
      have k1 : IntKind.i64.wrap (4 * (i : Int) + 4) = 4 * (i : Int) + 4 := IntWalk.i64_in _ ⟨by omega, by omega⟩
      have k2 : (4 * (i : Int)).toNat = 4 * i := by omega
      have k3 : (4 * (i : Int) + 4).toNat = 4 * i + 4 := by omega
      have k4 : (0 : Int) ≤ 4 * (i : Int) := by omega
      have k5 : 4 * (i : Int) + 4 ≤ 64 := by omega
      have k6 : 4 * i + 4 - 4 * i = 4 := by omega
      have hsl := fun w' => slice57 w.heap.size 0 (4 * (i : Int)) (4 * (i : Int) + 4) (4 * i) (4 * i + 4) (by omega) (by omega) (by omega) (by omega) (by omega) w'
      simp only [Nat.zero_add, k6] at hsl
      go_wp2_with fail
      refine wp_region_still_tail 23 mixedW (by kernel_rfl) ?_
      simp only [List.take_succ_cons, List.take_zero, List.drop_succ_cons, List.drop_zero]
      show wpStill _ _ wr.drew _ _ _
      repeat still_step
      refine wpStill_nil ?_
      go_wp2_with fail
      go_roundg (gk - 1)
      case measure => omega
      case rel =>
        refine ⟨i + 1, by omega, by go_num, ?_, (hb.setCell _ _).drew⟩
        rw [hnx.out]
        rw [or_w4 x0 x1 x2 x3 ((x1.toNat : Int) * 256) ((x2.toNat : Int) * 65536) ((x3.toNat : Int) * 16777216) (by omega) (by omega) (by omega)]
        exact hv.set _ _
    · have hid : Hid (i = 16) := by show i = 16; omega
      have hfin : Hid (wordsTo p i = wordsL p) := by show _ = _; rw [hid.out]; exact wordsTo_all p
      generalize wordsTo p i = L at *
      have h1' := hb.holds a2 (by omega)
      have r1 := range_arr hv
      have i23 := hi_arr L hl
      have i23' : (Tryd.prog.info? 74).map (·.size) = some (arr L).size := by rw [size23, arr_size, hl]
      have t23 : wr.there (w.heap.size + 1) 0 (arr L).size := by
        intro j hj
        rw [arr_size, hl] at hj
        rw [Nat.zero_add, h1'.cell j (by simpa using hj), h1'.frozen]
        exact ⟨rfl, rfl⟩
      have o23 := arr_one L
      go_wp2_with (first
        | (refine wpList_load_mid rfl 74 (.tmp 3) rfl (w.heap.size + 1 + 1) 0 rfl (arr L).toList _ r1 Tryd.underlying74 rfl i23 ?_)
        | (refine wpList_store_mid rfl 74 (.tmp 2) (.tmp 40) rfl (w.heap.size + 1) 0 (arr L) rfl rfl t23 i23' o23 ?_))
      refine bodyPost_ret (v := .agg (arr L).toList.toArray) (results_cell Tryd.results56 _ _ (w.heap.size + 1) 0 (arr L).toList _ rfl (World.rangeAt_setCells_same _ _ _ _ (by simpa using t23)) Tryd.underlying74 rfl i23) rfl ⟨?_, ?_⟩
      · rw [← hfin.out]
      · exact Below.setNews (by omega) _ _ _ (a4.out.trans (hb.below a4.out.size (by omega)))
end Go.Proofs.YteomefhjglnghaaDoor.F
