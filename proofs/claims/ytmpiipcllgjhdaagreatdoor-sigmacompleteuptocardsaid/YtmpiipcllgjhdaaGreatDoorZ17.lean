/- The walk of words: a piece of 64 bytes as sixteen words, the lowest byte of each first. Plain: sixteen words folded into eight. No Go text is walked here. Plain: a stir as a list of steps, each with its way back: the same words come out. No Go text is named here. The walk of Press: for any words what it answers; nothing that was there turns. -/
import Derived.Test.YtmpiipcllgjhdaaGreatDoorZ01
import Derived.StillTailTactics
import Derived.BigRegion
set_option linter.unusedSimpArgs false
set_option linter.unusedVariables false
set_option maxRecDepth 100000
namespace Go.Proofs.YtmpiipcllgjhdaaGreatDoor.F
open Go.RowKit

/-- A byte as the program holds it; bytes as cells. -/
abbrev Y (x : UInt8) : Value := .int .u8 (x.toNat : Int)
def barr (l : List UInt8) : Array Value := (l.map Y).toArray
theorem barr_size (l : List UInt8) : (barr l).size = l.length := by simp [barr]
theorem barr_get (l : List UInt8) (i : Nat) : (barr l)[i]? = (l[i]?).map Y := by simp [barr]
theorem ylt (x : UInt8) : x.toNat < 256 := x.toNat_lt
/-- A word of four bytes, the lowest first. -/
def w4 (a b c d : UInt8) : UInt32 := UInt32.ofNat (a.toNat + 256 * b.toNat + 65536 * c.toNat + 16777216 * d.toNat)
theorem w4_toNat (a b c d : UInt8) : (w4 a b c d).toNat = a.toNat + 256 * b.toNat + 65536 * c.toNat + 16777216 * d.toNat := by
  have := ylt a
  have := ylt b
  have := ylt c
  have := ylt d
  unfold w4; rw [UInt32.toNat_ofNat']; omega
def wordsL (p : List UInt8) : List UInt32 := (List.range 16).map fun j => w4 (p.getD (4 * j) 0) (p.getD (4 * j + 1) 0) (p.getD (4 * j + 2) 0) (p.getD (4 * j + 3) 0)
theorem wordsL_length (p : List UInt8) : (wordsL p).length = 16 := by simp [wordsL]
/-- So many words of it, the rest zeros. -/
def wordsTo (p : List UInt8) : Nat → List UInt32
  | 0 => List.replicate 16 0
  | i + 1 => (wordsTo p i).set i (w4 (p.getD (4 * i) 0) (p.getD (4 * i + 1) 0) (p.getD (4 * i + 2) 0) (p.getD (4 * i + 3) 0))
theorem wordsTo_length (p : List UInt8) (i : Nat) : (wordsTo p i).length = 16 := by
  induction i with
  | zero => rfl
  | succ i ih => simp [wordsTo, ih]
theorem wordsTo_get (p : List UInt8) : ∀ (i : Nat), i ≤ 16 → ∀ j, j < 16 → (wordsTo p i)[j]? = some (if j < i then w4 (p.getD (4 * j) 0) (p.getD (4 * j + 1) 0) (p.getD (4 * j + 2) 0) (p.getD (4 * j + 3) 0) else 0)
  | 0, _, j, hj => by rw [wordsTo, List.getElem?_replicate, if_pos hj, if_neg (by omega)]
  | i + 1, hi, j, hj => by
    rw [wordsTo, List.getElem?_set]
    by_cases h : i = j
    · subst h
      simp [wordsTo_length, hj]
    · rw [if_neg h, wordsTo_get p i (by omega) j hj]
      by_cases h2 : j < i
      · rw [if_pos h2, if_pos (by omega)]
      · rw [if_neg h2, if_neg (by omega)]
theorem wordsTo_all (p : List UInt8) : wordsTo p 16 = wordsL p := by
  apply List.ext_getElem?
  intro j
  by_cases hj : j < 16
  · rw [wordsTo_get p 16 (by omega) j hj, if_pos hj]
    simp [wordsL, hj]
  · rw [List.getElem?_eq_none (by rw [wordsTo_length]; omega), List.getElem?_eq_none (by rw [wordsL_length]; omega)]

theorem or2 (x y : Nat) (k : Nat) (hx : x < 2 ^ k) (hy : x + 2 ^ k * y < 4294967296) (hk : 2 ^ k ≤ 4294967296) : bits .or .u32 (x : Int) ((2 ^ k * y : Nat) : Int) = ((x + 2 ^ k * y : Nat) : Int) := by
  have h0 : 0 < 2 ^ k := Nat.two_pow_pos k
  rw [u32_or_nat _ _ (by omega) (by omega), Nat.or_comm, or_add _ _ k y rfl hx, Nat.add_comm]
theorem or_w4 (a b c d : UInt8) (B C D : Int) (hB : B = 256 * (b.toNat : Int)) (hC : C = 65536 * (c.toNat : Int)) (hD : D = 16777216 * (d.toNat : Int)) :
    bits .or .u32 (bits .or .u32 (bits .or .u32 (a.toNat : Int) B) C) D = ((w4 a b c d).toNat : Int) := by
  have ha := ylt a
  have hb := ylt b
  have hc := ylt c
  have hd := ylt d
  subst hB hC hD
  have e1 := or2 a.toNat b.toNat 8 (by omega) (by omega) (by omega)
  have e2 := or2 (a.toNat + 2 ^ 8 * b.toNat) c.toNat 16 (by omega) (by omega) (by omega)
  have e3 := or2 (a.toNat + 2 ^ 8 * b.toNat + 2 ^ 16 * c.toNat) d.toNat 24 (by omega) (by omega) (by omega)
  rw [show (256 : Int) * (b.toNat : Int) = ((2 ^ 8 * b.toNat : Nat) : Int) by omega, e1, show (65536 : Int) * (c.toNat : Int) = ((2 ^ 16 * c.toNat : Nat) : Int) by omega, e2, show (16777216 : Int) * (d.toNat : Int) = ((2 ^ 24 * d.toNat : Nat) : Int) by omega, e3, w4_toNat]

/-- Block b is an array of these bytes. -/
def BHolds (w : World) (b : Nat) (t : TypeId) (l : List UInt8) : Prop := w.heap[b]? = some (.cells (barr l) t)
theorem BHolds.lt {w : World} {b : Nat} {t : TypeId} {l : List UInt8} (h : BHolds w b t l) : b < w.heap.size := (Array.getElem?_eq_some_iff.1 h).1
theorem BHolds.cell {w : World} {b : Nat} {t : TypeId} {l : List UInt8} (h : BHolds w b t l) (i : Nat) (hi : i < l.length) : w.cell? ⟨b, i, none⟩ = some (Y (l.getD i 0)) := by
  unfold BHolds at h
  simp [World.cell?, h, barr_get, hi]

theorem mixedW : Tryz.prog.follows .mixedOrders = true := by kernel_rfl
theorem sizeOf5 (w : World) : (sizeOf 5).run Tryz.prog w = .ok 1 w := by
  have h : (Tryz.prog.info? 5).map (·.size) = some 1 := by kernel_rfl
  cases hq : Tryz.prog.info? 5 with
  | none => simp [hq] at h
  | some i =>
    have : i.size = 1 := by simpa [hq] using h
    simp [sizeOf, typeInfo, hq, this]
theorem alen57 : Tryz.prog.arrayLen 174 = 64 := by kernel_rfl
theorem elem57 : Tryz.prog.elem 174 = 5 := by kernel_rfl
/-- A part of an array of 64 bytes. -/
theorem slice57 (b o : Nat) (l h : Int) (lo hi : Nat) (el : l = (lo : Int)) (eh : h = (hi : Int)) (h1 : lo ≤ hi) (h2 : hi ≤ 64) (h3 : lo < 64) (w : World) :
    (Instr.sliceAt 174 (.pointer (some ⟨b, o, none⟩)) (some (.int .i64 l)) (some (.int .i64 h)) none).run Tryz.prog w = .ok (.slice (some ⟨b, o + lo, none⟩) (hi - lo) (64 - lo)) w := by
  subst el eh
  rw [run_sliceAt_array_lh w 174 ⟨b, o, none⟩ (by rw [alen57, elem57]; exact Tryz.underlying174) .i64 .i64 (lo : Int) (hi : Int) (by omega) (by omega) (by rw [alen57]; omega)]
  rw [elem57, sizeOf5, alen57]
  simp only [Result.andThen_ok, slicedAt, Int.toNat_natCast, Nat.mul_one]
  rw [if_neg (by omega), Addr.add_mid]
theorem slice57_from (b o : Nat) (l : Int) (lo : Nat) (el : l = (lo : Int)) (h3 : lo < 64) (w : World) :
    (Instr.sliceAt 174 (.pointer (some ⟨b, o, none⟩)) (some (.int .i64 l)) none none).run Tryz.prog w = .ok (.slice (some ⟨b, o + lo, none⟩) (64 - lo) (64 - lo)) w := by
  subst el
  rw [run_sliceAt_array_l w 174 ⟨b, o, none⟩ (by rw [alen57, elem57]; exact Tryz.underlying174) .i64 (lo : Int) (by omega) (by rw [alen57]; omega)]
  rw [elem57, sizeOf5, alen57]
  simp only [Result.andThen_ok, slicedAt, Int.toNat_natCast, Nat.mul_one]
  rw [if_neg (by omega), Addr.add_mid]
theorem slice57_all (b o : Nat) (w : World) :
    (Instr.sliceAt 174 (.pointer (some ⟨b, o, none⟩)) none none none).run Tryz.prog w = .ok (.slice (some ⟨b, o, none⟩) 64 64) w := by
  rw [run_sliceAt_array_all w 174 ⟨b, o, none⟩ (by rw [alen57, elem57]; exact Tryz.underlying174)]
  rw [elem57, sizeOf5, alen57]
  simp only [Result.andThen_ok, slicedAt, Nat.zero_mul, Nat.sub_zero]
  rw [if_neg (by omega), Addr.add_mid]; rfl

set_option maxRecDepth 100000 in
set_option maxHeartbeats 1000000 in
theorem words_any (p : List UInt8) (hp : p.length = 64) (w : World) :
    Calls Tryz.prog 155 #[.agg (barr p)] w fun e w' => e = .returned (.agg (arr (wordsL p))) ∧ Below w.heap.size w w' := by
  have s1 := arr_size
  have s2 := barr_size
  go_enter Tryz.func155, Tryz.ntmps155
  go_wp2_with fail
  obtain ⟨w2, hw2⟩ : ∃ w2, w2 = ((w.alloc (Obj.cells (barr p) 174)).alloc (Obj.cells (arr (List.replicate 16 0)) 199)).alloc (Obj.cells (arr (List.replicate 16 0)) 199) := ⟨_, rfl⟩
  have a1 : w2.heap[w.heap.size]? = some (.cells (barr p) 174) := by
    rw [hw2, Below.heap_alloc _ _ _ (by simp; omega), Below.heap_alloc _ _ _ (by simp)]
    show (w.heap.push _)[w.heap.size]? = _
    simp
  have a2 : Holds w2 (w.heap.size + 1) 199 (List.replicate 16 0) := by rw [hw2]; have := Holds.new (w.alloc (Obj.cells (barr p) 174)) 199 (List.replicate 16 0); rw [World.size_alloc] at this; exact this.alloc _
  have a3 : Holds w2 (w.heap.size + 1 + 1) 199 (List.replicate 16 0) := by rw [hw2]; have := Holds.new ((w.alloc (Obj.cells (barr p) 174)).alloc (Obj.cells (arr (List.replicate 16 0)) 199)) 199 (List.replicate 16 0); rw [World.size_alloc, World.size_alloc] at this; exact this
  have a4 : Hid (Below w.heap.size w w2) := by rw [hw2]; exact (((Below.refl _ w).alloc (Nat.le_refl _) _).alloc (by simp) _).alloc (by simp; omega) _
  have a5 : Hid (BHolds w2 w.heap.size 174 p) := a1
  clear a1
  change Code.wp _ _ _ _ (((w.alloc (Obj.cells (barr p) 174)).alloc (Obj.cells (arr (List.replicate 16 0)) 199)).alloc (Obj.cells (arr (List.replicate 16 0)) 199))
  rw [← hw2]
  clear hw2
  go_loopg [6] 16 (fun k v wr => ∃ i : Nat, i + k = 16 ∧ v = .int .i64 i ∧ Holds wr (w.heap.size + 1 + 1) 199 (wordsTo p i) ∧ But (w.heap.size + 1 + 1) w2 wr)
  case atStart => exact ⟨0, rfl, rfl, a3, But.refl _ _⟩
  case round =>
    obtain ⟨i, hi, rfl, hv, hb⟩ := hrel
    have hl := wordsTo_length p i
    have hB : Hid (BHolds wr w.heap.size 174 p) := by show _ = _; rw [hb.block _ a5.out.lt (by omega)]; exact a5.out
    by_cases hlt : i < 16
    · have i16 : (i : Int) < 16 := by omega
      have hnx : Hid (wordsTo p (i + 1) = (wordsTo p i).set i (w4 (p.getD (4 * i) 0) (p.getD (4 * i + 1) 0) (p.getD (4 * i + 2) 0) (p.getD (4 * i + 3) 0))) := rfl
      have c0 := hB.out.cell (4 * i) (by omega)
      have c1 := hB.out.cell (4 * i + 1) (by omega)
      have c2 := hB.out.cell (4 * i + 2) (by omega)
      have c3 := hB.out.cell (4 * i + 3) (by omega)
      have d0 := hv.cell i (by omega)
      have f0 := hv.frozen i
      generalize p.getD (4 * i) 0 = x0 at *
      generalize p.getD (4 * i + 1) 0 = x1 at *
      generalize p.getD (4 * i + 2) 0 = x2 at *
      generalize p.getD (4 * i + 3) 0 = x3 at *
      have b0 := ylt x0
      have b1 := ylt x1
      have b2 := ylt x2
      have b3 := ylt x3
      generalize (wordsTo p i).getD i 0 = old at *
      have k0 : IntKind.i64.wrap (4 * (i : Int)) = 4 * (i : Int) := IntWalk.i64_in _ ⟨by omega, by omega⟩
      have k1 : IntKind.i64.wrap (4 * (i : Int) + 4) = 4 * (i : Int) + 4 := IntWalk.i64_in _ ⟨by omega, by omega⟩
      have k2 : (4 * (i : Int)).toNat = 4 * i := by omega
      have k3 : (4 * (i : Int) + 4).toNat = 4 * i + 4 := by omega
      have k4 : (0 : Int) ≤ 4 * (i : Int) := by omega
      have k5 : 4 * (i : Int) + 4 ≤ 64 := by omega
      have k6 : 4 * i + 4 - 4 * i = 4 := by omega
      have hsl := fun w' => slice57 w.heap.size 0 (4 * (i : Int)) (4 * (i : Int) + 4) (4 * i) (4 * i + 4) (by omega) (by omega) (by omega) (by omega) (by omega) w'
      simp only [Nat.zero_add, k6] at hsl
      go_wp2_with fail
      refine wp_region_still_tail 23 mixedW (by kernel_rfl) ?_
      simp only [List.take_succ_cons, List.take_zero, List.drop_succ_cons, List.drop_zero]
      show wpStill _ _ wr.drew _ _ _
      repeat still_step
      refine wpStill_nil ?_
      go_wp2_with fail
      go_roundg (gk - 1)
      case measure => omega
      case rel =>
        refine ⟨i + 1, by omega, by go_num, ?_, (hb.setCell _ _).drew⟩
        rw [hnx.out]
        rw [or_w4 x0 x1 x2 x3 ((x1.toNat : Int) * 256) ((x2.toNat : Int) * 65536) ((x3.toNat : Int) * 16777216) (by omega) (by omega) (by omega)]
        exact hv.set _ _
    · have hid : Hid (i = 16) := by show i = 16; omega
      have hfin : Hid (wordsTo p i = wordsL p) := by show _ = _; rw [hid.out]; exact wordsTo_all p
      generalize wordsTo p i = L at *
      have h1' := hb.holds a2 (by omega)
      have r1 := range_arr hv
      have i23 := hi_arr L hl
      have i23' : (Tryz.prog.info? 199).map (·.size) = some (arr L).size := by rw [size23, arr_size, hl]
      have t23 : wr.there (w.heap.size + 1) 0 (arr L).size := by
        intro j hj
        rw [arr_size, hl] at hj
        rw [Nat.zero_add, h1'.cell j (by simpa using hj), h1'.frozen]
        exact ⟨rfl, rfl⟩
      have o23 := arr_one L
      go_wp2_with (first
        | (refine wpList_load_mid rfl 199 (.tmp 3) rfl (w.heap.size + 1 + 1) 0 rfl (arr L).toList _ r1 Tryz.underlying199 rfl i23 ?_)
        | (refine wpList_store_mid rfl 199 (.tmp 2) (.tmp 40) rfl (w.heap.size + 1) 0 (arr L) rfl rfl t23 i23' o23 ?_))
      refine bodyPost_ret (v := .agg (arr L).toList.toArray) (results_cell Tryz.results155 _ _ (w.heap.size + 1) 0 (arr L).toList _ rfl (World.rangeAt_setCells_same _ _ _ _ (by simpa using t23)) Tryz.underlying199 rfl i23) rfl ⟨?_, ?_⟩
      · rw [← hfin.out]
      · exact Below.setNews (by omega) _ _ _ (a4.out.trans (hb.below a4.out.size (by omega)))
end Go.Proofs.YtmpiipcllgjhdaaGreatDoor.F
namespace Go.Proofs.YtmpiipcllgjhdaaGreatDoor.F
open Go.RowKit

/-- The start. -/
def staL : List UInt32 := [1779033703, 3144134277, 1013904242, 2773480762, 1359893119, 2600822924, 528734635, 1541459225]
/-- All bits turned over. -/
def unot (x : UInt32) : UInt32 := UInt32.ofNat (4294967295 - x.toNat)
/-- The lower and the upper half of a number of 64 bits. -/
def loU (n : Nat) : UInt32 := UInt32.ofNat (n % 4294967296)
def hiU (n : Nat) : UInt32 := UInt32.ofNat (n / 4294967296 % 4294967296)

theorem unot_toNat (x : UInt32) : (unot x).toNat = 4294967295 - x.toNat := by
  have := ult x
  unfold unot; rw [UInt32.toNat_ofNat']; omega
theorem loU_toNat (n : Nat) : (loU n).toNat = n % 4294967296 := by
  unfold loU; rw [UInt32.toNat_ofNat']; omega
theorem hiU_toNat (n : Nat) (h : n < 18446744073709551616) : (hiU n).toNat = n / 4294967296 := by
  unfold hiU; rw [UInt32.toNat_ofNat']; omega
/-- h, then the start: so many words of each. -/
def fillV (h : List UInt32) : Nat → List UInt32
  | 0 => List.replicate 16 0
  | i + 1 => ((fillV h i).set i (h.getD i 0)).set (i + 8) (staL.getD i 0)
theorem fillV_length (h : List UInt32) (i : Nat) : (fillV h i).length = 16 := by
  induction i with
  | zero => rfl
  | succ i ih => simp [fillV, ih]
def mix12 (v : List UInt32) (n : Nat) : List UInt32 := v.set 12 (uxor (v.getD 12 0) (loU n))
def mix13 (v : List UInt32) (n : Nat) : List UInt32 := v.set 13 (uxor (v.getD 13 0) (hiU n))
def mix14 (v : List UInt32) (last : Bool) : List UInt32 := if last = true then v.set 14 (unot (v.getD 14 0)) else v
def mixV (h : List UInt32) (n : Nat) (last : Bool) : List UInt32 := mix14 (mix13 (mix12 (fillV h 8) n) n) last
def outV (h w : List UInt32) : Nat → List UInt32
  | 0 => h
  | i + 1 => (outV h w i).set i (uxor ((outV h w i).getD i 0) (uxor (w.getD i 0) (w.getD (i + 8) 0)))
theorem outV_length (h w : List UInt32) (i : Nat) : (outV h w i).length = h.length := by
  induction i with
  | zero => rfl
  | succ i ih => simp [outV, ih]
/-- Press. -/
def pressL (h m : List UInt32) (n : Nat) (last : Bool) : List UInt32 := outV h (stirs m 10 (mixV h n last)) 8
theorem pressL_length (h m : List UInt32) (n : Nat) (last : Bool) : (pressL h m n last).length = h.length := outV_length ..

/-- The start lies in the program's own variable. -/
structure Starts (w : World) : Prop where
  sta : ∀ i, i < 8 → w.cell? ⟨0, i, none⟩ = some (U (staL.getD i 0))
theorem Starts.of_below {w w' : World} {B : Nat} (h : Starts w) (hb : Below B w w') (h2 : 3 < B) : Starts w' :=
  ⟨fun i hi => by rw [hb.cell (by show 0 < B; omega)]; exact h.sta i hi⟩
theorem Holds.other {w : World} {b : Nat} {t : TypeId} {l : List UInt32} (h : Holds w b t l) {p : Addr} (hp : b ≠ p.block) (x : Value) : Holds (w.setCell p x) b t l := by
  unfold Holds; rw [Below.heap_setCell _ _ _ _ hp]; exact h
theorem Holds.oth {w : World} {b : Nat} {t : TypeId} {l : List UInt32} (h : Holds w b t l) {g : Nat} (hp : b ≠ g) (i : Nat) (x : Value) : Holds (w.setCell ⟨g, i, none⟩ x) b t l := h.other (p := ⟨g, i, none⟩) hp x
theorem Below.own {B : Nat} {u w : World} (h : Below B u w) {g : Nat} (hp : B ≤ g) (i : Nat) (x : Value) : Below B u (w.setCell ⟨g, i, none⟩ x) := h.setCell (p := ⟨g, i, none⟩) hp x
theorem Holds.others {b g : Nat} {t : TypeId} {l : List UInt32} (hp : b ≠ g) : ∀ (vs : List Value) (o : Nat) (w : World), Holds w b t l → Holds (w.setCells g o vs) b t l
  | [], _, _, h => h
  | v :: r, o, _, h => Holds.others hp r (o + 1) _ (h.other (p := ⟨g, o, none⟩) hp v)
theorem Holds.drew {w : World} {b : Nat} {t : TypeId} {l : List UInt32} (h : Holds w b t l) : Holds w.drew b t l := h
end Go.Proofs.YtmpiipcllgjhdaaGreatDoor.F
namespace Go.Proofs.YtmpiipcllgjhdaaGreatDoor.F
open Go.RowKit

/-- A step. -/
structure Stp where
  at_ : Nat
  other : Nat
  more : Int
  turn : Nat
def Stp.ok (s : Stp) : Prop := s.at_ < 16 ∧ s.other < 16 ∧ s.more < 16 ∧ -1 ≤ s.more ∧ s.turn < 32

theorem getD_set_ne (l : List UInt32) (i j : Nat) (x : UInt32) (h : i ≠ j) : (l.set i x).getD j 0 = l.getD j 0 := by simp [List.getD_eq_getElem?_getD, List.getElem?_set, h]
end Go.Proofs.YtmpiipcllgjhdaaGreatDoor.F
namespace Go.Proofs.YtmpiipcllgjhdaaGreatDoor.F
open Go.RowKit

theorem mixedP : Tryz.prog.follows .mixedOrders = true := by kernel_rfl
theorem size27 : (Tryz.prog.info? 173).map (·.size) = some 8 := by kernel_rfl
theorem xor_lo (x : UInt32) (n : Nat) : bits .xor .u32 (x.toNat : Int) (IntKind.u32.wrap (n : Int)) = ((uxor x (loU n)).toNat : Int) := by
  have e : IntKind.u32.wrap (n : Int) = ((loU n).toNat : Int) := by rw [loU_toNat, IntKind.wrap_u32]; omega
  rw [e, xor_u]
theorem xor_lo' (x : UInt32) (n : Nat) : bits .xor .u32 (x.toNat : Int) ((n : Int) % 4294967296) = ((uxor x (loU n)).toNat : Int) := by
  have e : (n : Int) % 4294967296 = ((loU n).toNat : Int) := by rw [loU_toNat]; omega
  rw [e, xor_u]
theorem xor_hi (x : UInt32) (n : Nat) (h : n < 18446744073709551616) : bits .xor .u32 (x.toNat : Int) ((n : Int) / 4294967296) = ((uxor x (hiU n)).toNat : Int) := by
  have e : (n : Int) / 4294967296 = ((hiU n).toNat : Int) := by rw [hiU_toNat n h]; omega
  rw [e, xor_u]
theorem not_u (x : UInt32) : bits .xor .u32 4294967295 (x.toNat : Int) = ((unot x).toNat : Int) := by
  have hx := ult x
  have h1 : (4294967295 : Int) = ((4294967295 : UInt32).toNat : Int) := rfl
  rw [h1, xor_u, unot_toNat]
  unfold uxor
  rw [UInt32.toNat_xor]
  have h2 : (4294967295 : UInt32).toNat ^^^ x.toNat = 4294967295 - x.toNat := by
    have h3 : (4294967295 : UInt32).toNat = 2 ^ 32 - 1 := rfl
    rw [h3]
    apply Nat.eq_of_testBit_eq
    intro i
    rw [Nat.testBit_xor, Nat.testBit_two_pow_sub_one, show 4294967295 - x.toNat = 2 ^ 32 - (x.toNat + 1) by omega, Nat.testBit_two_pow_sub_succ (by omega)]
    by_cases hi : i < 32
    · simp [hi]
    · have : x.toNat.testBit i = false := Nat.testBit_lt_two_pow (Nat.lt_of_lt_of_le hx (by
        have : 2 ^ 32 ≤ 2 ^ i := Nat.pow_le_pow_right (by omega) (by omega)
        omega))
      simp [hi, this]
  rw [h2]

theorem not_u' (x : UInt32) : bits .xor .u32 (if IntKind.u32.signed = true then -1 else IntKind.u32.max) (x.toNat : Int) = ((unot x).toNat : Int) := by
  have e : (if IntKind.u32.signed = true then -1 else IntKind.u32.max) = 4294967295 := by decide
  rw [e]; exact not_u x

set_option maxRecDepth 100000 in
set_option maxHeartbeats 2000000 in
theorem press_false (h m : List UInt32) (hh : h.length = 8) (hm : m.length = 16) (n : Nat) (hn : n < 18446744073709551616) (w : World) (hT : Tabs w) (hS : Starts w) :
    Calls Tryz.prog 154 #[.agg (arr h), .agg (arr m), .int .u64 (n : Int), .bool false] w fun e w' => e = .returned (.agg (arr (pressL h m n false))) ∧ Below w.heap.size w w' := by
  have s1 := arr_size
  have hT0 : Hid (3 < w.heap.size) := hT.size
  go_enter Tryz.func154, Tryz.ntmps154
  go_wp2_with fail
  obtain ⟨w2, hw2⟩ : ∃ w2, w2 = (((w.alloc (Obj.cells (arr h) 173)).alloc (Obj.cells (arr m) 199)).alloc (Obj.cells (arr (List.replicate 8 0)) 173)).alloc (Obj.cells (arr (List.replicate 16 0)) 199) := ⟨_, rfl⟩
  have a1 : Holds w2 w.heap.size 173 h := by rw [hw2]; exact (((Holds.new w 173 h).alloc _).alloc _).alloc _
  have a2 : Holds w2 (w.heap.size + 1) 199 m := by rw [hw2]; have := Holds.new (w.alloc (Obj.cells (arr h) 173)) 199 m; rw [World.size_alloc] at this; exact (this.alloc _).alloc _
  have a3 : Holds w2 (w.heap.size + 1 + 1) 173 (List.replicate 8 0) := by rw [hw2]; have := Holds.new ((w.alloc (Obj.cells (arr h) 173)).alloc (Obj.cells (arr m) 199)) 173 (List.replicate 8 0); rw [World.size_alloc, World.size_alloc] at this; exact this.alloc _
  have a4 : Holds w2 (w.heap.size + 1 + 1 + 1) 199 (List.replicate 16 0) := by rw [hw2]; have := Holds.new (((w.alloc (Obj.cells (arr h) 173)).alloc (Obj.cells (arr m) 199)).alloc (Obj.cells (arr (List.replicate 8 0)) 173)) 199 (List.replicate 16 0); rw [World.size_alloc, World.size_alloc, World.size_alloc] at this; exact this
  have a5 : Hid (Below w.heap.size w w2) := by rw [hw2]; exact ((((Below.refl _ w).alloc (Nat.le_refl _) _).alloc (by simp) _).alloc (by simp; omega) _).alloc (by simp; omega) _
  change Code.wp _ _ _ _ ((((w.alloc (Obj.cells (arr h) 173)).alloc (Obj.cells (arr m) 199)).alloc (Obj.cells (arr (List.replicate 8 0)) 173)).alloc (Obj.cells (arr (List.replicate 16 0)) 199))
  rw [← hw2]
  clear hw2
  go_loopg [12] 8 (fun k v12 wr => ∃ i : Nat, i + k = 8 ∧ v12 = .int .i64 i ∧ Holds wr w.heap.size 173 h ∧ Holds wr (w.heap.size + 1) 199 m ∧ Holds wr (w.heap.size + 1 + 1) 173 (List.replicate 8 0) ∧ Holds wr (w.heap.size + 1 + 1 + 1) 199 (fillV h i) ∧ Below w.heap.size w wr)
  case atStart => exact ⟨0, rfl, rfl, a1, a2, a3, a4, a5.out⟩
  case round =>
    obtain ⟨i, hi, rfl, h1, h2, h3, h4, h5⟩ := hrel
    by_cases hlt : i < 8
    · have hi8 : (i : Int) < 8 := by omega
      have c1 : wr.cell? ⟨w.heap.size, i, none⟩ = some (U (h.getD i 0)) := h1.cell i (by omega)
      have c2 : wr.cell? ⟨0, i, none⟩ = some (U (staL.getD i 0)) := (hS.of_below h5 hT0.out).sta i hlt
      have c3 := h4.cell i (by rw [fillV_length]; omega)
      have c4 := h4.cell (i + 8) (by rw [fillV_length]; omega)
      have f3 := h4.frozen i
      have f4 := h4.frozen (i + 8)
      have k1 : (i : Int) + 8 < 16 := by omega
      have k2 : (0 : Int) ≤ (i : Int) + 8 := by omega
      have k3 : ((i : Int) + 8).toNat = i + 8 := by omega
      have kw : IntKind.i64.wrap ((i : Int) + 8) = (i : Int) + 8 := IntWalk.i64_in _ ⟨by omega, by omega⟩
      have nn : ¬ i = i + 8 := by omega
      have nn' : ¬ i + 8 = i := by omega
      have hnx : Hid (fillV h (i + 1) = ((fillV h i).set i (h.getD i 0)).set (i + 8) (staL.getD i 0)) := rfl
      generalize h.getD i 0 = X at *
      generalize staL.getD i 0 = Y at *
      go_wp2_with fail
      go_region
      go_wp2_with fail
      go_roundg (gk - 1)
      case measure => omega
      case rel =>
        refine ⟨i + 1, by omega, by go_num, ((h1.oth (by omega) _ _).oth (by omega) _ _).drew, ((h2.oth (by omega) _ _).oth (by omega) _ _).drew, ((h3.oth (by omega) _ _).oth (by omega) _ _).drew, ?_, (Below.own (Below.own h5 (by omega) _ _) (by omega) _ _).drew⟩
        rw [hnx.out]
        exact ((h4.set _ _).set _ _).drew
    · obtain rfl : i = 8 := by omega
      have hVl : (fillV h 8).length = 16 := fillV_length h 8
      have hfin : Hid (mixV h n false = mix14 (mix13 (mix12 (fillV h 8) n) n) false) := rfl
      generalize fillV h 8 = V at *
      have c12 := h4.cell 12 (by omega)
      have c13 := h4.cell 13 (by omega)
      have c14 := h4.cell 14 (by omega)
      have f12 := h4.frozen 12
      have f13 := h4.frozen 13
      have f14 := h4.frozen 14
      have x1 := fun x => xor_lo x n
      have x2 := fun x => xor_lo' x n
      have x3 := fun x => xor_hi x n hn
      have x4 := not_u'
      generalize e12 : V.getD 12 0 = V12 at *
      generalize e13 : V.getD 13 0 = V13 at *
      generalize e14 : V.getD 14 0 = V14 at *
      have HV12 : Hid (V.getD 12 0 = V12) := e12
      have HV13 : Hid (V.getD 13 0 = V13) := e13
      have HV14 : Hid (V.getD 14 0 = V14) := e14
      clear e12 e13 e14
      obtain ⟨X, hX0⟩ : ∃ X, X = (wr.setCell ⟨w.heap.size + 1 + 1 + 1, 12, none⟩ (U (uxor V12 (loU n)))).setCell ⟨w.heap.size + 1 + 1 + 1, 13, none⟩ (U (uxor V13 (hiU n))) := ⟨_, rfl⟩
      have g1 : Holds X w.heap.size 173 h := by rw [hX0]; exact (h1.oth (by omega) _ _).oth (by omega) _ _
      have g2 : Holds X (w.heap.size + 1) 199 m := by rw [hX0]; exact (h2.oth (by omega) _ _).oth (by omega) _ _
      have g3 : Holds X (w.heap.size + 1 + 1) 173 (List.replicate 8 0) := by rw [hX0]; exact (h3.oth (by omega) _ _).oth (by omega) _ _
      have g4 : Holds X (w.heap.size + 1 + 1 + 1) 199 ((V.set 12 (uxor V12 (loU n))).set 13 (uxor V13 (hiU n))) := by rw [hX0]; exact (h4.set _ _).set _ _
      have g5 : Hid (Below w.heap.size w X) := by rw [hX0]; exact Below.own (Below.own h5 (by omega) _ _) (by omega) _ _
      have hX : Hid (X = (wr.setCell ⟨w.heap.size + 1 + 1 + 1, 12, none⟩ (U (uxor V12 (loU n)))).setCell ⟨w.heap.size + 1 + 1 + 1, 13, none⟩ (U (uxor V13 (hiU n)))) := hX0
      clear hX0
      have hVV : Hid (mixV h n false = ((V.set 12 (uxor V12 (loU n))).set 13 (uxor V13 (hiU n)))) := by
        show _ = _
        rw [hfin.out]
        unfold mix14 mix13 mix12
        rw [if_neg (by decide), getD_set_ne _ _ _ _ (by decide), HV12.out, HV13.out]
      have hVl2 : (((V.set 12 (uxor V12 (loU n))).set 13 (uxor V13 (hiU n)))).length = 16 := by simp [hVl]
      generalize ((V.set 12 (uxor V12 (loU n))).set 13 (uxor V13 (hiU n))) = VV at *
      have r1 : Hid (((wr.setCell ⟨w.heap.size + 1 + 1 + 1, 12, none⟩ (U (uxor V12 (loU n)))).setCell ⟨w.heap.size + 1 + 1 + 1, 13, none⟩ (U (uxor V13 (hiU n)))).rangeAt (w.heap.size + 1 + 1 + 1) 0 (arr VV).toList) := by rw [← hX.out]; exact range_arr g4
      have r2 : Hid (((wr.setCell ⟨w.heap.size + 1 + 1 + 1, 12, none⟩ (U (uxor V12 (loU n)))).setCell ⟨w.heap.size + 1 + 1 + 1, 13, none⟩ (U (uxor V13 (hiU n)))).rangeAt (w.heap.size + 1) 0 (arr m).toList) := by rw [← hX.out]; exact range_arr g2
      have i1 := hi_arr VV hVl2
      have i2 := hi_arr m hm
      clear h1 h2 h3 h4
      go_wp2_with (first
        | (refine wpList_load_mid rfl 199 (.tmp 9) rfl (w.heap.size + 1 + 1 + 1) 0 rfl (arr VV).toList _ r1.out Tryz.underlying199 rfl i1 ?_)
        | (refine wpList_load_mid rfl 199 (.tmp 5) rfl (w.heap.size + 1) 0 rfl (arr m).toList _ r2.out Tryz.underlying199 rfl i2 ?_))
      rw [← hX.out]
      clear r1 r2 c12 c13 c14 f12 f13 f14 x1 x2 x3 x4
      refine (stir_any VV m hVl2 hm X ((hT.of_below g5.out hT0.out))).mono ?_
      rintro e wk ⟨rfl, hbk⟩
      have q1 : Holds wk w.heap.size 173 h := g1.of_below hbk g1.lt
      have q3 : Holds wk (w.heap.size + 1 + 1) 173 (List.replicate 8 0) := g3.of_below hbk g3.lt
      have q4 : Holds wk (w.heap.size + 1 + 1 + 1) 199 VV := g4.of_below hbk g4.lt
      have q5 : Hid (Below w.heap.size w wk) := g5.out.trans (hbk.mono g5.out.size)
      have hSl : (stirs m 10 VV).length = 16 := by rw [stirs_length, hVl2]
      have hSS : Hid (stirs m 10 (mixV h n false) = stirs m 10 VV) := by show _ = _; rw [hVV.out]
      generalize stirs m 10 VV = SV at *
      have hth : wk.there (w.heap.size + 1 + 1 + 1) 0 (arr SV).size := by
        intro j hj
        rw [arr_size, hSl] at hj
        rw [Nat.zero_add, q4.cell j (by omega), q4.frozen]
        exact ⟨rfl, rfl⟩
      have hi23' : (Tryz.prog.info? 199).map (·.size) = some (arr SV).size := by rw [size23, arr_size, hSl]
      have h1c := arr_one SV
      go_wp2_with (refine wpList_store_mid rfl 199 (.tmp 9) (.tmp 47) rfl (w.heap.size + 1 + 1 + 1) 0 (arr SV) rfl rfl hth hi23' h1c ?_)
      generalize hZ : wk.setCells (w.heap.size + 1 + 1 + 1) 0 (arr SV).toList = Z
      have p1 : Holds Z w.heap.size 173 h := by rw [← hZ]; exact Holds.others (by omega) _ _ _ q1
      have p3 : Holds Z (w.heap.size + 1 + 1) 173 (List.replicate 8 0) := by rw [← hZ]; exact Holds.others (by omega) _ _ _ q3
      have p4 : Holds Z (w.heap.size + 1 + 1 + 1) 199 SV := by
        rw [← hZ, show (arr SV).toList = SV.map U by simp [arr]]
        exact q4.setCells SV (by omega)
      have p5 : Hid (Below w.heap.size w Z) := by rw [← hZ]; exact Below.setNews (by omega) _ _ _ q5.out
      clear hZ hth hbk
      go_loopg [48] 8 (fun k v48 wz => ∃ i : Nat, i + k = 8 ∧ v48 = .int .i64 i ∧ Holds wz w.heap.size 173 (outV h SV i) ∧ Holds wz (w.heap.size + 1 + 1) 173 (List.replicate 8 0) ∧ Holds wz (w.heap.size + 1 + 1 + 1) 199 SV ∧ Below w.heap.size w wz)
      case atStart => exact ⟨0, rfl, rfl, p1, p3, p4, p5.out⟩
      case round =>
        obtain ⟨i, hi, rfl, h1, h3, h4, h5⟩ := hrel
        have hOl : (outV h SV i).length = 8 := by rw [outV_length, hh]
        by_cases hlt : i < 8
        · have hi8 : (i : Int) < 8 := by omega
          have i16 : (i : Int) < 16 := by omega
          have hnx : Hid (outV h SV (i + 1) = (outV h SV i).set i (uxor ((outV h SV i).getD i 0) (uxor (SV.getD i 0) (SV.getD (i + 8) 0)))) := rfl
          have c1 := h1.cell i (by omega)
          have c2 := h4.cell i (by omega)
          have c3 := h4.cell (i + 8) (by omega)
          have f1 := h1.frozen i
          have k1 : (i : Int) + 8 < 16 := by omega
          have k2 : (0 : Int) ≤ (i : Int) + 8 := by omega
          have k3 : ((i : Int) + 8).toNat = i + 8 := by omega
          have kw : IntKind.i64.wrap ((i : Int) + 8) = (i : Int) + 8 := IntWalk.i64_in _ ⟨by omega, by omega⟩
          have hx := xor_u
          generalize outV h SV i = OV at *
          generalize OV.getD i 0 = X1 at *
          generalize SV.getD i 0 = X2 at *
          generalize SV.getD (i + 8) 0 = X3 at *
          go_wp2_with fail
          refine wp_region_still_tail 12 mixedP (by kernel_rfl) ?_
          simp only [List.take_succ_cons, List.take_zero, List.drop_succ_cons, List.drop_zero]
          show wpStill _ _ wr.drew _ _ _
          repeat still_step
          refine wpStill_nil ?_
          go_wp2_with fail
          go_roundg (gk - 1)
          case measure => omega
          case rel =>
            refine ⟨i + 1, by omega, by go_num, ?_, (h3.oth (by omega) _ _).drew, (h4.oth (by omega) _ _).drew, (Below.own h5 (by omega) _ _).drew⟩
            rw [hnx.out]
            exact (h1.set _ _).drew
        · obtain rfl : i = 8 := by omega
          have hpr : Hid (pressL h m n false = outV h SV 8) := by show outV h (stirs m 10 (mixV h n false)) 8 = _; rw [hSS.out]
          generalize outV h SV 8 = OV at *
          have r1 := range_arr h1
          have i27 : (Tryz.prog.info? 173).map (·.size) = some (arr OV).toList.length := by rw [size27, Array.length_toList, arr_size, hOl]
          have i27' : (Tryz.prog.info? 173).map (·.size) = some (arr OV).size := by rw [size27, arr_size, hOl]
          have t27 : wr.there (w.heap.size + 1 + 1) 0 (arr OV).size := by
            intro j hj
            rw [arr_size, hOl] at hj
            rw [Nat.zero_add, h3.cell j (by simpa using hj), h3.frozen]
            exact ⟨rfl, rfl⟩
          have o27 := arr_one OV
          go_wp2_with (first
            | (refine wpList_load_mid rfl 173 (.tmp 4) rfl w.heap.size 0 rfl (arr OV).toList _ r1 Tryz.underlying173 rfl i27 ?_)
            | (refine wpList_store_mid rfl 173 (.tmp 8) (.tmp 65) rfl (w.heap.size + 1 + 1) 0 (arr OV) rfl rfl t27 i27' o27 ?_))
          refine bodyPost_ret (v := .agg (arr OV).toList.toArray) (results_cell Tryz.results154 _ _ (w.heap.size + 1 + 1) 0 (arr OV).toList _ rfl (World.rangeAt_setCells_same _ _ _ _ (by simpa using t27)) Tryz.underlying173 rfl i27) rfl ⟨?_, ?_⟩
          · rw [hpr.out]
          · exact Below.setNews (by omega) _ _ _ h5

set_option maxRecDepth 100000 in
set_option maxHeartbeats 2000000 in
theorem press_true (h m : List UInt32) (hh : h.length = 8) (hm : m.length = 16) (n : Nat) (hn : n < 18446744073709551616) (w : World) (hT : Tabs w) (hS : Starts w) :
    Calls Tryz.prog 154 #[.agg (arr h), .agg (arr m), .int .u64 (n : Int), .bool true] w fun e w' => e = .returned (.agg (arr (pressL h m n true))) ∧ Below w.heap.size w w' := by
  have s1 := arr_size
  have hT0 : Hid (3 < w.heap.size) := hT.size
  go_enter Tryz.func154, Tryz.ntmps154
  go_wp2_with fail
  obtain ⟨w2, hw2⟩ : ∃ w2, w2 = (((w.alloc (Obj.cells (arr h) 173)).alloc (Obj.cells (arr m) 199)).alloc (Obj.cells (arr (List.replicate 8 0)) 173)).alloc (Obj.cells (arr (List.replicate 16 0)) 199) := ⟨_, rfl⟩
  have a1 : Holds w2 w.heap.size 173 h := by rw [hw2]; exact (((Holds.new w 173 h).alloc _).alloc _).alloc _
  have a2 : Holds w2 (w.heap.size + 1) 199 m := by rw [hw2]; have := Holds.new (w.alloc (Obj.cells (arr h) 173)) 199 m; rw [World.size_alloc] at this; exact (this.alloc _).alloc _
  have a3 : Holds w2 (w.heap.size + 1 + 1) 173 (List.replicate 8 0) := by rw [hw2]; have := Holds.new ((w.alloc (Obj.cells (arr h) 173)).alloc (Obj.cells (arr m) 199)) 173 (List.replicate 8 0); rw [World.size_alloc, World.size_alloc] at this; exact this.alloc _
  have a4 : Holds w2 (w.heap.size + 1 + 1 + 1) 199 (List.replicate 16 0) := by rw [hw2]; have := Holds.new (((w.alloc (Obj.cells (arr h) 173)).alloc (Obj.cells (arr m) 199)).alloc (Obj.cells (arr (List.replicate 8 0)) 173)) 199 (List.replicate 16 0); rw [World.size_alloc, World.size_alloc, World.size_alloc] at this; exact this
  have a5 : Hid (Below w.heap.size w w2) := by rw [hw2]; exact ((((Below.refl _ w).alloc (Nat.le_refl _) _).alloc (by simp) _).alloc (by simp; omega) _).alloc (by simp; omega) _
  change Code.wp _ _ _ _ ((((w.alloc (Obj.cells (arr h) 173)).alloc (Obj.cells (arr m) 199)).alloc (Obj.cells (arr (List.replicate 8 0)) 173)).alloc (Obj.cells (arr (List.replicate 16 0)) 199))
  rw [← hw2]
  clear hw2
  go_loopg [12] 8 (fun k v12 wr => ∃ i : Nat, i + k = 8 ∧ v12 = .int .i64 i ∧ Holds wr w.heap.size 173 h ∧ Holds wr (w.heap.size + 1) 199 m ∧ Holds wr (w.heap.size + 1 + 1) 173 (List.replicate 8 0) ∧ Holds wr (w.heap.size + 1 + 1 + 1) 199 (fillV h i) ∧ Below w.heap.size w wr)
  case atStart => exact ⟨0, rfl, rfl, a1, a2, a3, a4, a5.out⟩
  case round =>
    obtain ⟨i, hi, rfl, h1, h2, h3, h4, h5⟩ := hrel
    by_cases hlt : i < 8
    · have hi8 : (i : Int) < 8 := by omega
      have c1 : wr.cell? ⟨w.heap.size, i, none⟩ = some (U (h.getD i 0)) := h1.cell i (by omega)
      have c2 : wr.cell? ⟨0, i, none⟩ = some (U (staL.getD i 0)) := (hS.of_below h5 hT0.out).sta i hlt
      have c3 := h4.cell i (by rw [fillV_length]; omega)
      have c4 := h4.cell (i + 8) (by rw [fillV_length]; omega)
      have f3 := h4.frozen i
      have f4 := h4.frozen (i + 8)
      have k1 : (i : Int) + 8 < 16 := by omega
      have k2 : (0 : Int) ≤ (i : Int) + 8 := by omega
      have k3 : ((i : Int) + 8).toNat = i + 8 := by omega
      have kw : IntKind.i64.wrap ((i : Int) + 8) = (i : Int) + 8 := IntWalk.i64_in _ ⟨by omega, by omega⟩
      have nn : ¬ i = i + 8 := by omega
      have nn' : ¬ i + 8 = i := by omega
      have hnx : Hid (fillV h (i + 1) = ((fillV h i).set i (h.getD i 0)).set (i + 8) (staL.getD i 0)) := rfl
      generalize h.getD i 0 = X at *
      generalize staL.getD i 0 = Y at *
      go_wp2_with fail
      go_region
      go_wp2_with fail
      go_roundg (gk - 1)
      case measure => omega
      case rel =>
        refine ⟨i + 1, by omega, by go_num, ((h1.oth (by omega) _ _).oth (by omega) _ _).drew, ((h2.oth (by omega) _ _).oth (by omega) _ _).drew, ((h3.oth (by omega) _ _).oth (by omega) _ _).drew, ?_, (Below.own (Below.own h5 (by omega) _ _) (by omega) _ _).drew⟩
        rw [hnx.out]
        exact ((h4.set _ _).set _ _).drew
    · obtain rfl : i = 8 := by omega
      have hVl : (fillV h 8).length = 16 := fillV_length h 8
      have hfin : Hid (mixV h n true = mix14 (mix13 (mix12 (fillV h 8) n) n) true) := rfl
      generalize fillV h 8 = V at *
      have c12 := h4.cell 12 (by omega)
      have c13 := h4.cell 13 (by omega)
      have c14 := h4.cell 14 (by omega)
      have f12 := h4.frozen 12
      have f13 := h4.frozen 13
      have f14 := h4.frozen 14
      have x1 := fun x => xor_lo x n
      have x2 := fun x => xor_lo' x n
      have x3 := fun x => xor_hi x n hn
      have x4 := not_u'
      generalize e12 : V.getD 12 0 = V12 at *
      generalize e13 : V.getD 13 0 = V13 at *
      generalize e14 : V.getD 14 0 = V14 at *
      have HV12 : Hid (V.getD 12 0 = V12) := e12
      have HV13 : Hid (V.getD 13 0 = V13) := e13
      have HV14 : Hid (V.getD 14 0 = V14) := e14
      clear e12 e13 e14
      obtain ⟨X, hX0⟩ : ∃ X, X = ((wr.setCell ⟨w.heap.size + 1 + 1 + 1, 12, none⟩ (U (uxor V12 (loU n)))).setCell ⟨w.heap.size + 1 + 1 + 1, 13, none⟩ (U (uxor V13 (hiU n)))).setCell ⟨w.heap.size + 1 + 1 + 1, 14, none⟩ (U (unot V14)) := ⟨_, rfl⟩
      have g1 : Holds X w.heap.size 173 h := by rw [hX0]; exact ((h1.oth (by omega) _ _).oth (by omega) _ _).oth (by omega) _ _
      have g2 : Holds X (w.heap.size + 1) 199 m := by rw [hX0]; exact ((h2.oth (by omega) _ _).oth (by omega) _ _).oth (by omega) _ _
      have g3 : Holds X (w.heap.size + 1 + 1) 173 (List.replicate 8 0) := by rw [hX0]; exact ((h3.oth (by omega) _ _).oth (by omega) _ _).oth (by omega) _ _
      have g4 : Holds X (w.heap.size + 1 + 1 + 1) 199 (((V.set 12 (uxor V12 (loU n))).set 13 (uxor V13 (hiU n))).set 14 (unot V14)) := by rw [hX0]; exact ((h4.set _ _).set _ _).set _ _
      have g5 : Hid (Below w.heap.size w X) := by rw [hX0]; exact Below.own (Below.own (Below.own h5 (by omega) _ _) (by omega) _ _) (by omega) _ _
      have hX : Hid (X = ((wr.setCell ⟨w.heap.size + 1 + 1 + 1, 12, none⟩ (U (uxor V12 (loU n)))).setCell ⟨w.heap.size + 1 + 1 + 1, 13, none⟩ (U (uxor V13 (hiU n)))).setCell ⟨w.heap.size + 1 + 1 + 1, 14, none⟩ (U (unot V14))) := hX0
      clear hX0
      have hVV : Hid (mixV h n true = (((V.set 12 (uxor V12 (loU n))).set 13 (uxor V13 (hiU n))).set 14 (unot V14))) := by
        show _ = _
        rw [hfin.out]
        unfold mix14 mix13 mix12
        rw [if_pos rfl, getD_set_ne _ _ _ _ (by decide), getD_set_ne _ _ _ _ (by decide), getD_set_ne _ _ _ _ (by decide), HV12.out, HV13.out, HV14.out]
      have hVl2 : ((((V.set 12 (uxor V12 (loU n))).set 13 (uxor V13 (hiU n))).set 14 (unot V14))).length = 16 := by simp [hVl]
      generalize (((V.set 12 (uxor V12 (loU n))).set 13 (uxor V13 (hiU n))).set 14 (unot V14)) = VV at *
      have r1 : Hid ((((wr.setCell ⟨w.heap.size + 1 + 1 + 1, 12, none⟩ (U (uxor V12 (loU n)))).setCell ⟨w.heap.size + 1 + 1 + 1, 13, none⟩ (U (uxor V13 (hiU n)))).setCell ⟨w.heap.size + 1 + 1 + 1, 14, none⟩ (U (unot V14))).rangeAt (w.heap.size + 1 + 1 + 1) 0 (arr VV).toList) := by rw [← hX.out]; exact range_arr g4
      have r2 : Hid ((((wr.setCell ⟨w.heap.size + 1 + 1 + 1, 12, none⟩ (U (uxor V12 (loU n)))).setCell ⟨w.heap.size + 1 + 1 + 1, 13, none⟩ (U (uxor V13 (hiU n)))).setCell ⟨w.heap.size + 1 + 1 + 1, 14, none⟩ (U (unot V14))).rangeAt (w.heap.size + 1) 0 (arr m).toList) := by rw [← hX.out]; exact range_arr g2
      have i1 := hi_arr VV hVl2
      have i2 := hi_arr m hm
      clear h1 h2 h3 h4
      go_wp2_with (first
        | (refine wpList_load_mid rfl 199 (.tmp 9) rfl (w.heap.size + 1 + 1 + 1) 0 rfl (arr VV).toList _ r1.out Tryz.underlying199 rfl i1 ?_)
        | (refine wpList_load_mid rfl 199 (.tmp 5) rfl (w.heap.size + 1) 0 rfl (arr m).toList _ r2.out Tryz.underlying199 rfl i2 ?_))
      rw [← hX.out]
      clear r1 r2 c12 c13 c14 f12 f13 f14 x1 x2 x3 x4
      refine (stir_any VV m hVl2 hm X ((hT.of_below g5.out hT0.out))).mono ?_
      rintro e wk ⟨rfl, hbk⟩
      have q1 : Holds wk w.heap.size 173 h := g1.of_below hbk g1.lt
      have q3 : Holds wk (w.heap.size + 1 + 1) 173 (List.replicate 8 0) := g3.of_below hbk g3.lt
      have q4 : Holds wk (w.heap.size + 1 + 1 + 1) 199 VV := g4.of_below hbk g4.lt
      have q5 : Hid (Below w.heap.size w wk) := g5.out.trans (hbk.mono g5.out.size)
      have hSl : (stirs m 10 VV).length = 16 := by rw [stirs_length, hVl2]
      have hSS : Hid (stirs m 10 (mixV h n true) = stirs m 10 VV) := by show _ = _; rw [hVV.out]
      generalize stirs m 10 VV = SV at *
      have hth : wk.there (w.heap.size + 1 + 1 + 1) 0 (arr SV).size := by
        intro j hj
        rw [arr_size, hSl] at hj
        rw [Nat.zero_add, q4.cell j (by omega), q4.frozen]
        exact ⟨rfl, rfl⟩
      have hi23' : (Tryz.prog.info? 199).map (·.size) = some (arr SV).size := by rw [size23, arr_size, hSl]
      have h1c := arr_one SV
      go_wp2_with (refine wpList_store_mid rfl 199 (.tmp 9) (.tmp 47) rfl (w.heap.size + 1 + 1 + 1) 0 (arr SV) rfl rfl hth hi23' h1c ?_)
      generalize hZ : wk.setCells (w.heap.size + 1 + 1 + 1) 0 (arr SV).toList = Z
      have p1 : Holds Z w.heap.size 173 h := by rw [← hZ]; exact Holds.others (by omega) _ _ _ q1
      have p3 : Holds Z (w.heap.size + 1 + 1) 173 (List.replicate 8 0) := by rw [← hZ]; exact Holds.others (by omega) _ _ _ q3
      have p4 : Holds Z (w.heap.size + 1 + 1 + 1) 199 SV := by
        rw [← hZ, show (arr SV).toList = SV.map U by simp [arr]]
        exact q4.setCells SV (by omega)
      have p5 : Hid (Below w.heap.size w Z) := by rw [← hZ]; exact Below.setNews (by omega) _ _ _ q5.out
      clear hZ hth hbk
      go_loopg [48] 8 (fun k v48 wz => ∃ i : Nat, i + k = 8 ∧ v48 = .int .i64 i ∧ Holds wz w.heap.size 173 (outV h SV i) ∧ Holds wz (w.heap.size + 1 + 1) 173 (List.replicate 8 0) ∧ Holds wz (w.heap.size + 1 + 1 + 1) 199 SV ∧ Below w.heap.size w wz)
      case atStart => exact ⟨0, rfl, rfl, p1, p3, p4, p5.out⟩
      case round =>
        obtain ⟨i, hi, rfl, h1, h3, h4, h5⟩ := hrel
        have hOl : (outV h SV i).length = 8 := by rw [outV_length, hh]
        by_cases hlt : i < 8
        · have hi8 : (i : Int) < 8 := by omega
          have i16 : (i : Int) < 16 := by omega
          have hnx : Hid (outV h SV (i + 1) = (outV h SV i).set i (uxor ((outV h SV i).getD i 0) (uxor (SV.getD i 0) (SV.getD (i + 8) 0)))) := rfl
          have c1 := h1.cell i (by omega)
          have c2 := h4.cell i (by omega)
          have c3 := h4.cell (i + 8) (by omega)
          have f1 := h1.frozen i
          have k1 : (i : Int) + 8 < 16 := by omega
          have k2 : (0 : Int) ≤ (i : Int) + 8 := by omega
          have k3 : ((i : Int) + 8).toNat = i + 8 := by omega
          have kw : IntKind.i64.wrap ((i : Int) + 8) = (i : Int) + 8 := IntWalk.i64_in _ ⟨by omega, by omega⟩
          have hx := xor_u
          generalize outV h SV i = OV at *
          generalize OV.getD i 0 = X1 at *
          generalize SV.getD i 0 = X2 at *
          generalize SV.getD (i + 8) 0 = X3 at *
          go_wp2_with fail
          refine wp_region_still_tail 12 mixedP (by kernel_rfl) ?_
          simp only [List.take_succ_cons, List.take_zero, List.drop_succ_cons, List.drop_zero]
          show wpStill _ _ wr.drew _ _ _
          repeat still_step
          refine wpStill_nil ?_
          go_wp2_with fail
          go_roundg (gk - 1)
          case measure => omega
          case rel =>
            refine ⟨i + 1, by omega, by go_num, ?_, (h3.oth (by omega) _ _).drew, (h4.oth (by omega) _ _).drew, (Below.own h5 (by omega) _ _).drew⟩
            rw [hnx.out]
            exact (h1.set _ _).drew
        · obtain rfl : i = 8 := by omega
          have hpr : Hid (pressL h m n true = outV h SV 8) := by show outV h (stirs m 10 (mixV h n true)) 8 = _; rw [hSS.out]
          generalize outV h SV 8 = OV at *
          have r1 := range_arr h1
          have i27 : (Tryz.prog.info? 173).map (·.size) = some (arr OV).toList.length := by rw [size27, Array.length_toList, arr_size, hOl]
          have i27' : (Tryz.prog.info? 173).map (·.size) = some (arr OV).size := by rw [size27, arr_size, hOl]
          have t27 : wr.there (w.heap.size + 1 + 1) 0 (arr OV).size := by
            intro j hj
            rw [arr_size, hOl] at hj
            rw [Nat.zero_add, h3.cell j (by simpa using hj), h3.frozen]
            exact ⟨rfl, rfl⟩
          have o27 := arr_one OV
          go_wp2_with (first
            | (refine wpList_load_mid rfl 173 (.tmp 4) rfl w.heap.size 0 rfl (arr OV).toList _ r1 Tryz.underlying173 rfl i27 ?_)
            | (refine wpList_store_mid rfl 173 (.tmp 8) (.tmp 65) rfl (w.heap.size + 1 + 1) 0 (arr OV) rfl rfl t27 i27' o27 ?_))
          refine bodyPost_ret (v := .agg (arr OV).toList.toArray) (results_cell Tryz.results154 _ _ (w.heap.size + 1 + 1) 0 (arr OV).toList _ rfl (World.rangeAt_setCells_same _ _ _ _ (by simpa using t27)) Tryz.underlying173 rfl i27) rfl ⟨?_, ?_⟩
          · rw [hpr.out]
          · exact Below.setNews (by omega) _ _ _ h5

theorem press_any (h m : List UInt32) (hh : h.length = 8) (hm : m.length = 16) (n : Nat) (hn : n < 18446744073709551616) (last : Bool) (w : World) (hT : Tabs w) (hS : Starts w) :
    Calls Tryz.prog 154 #[.agg (arr h), .agg (arr m), .int .u64 (n : Int), .bool last] w fun e w' => e = .returned (.agg (arr (pressL h m n last))) ∧ Below w.heap.size w w' := by
  cases last
  · exact press_false h m hh hm n hn w hT hS
  · exact press_true h m hh hm n hn w hT hS
end Go.Proofs.YtmpiipcllgjhdaaGreatDoor.F
