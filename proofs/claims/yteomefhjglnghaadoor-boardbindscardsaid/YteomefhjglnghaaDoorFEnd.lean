/- The walk of end. -/
import Derived.Test.YteomefhjglnghaaDoorFAdd
set_option linter.unusedSimpArgs false
set_option linter.unusedVariables false
set_option maxRecDepth 100000
namespace Go.Proofs.YteomefhjglnghaaDoor.F
open Go.RowKit

/-- One byte of a word, the lowest first; eight words as bytes. -/
def byteOf (x : UInt32) (j : Nat) : UInt8 := UInt8.ofNat (x.toNat / 2 ^ (8 * j))
def outL (h : List UInt32) : List UInt8 := (List.range 32).map fun i => byteOf (h.getD (i / 4) 0) (i % 4)
def outTo (h : List UInt32) : Nat → List UInt8
  | 0 => List.replicate 32 0
  | i + 1 => (outTo h i).set i (byteOf (h.getD (i / 4) 0) (i % 4))
theorem outTo_length (h : List UInt32) (i : Nat) : (outTo h i).length = 32 := by
  induction i with
  | zero => rfl
  | succ i ih => simp [outTo, ih]
theorem outTo_get (h : List UInt32) : ∀ (i : Nat), i ≤ 32 → ∀ j, j < 32 → (outTo h i)[j]? = some (if j < i then byteOf (h.getD (j / 4) 0) (j % 4) else 0)
  | 0, _, j, hj => by rw [outTo, List.getElem?_replicate, if_pos hj, if_neg (by omega)]
  | i + 1, hi, j, hj => by
    rw [outTo, List.getElem?_set]
    by_cases h' : i = j
    · subst h'
      simp [outTo_length, hj]
    · rw [if_neg h', outTo_get h i (by omega) j hj]
      by_cases h2 : j < i
      · rw [if_pos h2, if_pos (by omega)]
      · rw [if_neg h2, if_neg (by omega)]
theorem outL_length (h : List UInt32) : (outL h).length = 32 := by simp [outL]
theorem outTo_all (h : List UInt32) : outTo h 32 = outL h := by
  apply List.ext_getElem?
  intro j
  by_cases hj : j < 32
  · rw [outTo_get h 32 (by omega) j hj, if_pos hj]
    simp [outL, hj]
  · rw [List.getElem?_eq_none (by rw [outTo_length]; omega), List.getElem?_eq_none (by rw [outL_length]; omega)]
theorem BHolds.frozen {w : World} {b : Nat} {t : TypeId} {l : List UInt8} (h : BHolds w b t l) (i : Nat) : w.frozen? ⟨b, i, none⟩ = false := by
  unfold BHolds at h
  simp [World.frozen?, h]
theorem BHolds.set {w : World} {b : Nat} {t : TypeId} {l : List UInt8} (h : BHolds w b t l) (i : Nat) (x : UInt8) : BHolds (w.setCell ⟨b, i, none⟩ (Y x)) b t (l.set i x) := by
  unfold BHolds at *
  simp [World.setCell, Array.getElem?_modify, h, barr, List.map_set]
theorem BHolds.new (w : World) (t : TypeId) (l : List UInt8) : BHolds (w.alloc (.cells (barr l) t)) w.heap.size t l := by
  show (w.heap.push _)[w.heap.size]? = _
  simp
theorem FAt.of_but {w w' : World} {b g : Nat} {f : Fol} (h : FAt w b f) (hb : But g w w') (hg : b ≠ g) : FAt w' b f := by
  unfold FAt; rw [hb.block b h.lt hg]; exact h
theorem FAt.word {w : World} {b : Nat} {f : Fol} (h : FAt w b f) (ok : f.ok) (i : Nat) (hi : i < 8) : w.cell? ⟨b, i, none⟩ = some (U (f.h.getD i 0)) := by
  have := h.words ok i (U (f.h.getD i 0)) (by simp [arr, ok.1, hi])
  simpa using this
theorem But.join {b g : Nat} {u v w : World} (h : But b u v) (k : But g v w) (hg : u.heap.size ≤ g) : But b u w :=
  ⟨k.os.trans h.os, k.tape.trans h.tape, k.output.trans h.output, Nat.le_trans h.size k.size, fun i hi hb => (k.block i (Nat.lt_of_lt_of_le hi h.size) (by omega)).trans (h.block i hi hb)⟩
theorem byte_val (x : UInt32) (j : Nat) : Value.int .u8 ((x.toNat : Int) / 2 ^ (j * 8) % 256) = Y (byteOf x j) := by
  unfold Y byteOf
  congr 1
  rw [UInt8.toNat_ofNat', Nat.mul_comm 8 j, Int.natCast_emod, Int.natCast_ediv, Int.natCast_pow]
  rfl
theorem alen76 : Tryd.prog.arrayLen 95 = 32 := by kernel_rfl
theorem elem76 : Tryd.prog.elem 95 = 5 := by kernel_rfl
theorem slice76_all (b o : Nat) (w : World) :
    (Instr.sliceAt 95 (.pointer (some ⟨b, o, none⟩)) none none none).run Tryd.prog w = .ok (.slice (some ⟨b, o, none⟩) 32 32) w := by
  rw [run_sliceAt_array_all w 95 ⟨b, o, none⟩ (by rw [alen76, elem76]; exact Tryd.underlying95)]
  rw [elem76, sizeOf5, alen76]
  simp only [Result.andThen_ok, slicedAt, Nat.zero_mul, Nat.sub_zero]
  rw [if_neg (by omega), Addr.add_mid]; rfl

set_option maxRecDepth 100000 in
set_option maxHeartbeats 1000000 in
theorem end_any (b : Nat) (f : Fol) (ok : f.ok) (w : World) (hF : FAt w b f) (hb2 : 2 < b) (hT : Tabs w) (hS : Starts w) :
    Calls Tryd.prog 46 #[.pointer (some ⟨b, 0, none⟩)] w fun e w' => e = .returned (.string ⟨(outL (pressL f.h (wordsL f.p) f.n true)).toArray⟩) ∧ But b w w' := by
  go_enter Tryd.func46, Tryd.ntmps46
  go_wp2_with fail
  refine (folPress_any b f ok true w hF hb2 hT hS).mono ?_
  rintro e X ⟨rfl, HF, hbX⟩
  have okF := pressF_ok ok true
  have HR : Hid ((pressF f true).h = pressL f.h (wordsL f.p) f.n true) := rfl
  generalize pressF f true = F at *
  go_wp2_with fail
  have a3 := BHolds.new X 95 (List.replicate 32 0)
  have hbl := HF.lt
  obtain ⟨X1, hX1⟩ : ∃ X1, X1 = X.alloc (Obj.cells (barr (List.replicate 32 0)) 95) := ⟨_, rfl⟩
  have HF1 : FAt X1 b F := by rw [hX1]; exact HF.alloc _
  have HB1 : Hid (But b w X1) := by show But _ _ _; rw [hX1]; exact hbX.alloc _
  have hsz : Hid (w.heap.size ≤ X.heap.size) := hbX.size
  rw [← hX1] at a3
  change Code.wp _ _ _ _ (X.alloc (Obj.cells (barr (List.replicate 32 0)) 95))
  rw [← hX1]
  generalize X.heap.size = g at *
  clear hX1 HF hbX
  go_loopg [7] 32 (fun k v wr => ∃ i : Nat, i + k = 32 ∧ v = .int .i64 i ∧ BHolds wr g 95 (outTo F.h i) ∧ But g X1 wr)
  case atStart => exact ⟨0, rfl, rfl, a3, But.refl _ _⟩
  case round =>
    obtain ⟨i, hi, rfl, hv, hb⟩ := hrel
    have hl := outTo_length F.h i
    have hFr := HF1.of_but hb (by omega)
    by_cases hlt : i < 32
    · have i32 : (i : Int) < 32 := by omega
      have hnx : Hid (outTo F.h (i + 1) = (outTo F.h i).set i (byteOf (F.h.getD (i / 4) 0) (i % 4))) := rfl
      have c0 := hFr.word okF (i / 4) (by omega)
      have d0 := hv.cell i (by omega)
      have f0 := hv.frozen i
      go_wp2_with fail
      go_roundg (gk - 1)
      case measure => omega
      case rel =>
        refine ⟨i + 1, by omega, by go_num, ?_, hb.setCell _ _⟩
        rw [hnx.out, byte_val (F.h[i / 4]?.getD 0) (i % 4)]
        exact hv.set _ _
    · have hid : Hid (i = 32) := by show i = 32; omega
      have hfin : Hid (outTo F.h i = outL F.h) := by show _ = _; rw [hid.out]; exact outTo_all F.h
      have hsl := fun w' => slice76_all g 0 w'
      generalize outTo F.h i = L at *
      have hcv := run_convert_bytes_arg (P := Tryd.prog) wr 68 5 Tryd.underlying68 Tryd.underlying5 g 0 32 32 (L.map fun x => (x.toNat : Int)) (by simpa using hl) (fun j hj => by rw [Nat.zero_add, hv.cell j (by omega)]; simp [hl, hj]) 9 Tryd.underlying9
      rw [Lib.Lz.strOfNums_map] at hcv
      go_wp2_with fail
      go_ret
      exact ⟨by rw [← HR.out, ← hfin.out]; rfl, HB1.out.join hb hsz.out⟩
end Go.Proofs.YteomefhjglnghaaDoor.F
