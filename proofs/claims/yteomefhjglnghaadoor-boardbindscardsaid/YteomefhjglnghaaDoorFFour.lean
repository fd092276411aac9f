/- The walks of four and of the reference's Four: a number as four bytes. -/
import Derived.Test.YteomefhjglnghaaDoorFRefKeyed
set_option linter.unusedSimpArgs false
set_option linter.unusedVariables false
set_option maxRecDepth 100000
namespace Go.Proofs.YteomefhjglnghaaDoor.F
open Go.RowKit

def fourL (n : Nat) : List UInt8 := [UInt8.ofNat (n / 16777216), UInt8.ofNat (n / 65536), UInt8.ofNat (n / 256), UInt8.ofNat n]
theorem fourL_length (n : Nat) : (fourL n).length = 4 := rfl

theorem four_cells (n : Nat) : #[Value.int .u8 ((n : Int) / 16777216 % 256), Value.int .u8 ((n : Int) / 65536 % 256), Value.int .u8 ((n : Int) / 256 % 256), Value.int .u8 ((n : Int) % 256)] = barr (fourL n) := by
  have e : ∀ m : Nat, Value.int .u8 ((m : Int) % 256) = Y (UInt8.ofNat m) := fun m => by rw [Y, UInt8.toNat_ofNat']; rfl
  have e1 := e (n / 16777216)
  have e2 := e (n / 65536)
  have e3 := e (n / 256)
  rw [Int.natCast_ediv] at e1 e2 e3
  simp only [barr, fourL, List.map_cons, List.map_nil]
  rw [← e1, ← e2, ← e3, ← e n]
  rfl
theorem four_convert (n : Nat) (w : World) :
    (convert 68 9 (.slice (some ⟨w.heap.size, 0, none⟩) 4 4)).run Tryd.prog (w.alloc (.cells #[Value.int .u8 ((n : Int) / 16777216 % 256), Value.int .u8 ((n : Int) / 65536 % 256), Value.int .u8 ((n : Int) / 256 % 256), Value.int .u8 ((n : Int) % 256)] 5)) =
      .ok (.string ⟨(fourL n).toArray⟩) (w.alloc (.cells #[Value.int .u8 ((n : Int) / 16777216 % 256), Value.int .u8 ((n : Int) / 65536 % 256), Value.int .u8 ((n : Int) / 256 % 256), Value.int .u8 ((n : Int) % 256)] 5)) := by
  rw [four_cells]
  have hv := BHolds.new w 5 (fourL n)
  have hcv := run_convert_bytes_arg (P := Tryd.prog) (w.alloc (.cells (barr (fourL n)) 5)) 68 5 Tryd.underlying68 Tryd.underlying5 w.heap.size 0 4 4 ((fourL n).map fun x => (x.toNat : Int)) (by simp [fourL]) (fun j hj => by rw [Nat.zero_add, hv.cell j hj]; simp [List.getElem?_eq_getElem (show j < (fourL n).length from hj)]) 9 Tryd.underlying9
  rw [Lib.Lz.strOfNums_map] at hcv
  exact hcv
set_option maxRecDepth 100000 in
set_option maxHeartbeats 400000 in
theorem fourB_any (n : Nat) (hn : n < 9223372036854775808) (w : World) :
    Calls Tryd.prog 50 #[.int .i64 (n : Int)] w fun e w' => e = .returned (.string ⟨(fourL n).toArray⟩) ∧ Below w.heap.size w w' := by
  have hcv := four_convert n w
  have HB : Hid (Below w.heap.size w (w.alloc (.cells #[Value.int .u8 ((n : Int) / 16777216 % 256), Value.int .u8 ((n : Int) / 65536 % 256), Value.int .u8 ((n : Int) / 256 % 256), Value.int .u8 ((n : Int) % 256)] 5))) := (Below.refl _ w).alloc (Nat.le_refl _) _
  generalize fourL n = F4 at *
  go_enter Tryd.func50, Tryd.ntmps50
  go_wp2_with fail
  go_ret
  exact ⟨rfl, HB.out⟩
set_option maxRecDepth 100000 in
set_option maxHeartbeats 400000 in
theorem refFourB_any (n : Nat) (hn : n < 9223372036854775808) (w : World) :
    Calls Tryd.prog 20 #[.int .i64 (n : Int)] w fun e w' => e = .returned (.string ⟨(fourL n).toArray⟩) ∧ Below w.heap.size w w' := by
  have hcv := four_convert n w
  have HB : Hid (Below w.heap.size w (w.alloc (.cells #[Value.int .u8 ((n : Int) / 16777216 % 256), Value.int .u8 ((n : Int) / 65536 % 256), Value.int .u8 ((n : Int) / 256 % 256), Value.int .u8 ((n : Int) % 256)] 5))) := (Below.refl _ w).alloc (Nat.le_refl _) _
  generalize fourL n = F4 at *
  go_enter Tryd.func20, Tryd.ntmps20
  go_wp2_with fail
  go_ret
  exact ⟨rfl, HB.out⟩
end Go.Proofs.YteomefhjglnghaaDoor.F
