/- The walks of the reference's small functions: right, four, digit, rows. -/
import Derived.Test.YteomefhjglnghaaDoorFSteps
import Derived.Test.YteomefhjglnghaaDoorFStir
import Derived.Deep.LoopGhost
import Derived.PlainAid
set_option linter.unusedSimpArgs false
set_option linter.unusedVariables false
set_option maxRecDepth 100000
namespace Go.Proofs.YteomefhjglnghaaDoor.F
open Go.RowKit

set_option maxRecDepth 100000 in
set_option maxHeartbeats 400000 in
theorem right_any (x : UInt32) (n : Nat) (hn : n ≤ 32) (w : World) :
    Calls Tryd.prog 48 #[U x, .int .i64 (n : Int)] w fun e w' => e = .returned (U (rr n x)) ∧ w' = w := by
  go_enter Tryd.func48, Tryd.ntmps48
  go_wp2_with fail
  go_loopg [0, 5] n (fun k a i wr => ∃ j : Nat, j + k = n ∧ i = .int .i64 j ∧ a = U (rr j x) ∧ wr = w)
  case atStart => exact ⟨0, by omega, rfl, by rw [rr_zero], rfl⟩
  case round =>
    obtain ⟨j, hj, rfl, rfl, rfl⟩ := hrel
    have hs := ult (rr j x)
    by_cases hlt : j < n
    · have hsu : Hid ((rr (j + 1) x).toNat = (rr j x).toNat / 2 + (rr j x).toNat % 2 * 2147483648) := rr_succ j (by omega) x
      generalize rr j x = y at *
      go_wp2_with fail
      go_roundg (gk - 1)
      case measure => omega
      case rel => exact ⟨j + 1, by omega, by go_num, by rw [U, hsu.out]; go_num, rfl⟩
    · obtain rfl : j = n := by omega
      go_wp2_with fail
      go_ret
      exact ⟨rfl, rfl⟩

abbrev plc32 : List Value := [.int .i64 0, .int .i64 4, .int .i64 8, .int .i64 12, .int .i64 1, .int .i64 5, .int .i64 9, .int .i64 13, .int .i64 2, .int .i64 6, .int .i64 10, .int .i64 14, .int .i64 3, .int .i64 7, .int .i64 11, .int .i64 15, .int .i64 0, .int .i64 5, .int .i64 10, .int .i64 15, .int .i64 1, .int .i64 6, .int .i64 11, .int .i64 12, .int .i64 2, .int .i64 7, .int .i64 8, .int .i64 13, .int .i64 3, .int .i64 4, .int .i64 9, .int .i64 14]
theorem plc32_eq : plc32 = plcL.map fun (n : Nat) => Value.int .i64 (n : Int) := rfl
theorem plc32_get (i j : Nat) (hi : i < 8) (hj : j < 4) : plc32[i * 4 + j]? = some (.int .i64 (plcN i j : Int)) := by
  have hlen : plcL.length = 32 := by decide +kernel
  rw [plc32_eq, List.getElem?_map, List.getElem?_eq_getElem (show i * 4 + j < plcL.length by omega)]
  simp [plcN, show i * 4 + j < plcL.length by omega]
/-- The four places of stir i, as cells. -/
def plcRow (i : Nat) : List Value := [.int .i64 (plcN i 0 : Int), .int .i64 (plcN i 1 : Int), .int .i64 (plcN i 2 : Int), .int .i64 (plcN i 3 : Int)]
theorem plcRow_get (i j : Nat) (v : Value) (h : (plcRow i)[j]? = some v) (hi : i < 8) : plc32[i * 4 + j]? = some v := by
  have hj : j < 4 := (List.getElem?_eq_some_iff.1 h).1
  rw [plc32_get i j hi hj, ← h]
  obtain rfl | rfl | rfl | rfl : j = 0 ∨ j = 1 ∨ j = 2 ∨ j = 3 := by omega
  all_goals rfl
abbrev z4 : Array Value := #[.int .i64 0, .int .i64 0, .int .i64 0, .int .i64 0]
theorem z4_get : ∀ j, j < 4 → (z4[j]?).isSome = true := by decide
abbrev z32 : Array Value := #[.int .i64 0, .int .i64 0, .int .i64 0, .int .i64 0, .int .i64 0, .int .i64 0, .int .i64 0, .int .i64 0, .int .i64 0, .int .i64 0, .int .i64 0, .int .i64 0, .int .i64 0, .int .i64 0, .int .i64 0, .int .i64 0, .int .i64 0, .int .i64 0, .int .i64 0, .int .i64 0, .int .i64 0, .int .i64 0, .int .i64 0, .int .i64 0, .int .i64 0, .int .i64 0, .int .i64 0, .int .i64 0, .int .i64 0, .int .i64 0, .int .i64 0, .int .i64 0]
theorem z32_get : ∀ j, j < 32 → (z32[j]?).isSome = true := by decide
theorem size77 : (Tryd.prog.info? 101).map (·.size) = some 32 := by kernel_rfl
theorem size71 : (Tryd.prog.info? 97).map (·.size) = some 4 := by kernel_rfl
theorem plc32_one : plc32.toArray.all (·.oneCell') = true := all_oneCell_toArray (fun v hv => by rw [plc32_eq] at hv; obtain ⟨x, _, rfl⟩ := List.mem_map.1 hv; rfl)
theorem plcRow_one (i : Nat) : (plcRow i).toArray.all (·.oneCell') = true := all_oneCell_toArray (fun v hv => by
  simp only [plcRow, List.mem_cons, List.not_mem_nil, or_false] at hv
  rcases hv with rfl | rfl | rfl | rfl <;> rfl)

theorem there_new (w : World) (C : Array Value) (t : TypeId) (b n : Nat) (hb : b = w.heap.size) (hn : n ≤ C.size) : (w.alloc (.cells C t)).there b 0 n := by
  subst hb
  intro j hj
  rw [Nat.zero_add, World.cell?_alloc_new, World.frozen?_alloc_new]
  exact ⟨by simp [Array.getElem?_eq_getElem (show j < C.size by omega)], rfl⟩
theorem there_far {w : World} {b b' o n : Nat} (h : w.there b o n) (vs : List Value) : (w.setCells b' 0 vs).there b o n := World.there_setCells h _ _ _

set_option maxRecDepth 100000 in
set_option maxHeartbeats 400000 in
theorem four_any (i : Nat) (hi : i < 8) (w : World) :
    Calls Tryd.prog 53 #[.int .i64 (i : Int)] w fun e w' => e = .returned (.agg (plcRow i).toArray) ∧ Below w.heap.size w w' := by
  have hi8 : (i : Int) < 8 := by omega
  have hi71 : (Tryd.prog.info? 97).map (·.size) = some (plcRow i).length := size71
  have hi71' : (Tryd.prog.info? 97).map (·.size) = some (plcRow i).toArray.size := size71
  have hi77 : (Tryd.prog.info? 101).map (·.size) = some 32 := size77
  go_enter Tryd.func53, Tryd.ntmps53
  iterate 41 (first | go_values | go_skip | go_guarded | go_step | go_upon | go_back)
  refine wpList_store_mid rfl 101 (.tmp 3) (.tmp 12) rfl (w.heap.size + 1) 0 plc32.toArray rfl rfl ?ht ?hi ?ho ?_
  case ht => exact there_new _ _ _ _ _ (by simp) (Nat.le_refl 32)
  case hi => exact hi77
  case ho => exact plc32_one
  generalize hX : World.setCells _ (w.heap.size + 1) 0 plc32.toArray.toList = X
  have r1 : X.rangeAt (w.heap.size + 1) (i * 4) (plcRow i) := by
    rw [← hX]
    intro j v hv
    have := World.rangeAt_setCells_same _ (w.heap.size + 1) 0 plc32.toArray.toList (there_new (w.alloc (.cells z4 97)) z32 101 _ 32 (by simp) (Nat.le_refl 32)) (i * 4 + j) v (plcRow_get i j v hv hi)
    rw [Nat.zero_add] at this
    exact this
  have t2 : X.there w.heap.size 0 (plcRow i).toArray.size := by
    rw [← hX]
    exact World.there_setCells (World.there_alloc (there_new w z4 97 _ 4 rfl (Nat.le_refl 4)) _) _ _ _
  have bX : Hid (Below w.heap.size w X) := by
    rw [← hX]
    exact Below.setNews (by omega) _ _ _ (((Below.refl _ w).alloc (Nat.le_refl _) _).alloc (by simp) _)
  clear hX
  have o2 := plcRow_one i
  generalize hR : plcRow i = R at *
  have HR : Hid (plcRow i = R) := hR
  clear hR
  go_wp2_with (first
    | (refine wpList_load_mid rfl 97 (.tmp 14) rfl (w.heap.size + 1) (i * 4) rfl R _ r1 Tryd.underlying97 rfl hi71 ?_)
    | (refine wpList_store_mid rfl 97 (.tmp 2) (.tmp 15) rfl w.heap.size 0 R.toArray rfl rfl t2 hi71' o2 ?_))
  refine bodyPost_ret (v := .agg R.toArray) (results_cell Tryd.results53 _ _ w.heap.size 0 R _ rfl (World.rangeAt_setCells_same _ _ _ _ (by simpa using t2)) Tryd.underlying97 rfl hi71) rfl ⟨by rw [HR.out], ?_⟩
  exact Below.setNews (Nat.le_refl _) _ _ _ bX.out

abbrev hexS : ByteArray := ⟨#[48, 49, 50, 51, 52, 53, 54, 55, 56, 57, 97, 98, 99, 100, 101, 102]⟩
/-- The sign of a digit. -/
def hexB (d : Nat) : Int := PlainAid.bt hexS d
theorem hexB_inj : ∀ i, i < 16 → ∀ j, j < 16 → i ≠ j → (hexB i == hexB j) = false := by decide

set_option maxHeartbeats 400000 in
theorem digit_any (d : Nat) (hd : d < 16) (w : World) :
    Calls Tryd.prog 54 #[.int .u8 (hexB d)] w fun e w' => e = .returned (.int .i64 (d : Int)) ∧ w' = w := by
  have hb := PlainAid.get_bt hexS
  have hbi : Hid (∀ j, PlainAid.bt hexS j = hexB j) := fun _ => rfl
  go_enter Tryd.func54, Tryd.ntmps54
  go_wp2_with fail
  go_loopg [3] 16 (fun k v wr => ∃ i : Nat, i + k = 16 ∧ i ≤ d ∧ v = .int .i64 i ∧ wr = w)
  case atStart => exact ⟨0, rfl, by omega, rfl, rfl⟩
  case round =>
    obtain ⟨i, hi, hid, rfl, rfl⟩ := hrel
    have i16 : (i : Int) < 16 := by omega
    have i16' : i < 16 := by omega
    by_cases he : i = d
    · subst he
      have ht : (PlainAid.bt hexS i == hexB i) = true := by rw [hbi.out]; exact beq_self_eq_true _
      go_wp2_with fail
      go_ret
      exact ⟨rfl, rfl⟩
    · have ht : (PlainAid.bt hexS i == hexB d) = false := by rw [hbi.out]; exact hexB_inj i (by omega) d hd he
      go_wp2_with fail
      go_roundg (gk - 1)
      case measure => omega
      case rel => exact ⟨i + 1, by omega, by omega, by go_num, rfl⟩
end Go.Proofs.YteomefhjglnghaaDoor.F
