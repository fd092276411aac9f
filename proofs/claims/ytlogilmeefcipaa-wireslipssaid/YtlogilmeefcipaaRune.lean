/- strings.IndexRune of the signs at a rune beyond ASCII; wire's valueOf. -/
import Derived.Test.YtlogilmeefcipaaSign
import Derived.WalkMore
import Derived.Scope
set_option linter.unusedSimpArgs false
set_option linter.unusedVariables false
set_option maxRecDepth 100000
namespace Go.Proofs.Ytlogilmeefcipaa
open Go.RowKit Go.Deep Go.PlainAid

abbrev sgS : Value := .string ⟨#[48, 49, 50, 51, 52, 53, 54, 55, 56, 57, 65, 66, 67, 68, 69, 70, 71, 72, 74, 75, 77, 78, 80, 81, 82, 83, 84, 86, 87, 88, 89, 90, 42, 126, 36, 61, 85]⟩
theorem bt_sg_lt : ∀ i : Fin 37, bt sgB i.val < 128 := by decide +kernel
theorem ix_high (a : Nat) (c : UInt8) (hc : 128 ≤ c.toNat) : Lib.indexByte (sgB.extract a 37).data.toList c = -1 := by
  by_cases h : Lib.indexByte (sgB.extract a 37).data.toList c < 0
  · have := Lib.indexByte_ge (sgB.extract a 37).data.toList c
    omega
  · obtain ⟨o, ho⟩ := Int.eq_ofNat_of_zero_le (show 0 ≤ Lib.indexByte (sgB.extract a 37).data.toList c by omega)
    obtain ⟨h1, _⟩ := Lib.indexByte_some ho
    have hm : c ∈ (sgB.extract a 37).data.toList := List.mem_of_getElem? h1
    have := sg_ascii c (mem_extract hm)
    omega
set_option maxHeartbeats 2000000 in
theorem indexRune_err (w : World) : Calls Try.prog 39 #[sgS, .int .i32 65533] w fun e w' => e = .returned (.int .i64 (-1)) ∧ Below w.heap.size w w' := by
  have i0 : Hid ((w.iter sgB 0).heap[w.heap.size]? = some (.stringIter sgB 0)) := World.iter_heap w sgB 0
  have i1 : Hid (Below w.heap.size w (w.iter sgB 0)) := (Below.refl _ w).alloc (Nat.le_refl _) _
  go_enter Try.func39, Try.ntmps39
  go_wp2_with fail
  go_loopg [5, 6] 37 (fun gk v5 v6 wr => ∃ pos : Nat, pos + gk = 37 ∧ wr.heap[w.heap.size]? = some (.stringIter sgB pos) ∧ Below w.heap.size w wr)
  case atStart => exact ⟨0, by omega, i0.out, i1.out⟩
  case round =>
    obtain ⟨pos, hpg, hit, hB⟩ := hrel
    have B : Hid (Below w.heap.size w wr) := hB
    clear hB
    have hsz : sgB.size = 37 := rfl
    by_cases hp : pos < 37
    · have hp' : pos < sgB.size := hp
      have hnx : ∀ ty, (Instr.next (.pointer (some ⟨w.heap.size, 0, none⟩)) true ty).run Try.prog wr = _ := fun ty => Lib.run_next_any_at wr (w.heap.size) sgB pos ty hit hp'
      have hb := get_bs sgB pos hp'
      have hlt := bt_sg_lt ⟨pos, hp⟩
      have ha : (sgB[pos]'hp').toNat < 128 := by
        simp only at hlt
        omega
      rw [decode_ascii sgB pos hp' ha] at hnx
      have B2 : Hid (Below w.heap.size w (wr.iterAt w.heap.size sgB (pos + 1))) := Lib.below_iterAt B.out (Nat.le_refl _) sgB (pos + 1)
      have IT2 : Hid ((wr.iterAt w.heap.size sgB (pos + 1)).heap[w.heap.size]? = some (.stringIter sgB (pos + 1))) := Lib.iterAt_heap wr w.heap.size sgB pos (pos + 1) hit
      clear hb hlt hit
      generalize (sgB[pos]'hp').toNat = c at *
      have kc : ¬ (c : Int) = 65533 := by omega
      have kc2 : ((c : Int) == 65533) = false := by simpa using kc
      go_wp2_with fail
      go_roundg (gk - 1)
      case measure => omega
      case rel => exact ⟨pos + 1, by omega, IT2.out, B2.out⟩
    · have hp' : ¬ pos < sgB.size := hp
      have hnx : ∀ ty, (Instr.next (.pointer (some ⟨w.heap.size, 0, none⟩)) true ty).run Try.prog wr = _ := fun ty => Lib.run_next_end_at wr (w.heap.size) sgB pos ty hit hp'
      clear hit
      go_wp2_with fail
      go_ret
      exact ⟨rfl, B.out⟩
set_option maxHeartbeats 2000000 in
theorem indexRune_bad (w : World) (r : Int) (h128 : 128 ≤ r) (hne : r ≠ 65533) (hv : Lib.validRune r = false) : Calls Try.prog 39 #[sgS, .int .i32 r] w fun e w' => e = .returned (.int .i64 (-1)) ∧ Below w.heap.size w w' := by
  have CV : Hid (Calls Try.prog 46 #[.int .i32 r] w fun e w' => e = .returned (.bool false) ∧ w' = w) := by have := Try.utf8_ValidRune r w; rw [hv] at this; exact this
  have k1 : ¬ r < 128 := by omega
  have k2 : (r == 65533) = false := by simpa using hne
  have k3 : 0 ≤ r := by omega
  go_enter Try.func39, Try.ntmps39
  go_wp2_with fail
  refine CV.out.mono ?_
  rintro e w1 ⟨rfl, rfl⟩
  go_wp2_with fail
  go_ret
  exact ⟨rfl, Below.refl _ _⟩
set_option maxHeartbeats 2000000 in
theorem indexRune_good (w : World) (r : Int) (h128 : 128 ≤ r) (hne : r ≠ 65533) (hv : Lib.validRune r = true) (hv2 : Utf8.valid r = true) : Calls Try.prog 39 #[sgS, .int .i32 r] w fun e w' => e = .returned (.int .i64 (-1)) ∧ Below w.heap.size w w' := by
  have CV : Hid (Calls Try.prog 46 #[.int .i32 r] w fun e w' => e = .returned (.bool true) ∧ w' = w) := by have := Try.utf8_ValidRune r w; rw [hv] at this; exact this
  obtain ⟨f1, f2, f3⟩ := encode_facts r hv2 h128
  have hcv := run_convert_int_string (P := Try.prog) w 21 9 .i32 r (by kernel_rfl) Try.underlying9
  have hE := get_bs (Utf8.encode r)
  have lb0 : 128 ≤ bt (Utf8.encode r) ((Utf8.encode r).size - 1) := by
    have l1 := hE ((Utf8.encode r).size - 1) (by omega)
    have l2 := f3 (by omega)
    omega
  clear f3
  generalize Utf8.encode r = E at *
  obtain ⟨L, hL⟩ : ∃ L, L = E.size - 1 := ⟨_, rfl⟩
  rw [← hL] at lb0
  have lb : 128 ≤ bt E L := lb0
  have lb9 := bt_lt E L
  have kE : (E.size : Int) - 1 = (L : Int) := by omega
  have kL : (L : Int) < (E.size : Int) := by omega
  have L3 : L ≤ 3 := by omega
  have L37 : (L : Int) < 37 := by omega
  have L38 : (L : Int) + 1 ≤ 37 := by omega
  have sb := bt_sg_lt ⟨L, by omega⟩
  have hsb := get_bs (⟨#[48, 49, 50, 51, 52, 53, 54, 55, 56, 57, 65, 66, 67, 68, 69, 70, 71, 72, 74, 75, 77, 78, 80, 81, 82, 83, 84, 86, 87, 88, 89, 90, 42, 126, 36, 61, 85]⟩ : ByteArray)
  have nn : ¬ (bt sgB L : Int) = (bt E L : Int) := by simp only at sb; omega
  have nn2 : ((bt sgB L : Int) != (bt E L : Int)) = true := by simpa using nn
  obtain ⟨M, hM⟩ : ∃ M, M = L + 1 := ⟨_, rfl⟩
  have kM : (L : Int) + 1 = (M : Int) := by omega
  have kW : IntKind.i64.wrap ((L : Int) + 1) = (M : Int) := by rw [IntKind.wrap_i64]; omega
  have kM2 : (M : Int) ≤ 37 := by omega
  have kW2 : IntKind.i64.wrap (M : Int) = (M : Int) := by rw [IntKind.wrap_i64]; omega
  have IX : Hid (∀ W, Calls Try.prog 45 #[.string (sgB.extract (L + 1) 37), .int .u8 (bt E L : Int)] W fun e w' => e = .returned (.int .i64 (-1)) ∧ w' = W) := fun W => by
    have := Try.strings_IndexByte (sgB.extract (L + 1) 37) (bt E L : Int) W
    rw [ix_high (L + 1) _ (by rw [show ((bt E L : Int).toNat.toUInt8).toNat = bt E L by simp; omega]; exact lb)] at this
    exact this
  have k1 : ¬ r < 128 := by omega
  have k2 : (r == 65533) = false := by simpa using hne
  have k3 : 0 ≤ r := by omega
  rw [← hM] at IX
  have M4 : M ≤ 4 := by omega
  clear lb0 hL sb hv hv2 hM L38
  go_enter Try.func39, Try.ntmps39
  go_wp2_with fail
  refine CV.out.mono ?_
  rintro e w1 ⟨rfl, rfl⟩
  clear CV k1 k2 k3
  have HCV : Hid (Sem.run Try.prog (convert 21 9 (.int .i32 r)) w1 = .ok (.string E) w1) := hcv
  clear hcv
  go_wp2_with fail
  have hcv2 : Sem.run Try.prog (convert 21 9 (.int .i32 r)) w1 = .ok (.string E) w1 := HCV.out
  refine wp_scope_straight ?_
  go_wp2_with fail
  clear hcv2
  go_loopg [9, 10, 11, 12] 1 (fun gk v9 v10 v11 v12 wr => gk = 1 ∧ v9 = .int .i64 (L : Int) ∧ wr = w1)
  case atStart => exact ⟨rfl, rfl, rfl⟩
  case round =>
    obtain ⟨rfl, rfl, rfl⟩ := hrel
    go_wp2_with fail
    refine wp_scope_straight ?_
    go_wp2_with fail
    go_quiet (fail)
    have BQ : Hid (Below wr.heap.size wr (wr.drewN nq)) := ⟨rfl, rfl, rfl, Nat.le_refl _, fun _ _ => rfl⟩
    generalize wr.drewN nq = wq at *
    go_wp2_with fail
    go_quiet (exact Calls.quiet_of_same (IX.out _))
    have BR : Hid (Below wr.heap.size wr (wq.drewN nq)) := BQ.out.trans ⟨rfl, rfl, rfl, Nat.le_refl _, fun _ _ => rfl⟩
    generalize wq.drewN nq = wz at *
    go_wp2_with fail
    simp only [Exit.inBlock, Exit.then, Exit.noGoto_ret]
    go_ret
    exact ⟨rfl, BR.out⟩
theorem indexRune_high (w : World) (r : Int) (h128 : 128 ≤ r) : Calls Try.prog 39 #[sgS, .int .i32 r] w fun e w' => e = .returned (.int .i64 (-1)) ∧ Below w.heap.size w w' := by
  by_cases he : r = 65533
  · subst he; exact indexRune_err w
  · cases hv : Lib.validRune r with
    | false => exact indexRune_bad w r h128 he hv
    | true => exact indexRune_good w r h128 he hv (by rw [validRune_eq]; exact hv)
theorem indexRune_low (w : World) (c : Nat) (hc : c < 128) : Calls Try.prog 39 #[sgS, .int .i32 (c : Int)] w fun e w' => e = .returned (.int .i64 (Lib.indexByte sgB.data.toList (UInt8.ofNat c))) ∧ Below w.heap.size w w' := by
  refine (Try.strings_IndexRune_ascii sgB (c : Int) w (by omega) (by omega)).mono ?_
  rintro e w' ⟨rfl, rfl⟩
  exact ⟨by simp, Below.refl _ _⟩
/-- The value of a rune. -/
def rv (r : Nat) : Int := if r < 128 then sv r else -1
set_option maxHeartbeats 2000000 in
theorem valueOf_high (w : World) (r : Nat) (h : 128 ≤ r) (h9 : r ≤ 2147483647) :
    Calls Try.prog 35 #[.int .i32 (r : Int)] w fun e w' => e = .returned (.int .i64 (-1)) ∧ Below w.heap.size w w' := by
  have C := indexRune_high w (r : Int) (by omega)
  have k1 : ¬ (r : Int) ≤ 122 := by omega
  have k0 : (97 : Int) ≤ (r : Int) := by omega
  have k2 : ((r : Int) == 79) = false := by simp; omega
  have k3 : ((r : Int) == 73) = false := by simp; omega
  have k4 : ((r : Int) == 76) = false := by simp; omega
  go_enter Try.func35, Try.ntmps35
  go_wp2_with fail
  refine C.mono ?_
  rintro e W1 ⟨rfl, hb⟩
  have B : Hid (Below w.heap.size w W1) := hb
  clear hb C
  go_wp2_with fail
  go_ret
  exact ⟨rfl, B.out⟩
set_option maxHeartbeats 2000000 in
theorem valueOf_low (w : World) (c : Nat) (hc : c < 128) :
    Calls Try.prog 35 #[.int .i32 (c : Int)] w fun e w' => e = .returned (.int .i64 (sv c)) ∧ Below w.heap.size w w' := by
  have C48 : Hid (Calls Try.prog 39 #[sgS, .int .i32 48] w fun e w' => e = .returned (.int .i64 0) ∧ Below w.heap.size w w') := indexRune_low w 48 (by omega)
  have C49 : Hid (Calls Try.prog 39 #[sgS, .int .i32 49] w fun e w' => e = .returned (.int .i64 1) ∧ Below w.heap.size w w') := indexRune_low w 49 (by omega)
  have HV : Hid (sv c = if up c = 79 then 0 else if up c = 73 ∨ up c = 76 then 1 else Lib.indexByte sgB.data.toList (UInt8.ofNat (up c))) := rfl
  have u9 : up c < 128 := by unfold up; split <;> omega
  by_cases hsm : 97 ≤ c ∧ c ≤ 122
  · have hu : up c = c - 32 := if_pos hsm
    obtain ⟨d, hd⟩ : ∃ d, d = c - 32 := ⟨_, rfl⟩
    have k1 : (97 : Int) ≤ (c : Int) := by omega
    have k2 : (c : Int) ≤ 122 := by omega
    have k3 : (c : Int) + -32 = (d : Int) := by omega
    have k4 : IntKind.i32.wrap ((c : Int) + -32) = (d : Int) := by rw [IntKind.wrap_i32]; omega
    have k5 : (c : Int) - 32 = (d : Int) := by omega
    rw [hu, ← hd] at HV u9
    clear hd hu hsm
    go_enter Try.func35, Try.ntmps35
    go_upto_region 3 with fail
    clear k1 k2 k3 k4 k5
    have HV2 : Hid (d = 79 → sv c = 0) := fun h => by rw [HV.out, if_pos h]
    have HV3 : Hid (d ≠ 79 → d = 73 ∨ d = 76 → sv c = 1) := fun h h2 => by rw [HV.out, if_neg h, if_pos h2]
    have HV4 : Hid (d ≠ 79 → ¬ (d = 73 ∨ d = 76) → sv c = Lib.indexByte sgB.data.toList (UInt8.ofNat d)) := fun h h2 => by rw [HV.out, if_neg h, if_neg h2]
    clear HV
    by_cases h79 : d = 79
    · have HR : Hid (sv c = 0) := HV2.out h79
      have e1 : (d : Int) = 79 := by omega
      clear h79
      go_wp2_with fail
      refine C48.out.mono ?_
      rintro e W1 ⟨rfl, hb⟩
      have B : Hid (Below w.heap.size w W1) := hb
      clear hb
      go_wp2_with fail
      go_ret
      exact ⟨by rw [HR.out]; rfl, B.out⟩
    have f79 : ((d : Int) == 79) = false := by simp; omega
    by_cases h73 : d = 73
    · have HR : Hid (sv c = 1) := HV3.out h79 (Or.inl h73)
      have e1 : (d : Int) = 73 := by omega
      clear h73
      go_wp2_with fail
      refine C49.out.mono ?_
      rintro e W1 ⟨rfl, hb⟩
      have B : Hid (Below w.heap.size w W1) := hb
      clear hb
      go_wp2_with fail
      go_ret
      exact ⟨by rw [HR.out]; rfl, B.out⟩
    have f73 : ((d : Int) == 73) = false := by simp; omega
    by_cases h76 : d = 76
    · have HR : Hid (sv c = 1) := HV3.out h79 (Or.inr h76)
      have e1 : (d : Int) = 76 := by omega
      clear h76
      go_wp2_with fail
      refine C49.out.mono ?_
      rintro e W1 ⟨rfl, hb⟩
      have B : Hid (Below w.heap.size w W1) := hb
      clear hb
      go_wp2_with fail
      go_ret
      exact ⟨by rw [HR.out]; rfl, B.out⟩
    have f76 : ((d : Int) == 76) = false := by simp; omega
    have HR : Hid (sv c = Lib.indexByte sgB.data.toList (UInt8.ofNat d)) := HV4.out h79 (by omega)
    have CD : Hid (Calls Try.prog 39 #[sgS, .int .i32 (d : Int)] w fun e w' => e = .returned (.int .i64 (sv c)) ∧ Below w.heap.size w w') := by
      show Calls _ _ _ _ _
      rw [HR.out]
      exact indexRune_low w d u9
    clear HR HV2 HV3 HV4 h79 h73 h76
    generalize hsv : sv c = q at CD
    have HQ : Hid (sv c = q) := hsv
    clear hsv
    go_wp2_with fail
    refine CD.out.mono ?_
    rintro e W1 ⟨rfl, hb⟩
    have B : Hid (Below w.heap.size w W1) := hb
    clear hb
    go_wp2_with fail
    go_ret
    exact ⟨by rw [HQ.out]; rfl, B.out⟩
  · have hu : up c = c := if_neg hsm
    rw [hu] at HV u9
    clear hu
    by_cases k1 : 97 ≤ c
    · have k2 : ¬ (c : Int) ≤ 122 := by omega
      have k3 : (97 : Int) ≤ (c : Int) := by omega
      go_enter Try.func35, Try.ntmps35
      go_upto_region 3 with fail
      clear k1 k2 k3 hsm
      have HV2 : Hid (c = 79 → sv c = 0) := fun h => by rw [HV.out, if_pos h]
      have HV3 : Hid (c ≠ 79 → c = 73 ∨ c = 76 → sv c = 1) := fun h h2 => by rw [HV.out, if_neg h, if_pos h2]
      have HV4 : Hid (c ≠ 79 → ¬ (c = 73 ∨ c = 76) → sv c = Lib.indexByte sgB.data.toList (UInt8.ofNat c)) := fun h h2 => by rw [HV.out, if_neg h, if_neg h2]
      clear HV
      by_cases h79 : c = 79
      · have HR : Hid (sv c = 0) := HV2.out h79
        have e1 : (c : Int) = 79 := by omega
        clear h79
        go_wp2_with fail
        refine C48.out.mono ?_
        rintro e W1 ⟨rfl, hb⟩
        have B : Hid (Below w.heap.size w W1) := hb
        clear hb
        go_wp2_with fail
        go_ret
        exact ⟨by rw [HR.out]; rfl, B.out⟩
      have f79 : ((c : Int) == 79) = false := by simp; omega
      by_cases h73 : c = 73
      · have HR : Hid (sv c = 1) := HV3.out h79 (Or.inl h73)
        have e1 : (c : Int) = 73 := by omega
        clear h73
        go_wp2_with fail
        refine C49.out.mono ?_
        rintro e W1 ⟨rfl, hb⟩
        have B : Hid (Below w.heap.size w W1) := hb
        clear hb
        go_wp2_with fail
        go_ret
        exact ⟨by rw [HR.out]; rfl, B.out⟩
      have f73 : ((c : Int) == 73) = false := by simp; omega
      by_cases h76 : c = 76
      · have HR : Hid (sv c = 1) := HV3.out h79 (Or.inr h76)
        have e1 : (c : Int) = 76 := by omega
        clear h76
        go_wp2_with fail
        refine C49.out.mono ?_
        rintro e W1 ⟨rfl, hb⟩
        have B : Hid (Below w.heap.size w W1) := hb
        clear hb
        go_wp2_with fail
        go_ret
        exact ⟨by rw [HR.out]; rfl, B.out⟩
      have f76 : ((c : Int) == 76) = false := by simp; omega
      have HR : Hid (sv c = Lib.indexByte sgB.data.toList (UInt8.ofNat c)) := HV4.out h79 (by omega)
      have CD : Hid (Calls Try.prog 39 #[sgS, .int .i32 (c : Int)] w fun e w' => e = .returned (.int .i64 (sv c)) ∧ Below w.heap.size w w') := by
        show Calls _ _ _ _ _
        rw [HR.out]
        exact indexRune_low w c u9
      clear HR HV2 HV3 HV4 h79 h73 h76
      generalize hsv : sv c = q at CD
      have HQ : Hid (sv c = q) := hsv
      clear hsv
      go_wp2_with fail
      refine CD.out.mono ?_
      rintro e W1 ⟨rfl, hb⟩
      have B : Hid (Below w.heap.size w W1) := hb
      clear hb
      go_wp2_with fail
      go_ret
      exact ⟨by rw [HQ.out]; rfl, B.out⟩
    · have k2 : ¬ (97 : Int) ≤ (c : Int) := by omega
      go_enter Try.func35, Try.ntmps35
      go_upto_region 3 with fail
      clear k1 k2 hsm
      have HV2 : Hid (c = 79 → sv c = 0) := fun h => by rw [HV.out, if_pos h]
      have HV3 : Hid (c ≠ 79 → c = 73 ∨ c = 76 → sv c = 1) := fun h h2 => by rw [HV.out, if_neg h, if_pos h2]
      have HV4 : Hid (c ≠ 79 → ¬ (c = 73 ∨ c = 76) → sv c = Lib.indexByte sgB.data.toList (UInt8.ofNat c)) := fun h h2 => by rw [HV.out, if_neg h, if_neg h2]
      clear HV
      by_cases h79 : c = 79
      · have HR : Hid (sv c = 0) := HV2.out h79
        have e1 : (c : Int) = 79 := by omega
        clear h79
        go_wp2_with fail
        refine C48.out.mono ?_
        rintro e W1 ⟨rfl, hb⟩
        have B : Hid (Below w.heap.size w W1) := hb
        clear hb
        go_wp2_with fail
        go_ret
        exact ⟨by rw [HR.out]; rfl, B.out⟩
      have f79 : ((c : Int) == 79) = false := by simp; omega
      by_cases h73 : c = 73
      · have HR : Hid (sv c = 1) := HV3.out h79 (Or.inl h73)
        have e1 : (c : Int) = 73 := by omega
        clear h73
        go_wp2_with fail
        refine C49.out.mono ?_
        rintro e W1 ⟨rfl, hb⟩
        have B : Hid (Below w.heap.size w W1) := hb
        clear hb
        go_wp2_with fail
        go_ret
        exact ⟨by rw [HR.out]; rfl, B.out⟩
      have f73 : ((c : Int) == 73) = false := by simp; omega
      by_cases h76 : c = 76
      · have HR : Hid (sv c = 1) := HV3.out h79 (Or.inr h76)
        have e1 : (c : Int) = 76 := by omega
        clear h76
        go_wp2_with fail
        refine C49.out.mono ?_
        rintro e W1 ⟨rfl, hb⟩
        have B : Hid (Below w.heap.size w W1) := hb
        clear hb
        go_wp2_with fail
        go_ret
        exact ⟨by rw [HR.out]; rfl, B.out⟩
      have f76 : ((c : Int) == 76) = false := by simp; omega
      have HR : Hid (sv c = Lib.indexByte sgB.data.toList (UInt8.ofNat c)) := HV4.out h79 (by omega)
      have CD : Hid (Calls Try.prog 39 #[sgS, .int .i32 (c : Int)] w fun e w' => e = .returned (.int .i64 (sv c)) ∧ Below w.heap.size w w') := by
        show Calls _ _ _ _ _
        rw [HR.out]
        exact indexRune_low w c u9
      clear HR HV2 HV3 HV4 h79 h73 h76
      generalize hsv : sv c = q at CD
      have HQ : Hid (sv c = q) := hsv
      clear hsv
      go_wp2_with fail
      refine CD.out.mono ?_
      rintro e W1 ⟨rfl, hb⟩
      have B : Hid (Below w.heap.size w W1) := hb
      clear hb
      go_wp2_with fail
      go_ret
      exact ⟨by rw [HQ.out]; rfl, B.out⟩
theorem valueOf_any (w : World) (r : Nat) (h9 : r ≤ 2147483647) :
    Calls Try.prog 35 #[.int .i32 (r : Int)] w fun e w' => e = .returned (.int .i64 (rv r)) ∧ Below w.heap.size w w' := by
  unfold rv
  split
  · exact valueOf_low w r (by assumption)
  · exact valueOf_high w r (by omega) h9

end Go.Proofs.Ytlogilmeefcipaa
