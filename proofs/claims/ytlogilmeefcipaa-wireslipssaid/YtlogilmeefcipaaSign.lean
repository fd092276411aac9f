/- The value of a sign: the document's Value, wire's valueOf; strings.IndexRune of the signs at any rune. -/
import Derived.Test.YtlogilmeefcipaaLetters
import Derived.Laws.Runes
import Derived.Laws.RangeAny
import Derived.Lib.OthersKept
import Derived.Lib.IndexLaws
set_option linter.unusedSimpArgs false
set_option linter.unusedVariables false
set_option maxRecDepth 100000
namespace Go.Proofs.Ytlogilmeefcipaa
open Go.RowKit Go.Deep Go.PlainAid

/-- A small letter is written as its capital. -/
def up (c : Nat) : Nat := if 97 ≤ c ∧ c ≤ 122 then c - 32 else c
/-- The value of a sign; -1: it is none. -/
def sv (c : Nat) : Int := if up c = 79 then 0 else if up c = 73 ∨ up c = 76 then 1 else Lib.indexByte sgB.data.toList (UInt8.ofNat (up c))
theorem sv_fin : ∀ c : Fin 256, -1 ≤ sv c.val ∧ sv c.val ≤ 36 := by decide +kernel
theorem sv_range {c : Nat} (h : c < 256) : -1 ≤ sv c ∧ sv c ≤ 36 := sv_fin ⟨c, h⟩
theorem sv_high_fin : ∀ c : Fin 256, 128 ≤ c.val → sv c.val = -1 := by decide +kernel
theorem sv_high {c : Nat} (h : c < 256) (h2 : 128 ≤ c) : sv c = -1 := sv_high_fin ⟨c, h⟩ h2
theorem ix_at : ∀ i : Fin 37, Lib.indexByte sgB.data.toList (UInt8.ofNat (bt sgB i.val)) = (i.val : Int) := by decide +kernel
theorem ix_none_fin : ∀ d : Fin 256, (∀ i : Fin 37, bt sgB i.val ≠ d.val) → Lib.indexByte sgB.data.toList (UInt8.ofNat d.val) = -1 := by decide +kernel
theorem ix_none {d : Nat} (hd : d < 256) (h : ∀ i, i < 37 → bt sgB i ≠ d) : Lib.indexByte sgB.data.toList (UInt8.ofNat d) = -1 := ix_none_fin ⟨d, hd⟩ (fun i => h i.val i.isLt)
theorem sg_ascii : ∀ b ∈ sgB.data.toList, b.toNat < 128 := by decide +kernel
set_option maxHeartbeats 1000000 in
theorem refValue_any (w : World) (c : Nat) (hc : c < 256) :
    Calls Try.prog 14 #[.int .u8 (c : Int)] w fun e w' => e = .returned (.int .i64 (sv c)) ∧ Below w.heap.size w w' := by
  have hsb := get_bs (⟨#[48, 49, 50, 51, 52, 53, 54, 55, 56, 57, 65, 66, 67, 68, 69, 70, 71, 72, 74, 75, 77, 78, 80, 81, 82, 83, 84, 86, 87, 88, 89, 90, 42, 126, 36, 61, 85]⟩ : ByteArray)
  have HV : Hid (sv c = if up c = 79 then 0 else if up c = 73 ∨ up c = 76 then 1 else Lib.indexByte sgB.data.toList (UInt8.ofNat (up c))) := rfl
  have u9 : up c < 256 := by unfold up; split <;> omega
  by_cases hsm : 97 ≤ c ∧ c ≤ 122
  · have hu : up c = c - 32 := if_pos hsm
    obtain ⟨d, hd⟩ : ∃ d, d = c - 32 := ⟨_, rfl⟩
    have k1 : (97 : Int) ≤ (c : Int) := by omega
    have k2 : (c : Int) ≤ 122 := by omega
    have k3 : (c : Int) - 32 = (d : Int) := by omega
    have k4 : IntKind.u8.wrap ((c : Int) - 32) = (d : Int) := by rw [IntKind.wrap_u8]; omega
    have k5 : ((c : Int) - 32) % 256 = (d : Int) := by omega
    rw [hu, ← hd] at HV u9
    clear hd hu hsm
    go_enter Try.func14, Try.ntmps14
    go_upto_region 3 with fail
    clear k1 k2 k3 k4 k5
    have HV2 : Hid (d = 79 → sv c = 0) := fun h => by rw [HV.out, if_pos h]
    have HV3 : Hid (d ≠ 79 → d = 73 ∨ d = 76 → sv c = 1) := fun h h2 => by rw [HV.out, if_neg h, if_pos h2]
    have HV4 : Hid (d ≠ 79 → ¬ (d = 73 ∨ d = 76) → sv c = Lib.indexByte sgB.data.toList (UInt8.ofNat d)) := fun h h2 => by rw [HV.out, if_neg h, if_neg h2]
    clear HV
    by_cases h79 : d = 79
    · have HR : Hid (sv c = 0) := HV2.out h79
      have e1 : (d : Int) = 79 := by omega
      clear h79
      go_wp2_with fail
      go_ret
      exact ⟨by rw [HR.out]; rfl, Below.refl _ _⟩
    have e79 : ¬ (d : Int) = 79 := by omega
    have f79 : ((d : Int) == 79) = false := by simpa using e79
    by_cases h73 : d = 73
    · have HR : Hid (sv c = 1) := HV3.out h79 (Or.inl h73)
      have e1 : (d : Int) = 73 := by omega
      clear h73
      go_wp2_with fail
      go_ret
      exact ⟨by rw [HR.out]; rfl, Below.refl _ _⟩
    have e73 : ¬ (d : Int) = 73 := by omega
    have f73 : ((d : Int) == 73) = false := by simpa using e73
    by_cases h76 : d = 76
    · have HR : Hid (sv c = 1) := HV3.out h79 (Or.inr h76)
      have e1 : (d : Int) = 76 := by omega
      clear h76
      go_wp2_with fail
      go_ret
      exact ⟨by rw [HR.out]; rfl, Below.refl _ _⟩
    have e76 : ¬ (d : Int) = 76 := by omega
    have f76 : ((d : Int) == 76) = false := by simpa using e76
    have HR : Hid (sv c = Lib.indexByte sgB.data.toList (UInt8.ofNat d)) := HV4.out h79 (by omega)
    clear HV2 HV3 HV4 h79 h73 h76
    go_upto_region 8 with fail
    clear e79 f79 e73 f73 e76 f76
    go_loopg [3] 37 (fun gk v3 wr => ∃ k : Nat, k + gk = 37 ∧ v3 = .int .i64 (k : Int) ∧ (∀ i, i < k → bt sgB i ≠ d) ∧ Below w.heap.size w wr)
    case atStart => exact ⟨0, by omega, rfl, fun i hi => by omega, Below.refl _ _⟩
    case round =>
      obtain ⟨k, hk, rfl, hN, hB⟩ := hrel
      have NN : Hid (∀ i, i < k → bt sgB i ≠ d) := hN
      have B : Hid (Below w.heap.size w wr) := hB
      clear hN hB
      by_cases hk2 : k < 37
      · have kk : (k : Int) < 37 := by omega
        by_cases hf : bt sgB k = d
        · have HR2 : Hid (sv c = (k : Int)) := by
            show _ = _
            rw [HR.out, ← hf]
            exact ix_at ⟨k, hk2⟩
          have b1 : (bt sgB k : Int) = (d : Int) := by omega
          clear hf
          go_wp2_with fail
          go_ret
          exact ⟨by rw [HR2.out]; rfl, B.out⟩
        · have NN2 : Hid (∀ i, i < k + 1 → bt sgB i ≠ d) := fun i hi => by
            by_cases e : i = k
            · rw [e]; exact hf
            · exact NN.out i (by omega)
          have b1 : ¬ (bt sgB k : Int) = (d : Int) := by omega
          have b2 : ((bt sgB k : Int) == (d : Int)) = false := by simpa using b1
          clear hf
          go_wp2_with fail
          go_roundg (gk - 1)
          case measure => omega
          case rel => exact ⟨k + 1, by omega, by go_num, NN2.out, B.out⟩
      · obtain rfl : k = 37 := by omega
        have HR2 : Hid (sv c = -1) := by
          show _ = _
          rw [HR.out]
          exact ix_none u9 NN.out
        have kk : ¬ ((37 : Nat) : Int) < 37 := by omega
        go_wp2_with fail
        go_ret
        exact ⟨by rw [HR2.out]; rfl, B.out⟩
  · have hu : up c = c := if_neg hsm
    rw [hu] at HV u9
    clear hu
    by_cases k1 : 97 ≤ c
    · have k2 : ¬ (c : Int) ≤ 122 := by omega
      have k3 : (97 : Int) ≤ (c : Int) := by omega
      go_enter Try.func14, Try.ntmps14
      go_upto_region 3 with fail
      clear k1 k2 k3 hsm
      have HV2 : Hid (c = 79 → sv c = 0) := fun h => by rw [HV.out, if_pos h]
      have HV3 : Hid (c ≠ 79 → c = 73 ∨ c = 76 → sv c = 1) := fun h h2 => by rw [HV.out, if_neg h, if_pos h2]
      have HV4 : Hid (c ≠ 79 → ¬ (c = 73 ∨ c = 76) → sv c = Lib.indexByte sgB.data.toList (UInt8.ofNat c)) := fun h h2 => by rw [HV.out, if_neg h, if_neg h2]
      clear HV
      by_cases h79 : c = 79
      · have HR : Hid (sv c = 0) := HV2.out h79
        have e1 : (c : Int) = 79 := by omega
        clear h79
        go_wp2_with fail
        go_ret
        exact ⟨by rw [HR.out]; rfl, Below.refl _ _⟩
      have e79 : ¬ (c : Int) = 79 := by omega
      have f79 : ((c : Int) == 79) = false := by simpa using e79
      by_cases h73 : c = 73
      · have HR : Hid (sv c = 1) := HV3.out h79 (Or.inl h73)
        have e1 : (c : Int) = 73 := by omega
        clear h73
        go_wp2_with fail
        go_ret
        exact ⟨by rw [HR.out]; rfl, Below.refl _ _⟩
      have e73 : ¬ (c : Int) = 73 := by omega
      have f73 : ((c : Int) == 73) = false := by simpa using e73
      by_cases h76 : c = 76
      · have HR : Hid (sv c = 1) := HV3.out h79 (Or.inr h76)
        have e1 : (c : Int) = 76 := by omega
        clear h76
        go_wp2_with fail
        go_ret
        exact ⟨by rw [HR.out]; rfl, Below.refl _ _⟩
      have e76 : ¬ (c : Int) = 76 := by omega
      have f76 : ((c : Int) == 76) = false := by simpa using e76
      have HR : Hid (sv c = Lib.indexByte sgB.data.toList (UInt8.ofNat c)) := HV4.out h79 (by omega)
      clear HV2 HV3 HV4 h79 h73 h76
      go_upto_region 8 with fail
      clear e79 f79 e73 f73 e76 f76
      go_loopg [3] 37 (fun gk v3 wr => ∃ k : Nat, k + gk = 37 ∧ v3 = .int .i64 (k : Int) ∧ (∀ i, i < k → bt sgB i ≠ c) ∧ Below w.heap.size w wr)
      case atStart => exact ⟨0, by omega, rfl, fun i hi => by omega, Below.refl _ _⟩
      case round =>
        obtain ⟨k, hk, rfl, hN, hB⟩ := hrel
        have NN : Hid (∀ i, i < k → bt sgB i ≠ c) := hN
        have B : Hid (Below w.heap.size w wr) := hB
        clear hN hB
        by_cases hk2 : k < 37
        · have kk : (k : Int) < 37 := by omega
          by_cases hf : bt sgB k = c
          · have HR2 : Hid (sv c = (k : Int)) := by
              show _ = _
              rw [HR.out, ← hf]
              exact ix_at ⟨k, hk2⟩
            have b1 : (bt sgB k : Int) = (c : Int) := by omega
            clear hf
            go_wp2_with fail
            go_ret
            exact ⟨by rw [HR2.out]; rfl, B.out⟩
          · have NN2 : Hid (∀ i, i < k + 1 → bt sgB i ≠ c) := fun i hi => by
              by_cases e : i = k
              · rw [e]; exact hf
              · exact NN.out i (by omega)
            have b1 : ¬ (bt sgB k : Int) = (c : Int) := by omega
            have b2 : ((bt sgB k : Int) == (c : Int)) = false := by simpa using b1
            clear hf
            go_wp2_with fail
            go_roundg (gk - 1)
            case measure => omega
            case rel => exact ⟨k + 1, by omega, by go_num, NN2.out, B.out⟩
        · obtain rfl : k = 37 := by omega
          have HR2 : Hid (sv c = -1) := by
            show _ = _
            rw [HR.out]
            exact ix_none u9 NN.out
          have kk : ¬ ((37 : Nat) : Int) < 37 := by omega
          go_wp2_with fail
          go_ret
          exact ⟨by rw [HR2.out]; rfl, B.out⟩
    · have k2 : ¬ (97 : Int) ≤ (c : Int) := by omega
      go_enter Try.func14, Try.ntmps14
      go_upto_region 3 with fail
      clear k1 k2 hsm
      have HV2 : Hid (c = 79 → sv c = 0) := fun h => by rw [HV.out, if_pos h]
      have HV3 : Hid (c ≠ 79 → c = 73 ∨ c = 76 → sv c = 1) := fun h h2 => by rw [HV.out, if_neg h, if_pos h2]
      have HV4 : Hid (c ≠ 79 → ¬ (c = 73 ∨ c = 76) → sv c = Lib.indexByte sgB.data.toList (UInt8.ofNat c)) := fun h h2 => by rw [HV.out, if_neg h, if_neg h2]
      clear HV
      by_cases h79 : c = 79
      · have HR : Hid (sv c = 0) := HV2.out h79
        have e1 : (c : Int) = 79 := by omega
        clear h79
        go_wp2_with fail
        go_ret
        exact ⟨by rw [HR.out]; rfl, Below.refl _ _⟩
      have e79 : ¬ (c : Int) = 79 := by omega
      have f79 : ((c : Int) == 79) = false := by simpa using e79
      by_cases h73 : c = 73
      · have HR : Hid (sv c = 1) := HV3.out h79 (Or.inl h73)
        have e1 : (c : Int) = 73 := by omega
        clear h73
        go_wp2_with fail
        go_ret
        exact ⟨by rw [HR.out]; rfl, Below.refl _ _⟩
      have e73 : ¬ (c : Int) = 73 := by omega
      have f73 : ((c : Int) == 73) = false := by simpa using e73
      by_cases h76 : c = 76
      · have HR : Hid (sv c = 1) := HV3.out h79 (Or.inr h76)
        have e1 : (c : Int) = 76 := by omega
        clear h76
        go_wp2_with fail
        go_ret
        exact ⟨by rw [HR.out]; rfl, Below.refl _ _⟩
      have e76 : ¬ (c : Int) = 76 := by omega
      have f76 : ((c : Int) == 76) = false := by simpa using e76
      have HR : Hid (sv c = Lib.indexByte sgB.data.toList (UInt8.ofNat c)) := HV4.out h79 (by omega)
      clear HV2 HV3 HV4 h79 h73 h76
      go_upto_region 8 with fail
      clear e79 f79 e73 f73 e76 f76
      go_loopg [3] 37 (fun gk v3 wr => ∃ k : Nat, k + gk = 37 ∧ v3 = .int .i64 (k : Int) ∧ (∀ i, i < k → bt sgB i ≠ c) ∧ Below w.heap.size w wr)
      case atStart => exact ⟨0, by omega, rfl, fun i hi => by omega, Below.refl _ _⟩
      case round =>
        obtain ⟨k, hk, rfl, hN, hB⟩ := hrel
        have NN : Hid (∀ i, i < k → bt sgB i ≠ c) := hN
        have B : Hid (Below w.heap.size w wr) := hB
        clear hN hB
        by_cases hk2 : k < 37
        · have kk : (k : Int) < 37 := by omega
          by_cases hf : bt sgB k = c
          · have HR2 : Hid (sv c = (k : Int)) := by
              show _ = _
              rw [HR.out, ← hf]
              exact ix_at ⟨k, hk2⟩
            have b1 : (bt sgB k : Int) = (c : Int) := by omega
            clear hf
            go_wp2_with fail
            go_ret
            exact ⟨by rw [HR2.out]; rfl, B.out⟩
          · have NN2 : Hid (∀ i, i < k + 1 → bt sgB i ≠ c) := fun i hi => by
              by_cases e : i = k
              · rw [e]; exact hf
              · exact NN.out i (by omega)
            have b1 : ¬ (bt sgB k : Int) = (c : Int) := by omega
            have b2 : ((bt sgB k : Int) == (c : Int)) = false := by simpa using b1
            clear hf
            go_wp2_with fail
            go_roundg (gk - 1)
            case measure => omega
            case rel => exact ⟨k + 1, by omega, by go_num, NN2.out, B.out⟩
        · obtain rfl : k = 37 := by omega
          have HR2 : Hid (sv c = -1) := by
            show _ = _
            rw [HR.out]
            exact ix_none u9 NN.out
          have kk : ¬ ((37 : Nat) : Int) < 37 := by omega
          go_wp2_with fail
          go_ret
          exact ⟨by rw [HR2.out]; rfl, B.out⟩
end Go.Proofs.Ytlogilmeefcipaa
