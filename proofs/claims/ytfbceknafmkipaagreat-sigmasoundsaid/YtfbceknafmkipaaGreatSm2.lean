/- Texts of numbers; the scalars and the sizes of the kinds. -/
import Derived.Test.YtfbceknafmkipaaGreatKinds
import Derived.Test.YtfbceknafmkipaaGreatSm
set_option linter.unusedSimpArgs false
set_option linter.unusedVariables false
set_option maxRecDepth 100000
namespace Go.Proofs.YtfbceknafmkipaaGreat
open Go.RowKit Go.Deep Go.PlainAid

theorem beV_beB (n : Nat) : ∀ k, beV (beB k n) = n % 256 ^ k
  | 0 => by simp [beB, beV, Nat.mod_one]
  | k + 1 => by
    rw [beB, beV, beV_beB n k, beB_length, Nat.mod_pow_succ, UInt8.toNat_ofNat']
    have : n / 256 ^ k % 256 % 2 ^ 8 = n / 256 ^ k % 256 := Nat.mod_eq_of_lt (by omega)
    rw [this, Nat.mul_comm]
    omega
theorem beB_add (n : Nat) : ∀ (k c : Nat), beB k (n + 256 ^ k * c) = beB k n
  | 0, _ => rfl
  | k + 1, c => by
    have e : n + 256 ^ (k + 1) * c = n + 256 ^ k * (256 * c) := by rw [Nat.pow_succ, Nat.mul_assoc]
    rw [e, beB, beB, beB_add n k, Nat.add_mul_div_left _ _ (Nat.pow_pos (by omega)), Nat.add_mul_mod_self_left]
theorem beB_beV : ∀ l : List UInt8, beB l.length (beV l) = l
  | [] => rfl
  | c :: l => by
    have hl := beV_lt l
    rw [List.length_cons, beB, beV]
    have h1 : (c.toNat * 256 ^ l.length + beV l) / 256 ^ l.length % 256 = c.toNat := by
      rw [Nat.add_comm, Nat.add_mul_div_right _ _ (Nat.pow_pos (by omega)), Nat.div_eq_of_lt hl, Nat.zero_add]
      exact Nat.mod_eq_of_lt (UInt8.toNat_lt c)
    rw [h1]
    have h2 : beB l.length (c.toNat * 256 ^ l.length + beV l) = l := by
      rw [Nat.add_comm, Nat.mul_comm, beB_add]
      exact beB_beV l
    rw [h2]
    congr 1
    exact UInt8.ofNat_toNat
/-- The text of a number in S bytes. -/
def TX (S n : Nat) : ByteArray := ⟨(beB S n).toArray⟩
theorem numS_TX {S n : Nat} (h : n < 256 ^ S) : numS (TX S n) = n := by
  unfold numS TX
  rw [List.toList_toArray, beV_beB, Nat.mod_eq_of_lt h]
theorem size_TX (S n : Nat) : (TX S n).size = S := by
  show (beB S n).toArray.size = S
  rw [List.size_toArray, beB_length]
theorem TX_numS {S : Nat} {s : ByteArray} (h : s.size = S) : TX S (numS s) = s := by
  unfold TX numS
  have e : S = s.data.toList.length := by rw [← h]; rfl
  rw [e, beB_beV]
theorem isSc_TX {S M n : Nat} (h : n < M) (hM : M ≤ 256 ^ S) : isSc S M (TX S n) = true := decide_eq_true ⟨size_TX S n, by rw [numS_TX (Nat.lt_of_lt_of_le h hM)]; exact h⟩
theorem isSc_inj {S M : Nat} {s t : ByteArray} (h : isSc S M s = true) (h' : isSc S M t = true) (e : numS s = numS t) : s = t := by
  rw [← TX_numS (isSc_size h), ← TX_numS (isSc_size h'), e]
section
variable {z : Int} {G : Array Value} {S Wd M low one sq Ri Wd2 M2 low2 one2 sq2 Ri2 : Nat}
theorem scalar13 (k : KD z G S Wd M low one sq Ri Wd2 M2 low2 one2 sq2 Ri2) (s : ByteArray) (W : World) : Calls Tryz.prog 47 #[.int .i64 z, .string s] W fun e w' => e = .returned (.bool (isSc S M s)) ∧ Below W.heap.size W w' :=
  scalar_face (c := if isSc S M s then 0 else 6) (by cases isSc S M s <;> rfl) (fun W cp hc => on57_58 hc k.hG k.hi k.h1 k.CG (fun W g hI hc => clos58 hc (fun W' hb => scalarA ((k.gh W g hI).of_below hb) s k.hS k.big)))
theorem noScalar (k : KD z G S Wd M low one sq Ri Wd2 M2 low2 one2 sq2 Ri2) (s : ByteArray) (W : World) : Calls Tryz.prog 24 #[.agg #[.int .i64 z], .string s] W fun e w' => e = .returned (.bool (!isSc S M s)) ∧ Below W.heap.size W w' := noScalar44 (fun W => scalar13 k s W)
theorem groundOf_yes (k : KD z G S Wd M low one sq Ri Wd2 M2 low2 one2 sq2 Ri2) (W : World) : Calls Tryz.prog 30 #[.int .i64 z] W fun e w' => e = .returned (.tuple #[.agg #[.int .i64 z], .int .i64 0]) ∧ Below W.heap.size W w' :=
  groundOf30 (s := (S : Int)) (fun W => sizes_call (on46_ok k.hG k.hi k.h1 k.CG (fun W g hI => sizes_any (S := S) (k.gh W g hI).c)))
end
theorem groundOf_no {z : Int} (z1 : z ≠ 1) (z2 : z ≠ 2) (z3 : z ≠ 3) (W : World) : Calls Tryz.prog 30 #[.int .i64 z] W fun e w' => e = .returned (.tuple #[.agg #[.int .i64 z], .int .i64 1]) ∧ Below W.heap.size W w' :=
  groundOf30 (s := 0) (fun W => sizes_call (on46_no 87 rfl size70 (by kernel_rfl) (fun W => ground0 W z (beq_eq_false_iff_ne.2 z1) (beq_eq_false_iff_ne.2 z2) (beq_eq_false_iff_ne.2 z3))))
end Go.Proofs.YtfbceknafmkipaaGreat
