/- Names in order. -/
import Derived.Test.YtafekaonmpkhiaaCp
import Derived.Sort.LotA
import Derived.Shelf.SlSortCmp.Insertion
import Derived.Ground.NamesProg
import Derived.Shelf.Small.Strs
set_option linter.unusedSimpArgs false
set_option linter.unusedVariables false
set_option maxRecDepth 100000
namespace Go.Proofs.Ytafekaonmpkhiaa
open Go.Shelf Go.Sort Go.RowKit Go.Deep Go.PlainAid

def cmpP_ren : Go.Shelf.Ren := ⟨fun | 106 => 36 | 213 => 41 | 265 => 53 | n => n, fun | 9 => 9 | 3 => 3 | n => n, fun | n => n⟩
theorem cmpP : Go.Proofs.Lays.n106 Try.prog cmpP_ren := {
  mixed := by kernel_rfl
  f106 := Try.func36.trans (congrArg some (by kernel_rfl))
  f213 := Try.func41.trans (congrArg some (by kernel_rfl))
  f265 := Try.func53.trans (congrArg some (by kernel_rfl))
  t3 := Try.underlying3
  a3 := Try.isAgg3
  z3 := Try.sizeOf3
  v3 := Try.zeroValue3
  t9 := Try.underlying9
  a9 := Try.isAgg9
  z9 := Try.sizeOf9
  v9 := Try.zeroValue9 }
theorem compare36 (a b : ByteArray) (w : World) : Calls Try.prog 36 #[.string a, .string b] w fun e w' => e = .returned (.int .i64 (Lib.compareBytes a.data.toList b.data.toList)) ∧ w' = w := Any.strings_Compare cmpP a b w
abbrev cbB (a b : List UInt8) : Int := Lib.compareBytes a b
theorem cb_self : ∀ a, cbB a a = 0
  | [] => rfl
  | x :: a => by
    show (if x < x then (-1 : Int) else if x < x then 1 else cbB a a) = 0
    have : ¬ x < x := by rw [UInt8.lt_iff_toNat_lt]; omega
    rw [if_neg this, if_neg this, cb_self a]
theorem cb_range : ∀ a b, cbB a b = -1 ∨ cbB a b = 0 ∨ cbB a b = 1
  | [], [] => Or.inr (Or.inl rfl)
  | [], _ :: _ => Or.inl rfl
  | _ :: _, [] => Or.inr (Or.inr rfl)
  | x :: a, y :: b => by
    show (if x < y then (-1 : Int) else if y < x then 1 else cbB a b) = -1 ∨ _
    by_cases h : x < y
    · exact Or.inl (by rw [if_pos h])
    · by_cases h2 : y < x
      · refine Or.inr (Or.inr ?_)
        show (if x < y then (-1 : Int) else if y < x then 1 else cbB a b) = 1
        rw [if_neg h, if_pos h2]
      · have e : cbB (x :: a) (y :: b) = cbB a b := by
          show (if x < y then (-1 : Int) else if y < x then 1 else cbB a b) = _
          rw [if_neg h, if_neg h2]
        have := cb_range a b
        rw [← e] at this
        exact this
theorem cb_cons (x y : UInt8) (a b : List UInt8) : cbB (x :: a) (y :: b) = if x.toNat < y.toNat then -1 else if y.toNat < x.toNat then 1 else cbB a b := by
  show (if x < y then (-1 : Int) else if y < x then 1 else cbB a b) = _
  simp only [UInt8.lt_iff_toNat_lt]
theorem cb_eq : ∀ a b, cbB a b = 0 → a = b
  | [], [], _ => rfl
  | [], _ :: _, h => by cases h
  | _ :: _, [], h => by cases h
  | x :: a, y :: b, h => by
    rw [cb_cons] at h
    split at h
    · omega
    · split at h
      · omega
      · rename_i h1 h2
        have e : x = y := UInt8.toNat_inj.1 (by omega)
        rw [e, cb_eq a b h]
theorem cb_anti : ∀ a b, cbB b a = - cbB a b
  | [], [] => rfl
  | [], _ :: _ => rfl
  | _ :: _, [] => rfl
  | x :: a, y :: b => by
    rw [cb_cons, cb_cons, cb_anti a b]
    split <;> split <;> first | omega | (split <;> omega) | rfl
theorem cb_trans : ∀ a b c, cbB a b < 0 → cbB b c < 0 → cbB a c < 0
  | [], [], _, h, _ => by cases h
  | [], _ :: _, [], _, h => by cases h
  | [], _ :: _, _ :: _, _, _ => by show (-1 : Int) < 0; omega
  | _ :: _, [], _, h, _ => by cases h
  | _ :: _, _ :: _, [], _, h => by cases h
  | x :: a, y :: b, z :: c, h1, h2 => by
    rw [cb_cons] at *
    have ih := cb_trans a b c
    split at h1 <;> split at h2 <;> split <;> first | omega | skip
    all_goals (try split at h1) <;> (try split at h2) <;> (try split) <;> first | omega | (exact ih h1 h2)
/-- Names in order. -/
def cfN (a b : ByteArray) : Int := cbB a.data.toList b.data.toList
theorem cf_eq {a b : ByteArray} (h : cfN a b = 0) : a = b := by
  have := cb_eq _ _ h
  cases a; cases b
  simp only [ByteArray.mk.injEq]
  exact Array.toList_inj.1 this
theorem lt_cf (a b : ByteArray) : ltOf cfN a b = decide (cfN a b < 0) := rfl
theorem cf_swo : SWO (ltOf cfN) where
  irrefl a := by rw [lt_cf]; unfold cfN; rw [cb_self]; rfl
  trans a b c h1 h2 := by
    rw [lt_cf] at *
    exact decide_eq_true (cb_trans _ _ _ (of_decide_eq_true h1) (of_decide_eq_true h2))
  ntrans a b c h1 h2 := by
    rw [lt_cf] at *
    have k1 := of_decide_eq_false h1
    have k2 := of_decide_eq_false h2
    refine decide_eq_false fun h => ?_
    unfold cfN at *
    have e1 := cb_anti a.data.toList b.data.toList
    have e2 := cb_anti b.data.toList c.data.toList
    by_cases z1 : cbB a.data.toList b.data.toList = 0
    · rw [cb_eq _ _ z1] at h; exact k2 h
    · by_cases z2 : cbB b.data.toList c.data.toList = 0
      · rw [← cb_eq _ _ z2] at h; exact k1 h
      · have t := cb_trans c.data.toList b.data.toList a.data.toList (by omega) (by omega)
        have e3 := cb_anti a.data.toList c.data.toList
        omega
theorem cf_total {a b : ByteArray} (h1 : ltOf cfN a b = false) (h2 : ltOf cfN b a = false) : a = b := by
  rw [lt_cf] at *
  have k1 := of_decide_eq_false h1
  have k2 := of_decide_eq_false h2
  unfold cfN at *
  have e1 := cb_anti a.data.toList b.data.toList
  exact cf_eq (show cbB _ _ = 0 by omega)
end Go.Proofs.Ytafekaonmpkhiaa
