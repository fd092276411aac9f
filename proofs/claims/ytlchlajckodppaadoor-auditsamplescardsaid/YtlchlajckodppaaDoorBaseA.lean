/- Plain: numbers as lists of digits to a base, the lowest first; texts of digits. No Go text is named here. -/
import Derived.WalkKit
import Derived.Test.YtlchlajckodppaaDoorRows
import Derived.WalkSpells
import Derived.WalkLawsBesides
import Derived.Handy
import Derived.Deep.Draws
import Derived.Deep.MidRow
import Derived.Deep.QuietTactic
import Derived.BigQuiet
import Derived.Deep.LoopGhost
import Derived.Laws.IdiomCopy
import Derived.Deep.OwnRows
import Derived.PlainAid
import Derived.Deep.RegionWith
import Derived.Laws.BytesArg
import Derived.Lib.LazyBuf
set_option linter.unusedSimpArgs false
set_option linter.unusedVariables false
namespace Go.Proofs.YtlchlajckodppaaDoor

/-- What a list of digits is worth. -/
def vl (B : Nat) : List Nat → Nat
  | [] => 0
  | d :: r => d + B * vl B r

theorem vl_append (B : Nat) : ∀ l r : List Nat, vl B (l ++ r) = vl B l + B ^ l.length * vl B r
  | [], r => by simp [vl]
  | d :: l, r => by
    have := vl_append B l r
    simp only [List.cons_append, vl, this, List.length_cons]
    grind
theorem vl_snoc (B : Nat) (l : List Nat) (d : Nat) : vl B (l ++ [d]) = vl B l + B ^ l.length * d := by
  rw [vl_append]; simp [vl]
theorem vl_lt (B : Nat) : ∀ l : List Nat, (∀ d ∈ l, d < B) → vl B l < B ^ l.length
  | [], _ => by simp [vl]
  | d :: l, h => by
    have h1 := vl_lt B l (fun x hx => h x (by simp [hx]))
    have h2 := h d (by simp)
    simp only [vl, List.length_cons]
    have h3 : B * (vl B l + 1) ≤ B * B ^ l.length := Nat.mul_le_mul_left _ h1
    have h4 : B ^ (l.length + 1) = B * B ^ l.length := by grind
    rw [h4]
    have h5 : B * (vl B l + 1) = B * vl B l + B := by grind
    omega
theorem vl_zeros (B : Nat) (k : Nat) : vl B (List.replicate k 0) = 0 := by
  induction k with
  | zero => rfl
  | succ k ih => simp [List.replicate_succ, vl, ih]
theorem vl_append_zeros (B : Nat) (l : List Nat) (k : Nat) : vl B (l ++ List.replicate k 0) = vl B l := by
  rw [vl_append, vl_zeros]; simp

/-- The digits of a number. -/
def dg (B n : Nat) : List Nat := if h : n = 0 ∨ B < 2 then [] else n % B :: dg B (n / B)
termination_by n
decreasing_by exact Nat.div_lt_self (by omega) (by omega)

theorem dg_zero (B : Nat) : dg B 0 = [] := by rw [dg]; simp
theorem dg_pos {B n : Nat} (hB : 2 ≤ B) (hn : n ≠ 0) : dg B n = n % B :: dg B (n / B) := by
  rw [dg, dif_neg (by omega)]
theorem dg_eq_nil {B n : Nat} (hB : 2 ≤ B) : dg B n = [] ↔ n = 0 := by
  constructor
  · intro h
    by_cases h0 : n = 0
    · exact h0
    · rw [dg_pos hB h0] at h; cases h
  · rintro rfl; exact dg_zero B
theorem dg_length_zero {B n : Nat} (hB : 2 ≤ B) : (dg B n).length = 0 ↔ n = 0 := by
  rw [List.length_eq_zero_iff, dg_eq_nil hB]
theorem vl_dg {B : Nat} (hB : 2 ≤ B) (n : Nat) : vl B (dg B n) = n := by
  induction n using Nat.strongRecOn with
  | _ n ih =>
    by_cases h0 : n = 0
    · subst h0; rw [dg_zero]; rfl
    · rw [dg_pos hB h0, vl, ih (n / B) (Nat.div_lt_self (by omega) (by omega))]
      exact Nat.mod_add_div n B
theorem dg_mem {B : Nat} (hB : 2 ≤ B) (n : Nat) : ∀ d ∈ dg B n, d < B := by
  induction n using Nat.strongRecOn with
  | _ n ih =>
    by_cases h0 : n = 0
    · subst h0; rw [dg_zero]; intro d hd; cases hd
    · rw [dg_pos hB h0]
      intro d hd
      rcases List.mem_cons.1 hd with rfl | hd
      · exact Nat.mod_lt _ (by omega)
      · exact ih (n / B) (Nat.div_lt_self (by omega) (by omega)) d hd
/-- The top digit is not 0. -/
def Topped (l : List Nat) : Prop := l = [] ∨ l.getD (l.length - 1) 0 ≠ 0
theorem dg_vl {B : Nat} (hB : 2 ≤ B) : ∀ l : List Nat, (∀ d ∈ l, d < B) → Topped l → dg B (vl B l) = l
  | [], _, _ => dg_zero B
  | d :: l, h, ht => by
    have hd := h d (by simp)
    have hl : ∀ x ∈ l, x < B := fun x hx => h x (by simp [hx])
    rcases ht with ht | ht
    · cases ht
    · by_cases hn : l = []
      · subst hn
        simp at ht
        have : vl B [d] = d := by simp [vl]
        rw [this, dg_pos hB ht, Nat.mod_eq_of_lt hd, Nat.div_eq_of_lt hd, dg_zero]
      · have hpos : 0 < l.length := List.length_pos_iff.2 hn
        have ht2 : Topped l := Or.inr (by
          have e : (d :: l).length - 1 = (l.length - 1) + 1 := by simp; omega
          rw [e, List.getD_cons_succ] at ht
          exact ht)
        have ih := dg_vl hB l hl ht2
        have hv : vl B l ≠ 0 := fun h0 => by rw [h0, dg_zero] at ih; exact hn ih.symm
        have hv2 : vl B (d :: l) ≠ 0 := by
          simp only [vl]
          have : 0 < B * vl B l := Nat.mul_pos (by omega) (by omega)
          omega
        rw [dg_pos hB hv2]
        simp only [vl]
        rw [Nat.add_mul_mod_self_left, Nat.mod_eq_of_lt hd, Nat.add_mul_div_left _ _ (by omega), Nat.div_eq_of_lt hd, Nat.zero_add, ih]
theorem dg_topped {B : Nat} (hB : 2 ≤ B) (n : Nat) : Topped (dg B n) := by
  induction n using Nat.strongRecOn with
  | _ n ih =>
    by_cases h0 : n = 0
    · subst h0; exact Or.inl (dg_zero B)
    · refine Or.inr ?_
      rw [dg_pos hB h0]
      rcases ih (n / B) (Nat.div_lt_self (by omega) (by omega)) with h | h
      · rw [h]
        have : n / B = 0 := (dg_eq_nil hB).1 h
        have hlt : n < B := (Nat.div_eq_zero_iff_lt (by omega)).1 this
        simp [Nat.mod_eq_of_lt hlt, h0]
      · by_cases hn : dg B (n / B) = []
        · rw [hn] at h; simp at h
        · have hpos : 0 < (dg B (n / B)).length := List.length_pos_iff.2 hn
          have e : (n % B :: dg B (n / B)).length - 1 = ((dg B (n / B)).length - 1) + 1 := by simp; omega
          rw [e, List.getD_cons_succ]
          exact h
theorem lt_pow_dg {B : Nat} (hB : 2 ≤ B) (n : Nat) : n < B ^ (dg B n).length := by
  have := vl_lt B (dg B n) (dg_mem hB n)
  rwa [vl_dg hB] at this
theorem dg_len_le {B : Nat} (hB : 2 ≤ B) : ∀ (k n : Nat), n < B ^ k → (dg B n).length ≤ k
  | 0, n, h => by simp at h; subst h; simp [dg_zero]
  | k + 1, n, h => by
    by_cases h0 : n = 0
    · subst h0; simp [dg_zero]
    · rw [dg_pos hB h0, List.length_cons]
      have : n / B < B ^ k := by
        rw [Nat.div_lt_iff_lt_mul (by omega)]
        have : B ^ (k + 1) = B ^ k * B := by grind
        omega
      have := dg_len_le hB k (n / B) this
      omega
theorem pow_le_of_len {B : Nat} (hB : 2 ≤ B) : ∀ (k n : Nat), k < (dg B n).length → B ^ k ≤ n := by
  intro k n h
  by_cases hc : B ^ k ≤ n
  · exact hc
  · have := dg_len_le hB k n (by omega)
    omega
theorem dg_len_mono {B : Nat} (hB : 2 ≤ B) {n m : Nat} (h : n ≤ m) : (dg B n).length ≤ (dg B m).length :=
  dg_len_le hB _ _ (Nat.lt_of_le_of_lt h (lt_pow_dg hB m))
theorem lt_of_len_lt {B : Nat} (hB : 2 ≤ B) {n m : Nat} (h : (dg B n).length < (dg B m).length) : n < m := by
  by_cases hc : n < m
  · exact hc
  · have := dg_len_mono hB (show m ≤ n by omega)
    omega
theorem dg_inj {B : Nat} (hB : 2 ≤ B) {n m : Nat} (h : dg B n = dg B m) : n = m := by
  rw [← vl_dg hB n, h, vl_dg hB m]
/-- A list of digits, without what is 0 at its top. -/
theorem dg_of_vl {B : Nat} (hB : 2 ≤ B) (l : List Nat) (n : Nat) (hl : ∀ d ∈ l, d < B) (hv : vl B l = n) (ht : Topped l) : l = dg B n := by
  rw [← hv, dg_vl hB l hl ht]

/-- Two lists that part at i, and are the same above it. -/
theorem vl_part {B : Nat} (l r : List Nat) (i : Nat) (hl : ∀ d ∈ l, d < B) (hi : i < l.length) (hi' : i < r.length) (he : l.drop (i + 1) = r.drop (i + 1)) (hlt : l[i] < r[i]) : vl B l < vl B r := by
  have e1 : l = l.take i ++ (l[i] :: l.drop (i + 1)) := by rw [← List.drop_eq_getElem_cons hi, List.take_append_drop]
  have e2 : r = r.take i ++ (r[i] :: r.drop (i + 1)) := by rw [← List.drop_eq_getElem_cons hi', List.take_append_drop]
  have h1 := vl_lt B (l.take i) (fun d hd => hl d (List.mem_of_mem_take hd))
  have h2 : vl B l = vl B (l.take i) + B ^ i * (l[i] + B * vl B (l.drop (i + 1))) := by
    have := vl_append B (l.take i) (l[i] :: l.drop (i + 1))
    rw [← e1] at this
    rw [this, List.length_take, Nat.min_eq_left (by omega)]; rfl
  have h3 : vl B r = vl B (r.take i) + B ^ i * (r[i] + B * vl B (r.drop (i + 1))) := by
    have := vl_append B (r.take i) (r[i] :: r.drop (i + 1))
    rw [← e2] at this
    rw [this, List.length_take, Nat.min_eq_left (by omega)]; rfl
  rw [List.length_take, Nat.min_eq_left (by omega)] at h1
  rw [h2, h3, he]
  generalize B * vl B (r.drop (i + 1)) = Q
  have h4 : B ^ i * (l[i] + Q + 1) ≤ B ^ i * (r[i] + Q) := Nat.mul_le_mul_left _ (by omega)
  have h5 : B ^ i * (l[i] + Q + 1) = B ^ i * (l[i] + Q) + B ^ i := by grind
  omega

/-! ### Texts of digits -/
/-- What a text of digits is worth. -/
def bv (l : List UInt8) : Nat := l.foldl (fun a c => a * 10 + (c.toNat - 48)) 0
theorem bv_from (l : List UInt8) : ∀ a : Nat, l.foldl (fun a c => a * 10 + (c.toNat - 48)) a = a * 10 ^ l.length + bv l := by
  induction l with
  | nil => intro a; simp [bv]
  | cons c l ih =>
    intro a
    have h1 := ih (a * 10 + (c.toNat - 48))
    have h2 := ih (0 * 10 + (c.toNat - 48))
    simp only [bv, List.foldl_cons] at *
    rw [h1, h2, List.length_cons]
    grind
theorem bv_append (l r : List UInt8) : bv (l ++ r) = bv l * 10 ^ r.length + bv r := by
  unfold bv
  rw [List.foldl_append, bv_from]; rfl
theorem bv_snoc (l : List UInt8) (c : UInt8) : bv (l ++ [c]) = bv l * 10 + (c.toNat - 48) := by
  rw [bv_append]; simp [bv]
theorem bv_cons (c : UInt8) (l : List UInt8) : bv (c :: l) = (c.toNat - 48) * 10 ^ l.length + bv l := by
  have := bv_append [c] l
  simpa [bv] using this
/-- All are digits. -/
def isDig (c : UInt8) : Bool := 48 ≤ c.toNat && c.toNat ≤ 57
def allDig (l : List UInt8) : Bool := l.all isDig
theorem bv_lt : ∀ l : List UInt8, allDig l = true → bv l < 10 ^ l.length
  | [], _ => by simp [bv]
  | c :: l, h => by
    simp only [allDig, List.all_cons, Bool.and_eq_true, isDig, decide_eq_true_eq] at h
    have h1 := bv_lt l (by simp only [allDig]; exact h.2)
    rw [bv_cons, List.length_cons]
    have h2 : (c.toNat - 48 + 1) * 10 ^ l.length ≤ 10 * 10 ^ l.length := Nat.mul_le_mul_right _ (by omega)
    have h3 : (10 : Nat) ^ (l.length + 1) = 10 * 10 ^ l.length := by grind
    have h4 : (c.toNat - 48 + 1) * 10 ^ l.length = (c.toNat - 48) * 10 ^ l.length + 10 ^ l.length := by grind
    omega
/-- The digits of a text, the lowest first. -/
def dl (l : List UInt8) : List Nat := l.reverse.map fun c => c.toNat - 48
theorem dl_length (l : List UInt8) : (dl l).length = l.length := by simp [dl]
theorem dl_cons (c : UInt8) (l : List UInt8) : dl (c :: l) = dl l ++ [c.toNat - 48] := by simp [dl]
theorem vl_dl : ∀ l : List UInt8, vl 10 (dl l) = bv l
  | [] => rfl
  | c :: l => by
    rw [dl_cons, vl_snoc, vl_dl l, dl_length, bv_cons, Nat.mul_comm]; omega
theorem dl_lt (l : List UInt8) (h : allDig l = true) : ∀ d ∈ dl l, d < 10 := by
  intro d hd
  simp only [dl, List.mem_map, List.mem_reverse] at hd
  obtain ⟨c, hc, rfl⟩ := hd
  have := (List.all_eq_true.1 h) c hc
  simp only [isDig, Bool.and_eq_true, decide_eq_true_eq] at this
  omega
/-- A text that is a number. -/
def isNum (l : List UInt8) : Bool := allDig l && (l == [48] || (l != [] && l.head? != some 48))
/-- The text of a list of digits. -/
def chars (l : List Nat) : List UInt8 := l.reverse.map fun d => UInt8.ofNat (d + 48)
/-- The text of a number. -/
def txt (n : Nat) : List UInt8 := if n = 0 then [48] else chars (dg 10 n)
theorem chars_dl (l : List UInt8) (h : allDig l = true) : chars (dl l) = l := by
  simp only [chars, dl, List.map_reverse, List.reverse_reverse, List.map_map]
  apply List.ext_getElem (by simp)
  intro i h1 h2
  have := (List.all_eq_true.1 h) l[i] (List.getElem_mem _)
  simp only [isDig, Bool.and_eq_true, decide_eq_true_eq] at this
  simp only [List.getElem_map, Function.comp]
  apply UInt8.toNat_inj.1
  rw [UInt8.toNat_ofNat']
  omega
theorem txt_bv (l : List UInt8) (h : isNum l = true) : txt (bv l) = l := by
  simp only [isNum, Bool.and_eq_true, Bool.or_eq_true, beq_iff_eq, bne_iff_ne, ne_eq] at h
  obtain ⟨ha, h | ⟨h1, h2⟩⟩ := h
  · subst h; rfl
  · cases l with
    | nil => exact absurd rfl h1
    | cons c l =>
      simp only [List.head?_cons, Option.some.injEq] at h2
      have hc := (List.all_eq_true.1 ha) c (by simp)
      simp only [isDig, Bool.and_eq_true, decide_eq_true_eq] at hc
      have hc2 : c.toNat ≠ 48 := fun e => h2 (UInt8.toNat_inj.1 e)
      have ht : Topped (dl (c :: l)) := Or.inr (by
        rw [dl_cons, List.length_append]
        simp
        omega)
      have hd := dg_vl (by omega) (dl (c :: l)) (dl_lt _ ha) ht
      rw [vl_dl] at hd
      have hz : bv (c :: l) ≠ 0 := fun e => by
        rw [e, dg_zero] at hd
        rw [dl_cons] at hd
        simp at hd
      rw [txt, if_neg hz, hd, chars_dl _ ha]
theorem allDig_chars (l : List Nat) (h : ∀ d ∈ l, d < 10) : allDig (chars l) = true := by
  simp only [allDig, chars, List.all_map, List.all_reverse, List.all_eq_true]
  intro d hd
  have := h d hd
  simp only [Function.comp, isDig, UInt8.toNat_ofNat', Bool.and_eq_true, decide_eq_true_eq]
  omega
theorem dl_chars (l : List Nat) (h : ∀ d ∈ l, d < 10) : dl (chars l) = l := by
  simp only [chars, dl, List.map_reverse, List.reverse_reverse, List.map_map]
  apply List.ext_getElem (by simp)
  intro i h1 h2
  have := h l[i] (List.getElem_mem _)
  simp only [List.getElem_map, Function.comp, UInt8.toNat_ofNat']
  omega
theorem bv_txt (n : Nat) : bv (txt n) = n := by
  by_cases h : n = 0
  · subst h; rfl
  · rw [txt, if_neg h, ← vl_dl, dl_chars _ (dg_mem (by omega) n), vl_dg (by omega)]
theorem isNum_txt (n : Nat) : isNum (txt n) = true := by
  by_cases h : n = 0
  · subst h; rfl
  · rw [txt, if_neg h]
    have hm := dg_mem (show 2 ≤ 10 by omega) n
    have ht := dg_topped (show 2 ≤ 10 by omega) n
    have hne : dg 10 n ≠ [] := fun e => h ((dg_eq_nil (by omega)).1 e)
    simp only [isNum, allDig_chars _ hm, Bool.true_and, Bool.or_eq_true, Bool.and_eq_true, bne_iff_ne, ne_eq]
    refine Or.inr ⟨by simpa [chars] using hne, ?_⟩
    rcases ht with ht | ht
    · exact absurd ht hne
    · simp only [chars, List.head?_map, List.head?_reverse, List.getLast?_eq_getElem?]
      have hpos : 0 < (dg 10 n).length := List.length_pos_iff.2 hne
      rw [List.getElem?_eq_getElem (by omega)]
      simp only [Option.map_some, Option.some.injEq]
      intro e
      have e2 := congrArg UInt8.toNat e
      have hlt := hm _ (List.getElem_mem (show (dg 10 n).length - 1 < (dg 10 n).length by omega))
      rw [UInt8.toNat_ofNat'] at e2
      rw [List.getD_eq_getElem?_getD, List.getElem?_eq_getElem (by omega)] at ht
      simp at ht
      have : (48 : UInt8).toNat = 48 := rfl
      omega
theorem txt_length (n : Nat) : (txt n).length = if n = 0 then 1 else (dg 10 n).length := by
  unfold txt; split <;> simp [chars]
theorem txt_inj {n m : Nat} (h : txt n = txt m) : n = m := by rw [← bv_txt n, h, bv_txt]
theorem txt_len_le (n k : Nat) (hk : 1 ≤ k) (h : n < 10 ^ k) : (txt n).length ≤ k := by
  rw [txt_length]; split
  · exact hk
  · exact dg_len_le (by omega) k n h
end Go.Proofs.YtlchlajckodppaaDoor

/- Numbers in memory: a slice whose cells hold the digits; the walks of limb, isZero, isOne, trimmed and of the reference's at and trim. -/
set_option linter.unusedSimpArgs false
set_option linter.unusedVariables false
namespace Go.Proofs.YtlchlajckodppaaDoor
open Go.RowKit

/-- A number of the program's own as it holds it. -/
abbrev I (x : Nat) : Value := .int .i64 (x : Int)
/-- At a lie these numbers. -/
def Row (w : World) (a : Option Addr) (l : List Nat) : Prop := ∀ i (h : i < l.length), ∃ b o, a = some ⟨b, o, none⟩ ∧ w.cell? ⟨b, o + i, none⟩ = some (I l[i])
theorem Row.nil (w : World) (a : Option Addr) : Row w a [] := fun i h => by cases h
theorem Row.of_below {w w' : World} {a : Option Addr} {l : List Nat} (h : Row w a l) (hb : Below w.heap.size w w') : Row w' a l := by
  intro i hi
  obtain ⟨b, o, ha, hc⟩ := h i hi
  exact ⟨b, o, ha, by rw [hb.cell (World.block_lt_of_cell? _ _ hc)]; exact hc⟩
theorem Row.take {w : World} {a : Option Addr} {l : List Nat} (h : Row w a l) (k : Nat) : Row w a (l.take k) := by
  intro i hi
  rw [List.length_take] at hi
  obtain ⟨b, o, ha, hc⟩ := h i (by omega)
  exact ⟨b, o, ha, by rw [List.getElem_take]; exact hc⟩
theorem Row.drew {w : World} {a : Option Addr} {l : List Nat} (h : Row w a l) (n : Nat) : Row (w.drewN n) a l := h
/-- A value that is the number n to the base B. -/
def NumV (w : World) (B n : Nat) (v : Value) : Prop := ∃ a cap, v = .slice a (dg B n).length cap ∧ (dg B n).length ≤ cap ∧ Row w a (dg B n)
theorem NumV.of_below {w w' : World} {B n : Nat} {v : Value} (h : NumV w B n v) (hb : Below w.heap.size w w') : NumV w' B n v := by
  obtain ⟨a, cap, h1, h2, h3⟩ := h
  exact ⟨a, cap, h1, h2, h3.of_below hb⟩

set_option maxHeartbeats 400000 in
theorem at_any (w : World) (a : Option Addr) (l : List Nat) (cap i : Nat) (hr : Row w a l) :
    Calls Tryd.prog 21 #[.slice a l.length cap, .int .i64 (i : Int)] w fun e w' => e = .returned (I (l.getD i 0)) ∧ w' = w := by
  go_enter Tryd.func21, Tryd.ntmps21
  by_cases hi : i < l.length
  · obtain ⟨b, o, rfl, hc⟩ := hr i hi
    have il : (i : Int) < (l.length : Int) := by omega
    have e : l.getD i 0 = l[i] := by simp [List.getD_eq_getElem?_getD, hi]
    rw [e]
    generalize l[i] = x at *
    clear e
    go_wp2_with fail
    go_ret
    exact ⟨rfl, rfl⟩
  · have il : ¬ (i : Int) < (l.length : Int) := by omega
    have e : l.getD i 0 = 0 := by simp [List.getD_eq_getElem?_getD]; rw [List.getElem?_eq_none (by omega)]; rfl
    rw [e]
    go_wp2_with fail
    go_ret
    exact ⟨rfl, rfl⟩

/-! ### Zeros at the top are left out -/
theorem trim_step {B : Nat} {l : List Nat} {k : Nat} (hk : 0 < k) (hl : k ≤ l.length) (hv : vl B (l.take k) = vl B l) (h0 : l[k - 1] = 0) : vl B (l.take (k - 1)) = vl B l := by
  have e : l.take k = l.take (k - 1) ++ [l[k - 1]] := by
    have := List.take_succ_eq_append_getElem (show k - 1 < l.length by omega)
    rwa [show k - 1 + 1 = k by omega] at this
  rw [← hv, e, h0, vl_snoc]; simp
theorem trim_end {B : Nat} (hB : 2 ≤ B) {w : World} {a : Option Addr} {l : List Nat} {k cap : Nat} (hr : Row w a l) (hc : l.length ≤ cap) (hd : ∀ d ∈ l, d < B) (hl : k ≤ l.length) (hv : vl B (l.take k) = vl B l)
    (h0 : ∀ h : 0 < k, l[k - 1] ≠ 0) : NumV w B (vl B l) (.slice a k cap) := by
  have ht : Topped (l.take k) := by
    by_cases hk : 0 < k
    · refine Or.inr ?_
      have e : (l.take k).length - 1 = k - 1 := by rw [List.length_take]; omega
      have hlt : k - 1 < (l.take k).length := by rw [List.length_take]; omega
      rw [e, List.getD_eq_getElem?_getD, List.getElem?_eq_getElem hlt, List.getElem_take]
      exact h0 hk
    · refine Or.inl ?_
      have : k = 0 := by omega
      subst this; rfl
  have hdg : dg B (vl B l) = l.take k := by
    rw [← hv]; exact dg_vl hB _ (fun d hd' => hd d (List.mem_of_mem_take hd')) ht
  refine ⟨a, cap, ?_, ?_, ?_⟩
  · rw [hdg, List.length_take, Nat.min_eq_left hl]
  · rw [hdg, List.length_take]; omega
  · rw [hdg]; exact hr.take k

set_option maxHeartbeats 400000 in
theorem trim_any (B : Nat) (hB : 2 ≤ B) (w : World) (a : Option Addr) (l : List Nat) (cap : Nat) (hr : Row w a l) (hc : l.length ≤ cap) (hl : ∀ d ∈ l, d < B) (hn : cap ≤ 9223372036854775807) :
    Calls Tryd.prog 22 #[.slice a l.length cap] w fun e w' => (∃ v, e = .returned v ∧ NumV w B (vl B l) v) ∧ w' = w := by
  have HL : Hid (∀ d ∈ l, d < B) := hl
  clear hl
  go_enter Tryd.func22, Tryd.ntmps22
  go_wp2_with fail
  go_loop [0] (fun s => ∃ k : Nat, k ≤ l.length ∧ s = .slice a k cap ∧ vl B (l.take k) = vl B l) (fun s => match s with | .slice _ k _ => k | _ => 0)
  case atStart => exact ⟨l.length, Nat.le_refl _, rfl, by rw [List.take_length]⟩
  case round =>
    obtain ⟨k, hk, rfl, hv⟩ := hrel
    by_cases hlt : 0 < k
    · obtain ⟨b, o, rfl, hcell⟩ := hr (k - 1) (by omega)
      have HV : Hid (vl B (l.take k) = vl B l) := hv
      clear hv
      by_cases hz : l[k - 1] = 0
      · have HS := trim_step hlt hk HV.out hz
        have HH : Hid (vl B (l.take (k - 1)) = vl B l) := HS
        rw [hz] at hcell
        clear HS HV
        go_wp2_with fail
        exact ⟨⟨k - 1, by omega, rfl, HH.out⟩, by show k - 1 < k; omega⟩
      · have HE : Hid (NumV w B (vl B l) (.slice (some ⟨b, o, none⟩) k cap)) := trim_end hB hr hc HL.out hk HV.out (fun _ => hz)
        have hz' : ((l[k - 1] : Int) == 0) = false := by simp; omega
        generalize l[k - 1] = x at *
        go_wp2_with fail
        go_ret
        exact ⟨⟨_, rfl, HE.out⟩, rfl⟩
    · obtain rfl : k = 0 := by omega
      have HE : Hid (NumV w B (vl B l) (.slice a 0 cap)) := trim_end hB hr hc HL.out hk hv (fun h => by omega)
      have hd : decide ((0 : Int) < 0) = false := by decide
      go_wp2_with fail
      go_ret
      exact ⟨⟨_, rfl, HE.out⟩, rfl⟩

end Go.Proofs.YtlchlajckodppaaDoor
namespace Go.Proofs.YtlchlajckodppaaDoor
theorem vl_take_succ (B : Nat) (l : List Nat) (i : Nat) : vl B (l.take (i + 1)) = vl B (l.take i) + B ^ i * l.getD i 0 := by
  by_cases h : i < l.length
  · rw [List.take_succ_eq_append_getElem h, vl_snoc, List.length_take, Nat.min_eq_left (by omega), List.getD_eq_getElem?_getD, List.getElem?_eq_getElem h]; rfl
  · rw [List.take_of_length_le (by omega), List.take_of_length_le (by omega), List.getD_eq_getElem?_getD, List.getElem?_eq_none (by omega)]; simp
/-- What holds when i limbs were gone through: p are the new ones, c is carried. -/
structure Puts (B : Nat) (l m : List Nat) (t : Int) (i : Nat) (p : List Nat) (c : Int) : Prop where
  len : p.length = i
  low : ∀ d ∈ p, d < B
  eq : (vl B (l.take i) : Int) + t * (vl B (m.take i) : Int) = (vl B p : Int) + c * (B : Int) ^ i
  hi : c ≤ t ∨ c ≤ 0
  lo : t ≤ c ∨ 0 ≤ c
theorem Puts.zero (B : Nat) (l m : List Nat) (t : Int) : Puts B l m t 0 [] 0 :=
  ⟨rfl, (fun d h => by cases h), by simp [vl], Or.inr (by omega), Or.inr (by omega)⟩
theorem Puts.step {B : Nat} {l m : List Nat} {t : Int} {i : Nat} {p : List Nat} {c : Int} (h : Puts B l m t i p c) (hB : 2 ≤ B) (x : Nat) (c' : Int) (hx : x < B) (hl : ∀ d ∈ l, d < B) (hm : ∀ d ∈ m, d < B)
    (he : (l.getD i 0 : Int) + t * (m.getD i 0 : Int) + c = (x : Int) + c' * (B : Int)) : Puts B l m t (i + 1) (p ++ [x]) c' := by
  have e1 := vl_take_succ B l i
  have e2 := vl_take_succ B m i
  have e3 := vl_snoc B p x
  have hli : l.getD i 0 < B := by
    by_cases hi : i < l.length
    · rw [List.getD_eq_getElem?_getD, List.getElem?_eq_getElem hi]; exact hl _ (List.getElem_mem _)
    · rw [List.getD_eq_getElem?_getD, List.getElem?_eq_none (by omega)]; simp; omega
  have hmi : m.getD i 0 < B := by
    by_cases hi : i < m.length
    · rw [List.getD_eq_getElem?_getD, List.getElem?_eq_getElem hi]; exact hm _ (List.getElem_mem _)
    · rw [List.getD_eq_getElem?_getD, List.getElem?_eq_none (by omega)]; simp; omega
  refine ⟨by simp [h.len], ?_, ?_, ?_, ?_⟩
  · intro d hd
    rcases List.mem_append.1 hd with hd | hd
    · exact h.low d hd
    · simp at hd; omega
  · rw [e1, e2, e3, h.len]
    have h0 := h.eq
    push_cast
    have : (B : Int) ^ i * ((l.getD i 0 : Int) + t * (m.getD i 0 : Int) + c) = (B : Int) ^ i * ((x : Int) + c' * (B : Int)) := by rw [he]
    grind
  · generalize l.getD i 0 = u at *
    generalize m.getD i 0 = v at *
    by_cases hc : c' ≤ 0
    · exact Or.inr hc
    · refine Or.inl ?_
      by_cases hc2 : c' ≤ t
      · exact hc2
      · exfalso
        have hpos : 1 ≤ c' := by omega
        by_cases ht : 0 ≤ t
        · have k1 : t * (v : Int) ≤ t * ((B : Int) - 1) := Int.mul_le_mul_of_nonneg_left (by omega) ht
          have k2 : (t + 1) * (B : Int) ≤ c' * (B : Int) := Int.mul_le_mul_of_nonneg_right (by omega) (by omega)
          have k3 : t * ((B : Int) - 1) = t * (B : Int) - t := by grind
          have k4 : (t + 1) * (B : Int) = t * (B : Int) + B := by grind
          have := h.hi
          omega
        · have k1 : t * (v : Int) ≤ 0 := Int.mul_nonpos_of_nonpos_of_nonneg (by omega) (by omega)
          have k2 : 1 * (B : Int) ≤ c' * (B : Int) := Int.mul_le_mul_of_nonneg_right hpos (by omega)
          have := h.hi
          omega
  · generalize l.getD i 0 = u at *
    generalize m.getD i 0 = v at *
    by_cases hc : 0 ≤ c'
    · exact Or.inr hc
    · refine Or.inl ?_
      by_cases hc2 : t ≤ c'
      · exact hc2
      · exfalso
        have hneg : c' ≤ -1 := by omega
        by_cases ht : 0 ≤ t
        · have k1 : 0 ≤ t * (v : Int) := Int.mul_nonneg ht (by omega)
          have k2 : c' * (B : Int) ≤ (-1) * (B : Int) := Int.mul_le_mul_of_nonneg_right hneg (by omega)
          have := h.lo
          omega
        · have k1 : t * ((B : Int) - 1) ≤ t * (v : Int) := Int.mul_le_mul_of_nonpos_left (by omega) (by omega)
          have k2 : c' * (B : Int) ≤ (t - 1) * (B : Int) := Int.mul_le_mul_of_nonneg_right (by omega) (by omega)
          have k3 : t * ((B : Int) - 1) = t * (B : Int) - t := by grind
          have k4 : (t - 1) * (B : Int) = t * (B : Int) - B := by grind
          have := h.lo
          omega

/-- Go's quotient and remainder of a number below 0. -/
theorem tdiv_neg (s : Int) (h : s < 0) : s.tmod 1000000000 ≤ 0 ∧ -1000000000 < s.tmod 1000000000 ∧ s = s.tdiv 1000000000 * 1000000000 + s.tmod 1000000000 := by
  have h1 := Int.tmod_add_mul_tdiv s 1000000000
  have h2 := Int.neg_tdiv s 1000000000
  have h3 := Int.neg_tmod s 1000000000
  have h4 : (-s).tdiv 1000000000 = (-s) / 1000000000 := Int.tdiv_eq_ediv_of_nonneg (by omega)
  have h5 : (-s).tmod 1000000000 = (-s) % 1000000000 := Int.tmod_eq_emod_of_nonneg (by omega)
  omega
end Go.Proofs.YtlchlajckodppaaDoor

/- The walk of put: a number added to another some times, in place. -/
set_option linter.unusedSimpArgs false
set_option linter.unusedVariables false
namespace Go.Proofs.YtlchlajckodppaaDoor
open Go.RowKit

/-- Block b is an array of these numbers. -/
def IHolds (w : World) (b : Nat) (t : TypeId) (l : List Value) : Prop := w.heap[b]? = some (.cells l.toArray t)
theorem IHolds.lt {w : World} {b : Nat} {t : TypeId} {l : List Value} (h : IHolds w b t l) : b < w.heap.size := (Array.getElem?_eq_some_iff.1 h).1
theorem IHolds.cell {w : World} {b : Nat} {t : TypeId} {l : List Value} (h : IHolds w b t l) (i : Nat) (hi : i < l.length) : w.cell? ⟨b, i, none⟩ = some l[i] := by
  unfold IHolds at h
  simp [World.cell?, h, hi]
theorem IHolds.frozen {w : World} {b : Nat} {t : TypeId} {l : List Value} (h : IHolds w b t l) (i : Nat) : w.frozen? ⟨b, i, none⟩ = false := by
  unfold IHolds at h
  simp [World.frozen?, h]
theorem IHolds.set {w : World} {b : Nat} {t : TypeId} {l : List Value} (h : IHolds w b t l) (i : Nat) (x : Value) : IHolds (w.setCell ⟨b, i, none⟩ x) b t (l.set i x) := by
  unfold IHolds at *
  simp [World.setCell, Array.getElem?_modify, h, List.map_set]
theorem IHolds.drewN {w : World} {b : Nat} {t : TypeId} {l : List Value} (h : IHolds w b t l) (n : Nat) : IHolds (w.drewN n) b t l := h
theorem IHolds.alloc {w : World} {b : Nat} {t : TypeId} {l : List Value} (h : IHolds w b t l) (o : Obj) : IHolds (w.alloc o) b t l := by
  unfold IHolds; rw [Below.heap_alloc _ _ _ h.lt]; exact h
theorem IHolds.new (w : World) (t : TypeId) (l : List Value) : IHolds (w.alloc (.cells l.toArray t)) w.heap.size t l := by
  show (w.heap.push _)[w.heap.size]? = _
  simp
theorem IHolds.of_below {w w' : World} {b : Nat} {t : TypeId} {l : List Value} (h : IHolds w b t l) (hb : Below w.heap.size w w') : IHolds w' b t l := by
  unfold IHolds; rw [hb.block _ h.lt]; exact h
/-- Nothing but block b has turned, of what was there. -/
structure But (b : Nat) (w w' : World) : Prop where
  os : w'.os = w.os
  tape : w'.tape = w.tape
  output : w'.output = w.output
  size : w.heap.size ≤ w'.heap.size
  block : ∀ k, k < w.heap.size → k ≠ b → w'.heap[k]? = w.heap[k]?
theorem But.refl (b : Nat) (w : World) : But b w w := ⟨rfl, rfl, rfl, Nat.le_refl _, fun _ _ _ => rfl⟩
theorem But.trans {b : Nat} {u v w : World} (h : But b u v) (k : But b v w) : But b u w :=
  ⟨k.os.trans h.os, k.tape.trans h.tape, k.output.trans h.output, Nat.le_trans h.size k.size, fun i hi hb => (k.block i (Nat.lt_of_lt_of_le hi h.size) hb).trans (h.block i hi hb)⟩
theorem But.drewN {b : Nat} {u w : World} (h : But b u w) (n : Nat) : But b u (w.drewN n) := ⟨h.os, h.tape, h.output, h.size, h.block⟩
theorem But.setCell {b : Nat} {u w : World} (h : But b u w) (i : Nat) (x : Value) : But b u (w.setCell ⟨b, i, none⟩ x) :=
  h.trans ⟨rfl, rfl, rfl, by simp [World.setCell], fun k _ hb => Below.heap_setCell _ _ _ _ hb⟩
theorem But.cell {b : Nat} {u w : World} (h : But b u w) {k : Nat} (hk : k < u.heap.size) (hb : k ≠ b) (i : Nat) : w.cell? ⟨k, i, none⟩ = u.cell? ⟨k, i, none⟩ :=
  World.cell?_of_block (w := u) (h.block k hk hb)
/-- Where block b is new, nothing that was there has turned. -/
theorem But.below {b B : Nat} {u w : World} (h : But b u w) (hB : B ≤ u.heap.size) (hb : B ≤ b) : Below B u w :=
  ⟨h.os, h.tape, h.output, h.size, fun k hk => h.block k (by omega) (by omega)⟩
/-- What lies at a does not lie in block b. -/
def Apart (a : Option Addr) (b : Nat) : Prop := ∀ k o, a = some ⟨k, o, none⟩ → k ≠ b
theorem Row.of_but {w w' : World} {a : Option Addr} {l : List Nat} {b : Nat} (h : Row w a l) (ha : l ≠ [] → Apart a b) (hb : But b w w') : Row w' a l := by
  intro i hi
  obtain ⟨k, o, rfl, hc⟩ := h i hi
  exact ⟨k, o, rfl, by rw [hb.cell (World.block_lt_of_cell? _ _ hc) (ha (fun e => by subst e; cases hi) k o rfl)]; exact hc⟩
/-- Numbers as the cells hold them. -/
def zs (l : List Nat) : List Value := l.map I
theorem zs_length (l : List Nat) : (zs l).length = l.length := by simp [zs]
theorem zs_cons (x : Nat) (l : List Nat) : zs (x :: l) = I x :: zs l := rfl
theorem zs_append (l r : List Nat) : zs (l ++ r) = zs l ++ zs r := by simp [zs]
theorem IHolds.row {w : World} {b : Nat} {t : TypeId} {pre post : List Value} {l : List Nat} (h : IHolds w b t (pre ++ zs l ++ post)) : Row w (some ⟨b, pre.length, none⟩) l := by
  intro i hi
  refine ⟨b, pre.length, rfl, ?_⟩
  rw [h.cell (pre.length + i) (by simp [zs_length]; omega)]
  rw [List.getElem_append_left (by simp [zs_length]; omega), List.getElem_append_right (by omega)]
  simp [zs]
theorem part_at (pre post : List Value) (p l : List Nat) (i : Nat) (hp : p.length = i) (hi : i < l.length) : pre ++ zs (p ++ l.drop i) ++ post = (pre ++ zs p) ++ (I l[i] :: (zs (l.drop (i + 1)) ++ post)) := by
  rw [List.drop_eq_getElem_cons hi, zs_append, zs_cons]
  simp only [List.append_assoc, List.cons_append]
theorem part_set (pre post : List Value) (p l : List Nat) (i x : Nat) (hp : p.length = i) (hi : i < l.length) (y : Int) (hy : y = (x : Int)) : (pre ++ zs (p ++ l.drop i) ++ post).set (pre.length + i) (.int .i64 y) = pre ++ zs ((p ++ [x]) ++ l.drop (i + 1)) ++ post := by
  subst hy
  rw [part_at pre post p l i hp hi, List.set_append_right _ _ (by simp [zs_length]; omega)]
  have e : pre.length + i - (pre ++ zs p).length = 0 := by simp [zs_length]; omega
  rw [e, zs_append, zs_append]
  simp only [List.set_cons_zero, List.append_assoc, List.cons_append, zs_cons, List.nil_append]
  rfl

end Go.Proofs.YtlchlajckodppaaDoor
namespace Go.Proofs.YtlchlajckodppaaDoor
open Go.RowKit Go.Deep
theorem Tryd.info2 : (Tryd.prog.info? 2).map (fun i => (i.zero, i.size, i.bytes)) = some (some (.int .i64 0), 1, 8) := by kernel_rfl
theorem Tryd.size2 : (Tryd.prog.info? 2).map (·.size) = some 1 := by kernel_rfl
theorem made_nums (n : Nat) : madeCells #[.int .i64 0] n = (zs (List.replicate n 0)).toArray := by
  apply Array.toList_inj.1
  rw [toList_madeCells_one]
  simp [zs]
theorem block_setCells {b : Nat} {t : TypeId} : ∀ (vs : List Value) (o : Nat) (cs : List Value) (w : World), w.heap[b]? = some (.cells cs.toArray t) → o + vs.length ≤ cs.length →
    (w.setCells b o vs).heap[b]? = some (.cells (cs.take o ++ vs ++ cs.drop (o + vs.length)).toArray t)
  | [], o, cs, w, h, _ => by simpa [World.setCells] using h
  | v :: r, o, cs, w, h, hle => by
    simp only [List.length_cons] at hle
    have h1 : (w.setCell ⟨b, o, none⟩ v).heap[b]? = some (.cells (cs.set o v).toArray t) := by
      simp [World.setCell, Array.getElem?_modify, h]
    have := block_setCells (b := b) (t := t) r (o + 1) (cs.set o v) _ h1 (by simp; omega)
    simp only [World.setCells]
    rw [this]
    have e : (cs.set o v).take (o + 1) ++ r ++ (cs.set o v).drop (o + 1 + r.length) = cs.take o ++ (v :: r) ++ cs.drop (o + (r.length + 1)) := by
      rw [List.drop_set_of_lt (by omega), List.take_add_one]
      simp [List.take_set_of_le, show o < cs.length by omega, Nat.add_assoc, Nat.add_comm]
      omega
    rw [e]; rfl
theorem But.setOwn {b : Nat} {u : World} : ∀ (vs : List Value) (o : Nat) (w : World), But b u w → But b u (w.setCells b o vs)
  | [], _, _, h => h
  | v :: r, o, _, h => But.setOwn r (o + 1) _ (h.setCell o v)
theorem IHolds.copied {w : World} {b : Nat} {t : TypeId} {L : List Nat} (h : IHolds w b t (zs L)) (l : List Nat) (hl : l.length ≤ L.length) : IHolds (w.setCells b 0 (l.map I)) b t (zs (l ++ L.drop l.length)) := by
  have := block_setCells (l.map I) 0 (zs L) w h (by simpa [zs] using hl)
  unfold IHolds
  rw [this]
  simp [zs]
/-- Where the whole of it is from 0 to below B^k nothing is carried out. -/
theorem Puts.done {B : Nat} {l m : List Nat} {t : Int} {k : Nat} {p : List Nat} {c : Int} (h : Puts B l m t k p c) (hl : l.length ≤ k) (hm : m.length ≤ k) (N : Nat) (hN : (vl B l : Int) + t * (vl B m : Int) = (N : Int)) (hk : N < B ^ k) : c = 0 ∧ vl B p = N := by
  have e := h.eq
  rw [List.take_of_length_le hl, List.take_of_length_le hm, hN] at e
  have hp := vl_lt B p h.low
  rw [h.len] at hp
  have hc : c = 0 := by
    have h1 : (B : Int) ^ k = ((B ^ k : Nat) : Int) := by push_cast; rfl
    rw [h1] at e
    generalize B ^ k = M at *
    rcases Int.lt_trichotomy c 0 with hc | hc | hc
    · exfalso
      have : c * (M : Int) ≤ (-1) * (M : Int) := Int.mul_le_mul_of_nonneg_right (by omega) (by omega)
      omega
    · exact hc
    · exfalso
      have : 1 * (M : Int) ≤ c * (M : Int) := Int.mul_le_mul_of_nonneg_right (by omega) (by omega)
      omega
  subst hc
  refine ⟨rfl, ?_⟩
  simp at e
  omega
theorem Row.apart_new {w : World} {a : Option Addr} {l : List Nat} (h : Row w a l) (hl : l ≠ []) : Apart a w.heap.size := by
  intro k o ha e
  obtain ⟨k', o', ha', hc⟩ := h 0 (List.length_pos_iff.2 hl)
  rw [ha] at ha'
  simp only [Option.some.injEq, Addr.mk.injEq] at ha'
  have := World.block_lt_of_cell? _ _ hc
  simp at this
  omega
theorem bigBase : 2 ≤ 1000000000 := by omega

theorem sum_lt {n m K i j : Nat} (h1 : n < 1000000000 ^ i) (h2 : m < 1000000000 ^ j) (hi : i < K) (hj : j < K) : n + m < 1000000000 ^ K := by
  have e1 : 1000000000 ^ i ≤ 1000000000 ^ (K - 1) := Nat.pow_le_pow_right (by omega) (by omega)
  have e2 : 1000000000 ^ j ≤ 1000000000 ^ (K - 1) := Nat.pow_le_pow_right (by omega) (by omega)
  have e3 : 1000000000 ^ K = 1000000000 ^ (K - 1) * 1000000000 := by rw [← Nat.pow_succ]; congr 1; omega
  omega
end Go.Proofs.YtlchlajckodppaaDoor
namespace Go.Proofs.YtlchlajckodppaaDoor
open Go.RowKit Go.Deep
/-- A row of the call's own that holds these numbers at its head; or nothing. -/
def Owned (w : World) (base : Nat) (l : List Nat) (v : Value) : Prop :=
  (l = [] ∧ ∃ a c, v = .slice a 0 c ∧ c ≤ 9223372036854775807) ∨ ∃ g cap post, v = .slice (some ⟨g, 0, none⟩) l.length cap ∧ base ≤ g ∧ IHolds w g 2 (zs l ++ post) ∧ l.length ≤ cap ∧ cap ≤ 9223372036854775807
theorem Owned.of_row {w : World} {base : Nat} {l : List Nat} {v : Value} (h : w.ownsRow base 2 1 v l.length (zs l)) : Owned w base l v := by
  obtain ⟨_, ⟨rfl, h0⟩ | ⟨g, cap, cur, rfl, hb, hg, hc, hm, hs, ht⟩⟩ := h
  · exact Or.inl ⟨List.length_eq_zero_iff.1 h0, none, 0, rfl, by omega⟩
  · refine Or.inr ⟨g, cap, cur.toList.drop l.length, rfl, hb, ?_, hc, hm⟩
    rw [Nat.mul_one] at ht
    unfold IHolds
    rw [← ht, List.take_append_drop]
    exact hg

end Go.Proofs.YtlchlajckodppaaDoor
namespace Go.Proofs.YtlchlajckodppaaDoor
open Go.RowKit
/-- -1, 0 or 1, as x is below y, y itself, or above it. -/
def cmp3 (x y : Int) : Int := if x < y then -1 else if y < x then 1 else 0
theorem cmp3_lt {x y : Int} (h : x < y) : cmp3 x y = -1 := by simp [cmp3, h]
theorem cmp3_gt {x y : Int} (h : y < x) : cmp3 x y = 1 := by simp [cmp3, h]; omega
theorem cmp3_eq {x y : Int} (h : x = y) : cmp3 x y = 0 := by simp [cmp3, h]
theorem drewN_ex {w wr : World} (h : ∃ k, wr = w.drewN k) (n : Nat) : ∃ k, wr.drewN n = w.drewN k := by
  obtain ⟨k, rfl⟩ := h
  exact ⟨k + n, World.drewN_drewN w k n⟩
theorem ret_i {a b : Int} (h : a = b) : Ending.returned (.int .i64 a) = .returned (.int .i64 b) := by rw [h]

theorem drop_same_step {l r : List Nat} {i : Nat} (hl : i < l.length) (hr : i < r.length) (he : l.drop (i + 1) = r.drop (i + 1)) (hx : l[i] = r[i]) : l.drop i = r.drop i := by
  rw [List.drop_eq_getElem_cons hl, List.drop_eq_getElem_cons hr, he, hx]
theorem cmp_at_lt {B n m i : Nat} (hB : 2 ≤ B) (hl : i < (dg B n).length) (hr : i < (dg B m).length) (he : (dg B n).drop (i + 1) = (dg B m).drop (i + 1)) (hx : (dg B n)[i] < (dg B m)[i]) : cmp3 (n : Int) (m : Int) = -1 := by
  have := vl_part (dg B n) (dg B m) i (dg_mem hB n) hl hr he hx
  rw [vl_dg hB, vl_dg hB] at this
  exact cmp3_lt (by omega)
theorem cmp_at_gt {B n m i : Nat} (hB : 2 ≤ B) (hl : i < (dg B n).length) (hr : i < (dg B m).length) (he : (dg B n).drop (i + 1) = (dg B m).drop (i + 1)) (hx : (dg B m)[i] < (dg B n)[i]) : cmp3 (n : Int) (m : Int) = 1 := by
  have := vl_part (dg B m) (dg B n) i (dg_mem hB m) hr hl he.symm hx
  rw [vl_dg hB, vl_dg hB] at this
  exact cmp3_gt (by omega)
theorem cmp_same {B n m : Nat} (hB : 2 ≤ B) (he : (dg B n).drop 0 = (dg B m).drop 0) : cmp3 (n : Int) (m : Int) = 0 := by
  rw [List.drop_zero, List.drop_zero] at he
  exact cmp3_eq (by rw [dg_inj hB he])
theorem cmp_len {B n m : Nat} (hB : 2 ≤ B) (h : (dg B n).length ≠ (dg B m).length) : cmp3 ((dg B n).length : Int) ((dg B m).length : Int) = cmp3 (n : Int) (m : Int) := by
  rcases Nat.lt_or_gt_of_ne h with h | h
  · rw [cmp3_lt (by omega), cmp3_lt (by have := lt_of_len_lt hB h; omega)]
  · rw [cmp3_gt (by omega), cmp3_gt (by have := lt_of_len_lt hB h; omega)]

set_option maxRecDepth 100000 in
set_option maxHeartbeats 1000000 in
theorem refCompare_any (w : World) (a1 a2 : Option Addr) (cap1 cap2 n m : Nat) (h1 : Row w a1 (dg 10 n)) (h2 : Row w a2 (dg 10 m)) (b1 : (dg 10 n).length ≤ 1000000) (b2 : (dg 10 m).length ≤ 1000000) :
    Calls Tryd.prog 23 #[.slice a1 (dg 10 n).length cap1, .slice a2 (dg 10 m).length cap2] w fun e w' => e = .returned (.int .i64 (cmp3 (n : Int) (m : Int))) ∧ ∃ k, w' = w.drewN k := by
  have K1 : Hid (∀ i (hl : i < (dg 10 n).length) (hr : i < (dg 10 m).length), (dg 10 n).drop (i + 1) = (dg 10 m).drop (i + 1) → (dg 10 n)[i] < (dg 10 m)[i] → cmp3 (n : Int) (m : Int) = -1) := fun i => cmp_at_lt (by omega)
  have K2 : Hid (∀ i (hl : i < (dg 10 n).length) (hr : i < (dg 10 m).length), (dg 10 n).drop (i + 1) = (dg 10 m).drop (i + 1) → (dg 10 m)[i] < (dg 10 n)[i] → cmp3 (n : Int) (m : Int) = 1) := fun i => cmp_at_gt (by omega)
  have K3 : Hid ((dg 10 n).drop 0 = (dg 10 m).drop 0 → cmp3 (n : Int) (m : Int) = 0) := cmp_same (by omega)
  have K4 : Hid ((dg 10 n).length ≠ (dg 10 m).length → cmp3 ((dg 10 n).length : Int) ((dg 10 m).length : Int) = cmp3 (n : Int) (m : Int)) := cmp_len (by omega)
  generalize cmp3 (n : Int) (m : Int) = c at *
  generalize dg 10 n = l1 at *
  generalize dg 10 m = l2 at *
  have H1 : Hid (Row w a1 l1) := h1
  have H2 : Hid (Row w a2 l2) := h2
  clear h1 h2
  go_enter Tryd.func23, Tryd.ntmps23
  by_cases hlen : l1.length = l2.length
  · rw [hlen]
    go_wp2_with fail
    go_loopg [5] (l1.length + 1) (fun gk v5 wr => ∃ i : Nat, i + 1 = gk ∧ i ≤ l1.length ∧ v5 = .int .i64 ((i : Int) - 1) ∧ l1.drop i = l2.drop i ∧ ∃ k, wr = w.drewN k)
    case atStart => exact ⟨l1.length, rfl, Nat.le_refl _, by rw [hlen], by rw [List.drop_length, hlen, List.drop_length], 0, rfl⟩
    case round =>
      obtain ⟨i, hi, hil, rfl, hd, k, hwr⟩ := hrel
      have HW : Hid (∃ k, wr = w.drewN k) := ⟨k, hwr⟩
      have HD : Hid (l1.drop i = l2.drop i) := hd
      clear hd
      by_cases h0 : 0 < i
      · obtain ⟨b1, o1, rfl, c1⟩ := H1.out (i - 1) (by omega)
        obtain ⟨b2, o2, rfl, c2⟩ := H2.out (i - 1) (by omega)
        have d1 : wr.cell? ⟨b1, o1 + (i - 1), none⟩ = some (I l1[i - 1]) := by rw [hwr]; exact c1
        have d2 : wr.cell? ⟨b2, o2 + (i - 1), none⟩ = some (I l2[i - 1]) := by rw [hwr]; exact c2
        clear c1 c2 hwr
        have HE : Hid (∀ x, x = i - 1 → l1.drop (x + 1) = l2.drop (x + 1)) := fun x hx => by have := HD.out; rw [show x + 1 = i by omega]; exact this
        have t0 : ((i : Int) - 1).toNat = i - 1 := by omega
        have t1 : (0 : Int) ≤ (i : Int) - 1 := by omega
        have t2 : (i : Int) - 1 < (l2.length : Int) := by omega
        have q1 : i - 1 < l1.length := by omega
        have q2 : i - 1 < l2.length := by omega
        have G1 : Hid (l1[i - 1]'q1 < l2[i - 1]'q2 → c = -1) := K1.out (i - 1) q1 q2 (HE.out _ rfl)
        have G2 : Hid (l2[i - 1]'q2 < l1[i - 1]'q1 → c = 1) := K2.out (i - 1) q1 q2 (HE.out _ rfl)
        have G3 : Hid (l1[i - 1]'q1 = l2[i - 1]'q2 → l1.drop (i - 1) = l2.drop (i - 1)) := drop_same_step (l := l1) (r := l2) (i := i - 1) q1 q2 (HE.out _ rfl)
        clear K1 K2 K3 K4 HE HD H1 H2
        generalize l1[i - 1] = x at *
        generalize l2[i - 1] = y at *
        by_cases hxy : x = y
        · subst hxy
          go_wp2_with fail
          go_quiet (fail)
          have d3 : (wr.drewN nq).cell? ⟨b1, o1 + (i - 1), none⟩ = some (I x) := d1
          have d4 : (wr.drewN nq).cell? ⟨b2, o2 + (i - 1), none⟩ = some (I x) := d2
          have HW2 : Hid (∃ k, wr.drewN nq = w.drewN k) := drewN_ex HW.out nq
          clear d1 d2 HW
          generalize wr.drewN nq = wq at *
          go_wp2_with fail
          go_quiet (fail)
          go_wp2_with fail
          go_roundg (gk - 1)
          case measure => omega
          case rel => exact ⟨i - 1, by omega, by omega, by go_num, G3.out (by first | trivial | rfl), drewN_ex HW2.out nq⟩
        · rcases Nat.lt_or_gt_of_ne hxy with h | h
          · have hne : (x : Int) < (y : Int) := by omega
            have hc := G1.out h
            go_wp2_with fail
            go_quiet (fail)
            go_wp2_with fail
            go_ret
            exact ⟨ret_i hc.symm, drewN_ex HW.out nq⟩
          · have hne : ¬ (x : Int) < (y : Int) := by omega
            have hgt : (y : Int) < (x : Int) := by omega
            have hc := G2.out h
            go_wp2_with fail
            go_quiet (fail)
            have d3 : (wr.drewN nq).cell? ⟨b1, o1 + (i - 1), none⟩ = some (I x) := d1
            have d4 : (wr.drewN nq).cell? ⟨b2, o2 + (i - 1), none⟩ = some (I y) := d2
            have HW2 : Hid (∃ k, wr.drewN nq = w.drewN k) := drewN_ex HW.out nq
            clear d1 d2 HW
            generalize wr.drewN nq = wq at *
            go_wp2_with fail
            go_quiet (fail)
            go_wp2_with fail
            go_ret
            exact ⟨ret_i hc.symm, drewN_ex HW2.out nq⟩
      · obtain rfl : i = 0 := by omega
        have hc := K3.out HD.out
        clear hwr
        go_wp2_with fail
        go_ret
        exact ⟨ret_i hc.symm, HW.out⟩
  · have hne : ((l1.length : Int) != (l2.length : Int)) = true := by simp; omega
    have hc := K4.out hlen
    rcases Nat.lt_or_gt_of_ne hlen with h | h
    · have hlt : (l1.length : Int) < (l2.length : Int) := by omega
      rw [cmp3_lt hlt] at hc
      have HC : Hid (-1 = c) := hc
      clear hc
      go_wp2_with fail
      go_ret
      exact ⟨ret_i HC.out, 0, rfl⟩
    · have hlt : ¬ (l1.length : Int) < (l2.length : Int) := by omega
      rw [cmp3_gt (by omega)] at hc
      have HC : Hid (1 = c) := hc
      clear hc
      go_wp2_with fail
      go_ret
      exact ⟨ret_i HC.out, 0, rfl⟩
end Go.Proofs.YtlchlajckodppaaDoor

/- The walk of times. -/
set_option linter.unusedSimpArgs false
set_option linter.unusedVariables false
namespace Go.Proofs.YtlchlajckodppaaDoor
open Go.RowKit Go.Deep

/-- A list in three parts. -/
theorem three (P : List Nat) (j k : Nat) (h : j + k ≤ P.length) : P = P.take j ++ (P.drop j).take k ++ P.drop (j + k) := by
  rw [List.append_assoc, ← List.drop_drop, List.take_append_drop, List.take_append_drop]
theorem vl_three (B : Nat) (P : List Nat) (j k : Nat) (h : j + k ≤ P.length) : vl B P = vl B (P.take j) + B ^ j * (vl B ((P.drop j).take k) + B ^ k * vl B (P.drop (j + k))) := by
  have e := three P j k h
  have h1 : (P.take j).length = j := by rw [List.length_take]; omega
  have h2 : ((P.drop j).take k).length = k := by rw [List.length_take, List.length_drop]; omega
  have : vl B P = vl B (P.take j ++ ((P.drop j).take k ++ P.drop (j + k))) := by rw [← List.append_assoc, ← e]
  rw [this, vl_append, vl_append, h1, h2]
/-- One limb more of the other number: there is room for it, and what comes of it. -/
theorem times_room {B n x j k : Nat} {P : List Nat} (hB : 2 ≤ B) (hP : vl B P = n * x) (hx : x < B ^ j) (hn : n < B ^ k) (hl : j + (k + 1) ≤ P.length) (u : Nat) (hu : u < B) :
    vl B ((P.drop j).take (k + 1)) + u * n < B ^ (k + 1) := by
  have e := vl_three B P j (k + 1) hl
  have hpos : 0 < B ^ j := Nat.pow_pos (by omega)
  generalize vl B ((P.drop j).take (k + 1)) = a at *
  have h1 : B ^ j * a ≤ n * x := by
    rw [← hP, e, Nat.mul_add]; omega
  have h2 : a ≤ n := by
    by_cases hc : a ≤ n
    · exact hc
    · exfalso
      have h3 : B ^ j * (n + 1) ≤ B ^ j * a := Nat.mul_le_mul_left _ (by omega)
      have h4 : n * x ≤ n * B ^ j := Nat.mul_le_mul_left _ (by omega)
      have h5 : B ^ j * (n + 1) = n * B ^ j + B ^ j := by grind
      omega
  have h6 : u * n ≤ (B - 1) * n := Nat.mul_le_mul_right _ (by omega)
  have h7 : (B - 1) * n + n = B * n := by
    have : B - 1 + 1 = B := by omega
    calc (B - 1) * n + n = (B - 1 + 1) * n := by grind
      _ = B * n := by rw [this]
  have h8 : B * (n + 1) ≤ B * B ^ k := Nat.mul_le_mul_left _ hn
  have h9 : B ^ (k + 1) = B * B ^ k := by grind
  have h10 : B * (n + 1) = B * n + B := by grind
  omega
theorem times_step {B n x j k : Nat} {P p : List Nat} (hP : vl B P = n * x) (hl : j + (k + 1) ≤ P.length) (u : Nat) (hp : p.length = k + 1) (hv : vl B p = vl B ((P.drop j).take (k + 1)) + u * n) :
    vl B (P.take j ++ p ++ P.drop (j + (k + 1))) = n * (x + B ^ j * u) := by
  have e := vl_three B P j (k + 1) hl
  have h1 : (P.take j).length = j := by rw [List.length_take]; omega
  rw [List.append_assoc, vl_append, vl_append, h1, hp, hv]
  rw [hP] at e
  grind

end Go.Proofs.YtlchlajckodppaaDoor
namespace Go.Proofs.YtlchlajckodppaaDoor
open Go.RowKit Go.PlainAid
theorem size_list (s : ByteArray) : s.data.toList.length = s.size := rfl
theorem bt_list (s : ByteArray) (k : Nat) (h : k < s.size) : bt s k = ((s.data.toList[k]'h).toNat : Int) := by unfold bt; rw [dif_pos h]; rfl
theorem allDig_succ (l : List UInt8) (k : Nat) (h : k < l.length) (ha : allDig (l.take k) = true) (hd : 48 ≤ l[k].toNat ∧ l[k].toNat ≤ 57) : allDig (l.take (k + 1)) = true := by
  rw [List.take_succ_eq_append_getElem h]
  simp only [allDig, List.all_append, List.all_cons, List.all_nil, Bool.and_true, Bool.and_eq_true]
  exact ⟨ha, by simp [isDig, hd.1, hd.2]⟩
theorem isNum_bad (l : List UInt8) (k : Nat) (h : k < l.length) (hd : l[k].toNat < 48 ∨ 57 < l[k].toNat) : isNum l = false := by
  have : allDig l = false := by
    cases hx : allDig l with
    | false => rfl
    | true =>
      have := (List.all_eq_true.1 hx) l[k] (List.getElem_mem _)
      simp only [isDig, Bool.and_eq_true, decide_eq_true_eq] at this
      omega
  simp [isNum, this]

theorem isNum_nil {s : ByteArray} (h : s.toList = []) : isNum s.data.toList = false := by rw [← ByteArray.toList_eq, h]; rfl
theorem isNum_zero {s : ByteArray} (h : s.toList = [48]) : isNum s.data.toList = true := by rw [← ByteArray.toList_eq, h]; rfl
theorem isNum_head {s : ByteArray} (ha : allDig s.data.toList = true) (h1 : ¬ s.toList = [48]) (h2 : ¬ s.toList = []) (b : Bool) (hb : (bt s 0 = 48 ∧ b = false) ∨ (bt s 0 ≠ 48 ∧ b = true)) : isNum s.data.toList = b := by
  rw [ByteArray.toList_eq] at h1 h2
  have hpos : 0 < s.size := List.length_pos_iff.2 h2
  have e := bt_list s 0 hpos
  have hh : s.data.toList.head? = some (s.data.toList[0]'hpos) := List.head?_eq_getElem? .. ▸ List.getElem?_eq_getElem hpos
  have e1 : (s.data.toList == [48]) = false := by simp [h1]
  have e2 : (s.data.toList != []) = true := by simp [h2]
  simp only [isNum, ha, e1, e2, hh, Bool.true_and, Bool.false_or]
  rcases hb with ⟨h3, rfl⟩ | ⟨h3, rfl⟩
  · have : s.data.toList[0]'hpos = 48 := UInt8.toNat_inj.1 (by show _ = 48; omega)
    simp [this]
  · have : s.data.toList[0]'hpos ≠ 48 := fun h => h3 (by rw [e, h]; rfl)
    rw [bne_iff_ne]; intro h; exact this (Option.some.inj h)
theorem ret_b {a b : Bool} (h : a = b) : Ending.returned (.bool a) = .returned (.bool b) := by rw [h]

/-- What is wrong with a text that is handed in as a number. -/
def wrT (s : ByteArray) : Nat := if isNum s.data.toList = false then 2 else if 4000 < s.size then 3 else 0
theorem wrT_form {s : ByteArray} (h : isNum s.data.toList = false) : wrT s = 2 := by simp [wrT, h]
theorem wrT_long {s : ByteArray} (h : isNum s.data.toList = true) (h2 : 4000 < s.size) : wrT s = 3 := by simp [wrT, h, h2]
theorem wrT_ok {s : ByteArray} (h : isNum s.data.toList = true) (h2 : ¬ 4000 < s.size) : wrT s = 0 := by simp [wrT, h, h2]

/-- Of two texts the first one that is wrong tells it. -/
def wr2 (a b : ByteArray) : Nat := if wrT a = 0 then wrT b else wrT a
end Go.Proofs.YtlchlajckodppaaDoor
namespace Go.Proofs.YtlchlajckodppaaDoor
open Go.RowKit Go.PlainAid
/-- At a lie these texts. -/
def SRow (w : World) (a : Option Addr) (l : List ByteArray) : Prop := ∀ i (h : i < l.length), ∃ b o, a = some ⟨b, o, none⟩ ∧ w.cell? ⟨b, o + i, none⟩ = some (.string l[i])
/-- What is wrong with several texts: how all are written, ahead of how long they are. -/
def wrL (ps : List ByteArray) : Nat := if ps.all (fun s => isNum s.data.toList) = false then 2 else if ps.all (fun s => decide (s.size ≤ 4000)) = false then 3 else 0
theorem wrL_one (s : ByteArray) : wrL [s] = wrT s := by
  simp only [wrL, wrT, List.all_cons, List.all_nil, Bool.and_true, decide_eq_false_iff_not, Nat.not_le]
theorem all_take_succ {α : Type} (p : α → Bool) (l : List α) (k : Nat) (h : k < l.length) (ha : (l.take k).all p = true) (hp : p l[k] = true) : (l.take (k + 1)).all p = true := by
  rw [List.take_succ_eq_append_getElem h, List.all_append, ha]; simp [hp]
theorem all_bad {α : Type} (p : α → Bool) (l : List α) (k : Nat) (h : k < l.length) (hp : p l[k] = false) : l.all p = false := by
  cases hx : l.all p with
  | false => rfl
  | true =>
    have := (List.all_eq_true.1 hx) l[k] (List.getElem_mem _)
    rw [hp] at this; cases this

end Go.Proofs.YtlchlajckodppaaDoor
namespace Go.Proofs.YtlchlajckodppaaDoor
open Go.PlainAid
/-- The bytes from lo to below i. -/
def seg (l : List UInt8) (lo i : Nat) : List UInt8 := (l.drop lo).take (i - lo)
theorem seg_nil (l : List UInt8) (lo : Nat) : seg l lo lo = [] := by simp [seg]
theorem seg_length (l : List UInt8) (lo i : Nat) (h1 : lo ≤ i) (h2 : i ≤ l.length) : (seg l lo i).length = i - lo := by
  rw [seg, List.length_take, List.length_drop]; omega
theorem seg_succ (l : List UInt8) (lo i : Nat) (h1 : lo ≤ i) (h2 : i < l.length) : seg l lo (i + 1) = seg l lo i ++ [l[i]] := by
  unfold seg
  rw [show i + 1 - lo = (i - lo) + 1 by omega, List.take_succ_eq_append_getElem (by rw [List.length_drop]; omega)]
  congr 2
  rw [List.getElem_drop]
  congr 1
  omega
theorem seg_drop (l : List UInt8) (lo hi : Nat) (h : lo ≤ hi) : l.drop lo = seg l lo hi ++ l.drop hi := by
  have : l.drop hi = (l.drop lo).drop (hi - lo) := by rw [List.drop_drop]; congr 1; omega
  rw [this, seg, List.take_append_drop]
theorem allDig_seg (l : List UInt8) (lo i : Nat) (h : allDig l = true) : allDig (seg l lo i) = true := by
  simp only [allDig, List.all_eq_true] at *
  intro c hc
  exact h c (List.mem_of_mem_drop (List.mem_of_mem_take hc))
theorem seg_lt (l : List UInt8) (lo i : Nat) (h : allDig l = true) (h1 : lo ≤ i) (h2 : i ≤ l.length) (h3 : i ≤ lo + 9) : bv (seg l lo i) < 1000000000 := by
  have := bv_lt (seg l lo i) (allDig_seg l lo i h)
  rw [seg_length l lo i h1 h2] at this
  have h4 : 10 ^ (i - lo) ≤ 10 ^ 9 := Nat.pow_le_pow_right (by omega) (by omega)
  omega
theorem seg_lt' (l : List UInt8) (lo i : Nat) (h : allDig l = true) (h1 : lo ≤ i) (h2 : i ≤ l.length) (h3 : i ≤ lo + 8) : bv (seg l lo i) < 100000000 := by
  have := bv_lt (seg l lo i) (allDig_seg l lo i h)
  rw [seg_length l lo i h1 h2] at this
  have h4 : 10 ^ (i - lo) ≤ 10 ^ 8 := Nat.pow_le_pow_right (by omega) (by omega)
  omega
theorem bv_seg_succ (s : ByteArray) (lo i : Nat) (h1 : lo ≤ i) (h2 : i < s.size) (hd : 48 ≤ bt s i) : ((bv (seg s.data.toList lo (i + 1)) : Nat) : Int) = (bv (seg s.data.toList lo i) : Int) * 10 + (bt s i - 48) := by
  rw [seg_succ _ lo i h1 h2, bv_snoc, bt_list s i h2]
  rw [bt_list s i h2] at hd
  push_cast
  omega
theorem dig_at (s : ByteArray) (i : Nat) (h : i < s.size) (ha : allDig s.data.toList = true) : 48 ≤ bt s i ∧ bt s i ≤ 57 := by
  have := (List.all_eq_true.1 ha) (s.data.toList[i]'h) (List.getElem_mem _)
  simp only [isDig, Bool.and_eq_true, decide_eq_true_eq] at this
  rw [bt_list s i h]; omega
/-- One piece of nine more. -/
theorem nine_step (l : List UInt8) (j : Nat) (h : 9 * j < l.length) (r : List Nat) (hr : r.length = j) (hv : vl 1000000000 r = bv (l.drop (l.length - 9 * j))) :
    vl 1000000000 (r ++ [bv (seg l (l.length - 9 * (j + 1)) (l.length - 9 * j))]) = bv (l.drop (l.length - 9 * (j + 1))) := by
  have e : (l.drop (l.length - 9 * j)).length = 9 * j := by rw [List.length_drop]; omega
  rw [vl_snoc, hr, hv, seg_drop l (l.length - 9 * (j + 1)) (l.length - 9 * j) (by omega), bv_append, e]
  have h2 : (10 : Nat) ^ (9 * j) = 1000000000 ^ j := by rw [Nat.pow_mul]
  rw [h2, Nat.mul_comm (1000000000 ^ j), Nat.add_comm]
end Go.Proofs.YtlchlajckodppaaDoor

/- The walks of numberOf and readNumber. -/
set_option linter.unusedSimpArgs false
set_option linter.unusedVariables false
namespace Go.Proofs.YtlchlajckodppaaDoor
open Go.RowKit Go.Deep Go.PlainAid

/-- A row of the call's own as a number's cells. -/
theorem Row.of_owned {w : World} {base n : Nat} {v : Value} {l : List Nat} {e : TypeId} (h : w.ownsRow base e 1 v n (zs l)) : ∃ a cap, v = .slice a l.length cap ∧ l.length ≤ cap ∧ cap ≤ 9223372036854775807 ∧ Row w a l := by
  obtain ⟨hlen, ⟨rfl, h0⟩ | ⟨g, cap, cur, rfl, hb, hg, hc, hm, hs, ht⟩⟩ := h
  · rw [zs_length, Nat.mul_one] at hlen
    have : l = [] := List.length_eq_zero_iff.1 (by omega)
    subst this
    exact ⟨none, 0, rfl, by simp, by omega, Row.nil _ _⟩
  · rw [zs_length, Nat.mul_one] at hlen
    refine ⟨some ⟨g, 0, none⟩, cap, by rw [hlen], by omega, hm, ?_⟩
    intro i hi
    refine ⟨g, 0, rfl, ?_⟩
    rw [Nat.mul_one] at ht
    have h1 : (zs l)[i]? = some (I l[i]) := by simp [zs, hi]
    rw [← ht, List.getElem?_take, if_pos (by omega)] at h1
    simp only [World.cell?, hg]
    simpa using h1

end Go.Proofs.YtlchlajckodppaaDoor
namespace Go.Proofs.YtlchlajckodppaaDoor
theorem chars_snoc (l : List Nat) (d : Nat) : chars (l ++ [d]) = UInt8.ofNat (d + 48) :: chars l := by simp [chars]
theorem chars_length (l : List Nat) : (chars l).length = l.length := by simp [chars]
/-- Zeros ahead of a text left out. -/
theorem drop_zeros (k : Nat) : ∀ P : List Nat, P.length = k → (∀ d ∈ P, d < 10) → (chars P).dropWhile (· == 48) = chars (dg 10 (vl 10 P)) := by
  induction k with
  | zero =>
    intro P hl _
    have := List.length_eq_zero_iff.1 hl
    subst this
    simp [vl, dg_zero, chars]
  | succ k ih =>
    intro P hl hd
    have hne : P ≠ [] := fun h => by subst h; simp at hl
    obtain ⟨Q, d, rfl⟩ : ∃ Q d, P = Q ++ [d] := ⟨P.dropLast, P.getLast hne, (List.dropLast_concat_getLast hne).symm⟩
    have hq : Q.length = k := by simpa using hl
    have hdd : d < 10 := hd d (by simp)
    rw [chars_snoc, vl_snoc]
    by_cases h0 : d = 0
    · subst h0
      have : (UInt8.ofNat (0 + 48) :: chars Q).dropWhile (· == 48) = (chars Q).dropWhile (· == 48) := by simp
      rw [this, ih Q hq (fun x hx => hd x (by simp [hx]))]
      simp
    · have h48 : (UInt8.ofNat (d + 48) == 48) = false := by
        rw [beq_eq_false_iff_ne]
        intro h
        have := congrArg UInt8.toNat h
        rw [UInt8.toNat_ofNat'] at this
        have e : (48 : UInt8).toNat = 48 := rfl
        omega
      rw [List.dropWhile_cons, h48]
      simp only [Bool.false_eq_true, if_false]
      rw [← vl_snoc, dg_vl (by omega) (Q ++ [d]) hd (Or.inr (by simp; omega)), chars_snoc]
/-- One digit more of a limb. -/
structure Digs (N T : Nat) (D : List Nat) (cur j : Nat) : Prop where
  low : ∀ d ∈ D, d < 10
  val : vl 10 D + 10 ^ D.length * cur = T
  left : cur < 10 ^ (9 - j)
theorem Digs.step {N T : Nat} {D : List Nat} {cur j : Nat} (h : Digs N T D cur j) (hj : j < 9) : Digs N T (D ++ [cur % 10]) (cur / 10) (j + 1) := by
  refine ⟨?_, ?_, ?_⟩
  · intro d hd
    rcases List.mem_append.1 hd with hd | hd
    · exact h.low d hd
    · simp at hd; omega
  · rw [vl_snoc, List.length_append, List.length_singleton, ← h.val]
    have e : cur = cur % 10 + 10 * (cur / 10) := (Nat.mod_add_div cur 10).symm
    have : 10 ^ D.length * cur = 10 ^ D.length * (cur % 10 + 10 * (cur / 10)) := by rw [← e]
    grind
  · rw [Nat.div_lt_iff_lt_mul (by omega)]
    have := h.left
    have e : (10 : Nat) ^ (9 - j) = 10 ^ (9 - (j + 1)) * 10 := by rw [← Nat.pow_succ]; congr 1; omega
    omega
theorem Digs.done {N T : Nat} {D : List Nat} {cur : Nat} (h : Digs N T D cur 9) : vl 10 D = T := by
  have := h.left
  have h0 : cur = 0 := by simpa using this
  have := h.val
  rw [h0] at this
  simpa using this
theorem limb_more (l : List Nat) (i : Nat) (hi : i < l.length) (D : List Nat) (hD : D.length = 9 * i) (hv : vl 10 D = vl 1000000000 (l.take i)) : vl 10 D + 10 ^ D.length * l[i] = vl 1000000000 (l.take (i + 1)) := by
  have e := vl_take_succ 1000000000 l i
  rw [List.getD_eq_getElem?_getD, List.getElem?_eq_getElem hi] at e
  simp only [Option.getD_some] at e
  rw [e, hv, hD, Nat.pow_mul]
end Go.Proofs.YtlchlajckodppaaDoor

/- The walks of TrimLeft at the cutset 0, and of text. -/
set_option linter.unusedSimpArgs false
set_option linter.unusedVariables false
namespace Go.Proofs.YtlchlajckodppaaDoor
open Go.RowKit Go.Deep Go.PlainAid

theorem ext_one (s : ByteArray) : (s.extract 1 s.size).data.toList = s.data.toList.drop 1 := by
  have h1 : s.data.toList.length = s.size := rfl
  simp only [ByteArray.data_extract, Array.toList_extract, List.extract_eq_take_drop]
  rw [List.take_of_length_le (by rw [List.length_drop, h1]; exact Nat.le_refl _)]
theorem drop_head (s : ByteArray) (h : 0 < s.size) (h48 : bt s 0 = 48) : (s.extract 1 s.size).data.toList.dropWhile (· == 48) = s.data.toList.dropWhile (· == 48) := by
  rw [ext_one]
  have e := bt_list s 0 h
  have e48 : s.data.toList[0]'h = 48 := UInt8.toNat_inj.1 (by show _ = 48; omega)
  have hc : s.data.toList = (s.data.toList[0]'h) :: s.data.toList.drop 1 := by
    have := List.drop_eq_getElem_cons (l := s.data.toList) (i := 0) h
    rwa [List.drop_zero] at this
  generalize s.data.toList[0]'h = c at *
  subst e48
  conv => rhs; rw [hc]
  simp
theorem stop_head (s : ByteArray) (h : s.size = 0 ∨ (0 < s.size ∧ bt s 0 ≠ 48)) : s.data.toList.dropWhile (· == 48) = s.data.toList := by
  rcases h with h | ⟨h, h48⟩
  · have : s.data.toList = [] := List.length_eq_zero_iff.1 h
    rw [this]; rfl
  · have e := bt_list s 0 h
    have hc : s.data.toList = (s.data.toList[0]'h) :: s.data.toList.drop 1 := by
      have := List.drop_eq_getElem_cons (l := s.data.toList) (i := 0) h
      rwa [List.drop_zero] at this
    have ne : s.data.toList[0]'h ≠ 48 := fun hx => h48 (by rw [e, hx]; rfl)
    generalize s.data.toList[0]'h = c at *
    rw [hc, List.dropWhile_cons]
    simp [ne]

theorem zeroB_get (h : 0 < (⟨#[48]⟩ : ByteArray).size) : ((⟨#[48]⟩ : ByteArray)[0]'h) = 48 := rfl
theorem Tryd.info5 : (Tryd.prog.info? 5).map (fun i => (i.zero, i.size, i.bytes)) = some (some (.int .u8 0), 1, 1) := by kernel_rfl
/-- Bytes as the cells hold them. -/
abbrev Yb (x : UInt8) : Value := .int .u8 (x.toNat : Int)
def ys (l : List UInt8) : List Value := l.map Yb
theorem ys_length (l : List UInt8) : (ys l).length = l.length := by simp [ys]
theorem ys_append (l r : List UInt8) : ys (l ++ r) = ys l ++ ys r := by simp [ys]
theorem makeBytes (z : Int) (n : Nat) (hz : z = (n : Int)) (hn : n ≤ 4294967296) (w : World) : (Instr.makeSlice 41 (.int .i64 z) (.int .i64 z)).run Tryd.prog w = .ok (.slice (some ⟨w.heap.size, 0, none⟩) n n) (w.alloc (.cells (ys (List.replicate n 0)).toArray 5)) := by
  subst hz
  have := run_make_row' (P := Tryd.prog) 41 5 (.int .u8 0) 1 Tryd.underlying41 Tryd.info5 rfl .i64 .i64 n (by omega) (by omega) w
  rw [this]
  have e : madeCells #[.int .u8 0] n = (ys (List.replicate n 0)).toArray := by
    apply Array.toList_inj.1
    rw [toList_madeCells_one]
    simp [ys]
  rw [e]
/-- What the bytes are when the digits D were laid, from the end. -/
def laidB (N : Nat) (D : List Nat) : List UInt8 := List.replicate (N - D.length) 0 ++ chars D
theorem laidB_length (N : Nat) (D : List Nat) (h : D.length ≤ N) : (laidB N D).length = N := by simp [laidB, chars_length]; omega
theorem laidB_step (N : Nat) (D : List Nat) (d : Nat) (h : D.length < N) (hd : d < 10) (x : Int) (hx : x = (d : Int) + 48) : (ys (laidB N D)).set (N - D.length - 1) (.int .u8 x) = ys (laidB N (D ++ [d])) := by
  have e1 : List.replicate (N - D.length) (0 : UInt8) = List.replicate (N - (D ++ [d]).length) 0 ++ [0] := by
    rw [show N - D.length = (N - (D ++ [d]).length) + 1 by simp; omega, List.replicate_succ']
  have e2 : N - D.length - 1 = (ys (List.replicate (N - (D ++ [d]).length) (0 : UInt8))).length := by simp [ys]; omega
  have e3 : Value.int .u8 x = Yb (UInt8.ofNat (d + 48)) := by
    rw [Yb, UInt8.toNat_ofNat', hx]
    congr 1
    omega
  unfold laidB
  rw [e1, e2, e3, chars_snoc, ys_append, ys_append, ys_append, List.append_assoc, List.set_append_right _ _ (Nat.le_refl _), Nat.sub_self]
  rfl
theorem Digs.start (N T : Nat) (D : List Nat) (cur : Nat) (h1 : ∀ d ∈ D, d < 10) (h2 : vl 10 D + 10 ^ D.length * cur = T) (h3 : cur < 1000000000) : Digs N T D cur 0 := ⟨h1, h2, by simpa using h3⟩

end Go.Proofs.YtlchlajckodppaaDoor

