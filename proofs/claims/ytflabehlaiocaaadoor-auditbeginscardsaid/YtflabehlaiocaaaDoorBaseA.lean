/- Plain: numbers as lists of digits to a base, the lowest first; texts of digits. No Go text is named here. -/
import Derived.WalkKit
import Derived.Test.YtflabehlaiocaaaDoorRows
import Derived.WalkSpells
import Derived.WalkLawsBesides
import Derived.Handy
import Derived.Deep.Draws
import Derived.Deep.MidRow
import Derived.Deep.QuietTactic
import Derived.BigQuiet
import Derived.Deep.LoopGhost
import Derived.Laws.IdiomCopy
import Derived.Deep.OwnRows
import Derived.PlainAid
import Derived.Deep.RegionWith
import Derived.Laws.BytesArg
import Derived.Lib.LazyBuf
set_option linter.unusedSimpArgs false
set_option linter.unusedVariables false
namespace Go.Proofs.YtflabehlaiocaaaDoor

/-- What a list of digits is worth. -/
def vl (B : Nat) : List Nat → Nat
  | [] => 0
  | d :: r => d + B * vl B r

theorem vl_append (B : Nat) : ∀ l r : List Nat, vl B (l ++ r) = vl B l + B ^ l.length * vl B r
  | [], r => by simp [vl]
  | d :: l, r => by
    have := vl_append B l r
    simp only [List.cons_append, vl, this, List.length_cons]
    grind
theorem vl_snoc (B : Nat) (l : List Nat) (d : Nat) : vl B (l ++ [d]) = vl B l + B ^ l.length * d := by
  rw [vl_append]; simp [vl]
theorem vl_lt (B : Nat) : ∀ l : List Nat, (∀ d ∈ l, d < B) → vl B l < B ^ l.length
  | [], _ => by simp [vl]
  | d :: l, h => by
    have h1 := vl_lt B l (fun x hx => h x (by simp [hx]))
    have h2 := h d (by simp)
    simp only [vl, List.length_cons]
    have h3 : B * (vl B l + 1) ≤ B * B ^ l.length := Nat.mul_le_mul_left _ h1
    have h4 : B ^ (l.length + 1) = B * B ^ l.length := by grind
    rw [h4]
    have h5 : B * (vl B l + 1) = B * vl B l + B := by grind
    omega
theorem vl_zeros (B : Nat) (k : Nat) : vl B (List.replicate k 0) = 0 := by
  induction k with
  | zero => rfl
  | succ k ih => simp [List.replicate_succ, vl, ih]
theorem vl_append_zeros (B : Nat) (l : List Nat) (k : Nat) : vl B (l ++ List.replicate k 0) = vl B l := by
  rw [vl_append, vl_zeros]; simp

/-- The digits of a number. -/
def dg (B n : Nat) : List Nat := if h : n = 0 ∨ B < 2 then [] else n % B :: dg B (n / B)
termination_by n
decreasing_by exact Nat.div_lt_self (by omega) (by omega)

theorem dg_zero (B : Nat) : dg B 0 = [] := by rw [dg]; simp
theorem dg_pos {B n : Nat} (hB : 2 ≤ B) (hn : n ≠ 0) : dg B n = n % B :: dg B (n / B) := by
  rw [dg, dif_neg (by omega)]
theorem dg_eq_nil {B n : Nat} (hB : 2 ≤ B) : dg B n = [] ↔ n = 0 := by
  constructor
  · intro h
    by_cases h0 : n = 0
    · exact h0
    · rw [dg_pos hB h0] at h; cases h
  · rintro rfl; exact dg_zero B
theorem dg_length_zero {B n : Nat} (hB : 2 ≤ B) : (dg B n).length = 0 ↔ n = 0 := by
  rw [List.length_eq_zero_iff, dg_eq_nil hB]
theorem vl_dg {B : Nat} (hB : 2 ≤ B) (n : Nat) : vl B (dg B n) = n := by
  induction n using Nat.strongRecOn with
  | _ n ih =>
    by_cases h0 : n = 0
    · subst h0; rw [dg_zero]; rfl
    · rw [dg_pos hB h0, vl, ih (n / B) (Nat.div_lt_self (by omega) (by omega))]
      exact Nat.mod_add_div n B
theorem dg_mem {B : Nat} (hB : 2 ≤ B) (n : Nat) : ∀ d ∈ dg B n, d < B := by
  induction n using Nat.strongRecOn with
  | _ n ih =>
    by_cases h0 : n = 0
    · subst h0; rw [dg_zero]; intro d hd; cases hd
    · rw [dg_pos hB h0]
      intro d hd
      rcases List.mem_cons.1 hd with rfl | hd
      · exact Nat.mod_lt _ (by omega)
      · exact ih (n / B) (Nat.div_lt_self (by omega) (by omega)) d hd
/-- The top digit is not 0. -/
def Topped (l : List Nat) : Prop := l = [] ∨ l.getD (l.length - 1) 0 ≠ 0
theorem dg_vl {B : Nat} (hB : 2 ≤ B) : ∀ l : List Nat, (∀ d ∈ l, d < B) → Topped l → dg B (vl B l) = l
  | [], _, _ => dg_zero B
  | d :: l, h, ht => by
    have hd := h d (by simp)
    have hl : ∀ x ∈ l, x < B := fun x hx => h x (by simp [hx])
    rcases ht with ht | ht
    · cases ht
    · by_cases hn : l = []
      · subst hn
        simp at ht
        have : vl B [d] = d := by simp [vl]
        rw [this, dg_pos hB ht, Nat.mod_eq_of_lt hd, Nat.div_eq_of_lt hd, dg_zero]
      · have hpos : 0 < l.length := List.length_pos_iff.2 hn
        have ht2 : Topped l := Or.inr (by
          have e : (d :: l).length - 1 = (l.length - 1) + 1 := by simp; omega
          rw [e, List.getD_cons_succ] at ht
          exact ht)
        have ih := dg_vl hB l hl ht2
        have hv : vl B l ≠ 0 := fun h0 => by rw [h0, dg_zero] at ih; exact hn ih.symm
        have hv2 : vl B (d :: l) ≠ 0 := by
          simp only [vl]
          have : 0 < B * vl B l := Nat.mul_pos (by omega) (by omega)
          omega
        rw [dg_pos hB hv2]
        simp only [vl]
        rw [Nat.add_mul_mod_self_left, Nat.mod_eq_of_lt hd, Nat.add_mul_div_left _ _ (by omega), Nat.div_eq_of_lt hd, Nat.zero_add, ih]
theorem dg_topped {B : Nat} (hB : 2 ≤ B) (n : Nat) : Topped (dg B n) := by
  induction n using Nat.strongRecOn with
  | _ n ih =>
    by_cases h0 : n = 0
    · subst h0; exact Or.inl (dg_zero B)
    · refine Or.inr ?_
      rw [dg_pos hB h0]
      rcases ih (n / B) (Nat.div_lt_self (by omega) (by omega)) with h | h
      · rw [h]
        have : n / B = 0 := (dg_eq_nil hB).1 h
        have hlt : n < B := (Nat.div_eq_zero_iff_lt (by omega)).1 this
        simp [Nat.mod_eq_of_lt hlt, h0]
      · by_cases hn : dg B (n / B) = []
        · rw [hn] at h; simp at h
        · have hpos : 0 < (dg B (n / B)).length := List.length_pos_iff.2 hn
          have e : (n % B :: dg B (n / B)).length - 1 = ((dg B (n / B)).length - 1) + 1 := by simp; omega
          rw [e, List.getD_cons_succ]
          exact h
theorem lt_pow_dg {B : Nat} (hB : 2 ≤ B) (n : Nat) : n < B ^ (dg B n).length := by
  have := vl_lt B (dg B n) (dg_mem hB n)
  rwa [vl_dg hB] at this
theorem dg_len_le {B : Nat} (hB : 2 ≤ B) : ∀ (k n : Nat), n < B ^ k → (dg B n).length ≤ k
  | 0, n, h => by simp at h; subst h; simp [dg_zero]
  | k + 1, n, h => by
    by_cases h0 : n = 0
    · subst h0; simp [dg_zero]
    · rw [dg_pos hB h0, List.length_cons]
      have : n / B < B ^ k := by
        rw [Nat.div_lt_iff_lt_mul (by omega)]
        have : B ^ (k + 1) = B ^ k * B := by grind
        omega
      have := dg_len_le hB k (n / B) this
      omega
theorem pow_le_of_len {B : Nat} (hB : 2 ≤ B) : ∀ (k n : Nat), k < (dg B n).length → B ^ k ≤ n := by
  intro k n h
  by_cases hc : B ^ k ≤ n
  · exact hc
  · have := dg_len_le hB k n (by omega)
    omega
theorem dg_len_mono {B : Nat} (hB : 2 ≤ B) {n m : Nat} (h : n ≤ m) : (dg B n).length ≤ (dg B m).length :=
  dg_len_le hB _ _ (Nat.lt_of_le_of_lt h (lt_pow_dg hB m))
theorem lt_of_len_lt {B : Nat} (hB : 2 ≤ B) {n m : Nat} (h : (dg B n).length < (dg B m).length) : n < m := by
  by_cases hc : n < m
  · exact hc
  · have := dg_len_mono hB (show m ≤ n by omega)
    omega
theorem dg_inj {B : Nat} (hB : 2 ≤ B) {n m : Nat} (h : dg B n = dg B m) : n = m := by
  rw [← vl_dg hB n, h, vl_dg hB m]
/-- A list of digits, without what is 0 at its top. -/
theorem dg_of_vl {B : Nat} (hB : 2 ≤ B) (l : List Nat) (n : Nat) (hl : ∀ d ∈ l, d < B) (hv : vl B l = n) (ht : Topped l) : l = dg B n := by
  rw [← hv, dg_vl hB l hl ht]

/-- Two lists that part at i, and are the same above it. -/
theorem vl_part {B : Nat} (l r : List Nat) (i : Nat) (hl : ∀ d ∈ l, d < B) (hi : i < l.length) (hi' : i < r.length) (he : l.drop (i + 1) = r.drop (i + 1)) (hlt : l[i] < r[i]) : vl B l < vl B r := by
  have e1 : l = l.take i ++ (l[i] :: l.drop (i + 1)) := by rw [← List.drop_eq_getElem_cons hi, List.take_append_drop]
  have e2 : r = r.take i ++ (r[i] :: r.drop (i + 1)) := by rw [← List.drop_eq_getElem_cons hi', List.take_append_drop]
  have h1 := vl_lt B (l.take i) (fun d hd => hl d (List.mem_of_mem_take hd))
  have h2 : vl B l = vl B (l.take i) + B ^ i * (l[i] + B * vl B (l.drop (i + 1))) := by
    have := vl_append B (l.take i) (l[i] :: l.drop (i + 1))
    rw [← e1] at this
    rw [this, List.length_take, Nat.min_eq_left (by omega)]; rfl
  have h3 : vl B r = vl B (r.take i) + B ^ i * (r[i] + B * vl B (r.drop (i + 1))) := by
    have := vl_append B (r.take i) (r[i] :: r.drop (i + 1))
    rw [← e2] at this
    rw [this, List.length_take, Nat.min_eq_left (by omega)]; rfl
  rw [List.length_take, Nat.min_eq_left (by omega)] at h1
  rw [h2, h3, he]
  generalize B * vl B (r.drop (i + 1)) = Q
  have h4 : B ^ i * (l[i] + Q + 1) ≤ B ^ i * (r[i] + Q) := Nat.mul_le_mul_left _ (by omega)
  have h5 : B ^ i * (l[i] + Q + 1) = B ^ i * (l[i] + Q) + B ^ i := by grind
  omega

/-! ### Texts of digits -/
/-- What a text of digits is worth. -/
def bv (l : List UInt8) : Nat := l.foldl (fun a c => a * 10 + (c.toNat - 48)) 0
theorem bv_from (l : List UInt8) : ∀ a : Nat, l.foldl (fun a c => a * 10 + (c.toNat - 48)) a = a * 10 ^ l.length + bv l := by
  induction l with
  | nil => intro a; simp [bv]
  | cons c l ih =>
    intro a
    have h1 := ih (a * 10 + (c.toNat - 48))
    have h2 := ih (0 * 10 + (c.toNat - 48))
    simp only [bv, List.foldl_cons] at *
    rw [h1, h2, List.length_cons]
    grind
theorem bv_append (l r : List UInt8) : bv (l ++ r) = bv l * 10 ^ r.length + bv r := by
  unfold bv
  rw [List.foldl_append, bv_from]; rfl
theorem bv_snoc (l : List UInt8) (c : UInt8) : bv (l ++ [c]) = bv l * 10 + (c.toNat - 48) := by
  rw [bv_append]; simp [bv]
theorem bv_cons (c : UInt8) (l : List UInt8) : bv (c :: l) = (c.toNat - 48) * 10 ^ l.length + bv l := by
  have := bv_append [c] l
  simpa [bv] using this
/-- All are digits. -/
def isDig (c : UInt8) : Bool := 48 ≤ c.toNat && c.toNat ≤ 57
def allDig (l : List UInt8) : Bool := l.all isDig
theorem bv_lt : ∀ l : List UInt8, allDig l = true → bv l < 10 ^ l.length
  | [], _ => by simp [bv]
  | c :: l, h => by
    simp only [allDig, List.all_cons, Bool.and_eq_true, isDig, decide_eq_true_eq] at h
    have h1 := bv_lt l (by simp only [allDig]; exact h.2)
    rw [bv_cons, List.length_cons]
    have h2 : (c.toNat - 48 + 1) * 10 ^ l.length ≤ 10 * 10 ^ l.length := Nat.mul_le_mul_right _ (by omega)
    have h3 : (10 : Nat) ^ (l.length + 1) = 10 * 10 ^ l.length := by grind
    have h4 : (c.toNat - 48 + 1) * 10 ^ l.length = (c.toNat - 48) * 10 ^ l.length + 10 ^ l.length := by grind
    omega
/-- The digits of a text, the lowest first. -/
def dl (l : List UInt8) : List Nat := l.reverse.map fun c => c.toNat - 48
theorem dl_length (l : List UInt8) : (dl l).length = l.length := by simp [dl]
theorem dl_cons (c : UInt8) (l : List UInt8) : dl (c :: l) = dl l ++ [c.toNat - 48] := by simp [dl]
theorem vl_dl : ∀ l : List UInt8, vl 10 (dl l) = bv l
  | [] => rfl
  | c :: l => by
    rw [dl_cons, vl_snoc, vl_dl l, dl_length, bv_cons, Nat.mul_comm]; omega
theorem dl_lt (l : List UInt8) (h : allDig l = true) : ∀ d ∈ dl l, d < 10 := by
  intro d hd
  simp only [dl, List.mem_map, List.mem_reverse] at hd
  obtain ⟨c, hc, rfl⟩ := hd
  have := (List.all_eq_true.1 h) c hc
  simp only [isDig, Bool.and_eq_true, decide_eq_true_eq] at this
  omega
/-- A text that is a number. -/
def isNum (l : List UInt8) : Bool := allDig l && (l == [48] || (l != [] && l.head? != some 48))
/-- The text of a list of digits. -/
def chars (l : List Nat) : List UInt8 := l.reverse.map fun d => UInt8.ofNat (d + 48)
/-- The text of a number. -/
def txt (n : Nat) : List UInt8 := if n = 0 then [48] else chars (dg 10 n)
theorem chars_dl (l : List UInt8) (h : allDig l = true) : chars (dl l) = l := by
  simp only [chars, dl, List.map_reverse, List.reverse_reverse, List.map_map]
  apply List.ext_getElem (by simp)
  intro i h1 h2
  have := (List.all_eq_true.1 h) l[i] (List.getElem_mem _)
  simp only [isDig, Bool.and_eq_true, decide_eq_true_eq] at this
  simp only [List.getElem_map, Function.comp]
  apply UInt8.toNat_inj.1
  rw [UInt8.toNat_ofNat']
  omega
theorem txt_bv (l : List UInt8) (h : isNum l = true) : txt (bv l) = l := by
  simp only [isNum, Bool.and_eq_true, Bool.or_eq_true, beq_iff_eq, bne_iff_ne, ne_eq] at h
  obtain ⟨ha, h | ⟨h1, h2⟩⟩ := h
  · subst h; rfl
  · cases l with
    | nil => exact absurd rfl h1
    | cons c l =>
      simp only [List.head?_cons, Option.some.injEq] at h2
      have hc := (List.all_eq_true.1 ha) c (by simp)
      simp only [isDig, Bool.and_eq_true, decide_eq_true_eq] at hc
      have hc2 : c.toNat ≠ 48 := fun e => h2 (UInt8.toNat_inj.1 e)
      have ht : Topped (dl (c :: l)) := Or.inr (by
        rw [dl_cons, List.length_append]
        simp
        omega)
      have hd := dg_vl (by omega) (dl (c :: l)) (dl_lt _ ha) ht
      rw [vl_dl] at hd
      have hz : bv (c :: l) ≠ 0 := fun e => by
        rw [e, dg_zero] at hd
        rw [dl_cons] at hd
        simp at hd
      rw [txt, if_neg hz, hd, chars_dl _ ha]
theorem allDig_chars (l : List Nat) (h : ∀ d ∈ l, d < 10) : allDig (chars l) = true := by
  simp only [allDig, chars, List.all_map, List.all_reverse, List.all_eq_true]
  intro d hd
  have := h d hd
  simp only [Function.comp, isDig, UInt8.toNat_ofNat', Bool.and_eq_true, decide_eq_true_eq]
  omega
theorem dl_chars (l : List Nat) (h : ∀ d ∈ l, d < 10) : dl (chars l) = l := by
  simp only [chars, dl, List.map_reverse, List.reverse_reverse, List.map_map]
  apply List.ext_getElem (by simp)
  intro i h1 h2
  have := h l[i] (List.getElem_mem _)
  simp only [List.getElem_map, Function.comp, UInt8.toNat_ofNat']
  omega
theorem bv_txt (n : Nat) : bv (txt n) = n := by
  by_cases h : n = 0
  · subst h; rfl
  · rw [txt, if_neg h, ← vl_dl, dl_chars _ (dg_mem (by omega) n), vl_dg (by omega)]
theorem isNum_txt (n : Nat) : isNum (txt n) = true := by
  by_cases h : n = 0
  · subst h; rfl
  · rw [txt, if_neg h]
    have hm := dg_mem (show 2 ≤ 10 by omega) n
    have ht := dg_topped (show 2 ≤ 10 by omega) n
    have hne : dg 10 n ≠ [] := fun e => h ((dg_eq_nil (by omega)).1 e)
    simp only [isNum, allDig_chars _ hm, Bool.true_and, Bool.or_eq_true, Bool.and_eq_true, bne_iff_ne, ne_eq]
    refine Or.inr ⟨by simpa [chars] using hne, ?_⟩
    rcases ht with ht | ht
    · exact absurd ht hne
    · simp only [chars, List.head?_map, List.head?_reverse, List.getLast?_eq_getElem?]
      have hpos : 0 < (dg 10 n).length := List.length_pos_iff.2 hne
      rw [List.getElem?_eq_getElem (by omega)]
      simp only [Option.map_some, Option.some.injEq]
      intro e
      have e2 := congrArg UInt8.toNat e
      have hlt := hm _ (List.getElem_mem (show (dg 10 n).length - 1 < (dg 10 n).length by omega))
      rw [UInt8.toNat_ofNat'] at e2
      rw [List.getD_eq_getElem?_getD, List.getElem?_eq_getElem (by omega)] at ht
      simp at ht
      have : (48 : UInt8).toNat = 48 := rfl
      omega
theorem txt_length (n : Nat) : (txt n).length = if n = 0 then 1 else (dg 10 n).length := by
  unfold txt; split <;> simp [chars]
theorem txt_inj {n m : Nat} (h : txt n = txt m) : n = m := by rw [← bv_txt n, h, bv_txt]
theorem txt_len_le (n k : Nat) (hk : 1 ≤ k) (h : n < 10 ^ k) : (txt n).length ≤ k := by
  rw [txt_length]; split
  · exact hk
  · exact dg_len_le (by omega) k n h
end Go.Proofs.YtflabehlaiocaaaDoor

/- Numbers in memory: a slice whose cells hold the digits; the walks of limb, isZero, isOne, trimmed and of the reference's at and trim. -/
set_option linter.unusedSimpArgs false
set_option linter.unusedVariables false
namespace Go.Proofs.YtflabehlaiocaaaDoor
open Go.RowKit

/-- A number of the program's own as it holds it. -/
abbrev I (x : Nat) : Value := .int .i64 (x : Int)
/-- At a lie these numbers. -/
def Row (w : World) (a : Option Addr) (l : List Nat) : Prop := ∀ i (h : i < l.length), ∃ b o, a = some ⟨b, o, none⟩ ∧ w.cell? ⟨b, o + i, none⟩ = some (I l[i])
theorem Row.nil (w : World) (a : Option Addr) : Row w a [] := fun i h => by cases h
theorem Row.of_below {w w' : World} {a : Option Addr} {l : List Nat} (h : Row w a l) (hb : Below w.heap.size w w') : Row w' a l := by
  intro i hi
  obtain ⟨b, o, ha, hc⟩ := h i hi
  exact ⟨b, o, ha, by rw [hb.cell (World.block_lt_of_cell? _ _ hc)]; exact hc⟩
theorem Row.take {w : World} {a : Option Addr} {l : List Nat} (h : Row w a l) (k : Nat) : Row w a (l.take k) := by
  intro i hi
  rw [List.length_take] at hi
  obtain ⟨b, o, ha, hc⟩ := h i (by omega)
  exact ⟨b, o, ha, by rw [List.getElem_take]; exact hc⟩
theorem Row.drew {w : World} {a : Option Addr} {l : List Nat} (h : Row w a l) (n : Nat) : Row (w.drewN n) a l := h
/-- A value that is the number n to the base B. -/
def NumV (w : World) (B n : Nat) (v : Value) : Prop := ∃ a cap, v = .slice a (dg B n).length cap ∧ (dg B n).length ≤ cap ∧ Row w a (dg B n)
theorem NumV.of_below {w w' : World} {B n : Nat} {v : Value} (h : NumV w B n v) (hb : Below w.heap.size w w') : NumV w' B n v := by
  obtain ⟨a, cap, h1, h2, h3⟩ := h
  exact ⟨a, cap, h1, h2, h3.of_below hb⟩

set_option maxHeartbeats 400000 in
theorem limb_any (w : World) (a : Option Addr) (l : List Nat) (cap i : Nat) (hr : Row w a l) :
    Calls Tryd.prog 64 #[.slice a l.length cap, .int .i64 (i : Int)] w fun e w' => e = .returned (I (l.getD i 0)) ∧ w' = w := by
  go_enter Tryd.func64, Tryd.ntmps64
  by_cases hi : i < l.length
  · obtain ⟨b, o, rfl, hc⟩ := hr i hi
    have il : (i : Int) < (l.length : Int) := by omega
    have e : l.getD i 0 = l[i] := by simp [List.getD_eq_getElem?_getD, hi]
    rw [e]
    generalize l[i] = x at *
    clear e
    go_wp2_with fail
    go_ret
    exact ⟨rfl, rfl⟩
  · have il : ¬ (i : Int) < (l.length : Int) := by omega
    have e : l.getD i 0 = 0 := by simp [List.getD_eq_getElem?_getD]; rw [List.getElem?_eq_none (by omega)]; rfl
    rw [e]
    go_wp2_with fail
    go_ret
    exact ⟨rfl, rfl⟩

set_option maxHeartbeats 400000 in
theorem at_any (w : World) (a : Option Addr) (l : List Nat) (cap i : Nat) (hr : Row w a l) :
    Calls Tryd.prog 79 #[.slice a l.length cap, .int .i64 (i : Int)] w fun e w' => e = .returned (I (l.getD i 0)) ∧ w' = w := by
  go_enter Tryd.func79, Tryd.ntmps79
  by_cases hi : i < l.length
  · obtain ⟨b, o, rfl, hc⟩ := hr i hi
    have il : (i : Int) < (l.length : Int) := by omega
    have e : l.getD i 0 = l[i] := by simp [List.getD_eq_getElem?_getD, hi]
    rw [e]
    generalize l[i] = x at *
    clear e
    go_wp2_with fail
    go_ret
    exact ⟨rfl, rfl⟩
  · have il : ¬ (i : Int) < (l.length : Int) := by omega
    have e : l.getD i 0 = 0 := by simp [List.getD_eq_getElem?_getD]; rw [List.getElem?_eq_none (by omega)]; rfl
    rw [e]
    go_wp2_with fail
    go_ret
    exact ⟨rfl, rfl⟩

/-! ### Zeros at the top are left out -/
theorem trim_step {B : Nat} {l : List Nat} {k : Nat} (hk : 0 < k) (hl : k ≤ l.length) (hv : vl B (l.take k) = vl B l) (h0 : l[k - 1] = 0) : vl B (l.take (k - 1)) = vl B l := by
  have e : l.take k = l.take (k - 1) ++ [l[k - 1]] := by
    have := List.take_succ_eq_append_getElem (show k - 1 < l.length by omega)
    rwa [show k - 1 + 1 = k by omega] at this
  rw [← hv, e, h0, vl_snoc]; simp
theorem trim_end {B : Nat} (hB : 2 ≤ B) {w : World} {a : Option Addr} {l : List Nat} {k cap : Nat} (hr : Row w a l) (hc : l.length ≤ cap) (hd : ∀ d ∈ l, d < B) (hl : k ≤ l.length) (hv : vl B (l.take k) = vl B l)
    (h0 : ∀ h : 0 < k, l[k - 1] ≠ 0) : NumV w B (vl B l) (.slice a k cap) := by
  have ht : Topped (l.take k) := by
    by_cases hk : 0 < k
    · refine Or.inr ?_
      have e : (l.take k).length - 1 = k - 1 := by rw [List.length_take]; omega
      have hlt : k - 1 < (l.take k).length := by rw [List.length_take]; omega
      rw [e, List.getD_eq_getElem?_getD, List.getElem?_eq_getElem hlt, List.getElem_take]
      exact h0 hk
    · refine Or.inl ?_
      have : k = 0 := by omega
      subst this; rfl
  have hdg : dg B (vl B l) = l.take k := by
    rw [← hv]; exact dg_vl hB _ (fun d hd' => hd d (List.mem_of_mem_take hd')) ht
  refine ⟨a, cap, ?_, ?_, ?_⟩
  · rw [hdg, List.length_take, Nat.min_eq_left hl]
  · rw [hdg, List.length_take]; omega
  · rw [hdg]; exact hr.take k

set_option maxHeartbeats 400000 in
theorem trimmed_any (B : Nat) (hB : 2 ≤ B) (w : World) (a : Option Addr) (l : List Nat) (cap : Nat) (hr : Row w a l) (hc : l.length ≤ cap) (hl : ∀ d ∈ l, d < B) (hn : cap ≤ 9223372036854775807) :
    Calls Tryd.prog 42 #[.slice a l.length cap] w fun e w' => (∃ v, e = .returned v ∧ NumV w B (vl B l) v) ∧ w' = w := by
  have HL : Hid (∀ d ∈ l, d < B) := hl
  clear hl
  go_enter Tryd.func42, Tryd.ntmps42
  go_wp2_with fail
  go_loop [0] (fun s => ∃ k : Nat, k ≤ l.length ∧ s = .slice a k cap ∧ vl B (l.take k) = vl B l) (fun s => match s with | .slice _ k _ => k | _ => 0)
  case atStart => exact ⟨l.length, Nat.le_refl _, rfl, by rw [List.take_length]⟩
  case round =>
    obtain ⟨k, hk, rfl, hv⟩ := hrel
    by_cases hlt : 0 < k
    · obtain ⟨b, o, rfl, hcell⟩ := hr (k - 1) (by omega)
      have HV : Hid (vl B (l.take k) = vl B l) := hv
      clear hv
      by_cases hz : l[k - 1] = 0
      · have HS := trim_step hlt hk HV.out hz
        have HH : Hid (vl B (l.take (k - 1)) = vl B l) := HS
        rw [hz] at hcell
        clear HS HV
        go_wp2_with fail
        exact ⟨⟨k - 1, by omega, rfl, HH.out⟩, by show k - 1 < k; omega⟩
      · have HE : Hid (NumV w B (vl B l) (.slice (some ⟨b, o, none⟩) k cap)) := trim_end hB hr hc HL.out hk HV.out (fun _ => hz)
        have hz' : ((l[k - 1] : Int) == 0) = false := by simp; omega
        generalize l[k - 1] = x at *
        go_wp2_with fail
        go_ret
        exact ⟨⟨_, rfl, HE.out⟩, rfl⟩
    · obtain rfl : k = 0 := by omega
      have HE : Hid (NumV w B (vl B l) (.slice a 0 cap)) := trim_end hB hr hc HL.out hk hv (fun h => by omega)
      have hd : decide ((0 : Int) < 0) = false := by decide
      go_wp2_with fail
      go_ret
      exact ⟨⟨_, rfl, HE.out⟩, rfl⟩

set_option maxHeartbeats 400000 in
theorem trim_any (B : Nat) (hB : 2 ≤ B) (w : World) (a : Option Addr) (l : List Nat) (cap : Nat) (hr : Row w a l) (hc : l.length ≤ cap) (hl : ∀ d ∈ l, d < B) (hn : cap ≤ 9223372036854775807) :
    Calls Tryd.prog 60 #[.slice a l.length cap] w fun e w' => (∃ v, e = .returned v ∧ NumV w B (vl B l) v) ∧ w' = w := by
  have HL : Hid (∀ d ∈ l, d < B) := hl
  clear hl
  go_enter Tryd.func60, Tryd.ntmps60
  go_wp2_with fail
  go_loop [0] (fun s => ∃ k : Nat, k ≤ l.length ∧ s = .slice a k cap ∧ vl B (l.take k) = vl B l) (fun s => match s with | .slice _ k _ => k | _ => 0)
  case atStart => exact ⟨l.length, Nat.le_refl _, rfl, by rw [List.take_length]⟩
  case round =>
    obtain ⟨k, hk, rfl, hv⟩ := hrel
    by_cases hlt : 0 < k
    · obtain ⟨b, o, rfl, hcell⟩ := hr (k - 1) (by omega)
      have HV : Hid (vl B (l.take k) = vl B l) := hv
      clear hv
      by_cases hz : l[k - 1] = 0
      · have HS := trim_step hlt hk HV.out hz
        have HH : Hid (vl B (l.take (k - 1)) = vl B l) := HS
        rw [hz] at hcell
        clear HS HV
        go_wp2_with fail
        exact ⟨⟨k - 1, by omega, rfl, HH.out⟩, by show k - 1 < k; omega⟩
      · have HE : Hid (NumV w B (vl B l) (.slice (some ⟨b, o, none⟩) k cap)) := trim_end hB hr hc HL.out hk HV.out (fun _ => hz)
        have hz' : ((l[k - 1] : Int) == 0) = false := by simp; omega
        generalize l[k - 1] = x at *
        go_wp2_with fail
        go_ret
        exact ⟨⟨_, rfl, HE.out⟩, rfl⟩
    · obtain rfl : k = 0 := by omega
      have HE : Hid (NumV w B (vl B l) (.slice a 0 cap)) := trim_end hB hr hc HL.out hk hv (fun h => by omega)
      have hd : decide ((0 : Int) < 0) = false := by decide
      go_wp2_with fail
      go_ret
      exact ⟨⟨_, rfl, HE.out⟩, rfl⟩

set_option maxHeartbeats 400000 in
theorem isZero_any (w : World) (a : Option Addr) (n cap : Nat) :
    Calls Tryd.prog 24 #[.slice a (dg 1000000000 n).length cap] w fun e w' => e = .returned (.bool (n == 0)) ∧ w' = w := by
  have h := dg_length_zero (B := 1000000000) (n := n) (by omega)
  have e : (((dg 1000000000 n).length : Int) == 0) = (n == 0) := by
    rw [Bool.eq_iff_iff]; simp only [beq_iff_eq]; omega
  clear h
  go_enter Tryd.func24, Tryd.ntmps24
  generalize (dg 1000000000 n).length = k at *
  go_wp2_with fail
  go_ret
  exact ⟨by rw [← e]; rfl, rfl⟩
end Go.Proofs.YtflabehlaiocaaaDoor

/- Plain: one number added to another some times, limb by limb; what is carried. -/
set_option linter.unusedSimpArgs false
set_option linter.unusedVariables false
namespace Go.Proofs.YtflabehlaiocaaaDoor

theorem vl_take_succ (B : Nat) (l : List Nat) (i : Nat) : vl B (l.take (i + 1)) = vl B (l.take i) + B ^ i * l.getD i 0 := by
  by_cases h : i < l.length
  · rw [List.take_succ_eq_append_getElem h, vl_snoc, List.length_take, Nat.min_eq_left (by omega), List.getD_eq_getElem?_getD, List.getElem?_eq_getElem h]; rfl
  · rw [List.take_of_length_le (by omega), List.take_of_length_le (by omega), List.getD_eq_getElem?_getD, List.getElem?_eq_none (by omega)]; simp
/-- What holds when i limbs were gone through: p are the new ones, c is carried. -/
structure Puts (B : Nat) (l m : List Nat) (t : Int) (i : Nat) (p : List Nat) (c : Int) : Prop where
  len : p.length = i
  low : ∀ d ∈ p, d < B
  eq : (vl B (l.take i) : Int) + t * (vl B (m.take i) : Int) = (vl B p : Int) + c * (B : Int) ^ i
  hi : c ≤ t ∨ c ≤ 0
  lo : t ≤ c ∨ 0 ≤ c
theorem Puts.zero (B : Nat) (l m : List Nat) (t : Int) : Puts B l m t 0 [] 0 :=
  ⟨rfl, (fun d h => by cases h), by simp [vl], Or.inr (by omega), Or.inr (by omega)⟩
theorem Puts.step {B : Nat} {l m : List Nat} {t : Int} {i : Nat} {p : List Nat} {c : Int} (h : Puts B l m t i p c) (hB : 2 ≤ B) (x : Nat) (c' : Int) (hx : x < B) (hl : ∀ d ∈ l, d < B) (hm : ∀ d ∈ m, d < B)
    (he : (l.getD i 0 : Int) + t * (m.getD i 0 : Int) + c = (x : Int) + c' * (B : Int)) : Puts B l m t (i + 1) (p ++ [x]) c' := by
  have e1 := vl_take_succ B l i
  have e2 := vl_take_succ B m i
  have e3 := vl_snoc B p x
  have hli : l.getD i 0 < B := by
    by_cases hi : i < l.length
    · rw [List.getD_eq_getElem?_getD, List.getElem?_eq_getElem hi]; exact hl _ (List.getElem_mem _)
    · rw [List.getD_eq_getElem?_getD, List.getElem?_eq_none (by omega)]; simp; omega
  have hmi : m.getD i 0 < B := by
    by_cases hi : i < m.length
    · rw [List.getD_eq_getElem?_getD, List.getElem?_eq_getElem hi]; exact hm _ (List.getElem_mem _)
    · rw [List.getD_eq_getElem?_getD, List.getElem?_eq_none (by omega)]; simp; omega
  refine ⟨by simp [h.len], ?_, ?_, ?_, ?_⟩
  · intro d hd
    rcases List.mem_append.1 hd with hd | hd
    · exact h.low d hd
    · simp at hd; omega
  · rw [e1, e2, e3, h.len]
    have h0 := h.eq
    push_cast
    have : (B : Int) ^ i * ((l.getD i 0 : Int) + t * (m.getD i 0 : Int) + c) = (B : Int) ^ i * ((x : Int) + c' * (B : Int)) := by rw [he]
    grind
  · generalize l.getD i 0 = u at *
    generalize m.getD i 0 = v at *
    by_cases hc : c' ≤ 0
    · exact Or.inr hc
    · refine Or.inl ?_
      by_cases hc2 : c' ≤ t
      · exact hc2
      · exfalso
        have hpos : 1 ≤ c' := by omega
        by_cases ht : 0 ≤ t
        · have k1 : t * (v : Int) ≤ t * ((B : Int) - 1) := Int.mul_le_mul_of_nonneg_left (by omega) ht
          have k2 : (t + 1) * (B : Int) ≤ c' * (B : Int) := Int.mul_le_mul_of_nonneg_right (by omega) (by omega)
          have k3 : t * ((B : Int) - 1) = t * (B : Int) - t := by grind
          have k4 : (t + 1) * (B : Int) = t * (B : Int) + B := by grind
          have := h.hi
          omega
        · have k1 : t * (v : Int) ≤ 0 := Int.mul_nonpos_of_nonpos_of_nonneg (by omega) (by omega)
          have k2 : 1 * (B : Int) ≤ c' * (B : Int) := Int.mul_le_mul_of_nonneg_right hpos (by omega)
          have := h.hi
          omega
  · generalize l.getD i 0 = u at *
    generalize m.getD i 0 = v at *
    by_cases hc : 0 ≤ c'
    · exact Or.inr hc
    · refine Or.inl ?_
      by_cases hc2 : t ≤ c'
      · exact hc2
      · exfalso
        have hneg : c' ≤ -1 := by omega
        by_cases ht : 0 ≤ t
        · have k1 : 0 ≤ t * (v : Int) := Int.mul_nonneg ht (by omega)
          have k2 : c' * (B : Int) ≤ (-1) * (B : Int) := Int.mul_le_mul_of_nonneg_right hneg (by omega)
          have := h.lo
          omega
        · have k1 : t * ((B : Int) - 1) ≤ t * (v : Int) := Int.mul_le_mul_of_nonpos_left (by omega) (by omega)
          have k2 : c' * (B : Int) ≤ (t - 1) * (B : Int) := Int.mul_le_mul_of_nonneg_right (by omega) (by omega)
          have k3 : t * ((B : Int) - 1) = t * (B : Int) - t := by grind
          have k4 : (t - 1) * (B : Int) = t * (B : Int) - B := by grind
          have := h.lo
          omega

/-- Go's quotient and remainder of a number below 0. -/
theorem tdiv_neg (s : Int) (h : s < 0) : s.tmod 1000000000 ≤ 0 ∧ -1000000000 < s.tmod 1000000000 ∧ s = s.tdiv 1000000000 * 1000000000 + s.tmod 1000000000 := by
  have h1 := Int.tmod_add_mul_tdiv s 1000000000
  have h2 := Int.neg_tdiv s 1000000000
  have h3 := Int.neg_tmod s 1000000000
  have h4 : (-s).tdiv 1000000000 = (-s) / 1000000000 := Int.tdiv_eq_ediv_of_nonneg (by omega)
  have h5 : (-s).tmod 1000000000 = (-s) % 1000000000 := Int.tmod_eq_emod_of_nonneg (by omega)
  omega
end Go.Proofs.YtflabehlaiocaaaDoor

/- The walk of put: a number added to another some times, in place. -/
set_option linter.unusedSimpArgs false
set_option linter.unusedVariables false
namespace Go.Proofs.YtflabehlaiocaaaDoor
open Go.RowKit

/-- Block b is an array of these numbers. -/
def IHolds (w : World) (b : Nat) (t : TypeId) (l : List Value) : Prop := w.heap[b]? = some (.cells l.toArray t)
theorem IHolds.lt {w : World} {b : Nat} {t : TypeId} {l : List Value} (h : IHolds w b t l) : b < w.heap.size := (Array.getElem?_eq_some_iff.1 h).1
theorem IHolds.cell {w : World} {b : Nat} {t : TypeId} {l : List Value} (h : IHolds w b t l) (i : Nat) (hi : i < l.length) : w.cell? ⟨b, i, none⟩ = some l[i] := by
  unfold IHolds at h
  simp [World.cell?, h, hi]
theorem IHolds.frozen {w : World} {b : Nat} {t : TypeId} {l : List Value} (h : IHolds w b t l) (i : Nat) : w.frozen? ⟨b, i, none⟩ = false := by
  unfold IHolds at h
  simp [World.frozen?, h]
theorem IHolds.set {w : World} {b : Nat} {t : TypeId} {l : List Value} (h : IHolds w b t l) (i : Nat) (x : Value) : IHolds (w.setCell ⟨b, i, none⟩ x) b t (l.set i x) := by
  unfold IHolds at *
  simp [World.setCell, Array.getElem?_modify, h, List.map_set]
theorem IHolds.drewN {w : World} {b : Nat} {t : TypeId} {l : List Value} (h : IHolds w b t l) (n : Nat) : IHolds (w.drewN n) b t l := h
theorem IHolds.alloc {w : World} {b : Nat} {t : TypeId} {l : List Value} (h : IHolds w b t l) (o : Obj) : IHolds (w.alloc o) b t l := by
  unfold IHolds; rw [Below.heap_alloc _ _ _ h.lt]; exact h
theorem IHolds.new (w : World) (t : TypeId) (l : List Value) : IHolds (w.alloc (.cells l.toArray t)) w.heap.size t l := by
  show (w.heap.push _)[w.heap.size]? = _
  simp
theorem IHolds.of_below {w w' : World} {b : Nat} {t : TypeId} {l : List Value} (h : IHolds w b t l) (hb : Below w.heap.size w w') : IHolds w' b t l := by
  unfold IHolds; rw [hb.block _ h.lt]; exact h
/-- Nothing but block b has turned, of what was there. -/
structure But (b : Nat) (w w' : World) : Prop where
  os : w'.os = w.os
  tape : w'.tape = w.tape
  output : w'.output = w.output
  size : w.heap.size ≤ w'.heap.size
  block : ∀ k, k < w.heap.size → k ≠ b → w'.heap[k]? = w.heap[k]?
theorem But.refl (b : Nat) (w : World) : But b w w := ⟨rfl, rfl, rfl, Nat.le_refl _, fun _ _ _ => rfl⟩
theorem But.trans {b : Nat} {u v w : World} (h : But b u v) (k : But b v w) : But b u w :=
  ⟨k.os.trans h.os, k.tape.trans h.tape, k.output.trans h.output, Nat.le_trans h.size k.size, fun i hi hb => (k.block i (Nat.lt_of_lt_of_le hi h.size) hb).trans (h.block i hi hb)⟩
theorem But.drewN {b : Nat} {u w : World} (h : But b u w) (n : Nat) : But b u (w.drewN n) := ⟨h.os, h.tape, h.output, h.size, h.block⟩
theorem But.setCell {b : Nat} {u w : World} (h : But b u w) (i : Nat) (x : Value) : But b u (w.setCell ⟨b, i, none⟩ x) :=
  h.trans ⟨rfl, rfl, rfl, by simp [World.setCell], fun k _ hb => Below.heap_setCell _ _ _ _ hb⟩
theorem But.cell {b : Nat} {u w : World} (h : But b u w) {k : Nat} (hk : k < u.heap.size) (hb : k ≠ b) (i : Nat) : w.cell? ⟨k, i, none⟩ = u.cell? ⟨k, i, none⟩ :=
  World.cell?_of_block (w := u) (h.block k hk hb)
/-- Where block b is new, nothing that was there has turned. -/
theorem But.below {b B : Nat} {u w : World} (h : But b u w) (hB : B ≤ u.heap.size) (hb : B ≤ b) : Below B u w :=
  ⟨h.os, h.tape, h.output, h.size, fun k hk => h.block k (by omega) (by omega)⟩
/-- What lies at a does not lie in block b. -/
def Apart (a : Option Addr) (b : Nat) : Prop := ∀ k o, a = some ⟨k, o, none⟩ → k ≠ b
theorem Row.of_but {w w' : World} {a : Option Addr} {l : List Nat} {b : Nat} (h : Row w a l) (ha : l ≠ [] → Apart a b) (hb : But b w w') : Row w' a l := by
  intro i hi
  obtain ⟨k, o, rfl, hc⟩ := h i hi
  exact ⟨k, o, rfl, by rw [hb.cell (World.block_lt_of_cell? _ _ hc) (ha (fun e => by subst e; cases hi) k o rfl)]; exact hc⟩
/-- Numbers as the cells hold them. -/
def zs (l : List Nat) : List Value := l.map I
theorem zs_length (l : List Nat) : (zs l).length = l.length := by simp [zs]
theorem zs_cons (x : Nat) (l : List Nat) : zs (x :: l) = I x :: zs l := rfl
theorem zs_append (l r : List Nat) : zs (l ++ r) = zs l ++ zs r := by simp [zs]
theorem IHolds.row {w : World} {b : Nat} {t : TypeId} {pre post : List Value} {l : List Nat} (h : IHolds w b t (pre ++ zs l ++ post)) : Row w (some ⟨b, pre.length, none⟩) l := by
  intro i hi
  refine ⟨b, pre.length, rfl, ?_⟩
  rw [h.cell (pre.length + i) (by simp [zs_length]; omega)]
  rw [List.getElem_append_left (by simp [zs_length]; omega), List.getElem_append_right (by omega)]
  simp [zs]
theorem part_at (pre post : List Value) (p l : List Nat) (i : Nat) (hp : p.length = i) (hi : i < l.length) : pre ++ zs (p ++ l.drop i) ++ post = (pre ++ zs p) ++ (I l[i] :: (zs (l.drop (i + 1)) ++ post)) := by
  rw [List.drop_eq_getElem_cons hi, zs_append, zs_cons]
  simp only [List.append_assoc, List.cons_append]
theorem part_set (pre post : List Value) (p l : List Nat) (i x : Nat) (hp : p.length = i) (hi : i < l.length) (y : Int) (hy : y = (x : Int)) : (pre ++ zs (p ++ l.drop i) ++ post).set (pre.length + i) (.int .i64 y) = pre ++ zs ((p ++ [x]) ++ l.drop (i + 1)) ++ post := by
  subst hy
  rw [part_at pre post p l i hp hi, List.set_append_right _ _ (by simp [zs_length]; omega)]
  have e : pre.length + i - (pre ++ zs p).length = 0 := by simp [zs_length]; omega
  rw [e, zs_append, zs_append]
  simp only [List.set_cons_zero, List.append_assoc, List.cons_append, zs_cons, List.nil_append]
  rfl

set_option maxRecDepth 100000 in
set_option maxHeartbeats 1000000 in
theorem put_any (w : World) (b cap : Nat) (T : TypeId) (pre post : List Value) (l : List Nat) (a2 : Option Addr) (cap2 : Nat) (m : List Nat) (t : Int)
    (hb : IHolds w b T (pre ++ zs l ++ post)) (hm : Row w a2 m) (ha : m ≠ [] → Apart a2 b) (hl : ∀ d ∈ l, d < 1000000000) (hmm : ∀ d ∈ m, d < 1000000000) (ht : -1000000000 ≤ t ∧ t ≤ 1000000000) (hn : l.length < 4611686018427387904) :
    Calls Tryd.prog 52 #[.slice (some ⟨b, pre.length, none⟩) l.length cap, .slice a2 m.length cap2, .int .i64 t] w fun e w' => ∃ (p : List Nat) (c : Int), e = .returned (.int .i64 c) ∧ Puts 1000000000 l m t l.length p c ∧ IHolds w' b T (pre ++ zs p ++ post) ∧ But b w w' := by
  have HL : Hid (∀ d ∈ l, d < 1000000000) := hl
  have HM : Hid (∀ d ∈ m, d < 1000000000) := hmm
  have HR : Hid (Row w a2 m) := hm
  have HA : Hid (m ≠ [] → Apart a2 b) := ha
  have HB : Hid (IHolds w b T (pre ++ zs l ++ post)) := hb
  clear hl hmm hm ha hb
  go_enter Tryd.func52, Tryd.ntmps52
  go_wp2_with fail
  go_loopg [7, 12] l.length (fun gk v7 v12 wr => ∃ (i : Nat) (p : List Nat) (c : Int), i + gk = l.length ∧ v7 = .int .i64 c ∧ v12 = .int .i64 i ∧ Puts 1000000000 l m t i p c ∧ IHolds wr b T (pre ++ zs (p ++ l.drop i) ++ post) ∧ But b w wr)
  case atStart => exact ⟨0, [], 0, by omega, rfl, rfl, Puts.zero _ _ _ _, HB.out, But.refl _ _⟩
  case round =>
    obtain ⟨i, p, c, hi, rfl, rfl, hp, hbl, hbt⟩ := hrel
    have hpl := hp.len
    have HP : Hid (Puts 1000000000 l m t i p c) := hp
    have HBt : Hid (But b w wr) := hbt
    have HH : Hid (IHolds wr b T (pre ++ zs (p ++ l.drop i) ++ post)) := hbl
    have hr : Row wr a2 m := HR.out.of_but HA.out hbt
    by_cases hlt : i < l.length
    · have il : (i : Int) < (l.length : Int) := by omega
      have hc0 : wr.cell? ⟨b, pre.length + i, none⟩ = some (.int .i64 (l[i] : Int)) := by
        have e := part_at pre post p l i hpl hlt
        have := hbl
        rw [e] at this
        rw [this.cell (pre.length + i) (by simp [zs_length]; omega)]
        rw [List.getElem_append_right (by simp [zs_length]; omega)]
        simp [zs_length, hpl]
      have hf0 : wr.frozen? ⟨b, pre.length + i, none⟩ = false := hbl.frozen _
      have HLI : Hid (∀ n, Calls Tryd.prog 64 #[.slice a2 m.length cap2, .int .i64 (i : Int)] (wr.drewN n) fun e w' => e = .returned (I (m.getD i 0)) ∧ w' = wr.drewN n) := fun n => limb_any (wr.drewN n) a2 m cap2 i (hr.drew n)
      have kl : l[i] < 1000000000 := HL.out _ (List.getElem_mem _)
      have km : m.getD i 0 < 1000000000 := by
        by_cases h : i < m.length
        · rw [List.getD_eq_getElem?_getD, List.getElem?_eq_getElem h]; exact HM.out _ (List.getElem_mem _)
        · rw [List.getD_eq_getElem?_getD, List.getElem?_eq_none (by omega)]; simp
      have kc1 := hp.hi
      have kc2 := hp.lo
      have elg : l.getD i 0 = l[i] := by rw [List.getD_eq_getElem?_getD, List.getElem?_eq_getElem hlt]; rfl
      have HEL : Hid (l.getD i 0 = l[i]) := elg
      have hstep : Hid (∀ (x : Nat) (c' : Int), x < 1000000000 → (l[i] : Int) + t * (m.getD i 0 : Int) + c = (x : Int) + c' * 1000000000 → Puts 1000000000 l m t (i + 1) (p ++ [x]) c') :=
        fun x c' h1 h2 => hp.step (by omega) x c' h1 HL.out HM.out (by rw [elg]; exact h2)
      have hset : Hid (∀ (x : Nat) (y : Int), y = (x : Int) → (pre ++ zs (p ++ l.drop i) ++ post).set (pre.length + i) (.int .i64 y) = pre ++ zs ((p ++ [x]) ++ l.drop (i + 1)) ++ post) := fun x y hy => part_set pre post p l i x hpl hlt y hy
      clear hbl hbt hp hr elg hpl
      generalize l[i] = u at *
      generalize m.getD i 0 = v at *
      have kP1 : -1000000000000000000 ≤ t * (v : Int) := by
        by_cases h0 : 0 ≤ t
        · have := Int.mul_nonneg h0 (show 0 ≤ (v : Int) by omega); omega
        · have h1 : (-1000000000) * (v : Int) ≤ t * (v : Int) := Int.mul_le_mul_of_nonneg_right ht.1 (by omega); omega
      have kP2 : t * (v : Int) ≤ 1000000000000000000 := by
        have h1 : t * (v : Int) ≤ 1000000000 * (v : Int) := Int.mul_le_mul_of_nonneg_right ht.2 (by omega); omega
      have kw : IntKind.i64.wrap (t * (v : Int)) = t * (v : Int) := IntWalk.i64_in _ ⟨by omega, by omega⟩
      go_wp2_with fail
      go_quiet ((go_at_call 64; exact Calls.quiet_of_same (HLI.out _)))
      obtain ⟨s, hs⟩ : ∃ s, s = (u : Int) + t * (v : Int) + c := ⟨_, rfl⟩
      rw [← hs]
      have hs1 : -1000000002000000000 ≤ s := by omega
      have hs2 : s ≤ 1000000003000000000 := by omega
      have HS : Hid ((u : Int) + t * (v : Int) + c = s) := hs.symm
      have hc1 : (wr.drewN nq).cell? ⟨b, pre.length + i, none⟩ = some (.int .i64 (u : Int)) := hc0
      have hf1 : (wr.drewN nq).frozen? ⟨b, pre.length + i, none⟩ = false := hf0
      have HH1 : Hid (IHolds (wr.drewN nq) b T (pre ++ zs (p ++ l.drop i) ++ post)) := HH.out.drewN nq
      have HB1 : Hid (But b w (wr.drewN nq)) := HBt.out.drewN nq
      clear hs kP1 kP2 kw kc1 kc2 HLI hc0 hf0 HH HBt
      generalize wr.drewN nq = wq at *
      by_cases h0 : 0 ≤ s
      · go_wp2_with fail
        go_roundg (gk - 1)
        case measure => omega
        case rel =>
          refine ⟨i + 1, p ++ [(s % 1000000000).toNat], s / 1000000000, by omega, rfl, by go_num, hstep.out _ _ (by omega) (by rw [HS.out]; omega), ?_, (HB1.out.setCell _ _)⟩
          rw [← hset.out (s % 1000000000).toNat (s % 1000000000) (by omega)]
          exact HH1.out.set _ _
      · obtain ⟨g1, g2, g3⟩ := tdiv_neg s (by omega)
        obtain ⟨q, hq⟩ : ∃ q, s.tdiv 1000000000 = q := ⟨_, rfl⟩
        obtain ⟨r, hr⟩ : ∃ r, s.tmod 1000000000 = r := ⟨_, rfl⟩
        rw [hq, hr] at g3
        rw [hr] at g1 g2
        have hq1 : -1000000003 ≤ q := by omega
        have hq2 : q ≤ 0 := by omega
        have HG : Hid (s = q * 1000000000 + r) := g3
        clear g3
        by_cases hr0 : r < 0
        · go_wp2_with fail
          go_roundg (gk - 1)
          case measure => omega
          case rel =>
            refine ⟨i + 1, p ++ [(r + 1000000000).toNat], q - 1, by omega, rfl, by go_num, hstep.out _ _ (by omega) (by rw [HS.out]; have := HG.out; omega), ?_, (HB1.out.setCell _ _).setCell _ _⟩
            rw [← hset.out (r + 1000000000).toNat (r + 1000000000) (by omega)]
            have := (HH1.out.set (pre.length + i) (.int .i64 r)).set (pre.length + i) (.int .i64 (r + 1000000000))
            rwa [List.set_set] at this
        · obtain rfl : r = 0 := by omega
          go_wp2_with fail
          go_roundg (gk - 1)
          case measure => omega
          case rel =>
            refine ⟨i + 1, p ++ [0], q, by omega, rfl, by go_num, hstep.out _ _ (by omega) (by rw [HS.out]; have := HG.out; omega), ?_, (HB1.out.setCell _ _)⟩
            rw [← hset.out 0 0 (by omega)]
            exact HH1.out.set _ _
    · obtain rfl : i = l.length := by omega
      have HF : Hid (IHolds wr b T (pre ++ zs p ++ post)) := by
        have := HH.out
        rw [List.drop_length, List.append_nil] at this
        exact this
      go_wp2_with fail
      go_ret
      exact ⟨p, c, rfl, HP.out, HF.out, HBt.out⟩

set_option maxHeartbeats 400000 in
theorem put_none (w : World) (a : Option Addr) (cap : Nat) (v2 : Value) (t : Int) :
    Calls Tryd.prog 52 #[.slice a 0 cap, v2, .int .i64 t] w fun e w' => e = .returned (.int .i64 0) ∧ w' = w := by
  go_enter Tryd.func52, Tryd.ntmps52
  go_wp2_with fail
  refine wp_loop_rounds 1 ?_
  rw [rounds_succ]
  go_wp2_with fail
  go_ret
  exact ⟨rfl, rfl⟩
end Go.Proofs.YtflabehlaiocaaaDoor

/- The walks of plus. -/
set_option linter.unusedSimpArgs false
set_option linter.unusedVariables false
namespace Go.Proofs.YtflabehlaiocaaaDoor
open Go.RowKit Go.Deep

theorem Tryd.info2 : (Tryd.prog.info? 2).map (fun i => (i.zero, i.size, i.bytes)) = some (some (.int .i64 0), 1, 8) := by kernel_rfl
theorem Tryd.size2 : (Tryd.prog.info? 2).map (·.size) = some 1 := by kernel_rfl
theorem made_nums (n : Nat) : madeCells #[.int .i64 0] n = (zs (List.replicate n 0)).toArray := by
  apply Array.toList_inj.1
  rw [toList_madeCells_one]
  simp [zs]
theorem makeNum (n : Nat) (hn : n ≤ 4294967296) (w : World) : (Instr.makeSlice 37 (.int .i64 (n : Int)) (.int .i64 (n : Int))).run Tryd.prog w = .ok (.slice (some ⟨w.heap.size, 0, none⟩) n n) (w.alloc (.cells (zs (List.replicate n 0)).toArray 2)) := by
  have := run_make_row' (P := Tryd.prog) 37 2 (.int .i64 0) 8 Tryd.underlying37 Tryd.info2 rfl .i64 .i64 n (by omega) (by omega) w
  rw [made_nums] at this
  exact this
theorem makeNum' (n : Nat) (z : Int) (hz : z = (n : Int)) (hn : n ≤ 4294967296) (w : World) : (Instr.makeSlice 37 (.int .i64 z) (.int .i64 z)).run Tryd.prog w = .ok (.slice (some ⟨w.heap.size, 0, none⟩) n n) (w.alloc (.cells (zs (List.replicate n 0)).toArray 2)) := by
  subst hz; exact makeNum n hn w
theorem block_setCells {b : Nat} {t : TypeId} : ∀ (vs : List Value) (o : Nat) (cs : List Value) (w : World), w.heap[b]? = some (.cells cs.toArray t) → o + vs.length ≤ cs.length →
    (w.setCells b o vs).heap[b]? = some (.cells (cs.take o ++ vs ++ cs.drop (o + vs.length)).toArray t)
  | [], o, cs, w, h, _ => by simpa [World.setCells] using h
  | v :: r, o, cs, w, h, hle => by
    simp only [List.length_cons] at hle
    have h1 : (w.setCell ⟨b, o, none⟩ v).heap[b]? = some (.cells (cs.set o v).toArray t) := by
      simp [World.setCell, Array.getElem?_modify, h]
    have := block_setCells (b := b) (t := t) r (o + 1) (cs.set o v) _ h1 (by simp; omega)
    simp only [World.setCells]
    rw [this]
    have e : (cs.set o v).take (o + 1) ++ r ++ (cs.set o v).drop (o + 1 + r.length) = cs.take o ++ (v :: r) ++ cs.drop (o + (r.length + 1)) := by
      rw [List.drop_set_of_lt (by omega), List.take_add_one]
      simp [List.take_set_of_le, show o < cs.length by omega, Nat.add_assoc, Nat.add_comm]
      omega
    rw [e]; rfl
theorem But.setOwn {b : Nat} {u : World} : ∀ (vs : List Value) (o : Nat) (w : World), But b u w → But b u (w.setCells b o vs)
  | [], _, _, h => h
  | v :: r, o, _, h => But.setOwn r (o + 1) _ (h.setCell o v)
theorem IHolds.copied {w : World} {b : Nat} {t : TypeId} {L : List Nat} (h : IHolds w b t (zs L)) (l : List Nat) (hl : l.length ≤ L.length) : IHolds (w.setCells b 0 (l.map I)) b t (zs (l ++ L.drop l.length)) := by
  have := block_setCells (l.map I) 0 (zs L) w h (by simpa [zs] using hl)
  unfold IHolds
  rw [this]
  simp [zs]
/-- 'copy' of a number into a row of the call's own. -/
theorem run_copy_num (w : World) (b dLen dCap cap : Nat) (T : TypeId) (L : List Nat) (a : Option Addr) (l : List Nat) (h : IHolds w b T (zs L)) (hr : Row w a l) (hl : l.length ≤ L.length) (hd : dLen = L.length) :
    (Builtin.copy_ #[37, 37] 3 #[.slice (some ⟨b, 0, none⟩) dLen dCap, .slice a l.length cap]).run Tryd.prog w = .ok (goInt l.length) (w.setCells b 0 (l.map I)) := by
  by_cases h0 : l = []
  · subst h0
    exact run_copy_none w 37 37 3 2 _ _ _ _ _ _ Tryd.underlying37 Tryd.size2 (by simp)
  · have hpos : 0 < l.length := List.length_pos_iff.2 h0
    obtain ⟨k, o, rfl, _⟩ := hr 0 hpos
    have := run_copy_cells (P := Tryd.prog) w 37 37 3 2 b 0 dLen dCap ⟨k, o, none⟩ l.length cap (l.map I) Tryd.underlying37 Tryd.size2 (by rw [List.length_map, hd]; show l.length = min l.length L.length; omega)
      (fun j v hv => by
        have hj : j < l.length := by
          have := (List.getElem?_eq_some_iff.1 hv).1
          simpa using this
        obtain ⟨k', o', he, hc⟩ := hr j hj
        simp only [Option.some.injEq, Addr.mk.injEq, true_and, and_true] at he
        obtain ⟨rfl, rfl⟩ := he
        simp [hj] at hv
        subst hv
        rw [Addr.add_mid]; exact hc)
      (fun j hj => by
        simp only [List.length_map] at hj
        rw [h.cell (0 + j) (by rw [zs_length]; omega)]; rfl)
      (fun j hj => h.frozen _)
      (fun v hv => by obtain ⟨x, _, rfl⟩ := List.mem_map.1 hv; rfl)
    simpa using this

/-- Where the whole of it is from 0 to below B^k nothing is carried out. -/
theorem Puts.done {B : Nat} {l m : List Nat} {t : Int} {k : Nat} {p : List Nat} {c : Int} (h : Puts B l m t k p c) (hl : l.length ≤ k) (hm : m.length ≤ k) (N : Nat) (hN : (vl B l : Int) + t * (vl B m : Int) = (N : Int)) (hk : N < B ^ k) : c = 0 ∧ vl B p = N := by
  have e := h.eq
  rw [List.take_of_length_le hl, List.take_of_length_le hm, hN] at e
  have hp := vl_lt B p h.low
  rw [h.len] at hp
  have hc : c = 0 := by
    have h1 : (B : Int) ^ k = ((B ^ k : Nat) : Int) := by push_cast; rfl
    rw [h1] at e
    generalize B ^ k = M at *
    rcases Int.lt_trichotomy c 0 with hc | hc | hc
    · exfalso
      have : c * (M : Int) ≤ (-1) * (M : Int) := Int.mul_le_mul_of_nonneg_right (by omega) (by omega)
      omega
    · exact hc
    · exfalso
      have : 1 * (M : Int) ≤ c * (M : Int) := Int.mul_le_mul_of_nonneg_right (by omega) (by omega)
      omega
  subst hc
  refine ⟨rfl, ?_⟩
  simp at e
  omega
theorem Row.apart_new {w : World} {a : Option Addr} {l : List Nat} (h : Row w a l) (hl : l ≠ []) : Apart a w.heap.size := by
  intro k o ha e
  obtain ⟨k', o', ha', hc⟩ := h 0 (List.length_pos_iff.2 hl)
  rw [ha] at ha'
  simp only [Option.some.injEq, Addr.mk.injEq] at ha'
  have := World.block_lt_of_cell? _ _ hc
  simp at this
  omega
theorem bigBase : 2 ≤ 1000000000 := by omega

theorem sum_lt {n m K i j : Nat} (h1 : n < 1000000000 ^ i) (h2 : m < 1000000000 ^ j) (hi : i < K) (hj : j < K) : n + m < 1000000000 ^ K := by
  have e1 : 1000000000 ^ i ≤ 1000000000 ^ (K - 1) := Nat.pow_le_pow_right (by omega) (by omega)
  have e2 : 1000000000 ^ j ≤ 1000000000 ^ (K - 1) := Nat.pow_le_pow_right (by omega) (by omega)
  have e3 : 1000000000 ^ K = 1000000000 ^ (K - 1) * 1000000000 := by rw [← Nat.pow_succ]; congr 1; omega
  omega
/-- put into a row of the call's own, the whole of it. -/
theorem put_whole (w : World) (b cap : Nat) (T : TypeId) (l : List Nat) (a2 : Option Addr) (cap2 : Nat) (m : List Nat) (t : Int)
    (hb : IHolds w b T (zs l)) (hm : Row w a2 m) (ha : m ≠ [] → Apart a2 b) (hl : ∀ d ∈ l, d < 1000000000) (hmm : ∀ d ∈ m, d < 1000000000) (ht : -1000000000 ≤ t ∧ t ≤ 1000000000) (hn : l.length < 4611686018427387904) :
    Calls Tryd.prog 52 #[.slice (some ⟨b, 0, none⟩) l.length cap, .slice a2 m.length cap2, .int .i64 t] w fun e w' => ∃ (p : List Nat) (c : Int), e = .returned (.int .i64 c) ∧ Puts 1000000000 l m t l.length p c ∧ IHolds w' b T (zs p) ∧ But b w w' := by
  refine (put_any w b cap T [] [] l a2 cap2 m t (by rw [List.nil_append, List.append_nil]; exact hb) hm ha hl hmm ht hn).mono ?_
  rintro e w' ⟨p, c, he, h1, h2, h3⟩
  rw [List.nil_append, List.append_nil] at h2
  exact ⟨p, c, he, h1, h2, h3⟩
theorem trimmed_at (w : World) (b cap k : Nat) (T : TypeId) (l : List Nat) (h : IHolds w b T (zs l)) (hk : l.length = k) (hc : k ≤ cap) (hl : ∀ d ∈ l, d < 1000000000) (hn : cap ≤ 9223372036854775807) :
    Calls Tryd.prog 42 #[.slice (some ⟨b, 0, none⟩) k cap] w fun e w' => (∃ v, e = .returned v ∧ NumV w 1000000000 (vl 1000000000 l) v) ∧ w' = w := by
  subst hk
  have hr : Row w (some ⟨b, 0, none⟩) l := IHolds.row (pre := []) (post := []) (by rw [List.nil_append, List.append_nil]; exact h)
  exact trimmed_any 1000000000 bigBase w _ l cap hr hc hl hn

/-- A row of the call's own that holds these numbers at its head; or nothing. -/
def Owned (w : World) (base : Nat) (l : List Nat) (v : Value) : Prop :=
  (l = [] ∧ ∃ a c, v = .slice a 0 c ∧ c ≤ 9223372036854775807) ∨ ∃ g cap post, v = .slice (some ⟨g, 0, none⟩) l.length cap ∧ base ≤ g ∧ IHolds w g 2 (zs l ++ post) ∧ l.length ≤ cap ∧ cap ≤ 9223372036854775807
theorem Owned.of_row {w : World} {base : Nat} {l : List Nat} {v : Value} (h : w.ownsRow base 2 1 v l.length (zs l)) : Owned w base l v := by
  obtain ⟨_, ⟨rfl, h0⟩ | ⟨g, cap, cur, rfl, hb, hg, hc, hm, hs, ht⟩⟩ := h
  · exact Or.inl ⟨List.length_eq_zero_iff.1 h0, none, 0, rfl, by omega⟩
  · refine Or.inr ⟨g, cap, cur.toList.drop l.length, rfl, hb, ?_, hc, hm⟩
    rw [Nat.mul_one] at ht
    unfold IHolds
    rw [← ht, List.take_append_drop]
    exact hg

theorem eql_slice_nil (a : Option Addr) (l c : Nat) (w : World) : (binOp .eql 37 (.slice a l c) (.slice none 0 0)).run Tryd.prog w = .ok (.bool a.isNone) w := by
  have h := Go.run_equal_slice_nil w 37 2 a l c Tryd.underlying37
  simp [binOp, h]

set_option maxRecDepth 100000 in
set_option maxHeartbeats 1000000 in
theorem clone_any (w : World) (a : Option Addr) (cap : Nat) (l : List Nat) (h : Row w a l) (hl : l.length ≤ 1000000) :
    Calls Tryd.prog 70 #[.slice a l.length cap] w fun e w' => (∃ v, e = .returned v ∧ Owned w' w.heap.size l v) ∧ Below w.heap.size w w' := by
  have hnil := fun (a : Option Addr) (l c : Nat) (w : World) => eql_slice_nil a l c w
  obtain ⟨i0, hi, hz0, hz1, hz2⟩ := info_parts Tryd.info2
  go_enter Tryd.func70, Tryd.ntmps70
  cases a with
  | none =>
    obtain rfl : l = [] := by
      by_cases h0 : l = []
      · exact h0
      · obtain ⟨b, o, hc, _⟩ := h 0 (List.length_pos_iff.2 h0); cases hc
    go_wp2_with fail
    go_ret
    exact ⟨⟨_, rfl, Or.inl ⟨rfl, none, 0, rfl, by omega⟩⟩, Below.refl _ _⟩
  | some ad =>
    have HOWN : Hid ((w.alloc (.cells #[] 2)).ownsRow w.heap.size 2 1 (.slice (some ⟨w.heap.size, 0, none⟩) 0 0) 0 []) := World.ownsRow_made w #[] 0 (Nat.le_refl _) (by simp) rfl
    have q2 : Hid (Below w.heap.size w (w.alloc (.cells #[] 2))) := (Below.refl _ w).alloc (Nat.le_refl _) _
    have HC : Hid (∀ j u, (zs l)[j]? = some u → (w.alloc (.cells #[] 2)).cell? (ad.add j) = some u) := fun j u hu => by
      have hj : j < l.length := by
        have := (List.getElem?_eq_some_iff.1 hu).1
        simpa [zs] using this
      obtain ⟨k', o', he, hc⟩ := h j hj
      simp only [Option.some.injEq] at he
      subst he
      simp [zs, hj] at hu
      subst hu
      rw [Addr.add_mid, q2.out.cell (World.block_lt_of_cell? _ _ hc)]; exact hc
    have H1 : Hid (∀ u ∈ zs l, u.oneCell' = true) := fun u hu => by obtain ⟨x, _, rfl⟩ := List.mem_map.1 hu; rfl
    clear h
    go_wp2_with (at_builtin; refine wpList_append_own _ rfl (.tmp 5) (.tmp 6) 37 rfl w.heap.size 2 i0 (.int .i64 0) 1 8 Tryd.underlying37 hi hz0 hz1 hz2 rfl (by decide) (.slice (some ⟨w.heap.size, 0, none⟩) 0 0) 0 [] rfl HOWN.out ad l.length cap (zs l) rfl (by simp [zs_length]) HC.out H1.out (by unfold maxLen; omega) (by omega) (by simp) ?_; intro v1 w1 hown1 hgrow1 hn1; have HO : Hid (w1.ownsRow w.heap.size 2 1 v1 (0 + l.length) ([] ++ zs l)) := hown1; have HG : Hid (Below w.heap.size w w1) := q2.out.grown hgrow1 q2.out.size (fun k hk => by simp [Value.ownBlock] at hk; omega); clear hown1 hgrow1 hn1)
    go_ret
    refine ⟨⟨_, rfl, Owned.of_row ?_⟩, HG.out⟩
    have := HO.out
    rw [Nat.zero_add, List.nil_append] at this
    exact this

/-- -1, 0 or 1, as x is below y, y itself, or above it. -/
def cmp3 (x y : Int) : Int := if x < y then -1 else if y < x then 1 else 0
theorem cmp3_lt {x y : Int} (h : x < y) : cmp3 x y = -1 := by simp [cmp3, h]
theorem cmp3_gt {x y : Int} (h : y < x) : cmp3 x y = 1 := by simp [cmp3, h]; omega
theorem cmp3_eq {x y : Int} (h : x = y) : cmp3 x y = 0 := by simp [cmp3, h]
theorem drewN_ex {w wr : World} (h : ∃ k, wr = w.drewN k) (n : Nat) : ∃ k, wr.drewN n = w.drewN k := by
  obtain ⟨k, rfl⟩ := h
  exact ⟨k + n, World.drewN_drewN w k n⟩
theorem ret_i {a b : Int} (h : a = b) : Ending.returned (.int .i64 a) = .returned (.int .i64 b) := by rw [h]

set_option maxHeartbeats 400000 in
theorem nan115_any (x : Int) (w : World) : Calls Tryd.prog 65 #[.int .i64 x] w fun e w' => e = .returned (.bool false) ∧ w' = w := by
  have h : (x != x) = false := by simp
  go_enter Tryd.func65, Tryd.ntmps65
  go_wp2_with fail
  go_ret
  exact ⟨by simp, rfl⟩

set_option maxHeartbeats 400000 in
theorem nan116_any (x : Int) (w : World) : Calls Tryd.prog 66 #[.int .i64 x] w fun e w' => e = .returned (.bool false) ∧ w' = w := by
  have h : (x != x) = false := by simp
  go_enter Tryd.func66, Tryd.ntmps66
  go_wp2_with fail
  go_ret
  exact ⟨by simp, rfl⟩

set_option maxHeartbeats 400000 in
theorem cmp92_any (x y : Int) (w : World) : Calls Tryd.prog 53 #[.int .i64 x, .int .i64 y] w fun e w' => e = .returned (.int .i64 (cmp3 x y)) ∧ w' = w := by
  go_enter Tryd.func53, Tryd.ntmps53
  rcases Int.lt_trichotomy x y with h | h | h
  · go_wp2_with (go_at_call 65; refine (nan115_any _ _).mono ?_; rintro e w' ⟨rfl, rfl⟩)
    go_ret
    exact ⟨ret_i (cmp3_lt h).symm, rfl⟩
  · subst h
    have h1 : ¬ x < x := by omega
    go_wp2_with (go_at_call 65; refine (nan115_any _ _).mono ?_; rintro e w' ⟨rfl, rfl⟩)
    go_ret
    exact ⟨ret_i (cmp3_eq rfl).symm, rfl⟩
  · have h1 : ¬ x < y := by omega
    go_wp2_with (go_at_call 65; refine (nan115_any _ _).mono ?_; rintro e w' ⟨rfl, rfl⟩)
    go_ret
    exact ⟨ret_i (cmp3_gt h).symm, rfl⟩

set_option maxHeartbeats 400000 in
theorem cmp93_any (x y : Int) (w : World) : Calls Tryd.prog 54 #[.int .i64 x, .int .i64 y] w fun e w' => e = .returned (.int .i64 (cmp3 x y)) ∧ w' = w := by
  go_enter Tryd.func54, Tryd.ntmps54
  rcases Int.lt_trichotomy x y with h | h | h
  · go_wp2_with (go_at_call 66; refine (nan116_any _ _).mono ?_; rintro e w' ⟨rfl, rfl⟩)
    go_ret
    exact ⟨ret_i (cmp3_lt h).symm, rfl⟩
  · subst h
    have h1 : ¬ x < x := by omega
    go_wp2_with (go_at_call 66; refine (nan116_any _ _).mono ?_; rintro e w' ⟨rfl, rfl⟩)
    go_ret
    exact ⟨ret_i (cmp3_eq rfl).symm, rfl⟩
  · have h1 : ¬ x < y := by omega
    go_wp2_with (go_at_call 66; refine (nan116_any _ _).mono ?_; rintro e w' ⟨rfl, rfl⟩)
    go_ret
    exact ⟨ret_i (cmp3_gt h).symm, rfl⟩

/-! ### Two lists, from the top down -/
theorem drop_same_step {l r : List Nat} {i : Nat} (hl : i < l.length) (hr : i < r.length) (he : l.drop (i + 1) = r.drop (i + 1)) (hx : l[i] = r[i]) : l.drop i = r.drop i := by
  rw [List.drop_eq_getElem_cons hl, List.drop_eq_getElem_cons hr, he, hx]
theorem cmp_at_lt {B n m i : Nat} (hB : 2 ≤ B) (hl : i < (dg B n).length) (hr : i < (dg B m).length) (he : (dg B n).drop (i + 1) = (dg B m).drop (i + 1)) (hx : (dg B n)[i] < (dg B m)[i]) : cmp3 (n : Int) (m : Int) = -1 := by
  have := vl_part (dg B n) (dg B m) i (dg_mem hB n) hl hr he hx
  rw [vl_dg hB, vl_dg hB] at this
  exact cmp3_lt (by omega)
theorem cmp_at_gt {B n m i : Nat} (hB : 2 ≤ B) (hl : i < (dg B n).length) (hr : i < (dg B m).length) (he : (dg B n).drop (i + 1) = (dg B m).drop (i + 1)) (hx : (dg B m)[i] < (dg B n)[i]) : cmp3 (n : Int) (m : Int) = 1 := by
  have := vl_part (dg B m) (dg B n) i (dg_mem hB m) hr hl he.symm hx
  rw [vl_dg hB, vl_dg hB] at this
  exact cmp3_gt (by omega)
theorem cmp_same {B n m : Nat} (hB : 2 ≤ B) (he : (dg B n).drop 0 = (dg B m).drop 0) : cmp3 (n : Int) (m : Int) = 0 := by
  rw [List.drop_zero, List.drop_zero] at he
  exact cmp3_eq (by rw [dg_inj hB he])
theorem cmp_len {B n m : Nat} (hB : 2 ≤ B) (h : (dg B n).length ≠ (dg B m).length) : cmp3 ((dg B n).length : Int) ((dg B m).length : Int) = cmp3 (n : Int) (m : Int) := by
  rcases Nat.lt_or_gt_of_ne h with h | h
  · rw [cmp3_lt (by omega), cmp3_lt (by have := lt_of_len_lt hB h; omega)]
  · rw [cmp3_gt (by omega), cmp3_gt (by have := lt_of_len_lt hB h; omega)]

set_option maxRecDepth 100000 in
set_option maxHeartbeats 1000000 in
theorem compare_any (w : World) (a1 a2 : Option Addr) (cap1 cap2 n m : Nat) (h1 : Row w a1 (dg 1000000000 n)) (h2 : Row w a2 (dg 1000000000 m)) (b1 : (dg 1000000000 n).length ≤ 1000000) (b2 : (dg 1000000000 m).length ≤ 1000000) :
    Calls Tryd.prog 39 #[.slice a1 (dg 1000000000 n).length cap1, .slice a2 (dg 1000000000 m).length cap2] w fun e w' => e = .returned (.int .i64 (cmp3 (n : Int) (m : Int))) ∧ ∃ k, w' = w.drewN k := by
  have K1 : Hid (∀ i (hl : i < (dg 1000000000 n).length) (hr : i < (dg 1000000000 m).length), (dg 1000000000 n).drop (i + 1) = (dg 1000000000 m).drop (i + 1) → (dg 1000000000 n)[i] < (dg 1000000000 m)[i] → cmp3 (n : Int) (m : Int) = -1) := fun i => cmp_at_lt (by omega)
  have K2 : Hid (∀ i (hl : i < (dg 1000000000 n).length) (hr : i < (dg 1000000000 m).length), (dg 1000000000 n).drop (i + 1) = (dg 1000000000 m).drop (i + 1) → (dg 1000000000 m)[i] < (dg 1000000000 n)[i] → cmp3 (n : Int) (m : Int) = 1) := fun i => cmp_at_gt (by omega)
  have K3 : Hid ((dg 1000000000 n).drop 0 = (dg 1000000000 m).drop 0 → cmp3 (n : Int) (m : Int) = 0) := cmp_same (by omega)
  have K4 : Hid ((dg 1000000000 n).length ≠ (dg 1000000000 m).length → cmp3 ((dg 1000000000 n).length : Int) ((dg 1000000000 m).length : Int) = cmp3 (n : Int) (m : Int)) := cmp_len (by omega)
  generalize cmp3 (n : Int) (m : Int) = c at *
  generalize dg 1000000000 n = l1 at *
  generalize dg 1000000000 m = l2 at *
  have H1 : Hid (Row w a1 l1) := h1
  have H2 : Hid (Row w a2 l2) := h2
  clear h1 h2
  go_enter Tryd.func39, Tryd.ntmps39
  by_cases hlen : l1.length = l2.length
  · rw [hlen]
    go_wp2_with fail
    go_loopg [5] (l1.length + 1) (fun gk v5 wr => ∃ i : Nat, i + 1 = gk ∧ i ≤ l1.length ∧ v5 = .int .i64 ((i : Int) - 1) ∧ l1.drop i = l2.drop i ∧ ∃ k, wr = w.drewN k)
    case atStart => exact ⟨l1.length, rfl, Nat.le_refl _, by rw [hlen], by rw [List.drop_length, hlen, List.drop_length], 0, rfl⟩
    case round =>
      obtain ⟨i, hi, hil, rfl, hd, k, hwr⟩ := hrel
      have HW : Hid (∃ k, wr = w.drewN k) := ⟨k, hwr⟩
      have HD : Hid (l1.drop i = l2.drop i) := hd
      clear hd
      by_cases h0 : 0 < i
      · obtain ⟨b1, o1, rfl, c1⟩ := H1.out (i - 1) (by omega)
        obtain ⟨b2, o2, rfl, c2⟩ := H2.out (i - 1) (by omega)
        have d1 : wr.cell? ⟨b1, o1 + (i - 1), none⟩ = some (I l1[i - 1]) := by rw [hwr]; exact c1
        have d2 : wr.cell? ⟨b2, o2 + (i - 1), none⟩ = some (I l2[i - 1]) := by rw [hwr]; exact c2
        clear c1 c2 hwr
        have HE : Hid (∀ x, x = i - 1 → l1.drop (x + 1) = l2.drop (x + 1)) := fun x hx => by have := HD.out; rw [show x + 1 = i by omega]; exact this
        have t0 : ((i : Int) - 1).toNat = i - 1 := by omega
        have t1 : (0 : Int) ≤ (i : Int) - 1 := by omega
        have t2 : (i : Int) - 1 < (l2.length : Int) := by omega
        have q1 : i - 1 < l1.length := by omega
        have q2 : i - 1 < l2.length := by omega
        have G1 : Hid (l1[i - 1]'q1 < l2[i - 1]'q2 → c = -1) := K1.out (i - 1) q1 q2 (HE.out _ rfl)
        have G2 : Hid (l2[i - 1]'q2 < l1[i - 1]'q1 → c = 1) := K2.out (i - 1) q1 q2 (HE.out _ rfl)
        have G3 : Hid (l1[i - 1]'q1 = l2[i - 1]'q2 → l1.drop (i - 1) = l2.drop (i - 1)) := drop_same_step (l := l1) (r := l2) (i := i - 1) q1 q2 (HE.out _ rfl)
        clear K1 K2 K3 K4 HE HD H1 H2
        generalize l1[i - 1] = x at *
        generalize l2[i - 1] = y at *
        by_cases hxy : x = y
        · subst hxy
          go_wp2_with fail
          go_quiet (fail)
          go_wp2_with fail
          go_roundg (gk - 1)
          case measure => omega
          case rel => exact ⟨i - 1, by omega, by omega, by go_num, G3.out (by first | trivial | rfl), drewN_ex HW.out nq⟩
        · have hne : ((x : Int) != (y : Int)) = true := by simp; omega
          have HQ : Hid (∀ w : World, Calls Tryd.prog 54 #[I x, I y] w fun e w' => e = .returned (.int .i64 (cmp3 (x : Int) (y : Int))) ∧ w' = w) := fun w => cmp93_any x y w
          go_wp2_with fail
          go_quiet (fail)
          have d3 : (wr.drewN nq).cell? ⟨b1, o1 + (i - 1), none⟩ = some (I x) := d1
          have d4 : (wr.drewN nq).cell? ⟨b2, o2 + (i - 1), none⟩ = some (I y) := d2
          have HW2 : Hid (∃ k, wr.drewN nq = w.drewN k) := drewN_ex HW.out nq
          clear d1 d2 HW
          generalize wr.drewN nq = wq at *
          go_wp2_with fail
          go_quiet ((go_at_call 54; exact Calls.quiet_of_same (HQ.out _)))
          go_wp2_with fail
          go_ret
          refine ⟨ret_i ?_, drewN_ex HW2.out nq⟩
          rcases Nat.lt_or_gt_of_ne hxy with h | h
          · rw [cmp3_lt (by omega), G1.out h]
          · rw [cmp3_gt (by omega), G2.out h]
      · obtain rfl : i = 0 := by omega
        have hc := K3.out HD.out
        clear hwr
        go_wp2_with fail
        go_ret
        exact ⟨ret_i hc.symm, HW.out⟩
  · have hne : ((l1.length : Int) != (l2.length : Int)) = true := by simp; omega
    have hc := K4.out hlen
    have HC : Hid (cmp3 (l1.length : Int) (l2.length : Int) = c) := hc
    clear hc
    go_wp2_with (go_at_call 53; refine (cmp92_any _ _ _).mono ?_; rintro e w' ⟨rfl, rfl⟩)
    go_ret
    exact ⟨ret_i HC.out, 0, rfl⟩

set_option maxRecDepth 100000 in
set_option maxHeartbeats 1000000 in
theorem refCompare_any (w : World) (a1 a2 : Option Addr) (cap1 cap2 n m : Nat) (h1 : Row w a1 (dg 10 n)) (h2 : Row w a2 (dg 10 m)) (b1 : (dg 10 n).length ≤ 1000000) (b2 : (dg 10 m).length ≤ 1000000) :
    Calls Tryd.prog 46 #[.slice a1 (dg 10 n).length cap1, .slice a2 (dg 10 m).length cap2] w fun e w' => e = .returned (.int .i64 (cmp3 (n : Int) (m : Int))) ∧ ∃ k, w' = w.drewN k := by
  have K1 : Hid (∀ i (hl : i < (dg 10 n).length) (hr : i < (dg 10 m).length), (dg 10 n).drop (i + 1) = (dg 10 m).drop (i + 1) → (dg 10 n)[i] < (dg 10 m)[i] → cmp3 (n : Int) (m : Int) = -1) := fun i => cmp_at_lt (by omega)
  have K2 : Hid (∀ i (hl : i < (dg 10 n).length) (hr : i < (dg 10 m).length), (dg 10 n).drop (i + 1) = (dg 10 m).drop (i + 1) → (dg 10 m)[i] < (dg 10 n)[i] → cmp3 (n : Int) (m : Int) = 1) := fun i => cmp_at_gt (by omega)
  have K3 : Hid ((dg 10 n).drop 0 = (dg 10 m).drop 0 → cmp3 (n : Int) (m : Int) = 0) := cmp_same (by omega)
  have K4 : Hid ((dg 10 n).length ≠ (dg 10 m).length → cmp3 ((dg 10 n).length : Int) ((dg 10 m).length : Int) = cmp3 (n : Int) (m : Int)) := cmp_len (by omega)
  generalize cmp3 (n : Int) (m : Int) = c at *
  generalize dg 10 n = l1 at *
  generalize dg 10 m = l2 at *
  have H1 : Hid (Row w a1 l1) := h1
  have H2 : Hid (Row w a2 l2) := h2
  clear h1 h2
  go_enter Tryd.func46, Tryd.ntmps46
  by_cases hlen : l1.length = l2.length
  · rw [hlen]
    go_wp2_with fail
    go_loopg [5] (l1.length + 1) (fun gk v5 wr => ∃ i : Nat, i + 1 = gk ∧ i ≤ l1.length ∧ v5 = .int .i64 ((i : Int) - 1) ∧ l1.drop i = l2.drop i ∧ ∃ k, wr = w.drewN k)
    case atStart => exact ⟨l1.length, rfl, Nat.le_refl _, by rw [hlen], by rw [List.drop_length, hlen, List.drop_length], 0, rfl⟩
    case round =>
      obtain ⟨i, hi, hil, rfl, hd, k, hwr⟩ := hrel
      have HW : Hid (∃ k, wr = w.drewN k) := ⟨k, hwr⟩
      have HD : Hid (l1.drop i = l2.drop i) := hd
      clear hd
      by_cases h0 : 0 < i
      · obtain ⟨b1, o1, rfl, c1⟩ := H1.out (i - 1) (by omega)
        obtain ⟨b2, o2, rfl, c2⟩ := H2.out (i - 1) (by omega)
        have d1 : wr.cell? ⟨b1, o1 + (i - 1), none⟩ = some (I l1[i - 1]) := by rw [hwr]; exact c1
        have d2 : wr.cell? ⟨b2, o2 + (i - 1), none⟩ = some (I l2[i - 1]) := by rw [hwr]; exact c2
        clear c1 c2 hwr
        have HE : Hid (∀ x, x = i - 1 → l1.drop (x + 1) = l2.drop (x + 1)) := fun x hx => by have := HD.out; rw [show x + 1 = i by omega]; exact this
        have t0 : ((i : Int) - 1).toNat = i - 1 := by omega
        have t1 : (0 : Int) ≤ (i : Int) - 1 := by omega
        have t2 : (i : Int) - 1 < (l2.length : Int) := by omega
        have q1 : i - 1 < l1.length := by omega
        have q2 : i - 1 < l2.length := by omega
        have G1 : Hid (l1[i - 1]'q1 < l2[i - 1]'q2 → c = -1) := K1.out (i - 1) q1 q2 (HE.out _ rfl)
        have G2 : Hid (l2[i - 1]'q2 < l1[i - 1]'q1 → c = 1) := K2.out (i - 1) q1 q2 (HE.out _ rfl)
        have G3 : Hid (l1[i - 1]'q1 = l2[i - 1]'q2 → l1.drop (i - 1) = l2.drop (i - 1)) := drop_same_step (l := l1) (r := l2) (i := i - 1) q1 q2 (HE.out _ rfl)
        clear K1 K2 K3 K4 HE HD H1 H2
        generalize l1[i - 1] = x at *
        generalize l2[i - 1] = y at *
        by_cases hxy : x = y
        · subst hxy
          go_wp2_with fail
          go_quiet (fail)
          have d3 : (wr.drewN nq).cell? ⟨b1, o1 + (i - 1), none⟩ = some (I x) := d1
          have d4 : (wr.drewN nq).cell? ⟨b2, o2 + (i - 1), none⟩ = some (I x) := d2
          have HW2 : Hid (∃ k, wr.drewN nq = w.drewN k) := drewN_ex HW.out nq
          clear d1 d2 HW
          generalize wr.drewN nq = wq at *
          go_wp2_with fail
          go_quiet (fail)
          go_wp2_with fail
          go_roundg (gk - 1)
          case measure => omega
          case rel => exact ⟨i - 1, by omega, by omega, by go_num, G3.out (by first | trivial | rfl), drewN_ex HW2.out nq⟩
        · rcases Nat.lt_or_gt_of_ne hxy with h | h
          · have hne : (x : Int) < (y : Int) := by omega
            have hc := G1.out h
            go_wp2_with fail
            go_quiet (fail)
            go_wp2_with fail
            go_ret
            exact ⟨ret_i hc.symm, drewN_ex HW.out nq⟩
          · have hne : ¬ (x : Int) < (y : Int) := by omega
            have hgt : (y : Int) < (x : Int) := by omega
            have hc := G2.out h
            go_wp2_with fail
            go_quiet (fail)
            have d3 : (wr.drewN nq).cell? ⟨b1, o1 + (i - 1), none⟩ = some (I x) := d1
            have d4 : (wr.drewN nq).cell? ⟨b2, o2 + (i - 1), none⟩ = some (I y) := d2
            have HW2 : Hid (∃ k, wr.drewN nq = w.drewN k) := drewN_ex HW.out nq
            clear d1 d2 HW
            generalize wr.drewN nq = wq at *
            go_wp2_with fail
            go_quiet (fail)
            go_wp2_with fail
            go_ret
            exact ⟨ret_i hc.symm, drewN_ex HW2.out nq⟩
      · obtain rfl : i = 0 := by omega
        have hc := K3.out HD.out
        clear hwr
        go_wp2_with fail
        go_ret
        exact ⟨ret_i hc.symm, HW.out⟩
  · have hne : ((l1.length : Int) != (l2.length : Int)) = true := by simp; omega
    have hc := K4.out hlen
    rcases Nat.lt_or_gt_of_ne hlen with h | h
    · have hlt : (l1.length : Int) < (l2.length : Int) := by omega
      rw [cmp3_lt hlt] at hc
      have HC : Hid (-1 = c) := hc
      clear hc
      go_wp2_with fail
      go_ret
      exact ⟨ret_i HC.out, 0, rfl⟩
    · have hlt : ¬ (l1.length : Int) < (l2.length : Int) := by omega
      rw [cmp3_gt (by omega)] at hc
      have HC : Hid (1 = c) := hc
      clear hc
      go_wp2_with fail
      go_ret
      exact ⟨ret_i HC.out, 0, rfl⟩
end Go.Proofs.YtflabehlaiocaaaDoor

/- The walk of times. -/
set_option linter.unusedSimpArgs false
set_option linter.unusedVariables false
namespace Go.Proofs.YtflabehlaiocaaaDoor
open Go.RowKit Go.Deep

/-- A list in three parts. -/
theorem three (P : List Nat) (j k : Nat) (h : j + k ≤ P.length) : P = P.take j ++ (P.drop j).take k ++ P.drop (j + k) := by
  rw [List.append_assoc, ← List.drop_drop, List.take_append_drop, List.take_append_drop]
theorem vl_three (B : Nat) (P : List Nat) (j k : Nat) (h : j + k ≤ P.length) : vl B P = vl B (P.take j) + B ^ j * (vl B ((P.drop j).take k) + B ^ k * vl B (P.drop (j + k))) := by
  have e := three P j k h
  have h1 : (P.take j).length = j := by rw [List.length_take]; omega
  have h2 : ((P.drop j).take k).length = k := by rw [List.length_take, List.length_drop]; omega
  have : vl B P = vl B (P.take j ++ ((P.drop j).take k ++ P.drop (j + k))) := by rw [← List.append_assoc, ← e]
  rw [this, vl_append, vl_append, h1, h2]
/-- One limb more of the other number: there is room for it, and what comes of it. -/
theorem times_room {B n x j k : Nat} {P : List Nat} (hB : 2 ≤ B) (hP : vl B P = n * x) (hx : x < B ^ j) (hn : n < B ^ k) (hl : j + (k + 1) ≤ P.length) (u : Nat) (hu : u < B) :
    vl B ((P.drop j).take (k + 1)) + u * n < B ^ (k + 1) := by
  have e := vl_three B P j (k + 1) hl
  have hpos : 0 < B ^ j := Nat.pow_pos (by omega)
  generalize vl B ((P.drop j).take (k + 1)) = a at *
  have h1 : B ^ j * a ≤ n * x := by
    rw [← hP, e, Nat.mul_add]; omega
  have h2 : a ≤ n := by
    by_cases hc : a ≤ n
    · exact hc
    · exfalso
      have h3 : B ^ j * (n + 1) ≤ B ^ j * a := Nat.mul_le_mul_left _ (by omega)
      have h4 : n * x ≤ n * B ^ j := Nat.mul_le_mul_left _ (by omega)
      have h5 : B ^ j * (n + 1) = n * B ^ j + B ^ j := by grind
      omega
  have h6 : u * n ≤ (B - 1) * n := Nat.mul_le_mul_right _ (by omega)
  have h7 : (B - 1) * n + n = B * n := by
    have : B - 1 + 1 = B := by omega
    calc (B - 1) * n + n = (B - 1 + 1) * n := by grind
      _ = B * n := by rw [this]
  have h8 : B * (n + 1) ≤ B * B ^ k := Nat.mul_le_mul_left _ hn
  have h9 : B ^ (k + 1) = B * B ^ k := by grind
  have h10 : B * (n + 1) = B * n + B := by grind
  omega
theorem times_step {B n x j k : Nat} {P p : List Nat} (hP : vl B P = n * x) (hl : j + (k + 1) ≤ P.length) (u : Nat) (hp : p.length = k + 1) (hv : vl B p = vl B ((P.drop j).take (k + 1)) + u * n) :
    vl B (P.take j ++ p ++ P.drop (j + (k + 1))) = n * (x + B ^ j * u) := by
  have e := vl_three B P j (k + 1) hl
  have h1 : (P.take j).length = j := by rw [List.length_take]; omega
  rw [List.append_assoc, vl_append, vl_append, h1, hp, hv]
  rw [hP] at e
  grind

/-- put into a part of a row. -/
theorem put_part (w : World) (b o k cap : Nat) (T : TypeId) (pre post : List Value) (l : List Nat) (a2 : Option Addr) (cap2 : Nat) (m : List Nat) (t : Int) (ho : pre.length = o) (hk : l.length = k)
    (hb : IHolds w b T (pre ++ zs l ++ post)) (hm : Row w a2 m) (ha : m ≠ [] → Apart a2 b) (hl : ∀ d ∈ l, d < 1000000000) (hmm : ∀ d ∈ m, d < 1000000000) (ht : -1000000000 ≤ t ∧ t ≤ 1000000000) (hn : k < 4611686018427387904) :
    Calls Tryd.prog 52 #[.slice (some ⟨b, o, none⟩) k cap, .slice a2 m.length cap2, .int .i64 t] w fun e w' => ∃ (p : List Nat) (c : Int), e = .returned (.int .i64 c) ∧ Puts 1000000000 l m t k p c ∧ IHolds w' b T (pre ++ zs p ++ post) ∧ But b w w' := by
  subst ho hk
  exact put_any w b cap T pre post l a2 cap2 m t hb hm ha hl hmm ht hn

set_option maxRecDepth 100000 in
set_option maxHeartbeats 1000000 in
theorem times_any (w : World) (a1 a2 : Option Addr) (cap1 cap2 n m : Nat) (h1 : Row w a1 (dg 1000000000 n)) (h2 : Row w a2 (dg 1000000000 m)) (b1 : (dg 1000000000 n).length ≤ 1000000) (b2 : (dg 1000000000 m).length ≤ 1000000) :
    Calls Tryd.prog 38 #[.slice a1 (dg 1000000000 n).length cap1, .slice a2 (dg 1000000000 m).length cap2] w fun e w' => (∃ v, e = .returned v ∧ NumV w' 1000000000 (n * m) v) ∧ Below w.heap.size w w' := by
  have HV1 : Hid (vl 1000000000 (dg 1000000000 n) = n) := vl_dg bigBase n
  have HV2 : Hid (vl 1000000000 (dg 1000000000 m) = m) := vl_dg bigBase m
  have HD1 : Hid (∀ d ∈ dg 1000000000 n, d < 1000000000) := dg_mem bigBase n
  have HD2 : Hid (∀ d ∈ dg 1000000000 m, d < 1000000000) := dg_mem bigBase m
  have HN1 : Hid (n < 1000000000 ^ (dg 1000000000 n).length) := lt_pow_dg bigBase n
  generalize dg 1000000000 n = l1 at *
  generalize dg 1000000000 m = l2 at *
  have H1 : Hid (Row w a1 l1) := h1
  have H2 : Hid (Row w a2 l2) := h2
  have HAp : Hid (l1 ≠ [] → Apart a1 w.heap.size) := fun h => h1.apart_new h
  clear h1 h2
  obtain ⟨K, hK, hmk⟩ : ∃ K : Nat, K = l1.length + l2.length ∧ ∀ w, (Instr.makeSlice 37 (.int .i64 ((l1.length : Int) + (l2.length : Int))) (.int .i64 ((l1.length : Int) + (l2.length : Int)))).run Tryd.prog w = .ok (.slice (some ⟨w.heap.size, 0, none⟩) K K) (w.alloc (.cells (zs (List.replicate K 0)).toArray 2)) :=
    ⟨l1.length + l2.length, rfl, fun w => makeNum' _ _ (by push_cast; rfl) (by omega) w⟩
  have HK : Hid (K = l1.length + l2.length) := hK
  have hk1 : K ≤ 2000000 := by omega
  clear hK
  go_enter Tryd.func38, Tryd.ntmps38
  go_wp2_with fail
  have q1 : Hid (IHolds (w.alloc (.cells (zs (List.replicate K 0)).toArray 2)) w.heap.size 2 (zs (List.replicate K 0))) := IHolds.new w 2 _
  have q2 : Hid (Below w.heap.size w (w.alloc (.cells (zs (List.replicate K 0)).toArray 2))) := (Below.refl _ w).alloc (Nat.le_refl _) _
  clear hmk
  generalize w.alloc (.cells (zs (List.replicate K 0)).toArray 2) = W0 at *
  go_loopg [16] l2.length (fun gk v16 wr => ∃ (i : Nat) (P : List Nat), i + gk = l2.length ∧ v16 = .int .i64 i ∧ P.length = K ∧ (∀ d ∈ P, d < 1000000000) ∧ vl 1000000000 P = n * vl 1000000000 (l2.take i) ∧ IHolds wr w.heap.size 2 (zs P) ∧ Below w.heap.size w wr)
  case atStart => exact ⟨0, List.replicate K 0, by omega, rfl, by simp, fun d hd => by have := List.eq_of_mem_replicate hd; omega, by rw [vl_zeros]; simp [vl], q1.out, q2.out⟩
  case round =>
    obtain ⟨i, P, hi, rfl, hPl, hPd, hPv, hPI, hPB⟩ := hrel
    by_cases hlt : i < l2.length
    · have il : (i : Int) < (l2.length : Int) := by omega
      obtain ⟨k2, o2, rfl, c2⟩ := H2.out.of_below hPB i hlt
      have hKe := HK.out
      have hlen : i + (l1.length + 1) ≤ P.length := by omega
      have hu : l2[i] < 1000000000 := HD2.out _ (List.getElem_mem _)
      have hxl : vl 1000000000 (l2.take i) < 1000000000 ^ i := by
        have := vl_lt 1000000000 (l2.take i) (fun d hd => HD2.out d (List.mem_of_mem_take hd))
        rwa [List.length_take, Nat.min_eq_left (by omega)] at this
      have hroom : Hid (vl 1000000000 ((P.drop i).take (l1.length + 1)) + l2[i] * n < 1000000000 ^ (l1.length + 1)) := times_room bigBase hPv hxl HN1.out hlen l2[i] hu
      have hst : Hid (∀ p : List Nat, p.length = l1.length + 1 → vl 1000000000 p = vl 1000000000 ((P.drop i).take (l1.length + 1)) + l2[i] * n → vl 1000000000 (P.take i ++ p ++ P.drop (i + (l1.length + 1))) = n * vl 1000000000 (l2.take (i + 1))) := fun p h1 h2 => by
        have e := vl_take_succ 1000000000 l2 i
        rw [List.getD_eq_getElem?_getD, List.getElem?_eq_getElem hlt] at e
        simp only [Option.getD_some] at e
        rw [e]; exact times_step hPv hlen l2[i] h1 h2
      have hthree := three P i (l1.length + 1) hlen
      have hpl : (P.take i).length = i := by rw [List.length_take]; omega
      have hql : ((P.drop i).take (l1.length + 1)).length = l1.length + 1 := by rw [List.length_take, List.length_drop]; omega
      have hqd : ∀ d ∈ (P.drop i).take (l1.length + 1), d < 1000000000 := fun d hd => hPd d (List.mem_of_mem_drop (List.mem_of_mem_take hd))
      have hIp : IHolds wr w.heap.size 2 (zs (P.take i) ++ zs ((P.drop i).take (l1.length + 1)) ++ zs (P.drop (i + (l1.length + 1)))) := by
        rw [← zs_append, ← zs_append, ← hthree]; exact hPI
      have hpd1 : ∀ d ∈ P.take i, d < 1000000000 := fun d hd => hPd d (List.mem_of_mem_take hd)
      have hpd2 : ∀ d ∈ P.drop (i + (l1.length + 1)), d < 1000000000 := fun d hd => hPd d (List.mem_of_mem_drop hd)
      have hdl : (P.drop (i + (l1.length + 1))).length = K - (i + (l1.length + 1)) := by rw [List.length_drop, hPl]
      have A1 : Hid (Row wr a1 l1) := H1.out.of_below hPB
      have HB : Hid (Below w.heap.size w wr) := hPB
      generalize P.take i = X at *
      generalize (P.drop i).take (l1.length + 1) = Y at *
      generalize P.drop (i + (l1.length + 1)) = Z at *
      have HI : Hid (IHolds wr w.heap.size 2 (zs X ++ zs Y ++ zs Z)) := hIp
      have HXl : Hid (X.length = i) := hpl
      have HYl : Hid (Y.length = l1.length + 1) := hql
      have HYd : Hid (∀ d ∈ Y, d < 1000000000) := hqd
      have HXd : Hid (∀ d ∈ X, d < 1000000000) := hpd1
      have HZd : Hid (∀ d ∈ Z, d < 1000000000) := hpd2
      have HZl : Hid (Z.length = K - (i + (l1.length + 1))) := hdl
      have kk : i + (l1.length + 1) ≤ K := by omega
      clear hpl hql hqd hpd1 hpd2 hdl hIp hthree hPv hPI hPB hPl hPd hxl hlen H1 H2 q1 q2 hKe
      generalize l2[i] = u at *
      go_wp2_with fail
      refine (put_part wr w.heap.size i (i + l1.length + 1 - i) (K - i) 2 (zs X) (zs Z) Y a1 cap1 l1 (u : Int) (by rw [zs_length, HXl.out]) (by rw [HYl.out]; omega) HI.out A1.out HAp.out HYd.out HD1.out (by omega) (by omega)).mono ?_
      rintro e W1 ⟨p, c, rfl, hp, hI2, hB⟩
      have hpl := hp.len
      have hp2 := hp.done (by rw [HYl.out]; omega) (by omega) (vl 1000000000 Y + u * n) (by rw [HV1.out]; push_cast; rfl) (by rw [show i + l1.length + 1 - i = l1.length + 1 by omega]; exact hroom.out)
      obtain ⟨rfl, hpv⟩ := hp2
      have G1 : Hid (vl 1000000000 (X ++ p ++ Z) = n * vl 1000000000 (l2.take (i + 1))) := hst.out p (by omega) hpv
      have G2 : Hid ((X ++ p ++ Z).length = K) := by
        show _ = _
        rw [List.length_append, List.length_append, HXl.out, HZl.out]; omega
      have G3 : Hid (∀ d ∈ X ++ p ++ Z, d < 1000000000) := fun d hd => by
        rcases List.mem_append.1 hd with hd | hd
        · rcases List.mem_append.1 hd with hd | hd
          · exact HXd.out d hd
          · exact hp.low d hd
        · exact HZd.out d hd
      have G4 : Hid (IHolds W1 w.heap.size 2 (zs (X ++ p ++ Z))) := by show IHolds _ _ _ _; rw [zs_append, zs_append]; exact hI2
      have G5 : Hid (Below w.heap.size w W1) := HB.out.trans (hB.below HB.out.size (Nat.le_refl _))
      clear hp hpv hI2 hB hpl c2
      go_wp2_with fail
      go_roundg (gk - 1)
      case measure => omega
      case rel => exact ⟨i + 1, X ++ p ++ Z, by omega, by go_num, G2.out, G3.out, G1.out, G4.out, G5.out⟩
    · obtain rfl : i = l2.length := by omega
      rw [List.take_length, HV2.out] at hPv
      have HP1 : Hid (vl 1000000000 P = n * m) := hPv
      have HP2 : Hid (∀ d ∈ P, d < 1000000000) := hPd
      have HP3 : Hid (IHolds wr w.heap.size 2 (zs P)) := hPI
      have HP4 : Hid (Below w.heap.size w wr) := hPB
      have HP5 : Hid (P.length = K) := hPl
      clear hPv hPd hPI hPB hPl q1 q2
      go_wp2_with fail
      refine (trimmed_at wr w.heap.size K K 2 P HP3.out HP5.out (Nat.le_refl _) HP2.out (by omega)).mono ?_
      rintro e W3 ⟨⟨v, rfl, hv⟩, rfl⟩
      rw [HP1.out] at hv
      have HVV : Hid (NumV W3 1000000000 (n * m) v) := hv
      clear hv
      go_wp2_with fail
      go_ret
      exact ⟨⟨_, rfl, HVV.out⟩, HP4.out⟩
end Go.Proofs.YtflabehlaiocaaaDoor

/- The walks of isNumber and of the reference's Is: is a text a number? -/
set_option linter.unusedSimpArgs false
set_option linter.unusedVariables false
namespace Go.Proofs.YtflabehlaiocaaaDoor
open Go.RowKit Go.PlainAid

theorem size_list (s : ByteArray) : s.data.toList.length = s.size := rfl
theorem bt_list (s : ByteArray) (k : Nat) (h : k < s.size) : bt s k = ((s.data.toList[k]'h).toNat : Int) := by unfold bt; rw [dif_pos h]; rfl
theorem allDig_succ (l : List UInt8) (k : Nat) (h : k < l.length) (ha : allDig (l.take k) = true) (hd : 48 ≤ l[k].toNat ∧ l[k].toNat ≤ 57) : allDig (l.take (k + 1)) = true := by
  rw [List.take_succ_eq_append_getElem h]
  simp only [allDig, List.all_append, List.all_cons, List.all_nil, Bool.and_true, Bool.and_eq_true]
  exact ⟨ha, by simp [isDig, hd.1, hd.2]⟩
theorem isNum_bad (l : List UInt8) (k : Nat) (h : k < l.length) (hd : l[k].toNat < 48 ∨ 57 < l[k].toNat) : isNum l = false := by
  have : allDig l = false := by
    cases hx : allDig l with
    | false => rfl
    | true =>
      have := (List.all_eq_true.1 hx) l[k] (List.getElem_mem _)
      simp only [isDig, Bool.and_eq_true, decide_eq_true_eq] at this
      omega
  simp [isNum, this]

theorem isNum_nil {s : ByteArray} (h : s.toList = []) : isNum s.data.toList = false := by rw [← ByteArray.toList_eq, h]; rfl
theorem isNum_zero {s : ByteArray} (h : s.toList = [48]) : isNum s.data.toList = true := by rw [← ByteArray.toList_eq, h]; rfl
theorem isNum_head {s : ByteArray} (ha : allDig s.data.toList = true) (h1 : ¬ s.toList = [48]) (h2 : ¬ s.toList = []) (b : Bool) (hb : (bt s 0 = 48 ∧ b = false) ∨ (bt s 0 ≠ 48 ∧ b = true)) : isNum s.data.toList = b := by
  rw [ByteArray.toList_eq] at h1 h2
  have hpos : 0 < s.size := List.length_pos_iff.2 h2
  have e := bt_list s 0 hpos
  have hh : s.data.toList.head? = some (s.data.toList[0]'hpos) := List.head?_eq_getElem? .. ▸ List.getElem?_eq_getElem hpos
  have e1 : (s.data.toList == [48]) = false := by simp [h1]
  have e2 : (s.data.toList != []) = true := by simp [h2]
  simp only [isNum, ha, e1, e2, hh, Bool.true_and, Bool.false_or]
  rcases hb with ⟨h3, rfl⟩ | ⟨h3, rfl⟩
  · have : s.data.toList[0]'hpos = 48 := UInt8.toNat_inj.1 (by show _ = 48; omega)
    simp [this]
  · have : s.data.toList[0]'hpos ≠ 48 := fun h => h3 (by rw [e, h]; rfl)
    rw [bne_iff_ne]; intro h; exact this (Option.some.inj h)
theorem ret_b {a b : Bool} (h : a = b) : Ending.returned (.bool a) = .returned (.bool b) := by rw [h]

set_option maxRecDepth 100000 in
set_option maxHeartbeats 1000000 in
theorem isNumber_any (s : ByteArray) (w : World) (hs : s.size ≤ 4611686018427387904) :
    Calls Tryd.prog 62 #[.string s] w fun e w' => e = .returned (.bool (isNum s.data.toList)) ∧ w' = w := by
  have hb := get_bt s
  go_enter Tryd.func62, Tryd.ntmps62
  go_wp2_with fail
  go_loop [6] (fun v => ∃ k : Nat, k ≤ s.size ∧ v = .int .i64 k ∧ allDig (s.data.toList.take k) = true) (fun v => s.size - (intOf v).toNat)
  case atStart => exact ⟨0, Nat.zero_le _, rfl, rfl⟩
  case round =>
    obtain ⟨k, hk, rfl, hd⟩ := hrel
    have HD : Hid (allDig (s.data.toList.take k) = true) := hd
    clear hd
    by_cases hlt : k < s.size
    · have kl : (k : Int) < (s.size : Int) := by omega
      have e := bt_list s k hlt
      have HS : Hid (48 ≤ bt s k ∧ bt s k ≤ 57 → allDig (s.data.toList.take (k + 1)) = true) := fun h => allDig_succ _ k hlt HD.out (by omega)
      have HN : Hid (bt s k < 48 ∨ 57 < bt s k → isNum s.data.toList = false) := fun h => isNum_bad _ k hlt (by omega)
      clear e
      have l0 := bt_nonneg s k
      have l1 := bt_le s k
      by_cases hc : bt s k < 48
      · have HR := HN.out (Or.inl hc)
        have HRR : Hid (isNum s.data.toList = false) := HR
        clear HR
        go_wp2_with fail
        go_ret
        exact ⟨by rw [HRR.out]; rfl, rfl⟩
      · by_cases hc2 : 57 < bt s k
        · have HR := HN.out (Or.inr hc2)
          have HRR : Hid (isNum s.data.toList = false) := HR
          clear HR
          go_wp2_with fail
          go_ret
          exact ⟨by rw [HRR.out]; rfl, rfl⟩
        · have HR := HS.out (by omega)
          have HRR : Hid (allDig (s.data.toList.take (k + 1)) = true) := HR
          clear HR
          go_wp2_with fail
          go_round
          case rel => exact ⟨k + 1, by omega, by go_num, HRR.out⟩
          case measure => simp [intOf]; omega
    · obtain rfl : k = s.size := by omega
      have HA : Hid (allDig s.data.toList = true) := by
        have := HD.out
        rw [List.take_of_length_le (by rw [size_list]; omega)] at this
        exact this
      by_cases h1 : s.toList = [48]
      · have HR : Hid (isNum s.data.toList = true) := isNum_zero h1
        go_wp2_with fail
        go_ret
        exact ⟨by rw [HR.out]; rfl, rfl⟩
      · by_cases h2 : s.toList = []
        · have HR : Hid (isNum s.data.toList = false) := isNum_nil h2
          go_wp2_with fail
          go_ret
          exact ⟨by rw [HR.out]; rfl, rfl⟩
        · have hpos : 0 < s.size := by
            rw [ByteArray.toList_eq] at h2
            exact List.length_pos_iff.2 h2
          by_cases h3 : bt s 0 = 48
          · have HR : Hid (isNum s.data.toList = false) := isNum_head HA.out h1 h2 false (Or.inl ⟨h3, rfl⟩)
            have h3' : (bt s 0 != 48) = false := by simp [h3]
            go_wp2_with fail
            go_ret
            exact ⟨by rw [HR.out]; simp [h1, h2, h3], rfl⟩
          · have HR : Hid (isNum s.data.toList = true) := isNum_head HA.out h1 h2 true (Or.inr ⟨h3, rfl⟩)
            have h3' : (bt s 0 != 48) = true := by simp [h3]
            go_wp2_with fail
            go_ret
            exact ⟨by rw [HR.out]; simp [h1, h2, h3], rfl⟩

set_option maxRecDepth 100000 in
set_option maxHeartbeats 1000000 in
theorem is_any (s : ByteArray) (w : World) (hs : s.size ≤ 4611686018427387904) :
    Calls Tryd.prog 44 #[.string s] w fun e w' => e = .returned (.bool (isNum s.data.toList)) ∧ w' = w := by
  have hb := get_bt s
  go_enter Tryd.func44, Tryd.ntmps44
  by_cases h2 : s.toList = []
  · have hz : s.size = 0 := by
      rw [ByteArray.toList_eq] at h2
      rw [← size_list, h2]; rfl
    have HR : Hid (isNum s.data.toList = false) := isNum_nil h2
    clear h2
    go_wp2_with fail
    go_ret
    exact ⟨by rw [HR.out]; rfl, rfl⟩
  have hpos : 0 < s.size := by
    rw [ByteArray.toList_eq] at h2
    exact List.length_pos_iff.2 h2
  have hne : ((s.size : Int) == 0) = false := beq_eq_false_iff_ne.2 (by omega)
  go_wp2_with fail
  go_loop [3] (fun v => ∃ k : Nat, k ≤ s.size ∧ v = .int .i64 k ∧ allDig (s.data.toList.take k) = true) (fun v => s.size - (intOf v).toNat)
  case atStart => exact ⟨0, Nat.zero_le _, rfl, rfl⟩
  case round =>
    obtain ⟨k, hk, rfl, hd⟩ := hrel
    have HD : Hid (allDig (s.data.toList.take k) = true) := hd
    clear hd
    by_cases hlt : k < s.size
    · have kl : (k : Int) < (s.size : Int) := by omega
      have e := bt_list s k hlt
      have HS : Hid (48 ≤ bt s k ∧ bt s k ≤ 57 → allDig (s.data.toList.take (k + 1)) = true) := fun h => allDig_succ _ k hlt HD.out (by omega)
      have HN : Hid (bt s k < 48 ∨ 57 < bt s k → isNum s.data.toList = false) := fun h => isNum_bad _ k hlt (by omega)
      clear e
      have l0 := bt_nonneg s k
      have l1 := bt_le s k
      by_cases hc : bt s k < 48
      · have HR := HN.out (Or.inl hc)
        have HRR : Hid (isNum s.data.toList = false) := HR
        clear HR
        go_wp2_with fail
        go_ret
        exact ⟨by rw [HRR.out]; rfl, rfl⟩
      · by_cases hc2 : 57 < bt s k
        · have HR := HN.out (Or.inr hc2)
          have HRR : Hid (isNum s.data.toList = false) := HR
          clear HR
          go_wp2_with fail
          go_ret
          exact ⟨by rw [HRR.out]; rfl, rfl⟩
        · have HR := HS.out (by omega)
          have HRR : Hid (allDig (s.data.toList.take (k + 1)) = true) := HR
          clear HR
          go_wp2_with fail
          go_round
          case rel => exact ⟨k + 1, by omega, by go_num, HRR.out⟩
          case measure => simp [intOf]; omega
    · obtain rfl : k = s.size := by omega
      have HA : Hid (allDig s.data.toList = true) := by
        have := HD.out
        rw [List.take_of_length_le (by rw [size_list]; omega)] at this
        exact this
      by_cases h1 : s.toList = [48]
      · have HR : Hid (isNum s.data.toList = true) := isNum_zero h1
        have hs1 : s.size = 1 := by
          rw [ByteArray.toList_eq] at h1
          rw [← size_list, h1]; rfl
        have h3 : bt s 0 = 48 := by
          rw [bt_list s 0 hpos]
          have : s.data.toList[0]'hpos = 48 := by
            rw [ByteArray.toList_eq] at h1
            simp [h1]
          rw [this]; rfl
        have h3' : (bt s 0 != 48) = false := by simp [h3]
        clear h1 h2
        go_wp2_with fail
        go_ret
        exact ⟨by rw [HR.out]; simp [h3, hs1], rfl⟩
      · by_cases h3 : bt s 0 = 48
        · have HR : Hid (isNum s.data.toList = false) := isNum_head HA.out h1 h2 false (Or.inl ⟨h3, rfl⟩)
          have hs1 : s.size ≠ 1 := fun h => h1 (by
            rw [ByteArray.toList_eq]
            have hb0 := bt_list s 0 hpos
            have hl : s.data.toList.length = 1 := h
            have e48 : s.data.toList[0]'hpos = 48 := UInt8.toNat_inj.1 (by show _ = 48; omega)
            match hx : s.data.toList, hl with
            | [c], _ => simp only [hx, List.getElem_cons_zero] at e48; rw [e48])
          have h3' : (bt s 0 != 48) = false := by simp [h3]
          have hs1' : ((s.size : Int) == 1) = false := beq_eq_false_iff_ne.2 (by omega)
          clear h1 h2
          go_wp2_with fail
          go_ret
          exact ⟨by rw [HR.out]; simp [h3, hs1], rfl⟩
        · have HR : Hid (isNum s.data.toList = true) := isNum_head HA.out h1 h2 true (Or.inr ⟨h3, rfl⟩)
          have h3' : (bt s 0 != 48) = true := by simp [h3]
          clear h1 h2
          go_wp2_with fail
          go_ret
          exact ⟨by rw [HR.out]; simp [h3], rfl⟩

/-- What is wrong with a text that is handed in as a number. -/
def wrT (s : ByteArray) : Nat := if isNum s.data.toList = false then 2 else if 4000 < s.size then 3 else 0
theorem wrT_form {s : ByteArray} (h : isNum s.data.toList = false) : wrT s = 2 := by simp [wrT, h]
theorem wrT_long {s : ByteArray} (h : isNum s.data.toList = true) (h2 : 4000 < s.size) : wrT s = 3 := by simp [wrT, h, h2]
theorem wrT_ok {s : ByteArray} (h : isNum s.data.toList = true) (h2 : ¬ 4000 < s.size) : wrT s = 0 := by simp [wrT, h, h2]

/-- Of two texts the first one that is wrong tells it. -/
def wr2 (a b : ByteArray) : Nat := if wrT a = 0 then wrT b else wrT a
/-- At a lie these texts. -/
def SRow (w : World) (a : Option Addr) (l : List ByteArray) : Prop := ∀ i (h : i < l.length), ∃ b o, a = some ⟨b, o, none⟩ ∧ w.cell? ⟨b, o + i, none⟩ = some (.string l[i])
/-- What is wrong with several texts: how all are written, ahead of how long they are. -/
def wrL (ps : List ByteArray) : Nat := if ps.all (fun s => isNum s.data.toList) = false then 2 else if ps.all (fun s => decide (s.size ≤ 4000)) = false then 3 else 0
theorem wrL_one (s : ByteArray) : wrL [s] = wrT s := by
  simp only [wrL, wrT, List.all_cons, List.all_nil, Bool.and_true, decide_eq_false_iff_not, Nat.not_le]
theorem all_take_succ {α : Type} (p : α → Bool) (l : List α) (k : Nat) (h : k < l.length) (ha : (l.take k).all p = true) (hp : p l[k] = true) : (l.take (k + 1)).all p = true := by
  rw [List.take_succ_eq_append_getElem h, List.all_append, ha]; simp [hp]
theorem all_bad {α : Type} (p : α → Bool) (l : List α) (k : Nat) (h : k < l.length) (hp : p l[k] = false) : l.all p = false := by
  cases hx : l.all p with
  | false => rfl
  | true =>
    have := (List.all_eq_true.1 hx) l[k] (List.getElem_mem _)
    rw [hp] at this; cases this

/-- The bytes from lo to below i. -/
def seg (l : List UInt8) (lo i : Nat) : List UInt8 := (l.drop lo).take (i - lo)
theorem seg_nil (l : List UInt8) (lo : Nat) : seg l lo lo = [] := by simp [seg]
theorem seg_length (l : List UInt8) (lo i : Nat) (h1 : lo ≤ i) (h2 : i ≤ l.length) : (seg l lo i).length = i - lo := by
  rw [seg, List.length_take, List.length_drop]; omega
theorem seg_succ (l : List UInt8) (lo i : Nat) (h1 : lo ≤ i) (h2 : i < l.length) : seg l lo (i + 1) = seg l lo i ++ [l[i]] := by
  unfold seg
  rw [show i + 1 - lo = (i - lo) + 1 by omega, List.take_succ_eq_append_getElem (by rw [List.length_drop]; omega)]
  congr 2
  rw [List.getElem_drop]
  congr 1
  omega
theorem seg_drop (l : List UInt8) (lo hi : Nat) (h : lo ≤ hi) : l.drop lo = seg l lo hi ++ l.drop hi := by
  have : l.drop hi = (l.drop lo).drop (hi - lo) := by rw [List.drop_drop]; congr 1; omega
  rw [this, seg, List.take_append_drop]
theorem allDig_seg (l : List UInt8) (lo i : Nat) (h : allDig l = true) : allDig (seg l lo i) = true := by
  simp only [allDig, List.all_eq_true] at *
  intro c hc
  exact h c (List.mem_of_mem_drop (List.mem_of_mem_take hc))
theorem seg_lt (l : List UInt8) (lo i : Nat) (h : allDig l = true) (h1 : lo ≤ i) (h2 : i ≤ l.length) (h3 : i ≤ lo + 9) : bv (seg l lo i) < 1000000000 := by
  have := bv_lt (seg l lo i) (allDig_seg l lo i h)
  rw [seg_length l lo i h1 h2] at this
  have h4 : 10 ^ (i - lo) ≤ 10 ^ 9 := Nat.pow_le_pow_right (by omega) (by omega)
  omega
theorem seg_lt' (l : List UInt8) (lo i : Nat) (h : allDig l = true) (h1 : lo ≤ i) (h2 : i ≤ l.length) (h3 : i ≤ lo + 8) : bv (seg l lo i) < 100000000 := by
  have := bv_lt (seg l lo i) (allDig_seg l lo i h)
  rw [seg_length l lo i h1 h2] at this
  have h4 : 10 ^ (i - lo) ≤ 10 ^ 8 := Nat.pow_le_pow_right (by omega) (by omega)
  omega
theorem bv_seg_succ (s : ByteArray) (lo i : Nat) (h1 : lo ≤ i) (h2 : i < s.size) (hd : 48 ≤ bt s i) : ((bv (seg s.data.toList lo (i + 1)) : Nat) : Int) = (bv (seg s.data.toList lo i) : Int) * 10 + (bt s i - 48) := by
  rw [seg_succ _ lo i h1 h2, bv_snoc, bt_list s i h2]
  rw [bt_list s i h2] at hd
  push_cast
  omega
theorem dig_at (s : ByteArray) (i : Nat) (h : i < s.size) (ha : allDig s.data.toList = true) : 48 ≤ bt s i ∧ bt s i ≤ 57 := by
  have := (List.all_eq_true.1 ha) (s.data.toList[i]'h) (List.getElem_mem _)
  simp only [isDig, Bool.and_eq_true, decide_eq_true_eq] at this
  rw [bt_list s i h]; omega
/-- One piece of nine more. -/
theorem nine_step (l : List UInt8) (j : Nat) (h : 9 * j < l.length) (r : List Nat) (hr : r.length = j) (hv : vl 1000000000 r = bv (l.drop (l.length - 9 * j))) :
    vl 1000000000 (r ++ [bv (seg l (l.length - 9 * (j + 1)) (l.length - 9 * j))]) = bv (l.drop (l.length - 9 * (j + 1))) := by
  have e : (l.drop (l.length - 9 * j)).length = 9 * j := by rw [List.length_drop]; omega
  rw [vl_snoc, hr, hv, seg_drop l (l.length - 9 * (j + 1)) (l.length - 9 * j) (by omega), bv_append, e]
  have h2 : (10 : Nat) ^ (9 * j) = 1000000000 ^ j := by rw [Nat.pow_mul]
  rw [h2, Nat.mul_comm (1000000000 ^ j), Nat.add_comm]
end Go.Proofs.YtflabehlaiocaaaDoor

/- The walks of numberOf and readNumber. -/
set_option linter.unusedSimpArgs false
set_option linter.unusedVariables false
namespace Go.Proofs.YtflabehlaiocaaaDoor
open Go.RowKit Go.Deep Go.PlainAid

theorem makeCap (c : Int) (n : Nat) (hc : c = (n : Int)) (hn : n ≤ 4294967296) (w : World) : (Instr.makeSlice 37 (.int .i64 0) (.int .i64 c)).run Tryd.prog w = .ok (.slice (some ⟨w.heap.size, 0, none⟩) 0 n) (w.alloc (.cells (zs (List.replicate n 0)).toArray 2)) := by
  obtain ⟨i0, hi, hz0, hz1, hz2⟩ := info_parts Tryd.info2
  have := run_make (P := Tryd.prog) w 37 2 i0 (.int .i64 0) Tryd.underlying37 hi hz0 .i64 .i64 0 c (by omega) (by omega) (by rw [hz2]; omega) (by omega)
  rw [hz1, hc] at this
  simp only [Int.toNat_natCast, Nat.mul_one, Int.toNat_zero] at this
  rw [hc, this, ← made_nums]; rfl
/-- A row of the call's own as a number's cells. -/
theorem Row.of_owned {w : World} {base n : Nat} {v : Value} {l : List Nat} {e : TypeId} (h : w.ownsRow base e 1 v n (zs l)) : ∃ a cap, v = .slice a l.length cap ∧ l.length ≤ cap ∧ cap ≤ 9223372036854775807 ∧ Row w a l := by
  obtain ⟨hlen, ⟨rfl, h0⟩ | ⟨g, cap, cur, rfl, hb, hg, hc, hm, hs, ht⟩⟩ := h
  · rw [zs_length, Nat.mul_one] at hlen
    have : l = [] := List.length_eq_zero_iff.1 (by omega)
    subst this
    exact ⟨none, 0, rfl, by simp, by omega, Row.nil _ _⟩
  · rw [zs_length, Nat.mul_one] at hlen
    refine ⟨some ⟨g, 0, none⟩, cap, by rw [hlen], by omega, hm, ?_⟩
    intro i hi
    refine ⟨g, 0, rfl, ?_⟩
    rw [Nat.mul_one] at ht
    have h1 : (zs l)[i]? = some (I l[i]) := by simp [zs, hi]
    rw [← ht, List.getElem?_take, if_pos (by omega)] at h1
    simp only [World.cell?, hg]
    simpa using h1

set_option maxRecDepth 100000 in
set_option maxHeartbeats 1000000 in
theorem numberOf_any (s : ByteArray) (w : World) (ha : allDig s.data.toList = true) (hs : s.size ≤ 1000000) :
    Calls Tryd.prog 63 #[.string s] w fun e w' => (∃ v, e = .returned v ∧ NumV w' 1000000000 (bv s.data.toList) v) ∧ Below w.heap.size w w' := by
  have hb := get_bt s
  have HA : Hid (allDig s.data.toList = true) := ha
  clear ha
  obtain ⟨i0, hi0, hz0, hz1, hz2⟩ := info_parts Tryd.info2
  obtain ⟨C, hC, hmk⟩ : ∃ C : Nat, C ≤ 1000001 ∧ ∀ w, (Instr.makeSlice 37 (.int .i64 0) (.int .i64 ((s.size : Int) / 9 + 1))).run Tryd.prog w = .ok (.slice (some ⟨w.heap.size, 0, none⟩) 0 C) (w.alloc (.cells (zs (List.replicate C 0)).toArray 2)) :=
    ⟨s.size / 9 + 1, by omega, fun w => makeCap _ _ (by omega) (by omega) w⟩
  go_enter Tryd.func63, Tryd.ntmps63
  go_wp2_with fail
  have q1 : Hid ((w.alloc (.cells (zs (List.replicate C 0)).toArray 2)).ownsRow w.heap.size 2 1 (.slice (some ⟨w.heap.size, 0, none⟩) 0 C) 0 []) := World.ownsRow_made w _ C (Nat.le_refl _) (by unfold maxLen; omega) (by simp [zs])
  have q2 : Hid (Below w.heap.size w (w.alloc (.cells (zs (List.replicate C 0)).toArray 2))) := (Below.refl _ w).alloc (Nat.le_refl _) _
  clear hmk
  generalize w.alloc (.cells (zs (List.replicate C 0)).toArray 2) = W0 at *
  go_loopg [3, 4] (s.size + 1) (fun gk v3 v4 wr => ∃ (l : List Nat) (v : Value), l.length + gk = s.size + 1 ∧ v = v3 ∧ v4 = .int .i64 ((s.size : Int) - 9 * (l.length : Int)) ∧ (∀ d ∈ l, d < 1000000000) ∧ vl 1000000000 l = bv (s.data.toList.drop (s.size - 9 * l.length)) ∧ wr.ownsRow w.heap.size 2 1 v l.length (zs l) ∧ Below w.heap.size w wr)
  case atStart => exact ⟨[], _, by simp, rfl, by simp, by simp, by simp [vl, List.drop_of_length_le, bv], q1.out, q2.out⟩
  case round =>
    obtain ⟨l, v, hl, rfl, rfl, hd, hv, ho, hB⟩ := hrel
    have HD : Hid (∀ d ∈ l, d < 1000000000) := hd
    have HV : Hid (vl 1000000000 l = bv (s.data.toList.drop (s.size - 9 * l.length))) := hv
    have HO : Hid (wr.ownsRow w.heap.size 2 1 v l.length (zs l)) := ho
    have HB : Hid (Below w.heap.size w wr) := hB
    clear hd hv ho hB q1 q2
    by_cases hlt : 9 * l.length < s.size
    · obtain ⟨lo, hlo⟩ : ∃ lo, lo = s.size - 9 * (l.length + 1) := ⟨_, rfl⟩
      obtain ⟨hi, hhi⟩ : ∃ hi, hi = s.size - 9 * l.length := ⟨_, rfl⟩
      have c1 : (s.size : Int) - 9 * (l.length : Int) = (hi : Int) := by omega
      have c2 : lo < hi := by omega
      have c3 : hi ≤ lo + 9 := by omega
      have c4 : hi ≤ s.size := by omega
      have c5 : (0 : Int) < (hi : Int) - 9 → (hi : Int) - 9 = (lo : Int) := by omega
      have c5' : ¬ (0 : Int) < (hi : Int) - 9 → lo = 0 := by omega
      have c8 : (0 : Int) < (hi : Int) := by omega
      have c9 : 0 < hi := by omega
      have HLH : Hid (lo = s.size - 9 * (l.length + 1) ∧ hi = s.size - 9 * l.length) := ⟨hlo, hhi⟩
      clear hlo hhi
      rw [c1]
      by_cases c6 : (0 : Int) < (hi : Int) - 9
      · have c7 := c5 c6
        clear c5 c5'
        go_wp2_with fail
        go_loop [5, 6] (fun v5 v6 => ∃ k : Nat, lo ≤ k ∧ k ≤ hi ∧ v6 = .int .i64 (k : Int) ∧ v5 = .int .i64 (bv (seg s.data.toList lo k) : Int)) (fun _ v6 => hi - (intOf v6).toNat)
        case atStart => exact ⟨lo, Nat.le_refl _, by omega, rfl, by rw [seg_nil]; rfl⟩
        case round =>
          obtain ⟨k, hk1, hk2, rfl, rfl⟩ := hrel
          by_cases hkh : k < hi
          · have hkh' : (k : Int) < (hi : Int) := by omega
            obtain ⟨d1, d2⟩ := dig_at s k (by omega) HA.out
            have hks : k < s.size := by omega
            have hks' : (k : Int) < (s.size : Int) := by omega
            have hst := bv_seg_succ s lo k hk1 hks d1
            have HST : Hid ((bv (seg s.data.toList lo (k + 1)) : Int) = (bv (seg s.data.toList lo k) : Int) * 10 + (bt s k - 48)) := hst
            have hlt8 := seg_lt' s.data.toList lo k HA.out hk1 (by rw [size_list]; omega) (by omega)
            clear hst
            generalize bv (seg s.data.toList lo k) = X at *
            go_wp2_with fail
            go_round
            case rel => exact ⟨k + 1, by omega, by omega, by go_num, by rw [HST.out]⟩
            case measure => simp [intOf]; omega
          · obtain rfl : k = hi := by omega
            have hx9 := seg_lt s.data.toList lo k HA.out hk1 (by rw [size_list]; omega) c3
            have HV2 : Hid (vl 1000000000 (l ++ [bv (seg s.data.toList lo k)]) = bv (s.data.toList.drop (s.size - 9 * (l.length + 1)))) := by
              have := nine_step s.data.toList l.length (by rw [size_list]; omega) l rfl (by rw [size_list]; exact HV.out)
              rw [size_list, ← HLH.out.1, ← HLH.out.2] at this
              rw [← HLH.out.1]; exact this
            generalize bv (seg s.data.toList lo k) = X at *
            have HO2 : Hid ((wr.alloc (.cells #[.int .i64 (X : Int)] 2)).ownsRow w.heap.size 2 1 v l.length (zs l)) := HO.out.alloc _
            have HC2 : Hid (∀ j u, [I X][j]? = some u → (wr.alloc (.cells #[.int .i64 (X : Int)] 2)).cell? ((⟨wr.heap.size, 0, none⟩ : Addr).add j) = some u) := fun j u hu => by
              match j, hu with
              | 0, hu => simp at hu; subst hu; simp [Addr.add]
            have HB2 : Hid (Below w.heap.size w (wr.alloc (.cells #[.int .i64 (X : Int)] 2))) := HB.out.alloc HB.out.size _
            go_wp2_with (at_builtin; refine wpList_append_own _ rfl (.tmp 34) (.tmp 36) 37 rfl w.heap.size 2 i0 (.int .i64 0) 1 8 Tryd.underlying37 hi0 hz0 hz1 hz2 rfl (by decide) v l.length (zs l) rfl HO2.out ⟨wr.heap.size, 0, none⟩ 1 1 [I X] rfl rfl HC2.out (fun u hu => by simp at hu; subst hu; rfl) (by unfold maxLen; omega) (by omega) HB2.out.size ?_; intro v1 w1 hown1 hgrow1 hn1; have HO3 : Hid (w1.ownsRow w.heap.size 2 1 v1 (l.length + 1) (zs l ++ [I X])) := hown1; have HG3 : Hid (Below w.heap.size w w1) := HB2.out.grown hgrow1 HB2.out.size (fun k hk => (HO2.out.lt k hk).1); clear hown1 hgrow1 hn1)
            go_roundg (gk - 1)
            case measure => omega
            case rel =>
              refine ⟨l ++ [X], _, by simp; omega, rfl, ?_, ?_, ?_, ?_, HG3.out⟩
              · rw [List.length_append, List.length_singleton]; have := HLH.out.2; go_num
              · intro d hd
                rcases List.mem_append.1 hd with hd | hd
                · exact HD.out d hd
                · simp at hd; omega
              · rw [List.length_append, List.length_singleton]; exact HV2.out
              · rw [List.length_append, List.length_singleton, zs_append]; exact HO3.out
      · have c7 := c5' c6
        clear c5 c5'
        subst c7
        go_wp2_with fail
        go_loop [5, 6] (fun v5 v6 => ∃ k : Nat, 0 ≤ k ∧ k ≤ hi ∧ v6 = .int .i64 (k : Int) ∧ v5 = .int .i64 (bv (seg s.data.toList 0 k) : Int)) (fun _ v6 => hi - (intOf v6).toNat)
        case atStart => exact ⟨0, Nat.le_refl _, by omega, rfl, by rw [seg_nil]; rfl⟩
        case round =>
          obtain ⟨k, hk1, hk2, rfl, rfl⟩ := hrel
          by_cases hkh : k < hi
          · have hkh' : (k : Int) < (hi : Int) := by omega
            obtain ⟨d1, d2⟩ := dig_at s k (by omega) HA.out
            have hks : k < s.size := by omega
            have hks' : (k : Int) < (s.size : Int) := by omega
            have hst := bv_seg_succ s 0 k hk1 hks d1
            have HST : Hid ((bv (seg s.data.toList 0 (k + 1)) : Int) = (bv (seg s.data.toList 0 k) : Int) * 10 + (bt s k - 48)) := hst
            have hlt8 := seg_lt' s.data.toList 0 k HA.out hk1 (by rw [size_list]; omega) (by omega)
            clear hst
            generalize bv (seg s.data.toList 0 k) = X at *
            go_wp2_with fail
            go_round
            case rel => exact ⟨k + 1, by omega, by omega, by go_num, by rw [HST.out]⟩
            case measure => simp [intOf]; omega
          · obtain rfl : k = hi := by omega
            have hx9 := seg_lt s.data.toList 0 k HA.out hk1 (by rw [size_list]; omega) c3
            have HV2 : Hid (vl 1000000000 (l ++ [bv (seg s.data.toList 0 k)]) = bv (s.data.toList.drop (s.size - 9 * (l.length + 1)))) := by
              have := nine_step s.data.toList l.length (by rw [size_list]; omega) l rfl (by rw [size_list]; exact HV.out)
              rw [size_list, ← HLH.out.1, ← HLH.out.2] at this
              rw [← HLH.out.1]; exact this
            generalize bv (seg s.data.toList 0 k) = X at *
            have HO2 : Hid ((wr.alloc (.cells #[.int .i64 (X : Int)] 2)).ownsRow w.heap.size 2 1 v l.length (zs l)) := HO.out.alloc _
            have HC2 : Hid (∀ j u, [I X][j]? = some u → (wr.alloc (.cells #[.int .i64 (X : Int)] 2)).cell? ((⟨wr.heap.size, 0, none⟩ : Addr).add j) = some u) := fun j u hu => by
              match j, hu with
              | 0, hu => simp at hu; subst hu; simp [Addr.add]
            have HB2 : Hid (Below w.heap.size w (wr.alloc (.cells #[.int .i64 (X : Int)] 2))) := HB.out.alloc HB.out.size _
            go_wp2_with (at_builtin; refine wpList_append_own _ rfl (.tmp 34) (.tmp 36) 37 rfl w.heap.size 2 i0 (.int .i64 0) 1 8 Tryd.underlying37 hi0 hz0 hz1 hz2 rfl (by decide) v l.length (zs l) rfl HO2.out ⟨wr.heap.size, 0, none⟩ 1 1 [I X] rfl rfl HC2.out (fun u hu => by simp at hu; subst hu; rfl) (by unfold maxLen; omega) (by omega) HB2.out.size ?_; intro v1 w1 hown1 hgrow1 hn1; have HO3 : Hid (w1.ownsRow w.heap.size 2 1 v1 (l.length + 1) (zs l ++ [I X])) := hown1; have HG3 : Hid (Below w.heap.size w w1) := HB2.out.grown hgrow1 HB2.out.size (fun k hk => (HO2.out.lt k hk).1); clear hown1 hgrow1 hn1)
            go_roundg (gk - 1)
            case measure => omega
            case rel =>
              refine ⟨l ++ [X], _, by simp; omega, rfl, ?_, ?_, ?_, ?_, HG3.out⟩
              · rw [List.length_append, List.length_singleton]; have := HLH.out.2; go_num
              · intro d hd
                rcases List.mem_append.1 hd with hd | hd
                · exact HD.out d hd
                · simp at hd; omega
              · rw [List.length_append, List.length_singleton]; exact HV2.out
              · rw [List.length_append, List.length_singleton, zs_append]; exact HO3.out
    · have he : s.size - 9 * l.length = 0 := by omega
      have HV2 : Hid (vl 1000000000 l = bv s.data.toList) := by
        have := HV.out
        rw [he, List.drop_zero] at this
        exact this
      have hz : ¬ (0 : Int) < (s.size : Int) - 9 * (l.length : Int) := by omega
      obtain ⟨a, cap, rfl, h1, h2, h3⟩ := Row.of_owned HO.out
      have HR : Hid (Row wr a l) := h3
      clear h3 he
      go_wp2_with fail
      refine (trimmed_any 1000000000 bigBase wr a l cap HR.out h1 HD.out h2).mono ?_
      rintro e W3 ⟨⟨v, rfl, hv⟩, rfl⟩
      rw [HV2.out] at hv
      have HVV : Hid (NumV W3 1000000000 (bv s.data.toList) v) := hv
      clear hv
      go_wp2_with fail
      go_ret
      exact ⟨⟨_, rfl, HVV.out⟩, HB.out⟩
end Go.Proofs.YtflabehlaiocaaaDoor

/- Plain: the digits of limbs, one behind the other; zeros ahead of a text left out. -/
set_option linter.unusedSimpArgs false
set_option linter.unusedVariables false
namespace Go.Proofs.YtflabehlaiocaaaDoor

theorem chars_snoc (l : List Nat) (d : Nat) : chars (l ++ [d]) = UInt8.ofNat (d + 48) :: chars l := by simp [chars]
theorem chars_length (l : List Nat) : (chars l).length = l.length := by simp [chars]
/-- Zeros ahead of a text left out. -/
theorem drop_zeros (k : Nat) : ∀ P : List Nat, P.length = k → (∀ d ∈ P, d < 10) → (chars P).dropWhile (· == 48) = chars (dg 10 (vl 10 P)) := by
  induction k with
  | zero =>
    intro P hl _
    have := List.length_eq_zero_iff.1 hl
    subst this
    simp [vl, dg_zero, chars]
  | succ k ih =>
    intro P hl hd
    have hne : P ≠ [] := fun h => by subst h; simp at hl
    obtain ⟨Q, d, rfl⟩ : ∃ Q d, P = Q ++ [d] := ⟨P.dropLast, P.getLast hne, (List.dropLast_concat_getLast hne).symm⟩
    have hq : Q.length = k := by simpa using hl
    have hdd : d < 10 := hd d (by simp)
    rw [chars_snoc, vl_snoc]
    by_cases h0 : d = 0
    · subst h0
      have : (UInt8.ofNat (0 + 48) :: chars Q).dropWhile (· == 48) = (chars Q).dropWhile (· == 48) := by simp
      rw [this, ih Q hq (fun x hx => hd x (by simp [hx]))]
      simp
    · have h48 : (UInt8.ofNat (d + 48) == 48) = false := by
        rw [beq_eq_false_iff_ne]
        intro h
        have := congrArg UInt8.toNat h
        rw [UInt8.toNat_ofNat'] at this
        have e : (48 : UInt8).toNat = 48 := rfl
        omega
      rw [List.dropWhile_cons, h48]
      simp only [Bool.false_eq_true, if_false]
      rw [← vl_snoc, dg_vl (by omega) (Q ++ [d]) hd (Or.inr (by simp; omega)), chars_snoc]
/-- One digit more of a limb. -/
structure Digs (N T : Nat) (D : List Nat) (cur j : Nat) : Prop where
  low : ∀ d ∈ D, d < 10
  val : vl 10 D + 10 ^ D.length * cur = T
  left : cur < 10 ^ (9 - j)
theorem Digs.step {N T : Nat} {D : List Nat} {cur j : Nat} (h : Digs N T D cur j) (hj : j < 9) : Digs N T (D ++ [cur % 10]) (cur / 10) (j + 1) := by
  refine ⟨?_, ?_, ?_⟩
  · intro d hd
    rcases List.mem_append.1 hd with hd | hd
    · exact h.low d hd
    · simp at hd; omega
  · rw [vl_snoc, List.length_append, List.length_singleton, ← h.val]
    have e : cur = cur % 10 + 10 * (cur / 10) := (Nat.mod_add_div cur 10).symm
    have : 10 ^ D.length * cur = 10 ^ D.length * (cur % 10 + 10 * (cur / 10)) := by rw [← e]
    grind
  · rw [Nat.div_lt_iff_lt_mul (by omega)]
    have := h.left
    have e : (10 : Nat) ^ (9 - j) = 10 ^ (9 - (j + 1)) * 10 := by rw [← Nat.pow_succ]; congr 1; omega
    omega
theorem Digs.done {N T : Nat} {D : List Nat} {cur : Nat} (h : Digs N T D cur 9) : vl 10 D = T := by
  have := h.left
  have h0 : cur = 0 := by simpa using this
  have := h.val
  rw [h0] at this
  simpa using this
theorem limb_more (l : List Nat) (i : Nat) (hi : i < l.length) (D : List Nat) (hD : D.length = 9 * i) (hv : vl 10 D = vl 1000000000 (l.take i)) : vl 10 D + 10 ^ D.length * l[i] = vl 1000000000 (l.take (i + 1)) := by
  have e := vl_take_succ 1000000000 l i
  rw [List.getD_eq_getElem?_getD, List.getElem?_eq_getElem hi] at e
  simp only [Option.getD_some] at e
  rw [e, hv, hD, Nat.pow_mul]
end Go.Proofs.YtflabehlaiocaaaDoor

/- The walks of TrimLeft at the cutset 0, and of text. -/
set_option linter.unusedSimpArgs false
set_option linter.unusedVariables false
namespace Go.Proofs.YtflabehlaiocaaaDoor
open Go.RowKit Go.Deep Go.PlainAid

theorem ext_one (s : ByteArray) : (s.extract 1 s.size).data.toList = s.data.toList.drop 1 := by
  have h1 : s.data.toList.length = s.size := rfl
  simp only [ByteArray.data_extract, Array.toList_extract, List.extract_eq_take_drop]
  rw [List.take_of_length_le (by rw [List.length_drop, h1]; exact Nat.le_refl _)]
theorem drop_head (s : ByteArray) (h : 0 < s.size) (h48 : bt s 0 = 48) : (s.extract 1 s.size).data.toList.dropWhile (· == 48) = s.data.toList.dropWhile (· == 48) := by
  rw [ext_one]
  have e := bt_list s 0 h
  have e48 : s.data.toList[0]'h = 48 := UInt8.toNat_inj.1 (by show _ = 48; omega)
  have hc : s.data.toList = (s.data.toList[0]'h) :: s.data.toList.drop 1 := by
    have := List.drop_eq_getElem_cons (l := s.data.toList) (i := 0) h
    rwa [List.drop_zero] at this
  generalize s.data.toList[0]'h = c at *
  subst e48
  conv => rhs; rw [hc]
  simp
theorem stop_head (s : ByteArray) (h : s.size = 0 ∨ (0 < s.size ∧ bt s 0 ≠ 48)) : s.data.toList.dropWhile (· == 48) = s.data.toList := by
  rcases h with h | ⟨h, h48⟩
  · have : s.data.toList = [] := List.length_eq_zero_iff.1 h
    rw [this]; rfl
  · have e := bt_list s 0 h
    have hc : s.data.toList = (s.data.toList[0]'h) :: s.data.toList.drop 1 := by
      have := List.drop_eq_getElem_cons (l := s.data.toList) (i := 0) h
      rwa [List.drop_zero] at this
    have ne : s.data.toList[0]'h ≠ 48 := fun hx => h48 (by rw [e, hx]; rfl)
    generalize s.data.toList[0]'h = c at *
    rw [hc, List.dropWhile_cons]
    simp [ne]

set_option maxRecDepth 100000 in
set_option maxHeartbeats 1000000 in
theorem trimByte_any (s : ByteArray) (w : World) (hs : s.size ≤ 4611686018427387904) :
    Calls Tryd.prog 75 #[.string s, .int .u8 48] w fun e w' => (∃ t : ByteArray, e = .returned (.string t) ∧ t.data.toList = s.data.toList.dropWhile (· == 48)) ∧ w' = w := by
  go_enter Tryd.func75, Tryd.ntmps75
  go_wp2_with fail
  go_loopg [0] s.size (fun gk v wr => ∃ t : ByteArray, t.size = gk ∧ v = .string t ∧ t.size ≤ s.size ∧ t.data.toList.dropWhile (· == 48) = s.data.toList.dropWhile (· == 48) ∧ wr = w)
  case atStart => exact ⟨s, rfl, rfl, Nat.le_refl _, rfl, rfl⟩
  case round =>
    obtain ⟨t, hg, rfl, ht, hd, rfl⟩ := hrel
    have HD : Hid (t.data.toList.dropWhile (· == 48) = s.data.toList.dropWhile (· == 48)) := hd
    have hb := get_bt t
    have HG : Hid (t.size = gk) := hg
    clear hd hg
    by_cases h0 : 0 < t.size
    · have h0' : (0 : Int) < (t.size : Int) := by omega
      by_cases h48 : bt t 0 = 48
      · have HN : Hid ((t.extract 1 t.size).data.toList.dropWhile (· == 48) = s.data.toList.dropWhile (· == 48)) := by show _ = _; rw [drop_head t h0 h48]; exact HD.out
        have hsz : Hid ((t.extract 1 t.size).size = t.size - 1) := by show _ = _; simp [ByteArray.size_extract]
        go_wp2_with fail
        go_roundg (t.size - 1)
        case measure => have := HG.out; omega
        case rel => exact ⟨_, hsz.out, rfl, by rw [hsz.out]; omega, HN.out, rfl⟩
      · have h48' : (bt t 0 == 48) = false := beq_eq_false_iff_ne.2 h48
        have HE : Hid (t.data.toList = s.data.toList.dropWhile (· == 48)) := by show _ = _; rw [← HD.out]; exact (stop_head t (Or.inr ⟨h0, h48⟩)).symm
        go_wp2_with fail
        go_ret
        exact ⟨⟨t, rfl, HE.out⟩, rfl⟩
    · have hz : t.size = 0 := by omega
      have HE : Hid (t.data.toList = s.data.toList.dropWhile (· == 48)) := by show _ = _; rw [← HD.out]; exact (stop_head t (Or.inl hz)).symm
      have hd : decide ((0 : Int) < (t.size : Int)) = false := decide_eq_false (by omega)
      have hd2 : ¬ (0 : Int) < (t.size : Int) := by omega
      go_wp2_with fail
      go_ret
      exact ⟨⟨t, rfl, HE.out⟩, rfl⟩

theorem zeroB_get (h : 0 < (⟨#[48]⟩ : ByteArray).size) : ((⟨#[48]⟩ : ByteArray)[0]'h) = 48 := rfl
set_option maxRecDepth 100000 in
set_option maxHeartbeats 1000000 in
theorem trimLeft_any (s : ByteArray) (w : World) (hs : s.size ≤ 4611686018427387904) :
    Calls Tryd.prog 59 #[.string s, .string ⟨#[48]⟩] w fun e w' => (∃ t : ByteArray, e = .returned (.string t) ∧ t.data.toList = s.data.toList.dropWhile (· == 48)) ∧ w' = w := by
  have HC : Hid (Calls Tryd.prog 75 #[.string s, .int .u8 48] w fun e w' => (∃ t : ByteArray, e = .returned (.string t) ∧ t.data.toList = s.data.toList.dropWhile (· == 48)) ∧ w' = w) := trimByte_any s w hs
  go_enter Tryd.func59, Tryd.ntmps59
  by_cases h0 : s.toList = []
  · have HE : Hid (s.data.toList = s.data.toList.dropWhile (· == 48)) := by
      show _ = _
      rw [ByteArray.toList_eq] at h0
      rw [h0]; rfl
    go_wp2_with fail
    go_ret
    exact ⟨⟨s, rfl, HE.out⟩, rfl⟩
  · have h0' : s.toList.isEmpty = false := by simpa using h0
    go_wp2_with (go_at_call 75; refine HC.out.mono ?_; rintro e w' ⟨⟨t, rfl, ht⟩, rfl⟩; have HT : Hid (t.data.toList = s.data.toList.dropWhile (· == 48)) := ht; clear ht)
    go_ret
    exact ⟨⟨_, rfl, HT.out⟩, rfl⟩

theorem Tryd.info5 : (Tryd.prog.info? 5).map (fun i => (i.zero, i.size, i.bytes)) = some (some (.int .u8 0), 1, 1) := by kernel_rfl
/-- Bytes as the cells hold them. -/
abbrev Yb (x : UInt8) : Value := .int .u8 (x.toNat : Int)
def ys (l : List UInt8) : List Value := l.map Yb
theorem ys_length (l : List UInt8) : (ys l).length = l.length := by simp [ys]
theorem ys_append (l r : List UInt8) : ys (l ++ r) = ys l ++ ys r := by simp [ys]
theorem makeBytes (z : Int) (n : Nat) (hz : z = (n : Int)) (hn : n ≤ 4294967296) (w : World) : (Instr.makeSlice 79 (.int .i64 z) (.int .i64 z)).run Tryd.prog w = .ok (.slice (some ⟨w.heap.size, 0, none⟩) n n) (w.alloc (.cells (ys (List.replicate n 0)).toArray 5)) := by
  subst hz
  have := run_make_row' (P := Tryd.prog) 79 5 (.int .u8 0) 1 Tryd.underlying79 Tryd.info5 rfl .i64 .i64 n (by omega) (by omega) w
  rw [this]
  have e : madeCells #[.int .u8 0] n = (ys (List.replicate n 0)).toArray := by
    apply Array.toList_inj.1
    rw [toList_madeCells_one]
    simp [ys]
  rw [e]
/-- What the bytes are when the digits D were laid, from the end. -/
def laidB (N : Nat) (D : List Nat) : List UInt8 := List.replicate (N - D.length) 0 ++ chars D
theorem laidB_length (N : Nat) (D : List Nat) (h : D.length ≤ N) : (laidB N D).length = N := by simp [laidB, chars_length]; omega
theorem laidB_step (N : Nat) (D : List Nat) (d : Nat) (h : D.length < N) (hd : d < 10) (x : Int) (hx : x = (d : Int) + 48) : (ys (laidB N D)).set (N - D.length - 1) (.int .u8 x) = ys (laidB N (D ++ [d])) := by
  have e1 : List.replicate (N - D.length) (0 : UInt8) = List.replicate (N - (D ++ [d]).length) 0 ++ [0] := by
    rw [show N - D.length = (N - (D ++ [d]).length) + 1 by simp; omega, List.replicate_succ']
  have e2 : N - D.length - 1 = (ys (List.replicate (N - (D ++ [d]).length) (0 : UInt8))).length := by simp [ys]; omega
  have e3 : Value.int .u8 x = Yb (UInt8.ofNat (d + 48)) := by
    rw [Yb, UInt8.toNat_ofNat', hx]
    congr 1
    omega
  unfold laidB
  rw [e1, e2, e3, chars_snoc, ys_append, ys_append, ys_append, List.append_assoc, List.set_append_right _ _ (Nat.le_refl _), Nat.sub_self]
  rfl
theorem Digs.start (N T : Nat) (D : List Nat) (cur : Nat) (h1 : ∀ d ∈ D, d < 10) (h2 : vl 10 D + 10 ^ D.length * cur = T) (h3 : cur < 1000000000) : Digs N T D cur 0 := ⟨h1, h2, by simpa using h3⟩

set_option maxRecDepth 100000 in
set_option maxHeartbeats 1000000 in
theorem text_any (w : World) (a : Option Addr) (cap n : Nat) (h : Row w a (dg 1000000000 n)) (b : (dg 1000000000 n).length ≤ 1000000) :
    Calls Tryd.prog 43 #[.slice a (dg 1000000000 n).length cap] w fun e w' => e = .returned (.string ⟨(txt n).toArray⟩) ∧ Below w.heap.size w w' := by
  have HZ : Hid (∀ w, Calls Tryd.prog 24 #[.slice a (dg 1000000000 n).length cap] w fun e w' => e = .returned (.bool (n == 0)) ∧ w' = w) := fun w => isZero_any w a n cap
  have HV : Hid (vl 1000000000 (dg 1000000000 n) = n) := vl_dg bigBase n
  have HD : Hid (∀ d ∈ dg 1000000000 n, d < 1000000000) := dg_mem bigBase n
  generalize dg 1000000000 n = l at *
  by_cases hn : n = 0
  · subst hn
    go_enter Tryd.func43, Tryd.ntmps43
    go_wp2_with (go_at_call 24; refine (HZ.out _).mono ?_; rintro e w ⟨rfl, rfl⟩)
    go_ret
    exact ⟨rfl, Below.refl _ _⟩
  · have hn' : (n == 0) = false := beq_eq_false_iff_ne.2 hn
    have HR : Hid (Row w a l) := h
    rw [hn'] at HZ
    clear h hn'
    obtain ⟨N, hN, hmk⟩ : ∃ N : Nat, N = 9 * l.length ∧ ∀ w, (Instr.makeSlice 79 (.int .i64 (9 * (l.length : Int))) (.int .i64 (9 * (l.length : Int)))).run Tryd.prog w = .ok (.slice (some ⟨w.heap.size, 0, none⟩) N N) (w.alloc (.cells (ys (List.replicate N 0)).toArray 5)) :=
      ⟨9 * l.length, rfl, fun w => makeBytes _ _ (by push_cast; rfl) (by omega) w⟩
    have HN : Hid (N = 9 * l.length) := hN
    have hN2 : N ≤ 9000000 := by omega
    clear hN
    go_enter Tryd.func43, Tryd.ntmps43
    go_wp2_with (go_at_call 24; refine (HZ.out _).mono ?_; rintro e w ⟨rfl, rfl⟩)
    have q1 : Hid (IHolds (w.alloc (.cells (ys (List.replicate N 0)).toArray 5)) w.heap.size 5 (ys (laidB N []))) := by
      show IHolds _ _ _ _
      have : laidB N [] = List.replicate N 0 := by simp [laidB, chars]
      rw [this]; exact IHolds.new w 5 _
    have q2 : Hid (Below w.heap.size w (w.alloc (.cells (ys (List.replicate N 0)).toArray 5))) := (Below.refl _ w).alloc (Nat.le_refl _) _
    clear hmk
    generalize w.alloc (.cells (ys (List.replicate N 0)).toArray 5) = W0 at *
    go_loopg [4, 17] l.length (fun gk v4 v17 wr => ∃ (i : Nat) (D : List Nat), i + gk = l.length ∧ v17 = .int .i64 (i : Int) ∧ D.length = 9 * i ∧ v4 = .int .i64 ((N : Int) - 9 * (i : Int)) ∧ (∀ d ∈ D, d < 10) ∧ vl 10 D = vl 1000000000 (l.take i) ∧ IHolds wr w.heap.size 5 (ys (laidB N D)) ∧ Below w.heap.size w wr)
    case atStart => exact ⟨0, [], by omega, rfl, rfl, by simp, by simp, rfl, q1.out, q2.out⟩
    case round =>
      obtain ⟨i, D, hi, rfl, hDl, rfl, hDd, hDv, hDI, hDB⟩ := hrel
      clear q1 q2
      generalize gk = G at *
      have HI : Hid (IHolds wr w.heap.size 5 (ys (laidB N D))) := hDI
      have HB : Hid (Below w.heap.size w wr) := hDB
      by_cases hlt : i < l.length
      · have il : (i : Int) < (l.length : Int) := by omega
        obtain ⟨k2, o2, rfl, c2⟩ := HR.out.of_below hDB i hlt
        have hu : l[i] < 1000000000 := HD.out _ (List.getElem_mem _)
        have HT := limb_more l i hlt D hDl hDv
        have HS : Hid (Digs N (vl 1000000000 (l.take (i + 1))) D l[i] 0) := Digs.start _ _ _ _ hDd HT hu
        have HDl : Hid (D.length = 9 * i) := hDl
        have hNi : 9 * i + 9 ≤ N := by have := HN.out; omega
        clear hDl hDd hDv hDI hDB HT
        generalize l[i] = u at *
        generalize wr = w0 at *
        go_wp2_with fail
        clear c2
        go_loopg [4, 6, 21] 9 (fun gk v4 v6 v21 wr => ∃ (j cur : Nat) (D : List Nat), j + gk = 9 ∧ v21 = .int .i64 (j : Int) ∧ v6 = .int .i64 (cur : Int) ∧ v4 = .int .i64 ((N : Int) - 9 * (i : Int) - (j : Int)) ∧ D.length = 9 * i + j ∧ Digs N (vl 1000000000 (l.take (i + 1))) D cur j ∧ IHolds wr w.heap.size 5 (ys (laidB N D)) ∧ Below w.heap.size w wr)
        case atStart => exact ⟨0, u, D, by omega, rfl, rfl, by simp, by rw [HDl.out]; rfl, HS.out, HI.out, HB.out⟩
        case round =>
          obtain ⟨j, cur, E, hj, rfl, rfl, rfl, hEl, hE, hEI, hEB⟩ := hrel
          have HE : Hid (Digs N (vl 1000000000 (l.take (i + 1))) E cur j) := hE
          have HEI : Hid (IHolds wr w.heap.size 5 (ys (laidB N E))) := hEI
          have HEB : Hid (Below w.heap.size w wr) := hEB
          have HEl : Hid (E.length = 9 * i + j) := hEl
          by_cases hj9 : j < 9
          · have hj9' : (j : Int) < 9 := by omega
            have hcur : cur < 1000000000 := by
              have h1 := hE.left
              have h2 : (10 : Nat) ^ (9 - j) ≤ 10 ^ 9 := Nat.pow_le_pow_right (by omega) (by omega)
              omega
            obtain ⟨p, hp⟩ : ∃ p, p = N - E.length - 1 := ⟨_, rfl⟩
            have hpi : (N : Int) - 9 * (i : Int) - (j : Int) - 1 = (p : Int) := by omega
            have hpN : p < N := by omega
            have hpN' : (p : Int) < (N : Int) := by omega
            have hcl : (ys (laidB N E)).length = N := by rw [ys_length, laidB_length N E (by omega)]
            have hc0 : wr.cell? ⟨w.heap.size, p, none⟩ = some ((ys (laidB N E))[p]'(by omega)) := hEI.cell p (by omega)
            have hf0 : wr.frozen? ⟨w.heap.size, p, none⟩ = false := hEI.frozen p
            have HS2 : Hid (IHolds (wr.setCell ⟨w.heap.size, p, none⟩ (.int .u8 (48 + (cur : Int) % 10))) w.heap.size 5 (ys (laidB N (E ++ [cur % 10])))) := by
              have h1 := hEI.set p (.int .u8 (48 + (cur : Int) % 10))
              rw [hp, laidB_step N E (cur % 10) (by omega) (by omega) _ (by omega), ← hp] at h1
              exact h1
            have HB2 : Hid (Below w.heap.size w (wr.setCell ⟨w.heap.size, p, none⟩ (.int .u8 (48 + (cur : Int) % 10)))) := hEB.setCell (Nat.le_refl _) _
            generalize (ys (laidB N E))[p]'(by omega) = old at *
            clear hE hEI hEB hEl hcl hp
            go_wp2_with fail
            go_roundg (gk - 1)
            case measure => omega
            case rel => exact ⟨j + 1, cur / 10, E ++ [cur % 10], by omega, by go_num, by go_num, by go_num, by rw [List.length_append, HEl.out]; rfl, HE.out.step hj9, HS2.out, HB2.out⟩
          · obtain rfl : j = 9 := by omega
            have HD9 : Hid (vl 10 E = vl 1000000000 (l.take (i + 1))) := hE.done
            have HL9 : Hid (∀ d ∈ E, d < 10) := hE.low
            clear hE hEI hEB hEl
            go_wp2_with fail
            go_roundg (G - 1)
            case measure => omega
            case rel => exact ⟨i + 1, E, by omega, by go_num, by rw [HEl.out]; omega, by go_num, HL9.out, HD9.out, HEI.out, HEB.out⟩
      · obtain rfl : i = l.length := by omega
        rw [List.take_length, HV.out] at hDv
        have hNe := HN.out
        have hlb : laidB N D = chars D := by
          unfold laidB
          rw [hDl, ← hNe, Nat.sub_self]; rfl
        have hcl : (chars D).length = N := by rw [chars_length]; omega
        have HDZ : Hid ((chars D).dropWhile (· == 48) = txt n) := by
          show _ = _
          rw [drop_zeros D.length D rfl hDd, hDv, txt, if_neg hn]
        have hcv := run_convert_bytes_arg (P := Tryd.prog) wr 79 5 Tryd.underlying79 Tryd.underlying5 w.heap.size 0 N N ((chars D).map fun x => (x.toNat : Int)) (by simpa using hcl) (fun k hk => by
          have := hDI
          rw [hlb] at this
          rw [Nat.zero_add, this.cell k (by rw [ys_length]; omega)]
          simp [ys, List.getElem?_eq_getElem (show k < (chars D).length by omega)]) 9 Tryd.underlying9
        rw [Lib.Lz.strOfNums_map] at hcv
        have HTL : Hid (∀ w : World, Calls Tryd.prog 59 #[.string ⟨(chars D).toArray⟩, .string ⟨#[48]⟩] w fun e w' => (∃ t : ByteArray, e = .returned (.string t) ∧ t.data.toList = (chars D).dropWhile (· == 48)) ∧ w' = w) := fun w => by
          have := trimLeft_any ⟨(chars D).toArray⟩ w (by show (chars D).toArray.size ≤ _; simp; omega)
          simpa using this
        clear hDl hDd hDv hDI hDB hlb hcl hNe
        generalize chars D = C at *
        go_wp2_with (go_at_call 59; refine (HTL.out _).mono ?_; rintro e w9 ⟨⟨t, rfl, ht⟩, rfl⟩; have HT : Hid (t.data.toList = C.dropWhile (· == 48)) := ht; clear ht)
        go_ret
        refine ⟨?_, HB.out⟩
        have e9 : t = ⟨(txt n).toArray⟩ := by
          have := HT.out
          rw [HDZ.out] at this
          cases t with
          | mk d => simp at this; rw [← this]
        rw [← e9]; rfl
end Go.Proofs.YtflabehlaiocaaaDoor

