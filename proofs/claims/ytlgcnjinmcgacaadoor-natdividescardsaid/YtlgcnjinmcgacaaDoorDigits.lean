/- Plain: numbers as lists of digits to a base, the lowest first; texts of digits. No Go text is named here. -/
import Derived.WalkKit
set_option linter.unusedSimpArgs false
set_option linter.unusedVariables false
namespace Go.Proofs.YtlgcnjinmcgacaaDoor

/-- What a list of digits is worth. -/
def vl (B : Nat) : List Nat → Nat
  | [] => 0
  | d :: r => d + B * vl B r

theorem vl_append (B : Nat) : ∀ l r : List Nat, vl B (l ++ r) = vl B l + B ^ l.length * vl B r
  | [], r => by simp [vl]
  | d :: l, r => by
    have := vl_append B l r
    simp only [List.cons_append, vl, this, List.length_cons]
    grind
theorem vl_snoc (B : Nat) (l : List Nat) (d : Nat) : vl B (l ++ [d]) = vl B l + B ^ l.length * d := by
  rw [vl_append]; simp [vl]
theorem vl_lt (B : Nat) : ∀ l : List Nat, (∀ d ∈ l, d < B) → vl B l < B ^ l.length
  | [], _ => by simp [vl]
  | d :: l, h => by
    have h1 := vl_lt B l (fun x hx => h x (by simp [hx]))
    have h2 := h d (by simp)
    simp only [vl, List.length_cons]
    have h3 : B * (vl B l + 1) ≤ B * B ^ l.length := Nat.mul_le_mul_left _ h1
    have h4 : B ^ (l.length + 1) = B * B ^ l.length := by grind
    rw [h4]
    have h5 : B * (vl B l + 1) = B * vl B l + B := by grind
    omega
theorem vl_zeros (B : Nat) (k : Nat) : vl B (List.replicate k 0) = 0 := by
  induction k with
  | zero => rfl
  | succ k ih => simp [List.replicate_succ, vl, ih]
theorem vl_append_zeros (B : Nat) (l : List Nat) (k : Nat) : vl B (l ++ List.replicate k 0) = vl B l := by
  rw [vl_append, vl_zeros]; simp

/-- The digits of a number. -/
def dg (B n : Nat) : List Nat := if h : n = 0 ∨ B < 2 then [] else n % B :: dg B (n / B)
termination_by n
decreasing_by exact Nat.div_lt_self (by omega) (by omega)

theorem dg_zero (B : Nat) : dg B 0 = [] := by rw [dg]; simp
theorem dg_pos {B n : Nat} (hB : 2 ≤ B) (hn : n ≠ 0) : dg B n = n % B :: dg B (n / B) := by
  rw [dg, dif_neg (by omega)]
theorem dg_eq_nil {B n : Nat} (hB : 2 ≤ B) : dg B n = [] ↔ n = 0 := by
  constructor
  · intro h
    by_cases h0 : n = 0
    · exact h0
    · rw [dg_pos hB h0] at h; cases h
  · rintro rfl; exact dg_zero B
theorem dg_length_zero {B n : Nat} (hB : 2 ≤ B) : (dg B n).length = 0 ↔ n = 0 := by
  rw [List.length_eq_zero_iff, dg_eq_nil hB]
theorem vl_dg {B : Nat} (hB : 2 ≤ B) (n : Nat) : vl B (dg B n) = n := by
  induction n using Nat.strongRecOn with
  | _ n ih =>
    by_cases h0 : n = 0
    · subst h0; rw [dg_zero]; rfl
    · rw [dg_pos hB h0, vl, ih (n / B) (Nat.div_lt_self (by omega) (by omega))]
      exact Nat.mod_add_div n B
theorem dg_mem {B : Nat} (hB : 2 ≤ B) (n : Nat) : ∀ d ∈ dg B n, d < B := by
  induction n using Nat.strongRecOn with
  | _ n ih =>
    by_cases h0 : n = 0
    · subst h0; rw [dg_zero]; intro d hd; cases hd
    · rw [dg_pos hB h0]
      intro d hd
      rcases List.mem_cons.1 hd with rfl | hd
      · exact Nat.mod_lt _ (by omega)
      · exact ih (n / B) (Nat.div_lt_self (by omega) (by omega)) d hd
/-- The top digit is not 0. -/
def Topped (l : List Nat) : Prop := l = [] ∨ l.getD (l.length - 1) 0 ≠ 0
theorem dg_vl {B : Nat} (hB : 2 ≤ B) : ∀ l : List Nat, (∀ d ∈ l, d < B) → Topped l → dg B (vl B l) = l
  | [], _, _ => dg_zero B
  | d :: l, h, ht => by
    have hd := h d (by simp)
    have hl : ∀ x ∈ l, x < B := fun x hx => h x (by simp [hx])
    rcases ht with ht | ht
    · cases ht
    · by_cases hn : l = []
      · subst hn
        simp at ht
        have : vl B [d] = d := by simp [vl]
        rw [this, dg_pos hB ht, Nat.mod_eq_of_lt hd, Nat.div_eq_of_lt hd, dg_zero]
      · have hpos : 0 < l.length := List.length_pos_iff.2 hn
        have ht2 : Topped l := Or.inr (by
          have e : (d :: l).length - 1 = (l.length - 1) + 1 := by simp; omega
          rw [e, List.getD_cons_succ] at ht
          exact ht)
        have ih := dg_vl hB l hl ht2
        have hv : vl B l ≠ 0 := fun h0 => by rw [h0, dg_zero] at ih; exact hn ih.symm
        have hv2 : vl B (d :: l) ≠ 0 := by
          simp only [vl]
          have : 0 < B * vl B l := Nat.mul_pos (by omega) (by omega)
          omega
        rw [dg_pos hB hv2]
        simp only [vl]
        rw [Nat.add_mul_mod_self_left, Nat.mod_eq_of_lt hd, Nat.add_mul_div_left _ _ (by omega), Nat.div_eq_of_lt hd, Nat.zero_add, ih]
theorem dg_topped {B : Nat} (hB : 2 ≤ B) (n : Nat) : Topped (dg B n) := by
  induction n using Nat.strongRecOn with
  | _ n ih =>
    by_cases h0 : n = 0
    · subst h0; exact Or.inl (dg_zero B)
    · refine Or.inr ?_
      rw [dg_pos hB h0]
      rcases ih (n / B) (Nat.div_lt_self (by omega) (by omega)) with h | h
      · rw [h]
        have : n / B = 0 := (dg_eq_nil hB).1 h
        have hlt : n < B := (Nat.div_eq_zero_iff_lt (by omega)).1 this
        simp [Nat.mod_eq_of_lt hlt, h0]
      · by_cases hn : dg B (n / B) = []
        · rw [hn] at h; simp at h
        · have hpos : 0 < (dg B (n / B)).length := List.length_pos_iff.2 hn
          have e : (n % B :: dg B (n / B)).length - 1 = ((dg B (n / B)).length - 1) + 1 := by simp; omega
          rw [e, List.getD_cons_succ]
          exact h
theorem lt_pow_dg {B : Nat} (hB : 2 ≤ B) (n : Nat) : n < B ^ (dg B n).length := by
  have := vl_lt B (dg B n) (dg_mem hB n)
  rwa [vl_dg hB] at this
theorem dg_len_le {B : Nat} (hB : 2 ≤ B) : ∀ (k n : Nat), n < B ^ k → (dg B n).length ≤ k
  | 0, n, h => by simp at h; subst h; simp [dg_zero]
  | k + 1, n, h => by
    by_cases h0 : n = 0
    · subst h0; simp [dg_zero]
    · rw [dg_pos hB h0, List.length_cons]
      have : n / B < B ^ k := by
        rw [Nat.div_lt_iff_lt_mul (by omega)]
        have : B ^ (k + 1) = B ^ k * B := by grind
        omega
      have := dg_len_le hB k (n / B) this
      omega
theorem pow_le_of_len {B : Nat} (hB : 2 ≤ B) : ∀ (k n : Nat), k < (dg B n).length → B ^ k ≤ n := by
  intro k n h
  by_cases hc : B ^ k ≤ n
  · exact hc
  · have := dg_len_le hB k n (by omega)
    omega
theorem dg_len_mono {B : Nat} (hB : 2 ≤ B) {n m : Nat} (h : n ≤ m) : (dg B n).length ≤ (dg B m).length :=
  dg_len_le hB _ _ (Nat.lt_of_le_of_lt h (lt_pow_dg hB m))
theorem lt_of_len_lt {B : Nat} (hB : 2 ≤ B) {n m : Nat} (h : (dg B n).length < (dg B m).length) : n < m := by
  by_cases hc : n < m
  · exact hc
  · have := dg_len_mono hB (show m ≤ n by omega)
    omega
theorem dg_inj {B : Nat} (hB : 2 ≤ B) {n m : Nat} (h : dg B n = dg B m) : n = m := by
  rw [← vl_dg hB n, h, vl_dg hB m]
/-- A list of digits, without what is 0 at its top. -/
theorem dg_of_vl {B : Nat} (hB : 2 ≤ B) (l : List Nat) (n : Nat) (hl : ∀ d ∈ l, d < B) (hv : vl B l = n) (ht : Topped l) : l = dg B n := by
  rw [← hv, dg_vl hB l hl ht]

/-- Two lists that part at i, and are the same above it. -/
theorem vl_part {B : Nat} (l r : List Nat) (i : Nat) (hl : ∀ d ∈ l, d < B) (hi : i < l.length) (hi' : i < r.length) (he : l.drop (i + 1) = r.drop (i + 1)) (hlt : l[i] < r[i]) : vl B l < vl B r := by
  have e1 : l = l.take i ++ (l[i] :: l.drop (i + 1)) := by rw [← List.drop_eq_getElem_cons hi, List.take_append_drop]
  have e2 : r = r.take i ++ (r[i] :: r.drop (i + 1)) := by rw [← List.drop_eq_getElem_cons hi', List.take_append_drop]
  have h1 := vl_lt B (l.take i) (fun d hd => hl d (List.mem_of_mem_take hd))
  have h2 : vl B l = vl B (l.take i) + B ^ i * (l[i] + B * vl B (l.drop (i + 1))) := by
    have := vl_append B (l.take i) (l[i] :: l.drop (i + 1))
    rw [← e1] at this
    rw [this, List.length_take, Nat.min_eq_left (by omega)]; rfl
  have h3 : vl B r = vl B (r.take i) + B ^ i * (r[i] + B * vl B (r.drop (i + 1))) := by
    have := vl_append B (r.take i) (r[i] :: r.drop (i + 1))
    rw [← e2] at this
    rw [this, List.length_take, Nat.min_eq_left (by omega)]; rfl
  rw [List.length_take, Nat.min_eq_left (by omega)] at h1
  rw [h2, h3, he]
  generalize B * vl B (r.drop (i + 1)) = Q
  have h4 : B ^ i * (l[i] + Q + 1) ≤ B ^ i * (r[i] + Q) := Nat.mul_le_mul_left _ (by omega)
  have h5 : B ^ i * (l[i] + Q + 1) = B ^ i * (l[i] + Q) + B ^ i := by grind
  omega

/-! ### Texts of digits -/
/-- What a text of digits is worth. -/
def bv (l : List UInt8) : Nat := l.foldl (fun a c => a * 10 + (c.toNat - 48)) 0
theorem bv_from (l : List UInt8) : ∀ a : Nat, l.foldl (fun a c => a * 10 + (c.toNat - 48)) a = a * 10 ^ l.length + bv l := by
  induction l with
  | nil => intro a; simp [bv]
  | cons c l ih =>
    intro a
    have h1 := ih (a * 10 + (c.toNat - 48))
    have h2 := ih (0 * 10 + (c.toNat - 48))
    simp only [bv, List.foldl_cons] at *
    rw [h1, h2, List.length_cons]
    grind
theorem bv_append (l r : List UInt8) : bv (l ++ r) = bv l * 10 ^ r.length + bv r := by
  unfold bv
  rw [List.foldl_append, bv_from]; rfl
theorem bv_snoc (l : List UInt8) (c : UInt8) : bv (l ++ [c]) = bv l * 10 + (c.toNat - 48) := by
  rw [bv_append]; simp [bv]
theorem bv_cons (c : UInt8) (l : List UInt8) : bv (c :: l) = (c.toNat - 48) * 10 ^ l.length + bv l := by
  have := bv_append [c] l
  simpa [bv] using this
/-- All are digits. -/
def isDig (c : UInt8) : Bool := 48 ≤ c.toNat && c.toNat ≤ 57
def allDig (l : List UInt8) : Bool := l.all isDig
theorem bv_lt : ∀ l : List UInt8, allDig l = true → bv l < 10 ^ l.length
  | [], _ => by simp [bv]
  | c :: l, h => by
    simp only [allDig, List.all_cons, Bool.and_eq_true, isDig, decide_eq_true_eq] at h
    have h1 := bv_lt l (by simp only [allDig]; exact h.2)
    rw [bv_cons, List.length_cons]
    have h2 : (c.toNat - 48 + 1) * 10 ^ l.length ≤ 10 * 10 ^ l.length := Nat.mul_le_mul_right _ (by omega)
    have h3 : (10 : Nat) ^ (l.length + 1) = 10 * 10 ^ l.length := by grind
    have h4 : (c.toNat - 48 + 1) * 10 ^ l.length = (c.toNat - 48) * 10 ^ l.length + 10 ^ l.length := by grind
    omega
/-- The digits of a text, the lowest first. -/
def dl (l : List UInt8) : List Nat := l.reverse.map fun c => c.toNat - 48
theorem dl_length (l : List UInt8) : (dl l).length = l.length := by simp [dl]
theorem dl_cons (c : UInt8) (l : List UInt8) : dl (c :: l) = dl l ++ [c.toNat - 48] := by simp [dl]
theorem vl_dl : ∀ l : List UInt8, vl 10 (dl l) = bv l
  | [] => rfl
  | c :: l => by
    rw [dl_cons, vl_snoc, vl_dl l, dl_length, bv_cons, Nat.mul_comm]; omega
theorem dl_lt (l : List UInt8) (h : allDig l = true) : ∀ d ∈ dl l, d < 10 := by
  intro d hd
  simp only [dl, List.mem_map, List.mem_reverse] at hd
  obtain ⟨c, hc, rfl⟩ := hd
  have := (List.all_eq_true.1 h) c hc
  simp only [isDig, Bool.and_eq_true, decide_eq_true_eq] at this
  omega
/-- A text that is a number. -/
def isNum (l : List UInt8) : Bool := allDig l && (l == [48] || (l != [] && l.head? != some 48))
/-- The text of a list of digits. -/
def chars (l : List Nat) : List UInt8 := l.reverse.map fun d => UInt8.ofNat (d + 48)
/-- The text of a number. -/
def txt (n : Nat) : List UInt8 := if n = 0 then [48] else chars (dg 10 n)
theorem chars_dl (l : List UInt8) (h : allDig l = true) : chars (dl l) = l := by
  simp only [chars, dl, List.map_reverse, List.reverse_reverse, List.map_map]
  apply List.ext_getElem (by simp)
  intro i h1 h2
  have := (List.all_eq_true.1 h) l[i] (List.getElem_mem _)
  simp only [isDig, Bool.and_eq_true, decide_eq_true_eq] at this
  simp only [List.getElem_map, Function.comp]
  apply UInt8.toNat_inj.1
  rw [UInt8.toNat_ofNat']
  omega
theorem txt_bv (l : List UInt8) (h : isNum l = true) : txt (bv l) = l := by
  simp only [isNum, Bool.and_eq_true, Bool.or_eq_true, beq_iff_eq, bne_iff_ne, ne_eq] at h
  obtain ⟨ha, h | ⟨h1, h2⟩⟩ := h
  · subst h; rfl
  · cases l with
    | nil => exact absurd rfl h1
    | cons c l =>
      simp only [List.head?_cons, Option.some.injEq] at h2
      have hc := (List.all_eq_true.1 ha) c (by simp)
      simp only [isDig, Bool.and_eq_true, decide_eq_true_eq] at hc
      have hc2 : c.toNat ≠ 48 := fun e => h2 (UInt8.toNat_inj.1 e)
      have ht : Topped (dl (c :: l)) := Or.inr (by
        rw [dl_cons, List.length_append]
        simp
        omega)
      have hd := dg_vl (by omega) (dl (c :: l)) (dl_lt _ ha) ht
      rw [vl_dl] at hd
      have hz : bv (c :: l) ≠ 0 := fun e => by
        rw [e, dg_zero] at hd
        rw [dl_cons] at hd
        simp at hd
      rw [txt, if_neg hz, hd, chars_dl _ ha]
theorem allDig_chars (l : List Nat) (h : ∀ d ∈ l, d < 10) : allDig (chars l) = true := by
  simp only [allDig, chars, List.all_map, List.all_reverse, List.all_eq_true]
  intro d hd
  have := h d hd
  simp only [Function.comp, isDig, UInt8.toNat_ofNat', Bool.and_eq_true, decide_eq_true_eq]
  omega
theorem dl_chars (l : List Nat) (h : ∀ d ∈ l, d < 10) : dl (chars l) = l := by
  simp only [chars, dl, List.map_reverse, List.reverse_reverse, List.map_map]
  apply List.ext_getElem (by simp)
  intro i h1 h2
  have := h l[i] (List.getElem_mem _)
  simp only [List.getElem_map, Function.comp, UInt8.toNat_ofNat']
  omega
theorem bv_txt (n : Nat) : bv (txt n) = n := by
  by_cases h : n = 0
  · subst h; rfl
  · rw [txt, if_neg h, ← vl_dl, dl_chars _ (dg_mem (by omega) n), vl_dg (by omega)]
theorem isNum_txt (n : Nat) : isNum (txt n) = true := by
  by_cases h : n = 0
  · subst h; rfl
  · rw [txt, if_neg h]
    have hm := dg_mem (show 2 ≤ 10 by omega) n
    have ht := dg_topped (show 2 ≤ 10 by omega) n
    have hne : dg 10 n ≠ [] := fun e => h ((dg_eq_nil (by omega)).1 e)
    simp only [isNum, allDig_chars _ hm, Bool.true_and, Bool.or_eq_true, Bool.and_eq_true, bne_iff_ne, ne_eq]
    refine Or.inr ⟨by simpa [chars] using hne, ?_⟩
    rcases ht with ht | ht
    · exact absurd ht hne
    · simp only [chars, List.head?_map, List.head?_reverse, List.getLast?_eq_getElem?]
      have hpos : 0 < (dg 10 n).length := List.length_pos_iff.2 hne
      rw [List.getElem?_eq_getElem (by omega)]
      simp only [Option.map_some, Option.some.injEq]
      intro e
      have e2 := congrArg UInt8.toNat e
      have hlt := hm _ (List.getElem_mem (show (dg 10 n).length - 1 < (dg 10 n).length by omega))
      rw [UInt8.toNat_ofNat'] at e2
      rw [List.getD_eq_getElem?_getD, List.getElem?_eq_getElem (by omega)] at ht
      simp at ht
      have : (48 : UInt8).toNat = 48 := rfl
      omega
theorem txt_length (n : Nat) : (txt n).length = if n = 0 then 1 else (dg 10 n).length := by
  unfold txt; split <;> simp [chars]
theorem txt_inj {n m : Nat} (h : txt n = txt m) : n = m := by rw [← bv_txt n, h, bv_txt]
theorem txt_len_le (n k : Nat) (hk : 1 ≤ k) (h : n < 10 ^ k) : (txt n).length ≤ k := by
  rw [txt_length]; split
  · exact hk
  · exact dg_len_le (by omega) k n h
end Go.Proofs.YtlgcnjinmcgacaaDoor
