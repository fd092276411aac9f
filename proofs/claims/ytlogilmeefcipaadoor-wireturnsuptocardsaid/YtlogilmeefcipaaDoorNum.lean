/- Plain: numbers as lists of digits to a base, the lowest first; texts of digits; and the walks of the document's own numbers (chapter 2): Is, Read, Text, Compare, Of. -/
import Derived.WalkKit
import Derived.Test.YtlogilmeefcipaaDoorRows
import Derived.WalkSpells
import Derived.WalkLawsBesides
import Derived.Handy
import Derived.Deep.Draws
import Derived.Deep.MidRow
import Derived.Deep.QuietTactic
import Derived.BigQuiet
import Derived.Deep.LoopGhost
import Derived.Laws.IdiomCopy
import Derived.Deep.OwnRows
import Derived.PlainAid
import Derived.Deep.RegionWith
import Derived.Laws.BytesArg
import Derived.Lib.LazyBuf
set_option linter.unusedSimpArgs false
set_option linter.unusedVariables false
namespace Go.Proofs.YtlogilmeefcipaaDoor
open Go.RowKit Go.Deep Go.PlainAid

/-- What a list of digits is worth. -/
def vl (B : Nat) : List Nat → Nat
  | [] => 0
  | d :: r => d + B * vl B r

theorem vl_append (B : Nat) : ∀ l r : List Nat, vl B (l ++ r) = vl B l + B ^ l.length * vl B r
  | [], r => by simp [vl]
  | d :: l, r => by
    have := vl_append B l r
    simp only [List.cons_append, vl, this, List.length_cons]
    grind
theorem vl_snoc (B : Nat) (l : List Nat) (d : Nat) : vl B (l ++ [d]) = vl B l + B ^ l.length * d := by
  rw [vl_append]; simp [vl]
theorem vl_lt (B : Nat) : ∀ l : List Nat, (∀ d ∈ l, d < B) → vl B l < B ^ l.length
  | [], _ => by simp [vl]
  | d :: l, h => by
    have h1 := vl_lt B l (fun x hx => h x (by simp [hx]))
    have h2 := h d (by simp)
    simp only [vl, List.length_cons]
    have h3 : B * (vl B l + 1) ≤ B * B ^ l.length := Nat.mul_le_mul_left _ h1
    have h4 : B ^ (l.length + 1) = B * B ^ l.length := by grind
    rw [h4]
    have h5 : B * (vl B l + 1) = B * vl B l + B := by grind
    omega
/-- The digits of a number. -/
def dg (B n : Nat) : List Nat := if h : n = 0 ∨ B < 2 then [] else n % B :: dg B (n / B)
termination_by n
decreasing_by exact Nat.div_lt_self (by omega) (by omega)

theorem dg_zero (B : Nat) : dg B 0 = [] := by rw [dg]; simp
theorem dg_pos {B n : Nat} (hB : 2 ≤ B) (hn : n ≠ 0) : dg B n = n % B :: dg B (n / B) := by
  rw [dg, dif_neg (by omega)]
theorem dg_eq_nil {B n : Nat} (hB : 2 ≤ B) : dg B n = [] ↔ n = 0 := by
  constructor
  · intro h
    by_cases h0 : n = 0
    · exact h0
    · rw [dg_pos hB h0] at h; cases h
  · rintro rfl; exact dg_zero B
theorem dg_length_zero {B n : Nat} (hB : 2 ≤ B) : (dg B n).length = 0 ↔ n = 0 := by
  rw [List.length_eq_zero_iff, dg_eq_nil hB]
theorem vl_dg {B : Nat} (hB : 2 ≤ B) (n : Nat) : vl B (dg B n) = n := by
  induction n using Nat.strongRecOn with
  | _ n ih =>
    by_cases h0 : n = 0
    · subst h0; rw [dg_zero]; rfl
    · rw [dg_pos hB h0, vl, ih (n / B) (Nat.div_lt_self (by omega) (by omega))]
      exact Nat.mod_add_div n B
theorem dg_mem {B : Nat} (hB : 2 ≤ B) (n : Nat) : ∀ d ∈ dg B n, d < B := by
  induction n using Nat.strongRecOn with
  | _ n ih =>
    by_cases h0 : n = 0
    · subst h0; rw [dg_zero]; intro d hd; cases hd
    · rw [dg_pos hB h0]
      intro d hd
      rcases List.mem_cons.1 hd with rfl | hd
      · exact Nat.mod_lt _ (by omega)
      · exact ih (n / B) (Nat.div_lt_self (by omega) (by omega)) d hd
/-- The top digit is not 0. -/
def Topped (l : List Nat) : Prop := l = [] ∨ l.getD (l.length - 1) 0 ≠ 0
theorem dg_vl {B : Nat} (hB : 2 ≤ B) : ∀ l : List Nat, (∀ d ∈ l, d < B) → Topped l → dg B (vl B l) = l
  | [], _, _ => dg_zero B
  | d :: l, h, ht => by
    have hd := h d (by simp)
    have hl : ∀ x ∈ l, x < B := fun x hx => h x (by simp [hx])
    rcases ht with ht | ht
    · cases ht
    · by_cases hn : l = []
      · subst hn
        simp at ht
        have : vl B [d] = d := by simp [vl]
        rw [this, dg_pos hB ht, Nat.mod_eq_of_lt hd, Nat.div_eq_of_lt hd, dg_zero]
      · have hpos : 0 < l.length := List.length_pos_iff.2 hn
        have ht2 : Topped l := Or.inr (by
          have e : (d :: l).length - 1 = (l.length - 1) + 1 := by simp; omega
          rw [e, List.getD_cons_succ] at ht
          exact ht)
        have ih := dg_vl hB l hl ht2
        have hv : vl B l ≠ 0 := fun h0 => by rw [h0, dg_zero] at ih; exact hn ih.symm
        have hv2 : vl B (d :: l) ≠ 0 := by
          simp only [vl]
          have : 0 < B * vl B l := Nat.mul_pos (by omega) (by omega)
          omega
        rw [dg_pos hB hv2]
        simp only [vl]
        rw [Nat.add_mul_mod_self_left, Nat.mod_eq_of_lt hd, Nat.add_mul_div_left _ _ (by omega), Nat.div_eq_of_lt hd, Nat.zero_add, ih]
theorem dg_topped {B : Nat} (hB : 2 ≤ B) (n : Nat) : Topped (dg B n) := by
  induction n using Nat.strongRecOn with
  | _ n ih =>
    by_cases h0 : n = 0
    · subst h0; exact Or.inl (dg_zero B)
    · refine Or.inr ?_
      rw [dg_pos hB h0]
      rcases ih (n / B) (Nat.div_lt_self (by omega) (by omega)) with h | h
      · rw [h]
        have : n / B = 0 := (dg_eq_nil hB).1 h
        have hlt : n < B := (Nat.div_eq_zero_iff_lt (by omega)).1 this
        simp [Nat.mod_eq_of_lt hlt, h0]
      · by_cases hn : dg B (n / B) = []
        · rw [hn] at h; simp at h
        · have hpos : 0 < (dg B (n / B)).length := List.length_pos_iff.2 hn
          have e : (n % B :: dg B (n / B)).length - 1 = ((dg B (n / B)).length - 1) + 1 := by simp; omega
          rw [e, List.getD_cons_succ]
          exact h
theorem lt_pow_dg {B : Nat} (hB : 2 ≤ B) (n : Nat) : n < B ^ (dg B n).length := by
  have := vl_lt B (dg B n) (dg_mem hB n)
  rwa [vl_dg hB] at this
theorem dg_len_le {B : Nat} (hB : 2 ≤ B) : ∀ (k n : Nat), n < B ^ k → (dg B n).length ≤ k
  | 0, n, h => by simp at h; subst h; simp [dg_zero]
  | k + 1, n, h => by
    by_cases h0 : n = 0
    · subst h0; simp [dg_zero]
    · rw [dg_pos hB h0, List.length_cons]
      have : n / B < B ^ k := by
        rw [Nat.div_lt_iff_lt_mul (by omega)]
        have : B ^ (k + 1) = B ^ k * B := by grind
        omega
      have := dg_len_le hB k (n / B) this
      omega
theorem dg_len_mono {B : Nat} (hB : 2 ≤ B) {n m : Nat} (h : n ≤ m) : (dg B n).length ≤ (dg B m).length :=
  dg_len_le hB _ _ (Nat.lt_of_le_of_lt h (lt_pow_dg hB m))
theorem lt_of_len_lt {B : Nat} (hB : 2 ≤ B) {n m : Nat} (h : (dg B n).length < (dg B m).length) : n < m := by
  by_cases hc : n < m
  · exact hc
  · have := dg_len_mono hB (show m ≤ n by omega)
    omega
theorem dg_inj {B : Nat} (hB : 2 ≤ B) {n m : Nat} (h : dg B n = dg B m) : n = m := by
  rw [← vl_dg hB n, h, vl_dg hB m]
/-- Two lists that part at i, and are the same above it. -/
theorem vl_part {B : Nat} (l r : List Nat) (i : Nat) (hl : ∀ d ∈ l, d < B) (hi : i < l.length) (hi' : i < r.length) (he : l.drop (i + 1) = r.drop (i + 1)) (hlt : l[i] < r[i]) : vl B l < vl B r := by
  have e1 : l = l.take i ++ (l[i] :: l.drop (i + 1)) := by rw [← List.drop_eq_getElem_cons hi, List.take_append_drop]
  have e2 : r = r.take i ++ (r[i] :: r.drop (i + 1)) := by rw [← List.drop_eq_getElem_cons hi', List.take_append_drop]
  have h1 := vl_lt B (l.take i) (fun d hd => hl d (List.mem_of_mem_take hd))
  have h2 : vl B l = vl B (l.take i) + B ^ i * (l[i] + B * vl B (l.drop (i + 1))) := by
    have := vl_append B (l.take i) (l[i] :: l.drop (i + 1))
    rw [← e1] at this
    rw [this, List.length_take, Nat.min_eq_left (by omega)]; rfl
  have h3 : vl B r = vl B (r.take i) + B ^ i * (r[i] + B * vl B (r.drop (i + 1))) := by
    have := vl_append B (r.take i) (r[i] :: r.drop (i + 1))
    rw [← e2] at this
    rw [this, List.length_take, Nat.min_eq_left (by omega)]; rfl
  rw [List.length_take, Nat.min_eq_left (by omega)] at h1
  rw [h2, h3, he]
  generalize B * vl B (r.drop (i + 1)) = Q
  have h4 : B ^ i * (l[i] + Q + 1) ≤ B ^ i * (r[i] + Q) := Nat.mul_le_mul_left _ (by omega)
  have h5 : B ^ i * (l[i] + Q + 1) = B ^ i * (l[i] + Q) + B ^ i := by grind
  omega

/-! ### Texts of digits -/
/-- What a text of digits is worth. -/
def bv (l : List UInt8) : Nat := l.foldl (fun a c => a * 10 + (c.toNat - 48)) 0
theorem bv_from (l : List UInt8) : ∀ a : Nat, l.foldl (fun a c => a * 10 + (c.toNat - 48)) a = a * 10 ^ l.length + bv l := by
  induction l with
  | nil => intro a; simp [bv]
  | cons c l ih =>
    intro a
    have h1 := ih (a * 10 + (c.toNat - 48))
    have h2 := ih (0 * 10 + (c.toNat - 48))
    simp only [bv, List.foldl_cons] at *
    rw [h1, h2, List.length_cons]
    grind
theorem bv_append (l r : List UInt8) : bv (l ++ r) = bv l * 10 ^ r.length + bv r := by
  unfold bv
  rw [List.foldl_append, bv_from]; rfl
theorem bv_cons (c : UInt8) (l : List UInt8) : bv (c :: l) = (c.toNat - 48) * 10 ^ l.length + bv l := by
  have := bv_append [c] l
  simpa [bv] using this
/-- All are digits. -/
def isDig (c : UInt8) : Bool := 48 ≤ c.toNat && c.toNat ≤ 57
def allDig (l : List UInt8) : Bool := l.all isDig
/-- The digits of a text, the lowest first. -/
def dl (l : List UInt8) : List Nat := l.reverse.map fun c => c.toNat - 48
theorem dl_length (l : List UInt8) : (dl l).length = l.length := by simp [dl]
theorem dl_cons (c : UInt8) (l : List UInt8) : dl (c :: l) = dl l ++ [c.toNat - 48] := by simp [dl]
theorem vl_dl : ∀ l : List UInt8, vl 10 (dl l) = bv l
  | [] => rfl
  | c :: l => by
    rw [dl_cons, vl_snoc, vl_dl l, dl_length, bv_cons, Nat.mul_comm]; omega
theorem dl_lt (l : List UInt8) (h : allDig l = true) : ∀ d ∈ dl l, d < 10 := by
  intro d hd
  simp only [dl, List.mem_map, List.mem_reverse] at hd
  obtain ⟨c, hc, rfl⟩ := hd
  have := (List.all_eq_true.1 h) c hc
  simp only [isDig, Bool.and_eq_true, decide_eq_true_eq] at this
  omega
/-- A text that is a number. -/
def isNum (l : List UInt8) : Bool := allDig l && (l == [48] || (l != [] && l.head? != some 48))
/-- The text of a list of digits. -/
def chars (l : List Nat) : List UInt8 := l.reverse.map fun d => UInt8.ofNat (d + 48)
/-- The text of a number. -/
def txt (n : Nat) : List UInt8 := if n = 0 then [48] else chars (dg 10 n)
theorem chars_dl (l : List UInt8) (h : allDig l = true) : chars (dl l) = l := by
  simp only [chars, dl, List.map_reverse, List.reverse_reverse, List.map_map]
  apply List.ext_getElem (by simp)
  intro i h1 h2
  have := (List.all_eq_true.1 h) l[i] (List.getElem_mem _)
  simp only [isDig, Bool.and_eq_true, decide_eq_true_eq] at this
  simp only [List.getElem_map, Function.comp]
  apply UInt8.toNat_inj.1
  rw [UInt8.toNat_ofNat']
  omega
theorem txt_bv (l : List UInt8) (h : isNum l = true) : txt (bv l) = l := by
  simp only [isNum, Bool.and_eq_true, Bool.or_eq_true, beq_iff_eq, bne_iff_ne, ne_eq] at h
  obtain ⟨ha, h | ⟨h1, h2⟩⟩ := h
  · subst h; rfl
  · cases l with
    | nil => exact absurd rfl h1
    | cons c l =>
      simp only [List.head?_cons, Option.some.injEq] at h2
      have hc := (List.all_eq_true.1 ha) c (by simp)
      simp only [isDig, Bool.and_eq_true, decide_eq_true_eq] at hc
      have hc2 : c.toNat ≠ 48 := fun e => h2 (UInt8.toNat_inj.1 e)
      have ht : Topped (dl (c :: l)) := Or.inr (by
        rw [dl_cons, List.length_append]
        simp
        omega)
      have hd := dg_vl (by omega) (dl (c :: l)) (dl_lt _ ha) ht
      rw [vl_dl] at hd
      have hz : bv (c :: l) ≠ 0 := fun e => by
        rw [e, dg_zero] at hd
        rw [dl_cons] at hd
        simp at hd
      rw [txt, if_neg hz, hd, chars_dl _ ha]
theorem allDig_chars (l : List Nat) (h : ∀ d ∈ l, d < 10) : allDig (chars l) = true := by
  simp only [allDig, chars, List.all_map, List.all_reverse, List.all_eq_true]
  intro d hd
  have := h d hd
  simp only [Function.comp, isDig, UInt8.toNat_ofNat', Bool.and_eq_true, decide_eq_true_eq]
  omega
theorem dl_chars (l : List Nat) (h : ∀ d ∈ l, d < 10) : dl (chars l) = l := by
  simp only [chars, dl, List.map_reverse, List.reverse_reverse, List.map_map]
  apply List.ext_getElem (by simp)
  intro i h1 h2
  have := h l[i] (List.getElem_mem _)
  simp only [List.getElem_map, Function.comp, UInt8.toNat_ofNat']
  omega
theorem bv_txt (n : Nat) : bv (txt n) = n := by
  by_cases h : n = 0
  · subst h; rfl
  · rw [txt, if_neg h, ← vl_dl, dl_chars _ (dg_mem (by omega) n), vl_dg (by omega)]
theorem isNum_txt (n : Nat) : isNum (txt n) = true := by
  by_cases h : n = 0
  · subst h; rfl
  · rw [txt, if_neg h]
    have hm := dg_mem (show 2 ≤ 10 by omega) n
    have ht := dg_topped (show 2 ≤ 10 by omega) n
    have hne : dg 10 n ≠ [] := fun e => h ((dg_eq_nil (by omega)).1 e)
    simp only [isNum, allDig_chars _ hm, Bool.true_and, Bool.or_eq_true, Bool.and_eq_true, bne_iff_ne, ne_eq]
    refine Or.inr ⟨by simpa [chars] using hne, ?_⟩
    rcases ht with ht | ht
    · exact absurd ht hne
    · simp only [chars, List.head?_map, List.head?_reverse, List.getLast?_eq_getElem?]
      have hpos : 0 < (dg 10 n).length := List.length_pos_iff.2 hne
      rw [List.getElem?_eq_getElem (by omega)]
      simp only [Option.map_some, Option.some.injEq]
      intro e
      have e2 := congrArg UInt8.toNat e
      have hlt := hm _ (List.getElem_mem (show (dg 10 n).length - 1 < (dg 10 n).length by omega))
      rw [UInt8.toNat_ofNat'] at e2
      rw [List.getD_eq_getElem?_getD, List.getElem?_eq_getElem (by omega)] at ht
      simp at ht
      have : (48 : UInt8).toNat = 48 := rfl
      omega
/-- A number of the program's own as it holds it. -/
abbrev I (x : Nat) : Value := .int .i64 (x : Int)
/-- At a lie these numbers. -/
def Row (w : World) (a : Option Addr) (l : List Nat) : Prop := ∀ i (h : i < l.length), ∃ b o, a = some ⟨b, o, none⟩ ∧ w.cell? ⟨b, o + i, none⟩ = some (I l[i])
theorem Row.nil (w : World) (a : Option Addr) : Row w a [] := fun i h => by cases h
theorem Row.of_below {w w' : World} {a : Option Addr} {l : List Nat} (h : Row w a l) (hb : Below w.heap.size w w') : Row w' a l := by
  intro i hi
  obtain ⟨b, o, ha, hc⟩ := h i hi
  exact ⟨b, o, ha, by rw [hb.cell (World.block_lt_of_cell? _ _ hc)]; exact hc⟩
theorem Row.take {w : World} {a : Option Addr} {l : List Nat} (h : Row w a l) (k : Nat) : Row w a (l.take k) := by
  intro i hi
  rw [List.length_take] at hi
  obtain ⟨b, o, ha, hc⟩ := h i (by omega)
  exact ⟨b, o, ha, by rw [List.getElem_take]; exact hc⟩
/-- A value that is the number n to the base B. -/
def NumV (w : World) (B n : Nat) (v : Value) : Prop := ∃ a cap, v = .slice a (dg B n).length cap ∧ (dg B n).length ≤ cap ∧ Row w a (dg B n)
theorem NumV.of_below {w w' : World} {B n : Nat} {v : Value} (h : NumV w B n v) (hb : Below w.heap.size w w') : NumV w' B n v := by
  obtain ⟨a, cap, h1, h2, h3⟩ := h
  exact ⟨a, cap, h1, h2, h3.of_below hb⟩

theorem trim_step {B : Nat} {l : List Nat} {k : Nat} (hk : 0 < k) (hl : k ≤ l.length) (hv : vl B (l.take k) = vl B l) (h0 : l[k - 1] = 0) : vl B (l.take (k - 1)) = vl B l := by
  have e : l.take k = l.take (k - 1) ++ [l[k - 1]] := by
    have := List.take_succ_eq_append_getElem (show k - 1 < l.length by omega)
    rwa [show k - 1 + 1 = k by omega] at this
  rw [← hv, e, h0, vl_snoc]; simp
theorem trim_end {B : Nat} (hB : 2 ≤ B) {w : World} {a : Option Addr} {l : List Nat} {k cap : Nat} (hr : Row w a l) (hc : l.length ≤ cap) (hd : ∀ d ∈ l, d < B) (hl : k ≤ l.length) (hv : vl B (l.take k) = vl B l)
    (h0 : ∀ h : 0 < k, l[k - 1] ≠ 0) : NumV w B (vl B l) (.slice a k cap) := by
  have ht : Topped (l.take k) := by
    by_cases hk : 0 < k
    · refine Or.inr ?_
      have e : (l.take k).length - 1 = k - 1 := by rw [List.length_take]; omega
      have hlt : k - 1 < (l.take k).length := by rw [List.length_take]; omega
      rw [e, List.getD_eq_getElem?_getD, List.getElem?_eq_getElem hlt, List.getElem_take]
      exact h0 hk
    · refine Or.inl ?_
      have : k = 0 := by omega
      subst this; rfl
  have hdg : dg B (vl B l) = l.take k := by
    rw [← hv]; exact dg_vl hB _ (fun d hd' => hd d (List.mem_of_mem_take hd')) ht
  refine ⟨a, cap, ?_, ?_, ?_⟩
  · rw [hdg, List.length_take, Nat.min_eq_left hl]
  · rw [hdg, List.length_take]; omega
  · rw [hdg]; exact hr.take k

set_option maxHeartbeats 400000 in
theorem trim_any (B : Nat) (hB : 2 ≤ B) (w : World) (a : Option Addr) (l : List Nat) (cap : Nat) (hr : Row w a l) (hc : l.length ≤ cap) (hl : ∀ d ∈ l, d < B) (hn : cap ≤ 9223372036854775807) :
    Calls Tryd.prog 37 #[.slice a l.length cap] w fun e w' => (∃ v, e = .returned v ∧ NumV w B (vl B l) v) ∧ w' = w := by
  have HL : Hid (∀ d ∈ l, d < B) := hl
  clear hl
  go_enter Tryd.func37, Tryd.ntmps37
  go_wp2_with fail
  go_loop [0] (fun s => ∃ k : Nat, k ≤ l.length ∧ s = .slice a k cap ∧ vl B (l.take k) = vl B l) (fun s => match s with | .slice _ k _ => k | _ => 0)
  case atStart => exact ⟨l.length, Nat.le_refl _, rfl, by rw [List.take_length]⟩
  case round =>
    obtain ⟨k, hk, rfl, hv⟩ := hrel
    by_cases hlt : 0 < k
    · obtain ⟨b, o, rfl, hcell⟩ := hr (k - 1) (by omega)
      have HV : Hid (vl B (l.take k) = vl B l) := hv
      clear hv
      by_cases hz : l[k - 1] = 0
      · have HS := trim_step hlt hk HV.out hz
        have HH : Hid (vl B (l.take (k - 1)) = vl B l) := HS
        rw [hz] at hcell
        clear HS HV
        go_wp2_with fail
        exact ⟨⟨k - 1, by omega, rfl, HH.out⟩, by show k - 1 < k; omega⟩
      · have HE : Hid (NumV w B (vl B l) (.slice (some ⟨b, o, none⟩) k cap)) := trim_end hB hr hc HL.out hk HV.out (fun _ => hz)
        have hz' : ((l[k - 1] : Int) == 0) = false := by simp; omega
        generalize l[k - 1] = x at *
        go_wp2_with fail
        go_ret
        exact ⟨⟨_, rfl, HE.out⟩, rfl⟩
    · obtain rfl : k = 0 := by omega
      have HE : Hid (NumV w B (vl B l) (.slice a 0 cap)) := trim_end hB hr hc HL.out hk hv (fun h => by omega)
      have hd : decide ((0 : Int) < 0) = false := by decide
      go_wp2_with fail
      go_ret
      exact ⟨⟨_, rfl, HE.out⟩, rfl⟩

/-- What holds when i limbs were gone through: p are the new ones, c is carried. -/
structure Puts (B : Nat) (l m : List Nat) (t : Int) (i : Nat) (p : List Nat) (c : Int) : Prop where
  len : p.length = i
  low : ∀ d ∈ p, d < B
  eq : (vl B (l.take i) : Int) + t * (vl B (m.take i) : Int) = (vl B p : Int) + c * (B : Int) ^ i
  hi : c ≤ t ∨ c ≤ 0
  lo : t ≤ c ∨ 0 ≤ c
theorem Puts.zero (B : Nat) (l m : List Nat) (t : Int) : Puts B l m t 0 [] 0 :=
  ⟨rfl, (fun d h => by cases h), by simp [vl], Or.inr (by omega), Or.inr (by omega)⟩
/-- Block b is an array of these numbers. -/
def IHolds (w : World) (b : Nat) (t : TypeId) (l : List Value) : Prop := w.heap[b]? = some (.cells l.toArray t)
theorem IHolds.lt {w : World} {b : Nat} {t : TypeId} {l : List Value} (h : IHolds w b t l) : b < w.heap.size := (Array.getElem?_eq_some_iff.1 h).1
theorem IHolds.cell {w : World} {b : Nat} {t : TypeId} {l : List Value} (h : IHolds w b t l) (i : Nat) (hi : i < l.length) : w.cell? ⟨b, i, none⟩ = some l[i] := by
  unfold IHolds at h
  simp [World.cell?, h, hi]
theorem IHolds.frozen {w : World} {b : Nat} {t : TypeId} {l : List Value} (h : IHolds w b t l) (i : Nat) : w.frozen? ⟨b, i, none⟩ = false := by
  unfold IHolds at h
  simp [World.frozen?, h]
theorem IHolds.set {w : World} {b : Nat} {t : TypeId} {l : List Value} (h : IHolds w b t l) (i : Nat) (x : Value) : IHolds (w.setCell ⟨b, i, none⟩ x) b t (l.set i x) := by
  unfold IHolds at *
  simp [World.setCell, Array.getElem?_modify, h, List.map_set]
theorem IHolds.drewN {w : World} {b : Nat} {t : TypeId} {l : List Value} (h : IHolds w b t l) (n : Nat) : IHolds (w.drewN n) b t l := h
theorem IHolds.alloc {w : World} {b : Nat} {t : TypeId} {l : List Value} (h : IHolds w b t l) (o : Obj) : IHolds (w.alloc o) b t l := by
  unfold IHolds; rw [Below.heap_alloc _ _ _ h.lt]; exact h
theorem IHolds.new (w : World) (t : TypeId) (l : List Value) : IHolds (w.alloc (.cells l.toArray t)) w.heap.size t l := by
  show (w.heap.push _)[w.heap.size]? = _
  simp
theorem IHolds.of_below {w w' : World} {b : Nat} {t : TypeId} {l : List Value} (h : IHolds w b t l) (hb : Below w.heap.size w w') : IHolds w' b t l := by
  unfold IHolds; rw [hb.block _ h.lt]; exact h
/-- Nothing but block b has turned, of what was there. -/
structure But (b : Nat) (w w' : World) : Prop where
  os : w'.os = w.os
  tape : w'.tape = w.tape
  output : w'.output = w.output
  size : w.heap.size ≤ w'.heap.size
  block : ∀ k, k < w.heap.size → k ≠ b → w'.heap[k]? = w.heap[k]?
theorem But.refl (b : Nat) (w : World) : But b w w := ⟨rfl, rfl, rfl, Nat.le_refl _, fun _ _ _ => rfl⟩
theorem But.trans {b : Nat} {u v w : World} (h : But b u v) (k : But b v w) : But b u w :=
  ⟨k.os.trans h.os, k.tape.trans h.tape, k.output.trans h.output, Nat.le_trans h.size k.size, fun i hi hb => (k.block i (Nat.lt_of_lt_of_le hi h.size) hb).trans (h.block i hi hb)⟩
theorem But.drewN {b : Nat} {u w : World} (h : But b u w) (n : Nat) : But b u (w.drewN n) := ⟨h.os, h.tape, h.output, h.size, h.block⟩
theorem But.setCell {b : Nat} {u w : World} (h : But b u w) (i : Nat) (x : Value) : But b u (w.setCell ⟨b, i, none⟩ x) :=
  h.trans ⟨rfl, rfl, rfl, by simp [World.setCell], fun k _ hb => Below.heap_setCell _ _ _ _ hb⟩
theorem But.cell {b : Nat} {u w : World} (h : But b u w) {k : Nat} (hk : k < u.heap.size) (hb : k ≠ b) (i : Nat) : w.cell? ⟨k, i, none⟩ = u.cell? ⟨k, i, none⟩ :=
  World.cell?_of_block (w := u) (h.block k hk hb)
/-- Numbers as the cells hold them. -/
def zs (l : List Nat) : List Value := l.map I
theorem zs_length (l : List Nat) : (zs l).length = l.length := by simp [zs]
theorem zs_append (l r : List Nat) : zs (l ++ r) = zs l ++ zs r := by simp [zs]
/-- -1, 0 or 1, as x is below y, y itself, or above it. -/
def cmp3 (x y : Int) : Int := if x < y then -1 else if y < x then 1 else 0
theorem cmp3_lt {x y : Int} (h : x < y) : cmp3 x y = -1 := by simp [cmp3, h]
theorem cmp3_gt {x y : Int} (h : y < x) : cmp3 x y = 1 := by simp [cmp3, h]; omega
theorem cmp3_eq {x y : Int} (h : x = y) : cmp3 x y = 0 := by simp [cmp3, h]
theorem drewN_ex {w wr : World} (h : ∃ k, wr = w.drewN k) (n : Nat) : ∃ k, wr.drewN n = w.drewN k := by
  obtain ⟨k, rfl⟩ := h
  exact ⟨k + n, World.drewN_drewN w k n⟩
theorem ret_i {a b : Int} (h : a = b) : Ending.returned (.int .i64 a) = .returned (.int .i64 b) := by rw [h]

theorem drop_same_step {l r : List Nat} {i : Nat} (hl : i < l.length) (hr : i < r.length) (he : l.drop (i + 1) = r.drop (i + 1)) (hx : l[i] = r[i]) : l.drop i = r.drop i := by
  rw [List.drop_eq_getElem_cons hl, List.drop_eq_getElem_cons hr, he, hx]
theorem cmp_at_lt {B n m i : Nat} (hB : 2 ≤ B) (hl : i < (dg B n).length) (hr : i < (dg B m).length) (he : (dg B n).drop (i + 1) = (dg B m).drop (i + 1)) (hx : (dg B n)[i] < (dg B m)[i]) : cmp3 (n : Int) (m : Int) = -1 := by
  have := vl_part (dg B n) (dg B m) i (dg_mem hB n) hl hr he hx
  rw [vl_dg hB, vl_dg hB] at this
  exact cmp3_lt (by omega)
theorem cmp_at_gt {B n m i : Nat} (hB : 2 ≤ B) (hl : i < (dg B n).length) (hr : i < (dg B m).length) (he : (dg B n).drop (i + 1) = (dg B m).drop (i + 1)) (hx : (dg B m)[i] < (dg B n)[i]) : cmp3 (n : Int) (m : Int) = 1 := by
  have := vl_part (dg B m) (dg B n) i (dg_mem hB m) hr hl he.symm hx
  rw [vl_dg hB, vl_dg hB] at this
  exact cmp3_gt (by omega)
theorem cmp_same {B n m : Nat} (hB : 2 ≤ B) (he : (dg B n).drop 0 = (dg B m).drop 0) : cmp3 (n : Int) (m : Int) = 0 := by
  rw [List.drop_zero, List.drop_zero] at he
  exact cmp3_eq (by rw [dg_inj hB he])
theorem cmp_len {B n m : Nat} (hB : 2 ≤ B) (h : (dg B n).length ≠ (dg B m).length) : cmp3 ((dg B n).length : Int) ((dg B m).length : Int) = cmp3 (n : Int) (m : Int) := by
  rcases Nat.lt_or_gt_of_ne h with h | h
  · rw [cmp3_lt (by omega), cmp3_lt (by have := lt_of_len_lt hB h; omega)]
  · rw [cmp3_gt (by omega), cmp3_gt (by have := lt_of_len_lt hB h; omega)]

set_option maxRecDepth 100000 in
set_option maxHeartbeats 4000000 in
theorem refCompare_any (w : World) (a1 a2 : Option Addr) (cap1 cap2 n m : Nat) (h1 : Row w a1 (dg 10 n)) (h2 : Row w a2 (dg 10 m)) (b1 : (dg 10 n).length ≤ 4000000) (b2 : (dg 10 m).length ≤ 4000000) :
    Calls Tryd.prog 30 #[.slice a1 (dg 10 n).length cap1, .slice a2 (dg 10 m).length cap2] w fun e w' => e = .returned (.int .i64 (cmp3 (n : Int) (m : Int))) ∧ ∃ k, w' = w.drewN k := by
  have K1 : Hid (∀ i (hl : i < (dg 10 n).length) (hr : i < (dg 10 m).length), (dg 10 n).drop (i + 1) = (dg 10 m).drop (i + 1) → (dg 10 n)[i] < (dg 10 m)[i] → cmp3 (n : Int) (m : Int) = -1) := fun i => cmp_at_lt (by omega)
  have K2 : Hid (∀ i (hl : i < (dg 10 n).length) (hr : i < (dg 10 m).length), (dg 10 n).drop (i + 1) = (dg 10 m).drop (i + 1) → (dg 10 m)[i] < (dg 10 n)[i] → cmp3 (n : Int) (m : Int) = 1) := fun i => cmp_at_gt (by omega)
  have K3 : Hid ((dg 10 n).drop 0 = (dg 10 m).drop 0 → cmp3 (n : Int) (m : Int) = 0) := cmp_same (by omega)
  have K4 : Hid ((dg 10 n).length ≠ (dg 10 m).length → cmp3 ((dg 10 n).length : Int) ((dg 10 m).length : Int) = cmp3 (n : Int) (m : Int)) := cmp_len (by omega)
  generalize cmp3 (n : Int) (m : Int) = c at *
  generalize dg 10 n = l1 at *
  generalize dg 10 m = l2 at *
  have H1 : Hid (Row w a1 l1) := h1
  have H2 : Hid (Row w a2 l2) := h2
  clear h1 h2
  go_enter Tryd.func30, Tryd.ntmps30
  by_cases hlen : l1.length = l2.length
  · rw [hlen]
    go_wp2_with fail
    go_loopg [5] (l1.length + 1) (fun gk v5 wr => ∃ i : Nat, i + 1 = gk ∧ i ≤ l1.length ∧ v5 = .int .i64 ((i : Int) - 1) ∧ l1.drop i = l2.drop i ∧ ∃ k, wr = w.drewN k)
    case atStart => exact ⟨l1.length, rfl, Nat.le_refl _, by rw [hlen], by rw [List.drop_length, hlen, List.drop_length], 0, rfl⟩
    case round =>
      obtain ⟨i, hi, hil, rfl, hd, k, hwr⟩ := hrel
      have HW : Hid (∃ k, wr = w.drewN k) := ⟨k, hwr⟩
      have HD : Hid (l1.drop i = l2.drop i) := hd
      clear hd
      by_cases h0 : 0 < i
      · obtain ⟨b1, o1, rfl, c1⟩ := H1.out (i - 1) (by omega)
        obtain ⟨b2, o2, rfl, c2⟩ := H2.out (i - 1) (by omega)
        have d1 : wr.cell? ⟨b1, o1 + (i - 1), none⟩ = some (I l1[i - 1]) := by rw [hwr]; exact c1
        have d2 : wr.cell? ⟨b2, o2 + (i - 1), none⟩ = some (I l2[i - 1]) := by rw [hwr]; exact c2
        clear c1 c2 hwr
        have HE : Hid (∀ x, x = i - 1 → l1.drop (x + 1) = l2.drop (x + 1)) := fun x hx => by have := HD.out; rw [show x + 1 = i by omega]; exact this
        have t0 : ((i : Int) - 1).toNat = i - 1 := by omega
        have t1 : (0 : Int) ≤ (i : Int) - 1 := by omega
        have t2 : (i : Int) - 1 < (l2.length : Int) := by omega
        have q1 : i - 1 < l1.length := by omega
        have q2 : i - 1 < l2.length := by omega
        have G1 : Hid (l1[i - 1]'q1 < l2[i - 1]'q2 → c = -1) := K1.out (i - 1) q1 q2 (HE.out _ rfl)
        have G2 : Hid (l2[i - 1]'q2 < l1[i - 1]'q1 → c = 1) := K2.out (i - 1) q1 q2 (HE.out _ rfl)
        have G3 : Hid (l1[i - 1]'q1 = l2[i - 1]'q2 → l1.drop (i - 1) = l2.drop (i - 1)) := drop_same_step (l := l1) (r := l2) (i := i - 1) q1 q2 (HE.out _ rfl)
        clear K1 K2 K3 K4 HE HD H1 H2
        generalize l1[i - 1] = x at *
        generalize l2[i - 1] = y at *
        by_cases hxy : x = y
        · subst hxy
          go_wp2_with fail
          go_quiet (fail)
          have d3 : (wr.drewN nq).cell? ⟨b1, o1 + (i - 1), none⟩ = some (I x) := d1
          have d4 : (wr.drewN nq).cell? ⟨b2, o2 + (i - 1), none⟩ = some (I x) := d2
          have HW2 : Hid (∃ k, wr.drewN nq = w.drewN k) := drewN_ex HW.out nq
          clear d1 d2 HW
          generalize wr.drewN nq = wq at *
          go_wp2_with fail
          go_quiet (fail)
          go_wp2_with fail
          go_roundg (gk - 1)
          case measure => omega
          case rel => exact ⟨i - 1, by omega, by omega, by go_num, G3.out (by first | trivial | rfl), drewN_ex HW2.out nq⟩
        · rcases Nat.lt_or_gt_of_ne hxy with h | h
          · have hne : (x : Int) < (y : Int) := by omega
            have hc := G1.out h
            go_wp2_with fail
            go_quiet (fail)
            go_wp2_with fail
            go_ret
            exact ⟨ret_i hc.symm, drewN_ex HW.out nq⟩
          · have hne : ¬ (x : Int) < (y : Int) := by omega
            have hgt : (y : Int) < (x : Int) := by omega
            have hc := G2.out h
            go_wp2_with fail
            go_quiet (fail)
            have d3 : (wr.drewN nq).cell? ⟨b1, o1 + (i - 1), none⟩ = some (I x) := d1
            have d4 : (wr.drewN nq).cell? ⟨b2, o2 + (i - 1), none⟩ = some (I y) := d2
            have HW2 : Hid (∃ k, wr.drewN nq = w.drewN k) := drewN_ex HW.out nq
            clear d1 d2 HW
            generalize wr.drewN nq = wq at *
            go_wp2_with fail
            go_quiet (fail)
            go_wp2_with fail
            go_ret
            exact ⟨ret_i hc.symm, drewN_ex HW2.out nq⟩
      · obtain rfl : i = 0 := by omega
        have hc := K3.out HD.out
        clear hwr
        go_wp2_with fail
        go_ret
        exact ⟨ret_i hc.symm, HW.out⟩
  · have hne : ((l1.length : Int) != (l2.length : Int)) = true := by simp; omega
    have hc := K4.out hlen
    rcases Nat.lt_or_gt_of_ne hlen with h | h
    · have hlt : (l1.length : Int) < (l2.length : Int) := by omega
      rw [cmp3_lt hlt] at hc
      have HC : Hid (-1 = c) := hc
      clear hc
      go_wp2_with fail
      go_ret
      exact ⟨ret_i HC.out, 0, rfl⟩
    · have hlt : ¬ (l1.length : Int) < (l2.length : Int) := by omega
      rw [cmp3_gt (by omega)] at hc
      have HC : Hid (1 = c) := hc
      clear hc
      go_wp2_with fail
      go_ret
      exact ⟨ret_i HC.out, 0, rfl⟩
theorem size_list (s : ByteArray) : s.data.toList.length = s.size := rfl
theorem bt_list (s : ByteArray) (k : Nat) (h : k < s.size) : bt s k = ((s.data.toList[k]'h).toNat : Int) := by unfold bt; rw [dif_pos h]; rfl
theorem allDig_succ (l : List UInt8) (k : Nat) (h : k < l.length) (ha : allDig (l.take k) = true) (hd : 48 ≤ l[k].toNat ∧ l[k].toNat ≤ 57) : allDig (l.take (k + 1)) = true := by
  rw [List.take_succ_eq_append_getElem h]
  simp only [allDig, List.all_append, List.all_cons, List.all_nil, Bool.and_true, Bool.and_eq_true]
  exact ⟨ha, by simp [isDig, hd.1, hd.2]⟩
theorem isNum_bad (l : List UInt8) (k : Nat) (h : k < l.length) (hd : l[k].toNat < 48 ∨ 57 < l[k].toNat) : isNum l = false := by
  have : allDig l = false := by
    cases hx : allDig l with
    | false => rfl
    | true =>
      have := (List.all_eq_true.1 hx) l[k] (List.getElem_mem _)
      simp only [isDig, Bool.and_eq_true, decide_eq_true_eq] at this
      omega
  simp [isNum, this]

theorem isNum_nil {s : ByteArray} (h : s.toList = []) : isNum s.data.toList = false := by rw [← ByteArray.toList_eq, h]; rfl
theorem isNum_zero {s : ByteArray} (h : s.toList = [48]) : isNum s.data.toList = true := by rw [← ByteArray.toList_eq, h]; rfl
theorem isNum_head {s : ByteArray} (ha : allDig s.data.toList = true) (h1 : ¬ s.toList = [48]) (h2 : ¬ s.toList = []) (b : Bool) (hb : (bt s 0 = 48 ∧ b = false) ∨ (bt s 0 ≠ 48 ∧ b = true)) : isNum s.data.toList = b := by
  rw [ByteArray.toList_eq] at h1 h2
  have hpos : 0 < s.size := List.length_pos_iff.2 h2
  have e := bt_list s 0 hpos
  have hh : s.data.toList.head? = some (s.data.toList[0]'hpos) := List.head?_eq_getElem? .. ▸ List.getElem?_eq_getElem hpos
  have e1 : (s.data.toList == [48]) = false := by simp [h1]
  have e2 : (s.data.toList != []) = true := by simp [h2]
  simp only [isNum, ha, e1, e2, hh, Bool.true_and, Bool.false_or]
  rcases hb with ⟨h3, rfl⟩ | ⟨h3, rfl⟩
  · have : s.data.toList[0]'hpos = 48 := UInt8.toNat_inj.1 (by show _ = 48; omega)
    simp [this]
  · have : s.data.toList[0]'hpos ≠ 48 := fun h => h3 (by rw [e, h]; rfl)
    rw [bne_iff_ne]; intro h; exact this (Option.some.inj h)
set_option maxRecDepth 100000 in
set_option maxHeartbeats 4000000 in
theorem is_any (s : ByteArray) (w : World) (hs : s.size ≤ 4611686018427387904) :
    Calls Tryd.prog 29 #[.string s] w fun e w' => e = .returned (.bool (isNum s.data.toList)) ∧ w' = w := by
  have hb := get_bt s
  go_enter Tryd.func29, Tryd.ntmps29
  by_cases h2 : s.toList = []
  · have hz : s.size = 0 := by
      rw [ByteArray.toList_eq] at h2
      rw [← size_list, h2]; rfl
    have HR : Hid (isNum s.data.toList = false) := isNum_nil h2
    clear h2
    go_wp2_with fail
    go_ret
    exact ⟨by rw [HR.out]; rfl, rfl⟩
  have hpos : 0 < s.size := by
    rw [ByteArray.toList_eq] at h2
    exact List.length_pos_iff.2 h2
  have hne : ((s.size : Int) == 0) = false := beq_eq_false_iff_ne.2 (by omega)
  go_wp2_with fail
  go_loop [3] (fun v => ∃ k : Nat, k ≤ s.size ∧ v = .int .i64 k ∧ allDig (s.data.toList.take k) = true) (fun v => s.size - (intOf v).toNat)
  case atStart => exact ⟨0, Nat.zero_le _, rfl, rfl⟩
  case round =>
    obtain ⟨k, hk, rfl, hd⟩ := hrel
    have HD : Hid (allDig (s.data.toList.take k) = true) := hd
    clear hd
    by_cases hlt : k < s.size
    · have kl : (k : Int) < (s.size : Int) := by omega
      have e := bt_list s k hlt
      have HS : Hid (48 ≤ bt s k ∧ bt s k ≤ 57 → allDig (s.data.toList.take (k + 1)) = true) := fun h => allDig_succ _ k hlt HD.out (by omega)
      have HN : Hid (bt s k < 48 ∨ 57 < bt s k → isNum s.data.toList = false) := fun h => isNum_bad _ k hlt (by omega)
      clear e
      have l0 := bt_nonneg s k
      have l1 := bt_le s k
      by_cases hc : bt s k < 48
      · have HR := HN.out (Or.inl hc)
        have HRR : Hid (isNum s.data.toList = false) := HR
        clear HR
        go_wp2_with fail
        go_ret
        exact ⟨by rw [HRR.out]; rfl, rfl⟩
      · by_cases hc2 : 57 < bt s k
        · have HR := HN.out (Or.inr hc2)
          have HRR : Hid (isNum s.data.toList = false) := HR
          clear HR
          go_wp2_with fail
          go_ret
          exact ⟨by rw [HRR.out]; rfl, rfl⟩
        · have HR := HS.out (by omega)
          have HRR : Hid (allDig (s.data.toList.take (k + 1)) = true) := HR
          clear HR
          go_wp2_with fail
          go_round
          case rel => exact ⟨k + 1, by omega, by go_num, HRR.out⟩
          case measure => simp [intOf]; omega
    · obtain rfl : k = s.size := by omega
      have HA : Hid (allDig s.data.toList = true) := by
        have := HD.out
        rw [List.take_of_length_le (by rw [size_list]; omega)] at this
        exact this
      by_cases h1 : s.toList = [48]
      · have HR : Hid (isNum s.data.toList = true) := isNum_zero h1
        have hs1 : s.size = 1 := by
          rw [ByteArray.toList_eq] at h1
          rw [← size_list, h1]; rfl
        have h3 : bt s 0 = 48 := by
          rw [bt_list s 0 hpos]
          have : s.data.toList[0]'hpos = 48 := by
            rw [ByteArray.toList_eq] at h1
            simp [h1]
          rw [this]; rfl
        have h3' : (bt s 0 != 48) = false := by simp [h3]
        clear h1 h2
        go_wp2_with fail
        go_ret
        exact ⟨by rw [HR.out]; simp [h3, hs1], rfl⟩
      · by_cases h3 : bt s 0 = 48
        · have HR : Hid (isNum s.data.toList = false) := isNum_head HA.out h1 h2 false (Or.inl ⟨h3, rfl⟩)
          have hs1 : s.size ≠ 1 := fun h => h1 (by
            rw [ByteArray.toList_eq]
            have hb0 := bt_list s 0 hpos
            have hl : s.data.toList.length = 1 := h
            have e48 : s.data.toList[0]'hpos = 48 := UInt8.toNat_inj.1 (by show _ = 48; omega)
            match hx : s.data.toList, hl with
            | [c], _ => simp only [hx, List.getElem_cons_zero] at e48; rw [e48])
          have h3' : (bt s 0 != 48) = false := by simp [h3]
          have hs1' : ((s.size : Int) == 1) = false := beq_eq_false_iff_ne.2 (by omega)
          clear h1 h2
          go_wp2_with fail
          go_ret
          exact ⟨by rw [HR.out]; simp [h3, hs1], rfl⟩
        · have HR : Hid (isNum s.data.toList = true) := isNum_head HA.out h1 h2 true (Or.inr ⟨h3, rfl⟩)
          have h3' : (bt s 0 != 48) = true := by simp [h3]
          clear h1 h2
          go_wp2_with fail
          go_ret
          exact ⟨by rw [HR.out]; simp [h3], rfl⟩

/-- At a lie these texts. -/
def SRow (w : World) (a : Option Addr) (l : List ByteArray) : Prop := ∀ i (h : i < l.length), ∃ b o, a = some ⟨b, o, none⟩ ∧ w.cell? ⟨b, o + i, none⟩ = some (.string l[i])
theorem dig_at (s : ByteArray) (i : Nat) (h : i < s.size) (ha : allDig s.data.toList = true) : 48 ≤ bt s i ∧ bt s i ≤ 57 := by
  have := (List.all_eq_true.1 ha) (s.data.toList[i]'h) (List.getElem_mem _)
  simp only [isDig, Bool.and_eq_true, decide_eq_true_eq] at this
  rw [bt_list s i h]; omega
/-- A row of the call's own as a number's cells. -/
theorem Row.of_owned {w : World} {base n : Nat} {v : Value} {l : List Nat} {e : TypeId} (h : w.ownsRow base e 1 v n (zs l)) : ∃ a cap, v = .slice a l.length cap ∧ l.length ≤ cap ∧ cap ≤ 9223372036854775807 ∧ Row w a l := by
  obtain ⟨hlen, ⟨rfl, h0⟩ | ⟨g, cap, cur, rfl, hb, hg, hc, hm, hs, ht⟩⟩ := h
  · rw [zs_length, Nat.mul_one] at hlen
    have : l = [] := List.length_eq_zero_iff.1 (by omega)
    subst this
    exact ⟨none, 0, rfl, by simp, by omega, Row.nil _ _⟩
  · rw [zs_length, Nat.mul_one] at hlen
    refine ⟨some ⟨g, 0, none⟩, cap, by rw [hlen], by omega, hm, ?_⟩
    intro i hi
    refine ⟨g, 0, rfl, ?_⟩
    rw [Nat.mul_one] at ht
    have h1 : (zs l)[i]? = some (I l[i]) := by simp [zs, hi]
    rw [← ht, List.getElem?_take, if_pos (by omega)] at h1
    simp only [World.cell?, hg]
    simpa using h1

theorem chars_snoc (l : List Nat) (d : Nat) : chars (l ++ [d]) = UInt8.ofNat (d + 48) :: chars l := by simp [chars]
theorem chars_length (l : List Nat) : (chars l).length = l.length := by simp [chars]
theorem Tryd.info5 : (Tryd.prog.info? 5).map (fun i => (i.zero, i.size, i.bytes)) = some (some (.int .u8 0), 1, 1) := by kernel_rfl
/-- Bytes as the cells hold them. -/
abbrev Yb (x : UInt8) : Value := .int .u8 (x.toNat : Int)
def ys (l : List UInt8) : List Value := l.map Yb
theorem ys_length (l : List UInt8) : (ys l).length = l.length := by simp [ys]
theorem ys_append (l r : List UInt8) : ys (l ++ r) = ys l ++ ys r := by simp [ys]
theorem makeBytes (z : Int) (n : Nat) (hz : z = (n : Int)) (hn : n ≤ 4294967296) (w : World) : (Instr.makeSlice 41 (.int .i64 z) (.int .i64 z)).run Tryd.prog w = .ok (.slice (some ⟨w.heap.size, 0, none⟩) n n) (w.alloc (.cells (ys (List.replicate n 0)).toArray 5)) := by
  subst hz
  have := run_make_row' (P := Tryd.prog) 41 5 (.int .u8 0) 1 Tryd.underlying41 Tryd.info5 rfl .i64 .i64 n (by omega) (by omega) w
  rw [this]
  have e : madeCells #[.int .u8 0] n = (ys (List.replicate n 0)).toArray := by
    apply Array.toList_inj.1
    rw [toList_madeCells_one]
    simp [ys]
  rw [e]
/-- What the bytes are when the digits D were laid, from the end. -/
def laidB (N : Nat) (D : List Nat) : List UInt8 := List.replicate (N - D.length) 0 ++ chars D
theorem laidB_length (N : Nat) (D : List Nat) (h : D.length ≤ N) : (laidB N D).length = N := by simp [laidB, chars_length]; omega
theorem laidB_step (N : Nat) (D : List Nat) (d : Nat) (h : D.length < N) (hd : d < 10) (x : Int) (hx : x = (d : Int) + 48) : (ys (laidB N D)).set (N - D.length - 1) (.int .u8 x) = ys (laidB N (D ++ [d])) := by
  have e1 : List.replicate (N - D.length) (0 : UInt8) = List.replicate (N - (D ++ [d]).length) 0 ++ [0] := by
    rw [show N - D.length = (N - (D ++ [d]).length) + 1 by simp; omega, List.replicate_succ']
  have e2 : N - D.length - 1 = (ys (List.replicate (N - (D ++ [d]).length) (0 : UInt8))).length := by simp [ys]; omega
  have e3 : Value.int .u8 x = Yb (UInt8.ofNat (d + 48)) := by
    rw [Yb, UInt8.toNat_ofNat', hx]
    congr 1
    omega
  unfold laidB
  rw [e1, e2, e3, chars_snoc, ys_append, ys_append, ys_append, List.append_assoc, List.set_append_right _ _ (Nat.le_refl _), Nat.sub_self]
  rfl
theorem Tryd.info3 : (Tryd.prog.info? 3).map (fun i => (i.zero, i.size, i.bytes)) = some (some (.int .i64 0), 1, 8) := by kernel_rfl
theorem ten : 2 ≤ 10 := by omega
theorem dl_take_succ (s : ByteArray) (k : Nat) (h : k < s.size) (hd : 48 ≤ bt s (s.size - 1 - k)) : (dl s.data.toList).take (k + 1) = (dl s.data.toList).take k ++ [(bt s (s.size - 1 - k) - 48).toNat] := by
  have hl : k < (dl s.data.toList).length := by rw [dl_length, size_list]; exact h
  rw [List.take_succ_eq_append_getElem hl]
  congr 2
  have hb := bt_list s (s.size - 1 - k) (by omega)
  have hx : (dl s.data.toList)[k] = (s.data.toList[s.size - 1 - k]'(by rw [size_list]; omega)).toNat - 48 := by
    simp only [dl, List.getElem_map, List.getElem_reverse, size_list]
  rw [hx]
  omega

set_option maxRecDepth 100000 in
set_option maxHeartbeats 4000000 in
theorem refRead_any (s : ByteArray) (w : World) (ha : allDig s.data.toList = true) (hs : s.size ≤ 4000000) :
    Calls Tryd.prog 31 #[.string s] w fun e w' => (∃ v, e = .returned v ∧ NumV w' 10 (bv s.data.toList) v) ∧ Below w.heap.size w w' := by
  have hb := get_bt s
  have HA : Hid (allDig s.data.toList = true) := ha
  have HL : Hid (∀ d ∈ dl s.data.toList, d < 10) := dl_lt _ ha
  have HDl : Hid ((dl s.data.toList).length = s.size) := by show _ = _; rw [dl_length, size_list]
  clear ha
  obtain ⟨i0, hi0, hz0, hz1, hz2⟩ := info_parts Tryd.info3
  go_enter Tryd.func31, Tryd.ntmps31
  go_wp2_with fail
  go_loopg [3, 4] (s.size + 1) (fun gk v3 v4 wr => ∃ (k : Nat) (v : Value), k + gk = s.size + 1 ∧ v = v3 ∧ v4 = .int .i64 ((s.size : Int) - 1 - (k : Int)) ∧ k ≤ s.size ∧ wr.ownsRow w.heap.size 3 1 v k (zs ((dl s.data.toList).take k)) ∧ Below w.heap.size w wr)
  case atStart => exact ⟨0, _, by omega, rfl, by simp, Nat.zero_le _, World.ownsRow_nil _ _ _ _, Below.refl _ _⟩
  case round =>
    obtain ⟨k, v, hk, rfl, rfl, hks, ho, hB⟩ := hrel
    have HO : Hid (wr.ownsRow w.heap.size 3 1 v k (zs ((dl s.data.toList).take k))) := ho
    have HB : Hid (Below w.heap.size w wr) := hB
    clear ho hB
    by_cases hlt : k < s.size
    · obtain ⟨p, hp⟩ : ∃ p, p = s.size - 1 - k := ⟨_, rfl⟩
      have hpi : (s.size : Int) - 1 - (k : Int) = (p : Int) := by omega
      have hps : p < s.size := by omega
      have hps' : (p : Int) < (s.size : Int) := by omega
      obtain ⟨d1, d2⟩ := dig_at s p hps HA.out
      have HST : Hid ((dl s.data.toList).take (k + 1) = (dl s.data.toList).take k ++ [(bt s p - 48).toNat]) := by show _ = _; rw [hp]; exact dl_take_succ s k hlt (by rw [← hp]; exact d1)
      have HPK : Hid (p = s.size - 1 - k) := hp
      rw [hpi]
      clear hp
      obtain ⟨X, hX⟩ : ∃ X : Nat, X = (bt s p - 48).toNat := ⟨_, rfl⟩
      have hXi : bt s p - 48 = (X : Int) := by omega
      have hX9 : X ≤ 9 := by omega
      rw [← hX] at HST
      clear hX
      generalize (dl s.data.toList).take k = L at *
      have HO2 : Hid ((wr.alloc (.cells #[.int .i64 (X : Int)] 3)).ownsRow w.heap.size 3 1 v k (zs L)) := HO.out.alloc _
      have HC2 : Hid (∀ j u, [I X][j]? = some u → (wr.alloc (.cells #[.int .i64 (X : Int)] 3)).cell? ((⟨wr.heap.size, 0, none⟩ : Addr).add j) = some u) := fun j u hu => by
        match j, hu with
        | 0, hu => simp at hu; subst hu; simp [Addr.add]
      have HB2 : Hid (Below w.heap.size w (wr.alloc (.cells #[.int .i64 (X : Int)] 3))) := HB.out.alloc HB.out.size _
      go_wp2_with (at_builtin; refine wpList_append_own _ rfl (.tmp 12) (.tmp 18) 55 rfl w.heap.size 3 i0 (.int .i64 0) 1 8 Tryd.underlying55 hi0 hz0 hz1 hz2 rfl (by decide) v k (zs L) rfl HO2.out ⟨wr.heap.size, 0, none⟩ 1 1 [I X] rfl rfl HC2.out (fun u hu => by simp at hu; subst hu; rfl) (by unfold maxLen; omega) (by omega) HB2.out.size ?_; intro v1 w1 hown1 hgrow1 hn1; have HO3 : Hid (w1.ownsRow w.heap.size 3 1 v1 (k + 1) (zs L ++ [I X])) := hown1; have HG3 : Hid (Below w.heap.size w w1) := HB2.out.grown hgrow1 HB2.out.size (fun k hk => (HO2.out.lt k hk).1); clear hown1 hgrow1 hn1)
      go_roundg (gk - 1)
      case measure => omega
      case rel =>
        refine ⟨k + 1, _, by omega, rfl, ?_, by omega, ?_, HG3.out⟩
        · have := HPK.out; go_num
        · rw [HST.out, zs_append]; exact HO3.out
    · obtain rfl : k = s.size := by omega
      have hz : ¬ (0 : Int) ≤ (s.size : Int) - 1 - (s.size : Int) := by omega
      have ho := HO.out
      rw [List.take_of_length_le (by rw [HDl.out]; exact Nat.le_refl _)] at ho
      obtain ⟨a, cap, rfl, h1, h2, h3⟩ := Row.of_owned ho
      have HR : Hid (Row wr a (dl s.data.toList)) := h3
      have HV2 : Hid (vl 10 (dl s.data.toList) = bv s.data.toList) := vl_dl _
      clear h3 ho
      generalize dl s.data.toList = D at *
      go_wp2_with fail
      refine (trim_any 10 ten wr a D cap HR.out h1 HL.out h2).mono ?_
      rintro e W3 ⟨⟨v, rfl, hv⟩, rfl⟩
      rw [HV2.out] at hv
      have HVV : Hid (NumV W3 10 (bv s.data.toList) v) := hv
      clear hv
      go_wp2_with fail
      go_ret
      exact ⟨⟨_, rfl, HVV.out⟩, HB.out⟩

set_option maxRecDepth 100000 in
set_option maxHeartbeats 4000000 in
theorem refText_any (w : World) (a : Option Addr) (cap n : Nat) (h : Row w a (dg 10 n)) (b : (dg 10 n).length ≤ 4000000) :
    Calls Tryd.prog 27 #[.slice a (dg 10 n).length cap] w fun e w' => e = .returned (.string ⟨(txt n).toArray⟩) ∧ Below w.heap.size w w' := by
  have HD : Hid (∀ d ∈ dg 10 n, d < 10) := dg_mem ten n
  have HT : Hid ((dg 10 n).length ≠ 0 → chars (dg 10 n) = txt n) := fun h => by
    have : n ≠ 0 := fun e => h ((dg_length_zero ten).2 e)
    rw [txt, if_neg this]
  have HT0 : Hid ((dg 10 n).length = 0 → txt n = [48]) := fun h => by
    have : n = 0 := (dg_length_zero ten).1 h
    subst this; rfl
  generalize txt n = X at *
  generalize dg 10 n = l at *
  have HR : Hid (Row w a l) := h
  clear h
  by_cases h0 : l.length = 0
  · have hX := HT0.out h0
    subst hX
    have h0' : ((l.length : Int) == 0) = true := by simp [h0]
    go_enter Tryd.func27, Tryd.ntmps27
    go_wp2_with fail
    go_ret
    exact ⟨rfl, Below.refl _ _⟩
  · have hX : Hid (chars l = X) := HT.out h0
    have h0' : ((l.length : Int) == 0) = false := beq_eq_false_iff_ne.2 (by omega)
    obtain ⟨N, hN, hmk⟩ : ∃ N : Nat, N = l.length ∧ ∀ w, (Instr.makeSlice 41 (.int .i64 (l.length : Int)) (.int .i64 (l.length : Int))).run Tryd.prog w = .ok (.slice (some ⟨w.heap.size, 0, none⟩) N N) (w.alloc (.cells (ys (List.replicate N 0)).toArray 5)) :=
      ⟨l.length, rfl, fun w => makeBytes _ _ rfl (by omega) w⟩
    have HN : Hid (N = l.length) := hN
    have hN2 : N ≤ 4000000 := by omega
    clear hN h0
    go_enter Tryd.func27, Tryd.ntmps27
    go_wp2_with fail
    have q1 : Hid (IHolds (w.alloc (.cells (ys (List.replicate N 0)).toArray 5)) w.heap.size 5 (ys (laidB N []))) := by
      show IHolds _ _ _ _
      have : laidB N [] = List.replicate N 0 := by simp [laidB, chars]
      rw [this]; exact IHolds.new w 5 _
    have q2 : Hid (Below w.heap.size w (w.alloc (.cells (ys (List.replicate N 0)).toArray 5))) := (Below.refl _ w).alloc (Nat.le_refl _) _
    clear hmk
    generalize w.alloc (.cells (ys (List.replicate N 0)).toArray 5) = W0 at *
    go_loopg [4] l.length (fun gk v4 wr => ∃ i : Nat, i + gk = l.length ∧ v4 = .int .i64 (i : Int) ∧ IHolds wr w.heap.size 5 (ys (laidB N (l.take i))) ∧ Below w.heap.size w wr)
    case atStart => exact ⟨0, by omega, rfl, q1.out, q2.out⟩
    case round =>
      obtain ⟨i, hi, rfl, hI, hB⟩ := hrel
      clear q1 q2
      by_cases hlt : i < l.length
      · have il : (i : Int) < (l.length : Int) := by omega
        have hNe := HN.out
        obtain ⟨k2, o2, rfl, c2⟩ := HR.out.of_below hB i hlt
        have hu : l[i] < 10 := HD.out _ (List.getElem_mem _)
        have hlen : (l.take i).length = i := by rw [List.length_take]; omega
        have hsucc : l.take (i + 1) = l.take i ++ [l[i]] := List.take_succ_eq_append_getElem hlt
        obtain ⟨p, hp⟩ : ∃ p, p = N - i - 1 := ⟨_, rfl⟩
        have hpi : (l.length : Int) - 1 - (i : Int) = (p : Int) := by omega
        have hpN : p < N := by omega
        have hpN' : (p : Int) < (N : Int) := by omega
        have hcl : (ys (laidB N (l.take i))).length = N := by rw [ys_length, laidB_length N _ (by omega)]
        have hc0 : wr.cell? ⟨w.heap.size, p, none⟩ = some ((ys (laidB N (l.take i)))[p]'(by omega)) := hI.cell p (by omega)
        have hf0 : wr.frozen? ⟨w.heap.size, p, none⟩ = false := hI.frozen p
        have HS2 : Hid (IHolds (wr.setCell ⟨w.heap.size, p, none⟩ (.int .u8 ((l[i] : Int) + 48))) w.heap.size 5 (ys (laidB N (l.take (i + 1))))) := by
          have h1 := hI.set p (.int .u8 ((l[i] : Int) + 48))
          have h2 := laidB_step N (l.take i) l[i] (by omega) hu ((l[i] : Int) + 48) rfl
          rw [hlen] at h2
          rw [hp, h2, ← hp, ← hsucc] at h1
          exact h1
        have HB2 : Hid (Below w.heap.size w (wr.setCell ⟨w.heap.size, p, none⟩ (.int .u8 ((l[i] : Int) + 48)))) := hB.setCell (Nat.le_refl _) _
        generalize (ys (laidB N (l.take i)))[p]'(by omega) = old at *
        clear hI hB hcl hp hlen hsucc hNe
        generalize l[i] = u at *
        go_wp2_with fail
        go_roundg (gk - 1)
        case measure => omega
        case rel => exact ⟨i + 1, by omega, by go_num, HS2.out, HB2.out⟩
      · obtain rfl : i = l.length := by omega
        have HB : Hid (Below w.heap.size w wr) := hB
        have hNe := HN.out
        rw [List.take_length] at hI
        have hlb : laidB N l = X := by
          unfold laidB
          rw [hNe, Nat.sub_self, hX.out]; rfl
        have hcl : X.length = N := by rw [← hX.out, chars_length]; omega
        have hcv := run_convert_bytes_arg (P := Tryd.prog) wr 41 5 Tryd.underlying41 Tryd.underlying5 w.heap.size 0 N N (X.map fun x => (x.toNat : Int)) (by simpa using hcl) (fun k hk => by
          have := hI
          rw [hlb] at this
          rw [Nat.zero_add, this.cell k (by rw [ys_length]; omega)]
          simp [ys, List.getElem?_eq_getElem (show k < X.length by omega)]) 9 Tryd.underlying9
        rw [Lib.Lz.strOfNums_map] at hcv
        clear hI hB hlb hcl hNe
        go_wp2_with fail
        go_ret
        exact ⟨rfl, HB.out⟩
/-- The sum when i digits were gone through. -/
structure Sums (a b : List Nat) (i : Nat) (D : List Nat) (up : Nat) : Prop where
  len : D.length = i
  low : ∀ d ∈ D, d < 10
  up1 : up ≤ 1
  eq : vl 10 D + 10 ^ i * up = vl 10 (a.take i) + vl 10 (b.take i)
  big : i = 0 ∨ 10 ^ (i - 1) ≤ vl 10 a + vl 10 b
theorem Sums.zero (a b : List Nat) : Sums a b 0 [] 0 := ⟨rfl, (fun d h => by cases h), by omega, by simp [vl], Or.inl rfl⟩
/-- The difference when i digits were gone through. -/
structure Diffs (a b : List Nat) (i : Nat) (D : List Nat) (down : Nat) : Prop where
  len : D.length = i
  low : ∀ d ∈ D, d < 10
  d1 : down ≤ 1
  eq : vl 10 (a.take i) + 10 ^ i * down = vl 10 D + vl 10 (b.take i)
theorem Diffs.zero (a b : List Nat) : Diffs a b 0 [] 0 := ⟨rfl, (fun d h => by cases h), by omega, by simp [vl]⟩
/-- A row of the product: j digits of b times the digit u, laid upon P at i. -/
structure Mulr (b : List Nat) (P0 : List Nat) (i u j : Nat) (P : List Nat) (up : Nat) : Prop where
  len : P.length = P0.length
  low : ∀ d ∈ P, d < 10
  up9 : up ≤ 9
  eq : vl 10 P + 10 ^ (i + j) * up = vl 10 P0 + 10 ^ i * u * vl 10 (b.take j)
  tail : ∀ t, i + b.length ≤ t → P.getD t 0 = P0.getD t 0
theorem Mulr.zero (b P0 : List Nat) (i u : Nat) (h : ∀ d ∈ P0, d < 10) : Mulr b P0 i u 0 P0 0 := ⟨rfl, h, by omega, by simp [vl], fun _ _ => rfl⟩
theorem NumV.of_owned {w : World} {base B n : Nat} {v : Value} {e : TypeId} {k : Nat} (h : w.ownsRow base e 1 v k (zs (dg B n))) : NumV w B n v := by
  obtain ⟨a, cap, h1, h2, h3, h4⟩ := Row.of_owned h
  exact ⟨a, cap, h1, h2, h4⟩

set_option maxRecDepth 100000 in
set_option maxHeartbeats 4000000 in
theorem refOf_any (w : World) (n : Nat) (hn : n ≤ 9000000000000) :
    Calls Tryd.prog 28 #[.int .i64 (n : Int)] w fun e w' => (∃ v, e = .returned v ∧ NumV w' 10 n v) ∧ Below w.heap.size w w' := by
  obtain ⟨i0, hi0, hz0, hz1, hz2⟩ := info_parts Tryd.info3
  have LN : (dg 10 n).length ≤ 13 := dg_len_le ten 13 n (by omega)
  go_enter Tryd.func28, Tryd.ntmps28
  go_wp2_with fail
  go_loopg [0, 3] n (fun gk v0 v3 wr => ∃ (D : List Nat) (v : Value), v0 = .int .i64 (gk : Int) ∧ v = v3 ∧ gk ≤ 9000000000000 ∧ D ++ dg 10 gk = dg 10 n ∧ wr.ownsRow w.heap.size 3 1 v D.length (zs D) ∧ Below w.heap.size w wr)
  case atStart => exact ⟨[], _, rfl, rfl, hn, rfl, World.ownsRow_nil _ _ _ _, Below.refl _ _⟩
  case round =>
    obtain ⟨D, v, rfl, rfl, hk, hD, ho, hB⟩ := hrel
    have HDD : Hid (D ++ dg 10 gk = dg 10 n) := hD
    have HO : Hid (wr.ownsRow w.heap.size 3 1 v D.length (zs D)) := ho
    have HB : Hid (Below w.heap.size w wr) := hB
    have HL : D.length ≤ 13 := by
      have := congrArg List.length hD
      rw [List.length_append] at this
      omega
    clear hD ho hB
    generalize gk = x at *
    by_cases h0 : x = 0
    · subst h0
      have hDe : D = dg 10 n := by
        have := HDD.out
        rw [dg_zero, List.append_nil] at this
        exact this
      have HR : Hid (NumV wr 10 n v) := by
        obtain ⟨a, cap, e1, g1, g2, g3⟩ := Row.of_owned HO.out
        rw [hDe] at e1 g1 g3
        exact ⟨a, cap, e1, g1, g3⟩
      clear HDD HO hDe
      go_wp2_with fail
      go_ret
      exact ⟨⟨_, rfl, HR.out⟩, HB.out⟩
    · have hx0 : (0 : Int) < (x : Int) := by omega
      have HE : Hid (D ++ [x % 10] ++ dg 10 (x / 10) = dg 10 n) := by
        show _ = _
        rw [← HDD.out, dg_pos ten h0, List.append_assoc]; rfl
      have HM : Hid (x / 10 < x) := Nat.div_lt_self (by omega) (by omega)
      have HK : Hid (x / 10 ≤ 9000000000000) := by show _ ≤ _; omega
      have kr : (x : Int).tmod 10 = ((x % 10 : Nat) : Int) := by rw [Int.tmod_eq_emod_of_nonneg (by omega)]; omega
      have kr2 : (x : Int) % 10 = ((x % 10 : Nat) : Int) := by omega
      have kq : (x : Int) / 10 = ((x / 10 : Nat) : Int) := by omega
      have kq2 : (x : Int).tdiv 10 = ((x / 10 : Nat) : Int) := by rw [Int.tdiv_eq_ediv_of_nonneg (by omega)]; omega
      have y10 : x % 10 < 10 := by omega
      have q10 : x / 10 ≤ 9000000000000 := by omega
      generalize x % 10 = y at *
      generalize x / 10 = q at *
      have HO2 : Hid ((wr.alloc (.cells #[.int .i64 (y : Int)] 3)).ownsRow w.heap.size 3 1 v D.length (zs D)) := HO.out.alloc _
      have HC2 : Hid (∀ jj u, [I y][jj]? = some u → (wr.alloc (.cells #[.int .i64 (y : Int)] 3)).cell? ((⟨wr.heap.size, 0, none⟩ : Addr).add jj) = some u) := fun jj u hu => by
        match jj, hu with
        | 0, hu => simp at hu; subst hu; simp [Addr.add]
      have HB2 : Hid (Below w.heap.size w (wr.alloc (.cells #[.int .i64 (y : Int)] 3))) := HB.out.alloc HB.out.size _
      clear HDD
      go_wp2_with (at_builtin; refine wpList_append_own _ rfl (.tmp 6) (.tmp 9) 55 rfl w.heap.size 3 i0 (.int .i64 0) 1 8 Tryd.underlying55 hi0 hz0 hz1 hz2 rfl (by decide) v D.length (zs D) rfl HO2.out ⟨wr.heap.size, 0, none⟩ 1 1 [I y] rfl rfl HC2.out (fun u hu => by simp at hu; subst hu; rfl) (by unfold maxLen; omega) (by omega) HB2.out.size ?_; intro v1 w1 hown1 hgrow1 hn1; have HO3 : Hid (w1.ownsRow w.heap.size 3 1 v1 (D.length + 1) (zs D ++ [I y])) := hown1; have HG3 : Hid (Below w.heap.size w w1) := HB2.out.grown hgrow1 HB2.out.size (fun k hk => (HO2.out.lt k hk).1); clear hown1 hgrow1 hn1)
      go_roundg q
      case measure => exact HM.out
      case rel => exact ⟨D ++ [y], _, by go_num, rfl, HK.out, HE.out, by rw [zs_append, List.length_append]; exact HO3.out, HG3.out⟩
/-- The text of a number. -/
def T (n : Nat) : ByteArray := ⟨(txt n).toArray⟩
theorem T_list (n : Nat) : (T n).data.toList = txt n := by simp [T]
theorem T_size (n : Nat) : (T n).size = (txt n).length := by rw [← size_list, T_list]
theorem T_bv (n : Nat) : bv (T n).data.toList = n := by rw [T_list, bv_txt]
/-- A row of texts that was just made. -/
theorem SRow.new (w : World) (t : TypeId) (ps : List ByteArray) : SRow (w.alloc (.cells (ps.map Value.string).toArray t)) (some ⟨w.heap.size, 0, none⟩) ps := by
  intro i hi
  refine ⟨w.heap.size, 0, rfl, ?_⟩
  have h0 : (w.alloc (.cells (ps.map Value.string).toArray t)).heap[w.heap.size]? = some (.cells (ps.map Value.string).toArray t) := by
    show (w.heap.push _)[w.heap.size]? = _
    simp
  generalize w.alloc (.cells (ps.map Value.string).toArray t) = W at *
  generalize w.heap.size = g at *
  simp [World.cell?, h0, hi]


end Go.Proofs.YtlogilmeefcipaaDoor
