/- Numbers as rows of digits; the reference's trim and Times. -/
import Derived.WalkKit
import Derived.WalkSpells
import Derived.WalkLawsBesides
import Derived.Handy
import Derived.Deep.Draws
import Derived.Deep.MidRow
import Derived.Deep.QuietTactic
import Derived.BigQuiet
import Derived.Deep.LoopGhost
import Derived.Laws.IdiomCopy
import Derived.Deep.OwnRows
import Derived.PlainAid
import Derived.Deep.RegionWith
import Derived.Laws.BytesArg
import Derived.Lib.LazyBuf
import Derived.Test.YtohpbclofcflaaaGreatProg
set_option linter.unusedSimpArgs false
set_option linter.unusedVariables false
namespace Go.Proofs.YtohpbclofcflaaaGreat
open Go.RowKit Go.Deep Go.PlainAid

theorem b16 : 2 ≤ 65536 := by omega
/-- What a list of digits is worth. -/
def vl (B : Nat) : List Nat → Nat
  | [] => 0
  | d :: r => d + B * vl B r
theorem vl_append (B : Nat) : ∀ l r : List Nat, vl B (l ++ r) = vl B l + B ^ l.length * vl B r
  | [], r => by simp [vl]
  | d :: l, r => by
    have := vl_append B l r
    simp only [List.cons_append, vl, this, List.length_cons]
    grind
theorem vl_snoc (B : Nat) (l : List Nat) (d : Nat) : vl B (l ++ [d]) = vl B l + B ^ l.length * d := by
  rw [vl_append]; simp [vl]
theorem vl_lt (B : Nat) : ∀ l : List Nat, (∀ d ∈ l, d < B) → vl B l < B ^ l.length
  | [], _ => by simp [vl]
  | d :: l, h => by
    have h1 := vl_lt B l (fun x hx => h x (by simp [hx]))
    have h2 := h d (by simp)
    simp only [vl, List.length_cons]
    have h3 : B * (vl B l + 1) ≤ B * B ^ l.length := Nat.mul_le_mul_left _ h1
    have h4 : B ^ (l.length + 1) = B * B ^ l.length := by grind
    rw [h4]
    have h5 : B * (vl B l + 1) = B * vl B l + B := by grind
    omega
theorem vl_zeros (B : Nat) (k : Nat) : vl B (List.replicate k 0) = 0 := by
  induction k with
  | zero => rfl
  | succ k ih => simp [List.replicate_succ, vl, ih]
theorem vl_append_zeros (B : Nat) (l : List Nat) (k : Nat) : vl B (l ++ List.replicate k 0) = vl B l := by
  rw [vl_append, vl_zeros]; simp
/-- The digits of a number. -/
def dg (B n : Nat) : List Nat := if h : n = 0 ∨ B < 2 then [] else n % B :: dg B (n / B)
termination_by n
decreasing_by exact Nat.div_lt_self (by omega) (by omega)
theorem dg_zero (B : Nat) : dg B 0 = [] := by rw [dg]; simp
theorem dg_pos {B n : Nat} (hB : 2 ≤ B) (hn : n ≠ 0) : dg B n = n % B :: dg B (n / B) := by
  rw [dg, dif_neg (by omega)]
theorem dg_eq_nil {B n : Nat} (hB : 2 ≤ B) : dg B n = [] ↔ n = 0 := by
  constructor
  · intro h
    by_cases h0 : n = 0
    · exact h0
    · rw [dg_pos hB h0] at h; cases h
  · rintro rfl; exact dg_zero B
theorem dg_length_zero {B n : Nat} (hB : 2 ≤ B) : (dg B n).length = 0 ↔ n = 0 := by
  rw [List.length_eq_zero_iff, dg_eq_nil hB]
theorem vl_dg {B : Nat} (hB : 2 ≤ B) (n : Nat) : vl B (dg B n) = n := by
  induction n using Nat.strongRecOn with
  | _ n ih =>
    by_cases h0 : n = 0
    · subst h0; rw [dg_zero]; rfl
    · rw [dg_pos hB h0, vl, ih (n / B) (Nat.div_lt_self (by omega) (by omega))]
      exact Nat.mod_add_div n B
theorem dg_mem {B : Nat} (hB : 2 ≤ B) (n : Nat) : ∀ d ∈ dg B n, d < B := by
  induction n using Nat.strongRecOn with
  | _ n ih =>
    by_cases h0 : n = 0
    · subst h0; rw [dg_zero]; intro d hd; cases hd
    · rw [dg_pos hB h0]
      intro d hd
      rcases List.mem_cons.1 hd with rfl | hd
      · exact Nat.mod_lt _ (by omega)
      · exact ih (n / B) (Nat.div_lt_self (by omega) (by omega)) d hd
/-- The top digit is not 0. -/
def Topped (l : List Nat) : Prop := l = [] ∨ l.getD (l.length - 1) 0 ≠ 0
theorem dg_vl {B : Nat} (hB : 2 ≤ B) : ∀ l : List Nat, (∀ d ∈ l, d < B) → Topped l → dg B (vl B l) = l
  | [], _, _ => dg_zero B
  | d :: l, h, ht => by
    have hd := h d (by simp)
    have hl : ∀ x ∈ l, x < B := fun x hx => h x (by simp [hx])
    rcases ht with ht | ht
    · cases ht
    · by_cases hn : l = []
      · subst hn
        simp at ht
        have : vl B [d] = d := by simp [vl]
        rw [this, dg_pos hB ht, Nat.mod_eq_of_lt hd, Nat.div_eq_of_lt hd, dg_zero]
      · have hpos : 0 < l.length := List.length_pos_iff.2 hn
        have ht2 : Topped l := Or.inr (by
          have e : (d :: l).length - 1 = (l.length - 1) + 1 := by simp; omega
          rw [e, List.getD_cons_succ] at ht
          exact ht)
        have ih := dg_vl hB l hl ht2
        have hv : vl B l ≠ 0 := fun h0 => by rw [h0, dg_zero] at ih; exact hn ih.symm
        have hv2 : vl B (d :: l) ≠ 0 := by
          simp only [vl]
          have : 0 < B * vl B l := Nat.mul_pos (by omega) (by omega)
          omega
        rw [dg_pos hB hv2]
        simp only [vl]
        rw [Nat.add_mul_mod_self_left, Nat.mod_eq_of_lt hd, Nat.add_mul_div_left _ _ (by omega), Nat.div_eq_of_lt hd, Nat.zero_add, ih]
theorem dg_topped {B : Nat} (hB : 2 ≤ B) (n : Nat) : Topped (dg B n) := by
  induction n using Nat.strongRecOn with
  | _ n ih =>
    by_cases h0 : n = 0
    · subst h0; exact Or.inl (dg_zero B)
    · refine Or.inr ?_
      rw [dg_pos hB h0]
      rcases ih (n / B) (Nat.div_lt_self (by omega) (by omega)) with h | h
      · rw [h]
        have : n / B = 0 := (dg_eq_nil hB).1 h
        have hlt : n < B := (Nat.div_eq_zero_iff_lt (by omega)).1 this
        simp [Nat.mod_eq_of_lt hlt, h0]
      · by_cases hn : dg B (n / B) = []
        · rw [hn] at h; simp at h
        · have hpos : 0 < (dg B (n / B)).length := List.length_pos_iff.2 hn
          have e : (n % B :: dg B (n / B)).length - 1 = ((dg B (n / B)).length - 1) + 1 := by simp; omega
          rw [e, List.getD_cons_succ]
          exact h
theorem lt_pow_dg {B : Nat} (hB : 2 ≤ B) (n : Nat) : n < B ^ (dg B n).length := by
  have := vl_lt B (dg B n) (dg_mem hB n)
  rwa [vl_dg hB] at this
theorem dg_len_le {B : Nat} (hB : 2 ≤ B) : ∀ (k n : Nat), n < B ^ k → (dg B n).length ≤ k
  | 0, n, h => by simp at h; subst h; simp [dg_zero]
  | k + 1, n, h => by
    by_cases h0 : n = 0
    · subst h0; simp [dg_zero]
    · rw [dg_pos hB h0, List.length_cons]
      have : n / B < B ^ k := by
        rw [Nat.div_lt_iff_lt_mul (by omega)]
        have : B ^ (k + 1) = B ^ k * B := by grind
        omega
      have := dg_len_le hB k (n / B) this
      omega
theorem pow_le_of_len {B : Nat} (hB : 2 ≤ B) : ∀ (k n : Nat), k < (dg B n).length → B ^ k ≤ n := by
  intro k n h
  by_cases hc : B ^ k ≤ n
  · exact hc
  · have := dg_len_le hB k n (by omega)
    omega
theorem dg_len_mono {B : Nat} (hB : 2 ≤ B) {n m : Nat} (h : n ≤ m) : (dg B n).length ≤ (dg B m).length :=
  dg_len_le hB _ _ (Nat.lt_of_le_of_lt h (lt_pow_dg hB m))
theorem lt_of_len_lt {B : Nat} (hB : 2 ≤ B) {n m : Nat} (h : (dg B n).length < (dg B m).length) : n < m := by
  by_cases hc : n < m
  · exact hc
  · have := dg_len_mono hB (show m ≤ n by omega)
    omega
theorem dg_inj {B : Nat} (hB : 2 ≤ B) {n m : Nat} (h : dg B n = dg B m) : n = m := by
  rw [← vl_dg hB n, h, vl_dg hB m]
/-- A list of digits, without what is 0 at its top. -/
theorem dg_of_vl {B : Nat} (hB : 2 ≤ B) (l : List Nat) (n : Nat) (hl : ∀ d ∈ l, d < B) (hv : vl B l = n) (ht : Topped l) : l = dg B n := by
  rw [← hv, dg_vl hB l hl ht]
/-- Two lists that part at i, and are the same above it. -/
theorem vl_part {B : Nat} (l r : List Nat) (i : Nat) (hl : ∀ d ∈ l, d < B) (hi : i < l.length) (hi' : i < r.length) (he : l.drop (i + 1) = r.drop (i + 1)) (hlt : l[i] < r[i]) : vl B l < vl B r := by
  have e1 : l = l.take i ++ (l[i] :: l.drop (i + 1)) := by rw [← List.drop_eq_getElem_cons hi, List.take_append_drop]
  have e2 : r = r.take i ++ (r[i] :: r.drop (i + 1)) := by rw [← List.drop_eq_getElem_cons hi', List.take_append_drop]
  have h1 := vl_lt B (l.take i) (fun d hd => hl d (List.mem_of_mem_take hd))
  have h2 : vl B l = vl B (l.take i) + B ^ i * (l[i] + B * vl B (l.drop (i + 1))) := by
    have := vl_append B (l.take i) (l[i] :: l.drop (i + 1))
    rw [← e1] at this
    rw [this, List.length_take, Nat.min_eq_left (by omega)]; rfl
  have h3 : vl B r = vl B (r.take i) + B ^ i * (r[i] + B * vl B (r.drop (i + 1))) := by
    have := vl_append B (r.take i) (r[i] :: r.drop (i + 1))
    rw [← e2] at this
    rw [this, List.length_take, Nat.min_eq_left (by omega)]; rfl
  rw [List.length_take, Nat.min_eq_left (by omega)] at h1
  rw [h2, h3, he]
  generalize B * vl B (r.drop (i + 1)) = Q
  have h4 : B ^ i * (l[i] + Q + 1) ≤ B ^ i * (r[i] + Q) := Nat.mul_le_mul_left _ (by omega)
  have h5 : B ^ i * (l[i] + Q + 1) = B ^ i * (l[i] + Q) + B ^ i := by grind
  omega
/-- A number of the program's own as it holds it. -/
abbrev I (x : Nat) : Value := .int .i64 (x : Int)
/-- At a lie these numbers. -/
def Row (w : World) (a : Option Addr) (l : List Nat) : Prop := ∀ i (h : i < l.length), ∃ b o, a = some ⟨b, o, none⟩ ∧ w.cell? ⟨b, o + i, none⟩ = some (I l[i])
theorem Row.nil (w : World) (a : Option Addr) : Row w a [] := fun i h => by cases h
theorem Row.of_below {w w' : World} {a : Option Addr} {l : List Nat} (h : Row w a l) (hb : Below w.heap.size w w') : Row w' a l := by
  intro i hi
  obtain ⟨b, o, ha, hc⟩ := h i hi
  exact ⟨b, o, ha, by rw [hb.cell (World.block_lt_of_cell? _ _ hc)]; exact hc⟩
theorem Row.take {w : World} {a : Option Addr} {l : List Nat} (h : Row w a l) (k : Nat) : Row w a (l.take k) := by
  intro i hi
  rw [List.length_take] at hi
  obtain ⟨b, o, ha, hc⟩ := h i (by omega)
  exact ⟨b, o, ha, by rw [List.getElem_take]; exact hc⟩
theorem Row.drew {w : World} {a : Option Addr} {l : List Nat} (h : Row w a l) (n : Nat) : Row (w.drewN n) a l := h
/-- A value that is the number n to the base B. -/
def NumV (w : World) (B n : Nat) (v : Value) : Prop := ∃ a cap, v = .slice a (dg B n).length cap ∧ (dg B n).length ≤ cap ∧ Row w a (dg B n)
theorem NumV.of_below {w w' : World} {B n : Nat} {v : Value} (h : NumV w B n v) (hb : Below w.heap.size w w') : NumV w' B n v := by
  obtain ⟨a, cap, h1, h2, h3⟩ := h
  exact ⟨a, cap, h1, h2, h3.of_below hb⟩
theorem trim_step {B : Nat} {l : List Nat} {k : Nat} (hk : 0 < k) (hl : k ≤ l.length) (hv : vl B (l.take k) = vl B l) (h0 : l[k - 1] = 0) : vl B (l.take (k - 1)) = vl B l := by
  have e : l.take k = l.take (k - 1) ++ [l[k - 1]] := by
    have := List.take_succ_eq_append_getElem (show k - 1 < l.length by omega)
    rwa [show k - 1 + 1 = k by omega] at this
  rw [← hv, e, h0, vl_snoc]; simp
theorem trim_end {B : Nat} (hB : 2 ≤ B) {w : World} {a : Option Addr} {l : List Nat} {k cap : Nat} (hr : Row w a l) (hc : l.length ≤ cap) (hd : ∀ d ∈ l, d < B) (hl : k ≤ l.length) (hv : vl B (l.take k) = vl B l)
    (h0 : ∀ h : 0 < k, l[k - 1] ≠ 0) : NumV w B (vl B l) (.slice a k cap) := by
  have ht : Topped (l.take k) := by
    by_cases hk : 0 < k
    · refine Or.inr ?_
      have e : (l.take k).length - 1 = k - 1 := by rw [List.length_take]; omega
      have hlt : k - 1 < (l.take k).length := by rw [List.length_take]; omega
      rw [e, List.getD_eq_getElem?_getD, List.getElem?_eq_getElem hlt, List.getElem_take]
      exact h0 hk
    · refine Or.inl ?_
      have : k = 0 := by omega
      subst this; rfl
  have hdg : dg B (vl B l) = l.take k := by
    rw [← hv]; exact dg_vl hB _ (fun d hd' => hd d (List.mem_of_mem_take hd')) ht
  refine ⟨a, cap, ?_, ?_, ?_⟩
  · rw [hdg, List.length_take, Nat.min_eq_left hl]
  · rw [hdg, List.length_take]; omega
  · rw [hdg]; exact hr.take k
set_option maxHeartbeats 400000 in
theorem trim_any (B : Nat) (hB : 2 ≤ B) (w : World) (a : Option Addr) (l : List Nat) (cap : Nat) (hr : Row w a l) (hc : l.length ≤ cap) (hl : ∀ d ∈ l, d < B) (hn : cap ≤ 9223372036854775807) :
    Calls Tryz.prog 45 #[.slice a l.length cap] w fun e w' => (∃ v, e = .returned v ∧ NumV w B (vl B l) v) ∧ w' = w := by
  have HL : Hid (∀ d ∈ l, d < B) := hl
  clear hl
  go_enter Tryz.func45, Tryz.ntmps45
  go_wp2_with fail
  go_loop [0] (fun s => ∃ k : Nat, k ≤ l.length ∧ s = .slice a k cap ∧ vl B (l.take k) = vl B l) (fun s => match s with | .slice _ k _ => k | _ => 0)
  case atStart => exact ⟨l.length, Nat.le_refl _, rfl, by rw [List.take_length]⟩
  case round =>
    obtain ⟨k, hk, rfl, hv⟩ := hrel
    by_cases hlt : 0 < k
    · obtain ⟨b, o, rfl, hcell⟩ := hr (k - 1) (by omega)
      have HV : Hid (vl B (l.take k) = vl B l) := hv
      clear hv
      by_cases hz : l[k - 1] = 0
      · have HS := trim_step hlt hk HV.out hz
        have HH : Hid (vl B (l.take (k - 1)) = vl B l) := HS
        rw [hz] at hcell
        clear HS HV
        go_wp2_with fail
        exact ⟨⟨k - 1, by omega, rfl, HH.out⟩, by show k - 1 < k; omega⟩
      · have HE : Hid (NumV w B (vl B l) (.slice (some ⟨b, o, none⟩) k cap)) := trim_end hB hr hc HL.out hk HV.out (fun _ => hz)
        have hz' : ((l[k - 1] : Int) == 0) = false := by simp; omega
        generalize l[k - 1] = x at *
        go_wp2_with fail
        go_ret
        exact ⟨⟨_, rfl, HE.out⟩, rfl⟩
    · obtain rfl : k = 0 := by omega
      have HE : Hid (NumV w B (vl B l) (.slice a 0 cap)) := trim_end hB hr hc HL.out hk hv (fun h => by omega)
      have hd : decide ((0 : Int) < 0) = false := by decide
      go_wp2_with fail
      go_ret
      exact ⟨⟨_, rfl, HE.out⟩, rfl⟩
theorem vl_take_succ (B : Nat) (l : List Nat) (i : Nat) : vl B (l.take (i + 1)) = vl B (l.take i) + B ^ i * l.getD i 0 := by
  by_cases h : i < l.length
  · rw [List.take_succ_eq_append_getElem h, vl_snoc, List.length_take, Nat.min_eq_left (by omega), List.getD_eq_getElem?_getD, List.getElem?_eq_getElem h]; rfl
  · rw [List.take_of_length_le (by omega), List.take_of_length_le (by omega), List.getD_eq_getElem?_getD, List.getElem?_eq_none (by omega)]; simp
/-- What holds when i limbs were gone through: p are the new ones, c is carried. -/
structure Puts (B : Nat) (l m : List Nat) (t : Int) (i : Nat) (p : List Nat) (c : Int) : Prop where
  len : p.length = i
  low : ∀ d ∈ p, d < B
  eq : (vl B (l.take i) : Int) + t * (vl B (m.take i) : Int) = (vl B p : Int) + c * (B : Int) ^ i
  hi : c ≤ t ∨ c ≤ 0
  lo : t ≤ c ∨ 0 ≤ c
theorem Puts.zero (B : Nat) (l m : List Nat) (t : Int) : Puts B l m t 0 [] 0 :=
  ⟨rfl, (fun d h => by cases h), by simp [vl], Or.inr (by omega), Or.inr (by omega)⟩
theorem Puts.step {B : Nat} {l m : List Nat} {t : Int} {i : Nat} {p : List Nat} {c : Int} (h : Puts B l m t i p c) (hB : 2 ≤ B) (x : Nat) (c' : Int) (hx : x < B) (hl : ∀ d ∈ l, d < B) (hm : ∀ d ∈ m, d < B)
    (he : (l.getD i 0 : Int) + t * (m.getD i 0 : Int) + c = (x : Int) + c' * (B : Int)) : Puts B l m t (i + 1) (p ++ [x]) c' := by
  have e1 := vl_take_succ B l i
  have e2 := vl_take_succ B m i
  have e3 := vl_snoc B p x
  have hli : l.getD i 0 < B := by
    by_cases hi : i < l.length
    · rw [List.getD_eq_getElem?_getD, List.getElem?_eq_getElem hi]; exact hl _ (List.getElem_mem _)
    · rw [List.getD_eq_getElem?_getD, List.getElem?_eq_none (by omega)]; simp; omega
  have hmi : m.getD i 0 < B := by
    by_cases hi : i < m.length
    · rw [List.getD_eq_getElem?_getD, List.getElem?_eq_getElem hi]; exact hm _ (List.getElem_mem _)
    · rw [List.getD_eq_getElem?_getD, List.getElem?_eq_none (by omega)]; simp; omega
  refine ⟨by simp [h.len], ?_, ?_, ?_, ?_⟩
  · intro d hd
    rcases List.mem_append.1 hd with hd | hd
    · exact h.low d hd
    · simp at hd; omega
  · rw [e1, e2, e3, h.len]
    have h0 := h.eq
    push_cast
    have : (B : Int) ^ i * ((l.getD i 0 : Int) + t * (m.getD i 0 : Int) + c) = (B : Int) ^ i * ((x : Int) + c' * (B : Int)) := by rw [he]
    grind
  · generalize l.getD i 0 = u at *
    generalize m.getD i 0 = v at *
    by_cases hc : c' ≤ 0
    · exact Or.inr hc
    · refine Or.inl ?_
      by_cases hc2 : c' ≤ t
      · exact hc2
      · exfalso
        have hpos : 1 ≤ c' := by omega
        by_cases ht : 0 ≤ t
        · have k1 : t * (v : Int) ≤ t * ((B : Int) - 1) := Int.mul_le_mul_of_nonneg_left (by omega) ht
          have k2 : (t + 1) * (B : Int) ≤ c' * (B : Int) := Int.mul_le_mul_of_nonneg_right (by omega) (by omega)
          have k3 : t * ((B : Int) - 1) = t * (B : Int) - t := by grind
          have k4 : (t + 1) * (B : Int) = t * (B : Int) + B := by grind
          have := h.hi
          omega
        · have k1 : t * (v : Int) ≤ 0 := Int.mul_nonpos_of_nonpos_of_nonneg (by omega) (by omega)
          have k2 : 1 * (B : Int) ≤ c' * (B : Int) := Int.mul_le_mul_of_nonneg_right hpos (by omega)
          have := h.hi
          omega
  · generalize l.getD i 0 = u at *
    generalize m.getD i 0 = v at *
    by_cases hc : 0 ≤ c'
    · exact Or.inr hc
    · refine Or.inl ?_
      by_cases hc2 : t ≤ c'
      · exact hc2
      · exfalso
        have hneg : c' ≤ -1 := by omega
        by_cases ht : 0 ≤ t
        · have k1 : 0 ≤ t * (v : Int) := Int.mul_nonneg ht (by omega)
          have k2 : c' * (B : Int) ≤ (-1) * (B : Int) := Int.mul_le_mul_of_nonneg_right hneg (by omega)
          have := h.lo
          omega
        · have k1 : t * ((B : Int) - 1) ≤ t * (v : Int) := Int.mul_le_mul_of_nonpos_left (by omega) (by omega)
          have k2 : c' * (B : Int) ≤ (t - 1) * (B : Int) := Int.mul_le_mul_of_nonneg_right (by omega) (by omega)
          have k3 : t * ((B : Int) - 1) = t * (B : Int) - t := by grind
          have k4 : (t - 1) * (B : Int) = t * (B : Int) - B := by grind
          have := h.lo
          omega
/-- Go's quotient and remainder of a number below 0. -/
theorem tdiv_neg (s : Int) (h : s < 0) : s.tmod 1000000000 ≤ 0 ∧ -1000000000 < s.tmod 1000000000 ∧ s = s.tdiv 1000000000 * 1000000000 + s.tmod 1000000000 := by
  have h1 := Int.tmod_add_mul_tdiv s 1000000000
  have h2 := Int.neg_tdiv s 1000000000
  have h3 := Int.neg_tmod s 1000000000
  have h4 : (-s).tdiv 1000000000 = (-s) / 1000000000 := Int.tdiv_eq_ediv_of_nonneg (by omega)
  have h5 : (-s).tmod 1000000000 = (-s) % 1000000000 := Int.tmod_eq_emod_of_nonneg (by omega)
  omega
/-- Block b is an array of these numbers. -/
def IHolds (w : World) (b : Nat) (t : TypeId) (l : List Value) : Prop := w.heap[b]? = some (.cells l.toArray t)
theorem IHolds.lt {w : World} {b : Nat} {t : TypeId} {l : List Value} (h : IHolds w b t l) : b < w.heap.size := (Array.getElem?_eq_some_iff.1 h).1
theorem IHolds.cell {w : World} {b : Nat} {t : TypeId} {l : List Value} (h : IHolds w b t l) (i : Nat) (hi : i < l.length) : w.cell? ⟨b, i, none⟩ = some l[i] := by
  unfold IHolds at h
  simp [World.cell?, h, hi]
theorem IHolds.frozen {w : World} {b : Nat} {t : TypeId} {l : List Value} (h : IHolds w b t l) (i : Nat) : w.frozen? ⟨b, i, none⟩ = false := by
  unfold IHolds at h
  simp [World.frozen?, h]
theorem IHolds.set {w : World} {b : Nat} {t : TypeId} {l : List Value} (h : IHolds w b t l) (i : Nat) (x : Value) : IHolds (w.setCell ⟨b, i, none⟩ x) b t (l.set i x) := by
  unfold IHolds at *
  simp [World.setCell, Array.getElem?_modify, h, List.map_set]
theorem IHolds.drewN {w : World} {b : Nat} {t : TypeId} {l : List Value} (h : IHolds w b t l) (n : Nat) : IHolds (w.drewN n) b t l := h
theorem IHolds.alloc {w : World} {b : Nat} {t : TypeId} {l : List Value} (h : IHolds w b t l) (o : Obj) : IHolds (w.alloc o) b t l := by
  unfold IHolds; rw [Below.heap_alloc _ _ _ h.lt]; exact h
theorem IHolds.new (w : World) (t : TypeId) (l : List Value) : IHolds (w.alloc (.cells l.toArray t)) w.heap.size t l := by
  show (w.heap.push _)[w.heap.size]? = _
  simp
theorem IHolds.of_below {w w' : World} {b : Nat} {t : TypeId} {l : List Value} (h : IHolds w b t l) (hb : Below w.heap.size w w') : IHolds w' b t l := by
  unfold IHolds; rw [hb.block _ h.lt]; exact h
/-- Nothing but block b has turned, of what was there. -/
structure But (b : Nat) (w w' : World) : Prop where
  os : w'.os = w.os
  tape : w'.tape = w.tape
  output : w'.output = w.output
  size : w.heap.size ≤ w'.heap.size
  block : ∀ k, k < w.heap.size → k ≠ b → w'.heap[k]? = w.heap[k]?
theorem But.refl (b : Nat) (w : World) : But b w w := ⟨rfl, rfl, rfl, Nat.le_refl _, fun _ _ _ => rfl⟩
theorem But.trans {b : Nat} {u v w : World} (h : But b u v) (k : But b v w) : But b u w :=
  ⟨k.os.trans h.os, k.tape.trans h.tape, k.output.trans h.output, Nat.le_trans h.size k.size, fun i hi hb => (k.block i (Nat.lt_of_lt_of_le hi h.size) hb).trans (h.block i hi hb)⟩
theorem But.drewN {b : Nat} {u w : World} (h : But b u w) (n : Nat) : But b u (w.drewN n) := ⟨h.os, h.tape, h.output, h.size, h.block⟩
theorem But.setCell {b : Nat} {u w : World} (h : But b u w) (i : Nat) (x : Value) : But b u (w.setCell ⟨b, i, none⟩ x) :=
  h.trans ⟨rfl, rfl, rfl, by simp [World.setCell], fun k _ hb => Below.heap_setCell _ _ _ _ hb⟩
theorem But.cell {b : Nat} {u w : World} (h : But b u w) {k : Nat} (hk : k < u.heap.size) (hb : k ≠ b) (i : Nat) : w.cell? ⟨k, i, none⟩ = u.cell? ⟨k, i, none⟩ :=
  World.cell?_of_block (w := u) (h.block k hk hb)
/-- Where block b is new, nothing that was there has turned. -/
theorem But.below {b B : Nat} {u w : World} (h : But b u w) (hB : B ≤ u.heap.size) (hb : B ≤ b) : Below B u w :=
  ⟨h.os, h.tape, h.output, h.size, fun k hk => h.block k (by omega) (by omega)⟩
/-- What lies at a does not lie in block b. -/
def Apart (a : Option Addr) (b : Nat) : Prop := ∀ k o, a = some ⟨k, o, none⟩ → k ≠ b
theorem Row.of_but {w w' : World} {a : Option Addr} {l : List Nat} {b : Nat} (h : Row w a l) (ha : l ≠ [] → Apart a b) (hb : But b w w') : Row w' a l := by
  intro i hi
  obtain ⟨k, o, rfl, hc⟩ := h i hi
  exact ⟨k, o, rfl, by rw [hb.cell (World.block_lt_of_cell? _ _ hc) (ha (fun e => by subst e; cases hi) k o rfl)]; exact hc⟩
/-- Numbers as the cells hold them. -/
def zs (l : List Nat) : List Value := l.map I
theorem zs_length (l : List Nat) : (zs l).length = l.length := by simp [zs]
theorem zs_cons (x : Nat) (l : List Nat) : zs (x :: l) = I x :: zs l := rfl
theorem zs_append (l r : List Nat) : zs (l ++ r) = zs l ++ zs r := by simp [zs]
theorem IHolds.row {w : World} {b : Nat} {t : TypeId} {pre post : List Value} {l : List Nat} (h : IHolds w b t (pre ++ zs l ++ post)) : Row w (some ⟨b, pre.length, none⟩) l := by
  intro i hi
  refine ⟨b, pre.length, rfl, ?_⟩
  rw [h.cell (pre.length + i) (by simp [zs_length]; omega)]
  rw [List.getElem_append_left (by simp [zs_length]; omega), List.getElem_append_right (by omega)]
  simp [zs]
theorem part_at (pre post : List Value) (p l : List Nat) (i : Nat) (hp : p.length = i) (hi : i < l.length) : pre ++ zs (p ++ l.drop i) ++ post = (pre ++ zs p) ++ (I l[i] :: (zs (l.drop (i + 1)) ++ post)) := by
  rw [List.drop_eq_getElem_cons hi, zs_append, zs_cons]
  simp only [List.append_assoc, List.cons_append]
theorem part_set (pre post : List Value) (p l : List Nat) (i x : Nat) (hp : p.length = i) (hi : i < l.length) (y : Int) (hy : y = (x : Int)) : (pre ++ zs (p ++ l.drop i) ++ post).set (pre.length + i) (.int .i64 y) = pre ++ zs ((p ++ [x]) ++ l.drop (i + 1)) ++ post := by
  subst hy
  rw [part_at pre post p l i hp hi, List.set_append_right _ _ (by simp [zs_length]; omega)]
  have e : pre.length + i - (pre ++ zs p).length = 0 := by simp [zs_length]; omega
  rw [e, zs_append, zs_append]
  simp only [List.set_cons_zero, List.append_assoc, List.cons_append, zs_cons, List.nil_append]
  rfl
theorem made_nums (n : Nat) : madeCells #[.int .i64 0] n = (zs (List.replicate n 0)).toArray := by
  apply Array.toList_inj.1
  rw [toList_madeCells_one]
  simp [zs]
theorem block_setCells {b : Nat} {t : TypeId} : ∀ (vs : List Value) (o : Nat) (cs : List Value) (w : World), w.heap[b]? = some (.cells cs.toArray t) → o + vs.length ≤ cs.length →
    (w.setCells b o vs).heap[b]? = some (.cells (cs.take o ++ vs ++ cs.drop (o + vs.length)).toArray t)
  | [], o, cs, w, h, _ => by simpa [World.setCells] using h
  | v :: r, o, cs, w, h, hle => by
    simp only [List.length_cons] at hle
    have h1 : (w.setCell ⟨b, o, none⟩ v).heap[b]? = some (.cells (cs.set o v).toArray t) := by
      simp [World.setCell, Array.getElem?_modify, h]
    have := block_setCells (b := b) (t := t) r (o + 1) (cs.set o v) _ h1 (by simp; omega)
    simp only [World.setCells]
    rw [this]
    have e : (cs.set o v).take (o + 1) ++ r ++ (cs.set o v).drop (o + 1 + r.length) = cs.take o ++ (v :: r) ++ cs.drop (o + (r.length + 1)) := by
      rw [List.drop_set_of_lt (by omega), List.take_add_one]
      simp [List.take_set_of_le, show o < cs.length by omega, Nat.add_assoc, Nat.add_comm]
      omega
    rw [e]; rfl
theorem But.setOwn {b : Nat} {u : World} : ∀ (vs : List Value) (o : Nat) (w : World), But b u w → But b u (w.setCells b o vs)
  | [], _, _, h => h
  | v :: r, o, _, h => But.setOwn r (o + 1) _ (h.setCell o v)
theorem IHolds.copied {w : World} {b : Nat} {t : TypeId} {L : List Nat} (h : IHolds w b t (zs L)) (l : List Nat) (hl : l.length ≤ L.length) : IHolds (w.setCells b 0 (l.map I)) b t (zs (l ++ L.drop l.length)) := by
  have := block_setCells (l.map I) 0 (zs L) w h (by simpa [zs] using hl)
  unfold IHolds
  rw [this]
  simp [zs]
theorem Row.apart_new {w : World} {a : Option Addr} {l : List Nat} (h : Row w a l) (hl : l ≠ []) : Apart a w.heap.size := by
  intro k o ha e
  obtain ⟨k', o', ha', hc⟩ := h 0 (List.length_pos_iff.2 hl)
  rw [ha] at ha'
  simp only [Option.some.injEq, Addr.mk.injEq] at ha'
  have := World.block_lt_of_cell? _ _ hc
  simp at this
  omega
theorem sum_lt {n m K i j : Nat} (h1 : n < 1000000000 ^ i) (h2 : m < 1000000000 ^ j) (hi : i < K) (hj : j < K) : n + m < 1000000000 ^ K := by
  have e1 : 1000000000 ^ i ≤ 1000000000 ^ (K - 1) := Nat.pow_le_pow_right (by omega) (by omega)
  have e2 : 1000000000 ^ j ≤ 1000000000 ^ (K - 1) := Nat.pow_le_pow_right (by omega) (by omega)
  have e3 : 1000000000 ^ K = 1000000000 ^ (K - 1) * 1000000000 := by rw [← Nat.pow_succ]; congr 1; omega
  omega
/-- A row of the call's own that holds these numbers at its head; or nothing. -/
def Owned (w : World) (base : Nat) (l : List Nat) (v : Value) : Prop :=
  (l = [] ∧ ∃ a c, v = .slice a 0 c ∧ c ≤ 9223372036854775807) ∨ ∃ g cap post, v = .slice (some ⟨g, 0, none⟩) l.length cap ∧ base ≤ g ∧ IHolds w g 2 (zs l ++ post) ∧ l.length ≤ cap ∧ cap ≤ 9223372036854775807
theorem Owned.of_row {w : World} {base : Nat} {l : List Nat} {v : Value} (h : w.ownsRow base 2 1 v l.length (zs l)) : Owned w base l v := by
  obtain ⟨_, ⟨rfl, h0⟩ | ⟨g, cap, cur, rfl, hb, hg, hc, hm, hs, ht⟩⟩ := h
  · exact Or.inl ⟨List.length_eq_zero_iff.1 h0, none, 0, rfl, by omega⟩
  · refine Or.inr ⟨g, cap, cur.toList.drop l.length, rfl, hb, ?_, hc, hm⟩
    rw [Nat.mul_one] at ht
    unfold IHolds
    rw [← ht, List.take_append_drop]
    exact hg
/-- -1, 0 or 1, as x is below y, y itself, or above it. -/
def cmp3 (x y : Int) : Int := if x < y then -1 else if y < x then 1 else 0
theorem cmp3_lt {x y : Int} (h : x < y) : cmp3 x y = -1 := by simp [cmp3, h]
theorem cmp3_gt {x y : Int} (h : y < x) : cmp3 x y = 1 := by simp [cmp3, h]; omega
theorem cmp3_eq {x y : Int} (h : x = y) : cmp3 x y = 0 := by simp [cmp3, h]
theorem drewN_ex {w wr : World} (h : ∃ k, wr = w.drewN k) (n : Nat) : ∃ k, wr.drewN n = w.drewN k := by
  obtain ⟨k, rfl⟩ := h
  exact ⟨k + n, World.drewN_drewN w k n⟩
theorem ret_i {a b : Int} (h : a = b) : Ending.returned (.int .i64 a) = .returned (.int .i64 b) := by rw [h]
theorem drop_same_step {l r : List Nat} {i : Nat} (hl : i < l.length) (hr : i < r.length) (he : l.drop (i + 1) = r.drop (i + 1)) (hx : l[i] = r[i]) : l.drop i = r.drop i := by
  rw [List.drop_eq_getElem_cons hl, List.drop_eq_getElem_cons hr, he, hx]
theorem cmp_at_lt {B n m i : Nat} (hB : 2 ≤ B) (hl : i < (dg B n).length) (hr : i < (dg B m).length) (he : (dg B n).drop (i + 1) = (dg B m).drop (i + 1)) (hx : (dg B n)[i] < (dg B m)[i]) : cmp3 (n : Int) (m : Int) = -1 := by
  have := vl_part (dg B n) (dg B m) i (dg_mem hB n) hl hr he hx
  rw [vl_dg hB, vl_dg hB] at this
  exact cmp3_lt (by omega)
theorem cmp_at_gt {B n m i : Nat} (hB : 2 ≤ B) (hl : i < (dg B n).length) (hr : i < (dg B m).length) (he : (dg B n).drop (i + 1) = (dg B m).drop (i + 1)) (hx : (dg B m)[i] < (dg B n)[i]) : cmp3 (n : Int) (m : Int) = 1 := by
  have := vl_part (dg B m) (dg B n) i (dg_mem hB m) hr hl he.symm hx
  rw [vl_dg hB, vl_dg hB] at this
  exact cmp3_gt (by omega)
theorem cmp_same {B n m : Nat} (hB : 2 ≤ B) (he : (dg B n).drop 0 = (dg B m).drop 0) : cmp3 (n : Int) (m : Int) = 0 := by
  rw [List.drop_zero, List.drop_zero] at he
  exact cmp3_eq (by rw [dg_inj hB he])
theorem cmp_len {B n m : Nat} (hB : 2 ≤ B) (h : (dg B n).length ≠ (dg B m).length) : cmp3 ((dg B n).length : Int) ((dg B m).length : Int) = cmp3 (n : Int) (m : Int) := by
  rcases Nat.lt_or_gt_of_ne h with h | h
  · rw [cmp3_lt (by omega), cmp3_lt (by have := lt_of_len_lt hB h; omega)]
  · rw [cmp3_gt (by omega), cmp3_gt (by have := lt_of_len_lt hB h; omega)]
theorem size_list (s : ByteArray) : s.data.toList.length = s.size := rfl
theorem ret_b {a b : Bool} (h : a = b) : Ending.returned (.bool a) = .returned (.bool b) := by rw [h]
/-- A row of the call's own as a number's cells. -/
theorem Row.of_owned {w : World} {base n : Nat} {v : Value} {l : List Nat} {e : TypeId} (h : w.ownsRow base e 1 v n (zs l)) : ∃ a cap, v = .slice a l.length cap ∧ l.length ≤ cap ∧ cap ≤ 9223372036854775807 ∧ Row w a l := by
  obtain ⟨hlen, ⟨rfl, h0⟩ | ⟨g, cap, cur, rfl, hb, hg, hc, hm, hs, ht⟩⟩ := h
  · rw [zs_length, Nat.mul_one] at hlen
    have : l = [] := List.length_eq_zero_iff.1 (by omega)
    subst this
    exact ⟨none, 0, rfl, by simp, by omega, Row.nil _ _⟩
  · rw [zs_length, Nat.mul_one] at hlen
    refine ⟨some ⟨g, 0, none⟩, cap, by rw [hlen], by omega, hm, ?_⟩
    intro i hi
    refine ⟨g, 0, rfl, ?_⟩
    rw [Nat.mul_one] at ht
    have h1 : (zs l)[i]? = some (I l[i]) := by simp [zs, hi]
    rw [← ht, List.getElem?_take, if_pos (by omega)] at h1
    simp only [World.cell?, hg]
    simpa using h1
theorem Tryz.info5 : (Tryz.prog.info? 5).map (fun i => (i.zero, i.size, i.bytes)) = some (some (.int .u8 0), 1, 1) := by kernel_rfl
/-- Bytes as the cells hold them. -/
abbrev Yb (x : UInt8) : Value := .int .u8 (x.toNat : Int)
def ys (l : List UInt8) : List Value := l.map Yb
theorem ys_length (l : List UInt8) : (ys l).length = l.length := by simp [ys]
theorem ys_append (l r : List UInt8) : ys (l ++ r) = ys l ++ ys r := by simp [ys]
theorem makeBytes (z : Int) (n : Nat) (hz : z = (n : Int)) (hn : n ≤ 4294967296) (w : World) : (Instr.makeSlice 71 (.int .i64 z) (.int .i64 z)).run Tryz.prog w = .ok (.slice (some ⟨w.heap.size, 0, none⟩) n n) (w.alloc (.cells (ys (List.replicate n 0)).toArray 5)) := by
  subst hz
  have := run_make_row' (P := Tryz.prog) 71 5 (.int .u8 0) 1 Tryz.underlying71 Tryz.info5 rfl .i64 .i64 n (by omega) (by omega) w
  rw [this]
  have e : madeCells #[.int .u8 0] n = (ys (List.replicate n 0)).toArray := by
    apply Array.toList_inj.1
    rw [toList_madeCells_one]
    simp [ys]
  rw [e]
theorem Tryz.info3 : (Tryz.prog.info? 3).map (fun i => (i.zero, i.size, i.bytes)) = some (some (.int .i64 0), 1, 8) := by kernel_rfl
theorem vl_take_le (B : Nat) (l : List Nat) (i : Nat) : vl B (l.take i) ≤ vl B l := by
  have e : vl B l = vl B (l.take i ++ l.drop i) := by rw [List.take_append_drop]
  rw [e, vl_append]; omega
theorem getD_lt {l : List Nat} (h : ∀ d ∈ l, d < 65536) (i : Nat) : l.getD i 0 < 65536 := by
  by_cases hi : i < l.length
  · rw [List.getD_eq_getElem?_getD, List.getElem?_eq_getElem hi]; exact h _ (List.getElem_mem _)
  · rw [List.getD_eq_getElem?_getD, List.getElem?_eq_none (by omega)]; simp
theorem topped_of_big {D : List Nat} (hd : ∀ d ∈ D, d < 65536) (h : D.length = 0 ∨ 65536 ^ (D.length - 1) ≤ vl 65536 D) : Topped D := by
  by_cases h0 : D = []
  · exact Or.inl h0
  · obtain ⟨Q, d, rfl⟩ : ∃ Q d, D = Q ++ [d] := ⟨D.dropLast, D.getLast h0, (List.dropLast_concat_getLast h0).symm⟩
    refine Or.inr ?_
    have hl : (Q ++ [d]).length - 1 = Q.length := by simp
    rcases h with h | h
    · simp at h
    · rw [hl, vl_snoc] at h
      have h1 := vl_lt 65536 Q (fun x hx => hd x (by simp [hx]))
      rw [hl]
      simp
      intro e
      subst e
      simp at h
      omega
theorem vl_set (B : Nat) (P : List Nat) (t x : Nat) (h : t < P.length) : vl B (P.set t x) + B ^ t * P[t] = vl B P + B ^ t * x := by
  have e1 : P.set t x = P.take t ++ (x :: P.drop (t + 1)) := by
    rw [List.set_eq_take_append_cons_drop, if_pos h]
  have e2 : P = P.take t ++ (P[t] :: P.drop (t + 1)) := by rw [← List.drop_eq_getElem_cons h, List.take_append_drop]
  have hl : (P.take t).length = t := by rw [List.length_take]; omega
  have h1 : vl B (P.set t x) = vl B (P.take t) + B ^ t * (x + B * vl B (P.drop (t + 1))) := by
    rw [e1, vl_append, hl]; rfl
  have h2 : vl B P = vl B (P.take t) + B ^ t * (P[t] + B * vl B (P.drop (t + 1))) := by
    have := vl_append B (P.take t) (P[t] :: P.drop (t + 1))
    rw [← e2, hl] at this
    rw [this]; rfl
  rw [h1, h2]
  grind
/-- A row of the product: j digits of b times the digit u, laid upon P at i. -/
structure Mulr (b : List Nat) (P0 : List Nat) (i u j : Nat) (P : List Nat) (up : Nat) : Prop where
  len : P.length = P0.length
  low : ∀ d ∈ P, d < 65536
  up9 : up ≤ 65535
  eq : vl 65536 P + 65536 ^ (i + j) * up = vl 65536 P0 + 65536 ^ i * u * vl 65536 (b.take j)
  tail : ∀ t, i + b.length ≤ t → P.getD t 0 = P0.getD t 0
theorem Mulr.zero (b P0 : List Nat) (i u : Nat) (h : ∀ d ∈ P0, d < 65536) : Mulr b P0 i u 0 P0 0 := ⟨rfl, h, by omega, by simp [vl], fun _ _ => rfl⟩
theorem Mulr.step {b P0 : List Nat} {i u j : Nat} {P : List Nat} {up : Nat} (h : Mulr b P0 i u j P up) (hj : j < b.length) (hP : i + j < P.length) (hu : u < 65536) (hb : ∀ d ∈ b, d < 65536) :
    Mulr b P0 i u (j + 1) (P.set (i + j) ((P[i + j] + u * b[j] + up) % 65536)) ((P[i + j] + u * b[j] + up) / 65536) := by
  have hp : P[i + j] < 65536 := h.low _ (List.getElem_mem _)
  have hbj : b[j] < 65536 := hb _ (List.getElem_mem _)
  have hm : u * b[j] ≤ 65535 * 65535 := Nat.mul_le_mul (by omega) (by omega)
  have h9 := h.up9
  refine ⟨by simp [h.len], ?_, by omega, ?_, ?_⟩
  · intro d hd
    rcases List.mem_or_eq_of_mem_set hd with hd | hd
    · exact h.low d hd
    · omega
  · have e1 := vl_set 65536 P (i + j) ((P[i + j] + u * b[j] + up) % 65536) hP
    have e2 := vl_take_succ 65536 b j
    rw [List.getD_eq_getElem?_getD, List.getElem?_eq_getElem hj] at e2
    simp only [Option.getD_some] at e2
    have e3 := h.eq
    rw [e2]
    have hs : P[i + j] + u * b[j] + up = (P[i + j] + u * b[j] + up) % 65536 + 65536 * ((P[i + j] + u * b[j] + up) / 65536) := (Nat.mod_add_div _ 65536).symm
    generalize (P[i + j] + u * b[j] + up) % 65536 = r at *
    generalize (P[i + j] + u * b[j] + up) / 65536 = q at *
    generalize vl 65536 (P.set (i + j) r) = V at *
    generalize P[i + j] = x at *
    generalize b[j] = y at *
    have hs2 : 65536 ^ (i + j) * (x + u * y + up) = 65536 ^ (i + j) * (r + 65536 * q) := by rw [hs]
    have hp1 : (65536 : Nat) ^ (i + (j + 1)) = 65536 * 65536 ^ (i + j) := by rw [← Nat.add_assoc, Nat.pow_succ, Nat.mul_comm]
    have hp2 : (65536 : Nat) ^ (i + j) = 65536 ^ i * 65536 ^ j := Nat.pow_add _ _ _
    rw [hp1]
    rw [hp2] at *
    grind
  · intro t ht
    have := h.tail t ht
    rw [← this, List.getD_eq_getElem?_getD, List.getD_eq_getElem?_getD, List.getElem?_set_ne (by omega)]
theorem Mulr.done {b P0 : List Nat} {i u : Nat} {P : List Nat} {up x m : Nat} (h : Mulr b P0 i u b.length P up) (hP : i + b.length < P.length) (h0 : ∀ t, i + b.length ≤ t → P0.getD t 0 = 0) (hv : vl 65536 P0 = x * m) (hm : vl 65536 b = m) :
    vl 65536 (P.set (i + b.length) up) = (x + 65536 ^ i * u) * m ∧ (∀ d ∈ P.set (i + b.length) up, d < 65536) ∧ (P.set (i + b.length) up).length = P0.length ∧ ∀ t, i + 1 + b.length ≤ t → (P.set (i + b.length) up).getD t 0 = 0 := by
  have e1 := vl_set 65536 P (i + b.length) up hP
  have hz : P[i + b.length] = 0 := by
    have h1 := h.tail (i + b.length) (Nat.le_refl _)
    rw [h0 _ (Nat.le_refl _), List.getD_eq_getElem?_getD, List.getElem?_eq_getElem hP] at h1
    exact h1
  have e2 := h.eq
  rw [List.take_length, hm, hv] at e2
  rw [hz] at e1
  refine ⟨?_, ?_, by simp [h.len], ?_⟩
  · have : vl 65536 (P.set (i + b.length) up) = x * m + 65536 ^ i * u * m := by omega
    rw [this]; grind
  · intro d hd
    have := h.up9
    rcases List.mem_or_eq_of_mem_set hd with hd | hd
    · exact h.low d hd
    · omega
  · intro t ht
    rw [List.getD_eq_getElem?_getD, List.getElem?_set_ne (by omega), ← List.getD_eq_getElem?_getD, h.tail t (by omega), h0 t (by omega)]
theorem NumV.of_owned {w : World} {base B n : Nat} {v : Value} {e : TypeId} {k : Nat} (h : w.ownsRow base e 1 v k (zs (dg B n))) : NumV w B n v := by
  obtain ⟨a, cap, h1, h2, h3, h4⟩ := Row.of_owned h
  exact ⟨a, cap, h1, h2, h4⟩
theorem makeNat (z : Int) (n : Nat) (hz : z = (n : Int)) (hn : n ≤ 4294967296) (w : World) : (Instr.makeSlice 40 (.int .i64 z) (.int .i64 z)).run Tryz.prog w = .ok (.slice (some ⟨w.heap.size, 0, none⟩) n n) (w.alloc (.cells (zs (List.replicate n 0)).toArray 3)) := by
  subst hz
  have := run_make_row' (P := Tryz.prog) 40 3 (.int .i64 0) 8 Tryz.underlying40 Tryz.info3 rfl .i64 .i64 n (by omega) (by omega) w
  rw [made_nums] at this
  exact this
theorem zs_set (l : List Nat) (t x : Nat) (y : Int) (hy : y = (x : Int)) : (zs l).set t (.int .i64 y) = zs (l.set t x) := by
  subst hy; simp [zs, List.map_set]
theorem IHolds.at {w : World} {b : Nat} {t : TypeId} {l : List Nat} (h : IHolds w b t (zs l)) (i : Nat) (hi : i < l.length) : w.cell? ⟨b, i, none⟩ = some (I l[i]) := by
  rw [h.cell i (by rw [zs_length]; exact hi)]; simp [zs]
theorem trim_at (w : World) (b cap k : Nat) (T : TypeId) (l : List Nat) (h : IHolds w b T (zs l)) (hk : l.length = k) (hc : k ≤ cap) (hl : ∀ d ∈ l, d < 65536) (hn : cap ≤ 9223372036854775807) :
    Calls Tryz.prog 45 #[.slice (some ⟨b, 0, none⟩) k cap] w fun e w' => (∃ v, e = .returned v ∧ NumV w 65536 (vl 65536 l) v) ∧ w' = w := by
  subst hk
  have hr : Row w (some ⟨b, 0, none⟩) l := IHolds.row (pre := []) (post := []) (by rw [List.nil_append, List.append_nil]; exact h)
  exact trim_any 65536 b16 w _ l cap hr hc hl hn
set_option maxRecDepth 100000 in
set_option maxHeartbeats 2000000 in
theorem refMul_any (w : World) (a1 a2 : Option Addr) (cap1 cap2 n m : Nat) (h1 : Row w a1 (dg 65536 n)) (h2 : Row w a2 (dg 65536 m)) (b1 : (dg 65536 n).length ≤ 1000000) (b2 : (dg 65536 m).length ≤ 1000000) :
    Calls Tryz.prog 40 #[.slice a1 (dg 65536 n).length cap1, .slice a2 (dg 65536 m).length cap2] w fun e w' => (∃ v, e = .returned v ∧ NumV w' 65536 (n * m) v) ∧ Below w.heap.size w w' := by
  have HV1 : Hid (vl 65536 (dg 65536 n) = n) := vl_dg b16 n
  have HV2 : Hid (vl 65536 (dg 65536 m) = m) := vl_dg b16 m
  have HD1 : Hid (∀ d ∈ dg 65536 n, d < 65536) := dg_mem b16 n
  have HD2 : Hid (∀ d ∈ dg 65536 m, d < 65536) := dg_mem b16 m
  generalize dg 65536 n = l1 at *
  generalize dg 65536 m = l2 at *
  have H1 : Hid (Row w a1 l1) := h1
  have H2 : Hid (Row w a2 l2) := h2
  clear h1 h2
  obtain ⟨K, hK, hmk⟩ : ∃ K : Nat, K = l1.length + l2.length ∧ ∀ w, (Instr.makeSlice 40 (.int .i64 ((l1.length : Int) + (l2.length : Int))) (.int .i64 ((l1.length : Int) + (l2.length : Int)))).run Tryz.prog w = .ok (.slice (some ⟨w.heap.size, 0, none⟩) K K) (w.alloc (.cells (zs (List.replicate K 0)).toArray 3)) :=
    ⟨l1.length + l2.length, rfl, fun w => makeNat _ _ (by push_cast; rfl) (by omega) w⟩
  have HK : Hid (K = l1.length + l2.length) := hK
  have hk1 : K ≤ 2000000 := by omega
  clear hK
  go_enter Tryz.func40, Tryz.ntmps40
  go_wp2_with fail
  have q1 : Hid (IHolds (w.alloc (.cells (zs (List.replicate K 0)).toArray 3)) w.heap.size 3 (zs (List.replicate K 0))) := IHolds.new w 3 _
  have q2 : Hid (Below w.heap.size w (w.alloc (.cells (zs (List.replicate K 0)).toArray 3))) := (Below.refl _ w).alloc (Nat.le_refl _) _
  clear hmk
  generalize w.alloc (.cells (zs (List.replicate K 0)).toArray 3) = W0 at *
  go_loopg [6] l1.length (fun gk v6 wr => ∃ (i : Nat) (P : List Nat), i + gk = l1.length ∧ v6 = .int .i64 (i : Int) ∧ P.length = K ∧ (∀ d ∈ P, d < 65536) ∧ vl 65536 P = vl 65536 (l1.take i) * m ∧ (∀ t, i + l2.length ≤ t → P.getD t 0 = 0) ∧ IHolds wr w.heap.size 3 (zs P) ∧ Below w.heap.size w wr)
  case atStart => exact ⟨0, List.replicate K 0, by omega, rfl, by simp, fun d hd => by have := List.eq_of_mem_replicate hd; omega, by rw [vl_zeros]; simp [vl], (fun t _ => by simp [List.getD_eq_getElem?_getD, List.getElem?_replicate]; split <;> rfl), q1.out, q2.out⟩
  case round =>
    obtain ⟨i, P, hi, rfl, hPl, hPd, hPv, hPz, hPI, hPB⟩ := hrel
    clear q1 q2
    generalize gk = G at *
    by_cases hlt : i < l1.length
    · have il : (i : Int) < (l1.length : Int) := by omega
      have hKe := HK.out
      have hiK : i + l2.length < K := by omega
      obtain ⟨k1, o1, ha1, _⟩ := H1.out i hlt
      subst ha1
      have hu : l1[i] < 65536 := HD1.out _ (List.getElem_mem _)
      have HVS : Hid (vl 65536 (l1.take (i + 1)) = vl 65536 (l1.take i) + 65536 ^ i * l1[i]) := by
        have e := vl_take_succ 65536 l1 i
        rw [List.getD_eq_getElem?_getD, List.getElem?_eq_getElem hlt] at e
        exact e
      have HC1 : Hid (∀ wq, Below w.heap.size w wq → wq.cell? ⟨k1, o1 + i, none⟩ = some (I l1[i])) := fun wq hq => by
        obtain ⟨k, o, ha, hc⟩ := H1.out.of_below hq i hlt
        simp only [Option.some.injEq, Addr.mk.injEq, and_true] at ha
        obtain ⟨rfl, rfl⟩ := ha
        exact hc
      have HPz : Hid (∀ t, i + l2.length ≤ t → P.getD t 0 = 0) := hPz
      have HPv : Hid (vl 65536 P = vl 65536 (l1.take i) * m) := hPv
      have HPl : Hid (P.length = K) := hPl
      have HM0 : Hid (Mulr l2 P i l1[i] 0 P 0) := Mulr.zero _ _ _ _ hPd
      have HI0 : Hid (IHolds wr w.heap.size 3 (zs P)) := hPI
      have HB0 : Hid (Below w.heap.size w wr) := hPB
      clear hPl hPd hPv hPz hPI hPB hKe
      generalize l1[i] = u at *
      generalize wr = w0 at *
      go_wp2_with fail
      go_loopg [7, 8] l2.length (fun gk v7 v8 wr => ∃ (j up : Nat) (Q : List Nat), j + gk = l2.length ∧ v7 = .int .i64 (up : Int) ∧ v8 = .int .i64 (j : Int) ∧ Mulr l2 P i u j Q up ∧ IHolds wr w.heap.size 3 (zs Q) ∧ Below w.heap.size w wr)
      case atStart => exact ⟨0, 0, P, by omega, rfl, rfl, HM0.out, HI0.out, HB0.out⟩
      case round =>
        obtain ⟨j, up, Q, hj, rfl, rfl, hQ, hQI, hQB⟩ := hrel
        have hup := hQ.up9
        have hQl : Q.length = K := by rw [hQ.len, HPl.out]
        by_cases hjl : j < l2.length
        · have jl : (j : Int) < (l2.length : Int) := by omega
          have hjK : (i : Int) + (j : Int) < (K : Int) := by omega
          have hjQ : i + j < Q.length := by omega
          obtain ⟨k2, o2, rfl, c2⟩ := H2.out.of_below hQB j hjl
          have c1 := HC1.out wr hQB
          have c3 := hQI.at (i + j) hjQ
          have f3 : wr.frozen? ⟨w.heap.size, i + j, none⟩ = false := hQI.frozen _
          have g1 : Q[i + j] < 65536 := hQ.low _ (List.getElem_mem _)
          have g2 : l2[j] < 65536 := HD2.out _ (List.getElem_mem _)
          have HST : Hid (∀ X Y, X = (Q[i + j] + u * l2[j] + up) % 65536 → Y = (Q[i + j] + u * l2[j] + up) / 65536 → Mulr l2 P i u (j + 1) (Q.set (i + j) X) Y) := fun X Y hX hY => by rw [hX, hY]; exact hQ.step hjl hjQ hu HD2.out
          have HI : Hid (IHolds wr w.heap.size 3 (zs Q)) := hQI
          have HB : Hid (Below w.heap.size w wr) := hQB
          clear hQ hQI hQB
          generalize Q[i + j] = x at *
          generalize l2[j] = y at *
          have gm : u * y ≤ 4294836225 := Nat.mul_le_mul (show u ≤ 65535 by omega) (show y ≤ 65535 by omega)
          obtain ⟨z, hz⟩ : ∃ z, z = u * y := ⟨_, rfl⟩
          have ez : (u : Int) * (y : Int) = (z : Int) := by rw [hz]; push_cast; rfl
          rw [← hz] at HST gm
          clear hz
          obtain ⟨X, hX⟩ : ∃ X : Nat, X = (x + z + up) % 65536 := ⟨_, rfl⟩
          obtain ⟨Y, hY⟩ : ∃ Y : Nat, Y = (x + z + up) / 65536 := ⟨_, rfl⟩
          have HMX : Hid (Mulr l2 P i u (j + 1) (Q.set (i + j) X) Y) := HST.out X Y hX hY
          have eX : ((x : Int) + (z : Int) + (up : Int)) % 65536 = (X : Int) := by omega
          have eY : ((x : Int) + (z : Int) + (up : Int)) / 65536 = (Y : Int) := by omega
          have hX9 : X ≤ 65535 := by omega
          have et : ((i : Int) + (j : Int)).toNat = i + j := by omega
          clear hX hY HST
          go_wp2_with fail
          go_quiet (fail)
          have HI2 : Hid (IHolds ((wr.drewN nq).setCell ⟨w.heap.size, i + j, none⟩ (.int .i64 (X : Int))) w.heap.size 3 (zs (Q.set (i + j) X))) := by
            have := (HI.out.drewN nq).set (i + j) (.int .i64 (X : Int))
            rw [zs_set Q (i + j) X _ rfl] at this
            exact this
          have HB2 : Hid (Below w.heap.size w ((wr.drewN nq).setCell ⟨w.heap.size, i + j, none⟩ (.int .i64 (X : Int)))) := (Below.setCell (w := wr.drewN nq) ⟨HB.out.os, HB.out.tape, HB.out.output, HB.out.size, HB.out.block⟩ (Nat.le_refl _) _)
          go_wp2_with fail
          go_roundg (gk - 1)
          case measure => omega
          case rel => exact ⟨j + 1, Y, Q.set (i + j) X, by omega, by go_num, by go_num, HMX.out, HI2.out, HB2.out⟩
        · obtain rfl : j = l2.length := by omega
          have hQi : i + l2.length < Q.length := by omega
          obtain ⟨d1, d2, d3, d4⟩ := hQ.done hQi HPz.out HPv.out HV2.out
          have c3 := hQI.at (i + l2.length) hQi
          have f3 : wr.frozen? ⟨w.heap.size, i + l2.length, none⟩ = false := hQI.frozen _
          have E1 : Hid (vl 65536 (Q.set (i + l2.length) up) = vl 65536 (l1.take (i + 1)) * m) := by show _ = _; rw [HVS.out]; exact d1
          have E2 : Hid (∀ d ∈ Q.set (i + l2.length) up, d < 65536) := d2
          have E3 : Hid ((Q.set (i + l2.length) up).length = K) := by show _ = _; rw [d3, HPl.out]
          have E4 : Hid (∀ t, i + 1 + l2.length ≤ t → (Q.set (i + l2.length) up).getD t 0 = 0) := d4
          have E5 : Hid (IHolds (wr.setCell ⟨w.heap.size, i + l2.length, none⟩ (.int .i64 (up : Int))) w.heap.size 3 (zs (Q.set (i + l2.length) up))) := by
            have := hQI.set (i + l2.length) (.int .i64 (up : Int))
            rw [zs_set Q (i + l2.length) up _ rfl] at this
            exact this
          have E6 : Hid (Below w.heap.size w (wr.setCell ⟨w.heap.size, i + l2.length, none⟩ (.int .i64 (up : Int)))) := hQB.setCell (Nat.le_refl _) _
          have et : ((i : Int) + (l2.length : Int)).toNat = i + l2.length := by omega
          have hjK : (i : Int) + (l2.length : Int) < (K : Int) := by omega
          generalize Q[i + l2.length] = x at *
          clear d1 d2 d3 d4 hQ hQI hQB hQl
          go_wp2_with fail
          go_roundg (G - 1)
          case measure => omega
          case rel => exact ⟨i + 1, Q.set (i + l2.length) up, by omega, by go_num, E3.out, E2.out, E1.out, E4.out, E5.out, E6.out⟩
    · obtain rfl : i = l1.length := by omega
      rw [List.take_length, HV1.out] at hPv
      have HP1 : Hid (vl 65536 P = n * m) := hPv
      have HP2 : Hid (∀ d ∈ P, d < 65536) := hPd
      have HP3 : Hid (IHolds wr w.heap.size 3 (zs P)) := hPI
      have HP4 : Hid (Below w.heap.size w wr) := hPB
      have HP5 : Hid (P.length = K) := hPl
      clear hPv hPd hPI hPB hPl hPz
      go_wp2_with fail
      refine (trim_at wr w.heap.size K K 3 P HP3.out HP5.out (Nat.le_refl _) HP2.out (by omega)).mono ?_
      rintro e W3 ⟨⟨v, rfl, hv⟩, rfl⟩
      rw [HP1.out] at hv
      have HVV : Hid (NumV W3 65536 (n * m) v) := hv
      clear hv
      go_wp2_with fail
      go_ret
      exact ⟨⟨_, rfl, HVV.out⟩, HP4.out⟩
end Go.Proofs.YtohpbclofcflaaaGreat
