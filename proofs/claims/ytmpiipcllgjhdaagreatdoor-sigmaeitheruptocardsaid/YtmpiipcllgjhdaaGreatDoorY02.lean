/- Numbers as rows of digits; the reference's trim and Times. Lists of texts, and of lists; what the library's slices and sigma's own lists do with them. Two lists of texts: are they one? allScalars, unlike. unlike, place, wrongPair. place, wrongPair, and sigma's faces of the scalars' arithmetic. each and both. -/
import Derived.WalkKit
import Derived.WalkSpells
import Derived.WalkLawsBesides
import Derived.Handy
import Derived.Deep.Draws
import Derived.Deep.MidRow
import Derived.Deep.QuietTactic
import Derived.BigQuiet
import Derived.Deep.LoopGhost
import Derived.Laws.IdiomCopy
import Derived.Deep.OwnRows
import Derived.PlainAid
import Derived.Deep.RegionWith
import Derived.Laws.BytesArg
import Derived.Lib.LazyBuf
import Derived.Test.YtmpiipcllgjhdaaGreatDoorProg
import Derived.Deep.RegionHeld
set_option linter.unusedSimpArgs false
set_option linter.unusedVariables false
set_option maxRecDepth 100000
namespace Go.Proofs.YtmpiipcllgjhdaaGreatDoor
open Go.RowKit Go.Deep Go.PlainAid

theorem b16 : 2 ≤ 65536 := by omega
/-- What a list of digits is worth. -/
def vl (B : Nat) : List Nat → Nat
  | [] => 0
  | d :: r => d + B * vl B r
theorem vl_append (B : Nat) : ∀ l r : List Nat, vl B (l ++ r) = vl B l + B ^ l.length * vl B r
  | [], r => by simp [vl]
  | d :: l, r => by
    have := vl_append B l r
    simp only [List.cons_append, vl, this, List.length_cons]
    grind
theorem vl_snoc (B : Nat) (l : List Nat) (d : Nat) : vl B (l ++ [d]) = vl B l + B ^ l.length * d := by
  rw [vl_append]; simp [vl]
theorem vl_lt (B : Nat) : ∀ l : List Nat, (∀ d ∈ l, d < B) → vl B l < B ^ l.length
  | [], _ => by simp [vl]
  | d :: l, h => by
    have h1 := vl_lt B l (fun x hx => h x (by simp [hx]))
    have h2 := h d (by simp)
    simp only [vl, List.length_cons]
    have h3 : B * (vl B l + 1) ≤ B * B ^ l.length := Nat.mul_le_mul_left _ h1
    have h4 : B ^ (l.length + 1) = B * B ^ l.length := by grind
    rw [h4]
    have h5 : B * (vl B l + 1) = B * vl B l + B := by grind
    omega
theorem vl_zeros (B : Nat) (k : Nat) : vl B (List.replicate k 0) = 0 := by
  induction k with
  | zero => rfl
  | succ k ih => simp [List.replicate_succ, vl, ih]
/-- The digits of a number. -/
def dg (B n : Nat) : List Nat := if h : n = 0 ∨ B < 2 then [] else n % B :: dg B (n / B)
termination_by n
decreasing_by exact Nat.div_lt_self (by omega) (by omega)
theorem dg_zero (B : Nat) : dg B 0 = [] := by rw [dg]; simp
theorem dg_pos {B n : Nat} (hB : 2 ≤ B) (hn : n ≠ 0) : dg B n = n % B :: dg B (n / B) := by
  rw [dg, dif_neg (by omega)]
theorem dg_eq_nil {B n : Nat} (hB : 2 ≤ B) : dg B n = [] ↔ n = 0 := by
  constructor
  · intro h
    by_cases h0 : n = 0
    · exact h0
    · rw [dg_pos hB h0] at h; cases h
  · rintro rfl; exact dg_zero B
theorem vl_dg {B : Nat} (hB : 2 ≤ B) (n : Nat) : vl B (dg B n) = n := by
  induction n using Nat.strongRecOn with
  | _ n ih =>
    by_cases h0 : n = 0
    · subst h0; rw [dg_zero]; rfl
    · rw [dg_pos hB h0, vl, ih (n / B) (Nat.div_lt_self (by omega) (by omega))]
      exact Nat.mod_add_div n B
theorem dg_mem {B : Nat} (hB : 2 ≤ B) (n : Nat) : ∀ d ∈ dg B n, d < B := by
  induction n using Nat.strongRecOn with
  | _ n ih =>
    by_cases h0 : n = 0
    · subst h0; rw [dg_zero]; intro d hd; cases hd
    · rw [dg_pos hB h0]
      intro d hd
      rcases List.mem_cons.1 hd with rfl | hd
      · exact Nat.mod_lt _ (by omega)
      · exact ih (n / B) (Nat.div_lt_self (by omega) (by omega)) d hd
/-- The top digit is not 0. -/
def Topped (l : List Nat) : Prop := l = [] ∨ l.getD (l.length - 1) 0 ≠ 0
theorem dg_vl {B : Nat} (hB : 2 ≤ B) : ∀ l : List Nat, (∀ d ∈ l, d < B) → Topped l → dg B (vl B l) = l
  | [], _, _ => dg_zero B
  | d :: l, h, ht => by
    have hd := h d (by simp)
    have hl : ∀ x ∈ l, x < B := fun x hx => h x (by simp [hx])
    rcases ht with ht | ht
    · cases ht
    · by_cases hn : l = []
      · subst hn
        simp at ht
        have : vl B [d] = d := by simp [vl]
        rw [this, dg_pos hB ht, Nat.mod_eq_of_lt hd, Nat.div_eq_of_lt hd, dg_zero]
      · have hpos : 0 < l.length := List.length_pos_iff.2 hn
        have ht2 : Topped l := Or.inr (by
          have e : (d :: l).length - 1 = (l.length - 1) + 1 := by simp; omega
          rw [e, List.getD_cons_succ] at ht
          exact ht)
        have ih := dg_vl hB l hl ht2
        have hv : vl B l ≠ 0 := fun h0 => by rw [h0, dg_zero] at ih; exact hn ih.symm
        have hv2 : vl B (d :: l) ≠ 0 := by
          simp only [vl]
          have : 0 < B * vl B l := Nat.mul_pos (by omega) (by omega)
          omega
        rw [dg_pos hB hv2]
        simp only [vl]
        rw [Nat.add_mul_mod_self_left, Nat.mod_eq_of_lt hd, Nat.add_mul_div_left _ _ (by omega), Nat.div_eq_of_lt hd, Nat.zero_add, ih]
theorem dg_topped {B : Nat} (hB : 2 ≤ B) (n : Nat) : Topped (dg B n) := by
  induction n using Nat.strongRecOn with
  | _ n ih =>
    by_cases h0 : n = 0
    · subst h0; exact Or.inl (dg_zero B)
    · refine Or.inr ?_
      rw [dg_pos hB h0]
      rcases ih (n / B) (Nat.div_lt_self (by omega) (by omega)) with h | h
      · rw [h]
        have : n / B = 0 := (dg_eq_nil hB).1 h
        have hlt : n < B := (Nat.div_eq_zero_iff_lt (by omega)).1 this
        simp [Nat.mod_eq_of_lt hlt, h0]
      · by_cases hn : dg B (n / B) = []
        · rw [hn] at h; simp at h
        · have hpos : 0 < (dg B (n / B)).length := List.length_pos_iff.2 hn
          have e : (n % B :: dg B (n / B)).length - 1 = ((dg B (n / B)).length - 1) + 1 := by simp; omega
          rw [e, List.getD_cons_succ]
          exact h
theorem dg_len_le {B : Nat} (hB : 2 ≤ B) : ∀ (k n : Nat), n < B ^ k → (dg B n).length ≤ k
  | 0, n, h => by simp at h; subst h; simp [dg_zero]
  | k + 1, n, h => by
    by_cases h0 : n = 0
    · subst h0; simp [dg_zero]
    · rw [dg_pos hB h0, List.length_cons]
      have : n / B < B ^ k := by
        rw [Nat.div_lt_iff_lt_mul (by omega)]
        have : B ^ (k + 1) = B ^ k * B := by grind
        omega
      have := dg_len_le hB k (n / B) this
      omega
/-- A number of the program's own as it holds it. -/
abbrev I (x : Nat) : Value := .int .i64 (x : Int)
/-- At a lie these numbers. -/
def Row (w : World) (a : Option Addr) (l : List Nat) : Prop := ∀ i (h : i < l.length), ∃ b o, a = some ⟨b, o, none⟩ ∧ w.cell? ⟨b, o + i, none⟩ = some (I l[i])
theorem Row.nil (w : World) (a : Option Addr) : Row w a [] := fun i h => by cases h
theorem Row.of_below {w w' : World} {a : Option Addr} {l : List Nat} (h : Row w a l) (hb : Below w.heap.size w w') : Row w' a l := by
  intro i hi
  obtain ⟨b, o, ha, hc⟩ := h i hi
  exact ⟨b, o, ha, by rw [hb.cell (World.block_lt_of_cell? _ _ hc)]; exact hc⟩
theorem Row.take {w : World} {a : Option Addr} {l : List Nat} (h : Row w a l) (k : Nat) : Row w a (l.take k) := by
  intro i hi
  rw [List.length_take] at hi
  obtain ⟨b, o, ha, hc⟩ := h i (by omega)
  exact ⟨b, o, ha, by rw [List.getElem_take]; exact hc⟩
theorem Row.drew {w : World} {a : Option Addr} {l : List Nat} (h : Row w a l) (n : Nat) : Row (w.drewN n) a l := h
/-- A value that is the number n to the base B. -/
def NumV (w : World) (B n : Nat) (v : Value) : Prop := ∃ a cap, v = .slice a (dg B n).length cap ∧ (dg B n).length ≤ cap ∧ Row w a (dg B n)
theorem NumV.of_below {w w' : World} {B n : Nat} {v : Value} (h : NumV w B n v) (hb : Below w.heap.size w w') : NumV w' B n v := by
  obtain ⟨a, cap, h1, h2, h3⟩ := h
  exact ⟨a, cap, h1, h2, h3.of_below hb⟩
theorem trim_step {B : Nat} {l : List Nat} {k : Nat} (hk : 0 < k) (hl : k ≤ l.length) (hv : vl B (l.take k) = vl B l) (h0 : l[k - 1] = 0) : vl B (l.take (k - 1)) = vl B l := by
  have e : l.take k = l.take (k - 1) ++ [l[k - 1]] := by
    have := List.take_succ_eq_append_getElem (show k - 1 < l.length by omega)
    rwa [show k - 1 + 1 = k by omega] at this
  rw [← hv, e, h0, vl_snoc]; simp
theorem trim_end {B : Nat} (hB : 2 ≤ B) {w : World} {a : Option Addr} {l : List Nat} {k cap : Nat} (hr : Row w a l) (hc : l.length ≤ cap) (hd : ∀ d ∈ l, d < B) (hl : k ≤ l.length) (hv : vl B (l.take k) = vl B l)
    (h0 : ∀ h : 0 < k, l[k - 1] ≠ 0) : NumV w B (vl B l) (.slice a k cap) := by
  have ht : Topped (l.take k) := by
    by_cases hk : 0 < k
    · refine Or.inr ?_
      have e : (l.take k).length - 1 = k - 1 := by rw [List.length_take]; omega
      have hlt : k - 1 < (l.take k).length := by rw [List.length_take]; omega
      rw [e, List.getD_eq_getElem?_getD, List.getElem?_eq_getElem hlt, List.getElem_take]
      exact h0 hk
    · refine Or.inl ?_
      have : k = 0 := by omega
      subst this; rfl
  have hdg : dg B (vl B l) = l.take k := by
    rw [← hv]; exact dg_vl hB _ (fun d hd' => hd d (List.mem_of_mem_take hd')) ht
  refine ⟨a, cap, ?_, ?_, ?_⟩
  · rw [hdg, List.length_take, Nat.min_eq_left hl]
  · rw [hdg, List.length_take]; omega
  · rw [hdg]; exact hr.take k
theorem vl_take_succ (B : Nat) (l : List Nat) (i : Nat) : vl B (l.take (i + 1)) = vl B (l.take i) + B ^ i * l.getD i 0 := by
  by_cases h : i < l.length
  · rw [List.take_succ_eq_append_getElem h, vl_snoc, List.length_take, Nat.min_eq_left (by omega), List.getD_eq_getElem?_getD, List.getElem?_eq_getElem h]; rfl
  · rw [List.take_of_length_le (by omega), List.take_of_length_le (by omega), List.getD_eq_getElem?_getD, List.getElem?_eq_none (by omega)]; simp
/-- What holds when i limbs were gone through: p are the new ones, c is carried. -/
structure Puts (B : Nat) (l m : List Nat) (t : Int) (i : Nat) (p : List Nat) (c : Int) : Prop where
  len : p.length = i
  low : ∀ d ∈ p, d < B
  eq : (vl B (l.take i) : Int) + t * (vl B (m.take i) : Int) = (vl B p : Int) + c * (B : Int) ^ i
  hi : c ≤ t ∨ c ≤ 0
  lo : t ≤ c ∨ 0 ≤ c
theorem Puts.zero (B : Nat) (l m : List Nat) (t : Int) : Puts B l m t 0 [] 0 :=
  ⟨rfl, (fun d h => by cases h), by simp [vl], Or.inr (by omega), Or.inr (by omega)⟩
theorem Puts.step {B : Nat} {l m : List Nat} {t : Int} {i : Nat} {p : List Nat} {c : Int} (h : Puts B l m t i p c) (hB : 2 ≤ B) (x : Nat) (c' : Int) (hx : x < B) (hl : ∀ d ∈ l, d < B) (hm : ∀ d ∈ m, d < B)
    (he : (l.getD i 0 : Int) + t * (m.getD i 0 : Int) + c = (x : Int) + c' * (B : Int)) : Puts B l m t (i + 1) (p ++ [x]) c' := by
  have e1 := vl_take_succ B l i
  have e2 := vl_take_succ B m i
  have e3 := vl_snoc B p x
  have hli : l.getD i 0 < B := by
    by_cases hi : i < l.length
    · rw [List.getD_eq_getElem?_getD, List.getElem?_eq_getElem hi]; exact hl _ (List.getElem_mem _)
    · rw [List.getD_eq_getElem?_getD, List.getElem?_eq_none (by omega)]; simp; omega
  have hmi : m.getD i 0 < B := by
    by_cases hi : i < m.length
    · rw [List.getD_eq_getElem?_getD, List.getElem?_eq_getElem hi]; exact hm _ (List.getElem_mem _)
    · rw [List.getD_eq_getElem?_getD, List.getElem?_eq_none (by omega)]; simp; omega
  refine ⟨by simp [h.len], ?_, ?_, ?_, ?_⟩
  · intro d hd
    rcases List.mem_append.1 hd with hd | hd
    · exact h.low d hd
    · simp at hd; omega
  · rw [e1, e2, e3, h.len]
    have h0 := h.eq
    push_cast
    have : (B : Int) ^ i * ((l.getD i 0 : Int) + t * (m.getD i 0 : Int) + c) = (B : Int) ^ i * ((x : Int) + c' * (B : Int)) := by rw [he]
    grind
  · generalize l.getD i 0 = u at *
    generalize m.getD i 0 = v at *
    by_cases hc : c' ≤ 0
    · exact Or.inr hc
    · refine Or.inl ?_
      by_cases hc2 : c' ≤ t
      · exact hc2
      · exfalso
        have hpos : 1 ≤ c' := by omega
        by_cases ht : 0 ≤ t
        · have k1 : t * (v : Int) ≤ t * ((B : Int) - 1) := Int.mul_le_mul_of_nonneg_left (by omega) ht
          have k2 : (t + 1) * (B : Int) ≤ c' * (B : Int) := Int.mul_le_mul_of_nonneg_right (by omega) (by omega)
          have k3 : t * ((B : Int) - 1) = t * (B : Int) - t := by grind
          have k4 : (t + 1) * (B : Int) = t * (B : Int) + B := by grind
          have := h.hi
          omega
        · have k1 : t * (v : Int) ≤ 0 := Int.mul_nonpos_of_nonpos_of_nonneg (by omega) (by omega)
          have k2 : 1 * (B : Int) ≤ c' * (B : Int) := Int.mul_le_mul_of_nonneg_right hpos (by omega)
          have := h.hi
          omega
  · generalize l.getD i 0 = u at *
    generalize m.getD i 0 = v at *
    by_cases hc : 0 ≤ c'
    · exact Or.inr hc
    · refine Or.inl ?_
      by_cases hc2 : t ≤ c'
      · exact hc2
      · exfalso
        have hneg : c' ≤ -1 := by omega
        by_cases ht : 0 ≤ t
        · have k1 : 0 ≤ t * (v : Int) := Int.mul_nonneg ht (by omega)
          have k2 : c' * (B : Int) ≤ (-1) * (B : Int) := Int.mul_le_mul_of_nonneg_right hneg (by omega)
          have := h.lo
          omega
        · have k1 : t * ((B : Int) - 1) ≤ t * (v : Int) := Int.mul_le_mul_of_nonpos_left (by omega) (by omega)
          have k2 : c' * (B : Int) ≤ (t - 1) * (B : Int) := Int.mul_le_mul_of_nonneg_right (by omega) (by omega)
          have k3 : t * ((B : Int) - 1) = t * (B : Int) - t := by grind
          have k4 : (t - 1) * (B : Int) = t * (B : Int) - B := by grind
          have := h.lo
          omega
/-- Block b is an array of these numbers. -/
def IHolds (w : World) (b : Nat) (t : TypeId) (l : List Value) : Prop := w.heap[b]? = some (.cells l.toArray t)
theorem IHolds.lt {w : World} {b : Nat} {t : TypeId} {l : List Value} (h : IHolds w b t l) : b < w.heap.size := (Array.getElem?_eq_some_iff.1 h).1
theorem IHolds.cell {w : World} {b : Nat} {t : TypeId} {l : List Value} (h : IHolds w b t l) (i : Nat) (hi : i < l.length) : w.cell? ⟨b, i, none⟩ = some l[i] := by
  unfold IHolds at h
  simp [World.cell?, h, hi]
theorem IHolds.frozen {w : World} {b : Nat} {t : TypeId} {l : List Value} (h : IHolds w b t l) (i : Nat) : w.frozen? ⟨b, i, none⟩ = false := by
  unfold IHolds at h
  simp [World.frozen?, h]
theorem IHolds.set {w : World} {b : Nat} {t : TypeId} {l : List Value} (h : IHolds w b t l) (i : Nat) (x : Value) : IHolds (w.setCell ⟨b, i, none⟩ x) b t (l.set i x) := by
  unfold IHolds at *
  simp [World.setCell, Array.getElem?_modify, h, List.map_set]
theorem IHolds.drewN {w : World} {b : Nat} {t : TypeId} {l : List Value} (h : IHolds w b t l) (n : Nat) : IHolds (w.drewN n) b t l := h
theorem IHolds.alloc {w : World} {b : Nat} {t : TypeId} {l : List Value} (h : IHolds w b t l) (o : Obj) : IHolds (w.alloc o) b t l := by
  unfold IHolds; rw [Below.heap_alloc _ _ _ h.lt]; exact h
theorem IHolds.new (w : World) (t : TypeId) (l : List Value) : IHolds (w.alloc (.cells l.toArray t)) w.heap.size t l := by
  show (w.heap.push _)[w.heap.size]? = _
  simp
theorem IHolds.of_below {w w' : World} {b : Nat} {t : TypeId} {l : List Value} (h : IHolds w b t l) (hb : Below w.heap.size w w') : IHolds w' b t l := by
  unfold IHolds; rw [hb.block _ h.lt]; exact h
/-- Nothing but block b has turned, of what was there. -/
structure But (b : Nat) (w w' : World) : Prop where
  os : w'.os = w.os
  tape : w'.tape = w.tape
  output : w'.output = w.output
  size : w.heap.size ≤ w'.heap.size
  block : ∀ k, k < w.heap.size → k ≠ b → w'.heap[k]? = w.heap[k]?
theorem But.refl (b : Nat) (w : World) : But b w w := ⟨rfl, rfl, rfl, Nat.le_refl _, fun _ _ _ => rfl⟩
theorem But.trans {b : Nat} {u v w : World} (h : But b u v) (k : But b v w) : But b u w :=
  ⟨k.os.trans h.os, k.tape.trans h.tape, k.output.trans h.output, Nat.le_trans h.size k.size, fun i hi hb => (k.block i (Nat.lt_of_lt_of_le hi h.size) hb).trans (h.block i hi hb)⟩
theorem But.drewN {b : Nat} {u w : World} (h : But b u w) (n : Nat) : But b u (w.drewN n) := ⟨h.os, h.tape, h.output, h.size, h.block⟩
theorem But.setCell {b : Nat} {u w : World} (h : But b u w) (i : Nat) (x : Value) : But b u (w.setCell ⟨b, i, none⟩ x) :=
  h.trans ⟨rfl, rfl, rfl, by simp [World.setCell], fun k _ hb => Below.heap_setCell _ _ _ _ hb⟩
theorem But.cell {b : Nat} {u w : World} (h : But b u w) {k : Nat} (hk : k < u.heap.size) (hb : k ≠ b) (i : Nat) : w.cell? ⟨k, i, none⟩ = u.cell? ⟨k, i, none⟩ :=
  World.cell?_of_block (w := u) (h.block k hk hb)
/-- Where block b is new, nothing that was there has turned. -/
theorem But.below {b B : Nat} {u w : World} (h : But b u w) (hB : B ≤ u.heap.size) (hb : B ≤ b) : Below B u w :=
  ⟨h.os, h.tape, h.output, h.size, fun k hk => h.block k (by omega) (by omega)⟩
/-- What lies at a does not lie in block b. -/
def Apart (a : Option Addr) (b : Nat) : Prop := ∀ k o, a = some ⟨k, o, none⟩ → k ≠ b
theorem Row.of_but {w w' : World} {a : Option Addr} {l : List Nat} {b : Nat} (h : Row w a l) (ha : l ≠ [] → Apart a b) (hb : But b w w') : Row w' a l := by
  intro i hi
  obtain ⟨k, o, rfl, hc⟩ := h i hi
  exact ⟨k, o, rfl, by rw [hb.cell (World.block_lt_of_cell? _ _ hc) (ha (fun e => by subst e; cases hi) k o rfl)]; exact hc⟩
/-- Numbers as the cells hold them. -/
def zs (l : List Nat) : List Value := l.map I
theorem zs_length (l : List Nat) : (zs l).length = l.length := by simp [zs]
theorem zs_append (l r : List Nat) : zs (l ++ r) = zs l ++ zs r := by simp [zs]
theorem IHolds.row {w : World} {b : Nat} {t : TypeId} {pre post : List Value} {l : List Nat} (h : IHolds w b t (pre ++ zs l ++ post)) : Row w (some ⟨b, pre.length, none⟩) l := by
  intro i hi
  refine ⟨b, pre.length, rfl, ?_⟩
  rw [h.cell (pre.length + i) (by simp [zs_length]; omega)]
  rw [List.getElem_append_left (by simp [zs_length]; omega), List.getElem_append_right (by omega)]
  simp [zs]
theorem made_nums (n : Nat) : madeCells #[.int .i64 0] n = (zs (List.replicate n 0)).toArray := by
  apply Array.toList_inj.1
  rw [toList_madeCells_one]
  simp [zs]
/-- A row of the call's own as a number's cells. -/
theorem Row.of_owned {w : World} {base n : Nat} {v : Value} {l : List Nat} {e : TypeId} (h : w.ownsRow base e 1 v n (zs l)) : ∃ a cap, v = .slice a l.length cap ∧ l.length ≤ cap ∧ cap ≤ 9223372036854775807 ∧ Row w a l := by
  obtain ⟨hlen, ⟨rfl, h0⟩ | ⟨g, cap, cur, rfl, hb, hg, hc, hm, hs, ht⟩⟩ := h
  · rw [zs_length, Nat.mul_one] at hlen
    have : l = [] := List.length_eq_zero_iff.1 (by omega)
    subst this
    exact ⟨none, 0, rfl, by simp, by omega, Row.nil _ _⟩
  · rw [zs_length, Nat.mul_one] at hlen
    refine ⟨some ⟨g, 0, none⟩, cap, by rw [hlen], by omega, hm, ?_⟩
    intro i hi
    refine ⟨g, 0, rfl, ?_⟩
    rw [Nat.mul_one] at ht
    have h1 : (zs l)[i]? = some (I l[i]) := by simp [zs, hi]
    rw [← ht, List.getElem?_take, if_pos (by omega)] at h1
    simp only [World.cell?, hg]
    simpa using h1
theorem Tryz.info5 : (Tryz.prog.info? 5).map (fun i => (i.zero, i.size, i.bytes)) = some (some (.int .u8 0), 1, 1) := by kernel_rfl
/-- Bytes as the cells hold them. -/
abbrev Yb (x : UInt8) : Value := .int .u8 (x.toNat : Int)
def ys (l : List UInt8) : List Value := l.map Yb
theorem ys_length (l : List UInt8) : (ys l).length = l.length := by simp [ys]
theorem makeBytes (z : Int) (n : Nat) (hz : z = (n : Int)) (hn : n ≤ 4294967296) (w : World) : (Instr.makeSlice 143 (.int .i64 z) (.int .i64 z)).run Tryz.prog w = .ok (.slice (some ⟨w.heap.size, 0, none⟩) n n) (w.alloc (.cells (ys (List.replicate n 0)).toArray 5)) := by
  subst hz
  have := run_make_row' (P := Tryz.prog) 143 5 (.int .u8 0) 1 Tryz.underlying143 Tryz.info5 rfl .i64 .i64 n (by omega) (by omega) w
  rw [this]
  have e : madeCells #[.int .u8 0] n = (ys (List.replicate n 0)).toArray := by
    apply Array.toList_inj.1
    rw [toList_madeCells_one]
    simp [ys]
  rw [e]
theorem Tryz.info3 : (Tryz.prog.info? 3).map (fun i => (i.zero, i.size, i.bytes)) = some (some (.int .i64 0), 1, 8) := by kernel_rfl
theorem getD_lt {l : List Nat} (h : ∀ d ∈ l, d < 65536) (i : Nat) : l.getD i 0 < 65536 := by
  by_cases hi : i < l.length
  · rw [List.getD_eq_getElem?_getD, List.getElem?_eq_getElem hi]; exact h _ (List.getElem_mem _)
  · rw [List.getD_eq_getElem?_getD, List.getElem?_eq_none (by omega)]; simp
theorem vl_set (B : Nat) (P : List Nat) (t x : Nat) (h : t < P.length) : vl B (P.set t x) + B ^ t * P[t] = vl B P + B ^ t * x := by
  have e1 : P.set t x = P.take t ++ (x :: P.drop (t + 1)) := by
    rw [List.set_eq_take_append_cons_drop, if_pos h]
  have e2 : P = P.take t ++ (P[t] :: P.drop (t + 1)) := by rw [← List.drop_eq_getElem_cons h, List.take_append_drop]
  have hl : (P.take t).length = t := by rw [List.length_take]; omega
  have h1 : vl B (P.set t x) = vl B (P.take t) + B ^ t * (x + B * vl B (P.drop (t + 1))) := by
    rw [e1, vl_append, hl]; rfl
  have h2 : vl B P = vl B (P.take t) + B ^ t * (P[t] + B * vl B (P.drop (t + 1))) := by
    have := vl_append B (P.take t) (P[t] :: P.drop (t + 1))
    rw [← e2, hl] at this
    rw [this]; rfl
  rw [h1, h2]
  grind
/-- A row of the product: j digits of b times the digit u, laid upon P at i. -/
structure Mulr (b : List Nat) (P0 : List Nat) (i u j : Nat) (P : List Nat) (up : Nat) : Prop where
  len : P.length = P0.length
  low : ∀ d ∈ P, d < 65536
  up9 : up ≤ 65535
  eq : vl 65536 P + 65536 ^ (i + j) * up = vl 65536 P0 + 65536 ^ i * u * vl 65536 (b.take j)
  tail : ∀ t, i + b.length ≤ t → P.getD t 0 = P0.getD t 0
theorem Mulr.zero (b P0 : List Nat) (i u : Nat) (h : ∀ d ∈ P0, d < 65536) : Mulr b P0 i u 0 P0 0 := ⟨rfl, h, by omega, by simp [vl], fun _ _ => rfl⟩
theorem Mulr.step {b P0 : List Nat} {i u j : Nat} {P : List Nat} {up : Nat} (h : Mulr b P0 i u j P up) (hj : j < b.length) (hP : i + j < P.length) (hu : u < 65536) (hb : ∀ d ∈ b, d < 65536) :
    Mulr b P0 i u (j + 1) (P.set (i + j) ((P[i + j] + u * b[j] + up) % 65536)) ((P[i + j] + u * b[j] + up) / 65536) := by
  have hp : P[i + j] < 65536 := h.low _ (List.getElem_mem _)
  have hbj : b[j] < 65536 := hb _ (List.getElem_mem _)
  have hm : u * b[j] ≤ 65535 * 65535 := Nat.mul_le_mul (by omega) (by omega)
  have h9 := h.up9
  refine ⟨by simp [h.len], ?_, by omega, ?_, ?_⟩
  · intro d hd
    rcases List.mem_or_eq_of_mem_set hd with hd | hd
    · exact h.low d hd
    · omega
  · have e1 := vl_set 65536 P (i + j) ((P[i + j] + u * b[j] + up) % 65536) hP
    have e2 := vl_take_succ 65536 b j
    rw [List.getD_eq_getElem?_getD, List.getElem?_eq_getElem hj] at e2
    simp only [Option.getD_some] at e2
    have e3 := h.eq
    rw [e2]
    have hs : P[i + j] + u * b[j] + up = (P[i + j] + u * b[j] + up) % 65536 + 65536 * ((P[i + j] + u * b[j] + up) / 65536) := (Nat.mod_add_div _ 65536).symm
    generalize (P[i + j] + u * b[j] + up) % 65536 = r at *
    generalize (P[i + j] + u * b[j] + up) / 65536 = q at *
    generalize vl 65536 (P.set (i + j) r) = V at *
    generalize P[i + j] = x at *
    generalize b[j] = y at *
    have hs2 : 65536 ^ (i + j) * (x + u * y + up) = 65536 ^ (i + j) * (r + 65536 * q) := by rw [hs]
    have hp1 : (65536 : Nat) ^ (i + (j + 1)) = 65536 * 65536 ^ (i + j) := by rw [← Nat.add_assoc, Nat.pow_succ, Nat.mul_comm]
    have hp2 : (65536 : Nat) ^ (i + j) = 65536 ^ i * 65536 ^ j := Nat.pow_add _ _ _
    rw [hp1]
    rw [hp2] at *
    grind
  · intro t ht
    have := h.tail t ht
    rw [← this, List.getD_eq_getElem?_getD, List.getD_eq_getElem?_getD, List.getElem?_set_ne (by omega)]
theorem Mulr.done {b P0 : List Nat} {i u : Nat} {P : List Nat} {up x m : Nat} (h : Mulr b P0 i u b.length P up) (hP : i + b.length < P.length) (h0 : ∀ t, i + b.length ≤ t → P0.getD t 0 = 0) (hv : vl 65536 P0 = x * m) (hm : vl 65536 b = m) :
    vl 65536 (P.set (i + b.length) up) = (x + 65536 ^ i * u) * m ∧ (∀ d ∈ P.set (i + b.length) up, d < 65536) ∧ (P.set (i + b.length) up).length = P0.length ∧ ∀ t, i + 1 + b.length ≤ t → (P.set (i + b.length) up).getD t 0 = 0 := by
  have e1 := vl_set 65536 P (i + b.length) up hP
  have hz : P[i + b.length] = 0 := by
    have h1 := h.tail (i + b.length) (Nat.le_refl _)
    rw [h0 _ (Nat.le_refl _), List.getD_eq_getElem?_getD, List.getElem?_eq_getElem hP] at h1
    exact h1
  have e2 := h.eq
  rw [List.take_length, hm, hv] at e2
  rw [hz] at e1
  refine ⟨?_, ?_, by simp [h.len], ?_⟩
  · have : vl 65536 (P.set (i + b.length) up) = x * m + 65536 ^ i * u * m := by omega
    rw [this]; grind
  · intro d hd
    have := h.up9
    rcases List.mem_or_eq_of_mem_set hd with hd | hd
    · exact h.low d hd
    · omega
  · intro t ht
    rw [List.getD_eq_getElem?_getD, List.getElem?_set_ne (by omega), ← List.getD_eq_getElem?_getD, h.tail t (by omega), h0 t (by omega)]
theorem NumV.of_owned {w : World} {base B n : Nat} {v : Value} {e : TypeId} {k : Nat} (h : w.ownsRow base e 1 v k (zs (dg B n))) : NumV w B n v := by
  obtain ⟨a, cap, h1, h2, h3, h4⟩ := Row.of_owned h
  exact ⟨a, cap, h1, h2, h4⟩
theorem zs_set (l : List Nat) (t x : Nat) (y : Int) (hy : y = (x : Int)) : (zs l).set t (.int .i64 y) = zs (l.set t x) := by
  subst hy; simp [zs, List.map_set]
theorem IHolds.at {w : World} {b : Nat} {t : TypeId} {l : List Nat} (h : IHolds w b t (zs l)) (i : Nat) (hi : i < l.length) : w.cell? ⟨b, i, none⟩ = some (I l[i]) := by
  rw [h.cell i (by rw [zs_length]; exact hi)]; simp [zs]
/-- i digits of a sum: what is laid, and what goes on. -/
structure Adds (a b : List Nat) (i : Nat) (D : List Nat) (up : Nat) : Prop where
  len : D.length = i
  low : ∀ d ∈ D, d < 65536
  up1 : up ≤ 1
  eq : vl 65536 D + 65536 ^ i * up = vl 65536 (a.take i) + vl 65536 (b.take i)
theorem Adds.step {a b : List Nat} {i : Nat} {D : List Nat} {up : Nat} (h : Adds a b i D up) (ha : ∀ d ∈ a, d < 65536) (hb : ∀ d ∈ b, d < 65536) :
    Adds a b (i + 1) (D ++ [(up + a.getD i 0 + b.getD i 0) % 65536]) ((up + a.getD i 0 + b.getD i 0) / 65536) := by
  have g1 := getD_lt ha i
  have g2 := getD_lt hb i
  have h1 := h.up1
  refine ⟨by simp [h.len], ?_, by omega, ?_⟩
  · intro d hd
    rcases List.mem_append.1 hd with hd | hd
    · exact h.low d hd
    · simp at hd; omega
  · rw [vl_snoc, h.len, vl_take_succ, vl_take_succ]
    have e := h.eq
    have hs : up + a.getD i 0 + b.getD i 0 = (up + a.getD i 0 + b.getD i 0) % 65536 + 65536 * ((up + a.getD i 0 + b.getD i 0) / 65536) := (Nat.mod_add_div _ 65536).symm
    generalize (up + a.getD i 0 + b.getD i 0) % 65536 = r at *
    generalize (up + a.getD i 0 + b.getD i 0) / 65536 = q at *
    generalize a.getD i 0 = x at *
    generalize b.getD i 0 = y at *
    have hp : (65536 : Nat) ^ (i + 1) = 65536 ^ i * 65536 := Nat.pow_succ _ _
    rw [hp]
    have hs2 : 65536 ^ i * (up + x + y) = 65536 ^ i * (r + 65536 * q) := by rw [hs]
    generalize 65536 ^ i = P at *
    grind
theorem vl_take_all {l : List Nat} {i : Nat} (h : l.length ≤ i) : vl 65536 (l.take i) = vl 65536 l := by rw [List.take_of_length_le h]
/-- The k lowest bytes of a number, the highest first. -/
def beB : Nat → Nat → List UInt8
  | 0, _ => []
  | k + 1, N => UInt8.ofNat (N / 256 ^ k % 256) :: beB k N
theorem beB_length (N : Nat) : ∀ k, (beB k N).length = k
  | 0 => rfl
  | k + 1 => by simp [beB, beB_length N k]
theorem beB_get (N : Nat) : ∀ (k i : Nat) (h : i < (beB k N).length), (beB k N)[i] = UInt8.ofNat (N / 256 ^ (k - 1 - i) % 256)
  | 0, i, h => by simp [beB] at h
  | k + 1, 0, h => by simp [beB]
  | k + 1, i + 1, h => by
    have h' : i < (beB k N).length := by simp [beB] at h; exact h
    have := beB_get N k i h'
    simp only [beB, List.getElem_cons_succ]
    rw [this]
    congr 3
    rw [beB_length] at h'
    congr 1
    omega
theorem ys_set (l : List UInt8) (t : Nat) (x : UInt8) (y : Int) (hy : y = (x.toNat : Int)) : (ys l).set t (.int .u8 y) = ys (l.set t x) := by
  subst hy; simp [ys, List.map_set]
end Go.Proofs.YtmpiipcllgjhdaaGreatDoor

/- The program's numbers of four words; their text. -/
namespace Go.Proofs.YtmpiipcllgjhdaaGreatDoor
open Go.RowKit Go.Deep Go.PlainAid

/-- A word. -/
abbrev U (x : Nat) : Value := .int .u64 (x : Int)
def us (l : List Nat) : List Value := l.map U
theorem us_length (l : List Nat) : (us l).length = l.length := by simp [us]
/-- The byte at a place, out of its word. -/
theorem byte_word (ws : List Nat) (hw : ∀ x ∈ ws, x < 18446744073709551616) (p : Nat) : ws.getD (p / 8) 0 / 2 ^ (p % 8 * 8) % 256 = vl 18446744073709551616 ws / 256 ^ p % 256 := by
  have hB : 2 ≤ 18446744073709551616 := by omega
  have hg : ws.getD (p / 8) 0 = vl 18446744073709551616 ws / 18446744073709551616 ^ (p / 8) % 18446744073709551616 := by
    generalize p / 8 = q
    induction q generalizing ws with
    | zero =>
      cases ws with
      | nil => simp [vl]
      | cons x l =>
        have hx := hw x (by simp)
        simp only [List.getD_cons_zero, vl, Nat.pow_zero, Nat.div_one]
        omega
    | succ q ih =>
      cases ws with
      | nil => simp [vl]
      | cons x l =>
        have hx := hw x (by simp)
        have := ih l (fun y hy => hw y (by simp [hy]))
        simp only [List.getD_cons_succ, vl]
        rw [this, Nat.pow_succ, Nat.mul_comm (18446744073709551616 ^ q), ← Nat.div_div_eq_div_mul]
        rw [show (x + 18446744073709551616 * vl 18446744073709551616 l) / 18446744073709551616 = vl 18446744073709551616 l by omega]
  rw [hg]
  have e : 256 ^ p = 18446744073709551616 ^ (p / 8) * 2 ^ (p % 8 * 8) := by
    rw [show (18446744073709551616 : Nat) = 256 ^ 8 from rfl, ← Nat.pow_mul, Nat.mul_comm (p % 8) 8, Nat.pow_mul 2 8, show (2 : Nat) ^ 8 = 256 from rfl, ← Nat.pow_add]
    congr 1
    omega
  rw [e, ← Nat.div_div_eq_div_mul]
  generalize vl 18446744073709551616 ws / 18446744073709551616 ^ (p / 8) = y
  have hr : p % 8 < 8 := Nat.mod_lt _ (by omega)
  generalize p % 8 = r at *
  have : r = 0 ∨ r = 1 ∨ r = 2 ∨ r = 3 ∨ r = 4 ∨ r = 5 ∨ r = 6 ∨ r = 7 := by omega
  rcases this with rfl | rfl | rfl | rfl | rfl | rfl | rfl | rfl <;> simp only [Nat.reduceMul, Nat.reducePow] <;> omega
/-- What is laid after i bytes, from the first one on. -/
def topT (S i N : Nat) : List UInt8 := (beB S N).take i ++ List.replicate (S - i) 0
theorem topT_length {S i N : Nat} (h : i ≤ S) : (topT S i N).length = S := by simp [topT, beB_length]; omega
theorem topT_step {S i N x : Nat} (h : i < S) (hx : x = N / 256 ^ (S - 1 - i) % 256) : (ys (topT S i N)).set i (.int .u8 (x : Int)) = ys (topT S (i + 1) N) := by
  have hx2 : x < 256 := by omega
  rw [ys_set _ _ (UInt8.ofNat x) _ (by rw [UInt8.toNat_ofNat']; omega)]
  congr 1
  unfold topT
  have hl : i < (beB S N).length := by rw [beB_length]; exact h
  have g := beB_get N S i hl
  rw [List.set_append_right _ _ (by simp; omega)]
  rw [show i - ((beB S N).take i).length = 0 by simp; omega]
  have e : List.replicate (S - i) (0 : UInt8) = 0 :: List.replicate (S - (i + 1)) 0 := by
    rw [← List.replicate_succ]
    congr 1
    omega
  rw [e, List.take_succ_eq_append_getElem hl, g, ← hx, List.append_assoc]
  rfl
theorem IHolds.of_but {w w' : World} {b k : Nat} {t : TypeId} {l : List Value} (h : IHolds w k t l) (hb : But b w w') (hne : k ≠ b) : IHolds w' k t l := by
  have hl := h.lt
  unfold IHolds at *
  rw [hb.block k hl hne]; exact h
set_option maxRecDepth 100000 in
set_option maxHeartbeats 2000000 in
theorem text_any (w : World) (x0 x1 x2 x3 S : Nat) (h0 : x0 < 18446744073709551616) (h1 : x1 < 18446744073709551616) (h2 : x2 < 18446744073709551616) (h3 : x3 < 18446744073709551616) (hS : S ≤ 32) :
    Calls Tryz.prog 103 #[.agg #[U x0, U x1, U x2, U x3], .int .i64 (S : Int)] w fun e w' => e = .returned (.string ⟨(beB S (vl 18446744073709551616 [x0, x1, x2, x3])).toArray⟩) ∧ Below w.heap.size w w' := by
  have HW : Hid (∀ p, [x0, x1, x2, x3].getD (p / 8) 0 / 2 ^ (p % 8 * 8) % 256 = vl 18446744073709551616 [x0, x1, x2, x3] / 256 ^ p % 256) := fun p => byte_word _ (by intro x hx; simp at hx; omega) p
  have HL : Hid (∀ x ∈ [x0, x1, x2, x3], x < 18446744073709551616) := by show ∀ _, _; intro x hx; simp at hx; omega
  generalize vl 18446744073709551616 [x0, x1, x2, x3] = n at *
  have hmk := fun w => makeBytes (S : Int) S rfl (by omega) w
  go_enter Tryz.func103, Tryz.ntmps103
  go_wp2_with fail
  have q0 : Hid (IHolds ((w.alloc (.cells #[U x0, U x1, U x2, U x3] 73)).alloc (.cells (ys (List.replicate S 0)).toArray 5)) w.heap.size 73 (us [x0, x1, x2, x3])) := (IHolds.new w 73 (us [x0, x1, x2, x3])).alloc _
  have q1 : Hid (IHolds ((w.alloc (.cells #[U x0, U x1, U x2, U x3] 73)).alloc (.cells (ys (List.replicate S 0)).toArray 5)) (w.heap.size + 1) 5 (ys (topT S 0 n))) := by
    show IHolds _ _ _ _
    have : topT S 0 n = List.replicate S 0 := by simp [topT]
    rw [this]
    have q := IHolds.new (w.alloc (.cells #[U x0, U x1, U x2, U x3] 73)) 5 (ys (List.replicate S 0))
    rw [World.size_alloc] at q
    exact q
  have q2 : Hid (Below w.heap.size w ((w.alloc (.cells #[U x0, U x1, U x2, U x3] 73)).alloc (.cells (ys (List.replicate S 0)).toArray 5))) := ((Below.refl _ w).alloc (Nat.le_refl _) _).alloc (by simp) _
  clear hmk
  generalize (w.alloc (.cells #[U x0, U x1, U x2, U x3] 73)).alloc (.cells (ys (List.replicate S 0)).toArray 5) = W0 at *
  go_loopg [12] S (fun gk v12 wr => ∃ i : Nat, i + gk = S ∧ v12 = .int .i64 (i : Int) ∧ IHolds wr w.heap.size 73 (us [x0, x1, x2, x3]) ∧ IHolds wr (w.heap.size + 1) 5 (ys (topT S i n)) ∧ Below w.heap.size w wr)
  case atStart => exact ⟨0, by omega, rfl, q0.out, q1.out, q2.out⟩
  case round =>
    obtain ⟨i, hi, rfl, hA, hI, hB⟩ := hrel
    clear q0 q1 q2
    by_cases hlt : i < S
    · have il : (i : Int) < (S : Int) := by omega
      obtain ⟨p, hp⟩ : ∃ p, p = S - 1 - i := ⟨_, rfl⟩
      obtain ⟨q, hq⟩ : ∃ q, q = p / 8 := ⟨_, rfl⟩
      obtain ⟨r, hr⟩ : ∃ r, r = p % 8 := ⟨_, rfl⟩
      obtain ⟨t, ht⟩ : ∃ t, t = r * 8 := ⟨_, rfl⟩
      have kp : (S : Int) - 1 - (i : Int) = (p : Int) := by omega
      have kq : (p : Int) / 8 = (q : Int) := by omega
      have kq2 : (p : Int).tdiv 8 = (q : Int) := by rw [Int.tdiv_eq_ediv_of_nonneg (by omega)]; omega
      have kr : (p : Int) % 8 = (r : Int) := by omega
      have kr2 : (p : Int).tmod 8 = (r : Int) := by rw [Int.tmod_eq_emod_of_nonneg (by omega)]; omega
      have kt : (r : Int) * 8 = (t : Int) := by omega
      have p9 : p ≤ 31 := by omega
      have q9 : q ≤ 3 := by omega
      have r9 : r ≤ 7 := by omega
      have t9 : t ≤ 56 := by omega
      have i9 : i ≤ 31 := by omega
      have hc : wr.cell? ⟨w.heap.size, q, none⟩ = some (U ([x0, x1, x2, x3].getD q 0)) := by
        rw [hA.cell q (by rw [us_length]; simp; omega)]
        simp only [us, List.getElem_map]
        rw [List.getD_eq_getElem?_getD, List.getElem?_eq_getElem (by simp; omega)]
        rfl
      have hx := HW.out p
      rw [← hq, ← hr, ← ht] at hx
      have hu : [x0, x1, x2, x3].getD q 0 < 18446744073709551616 := by
        rw [List.getD_eq_getElem?_getD, List.getElem?_eq_getElem (by simp; omega)]
        exact HL.out _ (List.getElem_mem _)
      generalize [x0, x1, x2, x3].getD q 0 = u at *
      obtain ⟨y, hy⟩ : ∃ y, y = u / 2 ^ t := ⟨_, rfl⟩
      obtain ⟨x, hx2⟩ : ∃ x, x = y % 256 := ⟨_, rfl⟩
      have y9 : y < 18446744073709551616 := by rw [hy]; exact Nat.lt_of_le_of_lt (Nat.div_le_self _ _) hu
      have ky : (u : Int) / 2 ^ t = (y : Int) := by rw [hy]; norm_cast
      have ky2 : (u : Int) >>> t = (y : Int) := by rw [hy, Int.shiftRight_eq_div_pow]; norm_cast
      have kx : (y : Int) % 256 = (x : Int) := by omega
      have x9 : x < 256 := by omega
      have hcl : (ys (topT S i n)).length = S := by rw [ys_length, topT_length (by omega)]
      have hc0 : wr.cell? ⟨w.heap.size + 1, i, none⟩ = some ((ys (topT S i n))[i]'(by omega)) := hI.cell i (by omega)
      have hf0 : wr.frozen? ⟨w.heap.size + 1, i, none⟩ = false := hI.frozen i
      have I3 : Hid (IHolds (wr.setCell ⟨w.heap.size + 1, i, none⟩ (.int .u8 (x : Int))) (w.heap.size + 1) 5 (ys (topT S (i + 1) n))) := by
        have h1 := hI.set i (.int .u8 (x : Int))
        rw [topT_step hlt (show x = n / 256 ^ (S - 1 - i) % 256 by rw [← hp, ← hx, hx2, hy])] at h1
        exact h1
      have B3 : Hid (Below w.heap.size w (wr.setCell ⟨w.heap.size + 1, i, none⟩ (.int .u8 (x : Int)))) := hB.setCell (by show w.heap.size ≤ w.heap.size + 1; omega) _
      have A3 : Hid (IHolds (wr.setCell ⟨w.heap.size + 1, i, none⟩ (.int .u8 (x : Int))) w.heap.size 73 (us [x0, x1, x2, x3])) := hA.of_but ((But.refl _ wr).setCell i _) (by omega)
      generalize (ys (topT S i n))[i]'(by omega) = old at *
      clear hA hI hB hcl hp hq hr ht hx hy hx2
      go_wp2_with fail
      go_roundg (gk - 1)
      case measure => omega
      case rel => exact ⟨i + 1, by omega, by go_num, A3.out, I3.out, B3.out⟩
    · obtain rfl : i = S := by omega
      have il : ¬ (i : Int) < (i : Int) := by omega
      have HB : Hid (Below w.heap.size w wr) := hB
      have e : topT i i n = beB i n := by unfold topT; rw [Nat.sub_self, List.take_of_length_le (by rw [beB_length]; omega)]; simp
      rw [e] at hI
      have hcl := beB_length n i
      obtain ⟨X, hX⟩ : ∃ X, X = beB i n := ⟨_, rfl⟩
      have HX : Hid (X = beB i n) := hX
      rw [← hX] at hI hcl
      clear hX
      have hcv := run_convert_bytes_arg (P := Tryz.prog) wr 143 5 Tryz.underlying143 Tryz.underlying5 (w.heap.size + 1) 0 i i (X.map fun x => (x.toNat : Int)) (by simpa using hcl) (fun k hk => by
        rw [Nat.zero_add, hI.cell k (by rw [ys_length]; omega)]
        simp [ys, List.getElem?_eq_getElem (show k < X.length by omega)]) 9 Tryz.underlying9
      rw [Lib.Lz.strOfNums_map] at hcv
      clear hA hI hB e hcl
      go_wp2_with fail
      go_ret
      exact ⟨by rw [← HX.out]; rfl, HB.out⟩
end Go.Proofs.YtmpiipcllgjhdaaGreatDoor

/- Small words for long walks. -/
namespace Go.Proofs.YtmpiipcllgjhdaaGreatDoor
open Go.RowKit Go.Deep Go.PlainAid

theorem IHolds.two0 {W : World} {b : Nat} {t : TypeId} {x y : Value} (h : IHolds W b t [x, y]) : W.cell? ⟨b, 0, none⟩ = some x := h.cell 0 (by simp)
theorem IHolds.two1 {W : World} {b : Nat} {t : TypeId} {x y : Value} (h : IHolds W b t [x, y]) : W.cell? ⟨b, 1, none⟩ = some y := h.cell 1 (by simp)
theorem aB {b w w' : World} (h : Hid (Below b.heap.size b w)) (hb : Below w.heap.size w w') : Hid (Below b.heap.size b w') := h.out.trans (hb.mono h.out.size)
theorem aJ {w w' : World} {b : Nat} {t : TypeId} {l : List Value} (h : Hid (IHolds w b t l)) (hb : Below w.heap.size w w') : Hid (IHolds w' b t l) := h.out.of_below hb
theorem aN {w w' : World} {B n : Nat} {v : Value} (h : Hid (NumV w B n v)) (hb : Below w.heap.size w w') : Hid (NumV w' B n v) := h.out.of_below hb
theorem tJ {w w' : World} {b k : Nat} {t : TypeId} {l : List Value} (h : Hid (IHolds w k t l)) (hb : But b w w') (hne : k ≠ b) : Hid (IHolds w' k t l) := h.out.of_but hb hne
theorem nJ {w : World} {k : Nat} {t : TypeId} {l : List Value} (h : Hid (IHolds w k t l)) : Hid (k ≠ w.heap.size) := by
  have := h.out.lt; show _ ≠ _; omega
theorem sN {w : World} {B n : Nat} {v : Value} (h : Hid (NumV w B n v)) : ∃ a L c, v = .slice a L c := by
  obtain ⟨a, cap, h, _⟩ := h.out; exact ⟨_, _, _, h⟩
theorem dB (w : World) : Below w.heap.size w w.drew := (Below.refl _ _).drew
theorem nB (w : World) (o : Obj) : Below w.heap.size w (w.alloc o) := (Below.refl _ _).alloc (Nat.le_refl _) _
theorem fJ {w : World} {b : Nat} {t : TypeId} {l : List Value} (h : Hid (IHolds w b t l)) : ∀ i, w.frozen? ⟨b, i, none⟩ = false := fun i => h.out.frozen i
theorem cJ {w : World} {b : Nat} {t : TypeId} {x y : Value} (h : Hid (IHolds w b t [x, y])) : w.cell? ⟨b, 0, none⟩ = some x ∧ w.cell? ⟨b, 1, none⟩ = some y := ⟨h.out.two0, h.out.two1⟩
theorem c2 {w : World} {b : Nat} {t : TypeId} {x y : Value} (h : IHolds w b t [x, y]) : w.cell? ⟨b, 0, none⟩ = some x ∧ w.cell? ⟨b, 1, none⟩ = some y := ⟨h.two0, h.two1⟩
theorem y1 {α : Type} {xs : List α} {i : Nat} (h : i < xs.toArray.size) : xs.toArray[i] = xs[i]'(by simpa using h) := List.getElem_toArray h
theorem y2 {α : Type} (a : α) (l : List α) (i : Nat) (h : i + 1 < (a :: l).length) : (a :: l)[i + 1] = l[i]'(by simpa using h) := List.getElem_cons_succ a l i h
theorem y3 {α : Type} (a : α) (l : List α) (h : 0 < (a :: l).length) : (a :: l)[0] = a := List.getElem_cons_zero a l h
theorem y4 {α : Type} {l : List α} {i : Nat} {a : α} : l.toArray.setIfInBounds i a = (l.set i a).toArray := List.setIfInBounds_toArray _ _ _
theorem y5 {α : Type} {x : α} {l : List α} {a : α} : (x :: l).set 0 a = a :: l := List.set_cons_zero
theorem y6 {α : Type} {x : α} {l : List α} {n : Nat} {a : α} : (x :: l).set (n + 1) a = x :: l.set n a := List.set_cons_succ
theorem y7 {α : Type} {xs : Array α} : xs.toList.toArray = xs := Array.toArray_toList
theorem tk {P : Program} {md : Region.Mode} {ops : Array Oper} {Q : Exit → Act → World → Prop} {S : World → Prop} {i : Nat} {oi : Oper} {v : Value} {fuel : Nat} {listed : Array Bool} {a : Act} {w : World} (hi : ops[i]? = some oi)
    (hs : (Region.noSelect ops && (Region.free md ops listed i && (Region.ready md ops listed).contains i)) = true)
    (hQ : ∀ c a w, Q (.panic c) (a.put oi.dst v) w → Q (.panic c) a w) (hw : Region.wanted oi (yielded ops a.tmps) = true) (hy : ∀ w, S w → (execOp a.eval oi).run P w = .ok (.value v) w) (hS : S w)
    (h : wpAnyH P md ops Q S fuel (listed.setIfInBounds i true) (a.put oi.dst v) w) : wpAnyH P md ops Q S (fuel + 1) listed a w := by
  simp only [Bool.and_eq_true] at hs
  exact wpAnyH_take hi hs.1 hs.2.1 hs.2.2 hQ (Or.inl ⟨hw, hy⟩) hS h
end Go.Proofs.YtmpiipcllgjhdaaGreatDoor
namespace Go.Proofs.YtmpiipcllgjhdaaGreatDoor
open Go.RowKit Go.Deep Go.PlainAid

/-- A list of texts. -/
def SL (w : World) (a : Option Addr) (l : List ByteArray) : Prop := ∀ i (h : i < l.length), ∃ b o, a = some ⟨b, o, none⟩ ∧ w.cell? ⟨b, o + i, none⟩ = some (.string l[i])
theorem cell_lt {w : World} {b o : Nat} {v : Value} (h : w.cell? ⟨b, o, none⟩ = some v) : b < w.heap.size := by
  unfold World.cell? at h
  split at h
  · rename_i h1
    exact (Array.getElem?_eq_some_iff.1 h1).1
  · cases h
theorem SL.of_below {w w' : World} {a : Option Addr} {l : List ByteArray} (h : SL w a l) (hb : Below w.heap.size w w') : SL w' a l := by
  intro i hi
  obtain ⟨b, o, e, hc⟩ := h i hi
  exact ⟨b, o, e, (World.cell?_of_block (a := ⟨b, _, none⟩) (hb.block b (cell_lt hc))).trans hc⟩
/-- A list of texts, and its room. -/
structure SK (w : World) (a : Option Addr) (c : Nat) (l : List ByteArray) : Prop where
  sl : SL w a l
  le : l.length ≤ c
theorem SK.of_below {w w' : World} {a : Option Addr} {c : Nat} {l : List ByteArray} (h : SK w a c l) (hb : Below w.heap.size w w') : SK w' a c l := ⟨h.sl.of_below hb, h.le⟩
/-- The same, in a block of texts. -/
structure SY (w : World) (a : Option Addr) (c : Nat) (l : List ByteArray) : Prop where
  sk : SK w a c l
  ty : ∀ b o, a = some ⟨b, o, none⟩ → ∃ cs fz, w.heap[b]? = some (.cells cs 9 fz)
theorem SY.of_below {w w' : World} {a : Option Addr} {c : Nat} {l : List ByteArray} (h : SY w a c l) (hb : Below w.heap.size w w') : SY w' a c l := ⟨h.sk.of_below hb, fun b o e => by
  obtain ⟨cs, fz, q⟩ := h.ty b o e
  exact ⟨cs, fz, (hb.block b (Array.getElem?_eq_some_iff.1 q).1).trans q⟩⟩
/-- A list of lists of texts. -/
def SLL (w : World) (a : Option Addr) (l : List (List ByteArray)) : Prop := ∀ i (h : i < l.length), ∃ b o a' c', a = some ⟨b, o, none⟩ ∧ w.cell? ⟨b, o + i, none⟩ = some (.slice a' (l[i]).length c') ∧ SY w a' c' l[i]
theorem SLL.of_below {w w' : World} {a : Option Addr} {l : List (List ByteArray)} (h : SLL w a l) (hb : Below w.heap.size w w') : SLL w' a l := by
  intro i hi
  obtain ⟨b, o, a', c', e, hc, hs⟩ := h i hi
  exact ⟨b, o, a', c', e, (World.cell?_of_block (a := ⟨b, _, none⟩) (hb.block b (cell_lt hc))).trans hc, hs.of_below hb⟩
theorem any_take {α : Type} (p : α → Bool) {l : List α} {i : Nat} (h : i < l.length) : (l.take (i + 1)).any p = ((l.take i).any p || p l[i]) := by
  rw [List.take_succ_eq_append_getElem h, List.any_append, List.any_cons, List.any_nil, Bool.or_false]
theorem any_of {α : Type} (p : α → Bool) {l : List α} {i : Nat} (h : i < l.length) (hp : p l[i] = true) : l.any p = true := by
  rw [List.any_eq_true]; exact ⟨l[i], List.getElem_mem h, hp⟩
set_option maxHeartbeats 1000000 in
theorem index128 {w : World} {a : Option Addr} {l : List ByteArray} {c : Nat} {z : Int} (p : ByteArray → Bool) (hl : l.length ≤ 9223372036854775807) (hs : SL w a l)
    (CN : ∀ s W, Calls Tryz.prog 50 #[.agg #[.int .i64 z], .string s] W fun e w' => e = .returned (.bool (p s)) ∧ Below W.heap.size W w') :
    Calls Tryz.prog 133 #[.slice a l.length c, .func (.func 50) #[.agg #[.int .i64 z]] #[]] w fun e w' => (∃ r : Int, e = .returned (.int .i64 r) ∧ (decide (0 ≤ r)) = l.any p) ∧ Below w.heap.size w w' := by
  have HS : Hid (SL w a l) := hs
  have HL : Hid (l.length ≤ 9223372036854775807) := hl
  clear hs
  go_enter Tryz.func133, Tryz.ntmps133
  go_wp2_with fail
  go_loopg [5, 8] l.length (fun gk v5 v8 wr => ∃ i : Nat, i + gk = l.length ∧ v8 = .int .i64 (i : Int) ∧ Below w.heap.size w wr ∧ (l.take i).any p = false)
  case atStart => exact ⟨0, by omega, rfl, Below.refl _ _, by simp⟩
  case round =>
    obtain ⟨i, hig, rfl, hB, hn⟩ := hrel
    have B : Hid (Below w.heap.size w wr) := hB
    have HN : Hid ((l.take i).any p = false) := hn
    clear hB hn
    by_cases hi : i < l.length
    · obtain ⟨b, o, rfl, hc⟩ := HS.out.of_below B.out i hi
      have il : (i : Int) < (l.length : Int) := by omega
      have hcall := CN l[i]
      have HT : Hid _ := any_take p hi
      have HO : Hid _ := any_of p hi
      generalize l[i] = s at *
      cases hp : p s with
      | true =>
        rw [hp] at hcall
        go_wp2_with (go_at_call 50; refine (hcall _).mono ?_; rintro e w3 ⟨rfl, hB3⟩)
        go_ret
        exact ⟨⟨_, rfl, by rw [HO.out hp]; simp⟩, B.out.trans (hB3.mono B.out.size)⟩
      | false =>
        rw [hp] at hcall
        go_wp2_with (go_at_call 50; refine (hcall _).mono ?_; rintro e w3 ⟨rfl, hB3⟩)
        go_roundg (gk - 1)
        case measure => omega
        case rel => exact ⟨i + 1, by omega, by go_num, B.out.trans (hB3.mono B.out.size), by rw [HT.out, HN.out, hp]; rfl⟩
    · have il : ¬ (i : Int) < (l.length : Int) := by omega
      have e : i = l.length := by omega
      have hn := HN.out
      rw [e, List.take_length] at hn
      clear e
      go_wp2_with fail
      go_ret
      exact ⟨⟨_, rfl, by first | (rw [hn]; decide) | decide⟩, B.out⟩
theorem contains115 {w : World} {a : Option Addr} {l : List ByteArray} {c : Nat} {z : Int} (p : ByteArray → Bool) (hl : l.length ≤ 9223372036854775807) (hs : SL w a l)
    (CN : ∀ s W, Calls Tryz.prog 50 #[.agg #[.int .i64 z], .string s] W fun e w' => e = .returned (.bool (p s)) ∧ Below W.heap.size W w') :
    Calls Tryz.prog 101 #[.slice a l.length c, .func (.func 50) #[.agg #[.int .i64 z]] #[]] w fun e w' => e = .returned (.bool (l.any p)) ∧ Below w.heap.size w w' := by
  have h := index128 (c := c) p hl hs CN
  clear hs CN
  generalize l.any p = t at *
  go_enter Tryz.func101, Tryz.ntmps101
  go_wp2_with (go_at_call 133; refine h.mono ?_; rintro e w1 ⟨⟨r, rfl, hr⟩, hB1⟩)
  go_ret
  exact ⟨by rw [← hr]; rfl, hB1⟩
set_option maxHeartbeats 1000000 in
theorem scalars84 {w : World} {a : Option Addr} {l : List ByteArray} {c : Nat} {z : Int} (p : ByteArray → Bool) (hl : l.length ≤ 9223372036854775807) (hs : SL w a l)
    (CN : ∀ s W, Calls Tryz.prog 50 #[.agg #[.int .i64 z], .string s] W fun e w' => e = .returned (.bool (!p s)) ∧ Below W.heap.size W w') :
    Calls Tryz.prog 59 #[.agg #[.int .i64 z], .slice a l.length c] w fun e w' => e = .returned (.bool (l.all p)) ∧ Below w.heap.size w w' := by
  have hmf : ∀ (fn : Fn) (first cap : Array Value) (w : World), (Instr.makeFunc fn first cap).run Tryz.prog w = .ok (.func fn first cap) w := fun _ _ _ _ => rfl
  have J : Hid (Below w.heap.size w (w.alloc (.cells #[.int .i64 z] 51))) := (Below.refl _ w).alloc (Nat.le_refl _) _
  have h := contains115 (c := c) (fun s => !p s) hl (hs.of_below J.out) CN
  have e : l.all p = !(l.any fun s => !p s) := by rw [List.not_any_eq_all_not]; simp
  rw [e]
  clear hs CN e
  generalize (l.any fun s => !p s) = t at *
  go_enter Tryz.func59, Tryz.ntmps59
  go_wp2_with (go_at_call 101; refine h.mono ?_; rintro e w1 ⟨rfl, hB1⟩)
  go_ret
  exact ⟨rfl, J.out.trans (hB1.mono J.out.size)⟩
end Go.Proofs.YtmpiipcllgjhdaaGreatDoor
namespace Go.Proofs.YtmpiipcllgjhdaaGreatDoor
open Go.RowKit Go.Deep Go.PlainAid

theorem toList_ne {s t : ByteArray} (h : ¬ s = t) : (s.toList == t.toList) = false := by
  rw [beq_eq_false_iff_ne]
  intro e
  rw [ByteArray.toList_eq, ByteArray.toList_eq] at e
  apply h
  cases s; cases t
  simpa using e
set_option maxHeartbeats 1000000 in
theorem equal66 {w : World} {a b : Option Addr} {l m : List ByteArray} {c d : Nat} (hl : l.length ≤ 9223372036854775807) (hs : SL w a l) (hm : SL w b m) :
    Calls Tryz.prog 77 #[.slice a l.length c, .slice b m.length d] w fun e w' => e = .returned (.bool (decide (l = m))) ∧ Below w.heap.size w w' := by
  by_cases hlen : l.length = m.length
  · have HS : Hid (SL w a l) := hs
    have HM : Hid (SL w b m) := hm
    have HE : Hid (l.length = m.length) := hlen
    rw [← hlen]
    clear hs hm hlen
    go_enter Tryz.func77, Tryz.ntmps77
    go_wp2_with fail
    go_loopg [5, 13] l.length (fun gk v5 v13 wr => ∃ i : Nat, i + gk = l.length ∧ v13 = .int .i64 (i : Int) ∧ Below w.heap.size w wr ∧ l.take i = m.take i)
    case atStart => exact ⟨0, by omega, rfl, Below.refl _ _, by simp⟩
    case round =>
      obtain ⟨i, hig, rfl, hB, hn⟩ := hrel
      have B : Hid (Below w.heap.size w wr) := hB
      have HN : Hid (l.take i = m.take i) := hn
      clear hB hn
      by_cases hi : i < l.length
      · have hi2 : i < m.length := by have := HE.out; omega
        obtain ⟨b1, o1, rfl, hc1⟩ := HS.out.of_below B.out i hi
        obtain ⟨b2, o2, rfl, hc2⟩ := HM.out.of_below B.out i hi2
        have il : (i : Int) < (l.length : Int) := by omega
        have HT : Hid (l[i] = m[i] → l.take (i + 1) = m.take (i + 1)) := fun h => by rw [List.take_succ_eq_append_getElem hi, List.take_succ_eq_append_getElem hi2, HN.out, h]
        have HF : Hid (l[i] ≠ m[i] → decide (l = m) = false) := fun h => decide_eq_false (fun e => h (by subst e; rfl))
        generalize l[i] = s at *
        generalize m[i] = t at *
        clear hi2
        by_cases hst : s = t
        · have HTe := HT.out hst
          have h2 : (s.toList == t.toList) = true := by rw [hst]; simp
          clear hst HT HF
          have HTT : Hid _ := HTe
          clear HTe
          go_wp2_with fail
          go_quiet (fail)
          have BQ : Hid (Below w.heap.size w (World.drewN wr nq)) := B.out.trans ⟨rfl, rfl, rfl, Nat.le_refl _, fun _ _ => rfl⟩
          generalize World.drewN wr nq = wq at *
          go_wp2_with fail
          go_roundg (gk - 1)
          case measure => omega
          case rel => exact ⟨i + 1, by omega, by go_num, BQ.out, HTT.out⟩
        · have HFe := HF.out hst
          have h2 : (s.toList == t.toList) = false := toList_ne hst
          have HFF : Hid _ := HFe
          clear hst HT HF HFe
          go_wp2_with fail
          go_quiet (fail)
          have BQ : Hid (Below w.heap.size w (World.drewN wr nq)) := B.out.trans ⟨rfl, rfl, rfl, Nat.le_refl _, fun _ _ => rfl⟩
          generalize World.drewN wr nq = wq at *
          go_wp2_with fail
          go_ret
          exact ⟨by rw [HFF.out]; rfl, BQ.out⟩
      · have il : ¬ (i : Int) < (l.length : Int) := by omega
        have HTT : Hid (decide (l = m) = true) := by
          have h := HN.out
          have he := HE.out
          rw [List.take_of_length_le (by omega), List.take_of_length_le (by omega)] at h
          exact decide_eq_true h
        go_wp2_with fail
        go_ret
        exact ⟨by rw [HTT.out]; rfl, B.out⟩
  · have hne : ((l.length : Int) != (m.length : Int)) = true := by simp [bne]; omega
    have HF : Hid (decide (l = m) = false) := decide_eq_false (fun e => hlen (by rw [e]))
    clear hs hm hlen
    go_enter Tryz.func77, Tryz.ntmps77
    go_wp2_with fail
    go_ret
    exact ⟨by rw [HF.out]; rfl, Below.refl _ _⟩
end Go.Proofs.YtmpiipcllgjhdaaGreatDoor
namespace Go.Proofs.YtmpiipcllgjhdaaGreatDoor
open Go.RowKit Go.Deep Go.PlainAid

theorem IHolds.new' (w : World) (t : TypeId) (l : List Value) {b : Nat} (h : w.heap.size = b) : IHolds (w.alloc (.cells l.toArray t)) b t l := by subst h; exact IHolds.new w t l
end Go.Proofs.YtmpiipcllgjhdaaGreatDoor
namespace Go.Proofs.YtmpiipcllgjhdaaGreatDoor
open Go.RowKit Go.Deep Go.PlainAid

end Go.Proofs.YtmpiipcllgjhdaaGreatDoor
namespace Go.Proofs.YtmpiipcllgjhdaaGreatDoor
open Go.RowKit Go.Deep Go.PlainAid

/-- The first place at which two lists differ. -/
structure FD (l m : List ByteArray) (k : Nat) : Prop where
  lt1 : k < l.length
  lt2 : k < m.length
  same : l.take k = m.take k
  ne : l[k] ≠ m[k]
theorem FD.at {l m : List ByteArray} {k : Nat} (h : FD l m k) {i : Nat} (hi : i < k) (h1 : i < l.length) (h2 : i < m.length) : l[i] = m[i] := by
  have e : (l.take k)[i]? = (m.take k)[i]? := by rw [h.same]
  rw [List.getElem?_take_of_lt hi, List.getElem?_take_of_lt hi, List.getElem?_eq_getElem h1, List.getElem?_eq_getElem h2] at e
  exact Option.some.inj e
theorem noScalar44 {w : World} {z : Int} {s : ByteArray} {t : Bool} (h : ∀ W, Calls Tryz.prog 14 #[.int .i64 z, .string s] W fun e w' => e = .returned (.bool t) ∧ Below W.heap.size W w') :
    Calls Tryz.prog 50 #[.agg #[.int .i64 z], .string s] w fun e w' => e = .returned (.bool (!t)) ∧ Below w.heap.size w w' := by
  have J : Hid (Below w.heap.size w (w.alloc (.cells #[.int .i64 z] 51))) := (Below.refl _ w).alloc (Nat.le_refl _) _
  go_enter Tryz.func50, Tryz.ntmps50
  go_wp2_with (go_at_call 14; refine (h _).mono ?_; rintro e w1 ⟨rfl, hB1⟩)
  go_ret
  exact ⟨rfl, J.out.trans (hB1.mono J.out.size)⟩
theorem minus68 {w : World} {z y : Int} {s t r : ByteArray} (h : ∀ W, Calls Tryz.prog 100 #[.int .i64 z, .string s, .string t] W fun e w' => e = .returned (.tuple #[.string r, .int .i64 y]) ∧ Below W.heap.size W w') :
    Calls Tryz.prog 57 #[.agg #[.int .i64 z], .string s, .string t] w fun e w' => e = .returned (.string r) ∧ Below w.heap.size w w' := by
  have J : Hid (Below w.heap.size w (w.alloc (.cells #[.int .i64 z] 51))) := (Below.refl _ w).alloc (Nat.le_refl _) _
  go_enter Tryz.func57, Tryz.ntmps57
  go_wp2_with (go_at_call 100; refine (h _).mono ?_; rintro e w1 ⟨rfl, hB1⟩)
  go_ret
  exact ⟨rfl, J.out.trans (hB1.mono J.out.size)⟩
end Go.Proofs.YtmpiipcllgjhdaaGreatDoor
namespace Go.Proofs.YtmpiipcllgjhdaaGreatDoor
open Go.RowKit Go.Deep Go.PlainAid

theorem Tryz.info9' : (Tryz.prog.info? 9).map (fun i => (i.zero, i.size, i.bytes)) = some (some (.string ⟨#[]⟩), 1, 16) := by kernel_rfl
theorem Tryz.under22 : Tryz.prog.underlying 22 = some (.slice 9) := by kernel_rfl
/-- The cells of a list that is made in part. -/
def half (q : List ByteArray) (n i : Nat) : List Value := (q.take i).map Value.string ++ List.replicate (n - i) (.string ⟨#[]⟩)
theorem half_zero (q : List ByteArray) (n : Nat) : half q n 0 = List.replicate n (.string ⟨#[]⟩) := by simp [half]
theorem half_set {q : List ByteArray} {n i : Nat} (hq : q.length = n) (hi : i < n) (hi' : i < q.length) : (half q n i).set i (.string q[i]) = half q n (i + 1) := by
  unfold half
  have hl : ((q.take i).map Value.string).length = i := by simp; omega
  rw [List.set_append_right _ _ (by omega), hl, Nat.sub_self, List.take_succ_eq_append_getElem hi', List.map_append, List.append_assoc]
  congr 1
  rw [show n - i = (n - (i + 1)) + 1 by omega, List.replicate_succ, List.set_cons_zero]
  rfl
theorem half_length {q : List ByteArray} {n i : Nat} (hq : q.length = n) (hi : i ≤ n) : (half q n i).length = n := by unfold half; simp; omega
theorem half_full {q : List ByteArray} {n : Nat} (hq : q.length = n) : half q n n = q.map Value.string := by unfold half; simp [List.take_of_length_le (Nat.le_of_eq hq)]
theorem IHolds.sl {w : World} {b : Nat} {t : TypeId} {q : List ByteArray} (h : IHolds w b t (q.map Value.string)) : SL w (some ⟨b, 0, none⟩) q := by
  intro i hi
  refine ⟨b, 0, rfl, ?_⟩
  rw [Nat.zero_add, h.cell i (by simpa using hi)]
  simp
theorem make22 (z : Int) (n : Nat) (hz : z = (n : Int)) (hn : n ≤ 8796093022207) (w : World) : (Instr.makeSlice 22 (.int .i64 z) (.int .i64 z)).run Tryz.prog w = .ok (.slice (some ⟨w.heap.size, 0, none⟩) n n) (w.alloc (.cells (List.replicate n (Value.string ⟨#[]⟩)).toArray 9)) := by
  subst hz
  have := run_make_row' (P := Tryz.prog) 22 9 (.string ⟨#[]⟩) 16 Tryz.under22 Tryz.info9' rfl .i64 .i64 n (by omega) (by omega) w
  rw [this]
  have e : madeCells #[Value.string ⟨#[]⟩] n = (List.replicate n (Value.string ⟨#[]⟩)).toArray := by
    apply Array.toList_inj.1
    rw [toList_madeCells_one]
  rw [e]
end Go.Proofs.YtmpiipcllgjhdaaGreatDoor
