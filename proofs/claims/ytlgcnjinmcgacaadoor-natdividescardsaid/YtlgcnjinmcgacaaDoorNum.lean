/- Numbers in memory: a slice whose cells hold the digits; the walks of limb, isZero, isOne, trimmed and of the reference's at and trim. -/
import Derived.Test.YtlgcnjinmcgacaaDoorRows
import Derived.Test.YtlgcnjinmcgacaaDoorDigits
import Derived.WalkKit
import Derived.WalkSpells
import Derived.WalkLawsBesides
import Derived.Handy
import Derived.Deep.Draws
import Derived.Deep.MidRow
import Derived.Deep.QuietTactic
import Derived.BigQuiet
import Derived.Deep.LoopGhost
set_option linter.unusedSimpArgs false
set_option linter.unusedVariables false
namespace Go.Proofs.YtlgcnjinmcgacaaDoor
open Go.RowKit

/-- A number of the program's own as it holds it. -/
abbrev I (x : Nat) : Value := .int .i64 (x : Int)
/-- At a lie these numbers. -/
def Row (w : World) (a : Option Addr) (l : List Nat) : Prop := ∀ i (h : i < l.length), ∃ b o, a = some ⟨b, o, none⟩ ∧ w.cell? ⟨b, o + i, none⟩ = some (I l[i])
theorem Row.nil (w : World) (a : Option Addr) : Row w a [] := fun i h => by cases h
theorem Row.of_below {w w' : World} {a : Option Addr} {l : List Nat} (h : Row w a l) (hb : Below w.heap.size w w') : Row w' a l := by
  intro i hi
  obtain ⟨b, o, ha, hc⟩ := h i hi
  exact ⟨b, o, ha, by rw [hb.cell (World.block_lt_of_cell? _ _ hc)]; exact hc⟩
theorem Row.take {w : World} {a : Option Addr} {l : List Nat} (h : Row w a l) (k : Nat) : Row w a (l.take k) := by
  intro i hi
  rw [List.length_take] at hi
  obtain ⟨b, o, ha, hc⟩ := h i (by omega)
  exact ⟨b, o, ha, by rw [List.getElem_take]; exact hc⟩
theorem Row.drew {w : World} {a : Option Addr} {l : List Nat} (h : Row w a l) (n : Nat) : Row (w.drewN n) a l := h
/-- A value that is the number n to the base B. -/
def NumV (w : World) (B n : Nat) (v : Value) : Prop := ∃ a cap, v = .slice a (dg B n).length cap ∧ (dg B n).length ≤ cap ∧ Row w a (dg B n)
theorem NumV.of_below {w w' : World} {B n : Nat} {v : Value} (h : NumV w B n v) (hb : Below w.heap.size w w') : NumV w' B n v := by
  obtain ⟨a, cap, h1, h2, h3⟩ := h
  exact ⟨a, cap, h1, h2, h3.of_below hb⟩

set_option maxHeartbeats 400000 in
theorem limb_any (w : World) (a : Option Addr) (l : List Nat) (cap i : Nat) (hr : Row w a l) :
    Calls Tryd.prog 110 #[.slice a l.length cap, .int .i64 (i : Int)] w fun e w' => e = .returned (I (l.getD i 0)) ∧ w' = w := by
  go_enter Tryd.func110, Tryd.ntmps110
  by_cases hi : i < l.length
  · obtain ⟨b, o, rfl, hc⟩ := hr i hi
    have il : (i : Int) < (l.length : Int) := by omega
    have e : l.getD i 0 = l[i] := by simp [List.getD_eq_getElem?_getD, hi]
    rw [e]
    generalize l[i] = x at *
    clear e
    go_wp2_with fail
    go_ret
    exact ⟨rfl, rfl⟩
  · have il : ¬ (i : Int) < (l.length : Int) := by omega
    have e : l.getD i 0 = 0 := by simp [List.getD_eq_getElem?_getD]; rw [List.getElem?_eq_none (by omega)]; rfl
    rw [e]
    go_wp2_with fail
    go_ret
    exact ⟨rfl, rfl⟩

set_option maxHeartbeats 400000 in
theorem at_any (w : World) (a : Option Addr) (l : List Nat) (cap i : Nat) (hr : Row w a l) :
    Calls Tryd.prog 54 #[.slice a l.length cap, .int .i64 (i : Int)] w fun e w' => e = .returned (I (l.getD i 0)) ∧ w' = w := by
  go_enter Tryd.func54, Tryd.ntmps54
  by_cases hi : i < l.length
  · obtain ⟨b, o, rfl, hc⟩ := hr i hi
    have il : (i : Int) < (l.length : Int) := by omega
    have e : l.getD i 0 = l[i] := by simp [List.getD_eq_getElem?_getD, hi]
    rw [e]
    generalize l[i] = x at *
    clear e
    go_wp2_with fail
    go_ret
    exact ⟨rfl, rfl⟩
  · have il : ¬ (i : Int) < (l.length : Int) := by omega
    have e : l.getD i 0 = 0 := by simp [List.getD_eq_getElem?_getD]; rw [List.getElem?_eq_none (by omega)]; rfl
    rw [e]
    go_wp2_with fail
    go_ret
    exact ⟨rfl, rfl⟩

/-! ### Zeros at the top are left out -/
theorem trim_step {B : Nat} {l : List Nat} {k : Nat} (hk : 0 < k) (hl : k ≤ l.length) (hv : vl B (l.take k) = vl B l) (h0 : l[k - 1] = 0) : vl B (l.take (k - 1)) = vl B l := by
  have e : l.take k = l.take (k - 1) ++ [l[k - 1]] := by
    have := List.take_succ_eq_append_getElem (show k - 1 < l.length by omega)
    rwa [show k - 1 + 1 = k by omega] at this
  rw [← hv, e, h0, vl_snoc]; simp
theorem trim_end {B : Nat} (hB : 2 ≤ B) {w : World} {a : Option Addr} {l : List Nat} {k cap : Nat} (hr : Row w a l) (hc : l.length ≤ cap) (hd : ∀ d ∈ l, d < B) (hl : k ≤ l.length) (hv : vl B (l.take k) = vl B l)
    (h0 : ∀ h : 0 < k, l[k - 1] ≠ 0) : NumV w B (vl B l) (.slice a k cap) := by
  have ht : Topped (l.take k) := by
    by_cases hk : 0 < k
    · refine Or.inr ?_
      have e : (l.take k).length - 1 = k - 1 := by rw [List.length_take]; omega
      have hlt : k - 1 < (l.take k).length := by rw [List.length_take]; omega
      rw [e, List.getD_eq_getElem?_getD, List.getElem?_eq_getElem hlt, List.getElem_take]
      exact h0 hk
    · refine Or.inl ?_
      have : k = 0 := by omega
      subst this; rfl
  have hdg : dg B (vl B l) = l.take k := by
    rw [← hv]; exact dg_vl hB _ (fun d hd' => hd d (List.mem_of_mem_take hd')) ht
  refine ⟨a, cap, ?_, ?_, ?_⟩
  · rw [hdg, List.length_take, Nat.min_eq_left hl]
  · rw [hdg, List.length_take]; omega
  · rw [hdg]; exact hr.take k

set_option maxHeartbeats 400000 in
theorem trimmed_any (B : Nat) (hB : 2 ≤ B) (w : World) (a : Option Addr) (l : List Nat) (cap : Nat) (hr : Row w a l) (hc : l.length ≤ cap) (hl : ∀ d ∈ l, d < B) (hn : cap ≤ 9223372036854775807) :
    Calls Tryd.prog 90 #[.slice a l.length cap] w fun e w' => (∃ v, e = .returned v ∧ NumV w B (vl B l) v) ∧ w' = w := by
  have HL : Hid (∀ d ∈ l, d < B) := hl
  clear hl
  go_enter Tryd.func90, Tryd.ntmps90
  go_wp2_with fail
  go_loop [0] (fun s => ∃ k : Nat, k ≤ l.length ∧ s = .slice a k cap ∧ vl B (l.take k) = vl B l) (fun s => match s with | .slice _ k _ => k | _ => 0)
  case atStart => exact ⟨l.length, Nat.le_refl _, rfl, by rw [List.take_length]⟩
  case round =>
    obtain ⟨k, hk, rfl, hv⟩ := hrel
    by_cases hlt : 0 < k
    · obtain ⟨b, o, rfl, hcell⟩ := hr (k - 1) (by omega)
      have HV : Hid (vl B (l.take k) = vl B l) := hv
      clear hv
      by_cases hz : l[k - 1] = 0
      · have HS := trim_step hlt hk HV.out hz
        have HH : Hid (vl B (l.take (k - 1)) = vl B l) := HS
        rw [hz] at hcell
        clear HS HV
        go_wp2_with fail
        exact ⟨⟨k - 1, by omega, rfl, HH.out⟩, by show k - 1 < k; omega⟩
      · have HE : Hid (NumV w B (vl B l) (.slice (some ⟨b, o, none⟩) k cap)) := trim_end hB hr hc HL.out hk HV.out (fun _ => hz)
        have hz' : ((l[k - 1] : Int) == 0) = false := by simp; omega
        generalize l[k - 1] = x at *
        go_wp2_with fail
        go_ret
        exact ⟨⟨_, rfl, HE.out⟩, rfl⟩
    · obtain rfl : k = 0 := by omega
      have HE : Hid (NumV w B (vl B l) (.slice a 0 cap)) := trim_end hB hr hc HL.out hk hv (fun h => by omega)
      have hd : decide ((0 : Int) < 0) = false := by decide
      go_wp2_with fail
      go_ret
      exact ⟨⟨_, rfl, HE.out⟩, rfl⟩

set_option maxHeartbeats 400000 in
theorem trim_any (B : Nat) (hB : 2 ≤ B) (w : World) (a : Option Addr) (l : List Nat) (cap : Nat) (hr : Row w a l) (hc : l.length ≤ cap) (hl : ∀ d ∈ l, d < B) (hn : cap ≤ 9223372036854775807) :
    Calls Tryd.prog 48 #[.slice a l.length cap] w fun e w' => (∃ v, e = .returned v ∧ NumV w B (vl B l) v) ∧ w' = w := by
  have HL : Hid (∀ d ∈ l, d < B) := hl
  clear hl
  go_enter Tryd.func48, Tryd.ntmps48
  go_wp2_with fail
  go_loop [0] (fun s => ∃ k : Nat, k ≤ l.length ∧ s = .slice a k cap ∧ vl B (l.take k) = vl B l) (fun s => match s with | .slice _ k _ => k | _ => 0)
  case atStart => exact ⟨l.length, Nat.le_refl _, rfl, by rw [List.take_length]⟩
  case round =>
    obtain ⟨k, hk, rfl, hv⟩ := hrel
    by_cases hlt : 0 < k
    · obtain ⟨b, o, rfl, hcell⟩ := hr (k - 1) (by omega)
      have HV : Hid (vl B (l.take k) = vl B l) := hv
      clear hv
      by_cases hz : l[k - 1] = 0
      · have HS := trim_step hlt hk HV.out hz
        have HH : Hid (vl B (l.take (k - 1)) = vl B l) := HS
        rw [hz] at hcell
        clear HS HV
        go_wp2_with fail
        exact ⟨⟨k - 1, by omega, rfl, HH.out⟩, by show k - 1 < k; omega⟩
      · have HE : Hid (NumV w B (vl B l) (.slice (some ⟨b, o, none⟩) k cap)) := trim_end hB hr hc HL.out hk HV.out (fun _ => hz)
        have hz' : ((l[k - 1] : Int) == 0) = false := by simp; omega
        generalize l[k - 1] = x at *
        go_wp2_with fail
        go_ret
        exact ⟨⟨_, rfl, HE.out⟩, rfl⟩
    · obtain rfl : k = 0 := by omega
      have HE : Hid (NumV w B (vl B l) (.slice a 0 cap)) := trim_end hB hr hc HL.out hk hv (fun h => by omega)
      have hd : decide ((0 : Int) < 0) = false := by decide
      go_wp2_with fail
      go_ret
      exact ⟨⟨_, rfl, HE.out⟩, rfl⟩

set_option maxHeartbeats 400000 in
theorem isZero_any (w : World) (a : Option Addr) (n cap : Nat) :
    Calls Tryd.prog 66 #[.slice a (dg 1000000000 n).length cap] w fun e w' => e = .returned (.bool (n == 0)) ∧ w' = w := by
  have h := dg_length_zero (B := 1000000000) (n := n) (by omega)
  have e : (((dg 1000000000 n).length : Int) == 0) = (n == 0) := by
    rw [Bool.eq_iff_iff]; simp only [beq_iff_eq]; omega
  clear h
  go_enter Tryd.func66, Tryd.ntmps66
  generalize (dg 1000000000 n).length = k at *
  go_wp2_with fail
  go_ret
  exact ⟨by rw [← e]; rfl, rfl⟩
end Go.Proofs.YtlgcnjinmcgacaaDoor
