/- The reader: comes and leaf. -/
import Derived.Test.YtlogilmeefcipaaDoorCuts
set_option linter.unusedSimpArgs false
set_option linter.unusedVariables false
set_option maxRecDepth 100000
namespace Go.Proofs.YtlogilmeefcipaaDoor
open Go.RowKit Go.Deep Go.PlainAid Go.Shelf

/-- What is left behind a sign, if it comes. -/
def aft (l : List UInt8) (c : UInt8) : List UInt8 := if l.head? = some c then l.tail else l
theorem But.of_below {b : Nat} {w w' : World} (h : Below w.heap.size w w') : But b w w' := ⟨h.os, h.tape, h.output, h.size, fun k hk _ => h.block k hk⟩
theorem comes_any (l : List UInt8) (c : UInt8) (g : Nat) (w : World) (hr : IHolds w g 50 [S l]) :
    Calls Tryd.prog 40 #[.pointer (some ⟨g, 0, none⟩), .string ⟨#[c]⟩] w fun e w' => e = .returned (.bool (l.head? == some c)) ∧ IHolds w' g 50 [S (aft l c)] ∧ But g w w' := by
  have hc := cutPrefix_one l c
  have h0 : w.cell? ⟨g, 0, none⟩ = some (S l) := hr.cell 0 (by simp)
  have hz : w.frozen? ⟨g, 0, none⟩ = false := hr.frozen 0
  have R1 : Hid (IHolds (w.setCell ⟨g, 0, none⟩ (S (aft l c))) g 50 [S (aft l c)]) := hr.set 0 _
  have B1 : Hid (But g w (w.setCell ⟨g, 0, none⟩ (S (aft l c)))) := (But.refl g w).setCell 0 _
  have ea : S (if l.head? = some c then l.tail else l) = S (aft l c) := rfl
  rw [ea] at hc
  clear ea hr
  generalize aft l c = l' at *
  generalize (l.head? == some c) = b at *
  go_enter Tryd.func40, Tryd.ntmps40
  go_wp2_with (go_at_call 44; refine (hc _).mono ?_; rintro e w1 ⟨rfl, rfl⟩)
  go_ret
  exact ⟨rfl, R1.out, B1.out⟩
/-- The text of a leaf at the beginning, and what is left behind it. -/
def leafP (l : List UInt8) : Option (List UInt8 × List UInt8) := match colon l with
  | none => none
  | some i => if isNum (l.take i) = true ∧ bv (l.take i) ≤ (l.drop (i + 1)).length then some ((l.drop (i + 1)).take (bv (l.take i)), (l.drop (i + 1)).drop (bv (l.take i))) else none
/-- What is thrown. -/
abbrev thrF : Ending := .panicked [{ v := .iface 25 (.int .i64 2), recovered := false }]
theorem upV_two (l : List UInt8) (m : Nat) (h : ¬ (isNum l = true ∧ bv l ≤ m)) : ∃ x e : Nat, upV l m = (x, e) ∧ e ≠ 0 := by
  by_cases h1 : isNum l = true
  · by_cases h2 : bv l ≤ m
    · exact absurd ⟨h1, h2⟩ h
    · exact ⟨0, 4, upV_big h1 (by omega), by decide⟩
  · exact ⟨0, 2, upV_bad (by simpa using h1), by decide⟩
theorem upTo_S (l : List UInt8) (m : Nat) (hs : l.length < 140737488355328) (hm : m ≤ 922337203685477579) (w : World) :
    Calls Tryd.prog 26 #[S l, .int .i64 (m : Int)] w fun e w' => e = .returned (.tuple #[.int .i64 ((upV l m).1 : Int), .int .i64 ((upV l m).2 : Int)]) ∧ Below w.heap.size w w' := by
  have h := upTo_any ⟨l.toArray⟩ m (by rw [size_S]; exact hs) hm w
  have e1 : (⟨l.toArray⟩ : ByteArray).data.toList = l := by simp
  rw [e1] at h
  exact h
set_option maxHeartbeats 1000000 in
theorem leaf_no (l : List UInt8) (g : Nat) (w : World) (hl : l.length < 140737488355328) (hr : IHolds w g 50 [S l]) (h : leafP l = none) :
    Calls Tryd.prog 41 #[.pointer (some ⟨g, 0, none⟩)] w fun e w' => e = thrF ∧ But g w w' := by
  have h0 : w.cell? ⟨g, 0, none⟩ = some (S l) := hr.cell 0 (by simp)
  cases hcl : colon l with
  | none =>
    have hc := strCut_no l hl hcl
    clear hr h hcl
    go_enter Tryd.func41, Tryd.ntmps41
    go_wp2_with (go_at_call 45; refine (hc _).mono ?_; rintro e w1 ⟨rfl, hB⟩)
    exact ⟨rfl, rfl, But.of_below hB⟩
  | some i =>
    have hc := strCut_yes l hl i hcl
    have hno : ¬ (isNum (l.take i) = true ∧ bv (l.take i) ≤ (l.drop (i + 1)).length) := by
      intro hh
      simp only [leafP, hcl, if_pos hh] at h
      cases h
    obtain ⟨x, er, hu, her⟩ := upV_two _ _ hno
    have hlt : (l.take i).length < 140737488355328 := by simp; omega
    have hld : (l.drop (i + 1)).length < 140737488355328 := by simp; omega
    have hup := upTo_S (l.take i) (l.drop (i + 1)).length hlt (by omega)
    rw [hu] at hup
    simp only [] at hup
    have hsz := size_S (l.drop (i + 1))
    have her' : ((er : Int) == 0) = false := by simpa using her
    clear hr h hcl hno hu hlt her
    generalize l.take i = l1 at *
    generalize l.drop (i + 1) = l2 at *
    go_enter Tryd.func41, Tryd.ntmps41
    go_wp2_with (first | (go_at_call 45; refine (hc _).mono ?_; rintro e w1 ⟨rfl, hB⟩) | (go_at_call 26; refine (hup _).mono ?_; rintro e w2 ⟨rfl, hB2⟩))
    exact ⟨rfl, rfl, But.of_below (hB.trans (hB2.mono hB.size))⟩
set_option maxHeartbeats 1000000 in
theorem leaf_ok (l t r : List UInt8) (g : Nat) (w : World) (hl : l.length < 140737488355328) (hr : IHolds w g 50 [S l]) (h : leafP l = some (t, r)) :
    Calls Tryd.prog 41 #[.pointer (some ⟨g, 0, none⟩)] w fun e w' => e = .returned (S t) ∧ IHolds w' g 50 [S r] ∧ But g w w' := by
  have h0 : w.cell? ⟨g, 0, none⟩ = some (S l) := hr.cell 0 (by simp)
  cases hcl : colon l with
  | none => simp [leafP, hcl] at h
  | some i =>
    have hc := strCut_yes l hl i hcl
    simp only [leafP, hcl] at h
    split at h
    case isFalse => cases h
    case isTrue hh =>
    simp only [Option.some.injEq, Prod.mk.injEq] at h
    obtain ⟨ht, hrr⟩ := h
    have hlt : (l.take i).length < 140737488355328 := by simp; omega
    have hld : (l.drop (i + 1)).length < 140737488355328 := by simp; omega
    have hup := upTo_S (l.take i) (l.drop (i + 1)).length hlt (by omega)
    rw [upV_ok hh.1 hh.2] at hup
    simp only [] at hup
    have hsz := size_S (l.drop (i + 1))
    have hn := hh.2
    clear hh hlt
    generalize l.take i = l1 at *
    generalize l.drop (i + 1) = l2 at *
    generalize bv l1 = n at *
    have x1 : (⟨l2.toArray⟩ : ByteArray).extract n l2.length = ⟨r.toArray⟩ := by rw [ext_S, List.take_length, hrr]
    have x2 : (⟨l2.toArray⟩ : ByteArray).extract 0 n = ⟨t.toArray⟩ := by rw [ext_S, List.drop_zero, ht]
    have hcl2 := clone_any ⟨t.toArray⟩
    have hts : (⟨t.toArray⟩ : ByteArray).size ≤ 281474976710656 := by rw [size_S, ← ht]; simp; omega
    clear ht hrr
    have HR : Hid (IHolds w g 50 [S l]) := hr
    clear hr hcl
    go_enter Tryd.func41, Tryd.ntmps41
    go_wp2_with (first | (go_at_call 45; refine (hc _).mono ?_; rintro e w1 ⟨rfl, hB⟩) | (go_at_call 26; refine (hup _).mono ?_; rintro e w2 ⟨rfl, hB2⟩; have HR2 : Hid (IHolds w2 g 50 [S l]) := (HR.out.of_below hB).of_below hB2; have c2 : w2.cell? ⟨g, 0, none⟩ = some (S l) := HR2.out.cell 0 (by simp); have z2 : w2.frozen? ⟨g, 0, none⟩ = false := HR2.out.frozen 0) | (go_at_call 46; refine (hcl2 _ hts).mono ?_; rintro e w3 ⟨rfl, hB3⟩))
    go_ret
    have k1 : IHolds (w2.setCell ⟨g, 0, none⟩ (S r)) g 50 [S r] := HR2.out.set 0 _
    have k2 : But g w (w2.setCell ⟨g, 0, none⟩ (S r)) := ((But.of_below hB).trans (But.of_below hB2)).setCell 0 _
    exact ⟨rfl, k1.of_below hB3, k2.trans (But.of_below hB3)⟩
end Go.Proofs.YtlogilmeefcipaaDoor
