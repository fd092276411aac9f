/- The document's Hand: what is no act at all. -/
import Derived.Test.YtafekaonmpkhiaaEc
import Derived.Test.YtafekaonmpkhiaaDj
import Derived.Test.YtafekaonmpkhiaaDi
set_option linter.unusedSimpArgs false
set_option linter.unusedVariables false
set_option maxRecDepth 100000
namespace Go.Proofs.Ytafekaonmpkhiaa
open Go.RowKit Go.Shelf Go.Deep Go.PlainAid Go.Maps Go.WideMaps

/-- What hinders it, out of how the box is. -/
def hindR (a : Int) (r : BR) (np : Nat) (u : Bool) (who sl : ByteArray) (cnt : Int) : Int :=
  if a = 1 then (if r.ok = true then 10 else if np = 256 then 15 else if u = true then 10 else 0)
  else if r.ok = false then 9
  else if a = 3 then (if r.under = ⟨#[]⟩ then 11 else if r.opn = true then 11 else if who ≠ r.under then 12 else if sl ≠ r.sl then 8 else 0)
  else if r.under ≠ ⟨#[]⟩ then 11
  else if a = 5 then (if r.opn = false then 11 else if who ≠ r.holder then 12 else if u = true then 10 else 0)
  else if r.opn = true then 11
  else if who ≠ r.holder then 12
  else if a = 4 then (if sl ≠ r.sl then 8 else if cnt ≠ r.count then 8 else 0)
  else 0
theorem hind_R (l : List Hd) (h : Hd) : hindC l h = hindR h.act (bx l h.box) (packs l).length (had l h.sl) h.who h.sl h.cnt := rfl
set_option maxHeartbeats 8000000 in
theorem hand6_o {l : List Hd} {h : Hd} {w : World} {v : Value} (a : ¬ (1 ≤ h.act ∧ h.act ≤ 5)) : Calls Try.prog 6 #[v, HV h] w fun e w' => e = .returned (.int .i64 (handC l h)) ∧ Below w.heap.size w w' := by
  have HZ : Hid (handC l h = 2) := handC_form (form_o a) (by decide)
  unfold HV
  have B : Hid (Below w.heap.size w (w.alloc (.cells #[.int .i64 h.act, .string h.box, .string h.who, .string h.to_, .int .i64 h.cnt, .string h.sl] 26))) := (Below.refl _ _).alloc (Nat.le_refl _) _
  generalize handC l h = z at *
  generalize h.box = s1 at *
  generalize h.who = s2 at *
  generalize h.to_ = s3 at *
  generalize h.sl = s5 at *
  generalize h.cnt = x4 at *
  generalize h.act = x0 at *
  by_cases c : x0 < 1
  · have d1 : decide (x0 < 1) = true := by simpa using c
    have n1 : (x0 == 1) = false := by simp; omega
    have n2 : (x0 == 2) = false := by simp; omega
    have n4 : (x0 == 4) = false := by simp; omega
    have n5 : (x0 == 5) = false := by simp; omega
    clear a c
    go_enter Try.func6, Try.ntmps6
    go_wp2_with fail
    go_ret
    exact ⟨by (rw [HZ.out]; rfl), B.out⟩
  · have d1 : decide (x0 < 1) = false := by simpa using c
    have d2 : decide (5 < x0) = true := by simp; omega
    have n1 : (x0 == 1) = false := by simp; omega
    have n2 : (x0 == 2) = false := by simp; omega
    have n4 : (x0 == 4) = false := by simp; omega
    have n5 : (x0 == 5) = false := by simp; omega
    clear a c
    go_enter Try.func6, Try.ntmps6
    go_wp2_with fail
    go_ret
    exact ⟨by (rw [HZ.out]; rfl), B.out⟩
end Go.Proofs.Ytafekaonmpkhiaa
