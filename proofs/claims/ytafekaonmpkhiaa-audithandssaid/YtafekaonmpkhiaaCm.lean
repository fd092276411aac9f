/- Hand: what it tells, plain. -/
import Derived.Test.YtafekaonmpkhiaaCl
set_option linter.unusedSimpArgs false
set_option linter.unusedVariables false
set_option maxRecDepth 100000
namespace Go.Proofs.Ytafekaonmpkhiaa
open Go.RowKit Go.Deep Go.PlainAid

theorem mf_iff (g : Bool) (h : Hd) : mfB g h = true ↔ (wordB h.box = false ∨ wordB h.who = false ∨ wordIfB g h.to_ = false ∨ wordIfB (!g) h.sl = false) := by
  unfold mfB
  cases wordB h.box <;> cases wordB h.who <;> cases wordIfB g h.to_ <;> cases wordIfB (!g) h.sl <;> simp
theorem form_o {h : Hd} (a : ¬ (1 ≤ h.act ∧ h.act ≤ 5)) : formC h = 2 := by unfold formC; rw [if_pos a]
theorem form_1 {h : Hd} (a : h.act = 1) : formC h = if mfB false h = true then 2 else if mcB true h.cnt = true then 4 else 0 := by
  unfold formC
  rw [if_neg (by omega)]
  have e1 : decide (h.act = 2) = false := by rw [a]; rfl
  have e2 : decide (h.act ≠ 2) = !false := by rw [a]; rfl
  rw [e1, e2]
  have q := mf_iff false h
  by_cases p : mfB false h = true
  · rw [if_pos p, if_pos (q.1 p)]
  · rw [if_neg p, if_neg (fun z => p (q.2 z))]
    have e3 : (if h.act = 1 ∨ h.act = 4 ∨ h.act = 5 then ¬ (0 ≤ h.cnt ∧ h.cnt ≤ 1048576) else h.cnt ≠ 0) ↔ mcB true h.cnt = true := by
      unfold mcB
      rw [if_pos (by omega)]; simp only [if_true, decide_eq_true_eq]
    by_cases p2 : mcB true h.cnt = true
    · rw [if_pos p2, if_pos (e3.2 p2)]
    · rw [if_neg p2, if_neg (fun z => p2 (e3.1 z))]
theorem hind_1 {l : List Hd} {h : Hd} (i : Inv1 l) (a : h.act = 1) : pC true 0 (dfB false true h (bx l h.box)) (!false && !false) (bx l h.box).ok (packs l).length (stZ (bx l h.box)) (decide (h.who ≠ if stZ (bx l h.box) = 1 then (bx l h.box).under else (bx l h.box).holder)) (had l h.sl) = hindC l h := by
  have i2 := i.one h.box
  have f := i.few
  unfold hindC
  dsimp only
  generalize bx l h.box = r at *
  generalize had l h.sl = u at *
  generalize (packs l).length = N at *
  have z1 : r.under ≠ ⟨#[]⟩ → stZ r = 1 := st1
  have z2 : r.under = ⟨#[]⟩ → r.opn = true → stZ r = 2 := st2
  have z0 : r.under = ⟨#[]⟩ → r.opn = false → stZ r = 0 := st0
  generalize stZ r = z at *
  generalize r.under = un at *
  generalize r.opn = op at *
  generalize r.ok = ok at *
  simp only [a, pC, dfB]
  by_cases c1 : un = ⟨#[]⟩
  · have y2 := z2 c1
    have y0 := z0 c1
    clear z1 z2 z0 i2
    cases op with
    | true => have e := y2 rfl; subst e; subst c1; cases ok <;> cases u <;> simp <;> grind
    | false => have e := y0 rfl; subst e; subst c1; cases ok <;> cases u <;> simp <;> grind
  · have y1 := z1 c1
    have o := i2 c1
    clear z1 z2 z0 i2
    subst y1; subst o
    cases ok <;> cases u <;> simp [c1] <;> grind
theorem form_2 {h : Hd} (a : h.act = 2) : formC h = if mfB true h = true then 2 else if mcB false h.cnt = true then 4 else 0 := by
  unfold formC
  rw [if_neg (by omega)]
  have e1 : decide (h.act = 2) = true := by rw [a]; rfl
  have e2 : decide (h.act ≠ 2) = !true := by rw [a]; rfl
  rw [e1, e2]
  have q := mf_iff true h
  by_cases p : mfB true h = true
  · rw [if_pos p, if_pos (q.1 p)]
  · rw [if_neg p, if_neg (fun z => p (q.2 z))]
    have e3 : (if h.act = 1 ∨ h.act = 4 ∨ h.act = 5 then ¬ (0 ≤ h.cnt ∧ h.cnt ≤ 1048576) else h.cnt ≠ 0) ↔ mcB false h.cnt = true := by
      unfold mcB
      rw [if_neg (by omega)]; simp only [Bool.false_eq_true, if_false, decide_eq_true_eq]
    by_cases p2 : mcB false h.cnt = true
    · rw [if_pos p2, if_pos (e3.2 p2)]
    · rw [if_neg p2, if_neg (fun z => p2 (e3.1 z))]
theorem hind_2 {l : List Hd} {h : Hd} (i : Inv1 l) (a : h.act = 2) : pC false 0 (dfB false false h (bx l h.box)) (!true && !false) (bx l h.box).ok (packs l).length (stZ (bx l h.box)) (decide (h.who ≠ if stZ (bx l h.box) = 1 then (bx l h.box).under else (bx l h.box).holder)) (had l h.sl) = hindC l h := by
  have i2 := i.one h.box
  have f := i.few
  unfold hindC
  dsimp only
  generalize bx l h.box = r at *
  generalize had l h.sl = u at *
  generalize (packs l).length = N at *
  have z1 : r.under ≠ ⟨#[]⟩ → stZ r = 1 := st1
  have z2 : r.under = ⟨#[]⟩ → r.opn = true → stZ r = 2 := st2
  have z0 : r.under = ⟨#[]⟩ → r.opn = false → stZ r = 0 := st0
  generalize stZ r = z at *
  generalize r.under = un at *
  generalize r.opn = op at *
  generalize r.ok = ok at *
  simp only [a, pC, dfB]
  by_cases c1 : un = ⟨#[]⟩
  · have y2 := z2 c1
    have y0 := z0 c1
    clear z1 z2 z0 i2
    cases op with
    | true => have e := y2 rfl; subst e; subst c1; cases ok <;> cases u <;> simp <;> grind
    | false => have e := y0 rfl; subst e; subst c1; cases ok <;> cases u <;> simp <;> grind
  · have y1 := z1 c1
    have o := i2 c1
    clear z1 z2 z0 i2
    subst y1; subst o
    cases ok <;> cases u <;> simp [c1] <;> grind
theorem form_3 {h : Hd} (a : h.act = 3) : formC h = if mfB false h = true then 2 else if mcB false h.cnt = true then 4 else 0 := by
  unfold formC
  rw [if_neg (by omega)]
  have e1 : decide (h.act = 2) = false := by rw [a]; rfl
  have e2 : decide (h.act ≠ 2) = !false := by rw [a]; rfl
  rw [e1, e2]
  have q := mf_iff false h
  by_cases p : mfB false h = true
  · rw [if_pos p, if_pos (q.1 p)]
  · rw [if_neg p, if_neg (fun z => p (q.2 z))]
    have e3 : (if h.act = 1 ∨ h.act = 4 ∨ h.act = 5 then ¬ (0 ≤ h.cnt ∧ h.cnt ≤ 1048576) else h.cnt ≠ 0) ↔ mcB false h.cnt = true := by
      unfold mcB
      rw [if_neg (by omega)]; simp only [Bool.false_eq_true, if_false, decide_eq_true_eq]
    by_cases p2 : mcB false h.cnt = true
    · rw [if_pos p2, if_pos (e3.2 p2)]
    · rw [if_neg p2, if_neg (fun z => p2 (e3.1 z))]
theorem hind_3 {l : List Hd} {h : Hd} (i : Inv1 l) (a : h.act = 3) : pC false 1 (dfB true false h (bx l h.box)) (!false && !true) (bx l h.box).ok (packs l).length (stZ (bx l h.box)) (decide (h.who ≠ if stZ (bx l h.box) = 1 then (bx l h.box).under else (bx l h.box).holder)) (had l h.sl) = hindC l h := by
  have i2 := i.one h.box
  have f := i.few
  unfold hindC
  dsimp only
  generalize bx l h.box = r at *
  generalize had l h.sl = u at *
  generalize (packs l).length = N at *
  have z1 : r.under ≠ ⟨#[]⟩ → stZ r = 1 := st1
  have z2 : r.under = ⟨#[]⟩ → r.opn = true → stZ r = 2 := st2
  have z0 : r.under = ⟨#[]⟩ → r.opn = false → stZ r = 0 := st0
  generalize stZ r = z at *
  generalize r.under = un at *
  generalize r.opn = op at *
  generalize r.ok = ok at *
  simp only [a, pC, dfB]
  by_cases c1 : un = ⟨#[]⟩
  · have y2 := z2 c1
    have y0 := z0 c1
    clear z1 z2 z0 i2
    cases op with
    | true => have e := y2 rfl; subst e; subst c1; cases ok <;> cases u <;> simp <;> grind
    | false => have e := y0 rfl; subst e; subst c1; cases ok <;> cases u <;> simp <;> grind
  · have y1 := z1 c1
    have o := i2 c1
    clear z1 z2 z0 i2
    subst y1; subst o
    cases ok <;> cases u <;> simp [c1] <;> grind
theorem form_4 {h : Hd} (a : h.act = 4) : formC h = if mfB false h = true then 2 else if mcB true h.cnt = true then 4 else 0 := by
  unfold formC
  rw [if_neg (by omega)]
  have e1 : decide (h.act = 2) = false := by rw [a]; rfl
  have e2 : decide (h.act ≠ 2) = !false := by rw [a]; rfl
  rw [e1, e2]
  have q := mf_iff false h
  by_cases p : mfB false h = true
  · rw [if_pos p, if_pos (q.1 p)]
  · rw [if_neg p, if_neg (fun z => p (q.2 z))]
    have e3 : (if h.act = 1 ∨ h.act = 4 ∨ h.act = 5 then ¬ (0 ≤ h.cnt ∧ h.cnt ≤ 1048576) else h.cnt ≠ 0) ↔ mcB true h.cnt = true := by
      unfold mcB
      rw [if_pos (by omega)]; simp only [if_true, decide_eq_true_eq]
    by_cases p2 : mcB true h.cnt = true
    · rw [if_pos p2, if_pos (e3.2 p2)]
    · rw [if_neg p2, if_neg (fun z => p2 (e3.1 z))]
theorem hind_4 {l : List Hd} {h : Hd} (i : Inv1 l) (a : h.act = 4) : pC false 0 (dfB true true h (bx l h.box)) (!false && !true) (bx l h.box).ok (packs l).length (stZ (bx l h.box)) (decide (h.who ≠ if stZ (bx l h.box) = 1 then (bx l h.box).under else (bx l h.box).holder)) (had l h.sl) = hindC l h := by
  have i2 := i.one h.box
  have f := i.few
  unfold hindC
  dsimp only
  generalize bx l h.box = r at *
  generalize had l h.sl = u at *
  generalize (packs l).length = N at *
  have z1 : r.under ≠ ⟨#[]⟩ → stZ r = 1 := st1
  have z2 : r.under = ⟨#[]⟩ → r.opn = true → stZ r = 2 := st2
  have z0 : r.under = ⟨#[]⟩ → r.opn = false → stZ r = 0 := st0
  generalize stZ r = z at *
  generalize r.under = un at *
  generalize r.opn = op at *
  generalize r.ok = ok at *
  simp only [a, pC, dfB]
  by_cases c1 : un = ⟨#[]⟩
  · have y2 := z2 c1
    have y0 := z0 c1
    clear z1 z2 z0 i2
    cases op with
    | true => have e := y2 rfl; subst e; subst c1; cases ok <;> cases u <;> simp <;> grind
    | false => have e := y0 rfl; subst e; subst c1; cases ok <;> cases u <;> simp <;> grind
  · have y1 := z1 c1
    have o := i2 c1
    clear z1 z2 z0 i2
    subst y1; subst o
    cases ok <;> cases u <;> simp [c1] <;> grind
theorem form_5 {h : Hd} (a : h.act = 5) : formC h = if mfB false h = true then 2 else if mcB true h.cnt = true then 4 else 0 := by
  unfold formC
  rw [if_neg (by omega)]
  have e1 : decide (h.act = 2) = false := by rw [a]; rfl
  have e2 : decide (h.act ≠ 2) = !false := by rw [a]; rfl
  rw [e1, e2]
  have q := mf_iff false h
  by_cases p : mfB false h = true
  · rw [if_pos p, if_pos (q.1 p)]
  · rw [if_neg p, if_neg (fun z => p (q.2 z))]
    have e3 : (if h.act = 1 ∨ h.act = 4 ∨ h.act = 5 then ¬ (0 ≤ h.cnt ∧ h.cnt ≤ 1048576) else h.cnt ≠ 0) ↔ mcB true h.cnt = true := by
      unfold mcB
      rw [if_pos (by omega)]; simp only [if_true, decide_eq_true_eq]
    by_cases p2 : mcB true h.cnt = true
    · rw [if_pos p2, if_pos (e3.2 p2)]
    · rw [if_neg p2, if_neg (fun z => p2 (e3.1 z))]
theorem hind_5 {l : List Hd} {h : Hd} (i : Inv1 l) (a : h.act = 5) : pC false 2 (dfB false true h (bx l h.box)) (!false && !false) (bx l h.box).ok (packs l).length (stZ (bx l h.box)) (decide (h.who ≠ if stZ (bx l h.box) = 1 then (bx l h.box).under else (bx l h.box).holder)) (had l h.sl) = hindC l h := by
  have i2 := i.one h.box
  have f := i.few
  unfold hindC
  dsimp only
  generalize bx l h.box = r at *
  generalize had l h.sl = u at *
  generalize (packs l).length = N at *
  have z1 : r.under ≠ ⟨#[]⟩ → stZ r = 1 := st1
  have z2 : r.under = ⟨#[]⟩ → r.opn = true → stZ r = 2 := st2
  have z0 : r.under = ⟨#[]⟩ → r.opn = false → stZ r = 0 := st0
  generalize stZ r = z at *
  generalize r.under = un at *
  generalize r.opn = op at *
  generalize r.ok = ok at *
  simp only [a, pC, dfB]
  by_cases c1 : un = ⟨#[]⟩
  · have y2 := z2 c1
    have y0 := z0 c1
    clear z1 z2 z0 i2
    cases op with
    | true => have e := y2 rfl; subst e; subst c1; cases ok <;> cases u <;> simp <;> grind
    | false => have e := y0 rfl; subst e; subst c1; cases ok <;> cases u <;> simp <;> grind
  · have y1 := z1 c1
    have o := i2 c1
    clear z1 z2 z0 i2
    subst y1; subst o
    cases ok <;> cases u <;> simp [c1] <;> grind
end Go.Proofs.Ytafekaonmpkhiaa
