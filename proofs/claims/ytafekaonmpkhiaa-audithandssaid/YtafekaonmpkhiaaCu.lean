/- Boxes and what happens to them: plain. -/
set_option linter.unusedSimpArgs false
set_option linter.unusedVariables false
set_option maxRecDepth 100000
namespace Go.Proofs.Ytafekaonmpkhiaa
/-- What happened to a box. -/
structure Hd where
  act : Int
  box : ByteArray
  who : ByteArray
  to_ : ByteArray
  cnt : Int
  sl : ByteArray
/-- How a box is. -/
structure BR where
  ok : Bool
  count : Int
  holder : ByteArray
  sl : ByteArray
  under : ByteArray
  opn : Bool
def BR0 : BR := ⟨false, 0, ⟨#[]⟩, ⟨#[]⟩, ⟨#[]⟩, false⟩
/-- What one thing that happens makes of it. -/
def bact (r : BR) (h : Hd) : BR :=
  if h.act = 1 then { r with ok := true, count := h.cnt, holder := h.who, sl := h.sl }
  else if h.act = 2 then { r with under := h.to_ }
  else if h.act = 3 then { r with holder := h.who, under := ⟨#[]⟩ }
  else if h.act = 4 then { r with opn := true, sl := ⟨#[]⟩ }
  else if h.act = 5 then { r with opn := false, sl := h.sl, count := h.cnt }
  else r
def bstep (nm : ByteArray) (r : BR) (h : Hd) : BR := if h.box = nm then bact r h else r
def bx (l : List Hd) (nm : ByteArray) : BR := l.foldl (bstep nm) BR0
theorem bx_snoc (l : List Hd) (h : Hd) (nm : ByteArray) : bx (l ++ [h]) nm = bstep nm (bx l nm) h := by simp [bx]
/-- Had a box this sl ever? -/
def hadB (s : ByteArray) (x : Hd) : Bool := decide ((x.act = 1 ∨ x.act = 5) ∧ x.sl = s)
def had (l : List Hd) (s : ByteArray) : Bool := l.any (hadB s)
theorem had_snoc (l : List Hd) (h : Hd) (s : ByteArray) : had (l ++ [h]) s = (had l s || hadB s h) := by simp [had]
/-- The names of what was packed, in order. -/
def packs (l : List Hd) : List ByteArray := (l.filter (fun x => decide (x.act = 1))).map (·.box)
theorem packs_snoc (l : List Hd) (h : Hd) : packs (l ++ [h]) = if h.act = 1 then packs l ++ [h.box] else packs l := by
  unfold packs
  rw [List.filter_append, List.map_append]
  by_cases e : h.act = 1 <;> simp [e]
def signsB (s : ByteArray) : Bool := s.data.toList.all (fun c => decide (33 ≤ c.toNat ∧ c.toNat ≤ 126)) && decide (s ≠ ⟨#[]⟩)
def wordB (s : ByteArray) : Bool := decide (s.size ≤ 32) && signsB s
def wordIfB (b : Bool) (s : ByteArray) : Bool := if b then wordB s else decide (s = ⟨#[]⟩)
/-- Is something wrong with how it is told? -/
def formC (h : Hd) : Int :=
  if ¬ (1 ≤ h.act ∧ h.act ≤ 5) then 2
  else if wordB h.box = false ∨ wordB h.who = false ∨ wordIfB (decide (h.act = 2)) h.to_ = false ∨ wordIfB (decide (h.act ≠ 2)) h.sl = false then 2
  else if (if h.act = 1 ∨ h.act = 4 ∨ h.act = 5 then ¬ (0 ≤ h.cnt ∧ h.cnt ≤ 1048576) else h.cnt ≠ 0) then 4
  else 0
/-- What hinders it. -/
def hindC (l : List Hd) (h : Hd) : Int :=
  let r := bx l h.box
  if h.act = 1 then (if r.ok = true then 10 else if (packs l).length = 256 then 15 else if had l h.sl = true then 10 else 0)
  else if r.ok = false then 9
  else if h.act = 3 then (if r.under = ⟨#[]⟩ then 11 else if r.opn = true then 11 else if h.who ≠ r.under then 12 else if h.sl ≠ r.sl then 8 else 0)
  else if r.under ≠ ⟨#[]⟩ then 11
  else if h.act = 5 then (if r.opn = false then 11 else if h.who ≠ r.holder then 12 else if had l h.sl = true then 10 else 0)
  else if r.opn = true then 11
  else if h.who ≠ r.holder then 12
  else if h.act = 4 then (if h.sl ≠ r.sl then 8 else if h.cnt ≠ r.count then 8 else 0)
  else 0
def handC (l : List Hd) (h : Hd) : Int := if formC h ≠ 0 then formC h else hindC l h
/-- What can have happened. -/
inductive Hist : List Hd → Prop
  | nil : Hist []
  | snoc {l : List Hd} {h : Hd} : Hist l → handC l h = 0 → Hist (l ++ [h])
theorem handC_zero {l : List Hd} {h : Hd} (e : handC l h = 0) : formC h = 0 ∧ hindC l h = 0 := by
  unfold handC at e
  split at e
  · rename_i q; exact absurd e q
  · rename_i q; exact ⟨Classical.byContradiction fun z => q z, e⟩
theorem form_act {h : Hd} (e : formC h = 0) : 1 ≤ h.act ∧ h.act ≤ 5 := by
  unfold formC at e
  split at e
  · omega
  · rename_i q; exact Classical.byContradiction fun z => q z
theorem word_ne {s : ByteArray} (h : wordB s = true) : s ≠ ⟨#[]⟩ := fun e => by
  subst e; simp [wordB, signsB] at h
theorem form_ok {h : Hd} (e : formC h = 0) : wordB h.box = true ∧ wordB h.who = true ∧ wordIfB (decide (h.act = 2)) h.to_ = true ∧ wordIfB (decide (h.act ≠ 2)) h.sl = true := by
  unfold formC at e
  split at e
  · omega
  · split at e
    · omega
    · rename_i q
      simp only [not_or, Bool.not_eq_false] at q
      exact q
theorem form_to {h : Hd} (e : formC h = 0) (h2 : h.act = 2) : h.to_ ≠ ⟨#[]⟩ := by
  have q := (form_ok e).2.2.1
  rw [h2] at q
  exact word_ne (by simpa [wordIfB] using q)
/-- What holds of what can have happened. -/
structure Inv1 (l : List Hd) : Prop where
  none : ∀ nm, (bx l nm).ok = false → bx l nm = BR0
  one : ∀ nm, (bx l nm).under ≠ ⟨#[]⟩ → (bx l nm).opn = false
  mem : ∀ nm, nm ∈ packs l ↔ (bx l nm).ok = true
  nodup : (packs l).Nodup
  few : (packs l).length ≤ 256
theorem act_cases {a : Int} (h : 1 ≤ a ∧ a ≤ 5) : a = 1 ∨ a = 2 ∨ a = 3 ∨ a = 4 ∨ a = 5 := by omega
theorem Hist.inv {l : List Hd} (h : Hist l) : Inv1 l := by
  induction h with
  | nil => exact ⟨fun nm _ => rfl, fun nm h => by simp [bx, BR0] at h, fun nm => by simp [packs, bx, BR0], by simp [packs], by simp [packs]⟩
  | @snoc l h hl e ih =>
    obtain ⟨e1, e2⟩ := handC_zero e
    have ha := act_cases (form_act e1)
    have ht := form_to e1
    have key : ∀ nm, nm = h.box → bx (l ++ [h]) nm = bact (bx l nm) h := fun nm q => by rw [bx_snoc, bstep, if_pos q.symm]
    have oth : ∀ nm, nm ≠ h.box → bx (l ++ [h]) nm = bx l nm := fun nm q => by rw [bx_snoc, bstep, if_neg (Ne.symm q)]
    have i2 := ih.one h.box
    have i1 := ih.none h.box
    have im := ih.mem h.box
    have e3 := e2
    unfold hindC at e2
    have okb : (bact (bx l h.box) h).ok = true ∧ ((bact (bx l h.box) h).under ≠ ⟨#[]⟩ → (bact (bx l h.box) h).opn = false) ∧ (h.act ≠ 1 → (bx l h.box).ok = true) ∧ (h.act = 1 → (bx l h.box).ok = false ∧ (packs l).length ≠ 256) := by
      generalize bx l h.box = r at *
      generalize had l h.sl = hs at *
      have lit : ∀ a b : Int, a ≠ b → (a = b) = False := fun a b q => eq_false q
      rcases ha with a | a | a | a | a <;> simp only [a, bact] at e2 ht ⊢ <;> simp at e2 ht ⊢ <;> grind
    have mem2 : ∀ nm, nm ∈ packs (l ++ [h]) ↔ (nm ∈ packs l ∨ (h.act = 1 ∧ nm = h.box)) := fun nm => by
      rw [packs_snoc]; split <;> simp_all
    refine ⟨fun nm q => ?_, fun nm q => ?_, fun nm => ?_, ?_, ?_⟩
    · by_cases c : nm = h.box
      · rw [key nm c, c, okb.1] at q; cases q
      · rw [oth nm c] at q ⊢; exact ih.none nm q
    · by_cases c : nm = h.box
      · rw [key nm c, c] at q ⊢; exact okb.2.1 q
      · rw [oth nm c] at q ⊢; exact ih.one nm q
    · rw [mem2]
      by_cases c : nm = h.box
      · rw [key nm c, c]
        refine ⟨fun _ => okb.1, fun _ => ?_⟩
        by_cases a1 : h.act = 1
        · exact Or.inr ⟨a1, rfl⟩
        · exact Or.inl (im.2 (okb.2.2.1 a1))
      · rw [oth nm c, ← ih.mem nm]
        exact ⟨fun q => q.resolve_right fun z => c z.2, Or.inl⟩
    · rw [packs_snoc]
      split
      · rename_i a1
        rw [List.nodup_append]
        refine ⟨ih.nodup, by simp, fun a ha b hb q => ?_⟩
        have : b = h.box := by simpa using hb
        subst this; subst q
        rw [im.1 ha] at okb
        exact absurd (okb.2.2.2 a1).1 (by simp)
      · exact ih.nodup
    · rw [packs_snoc]
      have f := ih.few
      split
      · rename_i a1
        have := (okb.2.2.2 a1).2
        simp; omega
      · exact f
end Go.Proofs.Ytafekaonmpkhiaa
