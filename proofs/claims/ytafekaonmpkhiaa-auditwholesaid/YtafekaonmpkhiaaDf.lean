/- What a step makes of the boxes: plain. -/
import Derived.Test.YtafekaonmpkhiaaDe
set_option linter.unusedSimpArgs false
set_option linter.unusedVariables false
set_option maxRecDepth 100000
namespace Go.Proofs.Ytafekaonmpkhiaa
open Go.RowKit Go.Shelf Go.Deep Go.PlainAid Go.Maps Go.WideMaps

theorem step_count (l : List Hd) (h : Hd) : (sn (packs (l ++ [h]))).length = (sn (packs l)).length + (if h.act = 1 then 1 else 0) := by
  rw [(sn_perm _).length_eq, (sn_perm _).length_eq, packs_snoc]
  by_cases e : h.act = 1 <;> simp [e]
theorem mem_sn {ns : List ByteArray} {x : ByteArray} : x ∈ sn ns ↔ x ∈ ns := (sn_perm ns).mem_iff
theorem step_other {l : List Hd} {h : Hd} {nm : ByteArray} (hm : nm ∈ sn (packs (l ++ [h]))) (hn : nm ≠ h.box) : nm ∈ sn (packs l) ∧ encB (l ++ [h]) nm = encB l nm := by
  rw [mem_sn, packs_snoc] at hm
  rw [mem_sn]
  refine ⟨?_, ?_⟩
  · by_cases e : h.act = 1
    · rw [if_pos e] at hm
      simp only [List.mem_append, List.mem_singleton] at hm
      exact hm.resolve_right hn
    · rwa [if_neg e] at hm
  · unfold encB
    rw [bx_snoc, bstep, if_neg (fun e => hn e.symm)]
theorem step_there {l : List Hd} {h : Hd} (i : Inv1 l) (e : handC l h = 0) : hasN (sn (packs l)) h.box = !decide (h.act = 1) := by
  obtain ⟨e1, e2⟩ := handC_zero e
  have ok : (bx l h.box).ok = !decide (h.act = 1) := by
    unfold hindC at e2
    by_cases a : h.act = 1
    · rw [if_pos a] at e2
      by_cases q : (bx l h.box).ok = true
      · rw [if_pos q] at e2; omega
      · simp [a, q]
    · rw [if_neg a] at e2
      by_cases q : (bx l h.box).ok = false
      · rw [if_pos q] at e2; omega
      · simp [a]; simpa using q
  rw [← ok]
  cases q : (bx l h.box).ok with
  | true => exact hasN_iff.2 (mem_sn.2 ((i.mem _).2 q))
  | false => exact hasN_no (fun hm => by rw [(i.mem _).1 (mem_sn.1 hm)] at q; cases q)
/-- What holds of the box that a step names. -/
structure SB (l : List Hd) (h : Hd) : Prop where
  row : encB (l ++ [h]) h.box = [.string h.box, .int .i64 (bact (bx l h.box) h).count, .string (bact (bx l h.box) h).holder, .string (bact (bx l h.box) h).sl]
  cnt : h.act = 1 ∨ h.act = 5 ∨ (bact (bx l h.box) h).count = (bx l h.box).count
  hold : h.act = 1 ∨ (h.act = 3 ∧ (bact (bx l h.box) h).holder = h.who) ∨ (bact (bx l h.box) h).holder = (bx l h.box).holder
  who : h.act = 1 ∨ h.act = 3 ∨ h.who = (bx l h.box).holder
  slq : (h.act ≠ 1 ∧ (bact (bx l h.box) h).sl = (bx l h.box).sl) ∨ (bact (bx l h.box) h).sl = ⟨#[]⟩ ∨ ((bact (bx l h.box) h).sl = h.sl ∧ (h.act = 1 ∨ h.act = 5) ∧ had l h.sl = false)
theorem step_box {l : List Hd} {h : Hd} (e : handC l h = 0) : SB l h := by
  obtain ⟨e1, e2⟩ := handC_zero e
  have ha := act_cases (form_act e1)
  refine ⟨by unfold encB; rw [bx_snoc, bstep, if_pos rfl], ?_, ?_, ?_, ?_⟩
  · rcases ha with a | a | a | a | a
    · exact .inl a
    · exact .inr (.inr (by simp [bact, a]))
    · exact .inr (.inr (by simp [bact, a]))
    · exact .inr (.inr (by simp [bact, a]))
    · exact .inr (.inl a)
  · rcases ha with a | a | a | a | a
    · exact .inl a
    · exact .inr (.inr (by simp [bact, a]))
    · exact .inr (.inl ⟨a, by simp [bact, a]⟩)
    · exact .inr (.inr (by simp [bact, a]))
    · exact .inr (.inr (by simp [bact, a]))
  · unfold hindC at e2
    by_cases w : h.who = (bx l h.box).holder
    · exact .inr (.inr w)
    · rcases ha with a | a | a | a | a
      · exact .inl a
      · exfalso; simp [a, w] at e2; grind
      · exact .inr (.inl a)
      · exfalso; simp [a, w] at e2; grind
      · exfalso; simp [a, w] at e2; grind
  · unfold hindC at e2
    rcases ha with a | a | a | a | a
    · refine .inr (.inr ⟨by simp [bact, a], .inl a, ?_⟩)
      cases q : had l h.sl with
      | false => rfl
      | true => simp [a, q] at e2; grind
    · exact .inl ⟨by omega, by simp [bact, a]⟩
    · exact .inl ⟨by omega, by simp [bact, a]⟩
    · exact .inr (.inl (by simp [bact, a]))
    · refine .inr (.inr ⟨by simp [bact, a], .inr a, ?_⟩)
      cases q : had l h.sl with
      | false => rfl
      | true => simp [a, q] at e2; grind
theorem had_grows {l : List Hd} {h : Hd} {s : ByteArray} (e : had l s = true) : had (l ++ [h]) s = true := by rw [had_snoc, e]; rfl
theorem had_new {l : List Hd} {h : Hd} (a : h.act = 1 ∨ h.act = 5) : had (l ++ [h]) h.sl = true := by rw [had_snoc]; simp [hadB, a]
/-- A name stands in a list of names without doubles once. -/
theorem nodup_take {ns : List ByteArray} (hd : ns.Nodup) {k : Nat} (hk : k < ns.length) {x : ByteArray} (e : nth ns k = x) : hasN (ns.take k) x = false := by
  refine hasN_no fun hm => ?_
  obtain ⟨j, hj, q⟩ := List.mem_iff_getElem.1 hm
  have hj' : j < k := by simp at hj; omega
  rw [List.getElem_take] at q
  rw [nth_at hk] at e
  exact (List.pairwise_iff_getElem.1 hd) j k (by omega) hk hj' (by rw [q, e])
theorem hasN_step {ns : List ByteArray} {k : Nat} (hk : k < ns.length) (x : ByteArray) : hasN (ns.take (k + 1)) x = (hasN (ns.take k) x || decide (nth ns k = x)) := by
  unfold hasN
  rw [List.take_succ_eq_append_getElem hk, List.any_append, nth_at hk]
  simp only [List.any_cons, List.any_nil, Bool.or_false]
theorem sn_nodup {ns : List ByteArray} (h : ns.Nodup) : (sn ns).Nodup := (sn_perm ns).nodup_iff.2 h
end Go.Proofs.Ytafekaonmpkhiaa
