/- Sorting that keeps the order of what is alike; plain. -/
import Derived.Sort.LotA
set_option linter.unusedVariables false
set_option linter.unusedSimpArgs false
set_option linter.unusedSectionVars false
set_option linter.unnecessarySimpa false
namespace Go.Proofs.YtkcnpcjogfhkbaaGreatDoor.K
open Go.Sort
section
variable {α : Type} [Inhabited α] {lt lt' : α → α → Bool} {p : α → Nat}
theorem insInner_eq (h : ∀ x y, p y < p x → lt x y = lt' x y) : ∀ (j : Nat) (d : Array α), j < d.size → (∀ q, q < j → p d[q]! < p d[j]!) → insInner lt 0 j d = insInner lt' 0 j d
  | 0, d, _, _ => rfl
  | j + 1, d, hj, hq => by
    unfold insInner
    rw [h _ _ (hq j (by omega))]
    split
    · refine insInner_eq h j _ (by rw [swp_size]; omega) fun q hqj => ?_
      have g := swp_get d hj (show j < d.size by omega)
      rw [g, g, if_neg (by omega), if_neg (by omega), if_pos rfl]
      exact hq q (by omega)
    · rfl
theorem insInner_keep (P : α → Prop) : ∀ (j : Nat) (d : Array α), j < d.size → (∀ q, q ≤ j → P d[q]!) →
    (insInner lt 0 j d).size = d.size ∧ (∀ q, q ≤ j → P (insInner lt 0 j d)[q]!) ∧ ∀ q, j < q → (insInner lt 0 j d)[q]! = d[q]!
  | 0, d, _, h => ⟨rfl, h, fun _ _ => rfl⟩
  | j + 1, d, hj, hq => by
    unfold insInner
    split
    · have g := swp_get d hj (show j < d.size by omega)
      obtain ⟨a, b, c⟩ := insInner_keep P j (swp d (j + 1) j) (by rw [swp_size]; omega) (fun q hqj => by
        rw [g]; split
        · exact hq _ (by omega)
        · rw [if_neg (by omega)]; exact hq _ (by omega))
      refine ⟨by rw [a, swp_size], fun q hqj => ?_, fun q hqj => ?_⟩
      · by_cases e : q = j + 1
        · subst e; rw [c _ (by omega), g, if_neg (by omega), if_pos rfl]; exact hq _ (by omega)
        · exact b q (by omega)
      · rw [c q (by omega), g, if_neg (by omega), if_neg (by omega)]
    · exact ⟨rfl, hq, fun _ _ => rfl⟩
theorem insOuter_eq (h : ∀ x y, p y < p x → lt x y = lt' x y) (N : Nat) : ∀ (n i : Nat) (d : Array α), N - i = n → d.size = N → (∀ q, q < i → p d[q]! < i) → (∀ q, i ≤ q → q < N → p d[q]! = q) → insOuter lt 0 N i d = insOuter lt' 0 N i d
  | 0, i, d, hn, _, _, _ => by rw [insOuter, if_neg (by omega), insOuter, if_neg (by omega)]
  | n + 1, i, d, hn, hs, h1, h2 => by
    rw [insOuter, insOuter.eq_def lt', if_pos (by omega), if_pos (by omega)]
    rw [insInner_eq h i d (by omega) (fun q hq => by rw [h2 i (Nat.le_refl _) (by omega)]; exact h1 q hq)]
    obtain ⟨a, b, c⟩ := insInner_keep (lt := lt') (fun x => p x < i + 1) i d (by omega) (fun q hq => by
      by_cases e : q = i
      · subst e; rw [h2 q (Nat.le_refl _) (by omega)]; omega
      · have := h1 q (by omega); omega)
    exact insOuter_eq h N n (i + 1) _ (by omega) (by omega) (fun q hq => b q (by omega)) (fun q hq hq2 => by rw [c q (by omega)]; exact h2 q (by omega) hq2)
theorem insertionSort_eq (h : ∀ x y, p y < p x → lt x y = lt' x y) (d : Array α) (hp : ∀ q, q < d.size → p d[q]! = q) : insertionSort lt d 0 d.size = insertionSort lt' d 0 d.size := by
  by_cases h0 : d.size = 0
  · unfold insertionSort
    rw [insOuter, if_neg (by omega), insOuter, if_neg (by omega)]
  exact insOuter_eq h d.size _ 1 d rfl rfl (fun q hq => by
    have e : q = 0 := by omega
    rw [e, hp 0 (by omega)]; omega) (fun q hq h2 => hp q h2)
/-- First by the one, then by the place. -/
def lx (lt : α → α → Bool) (p : α → Nat) (x y : α) : Bool := lt x y || (!lt y x && decide (p x < p y))
theorem lx_swo (h : SWO lt) (p : α → Nat) : SWO (lx lt p) where
  irrefl x := by simp [lx, h.irrefl]
  trans x y z h1 h2 := by
    simp only [lx, Bool.or_eq_true, Bool.and_eq_true, Bool.not_eq_true', decide_eq_true_eq] at *
    rcases h1 with h1 | ⟨h1, h1'⟩ <;> rcases h2 with h2 | ⟨h2, h2'⟩
    · exact .inl (h.trans _ _ _ h1 h2)
    · cases e : lt x z
      · have := h.ntrans _ _ _ e h2; rw [h1] at this; cases this
      · exact .inl rfl
    · cases e : lt x z
      · have := h.ntrans _ _ _ h1 e; rw [h2] at this; cases this
      · exact .inl rfl
    · exact .inr ⟨h.ntrans _ _ _ h2 h1, by omega⟩
  ntrans x y z h1 h2 := by
    simp only [lx, Bool.or_eq_false_iff, Bool.and_eq_false_iff, Bool.not_eq_false', decide_eq_false_iff_not, Nat.not_lt] at *
    obtain ⟨a1, b1⟩ := h1
    obtain ⟨a2, b2⟩ := h2
    refine ⟨h.ntrans _ _ _ a1 a2, ?_⟩
    cases e : lt z x
    · right
      rcases b1 with b1 | b1
      · have := h.ntrans _ _ _ a2 e; rw [b1] at this; cases this
      · rcases b2 with b2 | b2
        · have := h.ntrans _ _ _ e a1; rw [b2] at this; cases this
        · omega
    · exact .inl rfl
theorem lx_total {x y : α} (h1 : lx lt p x y = false) (h2 : lx lt p y x = false) : p x = p y := by
  simp only [lx, Bool.or_eq_false_iff, Bool.and_eq_false_iff, Bool.not_eq_false', decide_eq_false_iff_not, Nat.not_lt] at *
  obtain ⟨a1, b1⟩ := h1
  obtain ⟨a2, b2⟩ := h2
  rw [a2] at b1
  rw [a1] at b2
  simp at b1 b2
  omega
theorem lx_asym (h : SWO lt) {x y : α} (h1 : lx lt p x y = true) : lx lt p y x = false := by
  cases e : lx lt p y x
  · rfl
  · have := (lx_swo h p).trans _ _ _ h1 e
    rw [(lx_swo h p).irrefl] at this; cases this
theorem stable (h : SWO lt) (p : α → Nat) (L : List α) (hp : ∀ q (hq : q < L.length), p L[q] = q) :
    (insertionSort lt L.toArray 0 L.length).toList.Perm L ∧ (insertionSort lt L.toArray 0 L.length).toList.Pairwise (fun x y => lx lt p x y = true) := by
  have hd : ∀ q, q < L.toArray.size → p L.toArray[q]! = q := fun q hq => by
    have hq' : q < L.length := by simpa using hq
    rw [getElem!_pos _ q hq]; simpa using hp q hq'
  have e := insertionSort_eq (lt := lt) (lt' := lx lt p) (p := p) (fun x y hxy => by
    have : ¬ p x < p y := by omega
    simp [lx, this]) L.toArray hd
  simp only [List.size_toArray] at e
  rw [e]
  obtain ⟨⟨hs, _, hP⟩, hS⟩ := insertionSort_holds (lx_swo h p) L.toArray 0 L.length (Nat.zero_le _) (by simp)
  generalize insertionSort (lx lt p) L.toArray 0 L.length = R at *
  have hs' : R.size = L.length := by simpa using hs
  have hP' : R.toList.Perm L := by
    have e1 : R.extract 0 L.length = R := by rw [← hs']; exact Array.extract_size
    have e2 : L.toArray.extract 0 L.length = L.toArray := by
      have := Array.extract_size (xs := L.toArray); simpa using this
    rw [e1, e2] at hP
    simpa using hP
  refine ⟨hP', ?_⟩
  have hinj : ∀ x ∈ L, ∀ y ∈ L, p x = p y → x = y := fun x hx y hy hxy => by
    obtain ⟨i, hi, rfl⟩ := List.getElem_of_mem hx
    obtain ⟨j, hj, rfl⟩ := List.getElem_of_mem hy
    rw [hp i hi, hp j hj] at hxy
    subst hxy; rfl
  have hnd : L.Nodup := by
    refine List.pairwise_iff_getElem.2 fun i j hi hj hij e2 => ?_
    have := hp i (by omega); rw [e2, hp j hj] at this; omega
  have hnr : R.toList.Nodup := hP'.nodup_iff.2 hnd
  rw [List.pairwise_iff_getElem]
  intro i j hi hj hij
  have hi' : i < R.size := by simpa using hi
  have hj' : j < R.size := by simpa using hj
  have h1 := hS i j (Nat.zero_le _) hij (by omega)
  rw [getElem!_pos _ i hi', getElem!_pos _ j hj'] at h1
  show lx lt p (R.toList[i]) (R.toList[j]) = true
  rw [Array.getElem_toList, Array.getElem_toList]
  cases e2 : lx lt p R[i] R[j]
  · exfalso
    have h3 := lx_total (lt := lt) (p := p) e2 h1
    have h4 := hinj _ (hP'.subset (by simp)) _ (hP'.subset (by simp)) h3
    refine List.pairwise_iff_getElem.1 hnr i j hi hj hij ?_
    simp only [Array.getElem_toList]
    rw [h4]
  · rfl
end
theorem lx_once {α : Type} [Inhabited α] {lt : α → α → Bool} (h : SWO lt) (p : α → Nat) {l m : List α} (hl : l.Pairwise (fun x y => lx lt p x y = true)) (hm : m.Pairwise (fun x y => lx lt p x y = true)) (hP : l.Perm m) : l = m :=
  List.Perm.eq_of_pairwise (le := fun x y => lx lt p x y = true) (fun a b _ _ h1 h2 => by rw [lx_asym h h1] at h2; cases h2) hl hm hP

/-- One by one, each where it belongs. -/
def insB (f : Nat → Bool) (i : Nat) (l : List Nat) : List Nat := l.takeWhile f ++ i :: l.dropWhile f
def rl (lt : Nat → Nat → Bool) : Nat → List Nat
  | 0 => []
  | i + 1 => insB (fun x => lx lt id x i) i (rl lt i)
theorem insB_perm (f : Nat → Bool) (i : Nat) (l : List Nat) : (insB f i l).Perm (i :: l) := by
  unfold insB
  refine List.perm_middle.trans ?_
  rw [List.takeWhile_append_dropWhile]
theorem rl_perm (lt : Nat → Nat → Bool) : ∀ n, (rl lt n).Perm (List.range n)
  | 0 => List.Perm.refl _
  | n + 1 => by
    rw [List.range_succ]
    exact (insB_perm _ _ _).trans (((rl_perm lt n).cons n).trans (List.perm_append_singleton n _).symm)
theorem rl_length (lt : Nat → Nat → Bool) (n : Nat) : (rl lt n).length = n := by rw [(rl_perm lt n).length_eq, List.length_range]
theorem rl_mem (lt : Nat → Nat → Bool) (n x : Nat) : x ∈ rl lt n ↔ x < n := by rw [(rl_perm lt n).mem_iff, List.mem_range]
theorem tw_all {f : Nat → Bool} : ∀ {l : List Nat} {x : Nat}, x ∈ l.takeWhile f → f x = true
  | [], x, h => by simp at h
  | a :: l, x, h => by
    rw [List.takeWhile_cons] at h
    split at h
    · rcases List.mem_cons.1 h with rfl | h
      · assumption
      · exact tw_all h
    · simp at h
theorem dw_head {f : Nat → Bool} : ∀ {l : List Nat}, l.dropWhile f = [] ∨ ∃ z t, l.dropWhile f = z :: t ∧ f z = false
  | [] => .inl rfl
  | a :: l => by
    rw [List.dropWhile_cons]
    split
    · exact dw_head
    · rename_i h
      exact .inr ⟨a, l, rfl, by simpa using h⟩
theorem insB_srt {lt : Nat → Nat → Bool} (h : SWO lt) (i : Nat) (l : List Nat) (hl : l.Pairwise (fun x y => lx lt id x y = true)) (hi : ∀ x ∈ l, x < i) :
    (insB (fun x => lx lt id x i) i l).Pairwise (fun x y => lx lt id x y = true) := by
  have hl2 := hl
  rw [← List.takeWhile_append_dropWhile (p := fun x => lx lt id x i) (l := l), List.pairwise_append] at hl2
  obtain ⟨p1, p2, p3⟩ := hl2
  have hd : ∀ y ∈ l.dropWhile (fun x => lx lt id x i), lx lt id i y = true := by
    rcases dw_head (f := fun x => lx lt id x i) (l := l) with e | ⟨z, t, e, hz⟩
    · rw [e]; intro y hy; cases hy
    · have hzm : z ∈ l := (List.dropWhile_sublist _).subset (by rw [e]; exact List.mem_cons_self)
      have hiz : lx lt id i z = true := by
        cases e2 : lx lt id i z
        · have := lx_total (lt := lt) (p := id) e2 hz
          have h3 := hi z hzm
          simp at this; omega
        · rfl
      rw [e] at p2 ⊢
      intro y hy
      rcases List.mem_cons.1 hy with rfl | hy
      · exact hiz
      · exact (lx_swo h id).trans _ _ _ hiz ((List.pairwise_cons.1 p2).1 y hy)
  unfold insB
  rw [List.pairwise_append]
  refine ⟨p1, List.pairwise_cons.2 ⟨hd, p2⟩, fun x hx y hy => ?_⟩
  rcases List.mem_cons.1 hy with rfl | hy
  · exact tw_all (f := fun x => lx lt id x y) hx
  · exact p3 x hx y hy
theorem rl_srt {lt : Nat → Nat → Bool} (h : SWO lt) : ∀ n, (rl lt n).Pairwise (fun x y => lx lt id x y = true)
  | 0 => List.Pairwise.nil
  | n + 1 => insB_srt h n _ (rl_srt h n) (fun x hx => (rl_mem lt n x).1 hx)
/-- Both ways come to one. -/
theorem lots_same {lt : Nat → Nat → Bool} (h : SWO lt) (n : Nat) : (insertionSort lt (List.range n).toArray 0 n).toList = rl lt n := by
  obtain ⟨a, b⟩ := stable h id (List.range n) (fun q hq => by simp)
  rw [List.length_range] at a b
  exact lx_once h id b (rl_srt h n) (a.trans (rl_perm lt n).symm)

/-- The best one that is not out yet, the first of those. -/
def pickS (t : Nat → Int) (O : List Nat) (b : Option Nat) (i : Nat) : Option Nat := if i ∈ O then b else match b with
  | none => some i
  | some x => if t x < t i then some i else some x
def pick (t : Nat → Int) (O D : List Nat) : Option Nat := D.foldl (pickS t O) none
def gt (t : Nat → Int) (x y : Nat) : Bool := decide (t y < t x)
theorem gt_swo (t : Nat → Int) : SWO (gt t) where
  irrefl x := by simp [gt]
  trans x y z h1 h2 := by simp [gt] at *; omega
  ntrans x y z h1 h2 := by simp [gt] at *; omega
def PI (t : Nat → Int) (O D : List Nat) (m : Nat) (b : Option Nat) : Prop :=
  match b with
  | none => ∀ y ∈ D.take m, y ∈ O
  | some x => x ∈ D.take m ∧ x ∉ O ∧ ∀ y ∈ D.take m, y ∉ O → y = x ∨ lx (gt t) (D.idxOf ·) x y = true
theorem idx_lt {D : List Nat} (hnd : D.Nodup) {m x : Nat} (h : x ∈ D.take m) : D.idxOf x < m := by
  obtain ⟨i, hi, rfl⟩ := List.getElem_of_mem h
  rw [List.length_take] at hi
  rw [List.getElem_take, hnd.idxOf_getElem i (by omega)]
  omega
theorem pi_step {t : Nat → Int} {O D : List Nat} {m : Nat} (hnd : D.Nodup) (hm : m < D.length) {b : Option Nat} (h : PI t O D m b) : PI t O D (m + 1) (pickS t O b D[m]) := by
  have hidx : D.idxOf D[m] = m := hnd.idxOf_getElem m hm
  have ht : ∀ y, y ∈ D.take (m + 1) ↔ y ∈ D.take m ∨ y = D[m] := fun y => by
    rw [List.take_succ_eq_append_getElem hm]; simp only [List.mem_append, List.mem_singleton]
  unfold pickS
  split
  · rename_i hO
    cases b with
    | none => intro y hy; rcases (ht y).1 hy with hy | rfl; exact h y hy; exact hO
    | some x =>
      obtain ⟨h1, h2, h3⟩ := h
      refine ⟨(ht x).2 (.inl h1), h2, fun y hy hyO => ?_⟩
      rcases (ht y).1 hy with hy | rfl
      · exact h3 y hy hyO
      · exact absurd hO hyO
  · rename_i hO
    cases b with
    | none =>
      refine ⟨(ht _).2 (.inr rfl), hO, fun y hy hyO => ?_⟩
      rcases (ht y).1 hy with hy | rfl
      · exact absurd (h y hy) hyO
      · exact .inl rfl
    | some x =>
      obtain ⟨h1, h2, h3⟩ := h
      show PI t O D (m + 1) (if t x < t D[m] then some D[m] else some x)
      split
      · rename_i hlt
        refine ⟨(ht _).2 (.inr rfl), hO, fun y hy hyO => ?_⟩
        rcases (ht y).1 hy with hy | rfl
        · right
          rcases h3 y hy hyO with rfl | h4
          · simp [lx, gt, hlt]
          · have : t y ≤ t x := by
              simp only [lx, gt, Bool.or_eq_true, Bool.and_eq_true, Bool.not_eq_true', decide_eq_true_eq, decide_eq_false_iff_not] at h4
              omega
            simp [lx, gt]; omega
        · exact .inl rfl
      · rename_i hlt
        refine ⟨(ht x).2 (.inl h1), h2, fun y hy hyO => ?_⟩
        rcases (ht y).1 hy with hy | rfl
        · exact h3 y hy hyO
        · right
          have hx := idx_lt hnd h1
          simp only [lx, gt, hidx]
          simp; omega
theorem pi_take {t : Nat → Int} {O D : List Nat} (hnd : D.Nodup) : ∀ m, m ≤ D.length → PI t O D m ((D.take m).foldl (pickS t O) none)
  | 0, _ => by simp [PI]
  | m + 1, h => by
    rw [List.take_succ_eq_append_getElem (by omega), List.foldl_append]
    exact pi_step hnd (by omega) (pi_take hnd m (by omega))
/-- What is picked next is what stands next. -/
theorem pick_next {t : Nat → Int} {D R : List Nat} (hnd : D.Nodup) (hP : R.Perm D) (hR : R.Pairwise (fun x y => lx (gt t) (D.idxOf ·) x y = true)) {k : Nat} (hk : k < R.length) :
    pick t (R.take k) D = some R[k] := by
  have h := pi_take (t := t) (O := R.take k) hnd D.length (Nat.le_refl _)
  rw [List.take_length] at h
  have hnr : R.Nodup := hP.nodup_iff.2 hnd
  have hno : ∀ j (hj : j < R.length), R[j] ∈ R.take k → j < k := fun j hj hm => by
    obtain ⟨i, hi, e⟩ := List.getElem_of_mem hm
    rw [List.getElem_take] at e
    have hi2 := hi
    rw [List.length_take] at hi2
    by_cases hij : i < j
    · exact absurd e (List.pairwise_iff_getElem.1 hnr i j (by omega) hj hij)
    · omega
  show D.foldl (pickS t (R.take k)) none = _
  generalize D.foldl (pickS t (R.take k)) none = b at h ⊢
  cases b with
  | none =>
    have := h R[k] (by rw [List.take_length]; exact hP.subset (List.getElem_mem hk))
    exact absurd (hno k hk this) (by omega)
  | some x =>
    obtain ⟨h1, h2, h3⟩ := h
    rw [List.take_length] at h1 h3
    obtain ⟨j, hj, rfl⟩ := List.getElem_of_mem (hP.symm.subset h1)
    have hjk : k ≤ j := by
      by_cases e : k ≤ j
      · exact e
      · exact absurd (List.mem_take_iff_getElem.2 ⟨j, by omega, rfl⟩) h2
    rcases h3 R[k] (hP.subset (List.getElem_mem hk)) (fun hm => absurd (hno k hk hm) (by omega)) with e | e
    · rw [e]
    · by_cases e2 : j = k
      · subst e2; rfl
      · have h5 := (List.pairwise_iff_getElem.1 hR) k j hk hj (by omega)
        have := lx_asym (gt_swo t) h5
        rw [e] at this; cases this
end Go.Proofs.YtkcnpcjogfhkbaaGreatDoor.K
