/- Ways, and the least set that beats all others: plain. -/
set_option linter.unusedSimpArgs false
set_option linter.unusedVariables false
namespace Go.Proofs.Ytcdmndcpjememaa

abbrev Mt := Nat → Nat → Int
def upd (M : Mt) (i j : Nat) (x : Int) : Mt := fun a b => if a = i ∧ b = j then x else M a b
theorem upd_at (M : Mt) (i j : Nat) (x : Int) : upd M i j x i j = x := by simp [upd]
theorem upd_ne (M : Mt) (i j : Nat) (x : Int) {a b : Nat} (h : ¬ (a = i ∧ b = j)) : upd M i j x a b = M a b := by simp [upd, h]
/-- A step of strength s. -/
def Ed (P : Mt) (s : Int) (i j : Nat) : Prop := P j i < P i j ∧ s ≤ P i j
/-- A way of strength s. -/
inductive Wa (P : Mt) (n : Nat) (s : Int) : Nat → Nat → Prop
  | one {i j : Nat} : i < n → j < n → Ed P s i j → Wa P n s i j
  | more {i k j : Nat} : Wa P n s i k → k < n → j < n → Ed P s k j → Wa P n s i j
theorem Wa.trans {P : Mt} {n : Nat} {s : Int} {i k j : Nat} (h1 : Wa P n s i k) (h2 : Wa P n s k j) (hk : k < n) : Wa P n s i j := by
  induction h2 with
  | one a b c => exact .more h1 hk b c
  | more _ a b c ih => exact .more ih a b c
/-- What stands for the strongest ways. -/
structure Str (P : Mt) (n : Nat) (M : Mt) : Prop where
  same : ∀ i, i < n → M i i = 0
  pos : ∀ i j, i < n → j < n → 0 ≤ M i j
  way : ∀ i j, i < n → j < n → i ≠ j → ∀ s : Int, 1 ≤ s → (s ≤ M i j ↔ Wa P n s i j)
theorem Str.le {P : Mt} {n : Nat} {M K : Mt} (h : Str P n M) (h' : Str P n K) {i j : Nat} (hi : i < n) (hj : j < n) : M i j ≤ K i j := by
  by_cases e : i = j
  · subst e
    have := h.same i hi
    have := h'.same i hi
    omega
  · by_cases h1 : 1 ≤ M i j
    · exact (h'.way i j hi hj e _ h1).2 ((h.way i j hi hj e _ h1).1 (Int.le_refl _))
    · have := h'.pos i j hi hj
      omega
theorem Str.eq {P : Mt} {n : Nat} {M K : Mt} (h : Str P n M) (h' : Str P n K) {i j : Nat} (hi : i < n) (hj : j < n) : M i j = K i j := Int.le_antisymm (h.le h' hi hj) (h'.le h hi hj)
/-- No more stands anywhere than there are ways. -/
structure Snd (P : Mt) (n : Nat) (M : Mt) : Prop where
  same : ∀ i, i < n → M i i = 0
  pos : ∀ i j, i < n → j < n → 0 ≤ M i j
  way : ∀ i j, i < n → j < n → ∀ s : Int, 1 ≤ s → s ≤ M i j → Wa P n s i j
theorem Snd.upd {P : Mt} {n : Nat} {M : Mt} (h : Snd P n M) {i j : Nat} (e : i ≠ j) {x : Int} (h0 : 0 ≤ x) (hx : ∀ s : Int, 1 ≤ s → s ≤ x → Wa P n s i j) : Snd P n (upd M i j x) := by
  refine ⟨fun a ha => ?_, fun a b ha hb => ?_, fun a b ha hb s hs hle => ?_⟩
  · rw [upd_ne _ _ _ _ (by rintro ⟨rfl, rfl⟩; exact e rfl)]; exact h.same a ha
  · by_cases q : a = i ∧ b = j
    · obtain ⟨rfl, rfl⟩ := q; rw [upd_at]; exact h0
    · rw [upd_ne _ _ _ _ q]; exact h.pos a b ha hb
  · by_cases q : a = i ∧ b = j
    · obtain ⟨rfl, rfl⟩ := q; rw [upd_at] at hle; exact hx s hs hle
    · rw [upd_ne _ _ _ _ q] at hle; exact h.way a b ha hb s hs hle
/-- Ways through the first k alone. -/
def Wk (P : Mt) (s : Int) : Nat → Nat → Nat → Prop
  | 0, i, j => Ed P s i j
  | k + 1, i, j => Wk P s k i j ∨ (Wk P s k i k ∧ Wk P s k k j)
theorem Wk.step {P : Mt} {s : Int} {i j : Nat} : ∀ k, Wk P s 0 i j → Wk P s k i j
  | 0, h => h
  | k + 1, h => Or.inl (Wk.step k h)
theorem Wk.through {P : Mt} {s : Int} : ∀ k {i m j : Nat}, m < k → Wk P s k i m → Wk P s k m j → Wk P s k i j
  | 0, i, m, j, hm, _, _ => by omega
  | k + 1, i, m, j, hm, h1, h2 => by
    by_cases e : m = k
    · subst e
      have a : Wk P s m i m := h1.elim id (·.1)
      have b : Wk P s m m j := h2.elim id (·.2)
      exact Or.inr ⟨a, b⟩
    · have hm' : m < k := by omega
      rcases h1 with a | ⟨a, b⟩ <;> rcases h2 with c | ⟨c, d⟩
      · exact Or.inl (Wk.through k hm' a c)
      · exact Or.inr ⟨Wk.through k hm' a c, d⟩
      · exact Or.inr ⟨a, Wk.through k hm' b c⟩
      · exact Or.inr ⟨a, d⟩
theorem Wa.wk {P : Mt} {n : Nat} {s : Int} {i j : Nat} (h : Wa P n s i j) : Wk P s n i j := by
  induction h with
  | one a b c => exact Wk.step n c
  | more _ a b c ih => exact Wk.through n a ih (Wk.step n c)
/-- How the program's numbers stand: all options below k taken as ways between, k too for those ahead of row i, column j. -/
structure Inv (P : Mt) (n k i j : Nat) (M : Mt) : Prop where
  snd : Snd P n M
  old : ∀ a b, a < n → b < n → a ≠ b → ∀ s : Int, 1 ≤ s → Wk P s k a b → s ≤ M a b
  new : ∀ a b, a < n → b < n → a ≠ b → (a < i ∨ (a = i ∧ b < j)) → ∀ s : Int, 1 ≤ s → Wk P s (k + 1) a b → s ≤ M a b
def fwV (M : Mt) (k i j : Nat) : Int := max (M i j) (min (M i k) (M k j))
theorem Inv.step {P : Mt} {n k i j : Nat} {M : Mt} (h : Inv P n k i j M) (hk : k < n) (hi : i < n) (hj : j < n) (e : i ≠ j) : Inv P n k i (j + 1) (upd M i j (fwV M k i j)) := by
  have hge : M i j ≤ fwV M k i j := by unfold fwV; omega
  have mono : ∀ a b, M a b ≤ upd M i j (fwV M k i j) a b := fun a b => by
    by_cases q : a = i ∧ b = j
    · obtain ⟨rfl, rfl⟩ := q; rw [upd_at]; exact hge
    · rw [upd_ne _ _ _ _ q]; exact Int.le_refl _
  refine ⟨h.snd.upd e (Int.le_trans (h.snd.pos i j hi hj) hge) (fun s hs hx => ?_), fun a b ha hb hn s hs hw => Int.le_trans (h.old a b ha hb hn s hs hw) (mono a b), fun a b ha hb hn hq s hs hw => ?_⟩
  · by_cases q : s ≤ M i j
    · exact h.snd.way i j hi hj s hs q
    · have q1 : s ≤ M i k := by unfold fwV at hx; omega
      have q2 : s ≤ M k j := by unfold fwV at hx; omega
      exact (h.snd.way i k hi hk s hs q1).trans (h.snd.way k j hk hj s hs q2) hk
  · by_cases q : a = i ∧ b = j
    · obtain ⟨rfl, rfl⟩ := q
      rw [upd_at]
      rcases hw with hw | ⟨hw1, hw2⟩
      · exact Int.le_trans (h.old a b ha hb hn s hs hw) hge
      · by_cases e1 : a = k
        · subst e1; exact Int.le_trans (h.old a b ha hb hn s hs hw2) hge
        · by_cases e2 : k = b
          · subst e2; exact Int.le_trans (h.old a k ha hb hn s hs hw1) hge
          · have q1 := h.old a k ha hk e1 s hs hw1
            have q2 := h.old k b hk hb e2 s hs hw2
            unfold fwV
            omega
    · exact Int.le_trans (h.new a b ha hb hn (by omega) s hs hw) (mono a b)
theorem Inv.skip {P : Mt} {n k i j : Nat} {M : Mt} (h : Inv P n k i j M) (e : i = j) : Inv P n k i (j + 1) M := ⟨h.snd, h.old, fun a b ha hb hn hq s hs hw => h.new a b ha hb hn (by omega) s hs hw⟩
theorem Inv.row {P : Mt} {n k i : Nat} {M : Mt} (h : Inv P n k i n M) : Inv P n k (i + 1) 0 M := ⟨h.snd, h.old, fun a b ha hb hn hq s hs hw => h.new a b ha hb hn (by omega) s hs hw⟩
theorem Inv.via {P : Mt} {n k : Nat} {M : Mt} (h : Inv P n k n 0 M) : Inv P n (k + 1) 0 0 M := ⟨h.snd, fun a b ha hb hn s hs hw => h.new a b ha hb hn (by omega) s hs hw, fun a b ha hb hn hq s hs hw => by omega⟩
theorem Inv.str {P : Mt} {n : Nat} {M : Mt} (h : Inv P n n 0 0 M) : Str P n M := ⟨h.snd.same, h.snd.pos, fun i j hi hj e s hs => ⟨h.snd.way i j hi hj s hs, fun hw => h.old i j hi hj e s hs hw.wk⟩⟩
/-- What beats, where it does. -/
def btM (P : Mt) : Mt := fun i j => if P j i < P i j then P i j else 0
theorem btM_inv {P : Mt} {n : Nat} (hp : ∀ i j, i < n → j < n → 0 ≤ P i j) : Inv P n 0 0 0 (btM P) := by
  refine ⟨⟨fun i hi => by simp [btM], fun i j hi hj => ?_, fun i j hi hj s hs hle => ?_⟩, fun i j hi hj e s hs hw => ?_, fun a b ha hb hn hq s hs hw => by omega⟩
  · have := hp i j hi hj; unfold btM; split <;> omega
  · unfold btM at hle
    split at hle
    · rename_i h; exact .one hi hj ⟨h, hle⟩
    · omega
  · obtain ⟨h1, h2⟩ : Ed P s i j := hw
    unfold btM
    rw [if_pos h1]
    exact h2
/-- What the document's step asks, and what it lays. -/
def rfS (P M : Mt) (i j k : Nat) : Int := if k ≠ i ∧ M i k < P k j then M i k else P k j
def rfT (P M : Mt) (i j k : Nat) : Bool := decide (i ≠ j ∧ P j k < P k j ∧ (k = i ∨ M i k ≠ 0))
theorem Snd.rf {P : Mt} {n : Nat} {M : Mt} (h : Snd P n M) {i j k : Nat} (hi : i < n) (hj : j < n) (hk : k < n) (ht : rfT P M i j k = true) (hx : M i j < rfS P M i j k) : Snd P n (Go.Proofs.Ytcdmndcpjememaa.upd M i j (rfS P M i j k)) := by
  simp only [rfT, decide_eq_true_eq] at ht
  obtain ⟨e, hb, hc⟩ := ht
  have h0 := h.pos i j hi hj
  refine h.upd e (by omega) (fun s hs hle => ?_)
  by_cases ek : k = i
  · subst ek
    refine .one hk hj ⟨hb, ?_⟩
    unfold rfS at hle
    simp at hle
    exact hle
  · have q : s ≤ M i k ∧ s ≤ P k j := by
      unfold rfS at hle
      split at hle <;> omega
    exact .more (h.way i k hi hk s hs q.1) hk hj ⟨hb, q.2⟩
/-- Nothing is to be done at a place. -/
def Qt (P M : Mt) (i j k : Nat) : Prop := rfT P M i j k = true → rfS P M i j k ≤ M i j
theorem str_of_quiet {P : Mt} {n : Nat} {M : Mt} (h : Snd P n M) (q : ∀ i j k, i < n → j < n → k < n → Qt P M i j k) : Str P n M := by
  refine ⟨h.same, h.pos, fun i j hi hj e s hs => ⟨h.way i j hi hj s hs, fun hw => ?_⟩⟩
  have aux : ∀ j, Wa P n s i j → i ≠ j → s ≤ M i j := by
    intro j hw
    induction hw with
    | @one j a b c =>
      intro e
      have := q i j i a b a (by simp [rfT, e, c.1])
      unfold rfS at this
      simp at this
      exact Int.le_trans c.2 this
    | @more k j hw a b c ih =>
      intro e
      by_cases ek : k = i
      · subst ek
        have := q k j k a b a (by simp [rfT, e, c.1])
        unfold rfS at this
        simp at this
        exact Int.le_trans c.2 this
      · have h1 := ih (Ne.symm ek)
        have h2 := q i j k hi b a (by simp [rfT, e, c.1]; exact Or.inr (by omega))
        have := c.2
        unfold rfS at h2
        split at h2 <;> omega
  exact aux j hw e
/-- All numbers together. -/
def sumTo : Nat → (Nat → Nat) → Nat
  | 0, _ => 0
  | n + 1, f => sumTo n f + f n
theorem sumTo_le {f : Nat → Nat} {c : Nat} : ∀ n, (∀ i, i < n → f i ≤ c) → sumTo n f ≤ n * c
  | 0, _ => by simp [sumTo]
  | n + 1, h => by
    have := sumTo_le n (fun i hi => h i (by omega))
    have := h n (by omega)
    rw [Nat.add_mul, Nat.one_mul]
    simp only [sumTo]
    omega
theorem sumTo_mono {f g : Nat → Nat} : ∀ n, (∀ i, i < n → f i ≤ g i) → sumTo n f ≤ sumTo n g
  | 0, _ => by simp [sumTo]
  | n + 1, h => by
    have := sumTo_mono n (fun i hi => h i (by omega))
    have := h n (by omega)
    simp only [sumTo]
    omega
theorem sumTo_lt {f g : Nat → Nat} {k : Nat} : ∀ n, (∀ i, i < n → f i ≤ g i) → k < n → f k < g k → sumTo n f < sumTo n g
  | 0, _, hk, _ => by omega
  | n + 1, h, hk, hl => by
    simp only [sumTo]
    by_cases e : k = n
    · subst e
      have := sumTo_mono k (fun i hi => h i (by omega))
      omega
    · have := sumTo_lt n (fun i hi => h i (by omega)) (by omega) hl
      have := h n (by omega)
      omega
def tot (n : Nat) (M : Mt) : Nat := sumTo n fun i => sumTo n fun j => (M i j).toNat
theorem tot_le {n : Nat} {M : Mt} (h : ∀ i j, i < n → j < n → M i j ≤ 1099511627776) : tot n M ≤ n * (n * 1099511627776) :=
  sumTo_le n fun i hi => sumTo_le n fun j hj => by have := h i j hi hj; omega
theorem tot_upd {n : Nat} {M : Mt} {i j : Nat} {x : Int} (hi : i < n) (hj : j < n) (h0 : 0 ≤ M i j) (hx : M i j < x) : tot n M < tot n (upd M i j x) := by
  have mono : ∀ a b, (M a b).toNat ≤ (upd M i j x a b).toNat := fun a b => by
    by_cases q : a = i ∧ b = j
    · obtain ⟨rfl, rfl⟩ := q; rw [upd_at]; omega
    · rw [upd_ne _ _ _ _ q]; exact Nat.le_refl _
  refine sumTo_lt n (fun a ha => sumTo_mono n fun b hb => mono a b) hi ?_
  refine sumTo_lt n (fun b hb => mono i b) hj ?_
  rw [upd_at]
  omega
/-- A set of which each beats all that are not in it. -/
def Dom (P : Mt) (n : Nat) (f : Nat → Bool) : Prop := ∀ a, a < n → f a = true → ∀ j, j < n → f j = false → P j a < P a j
theorem Dom.chain {P : Mt} {n : Nat} {f g : Nat → Bool} (hf : Dom P n f) (hg : Dom P n g) {a b : Nat} (ha : a < n) (hb : b < n) (h1 : f a = true) (h2 : g a = false) (h3 : g b = true) : f b = true := by
  cases h : f b with
  | true => rfl
  | false =>
    have q1 := hf a ha h1 b hb h
    have q2 := hg b hb h3 a ha h2
    omega
def lst (n : Nat) (f : Nat → Bool) : List Nat := (List.range n).filter f
theorem lst_mem {n : Nat} {f : Nat → Bool} {a : Nat} : a ∈ lst n f ↔ a < n ∧ f a = true := by simp [lst]
theorem lst_congr {n : Nat} {f g : Nat → Bool} (h : ∀ a, a < n → f a = g a) : lst n f = lst n g := List.filter_congr fun a ha => h a (by simpa using ha)
theorem lst_sub {n : Nat} {f g : Nat → Bool} (h : ∀ a, a < n → f a = true → g a = true) : (lst n f).length ≤ (lst n g).length := by
  have q : (lst n f).Sublist (lst n g) := by
    have e : lst n f = (lst n g).filter f := by
      unfold lst
      rw [List.filter_filter]
      refine List.filter_congr fun a ha => ?_
      have ha' : a < n := by simpa using ha
      cases e1 : f a with
      | true => rw [h a ha' e1]; rfl
      | false => rfl
    rw [e]
    exact List.filter_sublist
  exact q.length_le
theorem lst_eq {n : Nat} {f g : Nat → Bool} (h : ∀ a, a < n → f a = true → g a = true) (hl : (lst n g).length ≤ (lst n f).length) : lst n f = lst n g := by
  have e : lst n f = (lst n g).filter f := by
    unfold lst
    rw [List.filter_filter]
    refine List.filter_congr fun a ha => ?_
    have ha' : a < n := by simpa using ha
    cases e1 : f a with
    | true => rw [h a ha' e1]; rfl
    | false => rfl
  have s : (lst n f).Sublist (lst n g) := by rw [e]; exact List.filter_sublist
  exact s.eq_of_length_le hl
/-- Two that beat all others, of as many: they are the same. -/
theorem Dom.same {P : Mt} {n : Nat} {f g : Nat → Bool} (hf : Dom P n f) (hg : Dom P n g) (hl : (lst n f).length = (lst n g).length) : lst n f = lst n g := by
  by_cases h : ∀ a, a < n → f a = true → g a = true
  · exact lst_eq h (by omega)
  · have h' : ∀ b, b < n → g b = true → f b = true := fun b hb h3 => by
      cases e : f b with
      | true => rfl
      | false =>
        refine absurd (fun a ha h1 => ?_) h
        cases e2 : g a with
        | true => rfl
        | false =>
          have := hf.chain hg ha hb h1 e2 h3
          rw [e] at this
          cases this
    exact (lst_eq h' (by omega)).symm
/-- The least that has any. -/
structure Least (P : Mt) (n : Nat) (f : Nat → Bool) : Prop where
  dom : Dom P n f
  some : 0 < (lst n f).length
  few : ∀ g, Dom P n g → 0 < (lst n g).length → (lst n f).length ≤ (lst n g).length
theorem Least.same {P : Mt} {n : Nat} {f g : Nat → Bool} (hf : Least P n f) (hg : Least P n g) : lst n f = lst n g :=
  hf.dom.same hg.dom (Nat.le_antisymm (hf.few g hg.dom hg.some) (hg.few f hf.dom hf.some))
end Go.Proofs.Ytcdmndcpjememaa
