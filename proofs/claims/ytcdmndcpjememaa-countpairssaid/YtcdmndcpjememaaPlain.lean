/- Marks that are ranks: what the program asks of them and what the document does. -/
namespace Go.Proofs.Ytcdmndcpjememaa

/-- How many are not 0. -/
def nz (l : List Int) : Nat := l.countP (fun x => x != 0)
/-- How many are from 1 to K. -/
def upTo (K : Nat) (l : List Int) : Nat := l.countP (fun x => decide (1 ≤ x ∧ x ≤ (K : Int)))
theorem upTo_zero (l : List Int) : upTo 0 l = 0 := by
  unfold upTo
  rw [List.countP_eq_zero]
  intro x _
  simp
  omega
theorem upTo_succ (K : Nat) (l : List Int) : upTo (K + 1) l = upTo K l + l.count ((K + 1 : Nat) : Int) := by
  induction l with
  | nil => rfl
  | cons x l ih =>
    unfold upTo at *
    rw [List.countP_cons, List.countP_cons, List.count_cons, ih]
    by_cases h1 : x = ((K + 1 : Nat) : Int)
    · subst h1
      have a : (1 ≤ (((K + 1 : Nat) : Int)) ∧ ((K + 1 : Nat) : Int) ≤ ((K + 1 : Nat) : Int)) := by omega
      have b : ¬ (1 ≤ (((K + 1 : Nat) : Int)) ∧ ((K + 1 : Nat) : Int) ≤ (K : Int)) := by omega
      rw [decide_eq_true a, decide_eq_false b]
      simp
      omega
    · have e : (1 ≤ x ∧ x ≤ ((K + 1 : Nat) : Int)) ↔ (1 ≤ x ∧ x ≤ (K : Int)) := by omega
      have e2 : decide (1 ≤ x ∧ x ≤ ((K + 1 : Nat) : Int)) = decide (1 ≤ x ∧ x ≤ (K : Int)) := decide_eq_decide.2 e
      rw [e2]
      have hb : (x == ((K + 1 : Nat) : Int)) = false := by simpa using h1
      rw [hb]
      simp
      omega
theorem upTo_le {l : List Int} : ∀ K, (∀ n : Nat, 1 ≤ n → n ≤ K → l.count (n : Int) ≤ 1) → upTo K l ≤ K
  | 0, _ => by rw [upTo_zero]; omega
  | K + 1, h => by
    have := upTo_le K (fun n a b => h n a (by omega))
    have := h (K + 1) (by omega) (by omega)
    rw [upTo_succ]
    omega
theorem upTo_all {l : List Int} : ∀ K, (∀ n : Nat, 1 ≤ n → n ≤ K → l.count (n : Int) = 1) → upTo K l = K
  | 0, _ => upTo_zero _
  | K + 1, h => by
    have := upTo_all K (fun n a b => h n a (by omega))
    have := h (K + 1) (by omega) (by omega)
    rw [upTo_succ]
    omega
theorem upTo_each {l : List Int} : ∀ K, (∀ n : Nat, 1 ≤ n → n ≤ K → l.count (n : Int) ≤ 1) → upTo K l = K → ∀ n : Nat, 1 ≤ n → n ≤ K → l.count (n : Int) = 1
  | 0, _, _ => fun n a b => by omega
  | K + 1, h, e => fun n a b => by
    have h1 := upTo_le K (fun n a b => h n a (by omega))
    have h2 := h (K + 1) (by omega) (by omega)
    rw [upTo_succ] at e
    by_cases hn : n = K + 1
    · subst hn; omega
    · exact upTo_each K (fun n a b => h n a (by omega)) (by omega) n a (by omega)
theorem countP_back {α : Type} {p q : α → Bool} : ∀ {l : List α}, (∀ x ∈ l, p x = true → q x = true) → l.countP p = l.countP q → ∀ x ∈ l, q x = true → p x = true
  | [], _, _ => fun x h => by cases h
  | y :: l, h, e => by
    have h' : ∀ x ∈ l, p x = true → q x = true := fun x hx => h x (List.mem_cons_of_mem _ hx)
    have hle : l.countP p ≤ l.countP q := List.countP_mono_left h'
    rw [List.countP_cons, List.countP_cons] at e
    have hy := h y (List.mem_cons_self ..)
    intro x hx hq
    cases hp : p y with
    | true =>
      rw [hp, hy hp] at e
      rcases List.mem_cons.1 hx with rfl | hx
      · exact hp
      · exact countP_back h' (by omega) x hx hq
    | false =>
      rw [hp] at e
      cases hqy : q y with
      | true => rw [hqy] at e; simp at e; omega
      | false =>
        rw [hqy] at e
        rcases List.mem_cons.1 hx with rfl | hx
        · rw [hq] at hqy; cases hqy
        · exact countP_back h' (by simpa using e) x hx hq
/-- What the program asks of ranks. -/
def Ranked (l : List Int) : Prop := (∀ x ∈ l, 0 ≤ x ∧ x ≤ (nz l : Int)) ∧ ∀ x ∈ l, 0 < x → l.count x ≤ 1
/-- What the document asks. -/
def RanksD (l : List Int) : Prop := (∀ x ∈ l, 0 ≤ x ∧ x ≤ (l.length : Int)) ∧ ∀ n : Nat, 1 ≤ n → n ≤ nz l → l.count (n : Int) = 1
theorem nz_le (l : List Int) : nz l ≤ l.length := List.countP_le_length
theorem ranked_iff (l : List Int) : Ranked l ↔ RanksD l := by
  have hle := nz_le l
  constructor
  · rintro ⟨h1, h2⟩
    refine ⟨fun x hx => ⟨(h1 x hx).1, by have := (h1 x hx).2; omega⟩, ?_⟩
    have h3 : ∀ n : Nat, 1 ≤ n → n ≤ nz l → l.count (n : Int) ≤ 1 := fun n a b => by
      by_cases hm : (n : Int) ∈ l
      · exact h2 _ hm (by omega)
      · rw [List.count_eq_zero_of_not_mem hm]; omega
    have e : upTo (nz l) l = nz l := by
      have : upTo (nz l) l = l.countP (fun x => x != 0) := List.countP_congr fun x hx => by
        have := h1 x hx
        simp
        omega
      rw [this]; rfl
    exact upTo_each _ h3 e
  · rintro ⟨h1, h2⟩
    have e := upTo_all (nz l) h2
    have h3 : ∀ x ∈ l, (x != 0) = true → decide (1 ≤ x ∧ x ≤ (nz l : Int)) = true := countP_back (p := fun x => decide (1 ≤ x ∧ x ≤ (nz l : Int))) (q := fun x => x != 0) (fun x _ h => by simp at h ⊢; omega) e
    refine ⟨fun x hx => ⟨(h1 x hx).1, ?_⟩, fun x hx hp => ?_⟩
    · by_cases h0 : x = 0
      · omega
      · have := h3 x hx (by simpa using h0)
        simp at this
        omega
    · have := h3 x hx (by simp; omega)
      simp at this
      obtain ⟨n, rfl⟩ := Int.eq_ofNat_of_zero_le (show 0 ≤ x by omega)
      exact Nat.le_of_eq (h2 n (by omega) (by omega))
theorem nz_take {l : List Int} {i : Nat} (h : i < l.length) : nz (l.take (i + 1)) = nz (l.take i) + (if l[i] != 0 then 1 else 0) := by
  unfold nz
  rw [List.take_succ_eq_append_getElem h, List.countP_append, List.countP_cons, List.countP_nil]
  omega
theorem count_take {l : List Int} {i : Nat} (h : i < l.length) (x : Int) : (l.take (i + 1)).count x = (l.take i).count x + (if l[i] == x then 1 else 0) := by
  rw [List.take_succ_eq_append_getElem h, List.count_append, List.count_cons, List.count_nil]
  omega
theorem nz_count (l : List Int) : nz l = l.length - l.count 0 := by
  have : l.length = nz l + l.count 0 := by
    induction l with
    | nil => rfl
    | cons x l ih =>
      unfold nz at *
      rw [List.countP_cons, List.count_cons, List.length_cons]
      by_cases h : x = 0
      · subst h; simp; omega
      · have a : (x != 0) = true := by simpa using h
        have b : (x == 0) = false := by simpa using h
        rw [a, b]; simp; omega
  omega
theorem count_two {l : List Int} {i : Nat} (h : i < l.length) (hm : l[i] ∈ l.take i) : 2 ≤ l.count l[i] := by
  have e : l.count l[i] = (l.take (i + 1)).count l[i] + (l.drop (i + 1)).count l[i] := by rw [← List.count_append, List.take_append_drop]
  have := List.count_pos_iff.2 hm
  rw [count_take h] at e
  simp at e
  omega
end Go.Proofs.Ytcdmndcpjememaa
