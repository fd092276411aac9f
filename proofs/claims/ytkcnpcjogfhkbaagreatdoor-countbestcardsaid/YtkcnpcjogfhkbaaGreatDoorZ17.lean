/- Ways, and the least set that beats all others: plain. Squares of numbers in memory. -/
import Derived.Test.YtkcnpcjogfhkbaaGreatDoorZ16
set_option linter.unusedSimpArgs false
set_option linter.unusedVariables false
set_option maxRecDepth 100000
namespace Go.Proofs.YtkcnpcjogfhkbaaGreatDoor

abbrev Mt := Nat → Nat → Int
def upd (M : Mt) (i j : Nat) (x : Int) : Mt := fun a b => if a = i ∧ b = j then x else M a b
theorem upd_at (M : Mt) (i j : Nat) (x : Int) : upd M i j x i j = x := by simp [upd]
theorem upd_ne (M : Mt) (i j : Nat) (x : Int) {a b : Nat} (h : ¬ (a = i ∧ b = j)) : upd M i j x a b = M a b := by simp [upd, h]
/-- A step of strength s. -/
def Ed (P : Mt) (s : Int) (i j : Nat) : Prop := P j i < P i j ∧ s ≤ P i j
/-- A way of strength s. -/
inductive Wa (P : Mt) (n : Nat) (s : Int) : Nat → Nat → Prop
  | one {i j : Nat} : i < n → j < n → Ed P s i j → Wa P n s i j
  | more {i k j : Nat} : Wa P n s i k → k < n → j < n → Ed P s k j → Wa P n s i j
theorem Wa.trans {P : Mt} {n : Nat} {s : Int} {i k j : Nat} (h1 : Wa P n s i k) (h2 : Wa P n s k j) (hk : k < n) : Wa P n s i j := by
  induction h2 with
  | one a b c => exact .more h1 hk b c
  | more _ a b c ih => exact .more ih a b c
/-- What stands for the strongest ways. -/
structure Str (P : Mt) (n : Nat) (M : Mt) : Prop where
  same : ∀ i, i < n → M i i = 0
  pos : ∀ i j, i < n → j < n → 0 ≤ M i j
  way : ∀ i j, i < n → j < n → i ≠ j → ∀ s : Int, 1 ≤ s → (s ≤ M i j ↔ Wa P n s i j)
theorem Str.le {P : Mt} {n : Nat} {M K : Mt} (h : Str P n M) (h' : Str P n K) {i j : Nat} (hi : i < n) (hj : j < n) : M i j ≤ K i j := by
  by_cases e : i = j
  · subst e
    have := h.same i hi
    have := h'.same i hi
    omega
  · by_cases h1 : 1 ≤ M i j
    · exact (h'.way i j hi hj e _ h1).2 ((h.way i j hi hj e _ h1).1 (Int.le_refl _))
    · have := h'.pos i j hi hj
      omega
theorem Str.eq {P : Mt} {n : Nat} {M K : Mt} (h : Str P n M) (h' : Str P n K) {i j : Nat} (hi : i < n) (hj : j < n) : M i j = K i j := Int.le_antisymm (h.le h' hi hj) (h'.le h hi hj)
/-- No more stands anywhere than there are ways. -/
structure Snd (P : Mt) (n : Nat) (M : Mt) : Prop where
  same : ∀ i, i < n → M i i = 0
  pos : ∀ i j, i < n → j < n → 0 ≤ M i j
  way : ∀ i j, i < n → j < n → ∀ s : Int, 1 ≤ s → s ≤ M i j → Wa P n s i j
theorem Snd.upd {P : Mt} {n : Nat} {M : Mt} (h : Snd P n M) {i j : Nat} (e : i ≠ j) {x : Int} (h0 : 0 ≤ x) (hx : ∀ s : Int, 1 ≤ s → s ≤ x → Wa P n s i j) : Snd P n (upd M i j x) := by
  refine ⟨fun a ha => ?_, fun a b ha hb => ?_, fun a b ha hb s hs hle => ?_⟩
  · rw [upd_ne _ _ _ _ (by rintro ⟨rfl, rfl⟩; exact e rfl)]; exact h.same a ha
  · by_cases q : a = i ∧ b = j
    · obtain ⟨rfl, rfl⟩ := q; rw [upd_at]; exact h0
    · rw [upd_ne _ _ _ _ q]; exact h.pos a b ha hb
  · by_cases q : a = i ∧ b = j
    · obtain ⟨rfl, rfl⟩ := q; rw [upd_at] at hle; exact hx s hs hle
    · rw [upd_ne _ _ _ _ q] at hle; exact h.way a b ha hb s hs hle
/-- Ways through the first k alone. -/
def Wk (P : Mt) (s : Int) : Nat → Nat → Nat → Prop
  | 0, i, j => Ed P s i j
  | k + 1, i, j => Wk P s k i j ∨ (Wk P s k i k ∧ Wk P s k k j)
theorem Wk.step {P : Mt} {s : Int} {i j : Nat} : ∀ k, Wk P s 0 i j → Wk P s k i j
  | 0, h => h
  | k + 1, h => Or.inl (Wk.step k h)
theorem Wk.through {P : Mt} {s : Int} : ∀ k {i m j : Nat}, m < k → Wk P s k i m → Wk P s k m j → Wk P s k i j
  | 0, i, m, j, hm, _, _ => by omega
  | k + 1, i, m, j, hm, h1, h2 => by
    by_cases e : m = k
    · subst e
      have a : Wk P s m i m := h1.elim id (·.1)
      have b : Wk P s m m j := h2.elim id (·.2)
      exact Or.inr ⟨a, b⟩
    · have hm' : m < k := by omega
      rcases h1 with a | ⟨a, b⟩ <;> rcases h2 with c | ⟨c, d⟩
      · exact Or.inl (Wk.through k hm' a c)
      · exact Or.inr ⟨Wk.through k hm' a c, d⟩
      · exact Or.inr ⟨a, Wk.through k hm' b c⟩
      · exact Or.inr ⟨a, d⟩
theorem Wa.wk {P : Mt} {n : Nat} {s : Int} {i j : Nat} (h : Wa P n s i j) : Wk P s n i j := by
  induction h with
  | one a b c => exact Wk.step n c
  | more _ a b c ih => exact Wk.through n a ih (Wk.step n c)
/-- How the program's numbers stand: all options below k taken as ways between, k too for those ahead of row i, column j. -/
structure Inv (P : Mt) (n k i j : Nat) (M : Mt) : Prop where
  snd : Snd P n M
  old : ∀ a b, a < n → b < n → a ≠ b → ∀ s : Int, 1 ≤ s → Wk P s k a b → s ≤ M a b
  new : ∀ a b, a < n → b < n → a ≠ b → (a < i ∨ (a = i ∧ b < j)) → ∀ s : Int, 1 ≤ s → Wk P s (k + 1) a b → s ≤ M a b
def fwV (M : Mt) (k i j : Nat) : Int := max (M i j) (min (M i k) (M k j))
theorem Inv.step {P : Mt} {n k i j : Nat} {M : Mt} (h : Inv P n k i j M) (hk : k < n) (hi : i < n) (hj : j < n) (e : i ≠ j) : Inv P n k i (j + 1) (upd M i j (fwV M k i j)) := by
  have hge : M i j ≤ fwV M k i j := by unfold fwV; omega
  have mono : ∀ a b, M a b ≤ upd M i j (fwV M k i j) a b := fun a b => by
    by_cases q : a = i ∧ b = j
    · obtain ⟨rfl, rfl⟩ := q; rw [upd_at]; exact hge
    · rw [upd_ne _ _ _ _ q]; exact Int.le_refl _
  refine ⟨h.snd.upd e (Int.le_trans (h.snd.pos i j hi hj) hge) (fun s hs hx => ?_), fun a b ha hb hn s hs hw => Int.le_trans (h.old a b ha hb hn s hs hw) (mono a b), fun a b ha hb hn hq s hs hw => ?_⟩
  · by_cases q : s ≤ M i j
    · exact h.snd.way i j hi hj s hs q
    · have q1 : s ≤ M i k := by unfold fwV at hx; omega
      have q2 : s ≤ M k j := by unfold fwV at hx; omega
      exact (h.snd.way i k hi hk s hs q1).trans (h.snd.way k j hk hj s hs q2) hk
  · by_cases q : a = i ∧ b = j
    · obtain ⟨rfl, rfl⟩ := q
      rw [upd_at]
      rcases hw with hw | ⟨hw1, hw2⟩
      · exact Int.le_trans (h.old a b ha hb hn s hs hw) hge
      · by_cases e1 : a = k
        · subst e1; exact Int.le_trans (h.old a b ha hb hn s hs hw2) hge
        · by_cases e2 : k = b
          · subst e2; exact Int.le_trans (h.old a k ha hb hn s hs hw1) hge
          · have q1 := h.old a k ha hk e1 s hs hw1
            have q2 := h.old k b hk hb e2 s hs hw2
            unfold fwV
            omega
    · exact Int.le_trans (h.new a b ha hb hn (by omega) s hs hw) (mono a b)
theorem Inv.skip {P : Mt} {n k i j : Nat} {M : Mt} (h : Inv P n k i j M) (e : i = j) : Inv P n k i (j + 1) M := ⟨h.snd, h.old, fun a b ha hb hn hq s hs hw => h.new a b ha hb hn (by omega) s hs hw⟩
theorem Inv.row {P : Mt} {n k i : Nat} {M : Mt} (h : Inv P n k i n M) : Inv P n k (i + 1) 0 M := ⟨h.snd, h.old, fun a b ha hb hn hq s hs hw => h.new a b ha hb hn (by omega) s hs hw⟩
theorem Inv.via {P : Mt} {n k : Nat} {M : Mt} (h : Inv P n k n 0 M) : Inv P n (k + 1) 0 0 M := ⟨h.snd, fun a b ha hb hn s hs hw => h.new a b ha hb hn (by omega) s hs hw, fun a b ha hb hn hq s hs hw => by omega⟩
theorem Inv.str {P : Mt} {n : Nat} {M : Mt} (h : Inv P n n 0 0 M) : Str P n M := ⟨h.snd.same, h.snd.pos, fun i j hi hj e s hs => ⟨h.snd.way i j hi hj s hs, fun hw => h.old i j hi hj e s hs hw.wk⟩⟩
/-- What beats, where it does. -/
def btM (P : Mt) : Mt := fun i j => if P j i < P i j then P i j else 0
theorem btM_inv {P : Mt} {n : Nat} (hp : ∀ i j, i < n → j < n → 0 ≤ P i j) : Inv P n 0 0 0 (btM P) := by
  refine ⟨⟨fun i hi => by simp [btM], fun i j hi hj => ?_, fun i j hi hj s hs hle => ?_⟩, fun i j hi hj e s hs hw => ?_, fun a b ha hb hn hq s hs hw => by omega⟩
  · have := hp i j hi hj; unfold btM; split <;> omega
  · unfold btM at hle
    split at hle
    · rename_i h; exact .one hi hj ⟨h, hle⟩
    · omega
  · obtain ⟨h1, h2⟩ : Ed P s i j := hw
    unfold btM
    rw [if_pos h1]
    exact h2
/-- What the document's step asks, and what it lays. -/
def rfS (P M : Mt) (i j k : Nat) : Int := if k ≠ i ∧ M i k < P k j then M i k else P k j
def rfT (P M : Mt) (i j k : Nat) : Bool := decide (i ≠ j ∧ P j k < P k j ∧ (k = i ∨ M i k ≠ 0))
theorem Snd.rf {P : Mt} {n : Nat} {M : Mt} (h : Snd P n M) {i j k : Nat} (hi : i < n) (hj : j < n) (hk : k < n) (ht : rfT P M i j k = true) (hx : M i j < rfS P M i j k) : Snd P n (Go.Proofs.YtkcnpcjogfhkbaaGreatDoor.upd M i j (rfS P M i j k)) := by
  simp only [rfT, decide_eq_true_eq] at ht
  obtain ⟨e, hb, hc⟩ := ht
  have h0 := h.pos i j hi hj
  refine h.upd e (by omega) (fun s hs hle => ?_)
  by_cases ek : k = i
  · subst ek
    refine .one hk hj ⟨hb, ?_⟩
    unfold rfS at hle
    simp at hle
    exact hle
  · have q : s ≤ M i k ∧ s ≤ P k j := by
      unfold rfS at hle
      split at hle <;> omega
    exact .more (h.way i k hi hk s hs q.1) hk hj ⟨hb, q.2⟩
/-- Nothing is to be done at a place. -/
def Qt (P M : Mt) (i j k : Nat) : Prop := rfT P M i j k = true → rfS P M i j k ≤ M i j
theorem str_of_quiet {P : Mt} {n : Nat} {M : Mt} (h : Snd P n M) (q : ∀ i j k, i < n → j < n → k < n → Qt P M i j k) : Str P n M := by
  refine ⟨h.same, h.pos, fun i j hi hj e s hs => ⟨h.way i j hi hj s hs, fun hw => ?_⟩⟩
  have aux : ∀ j, Wa P n s i j → i ≠ j → s ≤ M i j := by
    intro j hw
    induction hw with
    | @one j a b c =>
      intro e
      have := q i j i a b a (by simp [rfT, e, c.1])
      unfold rfS at this
      simp at this
      exact Int.le_trans c.2 this
    | @more k j hw a b c ih =>
      intro e
      by_cases ek : k = i
      · subst ek
        have := q k j k a b a (by simp [rfT, e, c.1])
        unfold rfS at this
        simp at this
        exact Int.le_trans c.2 this
      · have h1 := ih (Ne.symm ek)
        have h2 := q i j k hi b a (by simp [rfT, e, c.1]; exact Or.inr (by omega))
        have := c.2
        unfold rfS at h2
        split at h2 <;> omega
  exact aux j hw e
/-- All numbers together. -/
def sumTo : Nat → (Nat → Nat) → Nat
  | 0, _ => 0
  | n + 1, f => sumTo n f + f n
theorem sumTo_le {f : Nat → Nat} {c : Nat} : ∀ n, (∀ i, i < n → f i ≤ c) → sumTo n f ≤ n * c
  | 0, _ => by simp [sumTo]
  | n + 1, h => by
    have := sumTo_le n (fun i hi => h i (by omega))
    have := h n (by omega)
    rw [Nat.add_mul, Nat.one_mul]
    simp only [sumTo]
    omega
theorem sumTo_mono {f g : Nat → Nat} : ∀ n, (∀ i, i < n → f i ≤ g i) → sumTo n f ≤ sumTo n g
  | 0, _ => by simp [sumTo]
  | n + 1, h => by
    have := sumTo_mono n (fun i hi => h i (by omega))
    have := h n (by omega)
    simp only [sumTo]
    omega
theorem sumTo_lt {f g : Nat → Nat} {k : Nat} : ∀ n, (∀ i, i < n → f i ≤ g i) → k < n → f k < g k → sumTo n f < sumTo n g
  | 0, _, hk, _ => by omega
  | n + 1, h, hk, hl => by
    simp only [sumTo]
    by_cases e : k = n
    · subst e
      have := sumTo_mono k (fun i hi => h i (by omega))
      omega
    · have := sumTo_lt n (fun i hi => h i (by omega)) (by omega) hl
      have := h n (by omega)
      omega
def tot (n : Nat) (M : Mt) : Nat := sumTo n fun i => sumTo n fun j => (M i j).toNat
theorem tot_le {n : Nat} {M : Mt} (h : ∀ i j, i < n → j < n → M i j ≤ 1099511627776) : tot n M ≤ n * (n * 1099511627776) :=
  sumTo_le n fun i hi => sumTo_le n fun j hj => by have := h i j hi hj; omega
theorem tot_upd {n : Nat} {M : Mt} {i j : Nat} {x : Int} (hi : i < n) (hj : j < n) (h0 : 0 ≤ M i j) (hx : M i j < x) : tot n M < tot n (upd M i j x) := by
  have mono : ∀ a b, (M a b).toNat ≤ (upd M i j x a b).toNat := fun a b => by
    by_cases q : a = i ∧ b = j
    · obtain ⟨rfl, rfl⟩ := q; rw [upd_at]; omega
    · rw [upd_ne _ _ _ _ q]; exact Nat.le_refl _
  refine sumTo_lt n (fun a ha => sumTo_mono n fun b hb => mono a b) hi ?_
  refine sumTo_lt n (fun b hb => mono i b) hj ?_
  rw [upd_at]
  omega
/-- A set of which each beats all that are not in it. -/
def Dom (P : Mt) (n : Nat) (f : Nat → Bool) : Prop := ∀ a, a < n → f a = true → ∀ j, j < n → f j = false → P j a < P a j
theorem Dom.chain {P : Mt} {n : Nat} {f g : Nat → Bool} (hf : Dom P n f) (hg : Dom P n g) {a b : Nat} (ha : a < n) (hb : b < n) (h1 : f a = true) (h2 : g a = false) (h3 : g b = true) : f b = true := by
  cases h : f b with
  | true => rfl
  | false =>
    have q1 := hf a ha h1 b hb h
    have q2 := hg b hb h3 a ha h2
    omega
def lst (n : Nat) (f : Nat → Bool) : List Nat := (List.range n).filter f
theorem lst_mem {n : Nat} {f : Nat → Bool} {a : Nat} : a ∈ lst n f ↔ a < n ∧ f a = true := by simp [lst]
theorem lst_congr {n : Nat} {f g : Nat → Bool} (h : ∀ a, a < n → f a = g a) : lst n f = lst n g := List.filter_congr fun a ha => h a (by simpa using ha)
theorem lst_sub {n : Nat} {f g : Nat → Bool} (h : ∀ a, a < n → f a = true → g a = true) : (lst n f).length ≤ (lst n g).length := by
  have q : (lst n f).Sublist (lst n g) := by
    have e : lst n f = (lst n g).filter f := by
      unfold lst
      rw [List.filter_filter]
      refine List.filter_congr fun a ha => ?_
      have ha' : a < n := by simpa using ha
      cases e1 : f a with
      | true => rw [h a ha' e1]; rfl
      | false => rfl
    rw [e]
    exact List.filter_sublist
  exact q.length_le
theorem lst_eq {n : Nat} {f g : Nat → Bool} (h : ∀ a, a < n → f a = true → g a = true) (hl : (lst n g).length ≤ (lst n f).length) : lst n f = lst n g := by
  have e : lst n f = (lst n g).filter f := by
    unfold lst
    rw [List.filter_filter]
    refine List.filter_congr fun a ha => ?_
    have ha' : a < n := by simpa using ha
    cases e1 : f a with
    | true => rw [h a ha' e1]; rfl
    | false => rfl
  have s : (lst n f).Sublist (lst n g) := by rw [e]; exact List.filter_sublist
  exact s.eq_of_length_le hl
/-- Two that beat all others, of as many: they are the same. -/
theorem Dom.same {P : Mt} {n : Nat} {f g : Nat → Bool} (hf : Dom P n f) (hg : Dom P n g) (hl : (lst n f).length = (lst n g).length) : lst n f = lst n g := by
  by_cases h : ∀ a, a < n → f a = true → g a = true
  · exact lst_eq h (by omega)
  · have h' : ∀ b, b < n → g b = true → f b = true := fun b hb h3 => by
      cases e : f b with
      | true => rfl
      | false =>
        refine absurd (fun a ha h1 => ?_) h
        cases e2 : g a with
        | true => rfl
        | false =>
          have := hf.chain hg ha hb h1 e2 h3
          rw [e] at this
          cases this
    exact (lst_eq h' (by omega)).symm
/-- The least that has any. -/
structure Least (P : Mt) (n : Nat) (f : Nat → Bool) : Prop where
  dom : Dom P n f
  some : 0 < (lst n f).length
  few : ∀ g, Dom P n g → 0 < (lst n g).length → (lst n f).length ≤ (lst n g).length
theorem Least.same {P : Mt} {n : Nat} {f g : Nat → Bool} (hf : Least P n f) (hg : Least P n g) : lst n f = lst n g :=
  hf.dom.same hg.dom (Nat.le_antisymm (hf.few g hg.dom hg.some) (hg.few f hf.dom hf.some))
end Go.Proofs.YtkcnpcjogfhkbaaGreatDoor
namespace Go.Proofs.YtkcnpcjogfhkbaaGreatDoor
open Go.RowKit Go.Deep Go.PlainAid

theorem IHolds.alloc {w : World} {b : Nat} {t : TypeId} {l : List Value} (h : IHolds w b t l) (o : Obj) : IHolds (w.alloc o) b t l := h.of_below ((Below.refl _ _).alloc (Nat.le_refl _) _)
theorem IHolds.store {w : World} {b b' : Nat} {T : TypeId} {V : List Value} (h : IHolds w b' T V) (hne : b' ≠ b) (i : Nat) (u : Value) : IHolds (w.setCell ⟨b, i, none⟩ u) b' T V := by
  unfold IHolds at *
  simp [World.setCell, Array.getElem?_modify, h, Ne.symm hne]
theorem IHolds.drewN {w : World} {b : Nat} {t : TypeId} {l : List Value} (h : IHolds w b t l) (n : Nat) : IHolds (w.drewN n) b t l := h
/-- n numbers. -/
def IR (w : World) (a : Option Addr) (n : Nat) (f : Nat → Int) : Prop := ∀ j, j < n → ∃ b o, a = some ⟨b, o, none⟩ ∧ w.cell? ⟨b, o + j, none⟩ = some (.int .i64 (f j))
theorem IR.of_below {w w' : World} {a : Option Addr} {n : Nat} {f : Nat → Int} (h : IR w a n f) (hb : Below w.heap.size w w') : IR w' a n f := fun j hj => by
  obtain ⟨b, o, e, hc⟩ := h j hj
  exact ⟨b, o, e, cell_keep hc hb⟩
theorem IL.ir {w : World} {a : Option Addr} {l : List Int} (h : IL w a l) : IR w a l.length (fun j => l.getD j 0) := fun j hj => by
  obtain ⟨b, o, e, hc⟩ := h j hj
  exact ⟨b, o, e, by simpa [hj] using hc⟩
theorem IR.il {w : World} {a : Option Addr} {n : Nat} {f : Nat → Int} (h : IR w a n f) : IL w a ((List.range n).map f) := fun i hi => by
  obtain ⟨b, o, e, hc⟩ := h i (by simpa using hi)
  exact ⟨b, o, e, by simpa using hc⟩
/-- A square of numbers. -/
def SQ (w : World) (a : Option Addr) (n : Nat) (P : Mt) : Prop := ∀ i, i < n → ∃ b o a' c, a = some ⟨b, o, none⟩ ∧ w.cell? ⟨b, o + i, none⟩ = some (.slice a' n c) ∧ IR w a' n (P i)
theorem SQ.of_below {w w' : World} {a : Option Addr} {n : Nat} {P : Mt} (h : SQ w a n P) (hb : Below w.heap.size w w') : SQ w' a n P := fun i hi => by
  obtain ⟨b, o, a', c, e, hc, hr⟩ := h i hi
  exact ⟨b, o, a', c, e, cell_keep hc hb, hr.of_below hb⟩
set_option maxHeartbeats 1000000 in
theorem beats40 {w : World} {a : Option Addr} {n c i j : Nat} {P : Mt} (hs : SQ w a n P) (hi : i < n) (hj : j < n) :
    Calls Tryz.prog 40 #[.slice a n c, .int .i64 (i : Int), .int .i64 (j : Int)] w fun e w' => e = .returned (.bool (decide (P j i < P i j))) ∧ Below w.heap.size w w' := by
  obtain ⟨b, o, a1, c1, rfl, h1, r1⟩ := hs i hi
  obtain ⟨b', o', a2, c2, e, h2, r2⟩ := hs j hj
  cases e
  obtain ⟨b1, o1, rfl, q1⟩ := r1 j hj
  obtain ⟨b2, o2, rfl, q2⟩ := r2 i hi
  have il : (i : Int) < (n : Int) := by omega
  have jl : (j : Int) < (n : Int) := by omega
  clear r1 r2 hs
  generalize P i j = x at *
  generalize P j i = y at *
  go_enter Tryz.func40, Tryz.ntmps40
  go_wp2_with fail
  go_quiet (fail)
  have BQ : Hid (Below w.heap.size w (World.drewN w nq)) := ⟨rfl, rfl, rfl, Nat.le_refl _, fun _ _ => rfl⟩
  clear h1 h2 q1 q2
  generalize World.drewN w nq = wq at *
  go_wp2_with fail
  go_ret
  exact ⟨rfl, BQ.out⟩
/-- Headers of rows, the first k laid. -/
def hd (b n k : Nat) : List Value := (List.range n).map fun i => if i < k then .slice (some ⟨b + 1 + i, 0, none⟩) n n else .slice none 0 0
theorem hd_len (b n k : Nat) : (hd b n k).length = n := by simp [hd]
theorem hd_set {b n k : Nat} (h : k < n) : (hd b n k).set k (.slice (some ⟨b + 1 + k, 0, none⟩) n n) = hd b n (k + 1) := by
  refine List.ext_getElem (by simp [hd]) (fun i h1 h2 => ?_)
  rw [List.getElem_set]
  by_cases e : k = i
  · subst e; simp [hd]
  · rw [if_neg e]
    simp only [hd, List.getElem_map, List.getElem_range]
    by_cases q : i < k
    · rw [if_pos q, if_pos (by omega)]
    · rw [if_neg q, if_neg (by omega)]
def rowV (n : Nat) (f : Nat → Int) : List Value := (List.range n).map fun j => Value.int .i64 (f j)
theorem rowV_len (n : Nat) (f : Nat → Int) : (rowV n f).length = n := by simp [rowV]
theorem rowV_at {n : Nat} {f : Nat → Int} {j : Nat} (h : j < n) (h' : j < (rowV n f).length) : (rowV n f)[j] = .int .i64 (f j) := by simp [rowV]
/-- A square that the call made: its rows lie one behind the other. -/
structure MX (w : World) (b n : Nat) (M : Mt) : Prop where
  top : IHolds w b 26 (hd b n n)
  row : ∀ i, i < n → IHolds w (b + 1 + i) 3 (rowV n (M i))
theorem MX.of_below {w w' : World} {b n : Nat} {M : Mt} (h : MX w b n M) (hb : Below w.heap.size w w') : MX w' b n M := ⟨h.top.of_below hb, fun i hi => (h.row i hi).of_below hb⟩
theorem MX.hdr {w : World} {b n : Nat} {M : Mt} (h : MX w b n M) {i : Nat} (hi : i < n) : w.cell? ⟨b, i, none⟩ = some (.slice (some ⟨b + 1 + i, 0, none⟩) n n) := by
  have := h.top.cell i (by rw [hd_len]; exact hi)
  rw [this]
  simp [hd, hi]
theorem MX.at {w : World} {b n : Nat} {M : Mt} (h : MX w b n M) {i j : Nat} (hi : i < n) (hj : j < n) : w.cell? ⟨b + 1 + i, j, none⟩ = some (.int .i64 (M i j)) := by
  have := (h.row i hi).cell j (by rw [rowV_len]; exact hj)
  rw [this, rowV_at hj]
theorem MX.set {w : World} {b n : Nat} {M : Mt} (h : MX w b n M) {i j : Nat} (hi : i < n) (hj : j < n) (x : Int) : MX (w.setCell ⟨b + 1 + i, j, none⟩ (.int .i64 x)) b n (upd M i j x) := by
  refine ⟨h.top.store (by omega) _ _, fun k hk => ?_⟩
  by_cases e : k = i
  · subst e
    have q := (h.row k hk).set j (.int .i64 x)
    have e2 : (rowV n (M k)).set j (.int .i64 x) = rowV n (upd M k j x k) := by
      refine List.ext_getElem (by simp [rowV]) (fun a h1 h2 => ?_)
      rw [List.getElem_set]
      by_cases e : j = a
      · subst e; simp [rowV, upd]
      · rw [if_neg e]
        have e' : ¬ a = j := fun q => e q.symm
        simp [rowV, upd, e']
    rw [e2] at q
    exact q
  · have e2 : rowV n (upd M i j x k) = rowV n (M k) := by
      unfold rowV upd
      simp [e]
    rw [e2]
    exact (h.row k hk).store (by omega) _ _
theorem MX.sq {w : World} {b n : Nat} {M : Mt} (h : MX w b n M) : SQ w (some ⟨b, 0, none⟩) n M := fun i hi => by
  refine ⟨b, 0, _, n, rfl, by rw [Nat.zero_add]; exact h.hdr hi, fun j hj => ⟨_, _, rfl, ?_⟩⟩
  rw [Nat.zero_add]
  exact h.at hi hj
theorem Tryz.info31 : (Tryz.prog.info? 26).map (fun i => (i.zero, i.size, i.bytes)) = some (some (.slice none 0 0), 1, 24) := by kernel_rfl
theorem Tryz.info3 : (Tryz.prog.info? 3).map (fun i => (i.zero, i.size, i.bytes)) = some (some (.int .i64 0), 1, 8) := by kernel_rfl
theorem Tryz.under25 : Tryz.prog.underlying 25 = some (.slice 26) := by kernel_rfl
theorem Tryz.under31 : Tryz.prog.underlying 26 = some (.slice 3) := by kernel_rfl
theorem make25 (n : Nat) (hn : n ≤ 4294967296) (w : World) : (Instr.makeSlice 25 (.int .i64 (n : Int)) (.int .i64 (n : Int))).run Tryz.prog w = .ok (.slice (some ⟨w.heap.size, 0, none⟩) n n) (w.alloc (.cells (hd w.heap.size n 0).toArray 26)) := by
  have := run_make_row' (P := Tryz.prog) 25 26 (.slice none 0 0) 24 Tryz.under25 Tryz.info31 rfl .i64 .i64 n (by omega) (by omega) w
  rw [this]
  have e : madeCells #[.slice none 0 0] n = (hd w.heap.size n 0).toArray := by
    apply Array.toList_inj.1
    rw [toList_madeCells_one]
    refine List.ext_getElem (by simp [hd]) (fun i h1 h2 => by simp [hd])
  rw [e]
theorem make31 (n : Nat) (hn : n ≤ 4294967296) (w : World) : (Instr.makeSlice 26 (.int .i64 (n : Int)) (.int .i64 (n : Int))).run Tryz.prog w = .ok (.slice (some ⟨w.heap.size, 0, none⟩) n n) (w.alloc (.cells (rowV n (fun _ => 0)).toArray 3)) := by
  have := run_make_row' (P := Tryz.prog) 26 3 (.int .i64 0) 8 Tryz.under31 Tryz.info3 rfl .i64 .i64 n (by omega) (by omega) w
  rw [this]
  have e : madeCells #[.int .i64 0] n = (rowV n (fun _ => 0)).toArray := by
    apply Array.toList_inj.1
    rw [toList_madeCells_one]
    refine List.ext_getElem (by simp [rowV]) (fun i h1 h2 => by simp [rowV])
  rw [e]
/-- What holds while rows are laid. -/
structure ZR (w : World) (n i : Nat) (wr : World) : Prop where
  size : wr.heap.size = w.heap.size + 1 + i
  top : IHolds wr w.heap.size 26 (hd w.heap.size n i)
  row : ∀ k, k < i → IHolds wr (w.heap.size + 1 + k) 3 (rowV n (fun _ => 0))
  below : Below w.heap.size w wr
theorem ZR.start (w : World) (n : Nat) : ZR w n 0 (w.alloc (.cells (hd w.heap.size n 0).toArray 26)) := ⟨by simp, IHolds.new _ _ _, fun k hk => by omega, (Below.refl _ _).alloc (Nat.le_refl _) _⟩
theorem ZR.step {w : World} {n i : Nat} {wr : World} (h : ZR w n i wr) (hi : i < n) : ZR w n (i + 1) ((wr.alloc (.cells (rowV n (fun _ => 0)).toArray 3)).setCell ⟨w.heap.size, i, none⟩ (.slice (some ⟨wr.heap.size, 0, none⟩) n n)) := by
  have hs := h.size
  refine ⟨by simp [World.setCell]; omega, ?_, fun k hk => ?_, (h.below.alloc h.below.size _).setCell (Nat.le_refl _) _⟩
  · have q := (h.top.alloc (.cells (rowV n (fun _ => 0)).toArray 3)).set i (.slice (some ⟨wr.heap.size, 0, none⟩) n n)
    rw [hs, hd_set hi, ← hs] at q
    rw [hs] at q ⊢
    exact q
  · refine IHolds.store ?_ (by omega) _ _
    by_cases e : k = i
    · subst e
      rw [← hs]
      exact IHolds.new _ _ _
    · exact (h.row k (by omega)).alloc _
theorem ZR.done {w : World} {n : Nat} {wr : World} (h : ZR w n n wr) : MX wr w.heap.size n (fun _ _ => 0) := ⟨h.top, h.row⟩
set_option maxHeartbeats 1000000 in
theorem zeros24 {w : World} {n : Nat} (hn : n ≤ 12) :
    Calls Tryz.prog 23 #[.int .i64 (n : Int)] w fun e w' => e = .returned (.slice (some ⟨w.heap.size, 0, none⟩) n n) ∧ MX w' w.heap.size n (fun _ _ => 0) ∧ Below w.heap.size w w' := by
  have M1 := make25 n (by omega) w
  have M2 : Hid (∀ W, (Instr.makeSlice 26 (.int .i64 (n : Int)) (.int .i64 (n : Int))).run Tryz.prog W = .ok (.slice (some ⟨W.heap.size, 0, none⟩) n n) (W.alloc (.cells (rowV n (fun _ => 0)).toArray 3))) := fun W => make31 n (by omega) W
  have Z0 : Hid (ZR w n 0 (w.alloc (.cells (hd w.heap.size n 0).toArray 26))) := ZR.start w n
  go_enter Tryz.func23, Tryz.ntmps23
  go_wp2_with fail
  generalize w.alloc (.cells (hd w.heap.size n 0).toArray 26) = U at *
  clear M1
  go_loopg [4, 9] n (fun gk v4 v9 wr => ∃ i : Nat, i + gk = n ∧ v9 = .int .i64 (i : Int) ∧ ZR w n i wr)
  case atStart => exact ⟨0, by omega, rfl, Z0.out⟩
  case round =>
    obtain ⟨i, hig, rfl, hZ⟩ := hrel
    have Z : Hid (ZR w n i wr) := hZ
    clear hZ Z0
    by_cases hi : i < n
    · have il : (i : Int) < (n : Int) := by omega
      have m2 := M2.out wr
      have c := (Z.out.top.alloc (.cells (rowV n (fun _ => 0)).toArray 3)).cell i (by rw [hd_len]; exact hi)
      have f := (Z.out.top.alloc (.cells (rowV n (fun _ => 0)).toArray 3)).frozen i
      have Z1 : Hid (ZR w n (i + 1) ((wr.alloc (.cells (rowV n (fun _ => 0)).toArray 3)).setCell ⟨w.heap.size, i, none⟩ (.slice (some ⟨wr.heap.size, 0, none⟩) n n))) := Z.out.step hi
      generalize (hd w.heap.size n i)[i]'(by rw [hd_len]; exact hi) = x at *
      generalize (wr.alloc (.cells (rowV n (fun _ => 0)).toArray 3)) = V at *
      go_wp2_with fail
      go_roundg (gk - 1)
      case measure => omega
      case rel => exact ⟨i + 1, by omega, by go_num, Z1.out⟩
    · have il : ¬ (i : Int) < (n : Int) := by omega
      have e : i = n := by omega
      subst e
      go_wp2_with fail
      go_ret
      exact ⟨rfl, Z.out.done, Z.out.below⟩
end Go.Proofs.YtkcnpcjogfhkbaaGreatDoor
