/- Halves put together: by a stack, and the first pair again and again. -/
import Derived.Test.YteomefhjglnghaaDoorPh
import Derived.WalkSmall
set_option linter.unusedSimpArgs false
set_option linter.unusedVariables false
namespace Go.Proofs.YteomefhjglnghaaDoor
open Go.RowKit Go.Deep Go.PlainAid

abbrev P3 := (Nat × Nat) × ByteArray
/-- Two that are the halves of a block. -/
def half (a b : P3) : Bool := decide (b.1.2 - b.1.1 = a.1.2 - a.1.1) && decide (a.1.1 % (2 * (a.1.2 - a.1.1)) = 0)
def join2 (a b : P3) : P3 := ((a.1.1, b.1.2), tgF lBlock [a.2, b.2])
/-- One more on the stack (its top comes first). -/
def push : List P3 → P3 → List P3
  | [], b => [b]
  | a :: s, b => if half a b = true then push s (join2 a b) else b :: a :: s
def pushAll : List P3 → List P3 → List P3
  | s, [] => s
  | s, b :: r => pushAll (push s b) r
def joinedL (l : List P3) : List P3 := (pushAll [] l).reverse
theorem pushAll_append : ∀ (l r s : List P3), pushAll s (l ++ r) = pushAll (pushAll s l) r
  | [], r, s => rfl
  | b :: l, r, s => by rw [List.cons_append, pushAll, pushAll, pushAll_append l r]
/-- No pair. -/
def NoPair (l : List P3) : Prop := ∀ j (h : j + 1 < l.length), half l[j] l[j + 1] = false
theorem pushAll_np : ∀ (l s : List P3), (∀ a b, s.head? = some a → l.head? = some b → half a b = false) → NoPair l → pushAll s l = l.reverse ++ s
  | [], s, _, _ => by simp [pushAll]
  | b :: r, s, h, hn => by
    have e : push s b = b :: s := by
      cases s with
      | nil => rfl
      | cons a s => rw [push, h a b rfl rfl]; rfl
    rw [pushAll, e, pushAll_np r (b :: s) ?_ ?_]
    · simp
    · intro a c ha hc
      cases r with
      | nil => simp at hc
      | cons d r =>
        simp at ha hc
        subst ha hc
        exact hn 0 (by simp)
    · intro j hj
      have := hn (j + 1) (by simp; omega)
      simpa using this
theorem joined_np {l : List P3} (h : NoPair l) : joinedL l = l := by
  unfold joinedL
  rw [pushAll_np l [] (fun a b q => by simp at q) h]
  simp
theorem joined_red (p : List P3) (a b : P3) (r : List P3) (hn : NoPair (p ++ [a])) (hh : half a b = true) : joinedL (p ++ join2 a b :: r) = joinedL (p ++ a :: b :: r) := by
  have hp : NoPair p := fun j hj => by
    have := hn j (by simp; omega)
    rw [List.getElem_append_left (by omega), List.getElem_append_left (by omega)] at this
    exact this
  unfold joinedL
  rw [show p ++ a :: b :: r = (p ++ [a]) ++ (b :: r) by simp, pushAll_append, pushAll_append, pushAll_np (p ++ [a]) [] (fun a b q => by simp at q) hn, pushAll_np p [] (fun a b q => by simp at q) hp]
  simp [pushAll, push, hh]
/-- Blocks that lie one behind the other from lo on to hi. -/
def Al : Nat → Nat → List P3 → Prop
  | lo, hi, [] => lo = hi
  | lo, hi, p :: r => p.1.1 = lo ∧ (∃ k, p.1.2 = lo + 2 ^ k ∧ lo % 2 ^ k = 0) ∧ Al p.1.2 hi r
theorem Al.le : ∀ {l : List P3} {lo hi : Nat}, Al lo hi l → lo ≤ hi
  | [], lo, hi, h => by have : lo = hi := h; omega
  | p :: r, lo, hi, h => by
    obtain ⟨h1, ⟨k, h2, h3⟩, h4⟩ := h
    have := Al.le h4
    have := Nat.two_pow_pos k
    omega
theorem Al.append : ∀ {l r : List P3} {lo m hi : Nat}, Al lo m l → Al m hi r → Al lo hi (l ++ r)
  | [], r, lo, m, hi, h, k => by have : lo = m := h; subst this; exact k
  | p :: l, r, lo, m, hi, h, k => ⟨h.1, h.2.1, Al.append h.2.2 k⟩
theorem Al.mid : ∀ {l r : List P3} {lo hi : Nat}, Al lo hi (l ++ r) → ∃ m, Al lo m l ∧ Al m hi r
  | [], r, lo, hi, h => ⟨lo, rfl, h⟩
  | p :: l, r, lo, hi, h => by
    obtain ⟨m, h1, h2⟩ := Al.mid (l := l) h.2.2
    exact ⟨m, ⟨h.1, h.2.1, h1⟩, h2⟩
theorem al_cov : ∀ (k lo hi : Nat) (ds : List ByteArray), lo ≤ hi → hi - lo ≤ k → ds.length = (cov k lo hi).length → Al lo hi ((cov k lo hi).zip ds)
  | 0, lo, hi, ds, h, hk, e => by
    have : lo = hi := by omega
    simpa [cov, Al] using this
  | k + 1, lo, hi, ds, h, hk, e => by
    by_cases hlt : lo < hi
    · obtain ⟨j, h1, h2, h3, h4, h5⟩ := down_spec (hi - lo) lo (by omega) 20
      rw [cov_cons hlt h2] at e ⊢
      cases ds with
      | nil => simp at e
      | cons d ds =>
        have := Nat.two_pow_pos j
        exact ⟨rfl, ⟨j, rfl, h4⟩, al_cov k (lo + 2 ^ j) hi ds (by omega) (by omega) (by simpa using e)⟩
    · rw [cov_nil hlt]
      have : lo = hi := by omega
      simpa [Al] using this
/-- What the walks want of two that lie side by side. -/
theorem Al.two {p r : List P3} {a b : P3} {lo hi : Nat} (h : Al lo hi (p ++ a :: b :: r)) : (∃ k, a.1.2 = a.1.1 + 2 ^ k ∧ a.1.1 % 2 ^ k = 0) ∧ (∃ k, b.1.2 = b.1.1 + 2 ^ k) ∧ b.1.1 = a.1.2 ∧ b.1.2 ≤ hi := by
  obtain ⟨m, h1, h2⟩ := Al.mid h
  obtain ⟨e1, ⟨k, e2, e3⟩, e4, ⟨j, e5, e6⟩, e7⟩ := h2
  have := Al.le e7
  exact ⟨⟨k, by omega, by rw [e1]; exact e3⟩, ⟨j, by omega⟩, e4, this⟩
theorem Al.join {p r : List P3} {a b : P3} {lo hi : Nat} (h : Al lo hi (p ++ a :: b :: r)) (hh : half a b = true) : Al lo hi (p ++ join2 a b :: r) := by
  obtain ⟨m, h1, h2⟩ := Al.mid h
  obtain ⟨e1, ⟨k, e2, e3⟩, e4, ⟨j, e5, e6⟩, e7⟩ := h2
  unfold half at hh
  simp only [Bool.and_eq_true, decide_eq_true_eq] at hh
  obtain ⟨q1, q2⟩ := hh
  have ej : (2 : Nat) ^ j = 2 ^ k := by omega
  refine Al.append h1 ⟨e1, ⟨k + 1, ?_, ?_⟩, e7⟩
  · show b.1.2 = _
    rw [Nat.pow_succ]
    omega
  · rw [show a.1.2 - a.1.1 = 2 ^ k by omega, e1] at q2
    rw [Nat.pow_succ, Nat.mul_comm]
    exact q2
theorem NoPair.tail {p : P3} {r : List P3} (h : NoPair (p :: r)) : NoPair r := fun j hj => by
  have := h (j + 1) (by simp; omega)
  simpa using this
/-- Where no pair is left the blocks are the cover. -/
theorem al_np : ∀ (l : List P3) (lo hi : Nat), Al lo hi l → NoPair l → (∀ p r, l = p :: r → lo % (2 * (p.1.2 - p.1.1)) = 0) →
    (∀ p r, l = p :: r → hi < lo + 2 * (p.1.2 - p.1.1)) ∧ ∀ n, hi - lo ≤ n → hi ≤ 1048576 → l.map Prod.fst = cov n lo hi
  | [], lo, hi, h, hn, hd => ⟨fun p r e => by simp at e, fun n h1 h2 => by
      have : lo = hi := h
      rw [cov_nil (by omega)]
      rfl⟩
  | p :: r, lo, hi, h, hn, hd => by
    obtain ⟨h1, ⟨k, h2, h3⟩, h4⟩ := h
    have hk := Nat.two_pow_pos k
    have hs : p.1.2 - p.1.1 = 2 ^ k := by omega
    have hd0 := hd p r rfl
    rw [hs] at hd0
    have hr : ∀ q t, r = q :: t → 2 * (q.1.2 - q.1.1) ≤ 2 ^ k ∧ p.1.2 % (2 * (q.1.2 - q.1.1)) = 0 := by
      rintro q t rfl
      obtain ⟨g1, ⟨m, g2, g3⟩, g4⟩ := h4
      have hm := Nat.two_pow_pos m
      have gs : q.1.2 - q.1.1 = 2 ^ m := by omega
      have hne : m ≠ k := by
        rintro rfl
        have := hn 0 (by simp)
        simp only [List.getElem_cons_zero, List.getElem_cons_succ, half, Bool.and_eq_false_iff, decide_eq_false_iff_not] at this
        rcases this with this | this
        · omega
        · rw [hs, h1] at this
          exact this hd0
      have hle : m < k := by
        rcases Nat.lt_or_ge m k with hlt | hge
        · exact hlt
        · exfalso
          obtain ⟨d, rfl⟩ : ∃ d, m = k + 1 + d := ⟨m - (k + 1), by omega⟩
          have d1 : 2 * 2 ^ k ∣ p.1.2 := Nat.dvd_trans ⟨2 ^ d, by rw [Nat.pow_add, Nat.pow_succ]; rw [Nat.mul_comm (2 ^ k) 2]⟩ (Nat.dvd_of_mod_eq_zero g3)
          have d2 : 2 * 2 ^ k ∣ lo := Nat.dvd_of_mod_eq_zero hd0
          have d3 : 2 * 2 ^ k ∣ 2 ^ k := by
            have := (Nat.dvd_add_right d2).1 (h2 ▸ d1)
            exact this
          have := Nat.le_of_dvd hk d3
          omega
      obtain ⟨d, rfl⟩ : ∃ d, k = m + 1 + d := ⟨k - (m + 1), by omega⟩
      have e : 2 ^ (m + 1 + d) = 2 * 2 ^ m * 2 ^ d := by rw [Nat.pow_add, Nat.pow_succ, Nat.mul_comm (2 ^ m) 2]
      rw [gs]
      constructor
      · rw [e]; exact Nat.le_mul_of_pos_right _ (Nat.two_pow_pos d)
      · rw [h2]
        apply Nat.mod_eq_zero_of_dvd
        refine Nat.dvd_add ?_ ⟨2 ^ d, e⟩
        exact Nat.dvd_trans ⟨2 * 2 ^ d, by rw [e, Nat.mul_comm 2, Nat.mul_assoc, Nat.mul_comm _ 2]⟩ (Nat.dvd_of_mod_eq_zero hd0)
    obtain ⟨I1, I2⟩ := al_np r p.1.2 hi h4 hn.tail (fun q t e => (hr q t e).2)
    have hhi : hi < lo + 2 * 2 ^ k := by
      cases r with
      | nil => have : p.1.2 = hi := h4; omega
      | cons q t =>
        have := I1 q t rfl
        have := (hr q t rfl).1
        omega
    have hle := Al.le h4
    refine ⟨fun p' r' e => by cases e; rw [hs]; exact hhi, fun n g1 g2 => ?_⟩
    have hk20 : k ≤ 20 := by
      rcases Nat.lt_or_ge k 21 with q | q
      · omega
      · have : 2 ^ 21 ≤ 2 ^ k := Nat.pow_le_pow_right (by omega) q
        omega
    have hdn : down 20 (hi - lo) lo = 2 ^ k := down_uniq hk20 (by omega) h3 (fun ⟨q, _⟩ => by rw [Nat.pow_succ] at q; omega)
    cases n with
    | zero => omega
    | succ n =>
      rw [cov_cons (by omega) hdn, List.map_cons, I2 n (by omega) g2, h2]
      congr 1
      exact Prod.ext h1 h2
theorem al_cover {l : List P3} {z : Nat} (h : Al 0 z l) (hz : z ≤ 1048576) (hn : NoPair l) : l.map Prod.fst = cover 0 z :=
  (al_np l 0 z h hn (fun p r e => Nat.zero_mod _)).2 1048576 (by omega) hz
theorem al_last : ∀ {l : List P3} {lo hi n : Nat}, Al lo hi l → (h : l.length = n + 1) → l[n].1.2 = hi
  | [], lo, hi, n, _, h => by simp at h
  | [p], lo, hi, n, h, e => by
    have : n = 0 := by simpa using e.symm
    subst this
    exact h.2.2
  | p :: q :: r, lo, hi, 0, h, e => by simp at e
  | p :: q :: r, lo, hi, n + 1, h, e => by
    have := al_last (l := q :: r) (n := n) h.2.2 (by simpa using e)
    simpa using this
theorem push_len : ∀ (s : List P3) (b : P3), 1 ≤ (push s b).length ∧ (push s b).length ≤ s.length + 1
  | [], b => by simp [push]
  | a :: s, b => by
    rw [push]
    split
    · have := push_len s (join2 a b)
      simp only [List.length_cons]
      omega
    · simp
end Go.Proofs.YteomefhjglnghaaDoor

/- Two parts: halves of one, put together. -/
set_option linter.unusedSimpArgs false
set_option linter.unusedVariables false
set_option maxRecDepth 100000
namespace Go.Proofs.YteomefhjglnghaaDoor
open Go.RowKit Go.Deep Go.PlainAid

def agg3 (p : P3) : Value := .agg #[.int .i64 (p.1.1 : Int), .int .i64 (p.1.2 : Int), .string p.2]
set_option maxHeartbeats 1000000 in
theorem half38 {w : World} (a b : P3) (ha : a.1.1 < a.1.2) (ha2 : a.1.2 ≤ 1048576) (hb : b.1.1 < b.1.2) (hb2 : b.1.2 ≤ 1048576) : Calls Tryd.prog 31 #[agg3 a, agg3 b] w fun e w' => e = .returned (.bool (half a b)) ∧ Below w.heap.size w w' := by
  obtain ⟨⟨a1, a2⟩, s⟩ := a
  obtain ⟨⟨b1, b2⟩, t⟩ := b
  unfold agg3
  dsimp only at ha ha2 hb hb2 ⊢
  obtain ⟨n, hn⟩ : ∃ n, n = a2 - a1 := ⟨_, rfl⟩
  obtain ⟨m, hm⟩ : ∃ m, m = b2 - b1 := ⟨_, rfl⟩
  have kn : (a2 : Int) - (a1 : Int) = (n : Int) := by omega
  have km : (b2 : Int) - (b1 : Int) = (m : Int) := by omega
  obtain ⟨d, hd⟩ : ∃ d, d = 2 * n := ⟨_, rfl⟩
  have kd : 2 * (n : Int) = (d : Int) := by omega
  have kd0 : ((d : Int) == 0) = false := by simp; omega
  obtain ⟨r, hr⟩ : ∃ r, r = a1 % d := ⟨_, rfl⟩
  have kr : (a1 : Int) % (d : Int) = (r : Int) := by rw [hr]; rfl
  have kr2 : Int.tmod (a1 : Int) (d : Int) = (r : Int) := by rw [hr]; rfl
  have HE : Hid (half ((a1, a2), s) ((b1, b2), t) = (decide (m = n) && decide (r = 0))) := by
    show _ = _
    rw [hr, hd, hn, hm]
    rfl
  have hd1 : d ≤ 2097152 := by omega
  have hd2 : 1 ≤ d := by omega
  have B2 : Hid (Below w.heap.size w ((w.alloc (.cells #[.int .i64 (a1 : Int), .int .i64 (a2 : Int), .string s] 46)).alloc (.cells #[.int .i64 (b1 : Int), .int .i64 (b2 : Int), .string t] 46))) := (nB w _).trans ((nB _ _).mono (nB w _).size)
  generalize half ((a1, a2), s) ((b1, b2), t) = HH at *
  clear hr hd hn hm
  by_cases g1 : m = n
  · have e1 : ((m : Int) == (n : Int)) = true := by simp; omega
    have e2 : decide (m = n) = true := by simpa using g1
    by_cases g2 : r = 0
    · have e3 : ((r : Int) == 0) = true := by simp; omega
      obtain rfl : HH = true := by rw [HE.out, e2, g2]; rfl
      clear HE e2 g1 g2
      go_enter Tryd.func31, Tryd.ntmps31
      go_wp2_with fail
      go_ret
      exact ⟨rfl, B2.out⟩
    · have e3 : ((r : Int) == 0) = false := by simp; omega
      obtain rfl : HH = false := by rw [HE.out, e2]; simpa using g2
      clear HE e2 g1
      go_enter Tryd.func31, Tryd.ntmps31
      go_wp2_with fail
      go_ret
      exact ⟨rfl, B2.out⟩
  · have e1 : ((m : Int) == (n : Int)) = false := by simp; omega
    obtain rfl : HH = false := by rw [HE.out]; simp [g1]
    clear HE
    go_enter Tryd.func31, Tryd.ntmps31
    go_wp2_with fail
    go_ret
    exact ⟨rfl, B2.out⟩
end Go.Proofs.YteomefhjglnghaaDoor

/- Two parts put together. -/
set_option linter.unusedSimpArgs false
set_option linter.unusedVariables false
set_option maxRecDepth 100000
namespace Go.Proofs.YteomefhjglnghaaDoor
open Go.RowKit Go.Deep Go.PlainAid

theorem IHolds.set {w : World} {b : Nat} {t : TypeId} {l : List Value} (h : IHolds w b t l) (i : Nat) (x : Value) : IHolds (w.setCell ⟨b, i, none⟩ x) b t (l.set i x) := by
  unfold IHolds at *
  simp [World.setCell, Array.getElem?_modify, h, List.map_set]
theorem IHolds.ofB {w w' : World} {n b : Nat} {t : TypeId} {l : List Value} (h : IHolds w b t l) (hb : Below n w w') (hn : b < n) : IHolds w' b t l := (hb.block b hn).trans h
theorem IHolds.range {w : World} {b : Nat} {t : TypeId} {l : List Value} (h : IHolds w b t l) : w.rangeAt b 0 l := fun j v hj => by
  have hlt : j < l.length := (List.getElem?_eq_some_iff.1 hj).1
  rw [List.getElem?_eq_getElem hlt] at hj
  rw [Nat.zero_add, h.cell j hlt]
  exact hj
theorem size50 : (Tryd.prog.info? 46).map (·.size) = some 3 := by kernel_rfl
set_option maxHeartbeats 2000000 in
theorem with39 {w : World} (T : TagC tgF 35 w) (a b : P3) (ha2 : a.2.size = 32) (hb2 : b.2.size = 32) : Calls Tryd.prog 32 #[agg3 a, agg3 b] w fun e w' => e = .returned (agg3 (join2 a b)) ∧ Below w.heap.size w w' := by
  obtain ⟨⟨a1, a2⟩, s⟩ := a
  obtain ⟨⟨b1, b2⟩, t⟩ := b
  unfold agg3 join2
  dsimp only at ha2 hb2 ⊢
  have HC : Hid (∀ V, Below w.heap.size w V → Calls Tryd.prog 27 #[.string s, .string t] V fun e w' => e = .returned (.string (tgF lBlock [s, t])) ∧ Below V.heap.size V w') := fun V hV => both29 (T.of hV) s t (by omega) (by omega)
  generalize tgF lBlock [s, t] = D at *
  clear T ha2 hb2
  go_enter Tryd.func32, Tryd.ntmps32
  go_wp2_with fail
  generalize hW0 : (((w.alloc (.cells #[.int .i64 (a1 : Int), .int .i64 (a2 : Int), .string s] 46)).alloc (.cells #[.int .i64 (b1 : Int), .int .i64 (b2 : Int), .string t] 46)).alloc (.cells #[.int .i64 0, .int .i64 0, .string ⟨#[]⟩] 46)) = W0
  have hsz : W0.heap.size = w.heap.size + 1 + 1 + 1 := by rw [← hW0]; simp
  have hB0 : Below w.heap.size w W0 := by rw [← hW0]; exact (((Below.refl _ w).alloc (Nat.le_refl _) _).alloc (by simp) _).alloc (by simp; omega) _
  have i1 : IHolds W0 w.heap.size 46 [.int .i64 (a1 : Int), .int .i64 (a2 : Int), .string s] := by
    rw [← hW0]
    exact ((IHolds.new w 46 [.int .i64 (a1 : Int), .int .i64 (a2 : Int), .string s]).alloc _).alloc _
  have i2 : IHolds W0 (w.heap.size + 1) 46 [.int .i64 (b1 : Int), .int .i64 (b2 : Int), .string t] := by
    rw [← hW0]
    have := IHolds.new (w.alloc (.cells #[.int .i64 (a1 : Int), .int .i64 (a2 : Int), .string s] 46)) 46 [.int .i64 (b1 : Int), .int .i64 (b2 : Int), .string t]
    rw [World.size_alloc] at this
    exact this.alloc _
  have i3 : IHolds W0 (w.heap.size + 1 + 1) 46 [.int .i64 0, .int .i64 0, .string ⟨#[]⟩] := by
    rw [← hW0]
    have := IHolds.new ((w.alloc (.cells #[.int .i64 (a1 : Int), .int .i64 (a2 : Int), .string s] 46)).alloc (.cells #[.int .i64 (b1 : Int), .int .i64 (b2 : Int), .string t] 46)) 46 [.int .i64 0, .int .i64 0, .string ⟨#[]⟩]
    rw [World.size_alloc, World.size_alloc] at this
    exact this
  have KS : Hid (∀ V, Below (w.heap.size + 1 + 1) W0 V → V.cell? ⟨w.heap.size, 0, none⟩ = some (.int .i64 (a1 : Int)) ∧ V.cell? ⟨w.heap.size, 2, none⟩ = some (.string s) ∧ V.cell? ⟨w.heap.size + 1, 1, none⟩ = some (.int .i64 (b2 : Int)) ∧ V.cell? ⟨w.heap.size + 1, 2, none⟩ = some (.string t)) := fun V hV =>
    ⟨(i1.ofB hV (by omega)).cell 0 (by simp), (i1.ofB hV (by omega)).cell 2 (by simp), (i2.ofB hV (by omega)).cell 1 (by simp), (i2.ofB hV (by omega)).cell 2 (by simp)⟩
  have HB0 : Hid _ := hB0
  have HI3 : Hid (IHolds W0 (w.heap.size + 1 + 1) 46 [.int .i64 0, .int .i64 0, .string ⟨#[]⟩]) := i3
  have HSZ : Hid _ := hsz
  have EE : Hid (∀ v1, Below W0.heap.size W0 v1 → Below (w.heap.size + 1 + 1) W0 (((v1.setCell ⟨w.heap.size + 1 + 1, 0, none⟩ (.int .i64 (a1 : Int))).setCell ⟨w.heap.size + 1 + 1, 1, none⟩ (.int .i64 (b2 : Int))).setCell ⟨w.heap.size + 1 + 1, 2, none⟩ (.string D))) := fun v1 h1 => (((Below.mono h1 (show w.heap.size + 1 + 1 ≤ W0.heap.size by omega)).setCell (p := ⟨w.heap.size + 1 + 1, 0, none⟩) (Nat.le_refl _) _).setCell (p := ⟨w.heap.size + 1 + 1, 1, none⟩) (Nat.le_refl _) _).setCell (p := ⟨w.heap.size + 1 + 1, 2, none⟩) (Nat.le_refl _) _
  have II : Hid (∀ v1, Below W0.heap.size W0 v1 → IHolds (((v1.setCell ⟨w.heap.size + 1 + 1, 0, none⟩ (.int .i64 (a1 : Int))).setCell ⟨w.heap.size + 1 + 1, 1, none⟩ (.int .i64 (b2 : Int))).setCell ⟨w.heap.size + 1 + 1, 2, none⟩ (.string D)) (w.heap.size + 1 + 1) 46 [.int .i64 (a1 : Int), .int .i64 (b2 : Int), .string D]) := fun v1 h1 => (((i3.of_below h1).set 0 _).set 1 _).set 2 _
  clear hW0 i1 i2 i3 hB0 hsz
  go_region_held3 (fun V => V.cell? ⟨w.heap.size, 0, none⟩ = some (.int .i64 (a1 : Int)) ∧ V.cell? ⟨w.heap.size, 2, none⟩ = some (.string s) ∧ V.cell? ⟨w.heap.size + 1, 1, none⟩ = some (.int .i64 (b2 : Int)) ∧ V.cell? ⟨w.heap.size + 1, 2, none⟩ = some (.string t))
    (first | exact KS.out _ (Below.refl _ _).drew | exact KS.out _ (B1.out.mono (by rw [HSZ.out]; omega)) | exact KS.out _ E1.out | assumption | fail)
    (first
      | (go_at_call 27; refine (HC.out _ (HB0.out.trans ((Below.refl _ _).drew.mono HB0.out.size))).mono ?_; rintro e v1 ⟨rfl, hB1⟩; have B1 : Hid (Below W0.heap.size W0 v1) := (Below.refl W0.heap.size W0).drew.trans hB1; have hf1 := (HI3.out.of_below B1.out).frozen 0; have hf2 := (HI3.out.of_below B1.out).frozen 1; have hf3 := (HI3.out.of_below B1.out).frozen 2; have hc1 := (HI3.out.of_below B1.out).cell 0 (by simp); have hc2 := (HI3.out.of_below B1.out).cell 1 (by simp); have hc3 := (HI3.out.of_below B1.out).cell 2 (by simp); simp only [List.getElem_cons_zero, List.getElem_cons_succ] at hc1 hc2 hc3; have E1 : Hid (Below (w.heap.size + 1 + 1) W0 (((v1.setCell ⟨w.heap.size + 1 + 1, 0, none⟩ (.int .i64 (a1 : Int))).setCell ⟨w.heap.size + 1 + 1, 1, none⟩ (.int .i64 (b2 : Int))).setCell ⟨w.heap.size + 1 + 1, 2, none⟩ (.string D))) := EE.out _ B1.out; have I1 : Hid (IHolds (((v1.setCell ⟨w.heap.size + 1 + 1, 0, none⟩ (.int .i64 (a1 : Int))).setCell ⟨w.heap.size + 1 + 1, 1, none⟩ (.int .i64 (b2 : Int))).setCell ⟨w.heap.size + 1 + 1, 2, none⟩ (.string D)) (w.heap.size + 1 + 1) 46 [.int .i64 (a1 : Int), .int .i64 (b2 : Int), .string D]) := II.out _ B1.out; clear hB1 HC)
      | fail)
  go_wp2_with fail
  exact bodyPost_ret (v := .agg #[.int .i64 (a1 : Int), .int .i64 (b2 : Int), .string D]) (F.results_cell Tryd.results32 _ _ (w.heap.size + 1 + 1) 0 [.int .i64 (a1 : Int), .int .i64 (b2 : Int), .string D] _ rfl I1.out.range Tryd.underlying46 rfl size50) rfl ⟨rfl, HB0.out.trans (E1.out.mono (by omega))⟩
end Go.Proofs.YteomefhjglnghaaDoor

/- Halves put together by a stack: the regions. -/
set_option linter.unusedSimpArgs false
set_option linter.unusedVariables false
set_option maxRecDepth 100000
namespace Go.Proofs.YteomefhjglnghaaDoor
open Go.RowKit Go.Deep Go.PlainAid

theorem tkU {P : Program} {md : Region.Mode} {ops : Array Oper} {Q : Exit → Act → World → Prop} {S : World → Prop} {i : Nat} {oi : Oper} {fuel : Nat} {listed : Array Bool} {a : Act} {w : World} (hi : ops[i]? = some oi)
    (hs : (Region.noSelect ops && (Region.free md ops listed i && (Region.ready md ops listed).contains i)) = true)
    (hQ : ∀ c a w, Q (.panic c) (a.put oi.dst undef) w → Q (.panic c) a w) (hw : Region.wanted oi (yielded ops a.tmps) = false) (hS : S w)
    (h : wpAnyH P md ops Q S fuel (listed.setIfInBounds i true) (a.put oi.dst undef) w) : wpAnyH P md ops Q S (fuel + 1) listed a w := by
  simp only [Bool.and_eq_true] at hs
  exact wpAnyH_take hi hs.1 hs.2.1 hs.2.2 hQ (Or.inr ⟨hw, rfl⟩) hS h
theorem row_same {w w' : World} {base : Nat} {e : TypeId} {s n : Nat} {v : Value} {xs : List Value} (h : w.ownsRow base e s v n xs) (hk : ∀ k, v.ownBlock = some k → w'.heap[k]? = w.heap[k]?) : w'.ownsRow base e s v n xs := by
  refine ⟨h.1, ?_⟩
  rcases h.2 with q | ⟨g, cap, cur, rfl, hb, hg, r⟩
  · exact Or.inl q
  · exact Or.inr ⟨g, cap, cur, rfl, hb, (hk g rfl).trans hg, r⟩
theorem flat3_rev (a : P3) (s : List P3) : flat3 (a :: s).reverse = flat3 s.reverse ++ [.int .i64 (a.1.1 : Int), .int .i64 (a.1.2 : Int), .string a.2] := by
  rw [List.reverse_cons, flat3_append]
  rfl
theorem row_top {w : World} {base : Nat} {v : Value} {a : P3} {s : List P3} (h : w.ownsRow base 46 3 v (a :: s).length (flat3 (a :: s).reverse)) :
    ∃ g cap, v = .slice (some ⟨g, 0, none⟩) (s.length + 1) cap ∧ s.length + 1 ≤ cap ∧ cap ≤ maxLen ∧ w.cell? ⟨g, s.length * 3, none⟩ = some (.int .i64 (a.1.1 : Int)) ∧ w.cell? ⟨g, s.length * 3 + 1, none⟩ = some (.int .i64 (a.1.2 : Int)) ∧ w.cell? ⟨g, s.length * 3 + 2, none⟩ = some (.string a.2) ∧ w.ownsRow base 46 3 (.slice (some ⟨g, 0, none⟩) s.length cap) s.length (flat3 s.reverse) := by
  rw [flat3_rev, List.length_cons] at h
  have hfl : (flat3 s.reverse).length = s.length * 3 := by rw [flat3_len, List.length_reverse]
  obtain ⟨h1, h2⟩ := id h
  rcases h2 with ⟨_, q⟩ | ⟨g, cap, cur, rfl, hb, hg, hn, hc, hs, ht⟩
  · omega
  · refine ⟨g, cap, rfl, hn, hc, ?_, ?_, ?_, ownsRow_pop hfl h⟩
    · rw [h.cellAt (s.length * 3) (by omega), List.getElem?_append_right (by omega), hfl]
      simp
    · rw [h.cellAt (s.length * 3 + 1) (by omega), List.getElem?_append_right (by omega), hfl, show s.length * 3 + 1 - s.length * 3 = 1 by omega]
      rfl
    · rw [h.cellAt (s.length * 3 + 2) (by omega), List.getElem?_append_right (by omega), hfl, show s.length * 3 + 2 - s.length * 3 = 2 by omega]
      rfl
theorem al_push : ∀ (s : List P3) (b : P3) (r : List P3) {lo hi : Nat}, Al lo hi (s.reverse ++ b :: r) → Al lo hi ((push s b).reverse ++ r)
  | [], b, r, lo, hi, h => by simpa [push] using h
  | a :: s, b, r, lo, hi, h => by
    rw [push]
    split
    · exact al_push s (join2 a b) r (by
        rw [List.reverse_cons, List.append_assoc, List.singleton_append] at h
        exact h.join (by assumption))
    · simpa using h
theorem push_32 : ∀ (s : List P3) (b : P3), (∀ p ∈ s, p.2.size = 32) → b.2.size = 32 → ∀ p ∈ push s b, p.2.size = 32
  | [], b, h, hb => fun p hp => by
    rw [push] at hp
    simp at hp
    subst hp
    exact hb
  | a :: s, b, h, hb => fun p hp => by
    rw [push] at hp
    split at hp
    · exact push_32 s (join2 a b) (fun q hq => h q (by simp [hq])) (tgF_size _ _) p hp
    · rcases List.mem_cons.1 hp with rfl | hp
      · exact hb
      · exact h p hp

theorem wrapN {n : Nat} (h : n ≤ 1048576) : IntKind.i64.wrap (n : Int) = (n : Int) := by
  rw [IntKind.wrap_i64]
  omega
def r5 : Code := .region 5 #[{ dst := some 12, op := Go.Op.move (Go.Operand.tmp 3), type := 40, pos := "blocks.go:75", after := #[], guard := none }, { dst := some 13, op := Go.Op.call { callee := Go.Callee.builtin Go.Builtin.len, args := #[Go.Operand.tmp 12], argTypes := #[40] }, type := 3, pos := "blocks.go:75", after := #[{ on := 0, ground := Go.Ground.data }], guard := none }, { dst := some 14, op := Go.Op.binOp Go.BinOp.gtr 3 (Go.Operand.tmp 13) (Go.Operand.const (Go.Value.int Go.IntKind.i64 0)) 3, type := 4, pos := "blocks.go:75", after := #[{ on := 1, ground := Go.Ground.data }], guard := none }, { dst := some 15, op := Go.Op.move (Go.Operand.tmp 14), type := 4, pos := "blocks.go:75", after := #[{ on := 2, ground := Go.Ground.data }], guard := none }, { dst := some 16, op := Go.Op.move (Go.Operand.tmp 3), type := 40, pos := "blocks.go:75", after := #[{ on := 3, ground := Go.Ground.guard }], guard := some (3, true) }, { dst := some 17, op := Go.Op.move (Go.Operand.tmp 3), type := 40, pos := "blocks.go:75", after := #[{ on := 3, ground := Go.Ground.guard }], guard := some (3, true) }, { dst := some 18, op := Go.Op.call { callee := Go.Callee.builtin Go.Builtin.len, args := #[Go.Operand.tmp 17], argTypes := #[40] }, type := 3, pos := "blocks.go:75", after := #[{ on := 5, ground := Go.Ground.data }, { on := 3, ground := Go.Ground.guard }], guard := some (3, true) }, { dst := some 19, op := Go.Op.binOp Go.BinOp.sub 3 (Go.Operand.tmp 18) (Go.Operand.const (Go.Value.int Go.IntKind.i64 1)) 3, type := 3, pos := "blocks.go:75", after := #[{ on := 6, ground := Go.Ground.data }, { on := 3, ground := Go.Ground.guard }], guard := some (3, true) }, { dst := some 20, op := Go.Op.indexAddr 40 (Go.Operand.tmp 16) (Go.Operand.tmp 19), type := 0, pos := "blocks.go:75", after := #[{ on := 4, ground := Go.Ground.data }, { on := 7, ground := Go.Ground.data }, { on := 3, ground := Go.Ground.guard }], guard := some (3, true) }, { dst := some 21, op := Go.Op.load 46 (Go.Operand.tmp 20), type := 46, pos := "blocks.go:75", after := #[{ on := 8, ground := Go.Ground.data }, { on := 3, ground := Go.Ground.guard }], guard := some (3, true) }, { dst := some 22, op := Go.Op.load 46 (Go.Operand.tmp 5), type := 46, pos := "blocks.go:75", after := #[{ on := 3, ground := Go.Ground.guard }], guard := some (3, true) }, { dst := some 23, op := Go.Op.call { callee := Go.Callee.value (Go.Operand.func 31), args := #[Go.Operand.tmp 21, Go.Operand.tmp 22], argTypes := #[46, 46] }, type := 4, pos := "blocks.go:75", after := #[{ on := 9, ground := Go.Ground.data }, { on := 10, ground := Go.Ground.data }, { on := 3, ground := Go.Ground.chain }, { on := 3, ground := Go.Ground.guard }], guard := some (3, true) }, { dst := some 24, op := Go.Op.pick (Go.Operand.tmp 15) (Go.Operand.tmp 23) (Go.Operand.const (Go.Value.bool false)), type := 4, pos := "blocks.go:75", after := #[{ on := 3, ground := Go.Ground.data }, { on := 11, ground := Go.Ground.data }], guard := none }] true
def r6 : Code := .region 6 #[{ dst := some 25, op := Go.Op.move (Go.Operand.tmp 3), type := 40, pos := "blocks.go:76", after := #[], guard := none }, { dst := some 26, op := Go.Op.move (Go.Operand.tmp 3), type := 40, pos := "blocks.go:76", after := #[], guard := none }, { dst := some 27, op := Go.Op.call { callee := Go.Callee.builtin Go.Builtin.len, args := #[Go.Operand.tmp 26], argTypes := #[40] }, type := 3, pos := "blocks.go:76", after := #[{ on := 1, ground := Go.Ground.data }], guard := none }, { dst := some 28, op := Go.Op.binOp Go.BinOp.sub 3 (Go.Operand.tmp 27) (Go.Operand.const (Go.Value.int Go.IntKind.i64 1)) 3, type := 3, pos := "blocks.go:76", after := #[{ on := 2, ground := Go.Ground.data }], guard := none }, { dst := some 29, op := Go.Op.indexAddr 40 (Go.Operand.tmp 25) (Go.Operand.tmp 28), type := 0, pos := "blocks.go:76", after := #[{ on := 0, ground := Go.Ground.data }, { on := 3, ground := Go.Ground.data }], guard := none }, { dst := some 30, op := Go.Op.load 46 (Go.Operand.tmp 29), type := 46, pos := "blocks.go:76", after := #[{ on := 4, ground := Go.Ground.data }], guard := none }, { dst := some 31, op := Go.Op.load 46 (Go.Operand.tmp 5), type := 46, pos := "blocks.go:76", after := #[], guard := none }, { dst := some 32, op := Go.Op.call { callee := Go.Callee.value (Go.Operand.func 32), args := #[Go.Operand.tmp 30, Go.Operand.tmp 31], argTypes := #[46, 46] }, type := 46, pos := "blocks.go:76", after := #[{ on := 5, ground := Go.Ground.data }, { on := 6, ground := Go.Ground.data }], guard := none }, { dst := none, op := Go.Op.store 46 (Go.Operand.tmp 5) (Go.Operand.tmp 32), type := 0, pos := "blocks.go:76", after := #[{ on := 7, ground := Go.Ground.data }, { on := 7, ground := Go.Ground.chain }, { on := 0, ground := Go.Ground.phase }, { on := 1, ground := Go.Ground.phase }, { on := 2, ground := Go.Ground.phase }, { on := 3, ground := Go.Ground.phase }, { on := 4, ground := Go.Ground.phase }, { on := 5, ground := Go.Ground.phase }, { on := 6, ground := Go.Ground.phase }, { on := 7, ground := Go.Ground.phase }], guard := none }] true
set_option maxHeartbeats 2000000 in
theorem r5_empty {W : World} {a3 : Option Addr} {cp : Nat} {R : Act → World → Prop} {t0 t1 t2 t4 t5 t6 t7 t8 t9 t10 t11 t12 t13 t14 t15 t16 t17 t18 t19 t20 t21 t22 t23 t24 t25 t26 t27 t28 t29 t30 t31 t32 t33 t34 t35 t36 t37 t38 t39 t40 t41 t42 t43 : Value} (hQ : ∀ u12 u13 u14 u15 u16 u17 u18 u19 u20 u21 u22 u23, R ⟨#[t0, t1, t2, .slice a3 0 cp, t4, t5, t6, t7, t8, t9, t10, t11, u12, u13, u14, u15, u16, u17, u18, u19, u20, u21, u22, u23, .bool false, t25, t26, t27, t28, t29, t30, t31, t32, t33, t34, t35, t36, t37, t38, t39, t40, t41, t42, t43], []⟩ W.drew) :
    r5.wp Tryd.prog (fun e aa ww => match e with | .normal => R aa ww | _ => False) ⟨#[t0, t1, t2, .slice a3 0 cp, t4, t5, t6, t7, t8, t9, t10, t11, t12, t13, t14, t15, t16, t17, t18, t19, t20, t21, t22, t23, t24, t25, t26, t27, t28, t29, t30, t31, t32, t33, t34, t35, t36, t37, t38, t39, t40, t41, t42, t43], []⟩ W := by
  have HQ : Hid (∀ u12 u13 u14 u15 u16 u17 u18 u19 u20 u21 u22 u23, R ⟨#[t0, t1, t2, .slice a3 0 cp, t4, t5, t6, t7, t8, t9, t10, t11, u12, u13, u14, u15, u16, u17, u18, u19, u20, u21, u22, u23, .bool false, t25, t26, t27, t28, t29, t30, t31, t32, t33, t34, t35, t36, t37, t38, t39, t40, t41, t42, t43], []⟩ W.drew) := hQ
  clear hQ
  unfold r5
  refine wp_region_held_drew (S := fun _ => True) (by kernel_rfl) trivial (fun hH0 => ?_)
  refine tk (i := 0) (v := .slice a3 0 cp) rfl (by kernel_rfl) (fun _ _ _ h => h) (by kernel_rfl) ?_ hH0 ?_
  · intro V hS; obtain _ := hS; go_simp; try (first | omega | exact wrapN (by omega) | go_num)
  simp only [Act.put, List.getElem_toArray, List.getElem_cons_succ, List.getElem_cons_zero, Array.toArray_toList, List.size_toArray, List.setIfInBounds_toArray, List.set_cons_zero, List.set_cons_succ]
  refine tk (i := 1) (v := .int .i64 0) rfl (by kernel_rfl) (fun _ _ _ h => h) (by kernel_rfl) ?_ hH0 ?_
  · intro V hS; obtain _ := hS; go_simp; try (first | omega | exact wrapN (by omega) | go_num)
  simp only [Act.put, List.getElem_toArray, List.getElem_cons_succ, List.getElem_cons_zero, Array.toArray_toList, List.size_toArray, List.setIfInBounds_toArray, List.set_cons_zero, List.set_cons_succ]
  refine tk (i := 2) (v := .bool false) rfl (by kernel_rfl) (fun _ _ _ h => h) (by kernel_rfl) ?_ hH0 ?_
  · intro V hS; obtain _ := hS; go_simp; try (first | omega | exact wrapN (by omega) | go_num)
  simp only [Act.put, List.getElem_toArray, List.getElem_cons_succ, List.getElem_cons_zero, Array.toArray_toList, List.size_toArray, List.setIfInBounds_toArray, List.set_cons_zero, List.set_cons_succ]
  refine tk (i := 3) (v := .bool false) rfl (by kernel_rfl) (fun _ _ _ h => h) (by kernel_rfl) ?_ hH0 ?_
  · intro V hS; obtain _ := hS; go_simp; try (first | omega | exact wrapN (by omega) | go_num)
  simp only [Act.put, List.getElem_toArray, List.getElem_cons_succ, List.getElem_cons_zero, Array.toArray_toList, List.size_toArray, List.setIfInBounds_toArray, List.set_cons_zero, List.set_cons_succ]
  refine tkU (i := 4) rfl (by kernel_rfl) (fun _ _ _ h => h) (by kernel_rfl) hH0 ?_
  simp only [Act.put, List.getElem_toArray, List.getElem_cons_succ, List.getElem_cons_zero, Array.toArray_toList, List.size_toArray, List.setIfInBounds_toArray, List.set_cons_zero, List.set_cons_succ]
  refine tkU (i := 5) rfl (by kernel_rfl) (fun _ _ _ h => h) (by kernel_rfl) hH0 ?_
  simp only [Act.put, List.getElem_toArray, List.getElem_cons_succ, List.getElem_cons_zero, Array.toArray_toList, List.size_toArray, List.setIfInBounds_toArray, List.set_cons_zero, List.set_cons_succ]
  refine tkU (i := 6) rfl (by kernel_rfl) (fun _ _ _ h => h) (by kernel_rfl) hH0 ?_
  simp only [Act.put, List.getElem_toArray, List.getElem_cons_succ, List.getElem_cons_zero, Array.toArray_toList, List.size_toArray, List.setIfInBounds_toArray, List.set_cons_zero, List.set_cons_succ]
  refine tkU (i := 7) rfl (by kernel_rfl) (fun _ _ _ h => h) (by kernel_rfl) hH0 ?_
  simp only [Act.put, List.getElem_toArray, List.getElem_cons_succ, List.getElem_cons_zero, Array.toArray_toList, List.size_toArray, List.setIfInBounds_toArray, List.set_cons_zero, List.set_cons_succ]
  refine tkU (i := 8) rfl (by kernel_rfl) (fun _ _ _ h => h) (by kernel_rfl) hH0 ?_
  simp only [Act.put, List.getElem_toArray, List.getElem_cons_succ, List.getElem_cons_zero, Array.toArray_toList, List.size_toArray, List.setIfInBounds_toArray, List.set_cons_zero, List.set_cons_succ]
  refine tkU (i := 9) rfl (by kernel_rfl) (fun _ _ _ h => h) (by kernel_rfl) hH0 ?_
  simp only [Act.put, List.getElem_toArray, List.getElem_cons_succ, List.getElem_cons_zero, Array.toArray_toList, List.size_toArray, List.setIfInBounds_toArray, List.set_cons_zero, List.set_cons_succ]
  refine tkU (i := 10) rfl (by kernel_rfl) (fun _ _ _ h => h) (by kernel_rfl) hH0 ?_
  simp only [Act.put, List.getElem_toArray, List.getElem_cons_succ, List.getElem_cons_zero, Array.toArray_toList, List.size_toArray, List.setIfInBounds_toArray, List.set_cons_zero, List.set_cons_succ]
  refine tkU (i := 11) rfl (by kernel_rfl) (fun _ _ _ h => h) (by kernel_rfl) hH0 ?_
  simp only [Act.put, List.getElem_toArray, List.getElem_cons_succ, List.getElem_cons_zero, Array.toArray_toList, List.size_toArray, List.setIfInBounds_toArray, List.set_cons_zero, List.set_cons_succ]
  refine tk (i := 12) (v := .bool false) rfl (by kernel_rfl) (fun _ _ _ h => h) (by kernel_rfl) ?_ hH0 ?_
  · intro V hS; obtain _ := hS; go_simp; try (first | omega | exact wrapN (by omega) | go_num)
  simp only [Act.put, List.getElem_toArray, List.getElem_cons_succ, List.getElem_cons_zero, Array.toArray_toList, List.size_toArray, List.setIfInBounds_toArray, List.set_cons_zero, List.set_cons_succ]
  refine wpAnyH_done (by kernel_rfl) ?_ _
  exact HQ.out _ _ _ _ _ _ _ _ _ _ _ _
set_option maxHeartbeats 4000000 in
theorem r5_top {W : World} {g n N cap B e1 e2 c1 c2 : Nat} {f d : ByteArray} {hb : Bool} {R : Act → World → Prop} {t0 t1 t2 t4 t6 t7 t8 t9 t10 t11 t12 t13 t14 t15 t16 t17 t18 t19 t20 t21 t22 t23 t24 t25 t26 t27 t28 t29 t30 t31 t32 t33 t34 t35 t36 t37 t38 t39 t40 t41 t42 t43 : Value} (hN : (N : Int) - 1 = (n : Int)) (hN2 : (n : Int) < (N : Int)) (hN1 : (0 : Int) < (N : Int)) (hn : N ≤ 1048576)
    (q1 : W.cell? ⟨g, n * 3, none⟩ = some (.int .i64 (e1 : Int))) (q2 : W.cell? ⟨g, n * 3 + 1, none⟩ = some (.int .i64 (e2 : Int))) (q3 : W.cell? ⟨g, n * 3 + 2, none⟩ = some (.string f)) (q4 : W.cell? ⟨B, 0, none⟩ = some (.int .i64 (c1 : Int))) (q5 : W.cell? ⟨B, 1, none⟩ = some (.int .i64 (c2 : Int))) (q6 : W.cell? ⟨B, 2, none⟩ = some (.string d))
    (C : ∀ V, Calls Tryd.prog 31 #[.agg #[.int .i64 (e1 : Int), .int .i64 (e2 : Int), .string f], .agg #[.int .i64 (c1 : Int), .int .i64 (c2 : Int), .string d]] V fun e w' => e = .returned (.bool hb) ∧ Below V.heap.size V w')
    (hQ : ∀ V u12 u13 u14 u15 u16 u17 u18 u19 u20 u21 u22 u23, Below W.heap.size W V → R ⟨#[t0, t1, t2, .slice (some ⟨g, 0, none⟩) N cap, t4, .pointer (some ⟨B, 0, none⟩), t6, t7, t8, t9, t10, t11, u12, u13, u14, u15, u16, u17, u18, u19, u20, u21, u22, u23, .bool hb, t25, t26, t27, t28, t29, t30, t31, t32, t33, t34, t35, t36, t37, t38, t39, t40, t41, t42, t43], []⟩ V) :
    r5.wp Tryd.prog (fun e aa ww => match e with | .normal => R aa ww | _ => False) ⟨#[t0, t1, t2, .slice (some ⟨g, 0, none⟩) N cap, t4, .pointer (some ⟨B, 0, none⟩), t6, t7, t8, t9, t10, t11, t12, t13, t14, t15, t16, t17, t18, t19, t20, t21, t22, t23, t24, t25, t26, t27, t28, t29, t30, t31, t32, t33, t34, t35, t36, t37, t38, t39, t40, t41, t42, t43], []⟩ W := by
  have HQ : Hid (∀ V u12 u13 u14 u15 u16 u17 u18 u19 u20 u21 u22 u23, Below W.heap.size W V → R ⟨#[t0, t1, t2, .slice (some ⟨g, 0, none⟩) N cap, t4, .pointer (some ⟨B, 0, none⟩), t6, t7, t8, t9, t10, t11, u12, u13, u14, u15, u16, u17, u18, u19, u20, u21, u22, u23, .bool hb, t25, t26, t27, t28, t29, t30, t31, t32, t33, t34, t35, t36, t37, t38, t39, t40, t41, t42, t43], []⟩ V) := hQ
  have HC : Hid (∀ V, Calls Tryd.prog 31 #[.agg #[.int .i64 (e1 : Int), .int .i64 (e2 : Int), .string f], .agg #[.int .i64 (c1 : Int), .int .i64 (c2 : Int), .string d]] V fun e w' => e = .returned (.bool hb) ∧ Below V.heap.size V w') := C
  have KQ : Hid (∀ V, Below W.heap.size W V → (V.cell? ⟨g, n * 3, none⟩ = some (.int .i64 (e1 : Int)) ∧ V.cell? ⟨g, n * 3 + 1, none⟩ = some (.int .i64 (e2 : Int)) ∧ V.cell? ⟨g, n * 3 + 2, none⟩ = some (.string f) ∧ V.cell? ⟨B, 0, none⟩ = some (.int .i64 (c1 : Int)) ∧ V.cell? ⟨B, 1, none⟩ = some (.int .i64 (c2 : Int)) ∧ V.cell? ⟨B, 2, none⟩ = some (.string d))) := fun V hV => ⟨cell_keep q1 hV, cell_keep q2 hV, cell_keep q3 hV, cell_keep q4 hV, cell_keep q5 hV, cell_keep q6 hV⟩
  clear hQ C q1 q2 q3 q4 q5 q6
  unfold r5
  refine wp_region_held_drew (S := fun V => V.cell? ⟨g, n * 3, none⟩ = some (.int .i64 (e1 : Int)) ∧ V.cell? ⟨g, n * 3 + 1, none⟩ = some (.int .i64 (e2 : Int)) ∧ V.cell? ⟨g, n * 3 + 2, none⟩ = some (.string f) ∧ V.cell? ⟨B, 0, none⟩ = some (.int .i64 (c1 : Int)) ∧ V.cell? ⟨B, 1, none⟩ = some (.int .i64 (c2 : Int)) ∧ V.cell? ⟨B, 2, none⟩ = some (.string d)) (by kernel_rfl) (KQ.out _ (Below.refl _ _).drew) (fun hH0 => ?_)
  refine tk (i := 0) (v := .slice (some ⟨g, 0, none⟩) N cap) rfl (by kernel_rfl) (fun _ _ _ h => h) (by kernel_rfl) ?_ hH0 ?_
  · intro V hS; obtain ⟨q1, q2, q3, q4, q5, q6⟩ := hS; go_simp; try (first | omega | exact wrapN (by omega) | go_num)
  simp only [Act.put, List.getElem_toArray, List.getElem_cons_succ, List.getElem_cons_zero, Array.toArray_toList, List.size_toArray, List.setIfInBounds_toArray, List.set_cons_zero, List.set_cons_succ]
  refine tk (i := 1) (v := .int .i64 (N : Int)) rfl (by kernel_rfl) (fun _ _ _ h => h) (by kernel_rfl) ?_ hH0 ?_
  · intro V hS; obtain ⟨q1, q2, q3, q4, q5, q6⟩ := hS; go_simp; try (first | omega | exact wrapN (by omega) | go_num)
  simp only [Act.put, List.getElem_toArray, List.getElem_cons_succ, List.getElem_cons_zero, Array.toArray_toList, List.size_toArray, List.setIfInBounds_toArray, List.set_cons_zero, List.set_cons_succ]
  refine tk (i := 2) (v := .bool true) rfl (by kernel_rfl) (fun _ _ _ h => h) (by kernel_rfl) ?_ hH0 ?_
  · intro V hS; obtain ⟨q1, q2, q3, q4, q5, q6⟩ := hS; go_simp; try (first | omega | exact wrapN (by omega) | go_num)
  simp only [Act.put, List.getElem_toArray, List.getElem_cons_succ, List.getElem_cons_zero, Array.toArray_toList, List.size_toArray, List.setIfInBounds_toArray, List.set_cons_zero, List.set_cons_succ]
  refine tk (i := 3) (v := .bool true) rfl (by kernel_rfl) (fun _ _ _ h => h) (by kernel_rfl) ?_ hH0 ?_
  · intro V hS; obtain ⟨q1, q2, q3, q4, q5, q6⟩ := hS; go_simp; try (first | omega | exact wrapN (by omega) | go_num)
  simp only [Act.put, List.getElem_toArray, List.getElem_cons_succ, List.getElem_cons_zero, Array.toArray_toList, List.size_toArray, List.setIfInBounds_toArray, List.set_cons_zero, List.set_cons_succ]
  refine tk (i := 4) (v := .slice (some ⟨g, 0, none⟩) N cap) rfl (by kernel_rfl) (fun _ _ _ h => h) (by kernel_rfl) ?_ hH0 ?_
  · intro V hS; obtain ⟨q1, q2, q3, q4, q5, q6⟩ := hS; go_simp; try (first | omega | exact wrapN (by omega) | go_num)
  simp only [Act.put, List.getElem_toArray, List.getElem_cons_succ, List.getElem_cons_zero, Array.toArray_toList, List.size_toArray, List.setIfInBounds_toArray, List.set_cons_zero, List.set_cons_succ]
  refine tk (i := 5) (v := .slice (some ⟨g, 0, none⟩) N cap) rfl (by kernel_rfl) (fun _ _ _ h => h) (by kernel_rfl) ?_ hH0 ?_
  · intro V hS; obtain ⟨q1, q2, q3, q4, q5, q6⟩ := hS; go_simp; try (first | omega | exact wrapN (by omega) | go_num)
  simp only [Act.put, List.getElem_toArray, List.getElem_cons_succ, List.getElem_cons_zero, Array.toArray_toList, List.size_toArray, List.setIfInBounds_toArray, List.set_cons_zero, List.set_cons_succ]
  refine tk (i := 6) (v := .int .i64 (N : Int)) rfl (by kernel_rfl) (fun _ _ _ h => h) (by kernel_rfl) ?_ hH0 ?_
  · intro V hS; obtain ⟨q1, q2, q3, q4, q5, q6⟩ := hS; go_simp; try (first | omega | exact wrapN (by omega) | go_num)
  simp only [Act.put, List.getElem_toArray, List.getElem_cons_succ, List.getElem_cons_zero, Array.toArray_toList, List.size_toArray, List.setIfInBounds_toArray, List.set_cons_zero, List.set_cons_succ]
  refine tk (i := 7) (v := .int .i64 (n : Int)) rfl (by kernel_rfl) (fun _ _ _ h => h) (by kernel_rfl) ?_ hH0 ?_
  · intro V hS; obtain ⟨q1, q2, q3, q4, q5, q6⟩ := hS; go_simp; try (first | omega | exact wrapN (by omega) | go_num)
  simp only [Act.put, List.getElem_toArray, List.getElem_cons_succ, List.getElem_cons_zero, Array.toArray_toList, List.size_toArray, List.setIfInBounds_toArray, List.set_cons_zero, List.set_cons_succ]
  refine tk (i := 8) (v := .pointer (some ⟨g, n * 3, none⟩)) rfl (by kernel_rfl) (fun _ _ _ h => h) (by kernel_rfl) ?_ hH0 ?_
  · intro V hS; obtain ⟨q1, q2, q3, q4, q5, q6⟩ := hS; go_simp; try (first | omega | exact wrapN (by omega) | go_num)
  simp only [Act.put, List.getElem_toArray, List.getElem_cons_succ, List.getElem_cons_zero, Array.toArray_toList, List.size_toArray, List.setIfInBounds_toArray, List.set_cons_zero, List.set_cons_succ]
  refine tk (i := 9) (v := .agg #[.int .i64 (e1 : Int), .int .i64 (e2 : Int), .string f]) rfl (by kernel_rfl) (fun _ _ _ h => h) (by kernel_rfl) ?_ hH0 ?_
  · intro V hS; obtain ⟨q1, q2, q3, q4, q5, q6⟩ := hS; go_simp; try (first | omega | exact wrapN (by omega) | go_num)
  simp only [Act.put, List.getElem_toArray, List.getElem_cons_succ, List.getElem_cons_zero, Array.toArray_toList, List.size_toArray, List.setIfInBounds_toArray, List.set_cons_zero, List.set_cons_succ]
  refine tk (i := 10) (v := .agg #[.int .i64 (c1 : Int), .int .i64 (c2 : Int), .string d]) rfl (by kernel_rfl) (fun _ _ _ h => h) (by kernel_rfl) ?_ hH0 ?_
  · intro V hS; obtain ⟨q1, q2, q3, q4, q5, q6⟩ := hS; go_simp; try (first | omega | exact wrapN (by omega) | go_num)
  simp only [Act.put, List.getElem_toArray, List.getElem_cons_succ, List.getElem_cons_zero, Array.toArray_toList, List.size_toArray, List.setIfInBounds_toArray, List.set_cons_zero, List.set_cons_succ]
  refine wpAnyH_ready (rs := [11]) (by kernel_rfl) (by simp) ?_
  refine AllReadyH.cons rfl (fun K hK => ?_) AllReadyH.nil
  clear hH0
  go_simp
  refine (HC.out _).mono ?_
  rintro e V ⟨rfl, hV⟩
  have HV : Hid (Below W.heap.size W V) := (Below.refl W.heap.size W).drew.trans hV
  refine hK.out _ _ (KQ.out _ HV.out) (fun hH0 => ?_)
  clear hK K hV
  try simp only [Act.put, List.getElem_toArray, List.getElem_cons_succ, List.getElem_cons_zero, Array.toArray_toList, List.size_toArray, List.setIfInBounds_toArray, List.set_cons_zero, List.set_cons_succ]
  refine tk (i := 12) (v := .bool hb) rfl (by kernel_rfl) (fun _ _ _ h => h) (by kernel_rfl) ?_ hH0 ?_
  · intro V hS; obtain ⟨q1, q2, q3, q4, q5, q6⟩ := hS; go_simp; try (first | omega | exact wrapN (by omega) | go_num)
  simp only [Act.put, List.getElem_toArray, List.getElem_cons_succ, List.getElem_cons_zero, Array.toArray_toList, List.size_toArray, List.setIfInBounds_toArray, List.set_cons_zero, List.set_cons_succ]
  refine wpAnyH_done (by kernel_rfl) ?_ _
  exact HQ.out _ _ _ _ _ _ _ _ _ _ _ _ _ HV.out
set_option maxHeartbeats 4000000 in
theorem r6_top {W : World} {g n N cap B e1 e2 c1 c2 : Nat} {f d D : ByteArray} {R : Act → World → Prop} {t0 t1 t2 t4 t6 t7 t8 t9 t10 t11 t12 t13 t14 t15 t16 t17 t18 t19 t20 t21 t22 t23 t24 t25 t26 t27 t28 t29 t30 t31 t32 t33 t34 t35 t36 t37 t38 t39 t40 t41 t42 t43 : Value} (hN : (N : Int) - 1 = (n : Int)) (hN2 : (n : Int) < (N : Int)) (hN1 : (0 : Int) < (N : Int)) (hn : N ≤ 1048576) (hgB : g ≠ B)
    (q1 : W.cell? ⟨g, n * 3, none⟩ = some (.int .i64 (e1 : Int))) (q2 : W.cell? ⟨g, n * 3 + 1, none⟩ = some (.int .i64 (e2 : Int))) (q3 : W.cell? ⟨g, n * 3 + 2, none⟩ = some (.string f)) (I : IHolds W B 46 [.int .i64 (c1 : Int), .int .i64 (c2 : Int), .string d])
    (C : ∀ V, Below W.heap.size W V → Calls Tryd.prog 32 #[.agg #[.int .i64 (e1 : Int), .int .i64 (e2 : Int), .string f], .agg #[.int .i64 (c1 : Int), .int .i64 (c2 : Int), .string d]] V fun e w' => e = .returned (.agg #[.int .i64 (e1 : Int), .int .i64 (c2 : Int), .string D]) ∧ Below V.heap.size V w')
    (hQ : ∀ V u25 u26 u27 u28 u29 u30 u31 u32, Below W.heap.size W V → R ⟨#[t0, t1, t2, .slice (some ⟨g, 0, none⟩) N cap, t4, .pointer (some ⟨B, 0, none⟩), t6, t7, t8, t9, t10, t11, t12, t13, t14, t15, t16, t17, t18, t19, t20, t21, t22, t23, t24, u25, u26, u27, u28, u29, u30, u31, u32, t33, t34, t35, t36, t37, t38, t39, t40, t41, t42, t43], []⟩ (((V.setCell ⟨B, 0, none⟩ (.int .i64 (e1 : Int))).setCell ⟨B, 1, none⟩ (.int .i64 (c2 : Int))).setCell ⟨B, 2, none⟩ (.string D))) :
    r6.wp Tryd.prog (fun e aa ww => match e with | .normal => R aa ww | _ => False) ⟨#[t0, t1, t2, .slice (some ⟨g, 0, none⟩) N cap, t4, .pointer (some ⟨B, 0, none⟩), t6, t7, t8, t9, t10, t11, t12, t13, t14, t15, t16, t17, t18, t19, t20, t21, t22, t23, t24, t25, t26, t27, t28, t29, t30, t31, t32, t33, t34, t35, t36, t37, t38, t39, t40, t41, t42, t43], []⟩ W := by
  have HQ : Hid (∀ V u25 u26 u27 u28 u29 u30 u31 u32, Below W.heap.size W V → R ⟨#[t0, t1, t2, .slice (some ⟨g, 0, none⟩) N cap, t4, .pointer (some ⟨B, 0, none⟩), t6, t7, t8, t9, t10, t11, t12, t13, t14, t15, t16, t17, t18, t19, t20, t21, t22, t23, t24, u25, u26, u27, u28, u29, u30, u31, u32, t33, t34, t35, t36, t37, t38, t39, t40, t41, t42, t43], []⟩ (((V.setCell ⟨B, 0, none⟩ (.int .i64 (e1 : Int))).setCell ⟨B, 1, none⟩ (.int .i64 (c2 : Int))).setCell ⟨B, 2, none⟩ (.string D))) := hQ
  have HC : Hid (∀ V, Below W.heap.size W V → Calls Tryd.prog 32 #[.agg #[.int .i64 (e1 : Int), .int .i64 (e2 : Int), .string f], .agg #[.int .i64 (c1 : Int), .int .i64 (c2 : Int), .string d]] V fun e w' => e = .returned (.agg #[.int .i64 (e1 : Int), .int .i64 (c2 : Int), .string D]) ∧ Below V.heap.size V w') := C
  have HI : Hid (IHolds W B 46 [.int .i64 (c1 : Int), .int .i64 (c2 : Int), .string d]) := I
  have KQ : Hid (∀ V, Below W.heap.size W V → (V.cell? ⟨g, n * 3, none⟩ = some (.int .i64 (e1 : Int)) ∧ V.cell? ⟨g, n * 3 + 1, none⟩ = some (.int .i64 (e2 : Int)) ∧ V.cell? ⟨g, n * 3 + 2, none⟩ = some (.string f))) := fun V hV => ⟨cell_keep q1 hV, cell_keep q2 hV, cell_keep q3 hV⟩
  have KZ : Hid (∀ (V : World) (x y z : Value), (V.cell? ⟨g, n * 3, none⟩ = some (.int .i64 (e1 : Int)) ∧ V.cell? ⟨g, n * 3 + 1, none⟩ = some (.int .i64 (e2 : Int)) ∧ V.cell? ⟨g, n * 3 + 2, none⟩ = some (.string f)) → (fun V : World => V.cell? ⟨g, n * 3, none⟩ = some (.int .i64 (e1 : Int)) ∧ V.cell? ⟨g, n * 3 + 1, none⟩ = some (.int .i64 (e2 : Int)) ∧ V.cell? ⟨g, n * 3 + 2, none⟩ = some (.string f)) (((V.setCell ⟨B, 0, none⟩ x).setCell ⟨B, 1, none⟩ y).setCell ⟨B, 2, none⟩ z)) := fun V x y z ⟨h1, h2, h3⟩ => by
    refine ⟨?_, ?_, ?_⟩ <;> (rw [World.cell?_setCell_far _ _ _ _ (by exact fun q => hgB q.symm), World.cell?_setCell_far _ _ _ _ (by exact fun q => hgB q.symm), World.cell?_setCell_far _ _ _ _ (by exact fun q => hgB q.symm)]; assumption)
  clear hQ C q1 q2 q3 I
  unfold r6
  refine wp_region_held_drew (S := fun V => V.cell? ⟨g, n * 3, none⟩ = some (.int .i64 (e1 : Int)) ∧ V.cell? ⟨g, n * 3 + 1, none⟩ = some (.int .i64 (e2 : Int)) ∧ V.cell? ⟨g, n * 3 + 2, none⟩ = some (.string f)) (by kernel_rfl) (KQ.out _ (Below.refl _ _).drew) (fun hH0 => ?_)
  have D0 : Hid (Below W.heap.size W W.drew) := (Below.refl _ W).drew
  generalize W.drew = v0 at *
  refine tk (i := 0) (v := .slice (some ⟨g, 0, none⟩) N cap) rfl (by kernel_rfl) (fun _ _ _ h => h) (by kernel_rfl) ?_ hH0 ?_
  · intro V hS; obtain ⟨q1, q2, q3⟩ := hS; go_simp; try (first | omega | exact wrapN (by omega) | go_num)
  simp only [Act.put, List.getElem_toArray, List.getElem_cons_succ, List.getElem_cons_zero, Array.toArray_toList, List.size_toArray, List.setIfInBounds_toArray, List.set_cons_zero, List.set_cons_succ]
  refine tk (i := 1) (v := .slice (some ⟨g, 0, none⟩) N cap) rfl (by kernel_rfl) (fun _ _ _ h => h) (by kernel_rfl) ?_ hH0 ?_
  · intro V hS; obtain ⟨q1, q2, q3⟩ := hS; go_simp; try (first | omega | exact wrapN (by omega) | go_num)
  simp only [Act.put, List.getElem_toArray, List.getElem_cons_succ, List.getElem_cons_zero, Array.toArray_toList, List.size_toArray, List.setIfInBounds_toArray, List.set_cons_zero, List.set_cons_succ]
  refine tk (i := 2) (v := .int .i64 (N : Int)) rfl (by kernel_rfl) (fun _ _ _ h => h) (by kernel_rfl) ?_ hH0 ?_
  · intro V hS; obtain ⟨q1, q2, q3⟩ := hS; go_simp; try (first | omega | exact wrapN (by omega) | go_num)
  simp only [Act.put, List.getElem_toArray, List.getElem_cons_succ, List.getElem_cons_zero, Array.toArray_toList, List.size_toArray, List.setIfInBounds_toArray, List.set_cons_zero, List.set_cons_succ]
  refine tk (i := 3) (v := .int .i64 (n : Int)) rfl (by kernel_rfl) (fun _ _ _ h => h) (by kernel_rfl) ?_ hH0 ?_
  · intro V hS; obtain ⟨q1, q2, q3⟩ := hS; go_simp; try (first | omega | exact wrapN (by omega) | go_num)
  simp only [Act.put, List.getElem_toArray, List.getElem_cons_succ, List.getElem_cons_zero, Array.toArray_toList, List.size_toArray, List.setIfInBounds_toArray, List.set_cons_zero, List.set_cons_succ]
  refine tk (i := 4) (v := .pointer (some ⟨g, n * 3, none⟩)) rfl (by kernel_rfl) (fun _ _ _ h => h) (by kernel_rfl) ?_ hH0 ?_
  · intro V hS; obtain ⟨q1, q2, q3⟩ := hS; go_simp; try (first | omega | exact wrapN (by omega) | go_num)
  simp only [Act.put, List.getElem_toArray, List.getElem_cons_succ, List.getElem_cons_zero, Array.toArray_toList, List.size_toArray, List.setIfInBounds_toArray, List.set_cons_zero, List.set_cons_succ]
  refine tk (i := 5) (v := .agg #[.int .i64 (e1 : Int), .int .i64 (e2 : Int), .string f]) rfl (by kernel_rfl) (fun _ _ _ h => h) (by kernel_rfl) ?_ hH0 ?_
  · intro V hS; obtain ⟨q1, q2, q3⟩ := hS; go_simp; try (first | omega | exact wrapN (by omega) | go_num)
  simp only [Act.put, List.getElem_toArray, List.getElem_cons_succ, List.getElem_cons_zero, Array.toArray_toList, List.size_toArray, List.setIfInBounds_toArray, List.set_cons_zero, List.set_cons_succ]
  refine wpAnyH_ready (rs := [6]) (by kernel_rfl) (by simp) ?_
  refine AllReadyH.cons rfl (fun K hK => ?_) AllReadyH.nil
  clear hH0
  have g1 : v0.cell? ⟨B, 0, none⟩ = some (.int .i64 (c1 : Int)) := (HI.out.of_below D0.out).cell 0 (by simp)
  have g2 : v0.cell? ⟨B, 1, none⟩ = some (.int .i64 (c2 : Int)) := (HI.out.of_below D0.out).cell 1 (by simp)
  have g3 : v0.cell? ⟨B, 2, none⟩ = some (.string d) := (HI.out.of_below D0.out).cell 2 (by simp)
  go_simp
  clear g1 g2 g3
  refine hK.out _ _ (KQ.out _ D0.out) (fun hH0 => ?_)
  clear hK K
  try simp only [Act.put, List.getElem_toArray, List.getElem_cons_succ, List.getElem_cons_zero, Array.toArray_toList, List.size_toArray, List.setIfInBounds_toArray, List.set_cons_zero, List.set_cons_succ]

  refine wpAnyH_ready (rs := [7]) (by kernel_rfl) (by simp) ?_
  refine AllReadyH.cons rfl (fun K hK => ?_) AllReadyH.nil
  clear hH0
  go_simp
  refine (HC.out _ D0.out).mono ?_
  rintro e V ⟨rfl, hV⟩
  have HV : Hid (Below W.heap.size W V) := D0.out.trans (hV.mono D0.out.size)
  refine hK.out _ _ (KQ.out _ HV.out) (fun hH0 => ?_)
  clear hK K hV
  try simp only [Act.put, List.getElem_toArray, List.getElem_cons_succ, List.getElem_cons_zero, Array.toArray_toList, List.size_toArray, List.setIfInBounds_toArray, List.set_cons_zero, List.set_cons_succ]

  refine wpAnyH_ready (rs := [8]) (by kernel_rfl) (by simp) ?_
  refine AllReadyH.cons rfl (fun K hK => ?_) AllReadyH.nil
  clear hH0
  have g1 : V.cell? ⟨B, 0, none⟩ = some (.int .i64 (c1 : Int)) := (HI.out.of_below HV.out).cell 0 (by simp)
  have g2 : V.cell? ⟨B, 1, none⟩ = some (.int .i64 (c2 : Int)) := (HI.out.of_below HV.out).cell 1 (by simp)
  have g3 : V.cell? ⟨B, 2, none⟩ = some (.string d) := (HI.out.of_below HV.out).cell 2 (by simp)
  have f1 := (HI.out.of_below HV.out).frozen 0
  have f2 := (HI.out.of_below HV.out).frozen 1
  have f3 := (HI.out.of_below HV.out).frozen 2
  go_simp
  clear g1 g2 g3 f1 f2 f3
  refine hK.out _ _ (KZ.out _ _ _ _ (KQ.out _ HV.out)) (fun hH0 => ?_)
  clear hK K
  try simp only [Act.put, List.getElem_toArray, List.getElem_cons_succ, List.getElem_cons_zero, Array.toArray_toList, List.size_toArray, List.setIfInBounds_toArray, List.set_cons_zero, List.set_cons_succ]

  refine wpAnyH_done (by kernel_rfl) ?_ _
  exact HQ.out _ _ _ _ _ _ _ _ _ HV.out
end Go.Proofs.YteomefhjglnghaaDoor

