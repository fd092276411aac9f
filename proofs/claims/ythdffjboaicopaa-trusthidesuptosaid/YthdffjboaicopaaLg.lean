/- Polynomials modulo a prime: one that has as many roots as coefficients is nothing; what goes through values goes through what it gives to others. -/
namespace Go.Proofs.Ythdffjboaicopaa.Lg

/-- The value of a polynomial, the lowest coefficient first. -/
def ev : List Int → Int → Int
  | [], _ => 0
  | b :: c, x => b + x * ev c x
def add : List Int → List Int → List Int
  | [], d => d
  | c, [] => c
  | a :: c, b :: d => (a + b) :: add c d
def scale (k : Int) : List Int → List Int
  | [] => []
  | a :: c => k * a :: scale k c
theorem ev_add : ∀ (c d : List Int) (x : Int), ev (add c d) x = ev c x + ev d x
  | [], d, x => by simp [add, ev]
  | a :: c, [], x => by simp [add, ev]
  | a :: c, b :: d, x => by
    simp only [add, ev, ev_add c d x]
    grind
theorem ev_scale (k : Int) : ∀ (c : List Int) (x : Int), ev (scale k c) x = k * ev c x
  | [], x => by simp [scale, ev]
  | a :: c, x => by
    simp only [scale, ev, ev_scale k c x]
    grind
theorem add_len : ∀ (c d : List Int), (add c d).length = max c.length d.length
  | [], d => by simp [add]
  | a :: c, [] => by simp [add]
  | a :: c, b :: d => by
    simp only [add, List.length_cons, add_len c d]
    omega
theorem scale_len (k : Int) : ∀ (c : List Int), (scale k c).length = c.length
  | [] => rfl
  | a :: c => by simp [scale, scale_len k c]
/-- What is left when a root is taken out. -/
def quo (a : Int) : List Int → List Int
  | [] => []
  | _ :: c => add c (scale a (quo a c))
theorem quo_len (a : Int) : ∀ (c : List Int), (quo a c).length = c.length - 1
  | [] => rfl
  | b :: c => by
    rw [quo, add_len, scale_len, quo_len a c]
    simp only [List.length_cons]
    omega
theorem quo_ev (a : Int) : ∀ (c : List Int) (x : Int), ev c x - ev c a = (x - a) * ev (quo a c) x
  | [], x => by simp [ev, quo]
  | b :: c, x => by
    have ih := quo_ev a c x
    rw [quo, ev_add, ev_scale]
    simp only [ev]
    grind
/-- A prime, as far as it is wanted. -/
def Pr (q : Int) : Prop := ∀ a b : Int, q ∣ a * b → q ∣ a ∨ q ∣ b
/-- No two places are one modulo q. -/
def Apart (q : Int) : List Int → Prop
  | [] => True
  | a :: xs => (∀ x ∈ xs, ¬ q ∣ x - a) ∧ Apart q xs
theorem roots {q : Int} (hq : Pr q) : ∀ (xs c : List Int), c.length ≤ xs.length → Apart q xs → (∀ x ∈ xs, q ∣ ev c x) → ∀ x, q ∣ ev c x
  | [], c, hl, _, _, x => by
    have : c = [] := List.length_eq_zero_iff.1 (by simpa using hl)
    subst this
    simp [ev]
  | a :: xs, c, hl, ha, hr, x => by
    have h0 := hr a (by simp)
    have key : ∀ y, q ∣ ev (quo a c) y := roots hq xs (quo a c) (by rw [quo_len]; simp at hl; omega) ha.2 (fun y hy => by
      have h1 := hr y (by simp [hy])
      have h2 : q ∣ (y - a) * ev (quo a c) y := by
        rw [← quo_ev]
        exact Int.dvd_sub h1 h0
      rcases hq _ _ h2 with h | h
      · exact absurd h (ha.1 y hy)
      · exact h)
    have h3 : q ∣ ev c x - ev c a := by
      rw [quo_ev]
      exact Int.dvd_mul_of_dvd_right (key x)
    have := Int.dvd_add h3 h0
    rwa [Int.sub_add_cancel] at this
/-- Two polynomials that agree at as many places as they have coefficients agree everywhere. -/
theorem agree {q : Int} (hq : Pr q) {xs c d : List Int} (hc : c.length ≤ xs.length) (hd : d.length ≤ xs.length) (ha : Apart q xs) (h : ∀ x ∈ xs, q ∣ ev c x - ev d x) (x : Int) : q ∣ ev c x - ev d x := by
  have e : ∀ y, ev (add c (scale (-1) d)) y = ev c y - ev d y := fun y => by rw [ev_add, ev_scale]; grind
  rw [← e]
  refine roots hq xs _ (by rw [add_len, scale_len]; omega) ha (fun y hy => ?_) x
  rw [e]
  exact h y hy
/-- A product of linear factors. -/
def lin : List Int → List Int
  | [] => [1]
  | a :: ys => add (scale a (lin ys)) (0 :: scale (-1) (lin ys))
theorem lin_len : ∀ ys : List Int, (lin ys).length = ys.length + 1
  | [] => rfl
  | a :: ys => by
    rw [lin, add_len]
    simp only [scale_len, List.length_cons, lin_len ys]
    omega
def prodL (x : Int) : List Int → Int
  | [] => 1
  | a :: ys => (a - x) * prodL x ys
theorem lin_ev : ∀ (ys : List Int) (x : Int), ev (lin ys) x = prodL x ys
  | [], x => by simp [lin, ev, prodL]
  | a :: ys, x => by
    rw [lin, ev_add, ev_scale, prodL, ← lin_ev ys x]
    simp only [ev, ev_scale]
    grind
/-- A sum of weights times values; each weight a product of linear factors times a number that does not hang on x. -/
def comb : List (Int × List Int) → List Int
  | [] => []
  | (k, ys) :: r => add (scale k (lin ys)) (comb r)
def sumW (x : Int) : List (Int × List Int) → Int
  | [] => 0
  | (k, ys) :: r => k * prodL x ys + sumW x r
theorem comb_ev : ∀ (l : List (Int × List Int)) (x : Int), ev (comb l) x = sumW x l
  | [], x => rfl
  | (k, ys) :: r, x => by rw [comb, ev_add, ev_scale, lin_ev, comb_ev r x, sumW]
theorem comb_len {n : Nat} : ∀ (l : List (Int × List Int)), (∀ p ∈ l, p.2.length + 1 ≤ n) → (comb l).length ≤ n
  | [], _ => by simp [comb]
  | (k, ys) :: r, h => by
    rw [comb, add_len, scale_len, lin_len]
    have h1 := h (k, ys) (by simp)
    have h2 := comb_len (n := n) r (fun p hp => h p (by simp [hp]))
    dsimp only at h1
    omega
/-- What stands at a place but for the others: products are not nothing where all are apart. -/
theorem prod_not {q : Int} (hq : Pr q) (h1 : ¬ q ∣ 1) {x : Int} : ∀ (ys : List Int), (∀ y ∈ ys, ¬ q ∣ y - x) → ¬ q ∣ prodL x ys
  | [], _ => by simpa [prodL] using h1
  | a :: ys, h => fun hd => by
    rw [prodL] at hd
    rcases hq _ _ hd with g | g
    · exact h a (by simp) g
    · exact prod_not hq h1 ys (fun y hy => h y (by simp [hy])) g
theorem prod_zero {x : Int} : ∀ (ys : List Int), x ∈ ys → prodL x ys = 0
  | [], h => by simp at h
  | a :: ys, h => by
    rw [prodL]
    rcases List.mem_cons.1 h with rfl | h
    · simp
    · rw [prod_zero ys h]
      simp
/-- The others of a list of places. -/
def oth (P : List Int) (p : Int) : List Int := P.filter (fun y => decide (y ≠ p))
theorem oth_mem {P : List Int} {p y : Int} : y ∈ oth P p ↔ y ∈ P ∧ y ≠ p := by
  unfold oth
  simp
theorem oth_len : ∀ {P : List Int} {p : Int}, p ∈ P → (oth P p).length + 1 ≤ P.length
  | a :: P, p, h => by
    unfold oth
    rw [List.filter_cons]
    by_cases e : a = p
    · simp only [e, ne_eq, not_true_eq_false, decide_false, List.length_cons]
      exact Nat.succ_le_succ (List.length_filter_le _ P)
    · have hp : p ∈ P := by
        rcases List.mem_cons.1 h with q | q
        · exact absurd q.symm e
        · exact q
      have ih := oth_len hp
      unfold oth at ih
      simp only [ne_eq, e, not_false_eq_true, decide_true, if_true, List.length_cons]
      simp only [ne_eq] at ih
      omega
/-- The summands of the value at x of what goes through values at places. -/
def terms (inv : Int → Int) (P : List Int) : List (Int × Int) → List (Int × List Int)
  | [] => []
  | (p, v) :: r => (v * inv (prodL p (oth P p)), oth P p) :: terms inv P r
def thr (inv : Int → Int) (L : List (Int × Int)) (x : Int) : Int := sumW x (terms inv (L.map Prod.fst) L)
theorem terms_mem {inv : Int → Int} {P : List Int} : ∀ {r : List (Int × Int)} {t : Int × List Int}, t ∈ terms inv P r → ∃ p v, (p, v) ∈ r ∧ t = (v * inv (prodL p (oth P p)), oth P p)
  | (p, v) :: r, t, h => by
    rw [terms] at h
    rcases List.mem_cons.1 h with rfl | h
    · exact ⟨p, v, by simp, rfl⟩
    · obtain ⟨p', v', h1, h2⟩ := terms_mem h
      exact ⟨p', v', by simp [h1], h2⟩
theorem thr_len {inv : Int → Int} {L : List (Int × Int)} : (comb (terms inv (L.map Prod.fst) L)).length ≤ L.length := by
  refine comb_len _ (fun t ht => ?_)
  obtain ⟨p, v, h1, rfl⟩ := terms_mem ht
  have := oth_len (P := L.map Prod.fst) (p := p) (List.mem_map.2 ⟨(p, v), h1, rfl⟩)
  simpa using this
theorem apart_in {q : Int} : ∀ {P : List Int} {x y : Int}, Apart q P → x ∈ P → y ∈ P → x ≠ y → ¬ q ∣ y - x
  | a :: P, x, y, h, hx, hy, hne => by
    rcases List.mem_cons.1 hx with hx1 | hx1
    · rcases List.mem_cons.1 hy with hy1 | hy1
      · exact absurd (hx1.trans hy1.symm) hne
      · rw [hx1]
        exact h.1 y hy1
    · rcases List.mem_cons.1 hy with hy1 | hy1
      · intro g
        refine h.1 x hx1 ?_
        have e : x - a = -(y - x) := by omega
        rw [e]
        exact Int.dvd_neg.2 g
      · exact apart_in h.2 hx1 hy1 hne
theorem apart_nodup {q : Int} : ∀ {P : List Int}, Apart q P → P.Nodup
  | [], _ => List.nodup_nil
  | a :: P, h => List.nodup_cons.2 ⟨fun g => h.1 a g (by simp), apart_nodup h.2⟩
/-- A part of the summands, at a place that is not among its places: nothing. -/
theorem sum_off {q : Int} {inv : Int → Int} {P : List Int} {x : Int} (hx : x ∈ P) : ∀ (r : List (Int × Int)), (∀ p ∈ r, p.1 ≠ x) → sumW x (terms inv P r) = 0
  | [], _ => rfl
  | (p, v) :: r, h => by
    rw [terms, sumW, prod_zero (oth P p) (oth_mem.2 ⟨hx, fun e => h (p, v) (by simp) e.symm⟩), sum_off hx (q := q) r (fun t ht => h t (by simp [ht]))]
    simp
theorem sum_at {q : Int} (hq : Pr q) (h1 : ¬ q ∣ 1) {inv : Int → Int} (hi : ∀ a, ¬ q ∣ a → q ∣ a * inv a - 1) {P : List Int} (hP : Apart q P) : ∀ (r : List (Int × Int)) (p v : Int), (p, v) ∈ r → (r.map Prod.fst).Nodup → (∀ t ∈ r, t.1 ∈ P) → q ∣ sumW p (terms inv P r) - v
  | (a, u) :: r, p, v, h, hn, hP' => by
    simp only [List.map_cons, List.nodup_cons] at hn
    rw [terms, sumW]
    have hpP : p ∈ P := hP' (p, v) h
    by_cases e : a = p
    · subst e
      have hv : v = u := by
        rcases List.mem_cons.1 h with g | g
        · cases g; rfl
        · exact absurd (List.mem_map.2 ⟨(a, v), g, rfl⟩) hn.1
      subst hv
      rw [sum_off (q := q) hpP r (fun t ht e => hn.1 (List.mem_map.2 ⟨t, ht, e⟩))]
      have hnp := prod_not hq h1 (x := a) (oth P a) (fun y hy => apart_in hP hpP (oth_mem.1 hy).1 (fun e => (oth_mem.1 hy).2 e.symm))
      have hh := hi _ hnp
      generalize prodL a (oth P a) = D at *
      have e : v * inv D * D + 0 - v = v * (D * inv D - 1) := by grind
      rw [e]
      exact Int.dvd_mul_of_dvd_right hh
    · have hr : (p, v) ∈ r := by
        rcases List.mem_cons.1 h with g | g
        · cases g; exact absurd rfl e
        · exact g
      rw [prod_zero (oth P a) (oth_mem.2 ⟨hpP, fun g => e g.symm⟩)]
      have ih := sum_at hq h1 hi hP r p v hr hn.2 (fun t ht => hP' t (by simp [ht]))
      simpa using ih
/-- IT GOES THROUGH THE VALUES. -/
theorem thr_at {q : Int} (hq : Pr q) (h1 : ¬ q ∣ 1) {inv : Int → Int} (hi : ∀ a, ¬ q ∣ a → q ∣ a * inv a - 1) {L : List (Int × Int)} (hP : Apart q (L.map Prod.fst)) {p v : Int} (h : (p, v) ∈ L) : q ∣ thr inv L p - v :=
  sum_at hq h1 hi hP L p v h (apart_nodup hP) (fun t ht => List.mem_map.2 ⟨t, ht, rfl⟩)
/-- WHAT GOES THROUGH WHAT IT GIVES TO OTHERS IS IT. -/
theorem thr_again {q : Int} (hq : Pr q) (h1 : ¬ q ∣ 1) {inv : Int → Int} (hi : ∀ a, ¬ q ∣ a → q ∣ a * inv a - 1) {L G : List (Int × Int)} (hO : Apart q (G.map Prod.fst)) (hl : L.length ≤ G.length) (hg : ∀ t ∈ G, q ∣ t.2 - thr inv L t.1) (x : Int) : q ∣ thr inv G x - thr inv L x := by
  unfold thr
  rw [← comb_ev, ← comb_ev]
  refine agree hq (xs := G.map Prod.fst) (by rw [List.length_map]; exact thr_len) (by rw [List.length_map]; exact Nat.le_trans thr_len hl) hO (fun y hy => ?_) x
  obtain ⟨t, ht, rfl⟩ := List.mem_map.1 hy
  rw [comb_ev, comb_ev]
  have a1 := thr_at hq h1 hi hO (p := t.1) (v := t.2) ht
  have a2 := hg t ht
  have := Int.dvd_add a1 a2
  unfold thr at this
  have e : sumW t.1 (terms inv (G.map Prod.fst) G) - t.2 + (t.2 - sumW t.1 (terms inv (L.map Prod.fst) L)) = sumW t.1 (terms inv (G.map Prod.fst) G) - sumW t.1 (terms inv (L.map Prod.fst) L) := by omega
  rw [e] at this
  exact this
end Go.Proofs.Ythdffjboaicopaa.Lg
