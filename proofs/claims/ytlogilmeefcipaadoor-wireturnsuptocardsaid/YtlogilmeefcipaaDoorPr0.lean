/- Nodes of whatever shape, plain; how they are written, up to what is wrong. -/
import Derived.Test.YtlogilmeefcipaaDoorRef
set_option linter.unusedSimpArgs false
set_option linter.unusedVariables false
set_option maxRecDepth 100000
namespace Go.Proofs.YtlogilmeefcipaaDoor
open Go.RowKit Go.Deep Go.PlainAid

/-- A node of whatever shape. -/
inductive Gn where
  | mk (lf : Bool) (t : List UInt8) (l : List Gn)
/-- Is it a leaf or a list, and nothing of the other? -/
def shp (lf : Bool) (t : List UInt8) (l : List Gn) : Bool := if lf then l.isEmpty else t.isEmpty
/-- Are all of them nodes? -/
def goods : List Gn → Bool
  | [] => true
  | .mk lf t l :: r => (if lf then l.isEmpty else t.isEmpty && goods l) && goods r
/-- How they are written, one behind the other. -/
def wrts : List Gn → List UInt8
  | [] => []
  | .mk lf t l :: r => (if lf then txt t.length ++ 58 :: t else 40 :: wrts l ++ [41]) ++ wrts r
/-- How many lists lie one within the other. -/
def deps : List Gn → Nat
  | [] => 0
  | .mk lf _ l :: r => max (if lf then 0 else deps l + 1) (deps r)
/-- How much there is of them. -/
def bk : List Gn → Nat
  | [] => 0
  | .mk _ t l :: r => t.length + 1 + bk l + bk r
theorem Gn.forest {P : List Gn → Prop} (h0 : P []) (h1 : ∀ lf t l r, P l → P r → P (.mk lf t l :: r)) : ∀ l, P l
  | [] => h0
  | .mk lf t l :: r => h1 lf t l r (Gn.forest h0 h1 l) (Gn.forest h0 h1 r)
/-- What comes of writing: the bytes so far, or an error. -/
inductive WR where
  | ok (b : List UInt8)
  | err (k : Nat)
def WR.andThen (x : WR) (f : List UInt8 → WR) : WR := match x with
  | .ok b => f b
  | .err k => .err k
def addP (b s : List UInt8) : WR := if 1048576 < b.length + s.length then .err 3 else .ok (b ++ s)
def leafW (b t : List UInt8) : WR := (addP b (txt t.length)).andThen fun b => (addP b [58]).andThen fun b => addP b t
def wrs : Nat → List Gn → List UInt8 → WR
  | _, [], b => .ok b
  | ar, .mk lf t l :: r, b =>
    (if shp lf t l = false then .err 2 else if lf then leafW b t
     else if ar = 12 then .err 3 else (addP b [40]).andThen fun b => (wrs (ar + 1) l b).andThen fun b => addP b [41]).andThen fun b => wrs ar r b
theorem wrs_cons (ar : Nat) (n : Gn) (r : List Gn) (b : List UInt8) : wrs ar (n :: r) b = (wrs ar [n] b).andThen fun b => wrs ar r b := by
  obtain ⟨lf, t, l⟩ := n
  have e : ∀ x : WR, (x.andThen fun b => wrs ar [] b) = x := fun x => by cases x <;> simp [WR.andThen, wrs]
  rw [wrs, wrs, e]
/-- What writing tells. -/
def W3 (l : List Gn) (ar : Nat) (b : List UInt8) : WR → Prop
  | .ok b' => goods l = true ∧ deps l + ar ≤ 12 ∧ b' = b ++ wrts l ∧ b'.length ≤ 1048576
  | .err k => (k = 2 ∧ goods l = false) ∨ (k = 3 ∧ (goods l = true → 12 < deps l + ar ∨ 1048576 < b.length + (wrts l).length))
theorem addP_cases (b s : List UInt8) : (1048576 < b.length + s.length ∧ addP b s = .err 3) ∨ (b.length + s.length ≤ 1048576 ∧ addP b s = .ok (b ++ s)) := by
  by_cases h : 1048576 < b.length + s.length
  · exact Or.inl ⟨h, by simp [addP, h]⟩
  · exact Or.inr ⟨by omega, by simp [addP, h]⟩
theorem leafW_cases (b t : List UInt8) : (1048576 < b.length + (txt t.length ++ 58 :: t).length ∧ leafW b t = .err 3) ∨ (b.length + (txt t.length ++ 58 :: t).length ≤ 1048576 ∧ leafW b t = .ok (b ++ (txt t.length ++ 58 :: t))) := by
  unfold leafW
  rcases addP_cases b (txt t.length) with ⟨h, e⟩ | ⟨h, e⟩
  · rw [e]
    exact Or.inl ⟨by simp; omega, rfl⟩
  · rw [e]
    simp only [WR.andThen]
    rcases addP_cases (b ++ txt t.length) [58] with ⟨h2, e2⟩ | ⟨h2, e2⟩
    · rw [e2]
      simp at h2
      exact Or.inl ⟨by simp; omega, rfl⟩
    · rw [e2]
      simp only []
      rcases addP_cases (b ++ txt t.length ++ [58]) t with ⟨h3, e3⟩ | ⟨h3, e3⟩
      · rw [e3]
        simp at h3
        exact Or.inl ⟨by simp; omega, rfl⟩
      · rw [e3]
        simp at h3
        exact Or.inr ⟨by simp; omega, by simp⟩
theorem wrs_spec : ∀ l ar b, ar ≤ 12 → b.length ≤ 1048576 → W3 l ar b (wrs ar l b) := by
  intro l
  induction l using Gn.forest with
  | h0 => intro ar b h1 h2; rw [wrs]; simp [W3, goods, deps, wrts]; omega
  | h1 lf t l r ihl ihr =>
    intro ar b h1 h2
    rw [wrs]
    by_cases hs : shp lf t l = false
    · rw [if_pos hs]
      refine Or.inl ⟨rfl, ?_⟩
      rw [goods]
      cases lf <;> simp [shp] at hs <;> simp [hs]
    · rw [if_neg hs]
      have hs' : shp lf t l = true := by simpa using hs
      cases lf with
      | true =>
        have hl : l = [] := by simpa [shp] using hs'
        subst hl
        rw [if_pos rfl]
        rcases leafW_cases b t with ⟨h, e⟩ | ⟨h, e⟩
        · rw [e]
          refine Or.inr ⟨rfl, fun _ => Or.inr ?_⟩
          rw [wrts]
          simp at h ⊢
          omega
        · rw [e]
          simp only [WR.andThen]
          have := ihr ar (b ++ (txt t.length ++ 58 :: t)) h1 (by simp at h ⊢; omega)
          cases hw : wrs ar r (b ++ (txt t.length ++ 58 :: t)) with
          | ok b' =>
            rw [hw] at this
            obtain ⟨a1, a2, a3, a4⟩ := this
            refine ⟨by rw [goods]; simp [a1], by rw [deps]; simp; omega, ?_, a4⟩
            rw [a3, wrts]; simp
          | err k =>
            rw [hw] at this
            rcases this with ⟨a1, a2⟩ | ⟨a1, a2⟩
            · exact Or.inl ⟨a1, by rw [goods]; simp [a2]⟩
            · refine Or.inr ⟨a1, fun hg => ?_⟩
              rw [goods] at hg
              simp at hg
              rcases a2 hg with a | a
              · exact Or.inl (by rw [deps]; simp; omega)
              · exact Or.inr (by rw [wrts]; simp at a ⊢; omega)
      | false =>
        have ht : t = [] := by simpa [shp] using hs'
        subst ht
        rw [if_neg (by simp)]
        by_cases h12 : ar = 12
        · rw [if_pos h12]
          exact Or.inr ⟨rfl, fun _ => Or.inl (by rw [deps]; simp; omega)⟩
        · rw [if_neg h12]
          rcases addP_cases b [40] with ⟨h, e⟩ | ⟨h, e⟩
          · rw [e]
            exact Or.inr ⟨rfl, fun _ => Or.inr (by rw [wrts]; simp at h ⊢; omega)⟩
          · rw [e]
            simp only [WR.andThen]
            have hl := ihl (ar + 1) (b ++ [40]) (by omega) (by simpa using h)
            cases hw : wrs (ar + 1) l (b ++ [40]) with
            | err k =>
              rw [hw] at hl
              rcases hl with ⟨a1, a2⟩ | ⟨a1, a2⟩
              · exact Or.inl ⟨a1, by rw [goods]; simp [a2]⟩
              · refine Or.inr ⟨a1, fun hg => ?_⟩
                rw [goods] at hg
                simp at hg
                rcases a2 hg.1 with a | a
                · exact Or.inl (by rw [deps]; simp; omega)
                · exact Or.inr (by rw [wrts]; simp at a ⊢; omega)
            | ok b1 =>
              rw [hw] at hl
              obtain ⟨a1, a2, a3, a4⟩ := hl
              simp only []
              rcases addP_cases b1 [41] with ⟨g, e2⟩ | ⟨g, e2⟩
              · rw [e2]
                refine Or.inr ⟨rfl, fun _ => Or.inr ?_⟩
                rw [a3] at g
                rw [wrts]; simp at g ⊢; omega
              · rw [e2]
                simp only []
                have hr := ihr ar (b1 ++ [41]) h1 (by simpa using g)
                cases hw2 : wrs ar r (b1 ++ [41]) with
                | ok b' =>
                  rw [hw2] at hr
                  obtain ⟨c1, c2, c3, c4⟩ := hr
                  refine ⟨by rw [goods]; simp [a1, c1], by rw [deps]; simp; omega, ?_, c4⟩
                  rw [c3, a3, wrts]; simp
                | err k =>
                  rw [hw2] at hr
                  rcases hr with ⟨c1, c2⟩ | ⟨c1, c2⟩
                  · exact Or.inl ⟨c1, by rw [goods]; simp [c2]⟩
                  · refine Or.inr ⟨c1, fun hg => ?_⟩
                    rw [goods] at hg
                    simp at hg
                    rcases c2 hg.2 with a | a
                    · exact Or.inl (by rw [deps]; simp; omega)
                    · rw [a3] at a
                      exact Or.inr (by rw [wrts]; simp at a ⊢; omega)
theorem txt_len (n : Nat) (h : n ≤ 1048576) : (txt n).length ≤ 7 := by
  have := dg_len_le ten 7 n (by omega)
  rw [txt]
  split
  · simp
  · simp only [chars, List.length_map, List.length_reverse]; omega
theorem wrts_len : ∀ l, bk l ≤ 1048576 → (wrts l).length ≤ 8 * bk l := by
  intro l
  induction l using Gn.forest with
  | h0 => intro _; simp [wrts, bk]
  | h1 lf t l r ihl ihr =>
    intro h
    rw [bk] at h ⊢
    have a1 := ihl (by omega)
    have a2 := ihr (by omega)
    have a3 := txt_len t.length (by omega)
    rw [wrts]
    cases lf <;> simp <;> omega
theorem deps_le : ∀ l, deps l ≤ bk l := by
  intro l
  induction l using Gn.forest with
  | h0 => simp [deps, bk]
  | h1 lf t l r ihl ihr =>
    rw [bk, deps]
    cases lf <;> simp <;> omega
theorem len_bk : ∀ l, l.length ≤ bk l := by
  intro l
  induction l using Gn.forest with
  | h0 => simp
  | h1 lf t l r ihl ihr =>
    rw [bk]
    simp
    omega
theorem goods_cons (n : Gn) (r : List Gn) : goods (n :: r) = (goods [n] && goods r) := by
  obtain ⟨lf, t, l⟩ := n
  rw [goods, goods, goods]; simp
theorem wrts_cons (n : Gn) (r : List Gn) : wrts (n :: r) = wrts [n] ++ wrts r := by
  obtain ⟨lf, t, l⟩ := n
  rw [wrts, wrts, wrts]; simp
theorem deps_cons (n : Gn) (r : List Gn) : deps (n :: r) = max (deps [n]) (deps r) := by
  obtain ⟨lf, t, l⟩ := n
  rw [deps, deps, deps]; simp
theorem bk_cons (n : Gn) (r : List Gn) : bk (n :: r) = bk [n] + bk r := by
  obtain ⟨lf, t, l⟩ := n
  rw [bk, bk, bk]; omega
theorem bk_append (l r : List Gn) : bk (l ++ r) = bk l + bk r := by
  induction l with
  | nil => simp [bk]
  | cons n l ih => rw [List.cons_append, bk_cons, ih, bk_cons n l]; omega
theorem wrts_append (l r : List Gn) : wrts (l ++ r) = wrts l ++ wrts r := by
  induction l with
  | nil => simp [wrts]
  | cons n l ih => rw [List.cons_append, wrts_cons, ih, wrts_cons n l]; simp
theorem deps_append (l r : List Gn) : deps (l ++ r) = max (deps l) (deps r) := by
  induction l with
  | nil => simp [deps]
  | cons n l ih => rw [List.cons_append, deps_cons, ih, deps_cons n l]; omega
theorem goods_append (l r : List Gn) : goods (l ++ r) = (goods l && goods r) := by
  induction l with
  | nil => simp [goods]
  | cons n l ih => rw [List.cons_append, goods_cons, ih, goods_cons n l]; simp [Bool.and_assoc]
end Go.Proofs.YtlogilmeefcipaaDoor
