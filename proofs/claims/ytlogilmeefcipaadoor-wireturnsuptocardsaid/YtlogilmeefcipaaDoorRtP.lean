/- What is written is read again; what is read is written so: plain. -/
import Derived.Test.YtlogilmeefcipaaDoorParse
import Derived.Test.YtlogilmeefcipaaDoorPrDoc
set_option linter.unusedSimpArgs false
set_option linter.unusedVariables false
set_option maxRecDepth 100000
namespace Go.Proofs.YtlogilmeefcipaaDoor
open Go.RowKit Go.Deep Go.PlainAid

/-- Nodes that were read, as nodes of whatever shape. -/
def toGns : List Nd → List Gn
  | [] => []
  | .leaf t :: r => .mk true t [] :: toGns r
  | .list l :: r => .mk false [] (toGns l) :: toGns r
def toG : Nd → Gn
  | .leaf t => .mk true t []
  | .list l => .mk false [] (toGns l)
theorem toGns_cons (n : Nd) (r : List Nd) : toGns (n :: r) = toG n :: toGns r := by cases n <;> rw [toGns] <;> rfl
theorem toGns_length : ∀ l : List Nd, (toGns l).length = l.length
  | [] => by rw [toGns]; rfl
  | n :: r => by rw [toGns_cons]; simp [toGns_length r]
theorem toGns_get : ∀ (l : List Nd) (i : Nat) (h : i < l.length), (toGns l)[i]'(by rw [toGns_length]; exact h) = toG l[i]
  | [], i, h => by simp at h
  | n :: r, 0, h => by simp only [toGns_cons]; rfl
  | n :: r, i + 1, h => by simp only [toGns_cons, List.getElem_cons_succ]; exact toGns_get r i (by simpa using h)
theorem NAt.toG {w : World} {F : Nat → Prop} {n : Nd} {a b c : Value} (h : NAt w F n a b c) : GAt w (toG n) a b c := by
  induction h with
  | leaf t => exact .mk true t [] none 0 (fun _ => .bool true) (fun _ => .bool true) (fun _ => .bool true) (fun i h => by simp at h) (fun i h => by simp at h)
  | list l adr cap c1 c2 c3 hc hn ih =>
    have e : (toGns l).length = l.length := toGns_length l
    rw [← e]
    refine .mk false [] (toGns l) adr cap c1 c2 c3 ?_ ?_
    · intro i hi
      obtain ⟨b, h1, h2, h3, h4, h5, h6⟩ := hc i (by omega)
      exact ⟨b, 0, h1, h3, by simpa using h4, by simpa using h5, by simpa using h6⟩
    · intro i hi
      rw [toGns_get l i (by omega)]
      exact ih i (by omega)
/-- And back. -/
def toNds : List Gn → List Nd
  | [] => []
  | .mk lf t l :: r => (if lf then .leaf t else .list (toNds l)) :: toNds r
theorem toNds_cons (n : Gn) (r : List Gn) : toNds (n :: r) = toNds [n] ++ toNds r := by
  obtain ⟨lf, t, l⟩ := n
  rw [toNds, toNds, toNds]; rfl
theorem toGns_toNds : ∀ l, goods l = true → toGns (toNds l) = l := by
  intro l
  induction l using Gn.forest with
  | h0 => intro _; rw [toNds, toGns]
  | h1 lf t l r ihl ihr =>
    intro hg
    rw [goods] at hg
    rw [toNds]
    cases lf with
    | true =>
      simp at hg
      obtain ⟨rfl, h2⟩ := hg
      rw [if_pos rfl, toGns, ihr h2]
    | false =>
      simp at hg
      obtain ⟨⟨rfl, h1⟩, h2⟩ := hg
      rw [if_neg (by simp), toGns, ihr h2, ihl h1]
/-! ### Leaves -/
theorem txt_dig (n : Nat) : ∀ c ∈ txt n, 48 ≤ c.toNat ∧ c.toNat ≤ 57 := by
  intro c hc
  have h := isNum_txt n
  simp only [isNum, Bool.and_eq_true] at h
  have := (List.all_eq_true.1 h.1) c hc
  simpa [isDig] using this
theorem txt_ne (n : Nat) : txt n ≠ [] := by
  intro e
  have h := isNum_txt n
  rw [e] at h
  simp [isNum] at h
theorem colon_txt (n : Nat) (r : List UInt8) : colon (txt n ++ 58 :: r) = some (txt n).length := by
  unfold colon
  rw [List.findIdx?_eq_some_iff_getElem]
  refine ⟨by simp, by simp, ?_⟩
  intro j hj
  rw [List.getElem_append_left hj]
  have := txt_dig n _ (List.getElem_mem hj)
  simp only [beq_iff_eq]
  intro e
  rw [e] at this
  simp at this
theorem leafP_txt (t r : List UInt8) : leafP (txt t.length ++ 58 :: (t ++ r)) = some (t, r) := by
  unfold leafP
  rw [colon_txt]
  have e1 : (txt t.length ++ 58 :: (t ++ r)).take (txt t.length).length = txt t.length := by simp
  have e2 : (txt t.length ++ 58 :: (t ++ r)).drop ((txt t.length).length + 1) = t ++ r := by
    rw [List.drop_append]; simp
  simp only [e1, e2, isNum_txt, bv_txt]
  rw [if_pos ⟨by trivial, by simp⟩]
  simp
theorem head_txt (n : Nat) (r : List UInt8) : ∃ c r', txt n ++ r = c :: r' ∧ 48 ≤ c.toNat := by
  cases h : txt n with
  | nil => exact absurd h (txt_ne n)
  | cons c l => exact ⟨c, l ++ r, rfl, (txt_dig n c (by rw [h]; simp)).1⟩
theorem head_ne (n : Nat) (r : List UInt8) (x : UInt8) (hx : x.toNat < 48) : ¬ (txt n ++ r).head? = some x := by
  obtain ⟨c, r', e, hc⟩ := head_txt n r
  rw [e]
  intro h
  simp at h
  subst h
  omega
theorem nodeP_leaf (d : Nat) (t r : List UInt8) : nodeP d (txt t.length ++ 58 :: (t ++ r)) = some (.leaf t, r) := by
  have h : leafN (txt t.length ++ 58 :: (t ++ r)) = some (.leaf t, r) := by rw [leafN, leafP_txt]
  cases d <;> rw [nodeP, if_neg (head_ne _ _ 40 (by decide)), h]
/-- What is written is read. -/
theorem rt_one (lf : Bool) (t : List UInt8) (l : List Gn) (ihl : ∀ d, deps l ≤ d → goods l = true → ∀ r k, (wrts l).length < k → listP (nodeP d) k (wrts l ++ 41 :: r) = some (toNds l, r))
    (d : Nat) (hd : deps [.mk lf t l] ≤ d) (hg : goods [.mk lf t l] = true) (r : List UInt8) : nodeP d (wrts [.mk lf t l] ++ r) = some (if lf then .leaf t else .list (toNds l), r) := by
  cases lf with
  | true =>
    rw [wrts_leaf, if_pos rfl, show (txt t.length ++ 58 :: t) ++ r = txt t.length ++ 58 :: (t ++ r) by simp]
    exact nodeP_leaf d t r
  | false =>
    rw [deps_list] at hd
    rw [goods_list] at hg
    simp only [Bool.and_eq_true] at hg
    obtain ⟨d', rfl⟩ : ∃ d', d = d' + 1 := ⟨d - 1, by omega⟩
    rw [wrts_list, if_neg (by simp), nodeP]
    have e : (40 :: wrts l ++ [41]) ++ r = 40 :: (wrts l ++ 41 :: r) := by simp
    rw [e, if_pos (by simp), List.tail_cons, ihl d' (by omega) hg.2 r _ (by simp; omega)]
theorem rt_list : ∀ l, ∀ d, deps l ≤ d → goods l = true → ∀ r k, (wrts l).length < k → listP (nodeP d) k (wrts l ++ 41 :: r) = some (toNds l, r) := by
  intro l
  induction l using Gn.forest with
  | h0 =>
    intro d _ _ r k hk
    obtain ⟨k', rfl⟩ : ∃ k', k = k' + 1 := ⟨k - 1, by omega⟩
    rw [wrts, toNds, listP]
    simp
  | h1 lf t l rr ihl ihr =>
    intro d hd hg r k hk
    obtain ⟨k', rfl⟩ : ∃ k', k = k' + 1 := ⟨k - 1, by omega⟩
    rw [deps_cons] at hd
    rw [goods_cons] at hg
    simp only [Bool.and_eq_true] at hg
    rw [wrts_cons, List.append_assoc, listP]
    rw [wrts_cons, List.length_append] at hk
    have h1 := rt_one lf t l ihl d (by omega) hg.1 (wrts rr ++ 41 :: r)
    have hw : 0 < (wrts [.mk lf t l]).length := by
      cases lf
      · rw [wrts_list]; simp
      · rw [wrts_leaf]; simp; omega
    rw [if_neg, h1]
    · simp only []
      rw [ihr d (by omega) hg.2 r k' (by omega), toNds]
    · cases lf with
      | true => rw [wrts_leaf, List.append_assoc]; exact head_ne _ _ 41 (by decide)
      | false => rw [wrts_list]; simp
/-- What was printed is parsed. -/
theorem parsP_wrts (n : Gn) (hg : goods [n] = true) (hd : deps [n] ≤ 12) : ∃ m, parsP (wrts [n]) = some m ∧ toG m = n := by
  obtain ⟨lf, t, l⟩ := n
  have h := rt_one lf t l (rt_list l) 12 hd hg []
  rw [List.append_nil] at h
  refine ⟨_, by rw [parsP, h], ?_⟩
  have e := toGns_toNds [.mk lf t l] hg
  rw [toNds, toNds, toGns_cons] at e
  exact (List.cons.inj e).1
/-! ### What is read is written so -/
theorem leafP_back {l t r : List UInt8} (h : leafP l = some (t, r)) : l = txt t.length ++ 58 :: t ++ r := by
  cases hc : colon l with
  | none => simp [leafP, hc] at h
  | some i =>
    have hlt := colon_lt hc
    have hx : l[i] = 58 := by
      unfold colon at hc
      rw [List.findIdx?_eq_some_iff_getElem] at hc
      simpa using hc.2.1
    simp only [leafP, hc] at h
    split at h
    · rename_i hh
      simp only [Option.some.injEq, Prod.mk.injEq] at h
      have ht : t.length = bv (l.take i) := by rw [← h.1, List.length_take]; omega
      have e1 : txt (bv (l.take i)) = l.take i := txt_bv _ hh.1
      rw [ht, e1, ← h.1, ← h.2]
      have e2 : l = l.take i ++ l[i] :: l.drop (i + 1) := by rw [List.getElem_cons_drop, List.take_append_drop]
      rw [List.append_assoc, List.cons_append, List.take_append_drop, ← hx]
      exact e2
    · cases h
theorem leafN_back {l r : List UInt8} {n : Nd} (h : leafN l = some (n, r)) : l = wrts [toG n] ++ r ∧ goods [toG n] = true ∧ deps [toG n] = 0 := by
  cases hc : leafP l with
  | none => simp [leafN, hc] at h
  | some p =>
    obtain ⟨t, r'⟩ := p
    simp only [leafN, hc, Option.some.injEq, Prod.mk.injEq] at h
    obtain ⟨rfl, rfl⟩ := h
    refine ⟨?_, ?_, ?_⟩
    · rw [toG, wrts_leaf]; exact leafP_back hc
    · rw [toG, goods_leaf]; rfl
    · rw [toG, deps_leaf]
theorem listP_back {f : List UInt8 → Option (Nd × List UInt8)} {d : Nat} (hf : ∀ l n r, f l = some (n, r) → l = wrts [toG n] ++ r ∧ goods [toG n] = true ∧ deps [toG n] ≤ d) :
    ∀ k l ns r, listP f k l = some (ns, r) → l = wrts (toGns ns) ++ 41 :: r ∧ goods (toGns ns) = true ∧ deps (toGns ns) ≤ d
  | 0, l, ns, r, h => by simp [listP] at h
  | k + 1, l, ns, r, h => by
    rw [listP] at h
    split at h
    · rename_i h1
      simp only [Option.some.injEq, Prod.mk.injEq] at h
      obtain ⟨rfl, rfl⟩ := h
      cases l with
      | nil => simp at h1
      | cons x l =>
        simp at h1
        subst h1
        rw [toGns]
        exact ⟨by rw [wrts]; rfl, by rw [goods], by rw [deps]; omega⟩
    · cases h2 : f l with
      | none => simp [h2] at h
      | some p =>
        obtain ⟨n, r1⟩ := p
        simp only [h2] at h
        cases h3 : listP f k r1 with
        | none => simp [h3] at h
        | some q =>
          obtain ⟨ns', r2⟩ := q
          simp only [h3, Option.some.injEq, Prod.mk.injEq] at h
          obtain ⟨rfl, rfl⟩ := h
          obtain ⟨a1, a2, a3⟩ := hf _ _ _ h2
          obtain ⟨b1, b2, b3⟩ := listP_back hf k _ _ _ h3
          rw [toGns_cons]
          refine ⟨?_, ?_, ?_⟩
          · rw [wrts_cons, List.append_assoc, ← b1]; exact a1
          · rw [goods_cons, a2, b2]; rfl
          · rw [deps_cons]; omega
theorem nodeP_back : ∀ d l n r, nodeP d l = some (n, r) → l = wrts [toG n] ++ r ∧ goods [toG n] = true ∧ deps [toG n] ≤ d
  | 0, l, n, r, h => by
    rw [nodeP] at h
    split at h
    · cases h
    · obtain ⟨a, b, c⟩ := leafN_back h
      exact ⟨a, b, by omega⟩
  | d + 1, l, n, r, h => by
    rw [nodeP] at h
    split at h
    · rename_i h1
      cases h2 : listP (nodeP d) (l.length + 1) l.tail with
      | none => simp [h2] at h
      | some q =>
        obtain ⟨ns', r2⟩ := q
        simp only [h2, Option.some.injEq, Prod.mk.injEq] at h
        obtain ⟨rfl, rfl⟩ := h
        obtain ⟨b1, b2, b3⟩ := listP_back (nodeP_back d) _ _ _ _ h2
        refine ⟨?_, ?_, ?_⟩
        · rw [toG, wrts_list]
          cases l with
          | nil => simp at h1
          | cons x l =>
            simp at h1
            subst h1
            simp at b1
            rw [b1]
            simp
        · rw [toG, goods_list, b2]; rfl
        · rw [toG, deps_list]; omega
    · obtain ⟨a, b, c⟩ := leafN_back h
      exact ⟨a, b, by omega⟩
theorem bk_wrts : ∀ l, goods l = true → bk l ≤ (wrts l).length := by
  intro l
  induction l using Gn.forest with
  | h0 => intro _; simp [bk]
  | h1 lf t l r ihl ihr =>
    intro hg
    rw [goods] at hg
    rw [bk, wrts]
    cases lf with
    | true =>
      simp at hg
      obtain ⟨rfl, h2⟩ := hg
      have := ihr h2
      simp [bk]
      omega
    | false =>
      simp at hg
      obtain ⟨⟨rfl, h1⟩, h2⟩ := hg
      have := ihr h2
      have := ihl h1
      simp
      omega
/-- What was parsed is printed as it was. -/
theorem parsP_back {l : List UInt8} {m : Nd} (h : parsP l = some m) : l = wrts [toG m] ∧ goods [toG m] = true ∧ deps [toG m] ≤ 12 ∧ bk [toG m] ≤ l.length := by
  unfold parsP at h
  split at h
  · rename_i n h2
    cases h
    obtain ⟨a, b, c⟩ := nodeP_back 12 l m [] h2
    rw [List.append_nil] at a
    exact ⟨a, b, c, by have := bk_wrts _ b; rw [← a] at this; exact this⟩
  · cases h
theorem wrs_parsed {l : List UInt8} {m : Nd} (h : parsP l = some m) (hl : l.length ≤ 1048576) : wrs 0 [toG m] [] = .ok l := by
  obtain ⟨h1, h2, h3, h4⟩ := parsP_back h
  have hs := wrs_spec [toG m] 0 [] (by omega) (by simp)
  cases hr : wrs 0 [toG m] [] with
  | ok b =>
    rw [hr] at hs
    rw [hs.2.2.1, List.nil_append, ← h1]
  | err k =>
    rw [hr] at hs
    rcases hs with ⟨_, a⟩ | ⟨_, a⟩
    · rw [h2] at a; cases a
    · rcases a h2 with a | a
      · omega
      · rw [← h1] at a; simp at a; omega
theorem pars_empty : (parsV [40, 41]).2 = 0 := by
  obtain ⟨m, h, _⟩ := parsP_wrts (.mk false [] []) (by rw [goods_list]; rw [goods]; rfl) (by rw [deps_list, deps]; omega)
  have e : wrts [.mk false [] []] = [40, 41] := by rw [wrts_list, wrts]; rfl
  rw [e] at h
  simp [parsV, h]
theorem pars_zero : (parsV [48, 58]).2 = 0 := by
  obtain ⟨m, h, _⟩ := parsP_wrts (.mk true [] []) (by rw [goods_leaf]; rfl) (by rw [deps_leaf]; omega)
  have e : wrts [.mk true [] []] = [48, 58] := by rw [wrts_leaf]; rfl
  rw [e] at h
  simp [parsV, h]
end Go.Proofs.YtlogilmeefcipaaDoor
