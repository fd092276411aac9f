/- The document's read: a list. -/
import Derived.Test.YtlogilmeefcipaaRefL
set_option linter.unusedSimpArgs false
set_option linter.unusedVariables false
set_option maxRecDepth 100000
namespace Go.Proofs.Ytlogilmeefcipaa
open Go.RowKit Go.Deep Go.PlainAid Go.Shelf

theorem leafN_suf {l r : List UInt8} {n : Nd} (h : leafN l = some (n, r)) : r <:+ l := by
  cases hc : leafP l with
  | none => simp [leafN, hc] at h
  | some p =>
    obtain ⟨t, r'⟩ := p
    simp only [leafN, hc, Option.some.injEq, Prod.mk.injEq] at h
    rw [← h.2]
    cases hcc : colon l with
    | none => simp [leafP, hcc] at hc
    | some i =>
      simp only [leafP, hcc] at hc
      split at hc
      · simp only [Option.some.injEq, Prod.mk.injEq] at hc
        rw [← hc.2, List.drop_drop]
        exact List.drop_suffix _ _
      · cases hc
theorem listP_suf {f : List UInt8 → Option (Nd × List UInt8)} (hf : ∀ l n r, f l = some (n, r) → r <:+ l) : ∀ k l ns r, listP f k l = some (ns, r) → r <:+ l
  | 0, l, ns, r, h => by simp [listP] at h
  | k + 1, l, ns, r, h => by
    rw [listP] at h
    split at h
    · simp only [Option.some.injEq, Prod.mk.injEq] at h
      rw [← h.2]
      exact List.tail_suffix l
    · cases h2 : f l with
      | none => simp [h2] at h
      | some p =>
        obtain ⟨n, r1⟩ := p
        simp only [h2] at h
        cases h3 : listP f k r1 with
        | none => simp [h3] at h
        | some q =>
          obtain ⟨ns', r2⟩ := q
          simp only [h3, Option.some.injEq, Prod.mk.injEq] at h
          rw [← h.2]
          exact (listP_suf hf k _ _ _ h3).trans (hf _ _ _ h2)
theorem nodeP_suf : ∀ d l n r, nodeP d l = some (n, r) → r <:+ l
  | 0, l, n, r, h => by
    rw [nodeP] at h
    split at h
    · cases h
    · exact leafN_suf h
  | d + 1, l, n, r, h => by
    rw [nodeP] at h
    split at h
    · cases h2 : listP (nodeP d) (l.length + 1) l.tail with
      | none => simp [h2] at h
      | some q =>
        obtain ⟨ns', r2⟩ := q
        simp only [h2, Option.some.injEq, Prod.mk.injEq] at h
        rw [← h.2]
        exact (listP_suf (nodeP_suf d) _ _ _ _ h2).trans (List.tail_suffix l)
    · exact leafN_suf h
/-- Where the rest begins. -/
theorem suf_drop {l r : List UInt8} {c : Nat} (h : r <:+ l.drop c) : r = l.drop (l.length - r.length) := List.suffix_iff_eq_drop.1 (h.trans (List.drop_suffix c l))
theorem nodeP_nil (d : Nat) : nodeP d [] = none := by cases d <;> rfl
def ReadC (d : Nat) : Prop := ∀ (l : List UInt8) (c : Nat) (w : World), l.length ≤ 1048576 → c ≤ l.length →
  Calls Try.prog 15 #[S l, .int .i64 (c : Int), .int .i64 (d : Int)] w fun e w' => Below w.heap.size w w' ∧ ReadE l (nodeP d (l.drop c)) (fun k => w.heap.size ≤ k) e w'
theorem read_zero (l : List UInt8) (p : Nat) (w : World) (hl : l.length ≤ 1048576) (hp : p < l.length) (hh : (l.drop p).head? = some 40) :
    Calls Try.prog 15 #[S l, .int .i64 (p : Int), .int .i64 0] w fun e w' => Below w.heap.size w w' ∧ e = .returned (.tuple #[.agg #[.bool false, .string ⟨#[]⟩, .slice none 0 0], .int .i64 (-1)]) := by
  have hsz := size_S l
  have hb := get_bt ⟨l.toArray⟩
  have h40 : bt ⟨l.toArray⟩ p = 40 := by
    rw [bt_S l p hp]
    rw [List.head?_drop, List.getElem?_eq_getElem hp] at hh
    simp only [Option.some.injEq] at hh
    rw [hh]; rfl
  have h40' : (bt ⟨l.toArray⟩ p == 40) = true := by simpa using h40
  have pl : (p : Int) < (l.length : Int) := by omega
  have p2 : ¬ l.length ≤ p := by omega
  go_enter Try.func15, Try.ntmps15
  go_wp2_with fail
  exact bodyPost_ret (v := .tuple #[.agg #[.bool false, .string ⟨#[]⟩, .slice none 0 0], .int .i64 (-1)]) (results_row2 Try.results15 _ _ w.heap.size 24 #[.bool false, .string ⟨#[]⟩, .slice none 0 0] (0, 0) _ rfl (heap_alloc_new w _) Try.underlying24 rfl size24) rfl ⟨(Below.refl _ w).alloc (Nat.le_refl _) _, rfl⟩
/-- How the loop stands. -/
structure RS (d : Nat) (l : List UInt8) (p : Nat) (w wr : World) (v : Value) (c : Nat) (acc : List Nd) (T : List (Value × Value × Value)) (k : Nat) : Prop where
  fuel : (l.drop c).length < k
  cl : c ≤ l.length
  len : acc.length + (l.drop c).length ≤ l.length
  but : Below w.heap.size w wr
  nd : IHolds wr (w.heap.size + 1) 24 [.bool false, .string ⟨#[]⟩, v]
  res : IHolds wr w.heap.size 24 [.bool false, .string ⟨#[]⟩, .slice none 0 0]
  own : wr.ownsRow (w.heap.size + 2) 24 3 v T.length (flat T)
  at_ : LAt wr (fun k => w.heap.size + 2 ≤ k ∧ v.ownBlock ≠ some k) acc T
  plain : listP (nodeP d) ((l.drop p).length + 1) (l.drop p).tail = (match listP (nodeP d) k (l.drop c) with | none => none | some (ns, r') => some (acc ++ ns, r'))
theorem RS.close {d : Nat} {l : List UInt8} {p : Nat} {w wr : World} {v : Value} {c : Nat} {acc : List Nd} {T : List (Value × Value × Value)} {k : Nat} (h : RS d l p w wr v c acc T k) (hh : (l.drop c).head? = some 41) : listP (nodeP d) ((l.drop p).length + 1) (l.drop p).tail = some (acc, (l.drop c).tail) := by
  obtain ⟨k', rfl⟩ : ∃ k', k = k' + 1 := ⟨k - 1, by have := h.fuel; omega⟩
  rw [h.plain, listP, if_pos hh]
  simp
theorem RS.none {d : Nat} {l : List UInt8} {p : Nat} {w wr : World} {v : Value} {c : Nat} {acc : List Nd} {T : List (Value × Value × Value)} {k : Nat} (h : RS d l p w wr v c acc T k) (hh : ¬ (l.drop c).head? = some 41) (hn : nodeP d (l.drop c) = none) : listP (nodeP d) ((l.drop p).length + 1) (l.drop p).tail = Option.none := by
  obtain ⟨k', rfl⟩ : ∃ k', k = k' + 1 := ⟨k - 1, by have := h.fuel; omega⟩
  rw [h.plain, listP, if_neg hh, hn]
theorem RS.next {d : Nat} {l : List UInt8} {p : Nat} {w wr : World} {v : Value} {c : Nat} {acc : List Nd} {T : List (Value × Value × Value)} {k : Nat} (h : RS d l p w wr v c acc T k) (hh : ¬ (l.drop c).head? = some 41) {n : Nd} {r' : List UInt8} (hn : nodeP d (l.drop c) = some (n, r')) :
    listP (nodeP d) ((l.drop p).length + 1) (l.drop p).tail = (match listP (nodeP d) (k - 1) r' with | Option.none => Option.none | some (ns, r'') => some ((acc ++ [n]) ++ ns, r'')) := by
  obtain ⟨k', rfl⟩ : ∃ k', k = k' + 1 := ⟨k - 1, by have := h.fuel; omega⟩
  rw [h.plain, listP, if_neg hh, hn, Nat.add_sub_cancel]
  simp only []
  cases listP (nodeP d) k' r' with
  | none => rfl
  | some q => simp
theorem RS.step {d : Nat} {l : List UInt8} {p : Nat} {w wr w2 w3 : World} {v v' : Value} {c : Nat} {acc : List Nd} {T : List (Value × Value × Value)} {k : Nat} (h : RS d l p w wr v c acc T k) (hh : ¬ (l.drop c).head? = some 41) {n : Nd} {r' : List UInt8} (hn : nodeP d (l.drop c) = some (n, r'))
    (B2 : Below wr.heap.size wr w2) {x y z : Value} (hN : NAt w2 (fun k => wr.heap.size ≤ k) n x y z) {o1 : Obj}
    (o3 : w3.ownsRow (w.heap.size + 2) 24 3 v' (T.length + 1) (flat T ++ [x, y, z])) (g3 : ((w2.alloc o1).alloc (.cells #[x, y, z] 24)).grownBy w3 v.ownBlock) (p3 : v'.ownBlock = v.ownBlock ∨ v'.ownBlock = some ((w2.alloc o1).alloc (.cells #[x, y, z] 24)).heap.size) :
    RS d l p w (w3.setCell ⟨w.heap.size + 1, 2, Option.none⟩ v') v' (l.length - r'.length) (acc ++ [n]) (T ++ [(x, y, z)]) (k - 1) := by
  have hlen := nodeP_len d _ n r' hn
  have hsuf := suf_drop (nodeP_suf d _ n r' hn)
  have hf := h.fuel
  have hl := h.len
  have hcl := h.cl
  have hrl : r'.length ≤ l.length := by have : (l.drop c).length ≤ l.length := by simp
                                        omega
  have hnd := h.nd.lt
  have hob := h.own.lt
  have e2 : ((w2.alloc o1).alloc (.cells #[x, y, z] 24)).heap.size = w2.heap.size + 2 := by simp
  have s2 := B2.size
  have s3 := g3.size
  have kp : ∀ k, k < w2.heap.size → v.ownBlock ≠ some k → w3.heap[k]? = w2.heap[k]? := fun k hk hv => (g3.block k (by omega) (fun e => hv e.symm)).trans ((Lib.alloc_old (w2.alloc o1) _ k (by simp; omega)).trans (Lib.alloc_old w2 _ k hk))
  have ndne : v.ownBlock ≠ some (w.heap.size + 1) := fun e => by have := (hob _ e).1; omega
  have rne : v.ownBlock ≠ some w.heap.size := fun e => by have := (hob _ e).1; omega
  have Q : But (w.heap.size + 1) w3 (w3.setCell ⟨w.heap.size + 1, 2, Option.none⟩ v') := (But.refl _ w3).setCell 2 v'
  have hS4 := Q.size
  have nd3 : IHolds w3 (w.heap.size + 1) 24 [.bool false, .string ⟨#[]⟩, v] := by
    unfold IHolds
    rw [kp _ (by omega) ndne, B2.block _ hnd]
    exact h.nd
  have nd4 := nd3.set 2 v'
  have kq : ∀ k, k < w2.heap.size → v.ownBlock ≠ some k → k ≠ w.heap.size + 1 → (w3.setCell ⟨w.heap.size + 1, 2, Option.none⟩ v').heap[k]? = w2.heap[k]? := fun k hk hv hne => (Q.block k (by omega) hne).trans (kp k hk hv)
  refine ⟨by rw [← hsuf]; omega, by omega, by rw [← hsuf]; simp; omega, ?_, nd4, ?_, ?_, ?_, by rw [← hsuf]; exact h.next hh hn⟩
  · refine ⟨(Q.os.trans g3.os).trans (B2.os.trans h.but.os), (Q.tape.trans g3.tape).trans (B2.tape.trans h.but.tape), (Q.output.trans g3.output).trans (B2.output.trans h.but.output), by have := h.but.size; omega, fun k hk => ?_⟩
    rw [kq k (by omega) (fun e => by have := (hob k e).1; omega) (by omega), B2.block k (by omega), h.but.block k hk]
  · unfold IHolds
    rw [kq _ (by omega) rne (by omega), B2.block _ (by omega)]
    exact h.res
  · rw [flat_snoc, List.length_append]
    exact own_but o3 Q (by omega)
  · refine LAt.snoc ?_ ?_
    · refine (h.at_.keep (w' := w3.setCell ⟨w.heap.size + 1, 2, Option.none⟩ v') (G := fun k => w.heap.size + 2 ≤ k ∧ v'.ownBlock ≠ some k) (by omega) ?_ ?_)
      · rintro k ⟨h1, h2⟩ h3
        refine ⟨h1, ?_⟩
        rcases p3 with e | e
        · rw [e]; exact h2
        · rw [e, e2]; simp; omega
      · rintro k ⟨h1, h2⟩ h3
        rw [kq k (by omega) h2 (by omega), B2.block k h3]
    · refine hN.keep (by omega) ?_ ?_
      · intro k h1 h3
        refine ⟨by omega, ?_⟩
        rcases p3 with e | e
        · rw [e]; exact fun e => by have := (hob k e).2; omega
        · rw [e, e2]; simp; omega
      · intro k h1 h3
        exact kq k h3 (fun e => by have := (hob k e).2; omega) (by omega)
end Go.Proofs.Ytlogilmeefcipaa
