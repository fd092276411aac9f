/- The reader's node: a list. -/
import Derived.Test.YtlogilmeefcipaaDoorNode
set_option linter.unusedSimpArgs false
set_option linter.unusedVariables false
set_option maxRecDepth 100000
namespace Go.Proofs.YtlogilmeefcipaaDoor
open Go.RowKit Go.Deep Go.PlainAid Go.Shelf

theorem NAt.one {w : World} {F : Nat → Prop} {n : Nd} {a b c : Value} (h : NAt w F n a b c) : ∀ u ∈ [a, b, c], u.oneCell' = true := by
  cases h <;> (intro u hu; simp at hu; rcases hu with rfl | rfl | rfl <;> rfl)
theorem owned_slice {w : World} {B n s : Nat} {e : TypeId} {v : Value} {xs : List Value} (h : w.ownsRow B e s v n xs) : ∃ a m cap, v = .slice a m cap := by
  rcases h.2 with ⟨h, _⟩ | ⟨g, cap, cur, h, _⟩
  · exact ⟨_, _, _, h⟩
  · exact ⟨_, _, _, h⟩
theorem own_but {w w' : World} {g B n s : Nat} {e : TypeId} {v : Value} {xs : List Value} (h : w.ownsRow B e s v n xs) (hb : But g w w') (hg : g < B) : w'.ownsRow B e s v n xs := by
  refine ⟨h.1, ?_⟩
  rcases h.2 with h | ⟨q, cap, cur, h1, h2, h3, h4⟩
  · exact Or.inl h
  · have hq : q < w.heap.size := (Array.getElem?_eq_some_iff.1 h3).1
    exact Or.inr ⟨q, cap, cur, h1, h2, by rw [hb.block q hq (by omega)]; exact h3, h4⟩
theorem new3 (w : World) (a b c : Value) : ∀ j u, [a, b, c][j]? = some u → (w.alloc (.cells #[a, b, c] 24)).cell? ((⟨w.heap.size, 0, none⟩ : Addr).add j) = some u := by
  intro j u h
  obtain ⟨hj, rfl⟩ := List.getElem?_eq_some_iff.1 h
  rw [add_zero_off]
  exact (IHolds.new w 24 [a, b, c]).cell j hj
theorem rnode_zero (l : List UInt8) (g : Nat) (w : World) (hr : IHolds w g 50 [S l]) (hh : l.head? = some 40) :
    Calls Tryd.prog 35 #[.pointer (some ⟨g, 0, none⟩), .int .i64 12] w fun e w' => But g w w' ∧ e = thrF := by
  have hq : (l.head? == some 40) = true := by simpa using hh
  have R0 : Hid (IHolds (w.alloc zN) g 50 [S l]) := hr.alloc _
  have B0 : Hid (But g w (w.alloc zN)) := But.of_below ((Below.refl _ w).alloc (Nat.le_refl _) _)
  clear hr
  have hc := comes_any l 40 g _ R0.out
  rw [hq] at hc
  go_enter Tryd.func35, Tryd.ntmps35
  go_wp2_with (go_at_call 40; refine hc.mono ?_; rintro e w1 ⟨rfl, hR1, hB1⟩; have B1 : Hid (But g w w1) := B0.out.trans hB1; clear hR1 hB1)
  exact ⟨rfl, B1.out, rfl⟩
/-- How the loop stands. -/
structure LS (d : Nat) (l : List UInt8) (g : Nat) (w wr : World) (v : Value) (r : List UInt8) (acc : List Nd) (T : List (Value × Value × Value)) (k : Nat) : Prop where
  fuel : r.length < k
  len : acc.length + r.length ≤ l.length
  rd : IHolds wr g 50 [S r]
  but : But g w wr
  own : wr.ownsRow (w.heap.size + 1) 24 3 v T.length (flat T)
  at_ : LAt wr (fun k => w.heap.size + 1 ≤ k ∧ v.ownBlock ≠ some k) acc T
  res : IHolds wr w.heap.size 24 [.bool false, .string ⟨#[]⟩, .slice none 0 0]
  plain : listP (nodeP d) (l.length + 1) l.tail = (match listP (nodeP d) k r with | none => none | some (ns, r') => some (acc ++ ns, r'))
theorem LS.close {d : Nat} {l : List UInt8} {g : Nat} {w wr : World} {v : Value} {r : List UInt8} {acc : List Nd} {T : List (Value × Value × Value)} {k : Nat} (h : LS d l g w wr v r acc T k) (hh : r.head? = some 41) : listP (nodeP d) (l.length + 1) l.tail = some (acc, r.tail) := by
  obtain ⟨k', rfl⟩ : ∃ k', k = k' + 1 := ⟨k - 1, by have := h.fuel; omega⟩
  rw [h.plain, listP, if_pos hh]
  simp
theorem LS.none {d : Nat} {l : List UInt8} {g : Nat} {w wr : World} {v : Value} {r : List UInt8} {acc : List Nd} {T : List (Value × Value × Value)} {k : Nat} (h : LS d l g w wr v r acc T k) (hh : ¬ r.head? = some 41) (hn : nodeP d r = none) : listP (nodeP d) (l.length + 1) l.tail = Option.none := by
  obtain ⟨k', rfl⟩ : ∃ k', k = k' + 1 := ⟨k - 1, by have := h.fuel; omega⟩
  rw [h.plain, listP, if_neg hh, hn]
theorem LS.next {d : Nat} {l : List UInt8} {g : Nat} {w wr : World} {v : Value} {r : List UInt8} {acc : List Nd} {T : List (Value × Value × Value)} {k : Nat} (h : LS d l g w wr v r acc T k) (hh : ¬ r.head? = some 41) {n : Nd} {r' : List UInt8} (hn : nodeP d r = some (n, r')) :
    listP (nodeP d) (l.length + 1) l.tail = (match listP (nodeP d) (k - 1) r' with | Option.none => Option.none | some (ns, r'') => some ((acc ++ [n]) ++ ns, r'')) := by
  obtain ⟨k', rfl⟩ : ∃ k', k = k' + 1 := ⟨k - 1, by have := h.fuel; omega⟩
  rw [h.plain, listP, if_neg hh, hn, Nat.add_sub_cancel]
  simp only []
  cases listP (nodeP d) k' r' with
  | none => rfl
  | some q => simp
theorem LS.step {d : Nat} {l : List UInt8} {g : Nat} {w wr w1 w2 w3 : World} {v v' : Value} {r : List UInt8} {acc : List Nd} {T : List (Value × Value × Value)} {k : Nat} (h : LS d l g w wr v r acc T k) (hg : g < w.heap.size) (hh : ¬ r.head? = some 41) {n : Nd} {r' : List UInt8} (hn : nodeP d r = some (n, r'))
    (B1 : But g wr w1) (B2 : But g w1 w2) (R2 : IHolds w2 g 50 [S r']) {a b c : Value} (hN : NAt w2 (fun k => w1.heap.size ≤ k) n a b c)
    (o3 : w3.ownsRow (w.heap.size + 1) 24 3 v' (T.length + 1) (flat T ++ [a, b, c])) (g3 : (w2.alloc (.cells #[a, b, c] 24)).grownBy w3 v.ownBlock) (p3 : v'.ownBlock = v.ownBlock ∨ v'.ownBlock = some (w2.alloc (.cells #[a, b, c] 24)).heap.size) :
    LS d l g w w3 v' r' (acc ++ [n]) (T ++ [(a, b, c)]) (k - 1) := by
  have hlen := nodeP_len d r n r' hn
  have hf := h.fuel
  have hl := h.len
  have B12 := B1.trans B2
  have hsz := h.but.size
  have hsr := h.res.lt
  have hob := h.own.lt
  have e2 : (w2.alloc (.cells #[a, b, c] 24)).heap.size = w2.heap.size + 1 := by simp
  have kp : ∀ k, k < w2.heap.size → v.ownBlock ≠ some k → w3.heap[k]? = w2.heap[k]? := fun k hk hv => (g3.block k (by omega) (fun e => hv e.symm)).trans (Lib.alloc_old w2 _ k hk)
  have gne : v.ownBlock ≠ some g := fun e => by have := (hob g e).1; omega
  have rne : v.ownBlock ≠ some w.heap.size := fun e => by have := (hob _ e).1; omega
  have s2 := B2.size
  have s1 := B1.size
  have s3 := g3.size
  have R2l := R2.lt
  refine ⟨by omega, by simp; omega, ?_, ?_, ?_, ?_, ?_, h.next hh hn⟩
  · unfold IHolds
    rw [kp g R2l gne]
    exact R2
  · refine ⟨g3.os.trans (B12.os.trans h.but.os), g3.tape.trans (B12.tape.trans h.but.tape), g3.output.trans (B12.output.trans h.but.output), by omega, fun k hk hkg => ?_⟩
    rw [kp k (by omega) (fun e => by have := (hob k e).1; omega), B12.block k (by omega) hkg, h.but.block k hk hkg]
  · rw [flat_snoc, List.length_append]
    exact o3
  · refine LAt.snoc ?_ ?_
    · refine (h.at_.keep (w' := w3) (G := fun k => w.heap.size + 1 ≤ k ∧ v'.ownBlock ≠ some k) (by omega) ?_ ?_)
      · rintro k ⟨h1, h2⟩ h3
        refine ⟨h1, ?_⟩
        rcases p3 with e | e
        · rw [e]; exact h2
        · rw [e, e2]; simp; omega
      · rintro k ⟨h1, h2⟩ h3
        rw [kp k (by omega) h2, B12.block k h3 (by omega)]
    · refine hN.keep (by omega) ?_ ?_
      · intro k h1 h3
        refine ⟨by omega, ?_⟩
        rcases p3 with e | e
        · rw [e]; exact fun e => by have := (hob k e).2; omega
        · rw [e, e2]; simp; omega
      · intro k h1 h3
        exact kp k h3 (fun e => by have := (hob k e).2; omega)
  · unfold IHolds
    rw [kp _ (by omega) rne, B12.block _ hsr (by omega)]
    exact h.res
set_option maxHeartbeats 2000000 in
theorem rnode_list (d : Nat) (hd : d + 1 ≤ 12) (ih : NodeC d) (l : List UInt8) (g : Nat) (w : World) (hl : l.length ≤ 1048576) (hr : IHolds w g 50 [S l]) (hh : l.head? = some 40) :
    Calls Tryd.prog 35 #[.pointer (some ⟨g, 0, none⟩), .int .i64 (12 - ((d + 1 : Nat) : Int))] w fun e w' => But g w w' ∧ (match (match listP (nodeP d) (l.length + 1) l.tail with
      | none => none
      | some (ns, r) => some (Nd.list ns, r)) with
    | none => e = thrF
    | some (n, r) => IHolds w' g 50 [S r] ∧ ∃ a b c, e = .returned (.agg #[a, b, c]) ∧ NAt w' (fun k => w.heap.size ≤ k) n a b c) := by
  obtain ⟨i0, hi0, hz0, hz1, hz2⟩ := info_parts' info24
  have hq : (l.head? == some 40) = true := by simpa using hh
  have ha : aft l 40 = l.tail := by simp [aft, hh]
  have R0 : Hid (IHolds (w.alloc zN) g 50 [S l]) := hr.alloc _
  have B0 : Hid (But g w (w.alloc zN)) := But.of_below ((Below.refl _ w).alloc (Nat.le_refl _) _)
  have N0 : Hid (IHolds (w.alloc zN) w.heap.size 24 [.bool false, .string ⟨#[]⟩, .slice none 0 0]) := heap_alloc_new w _
  have hS : (w.alloc zN).heap.size = w.heap.size + 1 := by simp
  have lt := hr.lt
  clear hr
  have hc := comes_any l 40 g _ R0.out
  rw [hq, ha] at hc
  have IH := fun (r : List UInt8) (w1 : World) (hrl : r.length ≤ 1048576) h => ih r g w1 hrl h
  obtain ⟨ar, har⟩ : ∃ ar : Int, ar = 12 - ((d + 1 : Nat) : Int) := ⟨_, rfl⟩
  have ar1 : 12 - (d : Int) = ar + 1 := by omega
  have ar2 : (ar == 12) = false := by simp; omega
  have ar3 : 0 ≤ ar := by omega
  have ar4 : ar ≤ 11 := by omega
  rw [← har]
  simp only [ar1] at IH
  clear har ar1 ih hh
  generalize hP : listP (nodeP d) (l.length + 1) l.tail = PP at *
  go_enter Tryd.func35, Tryd.ntmps35
  go_wp2_with (go_at_call 40; refine hc.mono ?_; rintro e w1 ⟨rfl, hR1, hB1⟩; have L1 : Hid (LS d l g w w1 (.slice none 0 0) l.tail [] [] (l.length + 1)) := (⟨by simp; omega, by simp, hR1, B0.out.trans hB1, World.ownsRow_nil _ _ _ _, LAt.nil _ _, (by unfold IHolds; rw [hB1.block w.heap.size (by omega) (by omega)]; exact N0.out), by rw [hP]; cases PP <;> simp⟩); clear hR1 hB1)
  go_loopg [5] l.tail.length (fun gk v5 wr => ∃ v r acc T k, v = v5 ∧ gk = r.length ∧ LS d l g w wr v r acc T k)
  case atStart => exact ⟨_, l.tail, [], [], l.length + 1, rfl, rfl, L1.out⟩
  case round =>
    obtain ⟨v, r, acc, T, k, hv5, hgk, hls⟩ := hrel
    subst hv5
    have LL : Hid (LS d l g w wr v r acc T k) := hls
    have hT := hls.at_.len
    have hlen := hls.len
    obtain ⟨va, vm, vc, hv⟩ := owned_slice hls.own
    subst hv
    clear hls L1
    have hcr := comes_any r 41 g wr LL.out.rd
    by_cases hh : r.head? = some 41
    · have hq2 : (r.head? == some 41) = true := by simpa using hh
      have ha2 : aft r 41 = r.tail := by simp [aft, hh]
      rw [hq2, ha2] at hcr
      have hPP := LL.out.close hh
      rw [hP] at hPP
      subst hPP
      clear hq2 ha2 hh hc hq ha hP IH
      go_wp2_with (first | (go_at_call 40; refine hcr.mono ?_; rintro e w2 ⟨rfl, hR2, hB2⟩; have R2 : Hid (IHolds w2 g 50 [S r.tail]) := hR2; have B2 : Hid (But g wr w2) := hB2; have M2 : Hid (IHolds w2 w.heap.size 24 [.bool false, .string ⟨#[]⟩, .slice none 0 0]) := (by show IHolds _ _ _ _; unfold IHolds; rw [hB2.block w.heap.size LL.out.res.lt (by omega)]; exact LL.out.res); have c0 : w2.cell? ⟨w.heap.size, 0, none⟩ = some (.bool false) := M2.out.cell 0 (by simp); have c1 : w2.cell? ⟨w.heap.size, 1, none⟩ = some (.string ⟨#[]⟩) := M2.out.cell 1 (by simp); have c2 : w2.cell? ⟨w.heap.size, 2, none⟩ = some (.slice none 0 0) := M2.out.cell 2 (by simp); have f0 : w2.frozen? ⟨w.heap.size, 0, none⟩ = false := M2.out.frozen 0; have f1 : w2.frozen? ⟨w.heap.size, 1, none⟩ = false := M2.out.frozen 1; have f2 : w2.frozen? ⟨w.heap.size, 2, none⟩ = false := M2.out.frozen 2; clear hR2 hB2))
      have P3 := put3 M2.out (.bool false) (.string ⟨#[]⟩) (.slice va vm vc)
      have Q3 := put3_but w2 w.heap.size (.bool false) (.string ⟨#[]⟩) (.slice va vm vc)
      have K1 : NAt wr (fun k => w.heap.size + 1 ≤ k) (.list acc) (.bool false) (S []) (.slice va vm vc) := NAt.of_row LL.out.own (LL.out.at_.keep (Nat.le_refl _) (fun k h _ => h.1) (fun k _ _ => rfl)) (fun k h => (LL.out.own.lt k h).1)
      have hs2 := B2.out.size
      have K2 := K1.keep (w' := ((w2.setCell ⟨w.heap.size, 0, none⟩ (.bool false)).setCell ⟨w.heap.size, 1, none⟩ (.string ⟨#[]⟩)).setCell ⟨w.heap.size, 2, none⟩ (.slice va vm vc)) (G := fun k => w.heap.size ≤ k) (by have := Q3.size; omega) (fun k h _ => by omega) (fun k h1 h2 => by rw [Q3.block k (by omega) (by omega), B2.out.block k h2 (by omega)])
      refine bodyPost_ret (v := .agg #[.bool false, .string ⟨#[]⟩, .slice va vm vc]) (results_cell_row Tryd.results35 _ _ w.heap.size 24 #[.bool false, .string ⟨#[]⟩, .slice va vm vc] (0, 0) _ rfl P3 Tryd.underlying24 rfl size24) rfl ⟨LL.out.but.join B2.out Q3 (Nat.le_refl _), ?_, _, _, _, rfl, K2⟩
      unfold IHolds
      rw [Q3.block g R2.out.lt (by omega)]
      exact R2.out
    · have hq2 : (r.head? == some 41) = false := by simpa using hh
      have ha2 : aft r 41 = r := by simp [aft, hh]
      rw [hq2, ha2] at hcr
      cases hnp : nodeP d r with
      | none =>
        have hPP := LL.out.none hh hnp
        rw [hP] at hPP
        subst hPP
        have IHr := fun w1 h => IH r w1 (by omega) h
        simp only [hnp] at IHr
        clear hq2 ha2 hh hc hq ha hP IH hnp
        go_wp2_with (first | (go_at_call 40; refine hcr.mono ?_; rintro e w2 ⟨rfl, hR2, hB2⟩; have R2 : Hid (IHolds w2 g 50 [S r]) := hR2; have B2 : Hid (But g wr w2) := hB2; clear hR2 hB2) | (go_at_call 35; refine (IHr _ R2.out).mono ?_; rintro e w3 ⟨hB3, rfl⟩))
        exact ⟨rfl, (LL.out.but.trans B2.out).trans hB3, rfl⟩
      | some p =>
        obtain ⟨n, r'⟩ := p
        have hlt := nodeP_len d r n r' hnp
        have ST := fun w1 w2 w3 v' a b c B1 B2 R2 hN o3 g3 p3 => LL.out.step (w1 := w1) (w2 := w2) (w3 := w3) (v' := v') (a := a) (b := b) (c := c) lt hh hnp B1 B2 R2 hN o3 g3 p3
        have IHr := fun w1 h => IH r w1 (by omega) h
        simp only [hnp] at IHr
        clear hq2 ha2 hh hc hq ha hP IH hnp
        go_wp2_with (first | (go_at_call 40; refine hcr.mono ?_; rintro e w2 ⟨rfl, hR2, hB2⟩; have R2 : Hid (IHolds w2 g 50 [S r]) := hR2; have B2 : Hid (But g wr w2) := hB2; clear hR2 hB2) | (go_at_call 35; refine (IHr _ R2.out).mono ?_; rintro e w3 ⟨hB3, hR3, a, b, c, rfl, hN3⟩; have R3 : Hid (IHolds w3 g 50 [S r']) := hR3; have B3 : Hid (But g w2 w3) := hB3; have N3 : Hid (NAt w3 (fun k => w2.heap.size ≤ k) n a b c) := hN3; have O3 : Hid ((w3.alloc (.cells #[a, b, c] 24)).ownsRow (w.heap.size + 1) 24 3 (.slice va vm vc) T.length (flat T)) := (own_but (own_but LL.out.own B2.out (by omega)) hB3 (by omega)).alloc _; have Z3 : Hid (w.heap.size + 1 ≤ (w3.alloc (.cells #[a, b, c] 24)).heap.size) := (by show _ ≤ _; have := LL.out.res.lt; have := B2.out.size; have := hB3.size; simp; omega); clear hR3 hB3 hN3) | (at_builtin; refine wpList_append_own_at _ rfl (.tmp 18) (.tmp 23) 22 rfl (w.heap.size + 1) 24 i0 (.agg #[.bool false, .string ⟨#[]⟩, .slice none 0 0]) 3 48 Tryd.underlying22 hi0 hz0 hz1 hz2 rfl (by decide) (.slice va vm vc) T.length (flat T) rfl O3.out ⟨w3.heap.size, 0, none⟩ 1 1 [a, b, c] rfl rfl (new3 w3 a b c) N3.out.one (by unfold maxLen; omega) (by omega) Z3.out ?_; intro v1 w4 hown1 hgrow1 hn1 hat1; have L4 : Hid (LS d l g w w4 v1 r' (acc ++ [n]) (T ++ [(a, b, c)]) (k - 1)) := ST w2 w3 w4 v1 a b c B2.out B3.out R3.out N3.out hown1 hgrow1 hat1; clear hown1 hgrow1 hn1 hat1))
        go_roundg r'.length
        case measure => omega
        case rel => exact ⟨v1, r', acc ++ [n], T ++ [(a, b, c)], k - 1, rfl, rfl, L4.out⟩
theorem rnode_any : ∀ d, d ≤ 12 → NodeC d
  | 0, _ => by
    intro l g w hl hr
    rw [nodeP]
    by_cases hh : l.head? = some 40
    · rw [if_pos hh]
      exact (rnode_zero l g w hr hh)
    · rw [if_neg hh]
      exact rnode_leaf _ l g w hl hr hh
  | d + 1, hd => by
    intro l g w hl hr
    rw [nodeP]
    by_cases hh : l.head? = some 40
    · rw [if_pos hh]
      exact rnode_list d hd (rnode_any d (by omega)) l g w hl hr hh
    · rw [if_neg hh]
      exact rnode_leaf _ l g w hl hr hh
end Go.Proofs.YtlogilmeefcipaaDoor
