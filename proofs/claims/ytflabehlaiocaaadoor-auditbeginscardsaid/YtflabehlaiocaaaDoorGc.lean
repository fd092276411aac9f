/- losers; Small, whole. -/
import Derived.Test.YtflabehlaiocaaaDoorGb
import Derived.Laws.OwnMore
set_option linter.unusedSimpArgs false
set_option linter.unusedVariables false
set_option maxRecDepth 100000
namespace Go.Proofs.YtflabehlaiocaaaDoor
open Go.RowKit Go.Deep Go.PlainAid

theorem info3 : ∃ i, Tryd.prog.info? 3 = some i ∧ i.zero = some (.int .i64 0) ∧ i.size = 1 ∧ i.bytes = 8 := by
  have h1 : (Tryd.prog.info? 3).map (fun i => (i.size, i.bytes)) = some (1, 8) := by kernel_rfl
  have h2 : (Tryd.prog.info? 3).bind (fun i => i.zero) = some (.int .i64 0) := by kernel_rfl
  cases hq : Tryd.prog.info? 3 with
  | none => rw [hq] at h1; cases h1
  | some i =>
    rw [hq] at h1 h2
    simp only [Option.map_some, Option.some.injEq, Prod.mk.injEq] at h1
    exact ⟨i, rfl, h2, h1.1, h1.2⟩
/-- Numbers as values. -/
def iv (l : List Int) : List Value := l.map fun x => .int .i64 x
theorem iv_len (l : List Int) : (iv l).length = l.length := by simp [iv]
theorem il_of_own {W : World} {base : Nat} {v : Value} {l : List Int} (h : W.ownsRow base 3 1 v l.length (iv l)) : ∃ a c, v = .slice a l.length c ∧ IL W a l ∧ l.length ≤ c ∧ c ≤ 9223372036854775807 := by
  obtain ⟨hl, ⟨rfl, h0⟩ | ⟨g, cap, cur, rfl, hbg, hg, hc, hm, hs, ht⟩⟩ := id h
  · exact ⟨none, 0, by rw [h0], fun i hi => by omega, by omega, by omega⟩
  · refine ⟨some ⟨g, 0, none⟩, cap, rfl, fun i hi => ⟨g, 0, rfl, ?_⟩, hc, by unfold maxLen at hm; omega⟩
    rw [Nat.zero_add, h.cellAt i (by omega)]
    simp [iv, hi]
theorem own_keep {W W' : World} {base size n : Nat} {e : TypeId} {v : Value} {xs : List Value} (h : W.ownsRow base e size v n xs) (hb : Below W.heap.size W W') : W'.ownsRow base e size v n xs := by
  obtain ⟨h1, h2 | ⟨g, cap, cur, q1, q2, q3, q4⟩⟩ := h
  · exact ⟨h1, Or.inl h2⟩
  · exact ⟨h1, Or.inr ⟨g, cap, cur, q1, q2, (hb.block g (Array.getElem?_eq_some_iff.1 q3).1).trans q3, q4⟩⟩
def loL (l : List Int) (k : Nat) : List Int := ((List.range k).filter fun (p : Nat) => !(l.any fun y => (p : Int) == y)).map fun (p : Nat) => (p : Int)
theorem loL_succ (l : List Int) (k : Nat) : loL l (k + 1) = if (l.any fun y => (k : Int) == y) = true then loL l k else loL l k ++ [(k : Int)] := by
  unfold loL
  rw [List.range_succ, List.filter_append, List.map_append]
  cases h : l.any fun y => (k : Int) == y <;> simp [h]
theorem loL_le (l : List Int) (k : Nat) : (loL l k).length ≤ k := by
  unfold loL
  rw [List.length_map]
  exact Nat.le_trans (List.length_filter_le _ _) (by simp)
set_option maxHeartbeats 4000000 in
theorem losers27 {l : List Int} {a : Option Addr} {c N : Nat} {w : World} (hl : IL w a l) (hln : l.length < 9223372036854775808) (hN : N ≤ 4000) :
    Calls Tryd.prog 27 #[.int .i64 (N : Int), .slice a l.length c] w fun e w' => (∃ a' c', e = .returned (.slice a' (loL l N).length c') ∧ IL w' a' (loL l N) ∧ (loL l N).length ≤ c' ∧ c' ≤ 9223372036854775807) ∧ Below w.heap.size w w' := by
  obtain ⟨i0, hi0, hz0, hz1, hz2⟩ := info3
  have H21 : Hid (∀ V x, Below w.heap.size w V → Calls Tryd.prog 21 #[.slice a l.length c, .int .i64 x] V fun e w' => e = .returned (.bool (l.any fun y => x == y)) ∧ w' = V) := fun V x hV => contains21 (hl.of_below hV) hln
  clear hl
  go_enter Tryd.func27, Tryd.ntmps27
  go_wp2_with fail
  go_loopg [5, 6, 8] N (fun gk v5 v6 v8 wr => ∃ k : Nat, k + gk = N ∧ v8 = .int .i64 (k : Int) ∧ wr.ownsRow w.heap.size 3 1 v5 (loL l k).length (iv (loL l k)) ∧ Below w.heap.size w wr)
  case atStart => exact ⟨0, by omega, rfl, World.ownsRow_nil _ _ _ _, Below.refl _ _⟩
  case round =>
    obtain ⟨k, hk, rfl, hO, hB⟩ := hrel
    have O : Hid (wr.ownsRow w.heap.size 3 1 u5 (loL l k).length (iv (loL l k))) := hO
    have B : Hid (Below w.heap.size w wr) := hB
    clear hO hB
    by_cases hlt : k < N
    · have il : (k : Int) < (N : Int) := by omega
      have LE : Hid ((loL l k).length ≤ 4000) := by show _ ≤ _; have := loL_le l k; omega
      have HC : Hid (Calls Tryd.prog 21 #[.slice a l.length c, .int .i64 (k : Int)] wr fun e w' => e = .returned (.bool (l.any fun y => (k : Int) == y)) ∧ w' = wr) := H21.out wr k B.out
      have LS : Hid (_ = _) := loL_succ l k
      cases ht : l.any fun y => (k : Int) == y with
      | true =>
        rw [ht] at HC LS
        have LX : Hid (loL l (k + 1) = loL l k) := by have q := LS.out; rw [if_pos rfl] at q; exact q
        clear LS ht H21
        go_wp2_with (go_at_call 21; refine (Calls.mono HC.out) ?_)
        rintro e V ⟨rfl, hV⟩
        subst hV
        go_wp2_with fail
        go_roundg (gk - 1)
        case measure => omega
        case rel => exact ⟨k + 1, by omega, by go_num, by rw [LX.out]; exact O.out, B.out⟩
      | false =>
        rw [ht] at HC LS
        have LX : Hid (loL l (k + 1) = loL l k ++ [(k : Int)]) := by have q := LS.out; rw [if_neg (by decide)] at q; exact q
        clear LS ht H21
        have B2 : Hid (Below w.heap.size w (wr.alloc (.cells #[.int .i64 (k : Int)] 3))) := B.out.alloc B.out.size _
        have O2 : Hid ((wr.alloc (.cells #[.int .i64 (k : Int)] 3)).ownsRow w.heap.size 3 1 u5 (loL l k).length (iv (loL l k))) := O.out.alloc _
        have HC2 : Hid (∀ jj u, [Value.int .i64 (k : Int)][jj]? = some u → (wr.alloc (.cells #[.int .i64 (k : Int)] 3)).cell? ((⟨wr.heap.size, 0, none⟩ : Addr).add jj) = some u) := (fun jj u hu => by (match jj, hu with | 0, hu => (simp at hu; subst hu; simp [Addr.add])))
        go_wp2_with (go_at_call 21; refine (Calls.mono HC.out) ?_)
        rintro e V ⟨rfl, hV⟩
        subst hV
        go_wp2_with (at_builtin; refine wpList_append_own _ rfl (.tmp 15) (.tmp 17) 22 rfl w.heap.size 3 i0 (.int .i64 0) 1 8 Tryd.underlying22 hi0 hz0 hz1 hz2 rfl (by decide) u5 (loL l k).length (iv (loL l k)) rfl O2.out ⟨V.heap.size, 0, none⟩ 1 1 [.int .i64 (k : Int)] rfl rfl HC2.out (fun u hu => by simp at hu; subst hu; rfl) (by have := LE.out; unfold maxLen; omega) (by have := LE.out; omega) B2.out.size ?_; intro v9 w9 hown hgrow hn; have O9 : Hid (w9.ownsRow w.heap.size 3 1 v9 ((loL l k).length + 1) (iv (loL l k) ++ [.int .i64 (k : Int)])) := hown; have B9 : Hid (Below w.heap.size w w9) := B2.out.grown hgrow B2.out.size (fun g hg => (O2.out.lt g hg).1); clear hown hgrow hn)
        go_roundg (gk - 1)
        case measure => omega
        case rel => exact ⟨k + 1, by omega, by go_num, by rw [LX.out]; have q := O9.out; simpa [iv] using q, B9.out⟩
    · obtain rfl : k = N := by omega
      obtain ⟨a5, c5, e5, s5, q5, z5⟩ := il_of_own O.out
      subst e5
      have S5 : Hid (IL wr a5 (loL l k) ∧ (loL l k).length ≤ c5 ∧ c5 ≤ 9223372036854775807) := ⟨s5, q5, z5⟩
      clear hlt s5 q5 z5
      go_wp2_with fail
      go_ret
      exact ⟨⟨_, _, rfl, S5.out.1, S5.out.2.1, S5.out.2.2⟩, B.out⟩
end Go.Proofs.YtflabehlaiocaaaDoor
