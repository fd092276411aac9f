/- The reference's Parts and Cover. -/
import Derived.Test.YteomefhjglnghaaDoorGr
import Derived.Laws.AppendOwn
import Derived.WalkKit
import Derived.WalkSpells
import Derived.WalkLawsBesides
import Derived.Handy
import Derived.Deep.Draws
import Derived.Deep.QuietTactic
import Derived.BigQuiet
import Derived.Deep.LoopGhost
import Derived.Deep.OwnRows
set_option linter.unusedSimpArgs false
set_option linter.unusedVariables false
set_option maxRecDepth 100000
namespace Go.Proofs.YteomefhjglnghaaDoor
open Go.RowKit Go.Deep Go.PlainAid

/-- Block b holds these cells. -/
def IHolds (w : World) (b : Nat) (t : TypeId) (l : List Value) : Prop := w.heap[b]? = some (.cells l.toArray t)
theorem IHolds.lt {w : World} {b : Nat} {t : TypeId} {l : List Value} (h : IHolds w b t l) : b < w.heap.size := (Array.getElem?_eq_some_iff.1 h).1
theorem IHolds.cell {w : World} {b : Nat} {t : TypeId} {l : List Value} (h : IHolds w b t l) (i : Nat) (hi : i < l.length) : w.cell? ⟨b, i, none⟩ = some l[i] := by
  unfold IHolds at h
  simp [World.cell?, h, hi]
theorem IHolds.frozen {w : World} {b : Nat} {t : TypeId} {l : List Value} (h : IHolds w b t l) (i : Nat) : w.frozen? ⟨b, i, none⟩ = false := by
  unfold IHolds at h
  simp [World.frozen?, h]
theorem IHolds.alloc {w : World} {b : Nat} {t : TypeId} {l : List Value} (h : IHolds w b t l) (o : Obj) : IHolds (w.alloc o) b t l := by
  unfold IHolds; rw [Below.heap_alloc _ _ _ h.lt]; exact h
theorem IHolds.new (w : World) (t : TypeId) (l : List Value) : IHolds (w.alloc (.cells l.toArray t)) w.heap.size t l := by
  show (w.heap.push _)[w.heap.size]? = _
  simp
theorem IHolds.of_below {w w' : World} {b : Nat} {t : TypeId} {l : List Value} (h : IHolds w b t l) (hb : Below w.heap.size w w') : IHolds w' b t l := by
  unfold IHolds; rw [hb.block _ h.lt]; exact h
theorem nB (w : World) (o : Obj) : Below w.heap.size w (w.alloc o) := (Below.refl _ _).alloc (Nat.le_refl _) _
theorem cell_lt {w : World} {b o : Nat} {v : Value} (h : w.cell? ⟨b, o, none⟩ = some v) : b < w.heap.size := World.block_lt_of_cell? _ _ h
theorem cell_keep {w w' : World} {b o : Nat} {v : Value} (h : w.cell? ⟨b, o, none⟩ = some v) (hb : Below w.heap.size w w') : w'.cell? ⟨b, o, none⟩ = some v := (World.cell?_of_block (a := ⟨b, o, none⟩) (hb.block b (cell_lt h))).trans h
/-- Spans as the cells hold them. -/
def flat : List (Nat × Nat) → List Value
  | [] => []
  | p :: l => .int .i64 (p.1 : Int) :: .int .i64 (p.2 : Int) :: flat l
theorem flat_len : ∀ l, (flat l).length = l.length * 2
  | [] => rfl
  | p :: l => by simp [flat, flat_len l]; omega
theorem flat_append : ∀ l r, flat (l ++ r) = flat l ++ flat r
  | [], r => rfl
  | p :: l, r => by simp [flat, flat_append l r]
theorem flat_one : ∀ l, ∀ u ∈ flat l, u.oneCell' = true
  | [], u, h => by simp [flat] at h
  | p :: l, u, h => by
    simp only [flat, List.mem_cons] at h
    rcases h with rfl | rfl | h
    · rfl
    · rfl
    · exact flat_one l u h
theorem flat_at : ∀ (l : List (Nat × Nat)) (i : Nat) (h : i < l.length), (flat l)[2 * i]? = some (.int .i64 (l[i].1 : Int)) ∧ (flat l)[2 * i + 1]? = some (.int .i64 (l[i].2 : Int))
  | [], i, h => by simp at h
  | p :: l, 0, h => by simp [flat]
  | p :: l, i + 1, h => by
    have := flat_at l i (by simpa using h)
    rw [show 2 * (i + 1) = 2 * i + 1 + 1 by omega, flat]
    simpa using this
/-- A list of spans, to be read. -/
def SPL (w : World) (a : Option Addr) (l : List (Nat × Nat)) : Prop := ∀ j u, (flat l)[j]? = some u → ∃ b o, a = some ⟨b, o, none⟩ ∧ w.cell? ⟨b, o + j, none⟩ = some u
theorem SPL.of_below {w w' : World} {a : Option Addr} {l : List (Nat × Nat)} (h : SPL w a l) (hb : Below w.heap.size w w') : SPL w' a l := fun j u hj => by
  obtain ⟨b, o, rfl, hc⟩ := h j u hj
  exact ⟨b, o, rfl, cell_keep hc hb⟩
theorem own_spl {w : World} {base : Nat} {v : Value} {l : List (Nat × Nat)} (h : w.ownsRow base 37 2 v l.length (flat l)) : ∃ a c, v = .slice a l.length c ∧ SPL w a l := by
  obtain ⟨hl, ⟨rfl, h0⟩ | ⟨g, cap, cur, rfl, h1, hg, h2, h3, h4, h5⟩⟩ := h
  · refine ⟨none, 0, by rw [h0], fun j u hj => ?_⟩
    have e : l = [] := List.length_eq_zero_iff.1 h0
    subst e
    simp [flat] at hj
  · refine ⟨_, _, rfl, fun j u hj => ⟨g, 0, rfl, ?_⟩⟩
    have hlt : j < l.length * 2 := by
      have := (List.getElem?_eq_some_iff.1 hj).1
      rw [flat_len] at this
      exact this
    rw [← h5, List.getElem?_take_of_lt hlt, Array.getElem?_toList] at hj
    rw [Nat.zero_add]
    unfold World.cell?
    simp [hg, hj]
theorem SPL.two {w : World} {a : Option Addr} {l : List (Nat × Nat)} (h : SPL w a l) (i : Nat) (hi : i < l.length) : ∃ b o, a = some ⟨b, o, none⟩ ∧ w.cell? ⟨b, o + 2 * i, none⟩ = some (.int .i64 (l[i].1 : Int)) ∧ w.cell? ⟨b, o + 2 * i + 1, none⟩ = some (.int .i64 (l[i].2 : Int)) := by
  obtain ⟨b, o, rfl, h1⟩ := h _ _ (flat_at l i hi).1
  obtain ⟨b', o', e, h2⟩ := h _ _ (flat_at l i hi).2
  obtain ⟨rfl, rfl⟩ : b' = b ∧ o' = o := by simpa [eq_comm] using e
  exact ⟨_, _, rfl, h1, by rw [Nat.add_assoc]; exact h2⟩
theorem SPL.cells {w : World} {b o : Nat} {l : List (Nat × Nat)} (h : SPL w (some ⟨b, o, none⟩) l) : ∀ j u, (flat l)[j]? = some u → w.cell? ((⟨b, o, none⟩ : Addr).add j) = some u := fun j u hj => by
  obtain ⟨b', o', e, hc⟩ := h j u hj
  obtain ⟨rfl, rfl⟩ : b' = b ∧ o' = o := by simpa [eq_comm] using e
  unfold Addr.add
  by_cases h0 : j = 0
  · subst h0; simpa using hc
  · simpa [h0] using hc
theorem one_own {w : World} {b base lo M : Nat} (h : IHolds w b 37 [.int .i64 (lo : Int), .int .i64 (M : Int)]) (hb : base ≤ b) : w.ownsRow base 37 2 (.slice (some ⟨b, 0, none⟩) 1 1) 1 (flat [(lo, M)]) :=
  ⟨rfl, Or.inr ⟨b, 1, #[.int .i64 (lo : Int), .int .i64 (M : Int)], rfl, hb, h, Nat.le_refl _, by unfold maxLen; omega, rfl, rfl⟩⟩
theorem info36 : (Tryd.prog.info? 37).map (fun i => (i.zero, i.size, i.bytes)) = some (some (.agg #[.int .i64 0, .int .i64 0]), 2, 16) := by kernel_rfl
theorem down_none {k d lo : Nat} (h : ¬ (2 ^ (k + 1) ≤ d ∧ lo % 2 ^ (k + 1) = 0)) : down (k + 1) d lo = down k d lo := by rw [down, if_neg h]
theorem down_here {k d lo : Nat} (h : 2 ^ k ≤ d ∧ lo % 2 ^ k = 0) : down k d lo = 2 ^ k := by
  cases k with
  | zero => rfl
  | succ k => rw [down, if_pos h]
theorem step_down {gk N H d lo : Nat} (hN : N = 2 ^ gk) (hH : H = N / 2) (h : ¬ (N ≤ d ∧ lo % N = 0)) (hd : 1 ≤ d) : gk ≠ 0 ∧ H = 2 ^ (gk - 1) ∧ down gk d lo = down (gk - 1) d lo := by
  cases gk with
  | zero => exfalso; apply h; rw [hN]; exact ⟨by simpa using hd, by simp [Nat.mod_one]⟩
  | succ k =>
    refine ⟨by omega, by rw [hH, hN, Nat.pow_succ]; simp, ?_⟩
    rw [hN] at h
    exact down_none h
theorem cov_cons {s lo hi N : Nat} (h : lo < hi) (e : down 20 (hi - lo) lo = N) : cov (s + 1) lo hi = (lo, lo + N) :: cov s (lo + N) hi := by rw [cov, if_pos h, e]
theorem cov_nil {s lo hi : Nat} (h : ¬ lo < hi) : cov s lo hi = [] := by
  cases s with
  | zero => rfl
  | succ s => rw [cov, if_neg h]
theorem spl_of_own {f : Nat} {args : Array Value} {w : World} {l : List (Nat × Nat)} (h : Calls Tryd.prog f args w fun e w' => (∃ v, e = .returned v ∧ w'.ownsRow w.heap.size 37 2 v l.length (flat l) ∧ (l = [] → v = .slice none 0 0)) ∧ Below w.heap.size w w') :
    Calls Tryd.prog f args w fun e w' => (∃ a c, e = .returned (.slice a l.length c) ∧ SPL w' a l ∧ (l = [] → a = none ∧ c = 0)) ∧ Below w.heap.size w w' :=
  h.mono fun e w' ⟨⟨v, he, ho, hn⟩, hb⟩ => ⟨by
    obtain ⟨a, c, rfl, hs⟩ := own_spl ho
    refine ⟨a, c, he, hs, fun q => ?_⟩
    have := hn q
    subst q
    simpa using this, hb⟩
set_option maxHeartbeats 2000000 in
theorem parts16o : ∀ (s lo hi : Nat), hi - lo ≤ s → lo ≤ hi → hi ≤ 1048576 → ∀ w : World, Calls Tryd.prog 21 #[.int .i64 (lo : Int), .int .i64 (hi : Int)] w fun e w' => (∃ v, e = .returned v ∧ w'.ownsRow w.heap.size 37 2 v (cov s lo hi).length (flat (cov s lo hi)) ∧ (cov s lo hi = [] → v = .slice none 0 0)) ∧ Below w.heap.size w w' := by
  intro s
  induction s with
  | zero =>
    intro lo hi h1 h2 h3 w
    obtain rfl : lo = hi := by omega
    have hb : ((lo : Int) == (lo : Int)) = true := beq_self_eq_true _
    go_enter Tryd.func21, Tryd.ntmps21
    go_wp2_with fail
    go_ret
    exact ⟨⟨_, rfl, World.ownsRow_nil _ _ _ _, fun _ => rfl⟩, Below.refl _ _⟩
  | succ s ih =>
    intro lo hi h1 h2 h3 w
    by_cases h4 : lo < hi
    · have hb : ((lo : Int) == (hi : Int)) = false := by simp; omega
      obtain ⟨d, hd⟩ : ∃ d, d = hi - lo := ⟨_, rfl⟩
      have kd : (hi : Int) - (lo : Int) = (d : Int) := by omega
      have HIH : Hid _ := ih
      have HD : Hid (d = hi - lo) := hd
      clear ih hd
      go_enter Tryd.func21, Tryd.ntmps21
      go_wp2_with fail
      go_loopg [5] 20 (fun gk v5 wr => ∃ N : Nat, N = 2 ^ gk ∧ gk ≤ 20 ∧ v5 = .int .i64 (N : Int) ∧ wr = w ∧ down 20 d lo = down gk d lo)
      case atStart => exact ⟨1048576, by decide, by omega, rfl, rfl, rfl⟩
      case round =>
        obtain ⟨N, hN, hk, rfl, rfl, hdn⟩ := hrel
        have HN : Hid (N = 2 ^ gk) := hN
        have HDN : Hid (down 20 d lo = down gk d lo) := hdn
        have hN1 : 1 ≤ N := by rw [hN]; exact Nat.one_le_two_pow
        have hN2 : N ≤ 1048576 := by rw [hN]; exact Nat.pow_le_pow_right (n := 2) (by omega) hk
        clear hN hdn
        have hz : ((N : Int) == 0) = false := by simp; omega
        obtain ⟨r, hr⟩ : ∃ r, r = lo % N := ⟨_, rfl⟩
        have kr : (lo : Int) % (N : Int) = (r : Int) := by rw [hr]; rfl
        have kr2 : Int.tmod (lo : Int) (N : Int) = (r : Int) := by rw [hr]; rfl
        obtain ⟨H, hH⟩ : ∃ H, H = N / 2 := ⟨_, rfl⟩
        have kH : (N : Int) / 2 = (H : Int) := by omega
        have kH2 : Int.tdiv (N : Int) 2 = (H : Int) := by rw [hH]; rfl
        have HR : Hid (r = lo % N) := hr
        have HH : Hid (H = N / 2) := hH
        clear hr hH
        have hd1 : 1 ≤ d := by have := HD.out; omega
        by_cases g1 : d < N
        · have g1' : (d : Int) < (N : Int) := by omega
          obtain ⟨q1, q2, q3⟩ := step_down (lo := lo) HN.out HH.out (by omega) hd1
          have Q2 : Hid _ := q2
          have Q3 : Hid _ := q3
          clear q2 q3
          go_wp2_with fail
          go_roundg (gk - 1)
          case measure => omega
          case rel => exact ⟨H, Q2.out, by omega, rfl, rfl, HDN.out.trans Q3.out⟩
        · have g1' : ¬ (d : Int) < (N : Int) := by omega
          by_cases g2 : r = 0
          · subst g2
            have HE : Hid (down 20 d lo = N) := HDN.out.trans (by
              rw [HN.out]
              exact down_here ⟨by rw [← HN.out]; omega, by rw [← HN.out]; exact HR.out.symm⟩)
            have hle := (down_pos d lo hd1 20).2
            obtain ⟨M, hM⟩ : ∃ M, M = lo + N := ⟨_, rfl⟩
            have kM : (lo : Int) + (N : Int) = (M : Int) := by omega
            have hMh : M ≤ hi := by rw [HE.out] at hle; have := HD.out; omega
            have HC : Hid (cov (s + 1) lo hi = (lo, M) :: cov s M hi) := by rw [hM]; exact cov_cons h4 (by rw [← HD.out]; exact HE.out)
            have C10 : Hid (∀ W, Calls Tryd.prog 21 #[.int .i64 (M : Int), .int .i64 (hi : Int)] W fun e w' => (∃ a c, e = .returned (.slice a (cov s M hi).length c) ∧ SPL w' a (cov s M hi) ∧ (cov s M hi = [] → a = none ∧ c = 0)) ∧ Below W.heap.size W w') := fun W => spl_of_own (HIH.out M hi (by omega) hMh h3 W)
            have HCL : Hid ((cov s M hi).length ≤ 1048576) := Nat.le_trans (cov_len s M hi (by omega)) (by omega)
            have HCN : Hid (¬ M < hi → cov s M hi = []) := cov_nil
            have HCP : Hid (M < hi → 0 < (cov s M hi).length) := fun h => by
              cases s with
              | zero => omega
              | succ s => rw [cov, if_pos h]; simp
            generalize cov s M hi = L at *
            have I0 : Hid (IHolds (wr.alloc (.cells #[.int .i64 (lo : Int), .int .i64 (M : Int)] 37)) wr.heap.size 37 [.int .i64 (lo : Int), .int .i64 (M : Int)]) := IHolds.new wr 37 [.int .i64 (lo : Int), .int .i64 (M : Int)]
            obtain ⟨i0, hi0, hz0, hz1, hz2⟩ := info_parts info36
            clear HE HDN HH HR HN hM HIH hle kH kH2 HD
            by_cases hml : M < hi
            · have HP : Hid (0 < L.length) := HCP.out hml
              clear HCP HCN
              go_wp2_with (first
                | (go_at_call 21; refine (C10.out _).mono ?_; rintro e w1 ⟨⟨a1, c1, rfl, hs1, _⟩, hB1⟩; obtain ⟨b1, o1, rfl, _⟩ := hs1.two 0 HP.out; have HS1 : Hid (SPL w1 (some ⟨b1, o1, none⟩) L) := hs1; have HB1 : Hid (Below wr.heap.size wr w1) := (nB wr _).trans (hB1.mono (nB wr _).size); have HO : Hid (w1.ownsRow wr.heap.size 37 2 (.slice (some ⟨wr.heap.size, 0, none⟩) 1 1) 1 (flat [(lo, M)])) := one_own (I0.out.of_below hB1) (Nat.le_refl _); clear hs1 hB1)
                | (at_builtin; refine wpList_append_own _ rfl (.tmp 27) (.tmp 32) 51 rfl wr.heap.size 37 i0 (.agg #[.int .i64 0, .int .i64 0]) 2 16 Tryd.underlying51 hi0 hz0 hz1 hz2 rfl (by decide) _ 1 (flat [(lo, M)]) rfl HO.out ⟨b1, o1, none⟩ L.length c1 (flat L) rfl (flat_len L) (HS1.out.cells) (flat_one L) (by have := HCL.out; unfold maxLen; omega) (by have := HCL.out; omega) HB1.out.size ?_; intro v2 w2 hown hgrow hn; have HO2 : Hid (w2.ownsRow wr.heap.size 37 2 v2 (1 + L.length) (flat [(lo, M)] ++ flat L)) := hown; have HB2 : Hid (Below wr.heap.size wr w2) := HB1.out.grown hgrow HB1.out.size (fun k hk => (HO.out.lt k hk).1); clear hown hgrow hn))
              go_ret
              rw [HC.out]
              exact ⟨⟨_, rfl, by rw [List.length_cons, Nat.add_comm]; exact HO2.out, fun q => by cases q⟩, HB2.out⟩
            · obtain rfl : L = [] := HCN.out hml
              clear HCP HCN
              have C10' : Hid (∀ W, Calls Tryd.prog 21 #[.int .i64 (M : Int), .int .i64 (hi : Int)] W fun e w' => e = .returned (.slice none 0 0) ∧ Below W.heap.size W w') := fun W => (C10.out W).mono fun e w' ⟨⟨a, c, he, _, h⟩, hb⟩ => ⟨by rw [he, (h rfl).1, (h rfl).2]; rfl, hb⟩
              clear C10
              go_wp2_with (go_at_call 21; refine (C10'.out _).mono ?_; rintro e w1 ⟨rfl, hB1⟩; have HB1 : Hid (Below wr.heap.size wr w1) := (nB wr _).trans (hB1.mono (nB wr _).size); have HO : Hid (w1.ownsRow wr.heap.size 37 2 (.slice (some ⟨wr.heap.size, 0, none⟩) 1 1) 1 (flat [(lo, M)])) := one_own (I0.out.of_below hB1) (Nat.le_refl _); clear hB1)
              go_ret
              rw [HC.out]
              exact ⟨⟨_, rfl, HO.out, fun q => by cases q⟩, HB1.out⟩
          · have g2' : ((r : Int) != 0) = true := by simp [bne]; omega
            obtain ⟨q1, q2, q3⟩ := step_down (lo := lo) HN.out HH.out (by rw [← HR.out]; omega) hd1
            have Q2 : Hid _ := q2
            have Q3 : Hid _ := q3
            clear q2 q3
            go_wp2_with fail
            go_roundg (gk - 1)
            case measure => omega
            case rel => exact ⟨H, Q2.out, by omega, rfl, rfl, HDN.out.trans Q3.out⟩
    · obtain rfl : lo = hi := by omega
      have hb : ((lo : Int) == (lo : Int)) = true := beq_self_eq_true _
      rw [cov_nil h4]
      go_enter Tryd.func21, Tryd.ntmps21
      go_wp2_with fail
      go_ret
      exact ⟨⟨_, rfl, World.ownsRow_nil _ _ _ _, fun _ => rfl⟩, Below.refl _ _⟩
theorem parts16 (s lo hi : Nat) (h1 : hi - lo ≤ s) (h2 : lo ≤ hi) (h3 : hi ≤ 1048576) (w : World) : Calls Tryd.prog 21 #[.int .i64 (lo : Int), .int .i64 (hi : Int)] w fun e w' => (∃ a c, e = .returned (.slice a (cov s lo hi).length c) ∧ SPL w' a (cov s lo hi) ∧ (cov s lo hi = [] → a = none ∧ c = 0)) ∧ Below w.heap.size w w' := spl_of_own (parts16o s lo hi h1 h2 h3 w)
/-- The cover of lo to hi. -/
def cover (lo hi : Nat) : List (Nat × Nat) := cov 1048576 lo hi
theorem cover_len (lo hi : Nat) (h : hi ≤ 1048576) : (cover lo hi).length ≤ 1048576 := Nat.le_trans (cov_len _ _ _ (by omega)) (by omega)
end Go.Proofs.YteomefhjglnghaaDoor
