/- The digests of blocks, on both sides. -/
import Derived.Test.YteomefhjglnghaaDoorCv
import Derived.Test.YteomefhjglnghaaDoorRg
import Derived.Deep.RegionHeld3
set_option linter.unusedSimpArgs false
set_option linter.unusedVariables false
set_option maxRecDepth 100000
namespace Go.Proofs.YteomefhjglnghaaDoor
open Go.RowKit Go.Deep Go.PlainAid

/-- A list of texts, to be read. -/
def SL (w : World) (a : Option Addr) (l : List ByteArray) : Prop := ∀ i (h : i < l.length), ∃ b o, a = some ⟨b, o, none⟩ ∧ w.cell? ⟨b, o + i, none⟩ = some (.string l[i])
theorem SL.of_below {w w' : World} {a : Option Addr} {l : List ByteArray} (h : SL w a l) (hb : Below w.heap.size w w') : SL w' a l := fun i hi => by
  obtain ⟨b, o, rfl, hc⟩ := h i hi
  exact ⟨b, o, rfl, cell_keep hc hb⟩
theorem IHolds.sl {w : World} {b : Nat} {l : List ByteArray} (h : IHolds w b 9 (l.map Value.string)) : SL w (some ⟨b, 0, none⟩) l := fun i hi => by
  refine ⟨b, 0, rfl, ?_⟩
  rw [Nat.zero_add, h.cell i (by simpa using hi)]
  simp
/-- The part of a list from o on, n long. -/
def seg (l : List ByteArray) (o n : Nat) : List ByteArray := (l.drop o).take n
theorem seg_len {l : List ByteArray} {o n : Nat} (h : o + n ≤ l.length) : (seg l o n).length = n := by unfold seg; rw [List.length_take, List.length_drop]; omega
theorem seg_at {l : List ByteArray} {o n i : Nat} (h : o + n ≤ l.length) (hi : i < n) : (seg l o n)[i]'(by rw [seg_len h]; exact hi) = l[o + i] := by unfold seg; simp
theorem SL.seg {w : World} {b o : Nat} {l : List ByteArray} (h : SL w (some ⟨b, o, none⟩) l) {p n : Nat} (hp : p + n ≤ l.length) : SL w (some ⟨b, o + p, none⟩) (seg l p n) := fun i hi => by
  have hi' : i < n := by rw [seg_len hp] at hi; exact hi
  obtain ⟨b', o', e, hc⟩ := h (p + i) (by omega)
  obtain ⟨rfl, rfl⟩ : b' = b ∧ o' = o := by simpa [eq_comm] using e
  refine ⟨_, _, rfl, ?_⟩
  rw [seg_at hp hi', Nat.add_assoc]
  exact hc
/-- Texts that are not too long. -/
def Sz (ps : List ByteArray) : Prop := ps.length ≤ 2097152 ∧ (∀ p ∈ ps, p.size ≤ 140737488355328) ∧ (2 ≤ ps.length → ∀ p ∈ ps, p.size ≤ 1048576)
/-- What a function answers of a label and parts. -/
def TagC (tg : ByteArray → List ByteArray → ByteArray) (f : Nat) (w0 : World) : Prop := ∀ (label : ByteArray) (ps : List ByteArray) (W : World) (a : Option Addr) (cap : Nat), Below w0.heap.size w0 W → label.size ≤ 1048576 → Sz ps → SL W a ps →
  Calls Tryd.prog f #[.string label, .slice a ps.length cap] W fun e w' => e = .returned (.string (tg label ps)) ∧ Below W.heap.size W w'
def lEntry : ByteArray := ⟨#[101, 110, 116, 114, 121]⟩
def lBlock : ByteArray := ⟨#[98, 108, 111, 99, 107]⟩
def lHead : ByteArray := ⟨#[104, 101, 97, 100]⟩
section
variable {tg : ByteArray → List ByteArray → ByteArray}
/-- The digest of 2 ^ k entries. -/
def dgst (tg : ByteArray → List ByteArray → ByteArray) : Nat → List ByteArray → ByteArray
  | 0, l => tg lEntry [l.headD ⟨#[]⟩]
  | k + 1, l => tg lBlock [dgst tg k (seg l 0 (2 ^ k)), dgst tg k (seg l (2 ^ k) (2 ^ k))]
theorem dgst_size (ht : ∀ l ps, (tg l ps).size = 32) : ∀ k l, (dgst tg k l).size = 32
  | 0, l => ht _ _
  | k + 1, l => ht _ _
theorem TagC.of {f : Nat} {w0 w : World} (h : TagC tg f w0) (hb : Below w0.heap.size w0 w) : TagC tg f w := fun label ps W a cap hW => h label ps W a cap (hb.trans (hW.mono hb.size))
set_option maxHeartbeats 1000000 in
theorem one28 {w : World} (T : TagC tg 35 w) (s : ByteArray) (hs : s.size ≤ 140737488355328) : Calls Tryd.prog 26 #[.string s] w fun e w' => e = .returned (.string (tg lEntry [s])) ∧ Below w.heap.size w w' := by
  generalize hW : w.alloc (.cells #[.string s] 9) = W
  have J : Hid (Below w.heap.size w W) := by rw [← hW]; exact nB w _
  have I : IHolds W w.heap.size 9 [.string s] := by rw [← hW]; exact IHolds.new w 9 [.string s]
  have HT : Hid (Calls Tryd.prog 35 #[.string lEntry, .slice (some ⟨w.heap.size, 0, none⟩) 1 1] W fun e w' => e = .returned (.string (tg lEntry [s])) ∧ Below W.heap.size W w') :=
    T lEntry [s] _ _ 1 J.out (by decide) ⟨by simp, fun p hp => by simp at hp; subst hp; exact hs, fun q => by simp at q⟩ (IHolds.sl (l := [s]) I)
  clear I
  generalize tg lEntry [s] = D at *
  unfold lEntry at *
  go_enter Tryd.func26, Tryd.ntmps26
  go_wp2_with (go_at_call 35; refine HT.out.mono ?_; rintro e w1 ⟨rfl, hB⟩)
  go_ret
  exact ⟨rfl, J.out.trans (hB.mono J.out.size)⟩
set_option maxHeartbeats 1000000 in
theorem both29 {w : World} (T : TagC tg 35 w) (s t : ByteArray) (hs : s.size ≤ 1048576) (ht : t.size ≤ 1048576) : Calls Tryd.prog 27 #[.string s, .string t] w fun e w' => e = .returned (.string (tg lBlock [s, t])) ∧ Below w.heap.size w w' := by
  generalize hW : w.alloc (.cells #[.string s, .string t] 9) = W
  have J : Hid (Below w.heap.size w W) := by rw [← hW]; exact nB w _
  have I : IHolds W w.heap.size 9 [.string s, .string t] := by rw [← hW]; exact IHolds.new w 9 [.string s, .string t]
  have HT : Hid (Calls Tryd.prog 35 #[.string lBlock, .slice (some ⟨w.heap.size, 0, none⟩) 2 2] W fun e w' => e = .returned (.string (tg lBlock [s, t])) ∧ Below W.heap.size W w') :=
    T lBlock [s, t] _ _ 2 J.out (by decide) ⟨by simp, fun p hp => by simp at hp; rcases hp with rfl | rfl <;> omega, fun _ p hp => by simp at hp; rcases hp with rfl | rfl <;> assumption⟩ (IHolds.sl (l := [s, t]) I)
  clear I
  generalize tg lBlock [s, t] = D at *
  unfold lBlock at *
  go_enter Tryd.func27, Tryd.ntmps27
  go_wp2_with (go_at_call 35; refine HT.out.mono ?_; rintro e w1 ⟨rfl, hB⟩)
  go_ret
  exact ⟨rfl, J.out.trans (hB.mono J.out.size)⟩
set_option maxHeartbeats 2000000 in
theorem digest14 (hts : ∀ l ps, (tg l ps).size = 32) : ∀ (k : Nat) (l : List ByteArray) (w : World) (a : Option Addr) (cap : Nat), TagC tg 35 w → k ≤ 20 → l.length = 2 ^ k → l.length ≤ cap → cap ≤ 9223372036854775807 → (∀ p ∈ l, p.size ≤ 140737488355328) → SL w a l →
    Calls Tryd.prog 11 #[.slice a l.length cap] w fun e w' => e = .returned (.string (dgst tg k l)) ∧ Below w.heap.size w w' := by
  intro k
  induction k with
  | zero =>
    intro l w a cap T hk hl hc hc2 hs h
    match l, hl with
    | [s], _ =>
      obtain ⟨b, o, rfl, hcell⟩ := h 0 (by simp)
      have HT : Hid (∀ V : World, Calls Tryd.prog 26 #[.string s] w fun e w' => e = .returned (.string (tg lEntry [s])) ∧ Below w.heap.size w w') := fun V => one28 T s (hs s (by simp))
      have e : dgst tg 0 [s] = tg lEntry [s] := rfl
      rw [e]
      generalize tg lEntry [s] = D at *
      simp only [List.length_cons, List.length_nil, Nat.zero_add, Nat.add_zero, List.getElem_cons_zero] at hcell hc ⊢
      clear h hs T
      go_enter Tryd.func11, Tryd.ntmps11
      go_wp2_with (go_at_call 26; refine (HT.out w).mono ?_; rintro e w1 ⟨rfl, hB⟩)
      go_ret
      exact ⟨rfl, hB⟩
  | succ k ih =>
    intro l w a cap T hk hl hc hc2 hs h
    obtain ⟨H, hH⟩ : ∃ H, H = 2 ^ k := ⟨_, rfl⟩
    have hH1 : 1 ≤ H := by rw [hH]; exact Nat.one_le_two_pow
    have hH2 : H ≤ 1048576 := by rw [hH]; exact Nat.pow_le_pow_right (n := 2) (by omega) (show k ≤ 20 by omega)
    have hN : l.length = H + H := by rw [hl, hH, Nat.pow_succ]; omega
    obtain ⟨b, o, rfl, hr0⟩ := h 0 (by omega)
    clear hr0
    have e : dgst tg (k + 1) l = tg lBlock [dgst tg k (seg l 0 H), dgst tg k (seg l H H)] := by rw [hH]; rfl
    have C1 : Hid (∀ V, Below w.heap.size w V → Calls Tryd.prog 11 #[.slice (some ⟨b, o, none⟩) H cap] V fun e w' => e = .returned (.string (dgst tg k (seg l 0 H))) ∧ Below V.heap.size V w') := fun V hV => by
      have q := ih (seg l 0 H) V (some ⟨b, o + 0, none⟩) cap (T.of hV) (by omega) (by rw [seg_len (by omega), hH]) (by rw [seg_len (by omega)]; omega) hc2 (fun p hp => hs p (List.mem_of_mem_drop (List.mem_of_mem_take hp))) ((h.of_below hV).seg (by omega))
      rw [seg_len (by omega), Nat.add_zero] at q
      exact q
    have C2 : Hid (∀ V, Below w.heap.size w V → Calls Tryd.prog 11 #[.slice (some ⟨b, o + H, none⟩) H (cap - H)] V fun e w' => e = .returned (.string (dgst tg k (seg l H H))) ∧ Below V.heap.size V w') := fun V hV => by
      have q := ih (seg l H H) V (some ⟨b, o + H, none⟩) (cap - H) (T.of hV) (by omega) (by rw [seg_len (by omega), hH]) (by rw [seg_len (by omega)]; omega) (by omega) (fun p hp => hs p (List.mem_of_mem_drop (List.mem_of_mem_take hp))) ((h.of_below hV).seg (by omega))
      rw [seg_len (by omega)] at q
      exact q
    have C3 : Hid (∀ V, Below w.heap.size w V → Calls Tryd.prog 27 #[.string (dgst tg k (seg l 0 H)), .string (dgst tg k (seg l H H))] V fun e w' => e = .returned (.string (tg lBlock [dgst tg k (seg l 0 H), dgst tg k (seg l H H)])) ∧ Below V.heap.size V w') := fun V hV =>
      both29 (T.of hV) _ _ (by rw [dgst_size hts]; decide) (by rw [dgst_size hts]; decide)
    rw [e]
    generalize tg lBlock [dgst tg k (seg l 0 H), dgst tg k (seg l H H)] = D at *
    generalize dgst tg k (seg l 0 H) = D1 at *
    generalize dgst tg k (seg l H H) = D2 at *
    rw [hN]
    obtain ⟨N, hNN⟩ : ∃ N, N = H + H := ⟨_, rfl⟩
    rw [← hNN]
    have n1 : ((N : Int) == 1) = false := by simp; omega
    have n2 : (N : Int) / 2 = (H : Int) := by omega
    have n3 : Int.tdiv (N : Int) 2 = (H : Int) := by rw [Int.tdiv_eq_ediv_of_nonneg (by omega)]; exact n2
    have c1 : (H : Int) ≤ (cap : Int) := by omega
    have c2 : (N : Int) ≤ (cap : Int) := by omega
    have c3 : (H : Int) ≤ (N : Int) := by omega
    have c4 : N - H = H := by omega
    have KP : Hid (∀ V, Below w.heap.size w V → Below w.heap.size w V) := fun V h => h
    have sB : Hid (∀ V V', Below V.heap.size V V' → Below w.heap.size w V → Below w.heap.size w V') := fun V V' h h' => h'.trans (h.mono h'.size)
    clear ih hs h T e hl hH hNN hN
    go_enter Tryd.func11, Tryd.ntmps11
    go_wp2_with fail
    go_region_held3 (fun V => Below w.heap.size w V)
      (first | exact (Below.refl _ w).drew | assumption | exact B3.out | exact B2.out | exact B1.out | fail)
      (first
        | (go_at_call 11; refine (C1.out _ (by assumption)).mono ?_; rintro e v1 ⟨rfl, hB1⟩; have B1 : Hid (Below w.heap.size w v1) := sB.out _ _ hB1 (by assumption); clear hB1 C1)
        | (go_at_call 11; refine (C2.out _ (by assumption)).mono ?_; rintro e v2 ⟨rfl, hB2⟩; have B2 : Hid (Below w.heap.size w v2) := sB.out _ _ hB2 (by assumption); clear hB2 C2)
        | (go_at_call 27; refine (C3.out _ (by assumption)).mono ?_; rintro e v3 ⟨rfl, hB3⟩; have B3 : Hid (Below w.heap.size w v3) := sB.out _ _ hB3 (by assumption); clear hB3 C3)
        | fail)
    all_goals (go_wp2_with fail)
    all_goals go_ret
    all_goals exact ⟨rfl, B3.out⟩
end
end Go.Proofs.YteomefhjglnghaaDoor
