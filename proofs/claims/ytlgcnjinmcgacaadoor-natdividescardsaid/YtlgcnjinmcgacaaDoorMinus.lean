/- The walks of Clone, minus, compare. -/
import Derived.Test.YtlgcnjinmcgacaaDoorArith
set_option linter.unusedSimpArgs false
set_option linter.unusedVariables false
namespace Go.Proofs.YtlgcnjinmcgacaaDoor
open Go.RowKit Go.Deep

/-- A row of the call's own that holds these numbers at its head; or nothing. -/
def Owned (w : World) (base : Nat) (l : List Nat) (v : Value) : Prop :=
  (l = [] ∧ ∃ a c, v = .slice a 0 c ∧ c ≤ 9223372036854775807) ∨ ∃ g cap post, v = .slice (some ⟨g, 0, none⟩) l.length cap ∧ base ≤ g ∧ IHolds w g 2 (zs l ++ post) ∧ l.length ≤ cap ∧ cap ≤ 9223372036854775807
theorem Owned.of_row {w : World} {base : Nat} {l : List Nat} {v : Value} (h : w.ownsRow base 2 1 v l.length (zs l)) : Owned w base l v := by
  obtain ⟨_, ⟨rfl, h0⟩ | ⟨g, cap, cur, rfl, hb, hg, hc, hm, hs, ht⟩⟩ := h
  · exact Or.inl ⟨List.length_eq_zero_iff.1 h0, none, 0, rfl, by omega⟩
  · refine Or.inr ⟨g, cap, cur.toList.drop l.length, rfl, hb, ?_, hc, hm⟩
    rw [Nat.mul_one] at ht
    unfold IHolds
    rw [← ht, List.take_append_drop]
    exact hg

theorem eql_slice_nil (a : Option Addr) (l c : Nat) (w : World) : (binOp .eql 67 (.slice a l c) (.slice none 0 0)).run Tryd.prog w = .ok (.bool a.isNone) w := by
  have h := Go.run_equal_slice_nil w 67 2 a l c Tryd.underlying67
  simp [binOp, h]

set_option maxRecDepth 100000 in
set_option maxHeartbeats 1000000 in
theorem clone_any (w : World) (a : Option Addr) (cap : Nat) (l : List Nat) (h : Row w a l) (hl : l.length ≤ 1000000) :
    Calls Tryd.prog 94 #[.slice a l.length cap] w fun e w' => (∃ v, e = .returned v ∧ Owned w' w.heap.size l v) ∧ Below w.heap.size w w' := by
  have hnil := fun (a : Option Addr) (l c : Nat) (w : World) => eql_slice_nil a l c w
  obtain ⟨i0, hi, hz0, hz1, hz2⟩ := info_parts Tryd.info2
  go_enter Tryd.func94, Tryd.ntmps94
  cases a with
  | none =>
    obtain rfl : l = [] := by
      by_cases h0 : l = []
      · exact h0
      · obtain ⟨b, o, hc, _⟩ := h 0 (List.length_pos_iff.2 h0); cases hc
    go_wp2_with fail
    go_ret
    exact ⟨⟨_, rfl, Or.inl ⟨rfl, none, 0, rfl, by omega⟩⟩, Below.refl _ _⟩
  | some ad =>
    have HOWN : Hid ((w.alloc (.cells #[] 2)).ownsRow w.heap.size 2 1 (.slice (some ⟨w.heap.size, 0, none⟩) 0 0) 0 []) := World.ownsRow_made w #[] 0 (Nat.le_refl _) (by simp) rfl
    have q2 : Hid (Below w.heap.size w (w.alloc (.cells #[] 2))) := (Below.refl _ w).alloc (Nat.le_refl _) _
    have HC : Hid (∀ j u, (zs l)[j]? = some u → (w.alloc (.cells #[] 2)).cell? (ad.add j) = some u) := fun j u hu => by
      have hj : j < l.length := by
        have := (List.getElem?_eq_some_iff.1 hu).1
        simpa [zs] using this
      obtain ⟨k', o', he, hc⟩ := h j hj
      simp only [Option.some.injEq] at he
      subst he
      simp [zs, hj] at hu
      subst hu
      rw [Addr.add_mid, q2.out.cell (World.block_lt_of_cell? _ _ hc)]; exact hc
    have H1 : Hid (∀ u ∈ zs l, u.oneCell' = true) := fun u hu => by obtain ⟨x, _, rfl⟩ := List.mem_map.1 hu; rfl
    clear h
    go_wp2_with (at_builtin; refine wpList_append_own _ rfl (.tmp 5) (.tmp 6) 67 rfl w.heap.size 2 i0 (.int .i64 0) 1 8 Tryd.underlying67 hi hz0 hz1 hz2 rfl (by decide) (.slice (some ⟨w.heap.size, 0, none⟩) 0 0) 0 [] rfl HOWN.out ad l.length cap (zs l) rfl (by simp [zs_length]) HC.out H1.out (by unfold maxLen; omega) (by omega) (by simp) ?_; intro v1 w1 hown1 hgrow1 hn1; have HO : Hid (w1.ownsRow w.heap.size 2 1 v1 (0 + l.length) ([] ++ zs l)) := hown1; have HG : Hid (Below w.heap.size w w1) := q2.out.grown hgrow1 q2.out.size (fun k hk => by simp [Value.ownBlock] at hk; omega); clear hown1 hgrow1 hn1)
    go_ret
    refine ⟨⟨_, rfl, Owned.of_row ?_⟩, HG.out⟩
    have := HO.out
    rw [Nat.zero_add, List.nil_append] at this
    exact this

set_option maxRecDepth 100000 in
set_option maxHeartbeats 1000000 in
theorem minus_any (w : World) (a1 a2 : Option Addr) (cap1 cap2 n m : Nat) (h1 : Row w a1 (dg 1000000000 n)) (h2 : Row w a2 (dg 1000000000 m)) (b1 : (dg 1000000000 n).length ≤ 1000000) (hmn : m ≤ n) :
    Calls Tryd.prog 61 #[.slice a1 (dg 1000000000 n).length cap1, .slice a2 (dg 1000000000 m).length cap2] w fun e w' => (∃ v, e = .returned v ∧ NumV w' 1000000000 (n - m) v) ∧ Below w.heap.size w w' := by
  have HV1 : Hid (vl 1000000000 (dg 1000000000 n) = n) := vl_dg bigBase n
  have HV2 : Hid (vl 1000000000 (dg 1000000000 m) = m) := vl_dg bigBase m
  have HD1 : Hid (∀ d ∈ dg 1000000000 n, d < 1000000000) := dg_mem bigBase n
  have HD2 : Hid (∀ d ∈ dg 1000000000 m, d < 1000000000) := dg_mem bigBase m
  have b2 := dg_len_mono bigBase hmn
  generalize dg 1000000000 n = l1 at *
  generalize dg 1000000000 m = l2 at *
  have H2 : Hid (Row w a2 l2) := h2
  have HB2 : Hid (∀ k o, l2 ≠ [] → a2 = some ⟨k, o, none⟩ → k < w.heap.size) := fun k o hne he => by
    obtain ⟨b, o', he', hc⟩ := h2 0 (List.length_pos_iff.2 hne)
    rw [he] at he'
    simp only [Option.some.injEq, Addr.mk.injEq] at he'
    have := World.block_lt_of_cell? _ _ hc
    simp at this; omega
  clear h2
  go_enter Tryd.func61, Tryd.ntmps61
  go_wp2_with fail
  refine (clone_any w a1 cap1 l1 h1 b1).mono ?_
  rintro e W1 ⟨⟨v, rfl, ho⟩, hb⟩
  rcases ho with ⟨rfl, a, c, rfl, hc⟩ | ⟨g, cap, post, rfl, hg, hI, hcap, hmax⟩
  · go_wp2_with fail
    refine (put_none W1 a c _ (-1)).mono ?_
    rintro e W2 ⟨rfl, rfl⟩
    go_wp2_with fail
    refine (trimmed_any 1000000000 bigBase W2 a [] c (Row.nil _ _) (by simp) (by simp) hc).mono ?_
    rintro e W3 ⟨⟨v, rfl, hv⟩, rfl⟩
    go_wp2_with fail
    go_ret
    refine ⟨⟨_, rfl, ?_⟩, hb⟩
    have e0 : n - m = vl 1000000000 [] := by have := HV1.out; rw [← this]; simp [vl]
    rw [e0]; exact hv
  · have A2 : Hid (Row W1 a2 l2) := H2.out.of_below hb
    have HAp : Hid (l2 ≠ [] → Apart a2 g) := fun hne k o he => by have := HB2.out k o hne he; omega
    have HI : Hid (IHolds W1 g 2 ([] ++ zs l1 ++ post)) := hI
    have HB : Hid (Below w.heap.size w W1) := hb
    clear hI hb h1
    go_wp2_with fail
    refine (put_any W1 g cap 2 [] post l1 a2 cap2 l2 (-1) HI.out A2.out HAp.out HD1.out HD2.out (by omega) (by omega)).mono ?_
    rintro e W2 ⟨p, c, rfl, hp, hI2, hB⟩
    have hN : Hid (vl 1000000000 p = n - m) := (hp.done (Nat.le_refl _) b2 (n - m) (by rw [HV1.out, HV2.out]; omega) (by
      have g1 := vl_lt 1000000000 l1 HD1.out
      rw [HV1.out] at g1
      omega)).2
    have hpl := hp.len
    have HP : Hid (∀ d ∈ p, d < 1000000000) := hp.low
    have HR : Hid (Row W2 (some ⟨g, 0, none⟩) p) := IHolds.row hI2
    have HB3 : Hid (Below w.heap.size w W2) := HB.out.trans (hB.below HB.out.size hg)
    clear hp hI2 hB
    go_wp2_with fail
    rw [← hpl]
    refine (trimmed_any 1000000000 bigBase W2 (some ⟨g, 0, none⟩) p cap HR.out (by omega) HP.out hmax).mono ?_
    rintro e W3 ⟨⟨v, rfl, hv⟩, rfl⟩
    rw [hN.out] at hv
    have HVV : Hid (NumV W3 1000000000 (n - m) v) := hv
    clear hv
    go_wp2_with fail
    go_ret
    exact ⟨⟨_, rfl, HVV.out⟩, HB3.out⟩
end Go.Proofs.YtlgcnjinmcgacaaDoor
