/- The walk of over: long division. -/
import Derived.Test.YtlgcnjinmcgacaaDoorLimb
import Derived.Test.YtlgcnjinmcgacaaDoorOverPlain
import Derived.Test.YtlgcnjinmcgacaaDoorFace
set_option linter.unusedSimpArgs false
set_option linter.unusedVariables false
namespace Go.Proofs.YtlgcnjinmcgacaaDoor
open Go.RowKit Go.Deep

theorem IHolds.of_but {w w' : World} {b g : Nat} {t : TypeId} {l : List Value} (h : IHolds w b t l) (hb : But g w w') (hg : b ≠ g) : IHolds w' b t l := by
  unfold IHolds; rw [hb.block b h.lt hg]; exact h
theorem Owned.num {w : World} {base n : Nat} {v : Value} (h : Owned w base (dg 1000000000 n) v) : NumV w 1000000000 n v := by
  rcases h with ⟨h0, a, c, rfl, hc⟩ | ⟨g, cap, post, rfl, hg, hI, hc, hm⟩
  · exact ⟨a, c, by rw [h0]; rfl, by rw [h0]; simp, by rw [h0]; exact Row.nil _ _⟩
  · exact ⟨_, cap, rfl, hc, IHolds.row (pre := []) (by simpa using hI)⟩
theorem NumV.zeroBig (w : World) : NumV w 1000000000 0 (.slice none 0 0) := ⟨none, 0, by rw [dg_zero]; rfl, by rw [dg_zero]; exact Nat.le_refl _, by rw [dg_zero]; exact Row.nil _ _⟩

set_option maxHeartbeats 1000000 in
theorem over_low (w : World) (a1 a2 : Option Addr) (cap1 cap2 n d : Nat) (h1 : Row w a1 (dg 1000000000 n)) (h2 : Row w a2 (dg 1000000000 d)) (b1 : (dg 1000000000 n).length ≤ 1000000) (b2 : (dg 1000000000 d).length ≤ 1000000) (hlt : n < d) :
    Calls Tryd.prog 67 #[.slice a1 (dg 1000000000 n).length cap1, .slice a2 (dg 1000000000 d).length cap2] w fun e w' => (∃ v1 v2, e = .returned (.tuple #[v1, v2]) ∧ NumV w' 1000000000 (n / d) v1 ∧ NumV w' 1000000000 (n % d) v2) ∧ Below w.heap.size w w' := by
  have HC : Hid (Calls Tryd.prog 59 #[.slice a1 (dg 1000000000 n).length cap1, .slice a2 (dg 1000000000 d).length cap2] w fun e w' => e = .returned (.int .i64 (-1)) ∧ ∃ k, w' = w.drewN k) := by
    have := compare_any w a1 a2 cap1 cap2 n d h1 h2 b1 b2
    rw [cmp3_lt (by omega)] at this
    exact this
  have HL : Hid (∀ k, Calls Tryd.prog 94 #[.slice a1 (dg 1000000000 n).length cap1] (w.drewN k) fun e w' => (∃ v, e = .returned v ∧ Owned w' w.heap.size (dg 1000000000 n) v) ∧ Below w.heap.size (w.drewN k) w') := fun k => clone_any (w.drewN k) a1 cap1 _ (h1.drew k) b1
  rw [Nat.div_eq_of_lt hlt, Nat.mod_eq_of_lt hlt]
  have HO : Hid (∀ w' v, Owned w' w.heap.size (dg 1000000000 n) v → NumV w' 1000000000 n v) := fun w' v h => h.num
  clear h1 h2
  generalize dg 1000000000 n = l1 at *
  generalize (dg 1000000000 d).length = k2 at *
  go_enter Tryd.func67, Tryd.ntmps67
  go_wp2_with fail
  refine HC.out.mono ?_
  rintro e w1 ⟨rfl, k, rfl⟩
  go_wp2_with fail
  refine (HL.out k).mono ?_
  rintro e w1 ⟨⟨v, rfl, hv⟩, hb⟩
  have HN : Hid (NumV w1 1000000000 n v) := HO.out _ _ hv
  have HB : Hid (Below w.heap.size w w1) := (below_drawn w k).trans hb
  clear hv hb
  go_wp2_with fail
  go_ret2
  exact ⟨⟨_, v, rfl, NumV.zeroBig _, HN.out⟩, HB.out⟩

set_option maxRecDepth 100000 in
set_option maxHeartbeats 1000000 in
theorem over_one (w : World) (a1 a2 : Option Addr) (cap1 cap2 n d : Nat) (h1 : Row w a1 (dg 1000000000 n)) (h2 : Row w a2 (dg 1000000000 d)) (b1 : (dg 1000000000 n).length ≤ 1000000) (b2 : (dg 1000000000 d).length = 1) (hle : d ≤ n) :
    Calls Tryd.prog 67 #[.slice a1 (dg 1000000000 n).length cap1, .slice a2 (dg 1000000000 d).length cap2] w fun e w' => (∃ v1 v2, e = .returned (.tuple #[v1, v2]) ∧ NumV w' 1000000000 (n / d) v1 ∧ NumV w' 1000000000 (n % d) v2) ∧ Below w.heap.size w w' := by
  have HC : Hid (Calls Tryd.prog 59 #[.slice a1 (dg 1000000000 n).length cap1, .slice a2 (dg 1000000000 d).length cap2] w fun e w' => e = .returned (.int .i64 (cmp3 (n : Int) (d : Int))) ∧ ∃ k, w' = w.drewN k) := compare_any w a1 a2 cap1 cap2 n d h1 h2 b1 (by omega)
  have hc : ¬ cmp3 (n : Int) (d : Int) < 0 := by unfold cmp3; split <;> (try split) <;> omega
  have hd9 : d < 1000000000 := by
    have := lt_pow_dg bigBase d
    rw [b2] at this
    simpa using this
  have hd0 : 0 < d := by
    rcases Nat.eq_zero_or_pos d with h0 | h0
    · rw [h0, dg_zero] at b2; simp at b2
    · exact h0
  obtain ⟨bb, oo, rfl, cc⟩ := h2 0 (by omega)
  have e0 : (dg 1000000000 d)[0]'(by omega) = d := by
    have e := dg_pos bigBase (show d ≠ 0 by omega)
    have e1 : (dg 1000000000 d)[0]? = some (d % 1000000000) := by rw [e]; rfl
    rw [List.getElem?_eq_getElem (by omega)] at e1
    rw [Option.some.inj e1, Nat.mod_eq_of_lt hd9]
  rw [e0] at cc
  have HO : Hid (∀ W, Below w.heap.size w W → Calls Tryd.prog 98 #[.slice a1 (dg 1000000000 n).length cap1, .int .i64 (d : Int)] W fun e w' => (∃ v, e = .returned (.tuple #[v, .int .i64 ((n % d : Nat) : Int)]) ∧ NumV w' 1000000000 (n / d) v) ∧ Below W.heap.size W w') := fun W hW => overLimb_any W a1 cap1 n d (h1.of_below hW) (by omega) hd0 (by omega)
  have hm9 : n % d < 1000000000 := Nat.lt_trans (Nat.mod_lt _ hd0) hd9
  rw [b2] at HC ⊢
  clear h1 h2 e0
  generalize dg 1000000000 n = l1 at *
  generalize cmp3 (n : Int) (d : Int) = c at *
  have oo0 : w.cell? ⟨bb, oo, none⟩ = some (I d) := cc
  generalize n % d = r at *
  generalize n / d = q at *
  go_enter Tryd.func67, Tryd.ntmps67
  go_wp2_with fail
  refine HC.out.mono ?_
  rintro e w1 ⟨rfl, k, rfl⟩
  go_wp2_with fail
  refine (HO.out _ (below_drawn w k)).mono ?_
  rintro e w2 ⟨⟨v, rfl, hv⟩, hb⟩
  have HN : Hid (NumV w2 1000000000 q v) := hv
  have HB : Hid (Below w.heap.size w w2) := (below_drawn w k).trans hb
  clear hv hb cc oo0
  go_wp2_with fail
  have q1 : Hid (IHolds (w2.alloc (.cells #[.int .i64 (r : Int)] 2)) w2.heap.size 2 (zs [r])) := IHolds.new w2 2 (zs [r])
  have q2 : Hid (Below w2.heap.size w2 (w2.alloc (.cells #[.int .i64 (r : Int)] 2))) := (Below.refl _ w2).alloc (Nat.le_refl _) _
  generalize w2.alloc (.cells #[.int .i64 (r : Int)] 2) = W3 at *
  refine (trimmed_at W3 w2.heap.size 1 1 2 [r] q1.out rfl (Nat.le_refl _) (fun x hx => by simp at hx; omega) (by omega)).mono ?_
  rintro e W4 ⟨⟨v2, rfl, hv⟩, rfl⟩
  have e1 : vl 1000000000 [r] = r := by simp [vl]
  rw [e1] at hv
  have HR : Hid (NumV W4 1000000000 r v2) := hv
  have HN2 : Hid (NumV W4 1000000000 q v) := HN.out.of_below q2.out
  have HB2 : Hid (Below w.heap.size w W4) := HB.out.trans (q2.out.mono HB.out.size)
  clear hv e1
  go_wp2_with fail
  go_ret2
  exact ⟨⟨v, v2, rfl, HN2.out, HR.out⟩, HB2.out⟩
end Go.Proofs.YtlgcnjinmcgacaaDoor
