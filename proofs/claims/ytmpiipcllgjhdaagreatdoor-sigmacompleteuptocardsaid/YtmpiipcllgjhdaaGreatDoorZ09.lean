/- Sigma's First and Back where nothing is wrong with the claims. Sigma's First and Back, with what they call; lists of lists beside each other. Claims that are no set, and what is asked of them. How often a modulus is taken off at once. -/
import Derived.Test.YtmpiipcllgjhdaaGreatDoorZ08
import Derived.Test.YtmpiipcllgjhdaaGreatDoorZ03
import Derived.Test.YtmpiipcllgjhdaaGreatDoorZ07
import Derived.Test.YtmpiipcllgjhdaaGreatDoorZ04
import Derived.Test.YtmpiipcllgjhdaaGreatDoorZ02
import Derived.Test.YtmpiipcllgjhdaaGreatDoorZ05
set_option linter.unusedSimpArgs false
set_option linter.unusedVariables false
set_option maxRecDepth 100000
namespace Go.Proofs.YtmpiipcllgjhdaaGreatDoor
open Go.RowKit Go.Deep Go.PlainAid

theorem hmfun : ∀ (fn : Fn) (first cap : Array Value) (w : World), (Instr.makeFunc fn first cap).run Tryz.prog w = .ok (.func fn first cap) w := fun _ _ _ _ => rfl
theorem firsts46_any {w : World} {a b : Option Addr} {n m c d : Nat} {z : Int} {q : List (List ByteArray)}
    (C : ∀ W, Below w.heap.size w W → IHolds W w.heap.size 53 [.int .i64 z, .slice a n c] → Calls Tryz.prog 85 #[.slice a n c, .slice b m d, .func (.func 86) #[] #[.pointer (some ⟨w.heap.size, 0, none⟩)]] W fun e w' => (∃ a' c', e = .returned (.slice a' n c') ∧ SLL w' a' q) ∧ Below W.heap.size W w') :
    Calls Tryz.prog 47 #[.agg #[.int .i64 z, .slice a n c], .slice b m d] w fun e w' => (∃ a' c', e = .returned (.slice a' n c') ∧ SLL w' a' q) ∧ Below w.heap.size w w' := by
  have hmf := hmfun
  have H : Hid _ := C
  clear C
  have B : Hid (Below w.heap.size w (w.alloc (.cells #[.int .i64 z, .slice a n c] 53))) := (Below.refl _ w).alloc (Nat.le_refl _) _
  have I : Hid (IHolds (w.alloc (.cells #[.int .i64 z, .slice a n c] 53)) w.heap.size 53 [.int .i64 z, .slice a n c]) := IHolds.new _ _ _
  go_enter Tryz.func47, Tryz.ntmps47
  go_wp2_with (go_at_call 85; refine (H.out _ B.out I.out).mono ?_; rintro e w1 ⟨⟨a', c', rfl, hs1⟩, hB1⟩)
  go_ret
  exact ⟨⟨a', c', rfl, hs1⟩, B.out.trans (hB1.mono B.out.size)⟩
set_option maxRecDepth 100000 in
set_option maxHeartbeats 2000000 in
theorem back45_any {w : World} {a b : Option Addr} {n m c d : Nat} {z : Int} {q : List (List ByteArray)} {o r u : ByteArray}
    (C1 : Hid (∀ W, Calls Tryz.prog 56 #[.agg #[.int .i64 z]] W fun e w' => e = .returned (.string o) ∧ Below W.heap.size W w'))
    (C2 : Hid (∀ W, Calls Tryz.prog 57 #[.agg #[.int .i64 z], .string o, .string u] W fun e w' => e = .returned (.string r) ∧ Below W.heap.size W w'))
    (C3 : Hid (∀ W pb, Below w.heap.size w W → IHolds W w.heap.size 53 [.int .i64 z, .slice a n c] → IHolds W pb 9 [.string r] → Calls Tryz.prog 85 #[.slice a n c, .slice b m d, .func (.func 95) #[] #[.pointer (some ⟨w.heap.size, 0, none⟩), .pointer (some ⟨pb, 0, none⟩)]] W fun e w' => (∃ a' c', e = .returned (.slice a' n c') ∧ SLL w' a' q) ∧ Below W.heap.size W w')) :
    Calls Tryz.prog 51 #[.agg #[.int .i64 z, .slice a n c], .string u, .slice b m d] w fun e w' => (∃ a' c', e = .returned (.slice a' n c') ∧ SLL w' a' q) ∧ Below w.heap.size w w' := by
  have hmf := hmfun
  go_enter Tryz.func51, Tryz.ntmps51
  go_wp2_with fail
  obtain ⟨U1, hU1⟩ : ∃ X, X = (w.alloc (.cells #[.int .i64 z, .slice a n c] 53)) := ⟨_, rfl⟩
  have Jg : Hid (IHolds U1 (w.heap.size) 53 [.int .i64 z, .slice a n c]) := by
    have q := IHolds.new w 53 [.int .i64 z, .slice a n c]
    show IHolds _ _ _ _
    rw [hU1]
    exact q
  have B : Hid (Below w.heap.size w U1) := by
    show Below _ _ _
    rw [hU1]
    exact ((Below.refl _ w).alloc (Nat.le_refl _) _)
  rw [← hU1]
  clear hU1
  have hb := dB U1
  replace B := aB B hb
  replace Jg := aJ Jg hb
  clear hb
  refine wp_region_held_drew (S := fun W => (IHolds W (w.heap.size) 53 [.int .i64 z, .slice a n c])) (by kernel_rfl) Jg.out (fun hHeld1 => ?_)
  generalize U1.drew = U2 at *
  refine tk (i := 0) (v := .pointer (some ⟨w.heap.size, 0, none⟩)) rfl (by kernel_rfl) (fun _ _ _ h => h) rfl ?_ hHeld1 ?_
  · intro W hS; go_simp
  simp only [Act.put, y1, y2, y3, y4, y5, y6, y7]
  refine tk (i := 2) (v := .pointer (some ⟨w.heap.size, 0, none⟩)) rfl (by kernel_rfl) (fun _ _ _ h => h) rfl ?_ hHeld1 ?_
  · intro W hS; go_simp
  simp only [Act.put, y1, y2, y3, y4, y5, y6, y7]
  refine tk (i := 5) (v := .string u) rfl (by kernel_rfl) (fun _ _ _ h => h) rfl ?_ hHeld1 ?_
  · intro W hS; go_simp
  simp only [Act.put, y1, y2, y3, y4, y5, y6, y7]
  refine tk (i := 1) (v := .agg #[.int .i64 z]) rfl (by kernel_rfl) (fun _ _ _ h => h) rfl ?_ hHeld1 ?_
  · intro W hS; obtain ⟨zg_0, zg_1⟩ := c2 hS; go_simp
  simp only [Act.put, y1, y2, y3, y4, y5, y6, y7]
  refine tk (i := 3) (v := .agg #[.int .i64 z]) rfl (by kernel_rfl) (fun _ _ _ h => h) rfl ?_ hHeld1 ?_
  · intro W hS; obtain ⟨zg_0, zg_1⟩ := c2 hS; go_simp
  simp only [Act.put, y1, y2, y3, y4, y5, y6, y7]
  refine wpAnyH_ready (rs := [4, 7]) (by kernel_rfl) (by simp) ?_
  refine AllReadyH.cons rfl (fun K hK => ?_) (AllReadyH.cons rfl (fun K hK => ?_) AllReadyH.nil)
  · clear hHeld1
    go_simp
    refine (C1.out U2).mono ?_
    rintro e U3 ⟨rfl, hb⟩
    replace B := aB B hb
    replace Jg := aJ Jg hb
    clear hb
    go_wp2_with fail
    refine hK.out _ _ (Jg.out) (fun hHeld2 => ?_)
    clear hK K
    try simp only [Act.put, y1, y2, y3, y4, y5, y6, y7]
    refine wpAnyH_ready (rs := [6, 7]) (by kernel_rfl) (by simp) ?_
    refine AllReadyH.cons rfl (fun K hK => ?_) (AllReadyH.cons rfl (fun K hK => ?_) AllReadyH.nil)
    · clear hHeld2
      go_simp
      refine (C2.out U3).mono ?_
      rintro e U4 ⟨rfl, hb⟩
      replace B := aB B hb
      replace Jg := aJ Jg hb
      clear hb
      go_wp2_with fail
      refine hK.out _ _ (Jg.out) (fun hHeld3 => ?_)
      clear hK K
      try simp only [Act.put, y1, y2, y3, y4, y5, y6, y7]
      refine wpAnyH_ready (rs := [7]) (by kernel_rfl) (by simp) ?_
      refine AllReadyH.cons rfl (fun K hK => ?_) AllReadyH.nil
      clear hHeld3
      go_simp
      have ne_g_p := nJ Jg
      have ge_p : Hid (w.heap.size ≤ U4.heap.size) := B.out.size
      have hb := nB U4 (.cells #[.string ⟨#[]⟩] 9)
      have Jp : Hid (IHolds (U4.alloc (.cells #[.string ⟨#[]⟩] 9)) U4.heap.size 9 [.string ⟨#[]⟩]) := IHolds.new _ _ _
      replace B := aB B hb
      replace Jg := aJ Jg hb
      clear hb
      generalize (U4.alloc (.cells #[.string ⟨#[]⟩] 9)) = U5 at *
      generalize U4.heap.size = b6 at *
      refine hK.out _ _ (Jg.out) (fun hHeld4 => ?_)
      clear hK K
      try simp only [Act.put, y1, y2, y3, y4, y5, y6, y7]
      refine wpAnyH_ready (rs := [8]) (by kernel_rfl) (by simp) ?_
      refine AllReadyH.cons rfl (fun K hK => ?_) AllReadyH.nil
      clear hHeld4
      have zp_0 : U5.cell? ⟨b6, 0, none⟩ = some (.string ⟨#[]⟩) := IHolds.cell (l := [.string ⟨#[]⟩]) (t := 9) (b := b6) (w := U5) (Jp.out) 0 (by simp)
      have f0 := fJ Jp
      have hBut : But (b6) U5 (U5.setCell ⟨b6, 0, none⟩ (.string r)) := ((But.refl _ U5).setCell 0 (.string r))
      have I4 : Hid (IHolds _ (b6) 9 [.string r]) := (Jp.out.set 0 (.string r))
      replace B : Hid (Below w.heap.size w (U5.setCell ⟨b6, 0, none⟩ (.string r))) := (B.out.setCell (by first | exact Nat.le_refl _ | exact ge_p.out | (show w.heap.size ≤ b6; omega)) _)
      replace Jg := tJ Jg hBut ne_g_p.out
      replace Jp := I4
      clear I4 hBut
      go_simp
      try go_wp2_with fail
      clear zp_0
      clear f0
      generalize (U5.setCell ⟨b6, 0, none⟩ (.string r)) = U7 at *
      refine hK.out _ _ (Jg.out) (fun hHeld5 => ?_)
      clear hK K
      try simp only [Act.put, y1, y2, y3, y4, y5, y6, y7]
      refine wpAnyH_done (by kernel_rfl) ?_ _
      clear hHeld5
      obtain ⟨zg_0, zg_1⟩ := cJ Jg
      go_wp2_with fail
      refine (C3.out _ _ B.out Jg.out Jp.out).mono ?_
      rintro e wz ⟨⟨a', c', rfl, hs1⟩, hB1⟩
      have BZ : Hid (Below w.heap.size w wz) := aB B hB1
      clear hB1
      go_wp2_with fail
      go_ret
      exact ⟨⟨a', c', rfl, hs1⟩, BZ.out⟩
    · clear hHeld2
      go_simp
      have ne_g_p := nJ Jg
      have ge_p : Hid (w.heap.size ≤ U3.heap.size) := B.out.size
      have hb := nB U3 (.cells #[.string ⟨#[]⟩] 9)
      have Jp : Hid (IHolds (U3.alloc (.cells #[.string ⟨#[]⟩] 9)) U3.heap.size 9 [.string ⟨#[]⟩]) := IHolds.new _ _ _
      replace B := aB B hb
      replace Jg := aJ Jg hb
      clear hb
      generalize (U3.alloc (.cells #[.string ⟨#[]⟩] 9)) = U8 at *
      generalize U3.heap.size = b9 at *
      refine hK.out _ _ (Jg.out) (fun hHeld6 => ?_)
      clear hK K
      try simp only [Act.put, y1, y2, y3, y4, y5, y6, y7]
      refine wpAnyH_ready (rs := [6]) (by kernel_rfl) (by simp) ?_
      refine AllReadyH.cons rfl (fun K hK => ?_) AllReadyH.nil
      clear hHeld6
      go_simp
      refine (C2.out U8).mono ?_
      rintro e U10 ⟨rfl, hb⟩
      replace B := aB B hb
      replace Jg := aJ Jg hb
      replace Jp := aJ Jp hb
      clear hb
      go_wp2_with fail
      refine hK.out _ _ (Jg.out) (fun hHeld7 => ?_)
      clear hK K
      try simp only [Act.put, y1, y2, y3, y4, y5, y6, y7]
      refine wpAnyH_ready (rs := [8]) (by kernel_rfl) (by simp) ?_
      refine AllReadyH.cons rfl (fun K hK => ?_) AllReadyH.nil
      clear hHeld7
      have zp_0 : U10.cell? ⟨b9, 0, none⟩ = some (.string ⟨#[]⟩) := IHolds.cell (l := [.string ⟨#[]⟩]) (t := 9) (b := b9) (w := U10) (Jp.out) 0 (by simp)
      have f0 := fJ Jp
      have hBut : But (b9) U10 (U10.setCell ⟨b9, 0, none⟩ (.string r)) := ((But.refl _ U10).setCell 0 (.string r))
      have I4 : Hid (IHolds _ (b9) 9 [.string r]) := (Jp.out.set 0 (.string r))
      replace B : Hid (Below w.heap.size w (U10.setCell ⟨b9, 0, none⟩ (.string r))) := (B.out.setCell (by first | exact Nat.le_refl _ | exact ge_p.out | (show w.heap.size ≤ b9; omega)) _)
      replace Jg := tJ Jg hBut ne_g_p.out
      replace Jp := I4
      clear I4 hBut
      go_simp
      try go_wp2_with fail
      clear zp_0
      clear f0
      generalize (U10.setCell ⟨b9, 0, none⟩ (.string r)) = U11 at *
      refine hK.out _ _ (Jg.out) (fun hHeld8 => ?_)
      clear hK K
      try simp only [Act.put, y1, y2, y3, y4, y5, y6, y7]
      refine wpAnyH_done (by kernel_rfl) ?_ _
      clear hHeld8
      obtain ⟨zg_0, zg_1⟩ := cJ Jg
      go_wp2_with fail
      refine (C3.out _ _ B.out Jg.out Jp.out).mono ?_
      rintro e wz ⟨⟨a', c', rfl, hs1⟩, hB1⟩
      have BZ : Hid (Below w.heap.size w wz) := aB B hB1
      clear hB1
      go_wp2_with fail
      go_ret
      exact ⟨⟨a', c', rfl, hs1⟩, BZ.out⟩
  · clear hHeld1
    go_simp
    have ne_g_p := nJ Jg
    have ge_p : Hid (w.heap.size ≤ U2.heap.size) := B.out.size
    have hb := nB U2 (.cells #[.string ⟨#[]⟩] 9)
    have Jp : Hid (IHolds (U2.alloc (.cells #[.string ⟨#[]⟩] 9)) U2.heap.size 9 [.string ⟨#[]⟩]) := IHolds.new _ _ _
    replace B := aB B hb
    replace Jg := aJ Jg hb
    clear hb
    generalize (U2.alloc (.cells #[.string ⟨#[]⟩] 9)) = U12 at *
    generalize U2.heap.size = b13 at *
    refine hK.out _ _ (Jg.out) (fun hHeld9 => ?_)
    clear hK K
    try simp only [Act.put, y1, y2, y3, y4, y5, y6, y7]
    refine wpAnyH_ready (rs := [4]) (by kernel_rfl) (by simp) ?_
    refine AllReadyH.cons rfl (fun K hK => ?_) AllReadyH.nil
    clear hHeld9
    go_simp
    refine (C1.out U12).mono ?_
    rintro e U14 ⟨rfl, hb⟩
    replace B := aB B hb
    replace Jg := aJ Jg hb
    replace Jp := aJ Jp hb
    clear hb
    go_wp2_with fail
    refine hK.out _ _ (Jg.out) (fun hHeld10 => ?_)
    clear hK K
    try simp only [Act.put, y1, y2, y3, y4, y5, y6, y7]
    refine wpAnyH_ready (rs := [6]) (by kernel_rfl) (by simp) ?_
    refine AllReadyH.cons rfl (fun K hK => ?_) AllReadyH.nil
    clear hHeld10
    go_simp
    refine (C2.out U14).mono ?_
    rintro e U15 ⟨rfl, hb⟩
    replace B := aB B hb
    replace Jg := aJ Jg hb
    replace Jp := aJ Jp hb
    clear hb
    go_wp2_with fail
    refine hK.out _ _ (Jg.out) (fun hHeld11 => ?_)
    clear hK K
    try simp only [Act.put, y1, y2, y3, y4, y5, y6, y7]
    refine wpAnyH_ready (rs := [8]) (by kernel_rfl) (by simp) ?_
    refine AllReadyH.cons rfl (fun K hK => ?_) AllReadyH.nil
    clear hHeld11
    have zp_0 : U15.cell? ⟨b13, 0, none⟩ = some (.string ⟨#[]⟩) := IHolds.cell (l := [.string ⟨#[]⟩]) (t := 9) (b := b13) (w := U15) (Jp.out) 0 (by simp)
    have f0 := fJ Jp
    have hBut : But (b13) U15 (U15.setCell ⟨b13, 0, none⟩ (.string r)) := ((But.refl _ U15).setCell 0 (.string r))
    have I4 : Hid (IHolds _ (b13) 9 [.string r]) := (Jp.out.set 0 (.string r))
    replace B : Hid (Below w.heap.size w (U15.setCell ⟨b13, 0, none⟩ (.string r))) := (B.out.setCell (by first | exact Nat.le_refl _ | exact ge_p.out | (show w.heap.size ≤ b13; omega)) _)
    replace Jg := tJ Jg hBut ne_g_p.out
    replace Jp := I4
    clear I4 hBut
    go_simp
    try go_wp2_with fail
    clear zp_0
    clear f0
    generalize (U15.setCell ⟨b13, 0, none⟩ (.string r)) = U16 at *
    refine hK.out _ _ (Jg.out) (fun hHeld12 => ?_)
    clear hK K
    try simp only [Act.put, y1, y2, y3, y4, y5, y6, y7]
    refine wpAnyH_done (by kernel_rfl) ?_ _
    clear hHeld12
    obtain ⟨zg_0, zg_1⟩ := cJ Jg
    go_wp2_with fail
    refine (C3.out _ _ B.out Jg.out Jp.out).mono ?_
    rintro e wz ⟨⟨a', c', rfl, hs1⟩, hB1⟩
    have BZ : Hid (Below w.heap.size w wz) := aB B hB1
    clear hB1
    go_wp2_with fail
    go_ret
    exact ⟨⟨a', c', rfl, hs1⟩, BZ.out⟩
end Go.Proofs.YtmpiipcllgjhdaaGreatDoor
namespace Go.Proofs.YtmpiipcllgjhdaaGreatDoor
open Go.RowKit Go.Deep Go.PlainAid

end Go.Proofs.YtmpiipcllgjhdaaGreatDoor
namespace Go.Proofs.YtmpiipcllgjhdaaGreatDoor
open Go.RowKit Go.Deep Go.PlainAid

set_option maxHeartbeats 2000000 in
theorem set18_A {w : World} {a : Option Addr} {n c : Nat} {z : Int} (g1 : (64 : Int) < (n : Int))  :
    Calls Tryz.prog 40 #[.agg #[.int .i64 z], .slice a n c] w fun e w' => e = .returned (.tuple #[.agg #[.int .i64 0, .slice none 0 0], .int .i64 3]) ∧ Below w.heap.size w w' := by
  have hmf : ∀ (fn : Fn) (first cap : Array Value) (w : World), (Instr.makeFunc fn first cap).run Tryz.prog w = .ok (.func fn first cap) w := fun _ _ _ _ => rfl
  generalize hW : (w.alloc (.cells #[.int .i64 z] 51)).alloc (.cells #[.int .i64 0, .slice none 0 0] 53) = U
  have B : Hid (Below w.heap.size w U) := by rw [← hW]; exact ((Below.refl _ w).alloc (Nat.le_refl _) _).alloc (by simp) _
  have J0 : Hid (IHolds U w.heap.size 51 [.int .i64 z]) := by rw [← hW]; exact (IHolds.new w 51 [.int .i64 z]).alloc _
  have K0 : Hid (IHolds U (w.heap.size + 1) 53 [.int .i64 0, .slice none 0 0]) := by rw [← hW]; exact IHolds.new' _ 53 [_, _] (by simp)
  go_enter Tryz.func40, Tryz.ntmps40
  have r0 : U.cell? ⟨w.heap.size + 1, 0, none⟩ = some (.int .i64 0) := K0.out.cell 0 (by simp)
  have s0 : U.cell? ⟨w.heap.size + 1, 1, none⟩ = some (.slice none 0 0) := K0.out.cell 1 (by simp)
  have f0 := K0.out.frozen
  go_wp2_with fail
  have I9 : Hid (IHolds ((U.setCell ⟨w.heap.size + 1, 0, none⟩ (.int .i64 0)).setCell ⟨w.heap.size + 1, 1, none⟩ (.slice none 0 0)) (w.heap.size + 1) 53 [.int .i64 0, .slice none 0 0]) := (K0.out.set 0 (.int .i64 0)).set 1 (.slice none 0 0)
  have B9 : Hid (Below w.heap.size w ((U.setCell ⟨w.heap.size + 1, 0, none⟩ (.int .i64 0)).setCell ⟨w.heap.size + 1, 1, none⟩ (.slice none 0 0))) := (B.out.setCell (by simp) _).setCell (by simp) _
  generalize (U.setCell ⟨w.heap.size + 1, 0, none⟩ (.int .i64 0)).setCell ⟨w.heap.size + 1, 1, none⟩ (.slice none 0 0) = w9 at *
  have E0 : w9.cell? ⟨w.heap.size + 1, 0, none⟩ = some (.int .i64 0) := I9.out.cell 0 (by simp)
  have E1 : w9.cell? ⟨w.heap.size + 1, 1, none⟩ = some (.slice none 0 0) := I9.out.cell 1 (by simp)
  exact bodyPost_ret (v := .tuple #[.agg #[.int .i64 0, .slice none 0 0], .int .i64 3]) (by simp [results, Tryz.results40, go_sem, E0, E1]) rfl ⟨rfl, B9.out⟩
set_option maxHeartbeats 2000000 in
theorem set18_B {w : World} {a : Option Addr} {n c : Nat} {z : Int} (g1 : ¬ (64 : Int) < (n : Int)) (H1 : Hid (∀ W, Below w.heap.size w W → Calls Tryz.prog 71 #[.slice a n c, .func (.func 72) #[] #[]] W fun e w' => e = .returned (.bool true) ∧ Below W.heap.size W w')) :
    Calls Tryz.prog 40 #[.agg #[.int .i64 z], .slice a n c] w fun e w' => e = .returned (.tuple #[.agg #[.int .i64 0, .slice none 0 0], .int .i64 3]) ∧ Below w.heap.size w w' := by
  have hmf : ∀ (fn : Fn) (first cap : Array Value) (w : World), (Instr.makeFunc fn first cap).run Tryz.prog w = .ok (.func fn first cap) w := fun _ _ _ _ => rfl
  generalize hW : (w.alloc (.cells #[.int .i64 z] 51)).alloc (.cells #[.int .i64 0, .slice none 0 0] 53) = U
  have B : Hid (Below w.heap.size w U) := by rw [← hW]; exact ((Below.refl _ w).alloc (Nat.le_refl _) _).alloc (by simp) _
  have J0 : Hid (IHolds U w.heap.size 51 [.int .i64 z]) := by rw [← hW]; exact (IHolds.new w 51 [.int .i64 z]).alloc _
  have K0 : Hid (IHolds U (w.heap.size + 1) 53 [.int .i64 0, .slice none 0 0]) := by rw [← hW]; exact IHolds.new' _ 53 [_, _] (by simp)
  go_enter Tryz.func40, Tryz.ntmps40
  have r0 : U.cell? ⟨w.heap.size + 1, 0, none⟩ = some (.int .i64 0) := K0.out.cell 0 (by simp)
  have s0 : U.cell? ⟨w.heap.size + 1, 1, none⟩ = some (.slice none 0 0) := K0.out.cell 1 (by simp)
  have f0 := K0.out.frozen
  go_wp2_with (go_at_call 71; first
    | (have zz := B.out; clear zz; refine (H1.out _ B.out).mono ?_; rintro e w1 ⟨rfl, hB1⟩; have B1 : Hid (Below w.heap.size w w1) := B.out.trans (hB1.mono B.out.size); have J1 : Hid (IHolds w1 w.heap.size 51 [.int .i64 z]) := J0.out.of_below hB1; have K1 : Hid (IHolds w1 (w.heap.size + 1) 53 [.int .i64 0, .slice none 0 0]) := K0.out.of_below hB1; have q1 : w1.cell? ⟨w.heap.size, 0, none⟩ = some (.int .i64 z) := J1.out.cell 0 (by simp); have r1 : w1.cell? ⟨w.heap.size + 1, 0, none⟩ = some (.int .i64 0) := K1.out.cell 0 (by simp); have s1 : w1.cell? ⟨w.heap.size + 1, 1, none⟩ = some (.slice none 0 0) := K1.out.cell 1 (by simp); have f1 := K1.out.frozen; clear hB1 H1 B))
  have I9 : Hid (IHolds ((w1.setCell ⟨w.heap.size + 1, 0, none⟩ (.int .i64 0)).setCell ⟨w.heap.size + 1, 1, none⟩ (.slice none 0 0)) (w.heap.size + 1) 53 [.int .i64 0, .slice none 0 0]) := (K1.out.set 0 (.int .i64 0)).set 1 (.slice none 0 0)
  have B9 : Hid (Below w.heap.size w ((w1.setCell ⟨w.heap.size + 1, 0, none⟩ (.int .i64 0)).setCell ⟨w.heap.size + 1, 1, none⟩ (.slice none 0 0))) := (B1.out.setCell (by simp) _).setCell (by simp) _
  generalize (w1.setCell ⟨w.heap.size + 1, 0, none⟩ (.int .i64 0)).setCell ⟨w.heap.size + 1, 1, none⟩ (.slice none 0 0) = w9 at *
  have E0 : w9.cell? ⟨w.heap.size + 1, 0, none⟩ = some (.int .i64 0) := I9.out.cell 0 (by simp)
  have E1 : w9.cell? ⟨w.heap.size + 1, 1, none⟩ = some (.slice none 0 0) := I9.out.cell 1 (by simp)
  exact bodyPost_ret (v := .tuple #[.agg #[.int .i64 0, .slice none 0 0], .int .i64 3]) (by simp [results, Tryz.results40, go_sem, E0, E1]) rfl ⟨rfl, B9.out⟩
set_option maxHeartbeats 2000000 in
theorem set18_C {w : World} {a : Option Addr} {n c : Nat} {z : Int} (g1 : ¬ (64 : Int) < (n : Int)) (g2 : ((n : Int) == 0) = true) (H1 : Hid (∀ W, Below w.heap.size w W → Calls Tryz.prog 71 #[.slice a n c, .func (.func 72) #[] #[]] W fun e w' => e = .returned (.bool false) ∧ Below W.heap.size W w')) :
    Calls Tryz.prog 40 #[.agg #[.int .i64 z], .slice a n c] w fun e w' => e = .returned (.tuple #[.agg #[.int .i64 0, .slice none 0 0], .int .i64 2]) ∧ Below w.heap.size w w' := by
  have hmf : ∀ (fn : Fn) (first cap : Array Value) (w : World), (Instr.makeFunc fn first cap).run Tryz.prog w = .ok (.func fn first cap) w := fun _ _ _ _ => rfl
  generalize hW : (w.alloc (.cells #[.int .i64 z] 51)).alloc (.cells #[.int .i64 0, .slice none 0 0] 53) = U
  have B : Hid (Below w.heap.size w U) := by rw [← hW]; exact ((Below.refl _ w).alloc (Nat.le_refl _) _).alloc (by simp) _
  have J0 : Hid (IHolds U w.heap.size 51 [.int .i64 z]) := by rw [← hW]; exact (IHolds.new w 51 [.int .i64 z]).alloc _
  have K0 : Hid (IHolds U (w.heap.size + 1) 53 [.int .i64 0, .slice none 0 0]) := by rw [← hW]; exact IHolds.new' _ 53 [_, _] (by simp)
  go_enter Tryz.func40, Tryz.ntmps40
  have r0 : U.cell? ⟨w.heap.size + 1, 0, none⟩ = some (.int .i64 0) := K0.out.cell 0 (by simp)
  have s0 : U.cell? ⟨w.heap.size + 1, 1, none⟩ = some (.slice none 0 0) := K0.out.cell 1 (by simp)
  have f0 := K0.out.frozen
  go_wp2_with (go_at_call 71; first
    | (have zz := B.out; clear zz; refine (H1.out _ B.out).mono ?_; rintro e w1 ⟨rfl, hB1⟩; have B1 : Hid (Below w.heap.size w w1) := B.out.trans (hB1.mono B.out.size); have J1 : Hid (IHolds w1 w.heap.size 51 [.int .i64 z]) := J0.out.of_below hB1; have K1 : Hid (IHolds w1 (w.heap.size + 1) 53 [.int .i64 0, .slice none 0 0]) := K0.out.of_below hB1; have q1 : w1.cell? ⟨w.heap.size, 0, none⟩ = some (.int .i64 z) := J1.out.cell 0 (by simp); have r1 : w1.cell? ⟨w.heap.size + 1, 0, none⟩ = some (.int .i64 0) := K1.out.cell 0 (by simp); have s1 : w1.cell? ⟨w.heap.size + 1, 1, none⟩ = some (.slice none 0 0) := K1.out.cell 1 (by simp); have f1 := K1.out.frozen; clear hB1 H1 B))
  have I9 : Hid (IHolds ((w1.setCell ⟨w.heap.size + 1, 0, none⟩ (.int .i64 0)).setCell ⟨w.heap.size + 1, 1, none⟩ (.slice none 0 0)) (w.heap.size + 1) 53 [.int .i64 0, .slice none 0 0]) := (K1.out.set 0 (.int .i64 0)).set 1 (.slice none 0 0)
  have B9 : Hid (Below w.heap.size w ((w1.setCell ⟨w.heap.size + 1, 0, none⟩ (.int .i64 0)).setCell ⟨w.heap.size + 1, 1, none⟩ (.slice none 0 0))) := (B1.out.setCell (by simp) _).setCell (by simp) _
  generalize (w1.setCell ⟨w.heap.size + 1, 0, none⟩ (.int .i64 0)).setCell ⟨w.heap.size + 1, 1, none⟩ (.slice none 0 0) = w9 at *
  have E0 : w9.cell? ⟨w.heap.size + 1, 0, none⟩ = some (.int .i64 0) := I9.out.cell 0 (by simp)
  have E1 : w9.cell? ⟨w.heap.size + 1, 1, none⟩ = some (.slice none 0 0) := I9.out.cell 1 (by simp)
  exact bodyPost_ret (v := .tuple #[.agg #[.int .i64 0, .slice none 0 0], .int .i64 2]) (by simp [results, Tryz.results40, go_sem, E0, E1]) rfl ⟨rfl, B9.out⟩
set_option maxHeartbeats 2000000 in
theorem set18_D {w : World} {a : Option Addr} {n c : Nat} {z : Int} (g1 : ¬ (64 : Int) < (n : Int)) (g2 : ((n : Int) == 0) = false) (H1 : Hid (∀ W, Below w.heap.size w W → Calls Tryz.prog 71 #[.slice a n c, .func (.func 72) #[] #[]] W fun e w' => e = .returned (.bool false) ∧ Below W.heap.size W w')) (H2 : Hid (∀ W, Below w.heap.size w W → Calls Tryz.prog 71 #[.slice a n c, .func (.func 73) #[] #[]] W fun e w' => e = .returned (.bool true) ∧ Below W.heap.size W w')) :
    Calls Tryz.prog 40 #[.agg #[.int .i64 z], .slice a n c] w fun e w' => e = .returned (.tuple #[.agg #[.int .i64 0, .slice none 0 0], .int .i64 2]) ∧ Below w.heap.size w w' := by
  have hmf : ∀ (fn : Fn) (first cap : Array Value) (w : World), (Instr.makeFunc fn first cap).run Tryz.prog w = .ok (.func fn first cap) w := fun _ _ _ _ => rfl
  generalize hW : (w.alloc (.cells #[.int .i64 z] 51)).alloc (.cells #[.int .i64 0, .slice none 0 0] 53) = U
  have B : Hid (Below w.heap.size w U) := by rw [← hW]; exact ((Below.refl _ w).alloc (Nat.le_refl _) _).alloc (by simp) _
  have J0 : Hid (IHolds U w.heap.size 51 [.int .i64 z]) := by rw [← hW]; exact (IHolds.new w 51 [.int .i64 z]).alloc _
  have K0 : Hid (IHolds U (w.heap.size + 1) 53 [.int .i64 0, .slice none 0 0]) := by rw [← hW]; exact IHolds.new' _ 53 [_, _] (by simp)
  go_enter Tryz.func40, Tryz.ntmps40
  have r0 : U.cell? ⟨w.heap.size + 1, 0, none⟩ = some (.int .i64 0) := K0.out.cell 0 (by simp)
  have s0 : U.cell? ⟨w.heap.size + 1, 1, none⟩ = some (.slice none 0 0) := K0.out.cell 1 (by simp)
  have f0 := K0.out.frozen
  go_wp2_with (go_at_call 71; first
    | (have zz := B.out; clear zz; refine (H1.out _ B.out).mono ?_; rintro e w1 ⟨rfl, hB1⟩; have B1 : Hid (Below w.heap.size w w1) := B.out.trans (hB1.mono B.out.size); have J1 : Hid (IHolds w1 w.heap.size 51 [.int .i64 z]) := J0.out.of_below hB1; have K1 : Hid (IHolds w1 (w.heap.size + 1) 53 [.int .i64 0, .slice none 0 0]) := K0.out.of_below hB1; have q1 : w1.cell? ⟨w.heap.size, 0, none⟩ = some (.int .i64 z) := J1.out.cell 0 (by simp); have r1 : w1.cell? ⟨w.heap.size + 1, 0, none⟩ = some (.int .i64 0) := K1.out.cell 0 (by simp); have s1 : w1.cell? ⟨w.heap.size + 1, 1, none⟩ = some (.slice none 0 0) := K1.out.cell 1 (by simp); have f1 := K1.out.frozen; clear hB1 H1 B)
    | (have zz := B1.out; clear zz; refine (H2.out _ B1.out).mono ?_; rintro e w2 ⟨rfl, hB2⟩; have B2 : Hid (Below w.heap.size w w2) := B1.out.trans (hB2.mono B1.out.size); have J2 : Hid (IHolds w2 w.heap.size 51 [.int .i64 z]) := J1.out.of_below hB2; have K2 : Hid (IHolds w2 (w.heap.size + 1) 53 [.int .i64 0, .slice none 0 0]) := K1.out.of_below hB2; have q2 : w2.cell? ⟨w.heap.size, 0, none⟩ = some (.int .i64 z) := J2.out.cell 0 (by simp); have r2 : w2.cell? ⟨w.heap.size + 1, 0, none⟩ = some (.int .i64 0) := K2.out.cell 0 (by simp); have s2 : w2.cell? ⟨w.heap.size + 1, 1, none⟩ = some (.slice none 0 0) := K2.out.cell 1 (by simp); have f2 := K2.out.frozen; clear hB2 H2 B1))
  have I9 : Hid (IHolds ((w2.setCell ⟨w.heap.size + 1, 0, none⟩ (.int .i64 0)).setCell ⟨w.heap.size + 1, 1, none⟩ (.slice none 0 0)) (w.heap.size + 1) 53 [.int .i64 0, .slice none 0 0]) := (K2.out.set 0 (.int .i64 0)).set 1 (.slice none 0 0)
  have B9 : Hid (Below w.heap.size w ((w2.setCell ⟨w.heap.size + 1, 0, none⟩ (.int .i64 0)).setCell ⟨w.heap.size + 1, 1, none⟩ (.slice none 0 0))) := (B2.out.setCell (by simp) _).setCell (by simp) _
  generalize (w2.setCell ⟨w.heap.size + 1, 0, none⟩ (.int .i64 0)).setCell ⟨w.heap.size + 1, 1, none⟩ (.slice none 0 0) = w9 at *
  have E0 : w9.cell? ⟨w.heap.size + 1, 0, none⟩ = some (.int .i64 0) := I9.out.cell 0 (by simp)
  have E1 : w9.cell? ⟨w.heap.size + 1, 1, none⟩ = some (.slice none 0 0) := I9.out.cell 1 (by simp)
  exact bodyPost_ret (v := .tuple #[.agg #[.int .i64 0, .slice none 0 0], .int .i64 2]) (by simp [results, Tryz.results40, go_sem, E0, E1]) rfl ⟨rfl, B9.out⟩
set_option maxHeartbeats 2000000 in
theorem set18_E {w : World} {a : Option Addr} {n c : Nat} {z : Int} (g1 : ¬ (64 : Int) < (n : Int)) (g2 : ((n : Int) == 0) = false) (H1 : Hid (∀ W, Below w.heap.size w W → Calls Tryz.prog 71 #[.slice a n c, .func (.func 72) #[] #[]] W fun e w' => e = .returned (.bool false) ∧ Below W.heap.size W w')) (H2 : Hid (∀ W, Below w.heap.size w W → Calls Tryz.prog 71 #[.slice a n c, .func (.func 73) #[] #[]] W fun e w' => e = .returned (.bool false) ∧ Below W.heap.size W w')) (H3 : Hid (∀ W, Below w.heap.size w W → Calls Tryz.prog 71 #[.slice a n c, .func (.func 74) #[.agg #[.int .i64 z]] #[]] W fun e w' => e = .returned (.bool true) ∧ Below W.heap.size W w')) :
    Calls Tryz.prog 40 #[.agg #[.int .i64 z], .slice a n c] w fun e w' => e = .returned (.tuple #[.agg #[.int .i64 0, .slice none 0 0], .int .i64 7]) ∧ Below w.heap.size w w' := by
  have hmf : ∀ (fn : Fn) (first cap : Array Value) (w : World), (Instr.makeFunc fn first cap).run Tryz.prog w = .ok (.func fn first cap) w := fun _ _ _ _ => rfl
  generalize hW : (w.alloc (.cells #[.int .i64 z] 51)).alloc (.cells #[.int .i64 0, .slice none 0 0] 53) = U
  have B : Hid (Below w.heap.size w U) := by rw [← hW]; exact ((Below.refl _ w).alloc (Nat.le_refl _) _).alloc (by simp) _
  have J0 : Hid (IHolds U w.heap.size 51 [.int .i64 z]) := by rw [← hW]; exact (IHolds.new w 51 [.int .i64 z]).alloc _
  have K0 : Hid (IHolds U (w.heap.size + 1) 53 [.int .i64 0, .slice none 0 0]) := by rw [← hW]; exact IHolds.new' _ 53 [_, _] (by simp)
  go_enter Tryz.func40, Tryz.ntmps40
  have r0 : U.cell? ⟨w.heap.size + 1, 0, none⟩ = some (.int .i64 0) := K0.out.cell 0 (by simp)
  have s0 : U.cell? ⟨w.heap.size + 1, 1, none⟩ = some (.slice none 0 0) := K0.out.cell 1 (by simp)
  have f0 := K0.out.frozen
  go_wp2_with (go_at_call 71; first
    | (have zz := B.out; clear zz; refine (H1.out _ B.out).mono ?_; rintro e w1 ⟨rfl, hB1⟩; have B1 : Hid (Below w.heap.size w w1) := B.out.trans (hB1.mono B.out.size); have J1 : Hid (IHolds w1 w.heap.size 51 [.int .i64 z]) := J0.out.of_below hB1; have K1 : Hid (IHolds w1 (w.heap.size + 1) 53 [.int .i64 0, .slice none 0 0]) := K0.out.of_below hB1; have q1 : w1.cell? ⟨w.heap.size, 0, none⟩ = some (.int .i64 z) := J1.out.cell 0 (by simp); have r1 : w1.cell? ⟨w.heap.size + 1, 0, none⟩ = some (.int .i64 0) := K1.out.cell 0 (by simp); have s1 : w1.cell? ⟨w.heap.size + 1, 1, none⟩ = some (.slice none 0 0) := K1.out.cell 1 (by simp); have f1 := K1.out.frozen; clear hB1 H1 B)
    | (have zz := B1.out; clear zz; refine (H2.out _ B1.out).mono ?_; rintro e w2 ⟨rfl, hB2⟩; have B2 : Hid (Below w.heap.size w w2) := B1.out.trans (hB2.mono B1.out.size); have J2 : Hid (IHolds w2 w.heap.size 51 [.int .i64 z]) := J1.out.of_below hB2; have K2 : Hid (IHolds w2 (w.heap.size + 1) 53 [.int .i64 0, .slice none 0 0]) := K1.out.of_below hB2; have q2 : w2.cell? ⟨w.heap.size, 0, none⟩ = some (.int .i64 z) := J2.out.cell 0 (by simp); have r2 : w2.cell? ⟨w.heap.size + 1, 0, none⟩ = some (.int .i64 0) := K2.out.cell 0 (by simp); have s2 : w2.cell? ⟨w.heap.size + 1, 1, none⟩ = some (.slice none 0 0) := K2.out.cell 1 (by simp); have f2 := K2.out.frozen; clear hB2 H2 B1)
    | (have zz := B2.out; clear zz; refine (H3.out _ B2.out).mono ?_; rintro e w3 ⟨rfl, hB3⟩; have B3 : Hid (Below w.heap.size w w3) := B2.out.trans (hB3.mono B2.out.size); have J3 : Hid (IHolds w3 w.heap.size 51 [.int .i64 z]) := J2.out.of_below hB3; have K3 : Hid (IHolds w3 (w.heap.size + 1) 53 [.int .i64 0, .slice none 0 0]) := K2.out.of_below hB3; have q3 : w3.cell? ⟨w.heap.size, 0, none⟩ = some (.int .i64 z) := J3.out.cell 0 (by simp); have r3 : w3.cell? ⟨w.heap.size + 1, 0, none⟩ = some (.int .i64 0) := K3.out.cell 0 (by simp); have s3 : w3.cell? ⟨w.heap.size + 1, 1, none⟩ = some (.slice none 0 0) := K3.out.cell 1 (by simp); have f3 := K3.out.frozen; clear hB3 H3 B2))
  have I9 : Hid (IHolds ((w3.setCell ⟨w.heap.size + 1, 0, none⟩ (.int .i64 0)).setCell ⟨w.heap.size + 1, 1, none⟩ (.slice none 0 0)) (w.heap.size + 1) 53 [.int .i64 0, .slice none 0 0]) := (K3.out.set 0 (.int .i64 0)).set 1 (.slice none 0 0)
  have B9 : Hid (Below w.heap.size w ((w3.setCell ⟨w.heap.size + 1, 0, none⟩ (.int .i64 0)).setCell ⟨w.heap.size + 1, 1, none⟩ (.slice none 0 0))) := (B3.out.setCell (by simp) _).setCell (by simp) _
  generalize (w3.setCell ⟨w.heap.size + 1, 0, none⟩ (.int .i64 0)).setCell ⟨w.heap.size + 1, 1, none⟩ (.slice none 0 0) = w9 at *
  have E0 : w9.cell? ⟨w.heap.size + 1, 0, none⟩ = some (.int .i64 0) := I9.out.cell 0 (by simp)
  have E1 : w9.cell? ⟨w.heap.size + 1, 1, none⟩ = some (.slice none 0 0) := I9.out.cell 1 (by simp)
  exact bodyPost_ret (v := .tuple #[.agg #[.int .i64 0, .slice none 0 0], .int .i64 7]) (by simp [results, Tryz.results40, go_sem, E0, E1]) rfl ⟨rfl, B9.out⟩
set_option maxHeartbeats 2000000 in
theorem setOf9_bad {w : World} {a : Option Addr} {n c : Nat} {z k : Int} (CG : ∀ W, Calls Tryz.prog 39 #[.int .i64 z] W fun e w' => e = .returned (.tuple #[.agg #[.int .i64 z], .int .i64 0]) ∧ Below W.heap.size W w')
    (CS : ∀ W, Below w.heap.size w W → Calls Tryz.prog 40 #[.agg #[.int .i64 z], .slice a n c] W fun e w' => e = .returned (.tuple #[.agg #[.int .i64 0, .slice none 0 0], .int .i64 k]) ∧ Below W.heap.size W w') :
    Calls Tryz.prog 18 #[.int .i64 z, .slice a n c] w fun e w' => e = .returned (.tuple #[.agg #[.int .i64 0, .slice none 0 0], .int .i64 k]) ∧ Below w.heap.size w w' := by
  have HG : Hid _ := CG
  have HC : Hid _ := CS
  clear CG CS
  generalize hW : w.alloc (.cells #[.int .i64 0, .slice none 0 0] 53) = U
  have B : Hid (Below w.heap.size w U) := by rw [← hW]; exact (Below.refl _ w).alloc (Nat.le_refl _) _
  have I0 : Hid (IHolds U w.heap.size 53 [.int .i64 0, .slice none 0 0]) := by rw [← hW]; exact IHolds.new w 53 [.int .i64 0, .slice none 0 0]
  go_enter Tryz.func18, Tryz.ntmps18
  go_wp2_with (first
    | (go_at_call 39; refine (HG.out _).mono ?_; rintro e w1 ⟨rfl, hB1⟩; have B1 : Hid (Below w.heap.size w (w1.alloc (.cells #[.int .i64 z] 51))) := (B.out.trans (hB1.mono B.out.size)).alloc (B.out.trans (hB1.mono B.out.size)).size _; have J0 : Hid (IHolds (w1.alloc (.cells #[.int .i64 z] 51)) w.heap.size 53 [.int .i64 0, .slice none 0 0]) := (I0.out.of_below hB1).alloc _; clear hB1 HG)
    | (go_at_call 40; refine (HC.out _ B1.out).mono ?_; rintro e w2 ⟨rfl, hB2⟩; have B2 : Hid (Below w.heap.size w w2) := B1.out.trans (hB2.mono B1.out.size); have K0 : Hid (IHolds w2 w.heap.size 53 [.int .i64 0, .slice none 0 0]) := J0.out.of_below hB2; have q0 : w2.cell? ⟨w.heap.size, 0, none⟩ = some (.int .i64 0) := K0.out.cell 0 (by simp); have q1 : w2.cell? ⟨w.heap.size, 1, none⟩ = some (.slice none 0 0) := K0.out.cell 1 (by simp); have f := K0.out.frozen; clear hB2 HC))
  have I9 : Hid (IHolds ((w2.setCell ⟨w.heap.size, 0, none⟩ (.int .i64 0)).setCell ⟨w.heap.size, 1, none⟩ (.slice none 0 0)) w.heap.size 53 [.int .i64 0, .slice none 0 0]) := (K0.out.set 0 (.int .i64 0)).set 1 (.slice none 0 0)
  have B9 : Hid (Below w.heap.size w ((w2.setCell ⟨w.heap.size, 0, none⟩ (.int .i64 0)).setCell ⟨w.heap.size, 1, none⟩ (.slice none 0 0))) := (B2.out.setCell (Nat.le_refl _) _).setCell (Nat.le_refl _) _
  generalize (w2.setCell ⟨w.heap.size, 0, none⟩ (.int .i64 0)).setCell ⟨w.heap.size, 1, none⟩ (.slice none 0 0) = w9 at *
  have E0 : w9.cell? ⟨w.heap.size, 0, none⟩ = some (.int .i64 0) := I9.out.cell 0 (by simp)
  have E1 : w9.cell? ⟨w.heap.size, 1, none⟩ = some (.slice none 0 0) := I9.out.cell 1 (by simp)
  exact bodyPost_ret (v := .tuple #[.agg #[.int .i64 0, .slice none 0 0], .int .i64 k]) (by simp [results, Tryz.results18, go_sem, E0, E1]) rfl ⟨rfl, B9.out⟩
end Go.Proofs.YtmpiipcllgjhdaaGreatDoor
namespace Go.Proofs.YtmpiipcllgjhdaaGreatDoor
open Go.RowKit Go.Deep Go.PlainAid

theorem P6 (k : Nat) : 0 < 65536 ^ k := Nat.pow_pos (by omega)
theorem fits {a m n t e k : Nat} (h : n * (m / 65536 ^ t + 1) ≤ a / 65536 ^ e) (hk : t + k = e) : n * m * 65536 ^ k ≤ a := by
  have h1 : m ≤ (m / 65536 ^ t + 1) * 65536 ^ t := by
    rw [Nat.mul_comm]
    exact Nat.le_of_lt (Nat.lt_mul_div_succ m (P6 t))
  have g1 : n * m * 65536 ^ k ≤ n * ((m / 65536 ^ t + 1) * 65536 ^ t) * 65536 ^ k := Nat.mul_le_mul_right _ (Nat.mul_le_mul_left _ h1)
  have g2 : n * ((m / 65536 ^ t + 1) * 65536 ^ t) * 65536 ^ k = n * (m / 65536 ^ t + 1) * 65536 ^ e := by rw [← Nat.mul_assoc, Nat.mul_assoc, ← Nat.pow_add, hk]
  have g3 : n * (m / 65536 ^ t + 1) * 65536 ^ e ≤ a / 65536 ^ e * 65536 ^ e := Nat.mul_le_mul_right _ h
  have g4 : a / 65536 ^ e * 65536 ^ e ≤ a := Nat.div_mul_le_self _ _
  omega
/-- What is taken off, moved up. -/
def moved (k : Nat) (l : List Nat) : List Nat := List.replicate k 0 ++ l
end Go.Proofs.YtmpiipcllgjhdaaGreatDoor

/- The reference's Compare. -/
namespace Go.Proofs.YtmpiipcllgjhdaaGreatDoor
open Go.RowKit Go.Deep Go.PlainAid

end Go.Proofs.YtmpiipcllgjhdaaGreatDoor

/- The reference's take. -/
namespace Go.Proofs.YtmpiipcllgjhdaaGreatDoor
open Go.RowKit Go.Deep Go.PlainAid

end Go.Proofs.YtmpiipcllgjhdaaGreatDoor

/- The reference's Minus and Mod. -/
namespace Go.Proofs.YtmpiipcllgjhdaaGreatDoor
open Go.RowKit Go.Deep Go.PlainAid

end Go.Proofs.YtmpiipcllgjhdaaGreatDoor

/- The reference: is it a scalar, is it an element; differences and numbers modulo the order. -/
namespace Go.Proofs.YtmpiipcllgjhdaaGreatDoor
open Go.RowKit Go.Deep Go.PlainAid

theorem tkU {P : Program} {md : Region.Mode} {ops : Array Oper} {Q : Exit → Act → World → Prop} {S : World → Prop} {i : Nat} {oi : Oper} {fuel : Nat} {listed : Array Bool} {a : Act} {w : World} (hi : ops[i]? = some oi)
    (hs : (Region.noSelect ops && (Region.free md ops listed i && (Region.ready md ops listed).contains i)) = true)
    (hQ : ∀ c a w, Q (.panic c) (a.put oi.dst undef) w → Q (.panic c) a w) (hw : Region.wanted oi (yielded ops a.tmps) = false) (hS : S w)
    (h : wpAnyH P md ops Q S fuel (listed.setIfInBounds i true) (a.put oi.dst undef) w) : wpAnyH P md ops Q S (fuel + 1) listed a w := by
  simp only [Bool.and_eq_true] at hs
  exact wpAnyH_take hi hs.1 hs.2.1 hs.2.2 hQ (Or.inr ⟨hw, rfl⟩) hS h
theorem NumV.len {W : World} {n L c : Nat} {a : Option Addr} (h : Hid (NumV W 65536 n (.slice a L c))) : L = (dg 65536 n).length := by
  obtain ⟨a', c', e, _⟩ := h.out
  simp only [Value.slice.injEq] at e
  exact e.2.1
end Go.Proofs.YtmpiipcllgjhdaaGreatDoor
