/- Sigma's First and Back where nothing is wrong with the claims. -/
import Derived.Test.YtfbceknafmkipaaGreatCd
set_option linter.unusedSimpArgs false
set_option linter.unusedVariables false
set_option maxRecDepth 100000
namespace Go.Proofs.YtfbceknafmkipaaGreat
open Go.RowKit Go.Deep Go.PlainAid

theorem hmfun : ∀ (fn : Fn) (first cap : Array Value) (w : World), (Instr.makeFunc fn first cap).run Tryz.prog w = .ok (.func fn first cap) w := fun _ _ _ _ => rfl
theorem firsts46_any {w : World} {a b : Option Addr} {n m c d : Nat} {z : Int} {q : List (List ByteArray)}
    (C : ∀ W, Below w.heap.size w W → IHolds W w.heap.size 41 [.int .i64 z, .slice a n c] → Calls Tryz.prog 42 #[.slice a n c, .slice b m d, .func (.func 43) #[] #[.pointer (some ⟨w.heap.size, 0, none⟩)]] W fun e w' => (∃ a' c', e = .returned (.slice a' n c') ∧ SLL w' a' q) ∧ Below W.heap.size W w') :
    Calls Tryz.prog 21 #[.agg #[.int .i64 z, .slice a n c], .slice b m d] w fun e w' => (∃ a' c', e = .returned (.slice a' n c') ∧ SLL w' a' q) ∧ Below w.heap.size w w' := by
  have hmf := hmfun
  have H : Hid _ := C
  clear C
  have B : Hid (Below w.heap.size w (w.alloc (.cells #[.int .i64 z, .slice a n c] 41))) := (Below.refl _ w).alloc (Nat.le_refl _) _
  have I : Hid (IHolds (w.alloc (.cells #[.int .i64 z, .slice a n c] 41)) w.heap.size 41 [.int .i64 z, .slice a n c]) := IHolds.new _ _ _
  go_enter Tryz.func21, Tryz.ntmps21
  go_wp2_with (go_at_call 42; refine (H.out _ B.out I.out).mono ?_; rintro e w1 ⟨⟨a', c', rfl, hs1⟩, hB1⟩)
  go_ret
  exact ⟨⟨a', c', rfl, hs1⟩, B.out.trans (hB1.mono B.out.size)⟩
set_option maxRecDepth 100000 in
set_option maxHeartbeats 2000000 in
theorem back45_any {w : World} {a b : Option Addr} {n m c d : Nat} {z : Int} {q : List (List ByteArray)} {o r u : ByteArray}
    (C1 : Hid (∀ W, Calls Tryz.prog 49 #[.agg #[.int .i64 z]] W fun e w' => e = .returned (.string o) ∧ Below W.heap.size W w'))
    (C2 : Hid (∀ W, Calls Tryz.prog 48 #[.agg #[.int .i64 z], .string o, .string u] W fun e w' => e = .returned (.string r) ∧ Below W.heap.size W w'))
    (C3 : Hid (∀ W pb, Below w.heap.size w W → IHolds W w.heap.size 41 [.int .i64 z, .slice a n c] → IHolds W pb 9 [.string r] → Calls Tryz.prog 42 #[.slice a n c, .slice b m d, .func (.func 50) #[] #[.pointer (some ⟨w.heap.size, 0, none⟩), .pointer (some ⟨pb, 0, none⟩)]] W fun e w' => (∃ a' c', e = .returned (.slice a' n c') ∧ SLL w' a' q) ∧ Below W.heap.size W w')) :
    Calls Tryz.prog 25 #[.agg #[.int .i64 z, .slice a n c], .string u, .slice b m d] w fun e w' => (∃ a' c', e = .returned (.slice a' n c') ∧ SLL w' a' q) ∧ Below w.heap.size w w' := by
  have hmf := hmfun
  go_enter Tryz.func25, Tryz.ntmps25
  go_wp2_with fail
  obtain ⟨U1, hU1⟩ : ∃ X, X = (w.alloc (.cells #[.int .i64 z, .slice a n c] 41)) := ⟨_, rfl⟩
  have Jg : Hid (IHolds U1 (w.heap.size) 41 [.int .i64 z, .slice a n c]) := by
    have q := IHolds.new w 41 [.int .i64 z, .slice a n c]
    show IHolds _ _ _ _
    rw [hU1]
    exact q
  have B : Hid (Below w.heap.size w U1) := by
    show Below _ _ _
    rw [hU1]
    exact ((Below.refl _ w).alloc (Nat.le_refl _) _)
  rw [← hU1]
  clear hU1
  have hb := dB U1
  replace B := aB B hb
  replace Jg := aJ Jg hb
  clear hb
  refine wp_region_held_drew (S := fun W => (IHolds W (w.heap.size) 41 [.int .i64 z, .slice a n c])) (by kernel_rfl) Jg.out (fun hHeld1 => ?_)
  generalize U1.drew = U2 at *
  refine tk (i := 0) (v := .pointer (some ⟨w.heap.size, 0, none⟩)) rfl (by kernel_rfl) (fun _ _ _ h => h) rfl ?_ hHeld1 ?_
  · intro W hS; go_simp
  simp only [Act.put, y1, y2, y3, y4, y5, y6, y7]
  refine tk (i := 2) (v := .pointer (some ⟨w.heap.size, 0, none⟩)) rfl (by kernel_rfl) (fun _ _ _ h => h) rfl ?_ hHeld1 ?_
  · intro W hS; go_simp
  simp only [Act.put, y1, y2, y3, y4, y5, y6, y7]
  refine tk (i := 5) (v := .string u) rfl (by kernel_rfl) (fun _ _ _ h => h) rfl ?_ hHeld1 ?_
  · intro W hS; go_simp
  simp only [Act.put, y1, y2, y3, y4, y5, y6, y7]
  refine tk (i := 1) (v := .agg #[.int .i64 z]) rfl (by kernel_rfl) (fun _ _ _ h => h) rfl ?_ hHeld1 ?_
  · intro W hS; obtain ⟨zg_0, zg_1⟩ := c2 hS; go_simp
  simp only [Act.put, y1, y2, y3, y4, y5, y6, y7]
  refine tk (i := 3) (v := .agg #[.int .i64 z]) rfl (by kernel_rfl) (fun _ _ _ h => h) rfl ?_ hHeld1 ?_
  · intro W hS; obtain ⟨zg_0, zg_1⟩ := c2 hS; go_simp
  simp only [Act.put, y1, y2, y3, y4, y5, y6, y7]
  refine wpAnyH_ready (rs := [4, 7]) (by kernel_rfl) (by simp) ?_
  refine AllReadyH.cons rfl (fun K hK => ?_) (AllReadyH.cons rfl (fun K hK => ?_) AllReadyH.nil)
  · clear hHeld1
    go_simp
    refine (C1.out U2).mono ?_
    rintro e U3 ⟨rfl, hb⟩
    replace B := aB B hb
    replace Jg := aJ Jg hb
    clear hb
    go_wp2_with fail
    refine hK.out _ _ (Jg.out) (fun hHeld2 => ?_)
    clear hK K
    try simp only [Act.put, y1, y2, y3, y4, y5, y6, y7]
    refine wpAnyH_ready (rs := [6, 7]) (by kernel_rfl) (by simp) ?_
    refine AllReadyH.cons rfl (fun K hK => ?_) (AllReadyH.cons rfl (fun K hK => ?_) AllReadyH.nil)
    · clear hHeld2
      go_simp
      refine (C2.out U3).mono ?_
      rintro e U4 ⟨rfl, hb⟩
      replace B := aB B hb
      replace Jg := aJ Jg hb
      clear hb
      go_wp2_with fail
      refine hK.out _ _ (Jg.out) (fun hHeld3 => ?_)
      clear hK K
      try simp only [Act.put, y1, y2, y3, y4, y5, y6, y7]
      refine wpAnyH_ready (rs := [7]) (by kernel_rfl) (by simp) ?_
      refine AllReadyH.cons rfl (fun K hK => ?_) AllReadyH.nil
      clear hHeld3
      go_simp
      have ne_g_p := nJ Jg
      have ge_p : Hid (w.heap.size ≤ U4.heap.size) := B.out.size
      have hb := nB U4 (.cells #[.string ⟨#[]⟩] 9)
      have Jp : Hid (IHolds (U4.alloc (.cells #[.string ⟨#[]⟩] 9)) U4.heap.size 9 [.string ⟨#[]⟩]) := IHolds.new _ _ _
      replace B := aB B hb
      replace Jg := aJ Jg hb
      clear hb
      generalize (U4.alloc (.cells #[.string ⟨#[]⟩] 9)) = U5 at *
      generalize U4.heap.size = b6 at *
      refine hK.out _ _ (Jg.out) (fun hHeld4 => ?_)
      clear hK K
      try simp only [Act.put, y1, y2, y3, y4, y5, y6, y7]
      refine wpAnyH_ready (rs := [8]) (by kernel_rfl) (by simp) ?_
      refine AllReadyH.cons rfl (fun K hK => ?_) AllReadyH.nil
      clear hHeld4
      have zp_0 : U5.cell? ⟨b6, 0, none⟩ = some (.string ⟨#[]⟩) := IHolds.cell (l := [.string ⟨#[]⟩]) (t := 9) (b := b6) (w := U5) (Jp.out) 0 (by simp)
      have f0 := fJ Jp
      have hBut : But (b6) U5 (U5.setCell ⟨b6, 0, none⟩ (.string r)) := ((But.refl _ U5).setCell 0 (.string r))
      have I4 : Hid (IHolds _ (b6) 9 [.string r]) := (Jp.out.set 0 (.string r))
      replace B : Hid (Below w.heap.size w (U5.setCell ⟨b6, 0, none⟩ (.string r))) := (B.out.setCell (by first | exact Nat.le_refl _ | exact ge_p.out | (show w.heap.size ≤ b6; omega)) _)
      replace Jg := tJ Jg hBut ne_g_p.out
      replace Jp := I4
      clear I4 hBut
      go_simp
      try go_wp2_with fail
      clear zp_0
      clear f0
      generalize (U5.setCell ⟨b6, 0, none⟩ (.string r)) = U7 at *
      refine hK.out _ _ (Jg.out) (fun hHeld5 => ?_)
      clear hK K
      try simp only [Act.put, y1, y2, y3, y4, y5, y6, y7]
      refine wpAnyH_done (by kernel_rfl) ?_ _
      clear hHeld5
      obtain ⟨zg_0, zg_1⟩ := cJ Jg
      go_wp2_with fail
      refine (C3.out _ _ B.out Jg.out Jp.out).mono ?_
      rintro e wz ⟨⟨a', c', rfl, hs1⟩, hB1⟩
      have BZ : Hid (Below w.heap.size w wz) := aB B hB1
      clear hB1
      go_wp2_with fail
      go_ret
      exact ⟨⟨a', c', rfl, hs1⟩, BZ.out⟩
    · clear hHeld2
      go_simp
      have ne_g_p := nJ Jg
      have ge_p : Hid (w.heap.size ≤ U3.heap.size) := B.out.size
      have hb := nB U3 (.cells #[.string ⟨#[]⟩] 9)
      have Jp : Hid (IHolds (U3.alloc (.cells #[.string ⟨#[]⟩] 9)) U3.heap.size 9 [.string ⟨#[]⟩]) := IHolds.new _ _ _
      replace B := aB B hb
      replace Jg := aJ Jg hb
      clear hb
      generalize (U3.alloc (.cells #[.string ⟨#[]⟩] 9)) = U8 at *
      generalize U3.heap.size = b9 at *
      refine hK.out _ _ (Jg.out) (fun hHeld6 => ?_)
      clear hK K
      try simp only [Act.put, y1, y2, y3, y4, y5, y6, y7]
      refine wpAnyH_ready (rs := [6]) (by kernel_rfl) (by simp) ?_
      refine AllReadyH.cons rfl (fun K hK => ?_) AllReadyH.nil
      clear hHeld6
      go_simp
      refine (C2.out U8).mono ?_
      rintro e U10 ⟨rfl, hb⟩
      replace B := aB B hb
      replace Jg := aJ Jg hb
      replace Jp := aJ Jp hb
      clear hb
      go_wp2_with fail
      refine hK.out _ _ (Jg.out) (fun hHeld7 => ?_)
      clear hK K
      try simp only [Act.put, y1, y2, y3, y4, y5, y6, y7]
      refine wpAnyH_ready (rs := [8]) (by kernel_rfl) (by simp) ?_
      refine AllReadyH.cons rfl (fun K hK => ?_) AllReadyH.nil
      clear hHeld7
      have zp_0 : U10.cell? ⟨b9, 0, none⟩ = some (.string ⟨#[]⟩) := IHolds.cell (l := [.string ⟨#[]⟩]) (t := 9) (b := b9) (w := U10) (Jp.out) 0 (by simp)
      have f0 := fJ Jp
      have hBut : But (b9) U10 (U10.setCell ⟨b9, 0, none⟩ (.string r)) := ((But.refl _ U10).setCell 0 (.string r))
      have I4 : Hid (IHolds _ (b9) 9 [.string r]) := (Jp.out.set 0 (.string r))
      replace B : Hid (Below w.heap.size w (U10.setCell ⟨b9, 0, none⟩ (.string r))) := (B.out.setCell (by first | exact Nat.le_refl _ | exact ge_p.out | (show w.heap.size ≤ b9; omega)) _)
      replace Jg := tJ Jg hBut ne_g_p.out
      replace Jp := I4
      clear I4 hBut
      go_simp
      try go_wp2_with fail
      clear zp_0
      clear f0
      generalize (U10.setCell ⟨b9, 0, none⟩ (.string r)) = U11 at *
      refine hK.out _ _ (Jg.out) (fun hHeld8 => ?_)
      clear hK K
      try simp only [Act.put, y1, y2, y3, y4, y5, y6, y7]
      refine wpAnyH_done (by kernel_rfl) ?_ _
      clear hHeld8
      obtain ⟨zg_0, zg_1⟩ := cJ Jg
      go_wp2_with fail
      refine (C3.out _ _ B.out Jg.out Jp.out).mono ?_
      rintro e wz ⟨⟨a', c', rfl, hs1⟩, hB1⟩
      have BZ : Hid (Below w.heap.size w wz) := aB B hB1
      clear hB1
      go_wp2_with fail
      go_ret
      exact ⟨⟨a', c', rfl, hs1⟩, BZ.out⟩
  · clear hHeld1
    go_simp
    have ne_g_p := nJ Jg
    have ge_p : Hid (w.heap.size ≤ U2.heap.size) := B.out.size
    have hb := nB U2 (.cells #[.string ⟨#[]⟩] 9)
    have Jp : Hid (IHolds (U2.alloc (.cells #[.string ⟨#[]⟩] 9)) U2.heap.size 9 [.string ⟨#[]⟩]) := IHolds.new _ _ _
    replace B := aB B hb
    replace Jg := aJ Jg hb
    clear hb
    generalize (U2.alloc (.cells #[.string ⟨#[]⟩] 9)) = U12 at *
    generalize U2.heap.size = b13 at *
    refine hK.out _ _ (Jg.out) (fun hHeld9 => ?_)
    clear hK K
    try simp only [Act.put, y1, y2, y3, y4, y5, y6, y7]
    refine wpAnyH_ready (rs := [4]) (by kernel_rfl) (by simp) ?_
    refine AllReadyH.cons rfl (fun K hK => ?_) AllReadyH.nil
    clear hHeld9
    go_simp
    refine (C1.out U12).mono ?_
    rintro e U14 ⟨rfl, hb⟩
    replace B := aB B hb
    replace Jg := aJ Jg hb
    replace Jp := aJ Jp hb
    clear hb
    go_wp2_with fail
    refine hK.out _ _ (Jg.out) (fun hHeld10 => ?_)
    clear hK K
    try simp only [Act.put, y1, y2, y3, y4, y5, y6, y7]
    refine wpAnyH_ready (rs := [6]) (by kernel_rfl) (by simp) ?_
    refine AllReadyH.cons rfl (fun K hK => ?_) AllReadyH.nil
    clear hHeld10
    go_simp
    refine (C2.out U14).mono ?_
    rintro e U15 ⟨rfl, hb⟩
    replace B := aB B hb
    replace Jg := aJ Jg hb
    replace Jp := aJ Jp hb
    clear hb
    go_wp2_with fail
    refine hK.out _ _ (Jg.out) (fun hHeld11 => ?_)
    clear hK K
    try simp only [Act.put, y1, y2, y3, y4, y5, y6, y7]
    refine wpAnyH_ready (rs := [8]) (by kernel_rfl) (by simp) ?_
    refine AllReadyH.cons rfl (fun K hK => ?_) AllReadyH.nil
    clear hHeld11
    have zp_0 : U15.cell? ⟨b13, 0, none⟩ = some (.string ⟨#[]⟩) := IHolds.cell (l := [.string ⟨#[]⟩]) (t := 9) (b := b13) (w := U15) (Jp.out) 0 (by simp)
    have f0 := fJ Jp
    have hBut : But (b13) U15 (U15.setCell ⟨b13, 0, none⟩ (.string r)) := ((But.refl _ U15).setCell 0 (.string r))
    have I4 : Hid (IHolds _ (b13) 9 [.string r]) := (Jp.out.set 0 (.string r))
    replace B : Hid (Below w.heap.size w (U15.setCell ⟨b13, 0, none⟩ (.string r))) := (B.out.setCell (by first | exact Nat.le_refl _ | exact ge_p.out | (show w.heap.size ≤ b13; omega)) _)
    replace Jg := tJ Jg hBut ne_g_p.out
    replace Jp := I4
    clear I4 hBut
    go_simp
    try go_wp2_with fail
    clear zp_0
    clear f0
    generalize (U15.setCell ⟨b13, 0, none⟩ (.string r)) = U16 at *
    refine hK.out _ _ (Jg.out) (fun hHeld12 => ?_)
    clear hK K
    try simp only [Act.put, y1, y2, y3, y4, y5, y6, y7]
    refine wpAnyH_done (by kernel_rfl) ?_ _
    clear hHeld12
    obtain ⟨zg_0, zg_1⟩ := cJ Jg
    go_wp2_with fail
    refine (C3.out _ _ B.out Jg.out Jp.out).mono ?_
    rintro e wz ⟨⟨a', c', rfl, hs1⟩, hB1⟩
    have BZ : Hid (Below w.heap.size w wz) := aB B hB1
    clear hB1
    go_wp2_with fail
    go_ret
    exact ⟨⟨a', c', rfl, hs1⟩, BZ.out⟩
end Go.Proofs.YtfbceknafmkipaaGreat
