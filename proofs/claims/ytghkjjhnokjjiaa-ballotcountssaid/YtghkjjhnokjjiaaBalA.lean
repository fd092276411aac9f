/- Ballot's small functions: what they do with what the group's answer. -/
import Derived.Test.YtghkjjhnokjjiaaAid
set_option linter.unusedSimpArgs false
set_option linter.unusedVariables false
set_option maxRecDepth 100000
namespace Go.Proofs.Ytghkjjhnokjjiaa
open Go.RowKit Go.Deep Go.PlainAid

theorem base43 {w : World} {z c : Int} {r : ByteArray}   (h : Hid (∀ W, Calls Try.prog 9 #[.int .i64 z] W fun e w' => e = .returned (.tuple #[.string r, .int .i64 c]) ∧ Below W.heap.size W w')) :
    Calls Try.prog 43 #[.agg #[.int .i64 z]] w fun e w' => e = .returned (.string r) ∧ Below w.heap.size w w' := by
  have J : Hid (Below w.heap.size w (w.alloc (.cells #[.int .i64 z] 41))) := (Below.refl _ w).alloc (Nat.le_refl _) _
  go_enter Try.func43, Try.ntmps43
  go_wp2_with (go_at_call 9; refine (h.out _).mono ?_; rintro e w1 ⟨rfl, hB1⟩)
  go_ret
  exact ⟨rfl, J.out.trans (hB1.mono J.out.size)⟩
theorem base17 {w : World} {z c : Int} {r : ByteArray}   (h : Hid (∀ W, Calls Try.prog 9 #[.int .i64 z] W fun e w' => e = .returned (.tuple #[.string r, .int .i64 c]) ∧ Below W.heap.size W w')) :
    Calls Try.prog 17 #[.agg #[.int .i64 z]] w fun e w' => e = .returned (.string r) ∧ Below w.heap.size w w' := by
  have J : Hid (Below w.heap.size w (w.alloc (.cells #[.int .i64 z] 38))) := (Below.refl _ w).alloc (Nat.le_refl _) _
  go_enter Try.func17, Try.ntmps17
  go_wp2_with (go_at_call 9; refine (h.out _).mono ?_; rintro e w1 ⟨rfl, hB1⟩)
  go_ret
  exact ⟨rfl, J.out.trans (hB1.mono J.out.size)⟩
theorem power44 {w : World} {z c : Int} {s t r : ByteArray}   (h : Hid (∀ W, Calls Try.prog 10 #[.int .i64 z, .string s, .string t] W fun e w' => e = .returned (.tuple #[.string r, .int .i64 c]) ∧ Below W.heap.size W w')) :
    Calls Try.prog 44 #[.agg #[.int .i64 z], .string s, .string t] w fun e w' => e = .returned (.string r) ∧ Below w.heap.size w w' := by
  have J : Hid (Below w.heap.size w (w.alloc (.cells #[.int .i64 z] 41))) := (Below.refl _ w).alloc (Nat.le_refl _) _
  go_enter Try.func44, Try.ntmps44
  go_wp2_with (go_at_call 10; refine (h.out _).mono ?_; rintro e w1 ⟨rfl, hB1⟩)
  go_ret
  exact ⟨rfl, J.out.trans (hB1.mono J.out.size)⟩
theorem times45 {w : World} {z c : Int} {s t r : ByteArray}   (h : Hid (∀ W, Calls Try.prog 68 #[.int .i64 z, .string s, .string t] W fun e w' => e = .returned (.tuple #[.string r, .int .i64 c]) ∧ Below W.heap.size W w')) :
    Calls Try.prog 45 #[.agg #[.int .i64 z], .string s, .string t] w fun e w' => e = .returned (.string r) ∧ Below w.heap.size w w' := by
  have J : Hid (Below w.heap.size w (w.alloc (.cells #[.int .i64 z] 41))) := (Below.refl _ w).alloc (Nat.le_refl _) _
  go_enter Try.func45, Try.ntmps45
  go_wp2_with (go_at_call 68; refine (h.out _).mono ?_; rintro e w1 ⟨rfl, hB1⟩)
  go_ret
  exact ⟨rfl, J.out.trans (hB1.mono J.out.size)⟩
theorem under47 {w : World} {z c : Int} {s r : ByteArray}   (h : Hid (∀ W, Calls Try.prog 71 #[.int .i64 z, .string s] W fun e w' => e = .returned (.tuple #[.string r, .int .i64 c]) ∧ Below W.heap.size W w')) :
    Calls Try.prog 47 #[.agg #[.int .i64 z], .string s] w fun e w' => e = .returned (.string r) ∧ Below w.heap.size w w' := by
  have J : Hid (Below w.heap.size w (w.alloc (.cells #[.int .i64 z] 41))) := (Below.refl _ w).alloc (Nat.le_refl _) _
  go_enter Try.func47, Try.ntmps47
  go_wp2_with (go_at_call 71; refine (h.out _).mono ?_; rintro e w1 ⟨rfl, hB1⟩)
  go_ret
  exact ⟨rfl, J.out.trans (hB1.mono J.out.size)⟩
theorem number24 {w : World} {z c : Int} {r : ByteArray} {n : Int}  (h : Hid (∀ W, Calls Try.prog 46 #[.int .i64 z, .int .i64 n] W fun e w' => e = .returned (.tuple #[.string r, .int .i64 c]) ∧ Below W.heap.size W w')) :
    Calls Try.prog 24 #[.agg #[.int .i64 z], .int .i64 n] w fun e w' => e = .returned (.string r) ∧ Below w.heap.size w w' := by
  have J : Hid (Below w.heap.size w (w.alloc (.cells #[.int .i64 z] 41))) := (Below.refl _ w).alloc (Nat.le_refl _) _
  go_enter Try.func24, Try.ntmps24
  go_wp2_with (go_at_call 46; refine (h.out _).mono ?_; rintro e w1 ⟨rfl, hB1⟩)
  go_ret
  exact ⟨rfl, J.out.trans (hB1.mono J.out.size)⟩
theorem noElem19 {w : World} {z : Int} {s : ByteArray}  {q : Bool} (h : Hid (∀ W, Calls Try.prog 41 #[.int .i64 z, .string s] W fun e w' => e = .returned (.bool q) ∧ Below W.heap.size W w')) :
    Calls Try.prog 19 #[.agg #[.int .i64 z], .string s] w fun e w' => e = .returned (.bool (!q)) ∧ Below w.heap.size w w' := by
  have J : Hid (Below w.heap.size w (w.alloc (.cells #[.int .i64 z] 41))) := (Below.refl _ w).alloc (Nat.le_refl _) _
  go_enter Try.func19, Try.ntmps19
  go_wp2_with (go_at_call 41; refine (h.out _).mono ?_; rintro e w1 ⟨rfl, hB1⟩)
  go_ret
  exact ⟨rfl, J.out.trans (hB1.mono J.out.size)⟩
theorem noScalar20 {w : World} {z : Int} {s : ByteArray}  {q : Bool} (h : Hid (∀ W, Calls Try.prog 13 #[.int .i64 z, .string s] W fun e w' => e = .returned (.bool q) ∧ Below W.heap.size W w')) :
    Calls Try.prog 20 #[.agg #[.int .i64 z], .string s] w fun e w' => e = .returned (.bool (!q)) ∧ Below w.heap.size w w' := by
  have J : Hid (Below w.heap.size w (w.alloc (.cells #[.int .i64 z] 41))) := (Below.refl _ w).alloc (Nat.le_refl _) _
  go_enter Try.func20, Try.ntmps20
  go_wp2_with (go_at_call 13; refine (h.out _).mono ?_; rintro e w1 ⟨rfl, hB1⟩)
  go_ret
  exact ⟨rfl, J.out.trans (hB1.mono J.out.size)⟩
theorem groundOf18 {w : World} {z s c : Int} (h : Hid (∀ W, Calls Try.prog 40 #[.int .i64 z] W fun e w' => e = .returned (.tuple #[.int .i64 s, .int .i64 s, .int .i64 c]) ∧ Below W.heap.size W w')) :
    Calls Try.prog 18 #[.int .i64 z] w fun e w' => e = .returned (.tuple #[.agg #[.int .i64 z], .int .i64 c]) ∧ Below w.heap.size w w' := by
  generalize hW : w.alloc (.cells #[.int .i64 0] 41) = W
  have J : Hid (Below w.heap.size w W) := by rw [← hW]; exact (Below.refl _ w).alloc (Nat.le_refl _) _
  have I0 : Hid (IHolds W w.heap.size 41 [.int .i64 0]) := by rw [← hW]; exact IHolds.new w 41 [.int .i64 0]
  go_enter Try.func18, Try.ntmps18
  go_wp2_with (go_at_call 40; refine (h.out _).mono ?_; rintro e w1 ⟨rfl, hB1⟩; have B1 : Hid (Below w.heap.size w w1) := J.out.trans (hB1.mono J.out.size); have I1 : Hid (IHolds w1 w.heap.size 41 [.int .i64 0]) := I0.out.of_below hB1; have f1 : w1.frozen? ⟨w.heap.size, 0, none⟩ = false := I1.out.frozen 0; have c1 : w1.cell? ⟨w.heap.size, 0, none⟩ = some (.int .i64 0) := I1.out.cell 0 (by simp))
  have I2 : Hid (IHolds (w1.setCell ⟨w.heap.size, 0, none⟩ (.int .i64 z)) w.heap.size 41 [.int .i64 z]) := I1.out.set 0 (.int .i64 z)
  have B2 : Hid (Below w.heap.size w (w1.setCell ⟨w.heap.size, 0, none⟩ (.int .i64 z))) := Below.setCell B1.out (Nat.le_refl _) _
  generalize w1.setCell ⟨w.heap.size, 0, none⟩ (.int .i64 z) = w2 at *
  have E0 : w2.cell? ⟨w.heap.size, 0, none⟩ = some (.int .i64 z) := I2.out.cell 0 (by simp)
  exact bodyPost_ret (v := .tuple #[.agg #[.int .i64 z], .int .i64 c]) (by simp [results, Try.results18, go_sem, E0]) rfl ⟨rfl, B2.out⟩
set_option maxRecDepth 100000 in
set_option maxHeartbeats 2000000 in
theorem both23 {w : World} {z : Int} {a b x y p q : ByteArray} (C1 : Hid (∀ W, Calls Try.prog 45 #[.agg #[.int .i64 z], .string a, .string x] W fun e w' => e = .returned (.string p) ∧ Below W.heap.size W w')) (C2 : Hid (∀ W, Calls Try.prog 45 #[.agg #[.int .i64 z], .string b, .string y] W fun e w' => e = .returned (.string q) ∧ Below W.heap.size W w')) :
    Calls Try.prog 23 #[.agg #[.int .i64 z], .agg #[.string a, .string b], .agg #[.string x, .string y]] w fun e w' => e = .returned (.agg #[.string p, .string q]) ∧ Below w.heap.size w w' := by
  go_enter Try.func23, Try.ntmps23
  go_wp2_with fail
  obtain ⟨U1, hU1⟩ : ∃ X, X = ((((w.alloc (.cells #[.int .i64 z] 41)).alloc (.cells #[.string a, .string b] 26)).alloc (.cells #[.string x, .string y] 26)).alloc (.cells #[.string ⟨#[]⟩, .string ⟨#[]⟩] 26)) := ⟨_, rfl⟩
  have Jg : Hid (IHolds U1 (w.heap.size) 41 [.int .i64 z]) := by
    have q := IHolds.new w 41 [.int .i64 z]
    show IHolds _ _ _ _
    rw [hU1]
    exact (((q.alloc _).alloc _).alloc _)
  have Ja : Hid (IHolds U1 (w.heap.size + 1) 26 [.string a, .string b]) := by
    have q := IHolds.new (w.alloc (.cells #[.int .i64 z] 41)) 26 [.string a, .string b]
    simp only [World.size_alloc, Nat.add_assoc, Nat.reduceAdd] at q
    show IHolds _ _ _ _
    rw [hU1]
    exact ((q.alloc _).alloc _)
  have Jx : Hid (IHolds U1 (w.heap.size + 2) 26 [.string x, .string y]) := by
    have q := IHolds.new ((w.alloc (.cells #[.int .i64 z] 41)).alloc (.cells #[.string a, .string b] 26)) 26 [.string x, .string y]
    simp only [World.size_alloc, Nat.add_assoc, Nat.reduceAdd] at q
    show IHolds _ _ _ _
    rw [hU1]
    exact (q.alloc _)
  have Jr : Hid (IHolds U1 (w.heap.size + 3) 26 [.string ⟨#[]⟩, .string ⟨#[]⟩]) := by
    have q := IHolds.new (((w.alloc (.cells #[.int .i64 z] 41)).alloc (.cells #[.string a, .string b] 26)).alloc (.cells #[.string x, .string y] 26)) 26 [.string ⟨#[]⟩, .string ⟨#[]⟩]
    simp only [World.size_alloc, Nat.add_assoc, Nat.reduceAdd] at q
    show IHolds _ _ _ _
    rw [hU1]
    exact q
  have B : Hid (Below w.heap.size w U1) := by
    show Below _ _ _
    rw [hU1]
    exact (((((Below.refl _ w).alloc (Nat.le_refl _) _).alloc (by simp only [World.size_alloc]; omega) _).alloc (by simp only [World.size_alloc]; omega) _).alloc (by simp only [World.size_alloc]; omega) _)
  rw [← hU1]
  clear hU1
  have hb := dB U1
  replace B := aB B hb
  replace Jg := aJ Jg hb
  replace Ja := aJ Ja hb
  replace Jx := aJ Jx hb
  replace Jr := aJ Jr hb
  clear hb
  refine wp_region_held_drew (S := fun W => (IHolds W (w.heap.size) 41 [.int .i64 z]) ∧ (IHolds W (w.heap.size + 1) 26 [.string a, .string b]) ∧ (IHolds W (w.heap.size + 2) 26 [.string x, .string y])) (by kernel_rfl) ⟨Jg.out, Ja.out, Jx.out⟩ (fun hHeld1 => ?_)
  generalize U1.drew = U2 at *
  refine tk (i := 0) (v := .agg #[.int .i64 z]) rfl (by kernel_rfl) (fun _ _ _ h => h) rfl ?_ hHeld1 ?_
  · intro W hS; have zg_0 : W.cell? ⟨w.heap.size, 0, none⟩ = some (.int .i64 z) := IHolds.cell (l := [.int .i64 z]) (t := 41) (b := w.heap.size) (w := W) (hS.1) 0 (by simp); go_simp
  simp only [Act.put, y1, y2, y3, y4, y5, y6, y7]
  refine tk (i := 1) (v := .pointer (some ⟨w.heap.size + 1, 0, none⟩)) rfl (by kernel_rfl) (fun _ _ _ h => h) rfl ?_ hHeld1 ?_
  · intro W hS; go_simp
  simp only [Act.put, y1, y2, y3, y4, y5, y6, y7]
  refine tk (i := 3) (v := .pointer (some ⟨w.heap.size + 2, 0, none⟩)) rfl (by kernel_rfl) (fun _ _ _ h => h) rfl ?_ hHeld1 ?_
  · intro W hS; go_simp
  simp only [Act.put, y1, y2, y3, y4, y5, y6, y7]
  refine tk (i := 6) (v := .agg #[.int .i64 z]) rfl (by kernel_rfl) (fun _ _ _ h => h) rfl ?_ hHeld1 ?_
  · intro W hS; have zg_0 : W.cell? ⟨w.heap.size, 0, none⟩ = some (.int .i64 z) := IHolds.cell (l := [.int .i64 z]) (t := 41) (b := w.heap.size) (w := W) (hS.1) 0 (by simp); go_simp
  simp only [Act.put, y1, y2, y3, y4, y5, y6, y7]
  refine tk (i := 7) (v := .pointer (some ⟨w.heap.size + 1, 1, none⟩)) rfl (by kernel_rfl) (fun _ _ _ h => h) rfl ?_ hHeld1 ?_
  · intro W hS; go_simp
  simp only [Act.put, y1, y2, y3, y4, y5, y6, y7]
  refine tk (i := 9) (v := .pointer (some ⟨w.heap.size + 2, 1, none⟩)) rfl (by kernel_rfl) (fun _ _ _ h => h) rfl ?_ hHeld1 ?_
  · intro W hS; go_simp
  simp only [Act.put, y1, y2, y3, y4, y5, y6, y7]
  refine tk (i := 2) (v := .string a) rfl (by kernel_rfl) (fun _ _ _ h => h) rfl ?_ hHeld1 ?_
  · intro W hS; obtain ⟨za_0, za_1⟩ := c2 hS.2.1; go_simp
  simp only [Act.put, y1, y2, y3, y4, y5, y6, y7]
  refine tk (i := 4) (v := .string x) rfl (by kernel_rfl) (fun _ _ _ h => h) rfl ?_ hHeld1 ?_
  · intro W hS; obtain ⟨zx_0, zx_1⟩ := c2 hS.2.2; go_simp
  simp only [Act.put, y1, y2, y3, y4, y5, y6, y7]
  refine tk (i := 8) (v := .string b) rfl (by kernel_rfl) (fun _ _ _ h => h) rfl ?_ hHeld1 ?_
  · intro W hS; obtain ⟨za_0, za_1⟩ := c2 hS.2.1; go_simp
  simp only [Act.put, y1, y2, y3, y4, y5, y6, y7]
  refine tk (i := 10) (v := .string y) rfl (by kernel_rfl) (fun _ _ _ h => h) rfl ?_ hHeld1 ?_
  · intro W hS; obtain ⟨zx_0, zx_1⟩ := c2 hS.2.2; go_simp
  simp only [Act.put, y1, y2, y3, y4, y5, y6, y7]
  refine wpAnyH_ready (rs := [5]) (by kernel_rfl) (by simp) ?_
  refine AllReadyH.cons rfl (fun K hK => ?_) AllReadyH.nil
  clear hHeld1
  go_simp
  refine (C1.out U2).mono ?_
  rintro e U3 ⟨rfl, hb⟩
  replace B := aB B hb
  replace Jg := aJ Jg hb
  replace Ja := aJ Ja hb
  replace Jx := aJ Jx hb
  replace Jr := aJ Jr hb
  clear hb
  go_wp2_with fail
  refine hK.out _ _ (⟨Jg.out, Ja.out, Jx.out⟩) (fun hHeld2 => ?_)
  clear hK K
  try simp only [Act.put, y1, y2, y3, y4, y5, y6, y7]
  refine wpAnyH_ready (rs := [11]) (by kernel_rfl) (by simp) ?_
  refine AllReadyH.cons rfl (fun K hK => ?_) AllReadyH.nil
  clear hHeld2
  go_simp
  refine (C2.out U3).mono ?_
  rintro e U4 ⟨rfl, hb⟩
  replace B := aB B hb
  replace Jg := aJ Jg hb
  replace Ja := aJ Ja hb
  replace Jx := aJ Jx hb
  replace Jr := aJ Jr hb
  clear hb
  go_wp2_with fail
  refine hK.out _ _ (⟨Jg.out, Ja.out, Jx.out⟩) (fun hHeld3 => ?_)
  clear hK K
  try simp only [Act.put, y1, y2, y3, y4, y5, y6, y7]
  refine tk (i := 12) (v := .agg #[.string p, .string q]) rfl (by kernel_rfl) (fun _ _ _ h => h) rfl ?_ hHeld3 ?_
  · intro W hS; go_simp
  simp only [Act.put, y1, y2, y3, y4, y5, y6, y7]
  refine wpAnyH_ready (rs := [13]) (by kernel_rfl) (by simp) ?_
  refine AllReadyH.cons rfl (fun K hK => ?_) AllReadyH.nil
  clear hHeld3
  obtain ⟨zr_0, zr_1⟩ := cJ Jr
  have f0 := fJ Jr
  have hBut : But (w.heap.size + 3) U4 ((U4.setCell ⟨w.heap.size + 3, 0, none⟩ (.string p)).setCell ⟨w.heap.size + 3, 1, none⟩ (.string q)) := (((But.refl _ U4).setCell 0 (.string p)).setCell 1 (.string q))
  have I4 : Hid (IHolds _ (w.heap.size + 3) 26 [.string p, .string q]) := ((Jr.out.set 0 (.string p)).set 1 (.string q))
  replace B : Hid (Below w.heap.size w ((U4.setCell ⟨w.heap.size + 3, 0, none⟩ (.string p)).setCell ⟨w.heap.size + 3, 1, none⟩ (.string q))) := ((B.out.setCell (by first | exact Nat.le_refl _ | exact ge_r.out | (show w.heap.size ≤ w.heap.size + 3; omega)) _).setCell (by first | exact Nat.le_refl _ | exact ge_r.out | (show w.heap.size ≤ w.heap.size + 3; omega)) _)
  replace Jg := tJ Jg hBut (by omega)
  replace Ja := tJ Ja hBut (by omega)
  replace Jx := tJ Jx hBut (by omega)
  replace Jr := I4
  clear I4 hBut
  go_simp
  try go_wp2_with fail
  clear zr_0 zr_1
  clear f0
  generalize ((U4.setCell ⟨w.heap.size + 3, 0, none⟩ (.string p)).setCell ⟨w.heap.size + 3, 1, none⟩ (.string q)) = U5 at *
  refine hK.out _ _ (⟨Jg.out, Ja.out, Jx.out⟩) (fun hHeld4 => ?_)
  clear hK K
  try simp only [Act.put, y1, y2, y3, y4, y5, y6, y7]
  refine wpAnyH_done (by kernel_rfl) ?_ _
  clear hHeld4
  go_wp2_with fail
  have E0 : Hid (U5.cell? ⟨w.heap.size + 3, 0, none⟩ = some (.string p)) := IHolds.cell (l := [.string p, .string q]) (t := 26) (b := w.heap.size + 3) (w := U5) Jr.out 0 (by simp)
  have E1 : Hid (U5.cell? ⟨w.heap.size + 3, 1, none⟩ = some (.string q)) := IHolds.cell (l := [.string p, .string q]) (t := 26) (b := w.heap.size + 3) (w := U5) Jr.out 1 (by simp)
  exact bodyPost_ret (v := .agg #[.string p, .string q]) (by simp [results, Try.results23, go_sem, E0.out, E1.out]) rfl ⟨rfl, B.out⟩
set_option maxRecDepth 100000 in
set_option maxHeartbeats 2000000 in
theorem shown25 {w : World} {z : Int} {s a b p u q : ByteArray} (C1 : Hid (∀ W, Calls Try.prog 44 #[.agg #[.int .i64 z], .string a, .string s] W fun e w' => e = .returned (.string p) ∧ Below W.heap.size W w')) (C2 : Hid (∀ W, Calls Try.prog 47 #[.agg #[.int .i64 z], .string p] W fun e w' => e = .returned (.string u) ∧ Below W.heap.size W w')) (C3 : Hid (∀ W, Calls Try.prog 45 #[.agg #[.int .i64 z], .string b, .string u] W fun e w' => e = .returned (.string q) ∧ Below W.heap.size W w')) :
    Calls Try.prog 25 #[.agg #[.int .i64 z], .string s, .agg #[.string a, .string b]] w fun e w' => e = .returned (.string q) ∧ Below w.heap.size w w' := by
  go_enter Try.func25, Try.ntmps25
  go_wp2_with fail
  obtain ⟨U1, hU1⟩ : ∃ X, X = ((w.alloc (.cells #[.int .i64 z] 41)).alloc (.cells #[.string a, .string b] 26)) := ⟨_, rfl⟩
  have Jg : Hid (IHolds U1 (w.heap.size) 41 [.int .i64 z]) := by
    have q := IHolds.new w 41 [.int .i64 z]
    show IHolds _ _ _ _
    rw [hU1]
    exact (q.alloc _)
  have Ja : Hid (IHolds U1 (w.heap.size + 1) 26 [.string a, .string b]) := by
    have q := IHolds.new (w.alloc (.cells #[.int .i64 z] 41)) 26 [.string a, .string b]
    simp only [World.size_alloc, Nat.add_assoc, Nat.reduceAdd] at q
    show IHolds _ _ _ _
    rw [hU1]
    exact q
  have B : Hid (Below w.heap.size w U1) := by
    show Below _ _ _
    rw [hU1]
    exact (((Below.refl _ w).alloc (Nat.le_refl _) _).alloc (by simp only [World.size_alloc]; omega) _)
  rw [← hU1]
  clear hU1
  have hb := dB U1
  replace B := aB B hb
  replace Jg := aJ Jg hb
  replace Ja := aJ Ja hb
  clear hb
  refine wp_region_held_drew (S := fun W => (IHolds W (w.heap.size) 41 [.int .i64 z]) ∧ (IHolds W (w.heap.size + 1) 26 [.string a, .string b])) (by kernel_rfl) ⟨Jg.out, Ja.out⟩ (fun hHeld1 => ?_)
  generalize U1.drew = U2 at *
  refine tk (i := 0) (v := .agg #[.int .i64 z]) rfl (by kernel_rfl) (fun _ _ _ h => h) rfl ?_ hHeld1 ?_
  · intro W hS; have zg_0 : W.cell? ⟨w.heap.size, 0, none⟩ = some (.int .i64 z) := IHolds.cell (l := [.int .i64 z]) (t := 41) (b := w.heap.size) (w := W) (hS.1) 0 (by simp); go_simp
  simp only [Act.put, y1, y2, y3, y4, y5, y6, y7]
  refine tk (i := 1) (v := .pointer (some ⟨w.heap.size + 1, 1, none⟩)) rfl (by kernel_rfl) (fun _ _ _ h => h) rfl ?_ hHeld1 ?_
  · intro W hS; go_simp
  simp only [Act.put, y1, y2, y3, y4, y5, y6, y7]
  refine tk (i := 3) (v := .agg #[.int .i64 z]) rfl (by kernel_rfl) (fun _ _ _ h => h) rfl ?_ hHeld1 ?_
  · intro W hS; have zg_0 : W.cell? ⟨w.heap.size, 0, none⟩ = some (.int .i64 z) := IHolds.cell (l := [.int .i64 z]) (t := 41) (b := w.heap.size) (w := W) (hS.1) 0 (by simp); go_simp
  simp only [Act.put, y1, y2, y3, y4, y5, y6, y7]
  refine tk (i := 4) (v := .agg #[.int .i64 z]) rfl (by kernel_rfl) (fun _ _ _ h => h) rfl ?_ hHeld1 ?_
  · intro W hS; have zg_0 : W.cell? ⟨w.heap.size, 0, none⟩ = some (.int .i64 z) := IHolds.cell (l := [.int .i64 z]) (t := 41) (b := w.heap.size) (w := W) (hS.1) 0 (by simp); go_simp
  simp only [Act.put, y1, y2, y3, y4, y5, y6, y7]
  refine tk (i := 5) (v := .pointer (some ⟨w.heap.size + 1, 0, none⟩)) rfl (by kernel_rfl) (fun _ _ _ h => h) rfl ?_ hHeld1 ?_
  · intro W hS; go_simp
  simp only [Act.put, y1, y2, y3, y4, y5, y6, y7]
  refine tk (i := 7) (v := .string s) rfl (by kernel_rfl) (fun _ _ _ h => h) rfl ?_ hHeld1 ?_
  · intro W hS; go_simp
  simp only [Act.put, y1, y2, y3, y4, y5, y6, y7]
  refine tk (i := 2) (v := .string b) rfl (by kernel_rfl) (fun _ _ _ h => h) rfl ?_ hHeld1 ?_
  · intro W hS; obtain ⟨za_0, za_1⟩ := c2 hS.2; go_simp
  simp only [Act.put, y1, y2, y3, y4, y5, y6, y7]
  refine tk (i := 6) (v := .string a) rfl (by kernel_rfl) (fun _ _ _ h => h) rfl ?_ hHeld1 ?_
  · intro W hS; obtain ⟨za_0, za_1⟩ := c2 hS.2; go_simp
  simp only [Act.put, y1, y2, y3, y4, y5, y6, y7]
  refine wpAnyH_ready (rs := [8]) (by kernel_rfl) (by simp) ?_
  refine AllReadyH.cons rfl (fun K hK => ?_) AllReadyH.nil
  clear hHeld1
  go_simp
  refine (C1.out U2).mono ?_
  rintro e U3 ⟨rfl, hb⟩
  replace B := aB B hb
  replace Jg := aJ Jg hb
  replace Ja := aJ Ja hb
  clear hb
  go_wp2_with fail
  refine hK.out _ _ (⟨Jg.out, Ja.out⟩) (fun hHeld2 => ?_)
  clear hK K
  try simp only [Act.put, y1, y2, y3, y4, y5, y6, y7]
  refine wpAnyH_ready (rs := [9]) (by kernel_rfl) (by simp) ?_
  refine AllReadyH.cons rfl (fun K hK => ?_) AllReadyH.nil
  clear hHeld2
  go_simp
  refine (C2.out U3).mono ?_
  rintro e U4 ⟨rfl, hb⟩
  replace B := aB B hb
  replace Jg := aJ Jg hb
  replace Ja := aJ Ja hb
  clear hb
  go_wp2_with fail
  refine hK.out _ _ (⟨Jg.out, Ja.out⟩) (fun hHeld3 => ?_)
  clear hK K
  try simp only [Act.put, y1, y2, y3, y4, y5, y6, y7]
  refine wpAnyH_ready (rs := [10]) (by kernel_rfl) (by simp) ?_
  refine AllReadyH.cons rfl (fun K hK => ?_) AllReadyH.nil
  clear hHeld3
  go_simp
  refine (C3.out U4).mono ?_
  rintro e U5 ⟨rfl, hb⟩
  replace B := aB B hb
  replace Jg := aJ Jg hb
  replace Ja := aJ Ja hb
  clear hb
  go_wp2_with fail
  refine hK.out _ _ (⟨Jg.out, Ja.out⟩) (fun hHeld4 => ?_)
  clear hK K
  try simp only [Act.put, y1, y2, y3, y4, y5, y6, y7]
  refine tk (i := 11) (v := .string q) rfl (by kernel_rfl) (fun _ _ _ h => h) rfl ?_ hHeld4 ?_
  · intro W hS; go_simp
  simp only [Act.put, y1, y2, y3, y4, y5, y6, y7]
  refine wpAnyH_done (by kernel_rfl) ?_ _
  clear hHeld4
  go_wp2_with fail
  go_ret
  exact ⟨rfl, B.out⟩
set_option maxRecDepth 100000 in
set_option maxHeartbeats 2000000 in
theorem hide21 {w : World} {z c : Int} {key x n b p q : ByteArray} (C1 : Hid (∀ W, Calls Try.prog 43 #[.agg #[.int .i64 z]] W fun e w' => e = .returned (.string b) ∧ Below W.heap.size W w')) (C2 : Hid (∀ W b1 b2, IHolds W b1 9 [.string b, .string key] → IHolds W b2 9 [.string x, .string n] → Calls Try.prog 42 #[.int .i64 z, .slice (some ⟨b1, 0, none⟩) 2 2, .slice (some ⟨b2, 0, none⟩) 2 2] W fun e w' => e = .returned (.tuple #[.string q, .int .i64 c]) ∧ Below W.heap.size W w')) (C3 : Hid (∀ W, Calls Try.prog 44 #[.agg #[.int .i64 z], .string b, .string n] W fun e w' => e = .returned (.string p) ∧ Below W.heap.size W w')) :
    Calls Try.prog 21 #[.agg #[.int .i64 z], .string key, .string x, .string n] w fun e w' => e = .returned (.agg #[.string p, .string q]) ∧ Below w.heap.size w w' := by
  go_enter Try.func21, Try.ntmps21
  go_wp2_with fail
  obtain ⟨U1, hU1⟩ : ∃ X, X = ((w.alloc (.cells #[.int .i64 z] 41)).alloc (.cells #[.string ⟨#[]⟩, .string ⟨#[]⟩] 26)) := ⟨_, rfl⟩
  have Jg : Hid (IHolds U1 (w.heap.size) 41 [.int .i64 z]) := by
    have q := IHolds.new w 41 [.int .i64 z]
    show IHolds _ _ _ _
    rw [hU1]
    exact (q.alloc _)
  have Jr : Hid (IHolds U1 (w.heap.size + 1) 26 [.string ⟨#[]⟩, .string ⟨#[]⟩]) := by
    have q := IHolds.new (w.alloc (.cells #[.int .i64 z] 41)) 26 [.string ⟨#[]⟩, .string ⟨#[]⟩]
    simp only [World.size_alloc, Nat.add_assoc, Nat.reduceAdd] at q
    show IHolds _ _ _ _
    rw [hU1]
    exact q
  have B : Hid (Below w.heap.size w U1) := by
    show Below _ _ _
    rw [hU1]
    exact (((Below.refl _ w).alloc (Nat.le_refl _) _).alloc (by simp only [World.size_alloc]; omega) _)
  rw [← hU1]
  clear hU1
  have hb := dB U1
  replace B := aB B hb
  replace Jg := aJ Jg hb
  replace Jr := aJ Jr hb
  clear hb
  refine wp_region_held_drew (S := fun W => (IHolds W (w.heap.size) 41 [.int .i64 z])) (by kernel_rfl) Jg.out (fun hHeld1 => ?_)
  generalize U1.drew = U2 at *
  refine tk (i := 0) (v := .pointer (some ⟨w.heap.size, 0, none⟩)) rfl (by kernel_rfl) (fun _ _ _ h => h) rfl ?_ hHeld1 ?_
  · intro W hS; go_simp
  simp only [Act.put, y1, y2, y3, y4, y5, y6, y7]
  refine tk (i := 2) (v := .agg #[.int .i64 z]) rfl (by kernel_rfl) (fun _ _ _ h => h) rfl ?_ hHeld1 ?_
  · intro W hS; have zg_0 : W.cell? ⟨w.heap.size, 0, none⟩ = some (.int .i64 z) := IHolds.cell (l := [.int .i64 z]) (t := 41) (b := w.heap.size) (w := W) (hS) 0 (by simp); go_simp
  simp only [Act.put, y1, y2, y3, y4, y5, y6, y7]
  refine tk (i := 4) (v := .string key) rfl (by kernel_rfl) (fun _ _ _ h => h) rfl ?_ hHeld1 ?_
  · intro W hS; go_simp
  simp only [Act.put, y1, y2, y3, y4, y5, y6, y7]
  refine tk (i := 6) (v := .string x) rfl (by kernel_rfl) (fun _ _ _ h => h) rfl ?_ hHeld1 ?_
  · intro W hS; go_simp
  simp only [Act.put, y1, y2, y3, y4, y5, y6, y7]
  refine tk (i := 7) (v := .string n) rfl (by kernel_rfl) (fun _ _ _ h => h) rfl ?_ hHeld1 ?_
  · intro W hS; go_simp
  simp only [Act.put, y1, y2, y3, y4, y5, y6, y7]
  refine tk (i := 1) (v := .int .i64 z) rfl (by kernel_rfl) (fun _ _ _ h => h) rfl ?_ hHeld1 ?_
  · intro W hS; have zg_0 : W.cell? ⟨w.heap.size, 0, none⟩ = some (.int .i64 z) := IHolds.cell (l := [.int .i64 z]) (t := 41) (b := w.heap.size) (w := W) (hS) 0 (by simp); go_simp
  simp only [Act.put, y1, y2, y3, y4, y5, y6, y7]
  refine wpAnyH_ready (rs := [3, 8]) (by kernel_rfl) (by simp) ?_
  refine AllReadyH.cons rfl (fun K hK => ?_) (AllReadyH.cons rfl (fun K hK => ?_) AllReadyH.nil)
  · clear hHeld1
    go_simp
    refine (C1.out U2).mono ?_
    rintro e U3 ⟨rfl, hb⟩
    replace B := aB B hb
    replace Jg := aJ Jg hb
    replace Jr := aJ Jr hb
    clear hb
    go_wp2_with fail
    refine hK.out _ _ (Jg.out) (fun hHeld2 => ?_)
    clear hK K
    try simp only [Act.put, y1, y2, y3, y4, y5, y6, y7]
    refine wpAnyH_ready (rs := [5, 8]) (by kernel_rfl) (by simp) ?_
    refine AllReadyH.cons rfl (fun K hK => ?_) (AllReadyH.cons rfl (fun K hK => ?_) AllReadyH.nil)
    · clear hHeld2
      go_simp
      have ne_g_k := nJ Jg
      have ne_r_k := nJ Jr
      have ge_k : Hid (w.heap.size ≤ U3.heap.size) := B.out.size
      have hb := nB U3 (.cells #[.string b, .string key] 9)
      have Jk : Hid (IHolds (U3.alloc (.cells #[.string b, .string key] 9)) U3.heap.size 9 [.string b, .string key]) := IHolds.new _ _ _
      replace B := aB B hb
      replace Jg := aJ Jg hb
      replace Jr := aJ Jr hb
      clear hb
      generalize (U3.alloc (.cells #[.string b, .string key] 9)) = U4 at *
      generalize U3.heap.size = b5 at *
      refine hK.out _ _ (Jg.out) (fun hHeld3 => ?_)
      clear hK K
      try simp only [Act.put, y1, y2, y3, y4, y5, y6, y7]
      refine wpAnyH_ready (rs := [8]) (by kernel_rfl) (by simp) ?_
      refine AllReadyH.cons rfl (fun K hK => ?_) AllReadyH.nil
      clear hHeld3
      go_simp
      have ne_g_m := nJ Jg
      have ne_r_m := nJ Jr
      have ne_k_m := nJ Jk
      have ge_m : Hid (w.heap.size ≤ U4.heap.size) := B.out.size
      have hb := nB U4 (.cells #[.string x, .string n] 9)
      have Jm : Hid (IHolds (U4.alloc (.cells #[.string x, .string n] 9)) U4.heap.size 9 [.string x, .string n]) := IHolds.new _ _ _
      replace B := aB B hb
      replace Jg := aJ Jg hb
      replace Jr := aJ Jr hb
      replace Jk := aJ Jk hb
      clear hb
      generalize (U4.alloc (.cells #[.string x, .string n] 9)) = U6 at *
      generalize U4.heap.size = b7 at *
      refine hK.out _ _ (Jg.out) (fun hHeld4 => ?_)
      clear hK K
      try simp only [Act.put, y1, y2, y3, y4, y5, y6, y7]
      refine wpAnyH_ready (rs := [9]) (by kernel_rfl) (by simp) ?_
      refine AllReadyH.cons rfl (fun K hK => ?_) AllReadyH.nil
      clear hHeld4
      go_simp
      refine (C2.out U6 _ _ Jk.out Jm.out).mono ?_
      rintro e U8 ⟨rfl, hb⟩
      replace B := aB B hb
      replace Jg := aJ Jg hb
      replace Jr := aJ Jr hb
      replace Jk := aJ Jk hb
      replace Jm := aJ Jm hb
      clear hb
      go_wp2_with fail
      refine hK.out _ _ (Jg.out) (fun hHeld5 => ?_)
      clear hK K
      try simp only [Act.put, y1, y2, y3, y4, y5, y6, y7]
      refine tk (i := 10) (v := .tuple #[.string q, .int .i64 c]) rfl (by kernel_rfl) (fun _ _ _ h => h) rfl ?_ hHeld5 ?_
      · intro W hS; go_simp
      simp only [Act.put, y1, y2, y3, y4, y5, y6, y7]
      refine tk (i := 11) (v := (.string q)) rfl (by kernel_rfl) (fun _ _ _ h => h) rfl ?_ hHeld5 ?_
      · intro W hS; go_simp
      simp only [Act.put, y1, y2, y3, y4, y5, y6, y7]
      refine tk (i := 12) (v := (.int .i64 c)) rfl (by kernel_rfl) (fun _ _ _ h => h) rfl ?_ hHeld5 ?_
      · intro W hS; go_simp
      simp only [Act.put, y1, y2, y3, y4, y5, y6, y7]
      refine tk (i := 13) (v := (.string q)) rfl (by kernel_rfl) (fun _ _ _ h => h) rfl ?_ hHeld5 ?_
      · intro W hS; go_simp
      simp only [Act.put, y1, y2, y3, y4, y5, y6, y7]
      refine tk (i := 14) (v := (.int .i64 c)) rfl (by kernel_rfl) (fun _ _ _ h => h) rfl ?_ hHeld5 ?_
      · intro W hS; go_simp
      simp only [Act.put, y1, y2, y3, y4, y5, y6, y7]
      refine wpAnyH_done (by kernel_rfl) ?_ _
      clear hHeld5
      go_wp2_with fail
      have hb := dB U8
      replace B := aB B hb
      replace Jg := aJ Jg hb
      replace Jr := aJ Jr hb
      replace Jk := aJ Jk hb
      replace Jm := aJ Jm hb
      clear hb
      refine wp_region_held_drew (S := fun W => (IHolds W (w.heap.size) 41 [.int .i64 z])) (by kernel_rfl) Jg.out (fun hHeld6 => ?_)
      generalize U8.drew = U9 at *
      refine tk (i := 0) (v := .agg #[.int .i64 z]) rfl (by kernel_rfl) (fun _ _ _ h => h) rfl ?_ hHeld6 ?_
      · intro W hS; have zg_0 : W.cell? ⟨w.heap.size, 0, none⟩ = some (.int .i64 z) := IHolds.cell (l := [.int .i64 z]) (t := 41) (b := w.heap.size) (w := W) (hS) 0 (by simp); go_simp
      simp only [Act.put, y1, y2, y3, y4, y5, y6, y7]
      refine tk (i := 1) (v := .agg #[.int .i64 z]) rfl (by kernel_rfl) (fun _ _ _ h => h) rfl ?_ hHeld6 ?_
      · intro W hS; have zg_0 : W.cell? ⟨w.heap.size, 0, none⟩ = some (.int .i64 z) := IHolds.cell (l := [.int .i64 z]) (t := 41) (b := w.heap.size) (w := W) (hS) 0 (by simp); go_simp
      simp only [Act.put, y1, y2, y3, y4, y5, y6, y7]
      refine tk (i := 3) (v := .string n) rfl (by kernel_rfl) (fun _ _ _ h => h) rfl ?_ hHeld6 ?_
      · intro W hS; go_simp
      simp only [Act.put, y1, y2, y3, y4, y5, y6, y7]
      refine tk (i := 5) (v := .string q) rfl (by kernel_rfl) (fun _ _ _ h => h) rfl ?_ hHeld6 ?_
      · intro W hS; go_simp
      simp only [Act.put, y1, y2, y3, y4, y5, y6, y7]
      refine wpAnyH_ready (rs := [2]) (by kernel_rfl) (by simp) ?_
      refine AllReadyH.cons rfl (fun K hK => ?_) AllReadyH.nil
      clear hHeld6
      go_simp
      refine (C1.out U9).mono ?_
      rintro e U10 ⟨rfl, hb⟩
      replace B := aB B hb
      replace Jg := aJ Jg hb
      replace Jr := aJ Jr hb
      replace Jk := aJ Jk hb
      replace Jm := aJ Jm hb
      clear hb
      go_wp2_with fail
      refine hK.out _ _ (Jg.out) (fun hHeld7 => ?_)
      clear hK K
      try simp only [Act.put, y1, y2, y3, y4, y5, y6, y7]
      refine wpAnyH_ready (rs := [4]) (by kernel_rfl) (by simp) ?_
      refine AllReadyH.cons rfl (fun K hK => ?_) AllReadyH.nil
      clear hHeld7
      go_simp
      refine (C3.out U10).mono ?_
      rintro e U11 ⟨rfl, hb⟩
      replace B := aB B hb
      replace Jg := aJ Jg hb
      replace Jr := aJ Jr hb
      replace Jk := aJ Jk hb
      replace Jm := aJ Jm hb
      clear hb
      go_wp2_with fail
      refine hK.out _ _ (Jg.out) (fun hHeld8 => ?_)
      clear hK K
      try simp only [Act.put, y1, y2, y3, y4, y5, y6, y7]
      refine tk (i := 6) (v := .agg #[.string p, .string q]) rfl (by kernel_rfl) (fun _ _ _ h => h) rfl ?_ hHeld8 ?_
      · intro W hS; go_simp
      simp only [Act.put, y1, y2, y3, y4, y5, y6, y7]
      refine wpAnyH_ready (rs := [7]) (by kernel_rfl) (by simp) ?_
      refine AllReadyH.cons rfl (fun K hK => ?_) AllReadyH.nil
      clear hHeld8
      obtain ⟨zr_0, zr_1⟩ := cJ Jr
      have f0 := fJ Jr
      have hBut : But (w.heap.size + 1) U11 ((U11.setCell ⟨w.heap.size + 1, 0, none⟩ (.string p)).setCell ⟨w.heap.size + 1, 1, none⟩ (.string q)) := (((But.refl _ U11).setCell 0 (.string p)).setCell 1 (.string q))
      have I4 : Hid (IHolds _ (w.heap.size + 1) 26 [.string p, .string q]) := ((Jr.out.set 0 (.string p)).set 1 (.string q))
      replace B : Hid (Below w.heap.size w ((U11.setCell ⟨w.heap.size + 1, 0, none⟩ (.string p)).setCell ⟨w.heap.size + 1, 1, none⟩ (.string q))) := ((B.out.setCell (by first | exact Nat.le_refl _ | exact ge_r.out | (show w.heap.size ≤ w.heap.size + 1; omega)) _).setCell (by first | exact Nat.le_refl _ | exact ge_r.out | (show w.heap.size ≤ w.heap.size + 1; omega)) _)
      replace Jg := tJ Jg hBut (by omega)
      replace Jk := tJ Jk hBut (fun h => ne_r_k.out h.symm)
      replace Jm := tJ Jm hBut (fun h => ne_r_m.out h.symm)
      replace Jr := I4
      clear I4 hBut
      go_simp
      try go_wp2_with fail
      clear zr_0 zr_1
      clear f0
      generalize ((U11.setCell ⟨w.heap.size + 1, 0, none⟩ (.string p)).setCell ⟨w.heap.size + 1, 1, none⟩ (.string q)) = U12 at *
      refine hK.out _ _ (Jg.out) (fun hHeld9 => ?_)
      clear hK K
      try simp only [Act.put, y1, y2, y3, y4, y5, y6, y7]
      refine wpAnyH_done (by kernel_rfl) ?_ _
      clear hHeld9
      go_wp2_with fail
      have E0 : Hid (U12.cell? ⟨w.heap.size + 1, 0, none⟩ = some (.string p)) := IHolds.cell (l := [.string p, .string q]) (t := 26) (b := w.heap.size + 1) (w := U12) Jr.out 0 (by simp)
      have E1 : Hid (U12.cell? ⟨w.heap.size + 1, 1, none⟩ = some (.string q)) := IHolds.cell (l := [.string p, .string q]) (t := 26) (b := w.heap.size + 1) (w := U12) Jr.out 1 (by simp)
      exact bodyPost_ret (v := .agg #[.string p, .string q]) (by simp [results, Try.results21, go_sem, E0.out, E1.out]) rfl ⟨rfl, B.out⟩
    · clear hHeld2
      go_simp
      have ne_g_m := nJ Jg
      have ne_r_m := nJ Jr
      have ge_m : Hid (w.heap.size ≤ U3.heap.size) := B.out.size
      have hb := nB U3 (.cells #[.string x, .string n] 9)
      have Jm : Hid (IHolds (U3.alloc (.cells #[.string x, .string n] 9)) U3.heap.size 9 [.string x, .string n]) := IHolds.new _ _ _
      replace B := aB B hb
      replace Jg := aJ Jg hb
      replace Jr := aJ Jr hb
      clear hb
      generalize (U3.alloc (.cells #[.string x, .string n] 9)) = U13 at *
      generalize U3.heap.size = b14 at *
      refine hK.out _ _ (Jg.out) (fun hHeld10 => ?_)
      clear hK K
      try simp only [Act.put, y1, y2, y3, y4, y5, y6, y7]
      refine wpAnyH_ready (rs := [5]) (by kernel_rfl) (by simp) ?_
      refine AllReadyH.cons rfl (fun K hK => ?_) AllReadyH.nil
      clear hHeld10
      go_simp
      have ne_g_k := nJ Jg
      have ne_r_k := nJ Jr
      have ne_m_k := nJ Jm
      have ge_k : Hid (w.heap.size ≤ U13.heap.size) := B.out.size
      have hb := nB U13 (.cells #[.string b, .string key] 9)
      have Jk : Hid (IHolds (U13.alloc (.cells #[.string b, .string key] 9)) U13.heap.size 9 [.string b, .string key]) := IHolds.new _ _ _
      replace B := aB B hb
      replace Jg := aJ Jg hb
      replace Jr := aJ Jr hb
      replace Jm := aJ Jm hb
      clear hb
      generalize (U13.alloc (.cells #[.string b, .string key] 9)) = U15 at *
      generalize U13.heap.size = b16 at *
      refine hK.out _ _ (Jg.out) (fun hHeld11 => ?_)
      clear hK K
      try simp only [Act.put, y1, y2, y3, y4, y5, y6, y7]
      refine wpAnyH_ready (rs := [9]) (by kernel_rfl) (by simp) ?_
      refine AllReadyH.cons rfl (fun K hK => ?_) AllReadyH.nil
      clear hHeld11
      go_simp
      refine (C2.out U15 _ _ Jk.out Jm.out).mono ?_
      rintro e U17 ⟨rfl, hb⟩
      replace B := aB B hb
      replace Jg := aJ Jg hb
      replace Jr := aJ Jr hb
      replace Jm := aJ Jm hb
      replace Jk := aJ Jk hb
      clear hb
      go_wp2_with fail
      refine hK.out _ _ (Jg.out) (fun hHeld12 => ?_)
      clear hK K
      try simp only [Act.put, y1, y2, y3, y4, y5, y6, y7]
      refine tk (i := 10) (v := .tuple #[.string q, .int .i64 c]) rfl (by kernel_rfl) (fun _ _ _ h => h) rfl ?_ hHeld12 ?_
      · intro W hS; go_simp
      simp only [Act.put, y1, y2, y3, y4, y5, y6, y7]
      refine tk (i := 11) (v := (.string q)) rfl (by kernel_rfl) (fun _ _ _ h => h) rfl ?_ hHeld12 ?_
      · intro W hS; go_simp
      simp only [Act.put, y1, y2, y3, y4, y5, y6, y7]
      refine tk (i := 12) (v := (.int .i64 c)) rfl (by kernel_rfl) (fun _ _ _ h => h) rfl ?_ hHeld12 ?_
      · intro W hS; go_simp
      simp only [Act.put, y1, y2, y3, y4, y5, y6, y7]
      refine tk (i := 13) (v := (.string q)) rfl (by kernel_rfl) (fun _ _ _ h => h) rfl ?_ hHeld12 ?_
      · intro W hS; go_simp
      simp only [Act.put, y1, y2, y3, y4, y5, y6, y7]
      refine tk (i := 14) (v := (.int .i64 c)) rfl (by kernel_rfl) (fun _ _ _ h => h) rfl ?_ hHeld12 ?_
      · intro W hS; go_simp
      simp only [Act.put, y1, y2, y3, y4, y5, y6, y7]
      refine wpAnyH_done (by kernel_rfl) ?_ _
      clear hHeld12
      go_wp2_with fail
      have hb := dB U17
      replace B := aB B hb
      replace Jg := aJ Jg hb
      replace Jr := aJ Jr hb
      replace Jm := aJ Jm hb
      replace Jk := aJ Jk hb
      clear hb
      refine wp_region_held_drew (S := fun W => (IHolds W (w.heap.size) 41 [.int .i64 z])) (by kernel_rfl) Jg.out (fun hHeld13 => ?_)
      generalize U17.drew = U18 at *
      refine tk (i := 0) (v := .agg #[.int .i64 z]) rfl (by kernel_rfl) (fun _ _ _ h => h) rfl ?_ hHeld13 ?_
      · intro W hS; have zg_0 : W.cell? ⟨w.heap.size, 0, none⟩ = some (.int .i64 z) := IHolds.cell (l := [.int .i64 z]) (t := 41) (b := w.heap.size) (w := W) (hS) 0 (by simp); go_simp
      simp only [Act.put, y1, y2, y3, y4, y5, y6, y7]
      refine tk (i := 1) (v := .agg #[.int .i64 z]) rfl (by kernel_rfl) (fun _ _ _ h => h) rfl ?_ hHeld13 ?_
      · intro W hS; have zg_0 : W.cell? ⟨w.heap.size, 0, none⟩ = some (.int .i64 z) := IHolds.cell (l := [.int .i64 z]) (t := 41) (b := w.heap.size) (w := W) (hS) 0 (by simp); go_simp
      simp only [Act.put, y1, y2, y3, y4, y5, y6, y7]
      refine tk (i := 3) (v := .string n) rfl (by kernel_rfl) (fun _ _ _ h => h) rfl ?_ hHeld13 ?_
      · intro W hS; go_simp
      simp only [Act.put, y1, y2, y3, y4, y5, y6, y7]
      refine tk (i := 5) (v := .string q) rfl (by kernel_rfl) (fun _ _ _ h => h) rfl ?_ hHeld13 ?_
      · intro W hS; go_simp
      simp only [Act.put, y1, y2, y3, y4, y5, y6, y7]
      refine wpAnyH_ready (rs := [2]) (by kernel_rfl) (by simp) ?_
      refine AllReadyH.cons rfl (fun K hK => ?_) AllReadyH.nil
      clear hHeld13
      go_simp
      refine (C1.out U18).mono ?_
      rintro e U19 ⟨rfl, hb⟩
      replace B := aB B hb
      replace Jg := aJ Jg hb
      replace Jr := aJ Jr hb
      replace Jm := aJ Jm hb
      replace Jk := aJ Jk hb
      clear hb
      go_wp2_with fail
      refine hK.out _ _ (Jg.out) (fun hHeld14 => ?_)
      clear hK K
      try simp only [Act.put, y1, y2, y3, y4, y5, y6, y7]
      refine wpAnyH_ready (rs := [4]) (by kernel_rfl) (by simp) ?_
      refine AllReadyH.cons rfl (fun K hK => ?_) AllReadyH.nil
      clear hHeld14
      go_simp
      refine (C3.out U19).mono ?_
      rintro e U20 ⟨rfl, hb⟩
      replace B := aB B hb
      replace Jg := aJ Jg hb
      replace Jr := aJ Jr hb
      replace Jm := aJ Jm hb
      replace Jk := aJ Jk hb
      clear hb
      go_wp2_with fail
      refine hK.out _ _ (Jg.out) (fun hHeld15 => ?_)
      clear hK K
      try simp only [Act.put, y1, y2, y3, y4, y5, y6, y7]
      refine tk (i := 6) (v := .agg #[.string p, .string q]) rfl (by kernel_rfl) (fun _ _ _ h => h) rfl ?_ hHeld15 ?_
      · intro W hS; go_simp
      simp only [Act.put, y1, y2, y3, y4, y5, y6, y7]
      refine wpAnyH_ready (rs := [7]) (by kernel_rfl) (by simp) ?_
      refine AllReadyH.cons rfl (fun K hK => ?_) AllReadyH.nil
      clear hHeld15
      obtain ⟨zr_0, zr_1⟩ := cJ Jr
      have f0 := fJ Jr
      have hBut : But (w.heap.size + 1) U20 ((U20.setCell ⟨w.heap.size + 1, 0, none⟩ (.string p)).setCell ⟨w.heap.size + 1, 1, none⟩ (.string q)) := (((But.refl _ U20).setCell 0 (.string p)).setCell 1 (.string q))
      have I4 : Hid (IHolds _ (w.heap.size + 1) 26 [.string p, .string q]) := ((Jr.out.set 0 (.string p)).set 1 (.string q))
      replace B : Hid (Below w.heap.size w ((U20.setCell ⟨w.heap.size + 1, 0, none⟩ (.string p)).setCell ⟨w.heap.size + 1, 1, none⟩ (.string q))) := ((B.out.setCell (by first | exact Nat.le_refl _ | exact ge_r.out | (show w.heap.size ≤ w.heap.size + 1; omega)) _).setCell (by first | exact Nat.le_refl _ | exact ge_r.out | (show w.heap.size ≤ w.heap.size + 1; omega)) _)
      replace Jg := tJ Jg hBut (by omega)
      replace Jm := tJ Jm hBut (fun h => ne_r_m.out h.symm)
      replace Jk := tJ Jk hBut (fun h => ne_r_k.out h.symm)
      replace Jr := I4
      clear I4 hBut
      go_simp
      try go_wp2_with fail
      clear zr_0 zr_1
      clear f0
      generalize ((U20.setCell ⟨w.heap.size + 1, 0, none⟩ (.string p)).setCell ⟨w.heap.size + 1, 1, none⟩ (.string q)) = U21 at *
      refine hK.out _ _ (Jg.out) (fun hHeld16 => ?_)
      clear hK K
      try simp only [Act.put, y1, y2, y3, y4, y5, y6, y7]
      refine wpAnyH_done (by kernel_rfl) ?_ _
      clear hHeld16
      go_wp2_with fail
      have E0 : Hid (U21.cell? ⟨w.heap.size + 1, 0, none⟩ = some (.string p)) := IHolds.cell (l := [.string p, .string q]) (t := 26) (b := w.heap.size + 1) (w := U21) Jr.out 0 (by simp)
      have E1 : Hid (U21.cell? ⟨w.heap.size + 1, 1, none⟩ = some (.string q)) := IHolds.cell (l := [.string p, .string q]) (t := 26) (b := w.heap.size + 1) (w := U21) Jr.out 1 (by simp)
      exact bodyPost_ret (v := .agg #[.string p, .string q]) (by simp [results, Try.results21, go_sem, E0.out, E1.out]) rfl ⟨rfl, B.out⟩
  · clear hHeld1
    go_simp
    have ne_g_m := nJ Jg
    have ne_r_m := nJ Jr
    have ge_m : Hid (w.heap.size ≤ U2.heap.size) := B.out.size
    have hb := nB U2 (.cells #[.string x, .string n] 9)
    have Jm : Hid (IHolds (U2.alloc (.cells #[.string x, .string n] 9)) U2.heap.size 9 [.string x, .string n]) := IHolds.new _ _ _
    replace B := aB B hb
    replace Jg := aJ Jg hb
    replace Jr := aJ Jr hb
    clear hb
    generalize (U2.alloc (.cells #[.string x, .string n] 9)) = U22 at *
    generalize U2.heap.size = b23 at *
    refine hK.out _ _ (Jg.out) (fun hHeld17 => ?_)
    clear hK K
    try simp only [Act.put, y1, y2, y3, y4, y5, y6, y7]
    refine wpAnyH_ready (rs := [3]) (by kernel_rfl) (by simp) ?_
    refine AllReadyH.cons rfl (fun K hK => ?_) AllReadyH.nil
    clear hHeld17
    go_simp
    refine (C1.out U22).mono ?_
    rintro e U24 ⟨rfl, hb⟩
    replace B := aB B hb
    replace Jg := aJ Jg hb
    replace Jr := aJ Jr hb
    replace Jm := aJ Jm hb
    clear hb
    go_wp2_with fail
    refine hK.out _ _ (Jg.out) (fun hHeld18 => ?_)
    clear hK K
    try simp only [Act.put, y1, y2, y3, y4, y5, y6, y7]
    refine wpAnyH_ready (rs := [5]) (by kernel_rfl) (by simp) ?_
    refine AllReadyH.cons rfl (fun K hK => ?_) AllReadyH.nil
    clear hHeld18
    go_simp
    have ne_g_k := nJ Jg
    have ne_r_k := nJ Jr
    have ne_m_k := nJ Jm
    have ge_k : Hid (w.heap.size ≤ U24.heap.size) := B.out.size
    have hb := nB U24 (.cells #[.string b, .string key] 9)
    have Jk : Hid (IHolds (U24.alloc (.cells #[.string b, .string key] 9)) U24.heap.size 9 [.string b, .string key]) := IHolds.new _ _ _
    replace B := aB B hb
    replace Jg := aJ Jg hb
    replace Jr := aJ Jr hb
    replace Jm := aJ Jm hb
    clear hb
    generalize (U24.alloc (.cells #[.string b, .string key] 9)) = U25 at *
    generalize U24.heap.size = b26 at *
    refine hK.out _ _ (Jg.out) (fun hHeld19 => ?_)
    clear hK K
    try simp only [Act.put, y1, y2, y3, y4, y5, y6, y7]
    refine wpAnyH_ready (rs := [9]) (by kernel_rfl) (by simp) ?_
    refine AllReadyH.cons rfl (fun K hK => ?_) AllReadyH.nil
    clear hHeld19
    go_simp
    refine (C2.out U25 _ _ Jk.out Jm.out).mono ?_
    rintro e U27 ⟨rfl, hb⟩
    replace B := aB B hb
    replace Jg := aJ Jg hb
    replace Jr := aJ Jr hb
    replace Jm := aJ Jm hb
    replace Jk := aJ Jk hb
    clear hb
    go_wp2_with fail
    refine hK.out _ _ (Jg.out) (fun hHeld20 => ?_)
    clear hK K
    try simp only [Act.put, y1, y2, y3, y4, y5, y6, y7]
    refine tk (i := 10) (v := .tuple #[.string q, .int .i64 c]) rfl (by kernel_rfl) (fun _ _ _ h => h) rfl ?_ hHeld20 ?_
    · intro W hS; go_simp
    simp only [Act.put, y1, y2, y3, y4, y5, y6, y7]
    refine tk (i := 11) (v := (.string q)) rfl (by kernel_rfl) (fun _ _ _ h => h) rfl ?_ hHeld20 ?_
    · intro W hS; go_simp
    simp only [Act.put, y1, y2, y3, y4, y5, y6, y7]
    refine tk (i := 12) (v := (.int .i64 c)) rfl (by kernel_rfl) (fun _ _ _ h => h) rfl ?_ hHeld20 ?_
    · intro W hS; go_simp
    simp only [Act.put, y1, y2, y3, y4, y5, y6, y7]
    refine tk (i := 13) (v := (.string q)) rfl (by kernel_rfl) (fun _ _ _ h => h) rfl ?_ hHeld20 ?_
    · intro W hS; go_simp
    simp only [Act.put, y1, y2, y3, y4, y5, y6, y7]
    refine tk (i := 14) (v := (.int .i64 c)) rfl (by kernel_rfl) (fun _ _ _ h => h) rfl ?_ hHeld20 ?_
    · intro W hS; go_simp
    simp only [Act.put, y1, y2, y3, y4, y5, y6, y7]
    refine wpAnyH_done (by kernel_rfl) ?_ _
    clear hHeld20
    go_wp2_with fail
    have hb := dB U27
    replace B := aB B hb
    replace Jg := aJ Jg hb
    replace Jr := aJ Jr hb
    replace Jm := aJ Jm hb
    replace Jk := aJ Jk hb
    clear hb
    refine wp_region_held_drew (S := fun W => (IHolds W (w.heap.size) 41 [.int .i64 z])) (by kernel_rfl) Jg.out (fun hHeld21 => ?_)
    generalize U27.drew = U28 at *
    refine tk (i := 0) (v := .agg #[.int .i64 z]) rfl (by kernel_rfl) (fun _ _ _ h => h) rfl ?_ hHeld21 ?_
    · intro W hS; have zg_0 : W.cell? ⟨w.heap.size, 0, none⟩ = some (.int .i64 z) := IHolds.cell (l := [.int .i64 z]) (t := 41) (b := w.heap.size) (w := W) (hS) 0 (by simp); go_simp
    simp only [Act.put, y1, y2, y3, y4, y5, y6, y7]
    refine tk (i := 1) (v := .agg #[.int .i64 z]) rfl (by kernel_rfl) (fun _ _ _ h => h) rfl ?_ hHeld21 ?_
    · intro W hS; have zg_0 : W.cell? ⟨w.heap.size, 0, none⟩ = some (.int .i64 z) := IHolds.cell (l := [.int .i64 z]) (t := 41) (b := w.heap.size) (w := W) (hS) 0 (by simp); go_simp
    simp only [Act.put, y1, y2, y3, y4, y5, y6, y7]
    refine tk (i := 3) (v := .string n) rfl (by kernel_rfl) (fun _ _ _ h => h) rfl ?_ hHeld21 ?_
    · intro W hS; go_simp
    simp only [Act.put, y1, y2, y3, y4, y5, y6, y7]
    refine tk (i := 5) (v := .string q) rfl (by kernel_rfl) (fun _ _ _ h => h) rfl ?_ hHeld21 ?_
    · intro W hS; go_simp
    simp only [Act.put, y1, y2, y3, y4, y5, y6, y7]
    refine wpAnyH_ready (rs := [2]) (by kernel_rfl) (by simp) ?_
    refine AllReadyH.cons rfl (fun K hK => ?_) AllReadyH.nil
    clear hHeld21
    go_simp
    refine (C1.out U28).mono ?_
    rintro e U29 ⟨rfl, hb⟩
    replace B := aB B hb
    replace Jg := aJ Jg hb
    replace Jr := aJ Jr hb
    replace Jm := aJ Jm hb
    replace Jk := aJ Jk hb
    clear hb
    go_wp2_with fail
    refine hK.out _ _ (Jg.out) (fun hHeld22 => ?_)
    clear hK K
    try simp only [Act.put, y1, y2, y3, y4, y5, y6, y7]
    refine wpAnyH_ready (rs := [4]) (by kernel_rfl) (by simp) ?_
    refine AllReadyH.cons rfl (fun K hK => ?_) AllReadyH.nil
    clear hHeld22
    go_simp
    refine (C3.out U29).mono ?_
    rintro e U30 ⟨rfl, hb⟩
    replace B := aB B hb
    replace Jg := aJ Jg hb
    replace Jr := aJ Jr hb
    replace Jm := aJ Jm hb
    replace Jk := aJ Jk hb
    clear hb
    go_wp2_with fail
    refine hK.out _ _ (Jg.out) (fun hHeld23 => ?_)
    clear hK K
    try simp only [Act.put, y1, y2, y3, y4, y5, y6, y7]
    refine tk (i := 6) (v := .agg #[.string p, .string q]) rfl (by kernel_rfl) (fun _ _ _ h => h) rfl ?_ hHeld23 ?_
    · intro W hS; go_simp
    simp only [Act.put, y1, y2, y3, y4, y5, y6, y7]
    refine wpAnyH_ready (rs := [7]) (by kernel_rfl) (by simp) ?_
    refine AllReadyH.cons rfl (fun K hK => ?_) AllReadyH.nil
    clear hHeld23
    obtain ⟨zr_0, zr_1⟩ := cJ Jr
    have f0 := fJ Jr
    have hBut : But (w.heap.size + 1) U30 ((U30.setCell ⟨w.heap.size + 1, 0, none⟩ (.string p)).setCell ⟨w.heap.size + 1, 1, none⟩ (.string q)) := (((But.refl _ U30).setCell 0 (.string p)).setCell 1 (.string q))
    have I4 : Hid (IHolds _ (w.heap.size + 1) 26 [.string p, .string q]) := ((Jr.out.set 0 (.string p)).set 1 (.string q))
    replace B : Hid (Below w.heap.size w ((U30.setCell ⟨w.heap.size + 1, 0, none⟩ (.string p)).setCell ⟨w.heap.size + 1, 1, none⟩ (.string q))) := ((B.out.setCell (by first | exact Nat.le_refl _ | exact ge_r.out | (show w.heap.size ≤ w.heap.size + 1; omega)) _).setCell (by first | exact Nat.le_refl _ | exact ge_r.out | (show w.heap.size ≤ w.heap.size + 1; omega)) _)
    replace Jg := tJ Jg hBut (by omega)
    replace Jm := tJ Jm hBut (fun h => ne_r_m.out h.symm)
    replace Jk := tJ Jk hBut (fun h => ne_r_k.out h.symm)
    replace Jr := I4
    clear I4 hBut
    go_simp
    try go_wp2_with fail
    clear zr_0 zr_1
    clear f0
    generalize ((U30.setCell ⟨w.heap.size + 1, 0, none⟩ (.string p)).setCell ⟨w.heap.size + 1, 1, none⟩ (.string q)) = U31 at *
    refine hK.out _ _ (Jg.out) (fun hHeld24 => ?_)
    clear hK K
    try simp only [Act.put, y1, y2, y3, y4, y5, y6, y7]
    refine wpAnyH_done (by kernel_rfl) ?_ _
    clear hHeld24
    go_wp2_with fail
    have E0 : Hid (U31.cell? ⟨w.heap.size + 1, 0, none⟩ = some (.string p)) := IHolds.cell (l := [.string p, .string q]) (t := 26) (b := w.heap.size + 1) (w := U31) Jr.out 0 (by simp)
    have E1 : Hid (U31.cell? ⟨w.heap.size + 1, 1, none⟩ = some (.string q)) := IHolds.cell (l := [.string p, .string q]) (t := 26) (b := w.heap.size + 1) (w := U31) Jr.out 1 (by simp)
    exact bodyPost_ret (v := .agg #[.string p, .string q]) (by simp [results, Try.results21, go_sem, E0.out, E1.out]) rfl ⟨rfl, B.out⟩
end Go.Proofs.Ytghkjjhnokjjiaa
