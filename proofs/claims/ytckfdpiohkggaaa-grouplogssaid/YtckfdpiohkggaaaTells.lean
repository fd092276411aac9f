/- The walk of GroupTells. -/
import Derived.Test.YtckfdpiohkggaaaOn
import Derived.Test.YtckfdpiohkggaaaKind
set_option linter.unusedSimpArgs false
set_option linter.unusedVariables false
namespace Go.Proofs.Ytckfdpiohkggaaa
open Go.RowKit Go.Deep Go.PlainAid

set_option maxHeartbeats 400000 in
theorem lawText_ok (s : ByteArray) (w : World) : Calls Try.prog 13 #[.string s, .int .i64 0, .int .i64 0, .string s] w fun e w' => e = .returned (.bool true) ∧ Below w.heap.size w w' := by
  go_enter Try.func13, Try.ntmps13
  go_wp2_with fail
  go_ret
  exact ⟨by simp, Below.refl _ _⟩
set_option maxHeartbeats 400000 in
theorem lawText_bad (x : Int) (t : ByteArray) (w : World) (hx : (x != 0) = true) : Calls Try.prog 13 #[.string ⟨#[]⟩, .int .i64 x, .int .i64 x, .string t] w fun e w' => e = .returned (.bool true) ∧ Below w.heap.size w w' := by
  go_enter Try.func13, Try.ntmps13
  go_wp2_with fail
  go_ret
  exact ⟨by simp, Below.refl _ _⟩
theorem refTextV {W : World} {n S : Nat} {v : Value} (h : NumV W 65536 n v) (b : (dg 65536 n).length ≤ 1000000) (hS : S ≤ 100000) :
    Calls Try.prog 14 #[v, .int .i64 (S : Int)] W fun e w' => e = .returned (.string ⟨(beB S n).toArray⟩) ∧ Below W.heap.size W w' := by
  obtain ⟨a, c, rfl, _, r⟩ := h
  exact refText_any W a c n S r b hS
set_option maxRecDepth 100000 in
set_option maxHeartbeats 4000000 in
theorem tells_ok {w : World} {z : Int} {q p S : Nat} {TO TP TB Y1 Y3 : ByteArray}
    (hs : ((S : Int) == 0) = false)
    (F9 : Hid (∀ W, Calls Try.prog 9 #[.int .i64 z] W fun e w' => (∃ u1 u2, e = .returned (.agg #[.int .i64 (S : Int), u1, u2]) ∧ NumV w' 65536 q u1 ∧ NumV w' 65536 p u2) ∧ Below W.heap.size W w'))
    (F10 : Hid (∀ W, Calls Try.prog 10 #[.int .i64 z] W fun e w' => e = .returned (.tuple #[.int .i64 (S : Int), .int .i64 (S : Int), .int .i64 0]) ∧ Below W.heap.size W w'))
    (F11 : Hid (∀ W, Calls Try.prog 11 #[.int .i64 z] W fun e w' => e = .returned (.tuple #[.string TO, .int .i64 0]) ∧ Below W.heap.size W w'))
    (F12 : Hid (∀ W, Calls Try.prog 12 #[.int .i64 z] W fun e w' => e = .returned (.tuple #[.string TP, .int .i64 0]) ∧ Below W.heap.size W w'))
    (F15 : Hid (∀ W, Calls Try.prog 15 #[.int .i64 z] W fun e w' => e = .returned (.tuple #[.string TB, .int .i64 0]) ∧ Below W.heap.size W w'))
    (GO : Hid (∀ W v, NumV W 65536 q v → Calls Try.prog 14 #[v, .int .i64 (S : Int)] W fun e w' => e = .returned (.string TO) ∧ Below W.heap.size W w'))
    (GP : Hid (∀ W v, NumV W 65536 p v → Calls Try.prog 14 #[v, .int .i64 (S : Int)] W fun e w' => e = .returned (.string TP) ∧ Below W.heap.size W w'))
    (GB : Hid (∀ W v, NumV W 65536 2 v → Calls Try.prog 14 #[v, .int .i64 (S : Int)] W fun e w' => e = .returned (.string TB) ∧ Below W.heap.size W w'))
    (F16 : Hid (∀ W, Calls Try.prog 16 #[.int .i64 2] W fun e w' => (∃ v, e = .returned v ∧ NumV w' 65536 2 v) ∧ Below W.heap.size W w'))
    (T13 : Hid (∀ W s, Calls Try.prog 13 #[.string s, .int .i64 0, .int .i64 0, .string s] W fun e w' => e = .returned (.bool true) ∧ Below W.heap.size W w')) :
    Calls Try.prog 3 #[.int .i64 z] w fun e w' => e = .returned (.bool true) ∧ Below w.heap.size w w' := by
  have B : Hid (Below w.heap.size w w) := Below.refl _ _
  go_enter Try.func3, Try.ntmps3
  go_wp2_with fail
  refine (F9.out w).mono ?_
  rintro e U0 ⟨⟨u1, u2, rfl, hv, hv'⟩, hb⟩
  have Nu1 : Hid (NumV U0 65536 q u1) := hv
  have Nu2 : Hid (NumV U0 65536 p u2) := hv'
  clear hv hv'
  replace B := aB B hb
  clear hb
  obtain ⟨u1_a, u1_l, u1_c, rfl⟩ := sN Nu1
  obtain ⟨u2_a, u2_l, u2_c, rfl⟩ := sN Nu2
  have hb := nB U0 (.cells #[(.int .i64 (S : Int)), (.slice u1_a u1_l u1_c), (.slice u2_a u2_l u2_c)] 25)
  have Jg : Hid (IHolds (U0.alloc (.cells #[(.int .i64 (S : Int)), (.slice u1_a u1_l u1_c), (.slice u2_a u2_l u2_c)] 25)) U0.heap.size 25 [(.int .i64 (S : Int)), (.slice u1_a u1_l u1_c), (.slice u2_a u2_l u2_c)]) := IHolds.new _ _ _
  have ge_g : Hid (w.heap.size ≤ U0.heap.size) := B.out.size
  replace B := aB B hb
  replace Nu1 := aN Nu1 hb
  replace Nu2 := aN Nu2 hb
  clear hb
  go_wp2_with fail
  generalize (U0.alloc (.cells #[(.int .i64 (S : Int)), (.slice u1_a u1_l u1_c), (.slice u2_a u2_l u2_c)] 25)) = U1 at *
  generalize U0.heap.size = b2 at *
  refine (F10.out U1).mono ?_
  rintro e U3 ⟨rfl, hb⟩
  replace B := aB B hb
  replace Jg := aJ Jg hb
  replace Nu1 := aN Nu1 hb
  replace Nu2 := aN Nu2 hb
  clear hb
  have zg_0 : U3.cell? ⟨b2, 0, none⟩ = some ((.int .i64 (S : Int))) := IHolds.cell (l := [(.int .i64 (S : Int)), (.slice u1_a u1_l u1_c), (.slice u2_a u2_l u2_c)]) (t := 25) (b := b2) (w := U3) (Jg.out) 0 (by simp)
  have zg_1 : U3.cell? ⟨b2, 1, none⟩ = some ((.slice u1_a u1_l u1_c)) := IHolds.cell (l := [(.int .i64 (S : Int)), (.slice u1_a u1_l u1_c), (.slice u2_a u2_l u2_c)]) (t := 25) (b := b2) (w := U3) (Jg.out) 1 (by simp)
  have zg_2 : U3.cell? ⟨b2, 2, none⟩ = some ((.slice u2_a u2_l u2_c)) := IHolds.cell (l := [(.int .i64 (S : Int)), (.slice u1_a u1_l u1_c), (.slice u2_a u2_l u2_c)]) (t := 25) (b := b2) (w := U3) (Jg.out) 2 (by simp)
  go_wp2_with fail
  clear zg_0 zg_1 zg_2
  refine (F11.out U3).mono ?_
  rintro e U4 ⟨rfl, hb⟩
  replace B := aB B hb
  replace Jg := aJ Jg hb
  replace Nu1 := aN Nu1 hb
  replace Nu2 := aN Nu2 hb
  clear hb
  go_wp2_with fail
  refine (F12.out U4).mono ?_
  rintro e U5 ⟨rfl, hb⟩
  replace B := aB B hb
  replace Jg := aJ Jg hb
  replace Nu1 := aN Nu1 hb
  replace Nu2 := aN Nu2 hb
  clear hb
  have zg_0 : U5.cell? ⟨b2, 0, none⟩ = some ((.int .i64 (S : Int))) := IHolds.cell (l := [(.int .i64 (S : Int)), (.slice u1_a u1_l u1_c), (.slice u2_a u2_l u2_c)]) (t := 25) (b := b2) (w := U5) (Jg.out) 0 (by simp)
  have zg_1 : U5.cell? ⟨b2, 1, none⟩ = some ((.slice u1_a u1_l u1_c)) := IHolds.cell (l := [(.int .i64 (S : Int)), (.slice u1_a u1_l u1_c), (.slice u2_a u2_l u2_c)]) (t := 25) (b := b2) (w := U5) (Jg.out) 1 (by simp)
  have zg_2 : U5.cell? ⟨b2, 2, none⟩ = some ((.slice u2_a u2_l u2_c)) := IHolds.cell (l := [(.int .i64 (S : Int)), (.slice u1_a u1_l u1_c), (.slice u2_a u2_l u2_c)]) (t := 25) (b := b2) (w := U5) (Jg.out) 2 (by simp)
  go_wp2_with fail
  clear zg_0 zg_1 zg_2
  refine (GO.out U5 _ Nu1.out).mono ?_
  rintro e U6 ⟨rfl, hb⟩
  replace B := aB B hb
  replace Jg := aJ Jg hb
  replace Nu1 := aN Nu1 hb
  replace Nu2 := aN Nu2 hb
  clear hb
  go_wp2_with fail
  refine (T13.out U6 _).mono ?_
  rintro e U7 ⟨rfl, hb⟩
  replace B := aB B hb
  replace Jg := aJ Jg hb
  replace Nu1 := aN Nu1 hb
  replace Nu2 := aN Nu2 hb
  clear hb
  have zg_0 : U7.cell? ⟨b2, 0, none⟩ = some ((.int .i64 (S : Int))) := IHolds.cell (l := [(.int .i64 (S : Int)), (.slice u1_a u1_l u1_c), (.slice u2_a u2_l u2_c)]) (t := 25) (b := b2) (w := U7) (Jg.out) 0 (by simp)
  have zg_1 : U7.cell? ⟨b2, 1, none⟩ = some ((.slice u1_a u1_l u1_c)) := IHolds.cell (l := [(.int .i64 (S : Int)), (.slice u1_a u1_l u1_c), (.slice u2_a u2_l u2_c)]) (t := 25) (b := b2) (w := U7) (Jg.out) 1 (by simp)
  have zg_2 : U7.cell? ⟨b2, 2, none⟩ = some ((.slice u2_a u2_l u2_c)) := IHolds.cell (l := [(.int .i64 (S : Int)), (.slice u1_a u1_l u1_c), (.slice u2_a u2_l u2_c)]) (t := 25) (b := b2) (w := U7) (Jg.out) 2 (by simp)
  go_wp2_with fail
  clear zg_0 zg_1 zg_2
  refine (GP.out U7 _ Nu2.out).mono ?_
  rintro e U8 ⟨rfl, hb⟩
  replace B := aB B hb
  replace Jg := aJ Jg hb
  replace Nu1 := aN Nu1 hb
  replace Nu2 := aN Nu2 hb
  clear hb
  go_wp2_with fail
  refine (T13.out U8 _).mono ?_
  rintro e U9 ⟨rfl, hb⟩
  replace B := aB B hb
  replace Jg := aJ Jg hb
  replace Nu1 := aN Nu1 hb
  replace Nu2 := aN Nu2 hb
  clear hb
  go_wp2_with fail
  refine (F15.out U9).mono ?_
  rintro e U10 ⟨rfl, hb⟩
  replace B := aB B hb
  replace Jg := aJ Jg hb
  replace Nu1 := aN Nu1 hb
  replace Nu2 := aN Nu2 hb
  clear hb
  go_wp2_with fail
  have hb := dB U10
  replace B := aB B hb
  replace Jg := aJ Jg hb
  replace Nu1 := aN Nu1 hb
  replace Nu2 := aN Nu2 hb
  clear hb
  refine wp_region_held_drew (S := fun W => IHolds W (b2) 25 [(.int .i64 (S : Int)), (.slice u1_a u1_l u1_c), (.slice u2_a u2_l u2_c)]) (by kernel_rfl) Jg.out (fun hHeld1 => ?_)
  generalize U10.drew = U11 at *
  refine tk (i := 0) (v := (.string TB)) rfl (by kernel_rfl) (fun _ _ _ h => h) rfl ?_ hHeld1 ?_
  · intro W hS; go_simp
  simp only [Act.put, y1, y2, y3, y4, y5, y6, y7]
  refine tk (i := 1) (v := (.int .i64 0)) rfl (by kernel_rfl) (fun _ _ _ h => h) rfl ?_ hHeld1 ?_
  · intro W hS; go_simp
  simp only [Act.put, y1, y2, y3, y4, y5, y6, y7]
  refine tk (i := 2) (v := (.int .i64 0)) rfl (by kernel_rfl) (fun _ _ _ h => h) rfl ?_ hHeld1 ?_
  · intro W hS; go_simp
  simp only [Act.put, y1, y2, y3, y4, y5, y6, y7]
  refine tk (i := 4) (v := .pointer (some ⟨b2, 0, none⟩)) rfl (by kernel_rfl) (fun _ _ _ h => h) rfl ?_ hHeld1 ?_
  · intro W hS; go_simp
  simp only [Act.put, y1, y2, y3, y4, y5, y6, y7]
  refine tk (i := 5) (v := (.int .i64 (S : Int))) rfl (by kernel_rfl) (fun _ _ _ h => h) rfl ?_ hHeld1 ?_
  · intro W hS; have zg_0 : W.cell? ⟨b2, 0, none⟩ = some ((.int .i64 (S : Int))) := IHolds.cell (l := [(.int .i64 (S : Int)), (.slice u1_a u1_l u1_c), (.slice u2_a u2_l u2_c)]) (t := 25) (b := b2) (w := W) (hS) 0 (by simp); have zg_1 : W.cell? ⟨b2, 1, none⟩ = some ((.slice u1_a u1_l u1_c)) := IHolds.cell (l := [(.int .i64 (S : Int)), (.slice u1_a u1_l u1_c), (.slice u2_a u2_l u2_c)]) (t := 25) (b := b2) (w := W) (hS) 1 (by simp); have zg_2 : W.cell? ⟨b2, 2, none⟩ = some ((.slice u2_a u2_l u2_c)) := IHolds.cell (l := [(.int .i64 (S : Int)), (.slice u1_a u1_l u1_c), (.slice u2_a u2_l u2_c)]) (t := 25) (b := b2) (w := W) (hS) 2 (by simp); go_simp
  simp only [Act.put, y1, y2, y3, y4, y5, y6, y7]
  refine wpAnyH_ready (rs := [3]) (by kernel_rfl) (by simp) ?_
  refine AllReadyH.cons rfl (fun K hK => ?_) AllReadyH.nil
  clear hHeld1
  go_simp
  refine (F16.out U11).mono ?_
  rintro e U12 ⟨⟨n2, rfl, hv⟩, hb⟩
  have Nn2 : Hid (NumV U12 65536 (2) n2) := hv
  clear hv
  replace B := aB B hb
  replace Jg := aJ Jg hb
  replace Nu1 := aN Nu1 hb
  replace Nu2 := aN Nu2 hb
  clear hb
  go_wp2_with fail
  refine hK.out _ _ (Jg.out) (fun hHeld2 => ?_)
  clear hK K
  try simp only [Act.put, y1, y2, y3, y4, y5, y6, y7]
  refine wpAnyH_ready (rs := [6]) (by kernel_rfl) (by simp) ?_
  refine AllReadyH.cons rfl (fun K hK => ?_) AllReadyH.nil
  clear hHeld2
  go_simp
  refine (GB.out U12 n2 Nn2.out).mono ?_
  rintro e U13 ⟨rfl, hb⟩
  replace B := aB B hb
  replace Jg := aJ Jg hb
  replace Nu1 := aN Nu1 hb
  replace Nu2 := aN Nu2 hb
  replace Nn2 := aN Nn2 hb
  clear hb
  go_wp2_with fail
  refine hK.out _ _ (Jg.out) (fun hHeld3 => ?_)
  clear hK K
  try simp only [Act.put, y1, y2, y3, y4, y5, y6, y7]
  refine wpAnyH_ready (rs := [7]) (by kernel_rfl) (by simp) ?_
  refine AllReadyH.cons rfl (fun K hK => ?_) AllReadyH.nil
  clear hHeld3
  go_simp
  refine (T13.out U13 _).mono ?_
  rintro e U14 ⟨rfl, hb⟩
  replace B := aB B hb
  replace Jg := aJ Jg hb
  replace Nu1 := aN Nu1 hb
  replace Nu2 := aN Nu2 hb
  replace Nn2 := aN Nn2 hb
  clear hb
  go_wp2_with fail
  refine hK.out _ _ (Jg.out) (fun hHeld4 => ?_)
  clear hK K
  try simp only [Act.put, y1, y2, y3, y4, y5, y6, y7]
  refine tk (i := 8) (v := (.bool true)) rfl (by kernel_rfl) (fun _ _ _ h => h) rfl ?_ hHeld4 ?_
  · intro W hS; go_simp
  simp only [Act.put, y1, y2, y3, y4, y5, y6, y7]
  refine wpAnyH_done (by kernel_rfl) ?_ _
  clear hHeld4
  go_wp2_with fail
  go_ret
  exact ⟨rfl, B.out⟩
set_option maxRecDepth 100000 in
set_option maxHeartbeats 4000000 in
theorem tells_no {w : World} {z : Int} {q p S : Nat} {TO TP TB Y1 Y3 : ByteArray}
    (F9 : Hid (∀ W, Calls Try.prog 9 #[.int .i64 z] W fun e w' => e = .returned (.agg #[.int .i64 0, .slice none 0 0, .slice none 0 0]) ∧ Below W.heap.size W w'))
    (F10 : Hid (∀ W, Calls Try.prog 10 #[.int .i64 z] W fun e w' => e = .returned (.tuple #[.int .i64 0, .int .i64 0, .int .i64 1]) ∧ Below W.heap.size W w'))
    (F11 : Hid (∀ W, Calls Try.prog 11 #[.int .i64 z] W fun e w' => e = .returned (.tuple #[.string ⟨#[]⟩, .int .i64 1]) ∧ Below W.heap.size W w'))
    (F12 : Hid (∀ W, Calls Try.prog 12 #[.int .i64 z] W fun e w' => e = .returned (.tuple #[.string ⟨#[]⟩, .int .i64 1]) ∧ Below W.heap.size W w'))
    (F15 : Hid (∀ W, Calls Try.prog 15 #[.int .i64 z] W fun e w' => e = .returned (.tuple #[.string ⟨#[]⟩, .int .i64 1]) ∧ Below W.heap.size W w'))
    (GB : Hid (∀ W v, NumV W 65536 2 v → Calls Try.prog 14 #[v, .int .i64 0] W fun e w' => e = .returned (.string Y3) ∧ Below W.heap.size W w'))
    (GN : Hid (∀ W, Calls Try.prog 14 #[.slice none 0 0, .int .i64 0] W fun e w' => e = .returned (.string Y1) ∧ Below W.heap.size W w'))
    (F16 : Hid (∀ W, Calls Try.prog 16 #[.int .i64 2] W fun e w' => (∃ v, e = .returned v ∧ NumV w' 65536 2 v) ∧ Below W.heap.size W w'))
    (T13 : Hid (∀ W s, Calls Try.prog 13 #[.string ⟨#[]⟩, .int .i64 1, .int .i64 1, .string s] W fun e w' => e = .returned (.bool true) ∧ Below W.heap.size W w')) :
    Calls Try.prog 3 #[.int .i64 z] w fun e w' => e = .returned (.bool true) ∧ Below w.heap.size w w' := by
  have B : Hid (Below w.heap.size w w) := Below.refl _ _
  go_enter Try.func3, Try.ntmps3
  go_wp2_with fail
  refine (F9.out w).mono ?_
  rintro e U0 ⟨rfl, hb⟩
  replace B := aB B hb
  clear hb
  have hb := nB U0 (.cells #[(.int .i64 0), (.slice none 0 0), (.slice none 0 0)] 25)
  have Jg : Hid (IHolds (U0.alloc (.cells #[(.int .i64 0), (.slice none 0 0), (.slice none 0 0)] 25)) U0.heap.size 25 [(.int .i64 0), (.slice none 0 0), (.slice none 0 0)]) := IHolds.new _ _ _
  have ge_g : Hid (w.heap.size ≤ U0.heap.size) := B.out.size
  replace B := aB B hb
  clear hb
  go_wp2_with fail
  generalize (U0.alloc (.cells #[(.int .i64 0), (.slice none 0 0), (.slice none 0 0)] 25)) = U1 at *
  generalize U0.heap.size = b2 at *
  refine (F10.out U1).mono ?_
  rintro e U3 ⟨rfl, hb⟩
  replace B := aB B hb
  replace Jg := aJ Jg hb
  clear hb
  have zg_0 : U3.cell? ⟨b2, 0, none⟩ = some ((.int .i64 0)) := IHolds.cell (l := [(.int .i64 0), (.slice none 0 0), (.slice none 0 0)]) (t := 25) (b := b2) (w := U3) (Jg.out) 0 (by simp)
  have zg_1 : U3.cell? ⟨b2, 1, none⟩ = some ((.slice none 0 0)) := IHolds.cell (l := [(.int .i64 0), (.slice none 0 0), (.slice none 0 0)]) (t := 25) (b := b2) (w := U3) (Jg.out) 1 (by simp)
  have zg_2 : U3.cell? ⟨b2, 2, none⟩ = some ((.slice none 0 0)) := IHolds.cell (l := [(.int .i64 0), (.slice none 0 0), (.slice none 0 0)]) (t := 25) (b := b2) (w := U3) (Jg.out) 2 (by simp)
  go_wp2_with fail
  clear zg_0 zg_1 zg_2
  refine (F11.out U3).mono ?_
  rintro e U4 ⟨rfl, hb⟩
  replace B := aB B hb
  replace Jg := aJ Jg hb
  clear hb
  go_wp2_with fail
  refine (F12.out U4).mono ?_
  rintro e U5 ⟨rfl, hb⟩
  replace B := aB B hb
  replace Jg := aJ Jg hb
  clear hb
  have zg_0 : U5.cell? ⟨b2, 0, none⟩ = some ((.int .i64 0)) := IHolds.cell (l := [(.int .i64 0), (.slice none 0 0), (.slice none 0 0)]) (t := 25) (b := b2) (w := U5) (Jg.out) 0 (by simp)
  have zg_1 : U5.cell? ⟨b2, 1, none⟩ = some ((.slice none 0 0)) := IHolds.cell (l := [(.int .i64 0), (.slice none 0 0), (.slice none 0 0)]) (t := 25) (b := b2) (w := U5) (Jg.out) 1 (by simp)
  have zg_2 : U5.cell? ⟨b2, 2, none⟩ = some ((.slice none 0 0)) := IHolds.cell (l := [(.int .i64 0), (.slice none 0 0), (.slice none 0 0)]) (t := 25) (b := b2) (w := U5) (Jg.out) 2 (by simp)
  go_wp2_with fail
  clear zg_0 zg_1 zg_2
  refine (GN.out U5).mono ?_
  rintro e U6 ⟨rfl, hb⟩
  replace B := aB B hb
  replace Jg := aJ Jg hb
  clear hb
  go_wp2_with fail
  refine (T13.out U6 _).mono ?_
  rintro e U7 ⟨rfl, hb⟩
  replace B := aB B hb
  replace Jg := aJ Jg hb
  clear hb
  have zg_0 : U7.cell? ⟨b2, 0, none⟩ = some ((.int .i64 0)) := IHolds.cell (l := [(.int .i64 0), (.slice none 0 0), (.slice none 0 0)]) (t := 25) (b := b2) (w := U7) (Jg.out) 0 (by simp)
  have zg_1 : U7.cell? ⟨b2, 1, none⟩ = some ((.slice none 0 0)) := IHolds.cell (l := [(.int .i64 0), (.slice none 0 0), (.slice none 0 0)]) (t := 25) (b := b2) (w := U7) (Jg.out) 1 (by simp)
  have zg_2 : U7.cell? ⟨b2, 2, none⟩ = some ((.slice none 0 0)) := IHolds.cell (l := [(.int .i64 0), (.slice none 0 0), (.slice none 0 0)]) (t := 25) (b := b2) (w := U7) (Jg.out) 2 (by simp)
  go_wp2_with fail
  clear zg_0 zg_1 zg_2
  refine (GN.out U7).mono ?_
  rintro e U8 ⟨rfl, hb⟩
  replace B := aB B hb
  replace Jg := aJ Jg hb
  clear hb
  go_wp2_with fail
  refine (T13.out U8 _).mono ?_
  rintro e U9 ⟨rfl, hb⟩
  replace B := aB B hb
  replace Jg := aJ Jg hb
  clear hb
  go_wp2_with fail
  refine (F15.out U9).mono ?_
  rintro e U10 ⟨rfl, hb⟩
  replace B := aB B hb
  replace Jg := aJ Jg hb
  clear hb
  go_wp2_with fail
  have hb := dB U10
  replace B := aB B hb
  replace Jg := aJ Jg hb
  clear hb
  refine wp_region_held_drew (S := fun W => IHolds W (b2) 25 [(.int .i64 0), (.slice none 0 0), (.slice none 0 0)]) (by kernel_rfl) Jg.out (fun hHeld1 => ?_)
  generalize U10.drew = U11 at *
  refine tk (i := 0) (v := (.string ⟨#[]⟩)) rfl (by kernel_rfl) (fun _ _ _ h => h) rfl ?_ hHeld1 ?_
  · intro W hS; go_simp
  simp only [Act.put, y1, y2, y3, y4, y5, y6, y7]
  refine tk (i := 1) (v := (.int .i64 1)) rfl (by kernel_rfl) (fun _ _ _ h => h) rfl ?_ hHeld1 ?_
  · intro W hS; go_simp
  simp only [Act.put, y1, y2, y3, y4, y5, y6, y7]
  refine tk (i := 2) (v := (.int .i64 1)) rfl (by kernel_rfl) (fun _ _ _ h => h) rfl ?_ hHeld1 ?_
  · intro W hS; go_simp
  simp only [Act.put, y1, y2, y3, y4, y5, y6, y7]
  refine tk (i := 4) (v := .pointer (some ⟨b2, 0, none⟩)) rfl (by kernel_rfl) (fun _ _ _ h => h) rfl ?_ hHeld1 ?_
  · intro W hS; go_simp
  simp only [Act.put, y1, y2, y3, y4, y5, y6, y7]
  refine tk (i := 5) (v := (.int .i64 0)) rfl (by kernel_rfl) (fun _ _ _ h => h) rfl ?_ hHeld1 ?_
  · intro W hS; have zg_0 : W.cell? ⟨b2, 0, none⟩ = some ((.int .i64 0)) := IHolds.cell (l := [(.int .i64 0), (.slice none 0 0), (.slice none 0 0)]) (t := 25) (b := b2) (w := W) (hS) 0 (by simp); have zg_1 : W.cell? ⟨b2, 1, none⟩ = some ((.slice none 0 0)) := IHolds.cell (l := [(.int .i64 0), (.slice none 0 0), (.slice none 0 0)]) (t := 25) (b := b2) (w := W) (hS) 1 (by simp); have zg_2 : W.cell? ⟨b2, 2, none⟩ = some ((.slice none 0 0)) := IHolds.cell (l := [(.int .i64 0), (.slice none 0 0), (.slice none 0 0)]) (t := 25) (b := b2) (w := W) (hS) 2 (by simp); go_simp
  simp only [Act.put, y1, y2, y3, y4, y5, y6, y7]
  refine wpAnyH_ready (rs := [3]) (by kernel_rfl) (by simp) ?_
  refine AllReadyH.cons rfl (fun K hK => ?_) AllReadyH.nil
  clear hHeld1
  go_simp
  refine (F16.out U11).mono ?_
  rintro e U12 ⟨⟨n2, rfl, hv⟩, hb⟩
  have Nn2 : Hid (NumV U12 65536 (2) n2) := hv
  clear hv
  replace B := aB B hb
  replace Jg := aJ Jg hb
  clear hb
  go_wp2_with fail
  refine hK.out _ _ (Jg.out) (fun hHeld2 => ?_)
  clear hK K
  try simp only [Act.put, y1, y2, y3, y4, y5, y6, y7]
  refine wpAnyH_ready (rs := [6]) (by kernel_rfl) (by simp) ?_
  refine AllReadyH.cons rfl (fun K hK => ?_) AllReadyH.nil
  clear hHeld2
  go_simp
  refine (GB.out U12 n2 Nn2.out).mono ?_
  rintro e U13 ⟨rfl, hb⟩
  replace B := aB B hb
  replace Jg := aJ Jg hb
  replace Nn2 := aN Nn2 hb
  clear hb
  go_wp2_with fail
  refine hK.out _ _ (Jg.out) (fun hHeld3 => ?_)
  clear hK K
  try simp only [Act.put, y1, y2, y3, y4, y5, y6, y7]
  refine wpAnyH_ready (rs := [7]) (by kernel_rfl) (by simp) ?_
  refine AllReadyH.cons rfl (fun K hK => ?_) AllReadyH.nil
  clear hHeld3
  go_simp
  refine (T13.out U13 _).mono ?_
  rintro e U14 ⟨rfl, hb⟩
  replace B := aB B hb
  replace Jg := aJ Jg hb
  replace Nn2 := aN Nn2 hb
  clear hb
  go_wp2_with fail
  refine hK.out _ _ (Jg.out) (fun hHeld4 => ?_)
  clear hK K
  try simp only [Act.put, y1, y2, y3, y4, y5, y6, y7]
  refine tk (i := 8) (v := (.bool true)) rfl (by kernel_rfl) (fun _ _ _ h => h) rfl ?_ hHeld4 ?_
  · intro W hS; go_simp
  simp only [Act.put, y1, y2, y3, y4, y5, y6, y7]
  refine wpAnyH_done (by kernel_rfl) ?_ _
  clear hHeld4
  go_wp2_with fail
  go_ret
  exact ⟨rfl, B.out⟩
set_option maxRecDepth 100000 in
theorem tells1 (w : World) : Calls Try.prog 3 #[.int .i64 1] w fun e w' => e = .returned (.bool true) ∧ Below w.heap.size w w' := by
  refine tells_ok (S := 2) (q := 641) (p := 1283) (Y1 := ⟨#[]⟩) (Y3 := ⟨#[]⟩) (by decide) (fun W => kind1 W) (fun W => sizes_call (on46_ok (z := 1) (G := gr1) rfl size70 (by kernel_rfl) (fun W => ground1 W) (fun W g h => sizes_any (S := 2) (by have := h.cell 0 (by decide); exact this))))
    (fun W => order_call (on48_49 (z := 1) (G := gr1) rfl size70 (by kernel_rfl) (fun W => ground1 W) (fun W g h => order_any (S := 2) (x0 := 641) (x1 := 0) (x2 := 0) (x3 := 0) (by have := h.cell 0 (by decide); exact this) (by have := h.cell 2 (by decide); exact this) (by have := h.cell 3 (by decide); exact this) (by have := h.cell 4 (by decide); exact this) (by have := h.cell 5 (by decide); exact this) (by omega) (by omega) (by omega) (by omega) (by omega)))) (fun W => prime_call (on48_50 (z := 1) (G := gr1) rfl size70 (by kernel_rfl) (fun W => ground1 W) (fun W g h => prime_any (S := 2) (x0 := 1283) (x1 := 0) (x2 := 0) (x3 := 0) (by have := h.cell 0 (by decide); exact this) (by have := h.cell 16 (by decide); exact this) (by have := h.cell 17 (by decide); exact this) (by have := h.cell 18 (by decide); exact this) (by have := h.cell 19 (by decide); exact this) (by omega) (by omega) (by omega) (by omega) (by omega)))) (fun W => base_call (on48_51 (z := 1) (G := gr1) rfl size70 (by kernel_rfl) (fun W => ground1 W) (fun W g h => base_any (S := 2) (by have := h.cell 0 (by decide); exact this)   (by omega))))
    (fun W v h => ?_) (fun W v h => ?_) (fun W v h => ?_) (fun W => of_any W 2 (by omega)) (fun W s => lawText_ok s W)
  · exact refTextV (n := NB 641 0 0 0) h (Nat.le_trans (len_lt (k := 20) (by decide)) (by omega)) (by omega)
  · exact refTextV (n := NB 1283 0 0 0) h (Nat.le_trans (len_lt (k := 20) (by decide)) (by omega)) (by omega)
  · exact refTextV (n := NB 2 0 0 0) h (Nat.le_trans (len_lt (k := 20) (by decide)) (by omega)) (by omega)
set_option maxRecDepth 100000 in
theorem tells2 (w : World) : Calls Try.prog 3 #[.int .i64 2] w fun e w' => e = .returned (.bool true) ∧ Below w.heap.size w w' := by
  refine tells_ok (S := 8) (q := 576465431670292481) (p := 1152930863340584963) (Y1 := ⟨#[]⟩) (Y3 := ⟨#[]⟩) (by decide) (fun W => kind2 W) (fun W => sizes_call (on46_ok (z := 2) (G := gr2) rfl size70 (by kernel_rfl) (fun W => ground2 W) (fun W g h => sizes_any (S := 8) (by have := h.cell 0 (by decide); exact this))))
    (fun W => order_call (on48_49 (z := 2) (G := gr2) rfl size70 (by kernel_rfl) (fun W => ground2 W) (fun W g h => order_any (S := 8) (x0 := 576465431670292481) (x1 := 0) (x2 := 0) (x3 := 0) (by have := h.cell 0 (by decide); exact this) (by have := h.cell 2 (by decide); exact this) (by have := h.cell 3 (by decide); exact this) (by have := h.cell 4 (by decide); exact this) (by have := h.cell 5 (by decide); exact this) (by omega) (by omega) (by omega) (by omega) (by omega)))) (fun W => prime_call (on48_50 (z := 2) (G := gr2) rfl size70 (by kernel_rfl) (fun W => ground2 W) (fun W g h => prime_any (S := 8) (x0 := 1152930863340584963) (x1 := 0) (x2 := 0) (x3 := 0) (by have := h.cell 0 (by decide); exact this) (by have := h.cell 16 (by decide); exact this) (by have := h.cell 17 (by decide); exact this) (by have := h.cell 18 (by decide); exact this) (by have := h.cell 19 (by decide); exact this) (by omega) (by omega) (by omega) (by omega) (by omega)))) (fun W => base_call (on48_51 (z := 2) (G := gr2) rfl size70 (by kernel_rfl) (fun W => ground2 W) (fun W g h => base_any (S := 8) (by have := h.cell 0 (by decide); exact this)   (by omega))))
    (fun W v h => ?_) (fun W v h => ?_) (fun W v h => ?_) (fun W => of_any W 2 (by omega)) (fun W s => lawText_ok s W)
  · exact refTextV (n := NB 576465431670292481 0 0 0) h (Nat.le_trans (len_lt (k := 20) (by decide)) (by omega)) (by omega)
  · exact refTextV (n := NB 1152930863340584963 0 0 0) h (Nat.le_trans (len_lt (k := 20) (by decide)) (by omega)) (by omega)
  · exact refTextV (n := NB 2 0 0 0) h (Nat.le_trans (len_lt (k := 20) (by decide)) (by omega)) (by omega)
set_option maxRecDepth 100000 in
theorem tells3 (w : World) : Calls Try.prog 3 #[.int .i64 3] w fun e w' => e = .returned (.bool true) ∧ Below w.heap.size w w' := by
  refine tells_ok (S := 32) (q := 7237005577332262213973186563042995786902308146886443998308627866733439352833) (p := 14474011154664524427946373126085991573804616293772887996617255733466878705667) (Y1 := ⟨#[]⟩) (Y3 := ⟨#[]⟩) (by decide) (fun W => kind3 W) (fun W => sizes_call (on46_ok (z := 3) (G := gr3) rfl size70 (by kernel_rfl) (fun W => ground3 W) (fun W g h => sizes_any (S := 32) (by have := h.cell 0 (by decide); exact this))))
    (fun W => order_call (on48_49 (z := 3) (G := gr3) rfl size70 (by kernel_rfl) (fun W => ground3 W) (fun W g h => order_any (S := 32) (x0 := 1) (x1 := 9223372036854775808) (x2 := 4543) (x3 := 1152921504606846976) (by have := h.cell 0 (by decide); exact this) (by have := h.cell 2 (by decide); exact this) (by have := h.cell 3 (by decide); exact this) (by have := h.cell 4 (by decide); exact this) (by have := h.cell 5 (by decide); exact this) (by omega) (by omega) (by omega) (by omega) (by omega)))) (fun W => prime_call (on48_50 (z := 3) (G := gr3) rfl size70 (by kernel_rfl) (fun W => ground3 W) (fun W g h => prime_any (S := 32) (x0 := 3) (x1 := 0) (x2 := 9087) (x3 := 2305843009213693952) (by have := h.cell 0 (by decide); exact this) (by have := h.cell 16 (by decide); exact this) (by have := h.cell 17 (by decide); exact this) (by have := h.cell 18 (by decide); exact this) (by have := h.cell 19 (by decide); exact this) (by omega) (by omega) (by omega) (by omega) (by omega)))) (fun W => base_call (on48_51 (z := 3) (G := gr3) rfl size70 (by kernel_rfl) (fun W => ground3 W) (fun W g h => base_any (S := 32) (by have := h.cell 0 (by decide); exact this)   (by omega))))
    (fun W v h => ?_) (fun W v h => ?_) (fun W v h => ?_) (fun W => of_any W 2 (by omega)) (fun W s => lawText_ok s W)
  · exact refTextV (n := NB 1 9223372036854775808 4543 1152921504606846976) h (Nat.le_trans (len_lt (k := 20) (by decide)) (by omega)) (by omega)
  · exact refTextV (n := NB 3 0 9087 2305843009213693952) h (Nat.le_trans (len_lt (k := 20) (by decide)) (by omega)) (by omega)
  · exact refTextV (n := NB 2 0 0 0) h (Nat.le_trans (len_lt (k := 20) (by decide)) (by omega)) (by omega)
theorem tells0 (w : World) (z : Int) (z1 : z ≠ 1) (z2 : z ≠ 2) (z3 : z ≠ 3) : Calls Try.prog 3 #[.int .i64 z] w fun e w' => e = .returned (.bool true) ∧ Below w.heap.size w w' := by
  have G := fun W => ground0 W z (beq_eq_false_iff_ne.2 z1) (beq_eq_false_iff_ne.2 z2) (beq_eq_false_iff_ne.2 z3)
  refine tells_no (q := 0) (p := 0) (S := 0) (TO := ⟨#[]⟩) (TP := ⟨#[]⟩) (TB := ⟨#[]⟩) (Y1 := ⟨(beB 0 0).toArray⟩) (Y3 := ⟨(beB 0 2).toArray⟩) (fun W => kind0 W z (beq_eq_false_iff_ne.2 z1) (bne_iff_ne.2 z1) (beq_eq_false_iff_ne.2 z2) (beq_eq_false_iff_ne.2 z3)) (fun W => sizes_call (on46_no 47 rfl size70 (by kernel_rfl) G)) (fun W => order_call (on48_no 49 rfl size70 (by kernel_rfl) G)) (fun W => prime_call (on48_no 50 rfl size70 (by kernel_rfl) G)) (fun W => base_call (on48_no 51 rfl size70 (by kernel_rfl) G))
    (fun W v h => refTextV (S := 0) h (Nat.le_trans (len_lt (k := 20) (by decide)) (by omega)) (by omega)) (fun W => ?_) (fun W => of_any W 2 (by omega)) (fun W s => lawText_bad 1 s W rfl)
  have hn : NumV W 65536 0 (.slice none 0 0) := ⟨none, 0, by rw [dg_zero]; rfl, by rw [dg_zero]; exact Nat.le_refl _, by rw [dg_zero]; exact Row.nil _ _⟩
  exact refTextV (S := 0) hn (by rw [dg_zero]; simp) (by omega)
theorem groupTells_walk (z : Int) (w : World) : Calls Try.prog 3 #[.int .i64 z] w fun e w' => e = .returned (.bool true) ∧ Below w.heap.size w w' := by
  by_cases z1 : z = 1
  · subst z1; exact tells1 w
  by_cases z2 : z = 2
  · subst z2; exact tells2 w
  by_cases z3 : z = 3
  · subst z3; exact tells3 w
  exact tells0 w z z1 z2 z3
end Go.Proofs.Ytckfdpiohkggaaa
