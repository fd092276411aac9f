/- The walk of GroupElems. -/
import Derived.Test.YtckfdpiohkggaaaTells
import Derived.Test.YtckfdpiohkggaaaIsRef
set_option linter.unusedSimpArgs false
set_option linter.unusedVariables false
namespace Go.Proofs.Ytckfdpiohkggaaa
open Go.RowKit Go.Deep Go.PlainAid

set_option maxRecDepth 100000 in
set_option maxHeartbeats 1500000 in
theorem elw_bx {w : World} {z : Int} {a b n : ByteArray} {q p S A D E rT rP rU : Nat} {TT TP TU : ByteArray}
    (hs : ((S : Int) == 0) = false)
    (F9 : Hid (∀ W, Calls Try.prog 9 #[.int .i64 z] W fun e w' => (∃ u1 u2, e = .returned (.agg #[.int .i64 (S : Int), u1, u2]) ∧ NumV w' 65536 q u1 ∧ NumV w' 65536 p u2) ∧ Below W.heap.size W w'))
    (F22a : Hid (∀ W u1 u2, NumV W 65536 q u1 → NumV W 65536 p u2 → Calls Try.prog 22 #[.agg #[.int .i64 (S : Int), u1, u2], .string a] W fun e w' => e = .returned (.bool true) ∧ Below W.heap.size W w'))
    (F22b : Hid (∀ W u1 u2, NumV W 65536 q u1 → NumV W 65536 p u2 → Calls Try.prog 22 #[.agg #[.int .i64 (S : Int), u1, u2], .string b] W fun e w' => e = .returned (.bool true) ∧ Below W.heap.size W w'))
    (F21n : Hid (∀ W u1 u2, NumV W 65536 q u1 → NumV W 65536 p u2 → Calls Try.prog 21 #[.agg #[.int .i64 (S : Int), u1, u2], .string n] W fun e w' => e = .returned (.bool false) ∧ Below W.heap.size W w'))
    (F25a : Hid (∀ W, Calls Try.prog 25 #[.string a] W fun e w' => (∃ v, e = .returned v ∧ NumV w' 65536 A v) ∧ Below W.heap.size W w'))
    (F25b : Hid (∀ W, Calls Try.prog 25 #[.string b] W fun e w' => (∃ v, e = .returned v ∧ NumV w' 65536 D v) ∧ Below W.heap.size W w'))
    (F37 : Hid (∀ W, Calls Try.prog 37 #[.int .i64 z, .string a, .string b] W fun e w' => e = .returned (.tuple #[.string TT, .int .i64 0]) ∧ Below W.heap.size W w'))
    (F34 : Hid (∀ W u1 u2 v v', NumV W 65536 q u1 → NumV W 65536 p u2 → NumV W 65536 A v → NumV W 65536 D v' → Calls Try.prog 34 #[.agg #[.int .i64 (S : Int), u1, u2], v, v'] W fun e w' => (∃ v, e = .returned v ∧ NumV w' 65536 rT v) ∧ Below W.heap.size W w'))
    (G37 : Hid (∀ W v, NumV W 65536 rT v → Calls Try.prog 14 #[v, .int .i64 (S : Int)] W fun e w' => e = .returned (.string TT) ∧ Below W.heap.size W w'))
    (F38 : Hid (∀ W, Calls Try.prog 38 #[.int .i64 z, .string a, .string n] W fun e w' => e = .returned (.tuple #[.string ⟨#[]⟩, .int .i64 6]) ∧ Below W.heap.size W w'))
    (F39 : Hid (∀ W, Calls Try.prog 39 #[.int .i64 z, .string a] W fun e w' => e = .returned (.tuple #[.string TU, .int .i64 0]) ∧ Below W.heap.size W w'))
    (F36 : Hid (∀ W u1 u2 v, NumV W 65536 q u1 → NumV W 65536 p u2 → NumV W 65536 A v → Calls Try.prog 36 #[.agg #[.int .i64 (S : Int), u1, u2], v] W fun e w' => (∃ v, e = .returned v ∧ NumV w' 65536 rU v) ∧ Below W.heap.size W w'))
    (G39 : Hid (∀ W v, NumV W 65536 rU v → Calls Try.prog 14 #[v, .int .i64 (S : Int)] W fun e w' => e = .returned (.string TU) ∧ Below W.heap.size W w'))
    (T13 : Hid (∀ W s, Calls Try.prog 13 #[.string s, .int .i64 0, .int .i64 0, .string s] W fun e w' => e = .returned (.bool true) ∧ Below W.heap.size W w'))
    (TB6 : Hid (∀ W, Calls Try.prog 13 #[.string ⟨#[]⟩, .int .i64 6, .int .i64 6, .string ⟨#[]⟩] W fun e w' => e = .returned (.bool true) ∧ Below W.heap.size W w')) :
    Calls Try.prog 6 #[.int .i64 z, .string a, .string b, .string n] w fun e w' => e = .returned (.bool true) ∧ Below w.heap.size w w' := by
  have B : Hid (Below w.heap.size w w) := Below.refl _ _
  go_enter Try.func6, Try.ntmps6
  go_wp2_with fail
  refine (F9.out w).mono ?_
  rintro e U0 ⟨⟨u1, u2, rfl, hv, hv'⟩, hb⟩
  have Nu1 : Hid (NumV U0 65536 q u1) := hv
  have Nu2 : Hid (NumV U0 65536 p u2) := hv'
  clear hv hv'
  replace B := aB B hb
  clear hb
  obtain ⟨u1_a, u1_l, u1_c, rfl⟩ := sN Nu1
  obtain ⟨u2_a, u2_l, u2_c, rfl⟩ := sN Nu2
  have hb := nB U0 (.cells #[(.int .i64 (S : Int)), (.slice u1_a u1_l u1_c), (.slice u2_a u2_l u2_c)] 25)
  have Jg : Hid (IHolds (U0.alloc (.cells #[(.int .i64 (S : Int)), (.slice u1_a u1_l u1_c), (.slice u2_a u2_l u2_c)] 25)) U0.heap.size 25 [(.int .i64 (S : Int)), (.slice u1_a u1_l u1_c), (.slice u2_a u2_l u2_c)]) := IHolds.new _ _ _
  have ge_g : Hid (w.heap.size ≤ U0.heap.size) := B.out.size
  replace B := aB B hb
  replace Nu1 := aN Nu1 hb
  replace Nu2 := aN Nu2 hb
  clear hb
  go_wp2_with fail
  generalize (U0.alloc (.cells #[(.int .i64 (S : Int)), (.slice u1_a u1_l u1_c), (.slice u2_a u2_l u2_c)] 25)) = U1 at *
  generalize U0.heap.size = b2 at *
  refine (F22a.out U1 _ _ Nu1.out Nu2.out).mono ?_
  rintro e U3 ⟨rfl, hb⟩
  replace B := aB B hb
  replace Jg := aJ Jg hb
  replace Nu1 := aN Nu1 hb
  replace Nu2 := aN Nu2 hb
  clear hb
  have zg_0 : U3.cell? ⟨b2, 0, none⟩ = some ((.int .i64 (S : Int))) := IHolds.cell (l := [(.int .i64 (S : Int)), (.slice u1_a u1_l u1_c), (.slice u2_a u2_l u2_c)]) (t := 25) (b := b2) (w := U3) (Jg.out) 0 (by simp)
  have zg_1 : U3.cell? ⟨b2, 1, none⟩ = some ((.slice u1_a u1_l u1_c)) := IHolds.cell (l := [(.int .i64 (S : Int)), (.slice u1_a u1_l u1_c), (.slice u2_a u2_l u2_c)]) (t := 25) (b := b2) (w := U3) (Jg.out) 1 (by simp)
  have zg_2 : U3.cell? ⟨b2, 2, none⟩ = some ((.slice u2_a u2_l u2_c)) := IHolds.cell (l := [(.int .i64 (S : Int)), (.slice u1_a u1_l u1_c), (.slice u2_a u2_l u2_c)]) (t := 25) (b := b2) (w := U3) (Jg.out) 2 (by simp)
  go_wp2_with fail
  clear zg_0 zg_1 zg_2
  refine (F22b.out U3 _ _ Nu1.out Nu2.out).mono ?_
  rintro e U4 ⟨rfl, hb⟩
  replace B := aB B hb
  replace Jg := aJ Jg hb
  replace Nu1 := aN Nu1 hb
  replace Nu2 := aN Nu2 hb
  clear hb
  have zg_0 : U4.cell? ⟨b2, 0, none⟩ = some ((.int .i64 (S : Int))) := IHolds.cell (l := [(.int .i64 (S : Int)), (.slice u1_a u1_l u1_c), (.slice u2_a u2_l u2_c)]) (t := 25) (b := b2) (w := U4) (Jg.out) 0 (by simp)
  have zg_1 : U4.cell? ⟨b2, 1, none⟩ = some ((.slice u1_a u1_l u1_c)) := IHolds.cell (l := [(.int .i64 (S : Int)), (.slice u1_a u1_l u1_c), (.slice u2_a u2_l u2_c)]) (t := 25) (b := b2) (w := U4) (Jg.out) 1 (by simp)
  have zg_2 : U4.cell? ⟨b2, 2, none⟩ = some ((.slice u2_a u2_l u2_c)) := IHolds.cell (l := [(.int .i64 (S : Int)), (.slice u1_a u1_l u1_c), (.slice u2_a u2_l u2_c)]) (t := 25) (b := b2) (w := U4) (Jg.out) 2 (by simp)
  go_wp2_with fail
  clear zg_0 zg_1 zg_2
  refine (F21n.out U4 _ _ Nu1.out Nu2.out).mono ?_
  rintro e U5 ⟨rfl, hb⟩
  replace B := aB B hb
  replace Jg := aJ Jg hb
  replace Nu1 := aN Nu1 hb
  replace Nu2 := aN Nu2 hb
  clear hb
  go_wp2_with fail
  have hb := dB U5
  replace B := aB B hb
  replace Jg := aJ Jg hb
  replace Nu1 := aN Nu1 hb
  replace Nu2 := aN Nu2 hb
  clear hb
  refine wp_region_held_drew (S := fun W => (IHolds W (b2) 25 [(.int .i64 (S : Int)), (.slice u1_a u1_l u1_c), (.slice u2_a u2_l u2_c)])) (by kernel_rfl) Jg.out (fun hHeld1 => ?_)
  generalize U5.drew = U6 at *
  refine tk (i := 0) (v := .agg #[(.int .i64 (S : Int)), (.slice u1_a u1_l u1_c), (.slice u2_a u2_l u2_c)]) rfl (by kernel_rfl) (fun _ _ _ h => h) rfl ?_ hHeld1 ?_
  · intro W hS; have zg_0 : W.cell? ⟨b2, 0, none⟩ = some ((.int .i64 (S : Int))) := IHolds.cell (l := [(.int .i64 (S : Int)), (.slice u1_a u1_l u1_c), (.slice u2_a u2_l u2_c)]) (t := 25) (b := b2) (w := W) (hS) 0 (by simp); have zg_1 : W.cell? ⟨b2, 1, none⟩ = some ((.slice u1_a u1_l u1_c)) := IHolds.cell (l := [(.int .i64 (S : Int)), (.slice u1_a u1_l u1_c), (.slice u2_a u2_l u2_c)]) (t := 25) (b := b2) (w := W) (hS) 1 (by simp); have zg_2 : W.cell? ⟨b2, 2, none⟩ = some ((.slice u2_a u2_l u2_c)) := IHolds.cell (l := [(.int .i64 (S : Int)), (.slice u1_a u1_l u1_c), (.slice u2_a u2_l u2_c)]) (t := 25) (b := b2) (w := W) (hS) 2 (by simp); go_simp
  simp only [Act.put, y1, y2, y3, y4, y5, y6, y7]
  refine tk (i := 1) (v := (.string a)) rfl (by kernel_rfl) (fun _ _ _ h => h) rfl ?_ hHeld1 ?_
  · intro W hS; go_simp
  simp only [Act.put, y1, y2, y3, y4, y5, y6, y7]
  refine tk (i := 3) (v := (.string b)) rfl (by kernel_rfl) (fun _ _ _ h => h) rfl ?_ hHeld1 ?_
  · intro W hS; go_simp
  simp only [Act.put, y1, y2, y3, y4, y5, y6, y7]
  refine tk (i := 6) (v := .pointer (some ⟨b2, 0, none⟩)) rfl (by kernel_rfl) (fun _ _ _ h => h) rfl ?_ hHeld1 ?_
  · intro W hS; go_simp
  simp only [Act.put, y1, y2, y3, y4, y5, y6, y7]
  refine tk (i := 7) (v := (.int .i64 (S : Int))) rfl (by kernel_rfl) (fun _ _ _ h => h) rfl ?_ hHeld1 ?_
  · intro W hS; have zg_0 : W.cell? ⟨b2, 0, none⟩ = some ((.int .i64 (S : Int))) := IHolds.cell (l := [(.int .i64 (S : Int)), (.slice u1_a u1_l u1_c), (.slice u2_a u2_l u2_c)]) (t := 25) (b := b2) (w := W) (hS) 0 (by simp); have zg_1 : W.cell? ⟨b2, 1, none⟩ = some ((.slice u1_a u1_l u1_c)) := IHolds.cell (l := [(.int .i64 (S : Int)), (.slice u1_a u1_l u1_c), (.slice u2_a u2_l u2_c)]) (t := 25) (b := b2) (w := W) (hS) 1 (by simp); have zg_2 : W.cell? ⟨b2, 2, none⟩ = some ((.slice u2_a u2_l u2_c)) := IHolds.cell (l := [(.int .i64 (S : Int)), (.slice u1_a u1_l u1_c), (.slice u2_a u2_l u2_c)]) (t := 25) (b := b2) (w := W) (hS) 2 (by simp); go_simp
  simp only [Act.put, y1, y2, y3, y4, y5, y6, y7]
  refine wpAnyH_ready (rs := [2]) (by kernel_rfl) (by simp) ?_
  refine AllReadyH.cons rfl (fun K hK => ?_) AllReadyH.nil
  clear hHeld1
  go_simp
  refine (F25a.out U6).mono ?_
  rintro e U7 ⟨⟨yat, rfl, hv⟩, hb⟩
  have Nyat : Hid (NumV U7 65536 (A) yat) := hv
  clear hv
  replace B := aB B hb
  replace Jg := aJ Jg hb
  replace Nu1 := aN Nu1 hb
  replace Nu2 := aN Nu2 hb
  clear hb
  go_wp2_with fail
  refine hK.out _ _ (Jg.out) (fun hHeld2 => ?_)
  clear hK K
  try simp only [Act.put, y1, y2, y3, y4, y5, y6, y7]
  refine wpAnyH_ready (rs := [4]) (by kernel_rfl) (by simp) ?_
  refine AllReadyH.cons rfl (fun K hK => ?_) AllReadyH.nil
  clear hHeld2
  go_simp
  refine (F25b.out U7).mono ?_
  rintro e U8 ⟨⟨yb, rfl, hv⟩, hb⟩
  have Nyb : Hid (NumV U8 65536 (D) yb) := hv
  clear hv
  replace B := aB B hb
  replace Jg := aJ Jg hb
  replace Nu1 := aN Nu1 hb
  replace Nu2 := aN Nu2 hb
  replace Nyat := aN Nyat hb
  clear hb
  go_wp2_with fail
  refine hK.out _ _ (Jg.out) (fun hHeld3 => ?_)
  clear hK K
  try simp only [Act.put, y1, y2, y3, y4, y5, y6, y7]
  refine wpAnyH_ready (rs := [5]) (by kernel_rfl) (by simp) ?_
  refine AllReadyH.cons rfl (fun K hK => ?_) AllReadyH.nil
  clear hHeld3
  go_simp
  refine (F34.out U8 _ _ _ _ Nu1.out Nu2.out Nyat.out Nyb.out).mono ?_
  rintro e U9 ⟨⟨yt, rfl, hv⟩, hb⟩
  have Nyt : Hid (NumV U9 65536 (rT) yt) := hv
  clear hv
  replace B := aB B hb
  replace Jg := aJ Jg hb
  replace Nu1 := aN Nu1 hb
  replace Nu2 := aN Nu2 hb
  replace Nyat := aN Nyat hb
  replace Nyb := aN Nyb hb
  clear hb
  go_wp2_with fail
  refine hK.out _ _ (Jg.out) (fun hHeld4 => ?_)
  clear hK K
  try simp only [Act.put, y1, y2, y3, y4, y5, y6, y7]
  refine wpAnyH_ready (rs := [8]) (by kernel_rfl) (by simp) ?_
  refine AllReadyH.cons rfl (fun K hK => ?_) AllReadyH.nil
  clear hHeld4
  go_simp
  refine (G37.out U9 yt Nyt.out).mono ?_
  rintro e U10 ⟨rfl, hb⟩
  replace B := aB B hb
  replace Jg := aJ Jg hb
  replace Nu1 := aN Nu1 hb
  replace Nu2 := aN Nu2 hb
  replace Nyat := aN Nyat hb
  replace Nyb := aN Nyb hb
  replace Nyt := aN Nyt hb
  clear hb
  go_wp2_with fail
  refine hK.out _ _ (Jg.out) (fun hHeld5 => ?_)
  clear hK K
  try simp only [Act.put, y1, y2, y3, y4, y5, y6, y7]
  refine tk (i := 9) (v := (.string TT)) rfl (by kernel_rfl) (fun _ _ _ h => h) rfl ?_ hHeld5 ?_
  · intro W hS; go_simp
  simp only [Act.put, y1, y2, y3, y4, y5, y6, y7]
  refine wpAnyH_done (by kernel_rfl) ?_ _
  clear hHeld5
  go_wp2_with fail
  have hb := dB U10
  replace B := aB B hb
  replace Jg := aJ Jg hb
  replace Nu1 := aN Nu1 hb
  replace Nu2 := aN Nu2 hb
  replace Nyat := aN Nyat hb
  replace Nyb := aN Nyb hb
  replace Nyt := aN Nyt hb
  clear hb
  refine wp_region_held_drew (S := fun W => (IHolds W (b2) 25 [(.int .i64 (S : Int)), (.slice u1_a u1_l u1_c), (.slice u2_a u2_l u2_c)])) (by kernel_rfl) Jg.out (fun hHeld6 => ?_)
  generalize U10.drew = U11 at *
  refine tk (i := 0) (v := .agg #[(.int .i64 (S : Int)), (.slice u1_a u1_l u1_c), (.slice u2_a u2_l u2_c)]) rfl (by kernel_rfl) (fun _ _ _ h => h) rfl ?_ hHeld6 ?_
  · intro W hS; have zg_0 : W.cell? ⟨b2, 0, none⟩ = some ((.int .i64 (S : Int))) := IHolds.cell (l := [(.int .i64 (S : Int)), (.slice u1_a u1_l u1_c), (.slice u2_a u2_l u2_c)]) (t := 25) (b := b2) (w := W) (hS) 0 (by simp); have zg_1 : W.cell? ⟨b2, 1, none⟩ = some ((.slice u1_a u1_l u1_c)) := IHolds.cell (l := [(.int .i64 (S : Int)), (.slice u1_a u1_l u1_c), (.slice u2_a u2_l u2_c)]) (t := 25) (b := b2) (w := W) (hS) 1 (by simp); have zg_2 : W.cell? ⟨b2, 2, none⟩ = some ((.slice u2_a u2_l u2_c)) := IHolds.cell (l := [(.int .i64 (S : Int)), (.slice u1_a u1_l u1_c), (.slice u2_a u2_l u2_c)]) (t := 25) (b := b2) (w := W) (hS) 2 (by simp); go_simp
  simp only [Act.put, y1, y2, y3, y4, y5, y6, y7]
  refine tk (i := 1) (v := (.string a)) rfl (by kernel_rfl) (fun _ _ _ h => h) rfl ?_ hHeld6 ?_
  · intro W hS; go_simp
  simp only [Act.put, y1, y2, y3, y4, y5, y6, y7]
  refine tk (i := 4) (v := .pointer (some ⟨b2, 0, none⟩)) rfl (by kernel_rfl) (fun _ _ _ h => h) rfl ?_ hHeld6 ?_
  · intro W hS; go_simp
  simp only [Act.put, y1, y2, y3, y4, y5, y6, y7]
  refine tk (i := 5) (v := (.int .i64 (S : Int))) rfl (by kernel_rfl) (fun _ _ _ h => h) rfl ?_ hHeld6 ?_
  · intro W hS; have zg_0 : W.cell? ⟨b2, 0, none⟩ = some ((.int .i64 (S : Int))) := IHolds.cell (l := [(.int .i64 (S : Int)), (.slice u1_a u1_l u1_c), (.slice u2_a u2_l u2_c)]) (t := 25) (b := b2) (w := W) (hS) 0 (by simp); have zg_1 : W.cell? ⟨b2, 1, none⟩ = some ((.slice u1_a u1_l u1_c)) := IHolds.cell (l := [(.int .i64 (S : Int)), (.slice u1_a u1_l u1_c), (.slice u2_a u2_l u2_c)]) (t := 25) (b := b2) (w := W) (hS) 1 (by simp); have zg_2 : W.cell? ⟨b2, 2, none⟩ = some ((.slice u2_a u2_l u2_c)) := IHolds.cell (l := [(.int .i64 (S : Int)), (.slice u1_a u1_l u1_c), (.slice u2_a u2_l u2_c)]) (t := 25) (b := b2) (w := W) (hS) 2 (by simp); go_simp
  simp only [Act.put, y1, y2, y3, y4, y5, y6, y7]
  refine wpAnyH_ready (rs := [2]) (by kernel_rfl) (by simp) ?_
  refine AllReadyH.cons rfl (fun K hK => ?_) AllReadyH.nil
  clear hHeld6
  go_simp
  refine (F25a.out U11).mono ?_
  rintro e U12 ⟨⟨yau, rfl, hv⟩, hb⟩
  have Nyau : Hid (NumV U12 65536 (A) yau) := hv
  clear hv
  replace B := aB B hb
  replace Jg := aJ Jg hb
  replace Nu1 := aN Nu1 hb
  replace Nu2 := aN Nu2 hb
  replace Nyat := aN Nyat hb
  replace Nyb := aN Nyb hb
  replace Nyt := aN Nyt hb
  clear hb
  go_wp2_with fail
  refine hK.out _ _ (Jg.out) (fun hHeld7 => ?_)
  clear hK K
  try simp only [Act.put, y1, y2, y3, y4, y5, y6, y7]
  refine wpAnyH_ready (rs := [3]) (by kernel_rfl) (by simp) ?_
  refine AllReadyH.cons rfl (fun K hK => ?_) AllReadyH.nil
  clear hHeld7
  go_simp
  refine (F36.out U12 _ _ _ Nu1.out Nu2.out Nyau.out).mono ?_
  rintro e U13 ⟨⟨yu, rfl, hv⟩, hb⟩
  have Nyu : Hid (NumV U13 65536 (rU) yu) := hv
  clear hv
  replace B := aB B hb
  replace Jg := aJ Jg hb
  replace Nu1 := aN Nu1 hb
  replace Nu2 := aN Nu2 hb
  replace Nyat := aN Nyat hb
  replace Nyb := aN Nyb hb
  replace Nyt := aN Nyt hb
  replace Nyau := aN Nyau hb
  clear hb
  go_wp2_with fail
  refine hK.out _ _ (Jg.out) (fun hHeld8 => ?_)
  clear hK K
  try simp only [Act.put, y1, y2, y3, y4, y5, y6, y7]
  refine wpAnyH_ready (rs := [6]) (by kernel_rfl) (by simp) ?_
  refine AllReadyH.cons rfl (fun K hK => ?_) AllReadyH.nil
  clear hHeld8
  go_simp
  refine (G39.out U13 yu Nyu.out).mono ?_
  rintro e U14 ⟨rfl, hb⟩
  replace B := aB B hb
  replace Jg := aJ Jg hb
  replace Nu1 := aN Nu1 hb
  replace Nu2 := aN Nu2 hb
  replace Nyat := aN Nyat hb
  replace Nyb := aN Nyb hb
  replace Nyt := aN Nyt hb
  replace Nyau := aN Nyau hb
  replace Nyu := aN Nyu hb
  clear hb
  go_wp2_with fail
  refine hK.out _ _ (Jg.out) (fun hHeld9 => ?_)
  clear hK K
  try simp only [Act.put, y1, y2, y3, y4, y5, y6, y7]
  refine tk (i := 7) (v := (.string TU)) rfl (by kernel_rfl) (fun _ _ _ h => h) rfl ?_ hHeld9 ?_
  · intro W hS; go_simp
  simp only [Act.put, y1, y2, y3, y4, y5, y6, y7]
  refine wpAnyH_done (by kernel_rfl) ?_ _
  clear hHeld9
  go_wp2_with fail
  refine (F37.out U14).mono ?_
  rintro e U15 ⟨rfl, hb⟩
  replace B := aB B hb
  replace Jg := aJ Jg hb
  replace Nu1 := aN Nu1 hb
  replace Nu2 := aN Nu2 hb
  replace Nyat := aN Nyat hb
  replace Nyb := aN Nyb hb
  replace Nyt := aN Nyt hb
  replace Nyau := aN Nyau hb
  replace Nyu := aN Nyu hb
  clear hb
  go_wp2_with fail
  refine (T13.out U15 _).mono ?_
  rintro e U16 ⟨rfl, hb⟩
  replace B := aB B hb
  replace Jg := aJ Jg hb
  replace Nu1 := aN Nu1 hb
  replace Nu2 := aN Nu2 hb
  replace Nyat := aN Nyat hb
  replace Nyb := aN Nyb hb
  replace Nyt := aN Nyt hb
  replace Nyau := aN Nyau hb
  replace Nyu := aN Nyu hb
  clear hb
  go_wp2_with fail
  refine (F38.out U16).mono ?_
  rintro e U17 ⟨rfl, hb⟩
  replace B := aB B hb
  replace Jg := aJ Jg hb
  replace Nu1 := aN Nu1 hb
  replace Nu2 := aN Nu2 hb
  replace Nyat := aN Nyat hb
  replace Nyb := aN Nyb hb
  replace Nyt := aN Nyt hb
  replace Nyau := aN Nyau hb
  replace Nyu := aN Nyu hb
  clear hb
  go_wp2_with fail
  refine (TB6.out U17).mono ?_
  rintro e U18 ⟨rfl, hb⟩
  replace B := aB B hb
  replace Jg := aJ Jg hb
  replace Nu1 := aN Nu1 hb
  replace Nu2 := aN Nu2 hb
  replace Nyat := aN Nyat hb
  replace Nyb := aN Nyb hb
  replace Nyt := aN Nyt hb
  replace Nyau := aN Nyau hb
  replace Nyu := aN Nyu hb
  clear hb
  go_wp2_with fail
  refine (F39.out U18).mono ?_
  rintro e U19 ⟨rfl, hb⟩
  replace B := aB B hb
  replace Jg := aJ Jg hb
  replace Nu1 := aN Nu1 hb
  replace Nu2 := aN Nu2 hb
  replace Nyat := aN Nyat hb
  replace Nyb := aN Nyb hb
  replace Nyt := aN Nyt hb
  replace Nyau := aN Nyau hb
  replace Nyu := aN Nyu hb
  clear hb
  go_wp2_with fail
  refine (T13.out U19 _).mono ?_
  rintro e U20 ⟨rfl, hb⟩
  replace B := aB B hb
  replace Jg := aJ Jg hb
  replace Nu1 := aN Nu1 hb
  replace Nu2 := aN Nu2 hb
  replace Nyat := aN Nyat hb
  replace Nyb := aN Nyb hb
  replace Nyt := aN Nyt hb
  replace Nyau := aN Nyau hb
  replace Nyu := aN Nyu hb
  clear hb
  go_wp2_with fail
  go_ret
  exact ⟨rfl, B.out⟩
end Go.Proofs.Ytckfdpiohkggaaa
