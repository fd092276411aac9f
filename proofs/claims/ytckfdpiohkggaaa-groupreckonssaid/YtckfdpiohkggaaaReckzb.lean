/- The walk of GroupReckons. -/
import Derived.Test.YtckfdpiohkggaaaTells
import Derived.Test.YtckfdpiohkggaaaIsRef
set_option linter.unusedSimpArgs false
set_option linter.unusedVariables false
namespace Go.Proofs.Ytckfdpiohkggaaa
open Go.RowKit Go.Deep Go.PlainAid

set_option maxRecDepth 100000 in
set_option maxHeartbeats 1500000 in
theorem reck_zb {w : World} {z : Int} {a b : ByteArray} {q p S A D rI rA rD rM : Nat} {TI TA TD TM : ByteArray}
    (hs : ((S : Int) == 0) = false)
    (F9 : Hid (∀ W, Calls Try.prog 9 #[.int .i64 z] W fun e w' => (∃ u1 u2, e = .returned (.agg #[.int .i64 (S : Int), u1, u2]) ∧ NumV w' 65536 q u1 ∧ NumV w' 65536 p u2) ∧ Below W.heap.size W w'))
    (F21a : Hid (∀ W u1 u2, NumV W 65536 q u1 → NumV W 65536 p u2 → Calls Try.prog 21 #[.agg #[.int .i64 (S : Int), u1, u2], .string a] W fun e w' => e = .returned (.bool true) ∧ Below W.heap.size W w'))
    (F25a : Hid (∀ W, Calls Try.prog 25 #[.string a] W fun e w' => (∃ v, e = .returned v ∧ NumV w' 65536 A v) ∧ Below W.heap.size W w'))
    (hL : (dg 65536 A).length = 0)
    (F21b : Hid (∀ W u1 u2, NumV W 65536 q u1 → NumV W 65536 p u2 → Calls Try.prog 21 #[.agg #[.int .i64 (S : Int), u1, u2], .string b] W fun e w' => e = .returned (.bool false) ∧ Below W.heap.size W w'))
    (F16 : Hid (∀ W, Calls Try.prog 16 #[.int .i64 1] W fun e w' => (∃ v, e = .returned v ∧ NumV w' 65536 1 v) ∧ Below W.heap.size W w'))
    (F26 : Hid (∀ W, Calls Try.prog 26 #[.int .i64 z, .string a] W fun e w' => e = .returned (.tuple #[.string ⟨#[]⟩, .int .i64 5]) ∧ Below W.heap.size W w'))
    (F28 : Hid (∀ W, Calls Try.prog 28 #[.int .i64 z, .string a, .string b] W fun e w' => e = .returned (.tuple #[.string ⟨#[]⟩, .int .i64 6]) ∧ Below W.heap.size W w'))
    (F29 : Hid (∀ W, Calls Try.prog 29 #[.int .i64 z, .string a, .string b] W fun e w' => e = .returned (.tuple #[.string ⟨#[]⟩, .int .i64 6]) ∧ Below W.heap.size W w'))
    (F30 : Hid (∀ W, Calls Try.prog 30 #[.int .i64 z, .string a, .string b] W fun e w' => e = .returned (.tuple #[.string ⟨#[]⟩, .int .i64 6]) ∧ Below W.heap.size W w'))
    (T13 : Hid (∀ W s, Calls Try.prog 13 #[.string s, .int .i64 0, .int .i64 0, .string s] W fun e w' => e = .returned (.bool true) ∧ Below W.heap.size W w'))
    (TB5 : Hid (∀ W, Calls Try.prog 13 #[.string ⟨#[]⟩, .int .i64 5, .int .i64 5, .string ⟨#[]⟩] W fun e w' => e = .returned (.bool true) ∧ Below W.heap.size W w'))
    (TB6 : Hid (∀ W, Calls Try.prog 13 #[.string ⟨#[]⟩, .int .i64 6, .int .i64 6, .string ⟨#[]⟩] W fun e w' => e = .returned (.bool true) ∧ Below W.heap.size W w')) :
    Calls Try.prog 5 #[.int .i64 z, .string a, .string b] w fun e w' => e = .returned (.bool true) ∧ Below w.heap.size w w' := by
  have B : Hid (Below w.heap.size w w) := Below.refl _ _
  go_enter Try.func5, Try.ntmps5
  go_wp2_with fail
  refine (F9.out w).mono ?_
  rintro e U0 ⟨⟨u1, u2, rfl, hv, hv'⟩, hb⟩
  have Nu1 : Hid (NumV U0 65536 q u1) := hv
  have Nu2 : Hid (NumV U0 65536 p u2) := hv'
  clear hv hv'
  replace B := aB B hb
  clear hb
  obtain ⟨u1_a, u1_l, u1_c, rfl⟩ := sN Nu1
  obtain ⟨u2_a, u2_l, u2_c, rfl⟩ := sN Nu2
  have hb := nB U0 (.cells #[(.int .i64 (S : Int)), (.slice u1_a u1_l u1_c), (.slice u2_a u2_l u2_c)] 25)
  have Jg : Hid (IHolds (U0.alloc (.cells #[(.int .i64 (S : Int)), (.slice u1_a u1_l u1_c), (.slice u2_a u2_l u2_c)] 25)) U0.heap.size 25 [(.int .i64 (S : Int)), (.slice u1_a u1_l u1_c), (.slice u2_a u2_l u2_c)]) := IHolds.new _ _ _
  have ge_g : Hid (w.heap.size ≤ U0.heap.size) := B.out.size
  replace B := aB B hb
  replace Nu1 := aN Nu1 hb
  replace Nu2 := aN Nu2 hb
  clear hb
  go_wp2_with fail
  generalize (U0.alloc (.cells #[(.int .i64 (S : Int)), (.slice u1_a u1_l u1_c), (.slice u2_a u2_l u2_c)] 25)) = U1 at *
  generalize U0.heap.size = b2 at *
  refine (F16.out U1).mono ?_
  rintro e U3 ⟨⟨yx, rfl, hv⟩, hb⟩
  have Nyx : Hid (NumV U3 65536 (1) yx) := hv
  clear hv
  replace B := aB B hb
  replace Jg := aJ Jg hb
  replace Nu1 := aN Nu1 hb
  replace Nu2 := aN Nu2 hb
  clear hb
  go_wp2_with fail
  refine (F16.out U3).mono ?_
  rintro e U4 ⟨⟨yy, rfl, hv⟩, hb⟩
  have Nyy : Hid (NumV U4 65536 (1) yy) := hv
  clear hv
  replace B := aB B hb
  replace Jg := aJ Jg hb
  replace Nu1 := aN Nu1 hb
  replace Nu2 := aN Nu2 hb
  replace Nyx := aN Nyx hb
  clear hb
  have zg_0 : U4.cell? ⟨b2, 0, none⟩ = some ((.int .i64 (S : Int))) := IHolds.cell (l := [(.int .i64 (S : Int)), (.slice u1_a u1_l u1_c), (.slice u2_a u2_l u2_c)]) (t := 25) (b := b2) (w := U4) (Jg.out) 0 (by simp)
  have zg_1 : U4.cell? ⟨b2, 1, none⟩ = some ((.slice u1_a u1_l u1_c)) := IHolds.cell (l := [(.int .i64 (S : Int)), (.slice u1_a u1_l u1_c), (.slice u2_a u2_l u2_c)]) (t := 25) (b := b2) (w := U4) (Jg.out) 1 (by simp)
  have zg_2 : U4.cell? ⟨b2, 2, none⟩ = some ((.slice u2_a u2_l u2_c)) := IHolds.cell (l := [(.int .i64 (S : Int)), (.slice u1_a u1_l u1_c), (.slice u2_a u2_l u2_c)]) (t := 25) (b := b2) (w := U4) (Jg.out) 2 (by simp)
  go_wp2_with fail
  clear zg_0 zg_1 zg_2
  refine (F21a.out U4 _ _ Nu1.out Nu2.out).mono ?_
  rintro e U5 ⟨rfl, hb⟩
  replace B := aB B hb
  replace Jg := aJ Jg hb
  replace Nu1 := aN Nu1 hb
  replace Nu2 := aN Nu2 hb
  replace Nyx := aN Nyx hb
  replace Nyy := aN Nyy hb
  clear hb
  go_wp2_with fail
  refine (F25a.out U5).mono ?_
  rintro e U6 ⟨⟨ya, rfl, hv⟩, hb⟩
  have Nya : Hid (NumV U6 65536 (A) ya) := hv
  clear hv
  replace B := aB B hb
  replace Jg := aJ Jg hb
  replace Nu1 := aN Nu1 hb
  replace Nu2 := aN Nu2 hb
  replace Nyx := aN Nyx hb
  replace Nyy := aN Nyy hb
  clear hb
  obtain ⟨ya_a, ya_l, ya_c, rfl⟩ := sN Nya
  have hyl := NumV.len Nya
  have hy0 : ya_l = 0 := by rw [hyl]; exact hL
  subst hy0
  clear hyl
  have zg_0 : U6.cell? ⟨b2, 0, none⟩ = some ((.int .i64 (S : Int))) := IHolds.cell (l := [(.int .i64 (S : Int)), (.slice u1_a u1_l u1_c), (.slice u2_a u2_l u2_c)]) (t := 25) (b := b2) (w := U6) (Jg.out) 0 (by simp)
  have zg_1 : U6.cell? ⟨b2, 1, none⟩ = some ((.slice u1_a u1_l u1_c)) := IHolds.cell (l := [(.int .i64 (S : Int)), (.slice u1_a u1_l u1_c), (.slice u2_a u2_l u2_c)]) (t := 25) (b := b2) (w := U6) (Jg.out) 1 (by simp)
  have zg_2 : U6.cell? ⟨b2, 2, none⟩ = some ((.slice u2_a u2_l u2_c)) := IHolds.cell (l := [(.int .i64 (S : Int)), (.slice u1_a u1_l u1_c), (.slice u2_a u2_l u2_c)]) (t := 25) (b := b2) (w := U6) (Jg.out) 2 (by simp)
  go_wp2_with fail
  clear zg_0 zg_1 zg_2
  refine (F21b.out U6 _ _ Nu1.out Nu2.out).mono ?_
  rintro e U7 ⟨rfl, hb⟩
  replace B := aB B hb
  replace Jg := aJ Jg hb
  replace Nu1 := aN Nu1 hb
  replace Nu2 := aN Nu2 hb
  replace Nyx := aN Nyx hb
  replace Nyy := aN Nyy hb
  replace Nya := aN Nya hb
  clear hb
  go_wp2_with fail
  refine (F26.out U7).mono ?_
  rintro e U8 ⟨rfl, hb⟩
  replace B := aB B hb
  replace Jg := aJ Jg hb
  replace Nu1 := aN Nu1 hb
  replace Nu2 := aN Nu2 hb
  replace Nyx := aN Nyx hb
  replace Nyy := aN Nyy hb
  replace Nya := aN Nya hb
  clear hb
  go_wp2_with fail
  have hb := dB U8
  replace B := aB B hb
  replace Jg := aJ Jg hb
  replace Nu1 := aN Nu1 hb
  replace Nu2 := aN Nu2 hb
  replace Nyx := aN Nyx hb
  replace Nyy := aN Nyy hb
  replace Nya := aN Nya hb
  clear hb
  refine wp_region_held_drew (S := fun W => True) (by kernel_rfl) trivial (fun hHeld1 => ?_)
  generalize U8.drew = U9 at *
  refine tk (i := 0) (v := (.int .i64 5)) rfl (by kernel_rfl) (fun _ _ _ h => h) rfl ?_ hHeld1 ?_
  · intro W hS; go_simp
  simp only [Act.put, y1, y2, y3, y4, y5, y6, y7]
  refine tk (i := 1) (v := (.bool true)) rfl (by kernel_rfl) (fun _ _ _ h => h) rfl ?_ hHeld1 ?_
  · intro W hS; go_simp
  simp only [Act.put, y1, y2, y3, y4, y5, y6, y7]
  refine tk (i := 2) (v := (.bool true)) rfl (by kernel_rfl) (fun _ _ _ h => h) rfl ?_ hHeld1 ?_
  · intro W hS; go_simp
  simp only [Act.put, y1, y2, y3, y4, y5, y6, y7]
  refine tk (i := 3) (v := (.string ⟨#[]⟩)) rfl (by kernel_rfl) (fun _ _ _ h => h) rfl ?_ hHeld1 ?_
  · intro W hS; go_simp
  simp only [Act.put, y1, y2, y3, y4, y5, y6, y7]
  refine tk (i := 4) (v := (.int .i64 5)) rfl (by kernel_rfl) (fun _ _ _ h => h) rfl ?_ hHeld1 ?_
  · intro W hS; go_simp
  simp only [Act.put, y1, y2, y3, y4, y5, y6, y7]
  refine tk (i := 5) (v := (.int .i64 5)) rfl (by kernel_rfl) (fun _ _ _ h => h) rfl ?_ hHeld1 ?_
  · intro W hS; go_simp
  simp only [Act.put, y1, y2, y3, y4, y5, y6, y7]
  refine wpAnyH_ready (rs := [6]) (by kernel_rfl) (by simp) ?_
  refine AllReadyH.cons rfl (fun K hK => ?_) AllReadyH.nil
  clear hHeld1
  go_simp
  refine (TB5.out U9).mono ?_
  rintro e U10 ⟨rfl, hb⟩
  replace B := aB B hb
  replace Jg := aJ Jg hb
  replace Nu1 := aN Nu1 hb
  replace Nu2 := aN Nu2 hb
  replace Nyx := aN Nyx hb
  replace Nyy := aN Nyy hb
  replace Nya := aN Nya hb
  clear hb
  go_wp2_with fail
  refine hK.out _ _ (trivial) (fun hHeld2 => ?_)
  clear hK K
  try simp only [Act.put, y1, y2, y3, y4, y5, y6, y7]
  refine tk (i := 7) (v := (.bool false)) rfl (by kernel_rfl) (fun _ _ _ h => h) rfl ?_ hHeld2 ?_
  · intro W hS; go_simp
  simp only [Act.put, y1, y2, y3, y4, y5, y6, y7]
  refine tk (i := 8) (v := (.bool false)) rfl (by kernel_rfl) (fun _ _ _ h => h) rfl ?_ hHeld2 ?_
  · intro W hS; go_simp
  simp only [Act.put, y1, y2, y3, y4, y5, y6, y7]
  refine tk (i := 9) (v := (.bool false)) rfl (by kernel_rfl) (fun _ _ _ h => h) rfl ?_ hHeld2 ?_
  · intro W hS; go_simp
  simp only [Act.put, y1, y2, y3, y4, y5, y6, y7]
  refine tk (i := 10) (v := (.int .i64 5)) rfl (by kernel_rfl) (fun _ _ _ h => h) rfl ?_ hHeld2 ?_
  · intro W hS; go_simp
  simp only [Act.put, y1, y2, y3, y4, y5, y6, y7]
  refine tk (i := 11) (v := (.bool false)) rfl (by kernel_rfl) (fun _ _ _ h => h) rfl ?_ hHeld2 ?_
  · intro W hS; go_simp
  simp only [Act.put, y1, y2, y3, y4, y5, y6, y7]
  refine tk (i := 12) (v := (.bool false)) rfl (by kernel_rfl) (fun _ _ _ h => h) rfl ?_ hHeld2 ?_
  · intro W hS; go_simp
  simp only [Act.put, y1, y2, y3, y4, y5, y6, y7]
  refine tkU (i := 13) rfl (by kernel_rfl) (fun _ _ _ h => h) rfl hHeld2 ?_
  simp only [Act.put, y1, y2, y3, y4, y5, y6, y7]
  refine tkU (i := 14) rfl (by kernel_rfl) (fun _ _ _ h => h) rfl hHeld2 ?_
  simp only [Act.put, y1, y2, y3, y4, y5, y6, y7]
  refine tkU (i := 15) rfl (by kernel_rfl) (fun _ _ _ h => h) rfl hHeld2 ?_
  simp only [Act.put, y1, y2, y3, y4, y5, y6, y7]
  refine tkU (i := 16) rfl (by kernel_rfl) (fun _ _ _ h => h) rfl hHeld2 ?_
  simp only [Act.put, y1, y2, y3, y4, y5, y6, y7]
  refine tkU (i := 18) rfl (by kernel_rfl) (fun _ _ _ h => h) rfl hHeld2 ?_
  simp only [Act.put, y1, y2, y3, y4, y5, y6, y7]
  refine tkU (i := 17) rfl (by kernel_rfl) (fun _ _ _ h => h) rfl hHeld2 ?_
  simp only [Act.put, y1, y2, y3, y4, y5, y6, y7]
  refine tkU (i := 19) rfl (by kernel_rfl) (fun _ _ _ h => h) rfl hHeld2 ?_
  simp only [Act.put, y1, y2, y3, y4, y5, y6, y7]
  refine tkU (i := 20) rfl (by kernel_rfl) (fun _ _ _ h => h) rfl hHeld2 ?_
  simp only [Act.put, y1, y2, y3, y4, y5, y6, y7]
  refine tkU (i := 21) rfl (by kernel_rfl) (fun _ _ _ h => h) rfl hHeld2 ?_
  simp only [Act.put, y1, y2, y3, y4, y5, y6, y7]
  refine tkU (i := 22) rfl (by kernel_rfl) (fun _ _ _ h => h) rfl hHeld2 ?_
  simp only [Act.put, y1, y2, y3, y4, y5, y6, y7]
  refine tk (i := 23) (v := (.bool false)) rfl (by kernel_rfl) (fun _ _ _ h => h) rfl ?_ hHeld2 ?_
  · intro W hS; go_simp
  simp only [Act.put, y1, y2, y3, y4, y5, y6, y7]
  refine tk (i := 24) (v := (.bool false)) rfl (by kernel_rfl) (fun _ _ _ h => h) rfl ?_ hHeld2 ?_
  · intro W hS; go_simp
  simp only [Act.put, y1, y2, y3, y4, y5, y6, y7]
  refine wpAnyH_done (by kernel_rfl) ?_ _
  clear hHeld2
  go_wp2_with fail
  refine (F28.out U10).mono ?_
  rintro e U11 ⟨rfl, hb⟩
  replace B := aB B hb
  replace Jg := aJ Jg hb
  replace Nu1 := aN Nu1 hb
  replace Nu2 := aN Nu2 hb
  replace Nyx := aN Nyx hb
  replace Nyy := aN Nyy hb
  replace Nya := aN Nya hb
  clear hb
  go_wp2_with fail
  refine (F29.out U11).mono ?_
  rintro e U12 ⟨rfl, hb⟩
  replace B := aB B hb
  replace Jg := aJ Jg hb
  replace Nu1 := aN Nu1 hb
  replace Nu2 := aN Nu2 hb
  replace Nyx := aN Nyx hb
  replace Nyy := aN Nyy hb
  replace Nya := aN Nya hb
  clear hb
  go_wp2_with fail
  refine (F30.out U12).mono ?_
  rintro e U13 ⟨rfl, hb⟩
  replace B := aB B hb
  replace Jg := aJ Jg hb
  replace Nu1 := aN Nu1 hb
  replace Nu2 := aN Nu2 hb
  replace Nyx := aN Nyx hb
  replace Nyy := aN Nyy hb
  replace Nya := aN Nya hb
  clear hb
  go_wp2_with fail
  refine (TB6.out U13).mono ?_
  rintro e U14 ⟨rfl, hb⟩
  replace B := aB B hb
  replace Jg := aJ Jg hb
  replace Nu1 := aN Nu1 hb
  replace Nu2 := aN Nu2 hb
  replace Nyx := aN Nyx hb
  replace Nyy := aN Nyy hb
  replace Nya := aN Nya hb
  clear hb
  go_wp2_with fail
  refine (TB6.out U14).mono ?_
  rintro e U15 ⟨rfl, hb⟩
  replace B := aB B hb
  replace Jg := aJ Jg hb
  replace Nu1 := aN Nu1 hb
  replace Nu2 := aN Nu2 hb
  replace Nyx := aN Nyx hb
  replace Nyy := aN Nyy hb
  replace Nya := aN Nya hb
  clear hb
  go_wp2_with fail
  refine (TB6.out U15).mono ?_
  rintro e U16 ⟨rfl, hb⟩
  replace B := aB B hb
  replace Jg := aJ Jg hb
  replace Nu1 := aN Nu1 hb
  replace Nu2 := aN Nu2 hb
  replace Nyx := aN Nyx hb
  replace Nyy := aN Nyy hb
  replace Nya := aN Nya hb
  clear hb
  go_wp2_with fail
  go_ret
  exact ⟨rfl, B.out⟩
end Go.Proofs.Ytckfdpiohkggaaa
