/- The walk of GroupReckons. -/
import Derived.Test.YtckfdpiohkggaaaTells
import Derived.Test.YtckfdpiohkggaaaIsRef
set_option linter.unusedSimpArgs false
set_option linter.unusedVariables false
namespace Go.Proofs.Ytckfdpiohkggaaa
open Go.RowKit Go.Deep Go.PlainAid

set_option maxRecDepth 100000 in
set_option maxHeartbeats 4000000 in
theorem reck_no {w : World} {z : Int} {a b : ByteArray} {q p S A D rI rA rD rM : Nat} {TI TA TD TM : ByteArray}
    (F9 : Hid (∀ W, Calls Try.prog 9 #[.int .i64 z] W fun e w' => e = .returned (.agg #[.int .i64 0, .slice none 0 0, .slice none 0 0]) ∧ Below W.heap.size W w'))
    (F16 : Hid (∀ W, Calls Try.prog 16 #[.int .i64 1] W fun e w' => (∃ v, e = .returned v ∧ NumV w' 65536 1 v) ∧ Below W.heap.size W w'))
    (F26 : Hid (∀ W, Calls Try.prog 26 #[.int .i64 z, .string a] W fun e w' => e = .returned (.tuple #[.string ⟨#[]⟩, .int .i64 1]) ∧ Below W.heap.size W w'))
    (F28 : Hid (∀ W, Calls Try.prog 28 #[.int .i64 z, .string a, .string b] W fun e w' => e = .returned (.tuple #[.string ⟨#[]⟩, .int .i64 1]) ∧ Below W.heap.size W w'))
    (F29 : Hid (∀ W, Calls Try.prog 29 #[.int .i64 z, .string a, .string b] W fun e w' => e = .returned (.tuple #[.string ⟨#[]⟩, .int .i64 1]) ∧ Below W.heap.size W w'))
    (F30 : Hid (∀ W, Calls Try.prog 30 #[.int .i64 z, .string a, .string b] W fun e w' => e = .returned (.tuple #[.string ⟨#[]⟩, .int .i64 1]) ∧ Below W.heap.size W w'))
    (T13 : Hid (∀ W s, Calls Try.prog 13 #[.string s, .int .i64 0, .int .i64 0, .string s] W fun e w' => e = .returned (.bool true) ∧ Below W.heap.size W w'))
    (TB1 : Hid (∀ W, Calls Try.prog 13 #[.string ⟨#[]⟩, .int .i64 1, .int .i64 1, .string ⟨#[]⟩] W fun e w' => e = .returned (.bool true) ∧ Below W.heap.size W w')) :
    Calls Try.prog 5 #[.int .i64 z, .string a, .string b] w fun e w' => e = .returned (.bool true) ∧ Below w.heap.size w w' := by
  have B : Hid (Below w.heap.size w w) := Below.refl _ _
  go_enter Try.func5, Try.ntmps5
  go_wp2_with fail
  refine (F9.out w).mono ?_
  rintro e U1 ⟨rfl, hb⟩
  replace B := aB B hb
  clear hb
  have hb := nB U1 (.cells #[(.int .i64 0), (.slice none 0 0), (.slice none 0 0)] 25)
  have Jg : Hid (IHolds (U1.alloc (.cells #[(.int .i64 0), (.slice none 0 0), (.slice none 0 0)] 25)) U1.heap.size 25 [(.int .i64 0), (.slice none 0 0), (.slice none 0 0)]) := IHolds.new _ _ _
  have ge_g : Hid (w.heap.size ≤ U1.heap.size) := B.out.size
  replace B := aB B hb
  clear hb
  go_wp2_with fail
  generalize (U1.alloc (.cells #[(.int .i64 0), (.slice none 0 0), (.slice none 0 0)] 25)) = U2 at *
  generalize U1.heap.size = b3 at *
  refine (F16.out U2).mono ?_
  rintro e U4 ⟨⟨yx, rfl, hv⟩, hb⟩
  have Nyx : Hid (NumV U4 65536 (1) yx) := hv
  clear hv
  replace B := aB B hb
  replace Jg := aJ Jg hb
  clear hb
  go_wp2_with fail
  refine (F16.out U4).mono ?_
  rintro e U5 ⟨⟨yy, rfl, hv⟩, hb⟩
  have Nyy : Hid (NumV U5 65536 (1) yy) := hv
  clear hv
  replace B := aB B hb
  replace Jg := aJ Jg hb
  replace Nyx := aN Nyx hb
  clear hb
  have zg_0 : U5.cell? ⟨b3, 0, none⟩ = some ((.int .i64 0)) := IHolds.cell (l := [(.int .i64 0), (.slice none 0 0), (.slice none 0 0)]) (t := 25) (b := b3) (w := U5) (Jg.out) 0 (by simp)
  have zg_1 : U5.cell? ⟨b3, 1, none⟩ = some ((.slice none 0 0)) := IHolds.cell (l := [(.int .i64 0), (.slice none 0 0), (.slice none 0 0)]) (t := 25) (b := b3) (w := U5) (Jg.out) 1 (by simp)
  have zg_2 : U5.cell? ⟨b3, 2, none⟩ = some ((.slice none 0 0)) := IHolds.cell (l := [(.int .i64 0), (.slice none 0 0), (.slice none 0 0)]) (t := 25) (b := b3) (w := U5) (Jg.out) 2 (by simp)
  go_wp2_with fail
  clear zg_0 zg_1 zg_2
  refine (F26.out U5).mono ?_
  rintro e U6 ⟨rfl, hb⟩
  replace B := aB B hb
  replace Jg := aJ Jg hb
  replace Nyx := aN Nyx hb
  replace Nyy := aN Nyy hb
  clear hb
  go_wp2_with fail
  have hb := dB U6
  replace B := aB B hb
  replace Jg := aJ Jg hb
  replace Nyx := aN Nyx hb
  replace Nyy := aN Nyy hb
  clear hb
  refine wp_region_held_drew (S := fun W => True) (by kernel_rfl) trivial (fun hHeld1 => ?_)
  generalize U6.drew = U7 at *
  refine tk (i := 0) (v := (.int .i64 1)) rfl (by kernel_rfl) (fun _ _ _ h => h) rfl ?_ hHeld1 ?_
  · intro W hS; go_simp
  simp only [Act.put, y1, y2, y3, y4, y5, y6, y7]
  refine tk (i := 1) (v := (.bool true)) rfl (by kernel_rfl) (fun _ _ _ h => h) rfl ?_ hHeld1 ?_
  · intro W hS; go_simp
  simp only [Act.put, y1, y2, y3, y4, y5, y6, y7]
  refine tk (i := 2) (v := (.bool true)) rfl (by kernel_rfl) (fun _ _ _ h => h) rfl ?_ hHeld1 ?_
  · intro W hS; go_simp
  simp only [Act.put, y1, y2, y3, y4, y5, y6, y7]
  refine tk (i := 3) (v := (.string ⟨#[]⟩)) rfl (by kernel_rfl) (fun _ _ _ h => h) rfl ?_ hHeld1 ?_
  · intro W hS; go_simp
  simp only [Act.put, y1, y2, y3, y4, y5, y6, y7]
  refine tk (i := 4) (v := (.int .i64 1)) rfl (by kernel_rfl) (fun _ _ _ h => h) rfl ?_ hHeld1 ?_
  · intro W hS; go_simp
  simp only [Act.put, y1, y2, y3, y4, y5, y6, y7]
  refine tk (i := 5) (v := (.int .i64 1)) rfl (by kernel_rfl) (fun _ _ _ h => h) rfl ?_ hHeld1 ?_
  · intro W hS; go_simp
  simp only [Act.put, y1, y2, y3, y4, y5, y6, y7]
  refine wpAnyH_ready (rs := [6]) (by kernel_rfl) (by simp) ?_
  refine AllReadyH.cons rfl (fun K hK => ?_) AllReadyH.nil
  clear hHeld1
  go_simp
  refine (TB1.out U7).mono ?_
  rintro e U8 ⟨rfl, hb⟩
  replace B := aB B hb
  replace Jg := aJ Jg hb
  replace Nyx := aN Nyx hb
  replace Nyy := aN Nyy hb
  clear hb
  go_wp2_with fail
  refine hK.out _ _ (trivial) (fun hHeld2 => ?_)
  clear hK K
  try simp only [Act.put, y1, y2, y3, y4, y5, y6, y7]
  refine tk (i := 7) (v := (.bool false)) rfl (by kernel_rfl) (fun _ _ _ h => h) rfl ?_ hHeld2 ?_
  · intro W hS; go_simp
  simp only [Act.put, y1, y2, y3, y4, y5, y6, y7]
  refine tk (i := 8) (v := (.bool false)) rfl (by kernel_rfl) (fun _ _ _ h => h) rfl ?_ hHeld2 ?_
  · intro W hS; go_simp
  simp only [Act.put, y1, y2, y3, y4, y5, y6, y7]
  refine tk (i := 9) (v := (.bool false)) rfl (by kernel_rfl) (fun _ _ _ h => h) rfl ?_ hHeld2 ?_
  · intro W hS; go_simp
  simp only [Act.put, y1, y2, y3, y4, y5, y6, y7]
  refine tk (i := 10) (v := (.int .i64 1)) rfl (by kernel_rfl) (fun _ _ _ h => h) rfl ?_ hHeld2 ?_
  · intro W hS; go_simp
  simp only [Act.put, y1, y2, y3, y4, y5, y6, y7]
  refine tk (i := 11) (v := (.bool false)) rfl (by kernel_rfl) (fun _ _ _ h => h) rfl ?_ hHeld2 ?_
  · intro W hS; go_simp
  simp only [Act.put, y1, y2, y3, y4, y5, y6, y7]
  refine tk (i := 12) (v := (.bool false)) rfl (by kernel_rfl) (fun _ _ _ h => h) rfl ?_ hHeld2 ?_
  · intro W hS; go_simp
  simp only [Act.put, y1, y2, y3, y4, y5, y6, y7]
  refine tkU (i := 13) rfl (by kernel_rfl) (fun _ _ _ h => h) rfl hHeld2 ?_
  simp only [Act.put, y1, y2, y3, y4, y5, y6, y7]
  refine tkU (i := 14) rfl (by kernel_rfl) (fun _ _ _ h => h) rfl hHeld2 ?_
  simp only [Act.put, y1, y2, y3, y4, y5, y6, y7]
  refine tkU (i := 15) rfl (by kernel_rfl) (fun _ _ _ h => h) rfl hHeld2 ?_
  simp only [Act.put, y1, y2, y3, y4, y5, y6, y7]
  refine tkU (i := 16) rfl (by kernel_rfl) (fun _ _ _ h => h) rfl hHeld2 ?_
  simp only [Act.put, y1, y2, y3, y4, y5, y6, y7]
  refine tkU (i := 18) rfl (by kernel_rfl) (fun _ _ _ h => h) rfl hHeld2 ?_
  simp only [Act.put, y1, y2, y3, y4, y5, y6, y7]
  refine tkU (i := 17) rfl (by kernel_rfl) (fun _ _ _ h => h) rfl hHeld2 ?_
  simp only [Act.put, y1, y2, y3, y4, y5, y6, y7]
  refine tkU (i := 19) rfl (by kernel_rfl) (fun _ _ _ h => h) rfl hHeld2 ?_
  simp only [Act.put, y1, y2, y3, y4, y5, y6, y7]
  refine tkU (i := 20) rfl (by kernel_rfl) (fun _ _ _ h => h) rfl hHeld2 ?_
  simp only [Act.put, y1, y2, y3, y4, y5, y6, y7]
  refine tkU (i := 21) rfl (by kernel_rfl) (fun _ _ _ h => h) rfl hHeld2 ?_
  simp only [Act.put, y1, y2, y3, y4, y5, y6, y7]
  refine tkU (i := 22) rfl (by kernel_rfl) (fun _ _ _ h => h) rfl hHeld2 ?_
  simp only [Act.put, y1, y2, y3, y4, y5, y6, y7]
  refine tk (i := 23) (v := (.bool false)) rfl (by kernel_rfl) (fun _ _ _ h => h) rfl ?_ hHeld2 ?_
  · intro W hS; go_simp
  simp only [Act.put, y1, y2, y3, y4, y5, y6, y7]
  refine tk (i := 24) (v := (.bool false)) rfl (by kernel_rfl) (fun _ _ _ h => h) rfl ?_ hHeld2 ?_
  · intro W hS; go_simp
  simp only [Act.put, y1, y2, y3, y4, y5, y6, y7]
  refine wpAnyH_done (by kernel_rfl) ?_ _
  clear hHeld2
  go_wp2_with fail
  refine (F28.out U8).mono ?_
  rintro e U9 ⟨rfl, hb⟩
  replace B := aB B hb
  replace Jg := aJ Jg hb
  replace Nyx := aN Nyx hb
  replace Nyy := aN Nyy hb
  clear hb
  go_wp2_with fail
  refine (F29.out U9).mono ?_
  rintro e U10 ⟨rfl, hb⟩
  replace B := aB B hb
  replace Jg := aJ Jg hb
  replace Nyx := aN Nyx hb
  replace Nyy := aN Nyy hb
  clear hb
  go_wp2_with fail
  refine (F30.out U10).mono ?_
  rintro e U11 ⟨rfl, hb⟩
  replace B := aB B hb
  replace Jg := aJ Jg hb
  replace Nyx := aN Nyx hb
  replace Nyy := aN Nyy hb
  clear hb
  go_wp2_with fail
  refine (TB1.out U11).mono ?_
  rintro e U12 ⟨rfl, hb⟩
  replace B := aB B hb
  replace Jg := aJ Jg hb
  replace Nyx := aN Nyx hb
  replace Nyy := aN Nyy hb
  clear hb
  go_wp2_with fail
  refine (TB1.out U12).mono ?_
  rintro e U13 ⟨rfl, hb⟩
  replace B := aB B hb
  replace Jg := aJ Jg hb
  replace Nyx := aN Nyx hb
  replace Nyy := aN Nyy hb
  clear hb
  go_wp2_with fail
  refine (TB1.out U13).mono ?_
  rintro e U14 ⟨rfl, hb⟩
  replace B := aB B hb
  replace Jg := aJ Jg hb
  replace Nyx := aN Nyx hb
  replace Nyy := aN Nyy hb
  clear hb
  go_wp2_with fail
  go_ret
  exact ⟨rfl, B.out⟩
end Go.Proofs.Ytckfdpiohkggaaa
