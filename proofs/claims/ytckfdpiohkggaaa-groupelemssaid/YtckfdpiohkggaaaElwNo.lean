/- The walk of GroupElems. -/
import Derived.Test.YtckfdpiohkggaaaTells
import Derived.Test.YtckfdpiohkggaaaIsRef
set_option linter.unusedSimpArgs false
set_option linter.unusedVariables false
namespace Go.Proofs.Ytckfdpiohkggaaa
open Go.RowKit Go.Deep Go.PlainAid

set_option maxRecDepth 100000 in
set_option maxHeartbeats 1500000 in
theorem elw_no {w : World} {z : Int} {a b n : ByteArray} {q p S A D E rT rP rU : Nat} {TT TP TU : ByteArray}
    (F9 : Hid (∀ W, Calls Try.prog 9 #[.int .i64 z] W fun e w' => e = .returned (.agg #[.int .i64 0, .slice none 0 0, .slice none 0 0]) ∧ Below W.heap.size W w'))
    (F37 : Hid (∀ W, Calls Try.prog 37 #[.int .i64 z, .string a, .string b] W fun e w' => e = .returned (.tuple #[.string ⟨#[]⟩, .int .i64 1]) ∧ Below W.heap.size W w'))
    (F38 : Hid (∀ W, Calls Try.prog 38 #[.int .i64 z, .string a, .string n] W fun e w' => e = .returned (.tuple #[.string ⟨#[]⟩, .int .i64 1]) ∧ Below W.heap.size W w'))
    (F39 : Hid (∀ W, Calls Try.prog 39 #[.int .i64 z, .string a] W fun e w' => e = .returned (.tuple #[.string ⟨#[]⟩, .int .i64 1]) ∧ Below W.heap.size W w'))
    (T13 : Hid (∀ W s, Calls Try.prog 13 #[.string s, .int .i64 0, .int .i64 0, .string s] W fun e w' => e = .returned (.bool true) ∧ Below W.heap.size W w'))
    (TB1 : Hid (∀ W, Calls Try.prog 13 #[.string ⟨#[]⟩, .int .i64 1, .int .i64 1, .string ⟨#[]⟩] W fun e w' => e = .returned (.bool true) ∧ Below W.heap.size W w')) :
    Calls Try.prog 6 #[.int .i64 z, .string a, .string b, .string n] w fun e w' => e = .returned (.bool true) ∧ Below w.heap.size w w' := by
  have B : Hid (Below w.heap.size w w) := Below.refl _ _
  go_enter Try.func6, Try.ntmps6
  go_wp2_with fail
  refine (F9.out w).mono ?_
  rintro e U1 ⟨rfl, hb⟩
  replace B := aB B hb
  clear hb
  have hb := nB U1 (.cells #[(.int .i64 0), (.slice none 0 0), (.slice none 0 0)] 25)
  have Jg : Hid (IHolds (U1.alloc (.cells #[(.int .i64 0), (.slice none 0 0), (.slice none 0 0)] 25)) U1.heap.size 25 [(.int .i64 0), (.slice none 0 0), (.slice none 0 0)]) := IHolds.new _ _ _
  have ge_g : Hid (w.heap.size ≤ U1.heap.size) := B.out.size
  replace B := aB B hb
  clear hb
  go_wp2_with fail
  generalize (U1.alloc (.cells #[(.int .i64 0), (.slice none 0 0), (.slice none 0 0)] 25)) = U2 at *
  generalize U1.heap.size = b3 at *
  refine (F37.out U2).mono ?_
  rintro e U4 ⟨rfl, hb⟩
  replace B := aB B hb
  replace Jg := aJ Jg hb
  clear hb
  go_wp2_with fail
  refine (TB1.out U4).mono ?_
  rintro e U5 ⟨rfl, hb⟩
  replace B := aB B hb
  replace Jg := aJ Jg hb
  clear hb
  go_wp2_with fail
  refine (F38.out U5).mono ?_
  rintro e U6 ⟨rfl, hb⟩
  replace B := aB B hb
  replace Jg := aJ Jg hb
  clear hb
  go_wp2_with fail
  refine (TB1.out U6).mono ?_
  rintro e U7 ⟨rfl, hb⟩
  replace B := aB B hb
  replace Jg := aJ Jg hb
  clear hb
  go_wp2_with fail
  refine (F39.out U7).mono ?_
  rintro e U8 ⟨rfl, hb⟩
  replace B := aB B hb
  replace Jg := aJ Jg hb
  clear hb
  go_wp2_with fail
  refine (TB1.out U8).mono ?_
  rintro e U9 ⟨rfl, hb⟩
  replace B := aB B hb
  replace Jg := aJ Jg hb
  clear hb
  go_wp2_with fail
  go_ret
  exact ⟨rfl, B.out⟩
set_option maxRecDepth 100000 in
set_option maxHeartbeats 1500000 in
theorem elw_a {w : World} {z : Int} {a b n : ByteArray} {q p S A D E rT rP rU : Nat} {TT TP TU : ByteArray}
    (hs : ((S : Int) == 0) = false)
    (F9 : Hid (∀ W, Calls Try.prog 9 #[.int .i64 z] W fun e w' => (∃ u1 u2, e = .returned (.agg #[.int .i64 (S : Int), u1, u2]) ∧ NumV w' 65536 q u1 ∧ NumV w' 65536 p u2) ∧ Below W.heap.size W w'))
    (F22a : Hid (∀ W u1 u2, NumV W 65536 q u1 → NumV W 65536 p u2 → Calls Try.prog 22 #[.agg #[.int .i64 (S : Int), u1, u2], .string a] W fun e w' => e = .returned (.bool false) ∧ Below W.heap.size W w'))
    (F37 : Hid (∀ W, Calls Try.prog 37 #[.int .i64 z, .string a, .string b] W fun e w' => e = .returned (.tuple #[.string ⟨#[]⟩, .int .i64 7]) ∧ Below W.heap.size W w'))
    (F38 : Hid (∀ W, Calls Try.prog 38 #[.int .i64 z, .string a, .string n] W fun e w' => e = .returned (.tuple #[.string ⟨#[]⟩, .int .i64 7]) ∧ Below W.heap.size W w'))
    (F39 : Hid (∀ W, Calls Try.prog 39 #[.int .i64 z, .string a] W fun e w' => e = .returned (.tuple #[.string ⟨#[]⟩, .int .i64 7]) ∧ Below W.heap.size W w'))
    (T13 : Hid (∀ W s, Calls Try.prog 13 #[.string s, .int .i64 0, .int .i64 0, .string s] W fun e w' => e = .returned (.bool true) ∧ Below W.heap.size W w'))
    (TB7 : Hid (∀ W, Calls Try.prog 13 #[.string ⟨#[]⟩, .int .i64 7, .int .i64 7, .string ⟨#[]⟩] W fun e w' => e = .returned (.bool true) ∧ Below W.heap.size W w')) :
    Calls Try.prog 6 #[.int .i64 z, .string a, .string b, .string n] w fun e w' => e = .returned (.bool true) ∧ Below w.heap.size w w' := by
  have B : Hid (Below w.heap.size w w) := Below.refl _ _
  go_enter Try.func6, Try.ntmps6
  go_wp2_with fail
  refine (F9.out w).mono ?_
  rintro e U0 ⟨⟨u1, u2, rfl, hv, hv'⟩, hb⟩
  have Nu1 : Hid (NumV U0 65536 q u1) := hv
  have Nu2 : Hid (NumV U0 65536 p u2) := hv'
  clear hv hv'
  replace B := aB B hb
  clear hb
  obtain ⟨u1_a, u1_l, u1_c, rfl⟩ := sN Nu1
  obtain ⟨u2_a, u2_l, u2_c, rfl⟩ := sN Nu2
  have hb := nB U0 (.cells #[(.int .i64 (S : Int)), (.slice u1_a u1_l u1_c), (.slice u2_a u2_l u2_c)] 25)
  have Jg : Hid (IHolds (U0.alloc (.cells #[(.int .i64 (S : Int)), (.slice u1_a u1_l u1_c), (.slice u2_a u2_l u2_c)] 25)) U0.heap.size 25 [(.int .i64 (S : Int)), (.slice u1_a u1_l u1_c), (.slice u2_a u2_l u2_c)]) := IHolds.new _ _ _
  have ge_g : Hid (w.heap.size ≤ U0.heap.size) := B.out.size
  replace B := aB B hb
  replace Nu1 := aN Nu1 hb
  replace Nu2 := aN Nu2 hb
  clear hb
  go_wp2_with fail
  generalize (U0.alloc (.cells #[(.int .i64 (S : Int)), (.slice u1_a u1_l u1_c), (.slice u2_a u2_l u2_c)] 25)) = U1 at *
  generalize U0.heap.size = b2 at *
  refine (F22a.out U1 _ _ Nu1.out Nu2.out).mono ?_
  rintro e U3 ⟨rfl, hb⟩
  replace B := aB B hb
  replace Jg := aJ Jg hb
  replace Nu1 := aN Nu1 hb
  replace Nu2 := aN Nu2 hb
  clear hb
  have zg_0 : U3.cell? ⟨b2, 0, none⟩ = some ((.int .i64 (S : Int))) := IHolds.cell (l := [(.int .i64 (S : Int)), (.slice u1_a u1_l u1_c), (.slice u2_a u2_l u2_c)]) (t := 25) (b := b2) (w := U3) (Jg.out) 0 (by simp)
  have zg_1 : U3.cell? ⟨b2, 1, none⟩ = some ((.slice u1_a u1_l u1_c)) := IHolds.cell (l := [(.int .i64 (S : Int)), (.slice u1_a u1_l u1_c), (.slice u2_a u2_l u2_c)]) (t := 25) (b := b2) (w := U3) (Jg.out) 1 (by simp)
  have zg_2 : U3.cell? ⟨b2, 2, none⟩ = some ((.slice u2_a u2_l u2_c)) := IHolds.cell (l := [(.int .i64 (S : Int)), (.slice u1_a u1_l u1_c), (.slice u2_a u2_l u2_c)]) (t := 25) (b := b2) (w := U3) (Jg.out) 2 (by simp)
  go_wp2_with fail
  clear zg_0 zg_1 zg_2
  refine (F37.out U3).mono ?_
  rintro e U4 ⟨rfl, hb⟩
  replace B := aB B hb
  replace Jg := aJ Jg hb
  replace Nu1 := aN Nu1 hb
  replace Nu2 := aN Nu2 hb
  clear hb
  go_wp2_with fail
  refine (TB7.out U4).mono ?_
  rintro e U5 ⟨rfl, hb⟩
  replace B := aB B hb
  replace Jg := aJ Jg hb
  replace Nu1 := aN Nu1 hb
  replace Nu2 := aN Nu2 hb
  clear hb
  go_wp2_with fail
  refine (F38.out U5).mono ?_
  rintro e U6 ⟨rfl, hb⟩
  replace B := aB B hb
  replace Jg := aJ Jg hb
  replace Nu1 := aN Nu1 hb
  replace Nu2 := aN Nu2 hb
  clear hb
  go_wp2_with fail
  refine (TB7.out U6).mono ?_
  rintro e U7 ⟨rfl, hb⟩
  replace B := aB B hb
  replace Jg := aJ Jg hb
  replace Nu1 := aN Nu1 hb
  replace Nu2 := aN Nu2 hb
  clear hb
  go_wp2_with fail
  refine (F39.out U7).mono ?_
  rintro e U8 ⟨rfl, hb⟩
  replace B := aB B hb
  replace Jg := aJ Jg hb
  replace Nu1 := aN Nu1 hb
  replace Nu2 := aN Nu2 hb
  clear hb
  go_wp2_with fail
  refine (TB7.out U8).mono ?_
  rintro e U9 ⟨rfl, hb⟩
  replace B := aB B hb
  replace Jg := aJ Jg hb
  replace Nu1 := aN Nu1 hb
  replace Nu2 := aN Nu2 hb
  clear hb
  go_wp2_with fail
  go_ret
  exact ⟨rfl, B.out⟩
end Go.Proofs.Ytckfdpiohkggaaa
