/- The walk of GroupProducts. -/
import Derived.Test.YtckfdpiohkggaaaProdF
set_option linter.unusedSimpArgs false
set_option linter.unusedVariables false
namespace Go.Proofs.Ytckfdpiohkggaaa
open Go.RowKit Go.Deep Go.PlainAid

set_option maxRecDepth 100000 in
set_option maxHeartbeats 1500000 in
theorem plaw_none {w : World} {z : Int} {ax an : Option Addr} {la ln cx cn q p S : Nat}
    (F9 : Hid (∀ W, Calls Try.prog 9 #[.int .i64 z] W fun e w' => e = .returned (.agg #[.int .i64 0, .slice none 0 0, .slice none 0 0]) ∧ Below W.heap.size W w'))
    (F40 : Hid (Calls Try.prog 40 #[.int .i64 z, .slice ax la cx, .slice an ln cn] w fun e w' => e = .returned (.tuple #[.string ⟨#[]⟩, .int .i64 1]) ∧ Below w.heap.size w w'))
    (TB : Hid (∀ W, Calls Try.prog 13 #[.string ⟨#[]⟩, .int .i64 1, .int .i64 1, .string ⟨#[]⟩] W fun e w' => e = .returned (.bool true) ∧ Below W.heap.size W w')) :
    Calls Try.prog 7 #[.int .i64 z, .slice ax la cx, .slice an ln cn] w fun e w' => e = .returned (.bool true) ∧ Below w.heap.size w w' := by
  go_enter Try.func7, Try.ntmps7
  go_wp2_with fail
  refine F40.out.mono ?_
  rintro e U9 ⟨rfl, hb⟩
  have B : Hid (Below w.heap.size w U9) := hb
  clear hb
  go_wp2_with fail
  refine (F9.out U9).mono ?_
  rintro e U1 ⟨rfl, hb⟩
  replace B := aB B hb
  clear hb
  have hb := nB U1 (.cells #[(.int .i64 0), (.slice none 0 0), (.slice none 0 0)] 25)
  have Jg : Hid (IHolds (U1.alloc (.cells #[(.int .i64 0), (.slice none 0 0), (.slice none 0 0)] 25)) U1.heap.size 25 [(.int .i64 0), (.slice none 0 0), (.slice none 0 0)]) := IHolds.new _ _ _
  have ge_g : Hid (w.heap.size ≤ U1.heap.size) := B.out.size
  replace B := aB B hb
  clear hb
  go_wp2_with fail
  generalize (U1.alloc (.cells #[(.int .i64 0), (.slice none 0 0), (.slice none 0 0)] 25)) = U2 at *
  generalize U1.heap.size = b3 at *
  refine (TB.out U2).mono ?_
  rintro e U4 ⟨rfl, hb⟩
  replace B := aB B hb
  replace Jg := aJ Jg hb
  clear hb
  go_wp2_with fail
  go_ret
  exact ⟨rfl, B.out⟩
set_option maxRecDepth 100000 in
set_option maxHeartbeats 1500000 in
theorem plaw_longA {w : World} {z : Int} {ax an : Option Addr} {la ln cx cn q p S : Nat}
    (hs : ((S : Int) == 0) = false)
    (F9 : Hid (∀ W, Calls Try.prog 9 #[.int .i64 z] W fun e w' => (∃ u1 u2, e = .returned (.agg #[.int .i64 (S : Int), u1, u2]) ∧ NumV w' 65536 q u1 ∧ NumV w' 65536 p u2) ∧ Below W.heap.size W w'))
    (h : (256 : Int) < (la : Int))
    (F40 : Hid (Calls Try.prog 40 #[.int .i64 z, .slice ax la cx, .slice an ln cn] w fun e w' => e = .returned (.tuple #[.string ⟨#[]⟩, .int .i64 3]) ∧ Below w.heap.size w w'))
    (TB : Hid (∀ W, Calls Try.prog 13 #[.string ⟨#[]⟩, .int .i64 3, .int .i64 3, .string ⟨#[]⟩] W fun e w' => e = .returned (.bool true) ∧ Below W.heap.size W w')) :
    Calls Try.prog 7 #[.int .i64 z, .slice ax la cx, .slice an ln cn] w fun e w' => e = .returned (.bool true) ∧ Below w.heap.size w w' := by
  go_enter Try.func7, Try.ntmps7
  go_wp2_with fail
  refine F40.out.mono ?_
  rintro e U9 ⟨rfl, hb⟩
  have B : Hid (Below w.heap.size w U9) := hb
  clear hb
  go_wp2_with fail
  refine (F9.out U9).mono ?_
  rintro e U0 ⟨⟨u1, u2, rfl, hv, hv'⟩, hb⟩
  have Nu1 : Hid (NumV U0 65536 q u1) := hv
  have Nu2 : Hid (NumV U0 65536 p u2) := hv'
  clear hv hv'
  replace B := aB B hb
  clear hb
  obtain ⟨u1_a, u1_l, u1_c, rfl⟩ := sN Nu1
  obtain ⟨u2_a, u2_l, u2_c, rfl⟩ := sN Nu2
  have hb := nB U0 (.cells #[(.int .i64 (S : Int)), (.slice u1_a u1_l u1_c), (.slice u2_a u2_l u2_c)] 25)
  have Jg : Hid (IHolds (U0.alloc (.cells #[(.int .i64 (S : Int)), (.slice u1_a u1_l u1_c), (.slice u2_a u2_l u2_c)] 25)) U0.heap.size 25 [(.int .i64 (S : Int)), (.slice u1_a u1_l u1_c), (.slice u2_a u2_l u2_c)]) := IHolds.new _ _ _
  have ge_g : Hid (w.heap.size ≤ U0.heap.size) := B.out.size
  replace B := aB B hb
  replace Nu1 := aN Nu1 hb
  replace Nu2 := aN Nu2 hb
  clear hb
  go_wp2_with fail
  generalize (U0.alloc (.cells #[(.int .i64 (S : Int)), (.slice u1_a u1_l u1_c), (.slice u2_a u2_l u2_c)] 25)) = U1 at *
  generalize U0.heap.size = b2 at *
  refine (TB.out U1).mono ?_
  rintro e U3 ⟨rfl, hb⟩
  replace B := aB B hb
  replace Jg := aJ Jg hb
  replace Nu1 := aN Nu1 hb
  replace Nu2 := aN Nu2 hb
  clear hb
  go_wp2_with fail
  go_ret
  exact ⟨rfl, B.out⟩
set_option maxRecDepth 100000 in
set_option maxHeartbeats 1500000 in
theorem plaw_longN {w : World} {z : Int} {ax an : Option Addr} {la ln cx cn q p S : Nat}
    (hs : ((S : Int) == 0) = false)
    (F9 : Hid (∀ W, Calls Try.prog 9 #[.int .i64 z] W fun e w' => (∃ u1 u2, e = .returned (.agg #[.int .i64 (S : Int), u1, u2]) ∧ NumV w' 65536 q u1 ∧ NumV w' 65536 p u2) ∧ Below W.heap.size W w'))
    (h0 : ¬ (256 : Int) < (la : Int))
    (h : (256 : Int) < (ln : Int))
    (F40 : Hid (Calls Try.prog 40 #[.int .i64 z, .slice ax la cx, .slice an ln cn] w fun e w' => e = .returned (.tuple #[.string ⟨#[]⟩, .int .i64 3]) ∧ Below w.heap.size w w'))
    (TB : Hid (∀ W, Calls Try.prog 13 #[.string ⟨#[]⟩, .int .i64 3, .int .i64 3, .string ⟨#[]⟩] W fun e w' => e = .returned (.bool true) ∧ Below W.heap.size W w')) :
    Calls Try.prog 7 #[.int .i64 z, .slice ax la cx, .slice an ln cn] w fun e w' => e = .returned (.bool true) ∧ Below w.heap.size w w' := by
  go_enter Try.func7, Try.ntmps7
  go_wp2_with fail
  refine F40.out.mono ?_
  rintro e U9 ⟨rfl, hb⟩
  have B : Hid (Below w.heap.size w U9) := hb
  clear hb
  go_wp2_with fail
  refine (F9.out U9).mono ?_
  rintro e U0 ⟨⟨u1, u2, rfl, hv, hv'⟩, hb⟩
  have Nu1 : Hid (NumV U0 65536 q u1) := hv
  have Nu2 : Hid (NumV U0 65536 p u2) := hv'
  clear hv hv'
  replace B := aB B hb
  clear hb
  obtain ⟨u1_a, u1_l, u1_c, rfl⟩ := sN Nu1
  obtain ⟨u2_a, u2_l, u2_c, rfl⟩ := sN Nu2
  have hb := nB U0 (.cells #[(.int .i64 (S : Int)), (.slice u1_a u1_l u1_c), (.slice u2_a u2_l u2_c)] 25)
  have Jg : Hid (IHolds (U0.alloc (.cells #[(.int .i64 (S : Int)), (.slice u1_a u1_l u1_c), (.slice u2_a u2_l u2_c)] 25)) U0.heap.size 25 [(.int .i64 (S : Int)), (.slice u1_a u1_l u1_c), (.slice u2_a u2_l u2_c)]) := IHolds.new _ _ _
  have ge_g : Hid (w.heap.size ≤ U0.heap.size) := B.out.size
  replace B := aB B hb
  replace Nu1 := aN Nu1 hb
  replace Nu2 := aN Nu2 hb
  clear hb
  go_wp2_with fail
  generalize (U0.alloc (.cells #[(.int .i64 (S : Int)), (.slice u1_a u1_l u1_c), (.slice u2_a u2_l u2_c)] 25)) = U1 at *
  generalize U0.heap.size = b2 at *
  refine (TB.out U1).mono ?_
  rintro e U3 ⟨rfl, hb⟩
  replace B := aB B hb
  replace Jg := aJ Jg hb
  replace Nu1 := aN Nu1 hb
  replace Nu2 := aN Nu2 hb
  clear hb
  go_wp2_with fail
  go_ret
  exact ⟨rfl, B.out⟩
set_option maxRecDepth 100000 in
set_option maxHeartbeats 1500000 in
theorem plaw_form {w : World} {z : Int} {ax an : Option Addr} {la ln cx cn q p S : Nat}
    (hs : ((S : Int) == 0) = false)
    (F9 : Hid (∀ W, Calls Try.prog 9 #[.int .i64 z] W fun e w' => (∃ u1 u2, e = .returned (.agg #[.int .i64 (S : Int), u1, u2]) ∧ NumV w' 65536 q u1 ∧ NumV w' 65536 p u2) ∧ Below W.heap.size W w'))
    (h0 : ¬ (256 : Int) < (la : Int))
    (h1 : ¬ (256 : Int) < (ln : Int))
    (hne : (la : Int) ≠ (ln : Int))
    (hne2 : ((la : Int) != (ln : Int)) = true)
    (F40 : Hid (Calls Try.prog 40 #[.int .i64 z, .slice ax la cx, .slice an ln cn] w fun e w' => e = .returned (.tuple #[.string ⟨#[]⟩, .int .i64 2]) ∧ Below w.heap.size w w'))
    (TB : Hid (∀ W, Calls Try.prog 13 #[.string ⟨#[]⟩, .int .i64 2, .int .i64 2, .string ⟨#[]⟩] W fun e w' => e = .returned (.bool true) ∧ Below W.heap.size W w')) :
    Calls Try.prog 7 #[.int .i64 z, .slice ax la cx, .slice an ln cn] w fun e w' => e = .returned (.bool true) ∧ Below w.heap.size w w' := by
  go_enter Try.func7, Try.ntmps7
  go_wp2_with fail
  refine F40.out.mono ?_
  rintro e U9 ⟨rfl, hb⟩
  have B : Hid (Below w.heap.size w U9) := hb
  clear hb
  go_wp2_with fail
  refine (F9.out U9).mono ?_
  rintro e U0 ⟨⟨u1, u2, rfl, hv, hv'⟩, hb⟩
  have Nu1 : Hid (NumV U0 65536 q u1) := hv
  have Nu2 : Hid (NumV U0 65536 p u2) := hv'
  clear hv hv'
  replace B := aB B hb
  clear hb
  obtain ⟨u1_a, u1_l, u1_c, rfl⟩ := sN Nu1
  obtain ⟨u2_a, u2_l, u2_c, rfl⟩ := sN Nu2
  have hb := nB U0 (.cells #[(.int .i64 (S : Int)), (.slice u1_a u1_l u1_c), (.slice u2_a u2_l u2_c)] 25)
  have Jg : Hid (IHolds (U0.alloc (.cells #[(.int .i64 (S : Int)), (.slice u1_a u1_l u1_c), (.slice u2_a u2_l u2_c)] 25)) U0.heap.size 25 [(.int .i64 (S : Int)), (.slice u1_a u1_l u1_c), (.slice u2_a u2_l u2_c)]) := IHolds.new _ _ _
  have ge_g : Hid (w.heap.size ≤ U0.heap.size) := B.out.size
  replace B := aB B hb
  replace Nu1 := aN Nu1 hb
  replace Nu2 := aN Nu2 hb
  clear hb
  go_wp2_with fail
  generalize (U0.alloc (.cells #[(.int .i64 (S : Int)), (.slice u1_a u1_l u1_c), (.slice u2_a u2_l u2_c)] 25)) = U1 at *
  generalize U0.heap.size = b2 at *
  refine (TB.out U1).mono ?_
  rintro e U3 ⟨rfl, hb⟩
  replace B := aB B hb
  replace Jg := aJ Jg hb
  replace Nu1 := aN Nu1 hb
  replace Nu2 := aN Nu2 hb
  clear hb
  go_wp2_with fail
  go_ret
  exact ⟨rfl, B.out⟩
theorem hCell {W W' : World} {a : Addr} {v : Value} (h : Hid (W.cell? a = some v)) (hb : Below W.heap.size W W') : Hid (W'.cell? a = some v) := by
  show _ = _
  rw [hb.cell (World.block_lt_of_cell? W a h.out)]
  exact h.out
section
variable {z : Int} {G : Array Value} {S Wd M low one sq Ri Wd2 M2 low2 one2 sq2 Ri2 : Nat}
set_option maxRecDepth 100000 in
set_option maxHeartbeats 1000000 in
theorem plaw_ok (k : KD z G S Wd M low one sq Ri Wd2 M2 low2 one2 sq2 Ri2) {w : World} {xs ns : List ByteArray} {ax an : Option Addr} {n cx cn : Nat} (hx : SAt w ax xs) (hn : SAt w an ns) (hlx : xs.length = n) (hln : ns.length = n) (h9 : n ≤ 256) :
    Calls Try.prog 7 #[.int .i64 z, .slice ax n cx, .slice an n cn] w fun e w' => e = .returned (.bool true) ∧ Below w.heap.size w w' := by
  have F40 : Hid (Calls Try.prog 40 #[.int .i64 z, .slice ax n cx, .slice an n cn] w fun e w' => e = .returned (.tuple #[.string (prodT S M M2 xs ns), .int .i64 (code S M xs ns : Int)]) ∧ Below w.heap.size w w') := prod_yes k w hx hn hlx hln h9
  have F9 : Hid (∀ W, Calls Try.prog 9 #[.int .i64 z] W fun e w' => (∃ u1 u2, e = .returned (.agg #[.int .i64 (S : Int), u1, u2]) ∧ NumV w' 65536 M u1 ∧ NumV w' 65536 M2 u2) ∧ Below W.heap.size W w') := k.K9
  have hs := k.hS0
  have C22 : Hid (∀ W s u1 u2, NumV W 65536 M u1 → NumV W 65536 M2 u2 → Calls Try.prog 22 #[.agg #[.int .i64 (S : Int), u1, u2], .string s] W fun e w' => e = .returned (.bool (isEl S M s)) ∧ Below W.heap.size W w') := fun W s u1 u2 g1 g2 => isElemV (S := S) g1 g2 s k.hS k.l6
  have C21 : Hid (∀ W s u1 u2, NumV W 65536 M u1 → NumV W 65536 M2 u2 → Calls Try.prog 21 #[.agg #[.int .i64 (S : Int), u1, u2], .string s] W fun e w' => e = .returned (.bool (isSc S M s)) ∧ Below W.heap.size W w') := fun W s u1 u2 g1 g2 => isScalarV (S := S) g1 g2 s k.hS k.l6
  have C25 : Hid (∀ s W, s.size = S → Calls Try.prog 25 #[.string s] W fun e w' => (∃ v, e = .returned v ∧ NumV w' 65536 (numS s) v) ∧ Below W.heap.size W w') := fun s W h => read_small h k.hS W
  have C35 : Hid (∀ W s t u1 u2 v v', isEl S M s = true → isSc S M t = true → NumV W 65536 M u1 → NumV W 65536 M2 u2 → NumV W 65536 (numS s) v → NumV W 65536 (numS t) v' → Calls Try.prog 35 #[.agg #[.int .i64 (S : Int), u1, u2], v, v'] W fun e w' => (∃ v, e = .returned v ∧ NumV w' 65536 (sgn M M2 (numS s ^ numS t % M2)) v) ∧ Below W.heap.size W w') := fun W s t u1 u2 v v' e1 e2 g1 g2 g3 g4 => powerEV k g1 g2 g3 g4 (k.el e1) (Nat.le_of_lt (isSc_lt e2))
  have C34 : Hid (∀ W x y u1 u2 v v', x < M2 → y < M2 → NumV W 65536 M u1 → NumV W 65536 M2 u2 → NumV W 65536 (sgn M M2 x) v → NumV W 65536 (sgn M M2 y) v' → Calls Try.prog 34 #[.agg #[.int .i64 (S : Int), u1, u2], v, v'] W fun e w' => (∃ v, e = .returned v ∧ NumV w' 65536 (sgn M M2 (sgn M M2 x * sgn M M2 y % M2)) v) ∧ Below W.heap.size W w') := fun W x y u1 u2 v v' hx hy g1 g2 g3 g4 => productV k g1 g2 g3 g4 (by have := sgn_le k.m21 hx; have := k.m21; omega) (by have := sgn_le k.m21 hy; have := k.m21; omega)
  have GT : Hid (∀ x W v, x < M2 → NumV W 65536 (sgn M M2 x) v → Calls Try.prog 14 #[v, .int .i64 (S : Int)] W fun e w' => e = .returned (.string ⟨(beB S (sgn M M2 x)).toArray⟩) ∧ Below W.heap.size W w') := fun x W v hx h => refTextV (S := S) h (lenD (sgn_le k.m21 hx) k.l5) (by have := k.hS; omega)
  have CO : Hid (∀ W, Calls Try.prog 16 #[.int .i64 1] W fun e w' => (∃ v, e = .returned v ∧ NumV w' 65536 1 v) ∧ Below W.heap.size W w') := fun W => of_any W 1 (by omega)
  have T13 : Hid (∀ (W : World) (s : ByteArray), Calls Try.prog 13 #[.string s, .int .i64 0, .int .i64 0, .string s] W fun e w' => e = .returned (.bool true) ∧ Below W.heap.size W w') := fun W s => lawText_ok s W
  have TB : Hid (∀ (W : World) (x : Int), (x != 0) = true → Calls Try.prog 13 #[.string ⟨#[]⟩, .int .i64 x, .int .i64 x, .string ⟨#[]⟩] W fun e w' => e = .returned (.bool true) ∧ Below W.heap.size W w') := fun W x h => lawText_bad x _ W h
  have HM2 : Hid (∀ x, x % M2 < M2) := k.mod2
  have Hone : Hid (sgn M M2 (powP (nums xs) (nums ns) 0 % M2) = 1) := sgn_one k.m21 (by have := k.m2; omega) _ _
  have Hnext : Hid (∀ i, i < n → sgn M M2 (sgn M M2 (powP (nums xs) (nums ns) i % M2) * sgn M M2 (numS (tx xs i) ^ numS (tx ns i) % M2) % M2) = sgn M M2 (powP (nums xs) (nums ns) (i + 1) % M2)) := fun i hi => by
    have q := sgn_prod k.m21 (by have := k.m2; omega) (nums xs) (nums ns) i
    rw [nums_getD xs i (by omega), nums_getD ns i (by omega)] at q
    exact q
  clear k
  have HX : Hid (SAt w ax xs) := hx
  have HN : Hid (SAt w an ns) := hn
  have Hlx : Hid (xs.length = n) := hlx
  have Hln : Hid (ns.length = n) := hln
  have l9 : ¬ (256 : Int) < (n : Int) := by omega
  clear hx hn hlx hln
  obtain ⟨TT, hTT⟩ : ∃ T, T = prodT S M M2 xs ns := ⟨_, rfl⟩
  obtain ⟨cc, hcc⟩ : ∃ c, c = code S M xs ns := ⟨_, rfl⟩
  rw [← hTT, ← hcc] at F40
  have HTT : Hid (TT = prodT S M M2 xs ns) := hTT
  have Hcc : Hid (cc = code S M xs ns) := hcc
  clear hTT hcc
  go_enter Try.func7, Try.ntmps7
  go_wp2_with fail
  refine F40.out.mono ?_
  rintro e U9 ⟨rfl, hb⟩
  have B : Hid (Below w.heap.size w U9) := hb
  clear hb F40
  go_wp2_with fail
  refine (F9.out U9).mono ?_
  rintro e U0 ⟨⟨u1, u2, rfl, hv, hv'⟩, hb⟩
  have NQ : Hid (NumV U0 65536 M u1) := hv
  have NP : Hid (NumV U0 65536 M2 u2) := hv'
  replace B := aB B hb
  clear hv hv' hb F9
  obtain ⟨qa, ql, qc, rfl⟩ := sN NQ
  obtain ⟨pa, pl, pc, rfl⟩ := sN NP
  have hb := nB U0 (.cells #[.int .i64 (S : Int), .slice qa ql qc, .slice pa pl pc] 25)
  have JG : Hid (IHolds (U0.alloc (.cells #[.int .i64 (S : Int), .slice qa ql qc, .slice pa pl pc] 25)) U0.heap.size 25 [.int .i64 (S : Int), .slice qa ql qc, .slice pa pl pc]) := IHolds.new _ _ _
  replace B := aB B hb
  replace NQ := aN NQ hb
  replace NP := aN NP hb
  clear hb
  go_wp2_with fail
  generalize U0.alloc (.cells #[.int .i64 (S : Int), .slice qa ql qc, .slice pa pl pc] 25) = U1 at *
  generalize U0.heap.size = bg at *
  refine (CO.out U1).mono ?_
  rintro e U2 ⟨⟨vo, rfl, hv⟩, hb⟩
  have NO : Hid (NumV U2 65536 1 vo) := hv
  replace B := aB B hb
  replace NQ := aN NQ hb
  replace NP := aN NP hb
  replace JG := aJ JG hb
  clear hb hv CO
  go_wp2_with fail
  go_loopg [10, 49] n (fun gk v10 v49 wr => ∃ (i : Nat) (v : Value), gk + i = n ∧ v = v10 ∧ v49 = .int .i64 (i : Int) ∧ NumV wr 65536 (sgn M M2 (powP (nums xs) (nums ns) i % M2)) v ∧ code S M xs ns = code S M (xs.drop i) (ns.drop i) ∧ Below U2.heap.size U2 wr)
  case atStart => exact ⟨0, _, by omega, rfl, rfl, by rw [Hone.out]; exact NO.out, rfl, Below.refl _ _⟩
  case round =>
    clear NO
    obtain ⟨i, v, hi, hv, rfl, hN, hC, hB⟩ := hrel
    subst hv
    have NO : Hid (NumV wr 65536 (sgn M M2 (powP (nums xs) (nums ns) i % M2)) v) := hN
    have HC : Hid (code S M xs ns = code S M (xs.drop i) (ns.drop i)) := hC
    have B1 : Hid (Below U2.heap.size U2 wr) := hB
    have NQ0 := NQ
    have NP0 := NP
    have JG0 := JG
    replace NQ : Hid (NumV wr 65536 M (.slice qa ql qc)) := NQ.out.of_below B1.out
    replace NP : Hid (NumV wr 65536 M2 (.slice pa pl pc)) := NP.out.of_below B1.out
    replace JG : Hid (IHolds wr bg 25 [.int .i64 (S : Int), .slice qa ql qc, .slice pa pl pc]) := JG.out.of_below B1.out
    clear hN hC hB
    by_cases hin : i < n
    · have k1 : (i : Int) < (n : Int) := by omega
      have HC2 : Hid (code S M xs ns = if isEl S M (tx xs i) then (if isSc S M (tx ns i) then code S M (xs.drop (i + 1)) (ns.drop (i + 1)) else 6) else 7) := by
        show _ = _
        rw [HC.out]; exact code_step (by rw [Hlx.out]; exact hin) (by rw [Hln.out]; exact hin)
      obtain ⟨bx, ox, rfl, hcx⟩ := HX.out i (by rw [Hlx.out]; exact hin)
      obtain ⟨bn, on, rfl, hcn⟩ := HN.out i (by rw [Hln.out]; exact hin)
      have CX : Hid (wr.cell? ⟨bx, ox + i, none⟩ = some (.string (tx xs i))) := by
        show _ = _
        have hl : bx < w.heap.size := World.block_lt_of_cell? w ⟨bx, ox + i, none⟩ hcx
        rw [B1.out.cell (Nat.lt_of_lt_of_le hl B.out.size), B.out.cell hl]; exact hcx
      have CN : Hid (wr.cell? ⟨bn, on + i, none⟩ = some (.string (tx ns i))) := by
        show _ = _
        have hl : bn < w.heap.size := World.block_lt_of_cell? w ⟨bn, on + i, none⟩ hcn
        rw [B1.out.cell (Nat.lt_of_lt_of_le hl B.out.size), B.out.cell hl]; exact hcn
      have Hnx := Hnext.out i hin
      clear hcx hcn
      generalize tx xs i = sx at *
      generalize tx ns i = sn at *
      have HNx : Hid (sgn M M2 (sgn M M2 (powP (nums xs) (nums ns) i % M2) * sgn M M2 (numS sx ^ numS sn % M2) % M2) = sgn M M2 (powP (nums xs) (nums ns) (i + 1) % M2)) := Hnx
      clear Hnx Hnext
      go_wp2_with fail
      have hb := dB wr
      replace B1 := aB B1 hb
      replace JG := aJ JG hb
      replace NQ := aN NQ hb
      replace NP := aN NP hb
      replace NO := aN NO hb
      replace CX := hCell CX hb
      replace CN := hCell CN hb
      clear hb
      refine wp_region_held_drew (S := fun W => IHolds W bg 25 [.int .i64 (S : Int), .slice qa ql qc, .slice pa pl pc] ∧ W.cell? ⟨bx, ox + i, none⟩ = some (.string sx) ∧ W.cell? ⟨bn, on + i, none⟩ = some (.string sn)) (by kernel_rfl) ⟨JG.out, CX.out, CN.out⟩ (fun h1 => ?_)
      generalize wr.drew = V1 at *
      refine tk (i := 0) (v := .agg #[.int .i64 (S : Int), .slice qa ql qc, .slice pa pl pc]) rfl (by kernel_rfl) (fun _ _ _ h => h) rfl ?_ h1 ?_
      · intro W hS; have zg0 := IHolds.cell hS.1 0 (by simp); have zg1 := IHolds.cell hS.1 1 (by simp); have zg2 := IHolds.cell hS.1 2 (by simp); simp only [List.getElem_cons_zero, List.getElem_cons_succ] at zg0 zg1 zg2; go_simp
      simp only [Act.put, y1, y2, y3, y4, y5, y6, y7]
      refine tk (i := 1) (v := .slice (some ⟨bx, ox, none⟩) n cx) rfl (by kernel_rfl) (fun _ _ _ h => h) rfl ?_ h1 ?_
      · intro W hS; go_simp
      simp only [Act.put, y1, y2, y3, y4, y5, y6, y7]
      refine tk (i := 2) (v := .int .i64 (i : Int)) rfl (by kernel_rfl) (fun _ _ _ h => h) rfl ?_ h1 ?_
      · intro W hS; go_simp
      simp only [Act.put, y1, y2, y3, y4, y5, y6, y7]
      refine tk (i := 3) (v := .pointer (some ⟨bx, ox + i, none⟩)) rfl (by kernel_rfl) (fun _ _ _ h => h) rfl ?_ h1 ?_
      · intro W hS; have hlt : (i : Int) < (n : Int) := k1; go_simp
      simp only [Act.put, y1, y2, y3, y4, y5, y6, y7]
      refine tk (i := 4) (v := .string sx) rfl (by kernel_rfl) (fun _ _ _ h => h) rfl ?_ h1 ?_
      · intro W hS; have zc := hS.2.1; go_simp
      simp only [Act.put, y1, y2, y3, y4, y5, y6, y7]
      refine wpAnyH_ready (rs := [5]) (by kernel_rfl) (by simp) ?_
      refine AllReadyH.cons rfl (fun K hK => ?_) AllReadyH.nil
      clear h1
      go_simp
      refine (C22.out V1 sx _ _ NQ.out NP.out).mono ?_
      rintro e V2 ⟨rfl, hb⟩
      replace B1 := aB B1 hb
      replace JG := aJ JG hb
      replace NQ := aN NQ hb
      replace NP := aN NP hb
      replace NO := aN NO hb
      replace CX := hCell CX hb
      replace CN := hCell CN hb
      clear hb
      go_wp2_with fail
      refine hK.out _ _ ⟨JG.out, CX.out, CN.out⟩ (fun h1 => ?_)
      clear hK K
      try simp only [Act.put, y1, y2, y3, y4, y5, y6, y7]
      refine tk (i := 6) (v := .bool (!(isEl S M sx))) rfl (by kernel_rfl) (fun _ _ _ h => h) rfl ?_ h1 ?_
      · intro W hS; go_simp
      simp only [Act.put, y1, y2, y3, y4, y5, y6, y7]
      refine wpAnyH_done (by kernel_rfl) ?_ _
      clear h1
      cases hel : isEl S M sx
      · have Hc7 : Hid (cc = 7) := by show _ = _; rw [Hcc.out, HC2.out, hel]; rfl
        have HTe : Hid (TT = ⟨#[]⟩) := by show _ = _; rw [HTT.out, prodT, ← Hcc.out, Hc7.out]; rfl
        rw [Hc7.out, HTe.out]
        clear hel
        go_wp2_with fail
        refine (TB.out V2 7 rfl).mono ?_
        rintro e V3 ⟨rfl, hb⟩
        replace B1 := aB B1 hb
        clear hb
        go_wp2_with fail
        go_ret
        exact ⟨rfl, B.out.trans (B1.out.mono B.out.size)⟩
      · have HelT : Hid (isEl S M sx = true) := hel
        clear hel
        go_wp2_with fail
        have hb := dB V2
        replace B1 := aB B1 hb
        replace JG := aJ JG hb
        replace NQ := aN NQ hb
        replace NP := aN NP hb
        replace NO := aN NO hb
        replace CX := hCell CX hb
        replace CN := hCell CN hb
        clear hb
        refine wp_region_held_drew (S := fun W => IHolds W bg 25 [.int .i64 (S : Int), .slice qa ql qc, .slice pa pl pc] ∧ W.cell? ⟨bx, ox + i, none⟩ = some (.string sx) ∧ W.cell? ⟨bn, on + i, none⟩ = some (.string sn)) (by kernel_rfl) ⟨JG.out, CX.out, CN.out⟩ (fun h1 => ?_)
        generalize V2.drew = V3 at *
        refine tk (i := 0) (v := .agg #[.int .i64 (S : Int), .slice qa ql qc, .slice pa pl pc]) rfl (by kernel_rfl) (fun _ _ _ h => h) rfl ?_ h1 ?_
        · intro W hS; have zg0 := IHolds.cell hS.1 0 (by simp); have zg1 := IHolds.cell hS.1 1 (by simp); have zg2 := IHolds.cell hS.1 2 (by simp); simp only [List.getElem_cons_zero, List.getElem_cons_succ] at zg0 zg1 zg2; go_simp
        simp only [Act.put, y1, y2, y3, y4, y5, y6, y7]
        refine tk (i := 1) (v := .slice (some ⟨bn, on, none⟩) n cn) rfl (by kernel_rfl) (fun _ _ _ h => h) rfl ?_ h1 ?_
        · intro W hS; go_simp
        simp only [Act.put, y1, y2, y3, y4, y5, y6, y7]
        refine tk (i := 2) (v := .int .i64 (i : Int)) rfl (by kernel_rfl) (fun _ _ _ h => h) rfl ?_ h1 ?_
        · intro W hS; go_simp
        simp only [Act.put, y1, y2, y3, y4, y5, y6, y7]
        refine tk (i := 3) (v := .pointer (some ⟨bn, on + i, none⟩)) rfl (by kernel_rfl) (fun _ _ _ h => h) rfl ?_ h1 ?_
        · intro W hS; have hlt : (i : Int) < (n : Int) := k1; go_simp
        simp only [Act.put, y1, y2, y3, y4, y5, y6, y7]
        refine tk (i := 4) (v := .string sn) rfl (by kernel_rfl) (fun _ _ _ h => h) rfl ?_ h1 ?_
        · intro W hS; have zc := hS.2.2; go_simp
        simp only [Act.put, y1, y2, y3, y4, y5, y6, y7]
        refine wpAnyH_ready (rs := [5]) (by kernel_rfl) (by simp) ?_
        refine AllReadyH.cons rfl (fun K hK => ?_) AllReadyH.nil
        clear h1
        go_simp
        refine (C21.out V3 sn _ _ NQ.out NP.out).mono ?_
        rintro e V4 ⟨rfl, hb⟩
        replace B1 := aB B1 hb
        replace JG := aJ JG hb
        replace NQ := aN NQ hb
        replace NP := aN NP hb
        replace NO := aN NO hb
        replace CX := hCell CX hb
        replace CN := hCell CN hb
        clear hb
        go_wp2_with fail
        refine hK.out _ _ ⟨JG.out, CX.out, CN.out⟩ (fun h1 => ?_)
        clear hK K
        try simp only [Act.put, y1, y2, y3, y4, y5, y6, y7]
        refine tk (i := 6) (v := .bool (!(isSc S M sn))) rfl (by kernel_rfl) (fun _ _ _ h => h) rfl ?_ h1 ?_
        · intro W hS; go_simp
        simp only [Act.put, y1, y2, y3, y4, y5, y6, y7]
        refine wpAnyH_done (by kernel_rfl) ?_ _
        clear h1
        cases hsc : isSc S M sn
        · have Hc7 : Hid (cc = 6) := by show _ = _; rw [Hcc.out, HC2.out, HelT.out, hsc]; rfl
          have HTe : Hid (TT = ⟨#[]⟩) := by show _ = _; rw [HTT.out, prodT, ← Hcc.out, Hc7.out]; rfl
          rw [Hc7.out, HTe.out]
          clear hsc
          go_wp2_with fail
          refine (TB.out V4 6 rfl).mono ?_
          rintro e V5 ⟨rfl, hb⟩
          replace B1 := aB B1 hb
          clear hb
          go_wp2_with fail
          go_ret
          exact ⟨rfl, B.out.trans (B1.out.mono B.out.size)⟩
        · have HscT : Hid (isSc S M sn = true) := hsc
          have HC3 : Hid (code S M xs ns = code S M (xs.drop (i + 1)) (ns.drop (i + 1))) := by show _ = _; rw [HC2.out, HelT.out, hsc]; rfl
          clear hsc
          go_wp2_with fail
          have hb := dB V4
          replace B1 := aB B1 hb
          replace JG := aJ JG hb
          replace NQ := aN NQ hb
          replace NP := aN NP hb
          replace NO := aN NO hb
          replace CX := hCell CX hb
          replace CN := hCell CN hb
          clear hb
          refine wp_region_held_drew (S := fun W => IHolds W bg 25 [.int .i64 (S : Int), .slice qa ql qc, .slice pa pl pc] ∧ W.cell? ⟨bx, ox + i, none⟩ = some (.string sx) ∧ W.cell? ⟨bn, on + i, none⟩ = some (.string sn)) (by kernel_rfl) ⟨JG.out, CX.out, CN.out⟩ (fun h1 => ?_)
          generalize V4.drew = V5 at *
          refine tk (i := 0) (v := .agg #[.int .i64 (S : Int), .slice qa ql qc, .slice pa pl pc]) rfl (by kernel_rfl) (fun _ _ _ h => h) rfl ?_ h1 ?_
          · intro W hS; have zg0 := IHolds.cell hS.1 0 (by simp); have zg1 := IHolds.cell hS.1 1 (by simp); have zg2 := IHolds.cell hS.1 2 (by simp); simp only [List.getElem_cons_zero, List.getElem_cons_succ] at zg0 zg1 zg2; go_simp
          simp only [Act.put, y1, y2, y3, y4, y5, y6, y7]
          refine tk (i := 1) (v := v) rfl (by kernel_rfl) (fun _ _ _ h => h) rfl ?_ h1 ?_
          · intro W hS; go_simp
          simp only [Act.put, y1, y2, y3, y4, y5, y6, y7]
          refine tk (i := 2) (v := .agg #[.int .i64 (S : Int), .slice qa ql qc, .slice pa pl pc]) rfl (by kernel_rfl) (fun _ _ _ h => h) rfl ?_ h1 ?_
          · intro W hS; have zg0 := IHolds.cell hS.1 0 (by simp); have zg1 := IHolds.cell hS.1 1 (by simp); have zg2 := IHolds.cell hS.1 2 (by simp); simp only [List.getElem_cons_zero, List.getElem_cons_succ] at zg0 zg1 zg2; go_simp
          simp only [Act.put, y1, y2, y3, y4, y5, y6, y7]
          refine tk (i := 3) (v := .slice (some ⟨bx, ox, none⟩) n cx) rfl (by kernel_rfl) (fun _ _ _ h => h) rfl ?_ h1 ?_
          · intro W hS; go_simp
          simp only [Act.put, y1, y2, y3, y4, y5, y6, y7]
          refine tk (i := 4) (v := .int .i64 (i : Int)) rfl (by kernel_rfl) (fun _ _ _ h => h) rfl ?_ h1 ?_
          · intro W hS; go_simp
          simp only [Act.put, y1, y2, y3, y4, y5, y6, y7]
          refine tk (i := 5) (v := .pointer (some ⟨bx, ox + i, none⟩)) rfl (by kernel_rfl) (fun _ _ _ h => h) rfl ?_ h1 ?_
          · intro W hS; have hlt : (i : Int) < (n : Int) := k1; go_simp
          simp only [Act.put, y1, y2, y3, y4, y5, y6, y7]
          refine tk (i := 6) (v := .string sx) rfl (by kernel_rfl) (fun _ _ _ h => h) rfl ?_ h1 ?_
          · intro W hS; have zc := hS.2.1; go_simp
          simp only [Act.put, y1, y2, y3, y4, y5, y6, y7]
          refine tk (i := 8) (v := .slice (some ⟨bn, on, none⟩) n cn) rfl (by kernel_rfl) (fun _ _ _ h => h) rfl ?_ h1 ?_
          · intro W hS; go_simp
          simp only [Act.put, y1, y2, y3, y4, y5, y6, y7]
          refine tk (i := 9) (v := .int .i64 (i : Int)) rfl (by kernel_rfl) (fun _ _ _ h => h) rfl ?_ h1 ?_
          · intro W hS; go_simp
          simp only [Act.put, y1, y2, y3, y4, y5, y6, y7]
          refine tk (i := 10) (v := .pointer (some ⟨bn, on + i, none⟩)) rfl (by kernel_rfl) (fun _ _ _ h => h) rfl ?_ h1 ?_
          · intro W hS; have hlt : (i : Int) < (n : Int) := k1; go_simp
          simp only [Act.put, y1, y2, y3, y4, y5, y6, y7]
          refine tk (i := 11) (v := .string sn) rfl (by kernel_rfl) (fun _ _ _ h => h) rfl ?_ h1 ?_
          · intro W hS; have zc := hS.2.2; go_simp
          simp only [Act.put, y1, y2, y3, y4, y5, y6, y7]
          refine wpAnyH_ready (rs := [7]) (by kernel_rfl) (by simp) ?_
          refine AllReadyH.cons rfl (fun K hK => ?_) AllReadyH.nil
          clear h1
          go_simp
          refine (C25.out sx V5 (isEl_size HelT.out)).mono ?_
          rintro e V6 ⟨⟨va, rfl, hv⟩, hb⟩
          replace B1 := aB B1 hb
          replace JG := aJ JG hb
          replace NQ := aN NQ hb
          replace NP := aN NP hb
          replace NO := aN NO hb
          replace CX := hCell CX hb
          replace CN := hCell CN hb
          have NA : Hid (NumV V6 65536 (numS sx) va) := hv
          clear hb hv
          go_wp2_with fail
          refine hK.out _ _ ⟨JG.out, CX.out, CN.out⟩ (fun h1 => ?_)
          clear hK K
          try simp only [Act.put, y1, y2, y3, y4, y5, y6, y7]
          refine wpAnyH_ready (rs := [12]) (by kernel_rfl) (by simp) ?_
          refine AllReadyH.cons rfl (fun K hK => ?_) AllReadyH.nil
          clear h1
          go_simp
          refine (C25.out sn V6 (isSc_size HscT.out)).mono ?_
          rintro e V7 ⟨⟨vb, rfl, hv⟩, hb⟩
          replace B1 := aB B1 hb
          replace JG := aJ JG hb
          replace NQ := aN NQ hb
          replace NP := aN NP hb
          replace NO := aN NO hb
          replace CX := hCell CX hb
          replace CN := hCell CN hb
          have NB' : Hid (NumV V7 65536 (numS sn) vb) := hv
          replace NA := aN NA hb
          clear hb hv
          go_wp2_with fail
          refine hK.out _ _ ⟨JG.out, CX.out, CN.out⟩ (fun h1 => ?_)
          clear hK K
          try simp only [Act.put, y1, y2, y3, y4, y5, y6, y7]
          refine wpAnyH_ready (rs := [13]) (by kernel_rfl) (by simp) ?_
          refine AllReadyH.cons rfl (fun K hK => ?_) AllReadyH.nil
          clear h1
          go_simp
          refine (C35.out V7 sx sn _ _ va vb HelT.out HscT.out NQ.out NP.out NA.out NB'.out).mono ?_
          rintro e V8 ⟨⟨vp, rfl, hv⟩, hb⟩
          replace B1 := aB B1 hb
          replace JG := aJ JG hb
          replace NQ := aN NQ hb
          replace NP := aN NP hb
          replace NO := aN NO hb
          replace CX := hCell CX hb
          replace CN := hCell CN hb
          have NPw : Hid (NumV V8 65536 (sgn M M2 (numS sx ^ numS sn % M2)) vp) := hv
          clear hb hv
          go_wp2_with fail
          refine hK.out _ _ ⟨JG.out, CX.out, CN.out⟩ (fun h1 => ?_)
          clear hK K
          try simp only [Act.put, y1, y2, y3, y4, y5, y6, y7]
          refine wpAnyH_ready (rs := [14]) (by kernel_rfl) (by simp) ?_
          refine AllReadyH.cons rfl (fun K hK => ?_) AllReadyH.nil
          clear h1
          go_simp
          refine (C34.out V8 _ _ _ _ v vp (HM2.out _) (HM2.out _) NQ.out NP.out NO.out NPw.out).mono ?_
          rintro e VA ⟨⟨vq, rfl, hv⟩, hb⟩
          replace B1 := aB B1 hb
          replace JG := aJ JG hb
          replace NQ := aN NQ hb
          replace NP := aN NP hb
          replace NO := aN NO hb
          replace CX := hCell CX hb
          replace CN := hCell CN hb
          rw [HNx.out] at hv
          have NO2 : Hid (NumV VA 65536 (sgn M M2 (powP (nums xs) (nums ns) (i + 1) % M2)) vq) := hv
          clear hb hv
          go_wp2_with fail
          refine hK.out _ _ ⟨JG.out, CX.out, CN.out⟩ (fun h1 => ?_)
          clear hK K
          try simp only [Act.put, y1, y2, y3, y4, y5, y6, y7]
          refine tk (i := 15) (v := vq) rfl (by kernel_rfl) (fun _ _ _ h => h) rfl ?_ h1 ?_
          · intro W hS; go_simp
          simp only [Act.put, y1, y2, y3, y4, y5, y6, y7]
          refine wpAnyH_done (by kernel_rfl) ?_ _
          clear h1
          go_wp2_with fail
          go_roundg (gk - 1)
          case measure => omega
          case rel => exact ⟨i + 1, vq, by omega, rfl, by first | rfl | go_num, NO2.out, HC3.out, B1.out⟩
    · have k1 : ¬ (i : Int) < (n : Int) := by omega
      have ein : i = n := by omega
      subst ein
      have Hc0 : Hid (cc = 0) := by show _ = _; rw [Hcc.out, HC.out]; exact code_end (by rw [Hlx.out]; exact Nat.le_refl _)
      have HTe : Hid (TT = ⟨(beB S (sgn M M2 (powP (nums xs) (nums ns) i % M2))).toArray⟩) := by show _ = _; rw [HTT.out, prodT, ← Hcc.out, Hc0.out, if_pos rfl, Hlx.out]
      have GT1 := GT.out _ wr v (HM2.out _) NO.out
      rw [← HTe.out] at GT1
      have GT2 : Hid (Calls Try.prog 14 #[v, .int .i64 (S : Int)] wr fun e w' => e = .returned (.string TT) ∧ Below wr.heap.size wr w') := GT1
      clear GT1
      rw [Hc0.out]
      have zg0 : wr.cell? ⟨bg, 0, none⟩ = some (.int .i64 (S : Int)) := JG.out.cell 0 (by simp)
      go_wp2_with fail
      clear zg0
      refine GT2.out.mono ?_
      rintro e V1 ⟨rfl, hb⟩
      replace B1 := aB B1 hb
      clear hb GT2
      go_wp2_with fail
      refine (T13.out V1 TT).mono ?_
      rintro e V2 ⟨rfl, hb⟩
      replace B1 := aB B1 hb
      clear hb
      go_wp2_with fail
      go_ret
      exact ⟨rfl, B.out.trans (B1.out.mono B.out.size)⟩
end
end Go.Proofs.Ytckfdpiohkggaaa
