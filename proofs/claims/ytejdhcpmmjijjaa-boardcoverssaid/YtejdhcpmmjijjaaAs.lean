/- slices.AppendSeq and Collect of a cover; Cover. -/
import Derived.Test.YtejdhcpmmjijjaaIt
set_option linter.unusedSimpArgs false
set_option linter.unusedVariables false
namespace Go.Proofs.Ytejdhcpmmjijjaa
open Go.RowKit Go.Shelf

attribute [local go_sem] Oper.semAt_some

/-- Each block of one span lies as it lay. -/
def Two (A B : World) : Prop := ∀ (k : Nat) (cs : Array Value), A.heap[k]? = some (Obj.cells cs 27) → cs.size = 2 → B.heap[k]? = A.heap[k]?
theorem Two.trans {A B C : World} (h : Two A B) (k : Two B C) : Two A C := fun i cs hi hs => (k i cs ((h i cs hi hs).trans hi) hs).trans (h i cs hi hs)
theorem Two.alloc (A : World) (o : Obj) : Two A (A.alloc o) := fun k cs hk hs => Below.heap_alloc _ _ _ (Array.getElem?_eq_some_iff.1 hk).1
theorem Two.same {A B : World} (h : A.grownBy B none) : Two A B := fun k cs hk hs => h.block k (Array.getElem?_eq_some_iff.1 hk).1 (by simp)
theorem Two.set {A : World} {B : Nat} {v : Value} (h : Boxed A B 22 v) (v' : Value) : Two A (A.setCell ⟨B, 0, none⟩ v') := fun k cs hk hs => by
  refine Below.heap_setCell _ _ _ _ (fun e => ?_)
  subst e
  rw [show A.heap[k]? = _ from h] at hk
  cases hk
theorem row_up {w : World} {b b' : Nat} {e : TypeId} {s n : Nat} {v : Value} {xs : List Value} (h : w.ownsRow b' e s v n xs) (hb : b ≤ b') : w.ownsRow b e s v n xs := by
  obtain ⟨h1, h2 | ⟨g, cap, cur, q1, q2, q3⟩⟩ := h
  · exact ⟨h1, Or.inl h2⟩
  · exact ⟨h1, Or.inr ⟨g, cap, cur, q1, Nat.le_trans hb q2, q3⟩⟩
theorem grown_up {w w' : World} (h : w.grownBy w' none) (r : Option Nat) : w.grownBy w' r := ⟨h.os, h.tape, h.output, h.size, fun k hk _ => h.block k hk (by simp)⟩
/-- append of one span: blocks of one span are left. -/
theorem run_append_span (w : World) (ty : TypeId) {i : TypeInfo} (hi : Try.prog.info? 27 = some i) (hz : i.zero = some (.agg #[.int .i64 0, .int .i64 0])) (hs : i.size = 2) (hb : i.bytes = 16)
    {base : Nat} {v : Value} {n : Nat} {xs : List Value} (hown : w.ownsRow base 27 2 v n xs) (hnil : v = .slice none 0 0 ∨ 1 ≤ n) (ad : Addr) (c : Nat) (news : List Value) (hl : news.length = 1 * 2) (hnews : ∀ j u, news[j]? = some u → w.cell? (ad.add j) = some u) (h1 : ∀ u ∈ news, u.oneCell' = true)
    (h63 : n + 1 ≤ maxLen) (hbytes : (n + 1) * 16 ≤ 140737488355328) (hbase : base ≤ w.heap.size) :
    ∃ v' w', (Builtin.append_ #[22, 22] ty #[v, .slice (some ad) 1 c]).run Try.prog w = .ok v' w' ∧ w'.ownsRow base 27 2 v' (n + 1) (xs ++ news) ∧ w.grownBy w' v.ownBlock ∧ Two w w' := by
  have hown' := hown
  obtain ⟨hlen, ⟨rfl, h0⟩ | ⟨g, cap, cur, rfl, q1, q2, q3, q4, q5, q6⟩⟩ := hown
  · obtain ⟨v', w', r1, r2, r3, r4⟩ := run_append_own (P := Try.prog) w base 22 ty 27 i _ 2 16 Try.underlying22 hi hz hs hb rfl (by decide) _ n xs hown' ad 1 c news hl hnews h1 h63 hbytes hbase
    exact ⟨v', w', r1, r2, r3, Two.same r3⟩
  · by_cases hc : n + 1 ≤ cap
    · obtain ⟨v', w', r1, r2, r3, r4⟩ := run_append_own (P := Try.prog) w base 22 ty 27 i _ 2 16 Try.underlying22 hi hz hs hb rfl (by decide) _ n xs hown' ad 1 c news hl hnews h1 h63 hbytes hbase
      refine ⟨v', w', r1, r2, r3, fun k cs hk hs2 => r3.block k (Array.getElem?_eq_some_iff.1 hk).1 (fun e => ?_)⟩
      have e' : k = g := by simpa [Value.ownBlock] using e
      subst e'
      rw [q2] at hk
      cases hk
      rcases hnil with h | h
      · cases h
      · omega
    · have holds : ∀ j u, xs[j]? = some u → w.cell? ((⟨g, 0, none⟩ : Addr).add j) = some u := fun j u hj => by
        have hlt : j < n * 2 := by
          have := (List.getElem?_eq_some_iff.1 hj).1
          omega
        rw [← q6, List.getElem?_take_of_lt hlt, Array.getElem?_toList] at hj
        unfold Addr.add
        by_cases h0 : j = 0
        · subst h0; simp [World.cell?, q2, hj]
        · simp [h0, World.cell?, q2, hj]
      obtain ⟨v', w', r1, r2, r3⟩ := run_append_arg_grows (P := Try.prog) w 22 ty 27 i _ 2 16 Try.underlying22 hi hz hs hb rfl (by decide) ⟨g, 0, none⟩ n cap xs hlen holds ad 1 c news hl hnews (by omega) h63 hbytes
      exact ⟨v', w', r1, row_up r2 hbase, grown_up r3 _, Two.same r3⟩
theorem wpListIn_append_span {F : Fence} {n : Nat} (w : World) {ops : Array Oper} {rest : List Oper} {o : Oper} {a : Act} {Q : Exit → Act → World → Prop}
    (hg : o.guard = none) (s x : Operand) (hop : o.op = Op.call { callee := Callee.builtin Builtin.append, args := #[s, x], argTypes := #[22, 22] })
    {i : TypeInfo} (hi : Try.prog.info? 27 = some i) (hz : i.zero = some (.agg #[.int .i64 0, .int .i64 0])) (hs1 : i.size = 2) (hb : i.bytes = 16)
    {base : Nat} {v : Value} {k : Nat} {xs : List Value} (hs : a.eval s = v) (hown : w.ownsRow base 27 2 v k xs) (hnil : v = .slice none 0 0 ∨ 1 ≤ k) (ad : Addr) (c : Nat) (news : List Value) (hx : a.eval x = .slice (some ad) 1 c) (hn : news.length = 1 * 2)
    (hc : ∀ j u, news[j]? = some u → w.cell? (ad.add j) = some u) (h1c : ∀ u ∈ news, u.oneCell' = true) (b1 : k + 1 ≤ maxLen) (b2 : (k + 1) * 16 ≤ 140737488355328) (b3 : base ≤ w.heap.size)
    (hK : ∀ v' w', w'.ownsRow base 27 2 v' (k + 1) (xs ++ news) → w.grownBy w' v.ownBlock → Two w w' → wpListIn F n Try.prog ops Q rest (a.put o.dst v') w') :
    wpListIn F n Try.prog ops Q (o :: rest) a w := by
  refine wpListIn_plain hg fun K hK' => ?_
  obtain ⟨v', w', hrun, r1, r2, r3⟩ := run_append_span w o.type hi hz hs1 hb hown hnil ad c news hn hc h1c b1 b2 b3
  unfold Oper.wpIn
  refine ⟨?_, ?_⟩
  · simp [Oper.about, hop, resolve, Target.leads, Sem.run_pure]
  · rw [Oper.semAt_plain F _ _ (by rw [hop]; intro c hc'; cases hc')]
    simp [execOp, hop, resolve, invoke, builtin, hs, hx, hrun, Result.andThen]
    exact hK' _ _ (hK v' w' r1 r2 r3)
theorem two_new (w : World) (x y : Value) : ∀ j u, [x, y][j]? = some u → (w.alloc (.cells #[x, y] 27)).cell? ((⟨w.heap.size, 0, none⟩ : Addr).add j) = some u := fun j u hj => by
  have I := IHolds.new w 27 [x, y]
  match j, hj with
  | 0, hj => simp at hj; subst hj; exact I.cell 0 (by simp)
  | 1, hj => simp at hj; subst hj; exact I.cell 1 (by simp)
theorem row_end {w : World} {base n : Nat} {e : TypeId} {s : Nat} {v : Value} {xs : List Value} (h : w.ownsRow base e s v (n + 1) xs) : ∃ g c, v = .slice (some ⟨g, 0, none⟩) (n + 1) c := by
  obtain ⟨_, ⟨_, h0⟩ | ⟨g, cap, cur, rfl, _⟩⟩ := h
  · omega
  · exact ⟨g, cap, rfl⟩
set_option maxRecDepth 100000 in
set_option maxHeartbeats 2000000 in
theorem appendSeq11 (w : World) (Bl Bh lo hi : Nat) (h1 : lo ≤ hi) (h2 : hi ≤ 1048576) (hBl : Bl < w.heap.size) (hBn : Bh < w.heap.size) (hl : w.cell? ⟨Bl, 0, none⟩ = some (.int .i64 (lo : Int))) (hh : w.cell? ⟨Bh, 0, none⟩ = some (.int .i64 (hi : Int))) :
    Calls Try.prog 11 #[.slice none 0 0, .func (.func 12) #[] #[.pointer (some ⟨Bl, 0, none⟩), .pointer (some ⟨Bh, 0, none⟩)]] w fun e W' => ∃ v, e = .returned v ∧ W'.ownsRow w.heap.size 27 2 v (cover lo hi).length (flat (cover lo hi)) ∧ Below w.heap.size w W' := by
  refine (callsIn_wide (n := 3)).1 ?_
  obtain ⟨i0, hi0, hz0, hz1, hz2⟩ := info_parts info27
  have hcl : (cover lo hi).length ≤ 1048576 := cover_len lo hi h2
  refine callsIn_of_wp_marks Try.func11 rfl trivial ?_ rfl
  simp only [Try.ntmps11, List.size_toArray, List.length_cons, List.length_nil, Nat.reduceAdd, Nat.reduceSub, Array.replicate_succ, Array.replicate_zero, List.push_toArray, List.append_toArray, List.nil_append, List.cons_append]
  gi_wp2
  have bO := Boxed.new w 22 (.slice none 0 0)
  have hB0 : Below w.heap.size w (w.alloc (.cells #[.slice none 0 0] 22)) := (Below.refl _ w).alloc (Nat.le_refl _) _
  refine wpIn_rangeFunc_ownH rfl (by omega) (gf := 12) (lb := #[.pointer (some ⟨Bl, 0, none⟩), .pointer (some ⟨Bh, 0, none⟩)]) rfl trivial (enters_of Try.func12 (by kernel_rfl) rfl)
    (cover_stops (3 - 1) Bl Bh w.heap.size lo hi (by omega) h1 h2 (w.alloc (.cells #[.slice none 0 0] 22)) hBn (by simp) (cell_keep hl hB0) (cell_keep hh hB0)) KT.trans (KT_b (by simp)) (Below.refl _ _) (fun _ => rfl)
    (fun pre W => (∃ v, Boxed W w.heap.size 22 v ∧ W.ownsRow w.heap.size 27 2 v pre.length (flat pre) ∧ (v = .slice none 0 0 ↔ pre = [])) ∧ Below w.heap.size w W)
    (fun _ _ _ => False)
    (OwnFrom.and (Own.from (holdsRow_own w.heap.size w.heap.size 22 27 2 (fun pre => pre.length) (fun pre => flat pre) (fun pre v => v = .slice none 0 0 ↔ pre = [])) _) (ownFrom_below (Nat.le_refl _) (by simp)))
    (fun _ _ _ _ _ hs _ _ => hs)
    ⟨⟨_, bO, World.ownsRow_nil _ _ _ _, by simp⟩, hB0⟩
    (fun x a' W => ∃ Bx, w.heap.size < Bx ∧ IHolds W Bx 27 [.int .i64 (x.1 : Int), .int .i64 (x.2 : Int)] ∧ a' = { tmps := #[.slice none 0 0, .func (.func 12) #[] #[.pointer (some ⟨Bl, 0, none⟩), .pointer (some ⟨Bh, 0, none⟩)], .pointer (some ⟨w.heap.size, 0, none⟩), undef, .slice none 0 0, .pointer (some ⟨Bx, 0, none⟩), .func (.func 12) #[] #[.pointer (some ⟨Bl, 0, none⟩), .pointer (some ⟨Bh, 0, none⟩)], .agg #[.int .i64 (x.1 : Int), .int .i64 (x.2 : Int)], undef, undef, undef, undef, undef], defers := [] })
    ?hAx ?assign ?body ?done ?stop
  case hAx =>
    rintro x a' s A B row ⟨Bx, q1, q2, q3⟩ hg hr
    refine ⟨Bx, q1, (hg.block Bx q2.lt (fun e => ?_)).trans q2, q3⟩
    obtain ⟨_, o, ho, hc⟩ := hr Bx e.symm
    rw [show A.heap[Bx]? = _ from q2] at ho
    cases ho
    cases hc
  case assign =>
    rintro l pre ⟨x1, x2⟩ W K ⟨⟨v, hv, hrow, hnil⟩, hB⟩ hK
    dsimp only [encS]
    have HK : Hid _ := hK
    clear hK
    gi_wp2
    refine HK.out _ _ ((KeepsOthers.alloc _ _).from _) ⟨(Below.refl _ W).alloc hB.size _, Two.alloc _ _⟩ ⟨⟨v, hv.alloc _, hrow.alloc _, hnil⟩, hB.trans ((Below.refl _ W).alloc hB.size _)⟩ ⟨W.heap.size, hv.lt, IHolds.new W 27 [_, _], rfl⟩
  case body =>
    rintro l pre ⟨x1, x2⟩ a' W hlW ⟨r, hr⟩ ⟨⟨v, hv, hrow, hnil⟩, hB⟩ ⟨Bx, hBx, bX, rfl⟩ hlt
    have hc := hv.cell
    have c0 : W.cell? ⟨Bx, 0, none⟩ = some (.int .i64 (x1 : Int)) := bX.cell 0 (by simp)
    have c1 : W.cell? ⟨Bx, 1, none⟩ = some (.int .i64 (x2 : Int)) := bX.cell 1 (by simp)
    have HN : Hid (v = .slice none 0 0 ∨ 1 ≤ pre.length) := by
      by_cases h : pre = []
      · exact Or.inl (hnil.2 h)
      · exact Or.inr (List.length_pos_iff.2 h)
    have HR : Hid (W.ownsRow w.heap.size 27 2 v pre.length (flat pre)) := hrow
    have HB : Hid (Below w.heap.size w W) := hB
    have HV : Hid (Boxed W w.heap.size 22 v) := hv
    have hpl : pre.length < 1048576 := by omega
    clear hrow hB hv hnil bX hr hlt
    gi_wp2_with (gi_at_builtin; refine wpListIn_append_span _ rfl _ _ rfl hi0 hz0 hz1 hz2 rfl (HR.out.alloc _) HN.out ⟨W.heap.size, 0, none⟩ 1 [.int .i64 (x1 : Int), .int .i64 (x2 : Int)] rfl rfl (two_new W _ _) (by simp [Value.oneCell']) (by unfold maxLen; omega) (by omega) (by have := HB.out.size; simp; omega) ?_; intro v' w1 hown' hgrow htwo; obtain ⟨g', cap', rfl⟩ := row_end hown'; obtain ⟨hv1, hv2, hr2, hk2, hb2⟩ := HV.out.appended (by decide) HR.out HB.out.size (Nat.le_refl _) hown' hgrow; have HT : Hid (Two W (w1.setCell ⟨w.heap.size, 0, none⟩ (.slice (some ⟨g', 0, none⟩) (pre.length + 1) cap'))) := ((Two.alloc W _).trans htwo).trans (Two.set hv1 _); have hc1 := hv1.cell; have hf1 := hv1.frozen; have HV2 : Hid _ := hv2; have HR2 : Hid _ := hr2; have HK2 : Hid _ := hk2; have HB2 : Hid _ := hb2; clear hv1 hv2 hr2 hk2 hb2 hown' hgrow htwo)
    exact ⟨HK2.out.from _, ⟨HB2.out, HT.out⟩, ⟨_, HV2.out, by rw [List.length_append, flat_append]; exact HR2.out, by simp⟩, HB.out.trans HB2.out⟩
  case done =>
    rintro D ys W hD rfl ⟨⟨v, hv, hrow, hnil⟩, hB⟩ hK
    have hc := hv.cell
    gi_wp2
    refine ⟨by simp, .inl ⟨_, _, rfl, run_takeDeferred hK, ?_⟩⟩
    exact ⟨_, results_tmp rfl _ _ _, v, rfl, ownsRow_putObj hrow _ hK rfl, hB.trans (belowK_b (w := w) (Nat.le_refl _) W D _ _ (by simp at hD; omega) hK rfl rfl)⟩
  case stop =>
    rintro D c pre W _ _ h _
    exact h.elim
set_option maxHeartbeats 1000000 in
theorem collect7 (w : World) (Bl Bh lo hi : Nat) (h1 : lo ≤ hi) (h2 : hi ≤ 1048576) (hBl : Bl < w.heap.size) (hBn : Bh < w.heap.size) (hl : w.cell? ⟨Bl, 0, none⟩ = some (.int .i64 (lo : Int))) (hh : w.cell? ⟨Bh, 0, none⟩ = some (.int .i64 (hi : Int))) :
    Calls Try.prog 7 #[.func (.func 12) #[] #[.pointer (some ⟨Bl, 0, none⟩), .pointer (some ⟨Bh, 0, none⟩)]] w fun e W' => (∃ a c, e = .returned (.slice a (cover lo hi).length c) ∧ SPL W' a (cover lo hi)) ∧ Below w.heap.size w W' := by
  have HA : Hid (Calls Try.prog 11 #[.slice none 0 0, .func (.func 12) #[] #[.pointer (some ⟨Bl, 0, none⟩), .pointer (some ⟨Bh, 0, none⟩)]] w fun e W' => (∃ a c, e = .returned (.slice a (cover lo hi).length c) ∧ SPL W' a (cover lo hi)) ∧ Below w.heap.size w W') :=
    (appendSeq11 w Bl Bh lo hi h1 h2 hBl hBn hl hh).mono fun e W' ⟨v, he, hr, hb⟩ => by
      obtain ⟨a, c, rfl, hs⟩ := own_spl hr
      exact ⟨⟨a, c, he, hs⟩, hb⟩
  clear hl hh
  go_enter Try.func7, Try.ntmps7
  go_wp2_with (go_at_call 11; refine HA.out.mono ?_; rintro e w1 ⟨⟨a, c, rfl, hs⟩, hB⟩)
  go_ret
  exact ⟨⟨a, c, rfl, hs⟩, hB⟩
set_option maxHeartbeats 1000000 in
theorem cover4_no (w : World) (lo hi : Int) (h : ¬ (0 ≤ lo ∧ lo ≤ hi ∧ hi ≤ 1048576)) : Calls Try.prog 4 #[.int .i64 lo, .int .i64 hi] w fun e w' => e = .returned (.tuple #[.slice none 0 0, .int .i64 4]) ∧ Below w.heap.size w w' := by
  have HR : Hid (Calls Try.prog 6 #[.int .i64 lo, .int .i64 hi, .int .i64 1048576] w fun e w' => e = .returned (.bool false) ∧ w' = w) := within6 w lo hi 1048576 false (decide_eq_false h)
  clear h
  go_enter Try.func4, Try.ntmps4
  go_wp2_with (go_at_call 6; refine HR.out.mono ?_; rintro e w1 ⟨rfl, rfl⟩)
  exact bodyPost_ret (v := .tuple #[.slice none 0 0, .int .i64 4]) (by simp [results, Try.results4, go_sem]) rfl ⟨rfl, Below.refl _ _⟩
set_option maxHeartbeats 1000000 in
theorem cover4_yes (w : World) (lo hi : Nat) (h1 : lo ≤ hi) (h2 : hi ≤ 1048576) : Calls Try.prog 4 #[.int .i64 (lo : Int), .int .i64 (hi : Int)] w fun e w' => (∃ a c, e = .returned (.tuple #[.slice a (cover lo hi).length c, .int .i64 0]) ∧ SPL w' a (cover lo hi)) ∧ Below w.heap.size w w' := by
  have HR : Hid (Calls Try.prog 6 #[.int .i64 (lo : Int), .int .i64 (hi : Int), .int .i64 1048576] w fun e w' => e = .returned (.bool true) ∧ w' = w) := within6 w (lo : Int) (hi : Int) 1048576 true (decide_eq_true (by omega))
  have H8 : Hid (Calls Try.prog 8 #[.int .i64 (lo : Int), .int .i64 (hi : Int)] w fun e w' => e = .returned (.func (.func 12) #[] #[.pointer (some ⟨w.heap.size, 0, none⟩), .pointer (some ⟨w.heap.size + 1, 0, none⟩)]) ∧ w' = (w.alloc (.cells #[.int .i64 (lo : Int)] 3)).alloc (.cells #[.int .i64 (hi : Int)] 3)) := cover8 w lo hi
  generalize hW : (w.alloc (.cells #[.int .i64 (lo : Int)] 3)).alloc (.cells #[.int .i64 (hi : Int)] 3) = W at *
  have hB : Hid (Below w.heap.size w W) := by rw [← hW]; exact ((Below.refl _ w).alloc (Nat.le_refl _) _).alloc (by simp) _
  have H7 : Hid (Calls Try.prog 7 #[.func (.func 12) #[] #[.pointer (some ⟨w.heap.size, 0, none⟩), .pointer (some ⟨w.heap.size + 1, 0, none⟩)]] W fun e W' => (∃ a c, e = .returned (.slice a (cover lo hi).length c) ∧ SPL W' a (cover lo hi)) ∧ Below W.heap.size W W') := by
    have I0 : IHolds W w.heap.size 3 [.int .i64 (lo : Int)] := by rw [← hW]; exact (IHolds.new w 3 [.int .i64 (lo : Int)]).alloc _
    have I1 : IHolds W (w.heap.size + 1) 3 [.int .i64 (hi : Int)] := by
      rw [← hW]
      have := IHolds.new (w.alloc (.cells #[.int .i64 (lo : Int)] 3)) 3 [.int .i64 (hi : Int)]
      rw [World.size_alloc] at this
      exact this
    exact collect7 W _ _ lo hi h1 h2 I0.lt I1.lt (I0.cell 0 (by simp)) (I1.cell 0 (by simp))
  clear hW
  go_enter Try.func4, Try.ntmps4
  go_wp2_with (first
    | (go_at_call 6; refine HR.out.mono ?_; rintro e w1 ⟨rfl, rfl⟩)
    | (go_at_call 8; refine H8.out.mono ?_; rintro e w2 ⟨rfl, rfl⟩)
    | (go_at_call 7; refine H7.out.mono ?_; rintro e w3 ⟨⟨a, c, rfl, hs⟩, hB3⟩))
  exact bodyPost_ret (v := .tuple #[.slice a (cover lo hi).length c, .int .i64 0]) (by simp [results, Try.results4, go_sem]) rfl ⟨⟨a, c, rfl, hs⟩, hB.out.trans (hB3.mono hB.out.size)⟩
end Go.Proofs.Ytejdhcpmmjijjaa
