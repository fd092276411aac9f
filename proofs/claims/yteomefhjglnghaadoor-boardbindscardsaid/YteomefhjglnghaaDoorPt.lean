/- partsOf, whole. -/
import Derived.Test.YteomefhjglnghaaDoorPo
import Derived.Deep.RegionHeld3
set_option linter.unusedSimpArgs false
set_option linter.unusedVariables false
namespace Go.Proofs.YteomefhjglnghaaDoor
open Go.RowKit Go.Shelf Go.PlainAid

attribute [local go_sem] Oper.semAt_some

theorem boxed_from {β : Type} (N B : Nat) (t : TypeId) (v : Value) : OwnFrom (β := β) N (fun _ W => Boxed W B t v) := fun s A A' row hs hg hr => Boxed.kept hs hg (fun e => by
  obtain ⟨_, o, ho, hc⟩ := hr _ e.symm
  rw [show A.heap[B]? = _ from hs] at ho
  cases ho
  cases hc)
theorem zip_snoc' : ∀ (l : List (Nat × Nat)) (ds : List ByteArray) (x : Nat × Nat) (h : l.length < ds.length), (l ++ [x]).zip ds = l.zip ds ++ [(x, ds[l.length])]
  | [], d :: ds, x, _ => by simp
  | p :: l, d :: ds, x, h => by
    have q := zip_snoc' l ds x (by simpa using h)
    simp only [List.cons_append, List.zip_cons_cons, q, List.length_cons, List.getElem_cons_succ]
  | [], [], x, h => by simp at h
  | p :: l, [], x, h => by simp at h
theorem zip_snoc {l : List (Nat × Nat)} {ds : List ByteArray} {k : Nat} {x : Nat × Nat} (hk : k = l.length) (h : k < ds.length) : (l ++ [x]).zip ds = l.zip ds ++ [(x, ds[k])] := by
  subst hk
  exact zip_snoc' l ds x h
theorem cell_far {V : World} {B B' : Nat} {u v : Value} (h : V.cell? ⟨B', 0, none⟩ = some v) (hne : B' ≠ B) : (V.setCell ⟨B, 0, none⟩ u).cell? ⟨B', 0, none⟩ = some v := (World.cell?_of_block (a := ⟨B', 0, none⟩) (Below.heap_setCell _ _ _ _ hne)).trans h
theorem own_none {w : World} {base n c : Nat} {a : Option Addr} {xs : List Value} (h : w.ownsRow base 46 3 (.slice a n c) n xs) : a = none → c = 0 := by
  rintro rfl
  obtain ⟨_, ⟨e, _⟩ | ⟨g, cap, cur, e, _⟩⟩ := h
  · cases e; rfl
  · cases e
theorem pure_from {β : Type} (N : Nat) (p : β → Prop) : OwnFrom N (fun s (_ : World) => p s) := fun s A A' row hs hg hr => hs
set_option maxRecDepth 100000 in
set_option maxHeartbeats 4000000 in
theorem partsOf18n {w : World} {a : Option Addr} {c : Nat} (ds : List ByteArray) (hl : ds.length ≤ 9223372036854775807) (h : SL w a ds) (lo hi : Nat) (h1 : lo ≤ hi) (h2 : hi ≤ 1048576) :
    Calls Tryd.prog 12 #[.int .i64 (lo : Int), .int .i64 (hi : Int), .slice a ds.length c] w fun e w' =>
      ((ds.length = (cover lo hi).length ∧ all32 ds = true ∧ ∃ a' c', e = .returned (.tuple #[.slice a' ds.length c', .bool true]) ∧ PTL w' a' ((cover lo hi).zip ds) ∧ (a' = none → c' = 0)) ∨
       ((ds.length ≠ (cover lo hi).length ∨ all32 ds = false) ∧ ∃ v, e = .returned (.tuple #[v, .bool false]))) ∧ Below w.heap.size w w' := by
  refine (callsIn_wide (n := 3)).1 ?_
  have f13 : Fence.wide.fn 10 := trivial
  have HC : Hid (∀ V, CallsIn Fence.wide (3 - 1) Tryd.prog 10 #[.int .i64 (lo : Int), .int .i64 (hi : Int)] V fun e w' => e = .returned (.func (.func 24) #[] #[.pointer (some ⟨V.heap.size, 0, none⟩), .pointer (some ⟨V.heap.size + 1, 0, none⟩)]) ∧ w' = (V.alloc (.cells #[.int .i64 (lo : Int)] 3)).alloc (.cells #[.int .i64 (hi : Int)] 3)) := fun V => callsIn_wide.2 (cover13 V lo hi)
  have hcl : (cover lo hi).length ≤ 1048576 := cover_len lo hi (by omega)
  refine callsIn_of_wp_marks Tryd.func12 rfl trivial ?_ rfl
  simp only [Tryd.ntmps12, List.size_toArray, List.length_cons, List.length_nil, Nat.reduceAdd, Nat.reduceSub, Array.replicate_succ, Array.replicate_zero, List.push_toArray, List.append_toArray, List.nil_append, List.cons_append]
  gi_wp2_with (gi_at_call 10; refine (HC.out _).mono ?_; rintro e w2 ⟨rfl, rfl⟩)
  generalize hW0 : (((((w.alloc (.cells #[.slice a ds.length c] 22)).alloc (.cells #[.slice none 0 0] 40)).alloc (.cells #[.bool false] 4)).alloc (.cells #[.slice none 0 0] 40)).alloc (.cells #[.int .i64 (lo : Int)] 3)).alloc (.cells #[.int .i64 (hi : Int)] 3) = W0
  have hsz : W0.heap.size = w.heap.size + 6 := by rw [← hW0]; simp
  have hB0 : Below w.heap.size w W0 := by rw [← hW0]; exact ((((((Below.refl _ w).alloc (Nat.le_refl _) _).alloc (by simp) _).alloc (by simp; omega) _).alloc (by simp; omega) _).alloc (by simp; omega) _).alloc (by simp; omega) _
  have bD : Boxed W0 w.heap.size 22 (.slice a ds.length c) := by
    rw [← hW0]
    have := Boxed.new w 22 (.slice a ds.length c)
    exact ((((Boxed.alloc this _).alloc _).alloc _).alloc _).alloc _
  have b6x : Boxed W0 (w.heap.size + 1) 40 (.slice none 0 0) := by
    rw [← hW0]
    have := Boxed.new (w.alloc (.cells #[.slice a ds.length c] 22)) 40 (.slice none 0 0)
    rw [World.size_alloc] at this
    exact (((Boxed.alloc this _).alloc _).alloc _).alloc _
  have b7x : Boxed W0 (w.heap.size + 1 + 1) 4 (.bool false) := by
    rw [← hW0]
    have := Boxed.new ((w.alloc (.cells #[.slice a ds.length c] 22)).alloc (.cells #[.slice none 0 0] 40)) 4 (.bool false)
    rw [World.size_alloc, World.size_alloc] at this
    exact ((Boxed.alloc this _).alloc _).alloc _
  have bO : Boxed W0 (w.heap.size + 1 + 1 + 1) 40 (.slice none 0 0) := by
    rw [← hW0]
    have := Boxed.new (((w.alloc (.cells #[.slice a ds.length c] 22)).alloc (.cells #[.slice none 0 0] 40)).alloc (.cells #[.bool false] 4)) 40 (.slice none 0 0)
    rw [World.size_alloc, World.size_alloc, World.size_alloc] at this
    exact (Boxed.alloc this _).alloc _
  have bL : Boxed W0 (w.heap.size + 1 + 1 + 1 + 1) 3 (.int .i64 (lo : Int)) := by
    rw [← hW0]
    have := Boxed.new ((((w.alloc (.cells #[.slice a ds.length c] 22)).alloc (.cells #[.slice none 0 0] 40)).alloc (.cells #[.bool false] 4)).alloc (.cells #[.slice none 0 0] 40)) 3 (.int .i64 (lo : Int))
    rw [World.size_alloc, World.size_alloc, World.size_alloc, World.size_alloc] at this
    exact Boxed.alloc this _
  have bH : Boxed W0 (w.heap.size + 1 + 1 + 1 + 1 + 1) 3 (.int .i64 (hi : Int)) := by
    rw [← hW0]
    have := Boxed.new (((((w.alloc (.cells #[.slice a ds.length c] 22)).alloc (.cells #[.slice none 0 0] 40)).alloc (.cells #[.bool false] 4)).alloc (.cells #[.slice none 0 0] 40)).alloc (.cells #[.int .i64 (lo : Int)] 3)) 3 (.int .i64 (hi : Int))
    rw [World.size_alloc, World.size_alloc, World.size_alloc, World.size_alloc, World.size_alloc] at this
    exact this
  clear hW0
  refine wpIn_rangeFunc_ownH (α := {p : Nat × Nat // True}) rfl (by omega) (gf := 24) (lb := #[.pointer (some ⟨w.heap.size + 1 + 1 + 1 + 1, 0, none⟩), .pointer (some ⟨w.heap.size + 1 + 1 + 1 + 1 + 1, 0, none⟩)]) rfl trivial (enters_of Tryd.func24 (by kernel_rfl) rfl)
    (cover_stops (Pp := fun _ => True) (3 - 1) _ _ w.heap.size lo hi (by omega) h1 (by omega) (fun p hp => trivial) W0 hB0.size (Boxed.cell bL) bH) KT.trans (KT_b hB0.size) (Below.refl _ _) (fun _ => rfl)
    (fun (pre : List {p : Nat × Nat // True}) W => (∃ v, Boxed W (w.heap.size + 1 + 1 + 1) 40 v ∧ W.ownsRow w.heap.size 46 3 v pre.length (flat3 ((pre.map Subtype.val).zip ds)) ∧ True) ∧ (Boxed W w.heap.size 22 (.slice a ds.length c) ∧ (Boxed W (w.heap.size + 1) 40 (.slice none 0 0) ∧ (Boxed W (w.heap.size + 1 + 1) 4 (.bool false) ∧ (Below w.heap.size w W ∧ (pre.length ≤ ds.length ∧ ∀ i (hh : i < ds.length), i < pre.length → ds[i].size = 32))))))
    (fun cc (pre : List {p : Nat × Nat // True}) W => (cc = .ret ∧ (ds.length < pre.length ∨ all32 ds = false)) ∧ (Boxed W (w.heap.size + 1) 40 (.slice none 0 0) ∧ (Boxed W (w.heap.size + 1 + 1) 4 (.bool false) ∧ Below w.heap.size w W)))
    (OwnFrom.and (Own.from (holdsRow_own (β := List {p : Nat × Nat // True}) w.heap.size (w.heap.size + 1 + 1 + 1) 40 46 3 (fun pre => pre.length) (fun pre => flat3 ((pre.map Subtype.val).zip ds)) (fun _ _ => True)) _) (OwnFrom.and (boxed_from _ _ _ _) (OwnFrom.and (boxed_from _ _ _ _) (OwnFrom.and (boxed_from _ _ _ _) (OwnFrom.and (ownFrom_below (Nat.le_refl _) hB0.size) (pure_from _ (fun pre : List {p : Nat × Nat // True} => pre.length ≤ ds.length ∧ ∀ i (hh : i < ds.length), i < pre.length → ds[i].size = 32)))))))
    (fun cc => OwnFrom.and (pure_from _ (fun pre : List {p : Nat × Nat // True} => cc = .ret ∧ (ds.length < pre.length ∨ all32 ds = false))) (OwnFrom.and (boxed_from _ _ _ _) (OwnFrom.and (boxed_from _ _ _ _) (ownFrom_below (Nat.le_refl _) hB0.size))))
    ⟨⟨_, bO, World.ownsRow_nil _ _ _ _, trivial⟩, bD, b6x, b7x, hB0, by simp, fun i hh q => by simp at q⟩
    (fun x a' W => ∃ Bx, w.heap.size + 3 < Bx ∧ IHolds W Bx 37 [.int .i64 (x.1.1 : Int), .int .i64 (x.1.2 : Int)] ∧ a' = { tmps := #[.int .i64 (lo : Int), .int .i64 (hi : Int), .slice a ds.length c, undef, undef, .pointer (some ⟨w.heap.size, 0, none⟩), .pointer (some ⟨w.heap.size + 1, 0, none⟩), .pointer (some ⟨w.heap.size + 1 + 1, 0, none⟩), .pointer (some ⟨w.heap.size + 1 + 1 + 1, 0, none⟩), .pointer (some ⟨Bx, 0, none⟩), undef, .int .i64 (lo : Int), .int .i64 (hi : Int), .func (.func 24) #[] #[.pointer (some ⟨w.heap.size + 1 + 1 + 1 + 1, 0, none⟩), .pointer (some ⟨w.heap.size + 1 + 1 + 1 + 1 + 1, 0, none⟩)], .agg #[.int .i64 (x.1.1 : Int), .int .i64 (x.1.2 : Int)], undef, undef, undef, undef, undef, undef, undef, undef, undef, undef, undef, undef, undef, undef, undef, undef, undef, undef, undef, undef, undef, undef, undef, undef, undef, undef, undef, undef, undef], defers := [] })
    ?hAx ?assign ?body ?done ?stop
  case hAx =>
    rintro x a' s A B row ⟨Bx, q1, q2, q3⟩ hg hr
    refine ⟨Bx, q1, (hg.block Bx q2.lt (fun e => ?_)).trans q2, q3⟩
    obtain ⟨_, o, ho, hc⟩ := hr Bx e.symm
    rw [show A.heap[Bx]? = _ from q2] at ho
    cases ho
    cases hc
  case assign =>
    rintro l pre ⟨⟨x1, x2⟩, hx⟩ W K ⟨⟨v, hv, hrow, _⟩, hbd, h6, h7, hB, hpp⟩ hK
    dsimp only [encS]
    have HK : Hid _ := hK
    clear hK
    gi_wp2
    refine HK.out _ _ ((KeepsOthers.alloc _ _).from _) ⟨(Below.refl _ W).alloc hB.size _, Two.alloc _ _⟩ ⟨⟨v, Boxed.alloc hv _, hrow.alloc _, trivial⟩, Boxed.alloc hbd _, Boxed.alloc h6 _, Boxed.alloc h7 _, hB.trans ((Below.refl _ W).alloc hB.size _), hpp⟩ ⟨W.heap.size, by have := Boxed.lt hv; omega, IHolds.new W 37 [_, _], rfl⟩
  case body =>
    rintro l pre ⟨⟨x1, x2⟩, hx⟩ a' W hlW ⟨r, hr⟩ ⟨⟨v, hv, hrow, _⟩, hbd, h6, h7, hB, hpl, h32⟩ ⟨Bx, hBx, bX, rfl⟩ hlt
    dsimp only at bX
    have hzl : ((pre.map Subtype.val).zip ds).length = pre.length := by rw [List.length_zip, List.length_map]; omega
    obtain ⟨av, cv, rfl, _⟩ := own_ptl hzl hrow
    have g8 := Boxed.cell hv
    have g5 := Boxed.cell hbd
    have g6 := Boxed.cell h6
    have g7 := Boxed.cell h7
    have f6 := Boxed.frozen h6
    have f7 := Boxed.frozen h7
    obtain ⟨k, hk⟩ : ∃ k, k = pre.length := ⟨_, rfl⟩
    by_cases hkd : k = ds.length
    · have e1 : ((pre.length : Int) == (ds.length : Int)) = true := by simp; omega
      have s6 := Boxed.set (.slice none 0 0) h6
      have t6 : Boxed ((W.setCell ⟨w.heap.size + 1, 0, none⟩ (.slice none 0 0)).setCell ⟨w.heap.size + 1 + 1, 0, none⟩ (.bool false)) (w.heap.size + 1) 40 (.slice none 0 0) := (Below.heap_setCell _ _ _ _ (show w.heap.size + 1 ≠ w.heap.size + 1 + 1 by omega)).trans s6
      have t7 : Boxed ((W.setCell ⟨w.heap.size + 1, 0, none⟩ (.slice none 0 0)).setCell ⟨w.heap.size + 1 + 1, 0, none⟩ (.bool false)) (w.heap.size + 1 + 1) 4 (.bool false) := Boxed.set (.bool false) ((Below.heap_setCell _ _ _ _ (show w.heap.size + 1 + 1 ≠ w.heap.size + 1 by omega)).trans h7)
      have tB : Below w.heap.size w ((W.setCell ⟨w.heap.size + 1, 0, none⟩ (.slice none 0 0)).setCell ⟨w.heap.size + 1 + 1, 0, none⟩ (.bool false)) := (hB.setCell (p := ⟨w.heap.size + 1, 0, none⟩) (by show w.heap.size ≤ w.heap.size + 1; omega) _).setCell (p := ⟨w.heap.size + 1 + 1, 0, none⟩) (by show w.heap.size ≤ w.heap.size + 1 + 1; omega) _
      have T6 : Hid _ := t6
      have T7 : Hid _ := t7
      have TB : Hid _ := tB
      clear t6 t7 tB s6
      gi_wp2
      exact ⟨((KeepsOthers.setCell _ _ _).trans (KeepsOthers.setCell _ _ _)).from _, ⟨rfl, Or.inl (by simp; omega)⟩, T6.out, T7.out, TB.out⟩
    · have e1 : ((pre.length : Int) == (ds.length : Int)) = false := by simp; omega
      have hlt2 : k < ds.length := by omega
      obtain ⟨b, o, rfl, hc0⟩ := h k hlt2
      have hc1 := cell_keep hc0 hB
      have e3 : (pre.length : Int) < (ds.length : Int) := by omega
      have HA : Hid (ds[k].size ≠ 32 → all32 ds = false) := fun hne => by
        unfold all32
        rw [List.all_eq_false]
        exact ⟨ds[k], List.getElem_mem hlt2, by simpa using hne⟩
      have HZ : Hid (∀ x : Nat × Nat, ((pre.map Subtype.val) ++ [x]).zip ds = (pre.map Subtype.val).zip ds ++ [(x, ds[k])]) := fun x => zip_snoc (by rw [List.length_map]; exact hk) hlt2
      have H32 : Hid (ds[k].size = 32 → ∀ i (hh : i < ds.length), i < k + 1 → ds[i].size = 32) := fun q i hh hi => by
        by_cases e : i = k
        · subst e; exact q
        · exact h32 i hh (by omega)
      have hb0 : b < w.heap.size := cell_lt hc0
      generalize ds[k] = s at *
      subst hk
      by_cases hs32 : s.size = 32
      · have e2 : ((s.size : Int) != 32) = false := by rw [hs32]; rfl
        gi_wp2
        refine wpIn_mono (Q := fun e aa ww => match e with | .normal => (?R : Act → World → Prop) aa ww | _ => False) ?here ?next
        case next =>
          intro ex aa ww hh
          cases ex with
          | normal => exact hh
          | _ => exact hh.elim
        case here =>
          refine body18 (n₀ := w.heap.size) (s := s) e3 (by omega) hB.size (by omega) hb0 hv hrow hbd bX hc1 (by omega) ?_
          intro V v' g cap u29 u30 u31 u32 u33 u34 u35 u36 u37 o1 o2 o3 o4 o5 o6 o7
          subst o2
          gi_wp2
          refine ⟨o3.from _, ⟨o4, o5⟩, ⟨_, o6, ?_, trivial⟩, o7 _ _ _ hbd (by omega) (by decide), o7 _ _ _ h6 (by omega) (by decide), o7 _ _ _ h7 (by omega) (by decide), hB.trans o4, by simp; omega, fun i hh q => H32.out hs32 i hh (by simpa using q)⟩
          rw [List.map_append, List.map_cons, List.map_nil, HZ.out, flat3_append, List.length_append]
          exact o1
      · have e2 : ((s.size : Int) != 32) = true := by simp [bne]; omega
        have HAF : Hid _ := HA.out hs32
        have s6 := Boxed.set (.slice none 0 0) h6
        have t6 : Boxed ((W.setCell ⟨w.heap.size + 1, 0, none⟩ (.slice none 0 0)).setCell ⟨w.heap.size + 1 + 1, 0, none⟩ (.bool false)) (w.heap.size + 1) 40 (.slice none 0 0) := (Below.heap_setCell _ _ _ _ (show w.heap.size + 1 ≠ w.heap.size + 1 + 1 by omega)).trans s6
        have t7 : Boxed ((W.setCell ⟨w.heap.size + 1, 0, none⟩ (.slice none 0 0)).setCell ⟨w.heap.size + 1 + 1, 0, none⟩ (.bool false)) (w.heap.size + 1 + 1) 4 (.bool false) := Boxed.set (.bool false) ((Below.heap_setCell _ _ _ _ (show w.heap.size + 1 + 1 ≠ w.heap.size + 1 by omega)).trans h7)
        have tB : Below w.heap.size w ((W.setCell ⟨w.heap.size + 1, 0, none⟩ (.slice none 0 0)).setCell ⟨w.heap.size + 1 + 1, 0, none⟩ (.bool false)) := (hB.setCell (p := ⟨w.heap.size + 1, 0, none⟩) (by show w.heap.size ≤ w.heap.size + 1; omega) _).setCell (p := ⟨w.heap.size + 1 + 1, 0, none⟩) (by show w.heap.size ≤ w.heap.size + 1 + 1; omega) _
        have T6 : Hid _ := t6
        have T7 : Hid _ := t7
        have TB : Hid _ := tB
        clear t6 t7 tB s6
        gi_wp2
        exact ⟨((KeepsOthers.setCell _ _ _).trans (KeepsOthers.setCell _ _ _)).from _, ⟨rfl, Or.inr HAF.out⟩, T6.out, T7.out, TB.out⟩
  case done =>
    rintro D ys W hD hys ⟨⟨v, hv, hrow, _⟩, hbd, h6, h7, hB, hpl, h32⟩ hK
    have hzl : ((ys.map Subtype.val).zip ds).length = ys.length := by rw [List.length_zip, List.length_map]; omega
    obtain ⟨av, cv, rfl, _⟩ := own_ptl hzl hrow
    have HYL : Hid (ys.length = (cover lo hi).length) := by show _ = _; rw [← hys, List.length_map]
    have HYS : Hid _ := hys
    clear hys
    obtain ⟨bb, hbb2⟩ : ∃ bb, ((ys.length : Int) == (ds.length : Int)) = bb := ⟨_, rfl⟩
    have g8 := Boxed.cell hv
    have g5 := Boxed.cell hbd
    have g6 := Boxed.cell h6
    have g7 := Boxed.cell h7
    have f6 := Boxed.frozen h6
    have f7 := Boxed.frozen h7
    have HBB : Hid (((ys.length : Int) == (ds.length : Int)) = bb) := hbb2
    have HH6 : Hid _ := h6
    gi_wp2
    refine wpIn_wide.2 ?_
    refine Code.wp_mono (Q := fun e aa ww => match e with | .normal => (?R2 : Act → World → Prop) aa ww | _ => False) ?next2 ?here2
    case next2 =>
      intro ex aa ww hh
      cases ex with
      | normal => exact hh
      | _ => exact hh.elim
    case here2 =>
      go_region_held3 (fun V => V.cell? ⟨w.heap.size + 1 + 1 + 1, 0, none⟩ = some (.slice av ys.length cv) ∧ V.cell? ⟨w.heap.size, 0, none⟩ = some (.slice a ds.length c))
        (first | exact ⟨g8, g5⟩ | exact ⟨cell_far g8 (by omega), cell_far g5 (by omega)⟩ | exact ⟨cell_far (cell_far g8 (by omega)) (by omega), cell_far (cell_far g5 (by omega)) (by omega)⟩ | fail)
        (fail)
      dsimp only
      have x6 : Boxed ((W.setCell ⟨w.heap.size + 1, 0, none⟩ (.slice av ys.length cv)).setCell ⟨w.heap.size + 1 + 1, 0, none⟩ (.bool bb)).drew (w.heap.size + 1) 40 (.slice av ys.length cv) := (Below.heap_setCell _ _ _ _ (show w.heap.size + 1 ≠ w.heap.size + 1 + 1 by omega)).trans (Boxed.set (.slice av ys.length cv) h6)
      have x7 : Boxed ((W.setCell ⟨w.heap.size + 1, 0, none⟩ (.slice av ys.length cv)).setCell ⟨w.heap.size + 1 + 1, 0, none⟩ (.bool bb)).drew (w.heap.size + 1 + 1) 4 (.bool bb) := Boxed.set (.bool bb) ((Below.heap_setCell _ _ _ _ (show w.heap.size + 1 + 1 ≠ w.heap.size + 1 by omega)).trans h7)
      have xB : Below w.heap.size w ((W.setCell ⟨w.heap.size + 1, 0, none⟩ (.slice av ys.length cv)).setCell ⟨w.heap.size + 1 + 1, 0, none⟩ (.bool bb)).drew := ((hB.setCell (p := ⟨w.heap.size + 1, 0, none⟩) (by show w.heap.size ≤ w.heap.size + 1; omega) _).setCell (p := ⟨w.heap.size + 1 + 1, 0, none⟩) (by show w.heap.size ≤ w.heap.size + 1 + 1; omega) _).drew
      have xr1 := hrow.kept (grownBy_setCell' W (w.heap.size + 1) (.slice av ys.length cv)) (.inr (Boxed.not_row h6 (by decide) hrow).symm)
      have xr2 := xr1.kept (grownBy_setCell' _ (w.heap.size + 1 + 1) (.bool bb)) (.inr (Boxed.not_row (show Boxed (W.setCell ⟨w.heap.size + 1, 0, none⟩ (.slice av ys.length cv)) (w.heap.size + 1 + 1) 4 (.bool false) from (Below.heap_setCell _ _ _ _ (show w.heap.size + 1 + 1 ≠ w.heap.size + 1 by omega)).trans h7) (by decide) xr1).symm)
      have xK : ((W.setCell ⟨w.heap.size + 1, 0, none⟩ (.slice av ys.length cv)).setCell ⟨w.heap.size + 1 + 1, 0, none⟩ (.bool bb)).drew.heap[D]? = some (.deferred (some [])) := ((KeepsOthers.setCell _ _ _).trans (KeepsOthers.setCell _ _ _)).same D _ hK rfl
      have xr : World.ownsRow ((W.setCell ⟨w.heap.size + 1, 0, none⟩ (.slice av ys.length cv)).setCell ⟨w.heap.size + 1 + 1, 0, none⟩ (.bool bb)).drew w.heap.size 46 3 (.slice av ys.length cv) ys.length (flat3 ((ys.map Subtype.val).zip ds)) := xr2
      clear xr1 xr2
      generalize ((W.setCell ⟨w.heap.size + 1, 0, none⟩ (.slice av ys.length cv)).setCell ⟨w.heap.size + 1 + 1, 0, none⟩ (.bool bb)).drew = X at *
      have c6 : (X.putObj D (.deferred none)).cell? ⟨w.heap.size + 1, 0, none⟩ = some (.slice av ys.length cv) := cell_kept (Boxed.cell x6) (grownBy_putObj' _ D (.deferred none)) (fun r e => by cases e; exact ⟨_, xK, rfl⟩)
      have c7 : (X.putObj D (.deferred none)).cell? ⟨w.heap.size + 1 + 1, 0, none⟩ = some (.bool bb) := cell_kept (Boxed.cell x7) (grownBy_putObj' _ D (.deferred none)) (fun r e => by cases e; exact ⟨_, xK, rfl⟩)
      have xb2 : Below w.heap.size w (X.putObj D (.deferred none)) := xB.trans (belowK_b (w := w) (Nat.le_refl _) X D _ _ (by omega) xK rfl rfl)
      have XB2 : Hid _ := xb2
      have XR : Hid _ := ownsRow_putObj xr (.deferred none) xK rfl
      have XC6 : Hid _ := c6
      have XC7 : Hid _ := c7
      clear xb2 xr x6 x7 xB hrow hv hbd h6 h7 g8 g5 g6 g7 f6 f7 c6 c7 hbb2 HH6
      gi_wp2
      refine ⟨by simp, .inl ⟨_, _, rfl, run_takeDeferred xK, ?_⟩⟩
      have e6 := XC6.out
      have e7 := XC7.out
      refine ⟨.tuple #[.slice av ys.length cv, .bool bb], by simp [results, Tryd.results12, go_sem, e6, e7], ?_, XB2.out⟩
      have hyl := HYL.out
      by_cases hq : ys.length = ds.length
      · left
        have hb1 : bb = true := by rw [← HBB.out, hq]; simp
        refine ⟨by omega, ?_, av, cv, by rw [hb1, hq], ?_, own_none XR.out⟩
        · unfold all32
          rw [List.all_eq_true]
          intro p hp
          obtain ⟨i, hi, rfl⟩ := List.getElem_of_mem hp
          simpa using h32 i hi (by omega)
        · have hx := XR.out
          obtain ⟨a9, c9, e9, p9⟩ := own_ptl hzl hx
          cases e9
          rw [HYS.out] at p9
          exact p9
      · right
        have hb1 : bb = false := by rw [← HBB.out]; simp; omega
        exact ⟨Or.inl (by omega), _, by rw [hb1]⟩
  case stop =>
    rintro D cc pre W hD hpre ⟨⟨rfl, hbad⟩, h6, h7, hB⟩ hK
    have c6 : (W.putObj D (.deferred none)).cell? ⟨w.heap.size + 1, 0, none⟩ = some (.slice none 0 0) := cell_kept (Boxed.cell h6) (grownBy_putObj' _ D (.deferred none)) (fun r e => by cases e; exact ⟨_, hK, rfl⟩)
    have c7 : (W.putObj D (.deferred none)).cell? ⟨w.heap.size + 1 + 1, 0, none⟩ = some (.bool false) := cell_kept (Boxed.cell h7) (grownBy_putObj' _ D (.deferred none)) (fun r e => by cases e; exact ⟨_, hK, rfl⟩)
    have hbad' : ds.length ≠ (cover lo hi).length ∨ all32 ds = false := by
      rcases hbad with q | q
      · have := hpre.length_le
        rw [List.length_map] at this
        exact Or.inl (by omega)
      · exact Or.inr q
    gi_wp2
    refine ⟨by simp, .inl ⟨_, _, rfl, run_takeDeferred hK, ?_⟩⟩
    exact ⟨.tuple #[.slice none 0 0, .bool false], by simp [results, Tryd.results12, go_sem, c6, c7], ⟨Or.inr ⟨hbad', _, rfl⟩, hB.trans (belowK_b (w := w) (Nat.le_refl _) W D _ _ (by omega) hK rfl rfl)⟩⟩
theorem partsOf18 {w : World} {a : Option Addr} {c : Nat} (ds : List ByteArray) (hl : ds.length ≤ 1048576) (h : SL w a ds) (lo hi : Nat) (h1 : lo ≤ hi) (h2 : hi ≤ 1048576) :
    Calls Tryd.prog 12 #[.int .i64 (lo : Int), .int .i64 (hi : Int), .slice a ds.length c] w fun e w' =>
      ((ds.length = (cover lo hi).length ∧ all32 ds = true ∧ ∃ a' c', e = .returned (.tuple #[.slice a' ds.length c', .bool true]) ∧ PTL w' a' ((cover lo hi).zip ds)) ∨
       ((ds.length ≠ (cover lo hi).length ∨ all32 ds = false) ∧ ∃ v, e = .returned (.tuple #[v, .bool false]))) ∧ Below w.heap.size w w' :=
  (partsOf18n (c := c) ds (by omega) h lo hi h1 h2).mono fun e w' ⟨hd, hb⟩ => ⟨hd.imp (fun ⟨q1, q2, a', c', q3, q4, _⟩ => ⟨q1, q2, a', c', q3, q4⟩) id, hb⟩
end Go.Proofs.YteomefhjglnghaaDoor
