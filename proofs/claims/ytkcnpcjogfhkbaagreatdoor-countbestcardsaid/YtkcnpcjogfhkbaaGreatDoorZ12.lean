/- What is wrong with a contest; comparing; small functions. The library's slices.Clone and the sort by insertion at this program. Lots: the tags, what stands ahead. What stands ahead; is a number in a list; are two lists the same. -/
import Derived.Test.YtkcnpcjogfhkbaaGreatDoorProg
import Derived.Test.YtkcnpcjogfhkbaaGreatDoorZ09
import Derived.Test.YtkcnpcjogfhkbaaGreatDoorZ10
import Derived.Test.YtkcnpcjogfhkbaaGreatDoorZ11
import Derived.PlainAid
import Derived.Below
import Derived.Lib.ItoaNum
import Derived.Laws.AppendOwn
import Derived.Deep.MidRow
import Derived.Laws.IdiomCopy
import Derived.Deep.RegionWith
import Derived.Deep.RegionHeld
import Derived.Deep.RegionHeld3
import Derived.WalkKit
import Derived.WalkSpells
import Derived.WalkLawsBesides
import Derived.Handy
import Derived.Deep.Draws
import Derived.Deep.QuietTactic
import Derived.BigQuiet
import Derived.Deep.LoopGhost
import Derived.Deep.OwnRows
import Derived.Sort.Walk0
import Derived.OneCell
import Derived.OwnWalk
import Derived.Deep.AppendLies
import Derived.Deep.CutBlock
import Derived.Deep.DeepCutAuto
import Derived.Deep.Cut
import Derived.Ground.Names2Prog
import Derived.Shelf.Slices.Clone
import Derived.Ground.SlsfProg
import Derived.Shelf.SlSortCmp.Insertion
import Derived.Shelf.SlSortCmp.Insertion1
set_option linter.unusedSimpArgs false
set_option linter.unusedVariables false
set_option maxRecDepth 100000
namespace Go.Proofs.YtkcnpcjogfhkbaaGreatDoor.K
open Go.RowKit Go.Deep Go.PlainAid

/-- A contest as a value. -/
def CV (nm : ByteArray) (a : Option Addr) (n c : Nat) (r s m : Int) : Value := .agg #[.string nm, .slice a n c, .int .i64 r, .int .i64 s, .int .i64 m]
theorem cell_lt {w : World} {b o : Nat} {v : Value} (h : w.cell? ⟨b, o, none⟩ = some v) : b < w.heap.size := World.block_lt_of_cell? _ _ h
theorem cell_keep {w w' : World} {b o : Nat} {v : Value} (h : w.cell? ⟨b, o, none⟩ = some v) (hb : Below w.heap.size w w') : w'.cell? ⟨b, o, none⟩ = some v := (World.cell?_of_block (a := ⟨b, o, none⟩) (hb.block b (cell_lt h))).trans h
/-- Block b holds these cells. -/
def IHolds (w : World) (b : Nat) (t : TypeId) (l : List Value) : Prop := w.heap[b]? = some (.cells l.toArray t)
theorem IHolds.lt {w : World} {b : Nat} {t : TypeId} {l : List Value} (h : IHolds w b t l) : b < w.heap.size := (Array.getElem?_eq_some_iff.1 h).1
theorem IHolds.cell {w : World} {b : Nat} {t : TypeId} {l : List Value} (h : IHolds w b t l) (i : Nat) (hi : i < l.length) : w.cell? ⟨b, i, none⟩ = some l[i] := by
  unfold IHolds at h
  simp [World.cell?, h, hi]
theorem IHolds.frozen {w : World} {b : Nat} {t : TypeId} {l : List Value} (h : IHolds w b t l) (i : Nat) : w.frozen? ⟨b, i, none⟩ = false := by
  unfold IHolds at h
  simp [World.frozen?, h]
theorem IHolds.new (w : World) (t : TypeId) (l : List Value) : IHolds (w.alloc (.cells l.toArray t)) w.heap.size t l := by
  show (w.heap.push _)[w.heap.size]? = _
  simp
theorem IHolds.of_below {w w' : World} {b : Nat} {t : TypeId} {l : List Value} (h : IHolds w b t l) (hb : Below w.heap.size w w') : IHolds w' b t l := by
  unfold IHolds; rw [hb.block _ h.lt]; exact h
/-- A list of numbers. -/
def IL (w : World) (a : Option Addr) (l : List Int) : Prop := ∀ i (h : i < l.length), ∃ b o, a = some ⟨b, o, none⟩ ∧ w.cell? ⟨b, o + i, none⟩ = some (.int .i64 l[i])
theorem IL.of_below {w w' : World} {a : Option Addr} {l : List Int} (h : IL w a l) (hb : Below w.heap.size w w') : IL w' a l := by
  intro i hi
  obtain ⟨b, o, e, hc⟩ := h i hi
  exact ⟨b, o, e, cell_keep hc hb⟩
theorem IL.nil (w : World) (a : Option Addr) : IL w a [] := fun i h => by cases h
theorem five {W : World} {b : Nat} {t : TypeId} {x y z u v : Value} (h : IHolds W b t [x, y, z, u, v]) : W.cell? ⟨b, 0, none⟩ = some x ∧ W.cell? ⟨b, 1, none⟩ = some y ∧ W.cell? ⟨b, 2, none⟩ = some z ∧ W.cell? ⟨b, 3, none⟩ = some u ∧ W.cell? ⟨b, 4, none⟩ = some v := ⟨h.cell 0 (by simp), h.cell 1 (by simp), h.cell 2 (by simp), h.cell 3 (by simp), h.cell 4 (by simp)⟩

/-- What is wrong with a contest. -/
noncomputable def wc (n : Nat) (r s : Int) : Int := if (1 ≤ n ∧ n ≤ 12) ∧ (1 ≤ r ∧ r ≤ 4) ∧ (1 ≤ s ∧ s ≤ n) then 0 else 2
theorem noRule17 (r : Int) (w : World) : Calls Tryz.prog 30 #[.int .i64 r] w fun e w' => e = .returned (.bool (decide (¬ (1 ≤ r ∧ r ≤ 4)))) ∧ w' = w := by
  by_cases h1 : r < 1
  · have e : Hid (decide (¬ (1 ≤ r ∧ r ≤ 4)) = true) := decide_eq_true (by omega)
    generalize decide (¬ (1 ≤ r ∧ r ≤ 4)) = q at *
    go_enter Tryz.func30, Tryz.ntmps30
    go_wp2_with fail
    go_ret
    exact ⟨by rw [e.out]; rfl, rfl⟩
  · by_cases h2 : 4 < r
    · have e : Hid (decide (¬ (1 ≤ r ∧ r ≤ 4)) = true) := decide_eq_true (by omega)
      generalize decide (¬ (1 ≤ r ∧ r ≤ 4)) = q at *
      go_enter Tryz.func30, Tryz.ntmps30
      go_wp2_with fail
      go_ret
      exact ⟨by rw [e.out]; rfl, rfl⟩
    · have e : Hid (decide (¬ (1 ≤ r ∧ r ≤ 4)) = false) := decide_eq_false (by omega)
      generalize decide (¬ (1 ≤ r ∧ r ≤ 4)) = q at *
      go_enter Tryz.func30, Tryz.ntmps30
      go_wp2_with fail
      go_ret
      exact ⟨by rw [e.out]; rfl, rfl⟩
set_option maxHeartbeats 1000000 in
theorem wrong9 (nm : ByteArray) (a : Option Addr) (n c : Nat) (r s m : Int) (w : World) : Calls Tryz.prog 18 #[CV nm a n c r s m] w fun e w' => e = .returned (.int .i64 (wc n r s)) ∧ Below w.heap.size w w' := by
  have B : Hid (Below w.heap.size w (w.alloc (.cells #[.string nm, .slice a n c, .int .i64 r, .int .i64 s, .int .i64 m] 24))) := (Below.refl _ _).alloc (Nat.le_refl _) _
  have H17 : Hid (∀ W, Calls Tryz.prog 30 #[.int .i64 r] W fun e w' => e = .returned (.bool (decide (¬ (1 ≤ r ∧ r ≤ 4)))) ∧ w' = W) := noRule17 r
  unfold CV
  by_cases g0 : (n : Int) < 1
  · have e : Hid (wc n r s = 2) := by show _ = _; rw [wc, if_neg (by omega)]
    generalize wc n r s = V at *
    go_enter Tryz.func18, Tryz.ntmps18
    go_wp2_with (first | (go_at_call 30; refine (H17.out _).mono ?_; rintro e w1 ⟨rfl, h1⟩; obtain rfl := h1.symm) | fail)
    go_ret
    exact ⟨by rw [e.out]; rfl, B.out⟩
  by_cases g1 : (12 : Int) < (n : Int)
  · have e : Hid (wc n r s = 2) := by show _ = _; rw [wc, if_neg (by omega)]
    generalize wc n r s = V at *
    go_enter Tryz.func18, Tryz.ntmps18
    go_wp2_with (first | (go_at_call 30; refine (H17.out _).mono ?_; rintro e w1 ⟨rfl, h1⟩; obtain rfl := h1.symm) | fail)
    go_ret
    exact ⟨by rw [e.out]; rfl, B.out⟩
  by_cases g2 : ¬ (1 ≤ r ∧ r ≤ 4)
  · rw [decide_eq_true g2] at H17
    have e : Hid (wc n r s = 2) := by show _ = _; rw [wc, if_neg (by omega)]
    generalize wc n r s = V at *
    go_enter Tryz.func18, Tryz.ntmps18
    go_wp2_with (first | (go_at_call 30; refine (H17.out _).mono ?_; rintro e w1 ⟨rfl, h1⟩; obtain rfl := h1.symm) | fail)
    go_ret
    exact ⟨by rw [e.out]; rfl, B.out⟩
  rw [decide_eq_false g2] at H17
  by_cases g3 : s < 1
  · have e : Hid (wc n r s = 2) := by show _ = _; rw [wc, if_neg (by omega)]
    generalize wc n r s = V at *
    go_enter Tryz.func18, Tryz.ntmps18
    go_wp2_with (first | (go_at_call 30; refine (H17.out _).mono ?_; rintro e w1 ⟨rfl, h1⟩; obtain rfl := h1.symm) | fail)
    go_ret
    exact ⟨by rw [e.out]; rfl, B.out⟩
  by_cases g4 : (n : Int) < s
  · have e : Hid (wc n r s = 2) := by show _ = _; rw [wc, if_neg (by omega)]
    generalize wc n r s = V at *
    go_enter Tryz.func18, Tryz.ntmps18
    go_wp2_with (first | (go_at_call 30; refine (H17.out _).mono ?_; rintro e w1 ⟨rfl, h1⟩; obtain rfl := h1.symm) | fail)
    go_ret
    exact ⟨by rw [e.out]; rfl, B.out⟩
  have e : Hid (wc n r s = 0) := by show _ = _; rw [wc, if_pos (by omega)]
  generalize wc n r s = V at *
  go_enter Tryz.func18, Tryz.ntmps18
  go_wp2_with (first | (go_at_call 30; refine (H17.out _).mono ?_; rintro e w1 ⟨rfl, h1⟩; obtain rfl := h1.symm) | fail)
  go_ret
  exact ⟨by rw [e.out]; rfl, B.out⟩
theorem nan28 (s : ByteArray) (w : World) : Calls Tryz.prog 73 #[.string s] w fun e w' => e = .returned (.bool false) ∧ w' = w := by
  go_enter Tryz.func73, Tryz.ntmps73
  go_wp2_with fail
  go_ret
  exact ⟨by simp, rfl⟩
theorem nan32 (s : Int) (w : World) : Calls Tryz.prog 76 #[.int .i64 s] w fun e w' => e = .returned (.bool false) ∧ w' = w := by
  go_enter Tryz.func76, Tryz.ntmps76
  go_wp2_with fail
  go_ret
  exact ⟨by simp, rfl⟩
/-- What Compare answers. -/
def cmpI (x y : Int) : Int := if x < y then -1 else if y < x then 1 else 0
theorem compare25 (x y : Int) (w : World) : Calls Tryz.prog 54 #[.int .i64 x, .int .i64 y] w fun e w' => e = .returned (.int .i64 (cmpI x y)) ∧ w' = w := by
  have H : Hid (∀ z W, Calls Tryz.prog 76 #[.int .i64 z] W fun e w' => e = .returned (.bool false) ∧ w' = W) := nan32
  unfold cmpI
  by_cases h1 : x < y
  · rw [if_pos h1]
    go_enter Tryz.func54, Tryz.ntmps54
    go_wp2_with (go_at_call 76; refine (H.out _ _).mono ?_; rintro e w1 ⟨rfl, h1⟩; obtain rfl := h1.symm)
    go_ret
    exact ⟨rfl, rfl⟩
  · rw [if_neg h1]
    by_cases h2 : y < x
    · rw [if_pos h2]
      go_enter Tryz.func54, Tryz.ntmps54
      go_wp2_with (go_at_call 76; refine (H.out _ _).mono ?_; rintro e w1 ⟨rfl, h1⟩; obtain rfl := h1.symm)
      go_ret
      exact ⟨rfl, rfl⟩
    · rw [if_neg h2]
      go_enter Tryz.func54, Tryz.ntmps54
      go_wp2_with (go_at_call 76; refine (H.out _ _).mono ?_; rintro e w1 ⟨rfl, h1⟩; obtain rfl := h1.symm)
      go_ret
      exact ⟨rfl, rfl⟩
def cmpS (x y : ByteArray) : Int := if Op.bytesLess x.toList y.toList = true then -1 else if (x.toList == y.toList) = true then 0 else 1
set_option maxHeartbeats 400000 in
theorem compare21 (x y : ByteArray) (w : World) : Calls Tryz.prog 52 #[.string x, .string y] w fun e w' => e = .returned (.int .i64 (cmpS x y)) ∧ w' = w := by
  have H : Hid (∀ z W, Calls Tryz.prog 73 #[.string z] W fun e w' => e = .returned (.bool false) ∧ w' = W) := nan28
  unfold cmpS
  cases h1 : Op.bytesLess x.toList y.toList with
  | true =>
    go_enter Tryz.func52, Tryz.ntmps52
    go_wp2_with (go_at_call 73; refine (H.out _ _).mono ?_; rintro e w1 ⟨rfl, h1⟩; obtain rfl := h1.symm)
    go_ret
    exact ⟨rfl, rfl⟩
  | false =>
    cases h2 : (x.toList == y.toList) with
    | true =>
      have h3 : (!x.toList == y.toList) = false := by rw [h2]; rfl
      go_enter Tryz.func52, Tryz.ntmps52
      go_wp2_with (go_at_call 73; refine (H.out _ _).mono ?_; rintro e w1 ⟨rfl, h1⟩; obtain rfl := h1.symm)
      go_ret
      exact ⟨rfl, rfl⟩
    | false =>
      have h3 : (!x.toList == y.toList) = true := by rw [h2]; rfl
      go_enter Tryz.func52, Tryz.ntmps52
      go_wp2_with (go_at_call 73; refine (H.out _ _).mono ?_; rintro e w1 ⟨rfl, h1⟩; obtain rfl := h1.symm)
      go_ret
      exact ⟨rfl, rfl⟩
theorem bl_eq (x y : List UInt8) : Op.bytesLess x y = Sort.ltStr x y := Go.Proofs.bytesLess_eq x y
theorem cmpS_lt (x y : ByteArray) : decide (cmpS x y < 0) = Sort.ltStr x.toList y.toList := by
  unfold cmpS
  rw [bl_eq]
  cases h : Sort.ltStr x.toList y.toList
  · simp only [Bool.false_eq_true, if_false]
    split <;> rfl
  · rfl
theorem ltStr_eq {x y : List UInt8} (h1 : Sort.ltStr x y = false) : (x == y) = !Sort.ltStr y x := by
  cases h2 : Sort.ltStr y x
  · have := List.le_antisymm (List.not_lt.1 (of_decide_eq_false h2)) (List.not_lt.1 (of_decide_eq_false h1))
    simp [this]
  · by_cases e : x = y
    · subst e
      rw [Sort.swo_ltStr.irrefl] at h2; cases h2
    · simp [e]

theorem y1 {α : Type} {xs : List α} {i : Nat} (h : i < xs.toArray.size) : xs.toArray[i] = xs[i]'(by simpa using h) := List.getElem_toArray h
theorem y2 {α : Type} (a : α) (l : List α) (i : Nat) (h : i + 1 < (a :: l).length) : (a :: l)[i + 1] = l[i]'(by simpa using h) := List.getElem_cons_succ a l i h
theorem y3 {α : Type} (a : α) (l : List α) (h : 0 < (a :: l).length) : (a :: l)[0] = a := List.getElem_cons_zero a l h
theorem y4 {α : Type} {l : List α} {i : Nat} {a : α} : l.toArray.setIfInBounds i a = (l.set i a).toArray := List.setIfInBounds_toArray _ _ _
theorem y5 {α : Type} {x : α} {l : List α} {a : α} : (x :: l).set 0 a = a :: l := List.set_cons_zero
theorem y6 {α : Type} {x : α} {l : List α} {n : Nat} {a : α} : (x :: l).set (n + 1) a = x :: l.set n a := List.set_cons_succ
theorem y7 {α : Type} {xs : Array α} : xs.toList.toArray = xs := Array.toArray_toList
theorem tk {P : Program} {md : Region.Mode} {ops : Array Oper} {Q : Exit → Act → World → Prop} {S : World → Prop} {i : Nat} {oi : Oper} {v : Value} {fuel : Nat} {listed : Array Bool} {a : Act} {w : World} (hi : ops[i]? = some oi)
    (hs : (Region.noSelect ops && (Region.free md ops listed i && (Region.ready md ops listed).contains i)) = true)
    (hQ : ∀ c a w, Q (.panic c) (a.put oi.dst v) w → Q (.panic c) a w) (hw : Region.wanted oi (yielded ops a.tmps) = true) (hy : ∀ w, S w → (execOp a.eval oi).run P w = .ok (.value v) w) (hS : S w)
    (h : wpAnyH P md ops Q S fuel (listed.setIfInBounds i true) (a.put oi.dst v) w) : wpAnyH P md ops Q S (fuel + 1) listed a w := by
  simp only [Bool.and_eq_true] at hs
  exact wpAnyH_take hi hs.1 hs.2.1 hs.2.2 hQ (Or.inl ⟨hw, hy⟩) hS h
theorem own_ne {w : World} {b b' e e' k k' n n' : Nat} {v v' : Value} {xs xs' : List Value} (h : w.ownsRow b e k v n xs) (h' : w.ownsRow b' e' k' v' n' xs') (hne : e ≠ e') : v.ownBlock = none ∨ v.ownBlock ≠ v'.ownBlock := by
  obtain ⟨_, ⟨rfl, _⟩ | ⟨g, cap, cur, rfl, _, hg, _⟩⟩ := h
  · exact .inl rfl
  · obtain ⟨_, ⟨rfl, _⟩ | ⟨g', cap', cur', rfl, _, hg', _⟩⟩ := h'
    · exact .inr (by simp [Value.ownBlock])
    · right
      intro q
      simp only [Value.ownBlock, Option.some.injEq] at q
      subst q
      rw [hg] at hg'
      cases hg'
      exact hne rfl
theorem IHolds.set {w : World} {b : Nat} {t : TypeId} {l : List Value} (h : IHolds w b t l) (i : Nat) (x : Value) : IHolds (w.setCell ⟨b, i, none⟩ x) b t (l.set i x) := by
  unfold IHolds at *
  simp [World.setCell, Array.getElem?_modify, h, List.map_set]
theorem IHolds.far {w w' : World} {row : Option Nat} {b : Nat} {t : TypeId} {l : List Value} (h : IHolds w b t l) (hg : w.grownBy w' row) (hne : some b ≠ row) : IHolds w' b t l := by
  unfold IHolds; rw [hg.block _ h.lt hne]; exact h
theorem IHolds.set_far {w : World} {b c o : Nat} {t : TypeId} {l : List Value} (h : IHolds w b t l) (hne : b ≠ c) (x : Value) : IHolds (w.setCell ⟨c, o, none⟩ x) b t l := by
  unfold IHolds at *
  rw [← h]
  exact Below.heap_setCell _ _ _ _ hne
/-- A row of another type is another block. -/
theorem IHolds.not_row {W : World} {B : Nat} {t e : TypeId} {l : List Value} (h : IHolds W B t l) (hte : t ≠ e) {base size k : Nat} {v : Value} {xs : List Value} (hr : W.ownsRow base e size v k xs) : some B ≠ v.ownBlock := by
  intro q
  obtain ⟨_, ⟨rfl, _⟩ | ⟨g, cap, cur, rfl, _, hg, _⟩⟩ := hr
  · simp [Value.ownBlock] at q
  · simp only [Value.ownBlock, Option.some.injEq] at q
    subst q
    unfold IHolds at h
    rw [h] at hg
    cases hg
    exact hte rfl
theorem own_below {w w' : World} {base n : Nat} {v : Value} {xs : List Value} {e : TypeId} {size : Nat} (h : w.ownsRow base e size v n xs) (hb : Below w.heap.size w w') : w'.ownsRow base e size v n xs := by
  refine ⟨h.1, ?_⟩
  rcases h.2 with hn | ⟨g, cap, cur, hv, hbg, hc, rest⟩
  · exact .inl hn
  · exact .inr ⟨g, cap, cur, hv, hbg, by rw [hb.block g (Array.getElem?_eq_some_iff.1 hc).1]; exact hc, rest⟩
end Go.Proofs.YtkcnpcjogfhkbaaGreatDoor.K
namespace Go.Proofs.YtkcnpcjogfhkbaaGreatDoor.K
open Go.Shelf
def cloneP_ren : Go.Shelf.Ren := ⟨fun | 15 => 74 | n => n, fun | 22 => 26 | 3 => 3 | 4 => 4 | n => n, fun | n => n⟩
theorem cloneP : Go.Proofs.Lays2.n15 Tryz.prog cloneP_ren := {
  mixed := by kernel_rfl
  f15 := Tryz.func74.trans (congrArg some (by kernel_rfl))
  t3 := Tryz.underlying3
  a3 := Tryz.isAgg3
  z3 := Tryz.sizeOf3
  v3 := Tryz.zeroValue3
  t4 := Tryz.underlying4
  a4 := Tryz.isAgg4
  z4 := Tryz.sizeOf4
  v4 := Tryz.zeroValue4
  t22 := Tryz.underlying26
  a22 := Tryz.isAgg26
  z22 := Tryz.sizeOf26
  v22 := Tryz.zeroValue26
  i3 := by kernel_rfl }
open Go.RowKit Go.Lib in
theorem clone30 (b off n c : Nat) (zs : List Int) (w : World) (hz : n ≤ zs.length) (hbig : n * 8 ≤ 140737488355328) (hc : ∀ j, j < zs.length → w.cell? ⟨b, off + j, none⟩ = some (.int .i64 (zs.getD j 0))) :
    Calls Tryz.prog 74 #[.slice (some ⟨b, off, none⟩) n c] w fun e w' => ∃ v', e = .returned v' ∧ w'.ownsRow w.heap.size 3 1 v' n ((zs.take n).map (Value.int .i64)) ∧ v' ≠ .slice none 0 0 ∧ Below w.heap.size w w' := Any.slices_Clone_int cloneP b off n c zs w hz hbig hc
open Go.RowKit Go.Lib in
theorem clone30_nil (n c : Nat) (w : World) :
    Calls Tryz.prog 74 #[.slice none n c] w fun e w' => e = .returned (.slice none 0 0) ∧ w' = w := Any.slices_Clone_int_nil cloneP n c w
open Go.RowKit Go.Lib in
theorem clone30_zero (a : Addr) (c : Nat) (w : World) :
    Calls Tryz.prog 74 #[.slice (some a) 0 c] w fun e w' => ∃ v', e = .returned v' ∧ w'.ownsRow w.heap.size 3 1 v' 0 [] ∧ v' ≠ .slice none 0 0 ∧ Below w.heap.size w w' := Any.slices_Clone_int_zero cloneP a c w
def insP_ren : Go.Shelf.Ren := ⟨fun | 20 => 95 | n => n, fun | 24 => 3 | 22 => 26 | 3 => 3 | 25 => 101 | 4 => 4 | 0 => 0 | n => n, fun | n => n⟩
theorem insP : Go.Proofs.SlLaysF.n20 Tryz.prog insP_ren := {
  mixed := by kernel_rfl
  f20 := ⟨Tryz.f95.name, by decide, Tryz.func95.trans (congrArg some (by kernel_rfl))⟩
  t0 := Tryz.underlying0
  a0 := Tryz.isAgg0
  z0 := Tryz.sizeOf0
  v0 := Tryz.zeroValue0
  t3 := Tryz.underlying3
  a3 := Tryz.isAgg3
  z3 := Tryz.sizeOf3
  v3 := Tryz.zeroValue3
  t4 := Tryz.underlying4
  a4 := Tryz.isAgg4
  z4 := Tryz.sizeOf4
  v4 := Tryz.zeroValue4
  t22 := Tryz.underlying26
  a22 := Tryz.isAgg26
  z22 := Tryz.sizeOf26
  v22 := Tryz.zeroValue26
  a24 := Tryz.isAgg3
  z24 := Tryz.sizeOf3
  t25 := Tryz.underlying101
  a25 := Tryz.isAgg101
  z25 := Tryz.sizeOf101
  v25 := Tryz.zeroValue101 }
open Go.RowKit Go.Lib Go.Sort in
theorem ins36 {α : Type} [Inhabited α] (enc : α → Value) (hO : OneCell enc) (cf : α → α → Int) (g : Nat) (cb : Array Value) (blk off cap a b : Nat) (d : Array α) (w : World) (eg : ∀ args w, (callFunc g args).run Tryz.prog w = .ok (.enter g args) w) (hcmp : CmpReads Tryz.prog g cb enc cf blk off d.size w) (hH : Holds enc w blk off d) (hab : a ≤ b) (hb : b ≤ d.size) (hsz : d.size < 4611686018427387904) :
    Calls Tryz.prog 95 #[.slice (some ⟨blk, off, none⟩) d.size cap, .int .i64 a, .int .i64 b, .func (.func g) #[] cb] w fun e w' =>
      e = .returned (.tuple #[]) ∧ ∃ n, w' = (putRow enc w blk off (Sort.insertionSort (ltOf cf) d a b)).drewN n := Any.insertionSortCmpFunc_one insP enc hO cf g cb blk off cap a b d w eg hcmp hH hab hb hsz
end Go.Proofs.YtkcnpcjogfhkbaaGreatDoor.K
namespace Go.Proofs.YtkcnpcjogfhkbaaGreatDoor.K
open Go.RowKit Go.Deep Go.PlainAid

theorem dB (w : World) : Below w.heap.size w w.drew := (Below.refl _ _).drew
/-- The tag of a label and parts. -/
def tgF (label : ByteArray) (ps : List ByteArray) : ByteArray := ⟨(F.digL (F.hK 0) (F.partsL (label :: ps))).toArray⟩
abbrev lab : ByteArray := ⟨#[108, 111, 116]⟩
/-- An option's lot. -/
def lot (lots nm : ByteArray) (os : List ByteArray) (i : Nat) : ByteArray := tgF lab [lots, nm, os.getD i ⟨#[]⟩]
/-- No text is longer than any memory. -/
structure Fit (lots nm : ByteArray) (os : List ByteArray) : Prop where
  l : lots.size ≤ 140737488355328
  n : nm.size ≤ 140737488355328
  o : ∀ i (h : i < os.length), os[i].size ≤ 140737488355328
theorem three_at (w : World) (s1 s2 s3 : ByteArray) : F.SAt (w.alloc (.cells #[.string s1, .string s2, .string s3] 9)) (some ⟨w.heap.size, 0, none⟩) [s1, s2, s3] := fun i hi => by
  match i, hi with
  | 0, _ => exact ⟨_, _, rfl, by simp⟩
  | 1, _ => exact ⟨_, _, rfl, by simp⟩
  | 2, _ => exact ⟨_, _, rfl, by simp⟩
theorem parts3 {x y z : ByteArray} (hx : x.size ≤ 140737488355328) (hy : y.size ≤ 140737488355328) (hz : z.size ≤ 140737488355328) : (F.partsL (lab :: [x, y, z])).length < 4611686018427387904 := by
  have h1 : x.data.toList.length ≤ 140737488355328 := hx
  have h2 : y.data.toList.length ≤ 140737488355328 := hy
  have h3 : z.data.toList.length ≤ 140737488355328 := hz
  have h5 : (lab.data.toList).length = 3 := rfl
  rw [F.partsL_cons, F.partsL_cons, F.partsL_cons, F.partsL_cons, F.partsL_nil]
  simp only [List.length_append, F.fourL_length, List.length_nil, List.length_cons]
  omega
theorem sz3 {x y z : ByteArray} (hx : x.size ≤ 140737488355328) (hy : y.size ≤ 140737488355328) (hz : z.size ≤ 140737488355328) : ∀ i (h : i < [x, y, z].length), [x, y, z][i].size < 4611686018427387904 := fun i hi => by
  match i, hi with
  | 0, _ => show x.size < _; omega
  | 1, _ => show y.size < _; omega
  | 2, _ => show z.size < _; omega
theorem tagC {x y z : ByteArray} (hx : x.size ≤ 140737488355328) (hy : y.size ≤ 140737488355328) (hz : z.size ≤ 140737488355328) {w : World} (hT : F.Tabs w) (hS : F.Starts w) (b : Nat) (W : World) (hW : Below w.heap.size w W) (h : F.SAt W (some ⟨b, 0, none⟩) [x, y, z]) :
    Calls Tryz.prog 49 #[.string lab, .slice (some ⟨b, 0, none⟩) 3 3] W fun e w' => e = .returned (.string (tgF lab [x, y, z])) ∧ Below W.heap.size W w' :=
  F.tagFace_any lab (some ⟨b, 0, none⟩) 3 [x, y, z] W h (show 3 < _ by decide) (by decide) (sz3 hx hy hz) (Nat.lt_trans (parts3 hx hy hz) (by decide)) (hT.of_below hW hT.size) (hS.of_below hW hT.size)
end Go.Proofs.YtkcnpcjogfhkbaaGreatDoor.K
namespace Go.Proofs.YtkcnpcjogfhkbaaGreatDoor.K
open Go.RowKit Go.Deep Go.PlainAid Go.Sort

/-- Is the lot of the one less? -/
def ltL (lots nm : ByteArray) (os : List ByteArray) (i k : Nat) : Bool := ltStr (lot lots nm os i).toList (lot lots nm os k).toList
theorem ltL_swo (lots nm : ByteArray) (os : List ByteArray) : SWO (ltL lots nm os) where
  irrefl x := swo_ltStr.irrefl _
  trans x y z h1 h2 := swo_ltStr.trans _ _ _ h1 h2
  ntrans x y z h1 h2 := swo_ltStr.ntrans _ _ _ h1 h2
theorem ah_1 {A B : ByteArray} {i k : Nat} (h : Op.bytesLess A.toList B.toList = true) {lt : Nat → Nat → Bool} (e : lt i k = ltStr A.toList B.toList) : lx lt id i k = true := by
  rw [bl_eq] at h; simp [lx, e, h]
theorem ah_2 {A B : ByteArray} {i k : Nat} (h : Op.bytesLess A.toList B.toList = false) (h2 : (A.toList == B.toList) = false) {lt : Nat → Nat → Bool} (e : lt i k = ltStr A.toList B.toList) (e2 : lt k i = ltStr B.toList A.toList) : lx lt id i k = false := by
  rw [bl_eq] at h
  rw [ltStr_eq h] at h2
  simp only [Bool.not_eq_false'] at h2
  simp [lx, e, e2, h, h2]
theorem ah_3 {A B : ByteArray} {i k : Nat} (h : Op.bytesLess A.toList B.toList = false) (h2 : (A.toList == B.toList) = true) {lt : Nat → Nat → Bool} (e : lt i k = ltStr A.toList B.toList) (e2 : lt k i = ltStr B.toList A.toList) : lx lt id i k = decide (i < k) := by
  rw [bl_eq] at h
  rw [ltStr_eq h] at h2
  simp only [Bool.not_eq_true'] at h2
  simp [lx, e, e2, h, h2]
set_option maxHeartbeats 1000000 in
theorem sameInts6 {w : World} {a b : Option Addr} {c d : Nat} (n : Nat) (l : List Int) (hl : l.length = n) (h9 : n ≤ 4096) (h1 : IL w a l) (h2 : IL w b l) :
    Calls Tryz.prog 9 #[.slice a n c, .slice b n d] w fun e w' => e = .returned (.bool true) ∧ Below w.heap.size w w' := by
  have H1 : Hid (IL w a l) := h1
  have H2 : Hid (IL w b l) := h2
  clear h1 h2
  go_enter Tryz.func9, Tryz.ntmps9
  go_wp2_with fail
  go_loopg [5, 13] n (fun gk v5 v13 wr => ∃ i : Nat, i + gk = n ∧ v13 = .int .i64 (i : Int) ∧ Below w.heap.size w wr)
  case atStart => exact ⟨0, by omega, rfl, Below.refl _ _⟩
  case round =>
    obtain ⟨i, hig, rfl, hB⟩ := hrel
    have B : Hid (Below w.heap.size w wr) := hB
    clear hB
    by_cases hi : i < n
    · have il : (i : Int) < (n : Int) := by omega
      have hi2 : i < l.length := by omega
      obtain ⟨b1, o1, rfl, q1⟩ := H1.out.of_below B.out i hi2
      obtain ⟨b2, o2, rfl, q2⟩ := H2.out.of_below B.out i hi2
      generalize l[i] = x at *
      go_wp2_with fail
      go_quiet (fail)
      have BQ : Hid (Below w.heap.size w (World.drewN wr nq)) := B.out.trans ⟨rfl, rfl, rfl, Nat.le_refl _, fun _ _ => rfl⟩
      clear q1 q2
      generalize World.drewN wr nq = wq at *
      go_wp2_with fail
      go_roundg (gk - 1)
      case measure => omega
      case rel => exact ⟨i + 1, by omega, by go_num, BQ.out⟩
    · have il : ¬ (i : Int) < (n : Int) := by omega
      go_wp2_with fail
      go_ret
      exact ⟨rfl, B.out⟩
end Go.Proofs.YtkcnpcjogfhkbaaGreatDoor.K
