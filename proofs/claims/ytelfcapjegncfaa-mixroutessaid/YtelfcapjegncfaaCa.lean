/- slices.Grow and slices.Concat. -/
import Derived.Test.YtelfcapjegncfaaBa
import Derived.Shelf.Spec.SlicesGrow
set_option linter.unusedSimpArgs false
set_option linter.unusedVariables false
set_option maxRecDepth 100000
namespace Go.Proofs.Ytelfcapjegncfaa
open Go.Shelf Go.RowKit Go.Lib Go.Deep Go.PlainAid

def grow31_ren : Go.Shelf.Ren := ⟨fun | 4 => 31 | n => n, fun | 22 => 23 | 25 => 28 | 3 => 3 | 4 => 4 | 9 => 9 | 20 => 20 | 0 => 0 | n => n, fun | n => n⟩
theorem growP31 : Go.Proofs.Lays8.n4 Try.prog grow31_ren := {
  mixed := by kernel_rfl
  f4 := ⟨Try.f31.name, by decide, Try.func31.trans (congrArg some (by kernel_rfl))⟩
  t0 := Try.underlying0
  a0 := Try.isAgg0
  z0 := Try.sizeOf0
  v0 := Try.zeroValue0
  t3 := Try.underlying3
  a3 := Try.isAgg3
  z3 := Try.sizeOf3
  v3 := Try.zeroValue3
  t4 := Try.underlying4
  a4 := Try.isAgg4
  z4 := Try.sizeOf4
  v4 := Try.zeroValue4
  t9 := Try.underlying9
  a9 := Try.isAgg9
  z9 := Try.sizeOf9
  v9 := Try.zeroValue9
  t20 := Try.underlying20
  a20 := Try.isAgg20
  z20 := Try.sizeOf20
  v20 := Try.zeroValue20
  t22 := Try.underlying23
  a22 := Try.isAgg23
  z22 := Try.sizeOf23
  v22 := Try.zeroValue23 }
theorem grow31 (n : Nat) (hn : n ≤ 4194304) (w : World) : Calls Try.prog 31 #[.slice none 0 0, .int .i64 (n : Int)] w fun e w' => (∃ v, e = .returned v ∧ w'.ownsRow w.heap.size 28 2 v 0 []) ∧ Below w.heap.size w w' := by
  by_cases h0 : n = 0
  · subst h0
    exact (Any8.slices_Grow_room growP31 none 0 0 0 w (by omega) (by omega) (by omega) (by omega)).mono fun e w' ⟨he, hw⟩ => ⟨⟨_, he, by rw [hw]; exact World.ownsRow_nil _ _ _ _⟩, by rw [hw]; exact Below.refl _ _⟩
  · obtain ⟨i0, hi0, hz0, hz1, hz2⟩ := info_parts info28
    refine (Any8.slices_Grow_grow growP31 i0 _ hi0 hz0 (by rw [hz1]; omega) none 0 0 n [] w (by omega) (by omega) (by rw [hz2]; omega) (by omega) (by simp) (fun _ => rfl) (fun a q => by cases q)).mono fun e w' ⟨he, hw⟩ => ⟨⟨_, he, ?_⟩, ?_⟩
    · rw [hw]
      have hge := grownCap_ge w (0 + n) 0 (grow31_ren.t 25)
      refine World.ownsRow_made w.drew _ _ (Nat.le_refl _) (grownCap_le_maxLen w (0 + n) 0 _ (by unfold maxLen; omega)) ?_
      generalize grownCap w (0 + n) 0 (grow31_ren.t 25) = G at *
      simp only [Array.size_append, size_zeroCells, Value.cells, List.size_toArray, List.length_nil]
      simp
      omega
    · rw [hw]
      exact (Below.refl _ w).drew.alloc (Nat.le_refl _) _
def grow30_ren : Go.Shelf.Ren := ⟨fun | 4 => 30 | n => n, fun | 22 => 22 | 25 => 4 | 3 => 3 | 4 => 4 | 9 => 9 | 20 => 20 | 0 => 0 | n => n, fun | n => n⟩
theorem growP30 : Go.Proofs.Lays8.n4 Try.prog grow30_ren := {
  mixed := by kernel_rfl
  f4 := ⟨Try.f30.name, by decide, Try.func30.trans (congrArg some (by kernel_rfl))⟩
  t0 := Try.underlying0
  a0 := Try.isAgg0
  z0 := Try.sizeOf0
  v0 := Try.zeroValue0
  t3 := Try.underlying3
  a3 := Try.isAgg3
  z3 := Try.sizeOf3
  v3 := Try.zeroValue3
  t4 := Try.underlying4
  a4 := Try.isAgg4
  z4 := Try.sizeOf4
  v4 := Try.zeroValue4
  t9 := Try.underlying9
  a9 := Try.isAgg9
  z9 := Try.sizeOf9
  v9 := Try.zeroValue9
  t20 := Try.underlying20
  a20 := Try.isAgg20
  z20 := Try.sizeOf20
  v20 := Try.zeroValue20
  t22 := Try.underlying22
  a22 := Try.isAgg22
  z22 := Try.sizeOf22
  v22 := Try.zeroValue22 }
theorem grow30 (n : Nat) (hn : n ≤ 4194304) (w : World) : Calls Try.prog 30 #[.slice none 0 0, .int .i64 (n : Int)] w fun e w' => (∃ v, e = .returned v ∧ w'.ownsRow w.heap.size 4 1 v 0 []) ∧ Below w.heap.size w w' := by
  by_cases h0 : n = 0
  · subst h0
    exact (Any8.slices_Grow_room growP30 none 0 0 0 w (by omega) (by omega) (by omega) (by omega)).mono fun e w' ⟨he, hw⟩ => ⟨⟨_, he, by rw [hw]; exact World.ownsRow_nil _ _ _ _⟩, by rw [hw]; exact Below.refl _ _⟩
  · obtain ⟨i0, hi0, hz0, hz1, hz2⟩ := info_parts info4
    refine (Any8.slices_Grow_grow growP30 i0 _ hi0 hz0 (by rw [hz1]; omega) none 0 0 n [] w (by omega) (by omega) (by rw [hz2]; omega) (by omega) (by simp) (fun _ => rfl) (fun a q => by cases q)).mono fun e w' ⟨he, hw⟩ => ⟨⟨_, he, ?_⟩, ?_⟩
    · rw [hw]
      have hge := grownCap_ge w (0 + n) 0 (grow30_ren.t 25)
      refine World.ownsRow_made w.drew _ _ (Nat.le_refl _) (grownCap_le_maxLen w (0 + n) 0 _ (by unfold maxLen; omega)) ?_
      generalize grownCap w (0 + n) 0 (grow30_ren.t 25) = G at *
      simp only [Array.size_append, size_zeroCells, Value.cells, List.size_toArray, List.length_nil]
      simp
      omega
    · rw [hw]
      exact (Below.refl _ w).drew.alloc (Nat.le_refl _) _

/-- A part: where it lies, its room, how many, its cells. -/
abbrev S4 := Option Addr × Nat × Nat × List Value
def cat (L : List S4) : List Value := (L.map (fun x => x.2.2.2)).flatten
def cnum (L : List S4) : Nat := (L.map (fun x => x.2.2.1)).sum
theorem cat_take {L : List S4} {i : Nat} (h : i < L.length) : cat (L.take (i + 1)) = cat (L.take i) ++ L[i].2.2.2 := by
  unfold cat
  rw [List.take_succ_eq_append_getElem h, List.map_append, List.flatten_append]
  simp
theorem cnum_take {L : List S4} {i : Nat} (h : i < L.length) : cnum (L.take (i + 1)) = cnum (L.take i) + L[i].2.2.1 := by
  unfold cnum
  rw [List.take_succ_eq_append_getElem h, List.map_append, List.sum_append]
  simp
theorem cnum_len (L : List S4) (h : ∀ x ∈ L, x.2.2.1 ≤ 65536) : cnum L ≤ L.length * 65536 := by
  induction L with
  | nil => simp [cnum]
  | cons x L ih =>
    have := h x (by simp)
    have := ih (fun y hy => h y (by simp [hy]))
    unfold cnum at *
    simp only [List.map_cons, List.sum_cons, List.length_cons]
    omega
/-- A part lies in memory: of elements of k cells. -/
structure PT (w : World) (k : Nat) (x : S4) : Prop where
  vl : VL w x.1 x.2.2.2
  len : x.2.2.2.length = x.2.2.1 * k
  none : x.1 = none → x.2.1 = 0
  le : x.2.2.1 ≤ 65536
  one : ∀ u ∈ x.2.2.2, u.oneCell' = true
theorem PT.of_below {w w' : World} {k : Nat} {x : S4} (h : PT w k x) (hb : Below w.heap.size w w') : PT w' k x := ⟨h.vl.of_below hb, h.len, h.none, h.le, h.one⟩

set_option maxHeartbeats 2000000 in
theorem concat28 {w : World} {bC : Nat} {L : List S4} {cc : Nat} (hL : L.length = 4) (I : ∀ i (h : i < L.length), w.cell? ⟨bC, i, none⟩ = some (.slice L[i].1 L[i].2.2.1 L[i].2.1)) (hp : ∀ i (h : i < L.length), PT w 2 L[i]) :
    Calls Try.prog 28 #[.slice (some ⟨bC, 0, none⟩) 4 cc] w fun e w' => (∃ v, e = .returned v ∧ w'.ownsRow w.heap.size 28 2 v (cnum L) (cat L)) ∧ Below w.heap.size w w' := by
  have HI : Hid (∀ i (h : i < L.length), w.cell? ⟨bC, i, none⟩ = some (.slice L[i].1 L[i].2.2.1 L[i].2.1)) := I
  have HP : Hid (∀ i (h : i < L.length), PT w 2 L[i]) := hp
  have HS : Hid (∀ x ∈ L, x.2.2.1 ≤ 65536) := fun x hx => by
    obtain ⟨i, hi, rfl⟩ := List.getElem_of_mem hx
    exact (hp i hi).le
  have HL : Hid (L.length = 4) := hL
  have HG : Hid (∀ (n : Nat), n ≤ 4194304 → Calls Try.prog 31 #[.slice none 0 0, .int .i64 (n : Int)] w fun e w' => (∃ v, e = .returned v ∧ w'.ownsRow w.heap.size 28 2 v 0 []) ∧ Below w.heap.size w w') := fun n h => grow31 n h w
  obtain ⟨i0, hi0, hz0, hz1, hz2⟩ := info_parts info28
  clear I hp hL
  go_enter Try.func28, Try.ntmps28
  go_wp2_with fail
  go_loopg [3, 5, 11] 4 (fun gk v3 v5 v11 wr => ∃ i t : Nat, i + gk = 4 ∧ v11 = .int .i64 (i : Int) ∧ v3 = .int .i64 (t : Int) ∧ t ≤ i * 65536 ∧ wr = w)
  case atStart => exact ⟨0, 0, by omega, rfl, rfl, by omega, rfl⟩
  case round =>
    obtain ⟨i, t, hig, rfl, rfl, ht, rfl⟩ := hrel
    by_cases hi : i < 4
    · have il : (i : Int) < 4 := by omega
      have hiL : i < L.length := by rw [HL.out]; exact hi
      have q1 := HI.out i hiL
      have q2 := HS.out L[i] (List.getElem_mem hiL)
      generalize L[i] = x at *
      obtain ⟨xa, xc, xn, xl⟩ := x
      dsimp only at q1 q2
      obtain ⟨t2, ht2⟩ : ∃ t2, t2 = t + xn := ⟨_, rfl⟩
      have kt : (t : Int) + (xn : Int) = (t2 : Int) := by omega
      have kt2 : ¬ (t2 : Int) < 0 := by omega
      have HT2 : Hid (t2 ≤ (i + 1) * 65536) := by show _ ≤ _; omega
      have hb : t2 ≤ 4194304 := by omega
      clear ht2
      go_wp2_with fail
      go_roundg (gk - 1)
      case measure => omega
      case rel => exact ⟨i + 1, t2, by omega, by go_num, rfl, HT2.out, rfl⟩
    · have il : ¬ (i : Int) < 4 := by omega
      have ht4 : t ≤ 4194304 := by omega
      go_wp2_with (go_at_call 31; refine (HG.out t ht4).mono ?_; rintro e w1 ⟨⟨v6, rfl, hO⟩, hB⟩; have O1 : Hid (w1.ownsRow wr.heap.size 28 2 v6 0 []) := hO; have B1 : Hid (Below wr.heap.size wr w1) := hB; clear hO hB)
      obtain ⟨W, rfl⟩ : ∃ W, W = wr := ⟨wr, rfl⟩
      go_loopg [6, 8, 27] 4 (fun gk v6 v8 v27 wr => ∃ i : Nat, i + gk = 4 ∧ v27 = .int .i64 (i : Int) ∧ wr.ownsRow W.heap.size 28 2 v6 (cnum (L.take i)) (cat (L.take i)) ∧ Below W.heap.size W wr)
      case atStart => exact ⟨0, by omega, rfl, O1.out, B1.out⟩
      case round =>
        obtain ⟨i, hig, rfl, hO, hB⟩ := hrel
        have B : Hid (Below W.heap.size W wr) := hB
        have O : Hid (wr.ownsRow W.heap.size 28 2 u6 (cnum (L.take i)) (cat (L.take i))) := hO
        clear hO hB O1 B1
        by_cases hi : i < 4
        · have il : (i : Int) < 4 := by omega
          have hiL : i < L.length := by rw [HL.out]; exact hi
          have q1 := cell_keep (HI.out i hiL) B.out
          have q2 := HS.out L[i] (List.getElem_mem hiL)
          have hp1 := (HP.out i hiL).of_below B.out
          have HC : Hid (cat (L.take (i + 1)) = cat (L.take i) ++ L[i].2.2.2) := cat_take hiL
          have HN : Hid (cnum (L.take (i + 1)) = cnum (L.take i) + L[i].2.2.1) := cnum_take hiL
          have hcl : cnum (L.take i) ≤ 262144 := by
            have := cnum_len (L.take i) (fun x hx => HS.out x (List.mem_of_mem_take hx))
            rw [List.length_take] at this
            omega
          generalize L[i] = x at *
          obtain ⟨xa, xc, xn, xl⟩ := x
          dsimp only at q1 q2 HC HN
          obtain ⟨p1, p2, p3, _, p5⟩ := hp1
          dsimp only at p1 p2 p3 p5
          generalize cat (L.take i) = C at *
          generalize cnum (L.take i) = m at *
          cases xa with
          | none =>
            obtain rfl := p1.none_nil
            obtain rfl := p3 rfl
            have hx0 : xn = 0 := by simp at p2; omega
            subst hx0
            clear p1 p2 p3 p5
            obtain ⟨hv, hn0⟩ | ⟨g, cap, cur, hv, _, _, hcap, _⟩ := O.out.2
            · subst hv
              go_wp2_with fail
              go_roundg (gk - 1)
              case measure => omega
              case rel => exact ⟨i + 1, by omega, by go_num, by rw [HC.out, HN.out, List.append_nil]; exact O.out, B.out⟩
            · subst hv
              go_wp2_with fail
              go_roundg (gk - 1)
              case measure => omega
              case rel => exact ⟨i + 1, by omega, by go_num, by rw [HC.out, HN.out, List.append_nil]; exact O.out, B.out⟩
          | some ad =>
            have HP1 : Hid (VL wr (some ad) xl) := p1
            have HP2 : Hid (xl.length = xn * 2) := p2
            have HP5 : Hid (∀ u ∈ xl, u.oneCell' = true) := p5
            clear p1 p2 p3 p5
            go_wp2_with (at_builtin; refine wpList_append_own _ rfl (.tmp 31) (.tmp 32) 23 rfl W.heap.size 28 i0 (.agg #[.int .i64 0, .int .i64 0]) 2 16 Try.underlying23 hi0 hz0 hz1 hz2 rfl (by decide) u6 m C rfl O.out ad xn xc xl rfl HP2.out (HP1.out.cellsA) HP5.out (by unfold maxLen; omega) (by omega) B.out.size ?_; intro v5 w5 hown hgrow hn; have O5 : Hid (w5.ownsRow W.heap.size 28 2 v5 (m + xn) (C ++ xl)) := hown; have B5 : Hid (Below W.heap.size W w5) := B.out.grown hgrow B.out.size (fun k hk => (O.out.lt k hk).1); clear hown hgrow hn)
            go_roundg (gk - 1)
            case measure => omega
            case rel => exact ⟨i + 1, by omega, by go_num, by rw [HC.out, HN.out]; exact O5.out, B5.out⟩
        · have il : ¬ (i : Int) < 4 := by omega
          have e3 : L.take i = L := List.take_of_length_le (by rw [HL.out]; omega)
          rw [e3] at O
          clear e3
          go_wp2_with fail
          go_ret
          exact ⟨⟨_, rfl, O.out⟩, B.out⟩

set_option maxHeartbeats 2000000 in
theorem concat26 {w : World} {bC : Nat} {L : List S4} {cc : Nat} (hL : L.length = 4) (I : ∀ i (h : i < L.length), w.cell? ⟨bC, i, none⟩ = some (.slice L[i].1 L[i].2.2.1 L[i].2.1)) (hp : ∀ i (h : i < L.length), PT w 1 L[i]) :
    Calls Try.prog 26 #[.slice (some ⟨bC, 0, none⟩) 4 cc] w fun e w' => (∃ v, e = .returned v ∧ w'.ownsRow w.heap.size 4 1 v (cnum L) (cat L)) ∧ Below w.heap.size w w' := by
  have HI : Hid (∀ i (h : i < L.length), w.cell? ⟨bC, i, none⟩ = some (.slice L[i].1 L[i].2.2.1 L[i].2.1)) := I
  have HP : Hid (∀ i (h : i < L.length), PT w 1 L[i]) := hp
  have HS : Hid (∀ x ∈ L, x.2.2.1 ≤ 65536) := fun x hx => by
    obtain ⟨i, hi, rfl⟩ := List.getElem_of_mem hx
    exact (hp i hi).le
  have HL : Hid (L.length = 4) := hL
  have HG : Hid (∀ (n : Nat), n ≤ 4194304 → Calls Try.prog 30 #[.slice none 0 0, .int .i64 (n : Int)] w fun e w' => (∃ v, e = .returned v ∧ w'.ownsRow w.heap.size 4 1 v 0 []) ∧ Below w.heap.size w w') := fun n h => grow30 n h w
  obtain ⟨i0, hi0, hz0, hz1, hz2⟩ := info_parts info4
  clear I hp hL
  go_enter Try.func26, Try.ntmps26
  go_wp2_with fail
  go_loopg [3, 5, 11] 4 (fun gk v3 v5 v11 wr => ∃ i t : Nat, i + gk = 4 ∧ v11 = .int .i64 (i : Int) ∧ v3 = .int .i64 (t : Int) ∧ t ≤ i * 65536 ∧ wr = w)
  case atStart => exact ⟨0, 0, by omega, rfl, rfl, by omega, rfl⟩
  case round =>
    obtain ⟨i, t, hig, rfl, rfl, ht, rfl⟩ := hrel
    by_cases hi : i < 4
    · have il : (i : Int) < 4 := by omega
      have hiL : i < L.length := by rw [HL.out]; exact hi
      have q1 := HI.out i hiL
      have q2 := HS.out L[i] (List.getElem_mem hiL)
      generalize L[i] = x at *
      obtain ⟨xa, xc, xn, xl⟩ := x
      dsimp only at q1 q2
      obtain ⟨t2, ht2⟩ : ∃ t2, t2 = t + xn := ⟨_, rfl⟩
      have kt : (t : Int) + (xn : Int) = (t2 : Int) := by omega
      have kt2 : ¬ (t2 : Int) < 0 := by omega
      have HT2 : Hid (t2 ≤ (i + 1) * 65536) := by show _ ≤ _; omega
      have hb : t2 ≤ 4194304 := by omega
      clear ht2
      go_wp2_with fail
      go_roundg (gk - 1)
      case measure => omega
      case rel => exact ⟨i + 1, t2, by omega, by go_num, rfl, HT2.out, rfl⟩
    · have il : ¬ (i : Int) < 4 := by omega
      have ht4 : t ≤ 4194304 := by omega
      go_wp2_with (go_at_call 30; refine (HG.out t ht4).mono ?_; rintro e w1 ⟨⟨v6, rfl, hO⟩, hB⟩; have O1 : Hid (w1.ownsRow wr.heap.size 4 1 v6 0 []) := hO; have B1 : Hid (Below wr.heap.size wr w1) := hB; clear hO hB)
      obtain ⟨W, rfl⟩ : ∃ W, W = wr := ⟨wr, rfl⟩
      go_loopg [6, 8, 27] 4 (fun gk v6 v8 v27 wr => ∃ i : Nat, i + gk = 4 ∧ v27 = .int .i64 (i : Int) ∧ wr.ownsRow W.heap.size 4 1 v6 (cnum (L.take i)) (cat (L.take i)) ∧ Below W.heap.size W wr)
      case atStart => exact ⟨0, by omega, rfl, O1.out, B1.out⟩
      case round =>
        obtain ⟨i, hig, rfl, hO, hB⟩ := hrel
        have B : Hid (Below W.heap.size W wr) := hB
        have O : Hid (wr.ownsRow W.heap.size 4 1 u6 (cnum (L.take i)) (cat (L.take i))) := hO
        clear hO hB O1 B1
        by_cases hi : i < 4
        · have il : (i : Int) < 4 := by omega
          have hiL : i < L.length := by rw [HL.out]; exact hi
          have q1 := cell_keep (HI.out i hiL) B.out
          have q2 := HS.out L[i] (List.getElem_mem hiL)
          have hp1 := (HP.out i hiL).of_below B.out
          have HC : Hid (cat (L.take (i + 1)) = cat (L.take i) ++ L[i].2.2.2) := cat_take hiL
          have HN : Hid (cnum (L.take (i + 1)) = cnum (L.take i) + L[i].2.2.1) := cnum_take hiL
          have hcl : cnum (L.take i) ≤ 262144 := by
            have := cnum_len (L.take i) (fun x hx => HS.out x (List.mem_of_mem_take hx))
            rw [List.length_take] at this
            omega
          generalize L[i] = x at *
          obtain ⟨xa, xc, xn, xl⟩ := x
          dsimp only at q1 q2 HC HN
          obtain ⟨p1, p2, p3, _, p5⟩ := hp1
          dsimp only at p1 p2 p3 p5
          generalize cat (L.take i) = C at *
          generalize cnum (L.take i) = m at *
          cases xa with
          | none =>
            obtain rfl := p1.none_nil
            obtain rfl := p3 rfl
            have hx0 : xn = 0 := by simp at p2; omega
            subst hx0
            clear p1 p2 p3 p5
            obtain ⟨hv, hn0⟩ | ⟨g, cap, cur, hv, _, _, hcap, _⟩ := O.out.2
            · subst hv
              go_wp2_with fail
              go_roundg (gk - 1)
              case measure => omega
              case rel => exact ⟨i + 1, by omega, by go_num, by rw [HC.out, HN.out, List.append_nil]; exact O.out, B.out⟩
            · subst hv
              go_wp2_with fail
              go_roundg (gk - 1)
              case measure => omega
              case rel => exact ⟨i + 1, by omega, by go_num, by rw [HC.out, HN.out, List.append_nil]; exact O.out, B.out⟩
          | some ad =>
            have HP1 : Hid (VL wr (some ad) xl) := p1
            have HP2 : Hid (xl.length = xn * 1) := p2
            have HP5 : Hid (∀ u ∈ xl, u.oneCell' = true) := p5
            clear p1 p2 p3 p5
            go_wp2_with (at_builtin; refine wpList_append_own _ rfl (.tmp 31) (.tmp 32) 22 rfl W.heap.size 4 i0 (.bool false) 1 1 Try.underlying22 hi0 hz0 hz1 hz2 rfl (by decide) u6 m C rfl O.out ad xn xc xl rfl HP2.out (HP1.out.cellsA) HP5.out (by unfold maxLen; omega) (by omega) B.out.size ?_; intro v5 w5 hown hgrow hn; have O5 : Hid (w5.ownsRow W.heap.size 4 1 v5 (m + xn) (C ++ xl)) := hown; have B5 : Hid (Below W.heap.size W w5) := B.out.grown hgrow B.out.size (fun k hk => (O.out.lt k hk).1); clear hown hgrow hn)
            go_roundg (gk - 1)
            case measure => omega
            case rel => exact ⟨i + 1, by omega, by go_num, by rw [HC.out, HN.out]; exact O5.out, B5.out⟩
        · have il : ¬ (i : Int) < 4 := by omega
          have e3 : L.take i = L := List.take_of_length_le (by rw [HL.out]; omega)
          rw [e3] at O
          clear e3
          go_wp2_with fail
          go_ret
          exact ⟨⟨_, rfl, O.out⟩, B.out⟩
end Go.Proofs.Ytelfcapjegncfaa
