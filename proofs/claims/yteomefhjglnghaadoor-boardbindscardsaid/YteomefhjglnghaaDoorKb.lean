/- The library's slices.Grow at this program. -/
import Derived.Shelf.Spec.SlicesGrow
import Derived.Test.YteomefhjglnghaaDoorMj
set_option linter.unusedSimpArgs false
set_option linter.unusedVariables false
set_option maxRecDepth 100000
namespace Go.Proofs.YteomefhjglnghaaDoor
open Go.Shelf Go.RowKit Go.Lib Go.PlainAid
def growP_ren : Go.Shelf.Ren := ⟨fun | 4 => 30 | n => n, fun | 22 => 40 | 25 => 46 | 3 => 3 | 4 => 4 | 9 => 9 | 20 => 20 | 0 => 0 | n => n, fun | n => n⟩
theorem growP : Go.Proofs.Lays8.n4 Tryd.prog growP_ren := {
  mixed := by kernel_rfl
  f4 := ⟨Tryd.f30.name, by decide, Tryd.func30.trans (congrArg some (by kernel_rfl))⟩
  t0 := Tryd.underlying0
  a0 := Tryd.isAgg0
  z0 := Tryd.sizeOf0
  v0 := Tryd.zeroValue0
  t3 := Tryd.underlying3
  a3 := Tryd.isAgg3
  z3 := Tryd.sizeOf3
  v3 := Tryd.zeroValue3
  t4 := Tryd.underlying4
  a4 := Tryd.isAgg4
  z4 := Tryd.sizeOf4
  v4 := Tryd.zeroValue4
  t9 := Tryd.underlying9
  a9 := Tryd.isAgg9
  z9 := Tryd.sizeOf9
  v9 := Tryd.zeroValue9
  t20 := Tryd.underlying20
  a20 := Tryd.isAgg20
  z20 := Tryd.sizeOf20
  v20 := Tryd.zeroValue20
  t22 := Tryd.underlying40
  a22 := Tryd.isAgg40
  z22 := Tryd.sizeOf40
  v22 := Tryd.zeroValue40 }
theorem grow37 (n : Nat) (hn : n ≤ 4194304) (w : World) : Calls Tryd.prog 30 #[.slice none 0 0, .int .i64 (n : Int)] w fun e w' => (∃ v, e = .returned v ∧ w'.ownsRow w.heap.size 46 3 v 0 []) ∧ Below w.heap.size w w' := by
  by_cases h0 : n = 0
  · subst h0
    exact (Any8.slices_Grow_room growP none 0 0 0 w (by omega) (by omega) (by omega) (by omega)).mono fun e w' ⟨he, hw⟩ => ⟨⟨_, he, by rw [hw]; exact World.ownsRow_nil _ _ _ _⟩, by rw [hw]; exact Below.refl _ _⟩
  · obtain ⟨i0, hi0, hz0, hz1, hz2⟩ := info_parts info50
    refine (Any8.slices_Grow_grow growP i0 _ hi0 hz0 (by rw [hz1]; omega) none 0 0 n [] w (by omega) (by omega) (by rw [hz2]; omega) (by omega) (by simp) (fun _ => rfl) (fun a q => by cases q)).mono fun e w' ⟨he, hw⟩ => ⟨⟨_, he, ?_⟩, ?_⟩
    · rw [hw]
      have hge := grownCap_ge w (0 + n) 0 (growP_ren.t 25)
      refine World.ownsRow_made w.drew _ _ (Nat.le_refl _) (grownCap_le_maxLen w (0 + n) 0 _ (by unfold maxLen; omega)) ?_
      generalize grownCap w (0 + n) 0 (growP_ren.t 25) = G at *
      simp only [Array.size_append, size_zeroCells, Value.cells, List.size_toArray, List.length_nil]
      simp
      omega
    · rw [hw]
      exact (Below.refl _ w).drew.alloc (Nat.le_refl _) _
end Go.Proofs.YteomefhjglnghaaDoor

/- slices.Concat of parts. -/
set_option linter.unusedSimpArgs false
set_option linter.unusedVariables false
set_option maxRecDepth 100000
namespace Go.Proofs.YteomefhjglnghaaDoor
open Go.RowKit Go.Deep Go.PlainAid

theorem PTL.cellsA {w : World} {ad : Addr} {l : List P3} (h : PTL w (some ad) l) : ∀ j u, (flat3 l)[j]? = some u → w.cell? (ad.add j) = some u := fun j u hj => by
  obtain ⟨b, o, e, hc⟩ := h j u hj
  cases e
  unfold Addr.add
  by_cases h0 : j = 0
  · subst h0; simpa using hc
  · simpa [h0] using hc
theorem flat3_one : ∀ (l : List P3), ∀ u ∈ flat3 l, u.oneCell' = true
  | [], u, h => by simp [flat3] at h
  | p :: l, u, h => by
    simp only [flat3, List.mem_cons] at h
    rcases h with rfl | rfl | rfl | h
    · rfl
    · rfl
    · rfl
    · exact flat3_one l u h
theorem PTL.none {w : World} {l : List P3} (h : PTL w none l) : l = [] := by
  cases l with
  | nil => rfl
  | cons p l => obtain ⟨b, o, e, _⟩ := h 0 _ rfl; cases e
abbrev S3 := Option Addr × Nat × List P3
def cat (L : List S3) : List P3 := (L.map (fun x => x.2.2)).flatten
theorem cat_take {L : List S3} {i : Nat} (h : i < L.length) : cat (L.take (i + 1)) = cat (L.take i) ++ L[i].2.2 := by
  unfold cat
  rw [List.take_succ_eq_append_getElem h, List.map_append, List.flatten_append]
  simp
theorem cat_len (L : List S3) (h : ∀ x ∈ L, x.2.2.length ≤ 1048576) : (cat L).length ≤ L.length * 1048576 := by
  induction L with
  | nil => simp [cat]
  | cons x L ih =>
    have := h x (by simp)
    have := ih (fun y hy => h y (by simp [hy]))
    unfold cat at *
    simp only [List.map_cons, List.flatten_cons, List.length_append, List.length_cons]
    omega
set_option maxHeartbeats 2000000 in
theorem concat23 {w : World} {bC : Nat} {L : List S3} {cc : Nat} (hL : L.length = 3) (I : ∀ i (h : i < L.length), w.cell? ⟨bC, i, none⟩ = some (.slice L[i].1 L[i].2.2.length L[i].2.1)) (hp : ∀ i (h : i < L.length), PTL w L[i].1 L[i].2.2) (hn : ∀ i (h : i < L.length), L[i].1 = none → L[i].2.1 = 0) (hs : ∀ x ∈ L, x.2.2.length ≤ 1048576) :
    Calls Tryd.prog 14 #[.slice (some ⟨bC, 0, none⟩) 3 cc] w fun e w' => (∃ a c, e = .returned (.slice a (cat L).length c) ∧ PTL w' a (cat L)) ∧ Below w.heap.size w w' := by
  have HI : Hid (∀ i (h : i < L.length), w.cell? ⟨bC, i, none⟩ = some (.slice L[i].1 L[i].2.2.length L[i].2.1)) := I
  have HP : Hid (∀ i (h : i < L.length), PTL w L[i].1 L[i].2.2) := hp
  have HN : Hid (∀ i (h : i < L.length), L[i].1 = none → L[i].2.1 = 0) := hn
  have HS : Hid (∀ x ∈ L, x.2.2.length ≤ 1048576) := hs
  have HL : Hid (L.length = 3) := hL
  have HG : Hid (∀ (n : Nat), n ≤ 4194304 → Calls Tryd.prog 30 #[.slice none 0 0, .int .i64 (n : Int)] w fun e w' => (∃ v, e = .returned v ∧ w'.ownsRow w.heap.size 46 3 v 0 []) ∧ Below w.heap.size w w') := fun n h => grow37 n h w
  obtain ⟨i0, hi0, hz0, hz1, hz2⟩ := info_parts info50
  clear I hp hn hs hL
  go_enter Tryd.func14, Tryd.ntmps14
  go_wp2_with fail
  go_loopg [3, 5, 11] 3 (fun gk v3 v5 v11 wr => ∃ i t : Nat, i + gk = 3 ∧ v11 = .int .i64 (i : Int) ∧ v3 = .int .i64 (t : Int) ∧ t ≤ i * 1048576 ∧ wr = w)
  case atStart => exact ⟨0, 0, by omega, rfl, rfl, by omega, rfl⟩
  case round =>
    obtain ⟨i, t, hig, rfl, rfl, ht, rfl⟩ := hrel
    by_cases hi : i < 3
    · have il : (i : Int) < 3 := by omega
      have hiL : i < L.length := by rw [HL.out]; exact hi
      have q1 := HI.out i hiL
      have q2 := HS.out L[i] (List.getElem_mem hiL)
      generalize L[i] = x at *
      obtain ⟨xa, xc, xl⟩ := x
      dsimp only at q1 q2
      obtain ⟨t2, ht2⟩ : ∃ t2, t2 = t + xl.length := ⟨_, rfl⟩
      have kt : (t : Int) + (xl.length : Int) = (t2 : Int) := by omega
      have kt2 : ¬ (t2 : Int) < 0 := by omega
      have HT2 : Hid (t2 ≤ (i + 1) * 1048576) := by show _ ≤ _; omega
      have hb : t2 ≤ 4194304 := by omega
      clear ht2
      go_wp2_with fail
      go_roundg (gk - 1)
      case measure => omega
      case rel => exact ⟨i + 1, t2, by omega, by go_num, rfl, HT2.out, rfl⟩
    · have il : ¬ (i : Int) < 3 := by omega
      have ht4 : t ≤ 4194304 := by omega
      go_wp2_with (go_at_call 30; refine (HG.out t ht4).mono ?_; rintro e w1 ⟨⟨v6, rfl, hO⟩, hB⟩; have O1 : Hid (w1.ownsRow wr.heap.size 46 3 v6 0 []) := hO; have B1 : Hid (Below wr.heap.size wr w1) := hB; clear hO hB)
      obtain ⟨W, rfl⟩ : ∃ W, W = wr := ⟨wr, rfl⟩
      go_loopg [6, 8, 27] 3 (fun gk v6 v8 v27 wr => ∃ i : Nat, i + gk = 3 ∧ v27 = .int .i64 (i : Int) ∧ wr.ownsRow W.heap.size 46 3 v6 (cat (L.take i)).length (flat3 (cat (L.take i))) ∧ Below W.heap.size W wr)
      case atStart => exact ⟨0, by omega, rfl, O1.out, B1.out⟩
      case round =>
        obtain ⟨i, hig, rfl, hO, hB⟩ := hrel
        have B : Hid (Below W.heap.size W wr) := hB
        have O : Hid (wr.ownsRow W.heap.size 46 3 u6 (cat (L.take i)).length (flat3 (cat (L.take i)))) := hO
        clear hO hB O1 B1
        by_cases hi : i < 3
        · have il : (i : Int) < 3 := by omega
          have hiL : i < L.length := by rw [HL.out]; exact hi
          have q1 := cell_keep (HI.out i hiL) B.out
          have q2 := HS.out L[i] (List.getElem_mem hiL)
          have hp1 := (HP.out i hiL).of_below B.out
          have hn1 := HN.out i hiL
          have HC : Hid (cat (L.take (i + 1)) = cat (L.take i) ++ L[i].2.2) := cat_take hiL
          have hcl : (cat (L.take i)).length ≤ 3145728 := by
            have := cat_len (L.take i) (fun x hx => HS.out x (List.mem_of_mem_take hx))
            rw [List.length_take] at this
            omega
          generalize L[i] = x at *
          obtain ⟨xa, xc, xl⟩ := x
          dsimp only at q1 q2 hp1 hn1 HC
          generalize cat (L.take i) = C at *
          cases xa with
          | none =>
            obtain rfl := hp1.none
            obtain rfl := hn1 rfl
            clear hp1 hn1
            obtain ⟨hv, hn0⟩ | ⟨g, cap, cur, hv, _, _, hcap, _⟩ := O.out.2
            · subst hv
              go_wp2_with fail
              go_roundg (gk - 1)
              case measure => omega
              case rel => exact ⟨i + 1, by omega, by go_num, by rw [HC.out, List.append_nil]; exact O.out, B.out⟩
            · subst hv
              go_wp2_with fail
              go_roundg (gk - 1)
              case measure => omega
              case rel => exact ⟨i + 1, by omega, by go_num, by rw [HC.out, List.append_nil]; exact O.out, B.out⟩
          | some ad =>
            have HP1 : Hid (PTL wr (some ad) xl) := hp1
            clear hp1 hn1
            go_wp2_with (at_builtin; refine wpList_append_own _ rfl (.tmp 31) (.tmp 32) 40 rfl W.heap.size 46 i0 (.agg #[.int .i64 0, .int .i64 0, .string ⟨#[]⟩]) 3 32 Tryd.underlying40 hi0 hz0 hz1 hz2 rfl (by decide) u6 C.length (flat3 C) rfl O.out ad xl.length xc (flat3 xl) rfl (flat3_len xl) (HP1.out.cellsA) (flat3_one xl) (by unfold maxLen; omega) (by omega) B.out.size ?_; intro v5 w5 hown hgrow hn; have O5 : Hid (w5.ownsRow W.heap.size 46 3 v5 (C.length + xl.length) (flat3 C ++ flat3 xl)) := hown; have B5 : Hid (Below W.heap.size W w5) := B.out.grown hgrow B.out.size (fun k hk => (O.out.lt k hk).1); clear hown hgrow hn)
            go_roundg (gk - 1)
            case measure => omega
            case rel => exact ⟨i + 1, by omega, by go_num, by rw [HC.out, flat3_append, List.length_append]; exact O5.out, B5.out⟩
        · have il : ¬ (i : Int) < 3 := by omega
          have e3 : L.take i = L := List.take_of_length_le (by rw [HL.out]; omega)
          rw [e3] at O
          obtain ⟨a6, c6, rfl, s6⟩ := own_ptl rfl O.out
          have S6 : Hid (PTL wr a6 (cat L)) := s6
          clear s6 e3
          go_wp2_with fail
          go_ret
          exact ⟨⟨_, ⟨_, rfl⟩, S6.out⟩, B.out⟩
end Go.Proofs.YteomefhjglnghaaDoor

