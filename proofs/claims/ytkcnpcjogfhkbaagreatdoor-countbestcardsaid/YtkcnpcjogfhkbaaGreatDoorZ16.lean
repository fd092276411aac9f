/- Ranks and marks, walked. Fits: the program's and the document's. The document's Fits. -/
import Derived.Test.YtkcnpcjogfhkbaaGreatDoorZ15
set_option linter.unusedSimpArgs false
set_option linter.unusedVariables false
set_option maxRecDepth 100000
namespace Go.Proofs.YtkcnpcjogfhkbaaGreatDoor
open Go.RowKit Go.Deep Go.PlainAid

/-- What was seen, as the cells hold it. -/
def sn (k : Nat) (L : List Int) : List Value := (List.range k).map fun (j : Nat) => Value.bool (decide ((j : Int) ∈ L))
theorem sn_len (k : Nat) (L : List Int) : (sn k L).length = k := by simp [sn]
theorem sn_at (k : Nat) (L : List Int) (n : Nat) (h : n < (sn k L).length) : (sn k L)[n] = .bool (decide ((n : Int) ∈ L)) := by simp [sn]
theorem sn_nil (k : Nat) : sn k [] = List.replicate k (.bool false) := by
  apply List.ext_getElem
  · simp [sn]
  · intro i h1 h2; simp [sn]
theorem sn_set (k : Nat) (L : List Int) (n : Nat) : (sn k L).set n (.bool true) = sn k (L ++ [(n : Int)]) := by
  apply List.ext_getElem
  · simp [sn]
  · intro i h1 h2
    rw [List.getElem_set]
    by_cases hi : n = i
    · subst hi; simp [sn]
    · rw [if_neg hi, sn_at, sn_at]
      have : ¬ ((i : Int) = (n : Int)) := by omega
      simp [this]
theorem Tryz.info4 : (Tryz.prog.info? 4).map (fun i => (i.zero, i.size, i.bytes)) = some (some (.bool false), 1, 1) := by kernel_rfl
theorem make33 (z : Int) (n : Nat) (hz : z = (n : Int)) (hn : n ≤ 4294967296) (w : World) : (Instr.makeSlice 81 (.int .i64 z) (.int .i64 z)).run Tryz.prog w = .ok (.slice (some ⟨w.heap.size, 0, none⟩) n n) (w.alloc (.cells (sn n []).toArray 4)) := by
  subst hz
  have := run_make_row' (P := Tryz.prog) 81 4 (.bool false) 1 Tryz.underlying81 Tryz.info4 rfl .i64 .i64 n (by omega) (by omega) w
  rw [this]
  have e : madeCells #[.bool false] n = (sn n []).toArray := by
    apply Array.toList_inj.1
    rw [toList_madeCells_one, sn_nil]
  rw [e]
/-- How ranks stand behind some of them. -/
def Sofar (k : Nat) (L : List Int) : Prop := ∀ x ∈ L, (0 ≤ x ∧ x ≤ (k : Int)) ∧ (0 < x → L.count x ≤ 1)
theorem sofar_step {l : List Int} {i k : Nat} (h : i < l.length) (hs : Sofar k (l.take i)) (h0 : 0 ≤ l[i]) (hk : l[i] ≤ (k : Int)) (hn : 0 < l[i] → ¬ l[i] ∈ l.take i) : Sofar k (l.take (i + 1)) := by
  intro x hx
  rw [List.take_succ_eq_append_getElem h, List.mem_append, List.mem_singleton] at hx
  rw [count_take h]
  rcases hx with hx | rfl
  · obtain ⟨h1, h2⟩ := hs x hx
    refine ⟨h1, fun hp => ?_⟩
    have := h2 hp
    by_cases he : l[i] = x
    · exact absurd hx (he ▸ hn (he ▸ hp))
    · have : (l[i] == x) = false := by simpa using he
      rw [this]
      simpa using h2 hp
  · refine ⟨⟨h0, hk⟩, fun hp => ?_⟩
    rw [List.count_eq_zero_of_not_mem (hn hp)]
    simp
theorem sofar_end {l : List Int} (h : Sofar (nz l) l) : Ranked l := ⟨fun x hx => (h x hx).1, fun x hx => (h x hx).2⟩
theorem not_ranked {l : List Int} {i : Nat} (h : i < l.length) (hb : l[i] < 0 ∨ (nz l : Int) < l[i] ∨ (0 < l[i] ∧ l[i] ∈ l.take i)) : ¬ Ranked l := by
  rintro ⟨h1, h2⟩
  have hm := List.getElem_mem h
  have := h1 _ hm
  rcases hb with hb | hb | ⟨hb, hc⟩
  · omega
  · omega
  · have := h2 _ hm hb
    have := count_two h hc
    omega
noncomputable def rankB (l : List Int) : Bool := @decide (Ranked l) (Classical.propDecidable _)
theorem rankB_yes {l : List Int} (h : Ranked l) : rankB l = true := @decide_eq_true _ (Classical.propDecidable _) h
theorem rankB_no {l : List Int} (h : ¬ Ranked l) : rankB l = false := @decide_eq_false _ (Classical.propDecidable _) h
set_option maxHeartbeats 2000000 in
theorem ranked11 {w : World} {a : Option Addr} {l : List Int} {c : Nat} (hl : l.length ≤ 1000) (hs : IL w a l) :
    Calls Tryz.prog 78 #[.slice a l.length c] w fun e w' => e = .returned (.bool (rankB l)) ∧ Below w.heap.size w w' := by
  have HS : Hid (IL w a l) := hs
  clear hs
  go_enter Tryz.func78, Tryz.ntmps78
  go_wp2_with fail
  go_loopg [3, 5, 11] l.length (fun gk v3 v5 v11 wr => ∃ i : Nat, i + gk = l.length ∧ v11 = .int .i64 (i : Int) ∧ v3 = .int .i64 (nz (l.take i) : Nat) ∧ wr = w)
  case atStart => exact ⟨0, by omega, rfl, by simp [nz], rfl⟩
  case round =>
    obtain ⟨i, hig, rfl, rfl, rfl⟩ := hrel
    by_cases hi : i < l.length
    · obtain ⟨b, o, rfl, hc⟩ := HS.out i hi
      have il : (i : Int) < (l.length : Int) := by omega
      have HT : Hid _ := nz_take hi
      have hle : nz (l.take i) ≤ 1000 := Nat.le_trans (nz_le _) (by simp; omega)
      generalize nz (l.take i) = k at *
      generalize l[i] = y at *
      cases hy : (y != 0) with
      | true =>
        go_wp2_with fail
        go_roundg (gk - 1)
        case measure => omega
        case rel => exact ⟨i + 1, by omega, by go_num, by rw [HT.out, hy]; simp, rfl⟩
      | false =>
        go_wp2_with fail
        go_roundg (gk - 1)
        case measure => omega
        case rel => exact ⟨i + 1, by omega, by go_num, by rw [HT.out, hy]; simp, rfl⟩
    · have il : ¬ (i : Int) < (l.length : Int) := by omega
      have e : i = l.length := by omega
      have ht : nz (l.take i) = nz l := by rw [e, List.take_length]
      rw [ht]
      have hle : nz l ≤ 1000 := Nat.le_trans (nz_le _) hl
      have HE : Hid (Sofar (nz l) l → Ranked l) := sofar_end
      have HN : Hid (∀ i (h : i < l.length), (l[i] < 0 ∨ (nz l : Int) < l[i] ∨ (0 < l[i] ∧ l[i] ∈ l.take i)) → ¬ Ranked l) := fun i h => not_ranked h
      generalize nz l = k at *
      clear ht e hi hig
      have hmk : ∀ W : World, (Instr.makeSlice 81 (.int .i64 ((k : Int) + 1)) (.int .i64 ((k : Int) + 1))).run Tryz.prog W = .ok (.slice (some ⟨W.heap.size, 0, none⟩) (k + 1) (k + 1)) (W.alloc (.cells (sn (k + 1) []).toArray 4)) := fun W => make33 _ (k + 1) (by omega) (by omega) W
      have I0 : Hid (IHolds (wr.alloc (.cells (sn (k + 1) []).toArray 4)) wr.heap.size 4 (sn (k + 1) [])) := IHolds.new _ _ _
      have B0 : Hid (Below wr.heap.size wr (wr.alloc (.cells (sn (k + 1) []).toArray 4))) := (Below.refl _ _).alloc (Nat.le_refl _) _
      generalize hw0 : wr.alloc (.cells (sn (k + 1) []).toArray 4) = w0 at *
      have hal : (Instr.makeSlice 81 (.int .i64 ((k : Int) + 1)) (.int .i64 ((k : Int) + 1))).run Tryz.prog wr = .ok (.slice (some ⟨wr.heap.size, 0, none⟩) (k + 1) (k + 1)) w0 := by rw [hmk, hw0]
      clear hmk hw0
      go_wp2_with fail
      clear il
      obtain ⟨b, hbb⟩ : ∃ b, b = wr.heap.size := ⟨_, rfl⟩
      rw [← hbb] at I0
      go_loopg [8, 25] l.length (fun gk v8 v25 wq => ∃ i : Nat, i + gk = l.length ∧ v25 = .int .i64 (i : Int) ∧ IHolds wq wr.heap.size 4 (sn (k + 1) (l.take i)) ∧ Below wr.heap.size wr wq ∧ Sofar k (l.take i))
      case atStart => exact ⟨0, by omega, rfl, by rw [← hbb]; simpa using I0.out, B0.out, by intro x hx; simp at hx⟩
      case round =>
        obtain ⟨i, hig, rfl, hI, hB, hS⟩ := hrel
        rename_i wq
        have I : Hid _ := hI
        have B : Hid _ := hB
        have SF : Hid _ := hS
        clear hI hB hS I0 B0 hal
        by_cases hi : i < l.length
        · obtain ⟨bl, o, rfl, hc⟩ := HS.out.of_below B.out i hi
          have il : (i : Int) < (l.length : Int) := by omega
          have HN' : Hid _ := HN.out i hi
          have ST : Hid _ := @sofar_step l i k hi SF.out
          have TK : Hid _ := List.take_succ_eq_append_getElem hi
          generalize l[i] = x at *
          by_cases h0 : x < 0
          · have HZ : Hid (rankB l = false) := rankB_no (HN'.out (Or.inl h0))
            go_wp2_with fail
            go_ret
            exact ⟨by rw [HZ.out]; rfl, B.out⟩
          · obtain ⟨n, rfl⟩ := Int.eq_ofNat_of_zero_le (Int.not_lt.1 h0)
            by_cases hk : k < n
            · have hk' : (k : Int) < (n : Int) := by omega
              have HZ : Hid (rankB l = false) := rankB_no (HN'.out (Or.inr (Or.inl hk')))
              go_wp2_with fail
              go_ret
              exact ⟨by rw [HZ.out]; rfl, B.out⟩
            · have hk' : ¬ (k : Int) < (n : Int) := by omega
              have hcn := (show IHolds _ _ _ _ from I.out).cell n (by rw [sn_len]; omega)
              rw [sn_at] at hcn
              have hfz := (show IHolds _ _ _ _ from I.out).frozen n
              have hnk : n < k + 1 := by omega
              have hnk' : (n : Int) < ((k + 1 : Nat) : Int) := by omega
              by_cases hm : 0 < n ∧ (n : Int) ∈ l.take i
              · obtain ⟨hp, hm⟩ := hm
                have hp' : (0 : Int) < (n : Int) := by omega
                have HZ : Hid (rankB l = false) := rankB_no (HN'.out (Or.inr (Or.inr ⟨hp', hm⟩)))
                rw [decide_eq_true hm] at hcn
                go_wp2_with fail
                go_ret
                exact ⟨by rw [HZ.out]; rfl, B.out⟩
              · have HM : Hid (0 < (n : Int) → ¬ (n : Int) ∈ l.take i) := fun h hh => hm ⟨by omega, hh⟩
                have HT : Hid (Sofar k (l.take (i + 1))) := ST.out (by omega) (by omega) HM.out
                have HI : Hid _ := (show IHolds _ _ _ _ from I.out).set n (.bool true)
                rw [sn_set, ← TK.out] at HI
                have HB : Hid _ := B.out.setCell (p := ⟨_, n, none⟩) (Nat.le_refl _) (.bool true)
                by_cases hp : 0 < n
                · have hp' : (0 : Int) < (n : Int) := by omega
                  rw [decide_eq_false (HM.out hp')] at hcn
                  clear hm
                  go_wp2_with fail
                  go_roundg (gk - 1)
                  case measure => omega
                  case rel => exact ⟨i + 1, by omega, by go_num, HI.out, HB.out, HT.out⟩
                · have hp' : ¬ (0 : Int) < (n : Int) := by omega
                  obtain rfl : n = 0 := by omega
                  clear hm
                  go_wp2_with fail
                  go_roundg (gk - 1)
                  case measure => omega
                  case rel => exact ⟨i + 1, by omega, by go_num, HI.out, HB.out, HT.out⟩
        · have il : ¬ (i : Int) < (l.length : Int) := by omega
          have e : i = l.length := by omega
          have SE := SF.out
          rw [e, List.take_length] at SE
          have HR : Hid (rankB l = true) := rankB_yes (HE.out SE)
          clear e SE
          go_wp2_with fail
          go_ret
          exact ⟨by rw [HR.out]; rfl, B.out⟩
end Go.Proofs.YtkcnpcjogfhkbaaGreatDoor
namespace Go.Proofs.YtkcnpcjogfhkbaaGreatDoor
open Go.RowKit Go.Deep Go.PlainAid

/-- Marks of which each is 0 or 1. -/
def bits (l : List Int) : Bool := l.all fun x => x == 0 || x == 1
/-- What fits. -/
noncomputable def fitsB (l : List Int) (r m : Int) : Bool := if rk r then rankB l else bits l && (r != 1 || decide ((nz l : Int) ≤ m))
theorem bits_take {l : List Int} {i : Nat} (h : i < l.length) : bits (l.take (i + 1)) = (bits (l.take i) && (l[i] == 0 || l[i] == 1)) := by
  unfold bits
  rw [List.take_succ_eq_append_getElem h, List.all_append, List.all_cons, List.all_nil, Bool.and_true]
theorem bits_no {l : List Int} {i : Nat} (h : i < l.length) (hb : (l[i] == 0 || l[i] == 1) = false) : bits l = false := by
  unfold bits
  rw [List.all_eq_false]
  exact ⟨l[i], List.getElem_mem h, by simpa using hb⟩
theorem five {W : World} {b : Nat} {t : TypeId} {x y z u v : Value} (h : IHolds W b t [x, y, z, u, v]) : W.cell? ⟨b, 0, none⟩ = some x ∧ W.cell? ⟨b, 1, none⟩ = some y ∧ W.cell? ⟨b, 2, none⟩ = some z ∧ W.cell? ⟨b, 3, none⟩ = some u ∧ W.cell? ⟨b, 4, none⟩ = some v := ⟨h.cell 0 (by simp), h.cell 1 (by simp), h.cell 2 (by simp), h.cell 3 (by simp), h.cell 4 (by simp)⟩
set_option maxHeartbeats 2000000 in
theorem fits6 (nm : ByteArray) (ca : Option Addr) (n cc : Nat) (r s m : Int) {w : World} {a : Option Addr} {l : List Int} {c : Nat} (hl : l.length ≤ 1000) (hs : IL w a l) :
    Calls Tryz.prog 55 #[CV nm ca n cc r s m, .slice a l.length c] w fun e w' => e = .returned (.bool (fitsB l r m)) ∧ Below w.heap.size w w' := by
  have HR : Hid _ := ranks10 nm ca n cc r s m
  have B0 : Hid (Below w.heap.size w (w.alloc (.cells #[.string nm, .slice ca n cc, .int .i64 r, .int .i64 s, .int .i64 m] 24))) := (Below.refl _ _).alloc (Nat.le_refl _) _
  have I0 : Hid (IHolds (w.alloc (.cells #[.string nm, .slice ca n cc, .int .i64 r, .int .i64 s, .int .i64 m] 24)) w.heap.size 24 [.string nm, .slice ca n cc, .int .i64 r, .int .i64 s, .int .i64 m]) := IHolds.new _ _ _
  have H11 : Hid (∀ W, Below w.heap.size w W → Calls Tryz.prog 78 #[.slice a l.length c] W fun e w' => e = .returned (.bool (rankB l)) ∧ Below W.heap.size W w') := fun W hB => ranked11 hl (hs.of_below hB)
  have HS : Hid (IL w a l) := hs
  clear hs
  unfold CV at *
  unfold fitsB
  cases hk : rk r with
  | true =>
    rw [hk] at HR
    generalize rankB l = q at *
    clear I0
    go_enter Tryz.func55, Tryz.ntmps55
    go_wp2_with (first
      | (go_at_call 77; refine (HR.out _).mono ?_; rintro e w1 ⟨rfl, hB1⟩; have B1 : Hid (Below w.heap.size w w1) := B0.out.trans (hB1.mono B0.out.size); clear hB1 B0)
      | (go_at_call 78; refine (H11.out _ B1.out).mono ?_; rintro e w2 ⟨rfl, hB2⟩; have B2 : Hid (Below w.heap.size w w2) := B1.out.trans (hB2.mono B1.out.size); clear hB2 B1))
    go_ret
    exact ⟨by simp, B2.out⟩
  | false =>
    rw [hk] at HR
    clear hk H11
    go_enter Tryz.func55, Tryz.ntmps55
    go_wp2_with (go_at_call 77; refine (HR.out _).mono ?_; rintro e w1 ⟨rfl, hB1⟩; have I1 : Hid (IHolds w1 w.heap.size 24 [.string nm, .slice ca n cc, .int .i64 r, .int .i64 s, .int .i64 m]) := I0.out.of_below hB1; have B1 : Hid (Below w.heap.size w w1) := B0.out.trans (hB1.mono B0.out.size); clear hB1 B0 I0)
    obtain ⟨_, _, q2, _, q4⟩ := five I1.out
    replace HS : Hid (IL w1 a l) := HS.out.of_below B1.out
    go_loopg [5, 7, 14] l.length (fun gk v5 v7 v14 wr => ∃ i : Nat, i + gk = l.length ∧ v14 = .int .i64 (i : Int) ∧ v5 = .int .i64 (nz (l.take i) : Nat) ∧ bits (l.take i) = true ∧ wr = w1)
    case atStart => exact ⟨0, by omega, rfl, by simp [nz], by simp [bits], rfl⟩
    case round =>
      obtain ⟨i, hig, rfl, rfl, hbt, rfl⟩ := hrel
      by_cases hi : i < l.length
      · obtain ⟨b, o, rfl, hc⟩ := HS.out i hi
        have il : (i : Int) < (l.length : Int) := by omega
        have HT : Hid _ := nz_take hi
        have HB : Hid _ := bits_take hi
        have HN : Hid _ := bits_no hi
        have HBT : Hid _ := hbt
        have hle : nz (l.take i) ≤ 1000 := Nat.le_trans (nz_le _) (by simp; omega)
        clear hbt
        generalize nz (l.take i) = k at *
        generalize l[i] = y at *
        by_cases h0 : y = 0
        · subst h0
          go_wp2_with fail
          go_roundg (gk - 1)
          case measure => omega
          case rel => exact ⟨i + 1, by omega, by go_num, by rw [HT.out]; simp, by rw [HB.out, HBT.out]; simp, rfl⟩
        · by_cases h1 : y = 1
          · subst h1
            go_wp2_with fail
            go_roundg (gk - 1)
            case measure => omega
            case rel => exact ⟨i + 1, by omega, by go_num, by rw [HT.out]; simp, by rw [HB.out, HBT.out]; simp, rfl⟩
          · have e : Hid (bits l = false) := HN.out (by simp [h0, h1])
            have hb0 : (y != 0) = true := by simpa using h0
            have hb1 : (y != 1) = true := by simpa using h1
            go_wp2_with fail
            go_ret
            exact ⟨by rw [e.out]; simp, B1.out⟩
      · have il : ¬ (i : Int) < (l.length : Int) := by omega
        have e : i = l.length := by omega
        rw [e, List.take_length] at hbt
        have e2 : nz (l.take i) = nz l := by rw [e, List.take_length]
        rw [e2]
        have HBT : Hid (bits l = true) := hbt
        clear e e2 hbt
        cases hr : (r != 1) with
        | true =>
          go_wp2_with fail
          go_ret
          exact ⟨by rw [HBT.out]; simp, B1.out⟩
        | false =>
          go_wp2_with fail
          go_ret
          exact ⟨by rw [HBT.out]; simp, B1.out⟩
/-- What Fits answers. -/
noncomputable def fitsV (l : List Int) (n : Nat) (r m : Int) : Int := if l.length = n then (if fitsB l r m then 0 else 4) else 2
set_option maxHeartbeats 2000000 in
theorem fits4 (nm : ByteArray) (ca : Option Addr) (n cc : Nat) (r s m : Int) {w : World} {a : Option Addr} {l : List Int} {c : Nat} (hn : n ≤ 1000) (hs : IL w a l) :
    Calls Tryz.prog 37 #[CV nm ca n cc r s m, .slice a l.length c] w fun e w' => e = .returned (.int .i64 (fitsV l n r m)) ∧ Below w.heap.size w w' := by
  have B0 : Hid (Below w.heap.size w (w.alloc (.cells #[.string nm, .slice ca n cc, .int .i64 r, .int .i64 s, .int .i64 m] 24))) := (Below.refl _ _).alloc (Nat.le_refl _) _
  have H6 : Hid (l.length ≤ 1000 → ∀ W, Below w.heap.size w W → Calls Tryz.prog 55 #[CV nm ca n cc r s m, .slice a l.length c] W fun e w' => e = .returned (.bool (fitsB l r m)) ∧ Below W.heap.size W w') := fun hl W hB => fits6 nm ca n cc r s m hl (hs.of_below hB)
  clear hs
  unfold CV fitsV at *
  by_cases hl : l.length = n
  · subst hl
    rw [if_pos rfl]
    have H : Hid _ := H6.out hn
    clear H6
    generalize fitsB l r m = q at *
    generalize l.length = n at *
    have hb : ((n : Int) != (n : Int)) = false := by simp
    cases q with
    | true =>
      go_enter Tryz.func37, Tryz.ntmps37
      go_wp2_with (go_at_call 55; refine (H.out _ B0.out).mono ?_; rintro e w1 ⟨rfl, hB1⟩; have B1 : Hid (Below w.heap.size w w1) := B0.out.trans (hB1.mono B0.out.size); clear hB1 B0)
      go_ret
      exact ⟨rfl, B1.out⟩
    | false =>
      go_enter Tryz.func37, Tryz.ntmps37
      go_wp2_with (go_at_call 55; refine (H.out _ B0.out).mono ?_; rintro e w1 ⟨rfl, hB1⟩; have B1 : Hid (Below w.heap.size w w1) := B0.out.trans (hB1.mono B0.out.size); clear hB1 B0)
      go_ret
      exact ⟨rfl, B1.out⟩
  · rw [if_neg hl]
    clear H6
    have hb : ((l.length : Int) != (n : Int)) = true := by simp; omega
    go_enter Tryz.func37, Tryz.ntmps37
    go_wp2_with fail
    go_ret
    exact ⟨rfl, B0.out⟩
end Go.Proofs.YtkcnpcjogfhkbaaGreatDoor
namespace Go.Proofs.YtkcnpcjogfhkbaaGreatDoor
open Go.RowKit Go.Deep Go.PlainAid

/-- All are from 0 to T. -/
def within (T : Int) (l : List Int) : Bool := l.all fun x => decide (0 ≤ x ∧ x ≤ T)
theorem within_take {T : Int} {l : List Int} {i : Nat} (h : i < l.length) : within T (l.take (i + 1)) = (within T (l.take i) && decide (0 ≤ l[i] ∧ l[i] ≤ T)) := by
  unfold within
  rw [List.take_succ_eq_append_getElem h, List.all_append, List.all_cons, List.all_nil, Bool.and_true]
theorem within_no {T : Int} {l : List Int} {i : Nat} (h : i < l.length) (hb : ¬ (0 ≤ l[i] ∧ l[i] ≤ T)) : within T l = false := by
  unfold within
  rw [List.all_eq_false]
  exact ⟨l[i], List.getElem_mem h, by simpa using hb⟩
theorem within_one (l : List Int) : within 1 l = bits l := by
  unfold within bits
  congr 1
  funext x
  by_cases h0 : x = 0
  · subst h0; rfl
  · by_cases h1 : x = 1
    · subst h1; rfl
    · have a : (x == 0) = false := by simpa using h0
      have b : (x == 1) = false := by simpa using h1
      rw [a, b]
      simp
      omega
theorem within_iff {T : Int} {l : List Int} : within T l = true ↔ ∀ x ∈ l, 0 ≤ x ∧ x ≤ T := by
  unfold within; simp
theorem rank_out {l : List Int} (h : within (l.length : Int) l = false) : rankB l = false := rankB_no fun hr => by
  rw [within_iff.2 ((ranked_iff l).1 hr).1] at h; cases h
theorem rank_yes {l : List Int} (h : within (l.length : Int) l = true) (hc : ∀ n : Nat, 1 ≤ n → n ≤ nz l → l.count (n : Int) = 1) : rankB l = true := rankB_yes ((ranked_iff l).2 ⟨within_iff.1 h, hc⟩)
theorem rank_no {l : List Int} {n : Nat} (h1 : 1 ≤ n) (h2 : n ≤ nz l) (hc : ¬ l.count (n : Int) = 1) : rankB l = false := rankB_no fun hr => hc (((ranked_iff l).1 hr).2 n h1 h2)
theorem fitsV_rank {l : List Int} {r m : Int} (h : rk r = true) {t : Bool} (ht : rankB l = t) : fitsV l l.length r m = if t then 0 else 4 := by
  unfold fitsV fitsB; rw [if_pos rfl, h, ← ht]; rfl
theorem fitsV_out {l : List Int} {r m : Int} {t : Bool} (h : rk r = t) (ho : within (if t then (l.length : Int) else 1) l = false) : fitsV l l.length r m = 4 := by
  unfold fitsV fitsB
  rw [if_pos rfl, h]
  cases t with
  | true => simp only [if_true] at ho ⊢; rw [rank_out ho]; rfl
  | false => simp only [Bool.false_eq_true, if_false] at ho ⊢; rw [← within_one, ho]; rfl
theorem fitsV_marks {l : List Int} {r m : Int} (h : rk r = false) (ho : within 1 l = true) {t : Bool} (ht : (r == 1 && decide (m < (nz l : Int))) = t) : fitsV l l.length r m = if t then 4 else 0 := by
  unfold fitsV fitsB
  rw [if_pos rfl, h, ← within_one, ho, ← ht]
  by_cases h1 : r = 1
  · subst h1
    by_cases h2 : (nz l : Int) ≤ m
    · have h3 : ¬ m < (nz l : Int) := by omega
      simp [h2]
    · have h3 : m < (nz l : Int) := by omega
      simp [h2, h3]
  · have h4 : (r == 1) = false := by simpa using h1
    simp [h4]
    intro h5
    exact absurd h5 h1
theorem nz_int (l : List Int) : (l.length : Int) - (l.count 0 : Nat) = (nz l : Int) := by
  have := nz_count l
  have := List.count_le_length (a := (0 : Int)) (l := l)
  omega
end Go.Proofs.YtkcnpcjogfhkbaaGreatDoor
