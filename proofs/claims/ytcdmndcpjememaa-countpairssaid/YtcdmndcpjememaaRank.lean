/- Ranks and marks, walked. -/
import Derived.Test.YtcdmndcpjememaaWalk
set_option linter.unusedSimpArgs false
set_option linter.unusedVariables false
set_option maxRecDepth 100000
namespace Go.Proofs.Ytcdmndcpjememaa
open Go.RowKit Go.Deep Go.PlainAid

/-- What was seen, as the cells hold it. -/
def sn (k : Nat) (L : List Int) : List Value := (List.range k).map fun (j : Nat) => Value.bool (decide ((j : Int) ∈ L))
theorem sn_len (k : Nat) (L : List Int) : (sn k L).length = k := by simp [sn]
theorem sn_at (k : Nat) (L : List Int) (n : Nat) (h : n < (sn k L).length) : (sn k L)[n] = .bool (decide ((n : Int) ∈ L)) := by simp [sn]
theorem sn_nil (k : Nat) : sn k [] = List.replicate k (.bool false) := by
  apply List.ext_getElem
  · simp [sn]
  · intro i h1 h2; simp [sn]
theorem sn_set (k : Nat) (L : List Int) (n : Nat) : (sn k L).set n (.bool true) = sn k (L ++ [(n : Int)]) := by
  apply List.ext_getElem
  · simp [sn]
  · intro i h1 h2
    rw [List.getElem_set]
    by_cases hi : n = i
    · subst hi; simp [sn]
    · rw [if_neg hi, sn_at, sn_at]
      have : ¬ ((i : Int) = (n : Int)) := by omega
      simp [this]
theorem Try.info4 : (Try.prog.info? 4).map (fun i => (i.zero, i.size, i.bytes)) = some (some (.bool false), 1, 1) := by kernel_rfl
theorem make33 (z : Int) (n : Nat) (hz : z = (n : Int)) (hn : n ≤ 4294967296) (w : World) : (Instr.makeSlice 63 (.int .i64 z) (.int .i64 z)).run Try.prog w = .ok (.slice (some ⟨w.heap.size, 0, none⟩) n n) (w.alloc (.cells (sn n []).toArray 4)) := by
  subst hz
  have := run_make_row' (P := Try.prog) 63 4 (.bool false) 1 Try.underlying63 Try.info4 rfl .i64 .i64 n (by omega) (by omega) w
  rw [this]
  have e : madeCells #[.bool false] n = (sn n []).toArray := by
    apply Array.toList_inj.1
    rw [toList_madeCells_one, sn_nil]
  rw [e]
/-- How ranks stand behind some of them. -/
def Sofar (k : Nat) (L : List Int) : Prop := ∀ x ∈ L, (0 ≤ x ∧ x ≤ (k : Int)) ∧ (0 < x → L.count x ≤ 1)
theorem sofar_step {l : List Int} {i k : Nat} (h : i < l.length) (hs : Sofar k (l.take i)) (h0 : 0 ≤ l[i]) (hk : l[i] ≤ (k : Int)) (hn : 0 < l[i] → ¬ l[i] ∈ l.take i) : Sofar k (l.take (i + 1)) := by
  intro x hx
  rw [List.take_succ_eq_append_getElem h, List.mem_append, List.mem_singleton] at hx
  rw [count_take h]
  rcases hx with hx | rfl
  · obtain ⟨h1, h2⟩ := hs x hx
    refine ⟨h1, fun hp => ?_⟩
    have := h2 hp
    by_cases he : l[i] = x
    · exact absurd hx (he ▸ hn (he ▸ hp))
    · have : (l[i] == x) = false := by simpa using he
      rw [this]
      simpa using h2 hp
  · refine ⟨⟨h0, hk⟩, fun hp => ?_⟩
    rw [List.count_eq_zero_of_not_mem (hn hp)]
    simp
theorem sofar_end {l : List Int} (h : Sofar (nz l) l) : Ranked l := ⟨fun x hx => (h x hx).1, fun x hx => (h x hx).2⟩
theorem not_ranked {l : List Int} {i : Nat} (h : i < l.length) (hb : l[i] < 0 ∨ (nz l : Int) < l[i] ∨ (0 < l[i] ∧ l[i] ∈ l.take i)) : ¬ Ranked l := by
  rintro ⟨h1, h2⟩
  have hm := List.getElem_mem h
  have := h1 _ hm
  rcases hb with hb | hb | ⟨hb, hc⟩
  · omega
  · omega
  · have := h2 _ hm hb
    have := count_two h hc
    omega
noncomputable def rankB (l : List Int) : Bool := @decide (Ranked l) (Classical.propDecidable _)
theorem rankB_yes {l : List Int} (h : Ranked l) : rankB l = true := @decide_eq_true _ (Classical.propDecidable _) h
theorem rankB_no {l : List Int} (h : ¬ Ranked l) : rankB l = false := @decide_eq_false _ (Classical.propDecidable _) h
set_option maxHeartbeats 2000000 in
theorem ranked11 {w : World} {a : Option Addr} {l : List Int} {c : Nat} (hl : l.length ≤ 1000) (hs : IL w a l) :
    Calls Try.prog 44 #[.slice a l.length c] w fun e w' => e = .returned (.bool (rankB l)) ∧ Below w.heap.size w w' := by
  have HS : Hid (IL w a l) := hs
  clear hs
  go_enter Try.func44, Try.ntmps44
  go_wp2_with fail
  go_loopg [3, 5, 11] l.length (fun gk v3 v5 v11 wr => ∃ i : Nat, i + gk = l.length ∧ v11 = .int .i64 (i : Int) ∧ v3 = .int .i64 (nz (l.take i) : Nat) ∧ wr = w)
  case atStart => exact ⟨0, by omega, rfl, by simp [nz], rfl⟩
  case round =>
    obtain ⟨i, hig, rfl, rfl, rfl⟩ := hrel
    by_cases hi : i < l.length
    · obtain ⟨b, o, rfl, hc⟩ := HS.out i hi
      have il : (i : Int) < (l.length : Int) := by omega
      have HT : Hid _ := nz_take hi
      have hle : nz (l.take i) ≤ 1000 := Nat.le_trans (nz_le _) (by simp; omega)
      generalize nz (l.take i) = k at *
      generalize l[i] = y at *
      cases hy : (y != 0) with
      | true =>
        go_wp2_with fail
        go_roundg (gk - 1)
        case measure => omega
        case rel => exact ⟨i + 1, by omega, by go_num, by rw [HT.out, hy]; simp, rfl⟩
      | false =>
        go_wp2_with fail
        go_roundg (gk - 1)
        case measure => omega
        case rel => exact ⟨i + 1, by omega, by go_num, by rw [HT.out, hy]; simp, rfl⟩
    · have il : ¬ (i : Int) < (l.length : Int) := by omega
      have e : i = l.length := by omega
      have ht : nz (l.take i) = nz l := by rw [e, List.take_length]
      rw [ht]
      have hle : nz l ≤ 1000 := Nat.le_trans (nz_le _) hl
      have HE : Hid (Sofar (nz l) l → Ranked l) := sofar_end
      have HN : Hid (∀ i (h : i < l.length), (l[i] < 0 ∨ (nz l : Int) < l[i] ∨ (0 < l[i] ∧ l[i] ∈ l.take i)) → ¬ Ranked l) := fun i h => not_ranked h
      generalize nz l = k at *
      clear ht e hi hig
      have hmk : ∀ W : World, (Instr.makeSlice 63 (.int .i64 ((k : Int) + 1)) (.int .i64 ((k : Int) + 1))).run Try.prog W = .ok (.slice (some ⟨W.heap.size, 0, none⟩) (k + 1) (k + 1)) (W.alloc (.cells (sn (k + 1) []).toArray 4)) := fun W => make33 _ (k + 1) (by omega) (by omega) W
      have I0 : Hid (IHolds (wr.alloc (.cells (sn (k + 1) []).toArray 4)) wr.heap.size 4 (sn (k + 1) [])) := IHolds.new _ _ _
      have B0 : Hid (Below wr.heap.size wr (wr.alloc (.cells (sn (k + 1) []).toArray 4))) := (Below.refl _ _).alloc (Nat.le_refl _) _
      generalize hw0 : wr.alloc (.cells (sn (k + 1) []).toArray 4) = w0 at *
      have hal : (Instr.makeSlice 63 (.int .i64 ((k : Int) + 1)) (.int .i64 ((k : Int) + 1))).run Try.prog wr = .ok (.slice (some ⟨wr.heap.size, 0, none⟩) (k + 1) (k + 1)) w0 := by rw [hmk, hw0]
      clear hmk hw0
      go_wp2_with fail
      clear il
      obtain ⟨b, hbb⟩ : ∃ b, b = wr.heap.size := ⟨_, rfl⟩
      rw [← hbb] at I0
      go_loopg [8, 25] l.length (fun gk v8 v25 wq => ∃ i : Nat, i + gk = l.length ∧ v25 = .int .i64 (i : Int) ∧ IHolds wq wr.heap.size 4 (sn (k + 1) (l.take i)) ∧ Below wr.heap.size wr wq ∧ Sofar k (l.take i))
      case atStart => exact ⟨0, by omega, rfl, by rw [← hbb]; simpa using I0.out, B0.out, by intro x hx; simp at hx⟩
      case round =>
        obtain ⟨i, hig, rfl, hI, hB, hS⟩ := hrel
        rename_i wq
        have I : Hid _ := hI
        have B : Hid _ := hB
        have SF : Hid _ := hS
        clear hI hB hS I0 B0 hal
        by_cases hi : i < l.length
        · obtain ⟨bl, o, rfl, hc⟩ := HS.out.of_below B.out i hi
          have il : (i : Int) < (l.length : Int) := by omega
          have HN' : Hid _ := HN.out i hi
          have ST : Hid _ := @sofar_step l i k hi SF.out
          have TK : Hid _ := List.take_succ_eq_append_getElem hi
          generalize l[i] = x at *
          by_cases h0 : x < 0
          · have HZ : Hid (rankB l = false) := rankB_no (HN'.out (Or.inl h0))
            go_wp2_with fail
            go_ret
            exact ⟨by rw [HZ.out]; rfl, B.out⟩
          · obtain ⟨n, rfl⟩ := Int.eq_ofNat_of_zero_le (Int.not_lt.1 h0)
            by_cases hk : k < n
            · have hk' : (k : Int) < (n : Int) := by omega
              have HZ : Hid (rankB l = false) := rankB_no (HN'.out (Or.inr (Or.inl hk')))
              go_wp2_with fail
              go_ret
              exact ⟨by rw [HZ.out]; rfl, B.out⟩
            · have hk' : ¬ (k : Int) < (n : Int) := by omega
              have hcn := (show IHolds _ _ _ _ from I.out).cell n (by rw [sn_len]; omega)
              rw [sn_at] at hcn
              have hfz := (show IHolds _ _ _ _ from I.out).frozen n
              have hnk : n < k + 1 := by omega
              have hnk' : (n : Int) < ((k + 1 : Nat) : Int) := by omega
              by_cases hm : 0 < n ∧ (n : Int) ∈ l.take i
              · obtain ⟨hp, hm⟩ := hm
                have hp' : (0 : Int) < (n : Int) := by omega
                have HZ : Hid (rankB l = false) := rankB_no (HN'.out (Or.inr (Or.inr ⟨hp', hm⟩)))
                rw [decide_eq_true hm] at hcn
                go_wp2_with fail
                go_ret
                exact ⟨by rw [HZ.out]; rfl, B.out⟩
              · have HM : Hid (0 < (n : Int) → ¬ (n : Int) ∈ l.take i) := fun h hh => hm ⟨by omega, hh⟩
                have HT : Hid (Sofar k (l.take (i + 1))) := ST.out (by omega) (by omega) HM.out
                have HI : Hid _ := (show IHolds _ _ _ _ from I.out).set n (.bool true)
                rw [sn_set, ← TK.out] at HI
                have HB : Hid _ := B.out.setCell (p := ⟨_, n, none⟩) (Nat.le_refl _) (.bool true)
                by_cases hp : 0 < n
                · have hp' : (0 : Int) < (n : Int) := by omega
                  rw [decide_eq_false (HM.out hp')] at hcn
                  clear hm
                  go_wp2_with fail
                  go_roundg (gk - 1)
                  case measure => omega
                  case rel => exact ⟨i + 1, by omega, by go_num, HI.out, HB.out, HT.out⟩
                · have hp' : ¬ (0 : Int) < (n : Int) := by omega
                  obtain rfl : n = 0 := by omega
                  clear hm
                  go_wp2_with fail
                  go_roundg (gk - 1)
                  case measure => omega
                  case rel => exact ⟨i + 1, by omega, by go_num, HI.out, HB.out, HT.out⟩
        · have il : ¬ (i : Int) < (l.length : Int) := by omega
          have e : i = l.length := by omega
          have SE := SF.out
          rw [e, List.take_length] at SE
          have HR : Hid (rankB l = true) := rankB_yes (HE.out SE)
          clear e SE
          go_wp2_with fail
          go_ret
          exact ⟨by rw [HR.out]; rfl, B.out⟩
end Go.Proofs.Ytcdmndcpjememaa
