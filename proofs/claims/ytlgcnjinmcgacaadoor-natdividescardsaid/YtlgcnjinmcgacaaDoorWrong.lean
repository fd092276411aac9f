/- The walk of wrong: what is wrong with texts that are handed in as numbers. -/
import Derived.Test.YtlgcnjinmcgacaaDoorIs
set_option linter.unusedSimpArgs false
set_option linter.unusedVariables false
namespace Go.Proofs.YtlgcnjinmcgacaaDoor
open Go.RowKit Go.PlainAid

/-- At a lie these texts. -/
def SRow (w : World) (a : Option Addr) (l : List ByteArray) : Prop := ∀ i (h : i < l.length), ∃ b o, a = some ⟨b, o, none⟩ ∧ w.cell? ⟨b, o + i, none⟩ = some (.string l[i])
/-- What is wrong with several texts: how all are written, ahead of how long they are. -/
def wrL (ps : List ByteArray) : Nat := if ps.all (fun s => isNum s.data.toList) = false then 2 else if ps.all (fun s => decide (s.size ≤ 4000)) = false then 3 else 0
theorem wrL_one (s : ByteArray) : wrL [s] = wrT s := by
  simp only [wrL, wrT, List.all_cons, List.all_nil, Bool.and_true, decide_eq_false_iff_not, Nat.not_le]
theorem all_take_succ {α : Type} (p : α → Bool) (l : List α) (k : Nat) (h : k < l.length) (ha : (l.take k).all p = true) (hp : p l[k] = true) : (l.take (k + 1)).all p = true := by
  rw [List.take_succ_eq_append_getElem h, List.all_append, ha]; simp [hp]
theorem all_bad {α : Type} (p : α → Bool) (l : List α) (k : Nat) (h : k < l.length) (hp : p l[k] = false) : l.all p = false := by
  cases hx : l.all p with
  | false => rfl
  | true =>
    have := (List.all_eq_true.1 hx) l[k] (List.getElem_mem _)
    rw [hp] at this; cases this

set_option maxRecDepth 100000 in
set_option maxHeartbeats 1000000 in
theorem wrong_any (w : World) (a : Option Addr) (cap : Nat) (ps : List ByteArray) (hr : SRow w a ps) (hl : ps.length ≤ 1000000) (hs : ∀ s ∈ ps, s.size ≤ 4611686018427387904) :
    Calls Tryd.prog 87 #[.slice a ps.length cap] w fun e w' => e = .returned (.int .i64 (wrL ps : Int)) ∧ w' = w := by
  have HS : Hid (∀ s ∈ ps, s.size ≤ 4611686018427387904) := hs
  have HR : Hid (SRow w a ps) := hr
  have W2 : Hid (ps.all (fun s => isNum s.data.toList) = false → wrL ps = 2) := fun h => by simp only [wrL, h]; rfl
  have W3 : Hid (ps.all (fun s => isNum s.data.toList) = true → ps.all (fun s => decide (s.size ≤ 4000)) = false → wrL ps = 3) := fun h h2 => by simp only [wrL, h, h2]; rfl
  have W0 : Hid (ps.all (fun s => isNum s.data.toList) = true → ps.all (fun s => decide (s.size ≤ 4000)) = true → wrL ps = 0) := fun h h2 => by simp only [wrL, h, h2]; rfl
  generalize wrL ps = R at *
  clear hs hr
  go_enter Tryd.func87, Tryd.ntmps87
  go_wp2_with fail
  go_loop [9] (fun v => ∃ k : Nat, k ≤ ps.length ∧ v = .int .i64 k ∧ (ps.take k).all (fun s => isNum s.data.toList) = true) (fun v => ps.length - (intOf v).toNat)
  case atStart => exact ⟨0, Nat.zero_le _, rfl, rfl⟩
  case round =>
    obtain ⟨k, hk, rfl, hd⟩ := hrel
    have HD : Hid ((ps.take k).all (fun s => isNum s.data.toList) = true) := hd
    clear hd
    by_cases hlt : k < ps.length
    · have kl : (k : Int) < (ps.length : Int) := by omega
      obtain ⟨b, o, rfl, hc⟩ := HR.out k hlt
      have HC : Hid (∀ w, Calls Tryd.prog 109 #[.string ps[k]] w fun e w' => e = .returned (.bool (isNum ps[k].data.toList)) ∧ w' = w) := fun w => isNumber_any ps[k] w (HS.out _ (List.getElem_mem _))
      have G1 : Hid (isNum ps[k].data.toList = true → (ps.take (k + 1)).all (fun s => isNum s.data.toList) = true) := fun h => all_take_succ _ ps k hlt HD.out h
      have G2 : Hid (isNum ps[k].data.toList = false → R = 2) := fun h => W2.out (all_bad _ ps k hlt h)
      generalize ps[k] = s at *
      cases hn : isNum s.data.toList with
      | false =>
        have hR := G2.out hn
        subst hR
        rw [hn] at HC
        clear G1 G2 hn
        go_wp2_with (go_at_call 109; refine (HC.out _).mono ?_; rintro e w' ⟨rfl, rfl⟩)
        go_ret
        exact ⟨rfl, rfl⟩
      | true =>
        have HR2 : Hid ((ps.take (k + 1)).all (fun s => isNum s.data.toList) = true) := G1.out hn
        rw [hn] at HC
        clear G1 G2 hn
        go_wp2_with (go_at_call 109; refine (HC.out _).mono ?_; rintro e w' ⟨rfl, rfl⟩)
        go_round
        case rel => exact ⟨k + 1, by omega, by go_num, HR2.out⟩
        case measure => simp [intOf]; omega
    · obtain rfl : k = ps.length := by omega
      have HA : Hid (ps.all (fun s => isNum s.data.toList) = true) := by
        have := HD.out
        rw [List.take_length] at this
        exact this
      clear HD
      go_wp2_with fail
      go_loop [19] (fun v => ∃ k : Nat, k ≤ ps.length ∧ v = .int .i64 k ∧ (ps.take k).all (fun s => decide (s.size ≤ 4000)) = true) (fun v => ps.length - (intOf v).toNat)
      case atStart => exact ⟨0, Nat.zero_le _, rfl, rfl⟩
      case round =>
        obtain ⟨k, hk, rfl, hd⟩ := hrel
        have HD : Hid ((ps.take k).all (fun s => decide (s.size ≤ 4000)) = true) := hd
        clear hd
        by_cases hlt : k < ps.length
        · have kl : (k : Int) < (ps.length : Int) := by omega
          obtain ⟨b, o, rfl, hc⟩ := HR.out k hlt
          have G1 : Hid (ps[k].size ≤ 4000 → (ps.take (k + 1)).all (fun s => decide (s.size ≤ 4000)) = true) := fun h => all_take_succ _ ps k hlt HD.out (by simpa using h)
          have G2 : Hid (4000 < ps[k].size → R = 3) := fun h => W3.out HA.out (all_bad _ ps k hlt (by simpa using h))
          generalize ps[k] = s at *
          by_cases hz : 4000 < s.size
          · have hR := G2.out hz
            subst hR
            have hz' : (4000 : Int) < (s.size : Int) := by omega
            clear G1 G2
            go_wp2_with fail
            go_ret
            exact ⟨rfl, rfl⟩
          · have HR2 : Hid ((ps.take (k + 1)).all (fun s => decide (s.size ≤ 4000)) = true) := G1.out (by omega)
            have hz' : ¬ (4000 : Int) < (s.size : Int) := by omega
            clear G1 G2
            go_wp2_with fail
            go_round
            case rel => exact ⟨k + 1, by omega, by go_num, HR2.out⟩
            case measure => simp [intOf]; omega
        · obtain rfl : k = ps.length := by omega
          have hR := W0.out HA.out (by
            have := HD.out
            rw [List.take_length] at this
            exact this)
          subst hR
          clear HD
          go_wp2_with fail
          go_ret
          exact ⟨rfl, rfl⟩
end Go.Proofs.YtlgcnjinmcgacaaDoor
