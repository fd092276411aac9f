/- The reference's WrongScalars. -/
import Derived.Test.YtfbceknafmkipaaGreatSm2
set_option linter.unusedSimpArgs false
set_option linter.unusedVariables false
set_option maxRecDepth 100000
namespace Go.Proofs.YtfbceknafmkipaaGreat
open Go.RowKit Go.Deep Go.PlainAid

theorem all_take {α : Type} (p : α → Bool) {l : List α} {i : Nat} (h : i < l.length) : (l.take (i + 1)).all p = ((l.take i).all p && p l[i]) := by
  rw [List.take_succ_eq_append_getElem h, List.all_append, List.all_cons, List.all_nil, Bool.and_true]
theorem all_not {α : Type} (p : α → Bool) {l : List α} {i : Nat} (h : i < l.length) (hp : p l[i] = false) : l.all p = false := by
  rw [List.all_eq_false]; exact ⟨l[i], List.getElem_mem h, by simp [hp]⟩
set_option maxHeartbeats 1000000 in
theorem wrongScalars23 {w : World} {a qa pa : Option Addr} {l : List ByteArray} {c ql qc pl pc : Nat} {S : Int} (p : ByteArray → Bool) (hl : l.length ≤ 8796093022207) (hs : SL w a l)
    (CS : ∀ s W, Below w.heap.size w W → Calls Tryz.prog 26 #[.agg #[.int .i64 S, .slice qa ql qc, .slice pa pl pc], .string s] W fun e w' => e = .returned (.bool (p s)) ∧ Below W.heap.size W w') :
    Calls Tryz.prog 18 #[.agg #[.int .i64 S, .slice qa ql qc, .slice pa pl pc], .int .i64 (l.length : Int), .slice a l.length c] w fun e w' => e = .returned (.int .i64 (if l.all p = true then 0 else 6)) ∧ Below w.heap.size w w' := by
  generalize hW : w.alloc (.cells #[.int .i64 S, .slice qa ql qc, .slice pa pl pc] 48) = W
  have J : Hid (Below w.heap.size w W) := by rw [← hW]; exact (Below.refl _ w).alloc (Nat.le_refl _) _
  have I0 : Hid (IHolds W w.heap.size 48 [.int .i64 S, .slice qa ql qc, .slice pa pl pc]) := by rw [← hW]; exact IHolds.new' w 48 [.int .i64 S, .slice qa ql qc, .slice pa pl pc] rfl
  have HS : Hid (SL W a l) := hs.of_below J.out
  obtain ⟨cz, hcz⟩ : ∃ cz : Int, cz = if l.all p = true then 0 else 6 := ⟨_, rfl⟩
  rw [← hcz]
  have HC0 : Hid (l.all p = true → cz = 0) := fun h => by rw [hcz, if_pos h]
  have HC6 : Hid (l.all p = false → cz = 6) := fun h => by rw [hcz, h]; rfl
  clear hs hcz
  go_enter Tryz.func18, Tryz.ntmps18
  go_wp2_with fail
  clear hW
  go_loopg [8, 15] l.length (fun gk v8 v15 wr => ∃ i : Nat, i + gk = l.length ∧ v15 = .int .i64 (i : Int) ∧ Below W.heap.size W wr ∧ (l.take i).all p = true)
  case atStart => exact ⟨0, by omega, rfl, Below.refl _ _, by simp⟩
  case round =>
    obtain ⟨i, hig, rfl, hB, hn⟩ := hrel
    have B : Hid (Below W.heap.size W wr) := hB
    have HN : Hid ((l.take i).all p = true) := hn
    clear hB hn
    have q0 : wr.cell? ⟨w.heap.size, 0, none⟩ = some (.int .i64 S) := cell_keep (I0.out.cell 0 (by simp)) B.out
    have q1 : wr.cell? ⟨w.heap.size, 1, none⟩ = some (.slice qa ql qc) := cell_keep (I0.out.cell 1 (by simp)) B.out
    have q2 : wr.cell? ⟨w.heap.size, 2, none⟩ = some (.slice pa pl pc) := cell_keep (I0.out.cell 2 (by simp)) B.out
    by_cases hi : i < l.length
    · obtain ⟨b, o, rfl, hc⟩ := HS.out.of_below B.out i hi
      have il : (i : Int) < (l.length : Int) := by omega
      have hcall := CS l[i] wr (J.out.trans (B.out.mono J.out.size))
      have HT : Hid _ := all_take p hi
      have HO : Hid _ := all_not p hi
      generalize l[i] = s at *
      cases hp : p s with
      | true =>
        rw [hp] at hcall
        go_wp2_with (go_at_call 26; refine hcall.mono ?_; rintro e w3 ⟨rfl, hB3⟩)
        go_roundg (gk - 1)
        case measure => omega
        case rel => exact ⟨i + 1, by omega, by go_num, B.out.trans (hB3.mono B.out.size), by rw [HT.out, HN.out, hp]; rfl⟩
      | false =>
        rw [hp] at hcall
        have HF : Hid (l.all p = false) := HO.out hp
        go_wp2_with (go_at_call 26; refine hcall.mono ?_; rintro e w3 ⟨rfl, hB3⟩)
        go_ret
        exact ⟨by rw [HC6.out HF.out]; rfl, J.out.trans ((B.out.trans (hB3.mono B.out.size)).mono J.out.size)⟩
    · have il : ¬ (i : Int) < (l.length : Int) := by omega
      have HF : Hid (l.all p = true) := by have := HN.out; rw [List.take_of_length_le (by omega)] at this; exact this
      go_wp2_with fail
      go_ret
      exact ⟨by rw [HC0.out HF.out]; rfl, J.out.trans (B.out.mono J.out.size)⟩
end Go.Proofs.YtfbceknafmkipaaGreat
