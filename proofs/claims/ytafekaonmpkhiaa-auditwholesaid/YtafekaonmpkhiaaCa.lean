/- The custody's small functions. -/
import Derived.Test.YtafekaonmpkhiaaProg
import Derived.Test.YtafekaonmpkhiaaCu
import Derived.PlainAid
import Derived.Below
import Derived.Lib.ItoaNum
import Derived.Laws.AppendOwn
import Derived.Deep.MidRow
import Derived.Laws.IdiomCopy
import Derived.Deep.RegionWith
import Derived.Deep.RegionHeld
import Derived.WalkKit
import Derived.WalkSpells
import Derived.WalkLawsBesides
import Derived.Handy
import Derived.Deep.Draws
import Derived.Deep.QuietTactic
import Derived.BigQuiet
import Derived.Deep.LoopGhost
import Derived.Deep.OwnRows
set_option linter.unusedSimpArgs false
set_option linter.unusedVariables false
set_option maxRecDepth 100000
namespace Go.Proofs.Ytafekaonmpkhiaa
open Go.RowKit Go.Deep Go.PlainAid

theorem cell_lt {w : World} {b o : Nat} {v : Value} (h : w.cell? ⟨b, o, none⟩ = some v) : b < w.heap.size := World.block_lt_of_cell? _ _ h
theorem cell_keep {w w' : World} {b o : Nat} {v : Value} (h : w.cell? ⟨b, o, none⟩ = some v) (hb : Below w.heap.size w w') : w'.cell? ⟨b, o, none⟩ = some v := (World.cell?_of_block (a := ⟨b, o, none⟩) (hb.block b (cell_lt h))).trans h
/-- Block b holds these cells. -/
def IHolds (w : World) (b : Nat) (t : TypeId) (l : List Value) : Prop := w.heap[b]? = some (.cells l.toArray t)
theorem IHolds.lt {w : World} {b : Nat} {t : TypeId} {l : List Value} (h : IHolds w b t l) : b < w.heap.size := (Array.getElem?_eq_some_iff.1 h).1
theorem IHolds.cell {w : World} {b : Nat} {t : TypeId} {l : List Value} (h : IHolds w b t l) (i : Nat) (hi : i < l.length) : w.cell? ⟨b, i, none⟩ = some l[i] := by
  unfold IHolds at h
  simp [World.cell?, h, hi]
theorem IHolds.frozen {w : World} {b : Nat} {t : TypeId} {l : List Value} (h : IHolds w b t l) (i : Nat) : w.frozen? ⟨b, i, none⟩ = false := by
  unfold IHolds at h
  simp [World.frozen?, h]
theorem IHolds.new (w : World) (t : TypeId) (l : List Value) : IHolds (w.alloc (.cells l.toArray t)) w.heap.size t l := by
  show (w.heap.push _)[w.heap.size]? = _
  simp
theorem IHolds.of_below {w w' : World} {b : Nat} {t : TypeId} {l : List Value} (h : IHolds w b t l) (hb : Below w.heap.size w w') : IHolds w' b t l := by
  unfold IHolds; rw [hb.block _ h.lt]; exact h
theorem IHolds.set {w : World} {b : Nat} {t : TypeId} {l : List Value} (h : IHolds w b t l) (i : Nat) (x : Value) : IHolds (w.setCell ⟨b, i, none⟩ x) b t (l.set i x) := by
  unfold IHolds at *
  simp [World.setCell, Array.getElem?_modify, h, List.map_set]
theorem IHolds.alloc {w : World} {b : Nat} {t : TypeId} {l : List Value} (h : IHolds w b t l) (o : Obj) : IHolds (w.alloc o) b t l := h.of_below ((Below.refl _ _).alloc (Nat.le_refl _) _)
theorem IHolds.store {w : World} {b b' : Nat} {T : TypeId} {V : List Value} (h : IHolds w b' T V) (hne : b' ≠ b) (i : Nat) (u : Value) : IHolds (w.setCell ⟨b, i, none⟩ u) b' T V := by
  unfold IHolds at *
  simp [World.setCell, Array.getElem?_modify, h, Ne.symm hne]
theorem IHolds.drewN {w : World} {b : Nat} {t : TypeId} {l : List Value} (h : IHolds w b t l) (n : Nat) : IHolds (w.drewN n) b t l := h
theorem len_eq (s : ByteArray) : s.data.toList.length = s.size := rfl
theorem empty_iff (s : ByteArray) : (s.toList.isEmpty = true) ↔ s = ⟨#[]⟩ := by
  rw [ByteArray.toList_eq]
  constructor
  · intro h
    have : s.data.toList = [] := by simpa using h
    cases s with
    | mk d => simp only [ByteArray.mk.injEq]; exact Array.toList_inj.1 (by simpa using this)
  · intro h; subst h; rfl
theorem signs_no {s : ByteArray} (k : Nat) (h : k < s.data.toList.length) (hc : ¬ (33 ≤ s.data.toList[k].toNat ∧ s.data.toList[k].toNat ≤ 126)) : signsB s = false := by
  cases q : signsB s with
  | false => rfl
  | true =>
    simp only [signsB, Bool.and_eq_true] at q
    have := List.all_eq_true.1 q.1 _ (List.getElem_mem h)
    exact absurd (by simpa using this) hc
theorem signs_yes {s : ByteArray} (h : ∀ k (h : k < s.data.toList.length), 33 ≤ s.data.toList[k].toNat ∧ s.data.toList[k].toNat ≤ 126) : signsB s = decide (s ≠ ⟨#[]⟩) := by
  unfold signsB
  rw [List.all_eq_true.2 (fun c hc => by obtain ⟨k, hk, rfl⟩ := List.getElem_of_mem hc; exact decide_eq_true (h k hk)), Bool.true_and]
set_option maxHeartbeats 2000000 in
theorem signs38 (s : ByteArray) (hs : s.size ≤ 140737488355328) (w : World) : Calls Try.prog 38 #[.string s] w fun e w' => e = .returned (.bool (signsB s)) ∧ w' = w := by
  have hb := get_bt s
  obtain ⟨z, hz⟩ : ∃ z, signsB s = z := ⟨_, rfl⟩
  have HZ : Hid (signsB s = z) := hz
  rw [hz]
  clear hz
  go_enter Try.func38, Try.ntmps38
  go_wp2_with fail
  go_loopg [3, 6] s.size (fun gk v3 v6 wr => ∃ i : Nat, i + gk = s.size ∧ v6 = .int .i64 (i : Int) ∧ (∀ k (h : k < s.data.toList.length), k < i → 33 ≤ s.data.toList[k].toNat ∧ s.data.toList[k].toNat ≤ 126) ∧ wr = w)
  case atStart => exact ⟨0, by omega, rfl, fun k _ h => by omega, rfl⟩
  case round =>
    obtain ⟨i, hig, rfl, hx, rfl⟩ := hrel
    have HX : Hid (∀ k (h : k < s.data.toList.length), k < i → 33 ≤ s.data.toList[k].toNat ∧ s.data.toList[k].toNat ≤ 126) := hx
    clear hx
    by_cases hi : i < s.size
    · have il : (i : Int) < (s.size : Int) := by omega
      have hi2 : i < s.data.toList.length := hi
      have e1 := hb i hi
      have ec : (s[i]'hi) = (s.data.toList[i]'hi2) := rfl
      rw [ec] at e1
      have HNo : Hid (¬ (33 ≤ (s.data.toList[i]'hi2).toNat ∧ (s.data.toList[i]'hi2).toNat ≤ 126) → signsB s = false) := fun q => signs_no i hi2 q
      have HYes : Hid (33 ≤ (s.data.toList[i]'hi2).toNat ∧ (s.data.toList[i]'hi2).toNat ≤ 126 → ∀ k (h : k < s.data.toList.length), k < i + 1 → 33 ≤ s.data.toList[k].toNat ∧ s.data.toList[k].toNat ≤ 126) := fun q k h hk => by
        by_cases e : k = i
        · subst e; exact q
        · exact HX.out k h (by omega)
      clear ec
      generalize (s.data.toList[i]'hi2).toNat = c at *
      by_cases c1 : c < 33
      · have HR : Hid (z = false) := by show _ = _; rw [← HZ.out]; exact HNo.out (by omega)
        have c1' : bt s i < 33 := by omega
        clear HNo HYes HX HZ e1 c1
        go_wp2_with fail
        go_ret
        exact ⟨by rw [HR.out]; rfl, rfl⟩
      · have c1' : ¬ bt s i < 33 := by omega
        by_cases c2 : 126 < c
        · have HR : Hid (z = false) := by show _ = _; rw [← HZ.out]; exact HNo.out (by omega)
          have c2' : 126 < bt s i := by omega
          clear HNo HYes HX HZ e1 c1 c2
          go_wp2_with fail
          go_ret
          exact ⟨by rw [HR.out]; rfl, rfl⟩
        · have c2' : ¬ 126 < bt s i := by omega
          have HY := HYes.out ⟨by omega, by omega⟩
          have HX2 : Hid (∀ k (h : k < s.data.toList.length), k < i + 1 → 33 ≤ s.data.toList[k].toNat ∧ s.data.toList[k].toNat ≤ 126) := HY
          clear HNo HYes HY HX e1 c1 c2
          go_wp2_with fail
          go_roundg (gk - 1)
          case measure => omega
          case rel => exact ⟨i + 1, by omega, by go_num, HX2.out, rfl⟩
    · have il : ¬ (i : Int) < (s.size : Int) := by omega
      have e := signs_yes (s := s) (fun k hk => HX.out k hk (by rw [len_eq] at hk; omega))
      cases q : s.toList.isEmpty with
      | true =>
        have HT : Hid (z = false) := by show _ = _; rw [← HZ.out, e]; simp [(empty_iff s).1 q]
        go_wp2_with fail
        go_ret
        exact ⟨by rw [HT.out]; rfl, rfl⟩
      | false =>
        have HT : Hid (z = true) := by
          show _ = _
          rw [← HZ.out, e]
          refine decide_eq_true fun h => ?_
          rw [(empty_iff s).2 h] at q; cases q
        go_wp2_with fail
        go_ret
        exact ⟨by rw [HT.out]; rfl, rfl⟩
end Go.Proofs.Ytafekaonmpkhiaa
