/- Fits, and the document's, walked. -/
import Derived.Test.YtcdmndcpjememaaProg
import Derived.Test.YtcdmndcpjememaaPlain
import Derived.PlainAid
import Derived.Below
import Derived.Lib.ItoaNum
import Derived.Laws.AppendOwn
import Derived.Deep.MidRow
import Derived.Laws.IdiomCopy
import Derived.Deep.RegionWith
import Derived.Deep.RegionHeld
import Derived.WalkKit
import Derived.WalkSpells
import Derived.WalkLawsBesides
import Derived.Handy
import Derived.Deep.Draws
import Derived.Deep.QuietTactic
import Derived.BigQuiet
import Derived.Deep.LoopGhost
import Derived.Deep.OwnRows
set_option linter.unusedSimpArgs false
set_option linter.unusedVariables false
set_option maxRecDepth 100000
namespace Go.Proofs.Ytcdmndcpjememaa
open Go.RowKit Go.Deep Go.PlainAid

/-- A contest as a value. -/
def CV (nm : ByteArray) (a : Option Addr) (n c : Nat) (r s m : Int) : Value := .agg #[.string nm, .slice a n c, .int .i64 r, .int .i64 s, .int .i64 m]
theorem cell_lt {w : World} {b o : Nat} {v : Value} (h : w.cell? ⟨b, o, none⟩ = some v) : b < w.heap.size := World.block_lt_of_cell? _ _ h
theorem cell_keep {w w' : World} {b o : Nat} {v : Value} (h : w.cell? ⟨b, o, none⟩ = some v) (hb : Below w.heap.size w w') : w'.cell? ⟨b, o, none⟩ = some v := (World.cell?_of_block (a := ⟨b, o, none⟩) (hb.block b (cell_lt h))).trans h
/-- Block b holds these cells. -/
def IHolds (w : World) (b : Nat) (t : TypeId) (l : List Value) : Prop := w.heap[b]? = some (.cells l.toArray t)
theorem IHolds.lt {w : World} {b : Nat} {t : TypeId} {l : List Value} (h : IHolds w b t l) : b < w.heap.size := (Array.getElem?_eq_some_iff.1 h).1
theorem IHolds.cell {w : World} {b : Nat} {t : TypeId} {l : List Value} (h : IHolds w b t l) (i : Nat) (hi : i < l.length) : w.cell? ⟨b, i, none⟩ = some l[i] := by
  unfold IHolds at h
  simp [World.cell?, h, hi]
theorem IHolds.frozen {w : World} {b : Nat} {t : TypeId} {l : List Value} (h : IHolds w b t l) (i : Nat) : w.frozen? ⟨b, i, none⟩ = false := by
  unfold IHolds at h
  simp [World.frozen?, h]
theorem IHolds.new (w : World) (t : TypeId) (l : List Value) : IHolds (w.alloc (.cells l.toArray t)) w.heap.size t l := by
  show (w.heap.push _)[w.heap.size]? = _
  simp
theorem IHolds.of_below {w w' : World} {b : Nat} {t : TypeId} {l : List Value} (h : IHolds w b t l) (hb : Below w.heap.size w w') : IHolds w' b t l := by
  unfold IHolds; rw [hb.block _ h.lt]; exact h
theorem IHolds.set {w : World} {b : Nat} {t : TypeId} {l : List Value} (h : IHolds w b t l) (i : Nat) (x : Value) : IHolds (w.setCell ⟨b, i, none⟩ x) b t (l.set i x) := by
  unfold IHolds at *
  simp [World.setCell, Array.getElem?_modify, h, List.map_set]
/-- A list of numbers. -/
def IL (w : World) (a : Option Addr) (l : List Int) : Prop := ∀ i (h : i < l.length), ∃ b o, a = some ⟨b, o, none⟩ ∧ w.cell? ⟨b, o + i, none⟩ = some (.int .i64 l[i])
theorem IL.of_below {w w' : World} {a : Option Addr} {l : List Int} (h : IL w a l) (hb : Below w.heap.size w w') : IL w' a l := by
  intro i hi
  obtain ⟨b, o, e, hc⟩ := h i hi
  exact ⟨b, o, e, cell_keep hc hb⟩
/-- Ranks are asked for. -/
def rk (r : Int) : Bool := r == 3 || r == 4
theorem ranks10 (nm : ByteArray) (a : Option Addr) (n c : Nat) (r s m : Int) (w : World) : Calls Try.prog 43 #[CV nm a n c r s m] w fun e w' => e = .returned (.bool (rk r)) ∧ Below w.heap.size w w' := by
  unfold CV rk
  have B : Hid (Below w.heap.size w (w.alloc (.cells #[.string nm, .slice a n c, .int .i64 r, .int .i64 s, .int .i64 m] 24))) := (Below.refl _ _).alloc (Nat.le_refl _) _
  cases h3 : (r == 3)
  · go_enter Try.func43, Try.ntmps43
    go_wp2_with fail
    go_ret
    exact ⟨by simp, B.out⟩
  · go_enter Try.func43, Try.ntmps43
    go_wp2_with fail
    go_ret
    exact ⟨by simp, B.out⟩
theorem ranks9 (nm : ByteArray) (a : Option Addr) (n c : Nat) (r s m : Int) (w : World) : Calls Try.prog 39 #[CV nm a n c r s m] w fun e w' => e = .returned (.bool (rk r)) ∧ Below w.heap.size w w' := by
  unfold CV rk
  have B : Hid (Below w.heap.size w (w.alloc (.cells #[.string nm, .slice a n c, .int .i64 r, .int .i64 s, .int .i64 m] 24))) := (Below.refl _ _).alloc (Nat.le_refl _) _
  cases h3 : (r == 3)
  · go_enter Try.func39, Try.ntmps39
    go_wp2_with fail
    go_ret
    exact ⟨by simp, B.out⟩
  · go_enter Try.func39, Try.ntmps39
    go_wp2_with fail
    go_ret
    exact ⟨by simp, B.out⟩
theorem top7 (nm : ByteArray) (a : Option Addr) (n c : Nat) (r s m : Int) (w : World) : Calls Try.prog 37 #[CV nm a n c r s m] w fun e w' => e = .returned (.int .i64 (if rk r then (n : Int) else 1)) ∧ Below w.heap.size w w' := by
  have H9 : Hid _ := ranks9 nm a n c r s m
  unfold CV at *
  have B : Hid (Below w.heap.size w (w.alloc (.cells #[.string nm, .slice a n c, .int .i64 r, .int .i64 s, .int .i64 m] 24))) := (Below.refl _ _).alloc (Nat.le_refl _) _
  have D : Hid (((w.alloc (.cells #[.string nm, .slice a n c, .int .i64 r, .int .i64 s, .int .i64 m] 24))).cell? ⟨w.heap.size, 1, none⟩ = some (.slice a n c)) := (IHolds.new w 24 [.string nm, .slice a n c, .int .i64 r, .int .i64 s, .int .i64 m]).cell 1 (by simp)
  generalize rk r = t at *
  cases t
  · go_enter Try.func37, Try.ntmps37
    go_wp2_with (go_at_call 39; refine (H9.out _).mono ?_; rintro e w1 ⟨rfl, hB1⟩)
    go_ret
    exact ⟨rfl, B.out.trans (hB1.mono B.out.size)⟩
  · go_enter Try.func37, Try.ntmps37
    go_wp2_with (go_at_call 39; refine (H9.out _).mono ?_; rintro e w1 ⟨rfl, hB1⟩; have hc := cell_keep D.out hB1)
    go_ret
    exact ⟨rfl, B.out.trans (hB1.mono B.out.size)⟩
set_option maxHeartbeats 1000000 in
theorem times8 {w : World} {a : Option Addr} {l : List Int} {c : Nat} (x : Int) (hl : l.length ≤ 1000) (hs : IL w a l) :
    Calls Try.prog 38 #[.slice a l.length c, .int .i64 x] w fun e w' => e = .returned (.int .i64 (l.count x : Nat)) ∧ w' = w := by
  have HS : Hid (IL w a l) := hs
  clear hs
  go_enter Try.func38, Try.ntmps38
  go_wp2_with fail
  go_loopg [5, 7, 10] l.length (fun gk v5 v7 v10 wr => ∃ i : Nat, i + gk = l.length ∧ v10 = .int .i64 (i : Int) ∧ v5 = .int .i64 ((l.take i).count x : Nat) ∧ wr = w)
  case atStart => exact ⟨0, by omega, rfl, by simp, rfl⟩
  case round =>
    obtain ⟨i, hig, rfl, rfl, rfl⟩ := hrel
    by_cases hi : i < l.length
    · obtain ⟨b, o, rfl, hc⟩ := HS.out i hi
      have il : (i : Int) < (l.length : Int) := by omega
      have HT : Hid _ := count_take hi x
      have hle : (l.take i).count x ≤ 1000 := Nat.le_trans List.count_le_length (by simp; omega)
      generalize hk : (l.take i).count x = k at *
      generalize l[i] = y at *
      clear hk
      cases hy : (y == x) with
      | true =>
        go_wp2_with fail
        go_roundg (gk - 1)
        case measure => omega
        case rel => exact ⟨i + 1, by omega, by go_num, by rw [HT.out, hy]; simp, rfl⟩
      | false =>
        go_wp2_with fail
        go_roundg (gk - 1)
        case measure => omega
        case rel => exact ⟨i + 1, by omega, by go_num, by rw [HT.out, hy]; simp, rfl⟩
    · have il : ¬ (i : Int) < (l.length : Int) := by omega
      have e : i = l.length := by omega
      have ht : (l.take i).count x = l.count x := by rw [e, List.take_length]
      rw [ht]
      go_wp2_with fail
      go_ret
      exact ⟨rfl, rfl⟩
end Go.Proofs.Ytcdmndcpjememaa
