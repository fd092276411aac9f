/- The library's functions at this program: CutPrefix, Clone, Cut at a text of one byte; blocks of memory. -/
import Derived.Test.YtlogilmeefcipaaUpto
import Derived.Shelf.Small.Wraps
import Derived.Shelf.LaysM
import Derived.Shelf.Strconv.Clone
import Derived.Shelf.Strings.Search1
import Derived.Shelf.Strings.Search2
import Derived.Deep.OwnRows
set_option linter.unusedSimpArgs false
set_option linter.unusedVariables false
set_option maxRecDepth 100000
namespace Go.Proofs.Ytlogilmeefcipaa
open Go.RowKit Go.Deep Go.PlainAid Go.Shelf

def Try.lays103_ren : Go.Shelf.Ren := ⟨fun | 103 => 40 | 210 => 49 | 206 => 53 | n => n, fun | 9 => 9 | 4 => 4 | 24 => 69 | 3 => 3 | n => n, fun | n => n⟩
theorem Try.lays103 : Go.Proofs.Lays.n103 Try.prog Try.lays103_ren := {
  mixed := by kernel_rfl
  f103 := Try.func40.trans (congrArg some (by kernel_rfl))
  f206 := Try.func53.trans (congrArg some (by kernel_rfl))
  f210 := Try.func49.trans (congrArg some (by kernel_rfl))
  t3 := Try.underlying3
  a3 := Try.isAgg3
  z3 := Try.sizeOf3
  v3 := Try.zeroValue3
  t4 := Try.underlying4
  a4 := Try.isAgg4
  z4 := Try.sizeOf4
  v4 := Try.zeroValue4
  t9 := Try.underlying9
  a9 := Try.isAgg9
  z9 := Try.sizeOf9
  v9 := Try.zeroValue9
  t24 := Try.underlying69
  a24 := Try.isAgg69
  z24 := Try.sizeOf69
  v24 := Try.zeroValue69 }
open Go.RowKit in
theorem Try.strings_CutPrefix (s p : ByteArray) (w : World) :
    Calls Try.prog 40 #[.string s, .string p] w fun e w' => e = .returned (.tuple #[.string ⟨(Lib.trimPrefix s.data.toList p.data.toList).toArray⟩, .bool (Lib.hasPrefix s.data.toList p.data.toList)]) ∧ w' = w := Any.strings_CutPrefix Try.lays103 s p w
def Try.laysM316_ren : Go.Shelf.Ren := ⟨fun | 316 => 51 | n => n, fun | 9 => 9 | 3 => 3 | 4 => 4 | 37 => 35 | 0 => 0 | 127 => 67 | 5 => 5 | n => n, fun | n => n⟩
theorem Try.laysM316 : Go.Proofs.LaysM.n316 Try.prog Try.laysM316_ren := {
  mixed := by kernel_rfl
  f316 := Try.func51.trans (congrArg some (by kernel_rfl))
  t0 := Try.underlying0
  a0 := Try.isAgg0
  z0 := Try.sizeOf0
  v0 := Try.zeroValue0
  t3 := Try.underlying3
  a3 := Try.isAgg3
  z3 := Try.sizeOf3
  v3 := Try.zeroValue3
  t4 := Try.underlying4
  a4 := Try.isAgg4
  z4 := Try.sizeOf4
  v4 := Try.zeroValue4
  t9 := Try.underlying9
  a9 := Try.isAgg9
  z9 := Try.sizeOf9
  v9 := Try.zeroValue9
  t37 := Try.underlying35
  a37 := Try.isAgg35
  z37 := Try.sizeOf35
  v37 := Try.zeroValue35
  t127 := Try.underlying67
  a127 := Try.isAgg67
  z127 := Try.sizeOf67
  v127 := Try.zeroValue67
  t5 := Try.underlying5
  a5 := Try.isAgg5
  z5 := Try.sizeOf5
  v5 := Try.zeroValue5
  i0 := by kernel_rfl
  i3 := by kernel_rfl
  i4 := by kernel_rfl
  i5 := by kernel_rfl
  i9 := by kernel_rfl
  i37 := by kernel_rfl
  i127 := by kernel_rfl }
open Go.RowKit in
theorem Try.stringslite_Clone (s : ByteArray) (w : World) (hlim : s.size ≤ 281474976710656) :
    Calls Try.prog 51 #[.string s] w fun e w' => e = .returned (.string s) ∧ Below w.heap.size w w' := Any.stringslite_Clone Try.laysM316 s w hlim
def Try.lays219_ren : Go.Shelf.Ren := ⟨fun | 219 => 54 | 217 => 52 | 225 => 48 | 224 => 47 | 267 => 56 | 266 => 55 | 314 => 57 | n => n, fun | 9 => 9 | 3 => 3 | 4 => 4 | 5 => 5 | 46 => 65 | 146 => 81 | 51 => 80 | n => n, fun | 1 => 0 | n => n⟩
theorem Try.lays219 : Go.Proofs.Lays.n219 Try.prog Try.lays219_ren := {
  mixed := by kernel_rfl
  f217 := Try.func52.trans (congrArg some (by kernel_rfl))
  f219 := Try.func54.trans (congrArg some (by kernel_rfl))
  f224 := Try.func47.trans (congrArg some (by kernel_rfl))
  f225 := Try.func48.trans (congrArg some (by kernel_rfl))
  f266 := Try.func55.trans (congrArg some (by kernel_rfl))
  f267 := Try.func56.trans (congrArg some (by kernel_rfl))
  f314 := Try.func57.trans (congrArg some (by kernel_rfl))
  t3 := Try.underlying3
  a3 := Try.isAgg3
  z3 := Try.sizeOf3
  v3 := Try.zeroValue3
  t4 := Try.underlying4
  a4 := Try.isAgg4
  z4 := Try.sizeOf4
  v4 := Try.zeroValue4
  t5 := Try.underlying5
  a5 := Try.isAgg5
  z5 := Try.sizeOf5
  v5 := Try.zeroValue5
  t9 := Try.underlying9
  a9 := Try.isAgg9
  z9 := Try.sizeOf9
  v9 := Try.zeroValue9
  t46 := Try.underlying65
  a46 := Try.isAgg65
  z46 := Try.sizeOf65
  v46 := Try.zeroValue65
  t51 := Try.underlying80
  a51 := Try.isAgg80
  z51 := Try.sizeOf80
  v51 := Try.zeroValue80
  t146 := Try.underlying81
  a146 := Try.isAgg81
  z146 := Try.sizeOf81
  v146 := Try.zeroValue81
  g1 := by kernel_rfl }
open Go.RowKit Go.Lib in
theorem Try.stringslite_Index_one (s : ByteArray) (c : UInt8) (w : World) :
    Calls Try.prog 54 #[.string s, .string ⟨#[c]⟩] w fun e w' => e = .returned (.int .i64 (Lib.indexByte s.data.toList c)) ∧ w' = w := Any.stringslite_Index_one Try.lays219 s c w

/-- Block b is an array of these numbers. -/
def IHolds (w : World) (b : Nat) (t : TypeId) (l : List Value) : Prop := w.heap[b]? = some (.cells l.toArray t)
theorem IHolds.lt {w : World} {b : Nat} {t : TypeId} {l : List Value} (h : IHolds w b t l) : b < w.heap.size := (Array.getElem?_eq_some_iff.1 h).1
theorem IHolds.cell {w : World} {b : Nat} {t : TypeId} {l : List Value} (h : IHolds w b t l) (i : Nat) (hi : i < l.length) : w.cell? ⟨b, i, none⟩ = some l[i] := by
  unfold IHolds at h
  simp [World.cell?, h, hi]
theorem IHolds.frozen {w : World} {b : Nat} {t : TypeId} {l : List Value} (h : IHolds w b t l) (i : Nat) : w.frozen? ⟨b, i, none⟩ = false := by
  unfold IHolds at h
  simp [World.frozen?, h]
theorem IHolds.set {w : World} {b : Nat} {t : TypeId} {l : List Value} (h : IHolds w b t l) (i : Nat) (x : Value) : IHolds (w.setCell ⟨b, i, none⟩ x) b t (l.set i x) := by
  unfold IHolds at *
  simp [World.setCell, Array.getElem?_modify, h, List.map_set]
theorem IHolds.drewN {w : World} {b : Nat} {t : TypeId} {l : List Value} (h : IHolds w b t l) (n : Nat) : IHolds (w.drewN n) b t l := h
theorem IHolds.alloc {w : World} {b : Nat} {t : TypeId} {l : List Value} (h : IHolds w b t l) (o : Obj) : IHolds (w.alloc o) b t l := by
  unfold IHolds; rw [Below.heap_alloc _ _ _ h.lt]; exact h
theorem IHolds.new (w : World) (t : TypeId) (l : List Value) : IHolds (w.alloc (.cells l.toArray t)) w.heap.size t l := by
  show (w.heap.push _)[w.heap.size]? = _
  simp
theorem IHolds.of_below {w w' : World} {b : Nat} {t : TypeId} {l : List Value} (h : IHolds w b t l) (hb : Below w.heap.size w w') : IHolds w' b t l := by
  unfold IHolds; rw [hb.block _ h.lt]; exact h
/-- Nothing but block b has turned, of what was there. -/
structure But (b : Nat) (w w' : World) : Prop where
  os : w'.os = w.os
  tape : w'.tape = w.tape
  output : w'.output = w.output
  size : w.heap.size ≤ w'.heap.size
  block : ∀ k, k < w.heap.size → k ≠ b → w'.heap[k]? = w.heap[k]?
theorem But.refl (b : Nat) (w : World) : But b w w := ⟨rfl, rfl, rfl, Nat.le_refl _, fun _ _ _ => rfl⟩
theorem But.trans {b : Nat} {u v w : World} (h : But b u v) (k : But b v w) : But b u w :=
  ⟨k.os.trans h.os, k.tape.trans h.tape, k.output.trans h.output, Nat.le_trans h.size k.size, fun i hi hb => (k.block i (Nat.lt_of_lt_of_le hi h.size) hb).trans (h.block i hi hb)⟩
theorem But.drewN {b : Nat} {u w : World} (h : But b u w) (n : Nat) : But b u (w.drewN n) := ⟨h.os, h.tape, h.output, h.size, h.block⟩
theorem But.setCell {b : Nat} {u w : World} (h : But b u w) (i : Nat) (x : Value) : But b u (w.setCell ⟨b, i, none⟩ x) :=
  h.trans ⟨rfl, rfl, rfl, by simp [World.setCell], fun k _ hb => Below.heap_setCell _ _ _ _ hb⟩
theorem But.cell {b : Nat} {u w : World} (h : But b u w) {k : Nat} (hk : k < u.heap.size) (hb : k ≠ b) (i : Nat) : w.cell? ⟨k, i, none⟩ = u.cell? ⟨k, i, none⟩ :=
  World.cell?_of_block (w := u) (h.block k hk hb)
/-- A text, as a value. -/
abbrev S (l : List UInt8) : Value := .string ⟨l.toArray⟩
theorem hasPrefix_one (l : List UInt8) (c : UInt8) : Lib.hasPrefix l [c] = (l.head? == some c) := by
  cases l <;> simp [Lib.hasPrefix, List.isPrefixOf, Bool.beq_comm] <;> try rfl
theorem trimPrefix_one (l : List UInt8) (c : UInt8) : Lib.trimPrefix l [c] = (if l.head? = some c then l.tail else l) := by
  rw [Lib.trimPrefix, hasPrefix_one]
  cases l <;> simp
theorem cutPrefix_one (l : List UInt8) (c : UInt8) (w : World) : Calls Try.prog 40 #[S l, .string ⟨#[c]⟩] w fun e w' => e = .returned (.tuple #[S (if l.head? = some c then l.tail else l), .bool (l.head? == some c)]) ∧ w' = w := by
  have h := Try.strings_CutPrefix ⟨l.toArray⟩ ⟨#[c]⟩ w
  have e1 : (⟨l.toArray⟩ : ByteArray).data.toList = l := by simp
  have e2 : (⟨#[c]⟩ : ByteArray).data.toList = [c] := rfl
  rw [e1, e2, hasPrefix_one, trimPrefix_one] at h
  exact h
theorem clone_any (s : ByteArray) (w : World) (hlim : s.size ≤ 281474976710656) : Calls Try.prog 43 #[.string s] w fun e w' => e = .returned (.string s) ∧ Below w.heap.size w w' := by
  go_enter Try.func43, Try.ntmps43
  go_wp2_with (go_at_call 51; refine (Try.stringslite_Clone _ _ hlim).mono ?_; rintro e w1 ⟨rfl, hB⟩)
  go_ret
  exact ⟨rfl, hB⟩
theorem ext_S (l : List UInt8) (a b : Nat) : (⟨l.toArray⟩ : ByteArray).extract a b = ⟨((l.take b).drop a).toArray⟩ := by
  apply ByteArray.ext
  rw [ByteArray.data_extract]
  simp [List.extract_eq_take_drop, List.drop_take]
theorem bel_drew {B : Nat} {a w : World} (h : Below B a w) (n : Nat) : Below B a (w.drewN n) := h.trans ⟨rfl, rfl, rfl, Nat.le_refl _, fun _ _ => rfl⟩
theorem size_S (l : List UInt8) : (⟨l.toArray⟩ : ByteArray).size = l.length := by simp [ByteArray.size]
theorem cut_no (l : List UInt8) (hl : l.length < 140737488355328) (h : Lib.indexByte l 58 = -1) (w : World) : Calls Try.prog 50 #[S l, .string ⟨#[58]⟩] w fun e w' => e = .returned (.tuple #[S l, S [], .bool false]) ∧ Below w.heap.size w w' := by
  have hi := Try.stringslite_Index_one ⟨l.toArray⟩ 58
  have e1 : (⟨l.toArray⟩ : ByteArray).data.toList = l := by simp
  rw [e1, h] at hi
  go_enter Try.func50, Try.ntmps50
  go_wp2_with (go_at_call 54; refine (hi _).mono ?_; rintro e w1 ⟨rfl, rfl⟩)
  go_ret3
  exact ⟨rfl, Below.refl _ _⟩
theorem cut_yes (l : List UInt8) (hl : l.length < 140737488355328) (i : Nat) (hi' : i < l.length) (h : Lib.indexByte l 58 = (i : Int)) (w : World) : Calls Try.prog 50 #[S l, .string ⟨#[58]⟩] w fun e w' => e = .returned (.tuple #[S (l.take i), S (l.drop (i + 1)), .bool true]) ∧ Below w.heap.size w w' := by
  have hi := Try.stringslite_Index_one ⟨l.toArray⟩ 58
  have e1 : (⟨l.toArray⟩ : ByteArray).data.toList = l := by simp
  have e2 := size_S l
  rw [e1, h] at hi
  go_enter Try.func50, Try.ntmps50
  go_wp2_with (go_at_call 54; refine (hi _).mono ?_; rintro e w1 ⟨rfl, rfl⟩)
  go_quiet (fail)
  go_wp2_with fail
  go_ret3
  refine ⟨?_, bel_drew (Below.refl _ _) _⟩
  rw [ext_S, ext_S, List.take_length, List.drop_zero]
  rfl
theorem indexByte_find (c : UInt8) : ∀ l : List UInt8, Lib.indexByte l c = (match l.findIdx? (· == c) with | some i => (i : Int) | none => -1)
  | [] => rfl
  | x :: l => by
    rw [Lib.indexByte, List.findIdx?_cons, indexByte_find c l]
    by_cases h : (x == c) = true
    · simp [h]
    · simp only [h, Bool.false_eq_true, if_false]
      cases l.findIdx? (· == c) with
      | none => simp
      | some i => simp <;> omega
/-- Where the first colon stands. -/
def colon (l : List UInt8) : Option Nat := l.findIdx? (· == 58)
theorem colon_lt {l : List UInt8} {i : Nat} (h : colon l = some i) : i < l.length := by
  unfold colon at h
  rw [List.findIdx?_eq_some_iff_getElem] at h
  exact h.1
theorem strCut_no (l : List UInt8) (hl : l.length < 140737488355328) (h : colon l = none) (w : World) : Calls Try.prog 41 #[S l, .string ⟨#[58]⟩] w fun e w' => e = .returned (.tuple #[S l, S [], .bool false]) ∧ Below w.heap.size w w' := by
  have hx : Lib.indexByte l 58 = -1 := by rw [indexByte_find]; unfold colon at h; rw [h]
  have hc := cut_no l hl hx
  clear hx
  go_enter Try.func41, Try.ntmps41
  go_wp2_with (go_at_call 50; refine (hc _).mono ?_; rintro e w1 ⟨rfl, hB⟩)
  go_ret3
  exact ⟨rfl, hB⟩
theorem strCut_yes (l : List UInt8) (hl : l.length < 140737488355328) (i : Nat) (h : colon l = some i) (w : World) : Calls Try.prog 41 #[S l, .string ⟨#[58]⟩] w fun e w' => e = .returned (.tuple #[S (l.take i), S (l.drop (i + 1)), .bool true]) ∧ Below w.heap.size w w' := by
  have hx : Lib.indexByte l 58 = (i : Int) := by rw [indexByte_find]; unfold colon at h; rw [h]
  have hc := cut_yes l hl i (colon_lt h) hx
  clear hx
  go_enter Try.func41, Try.ntmps41
  go_wp2_with (go_at_call 50; refine (hc _).mono ?_; rintro e w1 ⟨rfl, hB⟩)
  go_ret3
  exact ⟨rfl, hB⟩
end Go.Proofs.Ytlogilmeefcipaa
