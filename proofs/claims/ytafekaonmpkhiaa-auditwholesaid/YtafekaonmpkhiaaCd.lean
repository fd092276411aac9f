/- The custody in memory. -/
import Derived.Test.YtafekaonmpkhiaaCc
import Derived.Maps.OwnSet
import Derived.Maps.RangeWalk
set_option linter.unusedSimpArgs false
set_option linter.unusedVariables false
set_option maxRecDepth 100000
namespace Go.Proofs.Ytafekaonmpkhiaa
open Go.Maps Go.WideMaps Go.RowKit Go.Deep Go.PlainAid

abbrev HB := DataW Value
def Rv (v : Value) : Option (HB × List MemPlace) := some (.held v, [])
def ky (s : ByteArray) : Lit := .string s.data.toList
theorem ky_inj {a b : ByteArray} (h : ky a = ky b) : a = b := by
  unfold ky at h
  simp only [Lit.string.injEq] at h
  cases a; cases b
  simp only [ByteArray.mk.injEq]
  exact Array.toList_inj.1 h
theorem ky_lit (a : ByteArray) : WideAt.IsKeyLit (ky a) := by unfold ky; trivial
theorem law : Keyed Try.prog 9 := string_keyed Try.underlying9
theorem key_of {s : ByteArray} (hs : s.size ≤ 140737488355328) : keyOf Try.prog 9 (.string s) = some (ky s) := keyOf_string_mk Try.underlying9 (by unfold maxLen; omega)
def nmOf (l : List Hd) (nm : ByteArray) : ByteArray := if (bx l nm).ok = true then nm else ⟨#[]⟩
theorem zero68 (w : World) : (zeroValue 68).run Try.prog w = .ok (BV ⟨#[]⟩ BR0) w := by kernel_rfl
theorem zero70 (w : World) : (zeroValue 70).run Try.prog w = .ok (.agg #[]) w := by kernel_rfl
/-- The map of boxes holds what they are. -/
structure RepB (D : HB) (l : List Hd) : Prop where
  has : ∀ nm, Maps.has D (ky nm) = (bx l nm).ok
  val : ∀ nm, (bx l nm).ok = true → ∀ z, D.atKey (ky nm) z = .held (BV nm (bx l nm))
  size : Maps.size D = (packs l).length
structure RepS (S : HB) (l : List Hd) : Prop where
  has : ∀ s, Maps.has S (ky s) = had l s
  size : Maps.size S ≤ l.length
structure CU (w : World) (cb bm bs : Nat) (l : List Hd) : Prop where
  c : IHolds w cb 45 [.map (some bm), .map (some bs)]
  n1 : cb ≠ bm
  n2 : cb ≠ bs
  n3 : bm ≠ bs
  m : ∃ n D, w.ownsMap Try.prog 9 Rv bm n D ∧ RepB D l
  s : ∃ n S, w.ownsMap Try.prog 9 unitElem bs n S ∧ RepS S l
theorem below_grown {B : Nat} {w w' : World} {b : Nat} (h : Below w.heap.size w w') : w.grownBy w' none := ⟨h.os, h.tape, h.output, h.size, fun i hi _ => h.block i hi⟩
theorem CU.of_below {w w' : World} {cb bm bs : Nat} {l : List Hd} (h : CU w cb bm bs l) (hb : Below w.heap.size w w') : CU w' cb bm bs l := by
  obtain ⟨n, D, m1, m2⟩ := h.m
  obtain ⟨k, S, s1, s2⟩ := h.s
  have g : w.grownBy w' none := ⟨hb.os, hb.tape, hb.output, hb.size, fun i hi _ => hb.block i hi⟩
  exact ⟨h.c.of_below hb, h.n1, h.n2, h.n3, ⟨n, D, m1.kept g (by simp), m2⟩, ⟨k, S, s1.kept g (by simp), s2⟩⟩
theorem CU.look {w : World} {cb bm bs : Nat} {l : List Hd} (h : CU w cb bm bs l) (i : Inv1 l) {nm : ByteArray} (hs : nm.size ≤ 140737488355328) :
    (Instr.lookup 42 (.map (some bm)) (.string nm) true).run Try.prog w = .ok (.tuple #[BV (nmOf l nm) (bx l nm), .bool (bx l nm).ok]) w := by
  obtain ⟨n, D, m1, m2⟩ := h.m
  obtain ⟨v, ps, hr, hv⟩ := m1.look_ok (t := 42) (e := 68) law Try.underlying42 (zero68 w) (zd := .held (BV ⟨#[]⟩ BR0)) (zp := []) rfl (key_of hs)
  rw [hr, m2.has]
  have e : v = BV (nmOf l nm) (bx l nm) := by
    cases q : (bx l nm).ok with
    | true =>
      rw [m2.val nm q] at hv
      simp only [Rv, Option.some.injEq, Prod.mk.injEq, DataW.held.injEq] at hv
      rw [hv.1]; simp [nmOf, q]
    | false =>
      have z := m2.has nm
      rw [q] at z
      rw [Maps.atKey_of_not_has z] at hv
      simp only [Rv, Option.some.injEq, Prod.mk.injEq, DataW.held.injEq] at hv
      rw [hv.1, i.none nm q]; simp [nmOf, q]
  rw [e]
theorem CU.lookS {w : World} {cb bm bs : Nat} {l : List Hd} (h : CU w cb bm bs l) {s : ByteArray} (hs : s.size ≤ 140737488355328) :
    (Instr.lookup 43 (.map (some bs)) (.string s) true).run Try.prog w = .ok (.tuple #[.agg #[], .bool (had l s)]) w := by
  obtain ⟨n, S, m1, m2⟩ := h.s
  obtain ⟨v, ps, hr, hv⟩ := m1.look_ok (t := 43) (e := 70) law Try.underlying43 (zero70 w) (zd := .agg []) (zp := []) unitElem_mk (key_of hs)
  obtain ⟨rfl, _⟩ := unitElem_inv hv
  rw [hr, m2.has]
theorem CU.len {w : World} {cb bm bs : Nat} {l : List Hd} (h : CU w cb bm bs l) (ty : TypeId) :
    (Builtin.len_ #[42] ty #[.map (some bm)]).run Try.prog w = .ok (.int .i64 ((packs l).length : Int)) w := by
  obtain ⟨n, D, m1, m2⟩ := h.m
  rw [m1.len Try.underlying42 ty, m2.size]
end Go.Proofs.Ytafekaonmpkhiaa
