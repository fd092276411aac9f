/- Plain arithmetic on words of 32 bits: turning, half a stir and the way back. No Go text is named here. The walks of RotateLeft32, half and unhalf: what they answer for any words. Memory: an array of words in a block; what a call that writes one block alone leaves of the others. Plain: ten rounds of eight stirs on sixteen words, and the way back. No Go text is named here. The walks of stirFour and unstirFour: four places of an array of sixteen words, stirred or taken back; nothing else turns. The walks of Stir and Unstir: for any words, what they answer; nothing that was there turns. '==' of two arrays of words: as the words are. The frame of the rows: an array of words as an argument; the program's tables out of a row's list; the worlds of the witnesses. -/
import Derived.WalkKit
import Derived.Test.YtmpiipcllgjhdaaGreatDoorRows
import Derived.WalkSpells
import Derived.WalkLawsBesides
import Derived.Handy
import Derived.Deep.Draws
import Derived.Deep.MidRow
import Derived.BigRegion
import Derived.BigQuiet
import Derived.Deep.QuietTactic
import Derived.Deep.RegionHeld3
import Derived.Deep.LoopGhost
import Derived.Test.YtmpiipcllgjhdaaGreatDoorCards
import Derived.Test.YtmpiipcllgjhdaaGreatDoorTie
import Derived.ProofKit
import Derived.OpenShut
import Derived.Deep.DeepHandedRow
import Derived.Lib.LaidTab
import Derived.Stop.LaidErr
set_option linter.unusedSimpArgs false
set_option linter.unusedVariables false
set_option maxRecDepth 100000
namespace Go.Proofs.YtmpiipcllgjhdaaGreatDoor.F
open Go.RowKit

/-- A word turned to the right by s bits. -/
def rr (s : Nat) (x : UInt32) : UInt32 := UInt32.ofNat (x.toNat * 2 ^ (32 - s) % 2 ^ 32 + x.toNat / 2 ^ s)

theorem ult (x : UInt32) : x.toNat < 4294967296 := x.toNat_lt

theorem or_add (hi lo k x : Nat) (h : hi = 2 ^ k * x) (hl : lo < 2 ^ k) : hi ||| lo = hi + lo := by
  subst h; exact (Nat.two_pow_add_eq_or_of_lt hl x).symm

theorem mul_mod_two (x s : Nat) (hs : s ≤ 32) : x * 2 ^ (32 - s) % 2 ^ 32 = 2 ^ (32 - s) * (x % 2 ^ s) := by
  have e : (2 : Nat) ^ 32 = 2 ^ (32 - s) * 2 ^ s := by rw [← Nat.pow_add]; congr 1; omega
  rw [Nat.mul_comm x, e, Nat.mul_mod_mul_left]

theorem div_lt_two (x s : Nat) (hs : s ≤ 32) (hx : x < 2 ^ 32) : x / 2 ^ s < 2 ^ (32 - s) := by
  rw [Nat.div_lt_iff_lt_mul (Nat.two_pow_pos s), ← Nat.pow_add]
  have : 32 - s + s = 32 := by omega
  rw [this]; exact hx

theorem rr_lt (x s : Nat) (hs : s ≤ 32) (hx : x < 2 ^ 32) : x * 2 ^ (32 - s) % 2 ^ 32 + x / 2 ^ s < 2 ^ 32 := by
  have h1 := mul_mod_two x s hs
  have h2 := div_lt_two x s hs hx
  have h3 : x % 2 ^ s < 2 ^ s := Nat.mod_lt _ (Nat.two_pow_pos s)
  have e : (2 : Nat) ^ 32 = 2 ^ (32 - s) * 2 ^ s := by rw [← Nat.pow_add]; congr 1; omega
  have h4 : 2 ^ (32 - s) * (x % 2 ^ s) + 2 ^ (32 - s) ≤ 2 ^ (32 - s) * 2 ^ s := by
    rw [← Nat.mul_succ]; exact Nat.mul_le_mul_left _ h3
  omega

theorem rr_toNat (s : Nat) (hs : s ≤ 32) (x : UInt32) : (rr s x).toNat = x.toNat * 2 ^ (32 - s) % 2 ^ 32 + x.toNat / 2 ^ s := by
  unfold rr
  rw [UInt32.toNat_ofNat']
  exact Nat.mod_eq_of_lt (rr_lt x.toNat s hs (ult x))

theorem rr_bits (s : Nat) (hs : s ≤ 32) (x : UInt32) (A B : Int) (hA : A = ((x.toNat * 2 ^ (32 - s) % 2 ^ 32 : Nat) : Int)) (hB : B = ((x.toNat / 2 ^ s : Nat) : Int)) :
    bits .or .u32 A B = ((rr s x).toNat : Int) := by
  subst hA hB
  have hx := ult x
  have hlt := rr_lt x.toNat s hs hx
  rw [rr_toNat s hs, u32_or_nat _ _ (by omega) (by omega)]
  rw [or_add _ _ _ _ (mul_mod_two x.toNat s hs) (div_lt_two x.toNat s hs hx)]

/-- Sum, difference and exclusive-or of words, under names of our own (so that no rule on numbers takes them apart). -/
def uadd (x y : UInt32) : UInt32 := x + y
def usub (x y : UInt32) : UInt32 := x - y
def uxor (x y : UInt32) : UInt32 := x ^^^ y

theorem add_u (x y : UInt32) : ((x.toNat : Int) + (y.toNat : Int)) % 4294967296 = ((uadd x y).toNat : Int) := by
  unfold uadd; rw [UInt32.toNat_add]; omega
theorem sub_u (x y : UInt32) : ((x.toNat : Int) - (y.toNat : Int)) % 4294967296 = ((usub x y).toNat : Int) := by
  have hx := ult x
  have hy := ult y
  unfold usub; rw [UInt32.toNat_sub]; omega
theorem xor_u (x y : UInt32) : bits .xor .u32 (x.toNat : Int) (y.toNat : Int) = ((uxor x y).toNat : Int) := by
  unfold uxor; rw [u32_xor_nat _ _ (ult x) (ult y), UInt32.toNat_xor]
/-- Four words. -/
structure Four where
  a : UInt32
  b : UInt32
  c : UInt32
  d : UInt32

/-- Half a stir. -/
def hf (tD tB : Nat) (p : Four) (x : UInt32) : Four :=
  let a := uadd p.a (uadd p.b x)
  let d := rr tD (uxor p.d a)
  let c := uadd p.c d
  { a := a, b := rr tB (uxor p.b c), c := c, d := d }
end Go.Proofs.YtmpiipcllgjhdaaGreatDoor.F
namespace Go.Proofs.YtmpiipcllgjhdaaGreatDoor.F
open Go.RowKit

/-- A word as the program holds it. -/
abbrev U (x : UInt32) : Value := .int .u32 (x.toNat : Int)

theorem ret_u {a b : Int} (h : a = b) : Ending.returned (.int .u32 a) = .returned (.int .u32 b) := by rw [h]

theorem and_m16 : bits BinOp.and IntKind.u64 (IntKind.u64.wrap (-16)) 31 = 16 := by decide
set_option maxHeartbeats 400000 in
theorem rot_m16 (X : UInt32) (w : World) :
    Calls Tryz.prog 159 #[U X, .int .i64 (-16)] w fun e w' => e = .returned (U (rr 16 X)) ∧ w' = w := by
  have ha := and_m16
  have hX := ult X
  go_enter Tryz.func159, Tryz.ntmps159
  go_wp2
  go_ret
  refine ⟨ret_u (rr_bits 16 (by decide) X _ _ ?_ ?_), rfl⟩
  · simp only [Nat.reduceSub, Nat.reducePow]; omega
  · simp only [Nat.reducePow]; omega

theorem and_m12 : bits BinOp.and IntKind.u64 (IntKind.u64.wrap (-12)) 31 = 20 := by decide
set_option maxHeartbeats 400000 in
theorem rot_m12 (X : UInt32) (w : World) :
    Calls Tryz.prog 159 #[U X, .int .i64 (-12)] w fun e w' => e = .returned (U (rr 12 X)) ∧ w' = w := by
  have ha := and_m12
  have hX := ult X
  go_enter Tryz.func159, Tryz.ntmps159
  go_wp2
  go_ret
  refine ⟨ret_u (rr_bits 12 (by decide) X _ _ ?_ ?_), rfl⟩
  · simp only [Nat.reduceSub, Nat.reducePow]; omega
  · simp only [Nat.reducePow]; omega

theorem and_m8 : bits BinOp.and IntKind.u64 (IntKind.u64.wrap (-8)) 31 = 24 := by decide
set_option maxHeartbeats 400000 in
theorem rot_m8 (X : UInt32) (w : World) :
    Calls Tryz.prog 159 #[U X, .int .i64 (-8)] w fun e w' => e = .returned (U (rr 8 X)) ∧ w' = w := by
  have ha := and_m8
  have hX := ult X
  go_enter Tryz.func159, Tryz.ntmps159
  go_wp2
  go_ret
  refine ⟨ret_u (rr_bits 8 (by decide) X _ _ ?_ ?_), rfl⟩
  · simp only [Nat.reduceSub, Nat.reducePow]; omega
  · simp only [Nat.reducePow]; omega

theorem and_m7 : bits BinOp.and IntKind.u64 (IntKind.u64.wrap (-7)) 31 = 25 := by decide
set_option maxHeartbeats 400000 in
theorem rot_m7 (X : UInt32) (w : World) :
    Calls Tryz.prog 159 #[U X, .int .i64 (-7)] w fun e w' => e = .returned (U (rr 7 X)) ∧ w' = w := by
  have ha := and_m7
  have hX := ult X
  go_enter Tryz.func159, Tryz.ntmps159
  go_wp2
  go_ret
  refine ⟨ret_u (rr_bits 7 (by decide) X _ _ ?_ ?_), rfl⟩
  · simp only [Nat.reduceSub, Nat.reducePow]; omega
  · simp only [Nat.reducePow]; omega

/-- Four words as half and unhalf answer them. -/
abbrev T4 (p : Four) : Value := .tuple #[U p.a, U p.b, U p.c, U p.d]

set_option maxHeartbeats 400000 in
theorem half_16 (a b c d x : UInt32) (w : World) :
    Calls Tryz.prog 158 #[U a, U b, U c, U d, U x, .int .i64 16, .int .i64 12] w fun e w' => e = .returned (T4 (hf 16 12 ⟨a, b, c, d⟩ x)) ∧ w' = w := by
  have ha := add_u
  have hs := sub_u
  have hx := xor_u
  go_enter Tryz.func158, Tryz.ntmps158
  go_wp2_with fail
  refine (rot_m16 _ _).mono ?_
  rintro e w' ⟨rfl, rfl⟩
  go_wp2_with fail
  refine (rot_m12 _ _).mono ?_
  rintro e w' ⟨rfl, rfl⟩
  go_wp2_with fail
  refine bodyPost_ret (v := T4 (hf 16 12 ⟨a, b, c, d⟩ x)) (by simp [results, Tryz.results158, go_sem, hf, add_u, sub_u, xor_u]) rfl ⟨rfl, rfl⟩

set_option maxHeartbeats 400000 in
theorem half_8 (a b c d x : UInt32) (w : World) :
    Calls Tryz.prog 158 #[U a, U b, U c, U d, U x, .int .i64 8, .int .i64 7] w fun e w' => e = .returned (T4 (hf 8 7 ⟨a, b, c, d⟩ x)) ∧ w' = w := by
  have ha := add_u
  have hs := sub_u
  have hx := xor_u
  go_enter Tryz.func158, Tryz.ntmps158
  go_wp2_with fail
  refine (rot_m8 _ _).mono ?_
  rintro e w' ⟨rfl, rfl⟩
  go_wp2_with fail
  refine (rot_m7 _ _).mono ?_
  rintro e w' ⟨rfl, rfl⟩
  go_wp2_with fail
  refine bodyPost_ret (v := T4 (hf 8 7 ⟨a, b, c, d⟩ x)) (by simp [results, Tryz.results158, go_sem, hf, add_u, sub_u, xor_u]) rfl ⟨rfl, rfl⟩

end Go.Proofs.YtmpiipcllgjhdaaGreatDoor.F
namespace Go.Proofs.YtmpiipcllgjhdaaGreatDoor.F
open Go.RowKit

/-- A byte as the program holds it. -/
abbrev B8 (x : Nat) : Value := .int .u8 (x : Int)
/-- Words as the cells of an array. -/
def arr (l : List UInt32) : Array Value := (l.map U).toArray
theorem arr_size (l : List UInt32) : (arr l).size = l.length := by simp [arr]
theorem arr_get (l : List UInt32) (i : Nat) : (arr l)[i]? = (l[i]?).map U := by simp [arr]
theorem arr_set (l : List UInt32) (i : Nat) (x : UInt32) : (arr l).setIfInBounds i (U x) = arr (l.set i x) := by
  simp [arr, List.map_set]
/-- Block b is an array of these words. -/
def Holds (w : World) (b : Nat) (t : TypeId) (l : List UInt32) : Prop := w.heap[b]? = some (.cells (arr l) t)

theorem Holds.lt {w : World} {b : Nat} {t : TypeId} {l : List UInt32} (h : Holds w b t l) : b < w.heap.size := by
  have := Array.getElem?_eq_some_iff.1 h
  exact this.1
theorem Holds.cell {w : World} {b : Nat} {t : TypeId} {l : List UInt32} (h : Holds w b t l) (i : Nat) (hi : i < l.length) : w.cell? ⟨b, i, none⟩ = some (U (l.getD i 0)) := by
  unfold Holds at h
  simp [World.cell?, h, arr_get, hi]
theorem Holds.frozen {w : World} {b : Nat} {t : TypeId} {l : List UInt32} (h : Holds w b t l) (i : Nat) : w.frozen? ⟨b, i, none⟩ = false := by
  unfold Holds at h
  simp [World.frozen?, h]
theorem Holds.set {w : World} {b : Nat} {t : TypeId} {l : List UInt32} (h : Holds w b t l) (i : Nat) (x : UInt32) : Holds (w.setCell ⟨b, i, none⟩ (U x)) b t (l.set i x) := by
  unfold Holds at *
  simp [World.setCell, Array.getElem?_modify, h, arr_set]
theorem Holds.drewN {w : World} {b : Nat} {t : TypeId} {l : List UInt32} (h : Holds w b t l) (n : Nat) : Holds (w.drewN n) b t l := h
theorem Holds.alloc {w : World} {b : Nat} {t : TypeId} {l : List UInt32} (h : Holds w b t l) (o : Obj) : Holds (w.alloc o) b t l := by
  unfold Holds; rw [Below.heap_alloc _ _ _ h.lt]; exact h
theorem Holds.new (w : World) (t : TypeId) (l : List UInt32) : Holds (w.alloc (.cells (arr l) t)) w.heap.size t l := by
  show (w.heap.push _)[w.heap.size]? = _
  simp
theorem Holds.range {w : World} {b : Nat} {t : TypeId} {l : List UInt32} (h : Holds w b t l) : w.rangeAt b 0 (l.map U) := by
  intro j v hv
  have hj : j < l.length := by
    have := (List.getElem?_eq_some_iff.1 hv).1
    simpa using this
  rw [Nat.zero_add, h.cell j hj]
  simp [hj] at hv
  simp [hj, hv]

/-- Nothing but block b has turned, of what was there. -/
structure But (b : Nat) (w w' : World) : Prop where
  os : w'.os = w.os
  tape : w'.tape = w.tape
  output : w'.output = w.output
  size : w.heap.size ≤ w'.heap.size
  block : ∀ k, k < w.heap.size → k ≠ b → w'.heap[k]? = w.heap[k]?

theorem But.refl (b : Nat) (w : World) : But b w w := ⟨rfl, rfl, rfl, Nat.le_refl _, fun _ _ _ => rfl⟩
theorem But.trans {b : Nat} {u v w : World} (h : But b u v) (k : But b v w) : But b u w :=
  ⟨k.os.trans h.os, k.tape.trans h.tape, k.output.trans h.output, Nat.le_trans h.size k.size, fun i hi hb => (k.block i (Nat.lt_of_lt_of_le hi h.size) hb).trans (h.block i hi hb)⟩
theorem But.drew {b : Nat} {u w : World} (h : But b u w) : But b u w.drew := ⟨h.os, h.tape, h.output, h.size, h.block⟩
theorem But.drewN {b : Nat} {u w : World} (h : But b u w) (n : Nat) : But b u (w.drewN n) := ⟨h.os, h.tape, h.output, h.size, h.block⟩
theorem But.alloc {b : Nat} {u w : World} (h : But b u w) (o : Obj) : But b u (w.alloc o) :=
  h.trans ⟨rfl, rfl, rfl, by simp, fun k hk _ => Below.heap_alloc _ _ _ hk⟩
theorem But.setCell {b : Nat} {u w : World} (h : But b u w) (i : Nat) (x : Value) : But b u (w.setCell ⟨b, i, none⟩ x) :=
  h.trans ⟨rfl, rfl, rfl, by simp [World.setCell], fun k _ hb => Below.heap_setCell _ _ _ _ hb⟩
/-- A store into a block that was not there. -/
theorem But.setNew {b : Nat} {u w : World} (h : But b u w) {p : Addr} (hp : u.heap.size ≤ p.block) (x : Value) : But b u (w.setCell p x) :=
  ⟨h.os, h.tape, h.output, by simp only [World.size_setCell]; exact h.size, fun k hk hb => (Below.heap_setCell _ _ _ _ (by omega)).trans (h.block k hk hb)⟩
theorem But.cell {b : Nat} {u w : World} (h : But b u w) {k : Nat} (hk : k < u.heap.size) (hb : k ≠ b) (i : Nat) : w.cell? ⟨k, i, none⟩ = u.cell? ⟨k, i, none⟩ :=
  World.cell?_of_block (w := u) (h.block k hk hb)
theorem But.holds {b : Nat} {u w : World} (h : But b u w) {k : Nat} {t : TypeId} {l : List UInt32} (hk : Holds u k t l) (hb : k ≠ b) : Holds w k t l := by
  unfold Holds; rw [h.block k hk.lt hb]; exact hk
/-- Where block b is new, nothing that was there has turned. -/
theorem But.below {b B : Nat} {u w : World} (h : But b u w) (hB : B ≤ u.heap.size) (hb : B ≤ b) : Below B u w :=
  ⟨h.os, h.tape, h.output, h.size, fun k hk => h.block k (by omega) (by omega)⟩

/-- Four words laid into an array. -/
def put4 (w : World) (b p0 p1 p2 p3 : Nat) (q : Four) : World := (((w.setCell ⟨b, p0, none⟩ (U q.a)).setCell ⟨b, p1, none⟩ (U q.b)).setCell ⟨b, p2, none⟩ (U q.c)).setCell ⟨b, p3, none⟩ (U q.d)
def set4 (l : List UInt32) (p0 p1 p2 p3 : Nat) (q : Four) : List UInt32 := (((l.set p0 q.a).set p1 q.b).set p2 q.c).set p3 q.d
theorem Holds.put4 {w : World} {b : Nat} {t : TypeId} {l : List UInt32} (h : Holds w b t l) (p0 p1 p2 p3 : Nat) (q : Four) : Holds (put4 w b p0 p1 p2 p3 q) b t (set4 l p0 p1 p2 p3 q) :=
  (((h.set p0 q.a).set p1 q.b).set p2 q.c).set p3 q.d
theorem But.put4 {b : Nat} {u w : World} (h : But b u w) (p0 p1 p2 p3 : Nat) (q : Four) : But b u (put4 w b p0 p1 p2 p3 q) :=
  (((h.setCell p0 _).setCell p1 _).setCell p2 _).setCell p3 _

theorem But.of_drew {b : Nat} {u w : World} (h : But b u.drew w) : But b u w := ⟨h.os, h.tape, h.output, h.size, h.block⟩
/-- Many cells of a block that was not there. -/
theorem But.setNews {b g : Nat} {u : World} (hg : u.heap.size ≤ g) : ∀ (vs : List Value) (o : Nat) (w : World), But b u w → But b u (w.setCells g o vs)
  | [], _, _, h => h
  | v :: r, o, _, h => But.setNews hg r (o + 1) _ (h.setNew (p := ⟨g, o, none⟩) hg v)
theorem But.setOwn {b : Nat} {u : World} : ∀ (vs : List Value) (o : Nat) (w : World), But b u w → But b u (w.setCells b o vs)
  | [], _, _, h => h
  | v :: r, o, _, h => But.setOwn r (o + 1) _ (h.setCell o v)
theorem Below.setNews {B g : Nat} {u : World} (hg : B ≤ g) : ∀ (vs : List Value) (o : Nat) (w : World), Below B u w → Below B u (w.setCells g o vs)
  | [], _, _, h => h
  | v :: r, o, _, h => Below.setNews hg r (o + 1) _ (h.setCell (p := ⟨g, o, none⟩) hg v)
theorem size_setCells (g : Nat) : ∀ (vs : List Value) (o : Nat) (w : World), (w.setCells g o vs).heap.size = w.heap.size
  | [], _, _ => rfl
  | v :: r, o, w => by rw [World.setCells, size_setCells g r (o + 1), World.size_setCell]
theorem Holds.setCells_part {b : Nat} {t : TypeId} : ∀ (vs : List UInt32) (o : Nat) (l : List UInt32) (w : World), Holds w b t l → o + vs.length ≤ l.length →
    Holds (w.setCells b o (vs.map U)) b t (l.take o ++ vs ++ l.drop (o + vs.length))
  | [], o, l, w, h, _ => by simpa [World.setCells] using h
  | v :: r, o, l, w, h, hle => by
    simp only [List.length_cons] at hle
    have := Holds.setCells_part r (o + 1) (l.set o v) _ (h.set o v) (by simp; omega)
    simp only [List.map_cons, World.setCells]
    have e : (l.set o v).take (o + 1) ++ r ++ (l.set o v).drop (o + 1 + r.length) = l.take o ++ (v :: r) ++ l.drop (o + (r.length + 1)) := by
      rw [List.drop_set_of_lt (by omega), List.take_add_one]
      simp [List.take_set_of_le, show o < l.length by omega, Nat.add_assoc, Nat.add_comm]
      omega
    rw [e] at this
    exact this
/-- A whole array stored over another. -/
theorem Holds.setCells {w : World} {b : Nat} {t : TypeId} {l0 : List UInt32} (h : Holds w b t l0) (l : List UInt32) (hl : l0.length = l.length) : Holds (w.setCells b 0 (l.map U)) b t l := by
  have := Holds.setCells_part l 0 l0 w h (by omega)
  simpa [← hl] using this
end Go.Proofs.YtmpiipcllgjhdaaGreatDoor.F
namespace Go.Proofs.YtmpiipcllgjhdaaGreatDoor.F
open Go.RowKit

/-- The orders, row behind row; the places, four behind four. -/
def ordL : List Nat := [0, 1, 2, 3, 4, 5, 6, 7, 8, 9, 10, 11, 12, 13, 14, 15, 14, 10, 4, 8, 9, 15, 13, 6, 1, 12, 0, 2, 11, 7, 5, 3, 11, 8, 12, 0, 5, 2, 15, 13, 10, 14, 3, 6, 7, 1, 9, 4, 7, 9, 3, 1, 13, 12, 11, 14, 2, 6, 5, 10, 4, 0, 15, 8, 9, 0, 5, 7, 2, 4, 10, 15, 14, 1, 11, 12, 6, 8, 3, 13, 2, 12, 6, 10, 0, 11, 8, 3, 4, 13, 7, 5, 15, 14, 1, 9, 12, 5, 1, 15, 14, 13, 4, 10, 0, 7, 6, 3, 9, 2, 8, 11, 13, 11, 7, 14, 12, 1, 3, 9, 5, 0, 15, 4, 8, 6, 2, 10, 6, 15, 14, 9, 11, 3, 0, 8, 12, 2, 13, 7, 1, 4, 10, 5, 10, 2, 8, 4, 7, 6, 1, 5, 15, 11, 9, 14, 3, 12, 13, 0]
def plcL : List Nat := [0, 4, 8, 12, 1, 5, 9, 13, 2, 6, 10, 14, 3, 7, 11, 15, 0, 5, 10, 15, 1, 6, 11, 12, 2, 7, 8, 13, 3, 4, 9, 14]
def ordN (r j : Nat) : Nat := ordL.getD (r * 16 + j) 0
def plcN (i j : Nat) : Nat := plcL.getD (i * 4 + j) 0

/-- One stir of four words, and the way back. -/
def st4 (p : Four) (x y : UInt32) : Four := hf 8 7 (hf 16 12 p x) y
def at4 (l : List UInt32) (p0 p1 p2 p3 : Nat) : Four := ⟨l.getD p0 0, l.getD p1 0, l.getD p2 0, l.getD p3 0⟩
theorem set4_length (l : List UInt32) (p0 p1 p2 p3 : Nat) (q : Four) : (set4 l p0 p1 p2 p3 q).length = l.length := by simp [set4]
/-- The places are places, four at a time all different. -/
theorem plc_ok : ∀ i, i < 8 → plcN i 0 < 16 ∧ plcN i 1 < 16 ∧ plcN i 2 < 16 ∧ plcN i 3 < 16 ∧ plcN i 0 ≠ plcN i 1 ∧ plcN i 0 ≠ plcN i 2 ∧ plcN i 0 ≠ plcN i 3 ∧ plcN i 1 ≠ plcN i 2 ∧ plcN i 1 ≠ plcN i 3 ∧ plcN i 2 ≠ plcN i 3 := by decide
theorem ord_ok : ∀ r, r < 10 → ∀ j, j < 16 → ordN r j < 16 := by decide

/-- Stir number i of round r. -/
def stirAt (m : List UInt32) (r i : Nat) (l : List UInt32) : List UInt32 :=
  set4 l (plcN i 0) (plcN i 1) (plcN i 2) (plcN i 3) (st4 (at4 l (plcN i 0) (plcN i 1) (plcN i 2) (plcN i 3)) (m.getD (ordN r (2 * i)) 0) (m.getD (ordN r (2 * i + 1)) 0))
theorem stirAt_length (m : List UInt32) (r i : Nat) (l : List UInt32) : (stirAt m r i l).length = l.length := set4_length ..
/-- So many stirs of round r; so many rounds. -/
def stirRow (m : List UInt32) (r : Nat) : Nat → List UInt32 → List UInt32
  | 0, l => l
  | i + 1, l => stirAt m r i (stirRow m r i l)
def stirs (m : List UInt32) : Nat → List UInt32 → List UInt32
  | 0, l => l
  | r + 1, l => stirRow m r 8 (stirs m r l)
theorem stirRow_length (m : List UInt32) (r i : Nat) (l : List UInt32) : (stirRow m r i l).length = l.length := by
  induction i with
  | zero => rfl
  | succ i ih => rw [stirRow, stirAt_length, ih]
theorem stirs_length (m : List UInt32) (r : Nat) (l : List UInt32) : (stirs m r l).length = l.length := by
  induction r with
  | zero => rfl
  | succ i ih => rw [stirs, stirRow_length, ih]
/-- A row of the orders as cells. -/
def ordRow (r : Nat) : List Value := ((ordL.drop (r * 16)).take 16).map B8
theorem ordRow_len : ∀ r, r < 10 → (ordRow r).length = 16 := by
  have h : ∀ r, r < 10 → ((ordL.drop (r * 16)).take 16).length = 16 := by decide
  intro r hr; rw [ordRow, List.length_map, h r hr]
theorem ordRow_get (r j : Nat) (hr : r < 10) (hj : j < 16) : (ordRow r)[j]? = some (B8 (ordN r j)) := by
  have hlen : ordL.length = 160 := by decide +kernel
  have hlt : r * 16 + j < ordL.length := by omega
  simp [ordRow, hj, ordN, List.getElem?_take, List.getElem?_drop, hlt]
theorem ordRow_one (r : Nat) : ∀ v ∈ ordRow r, v.oneCell' = true := by
  intro v hv
  obtain ⟨x, _, rfl⟩ := List.mem_map.1 hv
  rfl
/-- The tables lie in the program's own variables. -/
structure Tabs (w : World) : Prop where
  ord : ∀ i, i < 160 → w.cell? ⟨2, i, none⟩ = some (B8 (ordL.getD i 0))
  plc : ∀ i, i < 32 → w.cell? ⟨3, i, none⟩ = some (B8 (plcL.getD i 0))
  size : 3 < w.heap.size
theorem Tabs.row {w : World} (h : Tabs w) (r : Nat) (hr : r < 10) : w.rangeAt 2 (r * 16) (ordRow r) := by
  intro j v hv
  have hj : j < 16 := by rw [← ordRow_len r hr]; exact (List.getElem?_eq_some_iff.1 hv).1
  rw [ordRow_get r j hr hj] at hv
  rw [h.ord _ (by omega), ← hv]; rfl
theorem Tabs.of_but {w w' : World} {b : Nat} (h : Tabs w) (hb : But b w w') (h2 : 3 < b) : Tabs w' := by
  have := h.size
  exact ⟨fun i hi => by rw [hb.cell (by omega) (by omega)]; exact h.ord i hi, fun i hi => by rw [hb.cell (by omega) (by omega)]; exact h.plc i hi, Nat.lt_of_lt_of_le h.size hb.size⟩
theorem Tabs.of_below {w w' : World} {B : Nat} (h : Tabs w) (hb : Below B w w') (h2 : 3 < B) : Tabs w' := by
  have := h.size
  exact ⟨fun i hi => by rw [hb.cell (by show 2 < B; omega)]; exact h.ord i hi, fun i hi => by rw [hb.cell (by show 3 < B; omega)]; exact h.plc i hi, Nat.lt_of_lt_of_le h.size hb.size⟩
end Go.Proofs.YtmpiipcllgjhdaaGreatDoor.F
namespace Go.Proofs.YtmpiipcllgjhdaaGreatDoor.F
open Go.RowKit

set_option maxHeartbeats 1000000 in
theorem stirFour_cells (b p0 p1 p2 p3 : Nat) (x0 x1 x2 x3 x y : UInt32) (w : World) (hb : b < w.heap.size)
    (l0 : p0 < 16) (l1 : p1 < 16) (l2 : p2 < 16) (l3 : p3 < 16)
    (n01 : p0 ≠ p1) (n02 : p0 ≠ p2) (n03 : p0 ≠ p3) (n12 : p1 ≠ p2) (n13 : p1 ≠ p3) (n23 : p2 ≠ p3)
    (c0 : w.cell? ⟨b, p0, none⟩ = some (U x0)) (c1 : w.cell? ⟨b, p1, none⟩ = some (U x1)) (c2 : w.cell? ⟨b, p2, none⟩ = some (U x2)) (c3 : w.cell? ⟨b, p3, none⟩ = some (U x3))
    (f0 : w.frozen? ⟨b, p0, none⟩ = false) (f1 : w.frozen? ⟨b, p1, none⟩ = false) (f2 : w.frozen? ⟨b, p2, none⟩ = false) (f3 : w.frozen? ⟨b, p3, none⟩ = false) :
    Calls Tryz.prog 157 #[.pointer (some ⟨b, 0, none⟩), .agg #[B8 p0, B8 p1, B8 p2, B8 p3], U x, U y] w fun e w' => e = .returned (.tuple #[]) ∧ ∃ n, w' = (put4 (w.alloc (.cells #[B8 p0, B8 p1, B8 p2, B8 p3] 206)) b p0 p1 p2 p3 (st4 ⟨x0, x1, x2, x3⟩ x y)).drewN n := by
  have hne : ¬ b = w.heap.size := by omega
  go_enter Tryz.func157, Tryz.ntmps157
  go_wp2_with fail
  go_quiet (fail)
  go_wp2_with fail
  refine (half_16 _ _ _ _ _ _).mono ?_
  rintro e w' ⟨rfl, rfl⟩
  generalize h1 : hf 16 12 _ x = q1
  have H1 : Hid (hf 16 12 _ x = q1) := h1
  clear h1
  go_wp2_with fail
  refine (half_8 _ _ _ _ _ _).mono ?_
  rintro e w' ⟨rfl, rfl⟩
  generalize h2 : hf 8 7 _ y = q2
  have H2 : Hid (hf 8 7 q1 y = q2) := h2
  clear h2
  go_wp2_with fail
  obtain ⟨w1, hw1⟩ : ∃ w1, w1 = (w.alloc (.cells #[B8 p0, B8 p1, B8 p2, B8 p3] 206)).drewN nq := ⟨_, rfl⟩
  have d0 : w1.cell? ⟨b, p0, none⟩ = some (U x0) := by rw [hw1, World.cell?_drewN, World.cell?_alloc_past _ _ _ hb]; exact c0
  have g0 : w1.frozen? ⟨b, p0, none⟩ = false := by rw [hw1, World.frozen?_drewN, World.frozen?_alloc_past _ _ _ hb]; exact f0
  have e0 : w1.cell? ⟨w.heap.size, 0, none⟩ = some (B8 p0) := by rw [hw1]; simp
  have d1 : w1.cell? ⟨b, p1, none⟩ = some (U x1) := by rw [hw1, World.cell?_drewN, World.cell?_alloc_past _ _ _ hb]; exact c1
  have g1 : w1.frozen? ⟨b, p1, none⟩ = false := by rw [hw1, World.frozen?_drewN, World.frozen?_alloc_past _ _ _ hb]; exact f1
  have e1 : w1.cell? ⟨w.heap.size, 1, none⟩ = some (B8 p1) := by rw [hw1]; simp
  have d2 : w1.cell? ⟨b, p2, none⟩ = some (U x2) := by rw [hw1, World.cell?_drewN, World.cell?_alloc_past _ _ _ hb]; exact c2
  have g2 : w1.frozen? ⟨b, p2, none⟩ = false := by rw [hw1, World.frozen?_drewN, World.frozen?_alloc_past _ _ _ hb]; exact f2
  have e2 : w1.cell? ⟨w.heap.size, 2, none⟩ = some (B8 p2) := by rw [hw1]; simp
  have d3 : w1.cell? ⟨b, p3, none⟩ = some (U x3) := by rw [hw1, World.cell?_drewN, World.cell?_alloc_past _ _ _ hb]; exact c3
  have g3 : w1.frozen? ⟨b, p3, none⟩ = false := by rw [hw1, World.frozen?_drewN, World.frozen?_alloc_past _ _ _ hb]; exact f3
  have e3 : w1.cell? ⟨w.heap.size, 3, none⟩ = some (B8 p3) := by rw [hw1]; simp
  rw [← hw1]
  have HW : Hid (w1 = (w.alloc (.cells #[B8 p0, B8 p1, B8 p2, B8 p3] 206)).drewN nq) := hw1
  clear hw1 c0 c1 c2 c3 f0 f1 f2 f3 hb
  generalize w.heap.size = bp at *
  go_region
  go_end0
  refine ⟨rfl, nq + 1, ?_⟩
  have e : st4 ⟨x0, x1, x2, x3⟩ x y = q2 := by rw [← H2.out, ← H1.out]; rfl
  rw [e, HW.out]
  rfl

/-- The same of an array that is known whole. -/
theorem stirFour_any (b p0 p1 p2 p3 : Nat) (t : TypeId) (l : List UInt32) (x y : UInt32) (w : World) (h : Holds w b t l) (hl : l.length = 16)
    (l0 : p0 < 16) (l1 : p1 < 16) (l2 : p2 < 16) (l3 : p3 < 16)
    (n01 : p0 ≠ p1) (n02 : p0 ≠ p2) (n03 : p0 ≠ p3) (n12 : p1 ≠ p2) (n13 : p1 ≠ p3) (n23 : p2 ≠ p3) :
    Calls Tryz.prog 157 #[.pointer (some ⟨b, 0, none⟩), .agg #[B8 p0, B8 p1, B8 p2, B8 p3], U x, U y] w fun e w' => e = .returned (.tuple #[]) ∧
      Holds w' b t (set4 l p0 p1 p2 p3 (st4 (at4 l p0 p1 p2 p3) x y)) ∧ But b w w' := by
  refine (stirFour_cells b p0 p1 p2 p3 (l.getD p0 0) (l.getD p1 0) (l.getD p2 0) (l.getD p3 0) x y w h.lt l0 l1 l2 l3 n01 n02 n03 n12 n13 n23
    (h.cell _ (by omega)) (h.cell _ (by omega)) (h.cell _ (by omega)) (h.cell _ (by omega)) (h.frozen _) (h.frozen _) (h.frozen _) (h.frozen _)).mono ?_
  rintro e w' ⟨rfl, n, rfl⟩
  exact ⟨rfl, ((h.alloc _).put4 _ _ _ _ _).drewN n, (((But.refl b w).alloc _).put4 _ _ _ _ _).drewN n⟩

end Go.Proofs.YtmpiipcllgjhdaaGreatDoor.F
namespace Go.Proofs.YtmpiipcllgjhdaaGreatDoor.F
open Go.RowKit
theorem results_cell {P : Program} {fn : Func} {p : Tmp} {ty : TypeId} (h : fn.results = #[.cell p ty]) (tmps : Array Value) (w : World) (b o : Nat) (cs : List Value) (d : TypeDesc)
    (hp : tmps.getD p undef = .pointer (some ⟨b, o, none⟩)) (hc : w.rangeAt b o cs) (hu : P.underlying ty = some d) (hd : d.isRow = true) (hi : (P.info? ty).map (·.size) = some cs.length) :
    (results fn tmps).run P w = .ok (.agg cs.toArray) w := by
  have := run_loadVar_mid w b o ty cs d hc hu hd hi
  rw [Array.getD_eq_getD_getElem?] at hp
  simp only [results, h]
  simp [Sem.run_bind, hp, asAddr, this]
theorem size23 : (Tryz.prog.info? 199).map (·.size) = some 16 := by kernel_rfl
theorem arr_one (l : List UInt32) : (arr l).all (·.oneCell') = true := all_oneCell_toArray (fun v hv => by obtain ⟨x, _, rfl⟩ := List.mem_map.1 hv; rfl)
abbrev z16 : Array Value := #[.int .u8 0, .int .u8 0, .int .u8 0, .int .u8 0, .int .u8 0, .int .u8 0, .int .u8 0, .int .u8 0, .int .u8 0, .int .u8 0, .int .u8 0, .int .u8 0, .int .u8 0, .int .u8 0, .int .u8 0, .int .u8 0]
theorem z16_get : ∀ j, j < 16 → (z16[j]?).isSome = true := by decide
theorem size44 : (Tryz.prog.info? 202).map (·.size) = some 16 := by kernel_rfl
set_option maxHeartbeats 400000 in
theorem stir_any (l m : List UInt32) (hl : l.length = 16) (hm : m.length = 16) (w : World) (hT : Tabs w) :
    Calls Tryz.prog 156 #[.agg (arr l), .agg (arr m)] w fun e w' => e = .returned (.agg (arr (stirs m 10 l))) ∧ Below w.heap.size w w' := by
  have s1 := arr_size
  have hT0 : Hid (3 < w.heap.size) := hT.size
  go_enter Tryz.func156, Tryz.ntmps156
  go_wp2_with fail
  obtain ⟨w2, hw2⟩ : ∃ w2, w2 = ((w.alloc (Obj.cells (arr l) 199)).alloc (Obj.cells (arr m) 199)).alloc (Obj.cells (arr (List.replicate 16 0)) 199) := ⟨_, rfl⟩
  have a1 : Holds w2 w.heap.size 199 l := by rw [hw2]; exact ((Holds.new w 199 l).alloc _).alloc _
  have a2 : Holds w2 (w.heap.size + 1) 199 m := by rw [hw2]; have := Holds.new (w.alloc (Obj.cells (arr l) 199)) 199 m; rw [World.size_alloc] at this; exact this.alloc _
  have a3 : Holds w2 (w.heap.size + 1 + 1) 199 (List.replicate 16 0) := by rw [hw2]; have := Holds.new ((w.alloc (Obj.cells (arr l) 199)).alloc (Obj.cells (arr m) 199)) 199 (List.replicate 16 0); rw [World.size_alloc, World.size_alloc] at this; exact this
  have a4 : Hid (Below w.heap.size w w2) := by rw [hw2]; exact (((Below.refl _ w).alloc (Nat.le_refl _) _).alloc (by simp) _).alloc (by simp; omega) _
  have a5 : Hid (w.heap.size + 3 = w2.heap.size) := by rw [hw2]; simp [Hid]
  change Code.wp _ _ _ _ (((w.alloc (Obj.cells (arr l) 199)).alloc (Obj.cells (arr m) 199)).alloc (Obj.cells (arr (List.replicate 16 0)) 199))
  rw [← hw2]
  clear hw2
  go_loopg [8] 10 (fun k v8 wr => ∃ r : Nat, r + k = 10 ∧ v8 = .int .i64 r ∧ Holds wr w.heap.size 199 (stirs m r l) ∧ But w.heap.size w2 wr)
  case atStart => exact ⟨0, rfl, rfl, a1, But.refl _ _⟩
  case round =>
    obtain ⟨r, hr, rfl, hv, hb⟩ := hrel
    by_cases hlt : r < 10
    · have hr10 : (r : Int) < 10 := by omega
      have hrow := ((hT.of_below a4.out hT0.out).of_but hb hT0.out).row r hlt
      have hi44 : (Tryz.prog.info? 202).map (·.size) = some (ordRow r).length := by rw [size44, ordRow_len r hlt]
      have hi44' : (Tryz.prog.info? 202).map (·.size) = some (ordRow r).toArray.size := by rw [List.size_toArray]; exact hi44
      have h1c : (ordRow r).toArray.all (·.oneCell') = true := all_oneCell_toArray (ordRow_one r)
      have hth : (wr.alloc (Obj.cells z16 202)).there wr.heap.size 0 (ordRow r).toArray.size := by
        intro j hj
        rw [List.size_toArray, ordRow_len r hlt] at hj
        rw [Nat.zero_add, World.cell?_alloc_new, World.frozen?_alloc_new]
        exact ⟨z16_get j hj, rfl⟩
      go_wp2_with (first
        | (refine wpList_load_mid rfl 202 (.tmp 12) rfl 2 (r * 16) rfl (ordRow r) _ hrow Tryz.underlying202 rfl hi44 ?_)
        | (refine wpList_store_mid rfl 202 (.tmp 6) (.tmp 13) rfl wr.heap.size 0 (ordRow r).toArray rfl rfl hth hi44' h1c ?_))
      obtain ⟨w3, hw3⟩ : ∃ w3, w3 = (wr.alloc (Obj.cells z16 202)).setCells wr.heap.size 0 (ordRow r) := ⟨_, rfl⟩
      have b3 : But w.heap.size wr w3 := by rw [hw3]; exact But.setNews (Nat.le_refl _) _ _ _ ((But.refl _ _).alloc _)
      have r3 : w3.rangeAt wr.heap.size 0 (ordRow r) := by rw [hw3]; exact World.rangeAt_setCells_same _ _ _ _ (by simpa using hth)
      have z3 : Hid (wr.heap.size < w3.heap.size) := by show _ < _; rw [hw3, size_setCells, World.size_alloc]; omega
      have g0 : Hid (w.heap.size + 3 ≤ wr.heap.size) := by have := hb.size; have := a5.out; show _ ≤ _; omega
      have T3 := ((hT.of_below a4.out hT0.out).of_but hb hT0.out).of_but b3 hT0.out
      have M3 : Holds w3 (w.heap.size + 1) 199 m := b3.holds (hb.holds a2 (by omega)) (by omega)
      have v3 : Holds w3 w.heap.size 199 (stirs m r l) := by
        have := hv.alloc (Obj.cells z16 202)
        rw [hw3]
        unfold Holds
        rw [((But.setNews (b := wr.heap.size) (u := wr) (Nat.le_refl _) (ordRow r) 0 _ ((But.refl _ _).alloc _))).block _ hv.lt (by have := hv.lt; omega)]
        exact hv
      rw [← hw3]
      clear hw3 hth hi44 hi44' h1c hrow
      have hLl : (stirs m r l).length = 16 := by rw [stirs_length, hl]
      obtain ⟨wo, rfl⟩ : ∃ wo : World, wo = wr := ⟨_, rfl⟩
      obtain ⟨ko, rfl⟩ : ∃ ko : Nat, ko = gk := ⟨_, rfl⟩
      go_loopg [14] 8 (fun k v14 wi => ∃ i : Nat, i + k = 8 ∧ v14 = .int .i64 i ∧ Holds wi w.heap.size 199 (stirRow m r i (stirs m r l)) ∧ But w.heap.size w3 wi)
      case atStart => exact ⟨0, rfl, rfl, v3, But.refl _ _⟩
      case round =>
        obtain ⟨i, hi, rfl, hvi, hbi⟩ := hrel
        by_cases hil : i < 8
        · have hi8 : (i : Int) < 8 := by omega
          obtain ⟨lp0, lp1, lp2, lp3, n01, n02, n03, n12, n13, n23⟩ := plc_ok i hil
          have lj0 := ord_ok r hlt (2 * i) (by omega)
          have lj1 := ord_ok r hlt (2 * i + 1) (by omega)
          have hst : Hid (stirAt m r i (stirRow m r i (stirs m r l)) = stirRow m r (i + 1) (stirs m r l)) := rfl
          unfold stirAt at hst
          have ord0 := r3 (2 * i) _ (ordRow_get r (2 * i) hlt (by omega))
          have ord1 := r3 (2 * i + 1) _ (ordRow_get r (2 * i + 1) hlt (by omega))
          rw [Nat.zero_add] at ord0 ord1
          have mx := M3.cell (ordN r (2 * i)) (by omega)
          have my := M3.cell (ordN r (2 * i + 1)) (by omega)
          have pc0 : w3.cell? ⟨3, i * 4, none⟩ = some (B8 (plcN i 0)) := T3.plc (i * 4) (by omega)
          have pc1 : w3.cell? ⟨3, i * 4 + 1, none⟩ = some (B8 (plcN i 1)) := T3.plc (i * 4 + 1) (by omega)
          have pc2 : w3.cell? ⟨3, i * 4 + 2, none⟩ = some (B8 (plcN i 2)) := T3.plc (i * 4 + 2) (by omega)
          have pc3 : w3.cell? ⟨3, i * 4 + 3, none⟩ = some (B8 (plcN i 3)) := T3.plc (i * 4 + 3) (by omega)
          generalize plcN i 0 = p0 at *
          generalize plcN i 1 = p1 at *
          generalize plcN i 2 = p2 at *
          generalize plcN i 3 = p3 at *
          generalize ordN r (2 * i) = j0 at *
          generalize ordN r (2 * i + 1) = j1 at *
          generalize m.getD j0 0 = x at *
          generalize m.getD j1 0 = y at *
          have HS : Hid (∀ w', But w.heap.size w3 w' → (w'.cell? ⟨3, i * 4, none⟩ = some (B8 p0) ∧ w'.cell? ⟨3, i * 4 + 1, none⟩ = some (B8 p1) ∧ w'.cell? ⟨3, i * 4 + 2, none⟩ = some (B8 p2) ∧ w'.cell? ⟨3, i * 4 + 3, none⟩ = some (B8 p3) ∧
              w'.cell? ⟨wo.heap.size, 2 * i, none⟩ = some (B8 j0) ∧ w'.cell? ⟨wo.heap.size, 2 * i + 1, none⟩ = some (B8 j1) ∧ w'.cell? ⟨w.heap.size + 1, j0, none⟩ = some (U x) ∧ w'.cell? ⟨w.heap.size + 1, j1, none⟩ = some (U y))) := by
            have := hT0.out
            have := g0.out
            have := z3.out
            have := T3.size
            intro w' hw'
            refine ⟨?_, ?_, ?_, ?_, ?_, ?_, ?_, ?_⟩
            all_goals rw [hw'.cell (by omega) (by omega)]
            all_goals assumption
          have k0 : (0 : Int) ≤ 2 * (i : Int) := by omega
          have k1 : 2 * (i : Int) < 16 := by omega
          have k2 : (0 : Int) ≤ 2 * (i : Int) + 1 := by omega
          have k3 : 2 * (i : Int) + 1 < 16 := by omega
          have kw0 : IntKind.i64.wrap (2 * (i : Int)) = 2 * (i : Int) := IntWalk.i64_in _ ⟨by omega, by omega⟩
          have kw1 : IntKind.i64.wrap (2 * (i : Int) + 1) = 2 * (i : Int) + 1 := IntWalk.i64_in _ ⟨by omega, by omega⟩
          have k4 : (2 * (i : Int)).toNat = 2 * i := by omega
          have k5 : (2 * (i : Int) + 1).toNat = 2 * i + 1 := by omega
          have bx0 : (0 : Int) ≤ (j0 : Int) := by omega
          have bx1 : (j0 : Int) < 16 := by omega
          have by0 : (0 : Int) ≤ (j1 : Int) := by omega
          have by1 : (j1 : Int) < 16 := by omega
          have hLi : (stirRow m r i (stirs m r l)).length = 16 := by rw [stirRow_length, hLl]
          generalize stirRow m r i (stirs m r l) = L at *
          clear ord0 ord1 mx my pc0 pc1 pc2 pc3 M3 T3 r3 v3
          have hvd : Holds wr.drew w.heap.size 199 L := hvi
          go_wp2_with fail
          go_region_held3 (fun w' => (w'.cell? ⟨3, i * 4, none⟩ = some (B8 p0) ∧ w'.cell? ⟨3, i * 4 + 1, none⟩ = some (B8 p1) ∧ w'.cell? ⟨3, i * 4 + 2, none⟩ = some (B8 p2) ∧ w'.cell? ⟨3, i * 4 + 3, none⟩ = some (B8 p3) ∧
              w'.cell? ⟨wo.heap.size, 2 * i, none⟩ = some (B8 j0) ∧ w'.cell? ⟨wo.heap.size, 2 * i + 1, none⟩ = some (B8 j1) ∧ w'.cell? ⟨w.heap.size + 1, j0, none⟩ = some (U x) ∧ w'.cell? ⟨w.heap.size + 1, j1, none⟩ = some (U y)))
            (first | exact HS.out _ hbi.drew | exact HS.out _ (hbi.trans hb'.of_drew))
            (first | (go_at_call 157; refine (stirFour_any w.heap.size p0 p1 p2 p3 199 L x y _ hvd hLi lp0 lp1 lp2 lp3 n01 n02 n03 n12 n13 n23).mono ?_; rintro e w' ⟨rfl, hv', hb'⟩))
          go_wp2_with fail
          go_roundg (gk - 1)
          case measure => omega
          case rel => exact ⟨i + 1, by omega, by go_num, by rw [← hst.out]; exact hv', hbi.trans hb'.of_drew⟩
        · go_wp2_with fail
          obtain rfl : i = 8 := by omega
          go_roundg (ko - 1)
          case measure => omega
          case rel => exact ⟨r + 1, by omega, by go_num, hvi, (hb.trans b3).trans hbi⟩
    · have hrd : Hid (r = 10) := by show r = 10; omega
      have hLl : (stirs m r l).length = 16 := by rw [stirs_length, hl]
      generalize hLd : stirs m r l = L at *
      have HL : Hid (stirs m r l = L) := hLd
      clear hLd
      have hrg := hv.range
      have h3 := hb.holds a3 (by omega)
      have hth : wr.there (w.heap.size + 1 + 1) 0 (L.map U).toArray.size := by
        intro j hj
        rw [List.size_toArray, List.length_map, hLl] at hj
        rw [Nat.zero_add, h3.cell j (by simpa using hj), h3.frozen]
        exact ⟨rfl, rfl⟩
      have hi23 : (Tryz.prog.info? 199).map (·.size) = some (L.map U).length := by rw [size23, List.length_map, hLl]
      have hi23' : (Tryz.prog.info? 199).map (·.size) = some (L.map U).toArray.size := by rw [size23, List.size_toArray, List.length_map, hLl]
      have h1c := arr_one L
      generalize hAd : L.map U = A at *
      have HA : Hid (L.map U = A) := hAd
      clear hAd
      have h1c' : A.toArray.all (·.oneCell') = true := by rw [← HA.out]; exact h1c
      clear h1c hLl
      go_wp2_with (first
        | (refine wpList_load_mid rfl 199 (.tmp 2) rfl w.heap.size 0 rfl A _ hrg Tryz.underlying199 rfl hi23 ?_)
        | (refine wpList_store_mid rfl 199 (.tmp 4) (.tmp 36) rfl (w.heap.size + 1 + 1) 0 A.toArray rfl rfl hth hi23' h1c' ?_))
      refine bodyPost_ret (v := .agg A.toArray) (results_cell Tryz.results156 _ _ (w.heap.size + 1 + 1) 0 A _ rfl (World.rangeAt_setCells_same _ _ _ _ (by simpa using hth)) Tryz.underlying199 rfl hi23) rfl ⟨?_, ?_⟩
      · rw [← HA.out, ← HL.out, hrd.out]; rfl
      · exact Below.setNews (by omega) _ _ _ (a4.out.trans (hb.below (by have := a5.out; omega) (Nat.le_refl _)))
end Go.Proofs.YtmpiipcllgjhdaaGreatDoor.F
namespace Go.Proofs.YtmpiipcllgjhdaaGreatDoor.F
open Go.RowKit

/-! Small facts for the laws' walks. -/
theorem range_arr {w : World} {b : Nat} {t : TypeId} {l : List UInt32} (h : Holds w b t l) : w.rangeAt b 0 (arr l).toList := by
  have := h.range; simpa [arr] using this
theorem hi_arr (l : List UInt32) (hl : l.length = 16) : (Tryz.prog.info? 199).map (·.size) = some (arr l).toList.length := by rw [size23, Array.length_toList, arr_size, hl]
theorem Holds.of_below {w w' : World} {b B : Nat} {t : TypeId} {l : List UInt32} (h : Holds w b t l) (hb : Below B w w') (hB : b < B) : Holds w' b t l := by
  unfold Holds; rw [hb.block b hB]; exact h
theorem Below.of_drew {B : Nat} {u w : World} (h : Below B u.drew w) : Below B u w := ⟨h.os, h.tape, h.output, h.size, h.block⟩

end Go.Proofs.YtmpiipcllgjhdaaGreatDoor.F
namespace Go.Proofs.YtmpiipcllgjhdaaGreatDoor.F
open Go.ChangeShapes Go.WideShapes Go.ChangeAt Go.RowKit

section
variable {H : Type} {enc : TypeId × Value → H} {P : Program} {w : World} {base : Nat} {spare : Nat → Bool} {held : Bool}

end

/-! ### The tables -/
theorem gOrd : Tryz.prog.globalNamed "hustings/fold.orders" = some 2 := by kernel_rfl
theorem gPlc : Tryz.prog.globalNamed "hustings/fold.places" = some 3 := by kernel_rfl
theorem gOrdType : (Tryz.prog.globals[2]?).map (·.type) = some 203 := by kernel_rfl
theorem gPlcType : (Tryz.prog.globals[3]?).map (·.type) = some 207 := by kernel_rfl
theorem cells5 : Tryz.prog.cellsOf 5 = 1 := by kernel_rfl
theorem cells44 : Tryz.prog.cellsOf 202 = 16 := by kernel_rfl
theorem cells48 : Tryz.prog.cellsOf 206 = 4 := by kernel_rfl
/-- A table of rows, as data, holds its rows' numbers. -/
theorem cells_of_rows {P : Program} {w : World} {fuel : Nat} {t e e1 : TypeId} {n m : Nat} {k : IntKind} {cs : List Value} {p : List MemPlace} (rows : List (List Int))
    (ht : P.underlying t = some (.array n e)) (he : P.underlying e = some (.array m e1)) (he1 : P.underlying e1 = some (.int k)) (hc1 : P.cellsOf e1 = 1) (hce : P.cellsOf e = m)
    (h : DataW.trod (fun _ => ()) P w 0 (fun _ => true) false fuel t cs = some (.agg (rows.map fun z => Lib.tabData k z), p)) (r : Nat) (hr : r < n) :
    (cs.drop (r * m)).take m = (rows.getD r []).map fun z => Value.int k z := by
  obtain ⟨xs, q, _, hx, _, hxl, hat⟩ := DataW.trod_array ht h
  simp only [Prod.mk.injEq, DataW.agg.injEq] at hx
  have hlen : rows.length = n := by
    have := congrArg List.length hx.1
    simp at this
    omega
  have h1 := hat r hr
  rw [hce, List.getElem?_eq_getElem (by omega)] at h1
  have h2 : (xs[r]).1 = Lib.tabData k (rows.getD r []) := by
    have := congrArg (·[r]?) hx.1
    simp [show r < xs.length by omega, show r < rows.length by omega] at this
    simp [show r < rows.length by omega, ← this]
  have h3 : DataW.trod (fun _ => ()) P w 0 (fun _ => true) false q e ((cs.drop (r * m)).take m) = some (Lib.tabData k (rows.getD r []), (xs[r]).2) := by
    rw [h1, ← h2]
  exact Lib.cells_of_tab he he1 hc1 hce h3

def ordRows : List (List Int) := (List.range 10).map fun r => ((ordL.drop (r * 16)).take 16).map fun (n : Nat) => (n : Int)
def plcRows : List (List Int) := (List.range 8).map fun r => ((plcL.drop (r * 4)).take 4).map fun (n : Nat) => (n : Int)
theorem ordRows_data : (Rows.laid_hustings_fold_orders : DataW Unit) = .agg (ordRows.map fun z => Lib.tabData .u8 z) := by kernel_rfl
theorem plcRows_data : (Rows.laid_hustings_fold_places : DataW Unit) = .agg (plcRows.map fun z => Lib.tabData .u8 z) := by kernel_rfl

theorem take_drop_get {α : Type} (cs : List α) (o m j : Nat) (hj : j < m) : ((cs.drop o).take m)[j]? = cs[o + j]? := by
  simp [List.getElem?_take, List.getElem?_drop, hj]

theorem ord_cells {W : World} {rest : List (String × DataW Unit)} (h : laidMet Tryz.prog (("hustings/fold.orders", Rows.laid_hustings_fold_orders) :: rest) W) (i : Nat) (hi : i < 160) :
    W.cell? ⟨2, i, none⟩ = some (B8 (ordL.getD i 0)) := by
  obtain ⟨ps, ⟨g', t', cs, fuel, p, q, hg', ht', hvar, hd, _, _⟩, _⟩ := h
  obtain rfl := Option.some.inj (gOrd.symm.trans hg')
  obtain rfl := Option.some.inj (gOrdType.symm.trans ht')
  rw [ordRows_data] at hd
  have h1 := cells_of_rows ordRows Tryz.underlying203 Tryz.underlying202 Tryz.underlying5 cells5 cells44 hd (i / 16) (by omega)
  have h2 := congrArg (·[i % 16]?) h1
  rw [take_drop_get _ _ _ _ (by omega), show i / 16 * 16 + i % 16 = i by omega] at h2
  have h3 := World.var?_cell gOrd hvar i
  have hO : ∀ i, i < 160 → ((ordRows.getD (i / 16) []).map fun z => Value.int .u8 z)[i % 16]? = some (B8 (ordL.getD i 0)) := by
    intro i hi
    have hlen : ordL.length = 160 := by decide +kernel
    have a1 : ordRows.getD (i / 16) [] = ((ordL.drop (i / 16 * 16)).take 16).map fun (n : Nat) => (n : Int) := by
      simp [ordRows, show i / 16 < 10 by omega]
    rw [a1, List.map_map, List.getElem?_map, take_drop_get _ _ _ _ (by omega), show i / 16 * 16 + i % 16 = i by omega]
    simp [show i < ordL.length by omega]
  rw [hO i hi] at h2
  rw [h3]
  simpa using h2

theorem plc_cells {W : World} {rest : List (String × DataW Unit)} (h : laidMet Tryz.prog (("hustings/fold.places", Rows.laid_hustings_fold_places) :: rest) W) (i : Nat) (hi : i < 32) :
    W.cell? ⟨3, i, none⟩ = some (B8 (plcL.getD i 0)) := by
  obtain ⟨ps, ⟨g', t', cs, fuel, p, q, hg', ht', hvar, hd, _, _⟩, _⟩ := h
  obtain rfl := Option.some.inj (gPlc.symm.trans hg')
  obtain rfl := Option.some.inj (gPlcType.symm.trans ht')
  rw [plcRows_data] at hd
  have h1 := cells_of_rows plcRows Tryz.underlying207 Tryz.underlying206 Tryz.underlying5 cells5 cells48 hd (i / 4) (by omega)
  have h2 := congrArg (·[i % 4]?) h1
  rw [take_drop_get _ _ _ _ (by omega), show i / 4 * 4 + i % 4 = i by omega] at h2
  have h3 := World.var?_cell gPlc hvar i
  have hO : ∀ i, i < 32 → ((plcRows.getD (i / 4) []).map fun z => Value.int .u8 z)[i % 4]? = some (B8 (plcL.getD i 0)) := by
    intro i hi
    have hlen : plcL.length = 32 := by decide +kernel
    have a1 : plcRows.getD (i / 4) [] = ((plcL.drop (i / 4 * 4)).take 4).map fun (n : Nat) => (n : Int) := by
      simp [plcRows, show i / 4 < 8 by omega]
    rw [a1, List.map_map, List.getElem?_map, take_drop_get _ _ _ _ (by omega), show i / 4 * 4 + i % 4 = i by omega]
    simp [show i < plcL.length by omega]
  rw [hO i hi] at h2
  rw [h3]
  simpa using h2

theorem three_size : Tryz.prog.globals.size = 4 := by kernel_rfl
theorem three_lt : 3 < Tryz.prog.globals.size := by rw [three_size]; omega
/-- Three blocks lie ahead of all: the program's variables. -/
theorem three {W : World} (h : W.ShapedOpen Tryz.prog) : 3 < W.heap.size := by
  obtain ⟨cs, hc, _⟩ := h.1 3 (Array.replicate 32 (.int .u8 0)) 207 three_lt (by kernel_rfl)
  exact (Array.getElem?_eq_some_iff.1 hc).1

theorem tabs3 {W : World} (h : laidMet Tryz.prog [("hustings/fold.start", Rows.laid_hustings_fold_start), ("hustings/fold.orders", Rows.laid_hustings_fold_orders), ("hustings/fold.places", Rows.laid_hustings_fold_places)] W) (hs : W.ShapedOpen Tryz.prog) : Tabs W :=
  ⟨ord_cells h.tail, plc_cells h.tail.tail, three hs⟩

/-! ### The witnesses' world: the settled one, the tables holding what their initialisers lay -/
theorem own : ownKnob Tryz.prog.godebug = none := by kernel_rfl
def ordCells : Array Value := (ordL.map B8).toArray
def plcCells : Array Value := (plcL.map B8).toArray
def staCells : Array Value := #[.int .u32 1779033703, .int .u32 3144134277, .int .u32 1013904242, .int .u32 2773480762, .int .u32 1359893119, .int .u32 2600822924, .int .u32 528734635, .int .u32 1541459225]
/-- The cells of a block, and what it is made of, laid anew. -/
def relaid (C : Array Value) : Obj → Obj
  | .cells _ t frozen => .cells C t frozen
  | o => o
def laidWorld (P : Program) (os : Os) : World :=
  { World.holding P os ⟨#[], #[], []⟩ with heap := (((World.holding P os ⟨#[], #[], []⟩).heap.modify 2 (relaid ordCells)).modify 3 (relaid plcCells)).modify 0 (relaid staCells) }
end Go.Proofs.YtmpiipcllgjhdaaGreatDoor.F
