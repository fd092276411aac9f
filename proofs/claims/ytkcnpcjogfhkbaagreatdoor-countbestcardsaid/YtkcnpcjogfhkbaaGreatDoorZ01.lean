/- Plain arithmetic on words of 32 bits: turning, half a stir and the way back. No Go text is named here. The walks of RotateLeft32, half and unhalf: what they answer for any words. Memory: an array of words in a block; what a call that writes one block alone leaves of the others. -/
import Derived.WalkKit
import Derived.Test.YtkcnpcjogfhkbaaGreatDoorRows
import Derived.WalkSpells
import Derived.WalkLawsBesides
import Derived.Handy
import Derived.Deep.Draws
import Derived.Deep.MidRow
set_option linter.unusedSimpArgs false
set_option linter.unusedVariables false
set_option maxRecDepth 100000
namespace Go.Proofs.YtkcnpcjogfhkbaaGreatDoor.F
open Go.RowKit

/-- A word turned to the right by s bits. -/
def rr (s : Nat) (x : UInt32) : UInt32 := UInt32.ofNat (x.toNat * 2 ^ (32 - s) % 2 ^ 32 + x.toNat / 2 ^ s)

theorem ult (x : UInt32) : x.toNat < 4294967296 := x.toNat_lt

theorem or_add (hi lo k x : Nat) (h : hi = 2 ^ k * x) (hl : lo < 2 ^ k) : hi ||| lo = hi + lo := by
  subst h; exact (Nat.two_pow_add_eq_or_of_lt hl x).symm

theorem mul_mod_two (x s : Nat) (hs : s ≤ 32) : x * 2 ^ (32 - s) % 2 ^ 32 = 2 ^ (32 - s) * (x % 2 ^ s) := by
  have e : (2 : Nat) ^ 32 = 2 ^ (32 - s) * 2 ^ s := by rw [← Nat.pow_add]; congr 1; omega
  rw [Nat.mul_comm x, e, Nat.mul_mod_mul_left]

theorem div_lt_two (x s : Nat) (hs : s ≤ 32) (hx : x < 2 ^ 32) : x / 2 ^ s < 2 ^ (32 - s) := by
  rw [Nat.div_lt_iff_lt_mul (Nat.two_pow_pos s), ← Nat.pow_add]
  have : 32 - s + s = 32 := by omega
  rw [this]; exact hx

theorem rr_lt (x s : Nat) (hs : s ≤ 32) (hx : x < 2 ^ 32) : x * 2 ^ (32 - s) % 2 ^ 32 + x / 2 ^ s < 2 ^ 32 := by
  have h1 := mul_mod_two x s hs
  have h2 := div_lt_two x s hs hx
  have h3 : x % 2 ^ s < 2 ^ s := Nat.mod_lt _ (Nat.two_pow_pos s)
  have e : (2 : Nat) ^ 32 = 2 ^ (32 - s) * 2 ^ s := by rw [← Nat.pow_add]; congr 1; omega
  have h4 : 2 ^ (32 - s) * (x % 2 ^ s) + 2 ^ (32 - s) ≤ 2 ^ (32 - s) * 2 ^ s := by
    rw [← Nat.mul_succ]; exact Nat.mul_le_mul_left _ h3
  omega

theorem rr_toNat (s : Nat) (hs : s ≤ 32) (x : UInt32) : (rr s x).toNat = x.toNat * 2 ^ (32 - s) % 2 ^ 32 + x.toNat / 2 ^ s := by
  unfold rr
  rw [UInt32.toNat_ofNat']
  exact Nat.mod_eq_of_lt (rr_lt x.toNat s hs (ult x))

theorem rr_bits (s : Nat) (hs : s ≤ 32) (x : UInt32) (A B : Int) (hA : A = ((x.toNat * 2 ^ (32 - s) % 2 ^ 32 : Nat) : Int)) (hB : B = ((x.toNat / 2 ^ s : Nat) : Int)) :
    bits .or .u32 A B = ((rr s x).toNat : Int) := by
  subst hA hB
  have hx := ult x
  have hlt := rr_lt x.toNat s hs hx
  rw [rr_toNat s hs, u32_or_nat _ _ (by omega) (by omega)]
  rw [or_add _ _ _ _ (mul_mod_two x.toNat s hs) (div_lt_two x.toNat s hs hx)]

/-- Turned, and turned on till it has come round. -/
theorem rr_rr (s : Nat) (h0 : s ≤ 32) (x : UInt32) : rr (32 - s) (rr s x) = x := by
  apply UInt32.toNat_inj.1
  rw [rr_toNat _ (by omega), rr_toNat s h0]
  have e : 32 - (32 - s) = s := by omega
  rw [e]
  have hx := ult x
  have h1 := mul_mod_two x.toNat s h0
  have h2 := div_lt_two x.toNat s h0 hx
  have h3 : x.toNat % 2 ^ s < 2 ^ s := Nat.mod_lt _ (Nat.two_pow_pos s)
  have e2 : (2 : Nat) ^ 32 = 2 ^ (32 - s) * 2 ^ s := by rw [← Nat.pow_add]; congr 1; omega
  rw [h1, e2]
  generalize hq : x.toNat / 2 ^ s = q at *
  generalize hr : x.toNat % 2 ^ s = r at *
  have hd := Nat.div_add_mod x.toNat (2 ^ s)
  rw [hq, hr] at hd
  have hP : 0 < 2 ^ (32 - s) := Nat.two_pow_pos _
  generalize 2 ^ (32 - s) = P at *
  generalize 2 ^ s = S at *
  have a1 : (P * r + q) / P = r := by
    rw [Nat.add_comm, Nat.add_mul_div_left _ _ hP, Nat.div_eq_of_lt h2, Nat.zero_add]
  have a2 : (P * r + q) * S % (P * S) = q * S := by
    rw [Nat.mul_mod_mul_right, Nat.mul_add_mod, Nat.mod_eq_of_lt h2]
  rw [a1, a2, Nat.mul_comm q, hd]

/-- Sum, difference and exclusive-or of words, under names of our own (so that no rule on numbers takes them apart). -/
def uadd (x y : UInt32) : UInt32 := x + y
def usub (x y : UInt32) : UInt32 := x - y
def uxor (x y : UInt32) : UInt32 := x ^^^ y

theorem add_u (x y : UInt32) : ((x.toNat : Int) + (y.toNat : Int)) % 4294967296 = ((uadd x y).toNat : Int) := by
  unfold uadd; rw [UInt32.toNat_add]; omega
theorem sub_u (x y : UInt32) : ((x.toNat : Int) - (y.toNat : Int)) % 4294967296 = ((usub x y).toNat : Int) := by
  have hx := ult x
  have hy := ult y
  unfold usub; rw [UInt32.toNat_sub]; omega
theorem xor_u (x y : UInt32) : bits .xor .u32 (x.toNat : Int) (y.toNat : Int) = ((uxor x y).toNat : Int) := by
  unfold uxor; rw [u32_xor_nat _ _ (ult x) (ult y), UInt32.toNat_xor]
theorem uxor_back (a b : UInt32) : uxor (uxor a b) b = a := by unfold uxor; rw [UInt32.xor_assoc, UInt32.xor_self, UInt32.xor_zero]
theorem uadd_back (a b : UInt32) : usub (uadd a b) b = a := by unfold usub uadd; exact UInt32.add_sub_cancel ..
theorem usub_back (a b : UInt32) : uadd (usub a b) b = a := by unfold usub uadd; exact UInt32.sub_add_cancel ..
theorem uadd_assoc (a b c : UInt32) : uadd (uadd a b) c = uadd a (uadd b c) := by unfold uadd; exact UInt32.add_assoc ..

/-- Four words. -/
structure Four where
  a : UInt32
  b : UInt32
  c : UInt32
  d : UInt32

/-- Half a stir. -/
def hf (tD tB : Nat) (p : Four) (x : UInt32) : Four :=
  let a := uadd p.a (uadd p.b x)
  let d := rr tD (uxor p.d a)
  let c := uadd p.c d
  { a := a, b := rr tB (uxor p.b c), c := c, d := d }
/-- Half a stir taken back. -/
def unhf (tD tB : Nat) (p : Four) (x : UInt32) : Four :=
  let b := uxor (rr (32 - tB) p.b) p.c
  let c := usub p.c p.d
  let d := uxor (rr (32 - tD) p.d) p.a
  { a := usub p.a (uadd b x), b := b, c := c, d := d }

theorem unhf_hf (tD tB : Nat) (hD : tD ≤ 32) (hB : tB ≤ 32) (p : Four) (x : UInt32) : unhf tD tB (hf tD tB p x) x = p := by
  obtain ⟨a, b, c, d⟩ := p
  simp only [unhf, hf, rr_rr tD hD, rr_rr tB hB, uxor_back, uadd_back]
theorem hf_unhf (tD tB : Nat) (hD : tD ≤ 32) (hB : tB ≤ 32) (p : Four) (x : UInt32) : hf tD tB (unhf tD tB p x) x = p := by
  obtain ⟨a, b, c, d⟩ := p
  have eD : ∀ y, rr tD (rr (32 - tD) y) = y := fun y => by have := rr_rr (32 - tD) (by omega) y; rwa [show 32 - (32 - tD) = tD by omega] at this
  have eB : ∀ y, rr tB (rr (32 - tB) y) = y := fun y => by have := rr_rr (32 - tB) (by omega) y; rwa [show 32 - (32 - tB) = tB by omega] at this
  simp only [unhf, hf, usub_back, uxor_back, eD, eB]
end Go.Proofs.YtkcnpcjogfhkbaaGreatDoor.F
namespace Go.Proofs.YtkcnpcjogfhkbaaGreatDoor.F
open Go.RowKit

/-- A word as the program holds it. -/
abbrev U (x : UInt32) : Value := .int .u32 (x.toNat : Int)

theorem ret_u {a b : Int} (h : a = b) : Ending.returned (.int .u32 a) = .returned (.int .u32 b) := by rw [h]

theorem and_m16 : bits BinOp.and IntKind.u64 (IntKind.u64.wrap (-16)) 31 = 16 := by decide
set_option maxHeartbeats 400000 in
theorem rot_m16 (X : UInt32) (w : World) :
    Calls Tryz.prog 139 #[U X, .int .i64 (-16)] w fun e w' => e = .returned (U (rr 16 X)) ∧ w' = w := by
  have ha := and_m16
  have hX := ult X
  go_enter Tryz.func139, Tryz.ntmps139
  go_wp2
  go_ret
  refine ⟨ret_u (rr_bits 16 (by decide) X _ _ ?_ ?_), rfl⟩
  · simp only [Nat.reduceSub, Nat.reducePow]; omega
  · simp only [Nat.reducePow]; omega

theorem and_m12 : bits BinOp.and IntKind.u64 (IntKind.u64.wrap (-12)) 31 = 20 := by decide
set_option maxHeartbeats 400000 in
theorem rot_m12 (X : UInt32) (w : World) :
    Calls Tryz.prog 139 #[U X, .int .i64 (-12)] w fun e w' => e = .returned (U (rr 12 X)) ∧ w' = w := by
  have ha := and_m12
  have hX := ult X
  go_enter Tryz.func139, Tryz.ntmps139
  go_wp2
  go_ret
  refine ⟨ret_u (rr_bits 12 (by decide) X _ _ ?_ ?_), rfl⟩
  · simp only [Nat.reduceSub, Nat.reducePow]; omega
  · simp only [Nat.reducePow]; omega

theorem and_m8 : bits BinOp.and IntKind.u64 (IntKind.u64.wrap (-8)) 31 = 24 := by decide
set_option maxHeartbeats 400000 in
theorem rot_m8 (X : UInt32) (w : World) :
    Calls Tryz.prog 139 #[U X, .int .i64 (-8)] w fun e w' => e = .returned (U (rr 8 X)) ∧ w' = w := by
  have ha := and_m8
  have hX := ult X
  go_enter Tryz.func139, Tryz.ntmps139
  go_wp2
  go_ret
  refine ⟨ret_u (rr_bits 8 (by decide) X _ _ ?_ ?_), rfl⟩
  · simp only [Nat.reduceSub, Nat.reducePow]; omega
  · simp only [Nat.reducePow]; omega

theorem and_m7 : bits BinOp.and IntKind.u64 (IntKind.u64.wrap (-7)) 31 = 25 := by decide
set_option maxHeartbeats 400000 in
theorem rot_m7 (X : UInt32) (w : World) :
    Calls Tryz.prog 139 #[U X, .int .i64 (-7)] w fun e w' => e = .returned (U (rr 7 X)) ∧ w' = w := by
  have ha := and_m7
  have hX := ult X
  go_enter Tryz.func139, Tryz.ntmps139
  go_wp2
  go_ret
  refine ⟨ret_u (rr_bits 7 (by decide) X _ _ ?_ ?_), rfl⟩
  · simp only [Nat.reduceSub, Nat.reducePow]; omega
  · simp only [Nat.reducePow]; omega

theorem and_p16 : bits BinOp.and IntKind.u64 16 31 = 16 := by decide
set_option maxHeartbeats 400000 in
theorem rot_p16 (X : UInt32) (w : World) :
    Calls Tryz.prog 139 #[U X, .int .i64 16] w fun e w' => e = .returned (U (rr 16 X)) ∧ w' = w := by
  have ha := and_p16
  have hX := ult X
  go_enter Tryz.func139, Tryz.ntmps139
  go_wp2
  go_ret
  refine ⟨ret_u (rr_bits 16 (by decide) X _ _ ?_ ?_), rfl⟩
  · simp only [Nat.reduceSub, Nat.reducePow]; omega
  · simp only [Nat.reducePow]; omega

theorem and_p12 : bits BinOp.and IntKind.u64 12 31 = 12 := by decide
set_option maxHeartbeats 400000 in
theorem rot_p12 (X : UInt32) (w : World) :
    Calls Tryz.prog 139 #[U X, .int .i64 12] w fun e w' => e = .returned (U (rr 20 X)) ∧ w' = w := by
  have ha := and_p12
  have hX := ult X
  go_enter Tryz.func139, Tryz.ntmps139
  go_wp2
  go_ret
  refine ⟨ret_u (rr_bits 20 (by decide) X _ _ ?_ ?_), rfl⟩
  · simp only [Nat.reduceSub, Nat.reducePow]; omega
  · simp only [Nat.reducePow]; omega

theorem and_p8 : bits BinOp.and IntKind.u64 8 31 = 8 := by decide
set_option maxHeartbeats 400000 in
theorem rot_p8 (X : UInt32) (w : World) :
    Calls Tryz.prog 139 #[U X, .int .i64 8] w fun e w' => e = .returned (U (rr 24 X)) ∧ w' = w := by
  have ha := and_p8
  have hX := ult X
  go_enter Tryz.func139, Tryz.ntmps139
  go_wp2
  go_ret
  refine ⟨ret_u (rr_bits 24 (by decide) X _ _ ?_ ?_), rfl⟩
  · simp only [Nat.reduceSub, Nat.reducePow]; omega
  · simp only [Nat.reducePow]; omega

theorem and_p7 : bits BinOp.and IntKind.u64 7 31 = 7 := by decide
set_option maxHeartbeats 400000 in
theorem rot_p7 (X : UInt32) (w : World) :
    Calls Tryz.prog 139 #[U X, .int .i64 7] w fun e w' => e = .returned (U (rr 25 X)) ∧ w' = w := by
  have ha := and_p7
  have hX := ult X
  go_enter Tryz.func139, Tryz.ntmps139
  go_wp2
  go_ret
  refine ⟨ret_u (rr_bits 25 (by decide) X _ _ ?_ ?_), rfl⟩
  · simp only [Nat.reduceSub, Nat.reducePow]; omega
  · simp only [Nat.reducePow]; omega

/-- Four words as half and unhalf answer them. -/
abbrev T4 (p : Four) : Value := .tuple #[U p.a, U p.b, U p.c, U p.d]

set_option maxHeartbeats 400000 in
theorem half_16 (a b c d x : UInt32) (w : World) :
    Calls Tryz.prog 137 #[U a, U b, U c, U d, U x, .int .i64 16, .int .i64 12] w fun e w' => e = .returned (T4 (hf 16 12 ⟨a, b, c, d⟩ x)) ∧ w' = w := by
  have ha := add_u
  have hs := sub_u
  have hx := xor_u
  go_enter Tryz.func137, Tryz.ntmps137
  go_wp2_with fail
  refine (rot_m16 _ _).mono ?_
  rintro e w' ⟨rfl, rfl⟩
  go_wp2_with fail
  refine (rot_m12 _ _).mono ?_
  rintro e w' ⟨rfl, rfl⟩
  go_wp2_with fail
  refine bodyPost_ret (v := T4 (hf 16 12 ⟨a, b, c, d⟩ x)) (by simp [results, Tryz.results137, go_sem, hf, add_u, sub_u, xor_u]) rfl ⟨rfl, rfl⟩

set_option maxHeartbeats 400000 in
theorem half_8 (a b c d x : UInt32) (w : World) :
    Calls Tryz.prog 137 #[U a, U b, U c, U d, U x, .int .i64 8, .int .i64 7] w fun e w' => e = .returned (T4 (hf 8 7 ⟨a, b, c, d⟩ x)) ∧ w' = w := by
  have ha := add_u
  have hs := sub_u
  have hx := xor_u
  go_enter Tryz.func137, Tryz.ntmps137
  go_wp2_with fail
  refine (rot_m8 _ _).mono ?_
  rintro e w' ⟨rfl, rfl⟩
  go_wp2_with fail
  refine (rot_m7 _ _).mono ?_
  rintro e w' ⟨rfl, rfl⟩
  go_wp2_with fail
  refine bodyPost_ret (v := T4 (hf 8 7 ⟨a, b, c, d⟩ x)) (by simp [results, Tryz.results137, go_sem, hf, add_u, sub_u, xor_u]) rfl ⟨rfl, rfl⟩

end Go.Proofs.YtkcnpcjogfhkbaaGreatDoor.F
namespace Go.Proofs.YtkcnpcjogfhkbaaGreatDoor.F
open Go.RowKit

/-- A byte as the program holds it. -/
abbrev B8 (x : Nat) : Value := .int .u8 (x : Int)
/-- Words as the cells of an array. -/
def arr (l : List UInt32) : Array Value := (l.map U).toArray
theorem arr_size (l : List UInt32) : (arr l).size = l.length := by simp [arr]
theorem arr_get (l : List UInt32) (i : Nat) : (arr l)[i]? = (l[i]?).map U := by simp [arr]
theorem arr_set (l : List UInt32) (i : Nat) (x : UInt32) : (arr l).setIfInBounds i (U x) = arr (l.set i x) := by
  simp [arr, List.map_set]
theorem arr_inj {l l' : List UInt32} (h : arr l = arr l') : l = l' := by
  unfold arr at h
  have h' : l.map U = l'.map U := by simpa using h
  have inj : ∀ a b : UInt32, U a = U b → a = b := fun a b e => by
    have e' : (a.toNat : Int) = (b.toNat : Int) := by injection e
    exact UInt32.toNat_inj.1 (by omega)
  clear h
  induction l generalizing l' with
  | nil => cases l' with
    | nil => rfl
    | cons b l' => simp at h'
  | cons a l ih => cases l' with
    | nil => simp at h'
    | cons b l' =>
      simp only [List.map_cons, List.cons.injEq] at h'
      rw [inj a b h'.1, ih h'.2]

/-- Block b is an array of these words. -/
def Holds (w : World) (b : Nat) (t : TypeId) (l : List UInt32) : Prop := w.heap[b]? = some (.cells (arr l) t)

theorem Holds.lt {w : World} {b : Nat} {t : TypeId} {l : List UInt32} (h : Holds w b t l) : b < w.heap.size := by
  have := Array.getElem?_eq_some_iff.1 h
  exact this.1
theorem Holds.cell {w : World} {b : Nat} {t : TypeId} {l : List UInt32} (h : Holds w b t l) (i : Nat) (hi : i < l.length) : w.cell? ⟨b, i, none⟩ = some (U (l.getD i 0)) := by
  unfold Holds at h
  simp [World.cell?, h, arr_get, hi]
theorem Holds.frozen {w : World} {b : Nat} {t : TypeId} {l : List UInt32} (h : Holds w b t l) (i : Nat) : w.frozen? ⟨b, i, none⟩ = false := by
  unfold Holds at h
  simp [World.frozen?, h]
theorem Holds.set {w : World} {b : Nat} {t : TypeId} {l : List UInt32} (h : Holds w b t l) (i : Nat) (x : UInt32) : Holds (w.setCell ⟨b, i, none⟩ (U x)) b t (l.set i x) := by
  unfold Holds at *
  simp [World.setCell, Array.getElem?_modify, h, arr_set]
theorem Holds.drewN {w : World} {b : Nat} {t : TypeId} {l : List UInt32} (h : Holds w b t l) (n : Nat) : Holds (w.drewN n) b t l := h
theorem Holds.alloc {w : World} {b : Nat} {t : TypeId} {l : List UInt32} (h : Holds w b t l) (o : Obj) : Holds (w.alloc o) b t l := by
  unfold Holds; rw [Below.heap_alloc _ _ _ h.lt]; exact h
theorem Holds.new (w : World) (t : TypeId) (l : List UInt32) : Holds (w.alloc (.cells (arr l) t)) w.heap.size t l := by
  show (w.heap.push _)[w.heap.size]? = _
  simp
theorem Holds.range {w : World} {b : Nat} {t : TypeId} {l : List UInt32} (h : Holds w b t l) : w.rangeAt b 0 (l.map U) := by
  intro j v hv
  have hj : j < l.length := by
    have := (List.getElem?_eq_some_iff.1 hv).1
    simpa using this
  rw [Nat.zero_add, h.cell j hj]
  simp [hj] at hv
  simp [hj, hv]

/-- Nothing but block b has turned, of what was there. -/
structure But (b : Nat) (w w' : World) : Prop where
  os : w'.os = w.os
  tape : w'.tape = w.tape
  output : w'.output = w.output
  size : w.heap.size ≤ w'.heap.size
  block : ∀ k, k < w.heap.size → k ≠ b → w'.heap[k]? = w.heap[k]?

theorem But.refl (b : Nat) (w : World) : But b w w := ⟨rfl, rfl, rfl, Nat.le_refl _, fun _ _ _ => rfl⟩
theorem But.trans {b : Nat} {u v w : World} (h : But b u v) (k : But b v w) : But b u w :=
  ⟨k.os.trans h.os, k.tape.trans h.tape, k.output.trans h.output, Nat.le_trans h.size k.size, fun i hi hb => (k.block i (Nat.lt_of_lt_of_le hi h.size) hb).trans (h.block i hi hb)⟩
theorem But.drew {b : Nat} {u w : World} (h : But b u w) : But b u w.drew := ⟨h.os, h.tape, h.output, h.size, h.block⟩
theorem But.drewN {b : Nat} {u w : World} (h : But b u w) (n : Nat) : But b u (w.drewN n) := ⟨h.os, h.tape, h.output, h.size, h.block⟩
theorem But.alloc {b : Nat} {u w : World} (h : But b u w) (o : Obj) : But b u (w.alloc o) :=
  h.trans ⟨rfl, rfl, rfl, by simp, fun k hk _ => Below.heap_alloc _ _ _ hk⟩
theorem But.setCell {b : Nat} {u w : World} (h : But b u w) (i : Nat) (x : Value) : But b u (w.setCell ⟨b, i, none⟩ x) :=
  h.trans ⟨rfl, rfl, rfl, by simp [World.setCell], fun k _ hb => Below.heap_setCell _ _ _ _ hb⟩
/-- A store into a block that was not there. -/
theorem But.setNew {b : Nat} {u w : World} (h : But b u w) {p : Addr} (hp : u.heap.size ≤ p.block) (x : Value) : But b u (w.setCell p x) :=
  ⟨h.os, h.tape, h.output, by simp only [World.size_setCell]; exact h.size, fun k hk hb => (Below.heap_setCell _ _ _ _ (by omega)).trans (h.block k hk hb)⟩
theorem But.cell {b : Nat} {u w : World} (h : But b u w) {k : Nat} (hk : k < u.heap.size) (hb : k ≠ b) (i : Nat) : w.cell? ⟨k, i, none⟩ = u.cell? ⟨k, i, none⟩ :=
  World.cell?_of_block (w := u) (h.block k hk hb)
theorem But.holds {b : Nat} {u w : World} (h : But b u w) {k : Nat} {t : TypeId} {l : List UInt32} (hk : Holds u k t l) (hb : k ≠ b) : Holds w k t l := by
  unfold Holds; rw [h.block k hk.lt hb]; exact hk
/-- Where block b is new, nothing that was there has turned. -/
theorem But.below {b B : Nat} {u w : World} (h : But b u w) (hB : B ≤ u.heap.size) (hb : B ≤ b) : Below B u w :=
  ⟨h.os, h.tape, h.output, h.size, fun k hk => h.block k (by omega) (by omega)⟩

/-- Four words laid into an array. -/
def put4 (w : World) (b p0 p1 p2 p3 : Nat) (q : Four) : World := (((w.setCell ⟨b, p0, none⟩ (U q.a)).setCell ⟨b, p1, none⟩ (U q.b)).setCell ⟨b, p2, none⟩ (U q.c)).setCell ⟨b, p3, none⟩ (U q.d)
def set4 (l : List UInt32) (p0 p1 p2 p3 : Nat) (q : Four) : List UInt32 := (((l.set p0 q.a).set p1 q.b).set p2 q.c).set p3 q.d
theorem Holds.put4 {w : World} {b : Nat} {t : TypeId} {l : List UInt32} (h : Holds w b t l) (p0 p1 p2 p3 : Nat) (q : Four) : Holds (put4 w b p0 p1 p2 p3 q) b t (set4 l p0 p1 p2 p3 q) :=
  (((h.set p0 q.a).set p1 q.b).set p2 q.c).set p3 q.d
theorem But.put4 {b : Nat} {u w : World} (h : But b u w) (p0 p1 p2 p3 : Nat) (q : Four) : But b u (put4 w b p0 p1 p2 p3 q) :=
  (((h.setCell p0 _).setCell p1 _).setCell p2 _).setCell p3 _

theorem But.of_drew {b : Nat} {u w : World} (h : But b u.drew w) : But b u w := ⟨h.os, h.tape, h.output, h.size, h.block⟩
/-- Many cells of a block that was not there. -/
theorem But.setNews {b g : Nat} {u : World} (hg : u.heap.size ≤ g) : ∀ (vs : List Value) (o : Nat) (w : World), But b u w → But b u (w.setCells g o vs)
  | [], _, _, h => h
  | v :: r, o, _, h => But.setNews hg r (o + 1) _ (h.setNew (p := ⟨g, o, none⟩) hg v)
theorem But.setOwn {b : Nat} {u : World} : ∀ (vs : List Value) (o : Nat) (w : World), But b u w → But b u (w.setCells b o vs)
  | [], _, _, h => h
  | v :: r, o, _, h => But.setOwn r (o + 1) _ (h.setCell o v)
theorem Below.setNews {B g : Nat} {u : World} (hg : B ≤ g) : ∀ (vs : List Value) (o : Nat) (w : World), Below B u w → Below B u (w.setCells g o vs)
  | [], _, _, h => h
  | v :: r, o, _, h => Below.setNews hg r (o + 1) _ (h.setCell (p := ⟨g, o, none⟩) hg v)
theorem size_setCells (g : Nat) : ∀ (vs : List Value) (o : Nat) (w : World), (w.setCells g o vs).heap.size = w.heap.size
  | [], _, _ => rfl
  | v :: r, o, w => by rw [World.setCells, size_setCells g r (o + 1), World.size_setCell]
theorem Holds.setCells_part {b : Nat} {t : TypeId} : ∀ (vs : List UInt32) (o : Nat) (l : List UInt32) (w : World), Holds w b t l → o + vs.length ≤ l.length →
    Holds (w.setCells b o (vs.map U)) b t (l.take o ++ vs ++ l.drop (o + vs.length))
  | [], o, l, w, h, _ => by simpa [World.setCells] using h
  | v :: r, o, l, w, h, hle => by
    simp only [List.length_cons] at hle
    have := Holds.setCells_part r (o + 1) (l.set o v) _ (h.set o v) (by simp; omega)
    simp only [List.map_cons, World.setCells]
    have e : (l.set o v).take (o + 1) ++ r ++ (l.set o v).drop (o + 1 + r.length) = l.take o ++ (v :: r) ++ l.drop (o + (r.length + 1)) := by
      rw [List.drop_set_of_lt (by omega), List.take_add_one]
      simp [List.take_set_of_le, show o < l.length by omega, Nat.add_assoc, Nat.add_comm]
      omega
    rw [e] at this
    exact this
/-- A whole array stored over another. -/
theorem Holds.setCells {w : World} {b : Nat} {t : TypeId} {l0 : List UInt32} (h : Holds w b t l0) (l : List UInt32) (hl : l0.length = l.length) : Holds (w.setCells b 0 (l.map U)) b t l := by
  have := Holds.setCells_part l 0 l0 w h (by omega)
  simpa [← hl] using this
end Go.Proofs.YtkcnpcjogfhkbaaGreatDoor.F
