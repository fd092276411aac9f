/- Plain: sixteen words folded into eight. No Go text is walked here. -/
import Derived.Test.YteomefhjglnghaaDoorFRounds
set_option linter.unusedSimpArgs false
set_option linter.unusedVariables false
set_option maxRecDepth 100000
namespace Go.Proofs.YteomefhjglnghaaDoor.F
open Go.RowKit

/-- The start. -/
def staL : List UInt32 := [1779033703, 3144134277, 1013904242, 2773480762, 1359893119, 2600822924, 528734635, 1541459225]
/-- All bits turned over. -/
def unot (x : UInt32) : UInt32 := UInt32.ofNat (4294967295 - x.toNat)
/-- The lower and the upper half of a number of 64 bits. -/
def loU (n : Nat) : UInt32 := UInt32.ofNat (n % 4294967296)
def hiU (n : Nat) : UInt32 := UInt32.ofNat (n / 4294967296 % 4294967296)

theorem unot_toNat (x : UInt32) : (unot x).toNat = 4294967295 - x.toNat := by
  have := ult x
  unfold unot; rw [UInt32.toNat_ofNat']; omega
theorem loU_toNat (n : Nat) : (loU n).toNat = n % 4294967296 := by
  unfold loU; rw [UInt32.toNat_ofNat']; omega
theorem hiU_toNat (n : Nat) (h : n < 18446744073709551616) : (hiU n).toNat = n / 4294967296 := by
  unfold hiU; rw [UInt32.toNat_ofNat']; omega
theorem uxor_assoc (a b c : UInt32) : uxor (uxor a b) c = uxor a (uxor b c) := by unfold uxor; exact UInt32.xor_assoc ..

/-- h, then the start: so many words of each. -/
def fillV (h : List UInt32) : Nat → List UInt32
  | 0 => List.replicate 16 0
  | i + 1 => ((fillV h i).set i (h.getD i 0)).set (i + 8) (staL.getD i 0)
theorem fillV_length (h : List UInt32) (i : Nat) : (fillV h i).length = 16 := by
  induction i with
  | zero => rfl
  | succ i ih => simp [fillV, ih]
def mix12 (v : List UInt32) (n : Nat) : List UInt32 := v.set 12 (uxor (v.getD 12 0) (loU n))
def mix13 (v : List UInt32) (n : Nat) : List UInt32 := v.set 13 (uxor (v.getD 13 0) (hiU n))
def mix14 (v : List UInt32) (last : Bool) : List UInt32 := if last = true then v.set 14 (unot (v.getD 14 0)) else v
def mixV (h : List UInt32) (n : Nat) (last : Bool) : List UInt32 := mix14 (mix13 (mix12 (fillV h 8) n) n) last
theorem mixV_length (h : List UInt32) (n : Nat) (last : Bool) : (mixV h n last).length = 16 := by
  unfold mixV mix14 mix13 mix12
  split <;> simp [fillV_length]
def outV (h w : List UInt32) : Nat → List UInt32
  | 0 => h
  | i + 1 => (outV h w i).set i (uxor ((outV h w i).getD i 0) (uxor (w.getD i 0) (w.getD (i + 8) 0)))
theorem outV_length (h w : List UInt32) (i : Nat) : (outV h w i).length = h.length := by
  induction i with
  | zero => rfl
  | succ i ih => simp [outV, ih]
/-- Press. -/
def pressL (h m : List UInt32) (n : Nat) (last : Bool) : List UInt32 := outV h (stirs m 10 (mixV h n last)) 8
theorem pressL_length (h m : List UInt32) (n : Nat) (last : Bool) : (pressL h m n last).length = h.length := outV_length ..

/-- The start lies in the program's own variable. -/
structure Starts (w : World) : Prop where
  sta : ∀ i, i < 8 → w.cell? ⟨0, i, none⟩ = some (U (staL.getD i 0))
theorem Starts.of_below {w w' : World} {B : Nat} (h : Starts w) (hb : Below B w w') (h2 : 2 < B) : Starts w' :=
  ⟨fun i hi => by rw [hb.cell (by show 0 < B; omega)]; exact h.sta i hi⟩
theorem Holds.other {w : World} {b : Nat} {t : TypeId} {l : List UInt32} (h : Holds w b t l) {p : Addr} (hp : b ≠ p.block) (x : Value) : Holds (w.setCell p x) b t l := by
  unfold Holds; rw [Below.heap_setCell _ _ _ _ hp]; exact h
theorem Holds.oth {w : World} {b : Nat} {t : TypeId} {l : List UInt32} (h : Holds w b t l) {g : Nat} (hp : b ≠ g) (i : Nat) (x : Value) : Holds (w.setCell ⟨g, i, none⟩ x) b t l := h.other (p := ⟨g, i, none⟩) hp x
theorem Below.own {B : Nat} {u w : World} (h : Below B u w) {g : Nat} (hp : B ≤ g) (i : Nat) (x : Value) : Below B u (w.setCell ⟨g, i, none⟩ x) := h.setCell (p := ⟨g, i, none⟩) hp x
theorem Holds.others {b g : Nat} {t : TypeId} {l : List UInt32} (hp : b ≠ g) : ∀ (vs : List Value) (o : Nat) (w : World), Holds w b t l → Holds (w.setCells g o vs) b t l
  | [], _, _, h => h
  | v :: r, o, _, h => Holds.others hp r (o + 1) _ (h.other (p := ⟨g, o, none⟩) hp v)
theorem Holds.drew {w : World} {b : Nat} {t : TypeId} {l : List UInt32} (h : Holds w b t l) : Holds w.drew b t l := h
end Go.Proofs.YteomefhjglnghaaDoor.F
