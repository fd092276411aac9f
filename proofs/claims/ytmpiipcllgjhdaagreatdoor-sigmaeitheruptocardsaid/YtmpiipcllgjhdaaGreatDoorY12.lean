/- Texts of numbers; the scalars and the sizes of the kinds. The reference's WrongScalars. What is told of elements. -/
import Derived.Test.YtmpiipcllgjhdaaGreatDoorY11
set_option linter.unusedSimpArgs false
set_option linter.unusedVariables false
set_option maxRecDepth 100000
namespace Go.Proofs.YtmpiipcllgjhdaaGreatDoor
open Go.RowKit Go.Deep Go.PlainAid

theorem beV_beB (n : Nat) : ∀ k, beV (beB k n) = n % 256 ^ k
  | 0 => by simp [beB, beV, Nat.mod_one]
  | k + 1 => by
    rw [beB, beV, beV_beB n k, beB_length, Nat.mod_pow_succ, UInt8.toNat_ofNat']
    have : n / 256 ^ k % 256 % 2 ^ 8 = n / 256 ^ k % 256 := Nat.mod_eq_of_lt (by omega)
    rw [this, Nat.mul_comm]
    omega
theorem beB_add (n : Nat) : ∀ (k c : Nat), beB k (n + 256 ^ k * c) = beB k n
  | 0, _ => rfl
  | k + 1, c => by
    have e : n + 256 ^ (k + 1) * c = n + 256 ^ k * (256 * c) := by rw [Nat.pow_succ, Nat.mul_assoc]
    rw [e, beB, beB, beB_add n k, Nat.add_mul_div_left _ _ (Nat.pow_pos (by omega)), Nat.add_mul_mod_self_left]
theorem beB_beV : ∀ l : List UInt8, beB l.length (beV l) = l
  | [] => rfl
  | c :: l => by
    have hl := beV_lt l
    rw [List.length_cons, beB, beV]
    have h1 : (c.toNat * 256 ^ l.length + beV l) / 256 ^ l.length % 256 = c.toNat := by
      rw [Nat.add_comm, Nat.add_mul_div_right _ _ (Nat.pow_pos (by omega)), Nat.div_eq_of_lt hl, Nat.zero_add]
      exact Nat.mod_eq_of_lt (UInt8.toNat_lt c)
    rw [h1]
    have h2 : beB l.length (c.toNat * 256 ^ l.length + beV l) = l := by
      rw [Nat.add_comm, Nat.mul_comm, beB_add]
      exact beB_beV l
    rw [h2]
    congr 1
    exact UInt8.ofNat_toNat
/-- The text of a number in S bytes. -/
def TX (S n : Nat) : ByteArray := ⟨(beB S n).toArray⟩
theorem numS_TX {S n : Nat} (h : n < 256 ^ S) : numS (TX S n) = n := by
  unfold numS TX
  rw [List.toList_toArray, beV_beB, Nat.mod_eq_of_lt h]
theorem size_TX (S n : Nat) : (TX S n).size = S := by
  show (beB S n).toArray.size = S
  rw [List.size_toArray, beB_length]
theorem TX_numS {S : Nat} {s : ByteArray} (h : s.size = S) : TX S (numS s) = s := by
  unfold TX numS
  have e : S = s.data.toList.length := by rw [← h]; rfl
  rw [e, beB_beV]
theorem isSc_TX {S M n : Nat} (h : n < M) (hM : M ≤ 256 ^ S) : isSc S M (TX S n) = true := decide_eq_true ⟨size_TX S n, by rw [numS_TX (Nat.lt_of_lt_of_le h hM)]; exact h⟩
section
variable {z : Int} {G : Array Value} {S Wd M low one sq Ri Wd2 M2 low2 one2 sq2 Ri2 : Nat}
theorem scalar13 (k : KD z G S Wd M low one sq Ri Wd2 M2 low2 one2 sq2 Ri2) (s : ByteArray) (W : World) : Calls Tryz.prog 14 #[.int .i64 z, .string s] W fun e w' => e = .returned (.bool (isSc S M s)) ∧ Below W.heap.size W w' :=
  scalar_face (c := if isSc S M s then 0 else 6) (by cases isSc S M s <;> rfl) (fun W cp hc => on57_58 hc k.hG k.hi k.h1 k.CG (fun W g hI hc => clos58 hc (fun W' hb => scalarA ((k.gh W g hI).of_below hb) s k.hS k.big)))
theorem noScalar (k : KD z G S Wd M low one sq Ri Wd2 M2 low2 one2 sq2 Ri2) (s : ByteArray) (W : World) : Calls Tryz.prog 50 #[.agg #[.int .i64 z], .string s] W fun e w' => e = .returned (.bool (!isSc S M s)) ∧ Below W.heap.size W w' := noScalar44 (fun W => scalar13 k s W)
theorem groundOf_yes (k : KD z G S Wd M low one sq Ri Wd2 M2 low2 one2 sq2 Ri2) (W : World) : Calls Tryz.prog 39 #[.int .i64 z] W fun e w' => e = .returned (.tuple #[.agg #[.int .i64 z], .int .i64 0]) ∧ Below W.heap.size W w' :=
  groundOf30 (s := (S : Int)) (fun W => sizes_call (on46_ok k.hG k.hi k.h1 k.CG (fun W g hI => sizes_any (S := S) (k.gh W g hI).c)))
end
end Go.Proofs.YtmpiipcllgjhdaaGreatDoor
namespace Go.Proofs.YtmpiipcllgjhdaaGreatDoor
open Go.RowKit Go.Deep Go.PlainAid

end Go.Proofs.YtmpiipcllgjhdaaGreatDoor
namespace Go.Proofs.YtmpiipcllgjhdaaGreatDoor
open Go.RowKit Go.Deep Go.PlainAid

set_option maxRecDepth 100000 in
set_option maxHeartbeats 2000000 in
theorem signed_hi {w : World} {g S Wd M low one sq Wd2 M2 low2 one2 sq2 : Nat} (F : Hid (GH w g S Wd M low one sq Wd2 M2 low2 one2 sq2)) {x0 x1 x2 x3 z0 z1 z2 z3 : Nat} (C1 : Hid (∀ W, Calls Tryz.prog 64 #[.agg #[U (w4 M 0), U (w4 M 1), U (w4 M 2), U (w4 M 3)], .agg #[U x0, U x1, U x2, U x3]] W fun e w' => e = .returned (.bool true) ∧ Below W.heap.size W w')) (C2 : Hid (∀ W, Calls Tryz.prog 102 #[.agg #[U (w4 M2 0), U (w4 M2 1), U (w4 M2 2), U (w4 M2 3)], .agg #[U x0, U x1, U x2, U x3]] W fun e w' => e = .returned (.tuple #[.agg #[U z0, U z1, U z2, U z3], .int .u64 0]) ∧ Below W.heap.size W w')) :
    Calls Tryz.prog 105 #[.pointer (some ⟨g, 0, none⟩), .agg #[U x0, U x1, U x2, U x3]] w fun e w' => e = .returned (.agg #[U z0, U z1, U z2, U z3]) ∧ Below w.heap.size w w' := by
  go_enter Tryz.func105, Tryz.ntmps105
  go_wp2_with fail
  have neF_x : Hid (g ≠ w.heap.size + 0) := by have h := F.out.lt; show _ ≠ _; omega
  have neF_r : Hid (g ≠ w.heap.size + 1) := by have h := F.out.lt; show _ ≠ _; omega
  obtain ⟨U1, hU1⟩ : ∃ X, X = ((w.alloc (.cells #[U x0, U x1, U x2, U x3] 73)).alloc (.cells #[.int .u64 0, .int .u64 0, .int .u64 0, .int .u64 0] 73)) := ⟨_, rfl⟩
  have Jx : Hid (IHolds U1 (w.heap.size) 73 [U x0, U x1, U x2, U x3]) := by
    have q := IHolds.new w 73 [U x0, U x1, U x2, U x3]
    show IHolds _ _ _ _
    rw [hU1]
    exact (q.alloc _)
  have Jr : Hid (IHolds U1 (w.heap.size + 1) 73 [.int .u64 0, .int .u64 0, .int .u64 0, .int .u64 0]) := by
    have q := IHolds.new (w.alloc (.cells #[U x0, U x1, U x2, U x3] 73)) 73 [.int .u64 0, .int .u64 0, .int .u64 0, .int .u64 0]
    simp only [World.size_alloc, Nat.add_assoc, Nat.reduceAdd] at q
    show IHolds _ _ _ _
    rw [hU1]
    exact q
  have B : Hid (Below w.heap.size w U1) := by
    show Below _ _ _
    rw [hU1]
    exact (((Below.refl _ w).alloc (Nat.le_refl _) _).alloc (by simp only [World.size_alloc]; omega) _)
  rw [← hU1]
  clear hU1
  replace F := aG F (show Below w.heap.size w U1 from B.out)
  have hb := dB U1
  replace F := aG F hb
  replace B := aB B hb
  replace Jx := aJ Jx hb
  replace Jr := aJ Jr hb
  clear hb
  refine wp_region_held_drew (S := fun W => (IHolds W (w.heap.size) 73 [U x0, U x1, U x2, U x3]) ∧ (GH W g S Wd M low one sq Wd2 M2 low2 one2 sq2)) (by kernel_rfl) ⟨Jx.out, F.out⟩ (fun hHeld1 => ?_)
  generalize U1.drew = U2 at *
  refine tk (i := 0) (v := .pointer (some ⟨g, 0, none⟩)) rfl (by kernel_rfl) (fun _ _ _ h => h) rfl ?_ hHeld1 ?_
  · intro W hS; go_simp
  simp only [Act.put, y1, y2, y3, y4, y5, y6, y7]
  refine tk (i := 5) (v := .agg #[U x0, U x1, U x2, U x3]) rfl (by kernel_rfl) (fun _ _ _ h => h) rfl ?_ hHeld1 ?_
  · intro W hS; have zx_0 : W.cell? ⟨w.heap.size, 0, none⟩ = some (U x0) := IHolds.cell (l := [U x0, U x1, U x2, U x3]) (t := 73) (b := w.heap.size) (w := W) (hS.1) 0 (by simp); have zx_1 : W.cell? ⟨w.heap.size, 1, none⟩ = some (U x1) := IHolds.cell (l := [U x0, U x1, U x2, U x3]) (t := 73) (b := w.heap.size) (w := W) (hS.1) 1 (by simp); have zx_2 : W.cell? ⟨w.heap.size, 2, none⟩ = some (U x2) := IHolds.cell (l := [U x0, U x1, U x2, U x3]) (t := 73) (b := w.heap.size) (w := W) (hS.1) 2 (by simp); have zx_3 : W.cell? ⟨w.heap.size, 3, none⟩ = some (U x3) := IHolds.cell (l := [U x0, U x1, U x2, U x3]) (t := 73) (b := w.heap.size) (w := W) (hS.1) 3 (by simp); go_simp
  simp only [Act.put, y1, y2, y3, y4, y5, y6, y7]
  refine tk (i := 1) (v := .pointer (some ⟨g, 0, none⟩)) rfl (by kernel_rfl) (fun _ _ _ h => h) rfl ?_ hHeld1 ?_
  · intro W hS; go_simp
  simp only [Act.put, y1, y2, y3, y4, y5, y6, y7]
  refine tk (i := 2) (v := .pointer (some ⟨g, 1, none⟩)) rfl (by kernel_rfl) (fun _ _ _ h => h) rfl ?_ hHeld1 ?_
  · intro W hS; go_simp
  simp only [Act.put, y1, y2, y3, y4, y5, y6, y7]
  refine tk (i := 3) (v := .pointer (some ⟨g, 2, none⟩)) rfl (by kernel_rfl) (fun _ _ _ h => h) rfl ?_ hHeld1 ?_
  · intro W hS; go_simp
  simp only [Act.put, y1, y2, y3, y4, y5, y6, y7]
  refine tk (i := 4) (v := .agg #[U (w4 M 0), U (w4 M 1), U (w4 M 2), U (w4 M 3)]) rfl (by kernel_rfl) (fun _ _ _ h => h) rfl ?_ hHeld1 ?_
  · intro W hS; have fz := hS.2; have fz0 : W.cell? ⟨g, 2, none⟩ = some (U (w4 M 0)) := fz.fs.m0; have fz1 : W.cell? ⟨g, 3, none⟩ = some (U (w4 M 1)) := fz.fs.m1; have fz2 : W.cell? ⟨g, 4, none⟩ = some (U (w4 M 2)) := fz.fs.m2; have fz3 : W.cell? ⟨g, 5, none⟩ = some (U (w4 M 3)) := fz.fs.m3; go_simp
  simp only [Act.put, y1, y2, y3, y4, y5, y6, y7]
  refine wpAnyH_ready (rs := [6]) (by kernel_rfl) (by simp) ?_
  refine AllReadyH.cons rfl (fun K hK => ?_) AllReadyH.nil
  clear hHeld1
  go_simp
  refine (C1.out U2).mono ?_
  rintro e U3 ⟨rfl, hb⟩
  replace F := aG F hb
  replace B := aB B hb
  replace Jx := aJ Jx hb
  replace Jr := aJ Jr hb
  clear hb
  go_wp2_with fail
  refine hK.out _ _ (⟨Jx.out, F.out⟩) (fun hHeld2 => ?_)
  clear hK K
  try simp only [Act.put, y1, y2, y3, y4, y5, y6, y7]
  refine wpAnyH_done (by kernel_rfl) ?_ _
  clear hHeld2
  go_wp2_with fail
  have hb := dB U3
  replace F := aG F hb
  replace B := aB B hb
  replace Jx := aJ Jx hb
  replace Jr := aJ Jr hb
  clear hb
  refine wp_region_held_drew (S := fun W => (GH W g S Wd M low one sq Wd2 M2 low2 one2 sq2)) (by kernel_rfl) F.out (fun hHeld3 => ?_)
  generalize U3.drew = U4 at *
  refine tk (i := 0) (v := .pointer (some ⟨g, 0, none⟩)) rfl (by kernel_rfl) (fun _ _ _ h => h) rfl ?_ hHeld3 ?_
  · intro W hS; go_simp
  simp only [Act.put, y1, y2, y3, y4, y5, y6, y7]
  refine tk (i := 1) (v := .pointer (some ⟨g, 0, none⟩)) rfl (by kernel_rfl) (fun _ _ _ h => h) rfl ?_ hHeld3 ?_
  · intro W hS; go_simp
  simp only [Act.put, y1, y2, y3, y4, y5, y6, y7]
  refine tk (i := 2) (v := .pointer (some ⟨g, 15, none⟩)) rfl (by kernel_rfl) (fun _ _ _ h => h) rfl ?_ hHeld3 ?_
  · intro W hS; go_simp
  simp only [Act.put, y1, y2, y3, y4, y5, y6, y7]
  refine tk (i := 3) (v := .pointer (some ⟨g, 16, none⟩)) rfl (by kernel_rfl) (fun _ _ _ h => h) rfl ?_ hHeld3 ?_
  · intro W hS; go_simp
  simp only [Act.put, y1, y2, y3, y4, y5, y6, y7]
  refine tk (i := 4) (v := .agg #[U (w4 M2 0), U (w4 M2 1), U (w4 M2 2), U (w4 M2 3)]) rfl (by kernel_rfl) (fun _ _ _ h => h) rfl ?_ hHeld3 ?_
  · intro W hS; have fz := hS; have fz0 : W.cell? ⟨g, 16, none⟩ = some (U (w4 M2 0)) := fz.fe.m0; have fz1 : W.cell? ⟨g, 17, none⟩ = some (U (w4 M2 1)) := fz.fe.m1; have fz2 : W.cell? ⟨g, 18, none⟩ = some (U (w4 M2 2)) := fz.fe.m2; have fz3 : W.cell? ⟨g, 19, none⟩ = some (U (w4 M2 3)) := fz.fe.m3; go_simp
  simp only [Act.put, y1, y2, y3, y4, y5, y6, y7]
  refine wpAnyH_ready (rs := [5]) (by kernel_rfl) (by simp) ?_
  refine AllReadyH.cons rfl (fun K hK => ?_) AllReadyH.nil
  clear hHeld3
  have zx_0 : U4.cell? ⟨w.heap.size, 0, none⟩ = some (U x0) := IHolds.cell (l := [U x0, U x1, U x2, U x3]) (t := 73) (b := w.heap.size) (w := U4) (Jx.out) 0 (by simp)
  have zx_1 : U4.cell? ⟨w.heap.size, 1, none⟩ = some (U x1) := IHolds.cell (l := [U x0, U x1, U x2, U x3]) (t := 73) (b := w.heap.size) (w := U4) (Jx.out) 1 (by simp)
  have zx_2 : U4.cell? ⟨w.heap.size, 2, none⟩ = some (U x2) := IHolds.cell (l := [U x0, U x1, U x2, U x3]) (t := 73) (b := w.heap.size) (w := U4) (Jx.out) 2 (by simp)
  have zx_3 : U4.cell? ⟨w.heap.size, 3, none⟩ = some (U x3) := IHolds.cell (l := [U x0, U x1, U x2, U x3]) (t := 73) (b := w.heap.size) (w := U4) (Jx.out) 3 (by simp)
  go_simp
  clear zx_0 zx_1 zx_2 zx_3
  refine hK.out _ _ (F.out) (fun hHeld4 => ?_)
  clear hK K
  try simp only [Act.put, y1, y2, y3, y4, y5, y6, y7]
  refine wpAnyH_ready (rs := [6]) (by kernel_rfl) (by simp) ?_
  refine AllReadyH.cons rfl (fun K hK => ?_) AllReadyH.nil
  clear hHeld4
  go_simp
  refine (C2.out U4).mono ?_
  rintro e U5 ⟨rfl, hb⟩
  replace F := aG F hb
  replace B := aB B hb
  replace Jx := aJ Jx hb
  replace Jr := aJ Jr hb
  clear hb
  go_wp2_with fail
  refine hK.out _ _ (F.out) (fun hHeld5 => ?_)
  clear hK K
  try simp only [Act.put, y1, y2, y3, y4, y5, y6, y7]
  refine tk (i := 7) (v := .tuple #[.agg #[U z0, U z1, U z2, U z3], .int .u64 0]) rfl (by kernel_rfl) (fun _ _ _ h => h) rfl ?_ hHeld5 ?_
  · intro W hS; go_simp
  simp only [Act.put, y1, y2, y3, y4, y5, y6, y7]
  refine tk (i := 8) (v := .agg #[U z0, U z1, U z2, U z3]) rfl (by kernel_rfl) (fun _ _ _ h => h) rfl ?_ hHeld5 ?_
  · intro W hS; go_simp
  simp only [Act.put, y1, y2, y3, y4, y5, y6, y7]
  refine tk (i := 9) (v := (.int .u64 0)) rfl (by kernel_rfl) (fun _ _ _ h => h) rfl ?_ hHeld5 ?_
  · intro W hS; go_simp
  simp only [Act.put, y1, y2, y3, y4, y5, y6, y7]
  refine wpAnyH_ready (rs := [10]) (by kernel_rfl) (by simp) ?_
  refine AllReadyH.cons rfl (fun K hK => ?_) AllReadyH.nil
  clear hHeld5
  have zx_0 : U5.cell? ⟨w.heap.size, 0, none⟩ = some (U x0) := IHolds.cell (l := [U x0, U x1, U x2, U x3]) (t := 73) (b := w.heap.size) (w := U5) (Jx.out) 0 (by simp)
  have zx_1 : U5.cell? ⟨w.heap.size, 1, none⟩ = some (U x1) := IHolds.cell (l := [U x0, U x1, U x2, U x3]) (t := 73) (b := w.heap.size) (w := U5) (Jx.out) 1 (by simp)
  have zx_2 : U5.cell? ⟨w.heap.size, 2, none⟩ = some (U x2) := IHolds.cell (l := [U x0, U x1, U x2, U x3]) (t := 73) (b := w.heap.size) (w := U5) (Jx.out) 2 (by simp)
  have zx_3 : U5.cell? ⟨w.heap.size, 3, none⟩ = some (U x3) := IHolds.cell (l := [U x0, U x1, U x2, U x3]) (t := 73) (b := w.heap.size) (w := U5) (Jx.out) 3 (by simp)
  have f0 := fJ Jx
  have hBut : But (w.heap.size) U5 ((((U5.setCell ⟨w.heap.size, 0, none⟩ (U z0)).setCell ⟨w.heap.size, 1, none⟩ (U z1)).setCell ⟨w.heap.size, 2, none⟩ (U z2)).setCell ⟨w.heap.size, 3, none⟩ (U z3)) := (((((But.refl _ U5).setCell 0 (U z0)).setCell 1 (U z1)).setCell 2 (U z2)).setCell 3 (U z3))
  replace F := tG F hBut neF_x.out
  have I4 : Hid (IHolds _ (w.heap.size) 73 [U z0, U z1, U z2, U z3]) := ((((Jx.out.set 0 (U z0)).set 1 (U z1)).set 2 (U z2)).set 3 (U z3))
  replace B : Hid (Below w.heap.size w ((((U5.setCell ⟨w.heap.size, 0, none⟩ (U z0)).setCell ⟨w.heap.size, 1, none⟩ (U z1)).setCell ⟨w.heap.size, 2, none⟩ (U z2)).setCell ⟨w.heap.size, 3, none⟩ (U z3))) := ((((B.out.setCell (by first | exact Nat.le_refl _ | exact ge_x.out | (show w.heap.size ≤ w.heap.size; omega)) _).setCell (by first | exact Nat.le_refl _ | exact ge_x.out | (show w.heap.size ≤ w.heap.size; omega)) _).setCell (by first | exact Nat.le_refl _ | exact ge_x.out | (show w.heap.size ≤ w.heap.size; omega)) _).setCell (by first | exact Nat.le_refl _ | exact ge_x.out | (show w.heap.size ≤ w.heap.size; omega)) _)
  replace Jr := tJ Jr hBut (by omega)
  replace Jx := I4
  clear I4 hBut
  go_simp
  try go_wp2_with fail
  clear zx_0 zx_1 zx_2 zx_3
  clear f0
  generalize ((((U5.setCell ⟨w.heap.size, 0, none⟩ (U z0)).setCell ⟨w.heap.size, 1, none⟩ (U z1)).setCell ⟨w.heap.size, 2, none⟩ (U z2)).setCell ⟨w.heap.size, 3, none⟩ (U z3)) = U6 at *
  refine hK.out _ _ (F.out) (fun hHeld6 => ?_)
  clear hK K
  try simp only [Act.put, y1, y2, y3, y4, y5, y6, y7]
  refine wpAnyH_done (by kernel_rfl) ?_ _
  clear hHeld6
  have Kx : Hid (IHolds U6 (w.heap.size) 73 [U z0, U z1, U z2, U z3]) := Jx.out
  have zr_0 : U6.cell? ⟨w.heap.size + 1, 0, none⟩ = some (.int .u64 0) := IHolds.cell (l := [.int .u64 0, .int .u64 0, .int .u64 0, .int .u64 0]) (t := 73) (b := w.heap.size + 1) (w := U6) (Jr.out) 0 (by simp)
  have zr_1 : U6.cell? ⟨w.heap.size + 1, 1, none⟩ = some (.int .u64 0) := IHolds.cell (l := [.int .u64 0, .int .u64 0, .int .u64 0, .int .u64 0]) (t := 73) (b := w.heap.size + 1) (w := U6) (Jr.out) 1 (by simp)
  have zr_2 : U6.cell? ⟨w.heap.size + 1, 2, none⟩ = some (.int .u64 0) := IHolds.cell (l := [.int .u64 0, .int .u64 0, .int .u64 0, .int .u64 0]) (t := 73) (b := w.heap.size + 1) (w := U6) (Jr.out) 2 (by simp)
  have zr_3 : U6.cell? ⟨w.heap.size + 1, 3, none⟩ = some (.int .u64 0) := IHolds.cell (l := [.int .u64 0, .int .u64 0, .int .u64 0, .int .u64 0]) (t := 73) (b := w.heap.size + 1) (w := U6) (Jr.out) 3 (by simp)
  have f0 := fJ Jr
  have hBut : But (w.heap.size + 1) U6 ((((U6.setCell ⟨w.heap.size + 1, 0, none⟩ (U z0)).setCell ⟨w.heap.size + 1, 1, none⟩ (U z1)).setCell ⟨w.heap.size + 1, 2, none⟩ (U z2)).setCell ⟨w.heap.size + 1, 3, none⟩ (U z3)) := (((((But.refl _ U6).setCell 0 (U z0)).setCell 1 (U z1)).setCell 2 (U z2)).setCell 3 (U z3))
  replace F := tG F hBut neF_r.out
  have I4 : Hid (IHolds _ (w.heap.size + 1) 73 [U z0, U z1, U z2, U z3]) := ((((Jr.out.set 0 (U z0)).set 1 (U z1)).set 2 (U z2)).set 3 (U z3))
  replace B : Hid (Below w.heap.size w ((((U6.setCell ⟨w.heap.size + 1, 0, none⟩ (U z0)).setCell ⟨w.heap.size + 1, 1, none⟩ (U z1)).setCell ⟨w.heap.size + 1, 2, none⟩ (U z2)).setCell ⟨w.heap.size + 1, 3, none⟩ (U z3))) := ((((B.out.setCell (by first | exact Nat.le_refl _ | exact ge_r.out | (show w.heap.size ≤ w.heap.size + 1; omega)) _).setCell (by first | exact Nat.le_refl _ | exact ge_r.out | (show w.heap.size ≤ w.heap.size + 1; omega)) _).setCell (by first | exact Nat.le_refl _ | exact ge_r.out | (show w.heap.size ≤ w.heap.size + 1; omega)) _).setCell (by first | exact Nat.le_refl _ | exact ge_r.out | (show w.heap.size ≤ w.heap.size + 1; omega)) _)
  replace Jx := tJ Jx hBut (by omega)
  replace Jr := I4
  clear I4 hBut
  have zx_0 : U6.cell? ⟨w.heap.size, 0, none⟩ = some (U z0) := IHolds.cell (l := [U z0, U z1, U z2, U z3]) (t := 73) (b := w.heap.size) (w := U6) (Kx.out) 0 (by simp)
  have zx_1 : U6.cell? ⟨w.heap.size, 1, none⟩ = some (U z1) := IHolds.cell (l := [U z0, U z1, U z2, U z3]) (t := 73) (b := w.heap.size) (w := U6) (Kx.out) 1 (by simp)
  have zx_2 : U6.cell? ⟨w.heap.size, 2, none⟩ = some (U z2) := IHolds.cell (l := [U z0, U z1, U z2, U z3]) (t := 73) (b := w.heap.size) (w := U6) (Kx.out) 2 (by simp)
  have zx_3 : U6.cell? ⟨w.heap.size, 3, none⟩ = some (U z3) := IHolds.cell (l := [U z0, U z1, U z2, U z3]) (t := 73) (b := w.heap.size) (w := U6) (Kx.out) 3 (by simp)
  go_wp2_with fail
  clear zx_0 zx_1 zx_2 zx_3
  clear Kx
  clear zr_0 zr_1 zr_2 zr_3
  clear f0
  generalize ((((U6.setCell ⟨w.heap.size + 1, 0, none⟩ (U z0)).setCell ⟨w.heap.size + 1, 1, none⟩ (U z1)).setCell ⟨w.heap.size + 1, 2, none⟩ (U z2)).setCell ⟨w.heap.size + 1, 3, none⟩ (U z3)) = U7 at *
  have E0 : Hid (U7.cell? ⟨w.heap.size + 1, 0, none⟩ = some (U z0)) := IHolds.cell (l := [U z0, U z1, U z2, U z3]) (t := 73) (b := w.heap.size + 1) (w := U7) Jr.out 0 (by simp)
  have E1 : Hid (U7.cell? ⟨w.heap.size + 1, 1, none⟩ = some (U z1)) := IHolds.cell (l := [U z0, U z1, U z2, U z3]) (t := 73) (b := w.heap.size + 1) (w := U7) Jr.out 1 (by simp)
  have E2 : Hid (U7.cell? ⟨w.heap.size + 1, 2, none⟩ = some (U z2)) := IHolds.cell (l := [U z0, U z1, U z2, U z3]) (t := 73) (b := w.heap.size + 1) (w := U7) Jr.out 2 (by simp)
  have E3 : Hid (U7.cell? ⟨w.heap.size + 1, 3, none⟩ = some (U z3)) := IHolds.cell (l := [U z0, U z1, U z2, U z3]) (t := 73) (b := w.heap.size + 1) (w := U7) Jr.out 3 (by simp)
  exact bodyPost_ret (v := .agg #[U z0, U z1, U z2, U z3]) (by simp [results, Tryz.results105, go_sem, E0.out, E1.out, E2.out, E3.out]) rfl ⟨rfl, B.out⟩
set_option maxRecDepth 100000 in
set_option maxHeartbeats 2000000 in
theorem signed_lo {w : World} {g S Wd M low one sq Wd2 M2 low2 one2 sq2 : Nat} (F : Hid (GH w g S Wd M low one sq Wd2 M2 low2 one2 sq2)) {x0 x1 x2 x3 : Nat} (C1 : Hid (∀ W, Calls Tryz.prog 64 #[.agg #[U (w4 M 0), U (w4 M 1), U (w4 M 2), U (w4 M 3)], .agg #[U x0, U x1, U x2, U x3]] W fun e w' => e = .returned (.bool false) ∧ Below W.heap.size W w'))  :
    Calls Tryz.prog 105 #[.pointer (some ⟨g, 0, none⟩), .agg #[U x0, U x1, U x2, U x3]] w fun e w' => e = .returned (.agg #[U x0, U x1, U x2, U x3]) ∧ Below w.heap.size w w' := by
  go_enter Tryz.func105, Tryz.ntmps105
  go_wp2_with fail
  have neF_x : Hid (g ≠ w.heap.size + 0) := by have h := F.out.lt; show _ ≠ _; omega
  have neF_r : Hid (g ≠ w.heap.size + 1) := by have h := F.out.lt; show _ ≠ _; omega
  obtain ⟨U1, hU1⟩ : ∃ X, X = ((w.alloc (.cells #[U x0, U x1, U x2, U x3] 73)).alloc (.cells #[.int .u64 0, .int .u64 0, .int .u64 0, .int .u64 0] 73)) := ⟨_, rfl⟩
  have Jx : Hid (IHolds U1 (w.heap.size) 73 [U x0, U x1, U x2, U x3]) := by
    have q := IHolds.new w 73 [U x0, U x1, U x2, U x3]
    show IHolds _ _ _ _
    rw [hU1]
    exact (q.alloc _)
  have Jr : Hid (IHolds U1 (w.heap.size + 1) 73 [.int .u64 0, .int .u64 0, .int .u64 0, .int .u64 0]) := by
    have q := IHolds.new (w.alloc (.cells #[U x0, U x1, U x2, U x3] 73)) 73 [.int .u64 0, .int .u64 0, .int .u64 0, .int .u64 0]
    simp only [World.size_alloc, Nat.add_assoc, Nat.reduceAdd] at q
    show IHolds _ _ _ _
    rw [hU1]
    exact q
  have B : Hid (Below w.heap.size w U1) := by
    show Below _ _ _
    rw [hU1]
    exact (((Below.refl _ w).alloc (Nat.le_refl _) _).alloc (by simp only [World.size_alloc]; omega) _)
  rw [← hU1]
  clear hU1
  replace F := aG F (show Below w.heap.size w U1 from B.out)
  have hb := dB U1
  replace F := aG F hb
  replace B := aB B hb
  replace Jx := aJ Jx hb
  replace Jr := aJ Jr hb
  clear hb
  refine wp_region_held_drew (S := fun W => (IHolds W (w.heap.size) 73 [U x0, U x1, U x2, U x3]) ∧ (GH W g S Wd M low one sq Wd2 M2 low2 one2 sq2)) (by kernel_rfl) ⟨Jx.out, F.out⟩ (fun hHeld1 => ?_)
  generalize U1.drew = U2 at *
  refine tk (i := 0) (v := .pointer (some ⟨g, 0, none⟩)) rfl (by kernel_rfl) (fun _ _ _ h => h) rfl ?_ hHeld1 ?_
  · intro W hS; go_simp
  simp only [Act.put, y1, y2, y3, y4, y5, y6, y7]
  refine tk (i := 5) (v := .agg #[U x0, U x1, U x2, U x3]) rfl (by kernel_rfl) (fun _ _ _ h => h) rfl ?_ hHeld1 ?_
  · intro W hS; have zx_0 : W.cell? ⟨w.heap.size, 0, none⟩ = some (U x0) := IHolds.cell (l := [U x0, U x1, U x2, U x3]) (t := 73) (b := w.heap.size) (w := W) (hS.1) 0 (by simp); have zx_1 : W.cell? ⟨w.heap.size, 1, none⟩ = some (U x1) := IHolds.cell (l := [U x0, U x1, U x2, U x3]) (t := 73) (b := w.heap.size) (w := W) (hS.1) 1 (by simp); have zx_2 : W.cell? ⟨w.heap.size, 2, none⟩ = some (U x2) := IHolds.cell (l := [U x0, U x1, U x2, U x3]) (t := 73) (b := w.heap.size) (w := W) (hS.1) 2 (by simp); have zx_3 : W.cell? ⟨w.heap.size, 3, none⟩ = some (U x3) := IHolds.cell (l := [U x0, U x1, U x2, U x3]) (t := 73) (b := w.heap.size) (w := W) (hS.1) 3 (by simp); go_simp
  simp only [Act.put, y1, y2, y3, y4, y5, y6, y7]
  refine tk (i := 1) (v := .pointer (some ⟨g, 0, none⟩)) rfl (by kernel_rfl) (fun _ _ _ h => h) rfl ?_ hHeld1 ?_
  · intro W hS; go_simp
  simp only [Act.put, y1, y2, y3, y4, y5, y6, y7]
  refine tk (i := 2) (v := .pointer (some ⟨g, 1, none⟩)) rfl (by kernel_rfl) (fun _ _ _ h => h) rfl ?_ hHeld1 ?_
  · intro W hS; go_simp
  simp only [Act.put, y1, y2, y3, y4, y5, y6, y7]
  refine tk (i := 3) (v := .pointer (some ⟨g, 2, none⟩)) rfl (by kernel_rfl) (fun _ _ _ h => h) rfl ?_ hHeld1 ?_
  · intro W hS; go_simp
  simp only [Act.put, y1, y2, y3, y4, y5, y6, y7]
  refine tk (i := 4) (v := .agg #[U (w4 M 0), U (w4 M 1), U (w4 M 2), U (w4 M 3)]) rfl (by kernel_rfl) (fun _ _ _ h => h) rfl ?_ hHeld1 ?_
  · intro W hS; have fz := hS.2; have fz0 : W.cell? ⟨g, 2, none⟩ = some (U (w4 M 0)) := fz.fs.m0; have fz1 : W.cell? ⟨g, 3, none⟩ = some (U (w4 M 1)) := fz.fs.m1; have fz2 : W.cell? ⟨g, 4, none⟩ = some (U (w4 M 2)) := fz.fs.m2; have fz3 : W.cell? ⟨g, 5, none⟩ = some (U (w4 M 3)) := fz.fs.m3; go_simp
  simp only [Act.put, y1, y2, y3, y4, y5, y6, y7]
  refine wpAnyH_ready (rs := [6]) (by kernel_rfl) (by simp) ?_
  refine AllReadyH.cons rfl (fun K hK => ?_) AllReadyH.nil
  clear hHeld1
  go_simp
  refine (C1.out U2).mono ?_
  rintro e U3 ⟨rfl, hb⟩
  replace F := aG F hb
  replace B := aB B hb
  replace Jx := aJ Jx hb
  replace Jr := aJ Jr hb
  clear hb
  go_wp2_with fail
  refine hK.out _ _ (⟨Jx.out, F.out⟩) (fun hHeld2 => ?_)
  clear hK K
  try simp only [Act.put, y1, y2, y3, y4, y5, y6, y7]
  refine wpAnyH_done (by kernel_rfl) ?_ _
  clear hHeld2
  have Kx : Hid (IHolds U3 (w.heap.size) 73 [U x0, U x1, U x2, U x3]) := Jx.out
  have zr_0 : U3.cell? ⟨w.heap.size + 1, 0, none⟩ = some (.int .u64 0) := IHolds.cell (l := [.int .u64 0, .int .u64 0, .int .u64 0, .int .u64 0]) (t := 73) (b := w.heap.size + 1) (w := U3) (Jr.out) 0 (by simp)
  have zr_1 : U3.cell? ⟨w.heap.size + 1, 1, none⟩ = some (.int .u64 0) := IHolds.cell (l := [.int .u64 0, .int .u64 0, .int .u64 0, .int .u64 0]) (t := 73) (b := w.heap.size + 1) (w := U3) (Jr.out) 1 (by simp)
  have zr_2 : U3.cell? ⟨w.heap.size + 1, 2, none⟩ = some (.int .u64 0) := IHolds.cell (l := [.int .u64 0, .int .u64 0, .int .u64 0, .int .u64 0]) (t := 73) (b := w.heap.size + 1) (w := U3) (Jr.out) 2 (by simp)
  have zr_3 : U3.cell? ⟨w.heap.size + 1, 3, none⟩ = some (.int .u64 0) := IHolds.cell (l := [.int .u64 0, .int .u64 0, .int .u64 0, .int .u64 0]) (t := 73) (b := w.heap.size + 1) (w := U3) (Jr.out) 3 (by simp)
  have f0 := fJ Jr
  have hBut : But (w.heap.size + 1) U3 ((((U3.setCell ⟨w.heap.size + 1, 0, none⟩ (U x0)).setCell ⟨w.heap.size + 1, 1, none⟩ (U x1)).setCell ⟨w.heap.size + 1, 2, none⟩ (U x2)).setCell ⟨w.heap.size + 1, 3, none⟩ (U x3)) := (((((But.refl _ U3).setCell 0 (U x0)).setCell 1 (U x1)).setCell 2 (U x2)).setCell 3 (U x3))
  replace F := tG F hBut neF_r.out
  have I4 : Hid (IHolds _ (w.heap.size + 1) 73 [U x0, U x1, U x2, U x3]) := ((((Jr.out.set 0 (U x0)).set 1 (U x1)).set 2 (U x2)).set 3 (U x3))
  replace B : Hid (Below w.heap.size w ((((U3.setCell ⟨w.heap.size + 1, 0, none⟩ (U x0)).setCell ⟨w.heap.size + 1, 1, none⟩ (U x1)).setCell ⟨w.heap.size + 1, 2, none⟩ (U x2)).setCell ⟨w.heap.size + 1, 3, none⟩ (U x3))) := ((((B.out.setCell (by first | exact Nat.le_refl _ | exact ge_r.out | (show w.heap.size ≤ w.heap.size + 1; omega)) _).setCell (by first | exact Nat.le_refl _ | exact ge_r.out | (show w.heap.size ≤ w.heap.size + 1; omega)) _).setCell (by first | exact Nat.le_refl _ | exact ge_r.out | (show w.heap.size ≤ w.heap.size + 1; omega)) _).setCell (by first | exact Nat.le_refl _ | exact ge_r.out | (show w.heap.size ≤ w.heap.size + 1; omega)) _)
  replace Jx := tJ Jx hBut (by omega)
  replace Jr := I4
  clear I4 hBut
  have zx_0 : U3.cell? ⟨w.heap.size, 0, none⟩ = some (U x0) := IHolds.cell (l := [U x0, U x1, U x2, U x3]) (t := 73) (b := w.heap.size) (w := U3) (Kx.out) 0 (by simp)
  have zx_1 : U3.cell? ⟨w.heap.size, 1, none⟩ = some (U x1) := IHolds.cell (l := [U x0, U x1, U x2, U x3]) (t := 73) (b := w.heap.size) (w := U3) (Kx.out) 1 (by simp)
  have zx_2 : U3.cell? ⟨w.heap.size, 2, none⟩ = some (U x2) := IHolds.cell (l := [U x0, U x1, U x2, U x3]) (t := 73) (b := w.heap.size) (w := U3) (Kx.out) 2 (by simp)
  have zx_3 : U3.cell? ⟨w.heap.size, 3, none⟩ = some (U x3) := IHolds.cell (l := [U x0, U x1, U x2, U x3]) (t := 73) (b := w.heap.size) (w := U3) (Kx.out) 3 (by simp)
  go_wp2_with fail
  clear zx_0 zx_1 zx_2 zx_3
  clear Kx
  clear zr_0 zr_1 zr_2 zr_3
  clear f0
  generalize ((((U3.setCell ⟨w.heap.size + 1, 0, none⟩ (U x0)).setCell ⟨w.heap.size + 1, 1, none⟩ (U x1)).setCell ⟨w.heap.size + 1, 2, none⟩ (U x2)).setCell ⟨w.heap.size + 1, 3, none⟩ (U x3)) = U4 at *
  have E0 : Hid (U4.cell? ⟨w.heap.size + 1, 0, none⟩ = some (U x0)) := IHolds.cell (l := [U x0, U x1, U x2, U x3]) (t := 73) (b := w.heap.size + 1) (w := U4) Jr.out 0 (by simp)
  have E1 : Hid (U4.cell? ⟨w.heap.size + 1, 1, none⟩ = some (U x1)) := IHolds.cell (l := [U x0, U x1, U x2, U x3]) (t := 73) (b := w.heap.size + 1) (w := U4) Jr.out 1 (by simp)
  have E2 : Hid (U4.cell? ⟨w.heap.size + 1, 2, none⟩ = some (U x2)) := IHolds.cell (l := [U x0, U x1, U x2, U x3]) (t := 73) (b := w.heap.size + 1) (w := U4) Jr.out 2 (by simp)
  have E3 : Hid (U4.cell? ⟨w.heap.size + 1, 3, none⟩ = some (U x3)) := IHolds.cell (l := [U x0, U x1, U x2, U x3]) (t := 73) (b := w.heap.size + 1) (w := U4) Jr.out 3 (by simp)
  exact bodyPost_ret (v := .agg #[U x0, U x1, U x2, U x3]) (by simp [results, Tryz.results105, go_sem, E0.out, E1.out, E2.out, E3.out]) rfl ⟨rfl, B.out⟩
set_option maxRecDepth 100000 in
set_option maxHeartbeats 2000000 in
theorem toldElem_words {w : World} {g S Wd M low one sq Wd2 M2 low2 one2 sq2 : Nat} (F : Hid (GH w g S Wd M low one sq Wd2 M2 low2 one2 sq2)) {x0 x1 x2 x3 z0 z1 z2 z3 : Nat} {t : ByteArray} (C1 : Hid (∀ W, GH W g S Wd M low one sq Wd2 M2 low2 one2 sq2 → Calls Tryz.prog 105 #[.pointer (some ⟨g, 0, none⟩), .agg #[U x0, U x1, U x2, U x3]] W fun e w' => e = .returned (.agg #[U z0, U z1, U z2, U z3]) ∧ Below W.heap.size W w')) (C2 : Hid (∀ W, GH W g S Wd M low one sq Wd2 M2 low2 one2 sq2 → Calls Tryz.prog 65 #[.pointer (some ⟨g, 0, none⟩), .agg #[U z0, U z1, U z2, U z3]] W fun e w' => e = .returned (.tuple #[.string t, .int .i64 0]) ∧ Below W.heap.size W w')) :
    Calls Tryz.prog 68 #[.pointer (some ⟨g, 0, none⟩), .agg #[U x0, U x1, U x2, U x3]] w fun e w' => e = .returned (.tuple #[.string t, .int .i64 0]) ∧ Below w.heap.size w w' := by
  have Jx : Hid (IHolds (w.alloc (.cells #[U x0, U x1, U x2, U x3] 73)) w.heap.size 73 [U x0, U x1, U x2, U x3]) := IHolds.new w 73 _
  have B : Hid (Below w.heap.size w (w.alloc (.cells #[U x0, U x1, U x2, U x3] 73))) := nB _ _
  replace F := aG F B.out
  have zx0 : (w.alloc (.cells #[U x0, U x1, U x2, U x3] 73)).cell? ⟨w.heap.size, 0, none⟩ = some (U x0) := Jx.out.cell 0 (by simp)
  have zx1 : (w.alloc (.cells #[U x0, U x1, U x2, U x3] 73)).cell? ⟨w.heap.size, 1, none⟩ = some (U x1) := Jx.out.cell 1 (by simp)
  have zx2 : (w.alloc (.cells #[U x0, U x1, U x2, U x3] 73)).cell? ⟨w.heap.size, 2, none⟩ = some (U x2) := Jx.out.cell 2 (by simp)
  have zx3 : (w.alloc (.cells #[U x0, U x1, U x2, U x3] 73)).cell? ⟨w.heap.size, 3, none⟩ = some (U x3) := Jx.out.cell 3 (by simp)
  go_enter Tryz.func68, Tryz.ntmps68
  go_wp2_with fail
  clear zx0 zx1 zx2 zx3
  generalize (w.alloc (.cells #[U x0, U x1, U x2, U x3] 73)) = V0 at *
  refine (C1.out V0 F.out).mono ?_
  rintro e U1 ⟨rfl, hb⟩
  replace F := aG F hb
  replace B := aB B hb
  replace Jx := aJ Jx hb
  clear hb
  go_wp2_with fail
  refine (C2.out U1 F.out).mono ?_
  rintro e U2 ⟨rfl, hb⟩
  replace F := aG F hb
  replace B := aB B hb
  replace Jx := aJ Jx hb
  clear hb
  go_wp2_with fail
  go_ret2
  exact ⟨rfl, B.out⟩
set_option maxRecDepth 100000 in
set_option maxHeartbeats 2000000 in
theorem gpower_words {w : World} {g S Wd M low one sq Wd2 M2 low2 one2 sq2 : Nat} (F : Hid (GH w g S Wd M low one sq Wd2 M2 low2 one2 sq2)) {x0 x1 x2 x3 m0 m1 m2 m3 z0 z1 z2 z3 : Nat} {t : ByteArray}
    (C1 : Hid (∀ W b1 b2, GH W g S Wd M low one sq Wd2 M2 low2 one2 sq2 → IHolds W b1 73 [U x0, U x1, U x2, U x3] → IHolds W b2 73 [U m0, U m1, U m2, U m3] → Calls Tryz.prog 69 #[.pointer (some ⟨g, 15, none⟩), .slice (some ⟨b1, 0, none⟩) 1 1, .slice (some ⟨b2, 0, none⟩) 1 1] W fun e w' => e = .returned (.agg #[U z0, U z1, U z2, U z3]) ∧ Below W.heap.size W w')) (C2 : Hid (∀ W, GH W g S Wd M low one sq Wd2 M2 low2 one2 sq2 → Calls Tryz.prog 68 #[.pointer (some ⟨g, 0, none⟩), .agg #[U z0, U z1, U z2, U z3]] W fun e w' => e = .returned (.tuple #[.string t, .int .i64 0]) ∧ Below W.heap.size W w')) :
    Calls Tryz.prog 38 #[.pointer (some ⟨g, 0, none⟩), .agg #[U x0, U x1, U x2, U x3], .agg #[U m0, U m1, U m2, U m3]] w fun e w' => e = .returned (.tuple #[.string t, .int .i64 0]) ∧ Below w.heap.size w w' := by
  go_enter Tryz.func38, Tryz.ntmps38
  go_wp2_with fail
  have neF_x : Hid (g ≠ w.heap.size + 0) := by have h := F.out.lt; show _ ≠ _; omega
  have neF_m : Hid (g ≠ w.heap.size + 1) := by have h := F.out.lt; show _ ≠ _; omega
  obtain ⟨U1, hU1⟩ : ∃ X, X = ((w.alloc (.cells #[U x0, U x1, U x2, U x3] 73)).alloc (.cells #[U m0, U m1, U m2, U m3] 73)) := ⟨_, rfl⟩
  have Jx : Hid (IHolds U1 (w.heap.size) 73 [U x0, U x1, U x2, U x3]) := by
    have q := IHolds.new w 73 [U x0, U x1, U x2, U x3]
    show IHolds _ _ _ _
    rw [hU1]
    exact (q.alloc _)
  have Jm : Hid (IHolds U1 (w.heap.size + 1) 73 [U m0, U m1, U m2, U m3]) := by
    have q := IHolds.new (w.alloc (.cells #[U x0, U x1, U x2, U x3] 73)) 73 [U m0, U m1, U m2, U m3]
    simp only [World.size_alloc, Nat.add_assoc, Nat.reduceAdd] at q
    show IHolds _ _ _ _
    rw [hU1]
    exact q
  have B : Hid (Below w.heap.size w U1) := by
    show Below _ _ _
    rw [hU1]
    exact (((Below.refl _ w).alloc (Nat.le_refl _) _).alloc (by simp only [World.size_alloc]; omega) _)
  rw [← hU1]
  clear hU1
  replace F := aG F (show Below w.heap.size w U1 from B.out)
  have hb := dB U1
  replace F := aG F hb
  replace B := aB B hb
  replace Jx := aJ Jx hb
  replace Jm := aJ Jm hb
  clear hb
  refine wp_region_held_drew (S := fun W => (IHolds W (w.heap.size) 73 [U x0, U x1, U x2, U x3]) ∧ (IHolds W (w.heap.size + 1) 73 [U m0, U m1, U m2, U m3]) ∧ (GH W g S Wd M low one sq Wd2 M2 low2 one2 sq2)) (by kernel_rfl) ⟨Jx.out, Jm.out, F.out⟩ (fun hHeld1 => ?_)
  generalize U1.drew = U2 at *
  refine tk (i := 0) (v := .pointer (some ⟨g, 0, none⟩)) rfl (by kernel_rfl) (fun _ _ _ h => h) rfl ?_ hHeld1 ?_
  · intro W hS; go_simp
  simp only [Act.put, y1, y2, y3, y4, y5, y6, y7]
  refine tk (i := 1) (v := .pointer (some ⟨g, 0, none⟩)) rfl (by kernel_rfl) (fun _ _ _ h => h) rfl ?_ hHeld1 ?_
  · intro W hS; go_simp
  simp only [Act.put, y1, y2, y3, y4, y5, y6, y7]
  refine tk (i := 4) (v := .agg #[U x0, U x1, U x2, U x3]) rfl (by kernel_rfl) (fun _ _ _ h => h) rfl ?_ hHeld1 ?_
  · intro W hS; have zx_0 : W.cell? ⟨w.heap.size, 0, none⟩ = some (U x0) := IHolds.cell (l := [U x0, U x1, U x2, U x3]) (t := 73) (b := w.heap.size) (w := W) (hS.1) 0 (by simp); have zx_1 : W.cell? ⟨w.heap.size, 1, none⟩ = some (U x1) := IHolds.cell (l := [U x0, U x1, U x2, U x3]) (t := 73) (b := w.heap.size) (w := W) (hS.1) 1 (by simp); have zx_2 : W.cell? ⟨w.heap.size, 2, none⟩ = some (U x2) := IHolds.cell (l := [U x0, U x1, U x2, U x3]) (t := 73) (b := w.heap.size) (w := W) (hS.1) 2 (by simp); have zx_3 : W.cell? ⟨w.heap.size, 3, none⟩ = some (U x3) := IHolds.cell (l := [U x0, U x1, U x2, U x3]) (t := 73) (b := w.heap.size) (w := W) (hS.1) 3 (by simp); go_simp
  simp only [Act.put, y1, y2, y3, y4, y5, y6, y7]
  refine tk (i := 6) (v := .agg #[U m0, U m1, U m2, U m3]) rfl (by kernel_rfl) (fun _ _ _ h => h) rfl ?_ hHeld1 ?_
  · intro W hS; have zm_0 : W.cell? ⟨w.heap.size + 1, 0, none⟩ = some (U m0) := IHolds.cell (l := [U m0, U m1, U m2, U m3]) (t := 73) (b := w.heap.size + 1) (w := W) (hS.2.1) 0 (by simp); have zm_1 : W.cell? ⟨w.heap.size + 1, 1, none⟩ = some (U m1) := IHolds.cell (l := [U m0, U m1, U m2, U m3]) (t := 73) (b := w.heap.size + 1) (w := W) (hS.2.1) 1 (by simp); have zm_2 : W.cell? ⟨w.heap.size + 1, 2, none⟩ = some (U m2) := IHolds.cell (l := [U m0, U m1, U m2, U m3]) (t := 73) (b := w.heap.size + 1) (w := W) (hS.2.1) 2 (by simp); have zm_3 : W.cell? ⟨w.heap.size + 1, 3, none⟩ = some (U m3) := IHolds.cell (l := [U m0, U m1, U m2, U m3]) (t := 73) (b := w.heap.size + 1) (w := W) (hS.2.1) 3 (by simp); go_simp
  simp only [Act.put, y1, y2, y3, y4, y5, y6, y7]
  refine tk (i := 2) (v := .pointer (some ⟨g, 0, none⟩)) rfl (by kernel_rfl) (fun _ _ _ h => h) rfl ?_ hHeld1 ?_
  · intro W hS; go_simp
  simp only [Act.put, y1, y2, y3, y4, y5, y6, y7]
  refine tk (i := 3) (v := .pointer (some ⟨g, 15, none⟩)) rfl (by kernel_rfl) (fun _ _ _ h => h) rfl ?_ hHeld1 ?_
  · intro W hS; go_simp
  simp only [Act.put, y1, y2, y3, y4, y5, y6, y7]
  refine wpAnyH_ready (rs := [5, 7]) (by kernel_rfl) (by simp) ?_
  refine AllReadyH.cons rfl (fun K hK => ?_) (AllReadyH.cons rfl (fun K hK => ?_) AllReadyH.nil)
  · clear hHeld1
    have neF_p : Hid (g ≠ U2.heap.size) := F.out.ne
    go_simp
    have ne_x_p := nJ Jx
    have ne_m_p := nJ Jm
    have ge_p : Hid (w.heap.size ≤ U2.heap.size) := B.out.size
    have hb := nB U2 (.cells #[U x0, U x1, U x2, U x3] 73)
    have Jp : Hid (IHolds (U2.alloc (.cells #[U x0, U x1, U x2, U x3] 73)) U2.heap.size 73 [U x0, U x1, U x2, U x3]) := IHolds.new _ _ _
    replace F := aG F hb
    replace B := aB B hb
    replace Jx := aJ Jx hb
    replace Jm := aJ Jm hb
    clear hb
    generalize (U2.alloc (.cells #[U x0, U x1, U x2, U x3] 73)) = U3 at *
    generalize U2.heap.size = b4 at *
    refine hK.out _ _ (⟨Jx.out, Jm.out, F.out⟩) (fun hHeld2 => ?_)
    clear hK K
    try simp only [Act.put, y1, y2, y3, y4, y5, y6, y7]
    refine wpAnyH_ready (rs := [7]) (by kernel_rfl) (by simp) ?_
    refine AllReadyH.cons rfl (fun K hK => ?_) AllReadyH.nil
    clear hHeld2
    have neF_e : Hid (g ≠ U3.heap.size) := F.out.ne
    go_simp
    have ne_x_e := nJ Jx
    have ne_m_e := nJ Jm
    have ne_p_e := nJ Jp
    have ge_e : Hid (w.heap.size ≤ U3.heap.size) := B.out.size
    have hb := nB U3 (.cells #[U m0, U m1, U m2, U m3] 73)
    have Je : Hid (IHolds (U3.alloc (.cells #[U m0, U m1, U m2, U m3] 73)) U3.heap.size 73 [U m0, U m1, U m2, U m3]) := IHolds.new _ _ _
    replace F := aG F hb
    replace B := aB B hb
    replace Jx := aJ Jx hb
    replace Jm := aJ Jm hb
    replace Jp := aJ Jp hb
    clear hb
    generalize (U3.alloc (.cells #[U m0, U m1, U m2, U m3] 73)) = U5 at *
    generalize U3.heap.size = b6 at *
    refine hK.out _ _ (⟨Jx.out, Jm.out, F.out⟩) (fun hHeld3 => ?_)
    clear hK K
    try simp only [Act.put, y1, y2, y3, y4, y5, y6, y7]
    refine wpAnyH_ready (rs := [8]) (by kernel_rfl) (by simp) ?_
    refine AllReadyH.cons rfl (fun K hK => ?_) AllReadyH.nil
    clear hHeld3
    go_simp
    refine (C1.out U5 _ _ F.out Jp.out Je.out).mono ?_
    rintro e U7 ⟨rfl, hb⟩
    replace F := aG F hb
    replace B := aB B hb
    replace Jx := aJ Jx hb
    replace Jm := aJ Jm hb
    replace Jp := aJ Jp hb
    replace Je := aJ Je hb
    clear hb
    go_wp2_with fail
    refine hK.out _ _ (⟨Jx.out, Jm.out, F.out⟩) (fun hHeld4 => ?_)
    clear hK K
    try simp only [Act.put, y1, y2, y3, y4, y5, y6, y7]
    refine wpAnyH_ready (rs := [9]) (by kernel_rfl) (by simp) ?_
    refine AllReadyH.cons rfl (fun K hK => ?_) AllReadyH.nil
    clear hHeld4
    go_simp
    refine (C2.out U7 F.out).mono ?_
    rintro e U8 ⟨rfl, hb⟩
    replace F := aG F hb
    replace B := aB B hb
    replace Jx := aJ Jx hb
    replace Jm := aJ Jm hb
    replace Jp := aJ Jp hb
    replace Je := aJ Je hb
    clear hb
    go_wp2_with fail
    refine hK.out _ _ (⟨Jx.out, Jm.out, F.out⟩) (fun hHeld5 => ?_)
    clear hK K
    try simp only [Act.put, y1, y2, y3, y4, y5, y6, y7]
    refine tk (i := 10) (v := (.string t)) rfl (by kernel_rfl) (fun _ _ _ h => h) rfl ?_ hHeld5 ?_
    · intro W hS; go_simp
    simp only [Act.put, y1, y2, y3, y4, y5, y6, y7]
    refine tk (i := 11) (v := (.int .i64 0)) rfl (by kernel_rfl) (fun _ _ _ h => h) rfl ?_ hHeld5 ?_
    · intro W hS; go_simp
    simp only [Act.put, y1, y2, y3, y4, y5, y6, y7]
    refine tk (i := 12) (v := (.string t)) rfl (by kernel_rfl) (fun _ _ _ h => h) rfl ?_ hHeld5 ?_
    · intro W hS; go_simp
    simp only [Act.put, y1, y2, y3, y4, y5, y6, y7]
    refine tk (i := 13) (v := (.int .i64 0)) rfl (by kernel_rfl) (fun _ _ _ h => h) rfl ?_ hHeld5 ?_
    · intro W hS; go_simp
    simp only [Act.put, y1, y2, y3, y4, y5, y6, y7]
    refine wpAnyH_done (by kernel_rfl) ?_ _
    clear hHeld5
    go_wp2_with fail
    go_ret2
    exact ⟨rfl, B.out⟩
  · clear hHeld1
    have neF_e : Hid (g ≠ U2.heap.size) := F.out.ne
    go_simp
    have ne_x_e := nJ Jx
    have ne_m_e := nJ Jm
    have ge_e : Hid (w.heap.size ≤ U2.heap.size) := B.out.size
    have hb := nB U2 (.cells #[U m0, U m1, U m2, U m3] 73)
    have Je : Hid (IHolds (U2.alloc (.cells #[U m0, U m1, U m2, U m3] 73)) U2.heap.size 73 [U m0, U m1, U m2, U m3]) := IHolds.new _ _ _
    replace F := aG F hb
    replace B := aB B hb
    replace Jx := aJ Jx hb
    replace Jm := aJ Jm hb
    clear hb
    generalize (U2.alloc (.cells #[U m0, U m1, U m2, U m3] 73)) = U9 at *
    generalize U2.heap.size = b10 at *
    refine hK.out _ _ (⟨Jx.out, Jm.out, F.out⟩) (fun hHeld6 => ?_)
    clear hK K
    try simp only [Act.put, y1, y2, y3, y4, y5, y6, y7]
    refine wpAnyH_ready (rs := [5]) (by kernel_rfl) (by simp) ?_
    refine AllReadyH.cons rfl (fun K hK => ?_) AllReadyH.nil
    clear hHeld6
    have neF_p : Hid (g ≠ U9.heap.size) := F.out.ne
    go_simp
    have ne_x_p := nJ Jx
    have ne_m_p := nJ Jm
    have ne_e_p := nJ Je
    have ge_p : Hid (w.heap.size ≤ U9.heap.size) := B.out.size
    have hb := nB U9 (.cells #[U x0, U x1, U x2, U x3] 73)
    have Jp : Hid (IHolds (U9.alloc (.cells #[U x0, U x1, U x2, U x3] 73)) U9.heap.size 73 [U x0, U x1, U x2, U x3]) := IHolds.new _ _ _
    replace F := aG F hb
    replace B := aB B hb
    replace Jx := aJ Jx hb
    replace Jm := aJ Jm hb
    replace Je := aJ Je hb
    clear hb
    generalize (U9.alloc (.cells #[U x0, U x1, U x2, U x3] 73)) = U11 at *
    generalize U9.heap.size = b12 at *
    refine hK.out _ _ (⟨Jx.out, Jm.out, F.out⟩) (fun hHeld7 => ?_)
    clear hK K
    try simp only [Act.put, y1, y2, y3, y4, y5, y6, y7]
    refine wpAnyH_ready (rs := [8]) (by kernel_rfl) (by simp) ?_
    refine AllReadyH.cons rfl (fun K hK => ?_) AllReadyH.nil
    clear hHeld7
    go_simp
    refine (C1.out U11 _ _ F.out Jp.out Je.out).mono ?_
    rintro e U13 ⟨rfl, hb⟩
    replace F := aG F hb
    replace B := aB B hb
    replace Jx := aJ Jx hb
    replace Jm := aJ Jm hb
    replace Je := aJ Je hb
    replace Jp := aJ Jp hb
    clear hb
    go_wp2_with fail
    refine hK.out _ _ (⟨Jx.out, Jm.out, F.out⟩) (fun hHeld8 => ?_)
    clear hK K
    try simp only [Act.put, y1, y2, y3, y4, y5, y6, y7]
    refine wpAnyH_ready (rs := [9]) (by kernel_rfl) (by simp) ?_
    refine AllReadyH.cons rfl (fun K hK => ?_) AllReadyH.nil
    clear hHeld8
    go_simp
    refine (C2.out U13 F.out).mono ?_
    rintro e U14 ⟨rfl, hb⟩
    replace F := aG F hb
    replace B := aB B hb
    replace Jx := aJ Jx hb
    replace Jm := aJ Jm hb
    replace Je := aJ Je hb
    replace Jp := aJ Jp hb
    clear hb
    go_wp2_with fail
    refine hK.out _ _ (⟨Jx.out, Jm.out, F.out⟩) (fun hHeld9 => ?_)
    clear hK K
    try simp only [Act.put, y1, y2, y3, y4, y5, y6, y7]
    refine tk (i := 10) (v := (.string t)) rfl (by kernel_rfl) (fun _ _ _ h => h) rfl ?_ hHeld9 ?_
    · intro W hS; go_simp
    simp only [Act.put, y1, y2, y3, y4, y5, y6, y7]
    refine tk (i := 11) (v := (.int .i64 0)) rfl (by kernel_rfl) (fun _ _ _ h => h) rfl ?_ hHeld9 ?_
    · intro W hS; go_simp
    simp only [Act.put, y1, y2, y3, y4, y5, y6, y7]
    refine tk (i := 12) (v := (.string t)) rfl (by kernel_rfl) (fun _ _ _ h => h) rfl ?_ hHeld9 ?_
    · intro W hS; go_simp
    simp only [Act.put, y1, y2, y3, y4, y5, y6, y7]
    refine tk (i := 13) (v := (.int .i64 0)) rfl (by kernel_rfl) (fun _ _ _ h => h) rfl ?_ hHeld9 ?_
    · intro W hS; go_simp
    simp only [Act.put, y1, y2, y3, y4, y5, y6, y7]
    refine wpAnyH_done (by kernel_rfl) ?_ _
    clear hHeld9
    go_wp2_with fail
    go_ret2
    exact ⟨rfl, B.out⟩
end Go.Proofs.YtmpiipcllgjhdaaGreatDoor
