/- How a number is told. -/
import Derived.Test.YtohpbclofcflaaaGreatAid
set_option linter.unusedSimpArgs false
set_option linter.unusedVariables false
namespace Go.Proofs.YtohpbclofcflaaaGreat
open Go.RowKit Go.Deep Go.PlainAid

abbrev NB (x0 x1 x2 x3 : Nat) : Nat := vl 18446744073709551616 [x0, x1, x2, x3]
set_option maxRecDepth 100000 in
set_option maxHeartbeats 2000000 in
theorem told_any {w : World} {g x0 x1 x2 x3 S : Nat} (hg : w.cell? ⟨g, 0, none⟩ = some (.int .i64 (S : Int))) (h0 : x0 < 18446744073709551616) (h1 : x1 < 18446744073709551616) (h2 : x2 < 18446744073709551616) (h3 : x3 < 18446744073709551616) (hS : S ≤ 32) :
    Calls Tryz.prog 69 #[.pointer (some ⟨g, 0, none⟩), .agg #[U x0, U x1, U x2, U x3]] w fun e w' => e = .returned (.tuple #[.string ⟨(beB S (NB x0 x1 x2 x3)).toArray⟩, .int .i64 0]) ∧ Below w.heap.size w w' := by
  have C : Hid (∀ W, Calls Tryz.prog 84 #[.agg #[U x0, U x1, U x2, U x3], .int .i64 (S : Int)] W fun e w' => e = .returned (.string ⟨(beB S (NB x0 x1 x2 x3)).toArray⟩) ∧ Below W.heap.size W w') := fun W => text_any W x0 x1 x2 x3 S h0 h1 h2 h3 hS
  generalize (⟨(beB S (NB x0 x1 x2 x3)).toArray⟩ : ByteArray) = T at *
  have hlt : g < w.heap.size := World.block_lt_of_cell? w ⟨g, 0, none⟩ hg
  have B : Hid (Below w.heap.size w (w.alloc (.cells #[U x0, U x1, U x2, U x3] 81)).drew) := aB (aB (b := w) (Below.refl _ _) (nB w (.cells #[U x0, U x1, U x2, U x3] 81))) (dB _)
  have J : Hid (IHolds (w.alloc (.cells #[U x0, U x1, U x2, U x3] 81)).drew w.heap.size 81 (us [x0, x1, x2, x3])) := aJ (show Hid (IHolds (w.alloc (.cells #[U x0, U x1, U x2, U x3] 81)) w.heap.size 81 (us [x0, x1, x2, x3])) from IHolds.new w 81 _) (dB _)
  have G : Hid (∀ W, Below w.heap.size w W → W.cell? ⟨g, 0, none⟩ = some (.int .i64 (S : Int))) := fun W hW => by rw [hW.cell hlt]; exact hg
  clear hg hlt h0 h1 h2 h3 hS
  go_enter Tryz.func69, Tryz.ntmps69
  go_wp2_with fail
  refine wp_region_held_drew (S := fun W => IHolds W w.heap.size 81 (us [x0, x1, x2, x3]) ∧ W.cell? ⟨g, 0, none⟩ = some (.int .i64 (S : Int))) (by kernel_rfl) ⟨J.out, G.out _ B.out⟩ (fun hH => ?_)
  generalize (w.alloc (.cells #[U x0, U x1, U x2, U x3] 81)).drew = W0 at *
  refine tk (i := 0) (v := .agg #[U x0, U x1, U x2, U x3]) rfl (by kernel_rfl) (fun _ _ _ h => h) rfl ?_ hH ?_
  · intro W hS
    have c0 : W.cell? ⟨w.heap.size, 0, none⟩ = some (U x0) := hS.1.cell 0 (by simp [us])
    have c1 : W.cell? ⟨w.heap.size, 1, none⟩ = some (U x1) := hS.1.cell 1 (by simp [us])
    have c2 : W.cell? ⟨w.heap.size, 2, none⟩ = some (U x2) := hS.1.cell 2 (by simp [us])
    have c3 : W.cell? ⟨w.heap.size, 3, none⟩ = some (U x3) := hS.1.cell 3 (by simp [us])
    go_simp
  simp only [Act.put, y1, y2, y3, y4, y5, y6, y7]
  refine tk (i := 1) (v := .pointer (some ⟨g, 0, none⟩)) rfl (by kernel_rfl) (fun _ _ _ h => h) rfl ?_ hH ?_
  · intro W hS; go_simp
  simp only [Act.put, y1, y2, y3, y4, y5, y6, y7]
  refine tk (i := 2) (v := .pointer (some ⟨g, 0, none⟩)) rfl (by kernel_rfl) (fun _ _ _ h => h) rfl ?_ hH ?_
  · intro W hS; go_simp
  simp only [Act.put, y1, y2, y3, y4, y5, y6, y7]
  refine tk (i := 3) (v := .pointer (some ⟨g, 0, none⟩)) rfl (by kernel_rfl) (fun _ _ _ h => h) rfl ?_ hH ?_
  · intro W hS; go_simp
  simp only [Act.put, y1, y2, y3, y4, y5, y6, y7]
  refine tk (i := 4) (v := .int .i64 (S : Int)) rfl (by kernel_rfl) (fun _ _ _ h => h) rfl ?_ hH ?_
  · intro W hS; have c := hS.2; go_simp
  simp only [Act.put, y1, y2, y3, y4, y5, y6, y7]
  refine wpAnyH_ready (rs := [5]) (by kernel_rfl) (by simp) ?_
  refine AllReadyH.cons rfl (fun K hK => ?_) AllReadyH.nil
  clear hH
  go_simp
  refine (C.out W0).mono ?_
  rintro e U1 ⟨rfl, hb⟩
  replace B := aB B hb
  replace J := aJ J hb
  clear hb
  go_wp2_with fail
  refine hK.out _ _ ⟨J.out, G.out _ B.out⟩ (fun hH2 => ?_)
  clear hK K
  try simp only [Act.put, y1, y2, y3, y4, y5, y6, y7]
  refine tk (i := 6) (v := .string T) rfl (by kernel_rfl) (fun _ _ _ h => h) rfl ?_ hH2 ?_
  · intro W hS; go_simp
  simp only [Act.put, y1, y2, y3, y4, y5, y6, y7]
  refine tk (i := 7) (v := .int .i64 0) rfl (by kernel_rfl) (fun _ _ _ h => h) rfl ?_ hH2 ?_
  · intro W hS; go_simp
  simp only [Act.put, y1, y2, y3, y4, y5, y6, y7]
  refine wpAnyH_done (by kernel_rfl) ?_ _
  clear hH2
  go_wp2_with fail
  go_ret2
  exact ⟨rfl, B.out⟩
end Go.Proofs.YtohpbclofcflaaaGreat
