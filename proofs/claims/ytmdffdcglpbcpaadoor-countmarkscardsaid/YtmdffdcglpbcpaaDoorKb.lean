/- Lots: the tags, what stands ahead. -/
import Derived.Test.YtmdffdcglpbcpaaDoorKa
import Derived.Test.YtmdffdcglpbcpaaDoorKl
set_option linter.unusedSimpArgs false
set_option linter.unusedVariables false
set_option maxRecDepth 100000
namespace Go.Proofs.YtmdffdcglpbcpaaDoor
open Go.RowKit Go.Deep Go.PlainAid

theorem dB (w : World) : Below w.heap.size w w.drew := (Below.refl _ _).drew
/-- The tag of a label and parts. -/
def tgF (label : ByteArray) (ps : List ByteArray) : ByteArray := ⟨(F.digL (F.hK 0) (F.partsL (label :: ps))).toArray⟩
abbrev lab : ByteArray := ⟨#[108, 111, 116]⟩
/-- An option's lot. -/
def lot (lots nm : ByteArray) (os : List ByteArray) (i : Nat) : ByteArray := tgF lab [lots, nm, os.getD i ⟨#[]⟩]
/-- No text is longer than any memory. -/
structure Fit (lots nm : ByteArray) (os : List ByteArray) : Prop where
  l : lots.size ≤ 140737488355328
  n : nm.size ≤ 140737488355328
  o : ∀ i (h : i < os.length), os[i].size ≤ 140737488355328
theorem three_at (w : World) (s1 s2 s3 : ByteArray) : F.SAt (w.alloc (.cells #[.string s1, .string s2, .string s3] 9)) (some ⟨w.heap.size, 0, none⟩) [s1, s2, s3] := fun i hi => by
  match i, hi with
  | 0, _ => exact ⟨_, _, rfl, by simp⟩
  | 1, _ => exact ⟨_, _, rfl, by simp⟩
  | 2, _ => exact ⟨_, _, rfl, by simp⟩
theorem parts3 {x y z : ByteArray} (hx : x.size ≤ 140737488355328) (hy : y.size ≤ 140737488355328) (hz : z.size ≤ 140737488355328) : (F.partsL (lab :: [x, y, z])).length < 4611686018427387904 := by
  have h1 : x.data.toList.length ≤ 140737488355328 := hx
  have h2 : y.data.toList.length ≤ 140737488355328 := hy
  have h3 : z.data.toList.length ≤ 140737488355328 := hz
  have h5 : (lab.data.toList).length = 3 := rfl
  rw [F.partsL_cons, F.partsL_cons, F.partsL_cons, F.partsL_cons, F.partsL_nil]
  simp only [List.length_append, F.fourL_length, List.length_nil, List.length_cons]
  omega
theorem sz3 {x y z : ByteArray} (hx : x.size ≤ 140737488355328) (hy : y.size ≤ 140737488355328) (hz : z.size ≤ 140737488355328) : ∀ i (h : i < [x, y, z].length), [x, y, z][i].size < 4611686018427387904 := fun i hi => by
  match i, hi with
  | 0, _ => show x.size < _; omega
  | 1, _ => show y.size < _; omega
  | 2, _ => show z.size < _; omega
theorem tagC {x y z : ByteArray} (hx : x.size ≤ 140737488355328) (hy : y.size ≤ 140737488355328) (hz : z.size ≤ 140737488355328) {w : World} (hT : F.Tabs w) (hS : F.Starts w) (b : Nat) (W : World) (hW : Below w.heap.size w W) (h : F.SAt W (some ⟨b, 0, none⟩) [x, y, z]) :
    Calls Tryd.prog 18 #[.string lab, .slice (some ⟨b, 0, none⟩) 3 3] W fun e w' => e = .returned (.string (tgF lab [x, y, z])) ∧ Below W.heap.size W w' :=
  F.tagFace_any lab (some ⟨b, 0, none⟩) 3 [x, y, z] W h (show 3 < _ by decide) (by decide) (sz3 hx hy hz) (Nat.lt_trans (parts3 hx hy hz) (by decide)) (hT.of_below hW hT.size) (hS.of_below hW hT.size)
theorem tagD {x y z : ByteArray} (hx : x.size ≤ 140737488355328) (hy : y.size ≤ 140737488355328) (hz : z.size ≤ 140737488355328) (b : Nat) (W : World) (h : F.SAt W (some ⟨b, 0, none⟩) [x, y, z]) :
    Calls Tryd.prog 29 #[.string lab, .slice (some ⟨b, 0, none⟩) 3 3] W fun e w' => e = .returned (.string (tgF lab [x, y, z])) ∧ Below W.heap.size W w' :=
  F.refTag_any lab (some ⟨b, 0, none⟩) 3 [x, y, z] W h (show 3 < _ by decide) (by decide) (sz3 hx hy hz) (parts3 hx hy hz)

set_option maxHeartbeats 1000000 in
theorem lot22 {w : World} {lots nm : ByteArray} {a : Option Addr} {n c : Nat} {r s m : Int} {os : List ByteArray} (hf : Fit lots nm os) (ho : F.SAt w a os) (hn : os.length = n) {k : Nat} (hk : k < n) :
    Calls Tryd.prog 22 #[CV nm a n c r s m, .string lots, .int .i64 (k : Int)] w fun e w' => e = .returned (.string (lot lots nm os k)) ∧ Below w.heap.size w w' := by
  obtain ⟨b, o, rfl, hc⟩ := ho k (by omega)
  have hk' : k < os.length := by omega
  have HX : Hid (lot lots nm os k = tgF lab [lots, nm, os[k]]) := by show _ = _; simp [lot, hk']
  have TG : Hid (∀ b W, F.SAt W (some ⟨b, 0, none⟩) [lots, nm, os[k]] → Calls Tryd.prog 29 #[.string lab, .slice (some ⟨b, 0, none⟩) 3 3] W fun e w' => e = .returned (.string (tgF lab [lots, nm, os[k]])) ∧ Below W.heap.size W w') := fun b W h => tagD hf.l hf.n (hf.o k hk') b W h
  rw [HX.out]
  clear HX hf ho
  generalize tgF lab [lots, nm, os[k]] = T at *
  generalize os[k] = x at *
  have TT : Hid (∀ W : World, F.SAt (W.alloc (.cells #[.string lots, .string nm, .string x] 9)).drew (some ⟨W.heap.size, 0, none⟩) [lots, nm, x]) := fun W => three_at W _ _ _
  have kl : (k : Int) < (n : Int) := by omega
  unfold CV
  generalize hW : w.alloc (.cells #[.string nm, .slice (some ⟨b, o, none⟩) n c, .int .i64 r, .int .i64 s, .int .i64 m] 24) = W
  have J : Hid (Below w.heap.size w W) := by rw [← hW]; exact (Below.refl _ w).alloc (Nat.le_refl _) _
  have I0 : Hid (IHolds W w.heap.size 24 [.string nm, .slice (some ⟨b, o, none⟩) n c, .int .i64 r, .int .i64 s, .int .i64 m]) := by rw [← hW]; exact IHolds.new w 24 _
  have KP : Hid (∀ V, Below W.heap.size W V → (Below W.heap.size W V ∧ V.cell? ⟨w.heap.size, 0, none⟩ = some (.string nm) ∧ V.cell? ⟨w.heap.size, 1, none⟩ = some (.slice (some ⟨b, o, none⟩) n c) ∧ V.cell? ⟨b, o + k, none⟩ = some (.string x))) := fun V hV => ⟨hV, (I0.out.of_below hV).cell 0 (by simp), (I0.out.of_below hV).cell 1 (by simp), cell_keep (cell_keep hc J.out) hV⟩
  have sB : Hid (∀ V V', Below V.heap.size V V' → Below W.heap.size W V → Below W.heap.size W V') := fun V V' h h' => h'.trans (h.mono h'.size)
  clear hc hn hk'
  go_enter Tryd.func22, Tryd.ntmps22
  go_wp2_with fail
  clear hW
  have BA : Hid (∀ V o, Below W.heap.size W V → Below W.heap.size W (V.alloc o).drew) := fun V o h => (h.alloc h.size _).drew
  go_region_held3 (fun V => Below W.heap.size W V ∧ V.cell? ⟨w.heap.size, 0, none⟩ = some (.string nm) ∧ V.cell? ⟨w.heap.size, 1, none⟩ = some (.slice (some ⟨b, o, none⟩) n c) ∧ V.cell? ⟨b, o + k, none⟩ = some (.string x))
    (first | exact KP.out _ (dB _) | exact KP.out _ (BA.out _ _ (Below.refl _ _)) | assumption | exact KP.out _ B7.out | fail)
    (first
      | (go_at_call 29; refine (TG.out _ _ (TT.out _)).mono ?_; rintro e w7 ⟨rfl, hB7⟩; have B7 : Hid (Below W.heap.size W w7) := sB.out _ _ hB7 (BA.out _ _ (Below.refl _ _)); clear hB7)
      | fail)
  go_wp2_with fail
  go_ret
  exact ⟨rfl, J.out.trans (B7.out.mono J.out.size)⟩
end Go.Proofs.YtmdffdcglpbcpaaDoor
