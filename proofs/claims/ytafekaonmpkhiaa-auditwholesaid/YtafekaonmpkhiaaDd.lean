/- find, used. -/
import Derived.Test.YtafekaonmpkhiaaDc
set_option linter.unusedSimpArgs false
set_option linter.unusedVariables false
set_option maxRecDepth 100000
namespace Go.Proofs.Ytafekaonmpkhiaa
open Go.RowKit Go.Shelf Go.Deep Go.PlainAid Go.Maps Go.WideMaps

def hasN (ns : List ByteArray) (nm : ByteArray) : Bool := ns.any fun x => decide (x = nm)
theorem hasN_iff {ns : List ByteArray} {nm : ByteArray} : hasN ns nm = true ↔ nm ∈ ns := by simp [hasN]
theorem hasN_no {ns : List ByteArray} {nm : ByteArray} (h : nm ∉ ns) : hasN ns nm = false := by
  cases e : hasN ns nm with
  | false => rfl
  | true => exact absurd (hasN_iff.1 e) h
def encZ (l : List Hd) (ns : List ByteArray) (nm : ByteArray) : List Value := if hasN ns nm then encB l nm else [.string ⟨#[]⟩, .int .i64 0, .string ⟨#[]⟩, .string ⟨#[]⟩]
theorem encZ_yes {l : List Hd} {ns : List ByteArray} {nm : ByteArray} (h : nm ∈ ns) : encZ l ns nm = encB l nm := by unfold encZ; rw [if_pos (hasN_iff.2 h)]
theorem encZ_no {l : List Hd} {ns : List ByteArray} {nm : ByteArray} (h : nm ∉ ns) : encZ l ns nm = [.string ⟨#[]⟩, .int .i64 0, .string ⟨#[]⟩, .string ⟨#[]⟩] := by unfold encZ; rw [hasN_no h]; rfl
theorem mem_nth {ns : List ByteArray} {k : Nat} (h : k < ns.length) : nth ns k ∈ ns := by rw [nth_at h]; exact List.getElem_mem h
set_option maxHeartbeats 4000000 in
theorem find11 {l : List Hd} {ns : List ByteArray} {V : World} {v : Value} {nm : ByteArray} (h9 : ns.length ≤ 256) (g : BL V v l ns) :
    Calls Try.prog 11 #[v, .string nm] V fun e w' => e = .returned (.tuple #[.agg (encZ l ns nm).toArray, .bool (hasN ns nm)]) ∧ Below V.heap.size V w' := by
  obtain ⟨a, c, rfl, -⟩ := g.at
  have G1 : Hid (BL V (.slice a ns.length c) l ns) := g
  clear g
  have I0 : Hid (IHolds (V.alloc (.cells #[.string ⟨#[]⟩, .int .i64 0, .string ⟨#[]⟩, .string ⟨#[]⟩] 38)) V.heap.size 38 [.string ⟨#[]⟩, .int .i64 0, .string ⟨#[]⟩, .string ⟨#[]⟩]) := IHolds.new V 38 _
  have B0 : Hid (Below V.heap.size V (V.alloc (.cells #[.string ⟨#[]⟩, .int .i64 0, .string ⟨#[]⟩, .string ⟨#[]⟩] 38))) := (Below.refl _ V).alloc (Nat.le_refl _) _
  go_enter Try.func11, Try.ntmps11
  go_wp2_with fail
  generalize (V.alloc (.cells #[.string ⟨#[]⟩, .int .i64 0, .string ⟨#[]⟩, .string ⟨#[]⟩] 38)) = V1 at *
  go_loopw [7, 10] (fun v7 v10 wr => ∃ k : Nat, k ≤ ns.length ∧ v10 = .int .i64 (k : Int) ∧ Below V.heap.size V wr ∧ IHolds wr V.heap.size 38 [.string ⟨#[]⟩, .int .i64 0, .string ⟨#[]⟩, .string ⟨#[]⟩] ∧ ∀ j, j < k → nth ns j ≠ nm) (fun v7 v10 _ => ns.length - intC v10)
  case atStart => exact ⟨0, by omega, by simp, B0.out, I0.out, fun j hj => by omega⟩
  case round =>
    clear B0 I0
    obtain ⟨k, hk, rfl, hB, hI, hN⟩ := hrel
    have HB : Hid (Below V.heap.size V wr) := hB
    have HI : Hid (IHolds wr V.heap.size 38 [.string ⟨#[]⟩, .int .i64 0, .string ⟨#[]⟩, .string ⟨#[]⟩]) := hI
    have HN : Hid (∀ j, j < k → nth ns j ≠ nm) := hN
    by_cases hlt : k < ns.length
    · have il : (k : Int) < (ns.length : Int) := by omega
      obtain ⟨a, c, e, q⟩ := (G1.out.of_below hB).at
      cases e
      obtain ⟨b1, o1, rfl, p0, p1, p2, p3⟩ := q k hlt
      have BX := hB.size
      have EN : Hid (encB l (nth ns k) = [.string (nth ns k), .int .i64 (bx l (nth ns k)).count, .string (bx l (nth ns k)).holder, .string (bx l (nth ns k)).sl]) := rfl
      have MM : Hid (nth ns k ∈ ns) := mem_nth hlt
      have NX : Hid (nth ns k ≠ nm → ∀ j, j < k + 1 → nth ns j ≠ nm) := fun hx j hj => by
        by_cases e : j = k
        · rw [e]; exact hx
        · exact HN.out j (by omega)
      clear q hB hI hN HN
      generalize (bx l (nth ns k)).count = y1 at *
      generalize (bx l (nth ns k)).holder = y2 at *
      generalize (bx l (nth ns k)).sl = y3 at *
      by_cases hx : nth ns k = nm
      · rw [hx] at EN MM p0
        have EZ : Hid (encZ l ns nm = [.string nm, .int .i64 y1, .string y2, .string y3]) := (encZ_yes MM.out).trans EN.out
        have DM : Hid (hasN ns nm = true) := hasN_iff.2 MM.out
        clear hx EN MM NX
        have J0 := HI.out.alloc (.cells #[.string nm, .int .i64 y1, .string y2, .string y3] 38)
        have z0 := J0.cell 0 (by simp)
        have z1 := J0.cell 1 (by simp)
        have z2 := J0.cell 2 (by simp)
        have z3 := J0.cell 3 (by simp)
        have f0 := J0.frozen 0
        have f1 := J0.frozen 1
        have f2 := J0.frozen 2
        have f3 := J0.frozen 3
        have BW : Hid (Below V.heap.size V (wr.alloc (.cells #[.string nm, .int .i64 y1, .string y2, .string y3] 38))) := HB.out.alloc HB.out.size _
        clear J0
        go_wp2_with fail
        refine bodyPost_ret (v := .tuple #[.agg #[.string nm, .int .i64 y1, .string y2, .string y3], .bool true]) (by simp [results, Try.results11, go_sem, z0, z1, z2, z3]) rfl ⟨by rw [EZ.out, DM.out], ?_⟩
        repeat' (first | exact BW.out | refine Below.setCell ?_ (by exact Nat.le_refl _) _)
      · have NY : Hid (∀ j, j < k + 1 → nth ns j ≠ nm) := NX.out hx
        clear NX EN MM
        have BW : Hid (Below V.heap.size V (wr.alloc (.cells #[.string (nth ns k), .int .i64 y1, .string y2, .string y3] 38))) := HB.out.alloc HB.out.size _
        have IW : Hid (IHolds (wr.alloc (.cells #[.string (nth ns k), .int .i64 y1, .string y2, .string y3] 38)) V.heap.size 38 [.string ⟨#[]⟩, .int .i64 0, .string ⟨#[]⟩, .string ⟨#[]⟩]) := HI.out.alloc _
        have hx2 := str_ne hx
        clear hx
        go_wp2_with fail
        go_roundw
        case rel => exact ⟨k + 1, by omega, by simp, BW.out, IW.out, NY.out⟩
        case measure => simp [intC]; omega
    · obtain rfl : k = ns.length := by omega
      have MM : nm ∉ ns := fun hm => by
        obtain ⟨j, hj, e⟩ := List.mem_iff_getElem.1 hm
        exact HN.out j hj (by rw [nth_at hj]; exact e)
      have EZ : Hid (encZ l ns nm = [.string ⟨#[]⟩, .int .i64 0, .string ⟨#[]⟩, .string ⟨#[]⟩]) := encZ_no MM
      have DM : Hid (hasN ns nm = false) := hasN_no MM
      clear MM hN HN
      have z0 := hI.cell 0 (by simp)
      have z1 := hI.cell 1 (by simp)
      have z2 := hI.cell 2 (by simp)
      have z3 := hI.cell 3 (by simp)
      have f0 := hI.frozen 0
      have f1 := hI.frozen 1
      have f2 := hI.frozen 2
      have f3 := hI.frozen 3
      clear hI hB
      go_wp2_with fail
      refine bodyPost_ret (v := .tuple #[.agg #[.string ⟨#[]⟩, .int .i64 0, .string ⟨#[]⟩, .string ⟨#[]⟩], .bool false]) (by simp [results, Try.results11, go_sem, z0, z1, z2, z3]) rfl ⟨by rw [EZ.out, DM.out], ?_⟩
      repeat' (first | exact HB.out | refine Below.setCell ?_ (by exact Nat.le_refl _) _)
end Go.Proofs.Ytafekaonmpkhiaa
