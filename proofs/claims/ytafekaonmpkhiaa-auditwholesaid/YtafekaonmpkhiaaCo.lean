/- Boxes: what is collected. -/
import Derived.Test.YtafekaonmpkhiaaCn
set_option linter.unusedSimpArgs false
set_option linter.unusedVariables false
set_option maxRecDepth 100000
namespace Go.Proofs.Ytafekaonmpkhiaa
open Go.Maps Go.WideMaps Go.RowKit Go.Deep Go.PlainAid

/-- A batch in cells. -/
def encB (l : List Hd) (nm : ByteArray) : List Value := [.string nm, .int .i64 (bx l nm).count, .string (bx l nm).holder, .string (bx l nm).sl]
def rowsB (l : List Hd) (ns : List ByteArray) : List Value := ns.flatMap (encB l)
theorem rowsB_len (l : List Hd) (ns : List ByteArray) : (rowsB l ns).length = ns.length * 4 := by
  induction ns with
  | nil => rfl
  | cons a t ih => simp only [rowsB, List.flatMap_cons, List.length_append, List.length_cons] at *; rw [ih]; simp [encB]; omega
theorem rowsB_snoc (l : List Hd) (ns : List ByteArray) (nm : ByteArray) : rowsB l (ns ++ [nm]) = rowsB l ns ++ encB l nm := by simp [rowsB]
theorem info38 : ∃ i, Try.prog.info? 38 = some i ∧ i.zero = some (.agg #[.string ⟨#[]⟩, .int .i64 0, .string ⟨#[]⟩, .string ⟨#[]⟩]) ∧ i.size = 4 ∧ i.bytes = 56 := by
  have h1 : (Try.prog.info? 38).map (fun i => (i.size, i.bytes)) = some (4, 56) := by kernel_rfl
  have h2 : (Try.prog.info? 38).bind (fun i => i.zero) = some (.agg #[.string ⟨#[]⟩, .int .i64 0, .string ⟨#[]⟩, .string ⟨#[]⟩]) := by kernel_rfl
  cases hq : Try.prog.info? 38 with
  | none => rw [hq] at h1; cases h1
  | some i =>
    rw [hq] at h1 h2
    simp only [Option.map_some, Option.some.injEq, Prod.mk.injEq] at h1
    exact ⟨i, rfl, h2, h1.1, h1.2⟩
/-- What has been met so far. -/
structure CO (U V : World) (bm r n : Nat) (l : List Hd) (D : HB) (left : Lit → Bool) (cnt : Nat) (ns : List ByteArray) (v : Value) : Prop where
  rg : V.ranges Try.prog 9 Rv bm r n D left cnt
  own : V.ownsRow (r + 1) 38 4 v ns.length (rowsB l ns)
  nod : ns.Nodup
  mem : ∀ nm, nm ∈ ns ↔ ((bx l nm).ok = true ∧ left (ky nm) = false)
  bl : Below r U V
  sz : r + 1 ≤ V.heap.size
  all : ns.length + cnt ≤ 256
theorem CO.start {U V : World} {bm r n : Nat} {l : List Hd} {D : HB} (R : RepB D l) (few : (packs l).length ≤ 256) (hr : V.ranges Try.prog 9 Rv bm r n D (Maps.has D) (Maps.size D)) (hb : Below r U V) (hs : r + 1 ≤ V.heap.size) : CO U V bm r n l D (Maps.has D) (Maps.size D) [] (.slice none 0 0) :=
  ⟨hr, World.ownsRow_nil _ _ _ _, List.nodup_nil, fun nm => by rw [R.has]; cases (bx l nm).ok <;> simp, hb, hs, by rw [R.size]; simpa using few⟩
theorem CO.perm {U V : World} {bm r n : Nat} {l : List Hd} {D : HB} {left : Lit → Bool} {cnt : Nat} {ns : List ByteArray} {v : Value} (h : CO U V bm r n l D left cnt ns v) (i : Inv1 l) (hl : ∀ kl, left kl = false) : ns.Perm (packs l) :=
  (List.perm_ext_iff_of_nodup h.nod i.nodup).2 fun nm => by rw [h.mem, i.mem]; simp [hl]
theorem CO.lt256 {U V : World} {bm r n : Nat} {l : List Hd} {D : HB} {left : Lit → Bool} {cnt : Nat} {ns : List ByteArray} {v : Value} (h : CO U V bm r n l D left cnt ns v) : ns.length ≤ 256 := by have := h.all; omega
theorem ky_same (a b : ByteArray) : (ky a).sameKey (ky b) = decide (a = b) := by
  by_cases e : a = b
  · subst e; simp [ky, Lit.sameKey]
  · have : ky a ≠ ky b := fun q => e (ky_inj q)
    rw [Maps.sameKey_ne this]; simp [e]
/-- One more. -/
theorem CO.app {U V W V' : World} {bm r n cnt cnt' : Nat} {l : List Hd} {D : HB} {left : Lit → Bool} {ns : List ByteArray} {v v' : Value} {nm : ByteArray} (h : CO U V bm r n l D left cnt ns v)
    (hok : (bx l nm).ok = true) (hlk : left (ky nm) = true) (hc : cnt' < cnt)
    (hrg : V'.ranges Try.prog 9 Rv bm r n D (fun z => left z && !z.sameKey (ky nm)) cnt') (ho : V'.ownsRow (r + 1) 38 4 v' (ns.length + 1) (rowsB l ns ++ encB l nm)) (hb : Below r U V') (hs : r + 1 ≤ V'.heap.size) :
    CO U V' bm r n l D (fun z => left z && !z.sameKey (ky nm)) cnt' (ns ++ [nm]) v' := by
  have hn : nm ∉ ns := fun q => by rw [(h.mem nm).1 q |>.2] at hlk; cases hlk
  refine ⟨hrg, by rw [rowsB_snoc, List.length_append]; exact ho, ?_, fun x => ?_, hb, hs, by have := h.all; simp; omega⟩
  · rw [List.nodup_append]
    exact ⟨h.nod, by simp, fun a ha b hb2 q => hn (by rw [List.mem_singleton] at hb2; rw [← hb2, ← q]; exact ha)⟩
  · rw [List.mem_append, h.mem, ky_same]
    by_cases e : x = nm
    · subst e; simp [hok, hlk]
    · simp [e]
end Go.Proofs.Ytafekaonmpkhiaa
