/- What stays where the seals grow; the seals, round by round. -/
import Derived.Test.YtafekaonmpkhiaaDj
set_option linter.unusedSimpArgs false
set_option linter.unusedVariables false
set_option maxRecDepth 100000
namespace Go.Proofs.Ytafekaonmpkhiaa
open Go.RowKit Go.Shelf Go.Deep Go.PlainAid Go.Maps Go.WideMaps

/-- All stays but lists of texts from a block on. -/
structure GS (base : Nat) (U V : World) : Prop where
  os : V.os = U.os
  tape : V.tape = U.tape
  output : V.output = U.output
  size : U.heap.size ≤ V.heap.size
  block : ∀ k, k < U.heap.size → ¬ (base ≤ k ∧ ∃ cur, U.heap[k]? = some (.cells cur 9)) → V.heap[k]? = U.heap[k]?
theorem GS.refl (base : Nat) (U : World) : GS base U U := ⟨rfl, rfl, rfl, Nat.le_refl _, fun _ _ _ => rfl⟩
theorem GS.trans {base : Nat} {U V W : World} (h : GS base U V) (g : GS base V W) : GS base U W := by
  refine ⟨g.os.trans h.os, g.tape.trans h.tape, g.output.trans h.output, Nat.le_trans h.size g.size, fun k hk hn => ?_⟩
  have e := h.block k hk hn
  exact (g.block k (Nat.lt_of_lt_of_le hk h.size) (by rw [e]; exact hn)).trans e
theorem GS.of_below {base : Nat} {U V : World} (h : Below U.heap.size U V) : GS base U V := ⟨h.os, h.tape, h.output, h.size, fun k hk _ => h.block k hk⟩
theorem GS.of_own {base n : Nat} {U V : World} {v : Value} {xs : List Value} (ho : U.ownsRow base 9 1 v n xs) (g : U.grownBy V v.ownBlock) : GS base U V :=
  ⟨g.os, g.tape, g.output, g.size, fun k hk hn => g.block k hk fun e => hn ⟨(ho.lt k e.symm).1, own9 ho k e.symm⟩⟩
theorem GS.below {base r : Nat} {w U V : World} (h : Below r w U) (g : GS base U V) (hr : r ≤ base) (hU : r ≤ U.heap.size) : Below r w V :=
  ⟨g.os.trans h.os, g.tape.trans h.tape, g.output.trans h.output, Nat.le_trans h.size g.size, fun k hk => (g.block k (by omega) (fun e => by omega)).trans (h.block k hk)⟩
theorem BL.of_gs {base : Nat} {U V : World} {v : Value} {l : List Hd} {ns : List ByteArray} (h : BL U v l ns) (t : BT U v) (g : GS base U V) : BL V v l ns ∧ BT V v := by
  have key : ∀ b o n c, v = .slice (some ⟨b, o, none⟩) n c → b < U.heap.size → V.heap[b]? = U.heap[b]? := by
    intro b o n c e hb
    obtain ⟨cur, hc⟩ := t b o n c e
    refine g.block b hb fun ⟨_, cur', hc'⟩ => ?_
    rw [hc] at hc'
    injection hc' with hc'
    injection hc' with _ ht
    cases ht
  refine ⟨?_, ?_⟩
  · obtain ⟨a, c, e, q⟩ := h
    refine ⟨a, c, e, fun i hi j hj => ?_⟩
    obtain ⟨b, o, e1, e2⟩ := q i hi j hj
    exact ⟨b, o, e1, (World.cell?_of_block (a := ⟨b, o + (i * 4 + j), none⟩) (key b o ns.length c (by rw [e, e1]) (cell_lt e2))).trans e2⟩
  · intro b o n c e
    obtain ⟨cur, hc⟩ := t b o n c e
    exact ⟨cur, (key b o n c e (Array.getElem?_eq_some_iff.1 hc).1).trans hc⟩
theorem IHolds.of_gs {base D : Nat} {U V : World} {e : TypeId} {xs : List Value} (h : IHolds U D e xs) (g : GS base U V) (he : e ≠ 9) : IHolds V D e xs := by
  have h' : U.heap[D]? = some (.cells xs.toArray e) := h
  refine (g.block D (Array.getElem?_eq_some_iff.1 h').1 fun ⟨_, cur, hc⟩ => ?_).trans h'
  rw [h'] at hc
  injection hc with hc
  injection hc with _ ht
  exact he ht
theorem own_map_gs {base b n : Nat} {k : TypeId} {R : Value → Option (HB × List MemPlace)} {D : HB} {U V : World} (h : U.ownsMap Try.prog k R b n D) (g : GS base U V) : V.ownsMap Try.prog k R b n D := by
  obtain ⟨es, clock, hb, F, hs, hD⟩ := h
  refine ⟨es, clock, (g.block b (Array.getElem?_eq_some_iff.1 hb).1 fun ⟨_, cur, hc⟩ => ?_).trans hb, F, hs, hD⟩
  rw [hb] at hc
  cases hc
theorem CU.of_gs {base cb bm bs : Nat} {l : List Hd} {U V : World} (h : CU U cb bm bs l) (g : GS base U V) : CU V cb bm bs l := by
  obtain ⟨n, D, m1, m2⟩ := h.m
  obtain ⟨k, S, s1, s2⟩ := h.s
  exact ⟨h.c.of_gs g (by decide), h.n1, h.n2, h.n3, ⟨n, D, own_map_gs m1 g, m2⟩, ⟨k, S, own_map_gs s1 g, s2⟩⟩
/-- The seals behind k of the boxes. -/
def IR (W : World) (base m : Nat) (l : List Hd) (h : Hd) (ns : List ByteArray) (k : Nat) (v4 : Value) : Prop :=
  base ≤ W.heap.size ∧ ∃ xs, W.ownsRow base 9 1 v4 xs.length (txs xs) ∧ (∀ x ∈ xs, had (l ++ [h]) x = true) ∧ xs.length ≤ m + (if hasN (ns.take k) h.box = true then 1 else 0) ∧ (hasN (ns.take k) h.box = false → ∀ x ∈ xs, had l x = true)
theorem IR.stay {U W : World} {base m k : Nat} {l : List Hd} {h : Hd} {ns : List ByteArray} {v4 : Value} (i : IR U base m l h ns k v4) (hk : k < ns.length) (hb : Below U.heap.size U W) : IR W base m l h ns (k + 1) v4 := by
  obtain ⟨hz, xs, ho, ha, hl, hf⟩ := i
  refine ⟨Nat.le_trans hz hb.size, xs, own_far ho (fun g hg => hb.block g (ho.lt g hg).2), ha, ?_, ?_⟩
  · rw [hasN_step hk]
    cases q : hasN (ns.take k) h.box <;> simp [q] at hl ⊢ <;> first | omega | (split <;> omega)
  · rw [hasN_step hk]
    intro q
    exact hf (by cases z : hasN (ns.take k) h.box <;> simp_all)
theorem IR.grow {W : World} {base m k : Nat} {l : List Hd} {h : Hd} {ns : List ByteArray} {v9 : Value} {xs : List ByteArray} (hz : base ≤ W.heap.size) (ha : ∀ x ∈ xs, had (l ++ [h]) x = true) (hl : xs.length ≤ m)
    (hk : k < ns.length) (e : nth ns k = h.box) (ho : W.ownsRow base 9 1 v9 (xs.length + 1) (txs xs ++ [.string h.sl])) (a : h.act = 1 ∨ h.act = 5) : IR W base m l h ns (k + 1) v9 := by
  have q : hasN (ns.take (k + 1)) h.box = true := by rw [hasN_step hk]; simp [e]
  refine ⟨hz, xs ++ [h.sl], by rw [txs_snoc]; simpa using ho, ?_, by rw [q]; simp; omega, by rw [q]; intro z; cases z⟩
  intro x hx
  rcases List.mem_append.1 hx with hx | hx
  · exact ha x hx
  · rw [List.mem_singleton.1 hx]; exact had_new a
end Go.Proofs.Ytafekaonmpkhiaa
