/- Lists of batches stay where the seals grow; the hands that came in. -/
import Derived.Test.YtafekaonmpkhiaaDi
import Derived.Test.YtafekaonmpkhiaaDh
import Derived.Test.YtafekaonmpkhiaaCn
set_option linter.unusedSimpArgs false
set_option linter.unusedVariables false
set_option maxRecDepth 100000
namespace Go.Proofs.Ytafekaonmpkhiaa
open Go.RowKit Go.Shelf Go.Deep Go.PlainAid Go.Maps Go.WideMaps

theorem own9 {V : World} {base size n : Nat} {v : Value} {xs : List Value} (h : V.ownsRow base 9 size v n xs) : ∀ g, v.ownBlock = some g → ∃ cur, V.heap[g]? = some (.cells cur 9) := by
  intro g e
  rcases h.2 with ⟨hn, -⟩ | ⟨g', cap, cur, hv, hbg, hc, rest⟩
  · rw [hn] at e; cases e
  · rw [hv] at e; cases e
    exact ⟨_, hc⟩
theorem bt_apart {V : World} {v : Value} {row : Option Nat} (h : BT V v) (hr : ∀ g, row = some g → ∃ cur, V.heap[g]? = some (.cells cur 9)) : ∀ b o n c, v = .slice (some ⟨b, o, none⟩) n c → row ≠ some b := by
  intro b o n c e q
  obtain ⟨cur, hc⟩ := h b o n c e
  obtain ⟨cur', hc'⟩ := hr b q
  rw [hc] at hc'
  injection hc' with hc'
  injection hc' with _ ht
  cases ht
theorem BL.of_row {U V : World} {v : Value} {l : List Hd} {ns : List ByteArray} {row : Option Nat} (h : BL U v l ns) (t : BT U v) (g : U.grownBy V row) (hr : ∀ k, row = some k → ∃ cur, U.heap[k]? = some (.cells cur 9)) : BL V v l ns ∧ BT V v := by
  have ap := bt_apart t hr
  refine ⟨?_, t.of_grown g ap⟩
  obtain ⟨a, c, e, q⟩ := h
  refine ⟨a, c, e, fun i hi j hj => ?_⟩
  obtain ⟨b, o, e1, e2⟩ := q i hi j hj
  refine ⟨b, o, e1, (World.cell?_of_block (a := ⟨b, o + (i * 4 + j), none⟩) (g.block b (cell_lt e2) (fun z => ap b o ns.length c (by rw [e, e1]) z.symm))).trans e2⟩
/-- The hands that came in, as they lie. -/
def hcells (h : Hd) : List Value := [.int .i64 h.act, .string h.box, .string h.who, .string h.to_, .int .i64 h.cnt, .string h.sl]
def HLs (V : World) (v : Value) (hs : List Hd) : Prop := ∃ a c, v = .slice a hs.length c ∧ ∀ k (hk : k < hs.length), ∃ b o, a = some ⟨b, o, none⟩ ∧ V.cell? ⟨b, o + k * 6, none⟩ = some (.int .i64 hs[k].act) ∧ V.cell? ⟨b, o + k * 6 + 1, none⟩ = some (.string hs[k].box) ∧
  V.cell? ⟨b, o + k * 6 + 2, none⟩ = some (.string hs[k].who) ∧ V.cell? ⟨b, o + k * 6 + 3, none⟩ = some (.string hs[k].to_) ∧ V.cell? ⟨b, o + k * 6 + 4, none⟩ = some (.int .i64 hs[k].cnt) ∧ V.cell? ⟨b, o + k * 6 + 5, none⟩ = some (.string hs[k].sl)
theorem HLs.of_below {V V' : World} {v : Value} {hs : List Hd} (h : HLs V v hs) (hb : Below V.heap.size V V') : HLs V' v hs := by
  obtain ⟨a, c, e, q⟩ := h
  refine ⟨a, c, e, fun k hk => ?_⟩
  obtain ⟨b, o, e0, c0, c1, c2, c3, c4, c5⟩ := q k hk
  exact ⟨b, o, e0, cell_keep c0 hb, cell_keep c1 hb, cell_keep c2 hb, cell_keep c3 hb, cell_keep c4 hb, cell_keep c5 hb⟩
end Go.Proofs.Ytafekaonmpkhiaa
