/- A watch as it grows. -/
import Derived.Test.YtflabehlaiocaaaDoorGl
import Derived.Maps.AppendAt
import Derived.Deep.RegionHeld
import Derived.Deep.RegionHeld3
set_option linter.unusedSimpArgs false
set_option linter.unusedVariables false
set_option maxRecDepth 100000
namespace Go.Proofs.YtflabehlaiocaaaDoor
open Go.RowKit Go.Deep Go.PlainAid

theorem info24 : ∃ i, Tryd.prog.info? 24 = some i ∧ i.zero = some (.agg #[.string ⟨#[]⟩, .string ⟨#[]⟩]) ∧ i.size = 2 ∧ i.bytes = 32 := by
  have h1 : (Tryd.prog.info? 24).map (fun i => (i.size, i.bytes)) = some (2, 32) := by kernel_rfl
  have h2 : (Tryd.prog.info? 24).bind (fun i => i.zero) = some (.agg #[.string ⟨#[]⟩, .string ⟨#[]⟩]) := by kernel_rfl
  cases hq : Tryd.prog.info? 24 with
  | none => rw [hq] at h1; cases h1
  | some i =>
    rw [hq] at h1 h2
    simp only [Option.map_some, Option.some.injEq, Prod.mk.injEq] at h1
    exact ⟨i, rfl, h2, h1.1, h1.2⟩
/-- Pairs of texts as values. -/
def fv (l : List (ByteArray × ByteArray)) : List Value := l.flatMap fun x => [.string x.1, .string x.2]
theorem fv_snoc (l : List (ByteArray × ByteArray)) (x : ByteArray × ByteArray) : fv (l ++ [x]) = fv l ++ [.string x.1, .string x.2] := by simp [fv]
theorem iv_snoc (l : List Int) (x : Int) : iv (l ++ [x]) = iv l ++ [.int .i64 x] := by simp [iv]
theorem own_type {W : World} {base n s : Nat} {e : TypeId} {v : Value} {xs : List Value} (h : W.ownsRow base e s v n xs) {g : Nat} (hg : v.ownBlock = some g) : ∃ cur, W.heap[g]? = some (.cells cur e) := by
  obtain ⟨hl, ⟨rfl, h0⟩ | ⟨b, cap, cur, rfl, hb, hq, _⟩⟩ := h
  · cases hg
  · cases hg; exact ⟨cur, hq⟩
theorem own_ne_cells {W : World} {base n s b : Nat} {e t : TypeId} {v : Value} {xs L : List Value} (h : W.ownsRow base e s v n xs) (hI : IHolds W b t L) (hne : t ≠ e) : v.ownBlock ≠ some b := fun hg => by
  obtain ⟨cur, hq⟩ := own_type h hg
  unfold IHolds at hI
  rw [hq] at hI
  injection hI with hI
  injection hI with _ hI
  exact hne hI.symm
theorem own_ne_own {W : World} {base n s base' n' s' : Nat} {e e' : TypeId} {v v' : Value} {xs xs' : List Value} (h : W.ownsRow base e s v n xs) (h' : W.ownsRow base' e' s' v' n' xs') (hne : e ≠ e') (g : Nat) (hg : v.ownBlock = some g) : v'.ownBlock ≠ some g := fun hg' => by
  obtain ⟨c1, q1⟩ := own_type h hg
  obtain ⟨c2, q2⟩ := own_type h' hg'
  rw [q1] at q2
  injection q2 with q2
  injection q2 with _ q2
  exact hne q2
theorem own_slice {W : World} {base n s : Nat} {e : TypeId} {v : Value} {xs : List Value} (h : W.ownsRow base e s v n xs) : ∃ a k c, v = .slice a k c := by
  obtain ⟨hl, ⟨rfl, h0⟩ | ⟨b, cap, cur, rfl, hb, hq, _⟩⟩ := h
  · exact ⟨_, _, _, rfl⟩
  · exact ⟨_, _, _, rfl⟩
theorem own_of_block {W W' : World} {base n s : Nat} {e : TypeId} {v : Value} {xs : List Value} (h : W.ownsRow base e s v n xs) (hb : ∀ g, v.ownBlock = some g → W'.heap[g]? = W.heap[g]?) : W'.ownsRow base e s v n xs := by
  obtain ⟨h1, h2 | ⟨g, cap, cur, rfl, q2, q3, q4⟩⟩ := h
  · exact ⟨h1, Or.inl h2⟩
  · exact ⟨h1, Or.inr ⟨g, cap, cur, rfl, q2, (hb g rfl).trans q3, q4⟩⟩
theorem wp_append_at {P : Program} {o : Oper} {a : Act} {w w' : World} {K : Act → World → Prop} {Q : Exit → Act → World → Prop} (s x : Operand) (t : TypeId) (ho : o.op = .call { callee := .builtin .append, args := #[s, x], argTypes := #[t, t] })
    (v v' y : Value) (hs : a.eval s = v) (hx : a.eval x = y) (hr : (Builtin.append_ #[t, t] o.type #[v, y]).run P w = .ok v' w') (h : K (a.put o.dst v') w') : Oper.wp P o a w K Q := by
  unfold Oper.wp execOp
  simp only [ho, resolve, invoke, builtin, Sem.run_bind, Sem.run_pure, Result.andThen_ok, List.map_toArray, List.map_cons, List.map_nil, hs, hx, hr]
  exact h
theorem wpList_app {P : Program} {ops : Array Oper} {rest : List Oper} {o : Oper} {a : Act} {w w' : World} {Q : Exit → Act → World → Prop} (hgd : o.guard = none) (s x : Operand) (t : TypeId) (ho : o.op = .call { callee := .builtin .append, args := #[s, x], argTypes := #[t, t] })
    (v v' y : Value) (hs : a.eval s = v) (hx : a.eval x = y) (hr : (Builtin.append_ #[t, t] o.type #[v, y]).run P w = .ok v' w') (h : wpList P ops Q rest (a.put o.dst v') w') : wpList P ops Q (o :: rest) a w :=
  wpList_plain hgd fun K hK => wp_append_at s x t ho v v' y hs hx hr (hK _ _ h)
theorem app3 {U : World} {base g : Nat} {v : Value} {l : List Int} {x : Int} (ho : U.ownsRow base 3 1 v l.length (iv l)) (hb : base ≤ U.heap.size) (hx : IHolds U g 3 [.int .i64 x]) (h9 : l.length ≤ 4000) (ty : TypeId) :
    ∃ v' U', (Builtin.append_ #[22, 22] ty #[v, .slice (some ⟨g, 0, none⟩) 1 1]).run Tryd.prog U = .ok v' U' ∧ U'.ownsRow base 3 1 v' (l ++ [x]).length (iv (l ++ [x])) ∧ U.grownBy U' v.ownBlock ∧ (v'.ownBlock = v.ownBlock ∨ v'.ownBlock = some U.heap.size) := by
  obtain ⟨i0, hi0, hz0, hz1, hz2⟩ := info3
  obtain ⟨v', U', h1, h2, h3, _, h5⟩ := run_append_own_at (P := Tryd.prog) U base 22 ty 3 i0 (.int .i64 0) 1 8 Tryd.underlying22 hi0 hz0 hz1 hz2 rfl (by decide) v l.length (iv l) ho ⟨g, 0, none⟩ 1 1 [.int .i64 x] rfl (fun j u hu => by match j, hu with | 0, hu => (simp at hu; subst hu; exact hx.cell 0 (by simp))) (fun u hu => by simp at hu; subst hu; rfl) (by unfold maxLen; omega) (by omega) hb
  exact ⟨v', U', h1, by rw [iv_snoc, List.length_append]; exact h2, h3, h5⟩
theorem app24 {U : World} {base g : Nat} {v : Value} {l : List (ByteArray × ByteArray)} {x y : ByteArray} (ho : U.ownsRow base 24 2 v l.length (fv l)) (hb : base ≤ U.heap.size) (hx : IHolds U g 24 [.string x, .string y]) (h9 : l.length ≤ 4000) (ty : TypeId) :
    ∃ v' U', (Builtin.append_ #[25, 25] ty #[v, .slice (some ⟨g, 0, none⟩) 1 1]).run Tryd.prog U = .ok v' U' ∧ U'.ownsRow base 24 2 v' (l ++ [(x, y)]).length (fv (l ++ [(x, y)])) ∧ U.grownBy U' v.ownBlock ∧ (v'.ownBlock = v.ownBlock ∨ v'.ownBlock = some U.heap.size) := by
  obtain ⟨i0, hi0, hz0, hz1, hz2⟩ := info24
  obtain ⟨v', U', h1, h2, h3, _, h5⟩ := run_append_own_at (P := Tryd.prog) U base 25 ty 24 i0 (.agg #[.string ⟨#[]⟩, .string ⟨#[]⟩]) 2 32 Tryd.underlying25 hi0 hz0 hz1 hz2 rfl (by decide) v l.length (fv l) ho ⟨g, 0, none⟩ 1 1 [.string x, .string y] rfl (fun j u hu => by
      match j, hu with
      | 0, hu => (simp at hu; subst hu; exact hx.cell 0 (by simp))
      | 1, hu => (simp at hu; subst hu; exact hx.cell 1 (by simp))) (fun u hu => by simp at hu; rcases hu with rfl | rfl <;> rfl) (by unfold maxLen; omega) (by omega) hb
  exact ⟨v', U', h1, by rw [fv_snoc, List.length_append]; exact h2, h3, h5⟩
/-- A watch as it grows: the struct in block tb, four rows of the call's own; P: blocks that it does not touch. -/
structure WS (w W : World) (P : Nat → Prop) (tb : Nat) (n d : ByteArray) (v1 v2 v3 v4 : Value) (l1 l2 : List Int) (l3 l4 : List (ByteArray × ByteArray)) : Prop where
  hold : IHolds W tb 27 [v1, v2, v3, v4, .string n, .string d, .int .i64 0]
  o1 : W.ownsRow w.heap.size 3 1 v1 l1.length (iv l1)
  o2 : W.ownsRow w.heap.size 3 1 v2 l2.length (iv l2)
  o3 : W.ownsRow w.heap.size 24 2 v3 l3.length (fv l3)
  o4 : W.ownsRow w.heap.size 24 2 v4 l4.length (fv l4)
  p12 : ∀ g, v1.ownBlock = some g → v2.ownBlock ≠ some g
  p34 : ∀ g, v3.ownBlock = some g → v4.ownBlock ≠ some g
  below : Below w.heap.size w W
  tb_le : w.heap.size ≤ tb
  far : ∀ g, P g → g < W.heap.size ∧ tb ≠ g ∧ v1.ownBlock ≠ some g ∧ v2.ownBlock ≠ some g ∧ v3.ownBlock ≠ some g ∧ v4.ownBlock ≠ some g
/-- The blocks P stay. -/
def Kp (P : Nat → Prop) (U V : World) : Prop := ∀ g, P g → V.heap[g]? = U.heap[g]?
theorem Kp.trans {P : Nat → Prop} {U V W : World} (h : Kp P U V) (h' : Kp P V W) : Kp P U W := fun g hg => (h' g hg).trans (h g hg)
theorem WS.kp {w W V : World} {P : Nat → Prop} {tb : Nat} {n d : ByteArray} {v1 v2 v3 v4 : Value} {l1 l2 : List Int} {l3 l4 : List (ByteArray × ByteArray)} (h : WS w W P tb n d v1 v2 v3 v4 l1 l2 l3 l4) (hb : Below W.heap.size W V) : Kp P W V := fun g hg => hb.block g (h.far g hg).1
theorem WS.of_below {w W V : World} {P : Nat → Prop} {tb : Nat} {n d : ByteArray} {v1 v2 v3 v4 : Value} {l1 l2 : List Int} {l3 l4 : List (ByteArray × ByteArray)} (h : WS w W P tb n d v1 v2 v3 v4 l1 l2 l3 l4) (hb : Below W.heap.size W V) : WS w V P tb n d v1 v2 v3 v4 l1 l2 l3 l4 :=
  ⟨h.hold.of_below hb, own_keep h.o1 hb, own_keep h.o2 hb, own_keep h.o3 hb, own_keep h.o4 hb, h.p12, h.p34, h.below.trans (hb.mono h.below.size), h.tb_le, fun g hg => ⟨Nat.lt_of_lt_of_le (h.far g hg).1 hb.size, (h.far g hg).2⟩⟩
theorem WS.more {w W V : World} {P : Nat → Prop} {tb : Nat} {n d : ByteArray} {v1 v2 v3 v4 : Value} {l1 l2 : List Int} {l3 l4 : List (ByteArray × ByteArray)} (h : WS w W P tb n d v1 v2 v3 v4 l1 l2 l3 l4) (hb : Below W.heap.size W V) : WS w V (fun g => P g ∨ (W.heap.size ≤ g ∧ g < V.heap.size)) tb n d v1 v2 v3 v4 l1 l2 l3 l4 := by
  have h' := h.of_below hb
  refine ⟨h'.hold, h'.o1, h'.o2, h'.o3, h'.o4, h'.p12, h'.p34, h'.below, h'.tb_le, fun g hg => ?_⟩
  rcases hg with hg | ⟨g1, g2⟩
  · exact h'.far g hg
  · have nb : ∀ {v : Value} {e s k : Nat} {xs : List Value}, W.ownsRow w.heap.size e s v k xs → v.ownBlock ≠ some g := fun ho hx => by have := (ho.lt _ hx).2; omega
    exact ⟨g2, fun e => by have := h.hold.lt; omega, nb h.o1, nb h.o2, nb h.o3, nb h.o4⟩
theorem WS.less {w W : World} {P P' : Nat → Prop} {tb : Nat} {n d : ByteArray} {v1 v2 v3 v4 : Value} {l1 l2 : List Int} {l3 l4 : List (ByteArray × ByteArray)} (h : WS w W P tb n d v1 v2 v3 v4 l1 l2 l3 l4) (hp : ∀ g, P' g → P g) : WS w W P' tb n d v1 v2 v3 v4 l1 l2 l3 l4 :=
  ⟨h.hold, h.o1, h.o2, h.o3, h.o4, h.p12, h.p34, h.below, h.tb_le, fun g hg => h.far g (hp g hg)⟩
theorem IL.kept {U V : World} {a : Option Addr} {l : List Int} (h : IL U a l) (hk : ∀ b o, a = some ⟨b, o, none⟩ → b < U.heap.size → V.heap[b]? = U.heap[b]?) : IL V a l := fun i hi => by
  obtain ⟨b, o, e, q⟩ := h i hi
  exact ⟨b, o, e, (World.cell?_of_block (a := ⟨b, o + i, none⟩) (hk b o e (cell_lt2 q))).trans q⟩
theorem NumV.kept {U V : World} {B n : Nat} {v : Value} (h : NumV U B n v) (hk : ∀ g, v.ownBlock = some g → g < U.heap.size → V.heap[g]? = U.heap[g]?) : NumV V B n v := by
  obtain ⟨a, cap, rfl, hc, hr⟩ := h
  refine ⟨a, cap, rfl, hc, fun i hi => ?_⟩
  obtain ⟨b, o, rfl, q⟩ := hr i hi
  exact ⟨b, o, rfl, (World.cell?_of_block (a := ⟨b, o + i, none⟩) (hk b rfl (cell_lt2 q))).trans q⟩
theorem WS.grown1 {w U U' : World} {P : Nat → Prop} {tb : Nat} {n d : ByteArray} {v1 v2 v3 v4 v' : Value} {l1 l2 : List Int} {l3 l4 : List (ByteArray × ByteArray)} {x : Int} (h : WS w U P tb n d v1 v2 v3 v4 l1 l2 l3 l4)
    (ho : U'.ownsRow w.heap.size 3 1 v' (l1 ++ [x]).length (iv (l1 ++ [x]))) (hg : U.grownBy U' v1.ownBlock) (ha : v'.ownBlock = v1.ownBlock ∨ v'.ownBlock = some U.heap.size) : IHolds U' tb 27 [v1, v2, v3, v4, .string n, .string d, .int .i64 0] :=
  (hg.block tb h.hold.lt (fun q => own_ne_cells h.o1 h.hold (by decide) q.symm)).trans h.hold
theorem WS.put1 {w U U' : World} {P : Nat → Prop} {tb : Nat} {n d : ByteArray} {v1 v2 v3 v4 v' : Value} {l1 l2 : List Int} {l3 l4 : List (ByteArray × ByteArray)} {x : Int} (h : WS w U P tb n d v1 v2 v3 v4 l1 l2 l3 l4)
    (ho : U'.ownsRow w.heap.size 3 1 v' (l1 ++ [x]).length (iv (l1 ++ [x]))) (hg : U.grownBy U' v1.ownBlock) (ha : v'.ownBlock = v1.ownBlock ∨ v'.ownBlock = some U.heap.size) : WS w (U'.setCell ⟨tb, 0, none⟩ v') P tb n d v' v2 v3 v4 (l1 ++ [x]) l2 l3 l4 ∧ Kp P U (U'.setCell ⟨tb, 0, none⟩ v') := by
  have hI := h.grown1 ho hg ha
  have hB : But tb U' (U'.setCell ⟨tb, 0, none⟩ v') := (But.refl _ U').setCell 0 v'
  have hgb : ∀ g, g < U.heap.size → v1.ownBlock ≠ some g → U'.heap[g]? = U.heap[g]? := fun g h1 h2 => hg.block g h1 (fun q => h2 q.symm)
  have hgc : ∀ g, g < U.heap.size → g ≠ tb → v1.ownBlock ≠ some g → (U'.setCell ⟨tb, 0, none⟩ v').heap[g]? = U.heap[g]? := fun g h1 h2 h3 => (hB.block g (Nat.lt_of_lt_of_le h1 hg.size) h2).trans (hgb g h1 h3)
  have lt : ∀ {v : Value} {e s k : Nat} {xs : List Value}, U.ownsRow w.heap.size e s v k xs → ∀ g, v.ownBlock = some g → g < U.heap.size := fun ho g hx => (ho.lt _ hx).2
  refine ⟨⟨hI.set 0 v', ?_, ?_, ?_, ?_, ?_, ?_, ?_, h.tb_le, ?_⟩, ?_⟩
  · exact own_of_block ho (fun g hx => hB.block g (ho.lt _ hx).2 (fun q => own_ne_cells ho hI (by decide) (by rw [hx, q])))
  · exact own_of_block h.o2 (fun g hx => hgc g (lt h.o2 g hx) (fun q => own_ne_cells h.o2 h.hold (by decide) (by rw [hx, q])) (fun q => h.p12 g q hx))
  · exact own_of_block h.o3 (fun g hx => hgc g (lt h.o3 g hx) (fun q => own_ne_cells h.o3 h.hold (by decide) (by rw [hx, q])) (fun q => own_ne_own h.o1 h.o3 (by decide) g q hx))
  · exact own_of_block h.o4 (fun g hx => hgc g (lt h.o4 g hx) (fun q => own_ne_cells h.o4 h.hold (by decide) (by rw [hx, q])) (fun q => own_ne_own h.o1 h.o4 (by decide) g q hx))
  · intro g hx hy
    rcases ha with e | e
    · exact h.p12 g (by rw [← e]; exact hx) hy
    · rw [e] at hx; have := lt h.o2 g hy; injection hx with hx; omega
  · exact h.p34
  · exact (h.below.grown hg h.below.size (fun g hx => (h.o1.lt g hx).1)).setCell h.tb_le _
  · intro g hp
    obtain ⟨f0, f1, f2, f3, f4, f5⟩ := h.far g hp
    have f6 : v'.ownBlock ≠ some g := fun q => by
      rcases ha with e | e
      · exact f2 (by rw [← e]; exact q)
      · rw [e] at q; injection q with q; omega
    exact ⟨Nat.lt_of_lt_of_le f0 (Nat.le_trans hg.size hB.size), f1, f6, f3, f4, f5⟩
  · intro g hp
    obtain ⟨f0, f1, f2, f3, f4, f5⟩ := h.far g hp
    exact hgc g f0 (fun q => f1 q.symm) f2
theorem WS.grown2 {w U U' : World} {P : Nat → Prop} {tb : Nat} {n d : ByteArray} {v1 v2 v3 v4 v' : Value} {l1 l2 : List Int} {l3 l4 : List (ByteArray × ByteArray)} {x : Int} (h : WS w U P tb n d v1 v2 v3 v4 l1 l2 l3 l4)
    (ho : U'.ownsRow w.heap.size 3 1 v' (l2 ++ [x]).length (iv (l2 ++ [x]))) (hg : U.grownBy U' v2.ownBlock) (ha : v'.ownBlock = v2.ownBlock ∨ v'.ownBlock = some U.heap.size) : IHolds U' tb 27 [v1, v2, v3, v4, .string n, .string d, .int .i64 0] :=
  (hg.block tb h.hold.lt (fun q => own_ne_cells h.o2 h.hold (by decide) q.symm)).trans h.hold
theorem WS.put2 {w U U' : World} {P : Nat → Prop} {tb : Nat} {n d : ByteArray} {v1 v2 v3 v4 v' : Value} {l1 l2 : List Int} {l3 l4 : List (ByteArray × ByteArray)} {x : Int} (h : WS w U P tb n d v1 v2 v3 v4 l1 l2 l3 l4)
    (ho : U'.ownsRow w.heap.size 3 1 v' (l2 ++ [x]).length (iv (l2 ++ [x]))) (hg : U.grownBy U' v2.ownBlock) (ha : v'.ownBlock = v2.ownBlock ∨ v'.ownBlock = some U.heap.size) : WS w (U'.setCell ⟨tb, 1, none⟩ v') P tb n d v1 v' v3 v4 l1 (l2 ++ [x]) l3 l4 ∧ Kp P U (U'.setCell ⟨tb, 1, none⟩ v') := by
  have hI := h.grown2 ho hg ha
  have hB : But tb U' (U'.setCell ⟨tb, 1, none⟩ v') := (But.refl _ U').setCell 1 v'
  have hgb : ∀ g, g < U.heap.size → v2.ownBlock ≠ some g → U'.heap[g]? = U.heap[g]? := fun g h1 h2 => hg.block g h1 (fun q => h2 q.symm)
  have hgc : ∀ g, g < U.heap.size → g ≠ tb → v2.ownBlock ≠ some g → (U'.setCell ⟨tb, 1, none⟩ v').heap[g]? = U.heap[g]? := fun g h1 h2 h3 => (hB.block g (Nat.lt_of_lt_of_le h1 hg.size) h2).trans (hgb g h1 h3)
  have lt : ∀ {v : Value} {e s k : Nat} {xs : List Value}, U.ownsRow w.heap.size e s v k xs → ∀ g, v.ownBlock = some g → g < U.heap.size := fun ho g hx => (ho.lt _ hx).2
  refine ⟨⟨hI.set 1 v', ?_, ?_, ?_, ?_, ?_, ?_, ?_, h.tb_le, ?_⟩, ?_⟩
  · exact own_of_block h.o1 (fun g hx => hgc g (lt h.o1 g hx) (fun q => own_ne_cells h.o1 h.hold (by decide) (by rw [hx, q])) (h.p12 g hx))
  · exact own_of_block ho (fun g hx => hB.block g (ho.lt _ hx).2 (fun q => own_ne_cells ho hI (by decide) (by rw [hx, q])))
  · exact own_of_block h.o3 (fun g hx => hgc g (lt h.o3 g hx) (fun q => own_ne_cells h.o3 h.hold (by decide) (by rw [hx, q])) (fun q => own_ne_own h.o2 h.o3 (by decide) g q hx))
  · exact own_of_block h.o4 (fun g hx => hgc g (lt h.o4 g hx) (fun q => own_ne_cells h.o4 h.hold (by decide) (by rw [hx, q])) (fun q => own_ne_own h.o2 h.o4 (by decide) g q hx))
  · intro g hx hy
    rcases ha with e | e
    · exact h.p12 g hx (by rw [← e]; exact hy)
    · rw [e] at hy; have := lt h.o1 g hx; injection hy with hy; omega
  · exact h.p34
  · exact (h.below.grown hg h.below.size (fun g hx => (h.o2.lt g hx).1)).setCell h.tb_le _
  · intro g hp
    obtain ⟨f0, f1, f2, f3, f4, f5⟩ := h.far g hp
    have f6 : v'.ownBlock ≠ some g := fun q => by
      rcases ha with e | e
      · exact f3 (by rw [← e]; exact q)
      · rw [e] at q; injection q with q; omega
    exact ⟨Nat.lt_of_lt_of_le f0 (Nat.le_trans hg.size hB.size), f1, f2, f6, f4, f5⟩
  · intro g hp
    obtain ⟨f0, f1, f2, f3, f4, f5⟩ := h.far g hp
    exact hgc g f0 (fun q => f1 q.symm) f3
theorem WS.grown3 {w U U' : World} {P : Nat → Prop} {tb : Nat} {n d : ByteArray} {v1 v2 v3 v4 v' : Value} {l1 l2 : List Int} {l3 l4 : List (ByteArray × ByteArray)} {x : (ByteArray × ByteArray)} (h : WS w U P tb n d v1 v2 v3 v4 l1 l2 l3 l4)
    (ho : U'.ownsRow w.heap.size 24 2 v' (l3 ++ [x]).length (fv (l3 ++ [x]))) (hg : U.grownBy U' v3.ownBlock) (ha : v'.ownBlock = v3.ownBlock ∨ v'.ownBlock = some U.heap.size) : IHolds U' tb 27 [v1, v2, v3, v4, .string n, .string d, .int .i64 0] :=
  (hg.block tb h.hold.lt (fun q => own_ne_cells h.o3 h.hold (by decide) q.symm)).trans h.hold
theorem WS.put3 {w U U' : World} {P : Nat → Prop} {tb : Nat} {n d : ByteArray} {v1 v2 v3 v4 v' : Value} {l1 l2 : List Int} {l3 l4 : List (ByteArray × ByteArray)} {x : (ByteArray × ByteArray)} (h : WS w U P tb n d v1 v2 v3 v4 l1 l2 l3 l4)
    (ho : U'.ownsRow w.heap.size 24 2 v' (l3 ++ [x]).length (fv (l3 ++ [x]))) (hg : U.grownBy U' v3.ownBlock) (ha : v'.ownBlock = v3.ownBlock ∨ v'.ownBlock = some U.heap.size) : WS w (U'.setCell ⟨tb, 2, none⟩ v') P tb n d v1 v2 v' v4 l1 l2 (l3 ++ [x]) l4 ∧ Kp P U (U'.setCell ⟨tb, 2, none⟩ v') := by
  have hI := h.grown3 ho hg ha
  have hB : But tb U' (U'.setCell ⟨tb, 2, none⟩ v') := (But.refl _ U').setCell 2 v'
  have hgb : ∀ g, g < U.heap.size → v3.ownBlock ≠ some g → U'.heap[g]? = U.heap[g]? := fun g h1 h2 => hg.block g h1 (fun q => h2 q.symm)
  have hgc : ∀ g, g < U.heap.size → g ≠ tb → v3.ownBlock ≠ some g → (U'.setCell ⟨tb, 2, none⟩ v').heap[g]? = U.heap[g]? := fun g h1 h2 h3 => (hB.block g (Nat.lt_of_lt_of_le h1 hg.size) h2).trans (hgb g h1 h3)
  have lt : ∀ {v : Value} {e s k : Nat} {xs : List Value}, U.ownsRow w.heap.size e s v k xs → ∀ g, v.ownBlock = some g → g < U.heap.size := fun ho g hx => (ho.lt _ hx).2
  refine ⟨⟨hI.set 2 v', ?_, ?_, ?_, ?_, ?_, ?_, ?_, h.tb_le, ?_⟩, ?_⟩
  · exact own_of_block h.o1 (fun g hx => hgc g (lt h.o1 g hx) (fun q => own_ne_cells h.o1 h.hold (by decide) (by rw [hx, q])) (fun q => own_ne_own h.o3 h.o1 (by decide) g q hx))
  · exact own_of_block h.o2 (fun g hx => hgc g (lt h.o2 g hx) (fun q => own_ne_cells h.o2 h.hold (by decide) (by rw [hx, q])) (fun q => own_ne_own h.o3 h.o2 (by decide) g q hx))
  · exact own_of_block ho (fun g hx => hB.block g (ho.lt _ hx).2 (fun q => own_ne_cells ho hI (by decide) (by rw [hx, q])))
  · exact own_of_block h.o4 (fun g hx => hgc g (lt h.o4 g hx) (fun q => own_ne_cells h.o4 h.hold (by decide) (by rw [hx, q])) (fun q => h.p34 g q hx))
  · exact h.p12
  · intro g hx hy
    rcases ha with e | e
    · exact h.p34 g (by rw [← e]; exact hx) hy
    · rw [e] at hx; have := lt h.o4 g hy; injection hx with hx; omega
  · exact (h.below.grown hg h.below.size (fun g hx => (h.o3.lt g hx).1)).setCell h.tb_le _
  · intro g hp
    obtain ⟨f0, f1, f2, f3, f4, f5⟩ := h.far g hp
    have f6 : v'.ownBlock ≠ some g := fun q => by
      rcases ha with e | e
      · exact f4 (by rw [← e]; exact q)
      · rw [e] at q; injection q with q; omega
    exact ⟨Nat.lt_of_lt_of_le f0 (Nat.le_trans hg.size hB.size), f1, f2, f3, f6, f5⟩
  · intro g hp
    obtain ⟨f0, f1, f2, f3, f4, f5⟩ := h.far g hp
    exact hgc g f0 (fun q => f1 q.symm) f4
theorem WS.grown4 {w U U' : World} {P : Nat → Prop} {tb : Nat} {n d : ByteArray} {v1 v2 v3 v4 v' : Value} {l1 l2 : List Int} {l3 l4 : List (ByteArray × ByteArray)} {x : (ByteArray × ByteArray)} (h : WS w U P tb n d v1 v2 v3 v4 l1 l2 l3 l4)
    (ho : U'.ownsRow w.heap.size 24 2 v' (l4 ++ [x]).length (fv (l4 ++ [x]))) (hg : U.grownBy U' v4.ownBlock) (ha : v'.ownBlock = v4.ownBlock ∨ v'.ownBlock = some U.heap.size) : IHolds U' tb 27 [v1, v2, v3, v4, .string n, .string d, .int .i64 0] :=
  (hg.block tb h.hold.lt (fun q => own_ne_cells h.o4 h.hold (by decide) q.symm)).trans h.hold
theorem WS.put4 {w U U' : World} {P : Nat → Prop} {tb : Nat} {n d : ByteArray} {v1 v2 v3 v4 v' : Value} {l1 l2 : List Int} {l3 l4 : List (ByteArray × ByteArray)} {x : (ByteArray × ByteArray)} (h : WS w U P tb n d v1 v2 v3 v4 l1 l2 l3 l4)
    (ho : U'.ownsRow w.heap.size 24 2 v' (l4 ++ [x]).length (fv (l4 ++ [x]))) (hg : U.grownBy U' v4.ownBlock) (ha : v'.ownBlock = v4.ownBlock ∨ v'.ownBlock = some U.heap.size) : WS w (U'.setCell ⟨tb, 3, none⟩ v') P tb n d v1 v2 v3 v' l1 l2 l3 (l4 ++ [x]) ∧ Kp P U (U'.setCell ⟨tb, 3, none⟩ v') := by
  have hI := h.grown4 ho hg ha
  have hB : But tb U' (U'.setCell ⟨tb, 3, none⟩ v') := (But.refl _ U').setCell 3 v'
  have hgb : ∀ g, g < U.heap.size → v4.ownBlock ≠ some g → U'.heap[g]? = U.heap[g]? := fun g h1 h2 => hg.block g h1 (fun q => h2 q.symm)
  have hgc : ∀ g, g < U.heap.size → g ≠ tb → v4.ownBlock ≠ some g → (U'.setCell ⟨tb, 3, none⟩ v').heap[g]? = U.heap[g]? := fun g h1 h2 h3 => (hB.block g (Nat.lt_of_lt_of_le h1 hg.size) h2).trans (hgb g h1 h3)
  have lt : ∀ {v : Value} {e s k : Nat} {xs : List Value}, U.ownsRow w.heap.size e s v k xs → ∀ g, v.ownBlock = some g → g < U.heap.size := fun ho g hx => (ho.lt _ hx).2
  refine ⟨⟨hI.set 3 v', ?_, ?_, ?_, ?_, ?_, ?_, ?_, h.tb_le, ?_⟩, ?_⟩
  · exact own_of_block h.o1 (fun g hx => hgc g (lt h.o1 g hx) (fun q => own_ne_cells h.o1 h.hold (by decide) (by rw [hx, q])) (fun q => own_ne_own h.o4 h.o1 (by decide) g q hx))
  · exact own_of_block h.o2 (fun g hx => hgc g (lt h.o2 g hx) (fun q => own_ne_cells h.o2 h.hold (by decide) (by rw [hx, q])) (fun q => own_ne_own h.o4 h.o2 (by decide) g q hx))
  · exact own_of_block h.o3 (fun g hx => hgc g (lt h.o3 g hx) (fun q => own_ne_cells h.o3 h.hold (by decide) (by rw [hx, q])) (h.p34 g hx))
  · exact own_of_block ho (fun g hx => hB.block g (ho.lt _ hx).2 (fun q => own_ne_cells ho hI (by decide) (by rw [hx, q])))
  · exact h.p12
  · intro g hx hy
    rcases ha with e | e
    · exact h.p34 g hx (by rw [← e]; exact hy)
    · rw [e] at hy; have := lt h.o3 g hx; injection hy with hy; omega
  · exact (h.below.grown hg h.below.size (fun g hx => (h.o4.lt g hx).1)).setCell h.tb_le _
  · intro g hp
    obtain ⟨f0, f1, f2, f3, f4, f5⟩ := h.far g hp
    have f6 : v'.ownBlock ≠ some g := fun q => by
      rcases ha with e | e
      · exact f5 (by rw [← e]; exact q)
      · rw [e] at q; injection q with q; omega
    exact ⟨Nat.lt_of_lt_of_le f0 (Nat.le_trans hg.size hB.size), f1, f2, f3, f4, f6⟩
  · intro g hp
    obtain ⟨f0, f1, f2, f3, f4, f5⟩ := h.far g hp
    exact hgc g f0 (fun q => f1 q.symm) f5
set_option maxHeartbeats 4000000 in
theorem losers_fr {l : List Int} {a : Option Addr} {c N : Nat} {w : World} (hl : IL w a l) (hln : l.length < 9223372036854775808) (hN : N ≤ 4000) :
    Calls Tryd.prog 27 #[.int .i64 (N : Int), .slice a l.length c] w fun e w' => (∃ a' c', e = .returned (.slice a' (loL l N).length c') ∧ IL w' a' (loL l N) ∧ (loL l N).length ≤ c' ∧ c' ≤ 9223372036854775807 ∧ Fr w.heap.size (.slice a' (loL l N).length c')) ∧ Below w.heap.size w w' := by
  obtain ⟨i0, hi0, hz0, hz1, hz2⟩ := info3
  have H21 : Hid (∀ V x, Below w.heap.size w V → Calls Tryd.prog 21 #[.slice a l.length c, .int .i64 x] V fun e w' => e = .returned (.bool (l.any fun y => x == y)) ∧ w' = V) := fun V x hV => contains21 (hl.of_below hV) hln
  clear hl
  go_enter Tryd.func27, Tryd.ntmps27
  go_wp2_with fail
  go_loopg [5, 6, 8] N (fun gk v5 v6 v8 wr => ∃ k : Nat, k + gk = N ∧ v8 = .int .i64 (k : Int) ∧ wr.ownsRow w.heap.size 3 1 v5 (loL l k).length (iv (loL l k)) ∧ Below w.heap.size w wr)
  case atStart => exact ⟨0, by omega, rfl, World.ownsRow_nil _ _ _ _, Below.refl _ _⟩
  case round =>
    obtain ⟨k, hk, rfl, hO, hB⟩ := hrel
    have O : Hid (wr.ownsRow w.heap.size 3 1 u5 (loL l k).length (iv (loL l k))) := hO
    have B : Hid (Below w.heap.size w wr) := hB
    clear hO hB
    by_cases hlt : k < N
    · have il : (k : Int) < (N : Int) := by omega
      have LE : Hid ((loL l k).length ≤ 4000) := by show _ ≤ _; have := loL_le l k; omega
      have HC : Hid (Calls Tryd.prog 21 #[.slice a l.length c, .int .i64 (k : Int)] wr fun e w' => e = .returned (.bool (l.any fun y => (k : Int) == y)) ∧ w' = wr) := H21.out wr k B.out
      have LS : Hid (_ = _) := loL_succ l k
      cases ht : l.any fun y => (k : Int) == y with
      | true =>
        rw [ht] at HC LS
        have LX : Hid (loL l (k + 1) = loL l k) := by have q := LS.out; rw [if_pos rfl] at q; exact q
        clear LS ht H21
        go_wp2_with (go_at_call 21; refine (Calls.mono HC.out) ?_)
        rintro e V ⟨rfl, hV⟩
        subst hV
        go_wp2_with fail
        go_roundg (gk - 1)
        case measure => omega
        case rel => exact ⟨k + 1, by omega, by go_num, by rw [LX.out]; exact O.out, B.out⟩
      | false =>
        rw [ht] at HC LS
        have LX : Hid (loL l (k + 1) = loL l k ++ [(k : Int)]) := by have q := LS.out; rw [if_neg (by decide)] at q; exact q
        clear LS ht H21
        have B2 : Hid (Below w.heap.size w (wr.alloc (.cells #[.int .i64 (k : Int)] 3))) := B.out.alloc B.out.size _
        have O2 : Hid ((wr.alloc (.cells #[.int .i64 (k : Int)] 3)).ownsRow w.heap.size 3 1 u5 (loL l k).length (iv (loL l k))) := O.out.alloc _
        have HC2 : Hid (∀ jj u, [Value.int .i64 (k : Int)][jj]? = some u → (wr.alloc (.cells #[.int .i64 (k : Int)] 3)).cell? ((⟨wr.heap.size, 0, none⟩ : Addr).add jj) = some u) := (fun jj u hu => by (match jj, hu with | 0, hu => (simp at hu; subst hu; simp [Addr.add])))
        go_wp2_with (go_at_call 21; refine (Calls.mono HC.out) ?_)
        rintro e V ⟨rfl, hV⟩
        subst hV
        go_wp2_with (at_builtin; refine wpList_append_own _ rfl (.tmp 15) (.tmp 17) 22 rfl w.heap.size 3 i0 (.int .i64 0) 1 8 Tryd.underlying22 hi0 hz0 hz1 hz2 rfl (by decide) u5 (loL l k).length (iv (loL l k)) rfl O2.out ⟨V.heap.size, 0, none⟩ 1 1 [.int .i64 (k : Int)] rfl rfl HC2.out (fun u hu => by simp at hu; subst hu; rfl) (by have := LE.out; unfold maxLen; omega) (by have := LE.out; omega) B2.out.size ?_; intro v9 w9 hown hgrow hn; have O9 : Hid (w9.ownsRow w.heap.size 3 1 v9 ((loL l k).length + 1) (iv (loL l k) ++ [.int .i64 (k : Int)])) := hown; have B9 : Hid (Below w.heap.size w w9) := B2.out.grown hgrow B2.out.size (fun g hg => (O2.out.lt g hg).1); clear hown hgrow hn)
        go_roundg (gk - 1)
        case measure => omega
        case rel => exact ⟨k + 1, by omega, by go_num, by rw [LX.out]; have q := O9.out; simpa [iv] using q, B9.out⟩
    · obtain rfl : k = N := by omega
      obtain ⟨a5, c5, e5, s5, q5, z5⟩ := il_of_own O.out
      have F5 : Hid (Fr w.heap.size u5) := fun g hg => (O.out.lt g hg).1
      subst e5
      have S5 : Hid (IL wr a5 (loL l k) ∧ (loL l k).length ≤ c5 ∧ c5 ≤ 9223372036854775807) := ⟨s5, q5, z5⟩
      clear hlt s5 q5 z5
      go_wp2_with fail
      go_ret
      exact ⟨⟨_, _, rfl, S5.out.1, S5.out.2.1, S5.out.2.2, F5.out⟩, B.out⟩
end Go.Proofs.YtflabehlaiocaaaDoor
