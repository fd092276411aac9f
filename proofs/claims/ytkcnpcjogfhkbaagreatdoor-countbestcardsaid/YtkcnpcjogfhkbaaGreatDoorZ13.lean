/- Lists that grow; what is put in between. -/
import Derived.Test.YtkcnpcjogfhkbaaGreatDoorZ12
set_option linter.unusedSimpArgs false
set_option linter.unusedVariables false
set_option maxRecDepth 100000
namespace Go.Proofs.YtkcnpcjogfhkbaaGreatDoor.K
open Go.RowKit Go.Deep Go.PlainAid Go.Sort

theorem insB_at {f : Nat → Bool} {i : Nat} : ∀ (l : List Nat) (k : Nat), k ≤ l.length → (∀ j (h : j < l.length), j < k → f l[j] = true) → (∀ h : k < l.length, f (l[k]'h) = false) → insB f i l = l.take k ++ i :: l.drop k
  | [], k, hk, h1, h2 => by simp [insB]
  | a :: l, 0, hk, h1, h2 => by
    have := h2 (by simp)
    simp at this
    simp [insB, this]
  | a :: l, k + 1, hk, h1, h2 => by
    have q := insB_at (i := i) l k (by simpa using hk) (fun j h hj => by have := h1 (j + 1) (by simpa using h) (by omega); simpa using this) (fun h => by have := h2 (by simpa using h); simpa using this)
    have a0 := h1 0 (by simp) (by omega)
    simp at a0
    unfold insB at q ⊢
    rw [List.takeWhile_cons, if_pos a0, List.dropWhile_cons, if_pos a0]
    simp only [List.cons_append, List.take_succ_cons, List.drop_succ_cons, List.cons.injEq, true_and]
    exact q
def zi (l : List Nat) : List Int := l.map fun (x : Nat) => (x : Int)
theorem zi_len (l : List Nat) : (zi l).length = l.length := by simp [zi]
theorem zi_at {l : List Nat} {i : Nat} (h : i < l.length) (h' : i < (zi l).length) : (zi l)[i] = ((l[i] : Nat) : Int) := by simp [zi]
theorem zi_take (l : List Nat) (k : Nat) : (zi l).take k = zi (l.take k) := by simp [zi]
theorem zi_drop (l : List Nat) (k : Nat) : (zi l).drop k = zi (l.drop k) := by simp [zi]
/-- Numbers as values. -/
def vi (l : List Int) : List Value := l.map (Value.int .i64)
theorem vi_len (l : List Int) : (vi l).length = l.length := by simp [vi]
theorem vi_app (l m : List Int) : vi (l ++ m) = vi l ++ vi m := by simp [vi]
theorem infoI : ∃ i, Tryz.prog.info? 3 = some i ∧ i.zero = some (.int .i64 0) ∧ i.size = 1 ∧ i.bytes = 8 := by
  have h1 : (Tryz.prog.info? 3).map (fun i => (i.size, i.bytes)) = some (1, 8) := by kernel_rfl
  have h2 : (Tryz.prog.info? 3).bind (fun i => i.zero) = some (.int .i64 0) := by kernel_rfl
  cases hq : Tryz.prog.info? 3 with
  | none => rw [hq] at h1; cases h1
  | some i =>
    rw [hq] at h1 h2
    simp only [Option.map_some, Option.some.injEq, Prod.mk.injEq] at h1
    exact ⟨i, rfl, h2, h1.1, h1.2⟩
theorem infoS : ∃ i, Tryz.prog.info? 9 = some i ∧ i.zero = some (.string ⟨#[]⟩) ∧ i.size = 1 ∧ i.bytes = 16 := by
  have h1 : (Tryz.prog.info? 9).map (fun i => (i.size, i.bytes)) = some (1, 16) := by kernel_rfl
  have h2 : (Tryz.prog.info? 9).bind (fun i => i.zero) = some (.string ⟨#[]⟩) := by kernel_rfl
  cases hq : Tryz.prog.info? 9 with
  | none => rw [hq] at h1; cases h1
  | some i =>
    rw [hq] at h1 h2
    simp only [Option.map_some, Option.some.injEq, Prod.mk.injEq] at h1
    exact ⟨i, rfl, h2, h1.1, h1.2⟩
theorem run_append_opt {P : Program} (w : World) (base : Nat) (t ty e : TypeId) (i : TypeInfo) (z : Value) (size bytes : Nat) (ht : P.underlying t = some (.slice e)) (hi : P.info? e = some i) (hz : i.zero = some z)
    (hsize : i.size = size) (hby : i.bytes = bytes) (hzs : z.cells.size = size) (hsz : 0 < size)
    (v : Value) (n : Nat) (xs : List Value) (hown : w.ownsRow base e size v n xs)
    (a : Option Addr) (m c : Nat) (news : List Value) (hl : news.length = m * size) (hnn : a = none → m = 0 ∧ c = 0) (hnews : ∀ ad, a = some ad → ∀ j u, news[j]? = some u → w.cell? (ad.add j) = some u) (h1 : ∀ u ∈ news, u.oneCell' = true)
    (h63 : n + m ≤ maxLen) (hbytes : (n + m) * bytes ≤ 140737488355328) (hbase : base ≤ w.heap.size) :
    ∃ v' w', (Builtin.append_ #[t, t] ty #[v, .slice a m c]).run P w = .ok v' w' ∧ w'.ownsRow base e size v' (n + m) (xs ++ news) ∧ w.grownBy w' v.ownBlock ∧
      (v' = .slice none 0 0 ↔ v = .slice none 0 0 ∧ m = 0) := by
  cases a with
  | some ad => exact run_append_own w base t ty e i z size bytes ht hi hz hsize hby hzs hsz v n xs hown ad m c news hl (hnews ad rfl) h1 h63 hbytes hbase
  | none =>
    obtain ⟨rfl, rfl⟩ := hnn rfl
    have hn : news = [] := List.eq_nil_of_length_eq_zero (by simpa using hl)
    subst hn
    rw [Nat.add_zero, List.append_nil]
    refine ⟨v, w, ?_, hown, ⟨rfl, rfl, rfl, Nat.le_refl _, fun _ _ _ => rfl⟩, by simp⟩
    obtain ⟨rfl, rfl⟩ | ⟨g, cap, cur, rfl, hbg, hg, hnc, hcm, hcs, htake⟩ := hown.2
    · simp [Builtin.append_, run_underlying ht, sizeOf, typeInfo, hi, Builtin.lenOf, Builtin.firstCells, loadCells, loadCellsFrom]
    · simp [Builtin.append_, run_underlying ht, sizeOf, typeInfo, hi, Builtin.lenOf, Builtin.firstCells, loadCells, loadCellsFrom, hnc]
      rfl
theorem wp_append_at {P : Program} {o : Oper} {a : Act} {w w' : World} {K : Act → World → Prop} {Q : Exit → Act → World → Prop} (s x : Operand) (t : TypeId) (ho : o.op = .call { callee := .builtin .append, args := #[s, x], argTypes := #[t, t] })
    (v v' y : Value) (hs : a.eval s = v) (hx : a.eval x = y) (hr : (Builtin.append_ #[t, t] o.type #[v, y]).run P w = .ok v' w') (h : K (a.put o.dst v') w') : Oper.wp P o a w K Q := by
  unfold Oper.wp execOp
  simp only [ho, resolve, invoke, builtin, Sem.run_bind, Sem.run_pure, Result.andThen_ok, List.map_toArray, List.map_cons, List.map_nil, hs, hx, hr]
  exact h
/-- A list of the call's own that grows. -/
structure OW (W V : World) (v : Value) (l : List Int) : Prop where
  own : V.ownsRow W.heap.size 3 1 v l.length (vi l)
  bl : Below W.heap.size W V
theorem OW.alloc {W V : World} {v : Value} {l : List Int} (h : OW W V v l) (o : Obj) : OW W (V.alloc o) v l := ⟨h.own.alloc _, h.bl.alloc h.bl.size _⟩
theorem OW.new {W V : World} (h : Below W.heap.size W V) : OW W (V.alloc (.cells #[] 3)) (.slice (some ⟨V.heap.size, 0, none⟩) 0 0) [] :=
  ⟨⟨rfl, Or.inr ⟨V.heap.size, 0, #[], rfl, h.size, IHolds.new V 3 [], Nat.le_refl _, Nat.zero_le _, rfl, rfl⟩⟩, h.alloc h.size _⟩
theorem OW.nil (W : World) : OW W W (.slice none 0 0) [] := ⟨World.ownsRow_nil _ _ _ _, Below.refl _ _⟩
theorem OW.app {W V : World} {v : Value} {l m : List Int} (h : OW W V v l) {a : Option Addr} {c k : Nat} (hk : m.length = k) (hnn : a = none → k = 0 ∧ c = 0) (hL : IL V a m) (h9 : l.length + k ≤ 4096) (ty : TypeId) :
    ∃ v' V', (Builtin.append_ #[26, 26] ty #[v, .slice a k c]).run Tryz.prog V = .ok v' V' ∧ OW W V' v' (l ++ m) ∧ ∀ g o u, V.cell? ⟨g, o, none⟩ = some u → some g ≠ v.ownBlock → V'.cell? ⟨g, o, none⟩ = some u := by
  obtain ⟨i0, hi0, hz0, hz1, hz2⟩ := infoI
  subst hk
  obtain ⟨v', V', hr, ho, hg, _⟩ := run_append_opt (P := Tryz.prog) V W.heap.size 26 ty 3 i0 (.int .i64 0) 1 8 Tryz.underlying26 hi0 hz0 hz1 hz2 rfl (by decide) v l.length (vi l) h.own a m.length c (vi m) (by rw [vi_len, Nat.mul_one]) hnn
    (fun ad ha j u hu => by
      obtain ⟨hj, e⟩ := List.getElem?_eq_some_iff.1 hu
      rw [vi_len] at hj
      obtain ⟨b, o, e2, hc⟩ := hL j hj
      rw [ha] at e2; cases e2
      rw [← e]
      rcases Nat.eq_zero_or_pos j with rfl | hj0
      · simpa [vi, Addr.add] using hc
      · have : ¬ j = 0 := by omega
        simpa [vi, Addr.add, this] using hc) (fun u hu => by
      simp only [vi, List.mem_map] at hu
      obtain ⟨x, _, rfl⟩ := hu; rfl) (by unfold maxLen; omega) (by omega) h.bl.size
  refine ⟨v', V', hr, ⟨by rw [List.length_append, vi_app]; exact ho, h.bl.grown hg h.bl.size (fun k hk => (h.own.lt k hk).1)⟩, fun g o u hc hne => ?_⟩
  rw [World.cell?_of_block (a := ⟨g, o, none⟩) (hg.block g (cell_lt hc) hne)]
  exact hc
theorem OW.apart {W V : World} {v : Value} {l : List Int} (h : OW W V v l) {g : Nat} (hg : g < W.heap.size) : some g ≠ v.ownBlock := fun e => by
  have := (h.own.lt g e.symm).1
  omega
/-- A list as it lies. -/
structure LS (W : World) (v : Value) (l : List Int) : Prop where
  ex : ∃ a c, v = .slice a l.length c ∧ l.length ≤ c ∧ c ≤ 9223372036854775807 ∧ (a = none → l.length = 0 ∧ c = 0) ∧ (∀ ad, a = some ad → ∃ g, ad = ⟨g, 0, none⟩) ∧ IL W a l
theorem OW.ls {W V : World} {v : Value} {l : List Int} (h : OW W V v l) : LS V v l := by
  obtain ⟨hlen, ⟨rfl, h0⟩ | ⟨g, cap, cur, rfl, hb, hg, hc, hm, hs, ht⟩⟩ := h.own
  · refine ⟨none, 0, by rw [h0], by omega, by omega, fun _ => ⟨h0, rfl⟩, (fun _ e => by cases e), ?_⟩
    have : l = [] := List.eq_nil_of_length_eq_zero h0
    subst this; exact IL.nil _ _
  · refine ⟨some ⟨g, 0, none⟩, cap, rfl, hc, hm, (fun e => by cases e), (fun ad e => by cases e; exact ⟨g, rfl⟩), fun i hi => ⟨g, 0, rfl, ?_⟩⟩
    rw [Nat.mul_one] at ht
    have h1 : (vi l)[i]? = some (.int .i64 l[i]) := by simp [vi, hi]
    rw [← ht, List.getElem?_take, if_pos (by omega)] at h1
    simp only [World.cell?, hg]
    simpa using h1
theorem LS.of_below {W V : World} {v : Value} {l : List Int} (h : LS W v l) (hb : Below W.heap.size W V) : LS V v l := by
  obtain ⟨a, c, e, h1, h2, h3, h4, h5⟩ := h.ex
  exact ⟨a, c, e, h1, h2, h3, h4, h5.of_below hb⟩
theorem IL.take {W : World} {a : Option Addr} {l : List Int} (h : IL W a l) (k : Nat) : IL W a (l.take k) := fun i hi => by
  have hi' : i < l.length := by rw [List.length_take] at hi; omega
  obtain ⟨b, o, e, hc⟩ := h i hi'
  exact ⟨b, o, e, by rw [List.getElem_take]; exact hc⟩
theorem IL.drop {W : World} {g o k : Nat} {l : List Int} (h : IL W (some ⟨g, o, none⟩) l) : IL W (some ⟨g, o + k, none⟩) (l.drop k) := fun i hi => by
  rw [List.length_drop] at hi
  obtain ⟨b, o', e, hc⟩ := h (k + i) (by omega)
  cases e
  exact ⟨g, o + k, rfl, by rw [List.getElem_drop, Nat.add_assoc]; exact hc⟩
theorem IL.one (W : World) (x : Int) : IL (W.alloc (.cells #[.int .i64 x] 3)) (some ⟨W.heap.size, 0, none⟩) [x] := fun i hi => by
  match i, hi with
  | 0, _ => exact ⟨_, _, rfl, by simp⟩
theorem IL.keep {V V' : World} {g : Nat} {x : Int} (h : IL V (some ⟨g, 0, none⟩) [x]) (hk : ∀ u, V.cell? ⟨g, 0, none⟩ = some u → V'.cell? ⟨g, 0, none⟩ = some u) : IL V' (some ⟨g, 0, none⟩) [x] := fun i hi => by
  match i, hi with
  | 0, hi =>
    obtain ⟨b, o, e, hc⟩ := h 0 hi
    cases e
    exact ⟨g, 0, rfl, hk _ hc⟩
end Go.Proofs.YtkcnpcjogfhkbaaGreatDoor.K
