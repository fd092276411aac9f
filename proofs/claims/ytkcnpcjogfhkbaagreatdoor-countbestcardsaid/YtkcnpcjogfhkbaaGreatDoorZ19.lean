/- Ways: Paths; the document's. Lists that grow; a queue; sets that are closed. -/
import Derived.Test.YtkcnpcjogfhkbaaGreatDoorZ18
import Derived.ArgAppend
set_option linter.unusedSimpArgs false
set_option linter.unusedVariables false
set_option maxRecDepth 100000
namespace Go.Proofs.YtkcnpcjogfhkbaaGreatDoor
open Go.RowKit Go.Deep Go.PlainAid

/-- A list of lists as a square. -/
def en (L : List (List Int)) : Mt := fun i j => (L.getD i []).getD j 0
/-- Pairs with which nothing is wrong. -/
structure Fine (L : List (List Int)) : Prop where
  pos : 1 ≤ L.length
  most : L.length ≤ 12
  rows : ∀ i (h : i < L.length), (L[i]'h).length = L.length
  lo : ∀ i j, i < L.length → j < L.length → 0 ≤ en L i j
  hi : ∀ i j, i < L.length → j < L.length → en L i j ≤ 1099511627776
theorem fine_of {L : List (List Int)} (h : wpC L = 0) : Fine L := by
  unfold wpC at h
  split at h
  · rename_i h1
    split at h
    · rename_i h2
      split at h
      · rename_i h3
        have rows : ∀ i (h : i < L.length), (L[i]'h).length = L.length := fun i hi => by
          have := List.all_eq_true.1 h2 _ (List.getElem_mem hi)
          simpa using this
        have ent : ∀ i j, i < L.length → j < L.length → 0 ≤ en L i j ∧ en L i j ≤ 1099511627776 := fun i j hi hj => by
          have q := List.all_eq_true.1 h3 _ (List.getElem_mem hi)
          have hj' : j < (L[i]'hi).length := by rw [rows i hi]; exact hj
          have q2 := List.all_eq_true.1 q _ (List.getElem_mem hj')
          simpa [en, hi, hj'] using q2
        exact ⟨h1.1, h1.2, rows, fun i j hi hj => (ent i j hi hj).1, fun i j hi hj => (ent i j hi hj).2⟩
      · omega
    · omega
  · omega
theorem LL.sq {w : World} {a : Option Addr} {L : List (List Int)} (h : LL w a L) (hf : ∀ i (h : i < L.length), (L[i]'h).length = L.length) : SQ w a L.length (en L) := fun i hi => by
  obtain ⟨b, o, a', c, e, h1, h2⟩ := h i hi
  refine ⟨b, o, a', c, e, by rw [hf i hi] at h1; exact h1, ?_⟩
  have q := h2.ir
  rw [hf i hi] at q
  have e2 : (fun j => (L[i]'hi).getD j 0) = en L i := by funext j; simp [en, hi]
  rw [e2] at q
  exact q
set_option maxHeartbeats 1000000 in
theorem withSquare16_bad {w : World} {a : Option Addr} {n c : Nat} {k : Int} {v : Value} (hk : k ≠ 0) (C : Calls Tryz.prog 27 #[.slice a n c] w fun e w' => e = .returned (.int .i64 k) ∧ Below w.heap.size w w') :
    Calls Tryz.prog 14 #[.slice a n c, v] w fun e w' => e = .returned (.tuple #[.slice none 0 0, .int .i64 k]) ∧ Below w.heap.size w w' := by
  have H : Hid (Calls Tryz.prog 27 #[.slice a n c] w fun e w' => e = .returned (.int .i64 k) ∧ Below w.heap.size w w') := C
  have k0 : (k != 0) = true := by simpa using hk
  clear C hk
  go_enter Tryz.func14, Tryz.ntmps14
  go_wp2_with (go_at_call 27; refine (H.out).mono ?_; rintro e V1 ⟨rfl, hB⟩; have B1 : Hid (Below w.heap.size w V1) := hB; clear hB H)
  exact bodyPost_ret (v := .tuple #[.slice none 0 0, .int .i64 k]) (by simp [results, Tryz.results14, go_sem]) rfl ⟨rfl, B1.out⟩
set_option maxHeartbeats 1000000 in
theorem withSquare16_ok {w : World} {a : Option Addr} {n c : Nat} {R : World → Value → World → Prop} (C : Calls Tryz.prog 27 #[.slice a n c] w fun e w' => e = .returned (.int .i64 0) ∧ Below w.heap.size w w')
    (D : ∀ W, Below w.heap.size w W → Calls Tryz.prog 15 #[.slice a n c] W fun e w' => (∃ v, e = .returned v ∧ R W v w') ∧ Below W.heap.size W w') :
    Calls Tryz.prog 14 #[.slice a n c, .func (.func 15) #[] #[]] w fun e w' => (∃ v W, e = .returned (.tuple #[v, .int .i64 0]) ∧ Below w.heap.size w W ∧ R W v w') ∧ Below w.heap.size w w' := by
  have H : Hid (Calls Tryz.prog 27 #[.slice a n c] w fun e w' => e = .returned (.int .i64 0) ∧ Below w.heap.size w w') := C
  have HD : Hid (∀ W, Below w.heap.size w W → Calls Tryz.prog 15 #[.slice a n c] W fun e w' => (∃ v, e = .returned v ∧ R W v w') ∧ Below W.heap.size W w') := D
  clear C D
  go_enter Tryz.func14, Tryz.ntmps14
  go_wp2_with (first
    | (go_at_call 27; refine (H.out).mono ?_; rintro e V1 ⟨rfl, hB⟩; have B1 : Hid (Below w.heap.size w V1) := hB; clear hB H)
    | (go_at_call 15; refine (HD.out _ B1.out).mono ?_; rintro e V2 ⟨⟨v, rfl, hR⟩, hB⟩; have B2 : Hid (Below w.heap.size w V2) := B1.out.trans (hB.mono B1.out.size); have RR : Hid (R V1 v V2) := hR; clear hB hR HD)
    | fail)
  exact bodyPost_ret (v := .tuple #[v, .int .i64 0]) (by simp [results, Tryz.results14, go_sem]) rfl ⟨⟨v, V1, rfl, B1.out, RR.out⟩, B2.out⟩
/-- Paths of anything. -/
theorem paths7 {w : World} {a : Option Addr} {L : List (List Int)} {c : Nat} (hs : LL w a L) :
    Calls Tryz.prog 6 #[.slice a L.length c] w fun e w' => ((wpC L ≠ 0 ∧ e = .returned (.tuple #[.slice none 0 0, .int .i64 (wpC L)])) ∨ (wpC L = 0 ∧ ∃ b M, e = .returned (.tuple #[.slice (some ⟨b, 0, none⟩) L.length L.length, .int .i64 0]) ∧ Str (en L) L.length M ∧ MX w' b L.length M)) ∧ Below w.heap.size w w' := by
  have C := wrongPairs29 (c := c) hs
  by_cases hk : wpC L = 0
  · have f := fine_of hk
    rw [hk] at C
    have q := withSquare16_ok (R := fun W v w' => v = .slice (some ⟨W.heap.size, 0, none⟩) L.length L.length ∧ ∃ M, Str (en L) L.length M ∧ MX w' W.heap.size L.length M) C (fun W hW => (paths17 f.most ((hs.of_below hW).sq f.rows) f.lo).mono (by
      rintro e w' ⟨rfl, hM, hB⟩
      exact ⟨⟨_, rfl, rfl, hM⟩, hB⟩))
    have H : Hid (Calls Tryz.prog 14 #[.slice a L.length c, .func (.func 15) #[] #[]] w fun e w' => (∃ b M, e = .returned (.tuple #[.slice (some ⟨b, 0, none⟩) L.length L.length, .int .i64 0]) ∧ Str (en L) L.length M ∧ MX w' b L.length M) ∧ Below w.heap.size w w') := q.mono (by
      rintro e w' ⟨⟨v, W, rfl, _, rfl, M, h1, h2⟩, hB⟩
      exact ⟨⟨_, M, rfl, h1, h2⟩, hB⟩)
    have H0 : Hid (wpC L = 0) := hk
    clear q C hk
    go_enter Tryz.func6, Tryz.ntmps6
    go_wp2_with (go_at_call 14; refine (H.out).mono ?_; rintro e V1 ⟨⟨b, M, rfl, h1, h2⟩, hB⟩; have B1 : Hid (Below w.heap.size w V1) := hB; have S1 : Hid (Str (en L) L.length M) := h1; have M1 : Hid (MX V1 b L.length M) := h2; clear hB h1 h2 H)
    exact bodyPost_ret (v := .tuple #[.slice (some ⟨b, 0, none⟩) L.length L.length, .int .i64 0]) (by simp [results, Tryz.results6, go_sem]) rfl ⟨Or.inr ⟨H0.out, b, M, rfl, S1.out, M1.out⟩, B1.out⟩
  · have H : Hid (Calls Tryz.prog 14 #[.slice a L.length c, .func (.func 15) #[] #[]] w fun e w' => e = .returned (.tuple #[.slice none 0 0, .int .i64 (wpC L)]) ∧ Below w.heap.size w w') := withSquare16_bad hk C
    have H0 : Hid (wpC L ≠ 0) := hk
    clear C hk
    generalize wpC L = k at *
    go_enter Tryz.func6, Tryz.ntmps6
    go_wp2_with (go_at_call 14; refine (H.out).mono ?_; rintro e V1 ⟨rfl, hB⟩; have B1 : Hid (Below w.heap.size w V1) := hB; clear hB H)
    exact bodyPost_ret (v := .tuple #[.slice none 0 0, .int .i64 k]) (by simp [results, Tryz.results6, go_sem]) rfl ⟨Or.inl ⟨H0.out, rfl⟩, B1.out⟩
/-- How the document's numbers stand within a pass. -/
structure RfI (P : Mt) (n T0 i j k : Nat) (M : Mt) (ag : Bool) : Prop where
  snd : Snd P n M
  hi : ∀ a b, a < n → b < n → M a b ≤ 1099511627776
  inc : T0 ≤ tot n M
  inc2 : ag = true → T0 < tot n M
  qt : ag = false → ∀ a b c, a < n → b < n → c < n → (a < i ∨ (a = i ∧ (b < j ∨ (b = j ∧ c < k)))) → Qt P M a b c
theorem RfI.stay {P : Mt} {n T0 i j k : Nat} {M : Mt} {ag : Bool} (h : RfI P n T0 i j k M ag) (q : Qt P M i j k) : RfI P n T0 i j (k + 1) M ag := ⟨h.snd, h.hi, h.inc, h.inc2, fun e a b c ha hb hc hq => by
  by_cases e1 : a = i ∧ b = j ∧ c = k
  · obtain ⟨rfl, rfl, rfl⟩ := e1; exact q
  · exact h.qt e a b c ha hb hc (by omega)⟩
theorem RfI.put {P : Mt} {n T0 i j k : Nat} {M : Mt} {ag : Bool} (h : RfI P n T0 i j k M ag) (hp : ∀ i j, i < n → j < n → P i j ≤ 1099511627776) (hi : i < n) (hj : j < n) (hk : k < n) (ht : rfT P M i j k = true) (hx : M i j < rfS P M i j k) : RfI P n T0 i j (k + 1) (upd M i j (rfS P M i j k)) true := by
  have l := tot_upd (n := n) hi hj (h.snd.pos i j hi hj) hx
  have := h.inc
  refine ⟨h.snd.rf hi hj hk ht hx, fun a b ha hb => ?_, by omega, fun _ => by omega, fun e => by cases e⟩
  by_cases q : a = i ∧ b = j
  · obtain ⟨rfl, rfl⟩ := q
    rw [upd_at]
    have := hp k b hk hb
    have := h.hi a k ha hk
    unfold rfS
    split <;> omega
  · rw [upd_ne _ _ _ _ q]; exact h.hi a b ha hb
theorem RfI.endk {P : Mt} {n T0 i j : Nat} {M : Mt} {ag : Bool} (h : RfI P n T0 i j n M ag) : RfI P n T0 i (j + 1) 0 M ag := ⟨h.snd, h.hi, h.inc, h.inc2, fun e a b c ha hb hc hq => h.qt e a b c ha hb hc (by omega)⟩
theorem RfI.endj {P : Mt} {n T0 i : Nat} {M : Mt} {ag : Bool} (h : RfI P n T0 i n 0 M ag) : RfI P n T0 (i + 1) 0 0 M ag := ⟨h.snd, h.hi, h.inc, h.inc2, fun e a b c ha hb hc hq => h.qt e a b c ha hb hc (by omega)⟩
theorem zero_snd (P : Mt) (n : Nat) : Snd P n (fun _ _ => 0) := ⟨fun _ _ => rfl, fun _ _ _ _ => Int.le_refl _, fun i j hi hj s hs hle => by omega⟩
end Go.Proofs.YtkcnpcjogfhkbaaGreatDoor
namespace Go.Proofs.YtkcnpcjogfhkbaaGreatDoor
open Go.RowKit Go.Deep Go.PlainAid

theorem IL.nil (w : World) (a : Option Addr) : IL w a [] := fun i h => by cases h
theorem dB (w : World) : Below w.heap.size w w.drew := (Below.refl _ _).drew
def zi (l : List Nat) : List Int := l.map fun (x : Nat) => (x : Int)
theorem zi_len (l : List Nat) : (zi l).length = l.length := by simp [zi]
theorem zi_at {l : List Nat} {i : Nat} (h : i < l.length) (h' : i < (zi l).length) : (zi l)[i] = ((l[i] : Nat) : Int) := by simp [zi]
theorem zi_take (l : List Nat) (k : Nat) : (zi l).take k = zi (l.take k) := by simp [zi]
theorem zi_drop (l : List Nat) (k : Nat) : (zi l).drop k = zi (l.drop k) := by simp [zi]
/-- Numbers as values. -/
def vi (l : List Int) : List Value := l.map (Value.int .i64)
theorem vi_len (l : List Int) : (vi l).length = l.length := by simp [vi]
theorem vi_app (l m : List Int) : vi (l ++ m) = vi l ++ vi m := by simp [vi]
theorem infoI : ∃ i, Tryz.prog.info? 3 = some i ∧ i.zero = some (.int .i64 0) ∧ i.size = 1 ∧ i.bytes = 8 := by
  have h1 : (Tryz.prog.info? 3).map (fun i => (i.size, i.bytes)) = some (1, 8) := by kernel_rfl
  have h2 : (Tryz.prog.info? 3).bind (fun i => i.zero) = some (.int .i64 0) := by kernel_rfl
  cases hq : Tryz.prog.info? 3 with
  | none => rw [hq] at h1; cases h1
  | some i =>
    rw [hq] at h1 h2
    simp only [Option.map_some, Option.some.injEq, Prod.mk.injEq] at h1
    exact ⟨i, rfl, h2, h1.1, h1.2⟩
theorem run_append_opt {P : Program} (w : World) (base : Nat) (t ty e : TypeId) (i : TypeInfo) (z : Value) (size bytes : Nat) (ht : P.underlying t = some (.slice e)) (hi : P.info? e = some i) (hz : i.zero = some z)
    (hsize : i.size = size) (hby : i.bytes = bytes) (hzs : z.cells.size = size) (hsz : 0 < size)
    (v : Value) (n : Nat) (xs : List Value) (hown : w.ownsRow base e size v n xs)
    (a : Option Addr) (m c : Nat) (news : List Value) (hl : news.length = m * size) (hnn : a = none → m = 0 ∧ c = 0) (hnews : ∀ ad, a = some ad → ∀ j u, news[j]? = some u → w.cell? (ad.add j) = some u) (h1 : ∀ u ∈ news, u.oneCell' = true)
    (h63 : n + m ≤ maxLen) (hbytes : (n + m) * bytes ≤ 140737488355328) (hbase : base ≤ w.heap.size) :
    ∃ v' w', (Builtin.append_ #[t, t] ty #[v, .slice a m c]).run P w = .ok v' w' ∧ w'.ownsRow base e size v' (n + m) (xs ++ news) ∧ w.grownBy w' v.ownBlock ∧
      (v' = .slice none 0 0 ↔ v = .slice none 0 0 ∧ m = 0) := by
  cases a with
  | some ad => exact run_append_own w base t ty e i z size bytes ht hi hz hsize hby hzs hsz v n xs hown ad m c news hl (hnews ad rfl) h1 h63 hbytes hbase
  | none =>
    obtain ⟨rfl, rfl⟩ := hnn rfl
    have hn : news = [] := List.eq_nil_of_length_eq_zero (by simpa using hl)
    subst hn
    rw [Nat.add_zero, List.append_nil]
    refine ⟨v, w, ?_, hown, ⟨rfl, rfl, rfl, Nat.le_refl _, fun _ _ _ => rfl⟩, by simp⟩
    obtain ⟨rfl, rfl⟩ | ⟨g, cap, cur, rfl, hbg, hg, hnc, hcm, hcs, htake⟩ := hown.2
    · simp [Builtin.append_, run_underlying ht, sizeOf, typeInfo, hi, Builtin.lenOf, Builtin.firstCells, loadCells, loadCellsFrom]
    · simp [Builtin.append_, run_underlying ht, sizeOf, typeInfo, hi, Builtin.lenOf, Builtin.firstCells, loadCells, loadCellsFrom, hnc]
      rfl
theorem wp_append_at {P : Program} {o : Oper} {a : Act} {w w' : World} {K : Act → World → Prop} {Q : Exit → Act → World → Prop} (s x : Operand) (t : TypeId) (ho : o.op = .call { callee := .builtin .append, args := #[s, x], argTypes := #[t, t] })
    (v v' y : Value) (hs : a.eval s = v) (hx : a.eval x = y) (hr : (Builtin.append_ #[t, t] o.type #[v, y]).run P w = .ok v' w') (h : K (a.put o.dst v') w') : Oper.wp P o a w K Q := by
  unfold Oper.wp execOp
  simp only [ho, resolve, invoke, builtin, Sem.run_bind, Sem.run_pure, Result.andThen_ok, List.map_toArray, List.map_cons, List.map_nil, hs, hx, hr]
  exact h
/-- A list of the call's own that grows. -/
structure OW (W V : World) (v : Value) (l : List Int) : Prop where
  own : V.ownsRow W.heap.size 3 1 v l.length (vi l)
  bl : Below W.heap.size W V
theorem OW.alloc {W V : World} {v : Value} {l : List Int} (h : OW W V v l) (o : Obj) : OW W (V.alloc o) v l := ⟨h.own.alloc _, h.bl.alloc h.bl.size _⟩
theorem OW.new {W V : World} (h : Below W.heap.size W V) : OW W (V.alloc (.cells #[] 3)) (.slice (some ⟨V.heap.size, 0, none⟩) 0 0) [] :=
  ⟨⟨rfl, Or.inr ⟨V.heap.size, 0, #[], rfl, h.size, IHolds.new V 3 [], Nat.le_refl _, Nat.zero_le _, rfl, rfl⟩⟩, h.alloc h.size _⟩
theorem OW.nil (W : World) : OW W W (.slice none 0 0) [] := ⟨World.ownsRow_nil _ _ _ _, Below.refl _ _⟩
theorem OW.app {W V : World} {v : Value} {l m : List Int} (h : OW W V v l) {a : Option Addr} {c k : Nat} (hk : m.length = k) (hnn : a = none → k = 0 ∧ c = 0) (hL : IL V a m) (h9 : l.length + k ≤ 4096) (ty : TypeId) :
    ∃ v' V', (Builtin.append_ #[26, 26] ty #[v, .slice a k c]).run Tryz.prog V = .ok v' V' ∧ OW W V' v' (l ++ m) ∧ ∀ g o u, V.cell? ⟨g, o, none⟩ = some u → some g ≠ v.ownBlock → V'.cell? ⟨g, o, none⟩ = some u := by
  obtain ⟨i0, hi0, hz0, hz1, hz2⟩ := infoI
  subst hk
  obtain ⟨v', V', hr, ho, hg, _⟩ := run_append_opt (P := Tryz.prog) V W.heap.size 26 ty 3 i0 (.int .i64 0) 1 8 Tryz.underlying26 hi0 hz0 hz1 hz2 rfl (by decide) v l.length (vi l) h.own a m.length c (vi m) (by rw [vi_len, Nat.mul_one]) hnn
    (fun ad ha j u hu => by
      obtain ⟨hj, e⟩ := List.getElem?_eq_some_iff.1 hu
      rw [vi_len] at hj
      obtain ⟨b, o, e2, hc⟩ := hL j hj
      rw [ha] at e2; cases e2
      rw [← e]
      rcases Nat.eq_zero_or_pos j with rfl | hj0
      · simpa [vi, Addr.add] using hc
      · have : ¬ j = 0 := by omega
        simpa [vi, Addr.add, this] using hc) (fun u hu => by
      simp only [vi, List.mem_map] at hu
      obtain ⟨x, _, rfl⟩ := hu; rfl) (by unfold maxLen; omega) (by omega) h.bl.size
  refine ⟨v', V', hr, ⟨by rw [List.length_append, vi_app]; exact ho, h.bl.grown hg h.bl.size (fun k hk => (h.own.lt k hk).1)⟩, fun g o u hc hne => ?_⟩
  rw [World.cell?_of_block (a := ⟨g, o, none⟩) (hg.block g (cell_lt hc) hne)]
  exact hc
theorem OW.apart {W V : World} {v : Value} {l : List Int} (h : OW W V v l) {g : Nat} (hg : g < W.heap.size) : some g ≠ v.ownBlock := fun e => by
  have := (h.own.lt g e.symm).1
  omega
/-- A list as it lies. -/
structure LS (W : World) (v : Value) (l : List Int) : Prop where
  ex : ∃ a c, v = .slice a l.length c ∧ l.length ≤ c ∧ c ≤ 9223372036854775807 ∧ (a = none → l.length = 0 ∧ c = 0) ∧ (∀ ad, a = some ad → ∃ g, ad = ⟨g, 0, none⟩) ∧ IL W a l
theorem OW.ls {W V : World} {v : Value} {l : List Int} (h : OW W V v l) : LS V v l := by
  obtain ⟨hlen, ⟨rfl, h0⟩ | ⟨g, cap, cur, rfl, hb, hg, hc, hm, hs, ht⟩⟩ := h.own
  · refine ⟨none, 0, by rw [h0], by omega, by omega, fun _ => ⟨h0, rfl⟩, (fun _ e => by cases e), ?_⟩
    have : l = [] := List.eq_nil_of_length_eq_zero h0
    subst this; exact IL.nil _ _
  · refine ⟨some ⟨g, 0, none⟩, cap, rfl, hc, hm, (fun e => by cases e), (fun ad e => by cases e; exact ⟨g, rfl⟩), fun i hi => ⟨g, 0, rfl, ?_⟩⟩
    rw [Nat.mul_one] at ht
    have h1 : (vi l)[i]? = some (.int .i64 l[i]) := by simp [vi, hi]
    rw [← ht, List.getElem?_take, if_pos (by omega)] at h1
    simp only [World.cell?, hg]
    simpa using h1
theorem LS.of_below {W V : World} {v : Value} {l : List Int} (h : LS W v l) (hb : Below W.heap.size W V) : LS V v l := by
  obtain ⟨a, c, e, h1, h2, h3, h4, h5⟩ := h.ex
  exact ⟨a, c, e, h1, h2, h3, h4, h5.of_below hb⟩
theorem IL.take {W : World} {a : Option Addr} {l : List Int} (h : IL W a l) (k : Nat) : IL W a (l.take k) := fun i hi => by
  have hi' : i < l.length := by rw [List.length_take] at hi; omega
  obtain ⟨b, o, e, hc⟩ := h i hi'
  exact ⟨b, o, e, by rw [List.getElem_take]; exact hc⟩
theorem IL.drop {W : World} {g o k : Nat} {l : List Int} (h : IL W (some ⟨g, o, none⟩) l) : IL W (some ⟨g, o + k, none⟩) (l.drop k) := fun i hi => by
  rw [List.length_drop] at hi
  obtain ⟨b, o', e, hc⟩ := h (k + i) (by omega)
  cases e
  exact ⟨g, o + k, rfl, by rw [List.getElem_drop, Nat.add_assoc]; exact hc⟩
theorem IL.one (W : World) (x : Int) : IL (W.alloc (.cells #[.int .i64 x] 3)) (some ⟨W.heap.size, 0, none⟩) [x] := fun i hi => by
  match i, hi with
  | 0, _ => exact ⟨_, _, rfl, by simp⟩
theorem IL.keep {V V' : World} {g : Nat} {x : Int} (h : IL V (some ⟨g, 0, none⟩) [x]) (hk : ∀ u, V.cell? ⟨g, 0, none⟩ = some u → V'.cell? ⟨g, 0, none⟩ = some u) : IL V' (some ⟨g, 0, none⟩) [x] := fun i hi => by
  match i, hi with
  | 0, hi =>
    obtain ⟨b, o, e, hc⟩ := h 0 hi
    cases e
    exact ⟨g, 0, rfl, hk _ hc⟩

/-- Closing a set: what holds while a queue is worked off. -/
structure ST (P : Mt) (n first : Nat) (f : Nat → Bool) (Q : List Nat) : Prop where
  one : f first = true
  inq : ∀ x ∈ Q, x < n ∧ f x = true
  done : ∀ x, x < n → f x = true → x ∉ Q → ∀ j, j < n → f j = false → P j x < P x j
  min : ∀ g, Dom P n g → g first = true → ∀ x, x < n → f x = true → g x = true
def ups (f : Nat → Bool) (j : Nat) : Nat → Bool := fun x => if x = j then true else f x
theorem ups_at (f : Nat → Bool) (j : Nat) : ups f j j = true := by simp [ups]
theorem ups_mono {f : Nat → Bool} {j x : Nat} (h : f x = true) : ups f j x = true := by unfold ups; split <;> simp [h]
theorem ups_false {f : Nat → Bool} {j x : Nat} (h : ups f j x = false) : x ≠ j ∧ f x = false := by
  unfold ups at h
  split at h
  · cases h
  · exact ⟨by assumption, h⟩
theorem ups_true {f : Nat → Bool} {j x : Nat} (h : ups f j x = true) : x = j ∨ f x = true := by
  unfold ups at h
  split at h
  · exact .inl (by assumption)
  · exact .inr h
theorem ST.start (P : Mt) {n first : Nat} (h : first < n) : ST P n first (ups (fun _ => false) first) [first] := by
  refine ⟨ups_at _ _, fun x hx => by simp at hx; subst hx; exact ⟨h, ups_at _ _⟩, fun x hx hf hq => ?_, fun g hg h1 x hx hf => ?_⟩
  · rcases ups_true hf with e | e
    · simp [e] at hq
    · cases e
  · rcases ups_true hf with e | e
    · rw [e]; exact h1
    · cases e
theorem ST.add {P : Mt} {n first q j : Nat} {f : Nat → Bool} {Q : List Nat} (h : ST P n first f Q) (hq : q ∈ Q) (hj : j < n) (hb : ¬ P j q < P q j) : ST P n first (ups f j) (Q ++ [j]) := by
  refine ⟨ups_mono h.one, fun x hx => ?_, fun x hx hf hxq k hk hfk => ?_, fun g hg h1 x hx hf => ?_⟩
  · rcases List.mem_append.1 hx with e | e
    · exact ⟨(h.inq x e).1, ups_mono (h.inq x e).2⟩
    · simp at e; subst e; exact ⟨hj, ups_at _ _⟩
  · simp only [List.mem_append, List.mem_singleton, not_or] at hxq
    rcases ups_true hf with e | e
    · exact absurd e hxq.2
    · exact h.done x hx e hxq.1 k hk (ups_false hfk).2
  · rcases ups_true hf with e | e
    · subst e
      cases hg2 : g x with
      | true => rfl
      | false =>
        obtain ⟨q1, q2⟩ := h.inq q hq
        exact absurd (hg q q1 (h.min g hg h1 q q1 q2) x hx hg2) hb
    · exact h.min g hg h1 x hx e
theorem ST.pop {P : Mt} {n first q : Nat} {f : Nat → Bool} {Q : List Nat} (h : ST P n first f (q :: Q)) (hb : ∀ j, j < n → f j = false → P j q < P q j) : ST P n first f Q := by
  refine ⟨h.one, fun x hx => h.inq x (List.mem_cons_of_mem _ hx), fun x hx hf hxq k hk hfk => ?_, h.min⟩
  by_cases e : x = q
  · subst e; exact hb k hk hfk
  · exact h.done x hx hf (by simp [e, hxq]) k hk hfk
theorem ST.dom {P : Mt} {n first : Nat} {f : Nat → Bool} (h : ST P n first f []) : Dom P n f := fun a ha hf j hj hfj => h.done a ha hf (by simp) j hj hfj
/-- How many are not in it. -/
def outN (n : Nat) (f : Nat → Bool) : Nat := (List.range n).countP fun x => !f x
theorem outN_ups {f : Nat → Bool} {j : Nat} (hf : f j = false) : ∀ n, j < n → outN n (ups f j) + 1 = outN n f
  | 0, h => by omega
  | n + 1, h => by
    unfold outN at *
    simp only [List.range_succ, List.countP_append, List.countP_singleton]
    by_cases e : j = n
    · subst e
      have e1 : (List.range j).countP (fun x => !ups f j x) = (List.range j).countP (fun x => !f x) := by
        refine List.countP_congr fun x hx => ?_
        have : x ≠ j := by have := List.mem_range.1 hx; omega
        simp [ups, this]
      rw [e1, ups_at, hf]
      simp
    · have := outN_ups hf n (by omega)
      unfold outN at this
      have e2 : ups f j n = f n := by have : n ≠ j := fun q => e q.symm; simp [ups, this]
      rw [e2]
      omega
/-- Boolean cells. -/
def bo (n : Nat) (f : Nat → Bool) : List Value := (List.range n).map fun i => Value.bool (f i)
theorem bo_len (n : Nat) (f : Nat → Bool) : (bo n f).length = n := by simp [bo]
theorem bo_at {n : Nat} {f : Nat → Bool} {j : Nat} (h : j < n) (h' : j < (bo n f).length) : (bo n f)[j] = .bool (f j) := by simp [bo]
theorem bo_set {n : Nat} {f : Nat → Bool} {j : Nat} : (bo n f).set j (.bool true) = bo n (ups f j) := by
  refine List.ext_getElem (by simp [bo]) (fun a h1 h2 => ?_)
  rw [List.getElem_set]
  by_cases e : j = a
  · subst e; simp [bo, ups]
  · have e' : ¬ a = j := fun q => e q.symm
    rw [if_neg e]
    simp [bo, ups, e']
theorem info4b : (Tryz.prog.info? 4).map (fun i => (i.zero, i.size, i.bytes)) = some (some (.bool false), 1, 1) := by kernel_rfl
theorem make63 (n : Nat) (hn : n ≤ 4294967296) (w : World) : (Instr.makeSlice 81 (.int .i64 (n : Int)) (.int .i64 (n : Int))).run Tryz.prog w = .ok (.slice (some ⟨w.heap.size, 0, none⟩) n n) (w.alloc (.cells (bo n (fun _ => false)).toArray 4)) := by
  have := run_make_row' (P := Tryz.prog) 81 4 (.bool false) 1 Tryz.underlying81 info4b rfl .i64 .i64 n (by omega) (by omega) w
  rw [this]
  have e : madeCells #[.bool false] n = (bo n (fun _ => false)).toArray := by
    apply Array.toList_inj.1
    rw [toList_madeCells_one]
    refine List.ext_getElem (by simp [bo]) (fun i h1 h2 => by simp [bo])
  rw [e]
/-- A queue of the call's own: a row from some place on. -/
structure QU (B : Nat) (V : World) (g o cap : Nat) (l : List Int) : Prop where
  ge : B ≤ g
  ex : ∃ cur, V.heap[g]? = some (.cells cur 3 (0, 0)) ∧ o + cap ≤ cur.size ∧ ∀ j (h : j < l.length), cur[o + j]? = some (.int .i64 l[j])
  le : l.length ≤ cap
  mx : cap ≤ maxLen
theorem QU.lt {B g o cap : Nat} {V : World} {l : List Int} (h : QU B V g o cap l) : g < V.heap.size := by
  obtain ⟨cur, h1, _⟩ := h.ex
  exact (Array.getElem?_eq_some_iff.1 h1).1
theorem QU.cell {B g o cap : Nat} {V : World} {l : List Int} (h : QU B V g o cap l) {j : Nat} (hj : j < l.length) : V.cell? ⟨g, o + j, none⟩ = some (.int .i64 l[j]) := by
  obtain ⟨cur, h1, h2, h3⟩ := h.ex
  simp only [World.cell?, h1]
  exact h3 j hj
theorem QU.of_own {B n : Nat} {V : World} {v : Value} {l : List Int} (h : V.ownsRow B 3 1 v n (vi l)) (hn : 0 < n) : ∃ g cap, v = .slice (some ⟨g, 0, none⟩) n cap ∧ QU B V g 0 cap l ∧ l.length = n := by
  obtain ⟨hlen, ⟨rfl, h0⟩ | ⟨g, cap, cur, rfl, hb, hg, hc, hm, hs, ht⟩⟩ := h
  · omega
  · rw [vi_len, Nat.mul_one] at hlen
    refine ⟨g, cap, rfl, ⟨hb, ⟨cur, hg, by omega, fun j hj => ?_⟩, by omega, hm⟩, hlen⟩
    rw [Nat.mul_one] at ht
    have h1 : (vi l)[j]? = some (.int .i64 l[j]) := by simp [vi, hj]
    rw [← ht, List.getElem?_take, if_pos (by omega)] at h1
    simpa using h1
theorem QU.keep {B g o cap : Nat} {V V' : World} {l : List Int} (h : QU B V g o cap l) (hk : V'.heap[g]? = V.heap[g]?) : QU B V' g o cap l := by
  obtain ⟨cur, h1, h2⟩ := h.ex
  exact ⟨h.ge, ⟨cur, by rw [hk]; exact h1, h2⟩, h.le, h.mx⟩
theorem QU.pop {B g o cap : Nat} {V : World} {x : Int} {l : List Int} (h : QU B V g o cap (x :: l)) (hc : cap ≠ 1) : QU B V g (o + 1) (cap - 1) l := by
  obtain ⟨cur, h1, h2, h3⟩ := h.ex
  have hle := h.le
  have hmx := h.mx
  simp only [List.length_cons] at hle
  refine ⟨h.ge, ⟨cur, h1, by omega, fun j hj => ?_⟩, by omega, by omega⟩
  have := h3 (j + 1) (by simpa using hj)
  rw [show o + 1 + j = o + (j + 1) by omega]
  simpa using this
theorem QU.pop1 {B g o : Nat} {V : World} {x : Int} {l : List Int} (h : QU B V g o 1 (x :: l)) : l = [] ∧ QU B V g o 0 l := by
  obtain ⟨cur, h1, h2, h3⟩ := h.ex
  have hle := h.le
  simp only [List.length_cons] at hle
  have : l = [] := List.eq_nil_of_length_eq_zero (by omega)
  subst this
  exact ⟨rfl, h.ge, ⟨cur, h1, by omega, fun j hj => by cases hj⟩, Nat.le_refl _, Nat.zero_le _⟩
theorem QU.app {B g o cap : Nat} {V : World} {l : List Int} (h : QU B V g o cap l) (hB : B ≤ V.heap.size) {G : Nat} {x : Int} (hx : V.cell? ⟨G, 0, none⟩ = some (.int .i64 x)) (h9 : l.length ≤ 4000) (ty : TypeId) :
    ∃ g' o' cap' V', (Builtin.append_ #[26, 26] ty #[.slice (some ⟨g, o, none⟩) l.length cap, .slice (some ⟨G, 0, none⟩) 1 1]).run Tryz.prog V = .ok (.slice (some ⟨g', o', none⟩) (l.length + 1) cap') V' ∧ QU B V' g' o' cap' (l ++ [x]) ∧ V.grownBy V' (some g) := by
  obtain ⟨i0, hi0, hz0, hz1, hz2⟩ := infoI
  have hnews : ∀ j u, [Value.int .i64 x][j]? = some u → V.cell? ((⟨G, 0, none⟩ : Addr).add j) = some u := fun j u hu => by
    match j, hu with | 0, hu => (simp at hu; subst hu; simpa [Addr.add] using hx)
  obtain ⟨cur, h1, h2, h3⟩ := h.ex
  by_cases hr : l.length + 1 ≤ cap
  · have q := run_append_room_cells (P := Tryz.prog) (w := V) 26 ty 3 i0 Tryz.underlying26 hi0 g o l.length cap ⟨G, 0, none⟩ 1 1 [.int .i64 x] (by rw [hz1]; rfl) hnews (fun u hu => by simp at hu; subst hu; rfl) hr
      (fun j hj => by
        simp at hj; subst hj
        rw [hz1, Nat.mul_one]
        simp only [World.cell?, h1, Nat.add_zero]
        have : o + l.length < cur.size := by omega
        simp [this]) (fun j hj => by simp [World.frozen?, h1])
    rw [hz1, Nat.mul_one] at q
    refine ⟨g, o, cap, _, q, ⟨h.ge, ⟨cur.setIfInBounds (o + l.length) (.int .i64 x), ?_, by simpa using h2, fun j hj => ?_⟩, by simpa using hr, h.mx⟩, ⟨rfl, rfl, rfl, by simp [World.setCells, World.setCell], fun k hk hne => ?_⟩⟩
    · simp [World.setCells, World.setCell, Array.getElem?_modify, h1]
    · rw [Array.getElem?_setIfInBounds]
      by_cases e : j = l.length
      · subst e
        have : o + l.length < cur.size := by omega
        simp [this]
      · have hj2 : j < l.length := by simp at hj; omega
        rw [if_neg (by omega), List.getElem_append_left hj2]
        exact h3 j hj2
    · have : g ≠ k := fun e => hne (by rw [e])
      simp [World.setCells, World.setCell, Array.getElem?_modify, this]
  · obtain ⟨v', V', hrun, hown, hg⟩ := run_append_arg_grows (P := Tryz.prog) (w := V) 26 ty 3 i0 (.int .i64 0) 1 8 Tryz.underlying26 hi0 hz0 hz1 hz2 rfl (by decide) ⟨g, o, none⟩ l.length cap (vi l) (by rw [vi_len, Nat.mul_one]) (fun j u hu => by
      obtain ⟨hj, e⟩ := List.getElem?_eq_some_iff.1 hu
      rw [vi_len] at hj
      have q := h.cell hj
      rw [← e]
      rcases Nat.eq_zero_or_pos j with rfl | hj0
      · simpa [vi, Addr.add] using q
      · have : ¬ j = 0 := by omega
        simpa [vi, Addr.add, this] using q) ⟨G, 0, none⟩ 1 1 [.int .i64 x] rfl hnews (by have := h.le; omega) (by unfold maxLen; omega) (by omega)
    have e : vi l ++ [.int .i64 x] = vi (l ++ [x]) := by simp [vi]
    rw [e] at hown
    obtain ⟨g', cap', rfl, hq, _⟩ := QU.of_own hown (by omega)
    exact ⟨g', 0, cap', V', hrun, ⟨Nat.le_trans hB hq.ge, hq.ex, hq.le, hq.mx⟩, ⟨hg.os, hg.tape, hg.output, hg.size, fun k hk _ => hg.block k hk (by simp)⟩⟩
end Go.Proofs.YtkcnpcjogfhkbaaGreatDoor
