/- Left, on the document's side: helps, and the region of a piece. -/
import Derived.Test.YteomefhjglnghaaDoorMq
import Derived.Test.YteomefhjglnghaaDoorMm
set_option linter.unusedSimpArgs false
set_option linter.unusedVariables false
set_option maxRecDepth 100000
namespace Go.Proofs.YteomefhjglnghaaDoor
open Go.RowKit Go.Deep Go.PlainAid

theorem info66 : (Tryd.prog.info? 55).map (fun i => (i.zero, i.size, i.bytes)) = some (some (.agg #[.int .i64 0, .int .i64 0, .string ⟨#[]⟩]), 3, 32) := by kernel_rfl
section
variable {P : Program}
/-- What is appended may be nothing. -/
theorem run_append_opt (w : World) (base : Nat) (t ty e : TypeId) (i : TypeInfo) (z : Value) (size bytes : Nat) (ht : P.underlying t = some (.slice e)) (hi : P.info? e = some i) (hz : i.zero = some z)
    (hsize : i.size = size) (hby : i.bytes = bytes) (hzs : z.cells.size = size) (hsz : 0 < size)
    (v : Value) (n : Nat) (xs : List Value) (hown : w.ownsRow base e size v n xs)
    (a : Option Addr) (m c : Nat) (news : List Value) (hl : news.length = m * size) (hnn : a = none → m = 0 ∧ c = 0) (hnews : ∀ ad, a = some ad → ∀ j u, news[j]? = some u → w.cell? (ad.add j) = some u) (h1 : ∀ u ∈ news, u.oneCell' = true)
    (h63 : n + m ≤ maxLen) (hbytes : (n + m) * bytes ≤ 140737488355328) (hbase : base ≤ w.heap.size) :
    ∃ v' w', (Builtin.append_ #[t, t] ty #[v, .slice a m c]).run P w = .ok v' w' ∧ w'.ownsRow base e size v' (n + m) (xs ++ news) ∧ w.grownBy w' v.ownBlock ∧
      (v' = .slice none 0 0 ↔ v = .slice none 0 0 ∧ m = 0) := by
  cases a with
  | some ad => exact run_append_own w base t ty e i z size bytes ht hi hz hsize hby hzs hsz v n xs hown ad m c news hl (hnews ad rfl) h1 h63 hbytes hbase
  | none =>
    obtain ⟨rfl, rfl⟩ := hnn rfl
    have hn : news = [] := List.eq_nil_of_length_eq_zero (by simpa using hl)
    subst hn
    rw [Nat.add_zero, List.append_nil]
    refine ⟨v, w, ?_, hown, ⟨rfl, rfl, rfl, Nat.le_refl _, fun _ _ _ => rfl⟩, by simp⟩
    obtain ⟨rfl, rfl⟩ | ⟨g, cap, cur, rfl, hbg, hg, hnc, hcm, hcs, htake⟩ := hown.2
    · simp [Builtin.append_, run_underlying ht, sizeOf, typeInfo, hi, Builtin.lenOf, Builtin.firstCells, loadCells, loadCellsFrom]
    · simp [Builtin.append_, run_underlying ht, sizeOf, typeInfo, hi, Builtin.lenOf, Builtin.firstCells, loadCells, loadCellsFrom, hnc]
      rfl
theorem wpList_append_opt {w : World} {ops : Array Oper} {rest : List Oper} {o : Oper} {a : Act} {Q : Exit → Act → World → Prop} (hgd : o.guard = none) (s x : Operand) (t : TypeId)
    (ho : o.op = .call { callee := .builtin .append, args := #[s, x], argTypes := #[t, t] })
    (base : Nat) (e : TypeId) (i : TypeInfo) (z : Value) (size bytes : Nat) (ht : P.underlying t = some (.slice e)) (hi : P.info? e = some i) (hz : i.zero = some z)
    (hsize : i.size = size) (hby : i.bytes = bytes) (hzs : z.cells.size = size) (hsz : 0 < size)
    (v : Value) (n : Nat) (xs : List Value) (hs : a.eval s = v) (hown : w.ownsRow base e size v n xs)
    (ad : Option Addr) (m c : Nat) (news : List Value) (hx : a.eval x = .slice ad m c) (hl : news.length = m * size) (hnn : ad = none → m = 0 ∧ c = 0) (hnews : ∀ ad', ad = some ad' → ∀ j u, news[j]? = some u → w.cell? (ad'.add j) = some u) (h1 : ∀ u ∈ news, u.oneCell' = true)
    (h63 : n + m ≤ maxLen) (hbytes : (n + m) * bytes ≤ 140737488355328) (hbase : base ≤ w.heap.size)
    (h : ∀ v' w', w'.ownsRow base e size v' (n + m) (xs ++ news) → w.grownBy w' v.ownBlock → (v' = .slice none 0 0 ↔ v = .slice none 0 0 ∧ m = 0) → wpList P ops Q rest (a.put o.dst v') w') : wpList P ops Q (o :: rest) a w :=
  wpList_plain hgd fun _ hK => by
    obtain ⟨v', w', hr, h2, h3, h4⟩ := run_append_opt (P := P) w base t o.type e i z size bytes ht hi hz hsize hby hzs hsz v n xs hown ad m c news hl hnn hnews h1 h63 hbytes hbase
    unfold Oper.wp execOp
    simp only [ho, resolve, invoke, builtin, Sem.run_bind, Sem.run_pure, Result.andThen_ok, List.map_toArray, List.map_cons, List.map_nil, hs, hx, hr]
    exact hK _ _ (h v' w' h2 h3 h4)
end
theorem row_formT {w : World} {base n : Nat} {t : TypeId} {s : Nat} {v : Value} {xs : List Value} (hn : 0 < n) (h : w.ownsRow base t s v n xs) :
    ∃ g cap, v = .slice (some ⟨g, 0, none⟩) n cap ∧ n ≤ cap ∧ cap ≤ maxLen ∧ base ≤ g ∧ g < w.heap.size ∧ ∀ j u, xs[j]? = some u → w.cell? ⟨g, j, none⟩ = some u := by
  obtain ⟨_, ⟨_, h0⟩ | ⟨g, cap, cur, rfl, h1, hg, h2, h3, h4, h5⟩⟩ := id h
  · omega
  · refine ⟨g, cap, rfl, h2, h3, h1, (Array.getElem?_eq_some_iff.1 hg).1, fun j u hj => ?_⟩
    have q := h.cells (g := g) rfl j u hj
    unfold Addr.add at q
    by_cases h0 : j = 0
    · subst h0; simpa using q
    · simpa [h0] using q
theorem own_ptlT {w : World} {base n : Nat} {t : TypeId} {v : Value} {l : List P3} (hn : l.length = n) (h : w.ownsRow base t 3 v n (flat3 l)) : ∃ a c, v = .slice a n c ∧ PTL w a l := by
  by_cases h0 : 0 < n
  · obtain ⟨g, cap, rfl, _, _, _, _, q⟩ := row_formT h0 h
    exact ⟨_, _, rfl, fun j u hj => ⟨g, 0, rfl, by rw [Nat.zero_add]; exact q j u hj⟩⟩
  · have e : l = [] := List.length_eq_zero_iff.1 (by omega)
    subst e
    obtain ⟨_, ⟨rfl, h0⟩ | ⟨g, cap, cur, rfl, _⟩⟩ := h
    · exact ⟨none, 0, by rw [h0], fun j u hj => by simp [flat3] at hj⟩
    · exact ⟨_, _, rfl, fun j u hj => by simp [flat3] at hj⟩
theorem row_base {w : World} {base base' n : Nat} {t : TypeId} {s : Nat} {v : Value} {xs : List Value} (h : w.ownsRow base t s v n xs) (hb : base' ≤ base) : w.ownsRow base' t s v n xs := by
  refine ⟨h.1, ?_⟩
  rcases h.2 with q | ⟨g, cap, cur, rfl, hb', r⟩
  · exact Or.inl q
  · exact Or.inr ⟨g, cap, cur, rfl, Nat.le_trans hb hb', r⟩
theorem three_newsT (w : World) (t : TypeId) (x y z : Value) : ∀ j u, [x, y, z][j]? = some u → (w.alloc (.cells #[x, y, z] t)).cell? ((⟨w.heap.size, 0, none⟩ : Addr).add j) = some u := fun j u hj => by
  have I := IHolds.new w t [x, y, z]
  have hlt := (List.getElem?_eq_some_iff.1 hj).1
  have q := I.cell j hlt
  rw [(List.getElem?_eq_some_iff.1 hj).2] at q
  unfold Addr.add
  by_cases h0 : j = 0
  · subst h0; simpa using q
  · simpa [h0] using q
end Go.Proofs.YteomefhjglnghaaDoor
namespace Go.Proofs.YteomefhjglnghaaDoor
end Go.Proofs.YteomefhjglnghaaDoor
namespace Go.Proofs.YteomefhjglnghaaDoor
theorem IHolds.newsA {w : World} {b : Nat} {t : TypeId} {l : List Value} (h : IHolds w b t l) : ∀ j u, l[j]? = some u → w.cell? ((⟨b, 0, none⟩ : Addr).add j) = some u := fun j u hj => by
  have hlt := (List.getElem?_eq_some_iff.1 hj).1
  have q := h.cell j hlt
  rw [(List.getElem?_eq_some_iff.1 hj).2] at q
  unfold Addr.add
  by_cases h0 : j = 0
  · subst h0; simpa using q
  · simpa [h0] using q
theorem none_own {w : World} {base : Nat} (hb : base ≤ w.heap.size) : (w.alloc (.cells #[] 55)).ownsRow base 55 3 (.slice (some ⟨w.heap.size, 0, none⟩) 0 0) 0 [] :=
  ⟨rfl, Or.inr ⟨w.heap.size, 0, #[], rfl, hb, IHolds.new w 55 [], Nat.le_refl _, by unfold maxLen; omega, rfl, rfl⟩⟩
end Go.Proofs.YteomefhjglnghaaDoor

/- Left, on the document's side. -/
set_option linter.unusedSimpArgs false
set_option linter.unusedVariables false
set_option maxRecDepth 100000
namespace Go.Proofs.YteomefhjglnghaaDoor
open Go.RowKit Go.Deep Go.PlainAid

theorem SPL.cellsO {w : World} {a : Option Addr} {l : List (Nat × Nat)} (h : SPL w a l) : ∀ ad, a = some ad → ∀ j u, (flat l)[j]? = some u → w.cell? (ad.add j) = some u := fun ad e j u hj => by
  obtain ⟨b, o, e2, hc⟩ := h j u hj
  rw [e2] at e
  cases e
  unfold Addr.add
  by_cases h0 : j = 0
  · subst h0; simpa using hc
  · simpa [h0] using hc
theorem SL.cellsO {w : World} {a : Option Addr} {l : List ByteArray} (h : SL w a l) : ∀ ad, a = some ad → ∀ j u, (l.map Value.string)[j]? = some u → w.cell? (ad.add j) = some u := fun ad e => by
  subst e
  exact SL.cellsA h
theorem SL.none0 {w : World} {l : List ByteArray} (h : SL w none l) : l.length = 0 := by
  cases l with
  | nil => rfl
  | cons s l => obtain ⟨b, o, e, _⟩ := h 0 (by simp); cases e
theorem own_noneT {w : World} {base n c : Nat} {t : TypeId} {s : Nat} {a : Option Addr} {xs : List Value} (h : w.ownsRow base t s (.slice a n c) n xs) : a = none → c = 0 := by
  rintro rfl
  obtain ⟨_, ⟨e, _⟩ | ⟨g, cap, cur, e, _⟩⟩ := h
  · cases e; rfl
  · cases e
theorem none_own9 {w : World} {base : Nat} (hb : base ≤ w.heap.size) : (w.alloc (.cells #[] 9)).ownsRow base 9 1 (.slice (some ⟨w.heap.size, 0, none⟩) 0 0) 0 [] :=
  ⟨rfl, Or.inr ⟨w.heap.size, 0, #[], rfl, hb, IHolds.new w 9 [], Nat.le_refl _, by unfold maxLen; omega, rfl, rfl⟩⟩
theorem str_one (l : List ByteArray) : ∀ u ∈ l.map Value.string, u.oneCell' = true := fun u hu => by
  obtain ⟨s, _, rfl⟩ := List.mem_map.1 hu
  rfl
/-- The first pair put together: what stays. -/
theorem step_red {l : List P3} {z i : Nat} (hi : i + 1 < l.length) (hh : half l[i] l[i + 1] = true) (hp : ∀ j (hj : j < i), half l[j] l[j + 1] = false) (hA : Al 0 z l) (h32 : ∀ p ∈ l, p.2.size = 32) :
    joinedL (l.take i ++ join2 l[i] l[i + 1] :: l.drop (i + 2)) = joinedL l ∧ Al 0 z (l.take i ++ join2 l[i] l[i + 1] :: l.drop (i + 2)) ∧ (∀ p ∈ l.take i ++ join2 l[i] l[i + 1] :: l.drop (i + 2), p.2.size = 32) ∧ (l.take i ++ join2 l[i] l[i + 1] :: l.drop (i + 2)).length + 1 = l.length := by
  have e : l = l.take i ++ l[i] :: l[i + 1] :: l.drop (i + 2) := by
    rw [show l[i + 1] :: l.drop (i + 2) = l.drop (i + 1) from (List.drop_eq_getElem_cons hi).symm, show l[i] :: l.drop (i + 1) = l.drop i from (List.drop_eq_getElem_cons (by omega)).symm, List.take_append_drop]
  have hn : NoPair (l.take i ++ [l[i]]) := by
    rw [show l.take i ++ [l[i]] = l.take (i + 1) from (List.take_succ_eq_append_getElem (by omega)).symm]
    intro j hj
    have hj' : j < i := by rw [List.length_take] at hj; omega
    rw [List.getElem_take, List.getElem_take]
    exact hp j hj'
  refine ⟨?_, ?_, ?_, ?_⟩
  · rw [joined_red _ _ _ _ hn hh, ← e]
  · exact Al.join (by rw [← e]; exact hA) hh
  · intro p hp
    rcases List.mem_append.1 hp with hp | hp
    · exact h32 p (List.mem_of_mem_take hp)
    · rcases List.mem_cons.1 hp with rfl | hp
      · exact tgF_size _ _
      · exact h32 p (List.mem_of_mem_drop hp)
  · simp only [List.length_append, List.length_take, List.length_cons, List.length_drop]
    omega
theorem al_each {l : List P3} {z : Nat} (hA : Al 0 z l) (hz : z ≤ 1048576) : ∀ j (h : j + 1 < l.length), l[j].1.1 < l[j].1.2 ∧ l[j].1.2 ≤ 1048576 ∧ l[j + 1].1.1 < l[j + 1].1.2 ∧ l[j + 1].1.2 ≤ 1048576 := fun j h => by
  have e : l = l.take j ++ l[j] :: l[j + 1] :: l.drop (j + 2) := by
    rw [show l[j + 1] :: l.drop (j + 2) = l.drop (j + 1) from (List.drop_eq_getElem_cons h).symm, show l[j] :: l.drop (j + 1) = l.drop j from (List.drop_eq_getElem_cons (by omega)).symm, List.take_append_drop]
  obtain ⟨⟨ka, h1, _⟩, ⟨kb, h2⟩, h3, h4⟩ := Al.two (p := l.take j) (r := l.drop (j + 2)) (a := l[j]) (b := l[j + 1]) (by rw [← e]; exact hA)
  have := Nat.two_pow_pos ka
  have := Nat.two_pow_pos kb
  omega
/-- What Parts answers, as a row of its own. -/
def RO (x y : Int) (L : List (Nat × Nat)) : Prop := ∀ V : World, Calls Tryd.prog 21 #[.int .i64 x, .int .i64 y] V fun e w' => (∃ v, e = .returned v ∧ w'.ownsRow V.heap.size 37 2 v L.length (flat L)) ∧ Below V.heap.size V w'
/-- What Parts answers, to be read. -/
def RS (x y : Int) (L : List (Nat × Nat)) : Prop := ∀ V : World, Calls Tryd.prog 21 #[.int .i64 x, .int .i64 y] V fun e w' => (∃ a c, e = .returned (.slice a L.length c) ∧ SPL w' a L ∧ (a = none → L.length = 0 ∧ c = 0)) ∧ Below V.heap.size V w'
theorem ro_cover {x y : Nat} (h1 : x ≤ y) (h2 : y ≤ 1048576) : RO x y (cover x y) := fun V => (parts16o 1048576 x y (by omega) h1 h2 V).mono fun e w' ⟨⟨v, he, ho, _⟩, hb⟩ => ⟨⟨v, he, ho⟩, hb⟩
theorem rs_cover {x y : Nat} (h1 : x ≤ y) (h2 : y ≤ 1048576) : RS x y (cover x y) := fun V => (parts16 1048576 x y (by omega) h1 h2 V).mono fun e w' ⟨⟨a, c, he, hs, hn⟩, hb⟩ => ⟨⟨a, c, he, hs, fun q => by
  subst q
  have e0 : cov 1048576 x y = [] := by
    cases hL : cov 1048576 x y with
    | nil => rfl
    | cons p L =>
      rw [hL] at hs
      obtain ⟨b, o, e, _⟩ := hs.two 0 (by simp)
      cases e
  exact ⟨by unfold cover; rw [e0]; rfl, (hn e0).2⟩⟩, hb⟩
theorem row_apart {w w' : World} {base e e' s s' n n' : Nat} {v v' : Value} {xs xs' : List Value} (h : w.ownsRow base e s v n xs) (h' : w.ownsRow base e' s' v' n' xs') (hne : e ≠ e') (hg : w.grownBy w' v'.ownBlock) : w'.ownsRow base e s v n xs := by
  refine row_same h (fun k hk => ?_)
  obtain ⟨_, ⟨rfl, _⟩ | ⟨g, cap, cur, rfl, _, hb, _⟩⟩ := h
  · simp [Value.ownBlock] at hk
  · have e1 : g = k := by simpa [Value.ownBlock] using hk
    subst e1
    refine hg.block g (Array.getElem?_eq_some_iff.1 hb).1 (fun q => ?_)
    obtain ⟨_, ⟨rfl, _⟩ | ⟨g', cap', cur', rfl, _, hb', _⟩⟩ := h'
    · simp [Value.ownBlock] at q
    · have e2 : g = g' := by simpa [Value.ownBlock, eq_comm] using q
      subst e2
      rw [hb] at hb'
      cases hb'
      exact hne rfl
end Go.Proofs.YteomefhjglnghaaDoor

/- Left, on the document's side, where nothing is wrong. -/
set_option linter.unusedSimpArgs false
set_option linter.unusedVariables false
set_option maxRecDepth 100000
namespace Go.Proofs.YteomefhjglnghaaDoor
open Go.RowKit Go.Deep Go.PlainAid

theorem spl_form {w : World} {base n : Nat} {v : Value} {l : List (Nat × Nat)} (hn : l.length = n) (h : w.ownsRow base 37 2 v n (flat l)) : ∃ a c, v = .slice a n c ∧ SPL w a l := by
  subst hn
  exact own_spl h
/-- What pair answers. -/
def PR (l : List P3) (r : Int) : Prop := (r = -1 ∧ NoPair l) ∨ ∃ (i : Nat) (hi : i + 1 < l.length), r = (i : Int) ∧ half l[i] l[i + 1] = true ∧ ∀ j (hj : j < i), half l[j] l[j + 1] = false
theorem zip_take3 {L : List (Nat × Nat)} {ds : List ByteArray} {i : Nat} (h1 : i < L.length) (h2 : i < ds.length) : flat3 ((L.zip ds).take (i + 1)) = flat3 ((L.zip ds).take i) ++ [.int .i64 (L[i].1 : Int), .int .i64 (L[i].2 : Int), .string ds[i]] := by
  have h : i < (L.zip ds).length := by rw [List.length_zip]; omega
  rw [List.take_succ_eq_append_getElem h, flat3_append, List.getElem_zip]
  rfl
theorem flat3_join (p : List P3) (a b : P3) (r : List P3) : flat3 (p ++ join2 a b :: r) = flat3 p ++ [.int .i64 (a.1.1 : Int), .int .i64 (b.1.2 : Int), .string (tgF lBlock [a.2, b.2])] ++ flat3 r := by
  rw [flat3_append, List.append_assoc]
  rfl
theorem step_ex {l : List P3} {z i : Nat} (hi : i + 1 < l.length) (hh : half l[i] l[i + 1] = true) (hp : ∀ j (hj : j < i), half l[j] l[j + 1] = false) (hA : Al 0 z l) (h32 : ∀ p ∈ l, p.2.size = 32) :
    ∃ l3 : List P3, joinedL l3 = joinedL l ∧ Al 0 z l3 ∧ (∀ p ∈ l3, p.2.size = 32) ∧ l3.length + 1 = l.length ∧ flat3 l3 = flat3 (l.take i) ++ [.int .i64 (l[i].1.1 : Int), .int .i64 (l[i + 1].1.2 : Int), .string (tgF lBlock [l[i].2, l[i + 1].2])] ++ flat3 (l.drop (i + 2)) :=
  let ⟨h1, h2, h3, h4⟩ := step_red hi hh hp hA h32
  ⟨_, h1, h2, h3, h4, flat3_join _ _ _ _⟩
theorem flat3_take_at {l : List P3} {i : Nat} : ∀ (j : Nat) (u : Value), (flat3 (l.take i))[j]? = some u → (flat3 l)[j]? = some u := fun j u hj => by
  have e : flat3 l = flat3 (l.take i) ++ flat3 (l.drop i) := by rw [← flat3_append, List.take_append_drop]
  rw [e, List.getElem?_append_left (List.getElem?_eq_some_iff.1 hj).1]
  exact hj
theorem flat3_drop_at {l : List P3} {i : Nat} (hi : i ≤ l.length) : ∀ (j : Nat) (u : Value), (flat3 (l.drop i))[j]? = some u → (flat3 l)[i * 3 + j]? = some u := fun j u hj => by
  have e : flat3 l = flat3 (l.take i) ++ flat3 (l.drop i) := by rw [← flat3_append, List.take_append_drop]
  have hl : (flat3 (l.take i)).length = i * 3 := by rw [flat3_len, List.length_take]; congr 1; omega
  rw [e, List.getElem?_append_right (by omega), hl, Nat.add_sub_cancel_left]
  exact hj
end Go.Proofs.YteomefhjglnghaaDoor
namespace Go.Proofs.YteomefhjglnghaaDoor
open Go.RowKit Go.Deep Go.PlainAid
/-- What a function answers of all that comes in. -/
def AnsM (f : Nat) (w0 : World) (args : Array Value) (tt : Bool) : Prop := ∀ V, Below w0.heap.size w0 V → Calls Tryd.prog f args V fun e V' => e = .returned (.bool tt) ∧ Below V.heap.size V V'
theorem all32_append (A B : List ByteArray) : all32 (A ++ B) = (all32 A && all32 B) := by
  unfold all32
  rw [List.all_append]
theorem ne_false {a b : Nat} (h : a = b) : (((a : Nat) : Int) != ((b : Nat) : Int)) = false := by rw [h]; simp [bne]
theorem ne_true {a b : Nat} (h : ¬ a = b) : (((a : Nat) : Int) != ((b : Nat) : Int)) = true := by simp [bne]; omega
end Go.Proofs.YteomefhjglnghaaDoor

/- A head binds: the plain part. -/
set_option linter.unusedSimpArgs false
set_option linter.unusedVariables false
set_option maxRecDepth 100000
namespace Go.Proofs.YteomefhjglnghaaDoor
open Go.RowKit Go.Deep Go.PlainAid

/-- What is hashed, and its digest. -/
def jnF (label : ByteArray) (ps : List ByteArray) : ByteArray := ⟨(F.partsL (label :: ps)).toArray⟩
def dgF (t : ByteArray) : ByteArray := ⟨(F.digL (F.hK 0) t.data.toList).toArray⟩
theorem tg_dg (l : ByteArray) (ps : List ByteArray) : tgF l ps = dgF (jnF l ps) := rfl
theorem np_prefix {l r : List P3} (h : NoPair (l ++ r)) : NoPair l := fun j hj => by
  have := h j (by simp; omega)
  rw [List.getElem_append_left (by omega), List.getElem_append_left (by omega)] at this
  exact this
theorem np_snoc {l : List P3} {b : P3} (h : NoPair l) (hb : ∀ a, l.getLast? = some a → half a b = false) : NoPair (l ++ [b]) := fun j hj => by
  by_cases hj2 : j + 1 < l.length
  · rw [List.getElem_append_left (by omega), List.getElem_append_left hj2]
    exact h j hj2
  · have hl : j + 1 = l.length := by simp at hj; omega
    rw [List.getElem_append_left (by omega)]
    have e1 : (l ++ [b])[j + 1] = b := by
      rw [List.getElem_append_right (by omega)]
      simp
    rw [e1]
    refine hb _ ?_
    rw [List.getLast?_eq_getElem?, show l.length - 1 = j by omega, List.getElem?_eq_getElem]
theorem push_np : ∀ (s : List P3) (b : P3), NoPair s.reverse → NoPair (push s b).reverse
  | [], b, _ => by
    intro j hj
    simp [push] at hj
  | a :: s, b, h => by
    rw [push]
    split
    · exact push_np s (join2 a b) (np_prefix (r := [a]) (by simpa using h))
    · rename_i hh
      rw [List.reverse_cons]
      refine np_snoc h (fun c hc => ?_)
      rw [List.getLast?_reverse] at hc
      simp at hc
      subst hc
      simpa using hh
theorem pushAll_np' : ∀ (l s : List P3), NoPair s.reverse → NoPair (pushAll s l).reverse
  | [], s, h => by simpa [pushAll] using h
  | b :: r, s, h => by
    rw [pushAll]
    exact pushAll_np' r (push s b) (push_np s b h)
theorem joined_noPair (l : List P3) : NoPair (joinedL l) := pushAll_np' l [] (fun j hj => by simp at hj)
theorem seg_seg {E : List ByteArray} {x n p m : Nat} (h : p + m ≤ n) : seg (seg E x n) p m = seg E (x + p) m := by
  unfold seg
  rw [List.drop_take, List.take_take, List.drop_drop, Nat.min_eq_left (by omega)]
theorem blk_two {E : List ByteArray} {x k : Nat} (hk : k + 1 ≤ 20) : blk tgF E (x, x + 2 ^ k + 2 ^ k) = tgF lBlock [blk tgF E (x, x + 2 ^ k), blk tgF E (x + 2 ^ k, x + 2 ^ k + 2 ^ k)] := by
  have e : x + 2 ^ k + 2 ^ k - x = 2 ^ (k + 1) := by rw [Nat.pow_succ]; omega
  have e1 : x + 2 ^ k - x = 2 ^ k := by omega
  have e2 : x + 2 ^ k + 2 ^ k - (x + 2 ^ k) = 2 ^ k := by omega
  unfold blk
  simp only [e, e1, e2]
  rw [lg_pow (k + 1) 20 hk, lg_pow k 20 (by omega), dgst, seg_seg (by rw [Nat.pow_succ]; omega), seg_seg (by rw [Nat.pow_succ]; omega), Nat.add_zero]
/-- What is hashed for the entries of a block. -/
def ownT : Nat → List ByteArray → List ByteArray
  | 0, l => [jnF lEntry l]
  | k + 1, l => ownT k (seg l 0 (2 ^ k)) ++ (ownT k (seg l (2 ^ k) (2 ^ k)) ++ [jnF lBlock [dgst tgF k (seg l 0 (2 ^ k)), dgst tgF k (seg l (2 ^ k) (2 ^ k))]])
def ownS (E : List ByteArray) (p : Nat × Nat) : List ByteArray := ownT (lg 20 (p.2 - p.1)) (seg E p.1 (p.2 - p.1))
theorem ownS_two {E : List ByteArray} {x k : Nat} (hk : k + 1 ≤ 20) : ownS E (x, x + 2 ^ k + 2 ^ k) = ownS E (x, x + 2 ^ k) ++ (ownS E (x + 2 ^ k, x + 2 ^ k + 2 ^ k) ++ [jnF lBlock [blk tgF E (x, x + 2 ^ k), blk tgF E (x + 2 ^ k, x + 2 ^ k + 2 ^ k)]]) := by
  have e : x + 2 ^ k + 2 ^ k - x = 2 ^ (k + 1) := by rw [Nat.pow_succ]; omega
  have e1 : x + 2 ^ k - x = 2 ^ k := by omega
  have e2 : x + 2 ^ k + 2 ^ k - (x + 2 ^ k) = 2 ^ k := by omega
  unfold ownS blk
  simp only [e, e1, e2]
  rw [lg_pow (k + 1) 20 hk, lg_pow k 20 (by omega), ownT, seg_seg (by rw [Nat.pow_succ]; omega), seg_seg (by rw [Nat.pow_succ]; omega), Nat.add_zero]
theorem parts_inj : ∀ (ps qs : List ByteArray), ps.length = qs.length → (∀ p ∈ ps, p.size = 32) → (∀ q ∈ qs, q.size = 32) → F.partsL ps = F.partsL qs → ps = qs
  | [], [], _, _, _, _ => rfl
  | [], q :: qs, h, _, _, _ => by simp at h
  | p :: ps, [], h, _, _, _ => by simp at h
  | p :: ps, q :: qs, hl, hp, hq, h => by
    have h1 : p.size = 32 := hp p (by simp)
    have h2 : q.size = 32 := hq q (by simp)
    rw [F.partsL_cons, F.partsL_cons, h1, h2, List.append_assoc, List.append_assoc] at h
    obtain ⟨g1, g2⟩ := List.append_inj (List.append_cancel_left h) (show p.data.toList.length = q.data.toList.length from h1.trans h2.symm)
    have e : p = q := by
      cases p; cases q
      simpa using g1
    rw [e, parts_inj ps qs (by simpa using hl) (fun x hx => hp x (by simp [hx])) (fun x hx => hq x (by simp [hx])) g2]
theorem jn_parts {label : ByteArray} {ps qs : List ByteArray} (h : jnF label ps = jnF label qs) : F.partsL ps = F.partsL qs := by
  unfold jnF at h
  have h1 : F.partsL (label :: ps) = F.partsL (label :: qs) := by simpa using h
  rw [F.partsL_cons, F.partsL_cons] at h1
  exact List.append_cancel_left h1
theorem jn_two {label a b c d : ByteArray} (ha : a.size = 32) (hb : b.size = 32) (hc : c.size = 32) (hd : d.size = 32) (h : jnF label [a, b] = jnF label [c, d]) : a = c ∧ b = d := by
  have := parts_inj [a, b] [c, d] rfl (by simp [ha, hb]) (by simp [hc, hd]) (jn_parts h)
  simpa using this
theorem jn_head {label f : ByteArray} {ps qs : List ByteArray} (hl : ps.length = qs.length) (hp : ∀ p ∈ ps, p.size = 32) (hq : ∀ q ∈ qs, q.size = 32) (h : jnF label (f :: ps) = jnF label (f :: qs)) : ps = qs := by
  have h1 := jn_parts h
  rw [F.partsL_cons, F.partsL_cons] at h1
  exact parts_inj ps qs hl hp hq (List.append_cancel_left h1)
/-- No two texts of a list have one digest. -/
def NC (T : List ByteArray) : Prop := ∀ u ∈ T, ∀ v ∈ T, dgF u = dgF v → u = v
def OKx (T E : List ByteArray) (x : P3) : Prop := x.2 = blk tgF E x.1 ∧ ∀ t ∈ ownS E x.1, t ∈ T
theorem blk_size (E : List ByteArray) (p : Nat × Nat) : (blk tgF E p).size = 32 := dgst_size tgF_size _ _
theorem half_span {p r : List P3} {a b : P3} {z : Nat} (hA : Al 0 z (p ++ a :: b :: r)) (hz : z ≤ 1048576) (hh : half a b = true) : ∃ x k, k + 1 ≤ 20 ∧ a.1 = (x, x + 2 ^ k) ∧ b.1 = (x + 2 ^ k, x + 2 ^ k + 2 ^ k) := by
  obtain ⟨⟨k, h1, _⟩, ⟨j, h2⟩, h3, h4⟩ := Al.two hA
  unfold half at hh
  simp only [Bool.and_eq_true, decide_eq_true_eq] at hh
  refine ⟨a.1.1, k, ?_, Prod.ext rfl h1, Prod.ext (by show b.1.1 = _; omega) (by show b.1.2 = _; omega)⟩
  rcases Nat.lt_or_ge k 20 with q | q
  · omega
  · exfalso
    have : 2 ^ 20 ≤ 2 ^ k := Nat.pow_le_pow_right (by omega) q
    omega
theorem back_step {T E : List ByteArray} {p r : List P3} {a b : P3} {z : Nat} (hA : Al 0 z (p ++ a :: b :: r)) (hz : z ≤ 1048576) (hh : half a b = true) (hnc : NC T) (ht : jnF lBlock [a.2, b.2] ∈ T) (ha : a.2.size = 32) (hb : b.2.size = 32)
    (hok : ∀ x ∈ p ++ join2 a b :: r, OKx T E x) : ∀ x ∈ p ++ a :: b :: r, OKx T E x := by
  obtain ⟨x, k, hk, e1, e2⟩ := half_span hA hz hh
  obtain ⟨j1, j2⟩ := hok (join2 a b) (by simp)
  have ej : (join2 a b).1 = (x, x + 2 ^ k + 2 ^ k) := by
    show (a.1.1, b.1.2) = _
    rw [e1, e2]
  rw [ej, blk_two hk, ← e1, ← e2] at j1
  rw [ej, ownS_two hk, ← e1, ← e2] at j2
  have j3 : tgF lBlock [a.2, b.2] = tgF lBlock [blk tgF E a.1, blk tgF E b.1] := j1
  rw [tg_dg, tg_dg] at j3
  obtain ⟨g1, g2⟩ := jn_two ha hb (blk_size E a.1) (blk_size E b.1) (hnc _ ht _ (j2 _ (by simp)) j3)
  have oa : OKx T E a := ⟨g1, fun t h => j2 t (by simp [h])⟩
  have ob : OKx T E b := ⟨g2, fun t h => j2 t (by simp [h])⟩
  intro y hy
  rcases List.mem_append.1 hy with hy | hy
  · exact hok y (by simp [hy])
  · rcases List.mem_cons.1 hy with rfl | hy
    · exact oa
    · rcases List.mem_cons.1 hy with rfl | hy
      · exact ob
      · exact hok y (by simp [hy])
/-- What is right of a later list was right of the first. -/
def Back (E : List ByteArray) (l0 l : List P3) (TL : List ByteArray) : Prop := ∀ T, (∀ t ∈ TL, t ∈ T) → NC T → (∀ x ∈ l, OKx T E x) → ∀ x ∈ l0, OKx T E x
theorem Back.more {E : List ByteArray} {l0 l : List P3} {TL TL' : List ByteArray} (h : Back E l0 l TL) (hs : ∀ t ∈ TL, t ∈ TL') : Back E l0 l TL' := fun T hT => h T (fun t ht => hT t (hs t ht))
theorem Back.step {E TL : List ByteArray} {l0 l : List P3} {z i : Nat} (hB : Back E l0 l TL) (hi : i + 1 < l.length) (hh : half l[i] l[i + 1] = true) (hA : Al 0 z l) (hz : z ≤ 1048576) (h32 : ∀ p ∈ l, p.2.size = 32) :
    Back E l0 (l.take i ++ join2 l[i] l[i + 1] :: l.drop (i + 2)) (TL ++ [jnF lBlock [l[i].2, l[i + 1].2]]) := fun T hT hnc hok => by
  have e : l = l.take i ++ l[i] :: l[i + 1] :: l.drop (i + 2) := by
    rw [show l[i + 1] :: l.drop (i + 2) = l.drop (i + 1) from (List.drop_eq_getElem_cons hi).symm, show l[i] :: l.drop (i + 1) = l.drop i from (List.drop_eq_getElem_cons (by omega)).symm, List.take_append_drop]
  refine hB T (fun t ht => hT t (by simp [ht])) hnc ?_
  rw [e]
  exact back_step (by rw [← e]; exact hA) hz hh hnc (hT _ (by simp)) (h32 _ (List.getElem_mem _)) (h32 _ (List.getElem_mem _)) hok
theorem push_blk {E : List ByteArray} {z : Nat} (hz : z ≤ 1048576) : ∀ (s : List P3) (b : P3) (r : List P3), Al 0 z (s.reverse ++ b :: r) → (∀ x ∈ s, x.2 = blk tgF E x.1) → b.2 = blk tgF E b.1 → ∀ x ∈ push s b, x.2 = blk tgF E x.1
  | [], b, r, h, hs, hb => fun x hx => by
    rw [push] at hx
    simp at hx
    subst hx
    exact hb
  | a :: s, b, r, h, hs, hb => fun x hx => by
    rw [push] at hx
    have h' : Al 0 z (s.reverse ++ a :: b :: r) := by
      rw [List.reverse_cons, List.append_assoc, List.singleton_append] at h
      exact h
    split at hx
    · rename_i hh
      obtain ⟨y, k, hk, e1, e2⟩ := half_span h' hz hh
      refine push_blk hz s (join2 a b) r (h'.join hh) (fun x hx => hs x (by simp [hx])) ?_ x hx
      have ej : (join2 a b).1 = (y, y + 2 ^ k + 2 ^ k) := by
        show (a.1.1, b.1.2) = _
        rw [e1, e2]
      rw [ej, blk_two hk, ← e1, ← e2, ← hs a (by simp), ← hb]
      rfl
    · rcases List.mem_cons.1 hx with rfl | hx
      · exact hb
      · exact hs x hx
theorem pushAll_blk {E : List ByteArray} {z : Nat} (hz : z ≤ 1048576) : ∀ (l s : List P3), Al 0 z (s.reverse ++ l) → (∀ x ∈ s, x.2 = blk tgF E x.1) → (∀ x ∈ l, x.2 = blk tgF E x.1) → ∀ x ∈ pushAll s l, x.2 = blk tgF E x.1
  | [], s, h, hs, hl => by simpa [pushAll] using hs
  | b :: r, s, h, hs, hl => by
    rw [pushAll]
    exact pushAll_blk hz r (push s b) (al_push s b r h) (push_blk hz s b r h hs (hl b (by simp))) (fun x hx => hl x (by simp [hx]))
theorem zip_map_blk {E : List ByteArray} : ∀ (L : List (Nat × Nat)), ∀ x ∈ L.zip (L.map (blk tgF E)), x.2 = blk tgF E x.1
  | [], x, h => by simp at h
  | p :: L, x, h => by
    simp only [List.map_cons, List.zip_cons_cons, List.mem_cons] at h
    rcases h with rfl | h
    · rfl
    · exact zip_map_blk L x h
theorem all32_blk (E : List ByteArray) (L : List (Nat × Nat)) : all32 (L.map (blk tgF E)) = true := by
  unfold all32
  rw [List.all_eq_true]
  intro d hd
  obtain ⟨p, _, rfl⟩ := List.mem_map.1 hd
  simpa using blk_size E p
/-- The blocks of some entries meet their head. -/
theorem own_good (E : List ByteArray) (z lo hi : Nat) : Good z lo hi ((cover 0 lo).map (blk tgF E)) ((cover lo hi).map (blk tgF E)) ((cover hi z).map (blk tgF E)) :=
  ⟨⟨by simp, all32_blk E _⟩, ⟨by simp, all32_blk E _⟩, ⟨by simp, all32_blk E _⟩⟩
theorem own_meets {E : List ByteArray} {z lo hi : Nat} (h1 : lo ≤ hi) (h2 : hi ≤ z) (hz : z ≤ 1048576) : hdOf z (lay3 z lo hi ((cover 0 lo).map (blk tgF E)) ((cover lo hi).map (blk tgF E)) ((cover hi z).map (blk tgF E))) = tgF lHead (fourT z :: (cover 0 z).map (blk tgF E)) := by
  have hA := lay3_al h1 h2 hz (own_good E z lo hi)
  unfold hdOf
  have hb : ∀ x ∈ joinedL (lay3 z lo hi ((cover 0 lo).map (blk tgF E)) ((cover lo hi).map (blk tgF E)) ((cover hi z).map (blk tgF E))), x.2 = blk tgF E x.1 := fun x hx => by
    unfold joinedL at hx
    refine pushAll_blk hz (lay3 z lo hi ((cover 0 lo).map (blk tgF E)) ((cover lo hi).map (blk tgF E)) ((cover hi z).map (blk tgF E))) [] hA (fun y hy => by simp at hy) (fun y hy => ?_) x (List.mem_reverse.1 hx)
    unfold lay3 at hy
    rcases List.mem_append.1 hy with hy | hy
    · rcases List.mem_append.1 hy with hy | hy
      · exact zip_map_blk _ y hy
      · exact zip_map_blk _ y hy
    · exact zip_map_blk _ y hy
  rw [← al_cover (joined_al hA) hz (joined_noPair _), List.map_map, show List.map Prod.snd (joinedL (lay3 z lo hi ((cover 0 lo).map (blk tgF E)) ((cover lo hi).map (blk tgF E)) ((cover hi z).map (blk tgF E)))) = List.map (blk tgF E ∘ Prod.fst) (joinedL (lay3 z lo hi ((cover 0 lo).map (blk tgF E)) ((cover lo hi).map (blk tgF E)) ((cover hi z).map (blk tgF E)))) from List.map_congr_left hb]
theorem zip_blk : ∀ {L : List (Nat × Nat)} {ds : List ByteArray} {E : List ByteArray}, ds.length = L.length → (∀ x ∈ L.zip ds, x.2 = blk tgF E x.1) → L.map (blk tgF E) = ds
  | [], [], E, _, _ => rfl
  | p :: L, d :: ds, E, hl, h => by
    rw [List.map_cons, zip_blk (by simpa using hl) (fun x hx => h x (by simp [hx])), ← h (p, d) (by simp)]
  | [], d :: ds, E, hl, _ => by simp at hl
  | p :: L, [], E, hl, _ => by simp at hl
/-- A HEAD BINDS, where no two of the texts that were hashed have one digest. -/
theorem binds_plain {E A B C T : List ByteArray} {z lo hi : Nat} (h1 : lo ≤ hi) (h2 : hi ≤ z) (hz : z ≤ 1048576) (hg : Good z lo hi A B C) (hnc : NC T)
    (hown : ∀ p ∈ cover 0 z, ∀ t ∈ ownS E p, t ∈ T) (hT1 : jnF lHead (fourT z :: (cover 0 z).map (blk tgF E)) ∈ T) (hT2 : jnF lHead (fourT z :: (joinedL (lay3 z lo hi A B C)).map Prod.snd) ∈ T)
    (hback : ∀ T', (∀ t ∈ T, t ∈ T') → NC T' → (∀ x ∈ joinedL (lay3 z lo hi A B C), OKx T' E x) → ∀ x ∈ lay3 z lo hi A B C, OKx T' E x)
    (heq : tgF lHead (fourT z :: (cover 0 z).map (blk tgF E)) = hdOf z (lay3 z lo hi A B C)) :
    (cover 0 lo).map (blk tgF E) = A ∧ (cover lo hi).map (blk tgF E) = B ∧ (cover hi z).map (blk tgF E) = C := by
  have hA := lay3_al h1 h2 hz hg
  have h32 := lay3_32 hg
  have hcv := al_cover (joined_al hA) hz (joined_noPair _)
  unfold hdOf at heq
  rw [tg_dg, tg_dg] at heq
  have hd := jn_head (by rw [← hcv]; simp) (fun p hp => by obtain ⟨q, _, rfl⟩ := List.mem_map.1 hp; exact blk_size E q) (fun p hp => by obtain ⟨q, hq, rfl⟩ := List.mem_map.1 hp; exact joined_32 h32 q hq) (hnc _ hT1 _ hT2 heq)
  rw [← hcv, List.map_map] at hd
  have hok : ∀ x ∈ joinedL (lay3 z lo hi A B C), OKx T E x := fun x hx => by
    obtain ⟨i, hi, rfl⟩ := List.getElem_of_mem hx
    constructor
    · have := congrArg (fun l => l[i]?) hd
      simp only [List.getElem?_map, List.getElem?_eq_getElem hi, Option.map_some, Option.some.injEq, Function.comp] at this
      exact this.symm
    · exact hown _ (by rw [← hcv]; exact List.mem_map_of_mem hx)
  have hall := hback T (fun t h => h) hnc hok
  obtain ⟨⟨a1, _⟩, ⟨b1, _⟩, ⟨c1, _⟩⟩ := hg
  unfold lay3 at hall
  exact ⟨zip_blk a1 (fun x hx => (hall x (by simp [hx])).1), zip_blk b1 (fun x hx => (hall x (by simp [hx])).1), zip_blk c1 (fun x hx => (hall x (by simp [hx])).1)⟩
end Go.Proofs.YteomefhjglnghaaDoor

