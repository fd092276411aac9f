/- How the document's Gates stands. -/
import Derived.Test.YtelfcapjegncfaaFa
set_option linter.unusedSimpArgs false
set_option linter.unusedVariables false
set_option maxRecDepth 100000
namespace Go.Proofs.Ytelfcapjegncfaa
open Go.RowKit Go.Deep Go.PlainAid

section
variable {P : Program}
theorem run_append_opt (w : World) (base : Nat) (t ty e : TypeId) (i : TypeInfo) (z : Value) (size bytes : Nat) (ht : P.underlying t = some (.slice e)) (hi : P.info? e = some i) (hz : i.zero = some z)
    (hsize : i.size = size) (hby : i.bytes = bytes) (hzs : z.cells.size = size) (hsz : 0 < size)
    (v : Value) (n : Nat) (xs : List Value) (hown : w.ownsRow base e size v n xs)
    (a : Option Addr) (m c : Nat) (news : List Value) (hl : news.length = m * size) (hnn : a = none → m = 0 ∧ c = 0) (hnews : ∀ ad, a = some ad → ∀ j u, news[j]? = some u → w.cell? (ad.add j) = some u) (h1 : ∀ u ∈ news, u.oneCell' = true)
    (h63 : n + m ≤ maxLen) (hbytes : (n + m) * bytes ≤ 140737488355328) (hbase : base ≤ w.heap.size) :
    ∃ v' w', (Builtin.append_ #[t, t] ty #[v, .slice a m c]).run P w = .ok v' w' ∧ w'.ownsRow base e size v' (n + m) (xs ++ news) ∧ w.grownBy w' v.ownBlock ∧
      (v' = .slice none 0 0 ↔ v = .slice none 0 0 ∧ m = 0) := by
  cases a with
  | some ad => exact run_append_own w base t ty e i z size bytes ht hi hz hsize hby hzs hsz v n xs hown ad m c news hl (hnews ad rfl) h1 h63 hbytes hbase
  | none =>
    obtain ⟨rfl, rfl⟩ := hnn rfl
    have hn : news = [] := List.eq_nil_of_length_eq_zero (by simpa using hl)
    subst hn
    rw [Nat.add_zero, List.append_nil]
    refine ⟨v, w, ?_, hown, ⟨rfl, rfl, rfl, Nat.le_refl _, fun _ _ _ => rfl⟩, by simp⟩
    obtain ⟨rfl, rfl⟩ | ⟨g, cap, cur, rfl, hbg, hg, hnc, hcm, hcs, htake⟩ := hown.2
    · simp [Builtin.append_, run_underlying ht, sizeOf, typeInfo, hi, Builtin.lenOf, Builtin.firstCells, loadCells, loadCellsFrom]
    · simp [Builtin.append_, run_underlying ht, sizeOf, typeInfo, hi, Builtin.lenOf, Builtin.firstCells, loadCells, loadCellsFrom, hnc]
      rfl
theorem wpList_append_opt {w : World} {ops : Array Oper} {rest : List Oper} {o : Oper} {a : Act} {Q : Exit → Act → World → Prop} (hgd : o.guard = none) (s x : Operand) (t : TypeId)
    (ho : o.op = .call { callee := .builtin .append, args := #[s, x], argTypes := #[t, t] })
    (base : Nat) (e : TypeId) (i : TypeInfo) (z : Value) (size bytes : Nat) (ht : P.underlying t = some (.slice e)) (hi : P.info? e = some i) (hz : i.zero = some z)
    (hsize : i.size = size) (hby : i.bytes = bytes) (hzs : z.cells.size = size) (hsz : 0 < size)
    (v : Value) (n : Nat) (xs : List Value) (hs : a.eval s = v) (hown : w.ownsRow base e size v n xs)
    (ad : Option Addr) (m c : Nat) (news : List Value) (hx : a.eval x = .slice ad m c) (hl : news.length = m * size) (hnn : ad = none → m = 0 ∧ c = 0) (hnews : ∀ ad', ad = some ad' → ∀ j u, news[j]? = some u → w.cell? (ad'.add j) = some u) (h1 : ∀ u ∈ news, u.oneCell' = true)
    (h63 : n + m ≤ maxLen) (hbytes : (n + m) * bytes ≤ 140737488355328) (hbase : base ≤ w.heap.size)
    (h : ∀ v' w', w'.ownsRow base e size v' (n + m) (xs ++ news) → w.grownBy w' v.ownBlock → (v' = .slice none 0 0 ↔ v = .slice none 0 0 ∧ m = 0) → wpList P ops Q rest (a.put o.dst v') w') : wpList P ops Q (o :: rest) a w :=
  wpList_plain hgd fun _ hK => by
    obtain ⟨v', w', hr, h2, h3, h4⟩ := run_append_opt (P := P) w base t o.type e i z size bytes ht hi hz hsize hby hzs hsz v n xs hown ad m c news hl hnn hnews h1 h63 hbytes hbase
    unfold Oper.wp execOp
    simp only [ho, resolve, invoke, builtin, Sem.run_bind, Sem.run_pure, Result.andThen_ok, List.map_toArray, List.map_cons, List.map_nil, hs, hx, hr]
    exact hK _ _ (h v' w' h2 h3 h4)
end

/-- Two rows are not one. -/
def Dj (v u : Value) : Prop := ∀ g, v.ownBlock = some g → u.ownBlock ≠ some g
theorem Dj.symm {v u : Value} (h : Dj v u) : Dj u v := fun g h1 h2 => h g h2 h1
theorem Dj.or {v u : Value} (h : Dj v u) : v.ownBlock = none ∨ v.ownBlock ≠ u.ownBlock := by
  cases q : v.ownBlock with
  | none => exact .inl rfl
  | some y => exact .inr (fun e => h y q e.symm)
theorem Dj.new {w : World} {v u : Value} {g n c b e k m : Nat} {xs : List Value} (h : Dj v u) (hat : v.ownBlock = some g ∨ g = w.heap.size) (hu : w.ownsRow b e k u m xs) : Dj (.slice (some ⟨g, 0, none⟩) n c) u := fun y hy q => by
  simp only [Value.ownBlock, Option.some.injEq] at hy
  subst hy
  rcases hat with e | e
  · exact h _ e q
  · have := (hu.lt _ q).2
    omega
theorem Dj.nil (u : Value) : Dj (.slice none 0 0) u := fun g h => by cases h
/-- How the document's Gates stands. -/
structure RS (w wr : World) (n5 : Nat) (X5 : List Value) (n6 : Nat) (X6 : List Value) (n7 : Nat) (X7 : List Value) (v5 v6 v7 : Value) : Prop where
  r5 : wr.ownsRow w.heap.size 3 1 v5 n5 X5
  r6 : wr.ownsRow w.heap.size 3 1 v6 n6 X6
  r7 : wr.ownsRow w.heap.size 3 1 v7 n7 X7
  d56 : Dj v5 v6
  d57 : Dj v5 v7
  d67 : Dj v6 v7
  bl : Below w.heap.size w wr
section
variable {w wr : World} {n5 n6 n7 : Nat} {X5 X6 X7 : List Value} {v5 v6 v7 : Value}
theorem RS.alloc (h : RS w wr n5 X5 n6 X6 n7 X7 v5 v6 v7) (o : Obj) : RS w (wr.alloc o) n5 X5 n6 X6 n7 X7 v5 v6 v7 := ⟨h.r5.alloc o, h.r6.alloc o, h.r7.alloc o, h.d56, h.d57, h.d67, h.bl.alloc h.bl.size o⟩

theorem RS.app5 (h : RS w wr n5 X5 n6 X6 n7 X7 v5 v6 v7) {w8 : World} {g n cap : Nat} {X' : List Value} (ho : w8.ownsRow w.heap.size 3 1 (.slice (some ⟨g, 0, none⟩) n cap) n X') (hg : wr.grownBy w8 v5.ownBlock) (hat : v5.ownBlock = some g ∨ g = wr.heap.size) :
    RS w w8 n X' n6 X6 n7 X7 (.slice (some ⟨g, 0, none⟩) n cap) v6 v7 :=
  ⟨ho, h.r6.kept hg (Dj.or h.d56.symm), h.r7.kept hg (Dj.or h.d57.symm), Dj.new h.d56 hat h.r6, Dj.new h.d57 hat h.r7, h.d67, h.bl.grown hg h.bl.size (fun k hk => (h.r5.lt k hk).1)⟩

theorem RS.app6 (h : RS w wr n5 X5 n6 X6 n7 X7 v5 v6 v7) {w8 : World} {g n cap : Nat} {X' : List Value} (ho : w8.ownsRow w.heap.size 3 1 (.slice (some ⟨g, 0, none⟩) n cap) n X') (hg : wr.grownBy w8 v6.ownBlock) (hat : v6.ownBlock = some g ∨ g = wr.heap.size) :
    RS w w8 n5 X5 n X' n7 X7 v5 (.slice (some ⟨g, 0, none⟩) n cap) v7 :=
  ⟨h.r5.kept hg (Dj.or h.d56), ho, h.r7.kept hg (Dj.or h.d67.symm), (Dj.new h.d56.symm hat h.r5).symm, h.d57, Dj.new h.d67 hat h.r7, h.bl.grown hg h.bl.size (fun k hk => (h.r6.lt k hk).1)⟩

theorem RS.app7 (h : RS w wr n5 X5 n6 X6 n7 X7 v5 v6 v7) {w8 : World} {g n cap : Nat} {X' : List Value} (ho : w8.ownsRow w.heap.size 3 1 (.slice (some ⟨g, 0, none⟩) n cap) n X') (hg : wr.grownBy w8 v7.ownBlock) (hat : v7.ownBlock = some g ∨ g = wr.heap.size) :
    RS w w8 n5 X5 n6 X6 n X' v5 v6 (.slice (some ⟨g, 0, none⟩) n cap) :=
  ⟨h.r5.kept hg (Dj.or h.d57), h.r6.kept hg (Dj.or h.d67), ho, h.d56, (Dj.new h.d57.symm hat h.r5).symm, (Dj.new h.d67.symm hat h.r6).symm, h.bl.grown hg h.bl.size (fun k hk => (h.r7.lt k hk).1)⟩

end
def upA (l : List Nat) (h i : Nat) : List Nat := evN l ((min i (2 * h) + 1) / 2)
def loA (l : List Nat) (h i : Nat) : List Nat := odN l (min i (2 * h) / 2) ++ (if 2 * h < i then [l.getD (2 * h) 0] else [])
theorem up_even {l : List Nat} {h i : Nat} (h1 : i < 2 * h) (h2 : i % 2 = 0) : upA l h (i + 1) = upA l h i ++ [l.getD i 0] ∧ loA l h (i + 1) = loA l h i := by
  constructor
  · unfold upA
    rw [show (min (i + 1) (2 * h) + 1) / 2 = (min i (2 * h) + 1) / 2 + 1 by omega, evN_succ, show 2 * ((min i (2 * h) + 1) / 2) = i by omega]
  · unfold loA
    rw [show min (i + 1) (2 * h) / 2 = min i (2 * h) / 2 by omega, if_neg (by omega), if_neg (by omega)]
theorem up_odd {l : List Nat} {h i : Nat} (h1 : i < 2 * h) (h2 : i % 2 ≠ 0) : upA l h (i + 1) = upA l h i ∧ loA l h (i + 1) = loA l h i ++ [l.getD i 0] := by
  constructor
  · unfold upA
    rw [show (min (i + 1) (2 * h) + 1) / 2 = (min i (2 * h) + 1) / 2 by omega]
  · unfold loA
    rw [show min (i + 1) (2 * h) / 2 = min i (2 * h) / 2 + 1 by omega, if_neg (by omega), if_neg (by omega), odN_succ, show 2 * (min i (2 * h) / 2) + 1 = i by omega]
    simp
theorem up_last {l : List Nat} {h i : Nat} (h1 : i = 2 * h) : upA l h (i + 1) = upA l h i ∧ loA l h (i + 1) = loA l h i ++ [l.getD i 0] := by
  constructor
  · unfold upA
    rw [show (min (i + 1) (2 * h) + 1) / 2 = (min i (2 * h) + 1) / 2 by omega]
  · unfold loA
    rw [show min (i + 1) (2 * h) / 2 = min i (2 * h) / 2 by omega, if_pos (by omega), if_neg (by omega), h1]
    simp
theorem up_end (l : List Nat) : upA l (l.length / 2) l.length = ev l ∧ loA l (l.length / 2) l.length = od l := by
  constructor
  · unfold upA ev
    rw [show (min l.length (2 * (l.length / 2)) + 1) / 2 = l.length / 2 by omega]
  · unfold loA od
    rw [show min l.length (2 * (l.length / 2)) / 2 = l.length / 2 by omega]
    by_cases h : l.length % 2 = 1
    · rw [if_pos (by omega), if_pos h, show 2 * (l.length / 2) = l.length - 1 by omega]
    · rw [if_neg (by omega), if_neg h]
theorem upA_len (l : List Nat) (h i : Nat) : (upA l h i).length ≤ i + 1 := by
  unfold upA; rw [evN_len]; omega
theorem loA_len (l : List Nat) (h i : Nat) : (loA l h i).length ≤ i + 1 := by
  unfold loA; rw [List.length_append, odN_len]; split <;> simp <;> omega
end Go.Proofs.Ytelfcapjegncfaa
