/- tied. sameInts of one list twice. -/
import Derived.Test.YtflabehlaiocaaaDoorKa
import Derived.Test.YtflabehlaiocaaaDoorKc
import Derived.Deep.RegionHeld
import Derived.Deep.RegionHeld3
import Derived.Deep.CutBlock
set_option linter.unusedSimpArgs false
set_option linter.unusedVariables false
set_option maxRecDepth 100000
namespace Go.Proofs.YtflabehlaiocaaaDoor
open Go.RowKit Go.Deep Go.PlainAid

def rt7 : Code := Go.Code.region 7 #[{ dst := some 24, op := Go.Op.move (Go.Operand.tmp 0), type := 22, pos := "pair.go:48", after := #[], guard := none }, { dst := some 25, op := Go.Op.move (Go.Operand.tmp 8), type := 3, pos := "pair.go:48", after := #[], guard := none }, { dst := some 26, op := Go.Op.indexAddr 22 (Go.Operand.tmp 24) (Go.Operand.tmp 25), type := 0, pos := "pair.go:48", after := #[{ on := 0, ground := Go.Ground.data }, { on := 1, ground := Go.Ground.data }], guard := none }, { dst := some 27, op := Go.Op.load 3 (Go.Operand.tmp 26), type := 3, pos := "pair.go:48", after := #[{ on := 2, ground := Go.Ground.data }], guard := none }, { dst := some 28, op := Go.Op.move (Go.Operand.tmp 0), type := 22, pos := "pair.go:48", after := #[], guard := none }, { dst := some 29, op := Go.Op.move (Go.Operand.tmp 6), type := 3, pos := "pair.go:48", after := #[], guard := none }, { dst := some 30, op := Go.Op.indexAddr 22 (Go.Operand.tmp 28) (Go.Operand.tmp 29), type := 0, pos := "pair.go:48", after := #[{ on := 4, ground := Go.Ground.data }, { on := 5, ground := Go.Ground.data }], guard := none }, { dst := some 31, op := Go.Op.load 3 (Go.Operand.tmp 30), type := 3, pos := "pair.go:48", after := #[{ on := 6, ground := Go.Ground.data }], guard := none }, { dst := some 32, op := Go.Op.binOp Go.BinOp.leq 3 (Go.Operand.tmp 27) (Go.Operand.tmp 31) 3, type := 4, pos := "pair.go:48", after := #[{ on := 3, ground := Go.Ground.data }, { on := 7, ground := Go.Ground.data }], guard := none }] true
set_option maxHeartbeats 8000000 in
theorem rt7_yes {wr : World} {df : List Deferred} {tb to_ n tc i j : Nat} {x1 x2 : Int} {Q : Exit → Act → World → Prop} {t1 t2 t3 t4 t5 t7 t9 t10 t11 t12 t13 t14 t15 t16 t17 t18 t19 t20 t21 t22 t23 t24 t25 t26 t27 t28 t29 t30 t31 t32 t33 t34 : Value} (il : (i : Int) < (n : Int)) (jl : (j : Int) < (n : Int)) (p1 : wr.drew.cell? ⟨tb, to_ + i, none⟩ = some (.int .i64 x1)) (p2 : wr.drew.cell? ⟨tb, to_ + j, none⟩ = some (.int .i64 x2)) (e1 : x1 ≤ x2)
    (hQp : ∀ c a a' w, Q (.panic c) a w → Q (.panic c) a' w) (hQ : ∀ u24 u25 u26 u27 u28 u29 u30 u31, Q .normal ⟨#[.slice (some ⟨tb, to_, none⟩) n tc, t1, t2, t3, t4, t5, .int .i64 (j : Int), t7, .int .i64 (i : Int), t9, t10, t11, t12, t13, t14, t15, t16, t17, t18, t19, t20, t21, t22, t23, u24, u25, u26, u27, u28, u29, u30, u31, .bool true, t33, t34], df⟩ wr.drew) :
    rt7.wp Tryd.prog Q ⟨#[.slice (some ⟨tb, to_, none⟩) n tc, t1, t2, t3, t4, t5, .int .i64 (j : Int), t7, .int .i64 (i : Int), t9, t10, t11, t12, t13, t14, t15, t16, t17, t18, t19, t20, t21, t22, t23, t24, t25, t26, t27, t28, t29, t30, t31, t32, t33, t34], df⟩ wr := by
  have HP : Hid (∀ c a a' w, Q (.panic c) a w → Q (.panic c) a' w) := hQp
  have HQ : Hid (∀ u24 u25 u26 u27 u28 u29 u30 u31, Q .normal ⟨#[.slice (some ⟨tb, to_, none⟩) n tc, t1, t2, t3, t4, t5, .int .i64 (j : Int), t7, .int .i64 (i : Int), t9, t10, t11, t12, t13, t14, t15, t16, t17, t18, t19, t20, t21, t22, t23, u24, u25, u26, u27, u28, u29, u30, u31, .bool true, t33, t34], df⟩ wr.drew) := hQ
  clear hQ hQp
  unfold rt7
  refine wp_region_held_drew (S := fun V => V = wr.drew) (by kernel_rfl) rfl (fun hH0 => ?_)
  generalize wr.drew = X at *
  refine tk (i := 0) (v := .slice (some ⟨tb, to_, none⟩) n tc) rfl (by kernel_rfl) (fun _ _ _ h => HP.out _ _ _ _ h) (by kernel_rfl) ?_ hH0 ?_
  · intro V hS; subst hS; go_simp
  simp only [Act.put, y1, y2, y3, y4, y5, y6, y7]
  refine tk (i := 1) (v := .int .i64 (i : Int)) rfl (by kernel_rfl) (fun _ _ _ h => HP.out _ _ _ _ h) (by kernel_rfl) ?_ hH0 ?_
  · intro V hS; subst hS; go_simp
  simp only [Act.put, y1, y2, y3, y4, y5, y6, y7]
  refine tk (i := 2) (v := .pointer (some ⟨tb, to_ + i, none⟩)) rfl (by kernel_rfl) (fun _ _ _ h => HP.out _ _ _ _ h) (by kernel_rfl) ?_ hH0 ?_
  · intro V hS; subst hS; go_simp
  simp only [Act.put, y1, y2, y3, y4, y5, y6, y7]
  refine tk (i := 3) (v := .int .i64 x1) rfl (by kernel_rfl) (fun _ _ _ h => HP.out _ _ _ _ h) (by kernel_rfl) ?_ hH0 ?_
  · intro V hS; subst hS; go_simp
  simp only [Act.put, y1, y2, y3, y4, y5, y6, y7]
  refine tk (i := 4) (v := .slice (some ⟨tb, to_, none⟩) n tc) rfl (by kernel_rfl) (fun _ _ _ h => HP.out _ _ _ _ h) (by kernel_rfl) ?_ hH0 ?_
  · intro V hS; subst hS; go_simp
  simp only [Act.put, y1, y2, y3, y4, y5, y6, y7]
  refine tk (i := 5) (v := .int .i64 (j : Int)) rfl (by kernel_rfl) (fun _ _ _ h => HP.out _ _ _ _ h) (by kernel_rfl) ?_ hH0 ?_
  · intro V hS; subst hS; go_simp
  simp only [Act.put, y1, y2, y3, y4, y5, y6, y7]
  refine tk (i := 6) (v := .pointer (some ⟨tb, to_ + j, none⟩)) rfl (by kernel_rfl) (fun _ _ _ h => HP.out _ _ _ _ h) (by kernel_rfl) ?_ hH0 ?_
  · intro V hS; subst hS; go_simp
  simp only [Act.put, y1, y2, y3, y4, y5, y6, y7]
  refine tk (i := 7) (v := .int .i64 x2) rfl (by kernel_rfl) (fun _ _ _ h => HP.out _ _ _ _ h) (by kernel_rfl) ?_ hH0 ?_
  · intro V hS; subst hS; go_simp
  simp only [Act.put, y1, y2, y3, y4, y5, y6, y7]
  refine tk (i := 8) (v := .bool true) rfl (by kernel_rfl) (fun _ _ _ h => HP.out _ _ _ _ h) (by kernel_rfl) ?_ hH0 ?_
  · intro V hS; subst hS; go_simp
  simp only [Act.put, y1, y2, y3, y4, y5, y6, y7]
  refine wpAnyH_done (by kernel_rfl) ?_ _
  exact HQ.out _ _ _ _ _ _ _ _
set_option maxHeartbeats 8000000 in
theorem rt7_no {wr : World} {df : List Deferred} {tb to_ n tc i j : Nat} {x1 x2 : Int} {Q : Exit → Act → World → Prop} {t1 t2 t3 t4 t5 t7 t9 t10 t11 t12 t13 t14 t15 t16 t17 t18 t19 t20 t21 t22 t23 t24 t25 t26 t27 t28 t29 t30 t31 t32 t33 t34 : Value} (il : (i : Int) < (n : Int)) (jl : (j : Int) < (n : Int)) (p1 : wr.drew.cell? ⟨tb, to_ + i, none⟩ = some (.int .i64 x1)) (p2 : wr.drew.cell? ⟨tb, to_ + j, none⟩ = some (.int .i64 x2)) (e1 : ¬ x1 ≤ x2)
    (hQp : ∀ c a a' w, Q (.panic c) a w → Q (.panic c) a' w) (hQ : ∀ u24 u25 u26 u27 u28 u29 u30 u31, Q .normal ⟨#[.slice (some ⟨tb, to_, none⟩) n tc, t1, t2, t3, t4, t5, .int .i64 (j : Int), t7, .int .i64 (i : Int), t9, t10, t11, t12, t13, t14, t15, t16, t17, t18, t19, t20, t21, t22, t23, u24, u25, u26, u27, u28, u29, u30, u31, .bool false, t33, t34], df⟩ wr.drew) :
    rt7.wp Tryd.prog Q ⟨#[.slice (some ⟨tb, to_, none⟩) n tc, t1, t2, t3, t4, t5, .int .i64 (j : Int), t7, .int .i64 (i : Int), t9, t10, t11, t12, t13, t14, t15, t16, t17, t18, t19, t20, t21, t22, t23, t24, t25, t26, t27, t28, t29, t30, t31, t32, t33, t34], df⟩ wr := by
  have HP : Hid (∀ c a a' w, Q (.panic c) a w → Q (.panic c) a' w) := hQp
  have HQ : Hid (∀ u24 u25 u26 u27 u28 u29 u30 u31, Q .normal ⟨#[.slice (some ⟨tb, to_, none⟩) n tc, t1, t2, t3, t4, t5, .int .i64 (j : Int), t7, .int .i64 (i : Int), t9, t10, t11, t12, t13, t14, t15, t16, t17, t18, t19, t20, t21, t22, t23, u24, u25, u26, u27, u28, u29, u30, u31, .bool false, t33, t34], df⟩ wr.drew) := hQ
  clear hQ hQp
  unfold rt7
  refine wp_region_held_drew (S := fun V => V = wr.drew) (by kernel_rfl) rfl (fun hH0 => ?_)
  generalize wr.drew = X at *
  refine tk (i := 0) (v := .slice (some ⟨tb, to_, none⟩) n tc) rfl (by kernel_rfl) (fun _ _ _ h => HP.out _ _ _ _ h) (by kernel_rfl) ?_ hH0 ?_
  · intro V hS; subst hS; go_simp
  simp only [Act.put, y1, y2, y3, y4, y5, y6, y7]
  refine tk (i := 1) (v := .int .i64 (i : Int)) rfl (by kernel_rfl) (fun _ _ _ h => HP.out _ _ _ _ h) (by kernel_rfl) ?_ hH0 ?_
  · intro V hS; subst hS; go_simp
  simp only [Act.put, y1, y2, y3, y4, y5, y6, y7]
  refine tk (i := 2) (v := .pointer (some ⟨tb, to_ + i, none⟩)) rfl (by kernel_rfl) (fun _ _ _ h => HP.out _ _ _ _ h) (by kernel_rfl) ?_ hH0 ?_
  · intro V hS; subst hS; go_simp
  simp only [Act.put, y1, y2, y3, y4, y5, y6, y7]
  refine tk (i := 3) (v := .int .i64 x1) rfl (by kernel_rfl) (fun _ _ _ h => HP.out _ _ _ _ h) (by kernel_rfl) ?_ hH0 ?_
  · intro V hS; subst hS; go_simp
  simp only [Act.put, y1, y2, y3, y4, y5, y6, y7]
  refine tk (i := 4) (v := .slice (some ⟨tb, to_, none⟩) n tc) rfl (by kernel_rfl) (fun _ _ _ h => HP.out _ _ _ _ h) (by kernel_rfl) ?_ hH0 ?_
  · intro V hS; subst hS; go_simp
  simp only [Act.put, y1, y2, y3, y4, y5, y6, y7]
  refine tk (i := 5) (v := .int .i64 (j : Int)) rfl (by kernel_rfl) (fun _ _ _ h => HP.out _ _ _ _ h) (by kernel_rfl) ?_ hH0 ?_
  · intro V hS; subst hS; go_simp
  simp only [Act.put, y1, y2, y3, y4, y5, y6, y7]
  refine tk (i := 6) (v := .pointer (some ⟨tb, to_ + j, none⟩)) rfl (by kernel_rfl) (fun _ _ _ h => HP.out _ _ _ _ h) (by kernel_rfl) ?_ hH0 ?_
  · intro V hS; subst hS; go_simp
  simp only [Act.put, y1, y2, y3, y4, y5, y6, y7]
  refine tk (i := 7) (v := .int .i64 x2) rfl (by kernel_rfl) (fun _ _ _ h => HP.out _ _ _ _ h) (by kernel_rfl) ?_ hH0 ?_
  · intro V hS; subst hS; go_simp
  simp only [Act.put, y1, y2, y3, y4, y5, y6, y7]
  refine tk (i := 8) (v := .bool false) rfl (by kernel_rfl) (fun _ _ _ h => HP.out _ _ _ _ h) (by kernel_rfl) ?_ hH0 ?_
  · intro V hS; subst hS; go_simp
  simp only [Act.put, y1, y2, y3, y4, y5, y6, y7]
  refine wpAnyH_done (by kernel_rfl) ?_ _
  exact HQ.out _ _ _ _ _ _ _ _
/-- Has this winner not more than this loser? -/
def tiB (t : List Int) (lo wi : Int) : Bool := decide (t.getD wi.toNat 0 ≤ t.getD lo.toNat 0)
def tieB (t l : List Int) : Bool := (loL l t.length).any fun lo => l.any fun wi => tiB t lo wi
theorem loL_mem {l : List Int} {k : Nat} {x : Int} (h : x ∈ loL l k) : ∃ n : Nat, x = (n : Int) ∧ n < k := by
  unfold loL at h
  obtain ⟨n, hn, rfl⟩ := List.mem_map.1 h
  exact ⟨n, rfl, List.mem_range.1 (List.mem_filter.1 hn).1⟩
set_option maxHeartbeats 8000000 in
theorem tied11 {t l : List Int} {a at' : Option Addr} {c ct : Nat} {w : World} (ht : IL w at' t) (hl : IL w a l) (htn : t.length ≤ 12) (hln : l.length ≤ 12) (hin : ∀ x ∈ l, ∃ n : Nat, x = (n : Int) ∧ n < t.length) :
    Calls Tryd.prog 11 #[.slice at' t.length ct, .slice a l.length c] w fun e w' => e = .returned (.bool (tieB t l)) ∧ Below w.heap.size w w' := by
  have HT : Hid (IL w at' t) := ht
  have HL : Hid (IL w a l) := hl
  have IN : Hid (∀ x ∈ l, ∃ n : Nat, x = (n : Int) ∧ n < t.length) := hin
  have TN : Hid (t.length ≤ 12 ∧ l.length ≤ 12) := ⟨htn, hln⟩
  have ln9 : l.length < 9223372036854775808 := by omega
  have H27 : Hid (Calls Tryd.prog 27 #[.int .i64 (t.length : Int), .slice a l.length c] w fun e w' => (∃ a' c', e = .returned (.slice a' (loL l t.length).length c') ∧ IL w' a' (loL l t.length) ∧ (loL l t.length).length ≤ c' ∧ c' ≤ 9223372036854775807) ∧ Below w.heap.size w w') := losers27 hl ln9 (by omega)
  clear ht hl hin htn hln
  go_enter Tryd.func11, Tryd.ntmps11
  go_wp2_with (go_at_call 27; refine (Calls.mono H27.out) ?_)
  rintro e V ⟨⟨a', c', rfl, hlo, -, -⟩, hB⟩
  have B0 : Hid (Below w.heap.size w V) := hB
  have LO : Hid (IL V a' (loL l t.length)) := hlo
  have LM : Hid (∀ x ∈ loL l t.length, ∃ n : Nat, x = (n : Int) ∧ n < t.length) := fun x hx => loL_mem hx
  have LE : Hid ((loL l t.length).length ≤ 12) := by show _ ≤ _; have := loL_le l t.length; have := TN.out; omega
  have HE : Hid (∀ j (hj : j < (loL l t.length).length) i (hi : i < l.length), tiB t (loL l t.length)[j] l[i] = true → tieB t l = true) := fun j hj i hi h => List.any_eq_true.2 ⟨_, List.getElem_mem hj, List.any_eq_true.2 ⟨_, List.getElem_mem hi, h⟩⟩
  have HF : Hid ((∀ j (hj : j < (loL l t.length).length) i (hi : i < l.length), tiB t (loL l t.length)[j] l[i] = false) → tieB t l = false) := fun h => by
    unfold tieB
    rw [List.any_eq_false]
    intro x hx
    obtain ⟨j, hj, rfl⟩ := List.mem_iff_getElem.1 hx
    have q : (l.any fun wi => tiB t (loL l t.length)[j] wi) = false := by
      rw [List.any_eq_false]
      intro y hy
      obtain ⟨i, hi, rfl⟩ := List.mem_iff_getElem.1 hy
      rw [h j hj i hi]
      decide
    rw [q]
    decide
  generalize loL l t.length = L at *
  have lL : L.length < 9223372036854775808 := by have := LE.out; omega
  clear hB hlo H27
  go_wp2_with fail
  go_loopg [6, 8, 14] L.length (fun gk v6 v8 v14 wr => ∃ j : Nat, j + gk = L.length ∧ v14 = .int .i64 (j : Int) ∧ Below V.heap.size V wr ∧ ∀ j' (hj' : j' < L.length) (hjj : j' < j) i (hi : i < l.length), tiB t L[j'] l[i] = false)
  case atStart => exact ⟨0, by omega, rfl, Below.refl _ _, fun j' _ hjj => by omega⟩
  case round =>
    obtain ⟨j, hj, rfl, hB, hno⟩ := hrel
    have BV : Hid (Below V.heap.size V wr) := hB
    have NO : Hid (∀ j' (hj' : j' < L.length) (hjj : j' < j) i (hi : i < l.length), tiB t L[j'] l[i] = false) := hno
    clear hB hno
    by_cases hlt : j < L.length
    · have jl : (j : Int) < (L.length : Int) := by omega
      obtain ⟨b1, o1, rfl, q1⟩ := (LO.out.of_below BV.out) j hlt
      obtain ⟨lo, elo, hlo⟩ := LM.out _ (List.getElem_mem hlt)
      rw [elo] at q1
      have HEJ : Hid (∀ i (hi : i < l.length), tiB t (lo : Int) l[i] = true → tieB t l = true) := fun i hi h => HE.out j hlt i hi (by rw [elo]; exact h)
      have NOJ : Hid ((∀ i (hi : i < l.length), tiB t (lo : Int) l[i] = false) → ∀ j' (hj' : j' < L.length) (hjj : j' < j + 1) i (hi : i < l.length), tiB t L[j'] l[i] = false) := fun h j' hj' hjj i hi => by
        by_cases e : j' = j
        · subst e; rw [elo]; exact h i hi
        · exact NO.out j' hj' (by omega) i hi
      have LOT : Hid (lo < t.length) := hlo
      clear elo hlo NO
      go_wp2_with fail
      clear q1
      obtain ⟨gq, hgq⟩ : ∃ g, g = gk := ⟨_, rfl⟩
      go_loopg [8, 20] l.length (fun hk v8 v20 ws => ∃ i : Nat, i + hk = l.length ∧ v20 = .int .i64 (i : Int) ∧ Below V.heap.size V ws ∧ ∀ i' (hi' : i' < l.length) (hii : i' < i), tiB t (lo : Int) l[i'] = false)
      case atStart => exact ⟨0, by omega, rfl, BV.out, fun i' _ hii => by omega⟩
      case round =>
        obtain ⟨i, hi, rfl, hB, hno⟩ := hrel
        have BS : Hid (Below V.heap.size V wr) := hB
        have BD : Hid (Below V.heap.size V wr.drew) := hB.drew
        have NI : Hid (∀ i' (hi' : i' < l.length) (hii : i' < i), tiB t (lo : Int) l[i'] = false) := hno
        clear hB hno
        by_cases hlti : i < l.length
        · have il : (i : Int) < (l.length : Int) := by omega
          have BW : Hid (Below w.heap.size w wr) := B0.out.trans (BS.out.mono B0.out.size)
          have BWD : Hid (Below w.heap.size w wr.drew) := B0.out.trans (BD.out.mono B0.out.size)
          obtain ⟨b2, o2, rfl, q2⟩ := (HL.out.of_below BW.out) i hlti
          obtain ⟨wi, ewi, hwi⟩ := IN.out _ (List.getElem_mem hlti)
          rw [ewi] at q2
          obtain ⟨tb, to_, rfl, r1⟩ := (HT.out.of_below BWD.out) wi hwi
          obtain ⟨tb', to', e', r2⟩ := (HT.out.of_below BWD.out) lo LOT.out
          cases e'
          have wil : (wi : Int) < (t.length : Int) := by omega
          have lol : (lo : Int) < (t.length : Int) := by have := LOT.out; omega
          have TI : Hid (tiB t (lo : Int) l[i] = decide (t[wi] ≤ t[lo]'LOT.out)) := by
            show _ = _
            have h2 := LOT.out
            rw [ewi]
            unfold tiB
            simp [hwi, h2]
          have HZ : Hid (tiB t (lo : Int) l[i] = true → tieB t l = true) := HEJ.out i hlti
          have HY : Hid (tiB t (lo : Int) l[i] = false → ∀ i' (hi' : i' < l.length) (hii : i' < i + 1), tiB t (lo : Int) l[i'] = false) := fun h i' hi' hii => by
            by_cases e : i' = i
            · subst e; exact h
            · exact NI.out i' hi' (by omega)
          by_cases hx : t[wi] ≤ t[lo]'LOT.out
          · have HR : Hid (tieB t l = true) := HZ.out (by rw [TI.out]; exact decide_eq_true hx)
            clear HZ HY TI ewi
            generalize t[wi] = x1 at *
            generalize t[lo]'LOT.out = x2 at *
            go_wp2_with fail
            refine wp_region_noPanic ?_
            refine rt7_yes wil lol r1 r2 hx (fun _ _ _ _ h => h) ?_
            intro y24 y25 y26 y27 y28 y29 y30 y31
            refine NoPanic.normal ?_
            try dsimp only
            clear r1 r2 q2
            go_wp2_with fail
            go_ret
            exact ⟨by (rw [HR.out]; rfl), BWD.out⟩
          · have HR : Hid _ := HY.out (by rw [TI.out]; exact decide_eq_false hx)
            clear HZ HY TI ewi
            generalize t[wi] = x1 at *
            generalize t[lo]'LOT.out = x2 at *
            go_wp2_with fail
            refine wp_region_noPanic ?_
            refine rt7_no wil lol r1 r2 (by omega) (fun _ _ _ _ h => h) ?_
            intro y24 y25 y26 y27 y28 y29 y30 y31
            refine NoPanic.normal ?_
            try dsimp only
            clear r1 r2 q2
            go_wp2_with fail
            go_roundg (gk - 1)
            case measure => omega
            case rel => exact ⟨i + 1, by omega, by go_num, BD.out, HR.out⟩
        · obtain rfl : i = l.length := by omega
          have HR : Hid _ := NOJ.out (fun i' hi' => NI.out i' hi' hi')
          clear hlti
          go_wp2_with fail
          go_roundg (gq - 1)
          case measure => omega
          case rel => exact ⟨j + 1, by omega, by go_num, BS.out, HR.out⟩
    · obtain rfl : j = L.length := by omega
      have HR : Hid (tieB t l = false) := HF.out (fun j' hj' i hi => NO.out j' hj' hj' i hi)
      have BW : Hid (Below w.heap.size w wr) := B0.out.trans (BV.out.mono B0.out.size)
      clear hlt
      go_wp2_with fail
      go_ret
      exact ⟨by (rw [HR.out]; rfl), BW.out⟩
end Go.Proofs.YtflabehlaiocaaaDoor
namespace Go.Proofs.YtflabehlaiocaaaDoor
open Go.RowKit Go.Deep Go.PlainAid

def rs6 : Code := Go.Code.region 6 #[{ dst := some 16, op := Go.Op.move (Go.Operand.tmp 0), type := 22, pos := "law.go:21", after := #[], guard := none }, { dst := some 17, op := Go.Op.move (Go.Operand.tmp 5), type := 3, pos := "law.go:21", after := #[], guard := none }, { dst := some 18, op := Go.Op.indexAddr 22 (Go.Operand.tmp 16) (Go.Operand.tmp 17), type := 0, pos := "law.go:21", after := #[{ on := 0, ground := Go.Ground.data }, { on := 1, ground := Go.Ground.data }], guard := none }, { dst := some 19, op := Go.Op.load 3 (Go.Operand.tmp 18), type := 3, pos := "law.go:21", after := #[{ on := 2, ground := Go.Ground.data }], guard := none }, { dst := some 20, op := Go.Op.move (Go.Operand.tmp 1), type := 22, pos := "law.go:21", after := #[], guard := none }, { dst := some 21, op := Go.Op.move (Go.Operand.tmp 5), type := 3, pos := "law.go:21", after := #[], guard := none }, { dst := some 22, op := Go.Op.indexAddr 22 (Go.Operand.tmp 20) (Go.Operand.tmp 21), type := 0, pos := "law.go:21", after := #[{ on := 4, ground := Go.Ground.data }, { on := 5, ground := Go.Ground.data }], guard := none }, { dst := some 23, op := Go.Op.load 3 (Go.Operand.tmp 22), type := 3, pos := "law.go:21", after := #[{ on := 6, ground := Go.Ground.data }], guard := none }, { dst := some 24, op := Go.Op.binOp Go.BinOp.neq 3 (Go.Operand.tmp 19) (Go.Operand.tmp 23) 3, type := 4, pos := "law.go:21", after := #[{ on := 3, ground := Go.Ground.data }, { on := 7, ground := Go.Ground.data }], guard := none }] true
set_option maxHeartbeats 8000000 in
theorem rs6_same {wr : World} {df : List Deferred} {ab ao bb bo n ac bc i : Nat} {x : Int} {Q : Exit → Act → World → Prop} {t2 t3 t4 t6 t7 t8 t9 t10 t11 t12 t13 t14 t15 t16 t17 t18 t19 t20 t21 t22 t23 t24 t25 : Value} (il : (i : Int) < (n : Int)) (p1 : wr.drew.cell? ⟨ab, ao + i, none⟩ = some (.int .i64 x)) (p2 : wr.drew.cell? ⟨bb, bo + i, none⟩ = some (.int .i64 x)) 
    (hQp : ∀ c a a' w, Q (.panic c) a w → Q (.panic c) a' w) (hQ : ∀ u16 u17 u18 u19 u20 u21 u22 u23, Q .normal ⟨#[.slice (some ⟨ab, ao, none⟩) n ac, .slice (some ⟨bb, bo, none⟩) n bc, t2, t3, t4, .int .i64 (i : Int), t6, t7, t8, t9, t10, t11, t12, t13, t14, t15, u16, u17, u18, u19, u20, u21, u22, u23, .bool false, t25], df⟩ wr.drew) :
    rs6.wp Tryd.prog Q ⟨#[.slice (some ⟨ab, ao, none⟩) n ac, .slice (some ⟨bb, bo, none⟩) n bc, t2, t3, t4, .int .i64 (i : Int), t6, t7, t8, t9, t10, t11, t12, t13, t14, t15, t16, t17, t18, t19, t20, t21, t22, t23, t24, t25], df⟩ wr := by
  have HP : Hid (∀ c a a' w, Q (.panic c) a w → Q (.panic c) a' w) := hQp
  have HQ : Hid (∀ u16 u17 u18 u19 u20 u21 u22 u23, Q .normal ⟨#[.slice (some ⟨ab, ao, none⟩) n ac, .slice (some ⟨bb, bo, none⟩) n bc, t2, t3, t4, .int .i64 (i : Int), t6, t7, t8, t9, t10, t11, t12, t13, t14, t15, u16, u17, u18, u19, u20, u21, u22, u23, .bool false, t25], df⟩ wr.drew) := hQ
  clear hQ hQp
  unfold rs6
  refine wp_region_held_drew (S := fun V => V = wr.drew) (by kernel_rfl) rfl (fun hH0 => ?_)
  generalize wr.drew = X at *
  refine tk (i := 0) (v := .slice (some ⟨ab, ao, none⟩) n ac) rfl (by kernel_rfl) (fun _ _ _ h => HP.out _ _ _ _ h) (by kernel_rfl) ?_ hH0 ?_
  · intro V hS; subst hS; go_simp
  simp only [Act.put, y1, y2, y3, y4, y5, y6, y7]
  refine tk (i := 1) (v := .int .i64 (i : Int)) rfl (by kernel_rfl) (fun _ _ _ h => HP.out _ _ _ _ h) (by kernel_rfl) ?_ hH0 ?_
  · intro V hS; subst hS; go_simp
  simp only [Act.put, y1, y2, y3, y4, y5, y6, y7]
  refine tk (i := 2) (v := .pointer (some ⟨ab, ao + i, none⟩)) rfl (by kernel_rfl) (fun _ _ _ h => HP.out _ _ _ _ h) (by kernel_rfl) ?_ hH0 ?_
  · intro V hS; subst hS; go_simp
  simp only [Act.put, y1, y2, y3, y4, y5, y6, y7]
  refine tk (i := 3) (v := .int .i64 x) rfl (by kernel_rfl) (fun _ _ _ h => HP.out _ _ _ _ h) (by kernel_rfl) ?_ hH0 ?_
  · intro V hS; subst hS; go_simp
  simp only [Act.put, y1, y2, y3, y4, y5, y6, y7]
  refine tk (i := 4) (v := .slice (some ⟨bb, bo, none⟩) n bc) rfl (by kernel_rfl) (fun _ _ _ h => HP.out _ _ _ _ h) (by kernel_rfl) ?_ hH0 ?_
  · intro V hS; subst hS; go_simp
  simp only [Act.put, y1, y2, y3, y4, y5, y6, y7]
  refine tk (i := 5) (v := .int .i64 (i : Int)) rfl (by kernel_rfl) (fun _ _ _ h => HP.out _ _ _ _ h) (by kernel_rfl) ?_ hH0 ?_
  · intro V hS; subst hS; go_simp
  simp only [Act.put, y1, y2, y3, y4, y5, y6, y7]
  refine tk (i := 6) (v := .pointer (some ⟨bb, bo + i, none⟩)) rfl (by kernel_rfl) (fun _ _ _ h => HP.out _ _ _ _ h) (by kernel_rfl) ?_ hH0 ?_
  · intro V hS; subst hS; go_simp
  simp only [Act.put, y1, y2, y3, y4, y5, y6, y7]
  refine tk (i := 7) (v := .int .i64 x) rfl (by kernel_rfl) (fun _ _ _ h => HP.out _ _ _ _ h) (by kernel_rfl) ?_ hH0 ?_
  · intro V hS; subst hS; go_simp
  simp only [Act.put, y1, y2, y3, y4, y5, y6, y7]
  refine tk (i := 8) (v := .bool false) rfl (by kernel_rfl) (fun _ _ _ h => HP.out _ _ _ _ h) (by kernel_rfl) ?_ hH0 ?_
  · intro V hS; subst hS; go_simp
  simp only [Act.put, y1, y2, y3, y4, y5, y6, y7]
  refine wpAnyH_done (by kernel_rfl) ?_ _
  exact HQ.out _ _ _ _ _ _ _ _
set_option maxHeartbeats 4000000 in
theorem sameInts18 {l : List Int} {a b : Option Addr} {c d : Nat} {w : World} (ha : IL w a l) (hb : IL w b l) (hn : l.length < 9223372036854775808) :
    Calls Tryd.prog 18 #[.slice a l.length c, .slice b l.length d] w fun e w' => e = .returned (.bool true) ∧ Below w.heap.size w w' := by
  have HA : Hid (IL w a l) := ha
  have HB : Hid (IL w b l) := hb
  clear ha hb
  go_enter Tryd.func18, Tryd.ntmps18
  go_wp2_with fail
  go_loopg [5, 13] l.length (fun gk v5 v13 wr => ∃ i : Nat, i + gk = l.length ∧ v13 = .int .i64 (i : Int) ∧ Below w.heap.size w wr)
  case atStart => exact ⟨0, by omega, rfl, Below.refl _ _⟩
  case round =>
    obtain ⟨i, hi, rfl, hB⟩ := hrel
    have B : Hid (Below w.heap.size w wr) := hB
    have BD : Hid (Below w.heap.size w wr.drew) := hB.drew
    clear hB
    by_cases hlt : i < l.length
    · have il : (i : Int) < (l.length : Int) := by omega
      obtain ⟨ab, ao, rfl, p1⟩ := (HA.out.of_below BD.out) i hlt
      obtain ⟨bb, bo, rfl, p2⟩ := (HB.out.of_below BD.out) i hlt
      generalize l[i] = x at *
      go_wp2_with fail
      refine wp_region_noPanic ?_
      refine rs6_same il p1 p2 (fun _ _ _ _ h => h) ?_
      intro y16 y17 y18 y19 y20 y21 y22 y23
      refine NoPanic.normal ?_
      try dsimp only
      clear p1 p2
      go_wp2_with fail
      go_roundg (gk - 1)
      case measure => omega
      case rel => exact ⟨i + 1, by omega, by go_num, BD.out⟩
    · obtain rfl : i = l.length := by omega
      clear hlt
      go_wp2_with fail
      go_ret
      exact ⟨rfl, B.out⟩
end Go.Proofs.YtflabehlaiocaaaDoor
