/- The walk of put: a number added to another some times, in place. -/
import Derived.Test.YtlgcnjinmcgacaaDoorNum
import Derived.Test.YtlgcnjinmcgacaaDoorPutPlain
set_option linter.unusedSimpArgs false
set_option linter.unusedVariables false
namespace Go.Proofs.YtlgcnjinmcgacaaDoor
open Go.RowKit

/-- Block b is an array of these numbers. -/
def IHolds (w : World) (b : Nat) (t : TypeId) (l : List Value) : Prop := w.heap[b]? = some (.cells l.toArray t)
theorem IHolds.lt {w : World} {b : Nat} {t : TypeId} {l : List Value} (h : IHolds w b t l) : b < w.heap.size := (Array.getElem?_eq_some_iff.1 h).1
theorem IHolds.cell {w : World} {b : Nat} {t : TypeId} {l : List Value} (h : IHolds w b t l) (i : Nat) (hi : i < l.length) : w.cell? ⟨b, i, none⟩ = some l[i] := by
  unfold IHolds at h
  simp [World.cell?, h, hi]
theorem IHolds.frozen {w : World} {b : Nat} {t : TypeId} {l : List Value} (h : IHolds w b t l) (i : Nat) : w.frozen? ⟨b, i, none⟩ = false := by
  unfold IHolds at h
  simp [World.frozen?, h]
theorem IHolds.set {w : World} {b : Nat} {t : TypeId} {l : List Value} (h : IHolds w b t l) (i : Nat) (x : Value) : IHolds (w.setCell ⟨b, i, none⟩ x) b t (l.set i x) := by
  unfold IHolds at *
  simp [World.setCell, Array.getElem?_modify, h, List.map_set]
theorem IHolds.drewN {w : World} {b : Nat} {t : TypeId} {l : List Value} (h : IHolds w b t l) (n : Nat) : IHolds (w.drewN n) b t l := h
theorem IHolds.alloc {w : World} {b : Nat} {t : TypeId} {l : List Value} (h : IHolds w b t l) (o : Obj) : IHolds (w.alloc o) b t l := by
  unfold IHolds; rw [Below.heap_alloc _ _ _ h.lt]; exact h
theorem IHolds.new (w : World) (t : TypeId) (l : List Value) : IHolds (w.alloc (.cells l.toArray t)) w.heap.size t l := by
  show (w.heap.push _)[w.heap.size]? = _
  simp
theorem IHolds.of_below {w w' : World} {b : Nat} {t : TypeId} {l : List Value} (h : IHolds w b t l) (hb : Below w.heap.size w w') : IHolds w' b t l := by
  unfold IHolds; rw [hb.block _ h.lt]; exact h
/-- Nothing but block b has turned, of what was there. -/
structure But (b : Nat) (w w' : World) : Prop where
  os : w'.os = w.os
  tape : w'.tape = w.tape
  output : w'.output = w.output
  size : w.heap.size ≤ w'.heap.size
  block : ∀ k, k < w.heap.size → k ≠ b → w'.heap[k]? = w.heap[k]?
theorem But.refl (b : Nat) (w : World) : But b w w := ⟨rfl, rfl, rfl, Nat.le_refl _, fun _ _ _ => rfl⟩
theorem But.trans {b : Nat} {u v w : World} (h : But b u v) (k : But b v w) : But b u w :=
  ⟨k.os.trans h.os, k.tape.trans h.tape, k.output.trans h.output, Nat.le_trans h.size k.size, fun i hi hb => (k.block i (Nat.lt_of_lt_of_le hi h.size) hb).trans (h.block i hi hb)⟩
theorem But.drewN {b : Nat} {u w : World} (h : But b u w) (n : Nat) : But b u (w.drewN n) := ⟨h.os, h.tape, h.output, h.size, h.block⟩
theorem But.setCell {b : Nat} {u w : World} (h : But b u w) (i : Nat) (x : Value) : But b u (w.setCell ⟨b, i, none⟩ x) :=
  h.trans ⟨rfl, rfl, rfl, by simp [World.setCell], fun k _ hb => Below.heap_setCell _ _ _ _ hb⟩
theorem But.cell {b : Nat} {u w : World} (h : But b u w) {k : Nat} (hk : k < u.heap.size) (hb : k ≠ b) (i : Nat) : w.cell? ⟨k, i, none⟩ = u.cell? ⟨k, i, none⟩ :=
  World.cell?_of_block (w := u) (h.block k hk hb)
/-- Where block b is new, nothing that was there has turned. -/
theorem But.below {b B : Nat} {u w : World} (h : But b u w) (hB : B ≤ u.heap.size) (hb : B ≤ b) : Below B u w :=
  ⟨h.os, h.tape, h.output, h.size, fun k hk => h.block k (by omega) (by omega)⟩
/-- What lies at a does not lie in block b. -/
def Apart (a : Option Addr) (b : Nat) : Prop := ∀ k o, a = some ⟨k, o, none⟩ → k ≠ b
theorem Row.of_but {w w' : World} {a : Option Addr} {l : List Nat} {b : Nat} (h : Row w a l) (ha : l ≠ [] → Apart a b) (hb : But b w w') : Row w' a l := by
  intro i hi
  obtain ⟨k, o, rfl, hc⟩ := h i hi
  exact ⟨k, o, rfl, by rw [hb.cell (World.block_lt_of_cell? _ _ hc) (ha (fun e => by subst e; cases hi) k o rfl)]; exact hc⟩
/-- Numbers as the cells hold them. -/
def zs (l : List Nat) : List Value := l.map I
theorem zs_length (l : List Nat) : (zs l).length = l.length := by simp [zs]
theorem zs_cons (x : Nat) (l : List Nat) : zs (x :: l) = I x :: zs l := rfl
theorem zs_append (l r : List Nat) : zs (l ++ r) = zs l ++ zs r := by simp [zs]
theorem IHolds.row {w : World} {b : Nat} {t : TypeId} {pre post : List Value} {l : List Nat} (h : IHolds w b t (pre ++ zs l ++ post)) : Row w (some ⟨b, pre.length, none⟩) l := by
  intro i hi
  refine ⟨b, pre.length, rfl, ?_⟩
  rw [h.cell (pre.length + i) (by simp [zs_length]; omega)]
  rw [List.getElem_append_left (by simp [zs_length]; omega), List.getElem_append_right (by omega)]
  simp [zs]
theorem part_at (pre post : List Value) (p l : List Nat) (i : Nat) (hp : p.length = i) (hi : i < l.length) : pre ++ zs (p ++ l.drop i) ++ post = (pre ++ zs p) ++ (I l[i] :: (zs (l.drop (i + 1)) ++ post)) := by
  rw [List.drop_eq_getElem_cons hi, zs_append, zs_cons]
  simp only [List.append_assoc, List.cons_append]
theorem part_set (pre post : List Value) (p l : List Nat) (i x : Nat) (hp : p.length = i) (hi : i < l.length) (y : Int) (hy : y = (x : Int)) : (pre ++ zs (p ++ l.drop i) ++ post).set (pre.length + i) (.int .i64 y) = pre ++ zs ((p ++ [x]) ++ l.drop (i + 1)) ++ post := by
  subst hy
  rw [part_at pre post p l i hp hi, List.set_append_right _ _ (by simp [zs_length]; omega)]
  have e : pre.length + i - (pre ++ zs p).length = 0 := by simp [zs_length]; omega
  rw [e, zs_append, zs_append]
  simp only [List.set_cons_zero, List.append_assoc, List.cons_append, zs_cons, List.nil_append]
  rfl

set_option maxRecDepth 100000 in
set_option maxHeartbeats 1000000 in
theorem put_any (w : World) (b cap : Nat) (T : TypeId) (pre post : List Value) (l : List Nat) (a2 : Option Addr) (cap2 : Nat) (m : List Nat) (t : Int)
    (hb : IHolds w b T (pre ++ zs l ++ post)) (hm : Row w a2 m) (ha : m ≠ [] → Apart a2 b) (hl : ∀ d ∈ l, d < 1000000000) (hmm : ∀ d ∈ m, d < 1000000000) (ht : -1000000000 ≤ t ∧ t ≤ 1000000000) (hn : l.length < 4611686018427387904) :
    Calls Tryd.prog 89 #[.slice (some ⟨b, pre.length, none⟩) l.length cap, .slice a2 m.length cap2, .int .i64 t] w fun e w' => ∃ (p : List Nat) (c : Int), e = .returned (.int .i64 c) ∧ Puts 1000000000 l m t l.length p c ∧ IHolds w' b T (pre ++ zs p ++ post) ∧ But b w w' := by
  have HL : Hid (∀ d ∈ l, d < 1000000000) := hl
  have HM : Hid (∀ d ∈ m, d < 1000000000) := hmm
  have HR : Hid (Row w a2 m) := hm
  have HA : Hid (m ≠ [] → Apart a2 b) := ha
  have HB : Hid (IHolds w b T (pre ++ zs l ++ post)) := hb
  clear hl hmm hm ha hb
  go_enter Tryd.func89, Tryd.ntmps89
  go_wp2_with fail
  go_loopg [7, 12] l.length (fun gk v7 v12 wr => ∃ (i : Nat) (p : List Nat) (c : Int), i + gk = l.length ∧ v7 = .int .i64 c ∧ v12 = .int .i64 i ∧ Puts 1000000000 l m t i p c ∧ IHolds wr b T (pre ++ zs (p ++ l.drop i) ++ post) ∧ But b w wr)
  case atStart => exact ⟨0, [], 0, by omega, rfl, rfl, Puts.zero _ _ _ _, HB.out, But.refl _ _⟩
  case round =>
    obtain ⟨i, p, c, hi, rfl, rfl, hp, hbl, hbt⟩ := hrel
    have hpl := hp.len
    have HP : Hid (Puts 1000000000 l m t i p c) := hp
    have HBt : Hid (But b w wr) := hbt
    have HH : Hid (IHolds wr b T (pre ++ zs (p ++ l.drop i) ++ post)) := hbl
    have hr : Row wr a2 m := HR.out.of_but HA.out hbt
    by_cases hlt : i < l.length
    · have il : (i : Int) < (l.length : Int) := by omega
      have hc0 : wr.cell? ⟨b, pre.length + i, none⟩ = some (.int .i64 (l[i] : Int)) := by
        have e := part_at pre post p l i hpl hlt
        have := hbl
        rw [e] at this
        rw [this.cell (pre.length + i) (by simp [zs_length]; omega)]
        rw [List.getElem_append_right (by simp [zs_length]; omega)]
        simp [zs_length, hpl]
      have hf0 : wr.frozen? ⟨b, pre.length + i, none⟩ = false := hbl.frozen _
      have HLI : Hid (∀ n, Calls Tryd.prog 110 #[.slice a2 m.length cap2, .int .i64 (i : Int)] (wr.drewN n) fun e w' => e = .returned (I (m.getD i 0)) ∧ w' = wr.drewN n) := fun n => limb_any (wr.drewN n) a2 m cap2 i (hr.drew n)
      have kl : l[i] < 1000000000 := HL.out _ (List.getElem_mem _)
      have km : m.getD i 0 < 1000000000 := by
        by_cases h : i < m.length
        · rw [List.getD_eq_getElem?_getD, List.getElem?_eq_getElem h]; exact HM.out _ (List.getElem_mem _)
        · rw [List.getD_eq_getElem?_getD, List.getElem?_eq_none (by omega)]; simp
      have kc1 := hp.hi
      have kc2 := hp.lo
      have elg : l.getD i 0 = l[i] := by rw [List.getD_eq_getElem?_getD, List.getElem?_eq_getElem hlt]; rfl
      have HEL : Hid (l.getD i 0 = l[i]) := elg
      have hstep : Hid (∀ (x : Nat) (c' : Int), x < 1000000000 → (l[i] : Int) + t * (m.getD i 0 : Int) + c = (x : Int) + c' * 1000000000 → Puts 1000000000 l m t (i + 1) (p ++ [x]) c') :=
        fun x c' h1 h2 => hp.step (by omega) x c' h1 HL.out HM.out (by rw [elg]; exact h2)
      have hset : Hid (∀ (x : Nat) (y : Int), y = (x : Int) → (pre ++ zs (p ++ l.drop i) ++ post).set (pre.length + i) (.int .i64 y) = pre ++ zs ((p ++ [x]) ++ l.drop (i + 1)) ++ post) := fun x y hy => part_set pre post p l i x hpl hlt y hy
      clear hbl hbt hp hr elg hpl
      generalize l[i] = u at *
      generalize m.getD i 0 = v at *
      have kP1 : -1000000000000000000 ≤ t * (v : Int) := by
        by_cases h0 : 0 ≤ t
        · have := Int.mul_nonneg h0 (show 0 ≤ (v : Int) by omega); omega
        · have h1 : (-1000000000) * (v : Int) ≤ t * (v : Int) := Int.mul_le_mul_of_nonneg_right ht.1 (by omega); omega
      have kP2 : t * (v : Int) ≤ 1000000000000000000 := by
        have h1 : t * (v : Int) ≤ 1000000000 * (v : Int) := Int.mul_le_mul_of_nonneg_right ht.2 (by omega); omega
      have kw : IntKind.i64.wrap (t * (v : Int)) = t * (v : Int) := IntWalk.i64_in _ ⟨by omega, by omega⟩
      go_wp2_with fail
      go_quiet ((go_at_call 110; exact Calls.quiet_of_same (HLI.out _)))
      obtain ⟨s, hs⟩ : ∃ s, s = (u : Int) + t * (v : Int) + c := ⟨_, rfl⟩
      rw [← hs]
      have hs1 : -1000000002000000000 ≤ s := by omega
      have hs2 : s ≤ 1000000003000000000 := by omega
      have HS : Hid ((u : Int) + t * (v : Int) + c = s) := hs.symm
      have hc1 : (wr.drewN nq).cell? ⟨b, pre.length + i, none⟩ = some (.int .i64 (u : Int)) := hc0
      have hf1 : (wr.drewN nq).frozen? ⟨b, pre.length + i, none⟩ = false := hf0
      have HH1 : Hid (IHolds (wr.drewN nq) b T (pre ++ zs (p ++ l.drop i) ++ post)) := HH.out.drewN nq
      have HB1 : Hid (But b w (wr.drewN nq)) := HBt.out.drewN nq
      clear hs kP1 kP2 kw kc1 kc2 HLI hc0 hf0 HH HBt
      generalize wr.drewN nq = wq at *
      by_cases h0 : 0 ≤ s
      · go_wp2_with fail
        go_roundg (gk - 1)
        case measure => omega
        case rel =>
          refine ⟨i + 1, p ++ [(s % 1000000000).toNat], s / 1000000000, by omega, rfl, by go_num, hstep.out _ _ (by omega) (by rw [HS.out]; omega), ?_, (HB1.out.setCell _ _)⟩
          rw [← hset.out (s % 1000000000).toNat (s % 1000000000) (by omega)]
          exact HH1.out.set _ _
      · obtain ⟨g1, g2, g3⟩ := tdiv_neg s (by omega)
        obtain ⟨q, hq⟩ : ∃ q, s.tdiv 1000000000 = q := ⟨_, rfl⟩
        obtain ⟨r, hr⟩ : ∃ r, s.tmod 1000000000 = r := ⟨_, rfl⟩
        rw [hq, hr] at g3
        rw [hr] at g1 g2
        have hq1 : -1000000003 ≤ q := by omega
        have hq2 : q ≤ 0 := by omega
        have HG : Hid (s = q * 1000000000 + r) := g3
        clear g3
        by_cases hr0 : r < 0
        · go_wp2_with fail
          go_roundg (gk - 1)
          case measure => omega
          case rel =>
            refine ⟨i + 1, p ++ [(r + 1000000000).toNat], q - 1, by omega, rfl, by go_num, hstep.out _ _ (by omega) (by rw [HS.out]; have := HG.out; omega), ?_, (HB1.out.setCell _ _).setCell _ _⟩
            rw [← hset.out (r + 1000000000).toNat (r + 1000000000) (by omega)]
            have := (HH1.out.set (pre.length + i) (.int .i64 r)).set (pre.length + i) (.int .i64 (r + 1000000000))
            rwa [List.set_set] at this
        · obtain rfl : r = 0 := by omega
          go_wp2_with fail
          go_roundg (gk - 1)
          case measure => omega
          case rel =>
            refine ⟨i + 1, p ++ [0], q, by omega, rfl, by go_num, hstep.out _ _ (by omega) (by rw [HS.out]; have := HG.out; omega), ?_, (HB1.out.setCell _ _)⟩
            rw [← hset.out 0 0 (by omega)]
            exact HH1.out.set _ _
    · obtain rfl : i = l.length := by omega
      have HF : Hid (IHolds wr b T (pre ++ zs p ++ post)) := by
        have := HH.out
        rw [List.drop_length, List.append_nil] at this
        exact this
      go_wp2_with fail
      go_ret
      exact ⟨p, c, rfl, HP.out, HF.out, HBt.out⟩

set_option maxHeartbeats 400000 in
theorem put_none (w : World) (a : Option Addr) (cap : Nat) (v2 : Value) (t : Int) :
    Calls Tryd.prog 89 #[.slice a 0 cap, v2, .int .i64 t] w fun e w' => e = .returned (.int .i64 0) ∧ w' = w := by
  go_enter Tryd.func89, Tryd.ntmps89
  go_wp2_with fail
  refine wp_loop_rounds 1 ?_
  rw [rounds_succ]
  go_wp2_with fail
  go_ret
  exact ⟨rfl, rfl⟩
end Go.Proofs.YtlgcnjinmcgacaaDoor
