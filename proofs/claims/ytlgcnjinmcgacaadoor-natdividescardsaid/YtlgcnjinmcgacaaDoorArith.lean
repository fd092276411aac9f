/- The walks of plus. -/
import Derived.Test.YtlgcnjinmcgacaaDoorPut
import Derived.Laws.IdiomCopy
import Derived.Deep.OwnRows
set_option linter.unusedSimpArgs false
set_option linter.unusedVariables false
namespace Go.Proofs.YtlgcnjinmcgacaaDoor
open Go.RowKit Go.Deep

theorem Tryd.info2 : (Tryd.prog.info? 2).map (fun i => (i.zero, i.size, i.bytes)) = some (some (.int .i64 0), 1, 8) := by kernel_rfl
theorem Tryd.size2 : (Tryd.prog.info? 2).map (·.size) = some 1 := by kernel_rfl
theorem made_nums (n : Nat) : madeCells #[.int .i64 0] n = (zs (List.replicate n 0)).toArray := by
  apply Array.toList_inj.1
  rw [toList_madeCells_one]
  simp [zs]
theorem makeNum (n : Nat) (hn : n ≤ 4294967296) (w : World) : (Instr.makeSlice 67 (.int .i64 (n : Int)) (.int .i64 (n : Int))).run Tryd.prog w = .ok (.slice (some ⟨w.heap.size, 0, none⟩) n n) (w.alloc (.cells (zs (List.replicate n 0)).toArray 2)) := by
  have := run_make_row' (P := Tryd.prog) 67 2 (.int .i64 0) 8 Tryd.underlying67 Tryd.info2 rfl .i64 .i64 n (by omega) (by omega) w
  rw [made_nums] at this
  exact this
theorem makeNum' (n : Nat) (z : Int) (hz : z = (n : Int)) (hn : n ≤ 4294967296) (w : World) : (Instr.makeSlice 67 (.int .i64 z) (.int .i64 z)).run Tryd.prog w = .ok (.slice (some ⟨w.heap.size, 0, none⟩) n n) (w.alloc (.cells (zs (List.replicate n 0)).toArray 2)) := by
  subst hz; exact makeNum n hn w
theorem block_setCells {b : Nat} {t : TypeId} : ∀ (vs : List Value) (o : Nat) (cs : List Value) (w : World), w.heap[b]? = some (.cells cs.toArray t) → o + vs.length ≤ cs.length →
    (w.setCells b o vs).heap[b]? = some (.cells (cs.take o ++ vs ++ cs.drop (o + vs.length)).toArray t)
  | [], o, cs, w, h, _ => by simpa [World.setCells] using h
  | v :: r, o, cs, w, h, hle => by
    simp only [List.length_cons] at hle
    have h1 : (w.setCell ⟨b, o, none⟩ v).heap[b]? = some (.cells (cs.set o v).toArray t) := by
      simp [World.setCell, Array.getElem?_modify, h]
    have := block_setCells (b := b) (t := t) r (o + 1) (cs.set o v) _ h1 (by simp; omega)
    simp only [World.setCells]
    rw [this]
    have e : (cs.set o v).take (o + 1) ++ r ++ (cs.set o v).drop (o + 1 + r.length) = cs.take o ++ (v :: r) ++ cs.drop (o + (r.length + 1)) := by
      rw [List.drop_set_of_lt (by omega), List.take_add_one]
      simp [List.take_set_of_le, show o < cs.length by omega, Nat.add_assoc, Nat.add_comm]
      omega
    rw [e]; rfl
theorem But.setOwn {b : Nat} {u : World} : ∀ (vs : List Value) (o : Nat) (w : World), But b u w → But b u (w.setCells b o vs)
  | [], _, _, h => h
  | v :: r, o, _, h => But.setOwn r (o + 1) _ (h.setCell o v)
theorem IHolds.copied {w : World} {b : Nat} {t : TypeId} {L : List Nat} (h : IHolds w b t (zs L)) (l : List Nat) (hl : l.length ≤ L.length) : IHolds (w.setCells b 0 (l.map I)) b t (zs (l ++ L.drop l.length)) := by
  have := block_setCells (l.map I) 0 (zs L) w h (by simpa [zs] using hl)
  unfold IHolds
  rw [this]
  simp [zs]
/-- 'copy' of a number into a row of the call's own. -/
theorem run_copy_num (w : World) (b dLen dCap cap : Nat) (T : TypeId) (L : List Nat) (a : Option Addr) (l : List Nat) (h : IHolds w b T (zs L)) (hr : Row w a l) (hl : l.length ≤ L.length) (hd : dLen = L.length) :
    (Builtin.copy_ #[67, 67] 3 #[.slice (some ⟨b, 0, none⟩) dLen dCap, .slice a l.length cap]).run Tryd.prog w = .ok (goInt l.length) (w.setCells b 0 (l.map I)) := by
  by_cases h0 : l = []
  · subst h0
    exact run_copy_none w 67 67 3 2 _ _ _ _ _ _ Tryd.underlying67 Tryd.size2 (by simp)
  · have hpos : 0 < l.length := List.length_pos_iff.2 h0
    obtain ⟨k, o, rfl, _⟩ := hr 0 hpos
    have := run_copy_cells (P := Tryd.prog) w 67 67 3 2 b 0 dLen dCap ⟨k, o, none⟩ l.length cap (l.map I) Tryd.underlying67 Tryd.size2 (by rw [List.length_map, hd]; show l.length = min l.length L.length; omega)
      (fun j v hv => by
        have hj : j < l.length := by
          have := (List.getElem?_eq_some_iff.1 hv).1
          simpa using this
        obtain ⟨k', o', he, hc⟩ := hr j hj
        simp only [Option.some.injEq, Addr.mk.injEq, true_and, and_true] at he
        obtain ⟨rfl, rfl⟩ := he
        simp [hj] at hv
        subst hv
        rw [Addr.add_mid]; exact hc)
      (fun j hj => by
        simp only [List.length_map] at hj
        rw [h.cell (0 + j) (by rw [zs_length]; omega)]; rfl)
      (fun j hj => h.frozen _)
      (fun v hv => by obtain ⟨x, _, rfl⟩ := List.mem_map.1 hv; rfl)
    simpa using this

/-- Where the whole of it is from 0 to below B^k nothing is carried out. -/
theorem Puts.done {B : Nat} {l m : List Nat} {t : Int} {k : Nat} {p : List Nat} {c : Int} (h : Puts B l m t k p c) (hl : l.length ≤ k) (hm : m.length ≤ k) (N : Nat) (hN : (vl B l : Int) + t * (vl B m : Int) = (N : Int)) (hk : N < B ^ k) : c = 0 ∧ vl B p = N := by
  have e := h.eq
  rw [List.take_of_length_le hl, List.take_of_length_le hm, hN] at e
  have hp := vl_lt B p h.low
  rw [h.len] at hp
  have hc : c = 0 := by
    have h1 : (B : Int) ^ k = ((B ^ k : Nat) : Int) := by push_cast; rfl
    rw [h1] at e
    generalize B ^ k = M at *
    rcases Int.lt_trichotomy c 0 with hc | hc | hc
    · exfalso
      have : c * (M : Int) ≤ (-1) * (M : Int) := Int.mul_le_mul_of_nonneg_right (by omega) (by omega)
      omega
    · exact hc
    · exfalso
      have : 1 * (M : Int) ≤ c * (M : Int) := Int.mul_le_mul_of_nonneg_right (by omega) (by omega)
      omega
  subst hc
  refine ⟨rfl, ?_⟩
  simp at e
  omega
theorem Row.apart_new {w : World} {a : Option Addr} {l : List Nat} (h : Row w a l) (hl : l ≠ []) : Apart a w.heap.size := by
  intro k o ha e
  obtain ⟨k', o', ha', hc⟩ := h 0 (List.length_pos_iff.2 hl)
  rw [ha] at ha'
  simp only [Option.some.injEq, Addr.mk.injEq] at ha'
  have := World.block_lt_of_cell? _ _ hc
  simp at this
  omega
theorem bigBase : 2 ≤ 1000000000 := by omega

theorem sum_lt {n m K i j : Nat} (h1 : n < 1000000000 ^ i) (h2 : m < 1000000000 ^ j) (hi : i < K) (hj : j < K) : n + m < 1000000000 ^ K := by
  have e1 : 1000000000 ^ i ≤ 1000000000 ^ (K - 1) := Nat.pow_le_pow_right (by omega) (by omega)
  have e2 : 1000000000 ^ j ≤ 1000000000 ^ (K - 1) := Nat.pow_le_pow_right (by omega) (by omega)
  have e3 : 1000000000 ^ K = 1000000000 ^ (K - 1) * 1000000000 := by rw [← Nat.pow_succ]; congr 1; omega
  omega
/-- put into a row of the call's own, the whole of it. -/
theorem put_whole (w : World) (b cap : Nat) (T : TypeId) (l : List Nat) (a2 : Option Addr) (cap2 : Nat) (m : List Nat) (t : Int)
    (hb : IHolds w b T (zs l)) (hm : Row w a2 m) (ha : m ≠ [] → Apart a2 b) (hl : ∀ d ∈ l, d < 1000000000) (hmm : ∀ d ∈ m, d < 1000000000) (ht : -1000000000 ≤ t ∧ t ≤ 1000000000) (hn : l.length < 4611686018427387904) :
    Calls Tryd.prog 89 #[.slice (some ⟨b, 0, none⟩) l.length cap, .slice a2 m.length cap2, .int .i64 t] w fun e w' => ∃ (p : List Nat) (c : Int), e = .returned (.int .i64 c) ∧ Puts 1000000000 l m t l.length p c ∧ IHolds w' b T (zs p) ∧ But b w w' := by
  refine (put_any w b cap T [] [] l a2 cap2 m t (by rw [List.nil_append, List.append_nil]; exact hb) hm ha hl hmm ht hn).mono ?_
  rintro e w' ⟨p, c, he, h1, h2, h3⟩
  rw [List.nil_append, List.append_nil] at h2
  exact ⟨p, c, he, h1, h2, h3⟩
theorem trimmed_at (w : World) (b cap k : Nat) (T : TypeId) (l : List Nat) (h : IHolds w b T (zs l)) (hk : l.length = k) (hc : k ≤ cap) (hl : ∀ d ∈ l, d < 1000000000) (hn : cap ≤ 9223372036854775807) :
    Calls Tryd.prog 90 #[.slice (some ⟨b, 0, none⟩) k cap] w fun e w' => (∃ v, e = .returned v ∧ NumV w 1000000000 (vl 1000000000 l) v) ∧ w' = w := by
  subst hk
  have hr : Row w (some ⟨b, 0, none⟩) l := IHolds.row (pre := []) (post := []) (by rw [List.nil_append, List.append_nil]; exact h)
  exact trimmed_any 1000000000 bigBase w _ l cap hr hc hl hn

set_option maxRecDepth 100000 in
set_option maxHeartbeats 1000000 in
theorem plus_any (w : World) (a1 a2 : Option Addr) (cap1 cap2 n m : Nat) (h1 : Row w a1 (dg 1000000000 n)) (h2 : Row w a2 (dg 1000000000 m)) (b1 : (dg 1000000000 n).length ≤ 1000000) (b2 : (dg 1000000000 m).length ≤ 1000000) :
    Calls Tryd.prog 52 #[.slice a1 (dg 1000000000 n).length cap1, .slice a2 (dg 1000000000 m).length cap2] w fun e w' => (∃ v, e = .returned v ∧ NumV w' 1000000000 (n + m) v) ∧ Below w.heap.size w w' := by
  have HV1 : Hid (vl 1000000000 (dg 1000000000 n) = n) := vl_dg bigBase n
  have HV2 : Hid (vl 1000000000 (dg 1000000000 m) = m) := vl_dg bigBase m
  have HD1 : Hid (∀ d ∈ dg 1000000000 n, d < 1000000000) := dg_mem bigBase n
  have HD2 : Hid (∀ d ∈ dg 1000000000 m, d < 1000000000) := dg_mem bigBase m
  generalize dg 1000000000 n = l1 at *
  generalize dg 1000000000 m = l2 at *
  have H2 : Hid (Row w a2 l2) := h2
  have HAp : Hid (l2 ≠ [] → Apart a2 w.heap.size) := fun h => h2.apart_new h
  clear h2
  go_enter Tryd.func52, Tryd.ntmps52
  rcases Nat.lt_or_ge l1.length l2.length with hlt | hlt
  · obtain ⟨K, k1, k2, k3, hmk⟩ : ∃ K : Nat, l1.length < K ∧ l2.length < K ∧ K ≤ 1000001 ∧ ∀ w, (Instr.makeSlice 67 (.int .i64 ((l2.length : Int) + 1)) (.int .i64 ((l2.length : Int) + 1))).run Tryd.prog w = .ok (.slice (some ⟨w.heap.size, 0, none⟩) K K) (w.alloc (.cells (zs (List.replicate K 0)).toArray 2)) :=
      ⟨l2.length + 1, by omega, by omega, by omega, fun w => makeNum' _ _ (by push_cast; rfl) (by omega) w⟩
    go_wp2_with fail
    have q1 : IHolds (w.alloc (.cells (zs (List.replicate K 0)).toArray 2)) w.heap.size 2 (zs (List.replicate K 0)) := IHolds.new w 2 _
    have q2 : Below w.heap.size w (w.alloc (.cells (zs (List.replicate K 0)).toArray 2)) := (Below.refl _ w).alloc (Nat.le_refl _) _
    generalize w.alloc (.cells (zs (List.replicate K 0)).toArray 2) = W0 at *
    have A1 : Hid (Row W0 a1 l1) := h1.of_below q2
    have hcp := run_copy_num W0 w.heap.size K K cap1 2 (List.replicate K 0) a1 l1 q1 A1.out (by simp; omega) (by simp)
    have q3 := q1.copied l1 (by simp; omega)
    have q4 : Hid (Below w.heap.size w (W0.setCells w.heap.size 0 (l1.map I))) := q2.trans ((But.setOwn _ _ _ (But.refl w.heap.size _)).below q2.size (Nat.le_refl _))
    clear hmk q1 q2 A1
    generalize W0.setCells w.heap.size 0 (l1.map I) = W1 at *
    have Q3 : Hid (IHolds W1 w.heap.size 2 (zs (l1 ++ (List.replicate K 0).drop l1.length))) := q3
    have A2 : Hid (Row W1 a2 l2) := H2.out.of_below q4.out
    have hL : Hid ((l1 ++ (List.replicate K 0).drop l1.length).length = K) := by show _ = _; simp; omega
    have hLv : Hid (vl 1000000000 (l1 ++ (List.replicate K 0).drop l1.length) = n) := by show _ = _; rw [List.drop_replicate, vl_append_zeros, HV1.out]
    have hLd : Hid (∀ d ∈ l1 ++ (List.replicate K 0).drop l1.length, d < 1000000000) := by
      intro d hd
      rcases List.mem_append.1 hd with hd | hd
      · exact HD1.out d hd
      · have := List.eq_of_mem_replicate (List.mem_of_mem_drop hd); omega
    generalize l1 ++ (List.replicate K 0).drop l1.length = L at *
    clear q3
    rw [hcp]
    clear hcp
    obtain rfl : K = L.length := hL.out.symm
    go_wp2_with fail
    refine (put_whole W1 w.heap.size L.length 2 L a2 cap2 l2 1 Q3.out A2.out HAp.out hLd.out HD2.out (by omega) (by omega)).mono ?_
    rintro e W2 ⟨p, c, rfl, hp, hI, hB⟩
    have hN : Hid (vl 1000000000 p = n + m) := (hp.done (Nat.le_refl _) (by omega) (n + m) (by rw [hLv.out, HV2.out]; push_cast; omega) (by
      have g1 := vl_lt 1000000000 l1 HD1.out
      have g2 := vl_lt 1000000000 l2 HD2.out
      rw [HV1.out] at g1
      rw [HV2.out] at g2
      exact sum_lt g1 g2 k1 k2)).2
    have hpl := hp.len
    have HP : Hid (∀ d ∈ p, d < 1000000000) := hp.low
    have HI : Hid (IHolds W2 w.heap.size 2 (zs p)) := hI
    have HB : Hid (Below w.heap.size w W2) := q4.out.trans (hB.below q4.out.size (Nat.le_refl _))
    clear hp hI hB
    go_wp2_with fail
    refine (trimmed_at W2 w.heap.size L.length L.length 2 p HI.out hpl (Nat.le_refl _) HP.out (by omega)).mono ?_
    rintro e W3 ⟨⟨v, rfl, hv⟩, rfl⟩
    rw [hN.out] at hv
    have HVV : Hid (NumV W3 1000000000 (n + m) v) := hv
    clear hv
    go_wp2_with fail
    go_ret
    exact ⟨⟨_, rfl, HVV.out⟩, HB.out⟩
  · obtain ⟨K, k1, k2, k3, hmk⟩ : ∃ K : Nat, l1.length < K ∧ l2.length < K ∧ K ≤ 1000001 ∧ ∀ w, (Instr.makeSlice 67 (.int .i64 ((l1.length : Int) + 1)) (.int .i64 ((l1.length : Int) + 1))).run Tryd.prog w = .ok (.slice (some ⟨w.heap.size, 0, none⟩) K K) (w.alloc (.cells (zs (List.replicate K 0)).toArray 2)) :=
      ⟨l1.length + 1, by omega, by omega, by omega, fun w => makeNum' _ _ (by push_cast; rfl) (by omega) w⟩
    go_wp2_with fail
    have q1 : IHolds (w.alloc (.cells (zs (List.replicate K 0)).toArray 2)) w.heap.size 2 (zs (List.replicate K 0)) := IHolds.new w 2 _
    have q2 : Below w.heap.size w (w.alloc (.cells (zs (List.replicate K 0)).toArray 2)) := (Below.refl _ w).alloc (Nat.le_refl _) _
    generalize w.alloc (.cells (zs (List.replicate K 0)).toArray 2) = W0 at *
    have A1 : Hid (Row W0 a1 l1) := h1.of_below q2
    have hcp := run_copy_num W0 w.heap.size K K cap1 2 (List.replicate K 0) a1 l1 q1 A1.out (by simp; omega) (by simp)
    have q3 := q1.copied l1 (by simp; omega)
    have q4 : Hid (Below w.heap.size w (W0.setCells w.heap.size 0 (l1.map I))) := q2.trans ((But.setOwn _ _ _ (But.refl w.heap.size _)).below q2.size (Nat.le_refl _))
    clear hmk q1 q2 A1
    generalize W0.setCells w.heap.size 0 (l1.map I) = W1 at *
    have Q3 : Hid (IHolds W1 w.heap.size 2 (zs (l1 ++ (List.replicate K 0).drop l1.length))) := q3
    have A2 : Hid (Row W1 a2 l2) := H2.out.of_below q4.out
    have hL : Hid ((l1 ++ (List.replicate K 0).drop l1.length).length = K) := by show _ = _; simp; omega
    have hLv : Hid (vl 1000000000 (l1 ++ (List.replicate K 0).drop l1.length) = n) := by show _ = _; rw [List.drop_replicate, vl_append_zeros, HV1.out]
    have hLd : Hid (∀ d ∈ l1 ++ (List.replicate K 0).drop l1.length, d < 1000000000) := by
      intro d hd
      rcases List.mem_append.1 hd with hd | hd
      · exact HD1.out d hd
      · have := List.eq_of_mem_replicate (List.mem_of_mem_drop hd); omega
    generalize l1 ++ (List.replicate K 0).drop l1.length = L at *
    clear q3
    rw [hcp]
    clear hcp
    obtain rfl : K = L.length := hL.out.symm
    go_wp2_with fail
    refine (put_whole W1 w.heap.size L.length 2 L a2 cap2 l2 1 Q3.out A2.out HAp.out hLd.out HD2.out (by omega) (by omega)).mono ?_
    rintro e W2 ⟨p, c, rfl, hp, hI, hB⟩
    have hN : Hid (vl 1000000000 p = n + m) := (hp.done (Nat.le_refl _) (by omega) (n + m) (by rw [hLv.out, HV2.out]; push_cast; omega) (by
      have g1 := vl_lt 1000000000 l1 HD1.out
      have g2 := vl_lt 1000000000 l2 HD2.out
      rw [HV1.out] at g1
      rw [HV2.out] at g2
      exact sum_lt g1 g2 k1 k2)).2
    have hpl := hp.len
    have HP : Hid (∀ d ∈ p, d < 1000000000) := hp.low
    have HI : Hid (IHolds W2 w.heap.size 2 (zs p)) := hI
    have HB : Hid (Below w.heap.size w W2) := q4.out.trans (hB.below q4.out.size (Nat.le_refl _))
    clear hp hI hB
    go_wp2_with fail
    refine (trimmed_at W2 w.heap.size L.length L.length 2 p HI.out hpl (Nat.le_refl _) HP.out (by omega)).mono ?_
    rintro e W3 ⟨⟨v, rfl, hv⟩, rfl⟩
    rw [hN.out] at hv
    have HVV : Hid (NumV W3 1000000000 (n + m) v) := hv
    clear hv
    go_wp2_with fail
    go_ret
    exact ⟨⟨_, rfl, HVV.out⟩, HB.out⟩
end Go.Proofs.YtlgcnjinmcgacaaDoor
