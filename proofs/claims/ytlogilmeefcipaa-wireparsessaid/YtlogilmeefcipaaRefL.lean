/- The document's read: a leaf. -/
import Derived.Test.YtlogilmeefcipaaRefIs
import Derived.Test.YtlogilmeefcipaaSame
set_option linter.unusedSimpArgs false
set_option linter.unusedVariables false
set_option maxRecDepth 100000
namespace Go.Proofs.Ytlogilmeefcipaa
open Go.RowKit Go.Deep Go.PlainAid Go.Shelf

theorem bt_S (l : List UInt8) (k : Nat) (h : k < l.length) : bt ⟨l.toArray⟩ k = ((l[k]).toNat : Int) := bt_list ⟨l.toArray⟩ k (by rw [size_S]; exact h)
theorem colon_at {q : List UInt8} {j : Nat} (hj : j < q.length) (h1 : q[j] = 58) (h2 : ∀ k (hk : k < q.length), k < j → q[k] ≠ 58) : colon q = some j := by
  unfold colon
  rw [List.findIdx?_eq_some_iff_getElem]
  exact ⟨hj, by simp [h1], fun k hk => by simpa using h2 k (by omega) hk⟩
theorem bv_big {l : List UInt8} (h : isNum l = true) (h2 : 2 ≤ l.length) : 10 ^ (l.length - 1) ≤ bv l := by
  match l, h2 with
  | c :: r, h2 =>
    simp only [isNum, Bool.and_eq_true, Bool.or_eq_true, beq_iff_eq, bne_iff_ne, ne_eq, List.head?_cons, Option.some.injEq] at h
    obtain ⟨h3, h4⟩ := h
    have h5 : ¬ c = 48 := by
      rcases h4 with h4 | h4
      · rw [h4] at h2; simp at h2
      · exact h4.2
    have h6 := (List.all_eq_true.1 h3) c (by simp)
    simp only [isDig, Bool.and_eq_true, decide_eq_true_eq] at h6
    have h7 : c.toNat ≠ 48 := fun e => h5 (UInt8.toNat_inj.1 (by simpa using e))
    rw [bv_cons, List.length_cons, Nat.add_sub_cancel]
    have : 1 * 10 ^ r.length ≤ (c.toNat - 48) * 10 ^ r.length := Nat.mul_le_mul_right _ (by omega)
    omega
theorem leafP_far {q : List UInt8} (hq : q.length ≤ 1048576) (h : ∀ k (hk : k < q.length), k < 8 → q[k] ≠ 58) : leafN q = none := by
  suffices leafP q = none by simp [leafN, this]
  cases hc : colon q with
  | none => simp [leafP, hc]
  | some i =>
    have hi := colon_lt hc
    have h58 : q[i] = 58 := by
      unfold colon at hc
      rw [List.findIdx?_eq_some_iff_getElem] at hc
      simpa using hc.2.1
    have h8 : 8 ≤ i := by
      by_cases hh : i < 8
      · exact absurd h58 (h i hi hh)
      · omega
    simp only [leafP, hc]
    split
    · rename_i hh
      have e := bv_big hh.1 (by simp; omega)
      have e2 := hh.2
      have e3 : (10 : Nat) ^ 7 ≤ 10 ^ ((q.take i).length - 1) := Nat.pow_le_pow_right (by omega) (by simp; omega)
      simp at e2
      omega
    · rfl
theorem bv_lt {l : List UInt8} (h : allDig l = true) : bv l < 10 ^ l.length := by
  induction l with
  | nil => simp [bv]
  | cons c r ih =>
    have h1 := (List.all_eq_true.1 h) c (by simp)
    simp only [isDig, Bool.and_eq_true, decide_eq_true_eq] at h1
    have h2 : allDig r = true := by
      simp only [allDig, List.all_cons, Bool.and_eq_true] at h ⊢
      exact h.2
    have h3 := ih h2
    rw [bv_cons, List.length_cons, Nat.pow_succ]
    have : (c.toNat - 48) * 10 ^ r.length ≤ 9 * 10 ^ r.length := Nat.mul_le_mul_right _ (by omega)
    omega
theorem isNum_all {l : List UInt8} (h : isNum l = true) : allDig l = true := by
  simp only [isNum, Bool.and_eq_true] at h
  exact h.1
/-- What read ends with. -/
def ReadE (l : List UInt8) (o : Option (Nd × List UInt8)) (F : Nat → Prop) (e : Ending) (w' : World) : Prop := match o with
  | none => e = .returned (.tuple #[.agg #[.bool false, .string ⟨#[]⟩, .slice none 0 0], .int .i64 (-1)])
  | some (n, r) => ∃ a b c, e = .returned (.tuple #[.agg #[a, b, c], .int .i64 ((l.length : Int) - (r.length : Int))]) ∧ NAt w' F n a b c
theorem read_end (l : List UInt8) (d : Int) (w : World) :
    Calls Try.prog 15 #[S l, .int .i64 (l.length : Int), .int .i64 d] w fun e w' => Below w.heap.size w w' ∧ e = .returned (.tuple #[.agg #[.bool false, .string ⟨#[]⟩, .slice none 0 0], .int .i64 (-1)]) := by
  have hsz := size_S l
  go_enter Try.func15, Try.ntmps15
  go_wp2_with fail
  exact bodyPost_ret (v := .tuple #[.agg #[.bool false, .string ⟨#[]⟩, .slice none 0 0], .int .i64 (-1)]) (results_row2 Try.results15 _ _ w.heap.size 24 #[.bool false, .string ⟨#[]⟩, .slice none 0 0] (0, 0) _ rfl (heap_alloc_new w _) Try.underlying24 rfl size24) rfl ⟨(Below.refl _ w).alloc (Nat.le_refl _) _, rfl⟩
set_option maxHeartbeats 4000000 in
theorem read_leaf (l : List UInt8) (p : Nat) (d : Int) (w : World) (hl : l.length ≤ 1048576) (hp : p < l.length) (hh : ¬ (l.drop p).head? = some 40) :
    Calls Try.prog 15 #[S l, .int .i64 (p : Int), .int .i64 d] w fun e w' => Below w.heap.size w w' ∧ ReadE l (leafN (l.drop p)) (fun k => w.heap.size ≤ k) e w' := by
  have hsz := size_S l
  have hb := get_bt ⟨l.toArray⟩
  have h40 : ¬ bt ⟨l.toArray⟩ p = 40 := by
    rw [bt_S l p hp]
    intro e
    exact hh (by rw [List.head?_drop, List.getElem?_eq_getElem hp]; congr 1; exact UInt8.toNat_inj.1 (by show _ = 40; omega))
  have pl : (p : Int) < (l.length : Int) := by omega
  have p2 : ¬ l.length ≤ p := by omega
  have p3 : decide (l.length ≤ p) = false := by simpa using p2
  have h40' : (bt ⟨l.toArray⟩ p == 40) = false := by simpa using h40
  have J : Hid (Below w.heap.size w (w.alloc zN)) := (Below.refl _ w).alloc (Nat.le_refl _) _
  have Z : Hid ((w.alloc zN).heap[w.heap.size]? = some zN) := heap_alloc_new w _
  clear hh
  go_enter Try.func15, Try.ntmps15
  go_wp2_with fail
  go_loopg [11] 8 (fun gk v11 wr => ∃ m : Nat, p ≤ m ∧ m + gk = p + 8 ∧ v11 = .int .i64 (m : Int) ∧ m ≤ l.length ∧ (∀ k, p ≤ k → k < m → bt ⟨l.toArray⟩ k ≠ 58) ∧ wr = w.alloc zN)
  case atStart => exact ⟨p, by omega, by omega, rfl, by omega, fun k h1 h2 => by omega, rfl⟩
  case round =>
    obtain ⟨m, hpm, hjg, rfl, hml, hno, rfl⟩ := hrel
    have NO : Hid (∀ k, p ≤ k → k < m → bt ⟨l.toArray⟩ k ≠ 58) := hno
    have FAR : Hid (m = p + 8 ∨ m = l.length → leafN (l.drop p) = none) := fun h => leafP_far (by simp; omega) (fun k hk h8 e => by
      simp at hk
      have := hno (p + k) (by omega) (by omega)
      rw [bt_S l (p + k) (by omega)] at this
      rw [List.getElem_drop] at e
      rw [e] at this
      exact this rfl)
    clear hno
    by_cases hend : m = l.length
    · have HR : Hid (leafN (l.drop p) = none) := FAR.out (Or.inr hend)
      have k1 : ¬ (m : Int) < (l.length : Int) := by omega
      have k2 : (l.length : Int) ≤ (m : Int) := by omega
      clear hend
      go_wp2_with fail
      exact bodyPost_ret (v := .tuple #[.agg #[.bool false, .string ⟨#[]⟩, .slice none 0 0], .int .i64 (-1)]) (results_row2 Try.results15 _ _ w.heap.size 24 #[.bool false, .string ⟨#[]⟩, .slice none 0 0] (0, 0) _ rfl Z.out Try.underlying24 rfl size24) rfl ⟨J.out, by rw [HR.out]; rfl⟩
    · have k1 : (m : Int) < (l.length : Int) := by omega
      have k2 : ¬ (l.length : Int) ≤ (m : Int) := by omega
      have k5 : m < l.length := by omega
      by_cases h58 : bt ⟨l.toArray⟩ m = 58
      · have hcol : Hid (colon (l.drop p) = some (m - p)) := colon_at (by simp; omega) (by
            rw [List.getElem_drop]
            have := bt_S l m k5
            rw [h58] at this
            simp only [show p + (m - p) = m by omega]
            exact UInt8.toNat_inj.1 (by show _ = 58; omega)) (fun k hk h8 e => by
              simp at hk
              have := NO.out (p + k) (by omega) (by omega)
              rw [bt_S l (p + k) (by omega)] at this
              rw [List.getElem_drop] at e
              rw [e] at this
              exact this rfl)
        have hx : (⟨l.toArray⟩ : ByteArray).extract p m = ⟨((l.drop p).take (m - p)).toArray⟩ := by rw [ext_S, List.drop_take]
        have htl : Hid (((l.drop p).take (m - p)).length = m - p) := by show _ = _; simp; omega
        have HT : Hid (∀ i (h : i < m - p), ((l.drop p).take (m - p))[i]'(by rw [htl.out]; exact h) = l[p + i]) := fun i h => by simp
        have his := fun w1 => is_S ((l.drop p).take (m - p)) w1 (by rw [htl.out]; omega)
        have k6 : (bt ⟨l.toArray⟩ m == 58) = true := by simpa using h58
        have LN : Hid (leafN (l.drop p) = if isNum ((l.drop p).take (m - p)) = true ∧ bv ((l.drop p).take (m - p)) ≤ l.length - m - 1 then some (.leaf ((l.drop (m + 1)).take (bv ((l.drop p).take (m - p)))), (l.drop (m + 1)).drop (bv ((l.drop p).take (m - p)))) else none) := by
          show _ = _
          have e0 : (l.drop p).drop (m - p + 1) = l.drop (m + 1) := by rw [List.drop_drop]; congr 1; omega
          have e1 : (l.drop (m + 1)).length = l.length - m - 1 := by simp; omega
          simp only [leafN, leafP, hcol.out, e0, e1]
          split <;> simp_all
        generalize (l.drop p).take (m - p) = t at *
        by_cases h8 : m = p + 8
        · have HR : Hid (leafN (l.drop p) = none) := FAR.out (Or.inl h8)
          have k7 : ¬ (m : Int) - (p : Int) < 8 := by omega
          have k8 : (7 : Int) < (m : Int) - (p : Int) := by omega
          clear h8 hend
          cases hq : isNum t with
          | false =>
            rw [hq] at his
            go_wp2_with (go_at_call 28; refine (his _).mono ?_; rintro e w1 ⟨rfl, rfl⟩)
            exact bodyPost_ret (v := .tuple #[.agg #[.bool false, .string ⟨#[]⟩, .slice none 0 0], .int .i64 (-1)]) (results_row2 Try.results15 _ _ w.heap.size 24 #[.bool false, .string ⟨#[]⟩, .slice none 0 0] (0, 0) _ rfl Z.out Try.underlying24 rfl size24) rfl ⟨J.out, by rw [HR.out]; rfl⟩
          | true =>
            rw [hq] at his
            go_wp2_with (go_at_call 28; refine (his _).mono ?_; rintro e w1 ⟨rfl, rfl⟩)
            exact bodyPost_ret (v := .tuple #[.agg #[.bool false, .string ⟨#[]⟩, .slice none 0 0], .int .i64 (-1)]) (results_row2 Try.results15 _ _ w.heap.size 24 #[.bool false, .string ⟨#[]⟩, .slice none 0 0] (0, 0) _ rfl Z.out Try.underlying24 rfl size24) rfl ⟨J.out, by rw [HR.out]; rfl⟩
        · have k7 : (m : Int) - (p : Int) < 8 := by omega
          have k8 : ¬ (7 : Int) < (m : Int) - (p : Int) := by omega
          clear hend
          cases hq : isNum t with
          | false =>
            have HR : Hid (leafN (l.drop p) = none) := by show _ = _; rw [LN.out, hq]; simp
            rw [hq] at his
            go_wp2_with (go_at_call 28; refine (his _).mono ?_; rintro e w1 ⟨rfl, rfl⟩)
            exact bodyPost_ret (v := .tuple #[.agg #[.bool false, .string ⟨#[]⟩, .slice none 0 0], .int .i64 (-1)]) (results_row2 Try.results15 _ _ w.heap.size 24 #[.bool false, .string ⟨#[]⟩, .slice none 0 0] (0, 0) _ rfl Z.out Try.underlying24 rfl size24) rfl ⟨J.out, by rw [HR.out]; rfl⟩
          | true =>
            have hall := isNum_all hq
            rw [hq] at his
            have LN2 : Hid (leafN (l.drop p) = if bv t ≤ l.length - m - 1 then some (.leaf ((l.drop (m + 1)).take (bv t)), (l.drop (m + 1)).drop (bv t)) else none) := by show _ = _; rw [LN.out, hq]; simp
            clear LN FAR NO hcol
            have hbt : bv t < 10000000 := by
              have := bv_lt hall
              rw [htl.out] at this
              exact Nat.lt_of_lt_of_le this (Nat.le_trans (Nat.pow_le_pow_right (by omega) (show m - p ≤ 7 by omega)) (by decide))
            have HDG : Hid (∀ i (h : i < m - p), 48 ≤ bt ⟨l.toArray⟩ (p + i) ∧ bt ⟨l.toArray⟩ (p + i) ≤ 57 ∧ (bv (t.take (i + 1)) : Int) = 10 * (bv (t.take i) : Int) + bt ⟨l.toArray⟩ (p + i) - 48) := fun i h => by
              have h1 := (List.all_eq_true.1 hall) (t[i]'(by rw [htl.out]; exact h)) (List.getElem_mem _)
              simp only [isDig, Bool.and_eq_true, decide_eq_true_eq] at h1
              rw [bv_take_succ t i (by rw [htl.out]; exact h), bt_S l (p + i) (by omega)]
              rw [HT.out i h] at h1 ⊢
              omega
            have HTF : Hid (t.take (m - p) = t) := by show _ = _; exact List.take_of_length_le (by rw [htl.out]; omega)
            have HLE : Hid (∀ i, bv (t.take i) ≤ bv t) := fun i => bv_take_le t i
            clear hall hq
            go_wp2_with (go_at_call 28; refine (his _).mono ?_; rintro e w1 ⟨rfl, rfl⟩)
            go_loopg [12, 13] (m - p) (fun gk v12 v13 wr => ∃ c : Nat, p ≤ c ∧ c + gk = m ∧ v12 = .int .i64 (bv (t.take (c - p)) : Int) ∧ v13 = .int .i64 (c : Int) ∧ wr = w.alloc zN)
            case atStart => exact ⟨p, by omega, by omega, by simp [bv], rfl, rfl⟩
            case round =>
              obtain ⟨c, hpc, hcg, rfl, rfl, rfl⟩ := hrel
              by_cases hcm : c < m
              · have q1 : (c : Int) < (m : Int) := by omega
                obtain ⟨d1, d2, d3⟩ := HDG.out (c - p) (by omega)
                rw [show p + (c - p) = c by omega] at d1 d2 d3
                have x9 := HLE.out (c - p)
                have x8 := HLE.out (c - p + 1)
                have XX : Hid ((bv (t.take (c - p + 1)) : Int) = 10 * (bv (t.take (c - p)) : Int) + bt ⟨l.toArray⟩ c - 48) := d3
                clear d3
                have XC : Hid (c + 1 - p = c - p + 1) := by show _ = _; omega
                have cl : c < l.length := by omega
                have cl2 : (c : Int) < (l.length : Int) := by omega
                generalize bv (t.take (c - p)) = x at *
                generalize hx' : bv (t.take (c - p + 1)) = x' at *
                have HX' : Hid (bv (t.take (c - p + 1)) = x') := hx'
                clear hx'
                go_wp2_with fail
                go_roundg (gk - 1)
                case measure => omega
                case rel => exact ⟨c + 1, by omega, by omega, by rw [XC.out, HX'.out, XX.out], by go_num, rfl⟩
              · obtain rfl : c = m := by omega
                have HB : Hid (bv (t.take (c - p)) = bv t) := by show _ = _; rw [HTF.out]
                rw [HB.out]
                generalize hn : bv t = n at *
                have q1 : ¬ (c : Int) < (c : Int) := by omega
                by_cases hbig : n ≤ l.length - c - 1
                · have HR : Hid (leafN (l.drop p) = some (.leaf ((l.drop (c + 1)).take n), (l.drop (c + 1)).drop n)) := by show _ = _; rw [LN2.out, if_pos hbig]
                  have q2 : ¬ (l.length : Int) - (c : Int) - 1 < (n : Int) := by omega
                  have q3 : c + 1 + n ≤ l.length := by omega
                  have hy : (⟨l.toArray⟩ : ByteArray).extract (c + 1) (c + 1 + n) = ⟨((l.drop (c + 1)).take n).toArray⟩ := by rw [ext_S, List.drop_take]; congr 3; omega
                  have hlen : Hid ((l.length : Int) - (((l.drop (c + 1)).drop n).length : Int) = (c : Int) + 1 + (n : Int)) := by show _ = _; simp; omega
                  go_wp2_with fail
                  exact bodyPost_ret (v := .tuple #[.agg #[.bool true, S ((l.drop (c + 1)).take n), .slice none 0 0], .int .i64 ((c : Int) + 1 + (n : Int))]) (results_row2 Try.results15 _ _ w.heap.size 24 #[.bool true, S ((l.drop (c + 1)).take n), .slice none 0 0] (0, 0) _ rfl (heap_alloc_new w _) Try.underlying24 rfl size24) rfl ⟨(Below.refl _ w).alloc (Nat.le_refl _) _, by rw [HR.out]; exact ⟨_, _, _, by rw [hlen.out], .leaf _⟩⟩
                · have HR : Hid (leafN (l.drop p) = none) := by show _ = _; rw [LN2.out, if_neg hbig]
                  have q2 : (l.length : Int) - (c : Int) - 1 < (n : Int) := by omega
                  go_wp2_with fail
                  exact bodyPost_ret (v := .tuple #[.agg #[.bool false, .string ⟨#[]⟩, .slice none 0 0], .int .i64 (-1)]) (results_row2 Try.results15 _ _ w.heap.size 24 #[.bool false, .string ⟨#[]⟩, .slice none 0 0] (0, 0) _ rfl Z.out Try.underlying24 rfl size24) rfl ⟨J.out, by rw [HR.out]; rfl⟩
      · have k6 : (bt ⟨l.toArray⟩ m == 58) = false := by simpa using h58
        by_cases h8 : m = p + 8
        · have HR : Hid (leafN (l.drop p) = none) := FAR.out (Or.inl h8)
          have k7 : ¬ (m : Int) - (p : Int) < 8 := by omega
          clear h8 hend
          go_wp2_with fail
          exact bodyPost_ret (v := .tuple #[.agg #[.bool false, .string ⟨#[]⟩, .slice none 0 0], .int .i64 (-1)]) (results_row2 Try.results15 _ _ w.heap.size 24 #[.bool false, .string ⟨#[]⟩, .slice none 0 0] (0, 0) _ rfl Z.out Try.underlying24 rfl size24) rfl ⟨J.out, by rw [HR.out]; rfl⟩
        · have k7 : (m : Int) - (p : Int) < 8 := by omega
          have NO2 : Hid (∀ k, p ≤ k → k < m + 1 → bt ⟨l.toArray⟩ k ≠ 58) := fun k h1 h2 => by
            by_cases hk : k = m
            · rw [hk]; exact h58
            · exact NO.out k h1 (by omega)
          go_wp2_with fail
          go_roundg (gk - 1)
          case measure => omega
          case rel => exact ⟨m + 1, by omega, by omega, by go_num, by omega, NO2.out, rfl⟩
end Go.Proofs.Ytlogilmeefcipaa
