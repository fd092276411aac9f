/- The document's Fits. -/
import Derived.Test.YtcdmndcpjememaaFits
set_option linter.unusedSimpArgs false
set_option linter.unusedVariables false
set_option maxRecDepth 100000
namespace Go.Proofs.Ytcdmndcpjememaa
open Go.RowKit Go.Deep Go.PlainAid

/-- All are from 0 to T. -/
def within (T : Int) (l : List Int) : Bool := l.all fun x => decide (0 ≤ x ∧ x ≤ T)
theorem within_take {T : Int} {l : List Int} {i : Nat} (h : i < l.length) : within T (l.take (i + 1)) = (within T (l.take i) && decide (0 ≤ l[i] ∧ l[i] ≤ T)) := by
  unfold within
  rw [List.take_succ_eq_append_getElem h, List.all_append, List.all_cons, List.all_nil, Bool.and_true]
theorem within_no {T : Int} {l : List Int} {i : Nat} (h : i < l.length) (hb : ¬ (0 ≤ l[i] ∧ l[i] ≤ T)) : within T l = false := by
  unfold within
  rw [List.all_eq_false]
  exact ⟨l[i], List.getElem_mem h, by simpa using hb⟩
theorem within_one (l : List Int) : within 1 l = bits l := by
  unfold within bits
  congr 1
  funext x
  by_cases h0 : x = 0
  · subst h0; rfl
  · by_cases h1 : x = 1
    · subst h1; rfl
    · have a : (x == 0) = false := by simpa using h0
      have b : (x == 1) = false := by simpa using h1
      rw [a, b]
      simp
      omega
theorem within_iff {T : Int} {l : List Int} : within T l = true ↔ ∀ x ∈ l, 0 ≤ x ∧ x ≤ T := by
  unfold within; simp
theorem rank_out {l : List Int} (h : within (l.length : Int) l = false) : rankB l = false := rankB_no fun hr => by
  rw [within_iff.2 ((ranked_iff l).1 hr).1] at h; cases h
theorem rank_yes {l : List Int} (h : within (l.length : Int) l = true) (hc : ∀ n : Nat, 1 ≤ n → n ≤ nz l → l.count (n : Int) = 1) : rankB l = true := rankB_yes ((ranked_iff l).2 ⟨within_iff.1 h, hc⟩)
theorem rank_no {l : List Int} {n : Nat} (h1 : 1 ≤ n) (h2 : n ≤ nz l) (hc : ¬ l.count (n : Int) = 1) : rankB l = false := rankB_no fun hr => hc (((ranked_iff l).1 hr).2 n h1 h2)
theorem fitsV_rank {l : List Int} {r m : Int} (h : rk r = true) {t : Bool} (ht : rankB l = t) : fitsV l l.length r m = if t then 0 else 4 := by
  unfold fitsV fitsB; rw [if_pos rfl, h, ← ht]; rfl
theorem fitsV_out {l : List Int} {r m : Int} {t : Bool} (h : rk r = t) (ho : within (if t then (l.length : Int) else 1) l = false) : fitsV l l.length r m = 4 := by
  unfold fitsV fitsB
  rw [if_pos rfl, h]
  cases t with
  | true => simp only [if_true] at ho ⊢; rw [rank_out ho]; rfl
  | false => simp only [Bool.false_eq_true, if_false] at ho ⊢; rw [← within_one, ho]; rfl
theorem fitsV_marks {l : List Int} {r m : Int} (h : rk r = false) (ho : within 1 l = true) {t : Bool} (ht : (r == 1 && decide (m < (nz l : Int))) = t) : fitsV l l.length r m = if t then 4 else 0 := by
  unfold fitsV fitsB
  rw [if_pos rfl, h, ← within_one, ho, ← ht]
  by_cases h1 : r = 1
  · subst h1
    by_cases h2 : (nz l : Int) ≤ m
    · have h3 : ¬ m < (nz l : Int) := by omega
      simp [h2]
    · have h3 : m < (nz l : Int) := by omega
      simp [h2, h3]
  · have h4 : (r == 1) = false := by simpa using h1
    simp [h4]
    intro h5
    exact absurd h5 h1
theorem nz_int (l : List Int) : (l.length : Int) - (l.count 0 : Nat) = (nz l : Int) := by
  have := nz_count l
  have := List.count_le_length (a := (0 : Int)) (l := l)
  omega
set_option maxHeartbeats 4000000 in
theorem fits5 (nm : ByteArray) (ca : Option Addr) (n cc : Nat) (r s m : Int) {w : World} {a : Option Addr} {l : List Int} {c : Nat} (hn : n ≤ 1000) (hs : IL w a l) :
    Calls Try.prog 28 #[CV nm ca n cc r s m, .slice a l.length c] w fun e w' => e = .returned (.int .i64 (fitsV l n r m)) ∧ Below w.heap.size w w' := by
  have B0 : Hid (Below w.heap.size w (w.alloc (.cells #[.string nm, .slice ca n cc, .int .i64 r, .int .i64 s, .int .i64 m] 24))) := (Below.refl _ _).alloc (Nat.le_refl _) _
  have I0 : Hid (IHolds (w.alloc (.cells #[.string nm, .slice ca n cc, .int .i64 r, .int .i64 s, .int .i64 m] 24)) w.heap.size 24 [.string nm, .slice ca n cc, .int .i64 r, .int .i64 s, .int .i64 m]) := IHolds.new _ _ _
  by_cases hl : l.length = n
  · subst hl
    have H7 : Hid _ := top7 nm ca l.length cc r s m
    have H9 : Hid _ := ranks9 nm ca l.length cc r s m
    have H8 : Hid (∀ W, Below w.heap.size w W → ∀ x, Calls Try.prog 38 #[.slice a l.length c, .int .i64 x] W fun e w' => e = .returned (.int .i64 (l.count x : Nat)) ∧ w' = W) := fun W hB x => times8 x hn (hs.of_below hB)
    have HS : Hid (IL w a l) := hs
    have HO : Hid (∀ t, rk r = t → within (if t then (l.length : Int) else 1) l = false → fitsV l l.length r m = 4) := fun t h1 h2 => fitsV_out h1 h2
    have HK : Hid (rk r = true → ∀ t, rankB l = t → fitsV l l.length r m = if t then 0 else 4) := fun h t => fitsV_rank h
    have HM : Hid (rk r = false → within 1 l = true → ∀ t, (r == 1 && decide (m < (nz l : Int))) = t → fitsV l l.length r m = if t then 4 else 0) := fun h1 h2 t => fitsV_marks h1 h2
    generalize fitsV l l.length r m = V at *
    clear hs
    unfold CV at *
    generalize rk r = t at *
    obtain ⟨T, hT⟩ : ∃ T : Int, T = if t then (l.length : Int) else 1 := ⟨_, rfl⟩
    simp only [← hT] at H7
    have HO' : Hid (within T l = false → V = 4) := by rw [hT]; exact HO.out t rfl
    have HTT : Hid (T = if t then (l.length : Int) else 1) := hT
    clear HO hT
    go_enter Try.func28, Try.ntmps28
    go_wp2_with fail
    go_loopg [6, 17] l.length (fun gk v6 v17 wr => ∃ i : Nat, i + gk = l.length ∧ v17 = .int .i64 (i : Int) ∧ IHolds wr w.heap.size 24 [.string nm, .slice ca l.length cc, .int .i64 r, .int .i64 s, .int .i64 m] ∧ Below w.heap.size w wr ∧ within T (l.take i) = true)
    case atStart => exact ⟨0, by omega, rfl, I0.out, B0.out, by simp [within]⟩
    case round =>
      obtain ⟨i, hig, rfl, hI, hB, hW⟩ := hrel
      have I1 : Hid (IHolds wr w.heap.size 24 [.string nm, .slice ca l.length cc, .int .i64 r, .int .i64 s, .int .i64 m]) := hI
      have B1 : Hid (Below w.heap.size w wr) := hB
      have HW : Hid _ := hW
      clear hI hB hW I0 B0
      obtain ⟨q0, q1, q2, q3, q4⟩ := five I1.out
      by_cases hi : i < l.length
      · obtain ⟨b, o, rfl, hc⟩ := HS.out.of_below B1.out i hi
        have il : (i : Int) < (l.length : Int) := by omega
        have HT : Hid _ := within_take (T := T) hi
        have HN : Hid _ := within_no (T := T) hi
        generalize l[i] = y at *
        by_cases h0 : y < 0
        · have e : Hid (V = 4) := HO'.out (HN.out (by omega))
          go_wp2_with fail
          go_ret
          exact ⟨by rw [e.out]; rfl, B1.out⟩
        · by_cases h1 : T < y
          · have e : Hid (V = 4) := HO'.out (HN.out (by omega))
            go_wp2_with (go_at_call 37; refine (H7.out _).mono ?_; rintro e w2 ⟨rfl, hB2⟩; have B2 : Hid (Below w.heap.size w w2) := B1.out.trans (hB2.mono B1.out.size); clear hB2)
            go_ret
            exact ⟨by rw [e.out]; rfl, B2.out⟩
          · have e : Hid (within T (l.take (i + 1)) = true) := by
              rw [HT.out, HW.out, decide_eq_true (by omega)]; rfl
            go_wp2_with (go_at_call 37; refine (H7.out _).mono ?_; rintro e w2 ⟨rfl, hB2⟩; have B2 : Hid (Below w.heap.size w w2) := B1.out.trans (hB2.mono B1.out.size); have I2 : Hid (IHolds w2 w.heap.size 24 [.string nm, .slice ca l.length cc, .int .i64 r, .int .i64 s, .int .i64 m]) := I1.out.of_below hB2; clear hB2)
            go_roundg (gk - 1)
            case measure => omega
            case rel => exact ⟨i + 1, by omega, by go_num, I2.out, B2.out, e.out⟩
      · have il : ¬ (i : Int) < (l.length : Int) := by omega
        have e : i = l.length := by omega
        have HWL : Hid (within T l = true) := by have := HW.out; rw [e, List.take_length] at this; exact this
        clear e HW hi hig HO'
        have hnz : (l.length : Int) - (l.count 0 : Nat) = (nz l : Int) := nz_int l
        have hle : nz l ≤ 1000 := Nat.le_trans (nz_le _) hn
        have hc1000 : l.count 0 ≤ 1000 := Nat.le_trans List.count_le_length hn
        cases t with
        | false =>
          have HMM : Hid _ := HM.out rfl (by have := HTT.out; simp at this; rw [← this]; exact HWL.out)
          cases hr : (r == 1) with
          | false =>
            rw [hr] at HMM
            have e : Hid (V = 0) := HMM.out false rfl
            go_wp2_with (first
              | (go_at_call 38; refine (H8.out _ B1.out _).mono ?_; rintro e w2 ⟨rfl, rfl⟩)
              | (go_at_call 39; refine (H9.out _).mono ?_; rintro e w3 ⟨rfl, hB3⟩; have B3 : Hid (Below w.heap.size w w3) := B1.out.trans (hB3.mono B1.out.size); have I3 : Hid (IHolds w3 w.heap.size 24 [.string nm, .slice ca l.length cc, .int .i64 r, .int .i64 s, .int .i64 m]) := I1.out.of_below hB3; obtain ⟨p0, p1, p2, p3, p4⟩ := five I3.out; clear hB3))
            go_ret
            exact ⟨by rw [e.out]; rfl, B3.out⟩
          | true =>
            rw [hr] at HMM
            cases hd : decide (m < (nz l : Int)) with
            | true =>
              have e : Hid (V = 4) := HMM.out true (by rw [hd]; rfl)
              have hd' : m < (nz l : Int) := of_decide_eq_true hd
              clear hd
              generalize nz l = N at *
              go_wp2_with (first
                | (go_at_call 38; refine (H8.out _ B1.out _).mono ?_; rintro e w2 ⟨rfl, rfl⟩)
                | (go_at_call 39; refine (H9.out _).mono ?_; rintro e w3 ⟨rfl, hB3⟩; have B3 : Hid (Below w.heap.size w w3) := B1.out.trans (hB3.mono B1.out.size); have I3 : Hid (IHolds w3 w.heap.size 24 [.string nm, .slice ca l.length cc, .int .i64 r, .int .i64 s, .int .i64 m]) := I1.out.of_below hB3; obtain ⟨p0, p1, p2, p3, p4⟩ := five I3.out; clear hB3))
              go_ret
              exact ⟨by rw [e.out]; rfl, B3.out⟩
            | false =>
              have e : Hid (V = 0) := HMM.out false (by rw [hd]; rfl)
              have hd' : ¬ m < (nz l : Int) := of_decide_eq_false hd
              clear hd
              generalize nz l = N at *
              go_wp2_with (first
                | (go_at_call 38; refine (H8.out _ B1.out _).mono ?_; rintro e w2 ⟨rfl, rfl⟩)
                | (go_at_call 39; refine (H9.out _).mono ?_; rintro e w3 ⟨rfl, hB3⟩; have B3 : Hid (Below w.heap.size w w3) := B1.out.trans (hB3.mono B1.out.size); have I3 : Hid (IHolds w3 w.heap.size 24 [.string nm, .slice ca l.length cc, .int .i64 r, .int .i64 s, .int .i64 m]) := I1.out.of_below hB3; obtain ⟨p0, p1, p2, p3, p4⟩ := five I3.out; clear hB3))
              go_ret
              exact ⟨by rw [e.out]; rfl, B3.out⟩
        | true =>
          have HY : Hid ((∀ n : Nat, 1 ≤ n → n ≤ nz l → l.count (n : Int) = 1) → V = 0) := fun h => HK.out rfl true (rank_yes (by have := HTT.out; simp at this; rw [← this]; exact HWL.out) h)
          have HX : Hid (∀ n : Nat, 1 ≤ n → n ≤ nz l → ¬ l.count (n : Int) = 1 → V = 4) := fun n h1 h2 h3 => HK.out rfl false (rank_no h1 h2 h3)
          have HC : Hid (∀ x : Int, l.count x ≤ 1000) := fun x => Nat.le_trans List.count_le_length hn
          clear HK HM HTT HWL
          generalize nz l = N at *
          go_wp2_with (first
            | (go_at_call 38; refine (H8.out _ B1.out _).mono ?_; rintro e w2 ⟨rfl, rfl⟩)
            | (go_at_call 39; refine (H9.out _).mono ?_; rintro e w3 ⟨rfl, hB3⟩; have B3 : Hid (Below w.heap.size w w3) := B1.out.trans (hB3.mono B1.out.size); clear hB3))
          clear q0 q1 q2 q3 q4 hnz hc1000 H7 H9
          go_loopg [8] N (fun gk v8 wr => ∃ n : Nat, n + gk = N + 1 ∧ 1 ≤ n ∧ v8 = .int .i64 (n : Int) ∧ (∀ j : Nat, 1 ≤ j → j < n → l.count (j : Int) = 1) ∧ wr = w3)
          case atStart => exact ⟨1, by omega, by omega, rfl, fun j a b => by omega, rfl⟩
          case round =>
            obtain ⟨n, hng, hn1, rfl, hj, rfl⟩ := hrel
            have HJ : Hid _ := hj
            clear hj
            by_cases hnN : n ≤ N
            · have hnN' : (n : Int) ≤ (N : Int) := by omega
              have hcall := H8.out _ B3.out (n : Int)
              have hcx := HC.out (n : Int)
              have HX' : Hid _ := HX.out n hn1 hnN
              have HJ' : Hid (l.count (n : Int) = 1 → ∀ j : Nat, 1 ≤ j → j < n + 1 → l.count (j : Int) = 1) := fun h j a b => by
                by_cases hjn : j = n
                · subst hjn; exact h
                · exact HJ.out j a (by omega)
              generalize l.count (n : Int) = k at *
              by_cases hk : k = 1
              · subst hk
                have HJ2 : Hid _ := HJ'.out rfl
                clear hcx
                go_wp2_with (go_at_call 38; refine hcall.mono ?_; rintro e w4 ⟨rfl, rfl⟩)
                go_roundg (gk - 1)
                case measure => omega
                case rel => exact ⟨n + 1, by omega, by omega, by go_num, HJ2.out, rfl⟩
              · have e : Hid (V = 4) := HX'.out hk
                have hk' : ((k : Int) != 1) = true := by simp; omega
                go_wp2_with (go_at_call 38; refine hcall.mono ?_; rintro e w4 ⟨rfl, rfl⟩)
                go_ret
                exact ⟨by rw [e.out]; rfl, B3.out⟩
            · have hnN' : ¬ (n : Int) ≤ (N : Int) := by omega
              have e : Hid (V = 0) := HY.out fun j a b => HJ.out j a (by omega)
              go_wp2_with fail
              go_ret
              exact ⟨by rw [e.out]; rfl, B3.out⟩
  · unfold CV fitsV
    rw [if_neg hl]
    have hb : ((l.length : Int) != (n : Int)) = true := by simp; omega
    go_enter Try.func28, Try.ntmps28
    go_wp2_with fail
    go_ret
    exact ⟨rfl, B0.out⟩
end Go.Proofs.Ytcdmndcpjememaa
