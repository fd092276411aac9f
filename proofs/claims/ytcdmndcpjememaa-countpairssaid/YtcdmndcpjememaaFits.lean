/- Fits: the program's and the document's. -/
import Derived.Test.YtcdmndcpjememaaRank
set_option linter.unusedSimpArgs false
set_option linter.unusedVariables false
set_option maxRecDepth 100000
namespace Go.Proofs.Ytcdmndcpjememaa
open Go.RowKit Go.Deep Go.PlainAid

/-- Marks of which each is 0 or 1. -/
def bits (l : List Int) : Bool := l.all fun x => x == 0 || x == 1
/-- What fits. -/
noncomputable def fitsB (l : List Int) (r m : Int) : Bool := if rk r then rankB l else bits l && (r != 1 || decide ((nz l : Int) ≤ m))
theorem bits_take {l : List Int} {i : Nat} (h : i < l.length) : bits (l.take (i + 1)) = (bits (l.take i) && (l[i] == 0 || l[i] == 1)) := by
  unfold bits
  rw [List.take_succ_eq_append_getElem h, List.all_append, List.all_cons, List.all_nil, Bool.and_true]
theorem bits_no {l : List Int} {i : Nat} (h : i < l.length) (hb : (l[i] == 0 || l[i] == 1) = false) : bits l = false := by
  unfold bits
  rw [List.all_eq_false]
  exact ⟨l[i], List.getElem_mem h, by simpa using hb⟩
theorem five {W : World} {b : Nat} {t : TypeId} {x y z u v : Value} (h : IHolds W b t [x, y, z, u, v]) : W.cell? ⟨b, 0, none⟩ = some x ∧ W.cell? ⟨b, 1, none⟩ = some y ∧ W.cell? ⟨b, 2, none⟩ = some z ∧ W.cell? ⟨b, 3, none⟩ = some u ∧ W.cell? ⟨b, 4, none⟩ = some v := ⟨h.cell 0 (by simp), h.cell 1 (by simp), h.cell 2 (by simp), h.cell 3 (by simp), h.cell 4 (by simp)⟩
set_option maxHeartbeats 2000000 in
theorem fits6 (nm : ByteArray) (ca : Option Addr) (n cc : Nat) (r s m : Int) {w : World} {a : Option Addr} {l : List Int} {c : Nat} (hl : l.length ≤ 1000) (hs : IL w a l) :
    Calls Try.prog 41 #[CV nm ca n cc r s m, .slice a l.length c] w fun e w' => e = .returned (.bool (fitsB l r m)) ∧ Below w.heap.size w w' := by
  have HR : Hid _ := ranks10 nm ca n cc r s m
  have B0 : Hid (Below w.heap.size w (w.alloc (.cells #[.string nm, .slice ca n cc, .int .i64 r, .int .i64 s, .int .i64 m] 24))) := (Below.refl _ _).alloc (Nat.le_refl _) _
  have I0 : Hid (IHolds (w.alloc (.cells #[.string nm, .slice ca n cc, .int .i64 r, .int .i64 s, .int .i64 m] 24)) w.heap.size 24 [.string nm, .slice ca n cc, .int .i64 r, .int .i64 s, .int .i64 m]) := IHolds.new _ _ _
  have H11 : Hid (∀ W, Below w.heap.size w W → Calls Try.prog 44 #[.slice a l.length c] W fun e w' => e = .returned (.bool (rankB l)) ∧ Below W.heap.size W w') := fun W hB => ranked11 hl (hs.of_below hB)
  have HS : Hid (IL w a l) := hs
  clear hs
  unfold CV at *
  unfold fitsB
  cases hk : rk r with
  | true =>
    rw [hk] at HR
    generalize rankB l = q at *
    clear I0
    go_enter Try.func41, Try.ntmps41
    go_wp2_with (first
      | (go_at_call 43; refine (HR.out _).mono ?_; rintro e w1 ⟨rfl, hB1⟩; have B1 : Hid (Below w.heap.size w w1) := B0.out.trans (hB1.mono B0.out.size); clear hB1 B0)
      | (go_at_call 44; refine (H11.out _ B1.out).mono ?_; rintro e w2 ⟨rfl, hB2⟩; have B2 : Hid (Below w.heap.size w w2) := B1.out.trans (hB2.mono B1.out.size); clear hB2 B1))
    go_ret
    exact ⟨by simp, B2.out⟩
  | false =>
    rw [hk] at HR
    clear hk H11
    go_enter Try.func41, Try.ntmps41
    go_wp2_with (go_at_call 43; refine (HR.out _).mono ?_; rintro e w1 ⟨rfl, hB1⟩; have I1 : Hid (IHolds w1 w.heap.size 24 [.string nm, .slice ca n cc, .int .i64 r, .int .i64 s, .int .i64 m]) := I0.out.of_below hB1; have B1 : Hid (Below w.heap.size w w1) := B0.out.trans (hB1.mono B0.out.size); clear hB1 B0 I0)
    obtain ⟨_, _, q2, _, q4⟩ := five I1.out
    replace HS : Hid (IL w1 a l) := HS.out.of_below B1.out
    go_loopg [5, 7, 14] l.length (fun gk v5 v7 v14 wr => ∃ i : Nat, i + gk = l.length ∧ v14 = .int .i64 (i : Int) ∧ v5 = .int .i64 (nz (l.take i) : Nat) ∧ bits (l.take i) = true ∧ wr = w1)
    case atStart => exact ⟨0, by omega, rfl, by simp [nz], by simp [bits], rfl⟩
    case round =>
      obtain ⟨i, hig, rfl, rfl, hbt, rfl⟩ := hrel
      by_cases hi : i < l.length
      · obtain ⟨b, o, rfl, hc⟩ := HS.out i hi
        have il : (i : Int) < (l.length : Int) := by omega
        have HT : Hid _ := nz_take hi
        have HB : Hid _ := bits_take hi
        have HN : Hid _ := bits_no hi
        have HBT : Hid _ := hbt
        have hle : nz (l.take i) ≤ 1000 := Nat.le_trans (nz_le _) (by simp; omega)
        clear hbt
        generalize nz (l.take i) = k at *
        generalize l[i] = y at *
        by_cases h0 : y = 0
        · subst h0
          go_wp2_with fail
          go_roundg (gk - 1)
          case measure => omega
          case rel => exact ⟨i + 1, by omega, by go_num, by rw [HT.out]; simp, by rw [HB.out, HBT.out]; simp, rfl⟩
        · by_cases h1 : y = 1
          · subst h1
            go_wp2_with fail
            go_roundg (gk - 1)
            case measure => omega
            case rel => exact ⟨i + 1, by omega, by go_num, by rw [HT.out]; simp, by rw [HB.out, HBT.out]; simp, rfl⟩
          · have e : Hid (bits l = false) := HN.out (by simp [h0, h1])
            have hb0 : (y != 0) = true := by simpa using h0
            have hb1 : (y != 1) = true := by simpa using h1
            go_wp2_with fail
            go_ret
            exact ⟨by rw [e.out]; simp, B1.out⟩
      · have il : ¬ (i : Int) < (l.length : Int) := by omega
        have e : i = l.length := by omega
        rw [e, List.take_length] at hbt
        have e2 : nz (l.take i) = nz l := by rw [e, List.take_length]
        rw [e2]
        have HBT : Hid (bits l = true) := hbt
        clear e e2 hbt
        cases hr : (r != 1) with
        | true =>
          go_wp2_with fail
          go_ret
          exact ⟨by rw [HBT.out]; simp, B1.out⟩
        | false =>
          go_wp2_with fail
          go_ret
          exact ⟨by rw [HBT.out]; simp, B1.out⟩
/-- What Fits answers. -/
noncomputable def fitsV (l : List Int) (n : Nat) (r m : Int) : Int := if l.length = n then (if fitsB l r m then 0 else 4) else 2
set_option maxHeartbeats 2000000 in
theorem fits4 (nm : ByteArray) (ca : Option Addr) (n cc : Nat) (r s m : Int) {w : World} {a : Option Addr} {l : List Int} {c : Nat} (hn : n ≤ 1000) (hs : IL w a l) :
    Calls Try.prog 34 #[CV nm ca n cc r s m, .slice a l.length c] w fun e w' => e = .returned (.int .i64 (fitsV l n r m)) ∧ Below w.heap.size w w' := by
  have B0 : Hid (Below w.heap.size w (w.alloc (.cells #[.string nm, .slice ca n cc, .int .i64 r, .int .i64 s, .int .i64 m] 24))) := (Below.refl _ _).alloc (Nat.le_refl _) _
  have H6 : Hid (l.length ≤ 1000 → ∀ W, Below w.heap.size w W → Calls Try.prog 41 #[CV nm ca n cc r s m, .slice a l.length c] W fun e w' => e = .returned (.bool (fitsB l r m)) ∧ Below W.heap.size W w') := fun hl W hB => fits6 nm ca n cc r s m hl (hs.of_below hB)
  clear hs
  unfold CV fitsV at *
  by_cases hl : l.length = n
  · subst hl
    rw [if_pos rfl]
    have H : Hid _ := H6.out hn
    clear H6
    generalize fitsB l r m = q at *
    generalize l.length = n at *
    have hb : ((n : Int) != (n : Int)) = false := by simp
    cases q with
    | true =>
      go_enter Try.func34, Try.ntmps34
      go_wp2_with (go_at_call 41; refine (H.out _ B0.out).mono ?_; rintro e w1 ⟨rfl, hB1⟩; have B1 : Hid (Below w.heap.size w w1) := B0.out.trans (hB1.mono B0.out.size); clear hB1 B0)
      go_ret
      exact ⟨rfl, B1.out⟩
    | false =>
      go_enter Try.func34, Try.ntmps34
      go_wp2_with (go_at_call 41; refine (H.out _ B0.out).mono ?_; rintro e w1 ⟨rfl, hB1⟩; have B1 : Hid (Below w.heap.size w w1) := B0.out.trans (hB1.mono B0.out.size); clear hB1 B0)
      go_ret
      exact ⟨rfl, B1.out⟩
  · rw [if_neg hl]
    clear H6
    have hb : ((l.length : Int) != (n : Int)) = true := by simp; omega
    go_enter Try.func34, Try.ntmps34
    go_wp2_with fail
    go_ret
    exact ⟨rfl, B0.out⟩
end Go.Proofs.Ytcdmndcpjememaa
