/- Route, what is wrong with an order, and the law. -/
import Derived.Test.YtelfcapjegncfaaSh
import Derived.Test.YtelfcapjegncfaaTd
set_option linter.unusedSimpArgs false
set_option linter.unusedVariables false
set_option maxRecDepth 100000
namespace Go.Proofs.Ytelfcapjegncfaa
open Go.RowKit Go.Deep Go.PlainAid

/-- Numbers of whatever sign, as the cells hold them. -/
def zvs (l : List Int) : List Value := l.map (Value.int .i64)
theorem VL.zint {w : World} {a : Option Addr} {l : List Int} (h : VL w a (zvs l)) (i : Nat) (hi : i < l.length) : ∃ b o, a = some ⟨b, o, none⟩ ∧ w.cell? ⟨b, o + i, none⟩ = some (.int .i64 (l.getD i 0)) := h i _ (by simp [zvs, hi])
/-- The first i are numbers from 0 on below the length, and no two are the same. -/
def GoT (l : List Int) (i : Nat) : Prop := ∀ j, j < i → 0 ≤ l.getD j 0 ∧ l.getD j 0 < (l.length : Int) ∧ ∀ k, k < j → l.getD k 0 ≠ l.getD j 0
theorem GoT.zero (l : List Int) : GoT l 0 := fun j hj => by omega
theorem GoT.more {l : List Int} {i : Nat} (h : GoT l i) (h1 : 0 ≤ l.getD i 0) (h2 : l.getD i 0 < (l.length : Int)) (h3 : ∀ k, k < i → l.getD k 0 ≠ l.getD i 0) : GoT l (i + 1) := fun j hj => by
  by_cases e : j = i
  · subst e; exact ⟨h1, h2, h3⟩
  · exact h j (by omega)
/-- What was seen of the first i. -/
def sn (l : List Int) (i r : Nat) : Bool := decide (∃ k, k < i ∧ l.getD k 0 = (r : Int))
theorem sn_zero (l : List Int) : sn l 0 = fun _ => false := by
  funext r
  simp [sn]
theorem sn_succ (l : List Int) (i r : Nat) (h : l.getD i 0 = (r : Int)) : upd (sn l i) r = sn l (i + 1) := by
  funext x
  by_cases e : x = r
  · subst e
    rw [upd_same]
    symm
    unfold sn
    exact decide_eq_true ⟨i, by omega, h⟩
  · rw [upd_other e]
    unfold sn
    congr 1
    apply propext
    constructor
    · rintro ⟨k, hk, q⟩; exact ⟨k, by omega, q⟩
    · rintro ⟨k, hk, q⟩
      refine ⟨k, ?_, q⟩
      have : k ≠ i := fun e2 => by subst e2; rw [h] at q; omega
      omega
/-- What eachOnce answers. -/
def TB (l : List Int) (e : Ending) : Prop := ∃ t, e = .returned (.bool t) ∧ (t = true ↔ GoT l l.length)
set_option maxHeartbeats 2000000 in
theorem eachOnce20 {w : World} {a : Option Addr} {c : Nat} {l : List Int} (hl : l.length ≤ 256) (hv : VL w a (zvs l)) : Calls Try.prog 20 #[.slice a l.length c] w fun e w' => TB l e ∧ Below w.heap.size w w' := by
  have hmk := make22 (l.length : Int) l.length rfl (by omega) w
  have I0 : Hid (IHolds (w.alloc (.cells (tf (fun _ => false) l.length).toArray 4)) w.heap.size 4 (tf (fun _ => false) l.length)) := IHolds.new _ _ _
  have B0 : Hid (Below w.heap.size w (w.alloc (.cells (tf (fun _ => false) l.length).toArray 4))) := nB _ _
  generalize hw0 : w.alloc (.cells (tf (fun _ => false) l.length).toArray 4) = w0 at *
  have HV : Hid (VL w a (zvs l)) := hv
  clear hw0 hv
  go_enter Try.func20, Try.ntmps20
  go_wp2_with fail
  clear hmk
  go_loopg [5, 11] l.length (fun gk v5 v11 wr => ∃ i : Nat, i + gk = l.length ∧ v11 = .int .i64 (i : Int) ∧ IHolds wr w.heap.size 4 (tf (sn l i) l.length) ∧ Below w.heap.size w wr ∧ GoT l i)
  case atStart => exact ⟨0, by omega, rfl, by rw [sn_zero]; exact I0.out, B0.out, GoT.zero l⟩
  case round =>
    obtain ⟨i, hig, rfl, hI, hB, hT⟩ := hrel
    have I : Hid (IHolds wr w.heap.size 4 (tf (sn l i) l.length)) := hI
    have B : Hid (Below w.heap.size w wr) := hB
    have T : Hid (GoT l i) := hT
    clear hI hB hT I0 B0
    by_cases hi : i < l.length
    · have il : (i : Int) < (l.length : Int) := by omega
      obtain ⟨b, o, rfl, q1⟩ := (HV.out.of_below B.out).zint i hi
      have BAD : Hid (∀ j, j < l.length → ¬ (0 ≤ l.getD j 0 ∧ l.getD j 0 < (l.length : Int) ∧ ∀ k, k < j → l.getD k 0 ≠ l.getD j 0) → (¬ GoT l l.length)) := fun j hj h q => h (q j hj)
      by_cases h1 : l.getD i 0 < 0
      · have R : Hid (¬ GoT l l.length) := BAD.out i hi (fun q => by omega)
        clear BAD
        generalize l.getD i 0 = z at *
        go_wp2_with fail
        go_ret
        exact ⟨⟨_, rfl, fun q => (by cases q), fun q => absurd q R.out⟩, B.out⟩
      · by_cases h2 : (l.length : Int) ≤ l.getD i 0
        · have R : Hid (¬ GoT l l.length) := BAD.out i hi (fun q => by omega)
          clear BAD
          generalize l.getD i 0 = z at *
          go_wp2_with fail
          go_ret
          exact ⟨⟨_, rfl, fun q => (by cases q), fun q => absurd q R.out⟩, B.out⟩
        · obtain ⟨r, hr⟩ : ∃ r : Nat, l.getD i 0 = (r : Int) := ⟨(l.getD i 0).toNat, by omega⟩
          have hrl : r < l.length := by omega
          have rl : (r : Int) < (l.length : Int) := by omega
          have rg : ¬ (l.length : Int) ≤ (r : Int) := by omega
          have r0 : ¬ (r : Int) < 0 := by omega
          have cr := I.out.cell r (by rw [tf_len]; exact hrl)
          have fr := I.out.frozen r
          rw [tf_at] at cr
          cases hs : sn l i r with
          | true =>
            have R : Hid (¬ GoT l l.length) := BAD.out i hi (fun q => by
              obtain ⟨k, hk, e⟩ := of_decide_eq_true hs
              exact q.2.2 k hk (by rw [e, hr]))
            rw [hs] at cr
            rw [hr] at q1
            clear BAD hs hr h1 h2
            go_wp2_with fail
            go_ret
            exact ⟨⟨_, rfl, fun q => (by cases q), fun q => absurd q R.out⟩, B.out⟩
          | false =>
            have R : Hid (GoT l (i + 1)) := T.out.more (by omega) (by omega) (fun k hk e => by
              have : sn l i r = true := decide_eq_true ⟨k, hk, by rw [e, hr]⟩
              rw [hs] at this
              cases this)
            rw [hs] at cr
            have I2 : Hid (IHolds (wr.setCell ⟨w.heap.size, r, none⟩ (.bool true)) w.heap.size 4 (tf (sn l (i + 1)) l.length)) := by
              have := I.out.set r (.bool true)
              rw [tf_set, sn_succ l i r hr] at this
              exact this
            have B2 : Hid (Below w.heap.size w (wr.setCell ⟨w.heap.size, r, none⟩ (.bool true))) := B.out.setCell (p := ⟨w.heap.size, r, none⟩) (Nat.le_refl _) _
            rw [hr] at q1
            clear BAD hs hr h1 h2
            go_wp2_with fail
            go_roundg (gk - 1)
            case measure => omega
            case rel => exact ⟨i + 1, by omega, by go_num, I2.out, B2.out, R.out⟩
    · have il : ¬ (i : Int) < (l.length : Int) := by omega
      have e : i = l.length := by omega
      have R : Hid (GoT l l.length) := by rw [← e]; exact T.out
      clear e
      go_wp2_with fail
      go_ret
      exact ⟨⟨_, rfl, fun _ => R.out, fun _ => rfl⟩, B.out⟩
set_option maxHeartbeats 2000000 in
theorem wrong12 {w : World} {a : Option Addr} {c : Nat} {l : List Int} (h1 : 1 ≤ l.length) (hl : l.length ≤ 256) (hv : VL w a (zvs l)) : Calls Try.prog 12 #[.slice a l.length c] w fun e w' => (∃ t : Int, e = .returned (.int .i64 t) ∧ (GoT l l.length → t = 0) ∧ (¬ GoT l l.length → t = 2)) ∧ w' = w := by
  have HV : Hid (VL w a (zvs l)) := hv
  have n1 : ¬ (l.length : Int) < 1 := by omega
  have n2 : ¬ 256 < (l.length : Int) := by omega
  clear hv
  go_enter Try.func12, Try.ntmps12
  go_wp2_with fail
  go_loopg [2, 3, 4, 5, 16] l.length (fun gk v2 v3 v4 v5 v16 wr => ∃ i : Nat, i + gk = l.length ∧ v16 = .int .i64 (i : Int) ∧ v2 = .int .i64 0 ∧ GoT l i ∧ wr = w)
  case atStart => exact ⟨0, by omega, rfl, rfl, GoT.zero l, rfl⟩
  case round =>
    obtain ⟨i, hig, rfl, rfl, hT, rfl⟩ := hrel
    have T : Hid (GoT l i) := hT
    clear hT
    by_cases hi : i < l.length
    · have il : (i : Int) < (l.length : Int) := by omega
      obtain ⟨b, o, rfl, q1⟩ := HV.out.zint i hi
      have BAD : Hid (¬ (0 ≤ l.getD i 0 ∧ l.getD i 0 < (l.length : Int) ∧ ∀ k, k < i → l.getD k 0 ≠ l.getD i 0) → ¬ GoT l l.length) := fun h q => h (q i hi)
      by_cases h3 : l.getD i 0 < 0
      · have R : Hid (¬ GoT l l.length) := BAD.out (fun q => by omega)
        clear BAD
        generalize l.getD i 0 = z at *
        go_wp2_with fail
        go_ret
        exact ⟨⟨_, rfl, fun q => absurd q R.out, fun _ => rfl⟩, rfl⟩
      · by_cases h4 : (l.length : Int) ≤ l.getD i 0
        · have R : Hid (¬ GoT l l.length) := BAD.out (fun q => by omega)
          clear BAD
          generalize l.getD i 0 = z at *
          go_wp2_with fail
          go_ret
          exact ⟨⟨_, rfl, fun q => absurd q R.out, fun _ => rfl⟩, rfl⟩
        · have MORE : Hid ((∀ k, k < i → l.getD k 0 ≠ l.getD i 0) → GoT l (i + 1)) := fun h => T.out.more (by omega) (by omega) h
          have BAD2 : Hid (∀ k, k < i → l.getD k 0 = l.getD i 0 → ¬ GoT l l.length) := fun k hk e => BAD.out (fun q => q.2.2 k hk e)
          obtain ⟨z, hz⟩ : ∃ z, z = l.getD i 0 := ⟨_, rfl⟩
          rw [← hz] at q1 h3 h4 MORE BAD2
          clear BAD hz
          obtain ⟨G, rfl⟩ : ∃ G, G = gk := ⟨gk, rfl⟩
          obtain ⟨W, rfl⟩ : ∃ W, W = wr := ⟨wr, rfl⟩
          go_wp2_with fail
          go_loopg [2, 5] i (fun gk v2 v5 wr => ∃ k : Nat, k + gk = i ∧ v5 = .int .i64 (k : Int) ∧ v2 = .int .i64 0 ∧ (∀ k', k' < k → l.getD k' 0 ≠ z) ∧ wr = W)
          case atStart => exact ⟨0, by omega, rfl, rfl, fun k' hk' => by omega, rfl⟩
          case round =>
            obtain ⟨k, hkg, rfl, rfl, hN, rfl⟩ := hrel
            have NN : Hid (∀ k', k' < k → l.getD k' 0 ≠ z) := hN
            clear hN
            by_cases hk : k < i
            · have ik : (k : Int) < (i : Int) := by omega
              have kl : (k : Int) < (l.length : Int) := by omega
              obtain ⟨b', o', e', q2⟩ := HV.out.zint k (by omega)
              cases e'
              by_cases he : l.getD k 0 = z
              · have R : Hid (¬ GoT l l.length) := BAD2.out k hk he
                rw [he] at q2
                have e5 : (z == z) = true := beq_self_eq_true _
                clear he MORE BAD2 NN
                go_wp2_with fail
                go_ret
                exact ⟨⟨_, rfl, fun q => absurd q R.out, fun _ => rfl⟩, rfl⟩
              · have N2 : Hid (∀ k', k' < k + 1 → l.getD k' 0 ≠ z) := fun k' hk' => by
                  by_cases e : k' = k
                  · subst e; exact he
                  · exact NN.out k' (by omega)
                have e5 : (l.getD k 0 == z) = false := by simpa using he
                generalize l.getD k 0 = y at *
                clear NN
                go_wp2_with fail
                go_roundg (gk - 1)
                case measure => omega
                case rel => exact ⟨k + 1, by omega, by go_num, rfl, N2.out, rfl⟩
            · have ik : ¬ (k : Int) < (i : Int) := by omega
              have R : Hid (GoT l (i + 1)) := MORE.out (fun k' hk' => NN.out k' (by omega))
              clear NN MORE BAD2
              go_wp2_with fail
              go_roundg (G - 1)
              case measure => omega
              case rel => exact ⟨i + 1, by omega, by go_num, rfl, R.out, rfl⟩
    · have il : ¬ (i : Int) < (l.length : Int) := by omega
      have e : i = l.length := by omega
      have R : Hid (GoT l l.length) := by rw [← e]; exact T.out
      clear e
      go_wp2_with fail
      go_ret
      exact ⟨⟨_, rfl, fun _ => rfl, fun q => absurd R.out q⟩, rfl⟩
end Go.Proofs.Ytelfcapjegncfaa
