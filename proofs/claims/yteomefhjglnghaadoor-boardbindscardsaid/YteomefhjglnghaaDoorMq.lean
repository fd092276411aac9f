/- The first pair, on the document's side. -/
import Derived.Test.YteomefhjglnghaaDoorMj
set_option linter.unusedSimpArgs false
set_option linter.unusedVariables false
set_option maxRecDepth 100000
namespace Go.Proofs.YteomefhjglnghaaDoor
open Go.RowKit Go.Deep Go.PlainAid

set_option maxHeartbeats 2000000 in
theorem pair40 {w : World} {a : Option Addr} {c : Nat} {l : List P3} (hl : l.length ≤ 1048576) (h : PTL w a l)
    (hA : ∀ j (h : j + 1 < l.length), l[j].1.1 < l[j].1.2 ∧ l[j].1.2 ≤ 1048576 ∧ l[j + 1].1.1 < l[j + 1].1.2 ∧ l[j + 1].1.2 ≤ 1048576) :
    Calls Tryd.prog 23 #[.slice a l.length c] w fun e w' => (∃ r : Int, e = .returned (.int .i64 r) ∧ ((r = -1 ∧ NoPair l) ∨ ∃ (i : Nat) (hi : i + 1 < l.length), r = (i : Int) ∧ half l[i] l[i + 1] = true ∧ ∀ j (hj : j < i), half l[j] l[j + 1] = false)) ∧ Below w.heap.size w w' := by
  have HP : Hid (PTL w a l) := h
  have HA : Hid (∀ j (h : j + 1 < l.length), l[j].1.1 < l[j].1.2 ∧ l[j].1.2 ≤ 1048576 ∧ l[j + 1].1.1 < l[j + 1].1.2 ∧ l[j + 1].1.2 ≤ 1048576) := hA
  clear h hA
  go_enter Tryd.func23, Tryd.ntmps23
  go_wp2_with fail
  go_loopg [3, 4, 5, 6] (l.length) (fun gk v3 v4 v5 v6 wr => ∃ i : Nat, i + gk = l.length ∧ v3 = .int .i64 (i : Int) ∧ (∀ j (hj : j < i) (hh : j + 1 < l.length), half l[j] l[j + 1] = false) ∧ Below w.heap.size w wr)
  case atStart => exact ⟨0, by omega, rfl, fun j hj => by omega, Below.refl _ _⟩
  case round =>
    obtain ⟨i, hig, rfl, hN, hB⟩ := hrel
    have B : Hid (Below w.heap.size w wr) := hB
    have NN : Hid (∀ j (hj : j < i) (hh : j + 1 < l.length), half l[j] l[j + 1] = false) := hN
    clear hB hN
    by_cases hi : i + 1 < l.length
    · obtain ⟨n1, hn1⟩ : ∃ n1, n1 = i + 1 := ⟨_, rfl⟩
      have il : (n1 : Int) < (l.length : Int) := by omega
      have il0 : (i : Int) < (l.length : Int) := by omega
      have ip : (i : Int) + 1 = (n1 : Int) := by omega
      obtain ⟨b, o, rfl, q1, q2, q3⟩ := (HP.out.of_below B.out).three i (by omega)
      obtain ⟨b', o', e', r1, r2, r3⟩ := (HP.out.of_below B.out).three (i + 1) hi
      obtain ⟨rfl, rfl⟩ : b' = b ∧ o' = o := by simpa [eq_comm] using e'
      obtain ⟨g1, g2, g3, g4⟩ := HA.out i hi
      have HH : Hid (∀ x, half l[i] l[i + 1] = x → x = true → half l[i] l[i + 1] = true) := fun x h1 h2 => h1.trans h2
      clear q3 r3 e'
      obtain ⟨pa, hpa⟩ : ∃ pa, pa = l[i] := ⟨_, rfl⟩
      obtain ⟨pb, hpb⟩ : ∃ pb, pb = l[i + 1] := ⟨_, rfl⟩
      have PA : Hid (pa = l[i]) := hpa
      have PB : Hid (pb = l[i + 1]) := hpb
      rw [← hpa] at q1 q2 g1 g2
      rw [← hpb] at r1 r2 g3 g4
      clear hpa hpb HH
      obtain ⟨⟨a1, a2⟩, f⟩ := pa
      obtain ⟨⟨b1, b2⟩, d⟩ := pb
      dsimp only at q1 q2 r1 r2 g1 g2 g3 g4
      rw [← hn1] at r1 r2
      have KQ : Hid (∀ V, Below wr.heap.size wr V → (V.cell? ⟨b', o' + i * 3, none⟩ = some (.int .i64 (a1 : Int)) ∧ V.cell? ⟨b', o' + i * 3 + 1, none⟩ = some (.int .i64 (a2 : Int)) ∧ V.cell? ⟨b', o' + n1 * 3, none⟩ = some (.int .i64 (b1 : Int)) ∧ V.cell? ⟨b', o' + n1 * 3 + 1, none⟩ = some (.int .i64 (b2 : Int)))) := fun V hV => ⟨cell_keep q1 hV, cell_keep q2 hV, cell_keep r1 hV, cell_keep r2 hV⟩
      have HN1 : Hid (n1 = i + 1) := hn1
      have hwn : IntKind.i64.wrap (n1 : Int) = (n1 : Int) := wrapN (by omega)
      clear q1 q2 r1 r2 hn1
      obtain ⟨n, hn⟩ : ∃ n, n = a2 - a1 := ⟨_, rfl⟩
      obtain ⟨m, hm⟩ : ∃ m, m = b2 - b1 := ⟨_, rfl⟩
      have kn : (a2 : Int) - (a1 : Int) = (n : Int) := by omega
      have km : (b2 : Int) - (b1 : Int) = (m : Int) := by omega
      obtain ⟨dd, hdd⟩ : ∃ dd, dd = 2 * n := ⟨_, rfl⟩
      have kd : 2 * (n : Int) = (dd : Int) := by omega
      have kd0 : ((dd : Int) == 0) = false := by simp; omega
      obtain ⟨r, hr⟩ : ∃ r, r = a1 % dd := ⟨_, rfl⟩
      have kr : (a1 : Int) % (dd : Int) = (r : Int) := by rw [hr]; rfl
      have kr2 : Int.tmod (a1 : Int) (dd : Int) = (r : Int) := by rw [hr]; rfl
      have HF : Hid (half l[i] l[i + 1] = (decide (m = n) && decide (r = 0))) := by
        show _ = _
        rw [← PA.out, ← PB.out, hr, hdd, hn, hm]
        rfl
      have hd1 : dd ≤ 2097152 := by omega
      have hd2 : 1 ≤ dd := by omega
      clear hr hdd hn hm PA PB
      by_cases h1 : m = n
      · have e1 : ((m : Int) == (n : Int)) = true := by simp; omega
        by_cases h2 : r = 0
        · have e3 : ((r : Int) == 0) = true := by simp; omega
          have HE : Hid (half l[i] l[i + 1] = true) := by
            show _ = _
            rw [HF.out]
            simp [h1, h2]
          clear HF h1 h2
          go_wp2_with fail
          go_region_held3 (fun V => V.cell? ⟨b', o' + i * 3, none⟩ = some (.int .i64 (a1 : Int)) ∧ V.cell? ⟨b', o' + i * 3 + 1, none⟩ = some (.int .i64 (a2 : Int)) ∧ V.cell? ⟨b', o' + n1 * 3, none⟩ = some (.int .i64 (b1 : Int)) ∧ V.cell? ⟨b', o' + n1 * 3 + 1, none⟩ = some (.int .i64 (b2 : Int)))
            (first | (refine KQ.out _ ?_; (repeat' (first | exact Below.refl _ _ | apply Below.drew | apply Below.setCell | apply Below.alloc)); all_goals (first | (simp; done) | (simp; omega) | omega)) | fail)
            (fail)
          · go_wp2_with fail
            go_ret
            exact ⟨⟨(i : Int), rfl, Or.inr ⟨i, hi, rfl, HE.out, fun j hj => NN.out j hj (by omega)⟩⟩, (by have hs := B.out.size; refine B.out.trans ?_; (repeat' (first | exact Below.refl _ _ | apply Below.drew | apply Below.alloc)); all_goals (first | omega | (simp; omega)))⟩
          · go_wp2_with fail
            go_ret
            exact ⟨⟨(i : Int), rfl, Or.inr ⟨i, hi, rfl, HE.out, fun j hj => NN.out j hj (by omega)⟩⟩, (by have hs := B.out.size; refine B.out.trans ?_; (repeat' (first | exact Below.refl _ _ | apply Below.drew | apply Below.alloc)); all_goals (first | omega | (simp; omega)))⟩
        · have e3 : ((r : Int) == 0) = false := by simp; omega
          have HE : Hid (half l[i] l[i + 1] = false) := by
            show _ = _
            rw [HF.out]
            simp [h2]
          clear HF h1 h2
          go_wp2_with fail
          go_region_held3 (fun V => V.cell? ⟨b', o' + i * 3, none⟩ = some (.int .i64 (a1 : Int)) ∧ V.cell? ⟨b', o' + i * 3 + 1, none⟩ = some (.int .i64 (a2 : Int)) ∧ V.cell? ⟨b', o' + n1 * 3, none⟩ = some (.int .i64 (b1 : Int)) ∧ V.cell? ⟨b', o' + n1 * 3 + 1, none⟩ = some (.int .i64 (b2 : Int)))
            (first | (refine KQ.out _ ?_; (repeat' (first | exact Below.refl _ _ | apply Below.drew | apply Below.setCell | apply Below.alloc)); all_goals (first | (simp; done) | (simp; omega) | omega)) | fail)
            (fail)
          · go_wp2_with fail
            go_roundg (gk - 1)
            case measure => have := HN1.out; omega
            case rel =>
              refine ⟨i + 1, by omega, by rw [HN1.out], fun j hj hh => ?_, (by have hs := B.out.size; refine B.out.trans ?_; (repeat' (first | exact Below.refl _ _ | apply Below.drew | apply Below.alloc)); all_goals (first | omega | (simp; omega)))⟩
              by_cases hji : j = i
              · subst hji; exact HE.out
              · exact NN.out j (by omega) hh
          · go_wp2_with fail
            go_roundg (gk - 1)
            case measure => have := HN1.out; omega
            case rel =>
              refine ⟨i + 1, by omega, by rw [HN1.out], fun j hj hh => ?_, (by have hs := B.out.size; refine B.out.trans ?_; (repeat' (first | exact Below.refl _ _ | apply Below.drew | apply Below.alloc)); all_goals (first | omega | (simp; omega)))⟩
              by_cases hji : j = i
              · subst hji; exact HE.out
              · exact NN.out j (by omega) hh
      · have e1 : ((m : Int) == (n : Int)) = false := by simp; omega
        have HE : Hid (half l[i] l[i + 1] = false) := by
          show _ = _
          rw [HF.out]
          simp [h1]
        clear HF h1
        go_wp2_with fail
        go_region_held3 (fun V => V.cell? ⟨b', o' + i * 3, none⟩ = some (.int .i64 (a1 : Int)) ∧ V.cell? ⟨b', o' + i * 3 + 1, none⟩ = some (.int .i64 (a2 : Int)) ∧ V.cell? ⟨b', o' + n1 * 3, none⟩ = some (.int .i64 (b1 : Int)) ∧ V.cell? ⟨b', o' + n1 * 3 + 1, none⟩ = some (.int .i64 (b2 : Int)))
          (first | (refine KQ.out _ ?_; (repeat' (first | exact Below.refl _ _ | apply Below.drew | apply Below.setCell | apply Below.alloc)); all_goals (first | (simp; done) | (simp; omega) | omega)) | fail)
          (fail)
        · go_wp2_with fail
          go_roundg (gk - 1)
          case measure => have := HN1.out; omega
          case rel =>
            refine ⟨i + 1, by omega, by rw [HN1.out], fun j hj hh => ?_, (by have hs := B.out.size; refine B.out.trans ?_; (repeat' (first | exact Below.refl _ _ | apply Below.drew | apply Below.alloc)); all_goals (first | omega | (simp; omega)))⟩
            by_cases hji : j = i
            · subst hji; exact HE.out
            · exact NN.out j (by omega) hh
        · go_wp2_with fail
          go_roundg (gk - 1)
          case measure => have := HN1.out; omega
          case rel =>
            refine ⟨i + 1, by omega, by rw [HN1.out], fun j hj hh => ?_, (by have hs := B.out.size; refine B.out.trans ?_; (repeat' (first | exact Below.refl _ _ | apply Below.drew | apply Below.alloc)); all_goals (first | omega | (simp; omega)))⟩
            by_cases hji : j = i
            · subst hji; exact HE.out
            · exact NN.out j (by omega) hh
    · obtain ⟨n1, hn1⟩ : ∃ n1, n1 = i + 1 := ⟨_, rfl⟩
      have il : ¬ (n1 : Int) < (l.length : Int) := by omega
      have ip : (i : Int) + 1 = (n1 : Int) := by omega
      have FIN : Hid (NoPair l) := fun j hj => NN.out j (by omega) hj
      clear hn1
      go_wp2_with fail
      go_ret
      exact ⟨⟨-1, rfl, Or.inl ⟨rfl, FIN.out⟩⟩, B.out⟩
end Go.Proofs.YteomefhjglnghaaDoor
