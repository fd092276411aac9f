/- The document's Parse; the law. -/
import Derived.Test.YtlogilmeefcipaaRefM
set_option linter.unusedSimpArgs false
set_option linter.unusedVariables false
set_option maxRecDepth 100000
namespace Go.Proofs.Ytlogilmeefcipaa
open Go.RowKit Go.Deep Go.PlainAid Go.Shelf

set_option maxHeartbeats 1000000 in
theorem refParse_any (l : List UInt8) (w : World) :
    Calls Try.prog 6 #[S l] w fun e w' => Below w.heap.size w w' ∧ ∃ a b c, e = .returned (.tuple #[.agg #[a, b, c], .int .i64 ((parsV l).2 : Int)]) ∧ NAt w' (fun k => w.heap.size ≤ k) (parsV l).1 a b c := by
  have hsz := size_S l
  by_cases hbig : 1048576 < l.length
  · have hb' : (1048576 : Int) < (l.length : Int) := by omega
    have hv : parsV l = (.list [], 3) := by simp [parsV, hbig]
    rw [hv]
    simp only []
    clear hv
    go_enter Try.func6, Try.ntmps6
    go_wp2_with fail
    exact bodyPost_ret (v := .tuple #[.agg #[.bool false, .string ⟨#[]⟩, .slice none 0 0], .int .i64 3]) (results_row2 Try.results6 _ _ w.heap.size 24 #[.bool false, .string ⟨#[]⟩, .slice none 0 0] (0, 0) _ rfl (heap_alloc_new w _) Try.underlying24 rfl size24) rfl ⟨(Below.refl _ w).alloc (Nat.le_refl _) _, _, _, _, rfl, NAt.zero _ _⟩
  · have hb' : ¬ (1048576 : Int) < (l.length : Int) := by omega
    have hrd := read_any 12 (Nat.le_refl _) l 0 (w.alloc zN) (by omega) (by omega)
    rw [List.drop_zero] at hrd
    have Z0 : Hid (IHolds (w.alloc zN) w.heap.size 24 [.bool false, .string ⟨#[]⟩, .slice none 0 0]) := IHolds.new' w 24 [.bool false, .string ⟨#[]⟩, .slice none 0 0] rfl
    have J0 : Hid (Below w.heap.size w (w.alloc zN)) := (Below.refl _ w).alloc (Nat.le_refl _) _
    have hS : (w.alloc zN).heap.size = w.heap.size + 1 := by simp
    cases hp : nodeP 12 l with
    | none =>
      have hv : parsV l = (.list [], 2) := by simp [parsV, hbig, parsP, hp]
      simp only [hp, ReadE] at hrd
      rw [hv]
      simp only []
      clear hv hp
      have k1 : ((-1 : Int) == (l.length : Int)) = false := beq_eq_false_iff_ne.2 (by omega)
      go_enter Try.func6, Try.ntmps6
      go_wp2_with (go_at_call 15; refine hrd.mono ?_; rintro e w1 ⟨hB1, rfl⟩; have M2 : Hid (IHolds w1 w.heap.size 24 [.bool false, .string ⟨#[]⟩, .slice none 0 0]) := Z0.out.of_below hB1; have m1 := M2.out.lt; have m2 : ¬ w1.heap.size = w.heap.size := (by omega); have m3 : ¬ w.heap.size = w1.heap.size := (by omega); have c0 : w1.cell? ⟨w.heap.size, 0, none⟩ = some (.bool false) := M2.out.cell 0 (by simp); have c1 : w1.cell? ⟨w.heap.size, 1, none⟩ = some (.string ⟨#[]⟩) := M2.out.cell 1 (by simp); have c2 : w1.cell? ⟨w.heap.size, 2, none⟩ = some (.slice none 0 0) := M2.out.cell 2 (by simp); have f0 : w1.frozen? ⟨w.heap.size, 0, none⟩ = false := M2.out.frozen 0; have f1 : w1.frozen? ⟨w.heap.size, 1, none⟩ = false := M2.out.frozen 1; have f2 : w1.frozen? ⟨w.heap.size, 2, none⟩ = false := M2.out.frozen 2)
      have P3 := (put3 M2.out (.bool false) (.string ⟨#[]⟩) (.slice none 0 0)).alloc zN
      have Q3 := put3_but w1 w.heap.size (.bool false) (.string ⟨#[]⟩) (.slice none 0 0)
      have hs3 := Q3.size
      have J3 := (J0.out.trans (hB1.mono J0.out.size)).trans ((Q3.below (Nat.le_refl _) (by omega)).alloc (by omega) zN)
      exact bodyPost_ret (v := .tuple #[.agg #[.bool false, .string ⟨#[]⟩, .slice none 0 0], .int .i64 2]) (results_row2 Try.results6 _ _ w.heap.size 24 #[.bool false, .string ⟨#[]⟩, .slice none 0 0] (0, 0) _ rfl P3 Try.underlying24 rfl size24) rfl ⟨J3, _, _, _, rfl, NAt.zero _ _⟩
    | some q =>
      obtain ⟨n, r⟩ := q
      have hlt := nodeP_len 12 l n r hp
      simp only [hp, ReadE] at hrd
      cases r with
      | cons x r =>
        have hv : parsV l = (.list [], 2) := by simp [parsV, hbig, parsP, hp]
        rw [hv]
        simp only []
        clear hv hp
        generalize hE : (l.length : Int) - ((x :: r).length : Int) = E at *
        have k1 : (E == (l.length : Int)) = false := by simp at hE; simp; omega
        clear hE
        go_enter Try.func6, Try.ntmps6
        go_wp2_with (go_at_call 15; refine hrd.mono ?_; rintro e w1 ⟨hB1, a, b, c, rfl, hN1⟩; obtain ⟨ab, bb, ca, cm, cc, rfl, rfl, rfl⟩ := hN1.form; have M2 : Hid (IHolds w1 w.heap.size 24 [.bool false, .string ⟨#[]⟩, .slice none 0 0]) := Z0.out.of_below hB1; have m1 := M2.out.lt; have m2 : ¬ w1.heap.size = w.heap.size := (by omega); have m3 : ¬ w.heap.size = w1.heap.size := (by omega); have c0 : w1.cell? ⟨w.heap.size, 0, none⟩ = some (.bool false) := M2.out.cell 0 (by simp); have c1 : w1.cell? ⟨w.heap.size, 1, none⟩ = some (.string ⟨#[]⟩) := M2.out.cell 1 (by simp); have c2 : w1.cell? ⟨w.heap.size, 2, none⟩ = some (.slice none 0 0) := M2.out.cell 2 (by simp); have f0 : w1.frozen? ⟨w.heap.size, 0, none⟩ = false := M2.out.frozen 0; have f1 : w1.frozen? ⟨w.heap.size, 1, none⟩ = false := M2.out.frozen 1; have f2 : w1.frozen? ⟨w.heap.size, 2, none⟩ = false := M2.out.frozen 2)
        have P3 := (put3 M2.out (.bool false) (.string ⟨#[]⟩) (.slice none 0 0)).alloc (.cells #[.bool ab, .string bb, .slice ca cm cc] 24)
        have Q3 := put3_but w1 w.heap.size (.bool false) (.string ⟨#[]⟩) (.slice none 0 0)
        have hs3 := Q3.size
        have J3 := (J0.out.trans (hB1.mono J0.out.size)).trans ((Q3.below (Nat.le_refl _) (by omega)).alloc (by omega) (.cells #[.bool ab, .string bb, .slice ca cm cc] 24))
        exact bodyPost_ret (v := .tuple #[.agg #[.bool false, .string ⟨#[]⟩, .slice none 0 0], .int .i64 2]) (results_row2 Try.results6 _ _ w.heap.size 24 #[.bool false, .string ⟨#[]⟩, .slice none 0 0] (0, 0) _ rfl P3 Try.underlying24 rfl size24) rfl ⟨J3, _, _, _, rfl, NAt.zero _ _⟩
      | nil =>
        have hv : parsV l = (n, 0) := by simp [parsV, hbig, parsP, hp]
        rw [hv]
        simp only []
        clear hv hp
        have e0 : (l.length : Int) - (([] : List UInt8).length : Int) = (l.length : Int) := by simp
        rw [e0] at hrd
        go_enter Try.func6, Try.ntmps6
        go_wp2_with (go_at_call 15; refine hrd.mono ?_; rintro e w1 ⟨hB1, a, b, c, rfl, hN1⟩; obtain ⟨ab, bb, ca, cm, cc, rfl, rfl, rfl⟩ := hN1.form; have M2 : Hid (IHolds w1 w.heap.size 24 [.bool false, .string ⟨#[]⟩, .slice none 0 0]) := Z0.out.of_below hB1; have m1 := M2.out.lt; have m2 : ¬ w1.heap.size = w.heap.size := (by omega); have m3 : ¬ w.heap.size = w1.heap.size := (by omega); have c0 : w1.cell? ⟨w.heap.size, 0, none⟩ = some (.bool false) := M2.out.cell 0 (by simp); have c1 : w1.cell? ⟨w.heap.size, 1, none⟩ = some (.string ⟨#[]⟩) := M2.out.cell 1 (by simp); have c2 : w1.cell? ⟨w.heap.size, 2, none⟩ = some (.slice none 0 0) := M2.out.cell 2 (by simp); have f0 : w1.frozen? ⟨w.heap.size, 0, none⟩ = false := M2.out.frozen 0; have f1 : w1.frozen? ⟨w.heap.size, 1, none⟩ = false := M2.out.frozen 1; have f2 : w1.frozen? ⟨w.heap.size, 2, none⟩ = false := M2.out.frozen 2)
        have P3 := (put3 M2.out (.bool ab) (.string bb) (.slice ca cm cc)).alloc (.cells #[.bool ab, .string bb, .slice ca cm cc] 24)
        have Q3 := put3_but w1 w.heap.size (.bool ab) (.string bb) (.slice ca cm cc)
        have hs3 := Q3.size
        have J3 := (J0.out.trans (hB1.mono J0.out.size)).trans ((Q3.below (Nat.le_refl _) (by omega)).alloc (by omega) (.cells #[.bool ab, .string bb, .slice ca cm cc] 24))
        generalize ((w1.setCell ⟨w.heap.size, 0, none⟩ (.bool ab)).setCell ⟨w.heap.size, 1, none⟩ (.string bb)).setCell ⟨w.heap.size, 2, none⟩ (.slice ca cm cc) = w3 at *
        have K3 := hN1.keep (w' := w3.alloc (.cells #[.bool ab, .string bb, .slice ca cm cc] 24)) (G := fun k => w.heap.size ≤ k) (by simp; omega) (fun k h _ => by omega) (fun k h1 h2 => by rw [Lib.alloc_old w3 _ k (by omega), Q3.block k h2 (by omega)])
        exact bodyPost_ret (v := .tuple #[.agg #[.bool ab, .string bb, .slice ca cm cc], .int .i64 0]) (results_row2 Try.results6 _ _ w.heap.size 24 #[.bool ab, .string bb, .slice ca cm cc] (0, 0) _ rfl P3 Try.underlying24 rfl size24) rfl ⟨J3, _, _, _, rfl, K3⟩
set_option maxHeartbeats 1000000 in
theorem law_any (l : List UInt8) (w : World) : Calls Try.prog 3 #[S l] w fun e w' => e = .returned (.bool true) ∧ Below w.heap.size w w' := by
  have h1 := refParse_any l w
  have h2 := fun w1 => parse_any l w1
  have hok := parsV_ok l
  generalize (parsV l).2 = er at *
  generalize (parsV l).1 = n at *
  go_enter Try.func3, Try.ntmps3
  go_wp2_with (first | (go_at_call 6; refine h1.mono ?_; rintro e w1 ⟨hB1, a, b, c, rfl, hN1⟩; obtain ⟨ab, bb, ca, cm, cc, rfl, rfl, rfl⟩ := hN1.form; have N1 : Hid (NAt w1 (fun k => w.heap.size ≤ k) n (.bool ab) (.string bb) (.slice ca cm cc)) := hN1; have X1 : Hid (IHolds (w1.alloc (.cells #[.bool ab, .string bb, .slice ca cm cc] 24)) w1.heap.size 24 [.bool ab, .string bb, .slice ca cm cc]) := IHolds.new' w1 24 [.bool ab, .string bb, .slice ca cm cc] rfl; have B1 : Hid (Below w.heap.size w (w1.alloc (.cells #[.bool ab, .string bb, .slice ca cm cc] 24))) := hB1.alloc hB1.size _; clear hB1 hN1) | (go_at_call 7; refine (h2 _).mono ?_; rintro e w2 ⟨hB2, a, b, c, rfl, hN2⟩; obtain ⟨ab', bb', ca', cm', cc', rfl, rfl, rfl⟩ := hN2.form; have X2 : Hid (IHolds w2 w1.heap.size 24 [.bool ab, .string bb, .slice ca cm cc]) := X1.out.of_below hB2; have m1 := X2.out.lt; have m2 : ¬ w2.heap.size = w1.heap.size := (by omega); have m3 : ¬ w1.heap.size = w2.heap.size := (by omega); have c0 : w2.cell? ⟨w1.heap.size, 0, none⟩ = some (.bool ab) := X2.out.cell 0 (by simp); have c1 : w2.cell? ⟨w1.heap.size, 1, none⟩ = some (.string bb) := X2.out.cell 1 (by simp); have c2 : w2.cell? ⟨w1.heap.size, 2, none⟩ = some (.slice ca cm cc) := X2.out.cell 2 (by simp); have K2 : Hid (NAt w2 (fun k => w.heap.size ≤ k) n (.bool ab) (.string bb) (.slice ca cm cc)) := N1.out.keep (by omega) (fun k h _ => h) (fun k _ h2 => (hB2.block k (by simp; omega)).trans (Lib.alloc_old w1 _ k h2)); have SM : Hid (Calls Try.prog 8 #[.agg #[.bool ab', .string bb', .slice ca' cm' cc'], .agg #[.bool ab, .string bb, .slice ca cm cc]] (w2.alloc (.cells #[.bool ab', .string bb', .slice ca' cm' cc'] 24)) fun e w2' => e = .returned (.bool true) ∧ Below (w2.alloc (.cells #[.bool ab', .string bb', .slice ca' cm' cc'] 24)).heap.size (w2.alloc (.cells #[.bool ab', .string bb', .slice ca' cm' cc'] 24)) w2') := same_any hN2 hok _ _ _ K2.out _ ((Below.refl _ w2).alloc (Nat.le_refl _) _); have B2 : Hid (Below w.heap.size w (w2.alloc (.cells #[.bool ab', .string bb', .slice ca' cm' cc'] 24))) := (B1.out.trans (hB2.mono B1.out.size)).alloc (Nat.le_trans B1.out.size hB2.size) _; clear hB2 hN2) | (go_at_call 8; refine SM.out.mono ?_; rintro e w3 ⟨rfl, hB3⟩))
  go_ret
  exact ⟨by simp, B2.out.trans (hB3.mono B2.out.size)⟩
end Go.Proofs.Ytlogilmeefcipaa
