/- The reference's ExtractAny. -/
import Derived.Test.YtokkjdelomkfiaaSm5
set_option linter.unusedSimpArgs false
set_option linter.unusedVariables false
set_option maxRecDepth 100000
namespace Go.Proofs.Ytokkjdelomkfiaa
open Go.RowKit Go.Deep Go.PlainAid

section
variable {z : Int} {G : Array Value} {S Wd M low one sq Ri Wd2 M2 low2 one2 sq2 Ri2 : Nat}
set_option maxHeartbeats 4000000 in
theorem ref10_odd (k : KD z G S Wd M low one sq Ri Wd2 M2 low2 one2 sq2 Ri2) {w : World} {a1 a2 b1 b2 : Option Addr} {xs ys : List ByteArray} {ll mm : List (List ByteArray)} {n c1 c2 d1 d2 : Nat} (hn : n ≤ 8796093022207) (h0 : n ≠ 0) (hx : xs.length = n) (hy : ys.length = n) (hl : ll.length = n) (hm : mm.length = n) (ln : Lens ll) (ln2 : Lens mm) (s1 : SL w a1 xs) (s2 : SLL w a2 ll) (t1 : SL w b1 ys) (t2 : SLL w b2 mm) (ho : evenB ll mm = false) :
    Calls Try.prog 10 #[.int .i64 z, .agg #[.slice a1 n c1, .slice a2 n c2], .agg #[.slice b1 n d1, .slice b2 n d2]] w fun e w' => e = .returned (.tuple #[.int .i64 0, .slice none 0 0, .int .i64 2]) ∧ Below w.heap.size w w' := by
  have HOdd : Hid (evenB ll mm = false) := ho
  clear ho
  generalize hW : (w.alloc (.cells #[.slice a1 n c1, .slice a2 n c2] 27)).alloc (.cells #[.slice b1 n d1, .slice b2 n d2] 27) = W
  have J : Hid (Below w.heap.size w W) := by rw [← hW]; exact ((Below.refl _ w).alloc (Nat.le_refl _) _).alloc (by simp) _
  have I1 : Hid (IHolds W w.heap.size 27 [.slice a1 n c1, .slice a2 n c2]) := by rw [← hW]; exact (IHolds.new' w 27 [.slice a1 n c1, .slice a2 n c2] rfl).alloc _
  have I2 : Hid (IHolds W (w.heap.size + 1) 27 [.slice b1 n d1, .slice b2 n d2]) := by rw [← hW]; exact IHolds.new' (w.alloc _) 27 [.slice b1 n d1, .slice b2 n d2] (by simp)
  have S1 : Hid (SL W a1 xs) := s1.of_below J.out
  have S2 : Hid (SLL W a2 ll) := s2.of_below J.out
  have T1 : Hid (SL W b1 ys) := t1.of_below J.out
  have T2 : Hid (SLL W b2 mm) := t2.of_below J.out
  clear s1 s2 t1 t2
  have hz : ((n : Int) == 0) = false := beq_eq_false_iff_ne.2 (by omega)
  have HX : Hid (xs.length = n) := hx
  have HY : Hid (ys.length = n) := hy
  have HL : Hid (ll.length = n) := hl
  have HM : Hid (mm.length = n) := hm
  clear hx hy hl hm h0
  go_enter Try.func10, Try.ntmps10
  go_wp2_with fail
  clear hW
  refine (k.K9 _).mono ?_
  rintro e w1 ⟨⟨u1, u2, rfl, n1, n2⟩, hB1⟩
  obtain ⟨qa, ql, qc, rfl⟩ := sN (show Hid (NumV w1 65536 M u1) from n1)
  obtain ⟨pa, pl, pc, rfl⟩ := sN (show Hid (NumV w1 65536 M2 u2) from n2)
  obtain ⟨U, hU⟩ : ∃ U, w1.alloc (.cells #[.int .i64 (S : Int), .slice qa ql qc, .slice pa pl pc] 54) = U := ⟨_, rfl⟩
  have B1 : Hid (Below W.heap.size W U) := by rw [← hU]; exact hB1.trans ((nB _ _).mono hB1.size)
  have N1 : Hid (NumV U 65536 M (.slice qa ql qc)) := by rw [← hU]; exact n1.of_below (nB _ _)
  have N2 : Hid (NumV U 65536 M2 (.slice pa pl pc)) := by rw [← hU]; exact n2.of_below (nB _ _)
  have J0 : Hid (IHolds U w1.heap.size 54 [.int .i64 (S : Int), .slice qa ql qc, .slice pa pl pc]) := by rw [← hU]; exact IHolds.new' w1 54 [.int .i64 (S : Int), .slice qa ql qc, .slice pa pl pc] rfl
  have J1 : Hid (IHolds U w.heap.size 27 [.slice a1 n c1, .slice a2 n c2]) := I1.out.of_below B1.out
  have J2 : Hid (IHolds U (w.heap.size + 1) 27 [.slice b1 n d1, .slice b2 n d2]) := I2.out.of_below B1.out
  replace S1 : Hid (SL U a1 xs) := S1.out.of_below B1.out
  replace S2 : Hid (SLL U a2 ll) := S2.out.of_below B1.out
  replace T1 : Hid (SL U b1 ys) := T1.out.of_below B1.out
  replace T2 : Hid (SLL U b2 mm) := T2.out.of_below B1.out
  clear I1 I2 n1 n2 hB1
  have KC : Hid (∀ V, Below U.heap.size U V → V.cell? ⟨w1.heap.size, 0, none⟩ = some (.int .i64 (S : Int)) ∧ V.cell? ⟨w1.heap.size, 1, none⟩ = some (.slice qa ql qc) ∧ V.cell? ⟨w1.heap.size, 2, none⟩ = some (.slice pa pl pc) ∧ V.cell? ⟨w.heap.size, 0, none⟩ = some (.slice a1 n c1) ∧ V.cell? ⟨w.heap.size, 1, none⟩ = some (.slice a2 n c2) ∧ V.cell? ⟨w.heap.size + 1, 0, none⟩ = some (.slice b1 n d1) ∧ V.cell? ⟨w.heap.size + 1, 1, none⟩ = some (.slice b2 n d2)) := fun V hV => ⟨cell_keep (J0.out.cell 0 (by simp)) hV, cell_keep (J0.out.cell 1 (by simp)) hV, cell_keep (J0.out.cell 2 (by simp)) hV, cell_keep J1.out.two0 hV, cell_keep J1.out.two1 hV, cell_keep J2.out.two0 hV, cell_keep J2.out.two1 hV⟩
  have hS0 := k.hS0
  obtain ⟨y0, y1, y2, y3, y4, y5, y6⟩ := KC.out U (Below.refl _ _)
  go_wp2_with fail
  clear hU
  go_loopg [11] n (fun gk v11 wr => ∃ i : Nat, i + gk = n ∧ v11 = .int .i64 (i : Int) ∧ Below U.heap.size U wr ∧ evenB (ll.take i) (mm.take i) = true)
  case atStart => exact ⟨0, by omega, rfl, Below.refl _ _, by simp [evenB]⟩
  case round =>
    clear y0 y1 y2 y3 y4 y5 y6
    obtain ⟨i, hig, rfl, hB, he⟩ := hrel
    have B : Hid (Below U.heap.size U wr) := hB
    have HN : Hid (evenB (ll.take i) (mm.take i) = true) := he
    clear hB he
    obtain ⟨y0, y1, y2, y3, y4, y5, y6⟩ := KC.out wr B.out
    by_cases hi : i < n
    · have hi1 : i < ll.length := by have := HL.out; omega
      have hi2 : i < mm.length := by have := HM.out; omega
      have il : (i : Int) < (n : Int) := by omega
      obtain ⟨bl, ol, al, cl, rfl, hcl, hsl⟩ := (S2.out.of_below B.out) i hi1
      obtain ⟨bm, om, am, cm, rfl, hcm, hsm⟩ := (T2.out.of_below B.out) i hi2
      clear hsl hsm
      have HT : Hid _ := evenB_take (HL.out.trans HM.out.symm) hi1 hi2
      have HF : Hid (¬ ((ll[i]).length = (mm[i]).length ∧ 0 < (ll[i]).length) → evenB ll mm = false) := fun h => by
        cases he : evenB ll mm with
        | false => rfl
        | true => exact absurd (evenB_at ll mm he i hi1 hi2) h
      generalize (ll[i]).length = p1 at *
      generalize (mm[i]).length = p2 at *
      clear hi1 hi2
      by_cases h1 : p1 = p2
      · subst h1
        by_cases h2 : p1 = 0
        · subst h2
          have HFF : Hid (evenB ll mm = false) := HF.out (by omega)
          clear HT HF
          go_wp2_with fail
          go_quiet (fail)
          have BQ : Hid (Below U.heap.size U (World.drewN wr nq)) := B.out.trans ⟨rfl, rfl, rfl, Nat.le_refl _, fun _ _ => rfl⟩
          clear y0 y1 y2 y3 y4 y5 y6 hcl hcm
          generalize World.drewN wr nq = wq at *
          go_wp2_with fail
          exact bodyPost_ret (v := .tuple #[.int .i64 0, .slice none 0 0, .int .i64 2]) (by simp [results, Try.results10, go_sem]) rfl ⟨rfl, J.out.trans ((B1.out.trans (BQ.out.mono B1.out.size)).mono J.out.size)⟩
        · have h2' : ((p1 : Int) == 0) = false := beq_eq_false_iff_ne.2 (by omega)
          have HNX : Hid (evenB (ll.take (i + 1)) (mm.take (i + 1)) = true) := by
            show _ = _
            rw [HT.out, HN.out, decide_eq_true ⟨rfl, by omega⟩]; rfl
          clear HT HF h2
          go_wp2_with fail
          go_quiet (fail)
          have BQ : Hid (Below U.heap.size U (World.drewN wr nq)) := B.out.trans ⟨rfl, rfl, rfl, Nat.le_refl _, fun _ _ => rfl⟩
          clear y0 y1 y2 y3 y4 y5 y6 hcl hcm
          generalize World.drewN wr nq = wq at *
          go_wp2_with fail
          go_roundg (gk - 1)
          case measure => omega
          case rel => exact ⟨i + 1, by omega, by go_num, BQ.out, HNX.out⟩
      · have h1' : ((p1 : Int) != (p2 : Int)) = true := bne_iff_ne.2 (by omega)
        have HFF : Hid (evenB ll mm = false) := HF.out (fun q => h1 q.1)
        clear HT HF
        go_wp2_with fail
        go_quiet (fail)
        have BQ : Hid (Below U.heap.size U (World.drewN wr nq)) := B.out.trans ⟨rfl, rfl, rfl, Nat.le_refl _, fun _ _ => rfl⟩
        clear y0 y1 y2 y3 y4 y5 y6 hcl hcm
        generalize World.drewN wr nq = wq at *
        go_wp2_with fail
        exact bodyPost_ret (v := .tuple #[.int .i64 0, .slice none 0 0, .int .i64 2]) (by simp [results, Try.results10, go_sem]) rfl ⟨rfl, J.out.trans ((B1.out.trans (BQ.out.mono B1.out.size)).mono J.out.size)⟩
    · have il : ¬ (i : Int) < (n : Int) := by omega
      have HTT : Hid (evenB ll mm = true) := by
        have h := HN.out
        rw [List.take_of_length_le (by have := HL.out; omega), List.take_of_length_le (by have := HM.out; omega)] at h
        exact h
      have := HOdd.out.symm.trans HTT.out
      cases this
end
end Go.Proofs.Ytokkjdelomkfiaa
