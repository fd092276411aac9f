/- Through the gates. -/
import Derived.Test.YtelfcapjegncfaaPb
set_option linter.unusedSimpArgs false
set_option linter.unusedVariables false
set_option maxRecDepth 100000
namespace Go.Proofs.Ytelfcapjegncfaa
open Go.RowKit Go.Deep Go.PlainAid

theorem row_at {w : World} {base g n cap : Nat} {l : List Nat} (h : w.ownsRow base 3 1 (.slice (some ⟨g, 0, none⟩) n cap) n (ivs l)) {j : Nat} (hj : j < n) : w.cell? ⟨g, j, none⟩ = some (.int .i64 (l.getD j 0 : Int)) := by
  have hl : l.length = n := by have := h.1; rw [ivs_len] at this; omega
  rw [h.cellAt j (by omega)]
  simp [ivs, List.getD_eq_getElem?_getD, hl, hj]
set_option maxHeartbeats 4000000 in
theorem through16 {w : World} {ag ac : Option Addr} {cg b c bx cc : Nat} {gs : List (Nat × Nat)} {cs : List Bool} {l0 : List Nat} (hg : VL w ag (gvs gs)) (hlt : ∀ g ∈ gs, g.1 < l0.length ∧ g.2 < l0.length) (hgl : gs.length ≤ 4096) (h : VL w (some ⟨b, 0, none⟩) (ivs l0)) (h1 : 1 ≤ l0.length) (hl : l0.length ≤ 256) (hbx : w.cell? ⟨bx, 0, none⟩ = some (.slice ac cs.length cc)) (hcs : VL w ac (bvs cs)) (hcl : cs.length = gs.length) :
    Calls Try.prog 16 #[.slice ag gs.length cg, .slice (some ⟨b, 0, none⟩) l0.length c, .func (.func 18) #[] #[.pointer (some ⟨bx, 0, none⟩)]] w fun e w' => (∃ v, e = .returned v ∧ w'.ownsRow w.heap.size 3 1 v l0.length (ivs (runP gs cs l0))) ∧ Below w.heap.size w w' := by
  have HGV : Hid (VL w ag (gvs gs)) := hg
  have HLT : Hid (∀ i (hi : i < gs.length), gs[i].1 < l0.length ∧ gs[i].2 < l0.length) := fun i hi => hlt _ (List.getElem_mem hi)
  have H23 : Hid (Calls Try.prog 23 #[.slice (some ⟨b, 0, none⟩) l0.length c] w fun e w' => (∃ v, e = .returned v ∧ w'.ownsRow w.heap.size 3 1 v l0.length (ivs l0)) ∧ Below w.heap.size w w') := clone23 h hl
  have HCL : Hid (cs.length = gs.length) := hcl
  have H18 : Hid (∀ (k x y : Nat), k < cs.length → ∀ V, Below w.heap.size w V → Calls Try.prog 18 #[.int .i64 (k : Int), .agg #[.int .i64 (x : Int), .int .i64 (y : Int)], .pointer (some ⟨bx, 0, none⟩)] V fun e w' => e = .returned (.agg #[.int .i64 (twX x y (cs.getD k false) : Int), .int .i64 (twY x y (cs.getD k false) : Int)]) ∧ Below V.heap.size V w') := fun k x y hk V hV => clos18 (cell_keep hbx hV) (hcs.of_below hV) hk
  clear hg hlt h hbx hcs hcl
  generalize hn : l0.length = n at *
  have HN : Hid (l0.length = n) := hn
  clear hn
  go_enter Try.func16, Try.ntmps16
  go_wp2_with (go_at_call 23; refine (H23.out).mono ?_; rintro e w1 ⟨⟨v7, rfl, hO⟩, hB⟩; obtain ⟨g, cap, rfl, hg1, hg2⟩ := hO.form h1; have O1 : Hid (w1.ownsRow w.heap.size 3 1 (.slice (some ⟨g, 0, none⟩) n cap) n (ivs l0)) := hO; have B1 : Hid (Below w.heap.size w w1) := hB; clear hO hB H23)
  go_loopg [8, 9, 10, 15] gs.length (fun gk v8 v9 v10 v15 wr => ∃ i : Nat, i + gk = gs.length ∧ v15 = .int .i64 (i : Int) ∧ wr.ownsRow w.heap.size 3 1 (.slice (some ⟨g, 0, none⟩) n cap) n (ivs (runP (gs.take i) (cs.take i) l0)) ∧ Below w.heap.size w wr)
  case atStart => exact ⟨0, by omega, rfl, by simpa [runP] using O1.out, B1.out⟩
  case round =>
    obtain ⟨i, hig, rfl, hO, hB⟩ := hrel
    have O : Hid (wr.ownsRow w.heap.size 3 1 (.slice (some ⟨g, 0, none⟩) n cap) n (ivs (runP (gs.take i) (cs.take i) l0))) := hO
    have B : Hid (Below w.heap.size w wr) := hB
    clear hO hB O1 B1
    by_cases hi : i < gs.length
    · have il : (i : Int) < (gs.length : Int) := by omega
      obtain ⟨bG, oG, rfl, q1, q2⟩ := (HGV.out.of_below B.out).gate i hi
      obtain ⟨hX, hY⟩ := HLT.out i hi
      have hic : i < cs.length := by have := HCL.out; omega
      have RN : Hid (runP (gs.take (i + 1)) (cs.take (i + 1)) l0 = swp (runP (gs.take i) (cs.take i) l0) gs[i] (cs.getD i false)) := runP_take hi hic
      generalize gs[i] = gt at *
      obtain ⟨X, Y⟩ := gt
      dsimp only at q1 q2 hX hY
      have hgw : g < wr.heap.size := (O.out.lt g rfl).2
      have cX := row_at O.out hX
      have cY := row_at O.out hY
      generalize runP (gs.take i) (cs.take i) l0 = L at *
      have HC : Hid (∀ V, Below w.heap.size w V → Calls Try.prog 18 #[.int .i64 (i : Int), .agg #[.int .i64 (L.getD X 0 : Int), .int .i64 (L.getD Y 0 : Int)], .pointer (some ⟨bx, 0, none⟩)] V fun e w' => e = .returned (.agg #[.int .i64 (twX (L.getD X 0) (L.getD Y 0) (cs.getD i false) : Int), .int .i64 (twY (L.getD X 0) (L.getD Y 0) (cs.getD i false) : Int)]) ∧ Below V.heap.size V w') := H18.out i _ _ hic
      have SW : Hid (ivs (swp L (X, Y) (cs.getD i false)) = ((ivs L).set X (.int .i64 (twX (L.getD X 0) (L.getD Y 0) (cs.getD i false) : Int))).set Y (.int .i64 (twY (L.getD X 0) (L.getD Y 0) (cs.getD i false) : Int))) := by
        show _ = _
        rw [ivs_set, ivs_set]
        rfl
      generalize twX (L.getD X 0) (L.getD Y 0) (cs.getD i false) = p at *
      generalize twY (L.getD X 0) (L.getD Y 0) (cs.getD i false) = q at *
      generalize L.getD X 0 = x at *
      generalize L.getD Y 0 = y at *
      have hXn : (X : Int) < (n : Int) := by omega
      have hYn : (Y : Int) < (n : Int) := by omega
      obtain ⟨U, hU⟩ : ∃ U, U = wr.alloc (.cells #[.int .i64 (X : Int), .int .i64 (Y : Int)] 28) := ⟨_, rfl⟩
      have BU : Hid (Below wr.heap.size wr U) := by rw [hU]; exact (Below.refl _ _).alloc (Nat.le_refl _) _
      have IU : Hid (IHolds U wr.heap.size 28 [.int .i64 (X : Int), .int .i64 (Y : Int)]) := by rw [hU]; exact IHolds.new _ _ _
      have OU : Hid (U.ownsRow w.heap.size 3 1 (.slice (some ⟨g, 0, none⟩) n cap) n (ivs L)) := own_below O.out BU.out
      have KQ : Hid (∀ V, Below U.heap.size U V → (V.cell? ⟨wr.heap.size, 0, none⟩ = some (.int .i64 (X : Int)) ∧ V.cell? ⟨wr.heap.size, 1, none⟩ = some (.int .i64 (Y : Int)) ∧ V.cell? ⟨g, X, none⟩ = some (.int .i64 (x : Int)) ∧ V.cell? ⟨g, Y, none⟩ = some (.int .i64 (y : Int)))) := fun V hV => ⟨(IU.out.of_below hV).cell 0 (by simp), (IU.out.of_below hV).cell 1 (by simp), cell_keep (cell_keep cX BU.out) hV, cell_keep (cell_keep cY BU.out) hV⟩
      have BW : Hid (Below w.heap.size w U) := B.out.trans (BU.out.mono B.out.size)
      have CA : Hid (Calls Try.prog 18 #[.int .i64 (i : Int), .agg #[.int .i64 (x : Int), .int .i64 (y : Int)], .pointer (some ⟨bx, 0, none⟩)] U.drew fun e w' => e = .returned (.agg #[.int .i64 (p : Int), .int .i64 (q : Int)]) ∧ Below U.heap.size U.drew w') := HC.out _ BW.out.drew
      have BZ : Hid (Below U.heap.size U (U.drew.alloc (.cells #[.int .i64 0, .int .i64 0] 43))) := (Below.refl _ U).drew.alloc (Nat.le_refl _) _
      have IZ : Hid (IHolds (U.drew.alloc (.cells #[.int .i64 0, .int .i64 0] 43)) U.heap.size 43 [.int .i64 0, .int .i64 0]) := IHolds.new U.drew 43 [_, _]
      have CB : Hid (Calls Try.prog 18 #[.int .i64 (i : Int), .agg #[.int .i64 (x : Int), .int .i64 (y : Int)], .pointer (some ⟨bx, 0, none⟩)] (U.drew.alloc (.cells #[.int .i64 0, .int .i64 0] 43)) fun e w' => e = .returned (.agg #[.int .i64 (p : Int), .int .i64 (q : Int)]) ∧ Below (U.drew.alloc (.cells #[.int .i64 0, .int .i64 0] 43)).heap.size (U.drew.alloc (.cells #[.int .i64 0, .int .i64 0] 43)) w') := HC.out _ (BW.out.trans (BZ.out.mono BW.out.size))
      go_upto_region 5 with fail
      rw [← hU]
      clear hU q1 q2 cX cY HC
      go_cut [10] (fun v10 wx => ∃ bo, v10 = .pointer (some ⟨bo, 0, none⟩) ∧ IHolds wx bo 43 [.int .i64 (p : Int), .int .i64 (q : Int)] ∧ Below U.heap.size U wx)
      case first =>
        go_region_held3 (fun V => V.cell? ⟨wr.heap.size, 0, none⟩ = some (.int .i64 (X : Int)) ∧ V.cell? ⟨wr.heap.size, 1, none⟩ = some (.int .i64 (Y : Int)) ∧ V.cell? ⟨g, X, none⟩ = some (.int .i64 (x : Int)) ∧ V.cell? ⟨g, Y, none⟩ = some (.int .i64 (y : Int)))
          (first | exact KQ.out _ (Below.refl _ U).drew | exact KQ.out _ BZ.out | exact KQ.out _ B6.out | exact KQ.out _ B7.out | exact KQ.out _ B8.out | exact KQ.out _ B9.out | assumption | fail)
          (first
            | (go_at_call 18; refine (CA.out).mono ?_; rintro e w6 ⟨rfl, hB6⟩; have B6 : Hid (Below U.heap.size U w6) := (Below.refl _ U).drew.trans hB6; have B7 : Hid (Below U.heap.size U (w6.alloc (.cells #[.int .i64 0, .int .i64 0] 43))) := B6.out.alloc B6.out.size _; have B8 : Hid (Below U.heap.size U (w6.alloc (.cells #[.int .i64 (p : Int), .int .i64 (q : Int)] 43))) := B6.out.alloc B6.out.size _; have I8 : Hid (IHolds (w6.alloc (.cells #[.int .i64 (p : Int), .int .i64 (q : Int)] 43)) w6.heap.size 43 [.int .i64 (p : Int), .int .i64 (q : Int)]) := IHolds.new _ _ _; clear hB6)
            | (go_at_call 18; refine (CB.out).mono ?_; rintro e w6 ⟨rfl, hB6⟩; have B6 : Hid (Below U.heap.size U w6) := BZ.out.trans (hB6.mono BZ.out.size); have J6 : Hid (IHolds w6 U.heap.size 43 [.int .i64 0, .int .i64 0]) := IZ.out.of_below hB6; have z0 : w6.cell? ⟨U.heap.size, 0, none⟩ = some (.int .i64 0) := J6.out.cell 0 (by simp); have z1 : w6.cell? ⟨U.heap.size, 1, none⟩ = some (.int .i64 0) := J6.out.cell 1 (by simp); have f0 := J6.out.frozen 0; have f1 := J6.out.frozen 1; have B9 : Hid (Below U.heap.size U ((w6.setCell ⟨U.heap.size, 0, none⟩ (.int .i64 (p : Int))).setCell ⟨U.heap.size, 1, none⟩ (.int .i64 (q : Int)))) := (B6.out.setCell (p := ⟨U.heap.size, 0, none⟩) (Nat.le_refl _) _).setCell (p := ⟨U.heap.size, 1, none⟩) (Nat.le_refl _) _; have I9 : Hid (IHolds ((w6.setCell ⟨U.heap.size, 0, none⟩ (.int .i64 (p : Int))).setCell ⟨U.heap.size, 1, none⟩ (.int .i64 (q : Int))) U.heap.size 43 [.int .i64 (p : Int), .int .i64 (q : Int)]) := (J6.out.set 0 _).set 1 _; clear hB6)
            | fail)
        · go_wp2_with fail
          go_meet
          case rel => exact ⟨_, rfl, I8.out, B8.out⟩
        · go_wp2_with fail
          go_meet
          case rel => exact ⟨_, rfl, I9.out, B9.out⟩
      case rest =>
        obtain ⟨bo, rfl, hIo, hBo⟩ := hcut
        have IO : Hid (IHolds wc bo 43 [.int .i64 (p : Int), .int .i64 (q : Int)]) := hIo
        have BO : Hid (Below U.heap.size U wc) := hBo
        have OC : Hid (wc.ownsRow w.heap.size 3 1 (.slice (some ⟨g, 0, none⟩) n cap) n (ivs L)) := own_below OU.out hBo
        have IG : Hid (IHolds wc wr.heap.size 28 [.int .i64 (X : Int), .int .i64 (Y : Int)]) := IU.out.of_below hBo
        obtain ⟨KQ0, _⟩ := KQ.out wc hBo
        clear hIo hBo CA CB KQ KQ0 BZ IZ
        have ng : wr.heap.size ≠ g := by omega
        have nb : bo ≠ g := fun e => IO.out.not_row (by decide) OC.out (by rw [e]; rfl)
        have KR : Hid (∀ V, IHolds V wr.heap.size 28 [.int .i64 (X : Int), .int .i64 (Y : Int)] → IHolds V bo 43 [.int .i64 (p : Int), .int .i64 (q : Int)] → (V.cell? ⟨wr.heap.size, 0, none⟩ = some (.int .i64 (X : Int)) ∧ V.cell? ⟨wr.heap.size, 1, none⟩ = some (.int .i64 (Y : Int)) ∧ V.cell? ⟨bo, 0, none⟩ = some (.int .i64 (p : Int)) ∧ V.cell? ⟨bo, 1, none⟩ = some (.int .i64 (q : Int)))) := fun V h1 h2 => ⟨h1.cell 0 (by simp), h1.cell 1 (by simp), h2.cell 0 (by simp), h2.cell 1 (by simp)⟩
        have K0 : Hid _ := KR.out wc IG.out IO.out
        have K1 : Hid _ := KR.out (wc.setCell ⟨g, X, none⟩ (.int .i64 (p : Int))) (IG.out.set_far ng _) (IO.out.set_far nb _)
        have K2 : Hid _ := KR.out ((wc.setCell ⟨g, X, none⟩ (.int .i64 (p : Int))).setCell ⟨g, Y, none⟩ (.int .i64 (q : Int))) ((IG.out.set_far ng _).set_far ng _) ((IO.out.set_far nb _).set_far nb _)
        have O1 : Hid ((wc.setCell ⟨g, X, none⟩ (.int .i64 (p : Int))).ownsRow w.heap.size 3 1 (.slice (some ⟨g, 0, none⟩) n cap) n ((ivs L).set X (.int .i64 (p : Int)))) := (OC.out.stored X _).1
        have O2 : Hid (((wc.setCell ⟨g, X, none⟩ (.int .i64 (p : Int))).setCell ⟨g, Y, none⟩ (.int .i64 (q : Int))).ownsRow w.heap.size 3 1 (.slice (some ⟨g, 0, none⟩) n cap) n (((ivs L).set X (.int .i64 (p : Int))).set Y (.int .i64 (q : Int)))) := (O1.out.stored Y _).1
        have cX : wc.cell? ⟨g, X, none⟩ = some (.int .i64 (L.getD X 0 : Int)) := row_at OC.out hX
        have fX : wc.frozen? ⟨g, X, none⟩ = false := OC.out.frozenAt X
        have e1 := O1.out
        rw [ivs_set] at e1
        have cY : (wc.setCell ⟨g, X, none⟩ (.int .i64 (p : Int))).cell? ⟨g, Y, none⟩ = some (.int .i64 ((L.set X p).getD Y 0 : Int)) := row_at e1 hY
        have fY : (wc.setCell ⟨g, X, none⟩ (.int .i64 (p : Int))).frozen? ⟨g, Y, none⟩ = false := O1.out.frozenAt Y
        clear e1
        generalize L.getD X 0 = oX at *
        generalize (L.set X p).getD Y 0 = oY at *
        have BF : Hid (Below w.heap.size w ((wc.setCell ⟨g, X, none⟩ (.int .i64 (p : Int))).setCell ⟨g, Y, none⟩ (.int .i64 (q : Int))).drew) := (((BW.out.trans (BO.out.mono BW.out.size)).setCell (p := ⟨g, X, none⟩) hg1 _).setCell (p := ⟨g, Y, none⟩) hg1 _).drew
        go_wp2_with fail
        go_region_held3 (fun V => V.cell? ⟨wr.heap.size, 0, none⟩ = some (.int .i64 (X : Int)) ∧ V.cell? ⟨wr.heap.size, 1, none⟩ = some (.int .i64 (Y : Int)) ∧ V.cell? ⟨bo, 0, none⟩ = some (.int .i64 (p : Int)) ∧ V.cell? ⟨bo, 1, none⟩ = some (.int .i64 (q : Int)))
          (first | exact K0.out | exact K1.out | exact K2.out | assumption | fail)
          (fail)
        go_wp2_with fail
        go_roundg (gk - 1)
        case measure => omega
        case rel => exact ⟨i + 1, by omega, by go_num, by rw [RN.out, SW.out]; exact O2.out, BF.out⟩
    · have il : ¬ (i : Int) < (gs.length : Int) := by omega
      have O2 : Hid (wr.ownsRow w.heap.size 3 1 (.slice (some ⟨g, 0, none⟩) n cap) n (ivs (runP gs cs l0))) := by
        have q := O.out
        rw [List.take_of_length_le (by omega), List.take_of_length_le (by have := HCL.out; omega)] at q
        exact q
      go_wp2_with fail
      go_ret
      exact ⟨⟨_, rfl, O2.out⟩, B.out⟩
end Go.Proofs.Ytelfcapjegncfaa
