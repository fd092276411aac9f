/- AuditWhole: the law. -/
import Derived.Test.YtafekaonmpkhiaaDn
import Derived.Deep.CutBlock
set_option linter.unusedSimpArgs false
set_option linter.unusedVariables false
set_option maxRecDepth 100000
namespace Go.Proofs.Ytafekaonmpkhiaa
open Go.RowKit Go.Shelf Go.Deep Go.PlainAid Go.Maps Go.WideMaps

/-- How the walk stands behind i hands. -/
structure OR (w W : World) (cb bm bs base i : Nat) (l : List Hd) (v4 v5 : Value) : Prop where
  hist : Hist l
  few : l.length ≤ i
  cu : CU W cb bm bs l
  bl : BL W v5 l (sn (packs l))
  bt : BT W v5
  sl : SL W base v4 i l
  below : Below w.heap.size w W
theorem OR.size {w W : World} {cb bm bs base i : Nat} {l : List Hd} {v4 v5 : Value} (o : OR w W cb bm bs base i l v4 v5) : base ≤ W.heap.size := o.sl.1
set_option maxHeartbeats 8000000 in
theorem law4 {w : World} {hs : List Hd} {v : Value} (hh : HLs w v hs) (hhs : ∀ h ∈ hs, Hs h) (hN : (hs.length + 2) * 16 ≤ 140737488355328) :
    Calls Try.prog 4 #[v] w fun e w' => e = .returned (.bool true) ∧ Below w.heap.size w w' := by
  obtain ⟨a0, c0, rfl, -⟩ := id hh
  have HH : Hid (HLs w (.slice a0 hs.length c0) hs) := hh
  have HS : Hid ((∀ h ∈ hs, Hs h) ∧ (hs.length + 2) * 16 ≤ 140737488355328) := ⟨hhs, hN⟩
  generalize hn : hs.length = N at *
  have HNN : Hid (hs.length = N) := hn
  clear hh hhs hN hn
  go_enter Try.func4, Try.ntmps4
  go_wp2_with (go_at_call 5; refine (newCustody5 _).mono ?_)
  rintro e V ⟨rfl, hcu, hbl⟩
  generalize hcb : w.heap.size + 2 = cb at *
  generalize hbs : w.heap.size + 1 = bs at *
  generalize hbm : w.heap.size = bm at *
  have NB : Hid (w.heap.size = bm ∧ w.heap.size + 1 = bs ∧ w.heap.size + 2 = cb) := ⟨hbm, by rw [hbm]; exact hbs, by rw [hbm]; exact hcb⟩
  have CV : Hid (CU V cb bm bs []) := hcu
  have BV : Hid (Below w.heap.size w V) := by rw [hbm]; exact hbl
  have H8 : Hid (Calls Try.prog 8 #[.pointer (some ⟨cb, 0, none⟩)] V fun e w' => (∃ v, e = .returned (.tuple #[v, .bool true]) ∧ BL w' v [] (sn (packs [])) ∧ BT w' v) ∧ Below V.heap.size V w') := boxes8 hcu Hist.nil.inv
  clear hcu hbl hbm hbs hcb
  go_wp2_with (go_at_call 8; refine H8.out.mono ?_)
  rintro e W ⟨⟨v, rfl, hv, tv⟩, hB⟩
  obtain ⟨a5, c5, e5, -⟩ := id hv
  have n0 : (sn (packs [])).length = 0 := by rw [(sn_perm _).length_eq]; rfl
  rw [n0] at e5
  subst e5
  have O0 : Hid (OR w W cb bm bs W.heap.size 0 [] (.slice none 0 0) (.slice a5 0 c5)) := ⟨.nil, Nat.le_refl _, CV.out.of_below hB, hv, tv, ⟨Nat.le_refl _, [], ⟨by simp [txs], .inl ⟨rfl, rfl⟩⟩, by simp, by simp⟩, BV.out.trans (hB.mono BV.out.size)⟩
  have WB : Hid (w.heap.size ≤ W.heap.size) := O0.out.below.size
  generalize hbase : W.heap.size = base at *
  clear hv tv hB H8 CV BV n0 hbase
  go_wp2_with fail
  go_loopg [4, 5, 34] N (fun gk v4 v5 v34 wr => ∃ (i : Nat) (l : List Hd), i + gk = N ∧ v34 = .int .i64 (i : Int) ∧ OR w wr cb bm bs base i l v4 v5)
  case atStart => exact ⟨0, [], by omega, rfl, O0.out⟩
  case round =>
    clear O0
    obtain ⟨i, l, hk, rfl, hO⟩ := hrel
    have HO : Hid (OR w wr cb bm bs base i l u4 u5) := hO
    clear hO
    by_cases hlt : i < N
    · have il : (i : Int) < (N : Int) := by omega
      have nb : N < 140737488355328 := by have := HS.out.2; omega
      have hx := HH.out.of_below HO.out.below
      have hlt' : i < hs.length := by rw [HNN.out]; exact hlt
      obtain ⟨a', c', e', q⟩ := hx
      have e1 : a0 = a' := by injection e'
      subst e1
      obtain ⟨b0, o0, rfl, p0, p1, p2, p3, p4, p5⟩ := q i hlt'
      have hsi := HS.out.1 _ (List.getElem_mem hlt')
      generalize hs[i] = h at *
      have P : Hid (Hs h ∧ wr.cell? ⟨b0, o0 + i * 6, none⟩ = some (.int .i64 h.act) ∧ wr.cell? ⟨b0, o0 + i * 6 + 1, none⟩ = some (.string h.box) ∧ wr.cell? ⟨b0, o0 + i * 6 + 2, none⟩ = some (.string h.who) ∧ wr.cell? ⟨b0, o0 + i * 6 + 3, none⟩ = some (.string h.to_) ∧ wr.cell? ⟨b0, o0 + i * 6 + 4, none⟩ = some (.int .i64 h.cnt) ∧ wr.cell? ⟨b0, o0 + i * 6 + 5, none⟩ = some (.string h.sl)) := ⟨hsi, p0, p1, p2, p3, p4, p5⟩
      have HI : Hid (Inv1 l) := HO.out.hist.inv
      have LL : Hid (l.length < 140737488355328 ∧ (i + 2) * 16 ≤ 140737488355328) := ⟨by have := HO.out.few; have := HS.out.2; omega, by have := HS.out.2; omega⟩
      have IL : Hid ((i : Int) < (N : Int)) := il
      clear hsi p0 p1 p2 p3 p4 p5 q e' hlt'
      by_cases he : handC l h = 0
      · have HE : Hid (handC l h = 0) := he
        clear he
        go_upto_block 1 with fail
        refine lb1_ok HI.out HE.out (HO.out.hist.snoc HE.out).inv P.out.1 LL.out.1 LL.out.2 HO.out.size IL.out P.out.2.1 P.out.2.2.1 P.out.2.2.2.1 P.out.2.2.2.2.1 P.out.2.2.2.2.2.1 P.out.2.2.2.2.2.2 HO.out.cu HO.out.bl HO.out.bt HO.out.sl ?_
        intro y2 y8 y9 y10 y11 y12 y14 y15 y16 y36 y37 y38 y39 y40 y41 y42 y43 y44 y45 y46 y47 y48 y49 y50 y51 y52 y53 y54 y55 y56 y57 y58 y59 y60 y61 y62 y63 y64 y65 y66 y67 y68 y69 y70 y71 y72 y73 y74 y75 y76 y77 y78 y79 y80 y81 y82 y83 y84 y85 y86 y87 y88 y89 y90 y91 y92 y93 y94 y95 y96 y97 y98 y99 y100 y101 y102 y103 y104 y105 y106 y107 y108 y109 y110 y111 y112 y113 y114 y115 y116 y117 y118 y119 y120 y121 y122 y123 y124 y125 y126 y127 y128 y129 y130 y131 y132 y133 y134 y135 y136 y137 y138 y139 y140 y141 y142 y143 y144 y145 y146 y147 y148 y149 y150 y151 y152 y153 y154 y155 y156 y157 y158 y159 y160 y161 y162 y163 y164 y165 y166 v9 v10 X xc xb xt xs xf
        have XO : Hid (OR w X cb bm bs base (i + 1) (l ++ [h]) v9 v10) := ⟨.snoc HO.out.hist HE.out, by have := HO.out.few; simp; omega, xc, xb, xt, xs, Below.fr2 HO.out.below xf (by have := NB.out; omega) (by have := NB.out; omega) WB.out⟩
        clear xc xb xt xs xf HO P
        go_wp2_with fail
        go_roundg (gk - 1)
        case measure => omega
        case rel => exact ⟨i + 1, _, by omega, by go_num, XO.out⟩
      · have HE : Hid (handC l h ≠ 0) := he
        clear he
        go_upto_block 1 with fail
        refine lb1_bad HI.out HE.out P.out.1 LL.out.1 IL.out P.out.2.1 P.out.2.2.1 P.out.2.2.2.1 P.out.2.2.2.2.1 P.out.2.2.2.2.2.1 P.out.2.2.2.2.2.2 HO.out.cu HO.out.bl HO.out.bt ?_
        intro y8 y9 y10 y11 y36 y37 y38 y39 y40 y41 y42 y43 y44 y45 y46 y47 y48 y49 y50 y51 y52 y53 X xc xf
        have gg := HO.out.bl.of_fr HO.out.bt HO.out.cu xf
        have XO : Hid (OR w X cb bm bs base (i + 1) l u4 u5) := ⟨HO.out.hist, by have := HO.out.few; omega, xc, gg.1, gg.2, (HO.out.sl.of_fr HO.out.cu xf).more, Below.fr2 HO.out.below (xf.two HO.out.size) (by have := NB.out; omega) (by have := NB.out; omega) WB.out⟩
        clear xc gg xf HO P
        go_wp2_with fail
        go_roundg (gk - 1)
        case measure => omega
        case rel => exact ⟨i + 1, _, by omega, by go_num, XO.out⟩
    · obtain rfl : i = N := by omega
      clear hlt
      go_wp2_with fail
      exact bodyPost_ret (v := .bool true) (by simp [results, Try.results4, go_sem]) rfl ⟨rfl, HO.out.below⟩
end Go.Proofs.Ytafekaonmpkhiaa
