/- The document's power and Hold. -/
import Derived.Test.YtfbceknafmkipaaGreatRg
import Derived.Test.YtfbceknafmkipaaGreatDd
import Derived.Deep.RegionHeld3
import Derived.Deep.AppendLies
set_option linter.unusedSimpArgs false
set_option linter.unusedVariables false
set_option maxRecDepth 100000
namespace Go.Proofs.YtfbceknafmkipaaGreat
open Go.RowKit Go.Deep Go.PlainAid

section
variable {z : Int} {G : Array Value} {S Wd M low one sq Ri Wd2 M2 low2 one2 sq2 Ri2 : Nat}
theorem E_pow_text {x n : Nat} (k : KD z G S Wd M low one sq Ri Wd2 M2 low2 one2 sq2 Ri2) (hx : x < M2) : sgn M M2 (x ^ n % M2) = E M M2 (x ^ n) := rfl
set_option maxHeartbeats 2000000 in
theorem power39 (k : KD z G S Wd M low one sq Ri Wd2 M2 low2 one2 sq2 Ri2) {w : World} {qa pa : Option Addr} {ql qc pl pc : Nat} (n1 : NumV w 65536 M (.slice qa ql qc)) (n2 : NumV w 65536 M2 (.slice pa pl pc)) {b : ByteArray} (hb : isEl S M b = true) {n : Nat} {vn : Value} (hn : NumV w 65536 n vn) (n9 : n ≤ M) :
    Calls Tryz.prog 39 #[.agg #[.int .i64 (S : Int), .slice qa ql qc, .slice pa pl pc], .string b, vn] w fun e w' => (∃ v, e = .returned v ∧ NumV w' 65536 (E M M2 (numS b ^ n)) v) ∧ Below w.heap.size w w' := by
  generalize hW : w.alloc (.cells #[.int .i64 (S : Int), .slice qa ql qc, .slice pa pl pc] 48) = W
  have J : Hid (Below w.heap.size w W) := by rw [← hW]; exact (Below.refl _ w).alloc (Nat.le_refl _) _
  have I0 : Hid (IHolds W w.heap.size 48 [.int .i64 (S : Int), .slice qa ql qc, .slice pa pl pc]) := by rw [← hW]; exact IHolds.new' w 48 [.int .i64 (S : Int), .slice qa ql qc, .slice pa pl pc] rfl
  obtain ⟨na, nl, nc, rfl⟩ := sN (show Hid (NumV w 65536 n vn) from hn)
  have RX : Hid (∀ V, Calls Tryz.prog 40 #[.string b] V fun e w' => (∃ v, e = .returned v ∧ NumV w' 65536 (numS b) v) ∧ Below V.heap.size V w') := fun V => read_small (isEl_size hb) k.hS V
  have RP : Hid (∀ V va, Below W.heap.size W V → NumV V 65536 (numS b) va → Calls Tryz.prog 69 #[.agg #[.int .i64 (S : Int), .slice qa ql qc, .slice pa pl pc], va, .slice na nl nc] V fun e w' => (∃ v, e = .returned v ∧ NumV w' 65536 (E M M2 (numS b ^ n)) v) ∧ Below V.heap.size V w') := fun V va hV ha => powerEV k ((n1.of_below J.out).of_below hV) ((n2.of_below J.out).of_below hV) ha ((hn.of_below J.out).of_below hV) (k.el hb) n9
  have KP : Hid (∀ V, Below W.heap.size W V → (Below W.heap.size W V ∧ V.cell? ⟨w.heap.size, 0, none⟩ = some (.int .i64 (S : Int)) ∧ V.cell? ⟨w.heap.size, 1, none⟩ = some (.slice qa ql qc) ∧ V.cell? ⟨w.heap.size, 2, none⟩ = some (.slice pa pl pc))) := fun V hV => ⟨hV, cell_keep (I0.out.cell 0 (by simp)) hV, cell_keep (I0.out.cell 1 (by simp)) hV, cell_keep (I0.out.cell 2 (by simp)) hV⟩
  have sB : Hid (∀ V V', Below V.heap.size V V' → Below W.heap.size W V → Below W.heap.size W V') := fun V V' h h' => h'.trans (h.mono h'.size)
  clear n1 n2 hn hb
  go_enter Tryz.func39, Tryz.ntmps39
  go_wp2_with fail
  clear hW
  go_region_held3 (fun V => Below W.heap.size W V ∧ V.cell? ⟨w.heap.size, 0, none⟩ = some (.int .i64 (S : Int)) ∧ V.cell? ⟨w.heap.size, 1, none⟩ = some (.slice qa ql qc) ∧ V.cell? ⟨w.heap.size, 2, none⟩ = some (.slice pa pl pc))
    (first | exact KP.out _ (dB _) | assumption | exact KP.out _ B7.out | exact KP.out _ B6.out | fail)
    (first
      | (go_at_call 40; refine (RX.out _).mono ?_; rintro e w6 ⟨⟨r6, rfl, n6⟩, hB6⟩; have B6 : Hid (Below W.heap.size W w6) := sB.out _ _ hB6 (dB _); have M6 : Hid (NumV w6 65536 (numS b) r6) := n6; clear n6 RX)
      | (go_at_call 69; refine (RP.out _ _ B6.out M6.out).mono ?_; rintro e w7 ⟨⟨r7, rfl, n7⟩, hB7⟩; have B7 : Hid (Below W.heap.size W w7) := sB.out _ _ hB7 B6.out; have M7 : Hid (NumV w7 65536 (E M M2 (numS b ^ n)) r7) := n7; clear n7)
      | fail)
  go_wp2_with fail
  go_ret
  exact ⟨⟨_, rfl, M7.out⟩, J.out.trans (B7.out.mono J.out.size)⟩
theorem E_le {x : Nat} (h : PK S M M2) : E M M2 x ≤ M := sgn_le h.e2 (h.ml x)
theorem textE (k : KD z G S Wd M low one sq Ri Wd2 M2 low2 one2 sq2 Ri2) (h : PK S M M2) {W : World} {x : Nat} {v : Value} (hv : NumV W 65536 (E M M2 x) v) : Calls Tryz.prog 38 #[v, .int .i64 (S : Int)] W fun e w' => e = .returned (.string (EX S M M2 x)) ∧ Below W.heap.size W w' := by
  have q := refTextV (S := S) hv (lenD (E_le h) k.l5) (by have := k.hS; omega)
  exact q
theorem map_take_snoc {α β : Type} (f : α → β) {l : List α} {i : Nat} (h : i < l.length) : (l.map f).take (i + 1) = (l.map f).take i ++ [f l[i]] := by
  rw [List.take_succ_eq_append_getElem (by simpa using h)]; simp
set_option maxHeartbeats 4000000 in
theorem hold19 (k : KD z G S Wd M low one sq Ri Wd2 M2 low2 one2 sq2 Ri2) (h : PK S M M2) {l : List Cl} (ok : OkC (isEl S M) l) {w : World} {qa pa a b : Option Addr} {ql qc pl pc c d : Nat} (n1 : NumV w 65536 M (.slice qa ql qc)) (n2 : NumV w 65536 M2 (.slice pa pl pc)) {m : List ByteArray} (hs : CM w a l) (hm : SL w b m) (hml : m.length = l.length) (hsc : m.all (isSc S M) = true) :
    Calls Tryz.prog 19 #[.agg #[.int .i64 (S : Int), .slice qa ql qc, .slice pa pl pc], .slice a l.length c, .slice b l.length d] w fun e w' => e = .returned (.bool (decide (l.map Prod.snd = fsG S M M2 l m))) ∧ Below w.heap.size w w' := by
  generalize hW : w.alloc (.cells #[.int .i64 (S : Int), .slice qa ql qc, .slice pa pl pc] 48) = W
  have J : Hid (Below w.heap.size w W) := by rw [← hW]; exact (Below.refl _ w).alloc (Nat.le_refl _) _
  have I0 : Hid (IHolds W w.heap.size 48 [.int .i64 (S : Int), .slice qa ql qc, .slice pa pl pc]) := by rw [← hW]; exact IHolds.new' w 48 [.int .i64 (S : Int), .slice qa ql qc, .slice pa pl pc] rfl
  have N1 : Hid (NumV W 65536 M (.slice qa ql qc)) := n1.of_below J.out
  have N2 : Hid (NumV W 65536 M2 (.slice pa pl pc)) := n2.of_below J.out
  have HS : Hid (CM W a l) := hs.of_below J.out
  have HM : Hid (SL W b m) := hm.of_below J.out
  have HE : Hid (m.length = l.length) := hml
  have HSC : Hid (m.all (isSc S M) = true) := hsc
  have HOK : Hid (OkC (isEl S M) l) := ok
  have HP : Hid (PK S M M2) := h
  have h64 := ok.most
  have hfl : Hid ((fsG S M M2 l m).length = l.length) := by show _ = _; simp [fsG]; omega
  obtain ⟨cz, hcz⟩ : ∃ cz : Bool, cz = decide (l.map Prod.snd = fsG S M M2 l m) := ⟨_, rfl⟩
  rw [← hcz]
  have CT : Hid (l.map Prod.snd = fsG S M M2 l m → cz = true) := fun q => by rw [hcz]; exact decide_eq_true q
  have CF : Hid (l.map Prod.snd ≠ fsG S M M2 l m → cz = false) := fun q => by rw [hcz]; exact decide_eq_false q
  clear hs hm hml hsc ok hcz n1 n2 h
  go_enter Tryz.func19, Tryz.ntmps19
  go_wp2_with fail
  clear hW
  go_loopg [7, 8, 9, 12] l.length (fun gk v7 v8 v9 v12 wr => ∃ i : Nat, i + gk = l.length ∧ v12 = .int .i64 (i : Int) ∧ Below W.heap.size W wr ∧ (l.take i).map Prod.snd = (fsG S M M2 l m).take i)
  case atStart => exact ⟨0, by omega, rfl, Below.refl _ _, by simp⟩
  case round =>
    obtain ⟨i, hig, rfl, hB, hn⟩ := hrel
    have B : Hid (Below W.heap.size W wr) := hB
    have HN : Hid ((l.take i).map Prod.snd = (fsG S M M2 l m).take i) := hn
    clear hB hn
    by_cases hi : i < l.length
    · have hi2 : i < m.length := by have := HE.out; omega
      have il : (i : Int) < (l.length : Int) := by omega
      obtain ⟨b0, o0, a1, c1, a2, c2, rfl, h1, h2, h3, h4⟩ := HS.out.of_below B.out i hi
      obtain ⟨bm, om, rfl, hcm⟩ := HM.out.of_below B.out i hi2
      have F := HOK.out.few i hi
      have EL := HOK.out.el i hi
      have eF : (fsG S M M2 l m)[i]'(by rw [hfl.out]; exact hi) = (l[i]).1.map fun b => EX S M M2 (numS b ^ numS m[i]) := by simp [fsG]
      have PS : Hid (isSc S M m[i] = true) := List.all_eq_true.1 HSC.out _ (List.getElem_mem hi2)
      have HT : Hid ((l[i]).2 = ((l[i]).1.map fun b => EX S M M2 (numS b ^ numS m[i])) → (l.take (i + 1)).map Prod.snd = (fsG S M M2 l m).take (i + 1)) := fun q => by
        rw [List.take_succ_eq_append_getElem hi, List.take_succ_eq_append_getElem (by rw [hfl.out]; exact hi), List.map_append, HN.out, List.map_singleton, q, eF]
      have HF : Hid ((l[i]).2 ≠ ((l[i]).1.map fun b => EX S M M2 (numS b ^ numS m[i])) → cz = false) := fun q => CF.out (fun e => q (by rw [← eF, ← List.getElem_of_eq e (by simpa using hi)]; simp))
      have S1 : Hid (SL wr a1 (l[i]).1) := h3
      have S2 : Hid (SL wr a2 (l[i]).2) := h4
      clear h3 h4 eF
      rw [F.2.2] at h2
      generalize l[i] = t at *
      generalize m[i] = s at *
      obtain ⟨n1, hn1⟩ : ∃ n1, n1 = t.1.length := ⟨_, rfl⟩
      rw [← hn1] at h1 h2
      have HN1 : Hid (t.1.length = n1) := hn1.symm
      have HN2 : Hid (t.2.length = n1) := F.2.2.trans hn1.symm
      have h8 : n1 ≤ 8 := by rw [hn1]; exact F.1
      have E1 : Hid (t.1.all (isEl S M) = true) := EL.1
      clear hn1 F EL
      obtain ⟨hz, hhz⟩ : ∃ hz, hz = wr.heap.size := ⟨_, rfl⟩
      obtain ⟨W0, hW0⟩ : ∃ W0, W0 = wr.alloc (.cells #[.slice a1 n1 c1, .slice a2 n1 c2] 72) := ⟨_, rfl⟩
      have BU : Hid (Below wr.heap.size wr W0) := by rw [hW0]; exact (Below.refl _ wr).alloc (Nat.le_refl _) _
      have IC : Hid (IHolds W0 hz 72 [.slice a1 n1 c1, .slice a2 n1 c2]) := by rw [hW0, hhz]; exact IHolds.new wr 72 [_, _]
      have BW0 : Hid (Below W.heap.size W W0) := B.out.trans (BU.out.mono B.out.size)
      have S10 : Hid (SL W0 a1 t.1) := S1.out.of_below BU.out
      have S20 : Hid (SL W0 a2 t.2) := S2.out.of_below BU.out
      have cm0 : Hid (W0.cell? ⟨bm, om + i, none⟩ = some (.string s)) := cell_keep hcm BU.out
      clear S1 S2 hcm
      go_wp2_with fail
      rw [← hW0, ← hhz]
      clear hW0 hhz h1 h2 BU B
      obtain ⟨G3, rfl⟩ : ∃ G3, G3 = gk := ⟨_, rfl⟩
      have RX : Hid (∀ V, Calls Tryz.prog 40 #[.string s] V fun e w' => (∃ v, e = .returned v ∧ NumV w' 65536 (numS s) v) ∧ Below V.heap.size V w') := fun V => read_small (isSc_size PS.out) k.hS V
      go_loopg [9] n1 (fun gk v9 W1 => ∃ j : Nat, j + gk = n1 ∧ v9 = .int .i64 (j : Int) ∧ Below W0.heap.size W0 W1 ∧ t.2.take j = (t.1.map fun b => EX S M M2 (numS b ^ numS s)).take j)
      case atStart => exact ⟨0, by omega, rfl, Below.refl _ _, by simp⟩
      case round =>
        obtain ⟨W1, rfl⟩ : ∃ W1, W1 = wr := ⟨_, rfl⟩
        obtain ⟨j, hig4, rfl, hB4, hn1⟩ := hrel
        have B4 : Hid (Below W0.heap.size W0 W1) := hB4
        have HA1 : Hid (t.2.take j = (t.1.map fun b => EX S M M2 (numS b ^ numS s)).take j) := hn1
        have BW1 : Hid (Below W.heap.size W W1) := BW0.out.trans (B4.out.mono BW0.out.size)
        clear hB4 hn1
        have z3 : W1.cell? ⟨hz, 0, none⟩ = some (.slice a1 n1 c1) := cell_keep (IC.out.cell 0 (by simp)) B4.out
        by_cases hk : j < n1
        · have kl : (j : Int) < (n1 : Int) := by omega
          have hk1 : j < t.1.length := by have := HN1.out; omega
          have hk2 : j < t.2.length := by have := HN2.out; omega
          obtain ⟨b1, o1, rfl, hc1⟩ := S10.out.of_below B4.out j hk1
          obtain ⟨b2, o2, rfl, hc2⟩ := S20.out.of_below B4.out j hk2
          have EB : Hid (isEl S M t.1[j] = true) := List.all_eq_true.1 E1.out _ (List.getElem_mem hk1)
          have HT1 : Hid (EX S M M2 (numS t.1[j] ^ numS s) = t.2[j] → t.2.take (j + 1) = (t.1.map fun b => EX S M M2 (numS b ^ numS s)).take (j + 1)) := fun q => by
            rw [List.take_succ_eq_append_getElem hk2, map_take_snoc _ hk1, HA1.out, q]
          have HF1 : Hid (EX S M M2 (numS t.1[j] ^ numS s) ≠ t.2[j] → cz = false) := fun q => HF.out (fun e => q (by rw [List.getElem_of_eq e hk2]; simp))
          generalize t.1[j] = bb at *
          generalize t.2[j] = yy at *
          have KP : Hid (∀ V, Below W1.heap.size W1 V → (Below W1.heap.size W1 V ∧ V.cell? ⟨w.heap.size, 0, none⟩ = some (.int .i64 (S : Int)) ∧ V.cell? ⟨w.heap.size, 1, none⟩ = some (.slice qa ql qc) ∧ V.cell? ⟨w.heap.size, 2, none⟩ = some (.slice pa pl pc) ∧ V.cell? ⟨hz, 0, none⟩ = some (.slice (some ⟨b1, o1, none⟩) n1 c1) ∧ V.cell? ⟨hz, 1, none⟩ = some (.slice (some ⟨b2, o2, none⟩) n1 c2) ∧ V.cell? ⟨b1, o1 + j, none⟩ = some (.string bb) ∧ V.cell? ⟨b2, o2 + j, none⟩ = some (.string yy) ∧ V.cell? ⟨bm, om + i, none⟩ = some (.string s))) := fun V hV => ⟨hV, cell_keep (cell_keep (I0.out.cell 0 (by simp)) BW1.out) hV, cell_keep (cell_keep (I0.out.cell 1 (by simp)) BW1.out) hV, cell_keep (cell_keep (I0.out.cell 2 (by simp)) BW1.out) hV, cell_keep z3 hV, cell_keep (cell_keep (IC.out.cell 1 (by simp)) B4.out) hV, cell_keep hc1 hV, cell_keep hc2 hV, cell_keep (cell_keep cm0.out B4.out) hV⟩
          have sB : Hid (∀ V V', Below V.heap.size V V' → Below W1.heap.size W1 V → Below W1.heap.size W1 V') := fun V V' h h' => h'.trans (h.mono h'.size)
          have RP : Hid (∀ V va, Below W1.heap.size W1 V → NumV V 65536 (numS s) va → Calls Tryz.prog 39 #[.agg #[.int .i64 (S : Int), .slice qa ql qc, .slice pa pl pc], .string bb, va] V fun e w' => (∃ v, e = .returned v ∧ NumV w' 65536 (E M M2 (numS bb ^ numS s)) v) ∧ Below V.heap.size V w') := fun V va hV ha => power39 k ((N1.out.of_below BW1.out).of_below hV) ((N2.out.of_below BW1.out).of_below hV) EB.out ha (Nat.le_of_lt (isSc_lt PS.out))
          have RT : Hid (∀ V va, NumV V 65536 (E M M2 (numS bb ^ numS s)) va → Calls Tryz.prog 38 #[va, .int .i64 (S : Int)] V fun e w' => e = .returned (.string (EX S M M2 (numS bb ^ numS s))) ∧ Below V.heap.size V w') := fun V va ha => textE k HP.out ha
          generalize EX S M M2 (numS bb ^ numS s) = T at *
          clear hc1 hc2
          go_wp2_with fail
          clear z3
          by_cases hT : T = yy
          · have e1 : (T.toList == yy.toList) = true := by rw [hT]; simp
            have e2 : (T.toList != yy.toList) = false := by rw [hT]; simp
            have HX : Hid _ := HT1.out hT
            clear hT
            go_region_held3 (fun V => Below W1.heap.size W1 V ∧ V.cell? ⟨w.heap.size, 0, none⟩ = some (.int .i64 (S : Int)) ∧ V.cell? ⟨w.heap.size, 1, none⟩ = some (.slice qa ql qc) ∧ V.cell? ⟨w.heap.size, 2, none⟩ = some (.slice pa pl pc) ∧ V.cell? ⟨hz, 0, none⟩ = some (.slice (some ⟨b1, o1, none⟩) n1 c1) ∧ V.cell? ⟨hz, 1, none⟩ = some (.slice (some ⟨b2, o2, none⟩) n1 c2) ∧ V.cell? ⟨b1, o1 + j, none⟩ = some (.string bb) ∧ V.cell? ⟨b2, o2 + j, none⟩ = some (.string yy) ∧ V.cell? ⟨bm, om + i, none⟩ = some (.string s))
              (first | exact KP.out _ (dB _) | assumption | exact KP.out _ B8.out | exact KP.out _ B7.out | exact KP.out _ B6.out | fail)
              (first
                | (go_at_call 40; refine (RX.out _).mono ?_; rintro e w6 ⟨⟨r6, rfl, n6⟩, hB6⟩; have B6 : Hid (Below W1.heap.size W1 w6) := sB.out _ _ hB6 (dB _); have M6 : Hid (NumV w6 65536 (numS s) r6) := n6; clear n6 RX)
                | (go_at_call 39; refine (RP.out _ _ B6.out M6.out).mono ?_; rintro e w7 ⟨⟨r7, rfl, n7⟩, hB7⟩; have B7 : Hid (Below W1.heap.size W1 w7) := sB.out _ _ hB7 B6.out; have M7 : Hid (NumV w7 65536 (E M M2 (numS bb ^ numS s)) r7) := n7; clear n7)
                | (go_at_call 38; refine (RT.out _ _ M7.out).mono ?_; rintro e w8 ⟨rfl, hB8⟩; have B8 : Hid (Below W1.heap.size W1 w8) := sB.out _ _ hB8 B7.out)
                | fail)
            go_wp2_with fail
            go_roundg (gk - 1)
            case measure => omega
            case rel => exact ⟨j + 1, by omega, by go_num, B4.out.trans (B8.out.mono B4.out.size), HX.out⟩
          · have e1 : (T.toList == yy.toList) = false := toList_ne hT
            have e2 : (T.toList != yy.toList) = true := by rw [bne, e1]; rfl
            have HX : Hid _ := HF1.out hT
            clear hT
            go_region_held3 (fun V => Below W1.heap.size W1 V ∧ V.cell? ⟨w.heap.size, 0, none⟩ = some (.int .i64 (S : Int)) ∧ V.cell? ⟨w.heap.size, 1, none⟩ = some (.slice qa ql qc) ∧ V.cell? ⟨w.heap.size, 2, none⟩ = some (.slice pa pl pc) ∧ V.cell? ⟨hz, 0, none⟩ = some (.slice (some ⟨b1, o1, none⟩) n1 c1) ∧ V.cell? ⟨hz, 1, none⟩ = some (.slice (some ⟨b2, o2, none⟩) n1 c2) ∧ V.cell? ⟨b1, o1 + j, none⟩ = some (.string bb) ∧ V.cell? ⟨b2, o2 + j, none⟩ = some (.string yy) ∧ V.cell? ⟨bm, om + i, none⟩ = some (.string s))
              (first | exact KP.out _ (dB _) | assumption | exact KP.out _ B8.out | exact KP.out _ B7.out | exact KP.out _ B6.out | fail)
              (first
                | (go_at_call 40; refine (RX.out _).mono ?_; rintro e w6 ⟨⟨r6, rfl, n6⟩, hB6⟩; have B6 : Hid (Below W1.heap.size W1 w6) := sB.out _ _ hB6 (dB _); have M6 : Hid (NumV w6 65536 (numS s) r6) := n6; clear n6 RX)
                | (go_at_call 39; refine (RP.out _ _ B6.out M6.out).mono ?_; rintro e w7 ⟨⟨r7, rfl, n7⟩, hB7⟩; have B7 : Hid (Below W1.heap.size W1 w7) := sB.out _ _ hB7 B6.out; have M7 : Hid (NumV w7 65536 (E M M2 (numS bb ^ numS s)) r7) := n7; clear n7)
                | (go_at_call 38; refine (RT.out _ _ M7.out).mono ?_; rintro e w8 ⟨rfl, hB8⟩; have B8 : Hid (Below W1.heap.size W1 w8) := sB.out _ _ hB8 B7.out)
                | fail)
            go_wp2_with fail
            go_ret
            exact ⟨by rw [HX.out]; rfl, J.out.trans ((BW1.out.trans (B8.out.mono BW1.out.size)).mono J.out.size)⟩
        have kl : ¬ (j : Int) < (n1 : Int) := by omega
        have HG : Hid (t.2 = (t.1.map fun b => EX S M M2 (numS b ^ numS s))) := by
          have g := HA1.out
          rw [List.take_of_length_le (by have := HN2.out; omega), List.take_of_length_le (by rw [List.length_map]; have := HN1.out; omega)] at g
          exact g
        go_wp2_with fail
        go_roundg (G3 - 1)
        case measure => omega
        case rel => exact ⟨i + 1, by omega, by go_num, BW1.out, HT.out HG.out⟩
    have il : ¬ (i : Int) < (l.length : Int) := by omega
    have e0 : Hid (cz = true) := CT.out (by have g := HN.out; rw [List.take_of_length_le (by omega), List.take_of_length_le (by rw [hfl.out]; omega)] at g; exact g)
    go_wp2_with fail
    go_ret
    exact ⟨by rw [e0.out]; rfl, J.out.trans (B.out.mono J.out.size)⟩
end
end Go.Proofs.YtfbceknafmkipaaGreat
