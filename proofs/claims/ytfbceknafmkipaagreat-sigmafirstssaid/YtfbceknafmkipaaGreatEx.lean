/- The document's BackOf and FirstOf. What is wrong is told in the same way: Holds, First and Back of anything. What the program and the document tell of anything is the same. The law SigmaSound. The law SigmaSound, whatever is handed in. -/
import Derived.Test.YtfbceknafmkipaaGreatEb
import Derived.Deep.RegionHeld3
import Derived.Deep.AppendLies
import Derived.Test.YtfbceknafmkipaaGreatEa
import Derived.Test.YtfbceknafmkipaaGreatDh
import Derived.Test.YtfbceknafmkipaaGreatSl2
import Derived.Test.YtfbceknafmkipaaGreatDf
import Derived.Test.YtfbceknafmkipaaGreatSm
set_option linter.unusedSimpArgs false
set_option linter.unusedVariables false
set_option maxRecDepth 100000
namespace Go.Proofs.YtfbceknafmkipaaGreat
open Go.RowKit Go.Deep Go.PlainAid

theorem one_news (w : World) (T : ByteArray) : ∀ jj u, [Value.string T][jj]? = some u → (w.alloc (.cells #[.string T] 9)).cell? ((⟨w.heap.size, 0, none⟩ : Addr).add jj) = some u := fun jj u hu => by
  match jj, hu with
  | 0, hu => simp at hu; subst hu; simp [Addr.add]
theorem one_newl (w : World) (v : Value) : ∀ jj u, [v][jj]? = some u → (w.alloc (.cells #[v] 23)).cell? ((⟨w.heap.size, 0, none⟩ : Addr).add jj) = some u := fun jj u hu => by
  match jj, hu with
  | 0, hu => simp at hu; subst hu; simp [Addr.add]
/-- A row that was appended to, with its block. -/
theorem own_slb {w : World} {base : Nat} {v : Value} {n : Nat} {qs : List ByteArray} (hn : qs.length = n) (h0 : 0 < n) (h : w.ownsRow base 9 1 v n (qs.map Value.string)) : ∃ g c', v = .slice (some ⟨g, 0, none⟩) n c' ∧ base ≤ g ∧ g < w.heap.size ∧ SL w (some ⟨g, 0, none⟩) qs := by
  have hlt := h.lt
  obtain ⟨hl, ⟨rfl, h0⟩ | ⟨g, cap, cur, rfl, h1, hg, h2, h3, h4, h5⟩⟩ := h
  · omega
  · refine ⟨g, cap, rfl, h1, (hlt g rfl).2, fun i hi => ⟨g, 0, rfl, ?_⟩⟩
    have e : (cur.toList.take (n * 1))[i]? = (qs.map Value.string)[i]? := by rw [h5]
    rw [List.getElem?_take_of_lt (by omega), List.getElem?_map, List.getElem?_eq_getElem hi, Array.getElem?_toList] at e
    rw [Nat.zero_add]
    unfold World.cell?
    simp [hg, e]
/-- A list of texts that lies somewhere: block, room, the texts. -/
abbrev Lr := Nat × Nat × List ByteArray
def lv (t : Lr) : Value := .slice (some ⟨t.1, 0, none⟩) t.2.2.length t.2.1
/-- A list of lists that is being built. -/
structure OUT (w : World) (base : Nat) (v : Value) (T : List Lr) : Prop where
  row : w.ownsRow base 23 1 v T.length (T.map lv)
  lies : ∀ t ∈ T, t.1 < w.heap.size ∧ v.ownBlock ≠ some t.1 ∧ SL w (some ⟨t.1, 0, none⟩) t.2.2
theorem OUT.nil (w : World) (base : Nat) : OUT w base (.slice none 0 0) [] := ⟨World.ownsRow_nil _ _ _ _, fun t h => by cases h⟩
theorem OUT.of_below {w w' : World} {base : Nat} {v : Value} {T : List Lr} (h : OUT w base v T) (hb : Below w.heap.size w w') : OUT w' base v T :=
  ⟨own_below h.row hb, fun t ht => ⟨Nat.lt_of_lt_of_le (h.lies t ht).1 hb.size, (h.lies t ht).2.1, (h.lies t ht).2.2.of_below hb⟩⟩
theorem SL.far {w w' : World} {row : Option Nat} {g : Nat} {l : List ByteArray} (h : SL w (some ⟨g, 0, none⟩) l) (hg : w.grownBy w' row) (h1 : g < w.heap.size) (h2 : row ≠ some g) : SL w' (some ⟨g, 0, none⟩) l := by
  intro i hi
  obtain ⟨b, o, e, hc⟩ := h i hi
  simp only [Option.some.injEq, Addr.mk.injEq, and_true] at e
  obtain ⟨rfl, rfl⟩ := e
  exact ⟨g, 0, rfl, by rw [hg.cell_far ⟨g, 0 + i, none⟩ h1 (fun q => h2 q.symm)]; exact hc⟩
theorem OUT.snoc {w w' : World} {base : Nat} {v : Value} {T : List Lr} {t : Lr} {g cap : Nat} (h : OUT w base v T) (hr : w'.ownsRow base 23 1 (.slice (some ⟨g, 0, none⟩) (T.length + 1) cap) (T.length + 1) (T.map lv ++ [lv t])) (hg : w.grownBy w' v.ownBlock) (hw : v.ownBlock = some g ∨ g = w.heap.size) (hs : w.heap.size ≤ w'.heap.size)
    (t1 : t.1 < w.heap.size) (t2 : v.ownBlock ≠ some t.1) (t3 : SL w (some ⟨t.1, 0, none⟩) t.2.2) : OUT w' base (.slice (some ⟨g, 0, none⟩) (T.length + 1) cap) (T ++ [t]) := by
  have far : ∀ x : Lr, x.1 < w.heap.size → v.ownBlock ≠ some x.1 → SL w (some ⟨x.1, 0, none⟩) x.2.2 → x.1 < w'.heap.size ∧ (Value.slice (some ⟨g, 0, none⟩) (T.length + 1) cap).ownBlock ≠ some x.1 ∧ SL w' (some ⟨x.1, 0, none⟩) x.2.2 := fun x h1 h2 h3 => by
    refine ⟨Nat.lt_of_lt_of_le h1 hs, fun q => ?_, h3.far hg h1 h2⟩
    simp only [Value.ownBlock, Option.some.injEq] at q
    rcases hw with e | e
    · exact h2 (by rw [e, q])
    · omega
  refine ⟨?_, fun x hx => ?_⟩
  · rw [List.length_append, List.map_append]; exact hr
  · rcases List.mem_append.1 hx with hx | hx
    · exact far x (h.lies x hx).1 (h.lies x hx).2.1 (h.lies x hx).2.2
    · rw [List.mem_singleton] at hx; subst hx; exact far _ t1 t2 t3
theorem OUT.sll {w : World} {base : Nat} {v : Value} {T : List Lr} (h : OUT w base v T) : ∃ a' c', v = .slice a' T.length c' ∧ SLL w a' (T.map (·.2.2)) := by
  obtain ⟨hl, ⟨rfl, h0⟩ | ⟨g, cap, cur, rfl, h1, hg, h2, h3, h4, h5⟩⟩ := h.row
  · refine ⟨none, 0, by rw [h0], fun i hi => ?_⟩
    rw [List.length_map] at hi
    omega
  · refine ⟨_, _, rfl, fun i hi => ?_⟩
    rw [List.length_map] at hi
    refine ⟨g, 0, some ⟨T[i].1, 0, none⟩, T[i].2.1, rfl, ?_, by rw [List.getElem_map]; exact (h.lies _ (List.getElem_mem hi)).2.2⟩
    have e : (cur.toList.take (T.length * 1))[i]? = (T.map lv)[i]? := by rw [h5]
    rw [List.getElem?_take_of_lt (by omega), List.getElem?_map, List.getElem?_eq_getElem hi, Array.getElem?_toList] at e
    rw [Nat.zero_add, List.getElem_map]
    unfold World.cell?
    simp [hg, e, lv]
section
variable {z : Int} {G : Array Value} {S Wd M low one sq Ri Wd2 M2 low2 one2 sq2 Ri2 : Nat}
set_option maxHeartbeats 8000000 in
theorem backOf27 (k : KD z G S Wd M low one sq Ri Wd2 M2 low2 one2 sq2 Ri2) (h : PK S M M2) {l : List Cl} (ok : OkC (isEl S M) l) {w : World} {qa pa a b : Option Addr} {ql qc pl pc c d : Nat} (n1 : NumV w 65536 M (.slice qa ql qc)) (n2 : NumV w 65536 M2 (.slice pa pl pc)) {m : List ByteArray} (hs : CM w a l) (hm : SL w b m) (hml : m.length = l.length) (hsc : m.all (isSc S M) = true) {u : ByteArray} (hu : isSc S M u = true) :
    Calls Tryz.prog 27 #[.agg #[.int .i64 (S : Int), .slice qa ql qc, .slice pa pl pc], .slice a l.length c, .string u, .slice b l.length d] w fun e w' => (∃ a' c', e = .returned (.slice a' l.length c') ∧ SLL w' a' (bkG S M M2 ((0 + M - numS u) % M) l m)) ∧ Below w.heap.size w w' := by
  generalize hW : w.alloc (.cells #[.int .i64 (S : Int), .slice qa ql qc, .slice pa pl pc] 48) = W
  have J : Hid (Below w.heap.size w W) := by rw [← hW]; exact (Below.refl _ w).alloc (Nat.le_refl _) _
  have I0 : Hid (IHolds W w.heap.size 48 [.int .i64 (S : Int), .slice qa ql qc, .slice pa pl pc]) := by rw [← hW]; exact IHolds.new' w 48 [.int .i64 (S : Int), .slice qa ql qc, .slice pa pl pc] rfl
  have N1 : Hid (NumV W 65536 M (.slice qa ql qc)) := n1.of_below J.out
  have N2 : Hid (NumV W 65536 M2 (.slice pa pl pc)) := n2.of_below J.out
  have HS : Hid (CM W a l) := hs.of_below J.out
  have HM : Hid (SL W b m) := hm.of_below J.out
  have HE : Hid (m.length = l.length) := hml
  have HSC : Hid (m.all (isSc S M) = true) := hsc
  have HOK : Hid (OkC (isEl S M) l) := ok
  have HP : Hid (PK S M M2) := h
  have h64 := ok.most
  have m1 : 2 ≤ M := h.m1
  have l9 : Hid ((0 + M - numS u) % M < M) := Nat.mod_lt _ (by omega)
  have R0 : Hid (∀ V, Calls Tryz.prog 33 #[.int .i64 0] V fun e w' => (∃ v, e = .returned v ∧ NumV w' 65536 0 v) ∧ Below V.heap.size V w') := fun V => of_any V 0 (by decide)
  have RU : Hid (∀ V, Calls Tryz.prog 40 #[.string u] V fun e w' => (∃ v, e = .returned v ∧ NumV w' 65536 (numS u) v) ∧ Below V.heap.size V w') := fun V => read_small (isSc_size hu) k.hS V
  have RS : Hid (∀ V va vb, Below W.heap.size W V → NumV V 65536 0 va → NumV V 65536 (numS u) vb → Calls Tryz.prog 55 #[.agg #[.int .i64 (S : Int), .slice qa ql qc, .slice pa pl pc], va, vb] V fun e w' => (∃ v, e = .returned v ∧ NumV w' 65536 ((0 + M - numS u) % M) v) ∧ Below V.heap.size V w') := fun V va vb hV ha hb => subV (N1.out.of_below hV) (N2.out.of_below hV) ha hb (by omega) (isSc_lt hu) k.l5
  generalize (0 + M - numS u) % M = less at *
  have hql : Hid ((bkG S M M2 less l m).length = l.length) := by show _ = _; simp [bkG]; omega
  obtain ⟨q, hq⟩ : ∃ q, q = bkG S M M2 less l m := ⟨_, rfl⟩
  rw [← hq] at hql
  have HQ : Hid (q = bkG S M M2 less l m) := hq
  rw [← hq]
  clear hs hm hml hsc ok hq n1 n2 h hu m1
  have KP : Hid (∀ V, Below W.heap.size W V → (Below W.heap.size W V ∧ V.cell? ⟨w.heap.size, 0, none⟩ = some (.int .i64 (S : Int)) ∧ V.cell? ⟨w.heap.size, 1, none⟩ = some (.slice qa ql qc) ∧ V.cell? ⟨w.heap.size, 2, none⟩ = some (.slice pa pl pc))) := fun V hV => ⟨hV, cell_keep (I0.out.cell 0 (by simp)) hV, cell_keep (I0.out.cell 1 (by simp)) hV, cell_keep (I0.out.cell 2 (by simp)) hV⟩
  have sB : Hid (∀ V V', Below V.heap.size V V' → Below W.heap.size W V → Below W.heap.size W V') := fun V V' h h' => h'.trans (h.mono h'.size)
  go_enter Tryz.func27, Tryz.ntmps27
  go_wp2_with fail
  clear hW
  go_region_held3 (fun V => Below W.heap.size W V ∧ V.cell? ⟨w.heap.size, 0, none⟩ = some (.int .i64 (S : Int)) ∧ V.cell? ⟨w.heap.size, 1, none⟩ = some (.slice qa ql qc) ∧ V.cell? ⟨w.heap.size, 2, none⟩ = some (.slice pa pl pc))
    (first | exact KP.out _ (dB _) | assumption | exact KP.out _ B8.out | exact KP.out _ B7.out | exact KP.out _ B6.out | fail)
    (first
      | (go_at_call 33; refine (R0.out _).mono ?_; rintro e w6 ⟨⟨r6, rfl, n6⟩, hB6⟩; have B6 : Hid (Below W.heap.size W w6) := sB.out _ _ hB6 (dB _); have M6 : Hid (NumV w6 65536 0 r6) := n6; clear n6 R0)
      | (go_at_call 40; refine (RU.out _).mono ?_; rintro e w7 ⟨⟨r7, rfl, n7⟩, hB7⟩; have B7 : Hid (Below W.heap.size W w7) := sB.out _ _ hB7 B6.out; have M7 : Hid (NumV w7 65536 (numS u) r7) := n7; replace M6 : Hid (NumV w7 65536 0 r6) := M6.out.of_below hB7; clear n7 RU)
      | (go_at_call 55; refine (RS.out _ _ _ B7.out M6.out M7.out).mono ?_; rintro e w8 ⟨⟨r8, rfl, n8⟩, hB8⟩; have B8 : Hid (Below W.heap.size W w8) := sB.out _ _ hB8 B7.out; have M8 : Hid (NumV w8 65536 less r8) := n8; clear n8 RS)
      | fail)
  clear KP sB M6 M7
  obtain ⟨ra, rl, rc, rfl⟩ := sN M8
  obtain ⟨i0, hi0, hzz⟩ := Option.map_eq_some_iff.1 Tryz.info9'
  simp only [Prod.mk.injEq] at hzz
  obtain ⟨hz0, hz1, hz2⟩ := hzz
  obtain ⟨i3, hi3, hzz⟩ := Option.map_eq_some_iff.1 Tryz.info22'
  simp only [Prod.mk.injEq] at hzz
  obtain ⟨hz3, hz4, hz5⟩ := hzz
  go_wp2_with fail
  go_loopg [10, 11, 12, 13, 14, 22] l.length (fun gk v10 v11 v12 v13 v14 v22 wr => ∃ (i : Nat) (vo : Value) (T : List Lr), i + gk = l.length ∧ vo = v10 ∧ v22 = .int .i64 (i : Int) ∧ Below w8.heap.size w8 wr ∧ OUT wr w8.heap.size vo T ∧ T.map (·.2.2) = q.take i ∧ T.length = i)
  case atStart => exact ⟨0, _, [], by omega, rfl, rfl, Below.refl _ _, OUT.nil _ _, by simp, rfl⟩
  case round =>
    obtain ⟨i, vo, T, hig, rfl, rfl, hB, hO, hT, hTl⟩ := hrel
    have B0 : Hid (Below w8.heap.size w8 wr) := hB
    have HOO : Hid (OUT wr w8.heap.size vo T) := hO
    have HTT : Hid (T.map (·.2.2) = q.take i) := hT
    have HTL : Hid (T.length = i) := hTl
    have B : Hid (Below W.heap.size W wr) := B8.out.trans (hB.mono B8.out.size)
    clear hB hO hT hTl
    by_cases hi : i < l.length
    · have hi2 : i < m.length := by have := HE.out; omega
      have hiq : i < q.length := by have := hql.out; omega
      have il : (i : Int) < (l.length : Int) := by omega
      obtain ⟨b0, o0, a1, c1, a2, c2, rfl, h1, h2, h3, h4⟩ := HS.out.of_below B.out i hi
      obtain ⟨bm, om, rfl, hcm⟩ := HM.out.of_below B.out i hi2
      have F := HOK.out.few i hi
      have EL := HOK.out.el i hi
      have eF : q[i] = List.zipWith (fun b y => EX S M M2 (numS b ^ numS m[i] * numS y ^ less)) (l[i]).1 (l[i]).2 := by
        have e := List.getElem_of_eq HQ.out hiq
        rw [e]; simp [bkG]
      have PS : Hid (isSc S M m[i] = true) := List.all_eq_true.1 HSC.out _ (List.getElem_mem hi2)
      have HTK : Hid (q.take (i + 1) = q.take i ++ [q[i]]) := List.take_succ_eq_append_getElem hiq
      have S1 : Hid (SL wr a1 (l[i]).1) := h3
      have S2 : Hid (SL wr a2 (l[i]).2) := h4
      clear h3 h4
      rw [F.2.2] at h2
      generalize q[i] = qr at *
      generalize l[i] = t at *
      generalize m[i] = s at *
      obtain ⟨n1, hn1⟩ : ∃ n1, n1 = t.1.length := ⟨_, rfl⟩
      rw [← hn1] at h1 h2
      have HN1 : Hid (t.1.length = n1) := hn1.symm
      have HN2 : Hid (t.2.length = n1) := F.2.2.trans hn1.symm
      have h8 : n1 ≤ 8 := by rw [hn1]; exact F.1
      have hp0 : 0 < n1 := by rw [hn1]; exact F.2.1
      have HQL : Hid (qr.length = n1) := by show _ = _; rw [eF, List.length_zipWith, F.2.2, hn1]; simp
      have HQR : Hid (qr = List.zipWith (fun b y => EX S M M2 (numS b ^ numS s * numS y ^ less)) t.1 t.2) := eF
      have E1 : Hid (t.1.all (isEl S M) = true) := EL.1
      have E2 : Hid (t.2.all (isEl S M) = true) := EL.2
      clear hn1 F EL eF hiq
      obtain ⟨hz, hhz⟩ : ∃ hz, hz = wr.heap.size := ⟨_, rfl⟩
      obtain ⟨W0, hW0⟩ : ∃ W0, W0 = wr.alloc (.cells #[.slice a1 n1 c1, .slice a2 n1 c2] 72) := ⟨_, rfl⟩
      have BU : Hid (Below wr.heap.size wr W0) := by rw [hW0]; exact (Below.refl _ wr).alloc (Nat.le_refl _) _
      have IC : Hid (IHolds W0 hz 72 [.slice a1 n1 c1, .slice a2 n1 c2]) := by rw [hW0, hhz]; exact IHolds.new wr 72 [_, _]
      have BW0 : Hid (Below W.heap.size W W0) := B.out.trans (BU.out.mono B.out.size)
      have B80 : Hid (Below w8.heap.size w8 W0) := B0.out.trans (BU.out.mono B0.out.size)
      have HOW : Hid (OUT W0 w8.heap.size vo T) := HOO.out.of_below BU.out
      have S10 : Hid (SL W0 a1 t.1) := S1.out.of_below BU.out
      have S20 : Hid (SL W0 a2 t.2) := S2.out.of_below BU.out
      have cm0 : Hid (W0.cell? ⟨bm, om + i, none⟩ = some (.string s)) := cell_keep hcm BU.out
      clear S1 S2 hcm HOO
      go_wp2_with fail
      rw [← hW0, ← hhz]
      clear hW0 hhz h1 h2 BU B
      obtain ⟨G3, rfl⟩ : ∃ G3, G3 = gk := ⟨_, rfl⟩
      have RX : Hid (∀ V, Calls Tryz.prog 40 #[.string s] V fun e w' => (∃ v, e = .returned v ∧ NumV w' 65536 (numS s) v) ∧ Below V.heap.size V w') := fun V => read_small (isSc_size PS.out) k.hS V
      go_loopg [13, 14] n1 (fun gk v13 v14 W1 => ∃ (j : Nat) (v : Value), j + gk = n1 ∧ v = v13 ∧ v14 = .int .i64 (j : Int) ∧ Below W0.heap.size W0 W1 ∧ W1.ownsRow W0.heap.size 9 1 v j ((qr.take j).map Value.string))
      case atStart => exact ⟨0, _, by omega, rfl, rfl, Below.refl _ _, World.ownsRow_nil _ _ _ _⟩
      case round =>
        obtain ⟨W1, rfl⟩ : ∃ W1, W1 = wr := ⟨_, rfl⟩
        obtain ⟨j, v, hig4, rfl, rfl, hB4, hO⟩ := hrel
        have B4 : Hid (Below W0.heap.size W0 W1) := hB4
        have HO : Hid (W1.ownsRow W0.heap.size 9 1 v j ((qr.take j).map Value.string)) := hO
        have BW1 : Hid (Below W.heap.size W W1) := BW0.out.trans (B4.out.mono BW0.out.size)
        clear hB4 hO
        have z3 : W1.cell? ⟨hz, 0, none⟩ = some (.slice a1 n1 c1) := cell_keep (IC.out.cell 0 (by simp)) B4.out
        by_cases hk : j < n1
        · have kl : (j : Int) < (n1 : Int) := by omega
          have hk1 : j < t.1.length := by have := HN1.out; omega
          have hk2 : j < t.2.length := by have := HN2.out; omega
          have hkq : j < qr.length := by have := HQL.out; omega
          obtain ⟨b1, o1, rfl, hc1⟩ := S10.out j hk1
          obtain ⟨b2, o2, rfl, hc2⟩ := S20.out j hk2
          have EB : Hid (isEl S M t.1[j] = true) := List.all_eq_true.1 E1.out _ (List.getElem_mem hk1)
          have EY : Hid (isEl S M t.2[j] = true) := List.all_eq_true.1 E2.out _ (List.getElem_mem hk2)
          have eq1 : qr[j] = EX S M M2 (numS t.1[j] ^ numS s * numS t.2[j] ^ less) := by
            have e := List.getElem_of_eq HQR.out hkq
            rw [e]; simp
          have HR : Hid ((qr.take (j + 1)).map Value.string = (qr.take j).map Value.string ++ [Value.string (EX S M M2 (numS t.1[j] ^ numS s * numS t.2[j] ^ less))]) := by
            show _ = _
            rw [List.take_succ_eq_append_getElem hkq, List.map_append, eq1]; rfl
          clear eq1
          clear z3
          have z3 : W1.cell? ⟨hz, 0, none⟩ = some (.slice (some ⟨b1, o1, none⟩) n1 c1) := cell_keep (IC.out.cell 0 (by simp)) B4.out
          generalize t.1[j] = bb at *
          generalize t.2[j] = yy at *
          have KP : Hid (∀ V, Below W0.heap.size W0 V → (Below W0.heap.size W0 V ∧ V.cell? ⟨w.heap.size, 0, none⟩ = some (.int .i64 (S : Int)) ∧ V.cell? ⟨w.heap.size, 1, none⟩ = some (.slice qa ql qc) ∧ V.cell? ⟨w.heap.size, 2, none⟩ = some (.slice pa pl pc) ∧ V.cell? ⟨hz, 0, none⟩ = some (.slice (some ⟨b1, o1, none⟩) n1 c1) ∧ V.cell? ⟨hz, 1, none⟩ = some (.slice (some ⟨b2, o2, none⟩) n1 c2) ∧ V.cell? ⟨b1, o1 + j, none⟩ = some (.string bb) ∧ V.cell? ⟨b2, o2 + j, none⟩ = some (.string yy) ∧ V.cell? ⟨bm, om + i, none⟩ = some (.string s))) := fun V hV => ⟨hV, cell_keep (cell_keep (I0.out.cell 0 (by simp)) BW0.out) hV, cell_keep (cell_keep (I0.out.cell 1 (by simp)) BW0.out) hV, cell_keep (cell_keep (I0.out.cell 2 (by simp)) BW0.out) hV, cell_keep (IC.out.cell 0 (by simp)) hV, cell_keep (IC.out.cell 1 (by simp)) hV, cell_keep hc1 hV, cell_keep hc2 hV, cell_keep cm0.out hV⟩
          have sB : Hid (∀ V V', Below V.heap.size V V' → Below W0.heap.size W0 V → Below W0.heap.size W0 V') := fun V V' h h' => h'.trans (h.mono h'.size)
          have sA : Hid (∀ V o, Below W0.heap.size W0 V → Below W0.heap.size W0 (V.alloc o)) := fun V o h => h.alloc h.size o
          have NB : Hid (∀ V, Below W0.heap.size W0 V → NumV V 65536 M (.slice qa ql qc) ∧ NumV V 65536 M2 (.slice pa pl pc)) := fun V hV => ⟨(N1.out.of_below BW0.out).of_below hV, (N2.out.of_below BW0.out).of_below hV⟩
          have NL : Hid (∀ V, Below W0.heap.size W0 V → NumV V 65536 less (.slice ra rl rc)) := fun V hV => (M8.out.of_below B80.out).of_below hV
          have RP : Hid (∀ V va, Below W0.heap.size W0 V → NumV V 65536 (numS s) va → Calls Tryz.prog 39 #[.agg #[.int .i64 (S : Int), .slice qa ql qc, .slice pa pl pc], .string bb, va] V fun e w' => (∃ v, e = .returned v ∧ NumV w' 65536 (E M M2 (numS bb ^ numS s)) v) ∧ Below V.heap.size V w') := fun V va hV ha => power39 k (NB.out V hV).1 (NB.out V hV).2 EB.out ha (Nat.le_of_lt (isSc_lt PS.out))
          have RY : Hid (∀ V, Below W0.heap.size W0 V → Calls Tryz.prog 39 #[.agg #[.int .i64 (S : Int), .slice qa ql qc, .slice pa pl pc], .string yy, .slice ra rl rc] V fun e w' => (∃ v, e = .returned v ∧ NumV w' 65536 (E M M2 (numS yy ^ less)) v) ∧ Below V.heap.size V w') := fun V hV => power39 k (NB.out V hV).1 (NB.out V hV).2 EY.out (NL.out V hV) (Nat.le_of_lt l9.out)
          have RQ : Hid (∀ V va vb, Below W0.heap.size W0 V → NumV V 65536 (E M M2 (numS bb ^ numS s)) va → NumV V 65536 (E M M2 (numS yy ^ less)) vb → Calls Tryz.prog 56 #[.agg #[.int .i64 (S : Int), .slice qa ql qc, .slice pa pl pc], va, vb] V fun e w' => (∃ v, e = .returned v ∧ NumV w' 65536 (E M M2 (numS bb ^ numS s * numS yy ^ less)) v) ∧ Below V.heap.size V w') := fun V va vb hV ha hb => by
            have q := productV k (NB.out V hV).1 (NB.out V hV).2 ha hb (by have := E_le (x := numS bb ^ numS s) HP.out; have := HP.out.e2; omega) (by have := E_le (x := numS yy ^ less) HP.out; have := HP.out.e2; omega)
            have e : sgn M M2 (E M M2 (numS bb ^ numS s) * E M M2 (numS yy ^ less) % M2) = E M M2 (numS bb ^ numS s * numS yy ^ less) := by
              unfold E
              rw [sgn_mul HP.out.e2 (HP.out.ml _) (HP.out.ml _), ← Nat.mul_mod]
            rw [e] at q
            exact q
          have RT : Hid (∀ V va, NumV V 65536 (E M M2 (numS bb ^ numS s * numS yy ^ less)) va → Calls Tryz.prog 38 #[va, .int .i64 (S : Int)] V fun e w' => e = .returned (.string (EX S M M2 (numS bb ^ numS s * numS yy ^ less))) ∧ Below V.heap.size V w') := fun V va ha => textE k HP.out ha
          generalize EX S M M2 (numS bb ^ numS s * numS yy ^ less) = Tx at *
          generalize E M M2 (numS bb ^ numS s * numS yy ^ less) = e3 at *
          generalize E M M2 (numS bb ^ numS s) = e1 at *
          generalize E M M2 (numS yy ^ less) = e2 at *
          have HNj : Hid (j + 1 ≤ 8) := by show _ ≤ _; omega
          clear hc1 hc2 EB EY NL
          go_wp2_with fail
          clear z3
          go_region_held3 (fun V => Below W0.heap.size W0 V ∧ V.cell? ⟨w.heap.size, 0, none⟩ = some (.int .i64 (S : Int)) ∧ V.cell? ⟨w.heap.size, 1, none⟩ = some (.slice qa ql qc) ∧ V.cell? ⟨w.heap.size, 2, none⟩ = some (.slice pa pl pc) ∧ V.cell? ⟨hz, 0, none⟩ = some (.slice (some ⟨b1, o1, none⟩) n1 c1) ∧ V.cell? ⟨hz, 1, none⟩ = some (.slice (some ⟨b2, o2, none⟩) n1 c2) ∧ V.cell? ⟨b1, o1 + j, none⟩ = some (.string bb) ∧ V.cell? ⟨b2, o2 + j, none⟩ = some (.string yy) ∧ V.cell? ⟨bm, om + i, none⟩ = some (.string s))
            (first | exact KP.out _ B4.out.drew | assumption | exact KP.out _ B16.out | exact KP.out _ B15.out | exact KP.out _ B11.out | exact KP.out _ B10.out | exact KP.out _ B9.out | exact KP.out _ B7.out | exact KP.out _ B6.out | fail)
            (first
              | (go_at_call 40; refine (RX.out _).mono ?_; rintro e w6 ⟨⟨r6, rfl, n6⟩, hB6⟩; have B6 : Hid (Below W0.heap.size W0 w6) := sB.out _ _ hB6 B4.out.drew; have M6 : Hid (NumV w6 65536 (numS s) r6) := n6; clear n6; replace HO : Hid (w6.ownsRow W0.heap.size 9 1 v j ((qr.take j).map Value.string)) := own_below (w := W1.drew) HO.out hB6; clear RX)
              | (go_at_call 39; refine (RP.out _ _ B6.out M6.out).mono ?_; rintro e w7 ⟨⟨r7, rfl, n7⟩, hB7⟩; have B7 : Hid (Below W0.heap.size W0 w7) := sB.out _ _ hB7 B6.out; have M7 : Hid (NumV w7 65536 (e1) r7) := n7; clear n7; replace HO : Hid (w7.ownsRow W0.heap.size 9 1 v j ((qr.take j).map Value.string)) := own_below HO.out hB7; clear RP)
              | (go_at_call 39; refine (RY.out _ B7.out).mono ?_; rintro e w9 ⟨⟨r9, rfl, n9⟩, hB9⟩; have B9 : Hid (Below W0.heap.size W0 w9) := sB.out _ _ hB9 B7.out; have M9 : Hid (NumV w9 65536 (e2) r9) := n9; clear n9; replace HO : Hid (w9.ownsRow W0.heap.size 9 1 v j ((qr.take j).map Value.string)) := own_below HO.out hB9; replace M7 := M7.out.of_below hB9; clear RY)
              | (go_at_call 56; refine (RQ.out _ _ _ B9.out M7 M9.out).mono ?_; rintro e w10 ⟨⟨r10, rfl, n10⟩, hB10⟩; have B10 : Hid (Below W0.heap.size W0 w10) := sB.out _ _ hB10 B9.out; have M10 : Hid (NumV w10 65536 (e3) r10) := n10; clear n10; replace HO : Hid (w10.ownsRow W0.heap.size 9 1 v j ((qr.take j).map Value.string)) := own_below HO.out hB10; clear RQ)
              | (go_at_call 38; refine (RT.out _ _ M10.out).mono ?_; rintro e w11 ⟨rfl, hB11⟩; have B11 : Hid (Below W0.heap.size W0 w11) := sB.out _ _ hB11 B10.out; have B15 : Hid (Below W0.heap.size W0 (w11.alloc (.cells #[.string Tx] 9))) := sA.out _ _ B11.out; have HO15 : Hid ((w11.alloc (.cells #[.string Tx] 9)).ownsRow W0.heap.size 9 1 v j ((qr.take j).map Value.string)) := (own_below HO.out hB11).alloc _; have HC15 : Hid (∀ jj u, [Value.string Tx][jj]? = some u → (w11.alloc (.cells #[.string Tx] 9)).cell? ((⟨w11.heap.size, 0, none⟩ : Addr).add jj) = some u) := one_news w11 Tx; have D15 : Hid (Below W0.heap.size W0 (w11.alloc (.cells #[.string Tx] 9))) := B15.out)
              | (refine step_append_lies _ (by rfl) (.tmp 34) (.tmp 60) 23 (by rfl) W0.heap.size 9 i0 (.string ⟨#[]⟩) 1 16 Tryz.under22 hi0 hz0 hz1 hz2 rfl (by decide) v j ((qr.take j).map Value.string) (by rfl) HO15.out ⟨w11.heap.size, 0, none⟩ 1 1 [.string Tx] (by rfl) rfl HC15.out (fun u hu => by simp at hu; subst hu; rfl) (by omega) (by have := HNj.out; unfold maxLen; omega) (by have := HNj.out; omega) D15.out.size _ rfl ?_; intro g cap w16 hown hgrow hat hlt; have HO16 : Hid (w16.ownsRow W0.heap.size 9 1 (.slice (some ⟨g, 0, none⟩) (j + 1) cap) (j + 1) ((qr.take j).map Value.string ++ [Value.string Tx])) := hown; have B16 : Hid (Below W0.heap.size W0 w16) := D15.out.grown hgrow D15.out.size (fun k hk => (HO15.out.lt k hk).1); clear hown hgrow hat hlt)
              | fail)
          go_wp2_with fail
          go_roundg (gk - 1)
          case measure => omega
          case rel => exact ⟨j + 1, _, by omega, rfl, by go_num, B16.out, by rw [HR.out]; exact HO16.out⟩
        have kl : ¬ (j : Int) < (n1 : Int) := by omega
        have ej : j = n1 := by omega
        have HF : Hid (∃ g c', v = .slice (some ⟨g, 0, none⟩) n1 c' ∧ W0.heap.size ≤ g ∧ g < W1.heap.size ∧ SL W1 (some ⟨g, 0, none⟩) qr) := by
          have hh := HO.out
          rw [ej, List.take_of_length_le (Nat.le_of_eq HQL.out)] at hh
          exact own_slb HQL.out hp0 hh
        clear ej HO
        obtain ⟨g1, cg, rfl, hg1, hg2, hg3⟩ := HF.out
        have HOW1 : Hid (OUT W1 w8.heap.size vo T) := HOW.out.of_below B4.out
        have HG1 : Hid (vo.ownBlock ≠ some g1) := fun e => by
          have := (HOW.out.row.lt g1 e).2
          omega
        have HG2 : Hid (g1 < W1.heap.size) := hg2
        have HG3 : Hid (SL W1 (some ⟨g1, 0, none⟩) qr) := hg3
        have B81 : Hid (Below w8.heap.size w8 W1) := B80.out.trans (B4.out.mono B80.out.size)
        have BN : Hid (Below W1.heap.size W1 (W1.alloc (.cells #[.slice (some ⟨g1, 0, none⟩) n1 cg] 23))) := nB _ _
        have B8N : Hid (Below w8.heap.size w8 (W1.alloc (.cells #[.slice (some ⟨g1, 0, none⟩) n1 cg] 23))) := B81.out.trans (BN.out.mono B81.out.size)
        have HON : Hid (OUT (W1.alloc (.cells #[.slice (some ⟨g1, 0, none⟩) n1 cg] 23)) w8.heap.size vo T) := HOW1.out.of_below BN.out
        have HRW : Hid ((W1.alloc (.cells #[.slice (some ⟨g1, 0, none⟩) n1 cg] 23)).ownsRow w8.heap.size 23 1 vo i (T.map lv)) := by have r := HON.out.row; rw [HTL.out] at r; exact r
        have HNN : Hid (∀ jj u, [Value.slice (some ⟨g1, 0, none⟩) n1 cg][jj]? = some u → (W1.alloc (.cells #[.slice (some ⟨g1, 0, none⟩) n1 cg] 23)).cell? ((⟨W1.heap.size, 0, none⟩ : Addr).add jj) = some u) := one_newl W1 _
        have HNi : Hid (i + 1 ≤ 64) := by show _ ≤ _; omega
        have HLV : Hid (lv (g1, cg, qr) = .slice (some ⟨g1, 0, none⟩) n1 cg) := by show _ = _; unfold lv; rw [HQL.out]
        clear hg1 hg2 hg3
        go_wp2_with (first
          | (at_builtin; refine wpList_append_lies _ rfl (.tmp 62) (.tmp 64) 25 rfl w8.heap.size 23 i3 (.slice none 0 0) 1 24 Tryz.under25 hi3 hz3 hz4 hz5 rfl (by decide) vo i (T.map lv) rfl HRW.out ⟨W1.heap.size, 0, none⟩ 1 1 [.slice (some ⟨g1, 0, none⟩) n1 cg] rfl rfl HNN.out (fun u hu => by simp at hu; subst hu; rfl) (by omega) (by have := HNi.out; unfold maxLen; omega) (by have := HNi.out; omega) B8N.out.size _ rfl ?_; intro g cap w16 hown hgrow hat hlt; have HO16 : Hid (w16.ownsRow w8.heap.size 23 1 (.slice (some ⟨g, 0, none⟩) (i + 1) cap) (i + 1) (T.map lv ++ [.slice (some ⟨g1, 0, none⟩) n1 cg])) := hown; have D16 : Hid (Below w8.heap.size w8 w16) := B8N.out.grown hgrow B8N.out.size (fun k hk => (HRW.out.lt k hk).1); have HGR : Hid _ := hgrow; have HAT : Hid _ := hat; clear hown hgrow hat hlt)
          | fail)
        go_roundg (G3 - 1)
        case measure => omega
        case rel =>
          refine ⟨i + 1, _, T ++ [(g1, cg, qr)], by omega, rfl, by go_num, D16.out, ?_, ?_, ?_⟩
          · have r := HO16.out
            have q := HON.out.snoc (w' := w16) (t := (g1, cg, qr)) (g := g) (cap := cap) (by rw [HTL.out, HLV.out]; exact r) HGR.out HAT.out HGR.out.size (Nat.lt_of_lt_of_le HG2.out BN.out.size) HG1.out (HG3.out.of_below BN.out)
            rw [HTL.out] at q
            exact q
          · rw [List.map_append, HTT.out, HTK.out]; rfl
          · rw [List.length_append, HTL.out]; rfl
    have il : ¬ (i : Int) < (l.length : Int) := by omega
    have HF : Hid (∃ a' c', vo = .slice a' l.length c' ∧ SLL wr a' q) := by
      obtain ⟨a', c', e1, e2⟩ := HOO.out.sll
      have hil : i = l.length := by omega
      rw [HTL.out, hil] at e1
      rw [HTT.out, List.take_of_length_le (by rw [hql.out]; omega)] at e2
      exact ⟨a', c', e1, e2⟩
    obtain ⟨a', c', rfl, hsl⟩ := HF.out
    have HSL : Hid (SLL wr a' q) := hsl
    clear hsl HF HOO
    go_wp2_with fail
    go_ret
    exact ⟨by first | exact ⟨_, _, rfl, HSL.out⟩ | exact ⟨_, ⟨_, rfl⟩, HSL.out⟩, J.out.trans (B.out.mono J.out.size)⟩
theorem bk_zero (k : KD z G S Wd M low one sq Ri Wd2 M2 low2 one2 sq2 Ri2) (l : List Cl) (m : List ByteArray) (he : ∀ i (h : i < l.length), (l[i]).2.length = (l[i]).1.length) : bkG S M M2 0 l m = fsG S M M2 l m := by
  unfold bkG fsG
  apply List.ext_getElem
  · simp
  · intro i h1 h2
    simp only [List.getElem_zipWith]
    have hi : i < l.length := by simp at h1; omega
    have e := he i hi
    apply List.ext_getElem
    · simp [e]
    · intro j h3 h4
      simp
set_option maxHeartbeats 2000000 in
theorem firstOf22 (k : KD z G S Wd M low one sq Ri Wd2 M2 low2 one2 sq2 Ri2) (h : PK S M M2) {l : List Cl} (ok : OkC (isEl S M) l) {w : World} {qa pa a b : Option Addr} {ql qc pl pc c d : Nat} (n1 : NumV w 65536 M (.slice qa ql qc)) (n2 : NumV w 65536 M2 (.slice pa pl pc)) {m : List ByteArray} (hs : CM w a l) (hm : SL w b m) (hml : m.length = l.length) (hsc : m.all (isSc S M) = true) :
    Calls Tryz.prog 22 #[.agg #[.int .i64 (S : Int), .slice qa ql qc, .slice pa pl pc], .slice a l.length c, .slice b l.length d] w fun e w' => (∃ a' c', e = .returned (.slice a' l.length c') ∧ SLL w' a' (fsG S M M2 l m)) ∧ Below w.heap.size w w' := by
  generalize hW : w.alloc (.cells #[.int .i64 (S : Int), .slice qa ql qc, .slice pa pl pc] 48) = W
  have J : Hid (Below w.heap.size w W) := by rw [← hW]; exact (Below.refl _ w).alloc (Nat.le_refl _) _
  have I0 : Hid (IHolds W w.heap.size 48 [.int .i64 (S : Int), .slice qa ql qc, .slice pa pl pc]) := by rw [← hW]; exact IHolds.new' w 48 [.int .i64 (S : Int), .slice qa ql qc, .slice pa pl pc] rfl
  have m1 : 2 ≤ M := h.m1
  have R0 : Hid (∀ V, Calls Tryz.prog 33 #[.int .i64 0] V fun e w' => (∃ v, e = .returned v ∧ NumV w' 65536 0 v) ∧ Below V.heap.size V w') := fun V => of_any V 0 (by decide)
  have RT : Hid (∀ V va, NumV V 65536 0 va → Calls Tryz.prog 38 #[va, .int .i64 (S : Int)] V fun e w' => e = .returned (.string (TX S 0)) ∧ Below V.heap.size V w') := fun V va ha => refTextV (S := S) ha (lenD (Nat.zero_le M) k.l5) (by have := k.hS; omega)
  have RB : Hid (∀ V, Below W.heap.size W V → Calls Tryz.prog 27 #[.agg #[.int .i64 (S : Int), .slice qa ql qc, .slice pa pl pc], .slice a l.length c, .string (TX S 0), .slice b l.length d] V fun e w' => (∃ a' c', e = .returned (.slice a' l.length c') ∧ SLL w' a' (fsG S M M2 l m)) ∧ Below V.heap.size V w') := fun V hV => by
    have q := backOf27 k h ok (c := c) (d := d) ((n1.of_below J.out).of_below hV) ((n2.of_below J.out).of_below hV) ((hs.of_below J.out).of_below hV) ((hm.of_below J.out).of_below hV) hml hsc (u := TX S 0) (k.sc (by omega))
    rw [numS_TX (by have := h.hs; omega), Nat.zero_add, Nat.sub_zero, Nat.mod_self, bk_zero k l m (fun i hi => (ok.few i hi).2.2)] at q
    exact q
  have KP : Hid (∀ V, Below W.heap.size W V → (Below W.heap.size W V ∧ V.cell? ⟨w.heap.size, 0, none⟩ = some (.int .i64 (S : Int)) ∧ V.cell? ⟨w.heap.size, 1, none⟩ = some (.slice qa ql qc) ∧ V.cell? ⟨w.heap.size, 2, none⟩ = some (.slice pa pl pc))) := fun V hV => ⟨hV, cell_keep (I0.out.cell 0 (by simp)) hV, cell_keep (I0.out.cell 1 (by simp)) hV, cell_keep (I0.out.cell 2 (by simp)) hV⟩
  have sB : Hid (∀ V V', Below V.heap.size V V' → Below W.heap.size W V → Below W.heap.size W V') := fun V V' h h' => h'.trans (h.mono h'.size)
  clear hs hm hml hsc ok n1 n2 h m1
  generalize TX S 0 = T0 at *
  generalize fsG S M M2 l m = q at *
  go_enter Tryz.func22, Tryz.ntmps22
  go_wp2_with fail
  clear hW
  go_region_held3 (fun V => Below W.heap.size W V ∧ V.cell? ⟨w.heap.size, 0, none⟩ = some (.int .i64 (S : Int)) ∧ V.cell? ⟨w.heap.size, 1, none⟩ = some (.slice qa ql qc) ∧ V.cell? ⟨w.heap.size, 2, none⟩ = some (.slice pa pl pc))
    (first | exact KP.out _ (dB _) | assumption | exact KP.out _ B8.out | exact KP.out _ B7.out | exact KP.out _ B6.out | fail)
    (first
      | (go_at_call 33; refine (R0.out _).mono ?_; rintro e w6 ⟨⟨r6, rfl, n6⟩, hB6⟩; have B6 : Hid (Below W.heap.size W w6) := sB.out _ _ hB6 (dB _); have M6 : Hid (NumV w6 65536 0 r6) := n6; clear n6 R0)
      | (go_at_call 38; refine (RT.out _ _ M6.out).mono ?_; rintro e w7 ⟨rfl, hB7⟩; have B7 : Hid (Below W.heap.size W w7) := sB.out _ _ hB7 B6.out; clear RT)
      | (go_at_call 27; refine (RB.out _ B7.out).mono ?_; rintro e w8 ⟨⟨a8, c8, rfl, n8⟩, hB8⟩; have B8 : Hid (Below W.heap.size W w8) := sB.out _ _ hB8 B7.out; have M8 : Hid (SLL w8 a8 q) := n8; clear n8 RB)
      | fail)
  go_wp2_with fail
  go_ret
  exact ⟨by first | exact ⟨_, _, rfl, M8.out⟩ | exact ⟨_, ⟨_, rfl⟩, M8.out⟩, J.out.trans (B8.out.mono J.out.size)⟩
end
end Go.Proofs.YtfbceknafmkipaaGreat
namespace Go.Proofs.YtfbceknafmkipaaGreat
open Go.RowKit Go.Deep Go.PlainAid

theorem okC_of {p : ByteArray → Bool} {l : List Cl} (h : wrC p l = 0) : OkC p l := by
  unfold wrC at h
  by_cases h1 : (decide (64 < l.length) || l.any tooL) = true
  · rw [if_pos h1] at h; exact absurd h (by decide)
  rw [if_neg h1] at h
  by_cases h2 : (decide (l.length = 0) || l.any unev) = true
  · rw [if_pos h2] at h; exact absurd h (by decide)
  rw [if_neg h2] at h
  by_cases h3 : l.any (stra p) = true
  · rw [if_pos h3] at h; exact absurd h (by decide)
  simp only [Bool.or_eq_true, decide_eq_true_eq, not_or, Bool.not_eq_true] at h1 h2 h3
  refine ⟨by omega, by omega, fun i hi => ?_, fun i hi => ?_⟩
  · have a1 := List.any_eq_false.1 h1.2 l[i] (List.getElem_mem hi)
    have a2 := List.any_eq_false.1 h2.2 l[i] (List.getElem_mem hi)
    unfold tooL at a1
    unfold unev at a2
    simp only [Bool.or_eq_true, decide_eq_true_eq, not_or] at a1 a2
    omega
  · have a3 := List.any_eq_false.1 h3 l[i] (List.getElem_mem hi)
    unfold stra at a3
    generalize (l[i]).1.all p = x at *
    generalize (l[i]).2.all p = y at *
    revert a3
    cases x <;> cases y <;> decide
theorem set31_bad {l : List Cl} {z : Int} {p : ByteArray → Bool} (hl : l.length ≤ 9223372036854775807) (hll : ∀ i (h : i < l.length), (l[i]).1.length ≤ 9223372036854775807 ∧ (l[i]).2.length ≤ 9223372036854775807) (hw : wrC p l ≠ 0)
    (CN : ∀ s W, Calls Tryz.prog 113 #[.agg #[.int .i64 z], .string s] W fun e w' => e = .returned (.bool (!p s)) ∧ Below W.heap.size W w') (a : Option Addr) (c : Nat) (W : World) (hB : CM W a l) :
    Calls Tryz.prog 31 #[.agg #[.int .i64 z], .slice a l.length c] W fun e w' => e = .returned (.tuple #[.agg #[.int .i64 0, .slice none 0 0], .int .i64 (wrC p l)]) ∧ Below W.heap.size W w' := by
  have H1 : ∀ a c X, CM X a l → ∀ W, Below X.heap.size X W → Calls Tryz.prog 61 #[.slice a l.length c, .func (.func 62) #[] #[]] W fun e w' => e = .returned (.bool (l.any tooL)) ∧ Below W.heap.size W w' := fun a c X hX W hB => contains37_38 tooL hl (hX.of_below hB) (fun i hi a1 c1 a2 c2 V hV h1 h2 => tooLong38)
  have H2 : ∀ a c X, CM X a l → ∀ W, Below X.heap.size X W → Calls Tryz.prog 61 #[.slice a l.length c, .func (.func 63) #[] #[]] W fun e w' => e = .returned (.bool (l.any unev)) ∧ Below W.heap.size W w' := fun a c X hX W hB => contains37_39 unev hl (hX.of_below hB) (fun i hi a1 c1 a2 c2 V hV h1 h2 => uneven39)
  have H3 : ∀ a c X, CM X a l → ∀ W, Below X.heap.size X W → Calls Tryz.prog 61 #[.slice a l.length c, .func (.func 64) #[.agg #[.int .i64 z]] #[]] W fun e w' => e = .returned (.bool (l.any (stra p))) ∧ Below W.heap.size W w' := fun a c X hX W hB => contains37_40 (stra p) hl (hX.of_below hB) (fun i hi a1 c1 a2 c2 V hV h1 h2 => strange40 (hll i hi).1 (hll i hi).2 h1 h2 CN)
  unfold wrC at hw ⊢
  by_cases h64 : 64 < l.length
  · rw [decide_eq_true h64]; exact set18_A (by omega)
  rw [decide_eq_false h64] at hw ⊢
  cases t1 : l.any tooL with
  | true => rw [t1] at H1; exact set18_B (by omega) (H1 a c W hB)
  | false =>
    rw [t1] at H1 hw
    by_cases h0 : l.length = 0
    · rw [decide_eq_true h0]; exact set18_C (by omega) (by rw [h0]; rfl) (H1 a c W hB)
    rw [decide_eq_false h0] at hw ⊢
    have g2 : ((l.length : Int) == 0) = false := beq_eq_false_iff_ne.2 (by omega)
    cases t2 : l.any unev with
    | true => rw [t2] at H2; exact set18_D (by omega) g2 (H1 a c W hB) (H2 a c W hB)
    | false =>
      rw [t2] at H2 hw
      cases t3 : l.any (stra p) with
      | true => rw [t3] at H3; exact set18_E (by omega) g2 (H1 a c W hB) (H2 a c W hB) (H3 a c W hB)
      | false => rw [t3] at hw; exact absurd rfl hw
set_option maxHeartbeats 2000000 in
theorem first7_bad {w : World} {a b : Option Addr} {n m c d : Nat} {z k : Int} (hk : (k == 0) = false) (hk2 : (k != 0) = true) (C14 : ∀ W, Below w.heap.size w W → Calls Tryz.prog 14 #[.int .i64 z, .slice a n c] W fun e w' => e = .returned (.tuple #[.agg #[.int .i64 0, .slice none 0 0], .int .i64 k]) ∧ Below W.heap.size W w') :
    Calls Tryz.prog 7 #[.int .i64 z, .slice a n c, .slice b m d] w fun e w' => e = .returned (.tuple #[.slice none 0 0, .int .i64 k]) ∧ Below w.heap.size w w' := by
  have H14 : Hid _ := C14
  clear C14
  go_enter Tryz.func7, Tryz.ntmps7
  go_wp2_with (go_at_call 14; refine (H14.out _ (Below.refl _ _)).mono ?_; rintro e w1 ⟨rfl, hB1⟩; have B1 : Hid (Below w.heap.size w (w1.alloc (.cells #[.int .i64 0, .slice none 0 0] 41))) := hB1.alloc hB1.size _; clear hB1 H14)
  go_ret2
  exact ⟨rfl, B1.out⟩
set_option maxHeartbeats 2000000 in
theorem first7_len {w : World} {a b : Option Addr} {n m c d : Nat} {z k : Int} (hk : (k == 0) = false) (hk2 : (k != 0) = true) (C14 : ∀ W, Below w.heap.size w W → Calls Tryz.prog 14 #[.int .i64 z, .slice a n c] W fun e w' => e = .returned (.tuple #[.agg #[.int .i64 z, .slice a n c], .int .i64 0]) ∧ Below W.heap.size W w') (C20 : ∀ W, Below w.heap.size w W → Calls Tryz.prog 20 #[.agg #[.int .i64 z, .slice a n c], .slice b m d] W fun e w' => e = .returned (.int .i64 k) ∧ Below W.heap.size W w') :
    Calls Tryz.prog 7 #[.int .i64 z, .slice a n c, .slice b m d] w fun e w' => e = .returned (.tuple #[.slice none 0 0, .int .i64 k]) ∧ Below w.heap.size w w' := by
  have H14 : Hid _ := C14
  have H20 : Hid _ := C20
  clear C14 C20
  go_enter Tryz.func7, Tryz.ntmps7
  go_wp2_with (first | (go_at_call 14; refine (H14.out _ (Below.refl _ _)).mono ?_; rintro e w1 ⟨rfl, hB1⟩; have B1 : Hid (Below w.heap.size w (w1.alloc (.cells #[.int .i64 z, .slice a n c] 41))) := hB1.alloc hB1.size _; have I1 : Hid (IHolds (w1.alloc (.cells #[.int .i64 z, .slice a n c] 41)) w1.heap.size 41 [.int .i64 z, .slice a n c]) := IHolds.new _ _ _; clear hB1 H14) | (go_at_call 20; refine (H20.out _ B1.out).mono ?_; rintro e w2 ⟨rfl, hB2⟩; have B2 : Hid (Below w.heap.size w w2) := B1.out.trans (hB2.mono B1.out.size); have I2 : Hid (IHolds w2 w1.heap.size 41 [.int .i64 z, .slice a n c]) := I1.out.of_below hB2; have q0 : w2.cell? ⟨w1.heap.size, 0, none⟩ = some (.int .i64 z) := I2.out.cell 0 (by simp); have q1 : w2.cell? ⟨w1.heap.size, 1, none⟩ = some (.slice a n c) := I2.out.cell 1 (by simp); clear hB2 H20))
  go_ret2
  exact ⟨rfl, B2.out⟩
set_option maxHeartbeats 2000000 in
theorem first7_ok {w : World} {a b : Option Addr} {n m c d : Nat} {z k : Int} {q : List (List ByteArray)} (C14 : ∀ W, Below w.heap.size w W → Calls Tryz.prog 14 #[.int .i64 z, .slice a n c] W fun e w' => e = .returned (.tuple #[.agg #[.int .i64 z, .slice a n c], .int .i64 0]) ∧ Below W.heap.size W w') (C20 : ∀ W, Below w.heap.size w W → Calls Tryz.prog 20 #[.agg #[.int .i64 z, .slice a n c], .slice b m d] W fun e w' => e = .returned (.int .i64 0) ∧ Below W.heap.size W w') (C21 : ∀ W, Below w.heap.size w W → Calls Tryz.prog 21 #[.agg #[.int .i64 z, .slice a n c], .slice b m d] W fun e w' => (∃ a' c', e = .returned (.slice a' n c') ∧ SLL w' a' q) ∧ Below W.heap.size W w') :
    Calls Tryz.prog 7 #[.int .i64 z, .slice a n c, .slice b m d] w fun e w' => (∃ a' c', e = .returned (.tuple #[.slice a' n c', .int .i64 0]) ∧ SLL w' a' q) ∧ Below w.heap.size w w' := by
  have H14 : Hid _ := C14
  have H20 : Hid _ := C20
  have H21 : Hid _ := C21
  clear C14 C20 C21
  go_enter Tryz.func7, Tryz.ntmps7
  go_wp2_with (first | (go_at_call 14; refine (H14.out _ (Below.refl _ _)).mono ?_; rintro e w1 ⟨rfl, hB1⟩; have B1 : Hid (Below w.heap.size w (w1.alloc (.cells #[.int .i64 z, .slice a n c] 41))) := hB1.alloc hB1.size _; have I1 : Hid (IHolds (w1.alloc (.cells #[.int .i64 z, .slice a n c] 41)) w1.heap.size 41 [.int .i64 z, .slice a n c]) := IHolds.new _ _ _; clear hB1 H14) | (go_at_call 20; refine (H20.out _ B1.out).mono ?_; rintro e w2 ⟨rfl, hB2⟩; have B2 : Hid (Below w.heap.size w w2) := B1.out.trans (hB2.mono B1.out.size); have I2 : Hid (IHolds w2 w1.heap.size 41 [.int .i64 z, .slice a n c]) := I1.out.of_below hB2; have q0 : w2.cell? ⟨w1.heap.size, 0, none⟩ = some (.int .i64 z) := I2.out.cell 0 (by simp); have q1 : w2.cell? ⟨w1.heap.size, 1, none⟩ = some (.slice a n c) := I2.out.cell 1 (by simp); clear hB2 H20) | (go_at_call 21; refine (H21.out _ B2.out).mono ?_; rintro e w4 ⟨⟨a', c', rfl, hs4⟩, hB4⟩; have B4 : Hid (Below w.heap.size w w4) := B2.out.trans (hB4.mono B2.out.size); have S4 : Hid (SLL w4 a' q) := hs4; clear hB4 hs4 H21))
  go_ret2
  exact ⟨⟨a', c', rfl, S4.out⟩, B4.out⟩
set_option maxHeartbeats 2000000 in
theorem holds5_bad {w : World} {a b : Option Addr} {n m c d : Nat} {z k : Int} (hk : (k == 0) = false) (C14 : ∀ W, Below w.heap.size w W → Calls Tryz.prog 14 #[.int .i64 z, .slice a n c] W fun e w' => e = .returned (.tuple #[.agg #[.int .i64 0, .slice none 0 0], .int .i64 k]) ∧ Below W.heap.size W w') :
    Calls Tryz.prog 5 #[.int .i64 z, .slice a n c, .slice b m d] w fun e w' => e = .returned (.bool false) ∧ Below w.heap.size w w' := by
  have H14 : Hid _ := C14
  clear C14
  go_enter Tryz.func5, Tryz.ntmps5
  go_wp2_with (go_at_call 14; refine (H14.out _ (Below.refl _ _)).mono ?_; rintro e w1 ⟨rfl, hB1⟩; have B1 : Hid (Below w.heap.size w (w1.alloc (.cells #[.int .i64 0, .slice none 0 0] 41))) := hB1.alloc hB1.size _; clear hB1 H14)
  go_ret
  exact ⟨rfl, B1.out⟩
set_option maxHeartbeats 1000000 in
theorem wrongScalars_len {w : World} {a qa pa : Option Addr} {n m c ql qc pl pc : Nat} {S : Int} (h : ((m : Int) != (n : Int)) = true) :
    Calls Tryz.prog 18 #[.agg #[.int .i64 S, .slice qa ql qc, .slice pa pl pc], .int .i64 (n : Int), .slice a m c] w fun e w' => e = .returned (.int .i64 2) ∧ Below w.heap.size w w' := by
  have J : Hid (Below w.heap.size w (w.alloc (.cells #[.int .i64 S, .slice qa ql qc, .slice pa pl pc] 48))) := (Below.refl _ w).alloc (Nat.le_refl _) _
  go_enter Tryz.func18, Tryz.ntmps18
  go_wp2_with fail
  go_ret
  exact ⟨rfl, J.out⟩
section
variable {z : Int} {G : Array Value} {S Wd M low one sq Ri Wd2 M2 low2 one2 sq2 Ri2 : Nat}
set_option maxHeartbeats 2000000 in
theorem ref8_A (k : KD z G S Wd M low one sq Ri Wd2 M2 low2 one2 sq2 Ri2) {w : World} {a b : Option Addr} {n m c d : Nat} {kk : Int} (hk : (kk == 0) = false) (hk2 : (kk != 0) = true) (C17 : ∀ V qa ql qc pa pl pc, Below w.heap.size w V → NumV V 65536 M (.slice qa ql qc) → NumV V 65536 M2 (.slice pa pl pc) → Calls Tryz.prog 17 #[.agg #[.int .i64 (S : Int), .slice qa ql qc, .slice pa pl pc], .slice a n c] V fun e w' => e = .returned (.int .i64 kk) ∧ Below V.heap.size V w') :
    Calls Tryz.prog 8 #[.int .i64 z, .slice a n c, .slice b m d] w fun e w' => e = .returned (.tuple #[.slice none 0 0, .int .i64 kk]) ∧ Below w.heap.size w w' := by
  have H17 : Hid _ := C17
  clear C17
  have hS0 := k.hS0
  have hS1 : (0 : Int) < (S : Int) := by have := beq_eq_false_iff_ne.1 hS0; omega
  go_enter Tryz.func8, Tryz.ntmps8
  go_wp2_with fail
  refine (k.K9 _).mono ?_
  rintro e w1 ⟨⟨u1, u2, rfl, n1, n2⟩, hB1⟩
  obtain ⟨qa, ql, qc, rfl⟩ := sN (show Hid (NumV w1 65536 M u1) from n1)
  obtain ⟨pa, pl, pc, rfl⟩ := sN (show Hid (NumV w1 65536 M2 u2) from n2)
  obtain ⟨U, hU⟩ : ∃ U, w1.alloc (.cells #[.int .i64 (S : Int), .slice qa ql qc, .slice pa pl pc] 48) = U := ⟨_, rfl⟩
  have B1 : Hid (Below w.heap.size w U) := by rw [← hU]; exact hB1.trans ((nB _ _).mono hB1.size)
  have N1 : Hid (NumV U 65536 M (.slice qa ql qc)) := by rw [← hU]; exact n1.of_below (nB _ _)
  have N2 : Hid (NumV U 65536 M2 (.slice pa pl pc)) := by rw [← hU]; exact n2.of_below (nB _ _)
  have J0 : Hid (IHolds U w1.heap.size 48 [.int .i64 (S : Int), .slice qa ql qc, .slice pa pl pc]) := by rw [← hU]; exact IHolds.new' w1 48 [.int .i64 (S : Int), .slice qa ql qc, .slice pa pl pc] rfl
  have KC : Hid (∀ V, Below U.heap.size U V → V.cell? ⟨w1.heap.size, 0, none⟩ = some (.int .i64 (S : Int)) ∧ V.cell? ⟨w1.heap.size, 1, none⟩ = some (.slice qa ql qc) ∧ V.cell? ⟨w1.heap.size, 2, none⟩ = some (.slice pa pl pc)) := fun V hV => ⟨cell_keep (J0.out.cell 0 (by simp)) hV, cell_keep (J0.out.cell 1 (by simp)) hV, cell_keep (J0.out.cell 2 (by simp)) hV⟩
  clear n1 n2 hB1
  obtain ⟨y0, y1, y2⟩ := KC.out U (Below.refl _ _)
  go_wp2_with (first
    | (go_at_call 17; refine (H17.out _ qa ql qc pa pl pc (B1.out.trans (((Below.refl U.heap.size U)).mono B1.out.size)) (N1.out.of_below (Below.refl U.heap.size U)) (N2.out.of_below (Below.refl U.heap.size U))).mono ?_; rintro e v17 ⟨rfl, hB17⟩; have D17 : Hid (Below U.heap.size U v17) := ((Below.refl U.heap.size U)).trans (hB17.mono ((Below.refl U.heap.size U)).size); obtain ⟨y0, y1, y2⟩ := KC.out v17 D17.out; clear hB17 H17))
  exact bodyPost_ret (v := .tuple #[.slice none 0 0, .int .i64 kk]) (by simp [results, Tryz.results8, go_sem]) rfl ⟨rfl, B1.out.trans (D17.out.mono B1.out.size)⟩
set_option maxHeartbeats 2000000 in
theorem ref8_B (k : KD z G S Wd M low one sq Ri Wd2 M2 low2 one2 sq2 Ri2) {w : World} {a b : Option Addr} {n m c d : Nat} {kk : Int} (hk : (kk == 0) = false) (hk2 : (kk != 0) = true) (C17 : ∀ V qa ql qc pa pl pc, Below w.heap.size w V → NumV V 65536 M (.slice qa ql qc) → NumV V 65536 M2 (.slice pa pl pc) → Calls Tryz.prog 17 #[.agg #[.int .i64 (S : Int), .slice qa ql qc, .slice pa pl pc], .slice a n c] V fun e w' => e = .returned (.int .i64 0) ∧ Below V.heap.size V w') (C18 : ∀ V qa ql qc pa pl pc, Below w.heap.size w V → NumV V 65536 M (.slice qa ql qc) → NumV V 65536 M2 (.slice pa pl pc) → Calls Tryz.prog 18 #[.agg #[.int .i64 (S : Int), .slice qa ql qc, .slice pa pl pc], .int .i64 (n : Int), .slice b m d] V fun e w' => e = .returned (.int .i64 kk) ∧ Below V.heap.size V w') :
    Calls Tryz.prog 8 #[.int .i64 z, .slice a n c, .slice b m d] w fun e w' => e = .returned (.tuple #[.slice none 0 0, .int .i64 kk]) ∧ Below w.heap.size w w' := by
  have H17 : Hid _ := C17
  have H18 : Hid _ := C18
  clear C17 C18
  have hS0 := k.hS0
  have hS1 : (0 : Int) < (S : Int) := by have := beq_eq_false_iff_ne.1 hS0; omega
  go_enter Tryz.func8, Tryz.ntmps8
  go_wp2_with fail
  refine (k.K9 _).mono ?_
  rintro e w1 ⟨⟨u1, u2, rfl, n1, n2⟩, hB1⟩
  obtain ⟨qa, ql, qc, rfl⟩ := sN (show Hid (NumV w1 65536 M u1) from n1)
  obtain ⟨pa, pl, pc, rfl⟩ := sN (show Hid (NumV w1 65536 M2 u2) from n2)
  obtain ⟨U, hU⟩ : ∃ U, w1.alloc (.cells #[.int .i64 (S : Int), .slice qa ql qc, .slice pa pl pc] 48) = U := ⟨_, rfl⟩
  have B1 : Hid (Below w.heap.size w U) := by rw [← hU]; exact hB1.trans ((nB _ _).mono hB1.size)
  have N1 : Hid (NumV U 65536 M (.slice qa ql qc)) := by rw [← hU]; exact n1.of_below (nB _ _)
  have N2 : Hid (NumV U 65536 M2 (.slice pa pl pc)) := by rw [← hU]; exact n2.of_below (nB _ _)
  have J0 : Hid (IHolds U w1.heap.size 48 [.int .i64 (S : Int), .slice qa ql qc, .slice pa pl pc]) := by rw [← hU]; exact IHolds.new' w1 48 [.int .i64 (S : Int), .slice qa ql qc, .slice pa pl pc] rfl
  have KC : Hid (∀ V, Below U.heap.size U V → V.cell? ⟨w1.heap.size, 0, none⟩ = some (.int .i64 (S : Int)) ∧ V.cell? ⟨w1.heap.size, 1, none⟩ = some (.slice qa ql qc) ∧ V.cell? ⟨w1.heap.size, 2, none⟩ = some (.slice pa pl pc)) := fun V hV => ⟨cell_keep (J0.out.cell 0 (by simp)) hV, cell_keep (J0.out.cell 1 (by simp)) hV, cell_keep (J0.out.cell 2 (by simp)) hV⟩
  clear n1 n2 hB1
  obtain ⟨y0, y1, y2⟩ := KC.out U (Below.refl _ _)
  go_wp2_with (first
    | (go_at_call 17; refine (H17.out _ qa ql qc pa pl pc (B1.out.trans (((Below.refl U.heap.size U)).mono B1.out.size)) (N1.out.of_below (Below.refl U.heap.size U)) (N2.out.of_below (Below.refl U.heap.size U))).mono ?_; rintro e v17 ⟨rfl, hB17⟩; have D17 : Hid (Below U.heap.size U v17) := ((Below.refl U.heap.size U)).trans (hB17.mono ((Below.refl U.heap.size U)).size); obtain ⟨y0, y1, y2⟩ := KC.out v17 D17.out; clear hB17 H17)
    | (go_at_call 18; refine (H18.out _ qa ql qc pa pl pc (B1.out.trans ((D17.out).mono B1.out.size)) (N1.out.of_below D17.out) (N2.out.of_below D17.out)).mono ?_; rintro e v18 ⟨rfl, hB18⟩; have D18 : Hid (Below U.heap.size U v18) := (D17.out).trans (hB18.mono (D17.out).size); obtain ⟨y0, y1, y2⟩ := KC.out v18 D18.out; clear hB18 H18))
  exact bodyPost_ret (v := .tuple #[.slice none 0 0, .int .i64 kk]) (by simp [results, Tryz.results8, go_sem]) rfl ⟨rfl, B1.out.trans (D18.out.mono B1.out.size)⟩
set_option maxHeartbeats 2000000 in
theorem ref8_C (k : KD z G S Wd M low one sq Ri Wd2 M2 low2 one2 sq2 Ri2) {w : World} {a b : Option Addr} {n m c d : Nat} {q : List (List ByteArray)} (C17 : ∀ V qa ql qc pa pl pc, Below w.heap.size w V → NumV V 65536 M (.slice qa ql qc) → NumV V 65536 M2 (.slice pa pl pc) → Calls Tryz.prog 17 #[.agg #[.int .i64 (S : Int), .slice qa ql qc, .slice pa pl pc], .slice a n c] V fun e w' => e = .returned (.int .i64 0) ∧ Below V.heap.size V w') (C18 : ∀ V qa ql qc pa pl pc, Below w.heap.size w V → NumV V 65536 M (.slice qa ql qc) → NumV V 65536 M2 (.slice pa pl pc) → Calls Tryz.prog 18 #[.agg #[.int .i64 (S : Int), .slice qa ql qc, .slice pa pl pc], .int .i64 (n : Int), .slice b m d] V fun e w' => e = .returned (.int .i64 0) ∧ Below V.heap.size V w') (C22 : ∀ V qa ql qc pa pl pc, Below w.heap.size w V → NumV V 65536 M (.slice qa ql qc) → NumV V 65536 M2 (.slice pa pl pc) → Calls Tryz.prog 22 #[.agg #[.int .i64 (S : Int), .slice qa ql qc, .slice pa pl pc], .slice a n c, .slice b m d] V fun e w' => (∃ a' c', e = .returned (.slice a' n c') ∧ SLL w' a' q) ∧ Below V.heap.size V w') :
    Calls Tryz.prog 8 #[.int .i64 z, .slice a n c, .slice b m d] w fun e w' => (∃ a' c', e = .returned (.tuple #[.slice a' n c', .int .i64 0]) ∧ SLL w' a' q) ∧ Below w.heap.size w w' := by
  have H17 : Hid _ := C17
  have H18 : Hid _ := C18
  have H22 : Hid _ := C22
  clear C17 C18 C22
  have hS0 := k.hS0
  have hS1 : (0 : Int) < (S : Int) := by have := beq_eq_false_iff_ne.1 hS0; omega
  go_enter Tryz.func8, Tryz.ntmps8
  go_wp2_with fail
  refine (k.K9 _).mono ?_
  rintro e w1 ⟨⟨u1, u2, rfl, n1, n2⟩, hB1⟩
  obtain ⟨qa, ql, qc, rfl⟩ := sN (show Hid (NumV w1 65536 M u1) from n1)
  obtain ⟨pa, pl, pc, rfl⟩ := sN (show Hid (NumV w1 65536 M2 u2) from n2)
  obtain ⟨U, hU⟩ : ∃ U, w1.alloc (.cells #[.int .i64 (S : Int), .slice qa ql qc, .slice pa pl pc] 48) = U := ⟨_, rfl⟩
  have B1 : Hid (Below w.heap.size w U) := by rw [← hU]; exact hB1.trans ((nB _ _).mono hB1.size)
  have N1 : Hid (NumV U 65536 M (.slice qa ql qc)) := by rw [← hU]; exact n1.of_below (nB _ _)
  have N2 : Hid (NumV U 65536 M2 (.slice pa pl pc)) := by rw [← hU]; exact n2.of_below (nB _ _)
  have J0 : Hid (IHolds U w1.heap.size 48 [.int .i64 (S : Int), .slice qa ql qc, .slice pa pl pc]) := by rw [← hU]; exact IHolds.new' w1 48 [.int .i64 (S : Int), .slice qa ql qc, .slice pa pl pc] rfl
  have KC : Hid (∀ V, Below U.heap.size U V → V.cell? ⟨w1.heap.size, 0, none⟩ = some (.int .i64 (S : Int)) ∧ V.cell? ⟨w1.heap.size, 1, none⟩ = some (.slice qa ql qc) ∧ V.cell? ⟨w1.heap.size, 2, none⟩ = some (.slice pa pl pc)) := fun V hV => ⟨cell_keep (J0.out.cell 0 (by simp)) hV, cell_keep (J0.out.cell 1 (by simp)) hV, cell_keep (J0.out.cell 2 (by simp)) hV⟩
  clear n1 n2 hB1
  obtain ⟨y0, y1, y2⟩ := KC.out U (Below.refl _ _)
  go_wp2_with (first
    | (go_at_call 17; refine (H17.out _ qa ql qc pa pl pc (B1.out.trans (((Below.refl U.heap.size U)).mono B1.out.size)) (N1.out.of_below (Below.refl U.heap.size U)) (N2.out.of_below (Below.refl U.heap.size U))).mono ?_; rintro e v17 ⟨rfl, hB17⟩; have D17 : Hid (Below U.heap.size U v17) := ((Below.refl U.heap.size U)).trans (hB17.mono ((Below.refl U.heap.size U)).size); obtain ⟨y0, y1, y2⟩ := KC.out v17 D17.out; clear hB17 H17)
    | (go_at_call 18; refine (H18.out _ qa ql qc pa pl pc (B1.out.trans ((D17.out).mono B1.out.size)) (N1.out.of_below D17.out) (N2.out.of_below D17.out)).mono ?_; rintro e v18 ⟨rfl, hB18⟩; have D18 : Hid (Below U.heap.size U v18) := (D17.out).trans (hB18.mono (D17.out).size); obtain ⟨y0, y1, y2⟩ := KC.out v18 D18.out; clear hB18 H18)
    | (go_at_call 22; refine (H22.out _ qa ql qc pa pl pc (B1.out.trans ((D18.out).mono B1.out.size)) (N1.out.of_below D18.out) (N2.out.of_below D18.out)).mono ?_; rintro e v22 ⟨⟨a9, c9, rfl, hs9⟩, hB22⟩; have D22 : Hid (Below U.heap.size U v22) := (D18.out).trans (hB22.mono (D18.out).size); have S9 : Hid (SLL v22 a9 q) := hs9; clear hs9; obtain ⟨y0, y1, y2⟩ := KC.out v22 D22.out; clear hB22 H22))
  exact bodyPost_ret (v := .tuple #[.slice a9 n c9, .int .i64 0]) (by simp [results, Tryz.results8, go_sem]) rfl ⟨by first | exact ⟨_, _, rfl, S9.out⟩ | exact ⟨_, ⟨_, rfl⟩, S9.out⟩, B1.out.trans (D22.out.mono B1.out.size)⟩
set_option maxHeartbeats 2000000 in
theorem ref11_A (k : KD z G S Wd M low one sq Ri Wd2 M2 low2 one2 sq2 Ri2) {w : World} {a b : Option Addr} {n m c d : Nat} {kk : Int} {u : ByteArray} (hk : (kk == 0) = false) (hk2 : (kk != 0) = true) (C17 : ∀ V qa ql qc pa pl pc, Below w.heap.size w V → NumV V 65536 M (.slice qa ql qc) → NumV V 65536 M2 (.slice pa pl pc) → Calls Tryz.prog 17 #[.agg #[.int .i64 (S : Int), .slice qa ql qc, .slice pa pl pc], .slice a n c] V fun e w' => e = .returned (.int .i64 kk) ∧ Below V.heap.size V w') :
    Calls Tryz.prog 11 #[.int .i64 z, .slice a n c, .string u, .slice b m d] w fun e w' => e = .returned (.tuple #[.slice none 0 0, .int .i64 kk]) ∧ Below w.heap.size w w' := by
  have H17 : Hid _ := C17
  clear C17
  have hS0 := k.hS0
  have hS1 : (0 : Int) < (S : Int) := by have := beq_eq_false_iff_ne.1 hS0; omega
  go_enter Tryz.func11, Tryz.ntmps11
  go_wp2_with fail
  refine (k.K9 _).mono ?_
  rintro e w1 ⟨⟨u1, u2, rfl, n1, n2⟩, hB1⟩
  obtain ⟨qa, ql, qc, rfl⟩ := sN (show Hid (NumV w1 65536 M u1) from n1)
  obtain ⟨pa, pl, pc, rfl⟩ := sN (show Hid (NumV w1 65536 M2 u2) from n2)
  obtain ⟨U, hU⟩ : ∃ U, w1.alloc (.cells #[.int .i64 (S : Int), .slice qa ql qc, .slice pa pl pc] 48) = U := ⟨_, rfl⟩
  have B1 : Hid (Below w.heap.size w U) := by rw [← hU]; exact hB1.trans ((nB _ _).mono hB1.size)
  have N1 : Hid (NumV U 65536 M (.slice qa ql qc)) := by rw [← hU]; exact n1.of_below (nB _ _)
  have N2 : Hid (NumV U 65536 M2 (.slice pa pl pc)) := by rw [← hU]; exact n2.of_below (nB _ _)
  have J0 : Hid (IHolds U w1.heap.size 48 [.int .i64 (S : Int), .slice qa ql qc, .slice pa pl pc]) := by rw [← hU]; exact IHolds.new' w1 48 [.int .i64 (S : Int), .slice qa ql qc, .slice pa pl pc] rfl
  have KC : Hid (∀ V, Below U.heap.size U V → V.cell? ⟨w1.heap.size, 0, none⟩ = some (.int .i64 (S : Int)) ∧ V.cell? ⟨w1.heap.size, 1, none⟩ = some (.slice qa ql qc) ∧ V.cell? ⟨w1.heap.size, 2, none⟩ = some (.slice pa pl pc)) := fun V hV => ⟨cell_keep (J0.out.cell 0 (by simp)) hV, cell_keep (J0.out.cell 1 (by simp)) hV, cell_keep (J0.out.cell 2 (by simp)) hV⟩
  clear n1 n2 hB1
  obtain ⟨y0, y1, y2⟩ := KC.out U (Below.refl _ _)
  go_wp2_with (first
    | (go_at_call 17; refine (H17.out _ qa ql qc pa pl pc (B1.out.trans (((Below.refl U.heap.size U)).mono B1.out.size)) (N1.out.of_below (Below.refl U.heap.size U)) (N2.out.of_below (Below.refl U.heap.size U))).mono ?_; rintro e v17 ⟨rfl, hB17⟩; have D17 : Hid (Below U.heap.size U v17) := ((Below.refl U.heap.size U)).trans (hB17.mono ((Below.refl U.heap.size U)).size); obtain ⟨y0, y1, y2⟩ := KC.out v17 D17.out; clear hB17 H17))
  exact bodyPost_ret (v := .tuple #[.slice none 0 0, .int .i64 kk]) (by simp [results, Tryz.results11, go_sem]) rfl ⟨rfl, B1.out.trans (D17.out.mono B1.out.size)⟩
set_option maxHeartbeats 2000000 in
theorem ref11_B (k : KD z G S Wd M low one sq Ri Wd2 M2 low2 one2 sq2 Ri2) {w : World} {a b : Option Addr} {n m c d : Nat} {kk : Int} {u : ByteArray} (hk : (kk == 0) = false) (hk2 : (kk != 0) = true) (C17 : ∀ V qa ql qc pa pl pc, Below w.heap.size w V → NumV V 65536 M (.slice qa ql qc) → NumV V 65536 M2 (.slice pa pl pc) → Calls Tryz.prog 17 #[.agg #[.int .i64 (S : Int), .slice qa ql qc, .slice pa pl pc], .slice a n c] V fun e w' => e = .returned (.int .i64 0) ∧ Below V.heap.size V w') (C18 : ∀ V qa ql qc pa pl pc, Below w.heap.size w V → NumV V 65536 M (.slice qa ql qc) → NumV V 65536 M2 (.slice pa pl pc) → Calls Tryz.prog 18 #[.agg #[.int .i64 (S : Int), .slice qa ql qc, .slice pa pl pc], .int .i64 (n : Int), .slice b m d] V fun e w' => e = .returned (.int .i64 kk) ∧ Below V.heap.size V w') :
    Calls Tryz.prog 11 #[.int .i64 z, .slice a n c, .string u, .slice b m d] w fun e w' => e = .returned (.tuple #[.slice none 0 0, .int .i64 kk]) ∧ Below w.heap.size w w' := by
  have H17 : Hid _ := C17
  have H18 : Hid _ := C18
  clear C17 C18
  have hS0 := k.hS0
  have hS1 : (0 : Int) < (S : Int) := by have := beq_eq_false_iff_ne.1 hS0; omega
  go_enter Tryz.func11, Tryz.ntmps11
  go_wp2_with fail
  refine (k.K9 _).mono ?_
  rintro e w1 ⟨⟨u1, u2, rfl, n1, n2⟩, hB1⟩
  obtain ⟨qa, ql, qc, rfl⟩ := sN (show Hid (NumV w1 65536 M u1) from n1)
  obtain ⟨pa, pl, pc, rfl⟩ := sN (show Hid (NumV w1 65536 M2 u2) from n2)
  obtain ⟨U, hU⟩ : ∃ U, w1.alloc (.cells #[.int .i64 (S : Int), .slice qa ql qc, .slice pa pl pc] 48) = U := ⟨_, rfl⟩
  have B1 : Hid (Below w.heap.size w U) := by rw [← hU]; exact hB1.trans ((nB _ _).mono hB1.size)
  have N1 : Hid (NumV U 65536 M (.slice qa ql qc)) := by rw [← hU]; exact n1.of_below (nB _ _)
  have N2 : Hid (NumV U 65536 M2 (.slice pa pl pc)) := by rw [← hU]; exact n2.of_below (nB _ _)
  have J0 : Hid (IHolds U w1.heap.size 48 [.int .i64 (S : Int), .slice qa ql qc, .slice pa pl pc]) := by rw [← hU]; exact IHolds.new' w1 48 [.int .i64 (S : Int), .slice qa ql qc, .slice pa pl pc] rfl
  have KC : Hid (∀ V, Below U.heap.size U V → V.cell? ⟨w1.heap.size, 0, none⟩ = some (.int .i64 (S : Int)) ∧ V.cell? ⟨w1.heap.size, 1, none⟩ = some (.slice qa ql qc) ∧ V.cell? ⟨w1.heap.size, 2, none⟩ = some (.slice pa pl pc)) := fun V hV => ⟨cell_keep (J0.out.cell 0 (by simp)) hV, cell_keep (J0.out.cell 1 (by simp)) hV, cell_keep (J0.out.cell 2 (by simp)) hV⟩
  clear n1 n2 hB1
  obtain ⟨y0, y1, y2⟩ := KC.out U (Below.refl _ _)
  go_wp2_with (first
    | (go_at_call 17; refine (H17.out _ qa ql qc pa pl pc (B1.out.trans (((Below.refl U.heap.size U)).mono B1.out.size)) (N1.out.of_below (Below.refl U.heap.size U)) (N2.out.of_below (Below.refl U.heap.size U))).mono ?_; rintro e v17 ⟨rfl, hB17⟩; have D17 : Hid (Below U.heap.size U v17) := ((Below.refl U.heap.size U)).trans (hB17.mono ((Below.refl U.heap.size U)).size); obtain ⟨y0, y1, y2⟩ := KC.out v17 D17.out; clear hB17 H17)
    | (go_at_call 18; refine (H18.out _ qa ql qc pa pl pc (B1.out.trans ((D17.out).mono B1.out.size)) (N1.out.of_below D17.out) (N2.out.of_below D17.out)).mono ?_; rintro e v18 ⟨rfl, hB18⟩; have D18 : Hid (Below U.heap.size U v18) := (D17.out).trans (hB18.mono (D17.out).size); obtain ⟨y0, y1, y2⟩ := KC.out v18 D18.out; clear hB18 H18))
  exact bodyPost_ret (v := .tuple #[.slice none 0 0, .int .i64 kk]) (by simp [results, Tryz.results11, go_sem]) rfl ⟨rfl, B1.out.trans (D18.out.mono B1.out.size)⟩
set_option maxHeartbeats 2000000 in
theorem ref11_C (k : KD z G S Wd M low one sq Ri Wd2 M2 low2 one2 sq2 Ri2) {w : World} {a b : Option Addr} {n m c d : Nat} {u : ByteArray} (C17 : ∀ V qa ql qc pa pl pc, Below w.heap.size w V → NumV V 65536 M (.slice qa ql qc) → NumV V 65536 M2 (.slice pa pl pc) → Calls Tryz.prog 17 #[.agg #[.int .i64 (S : Int), .slice qa ql qc, .slice pa pl pc], .slice a n c] V fun e w' => e = .returned (.int .i64 0) ∧ Below V.heap.size V w') (C18 : ∀ V qa ql qc pa pl pc, Below w.heap.size w V → NumV V 65536 M (.slice qa ql qc) → NumV V 65536 M2 (.slice pa pl pc) → Calls Tryz.prog 18 #[.agg #[.int .i64 (S : Int), .slice qa ql qc, .slice pa pl pc], .int .i64 (n : Int), .slice b m d] V fun e w' => e = .returned (.int .i64 0) ∧ Below V.heap.size V w') (C26 : ∀ V qa ql qc pa pl pc, Below w.heap.size w V → NumV V 65536 M (.slice qa ql qc) → NumV V 65536 M2 (.slice pa pl pc) → Calls Tryz.prog 26 #[.agg #[.int .i64 (S : Int), .slice qa ql qc, .slice pa pl pc], .string u] V fun e w' => e = .returned (.bool false) ∧ Below V.heap.size V w') :
    Calls Tryz.prog 11 #[.int .i64 z, .slice a n c, .string u, .slice b m d] w fun e w' => e = .returned (.tuple #[.slice none 0 0, .int .i64 6]) ∧ Below w.heap.size w w' := by
  have H17 : Hid _ := C17
  have H18 : Hid _ := C18
  have H26 : Hid _ := C26
  clear C17 C18 C26
  have hS0 := k.hS0
  have hS1 : (0 : Int) < (S : Int) := by have := beq_eq_false_iff_ne.1 hS0; omega
  go_enter Tryz.func11, Tryz.ntmps11
  go_wp2_with fail
  refine (k.K9 _).mono ?_
  rintro e w1 ⟨⟨u1, u2, rfl, n1, n2⟩, hB1⟩
  obtain ⟨qa, ql, qc, rfl⟩ := sN (show Hid (NumV w1 65536 M u1) from n1)
  obtain ⟨pa, pl, pc, rfl⟩ := sN (show Hid (NumV w1 65536 M2 u2) from n2)
  obtain ⟨U, hU⟩ : ∃ U, w1.alloc (.cells #[.int .i64 (S : Int), .slice qa ql qc, .slice pa pl pc] 48) = U := ⟨_, rfl⟩
  have B1 : Hid (Below w.heap.size w U) := by rw [← hU]; exact hB1.trans ((nB _ _).mono hB1.size)
  have N1 : Hid (NumV U 65536 M (.slice qa ql qc)) := by rw [← hU]; exact n1.of_below (nB _ _)
  have N2 : Hid (NumV U 65536 M2 (.slice pa pl pc)) := by rw [← hU]; exact n2.of_below (nB _ _)
  have J0 : Hid (IHolds U w1.heap.size 48 [.int .i64 (S : Int), .slice qa ql qc, .slice pa pl pc]) := by rw [← hU]; exact IHolds.new' w1 48 [.int .i64 (S : Int), .slice qa ql qc, .slice pa pl pc] rfl
  have KC : Hid (∀ V, Below U.heap.size U V → V.cell? ⟨w1.heap.size, 0, none⟩ = some (.int .i64 (S : Int)) ∧ V.cell? ⟨w1.heap.size, 1, none⟩ = some (.slice qa ql qc) ∧ V.cell? ⟨w1.heap.size, 2, none⟩ = some (.slice pa pl pc)) := fun V hV => ⟨cell_keep (J0.out.cell 0 (by simp)) hV, cell_keep (J0.out.cell 1 (by simp)) hV, cell_keep (J0.out.cell 2 (by simp)) hV⟩
  clear n1 n2 hB1
  obtain ⟨y0, y1, y2⟩ := KC.out U (Below.refl _ _)
  go_wp2_with (first
    | (go_at_call 17; refine (H17.out _ qa ql qc pa pl pc (B1.out.trans (((Below.refl U.heap.size U)).mono B1.out.size)) (N1.out.of_below (Below.refl U.heap.size U)) (N2.out.of_below (Below.refl U.heap.size U))).mono ?_; rintro e v17 ⟨rfl, hB17⟩; have D17 : Hid (Below U.heap.size U v17) := ((Below.refl U.heap.size U)).trans (hB17.mono ((Below.refl U.heap.size U)).size); obtain ⟨y0, y1, y2⟩ := KC.out v17 D17.out; clear hB17 H17)
    | (go_at_call 18; refine (H18.out _ qa ql qc pa pl pc (B1.out.trans ((D17.out).mono B1.out.size)) (N1.out.of_below D17.out) (N2.out.of_below D17.out)).mono ?_; rintro e v18 ⟨rfl, hB18⟩; have D18 : Hid (Below U.heap.size U v18) := (D17.out).trans (hB18.mono (D17.out).size); obtain ⟨y0, y1, y2⟩ := KC.out v18 D18.out; clear hB18 H18)
    | (go_at_call 26; refine (H26.out _ qa ql qc pa pl pc (B1.out.trans ((D18.out).mono B1.out.size)) (N1.out.of_below D18.out) (N2.out.of_below D18.out)).mono ?_; rintro e v26 ⟨rfl, hB26⟩; have D26 : Hid (Below U.heap.size U v26) := (D18.out).trans (hB26.mono (D18.out).size); obtain ⟨y0, y1, y2⟩ := KC.out v26 D26.out; clear hB26 H26))
  exact bodyPost_ret (v := .tuple #[.slice none 0 0, .int .i64 6]) (by simp [results, Tryz.results11, go_sem]) rfl ⟨rfl, B1.out.trans (D26.out.mono B1.out.size)⟩
set_option maxHeartbeats 2000000 in
theorem ref11_D (k : KD z G S Wd M low one sq Ri Wd2 M2 low2 one2 sq2 Ri2) {w : World} {a b : Option Addr} {n m c d : Nat} {u : ByteArray} {q : List (List ByteArray)} (C17 : ∀ V qa ql qc pa pl pc, Below w.heap.size w V → NumV V 65536 M (.slice qa ql qc) → NumV V 65536 M2 (.slice pa pl pc) → Calls Tryz.prog 17 #[.agg #[.int .i64 (S : Int), .slice qa ql qc, .slice pa pl pc], .slice a n c] V fun e w' => e = .returned (.int .i64 0) ∧ Below V.heap.size V w') (C18 : ∀ V qa ql qc pa pl pc, Below w.heap.size w V → NumV V 65536 M (.slice qa ql qc) → NumV V 65536 M2 (.slice pa pl pc) → Calls Tryz.prog 18 #[.agg #[.int .i64 (S : Int), .slice qa ql qc, .slice pa pl pc], .int .i64 (n : Int), .slice b m d] V fun e w' => e = .returned (.int .i64 0) ∧ Below V.heap.size V w') (C26 : ∀ V qa ql qc pa pl pc, Below w.heap.size w V → NumV V 65536 M (.slice qa ql qc) → NumV V 65536 M2 (.slice pa pl pc) → Calls Tryz.prog 26 #[.agg #[.int .i64 (S : Int), .slice qa ql qc, .slice pa pl pc], .string u] V fun e w' => e = .returned (.bool true) ∧ Below V.heap.size V w') (C27 : ∀ V qa ql qc pa pl pc, Below w.heap.size w V → NumV V 65536 M (.slice qa ql qc) → NumV V 65536 M2 (.slice pa pl pc) → Calls Tryz.prog 27 #[.agg #[.int .i64 (S : Int), .slice qa ql qc, .slice pa pl pc], .slice a n c, .string u, .slice b m d] V fun e w' => (∃ a' c', e = .returned (.slice a' n c') ∧ SLL w' a' q) ∧ Below V.heap.size V w') :
    Calls Tryz.prog 11 #[.int .i64 z, .slice a n c, .string u, .slice b m d] w fun e w' => (∃ a' c', e = .returned (.tuple #[.slice a' n c', .int .i64 0]) ∧ SLL w' a' q) ∧ Below w.heap.size w w' := by
  have H17 : Hid _ := C17
  have H18 : Hid _ := C18
  have H26 : Hid _ := C26
  have H27 : Hid _ := C27
  clear C17 C18 C26 C27
  have hS0 := k.hS0
  have hS1 : (0 : Int) < (S : Int) := by have := beq_eq_false_iff_ne.1 hS0; omega
  go_enter Tryz.func11, Tryz.ntmps11
  go_wp2_with fail
  refine (k.K9 _).mono ?_
  rintro e w1 ⟨⟨u1, u2, rfl, n1, n2⟩, hB1⟩
  obtain ⟨qa, ql, qc, rfl⟩ := sN (show Hid (NumV w1 65536 M u1) from n1)
  obtain ⟨pa, pl, pc, rfl⟩ := sN (show Hid (NumV w1 65536 M2 u2) from n2)
  obtain ⟨U, hU⟩ : ∃ U, w1.alloc (.cells #[.int .i64 (S : Int), .slice qa ql qc, .slice pa pl pc] 48) = U := ⟨_, rfl⟩
  have B1 : Hid (Below w.heap.size w U) := by rw [← hU]; exact hB1.trans ((nB _ _).mono hB1.size)
  have N1 : Hid (NumV U 65536 M (.slice qa ql qc)) := by rw [← hU]; exact n1.of_below (nB _ _)
  have N2 : Hid (NumV U 65536 M2 (.slice pa pl pc)) := by rw [← hU]; exact n2.of_below (nB _ _)
  have J0 : Hid (IHolds U w1.heap.size 48 [.int .i64 (S : Int), .slice qa ql qc, .slice pa pl pc]) := by rw [← hU]; exact IHolds.new' w1 48 [.int .i64 (S : Int), .slice qa ql qc, .slice pa pl pc] rfl
  have KC : Hid (∀ V, Below U.heap.size U V → V.cell? ⟨w1.heap.size, 0, none⟩ = some (.int .i64 (S : Int)) ∧ V.cell? ⟨w1.heap.size, 1, none⟩ = some (.slice qa ql qc) ∧ V.cell? ⟨w1.heap.size, 2, none⟩ = some (.slice pa pl pc)) := fun V hV => ⟨cell_keep (J0.out.cell 0 (by simp)) hV, cell_keep (J0.out.cell 1 (by simp)) hV, cell_keep (J0.out.cell 2 (by simp)) hV⟩
  clear n1 n2 hB1
  obtain ⟨y0, y1, y2⟩ := KC.out U (Below.refl _ _)
  go_wp2_with (first
    | (go_at_call 17; refine (H17.out _ qa ql qc pa pl pc (B1.out.trans (((Below.refl U.heap.size U)).mono B1.out.size)) (N1.out.of_below (Below.refl U.heap.size U)) (N2.out.of_below (Below.refl U.heap.size U))).mono ?_; rintro e v17 ⟨rfl, hB17⟩; have D17 : Hid (Below U.heap.size U v17) := ((Below.refl U.heap.size U)).trans (hB17.mono ((Below.refl U.heap.size U)).size); obtain ⟨y0, y1, y2⟩ := KC.out v17 D17.out; clear hB17 H17)
    | (go_at_call 18; refine (H18.out _ qa ql qc pa pl pc (B1.out.trans ((D17.out).mono B1.out.size)) (N1.out.of_below D17.out) (N2.out.of_below D17.out)).mono ?_; rintro e v18 ⟨rfl, hB18⟩; have D18 : Hid (Below U.heap.size U v18) := (D17.out).trans (hB18.mono (D17.out).size); obtain ⟨y0, y1, y2⟩ := KC.out v18 D18.out; clear hB18 H18)
    | (go_at_call 26; refine (H26.out _ qa ql qc pa pl pc (B1.out.trans ((D18.out).mono B1.out.size)) (N1.out.of_below D18.out) (N2.out.of_below D18.out)).mono ?_; rintro e v26 ⟨rfl, hB26⟩; have D26 : Hid (Below U.heap.size U v26) := (D18.out).trans (hB26.mono (D18.out).size); obtain ⟨y0, y1, y2⟩ := KC.out v26 D26.out; clear hB26 H26)
    | (go_at_call 27; refine (H27.out _ qa ql qc pa pl pc (B1.out.trans ((D26.out).mono B1.out.size)) (N1.out.of_below D26.out) (N2.out.of_below D26.out)).mono ?_; rintro e v27 ⟨⟨a9, c9, rfl, hs9⟩, hB27⟩; have D27 : Hid (Below U.heap.size U v27) := (D26.out).trans (hB27.mono (D26.out).size); have S9 : Hid (SLL v27 a9 q) := hs9; clear hs9; obtain ⟨y0, y1, y2⟩ := KC.out v27 D27.out; clear hB27 H27))
  exact bodyPost_ret (v := .tuple #[.slice a9 n c9, .int .i64 0]) (by simp [results, Tryz.results11, go_sem]) rfl ⟨by first | exact ⟨_, _, rfl, S9.out⟩ | exact ⟨_, ⟨_, rfl⟩, S9.out⟩, B1.out.trans (D27.out.mono B1.out.size)⟩
set_option maxHeartbeats 2000000 in
theorem ref6_A (k : KD z G S Wd M low one sq Ri Wd2 M2 low2 one2 sq2 Ri2) {w : World} {a b : Option Addr} {n m c d : Nat} {kk : Int} (hk : (kk == 0) = false) (hk2 : (kk != 0) = true) (C17 : ∀ V qa ql qc pa pl pc, Below w.heap.size w V → NumV V 65536 M (.slice qa ql qc) → NumV V 65536 M2 (.slice pa pl pc) → Calls Tryz.prog 17 #[.agg #[.int .i64 (S : Int), .slice qa ql qc, .slice pa pl pc], .slice a n c] V fun e w' => e = .returned (.int .i64 kk) ∧ Below V.heap.size V w') :
    Calls Tryz.prog 6 #[.int .i64 z, .slice a n c, .slice b m d] w fun e w' => e = .returned (.bool false) ∧ Below w.heap.size w w' := by
  have H17 : Hid _ := C17
  clear C17
  have hS0 := k.hS0
  have hS1 : (0 : Int) < (S : Int) := by have := beq_eq_false_iff_ne.1 hS0; omega
  go_enter Tryz.func6, Tryz.ntmps6
  go_wp2_with fail
  refine (k.K9 _).mono ?_
  rintro e w1 ⟨⟨u1, u2, rfl, n1, n2⟩, hB1⟩
  obtain ⟨qa, ql, qc, rfl⟩ := sN (show Hid (NumV w1 65536 M u1) from n1)
  obtain ⟨pa, pl, pc, rfl⟩ := sN (show Hid (NumV w1 65536 M2 u2) from n2)
  obtain ⟨U, hU⟩ : ∃ U, w1.alloc (.cells #[.int .i64 (S : Int), .slice qa ql qc, .slice pa pl pc] 48) = U := ⟨_, rfl⟩
  have B1 : Hid (Below w.heap.size w U) := by rw [← hU]; exact hB1.trans ((nB _ _).mono hB1.size)
  have N1 : Hid (NumV U 65536 M (.slice qa ql qc)) := by rw [← hU]; exact n1.of_below (nB _ _)
  have N2 : Hid (NumV U 65536 M2 (.slice pa pl pc)) := by rw [← hU]; exact n2.of_below (nB _ _)
  have J0 : Hid (IHolds U w1.heap.size 48 [.int .i64 (S : Int), .slice qa ql qc, .slice pa pl pc]) := by rw [← hU]; exact IHolds.new' w1 48 [.int .i64 (S : Int), .slice qa ql qc, .slice pa pl pc] rfl
  have KC : Hid (∀ V, Below U.heap.size U V → V.cell? ⟨w1.heap.size, 0, none⟩ = some (.int .i64 (S : Int)) ∧ V.cell? ⟨w1.heap.size, 1, none⟩ = some (.slice qa ql qc) ∧ V.cell? ⟨w1.heap.size, 2, none⟩ = some (.slice pa pl pc)) := fun V hV => ⟨cell_keep (J0.out.cell 0 (by simp)) hV, cell_keep (J0.out.cell 1 (by simp)) hV, cell_keep (J0.out.cell 2 (by simp)) hV⟩
  clear n1 n2 hB1
  obtain ⟨y0, y1, y2⟩ := KC.out U (Below.refl _ _)
  go_wp2_with (first
    | (go_at_call 17; refine (H17.out _ qa ql qc pa pl pc (B1.out.trans (((Below.refl U.heap.size U)).mono B1.out.size)) (N1.out.of_below (Below.refl U.heap.size U)) (N2.out.of_below (Below.refl U.heap.size U))).mono ?_; rintro e v17 ⟨rfl, hB17⟩; have D17 : Hid (Below U.heap.size U v17) := ((Below.refl U.heap.size U)).trans (hB17.mono ((Below.refl U.heap.size U)).size); obtain ⟨y0, y1, y2⟩ := KC.out v17 D17.out; clear hB17 H17))
  go_ret
  exact ⟨rfl, B1.out.trans (D17.out.mono B1.out.size)⟩
set_option maxHeartbeats 2000000 in
theorem ref6_B (k : KD z G S Wd M low one sq Ri Wd2 M2 low2 one2 sq2 Ri2) {w : World} {a b : Option Addr} {n m c d : Nat} {kk : Int} (hk : (kk == 0) = false) (hk2 : (kk != 0) = true) (C17 : ∀ V qa ql qc pa pl pc, Below w.heap.size w V → NumV V 65536 M (.slice qa ql qc) → NumV V 65536 M2 (.slice pa pl pc) → Calls Tryz.prog 17 #[.agg #[.int .i64 (S : Int), .slice qa ql qc, .slice pa pl pc], .slice a n c] V fun e w' => e = .returned (.int .i64 0) ∧ Below V.heap.size V w') (C18 : ∀ V qa ql qc pa pl pc, Below w.heap.size w V → NumV V 65536 M (.slice qa ql qc) → NumV V 65536 M2 (.slice pa pl pc) → Calls Tryz.prog 18 #[.agg #[.int .i64 (S : Int), .slice qa ql qc, .slice pa pl pc], .int .i64 (n : Int), .slice b m d] V fun e w' => e = .returned (.int .i64 kk) ∧ Below V.heap.size V w') :
    Calls Tryz.prog 6 #[.int .i64 z, .slice a n c, .slice b m d] w fun e w' => e = .returned (.bool false) ∧ Below w.heap.size w w' := by
  have H17 : Hid _ := C17
  have H18 : Hid _ := C18
  clear C17 C18
  have hS0 := k.hS0
  have hS1 : (0 : Int) < (S : Int) := by have := beq_eq_false_iff_ne.1 hS0; omega
  go_enter Tryz.func6, Tryz.ntmps6
  go_wp2_with fail
  refine (k.K9 _).mono ?_
  rintro e w1 ⟨⟨u1, u2, rfl, n1, n2⟩, hB1⟩
  obtain ⟨qa, ql, qc, rfl⟩ := sN (show Hid (NumV w1 65536 M u1) from n1)
  obtain ⟨pa, pl, pc, rfl⟩ := sN (show Hid (NumV w1 65536 M2 u2) from n2)
  obtain ⟨U, hU⟩ : ∃ U, w1.alloc (.cells #[.int .i64 (S : Int), .slice qa ql qc, .slice pa pl pc] 48) = U := ⟨_, rfl⟩
  have B1 : Hid (Below w.heap.size w U) := by rw [← hU]; exact hB1.trans ((nB _ _).mono hB1.size)
  have N1 : Hid (NumV U 65536 M (.slice qa ql qc)) := by rw [← hU]; exact n1.of_below (nB _ _)
  have N2 : Hid (NumV U 65536 M2 (.slice pa pl pc)) := by rw [← hU]; exact n2.of_below (nB _ _)
  have J0 : Hid (IHolds U w1.heap.size 48 [.int .i64 (S : Int), .slice qa ql qc, .slice pa pl pc]) := by rw [← hU]; exact IHolds.new' w1 48 [.int .i64 (S : Int), .slice qa ql qc, .slice pa pl pc] rfl
  have KC : Hid (∀ V, Below U.heap.size U V → V.cell? ⟨w1.heap.size, 0, none⟩ = some (.int .i64 (S : Int)) ∧ V.cell? ⟨w1.heap.size, 1, none⟩ = some (.slice qa ql qc) ∧ V.cell? ⟨w1.heap.size, 2, none⟩ = some (.slice pa pl pc)) := fun V hV => ⟨cell_keep (J0.out.cell 0 (by simp)) hV, cell_keep (J0.out.cell 1 (by simp)) hV, cell_keep (J0.out.cell 2 (by simp)) hV⟩
  clear n1 n2 hB1
  obtain ⟨y0, y1, y2⟩ := KC.out U (Below.refl _ _)
  go_wp2_with (first
    | (go_at_call 17; refine (H17.out _ qa ql qc pa pl pc (B1.out.trans (((Below.refl U.heap.size U)).mono B1.out.size)) (N1.out.of_below (Below.refl U.heap.size U)) (N2.out.of_below (Below.refl U.heap.size U))).mono ?_; rintro e v17 ⟨rfl, hB17⟩; have D17 : Hid (Below U.heap.size U v17) := ((Below.refl U.heap.size U)).trans (hB17.mono ((Below.refl U.heap.size U)).size); obtain ⟨y0, y1, y2⟩ := KC.out v17 D17.out; clear hB17 H17)
    | (go_at_call 18; refine (H18.out _ qa ql qc pa pl pc (B1.out.trans ((D17.out).mono B1.out.size)) (N1.out.of_below D17.out) (N2.out.of_below D17.out)).mono ?_; rintro e v18 ⟨rfl, hB18⟩; have D18 : Hid (Below U.heap.size U v18) := (D17.out).trans (hB18.mono (D17.out).size); obtain ⟨y0, y1, y2⟩ := KC.out v18 D18.out; clear hB18 H18))
  go_ret
  exact ⟨rfl, B1.out.trans (D18.out.mono B1.out.size)⟩
set_option maxHeartbeats 2000000 in
theorem ref6_C (k : KD z G S Wd M low one sq Ri Wd2 M2 low2 one2 sq2 Ri2) {w : World} {a b : Option Addr} {n m c d : Nat} {t : Bool} (C17 : ∀ V qa ql qc pa pl pc, Below w.heap.size w V → NumV V 65536 M (.slice qa ql qc) → NumV V 65536 M2 (.slice pa pl pc) → Calls Tryz.prog 17 #[.agg #[.int .i64 (S : Int), .slice qa ql qc, .slice pa pl pc], .slice a n c] V fun e w' => e = .returned (.int .i64 0) ∧ Below V.heap.size V w') (C18 : ∀ V qa ql qc pa pl pc, Below w.heap.size w V → NumV V 65536 M (.slice qa ql qc) → NumV V 65536 M2 (.slice pa pl pc) → Calls Tryz.prog 18 #[.agg #[.int .i64 (S : Int), .slice qa ql qc, .slice pa pl pc], .int .i64 (n : Int), .slice b m d] V fun e w' => e = .returned (.int .i64 0) ∧ Below V.heap.size V w') (C19 : ∀ V qa ql qc pa pl pc, Below w.heap.size w V → NumV V 65536 M (.slice qa ql qc) → NumV V 65536 M2 (.slice pa pl pc) → Calls Tryz.prog 19 #[.agg #[.int .i64 (S : Int), .slice qa ql qc, .slice pa pl pc], .slice a n c, .slice b m d] V fun e w' => e = .returned (.bool t) ∧ Below V.heap.size V w') :
    Calls Tryz.prog 6 #[.int .i64 z, .slice a n c, .slice b m d] w fun e w' => e = .returned (.bool t) ∧ Below w.heap.size w w' := by
  have H17 : Hid _ := C17
  have H18 : Hid _ := C18
  have H19 : Hid _ := C19
  clear C17 C18 C19
  have hS0 := k.hS0
  have hS1 : (0 : Int) < (S : Int) := by have := beq_eq_false_iff_ne.1 hS0; omega
  go_enter Tryz.func6, Tryz.ntmps6
  go_wp2_with fail
  refine (k.K9 _).mono ?_
  rintro e w1 ⟨⟨u1, u2, rfl, n1, n2⟩, hB1⟩
  obtain ⟨qa, ql, qc, rfl⟩ := sN (show Hid (NumV w1 65536 M u1) from n1)
  obtain ⟨pa, pl, pc, rfl⟩ := sN (show Hid (NumV w1 65536 M2 u2) from n2)
  obtain ⟨U, hU⟩ : ∃ U, w1.alloc (.cells #[.int .i64 (S : Int), .slice qa ql qc, .slice pa pl pc] 48) = U := ⟨_, rfl⟩
  have B1 : Hid (Below w.heap.size w U) := by rw [← hU]; exact hB1.trans ((nB _ _).mono hB1.size)
  have N1 : Hid (NumV U 65536 M (.slice qa ql qc)) := by rw [← hU]; exact n1.of_below (nB _ _)
  have N2 : Hid (NumV U 65536 M2 (.slice pa pl pc)) := by rw [← hU]; exact n2.of_below (nB _ _)
  have J0 : Hid (IHolds U w1.heap.size 48 [.int .i64 (S : Int), .slice qa ql qc, .slice pa pl pc]) := by rw [← hU]; exact IHolds.new' w1 48 [.int .i64 (S : Int), .slice qa ql qc, .slice pa pl pc] rfl
  have KC : Hid (∀ V, Below U.heap.size U V → V.cell? ⟨w1.heap.size, 0, none⟩ = some (.int .i64 (S : Int)) ∧ V.cell? ⟨w1.heap.size, 1, none⟩ = some (.slice qa ql qc) ∧ V.cell? ⟨w1.heap.size, 2, none⟩ = some (.slice pa pl pc)) := fun V hV => ⟨cell_keep (J0.out.cell 0 (by simp)) hV, cell_keep (J0.out.cell 1 (by simp)) hV, cell_keep (J0.out.cell 2 (by simp)) hV⟩
  clear n1 n2 hB1
  obtain ⟨y0, y1, y2⟩ := KC.out U (Below.refl _ _)
  go_wp2_with (first
    | (go_at_call 17; refine (H17.out _ qa ql qc pa pl pc (B1.out.trans (((Below.refl U.heap.size U)).mono B1.out.size)) (N1.out.of_below (Below.refl U.heap.size U)) (N2.out.of_below (Below.refl U.heap.size U))).mono ?_; rintro e v17 ⟨rfl, hB17⟩; have D17 : Hid (Below U.heap.size U v17) := ((Below.refl U.heap.size U)).trans (hB17.mono ((Below.refl U.heap.size U)).size); obtain ⟨y0, y1, y2⟩ := KC.out v17 D17.out; clear hB17 H17)
    | (go_at_call 18; refine (H18.out _ qa ql qc pa pl pc (B1.out.trans ((D17.out).mono B1.out.size)) (N1.out.of_below D17.out) (N2.out.of_below D17.out)).mono ?_; rintro e v18 ⟨rfl, hB18⟩; have D18 : Hid (Below U.heap.size U v18) := (D17.out).trans (hB18.mono (D17.out).size); obtain ⟨y0, y1, y2⟩ := KC.out v18 D18.out; clear hB18 H18)
    | (go_at_call 19; refine (H19.out _ qa ql qc pa pl pc (B1.out.trans ((D18.out).mono B1.out.size)) (N1.out.of_below D18.out) (N2.out.of_below D18.out)).mono ?_; rintro e v19 ⟨rfl, hB19⟩; have D19 : Hid (Below U.heap.size U v19) := (D18.out).trans (hB19.mono (D18.out).size); obtain ⟨y0, y1, y2⟩ := KC.out v19 D19.out; clear hB19 H19))
  go_ret
  exact ⟨rfl, B1.out.trans (D19.out.mono B1.out.size)⟩
end
set_option maxHeartbeats 2000000 in
theorem ref8_none {w : World} {z : Int} (z1 : z ≠ 1) (z2 : z ≠ 2) (z3 : z ≠ 3) {a b : Option Addr} {n m c d : Nat} :
    Calls Tryz.prog 8 #[.int .i64 z, .slice a n c, .slice b m d] w fun e w' => e = .returned (.tuple #[.slice none 0 0, .int .i64 1]) ∧ Below w.heap.size w w' := by
  have q1 : Hid ((z == 1) = false) := beq_eq_false_iff_ne.2 z1
  have q1' : Hid ((z != 1) = true) := bne_iff_ne.2 z1
  have q2 : Hid ((z == 2) = false) := beq_eq_false_iff_ne.2 z2
  have q3 : Hid ((z == 3) = false) := beq_eq_false_iff_ne.2 z3
  clear z1 z2 z3
  go_enter Tryz.func8, Tryz.ntmps8
  go_wp2_with fail
  refine (kind0 _ z q1.out q1'.out q2.out q3.out).mono ?_
  rintro e w1 ⟨rfl, hB1⟩
  have B1 : Hid (Below w.heap.size w (w1.alloc (.cells #[.int .i64 0, .slice none 0 0, .slice none 0 0] 48))) := hB1.trans ((nB _ _).mono hB1.size)
  clear hB1
  go_wp2_with fail
  exact bodyPost_ret (v := .tuple #[.slice none 0 0, .int .i64 1]) (by simp [results, Tryz.results8, go_sem]) rfl ⟨rfl, B1.out⟩
set_option maxHeartbeats 2000000 in
theorem ref11_none {w : World} {z : Int} (z1 : z ≠ 1) (z2 : z ≠ 2) (z3 : z ≠ 3) {a b : Option Addr} {n m c d : Nat} {u : ByteArray} :
    Calls Tryz.prog 11 #[.int .i64 z, .slice a n c, .string u, .slice b m d] w fun e w' => e = .returned (.tuple #[.slice none 0 0, .int .i64 1]) ∧ Below w.heap.size w w' := by
  have q1 : Hid ((z == 1) = false) := beq_eq_false_iff_ne.2 z1
  have q1' : Hid ((z != 1) = true) := bne_iff_ne.2 z1
  have q2 : Hid ((z == 2) = false) := beq_eq_false_iff_ne.2 z2
  have q3 : Hid ((z == 3) = false) := beq_eq_false_iff_ne.2 z3
  clear z1 z2 z3
  go_enter Tryz.func11, Tryz.ntmps11
  go_wp2_with fail
  refine (kind0 _ z q1.out q1'.out q2.out q3.out).mono ?_
  rintro e w1 ⟨rfl, hB1⟩
  have B1 : Hid (Below w.heap.size w (w1.alloc (.cells #[.int .i64 0, .slice none 0 0, .slice none 0 0] 48))) := hB1.trans ((nB _ _).mono hB1.size)
  clear hB1
  go_wp2_with fail
  exact bodyPost_ret (v := .tuple #[.slice none 0 0, .int .i64 1]) (by simp [results, Tryz.results11, go_sem]) rfl ⟨rfl, B1.out⟩
set_option maxHeartbeats 2000000 in
theorem ref6_none {w : World} {z : Int} (z1 : z ≠ 1) (z2 : z ≠ 2) (z3 : z ≠ 3) {a b : Option Addr} {n m c d : Nat} :
    Calls Tryz.prog 6 #[.int .i64 z, .slice a n c, .slice b m d] w fun e w' => e = .returned (.bool false) ∧ Below w.heap.size w w' := by
  have q1 : Hid ((z == 1) = false) := beq_eq_false_iff_ne.2 z1
  have q1' : Hid ((z != 1) = true) := bne_iff_ne.2 z1
  have q2 : Hid ((z == 2) = false) := beq_eq_false_iff_ne.2 z2
  have q3 : Hid ((z == 3) = false) := beq_eq_false_iff_ne.2 z3
  clear z1 z2 z3
  go_enter Tryz.func6, Tryz.ntmps6
  go_wp2_with fail
  refine (kind0 _ z q1.out q1'.out q2.out q3.out).mono ?_
  rintro e w1 ⟨rfl, hB1⟩
  have B1 : Hid (Below w.heap.size w (w1.alloc (.cells #[.int .i64 0, .slice none 0 0, .slice none 0 0] 48))) := hB1.trans ((nB _ _).mono hB1.size)
  clear hB1
  go_wp2_with fail
  go_ret
  exact ⟨rfl, B1.out⟩
end Go.Proofs.YtfbceknafmkipaaGreat
namespace Go.Proofs.YtfbceknafmkipaaGreat
open Go.RowKit Go.Deep Go.PlainAid

def AH (f : Nat) (z : Int) (l : List Cl) (m : List ByteArray) (t : Bool) : Prop := ∀ W a c b d, CM W a l → SL W b m → Calls Tryz.prog f #[.int .i64 z, .slice a l.length c, .slice b m.length d] W fun e w' => e = .returned (.bool t) ∧ Below W.heap.size W w'
def AF (f : Nat) (z : Int) (l : List Cl) (m : List ByteArray) (co : Int) (L : List (List ByteArray)) : Prop := ∀ W a c b d, CM W a l → SL W b m → Calls Tryz.prog f #[.int .i64 z, .slice a l.length c, .slice b m.length d] W fun e w' => (∃ a9 c9, e = .returned (.tuple #[.slice a9 L.length c9, .int .i64 co]) ∧ SLL w' a9 L) ∧ Below W.heap.size W w'
def AB (f : Nat) (z : Int) (l : List Cl) (u : ByteArray) (m : List ByteArray) (co : Int) (L : List (List ByteArray)) : Prop := ∀ W a c b d, CM W a l → SL W b m → Calls Tryz.prog f #[.int .i64 z, .slice a l.length c, .string u, .slice b m.length d] W fun e w' => (∃ a9 c9, e = .returned (.tuple #[.slice a9 L.length c9, .int .i64 co]) ∧ SLL w' a9 L) ∧ Below W.heap.size W w'
def Few (L : List (List ByteArray)) : Prop := L.length ≤ 64 ∧ ∀ i (h : i < L.length), (L[i]).length ≤ 64
theorem few_nil : Few [] := ⟨by simp, fun i h => by cases h⟩
theorem sll_nil (w : World) (a : Option Addr) : SLL w a [] := fun i hi => by cases hi
theorem nilA {f : Nat} {args : Array Value} {w : World} {co : Int} (h : Calls Tryz.prog f args w fun e V => e = .returned (.tuple #[.slice none 0 0, .int .i64 co]) ∧ Below w.heap.size w V) :
    Calls Tryz.prog f args w fun e w' => (∃ a9 c9, e = .returned (.tuple #[.slice a9 ([] : List (List ByteArray)).length c9, .int .i64 co]) ∧ SLL w' a9 []) ∧ Below w.heap.size w w' :=
  h.mono (by rintro e V ⟨rfl, hB⟩; exact ⟨⟨none, 0, rfl, sll_nil _ _⟩, hB⟩)
theorem lenA {f n : Nat} {args : Array Value} {w : World} {co : Int} {L : List (List ByteArray)} (hn : L.length = n) (h : Calls Tryz.prog f args w fun e V => (∃ a' c', e = .returned (.tuple #[.slice a' n c', .int .i64 co]) ∧ SLL V a' L) ∧ Below w.heap.size w V) :
    Calls Tryz.prog f args w fun e w' => (∃ a9 c9, e = .returned (.tuple #[.slice a9 L.length c9, .int .i64 co]) ∧ SLL w' a9 L) ∧ Below w.heap.size w w' := by subst hn; exact h
def Big (l : List Cl) : Prop := l.length ≤ 9223372036854775807 ∧ ∀ i (h : i < l.length), (l[i]).1.length ≤ 9223372036854775807 ∧ (l[i]).2.length ≤ 9223372036854775807
section
variable {z : Int} {G : Array Value} {S Wd M low one sq Ri Wd2 M2 low2 one2 sq2 Ri2 : Nat}
theorem ne_k {k : Int} (h : k ≠ 0) : (k == 0) = false ∧ (k != 0) = true := ⟨beq_eq_false_iff_ne.2 h, bne_iff_ne.2 h⟩
theorem set_bad (k : KD z G S Wd M low one sq Ri Wd2 M2 low2 one2 sq2 Ri2) {l : List Cl} (hl : Big l) (hw : wrC (isEl S M) l ≠ 0) {w : World} {a : Option Addr} {c : Nat} (hs : CM w a l) (W : World) (hB : Below w.heap.size w W) : Calls Tryz.prog 14 #[.int .i64 z, .slice a l.length c] W fun e w' => e = .returned (.tuple #[.agg #[.int .i64 0, .slice none 0 0], .int .i64 (wrC (isEl S M) l)]) ∧ Below W.heap.size W w' :=
  setOf9_bad (fun X => groundOf_yes k X) (fun X hX => set31_bad hl.1 hl.2 hw (fun s X => noElem133 (fun Y => memb_call k Y s)) a c X ((hs.of_below hB).of_below hX))
theorem wr17 (k : KD z G S Wd M low one sq Ri Wd2 M2 low2 one2 sq2 Ri2) {l : List Cl} (hl : Big l) {w : World} {a : Option Addr} {c : Nat} (hs : CM w a l) (V : World) (qa : Option Addr) (ql qc : Nat) (pa : Option Addr) (pl pc : Nat) (hV : Below w.heap.size w V) (n1 : NumV V 65536 M (.slice qa ql qc)) (n2 : NumV V 65536 M2 (.slice pa pl pc)) :
    Calls Tryz.prog 17 #[.agg #[.int .i64 (S : Int), .slice qa ql qc, .slice pa pl pc], .slice a l.length c] V fun e w' => e = .returned (.int .i64 (wrC (isEl S M) l)) ∧ Below V.heap.size V w' :=
  refWrong17 (isEl S M) hl.1 (fun i h => (hl.2 i h).1) (hs.of_below hV) (fun s W hW => isElemV (n1.of_below hW) (n2.of_below hW) s k.hS k.l6)
theorem ws18 (k : KD z G S Wd M low one sq Ri Wd2 M2 low2 one2 sq2 Ri2) {m : List ByteArray} (hm : m.length ≤ 8796093022207) {w : World} {b : Option Addr} {d : Nat} (hs : SL w b m) (V : World) (qa : Option Addr) (ql qc : Nat) (pa : Option Addr) (pl pc : Nat) (hV : Below w.heap.size w V) (n1 : NumV V 65536 M (.slice qa ql qc)) (n2 : NumV V 65536 M2 (.slice pa pl pc)) :
    Calls Tryz.prog 18 #[.agg #[.int .i64 (S : Int), .slice qa ql qc, .slice pa pl pc], .int .i64 (m.length : Int), .slice b m.length d] V fun e w' => e = .returned (.int .i64 (if m.all (isSc S M) = true then 0 else 6)) ∧ Below V.heap.size V w' :=
  wrongScalars23 (isSc S M) hm (hs.of_below hV) (fun s W hW => isScalarV (n1.of_below hW) (n2.of_below hW) s k.hS k.l6)
theorem fs_len {l : List Cl} {m : List ByteArray} (h : m.length = l.length) : (fsG S M M2 l m).length = l.length := by simp [fsG]; omega
theorem bk_len {less : Nat} {l : List Cl} {m : List ByteArray} (h : m.length = l.length) : (bkG S M M2 less l m).length = l.length := by simp [bkG]; omega
theorem fs_few {l : List Cl} {m : List ByteArray} (ok : OkC (isEl S M) l) (h : m.length = l.length) : Few (fsG S M M2 l m) := by
  refine ⟨by rw [fs_len h]; exact ok.most, fun i hi => ?_⟩
  have hi' : i < l.length := by rw [fs_len h] at hi; exact hi
  have f := ok.few i hi'
  simp only [fsG, List.getElem_zipWith, List.length_map]
  omega
theorem bk_few {less : Nat} {l : List Cl} {m : List ByteArray} (ok : OkC (isEl S M) l) (h : m.length = l.length) : Few (bkG S M M2 less l m) := by
  refine ⟨by rw [bk_len h]; exact ok.most, fun i hi => ?_⟩
  have hi' : i < l.length := by rw [bk_len h] at hi; exact hi
  have f := ok.few i hi'
  simp only [bkG, List.getElem_zipWith, List.length_zipWith]
  omega
theorem anyH (k : KD z G S Wd M low one sq Ri Wd2 M2 low2 one2 sq2 Ri2) (h : PK S M M2) {l : List Cl} (hl : Big l) (m : List ByteArray) : ∃ t, AH 5 z l m t ∧ AH 6 z l m t := by
  by_cases hw : wrC (isEl S M) l = 0
  case neg => exact ⟨false, fun W a c b d hs hm => holds5_bad (ne_k hw).1 (set_bad k hl hw hs), fun W a c b d hs hm => ref6_A k (ne_k hw).1 (ne_k hw).2 (fun V qa ql qc pa pl pc hV n1 n2 => wr17 k hl hs V qa ql qc pa pl pc hV n1 n2)⟩
  have ok := okC_of hw
  have C0 : ∀ (w : World) (a : Option Addr) (c : Nat), CM w a l → ∀ V qa ql qc pa pl pc, Below w.heap.size w V → NumV V 65536 M (.slice qa ql qc) → NumV V 65536 M2 (.slice pa pl pc) → Calls Tryz.prog 17 #[.agg #[.int .i64 (S : Int), .slice qa ql qc, .slice pa pl pc], .slice a l.length c] V fun e w' => e = .returned (.int .i64 0) ∧ Below V.heap.size V w' := fun w a c hs V qa ql qc pa pl pc hV n1 n2 => by have q := wr17 k hl (c := c) hs V qa ql qc pa pl pc hV n1 n2; rw [hw] at q; exact q
  by_cases he : m.length = l.length
  case neg => exact ⟨false, fun W a c b d hs hm => holds8 (k := 2) rfl (SETG k ok hs) (fun V hV => wrongSecrets17_a rfl (fun X hX => wrong10_len (bne_iff_ne.2 (by omega)))), fun W a c b d hs hm => ref6_B k (kk := 2) rfl rfl (C0 W a c hs) (fun V qa ql qc pa pl pc hV n1 n2 => wrongScalars_len (bne_iff_ne.2 (by omega)))⟩
  have h64 := ok.most
  cases hsc : m.all (isSc S M) with
  | false => exact ⟨false, fun W a c b d hs hm => by rw [he]; exact holds8 (k := 6) rfl (SETG k ok hs) (fun V hV => wrongSecrets17_a rfl (fun X hX => WRO k he h64 (hm.of_below hV) hsc X hX)), fun W a c b d hs hm => by rw [he]; exact ref6_B k (kk := 6) rfl rfl (C0 W a c hs) (fun V qa ql qc pa pl pc hV n1 n2 => by have q := ws18 k (by omega) (d := d) hm V qa ql qc pa pl pc hV n1 n2; rw [hsc, he] at q; exact q)⟩
  | true =>
    exact ⟨decide (l.map Prod.snd = fsG S M M2 l m), fun W a c b d hs hm => by rw [he]; exact HOLG k h ok hs hm he hsc, fun W a c b d hs hm => by rw [he]; exact ref6_C k (C0 W a c hs) (fun V qa ql qc pa pl pc hV n1 n2 => by have q := ws18 k (by omega) (d := d) hm V qa ql qc pa pl pc hV n1 n2; rw [hsc, he] at q; exact q) (fun V qa ql qc pa pl pc hV n1 n2 => hold19 k h ok n1 n2 (hs.of_below hV) (hm.of_below hV) he hsc)⟩
theorem anyF (k : KD z G S Wd M low one sq Ri Wd2 M2 low2 one2 sq2 Ri2) (h : PK S M M2) {l : List Cl} (hl : Big l) (m : List ByteArray) : ∃ co L, Few L ∧ AF 7 z l m co L ∧ AF 8 z l m co L := by
  by_cases hw : wrC (isEl S M) l = 0
  case neg => exact ⟨wrC (isEl S M) l, [], few_nil, fun W a c b d hs hm => nilA (first7_bad (ne_k hw).1 (ne_k hw).2 (set_bad k hl hw hs)), fun W a c b d hs hm => nilA (ref8_A k (ne_k hw).1 (ne_k hw).2 (fun V qa ql qc pa pl pc hV n1 n2 => wr17 k hl hs V qa ql qc pa pl pc hV n1 n2))⟩
  have ok := okC_of hw
  have C0 : ∀ (w : World) (a : Option Addr) (c : Nat), CM w a l → ∀ V qa ql qc pa pl pc, Below w.heap.size w V → NumV V 65536 M (.slice qa ql qc) → NumV V 65536 M2 (.slice pa pl pc) → Calls Tryz.prog 17 #[.agg #[.int .i64 (S : Int), .slice qa ql qc, .slice pa pl pc], .slice a l.length c] V fun e w' => e = .returned (.int .i64 0) ∧ Below V.heap.size V w' := fun w a c hs V qa ql qc pa pl pc hV n1 n2 => by have q := wr17 k hl (c := c) hs V qa ql qc pa pl pc hV n1 n2; rw [hw] at q; exact q
  by_cases he : m.length = l.length
  case neg => exact ⟨2, [], few_nil, fun W a c b d hs hm => nilA (first7_len rfl rfl (SETG k ok hs) (fun X hX => wrong10_len (bne_iff_ne.2 (by omega)))), fun W a c b d hs hm => nilA (ref8_B k (kk := 2) rfl rfl (C0 W a c hs) (fun V qa ql qc pa pl pc hV n1 n2 => wrongScalars_len (bne_iff_ne.2 (by omega))))⟩
  have h64 := ok.most
  cases hsc : m.all (isSc S M) with
  | false => exact ⟨6, [], few_nil, fun W a c b d hs hm => by rw [he]; exact nilA (first7_len rfl rfl (SETG k ok hs) (fun X hX => WRO k he h64 hm hsc X hX)), fun W a c b d hs hm => by rw [he]; exact nilA (ref8_B k (kk := 6) rfl rfl (C0 W a c hs) (fun V qa ql qc pa pl pc hV n1 n2 => by have q := ws18 k (by omega) (d := d) hm V qa ql qc pa pl pc hV n1 n2; rw [hsc, he] at q; exact q))⟩
  | true =>
    exact ⟨0, fsG S M M2 l m, fs_few ok he, fun W a c b d hs hm => by rw [he]; exact lenA (fs_len he) (first7_ok (k := 0) (SETG k ok hs) (fun X hX => WRO k he h64 hm hsc X hX) (fun X hX => FIRG k h ok hs hm he hsc X hX)), fun W a c b d hs hm => by rw [he]; exact lenA (fs_len he) (ref8_C k (C0 W a c hs) (fun V qa ql qc pa pl pc hV n1 n2 => by have q := ws18 k (by omega) (d := d) hm V qa ql qc pa pl pc hV n1 n2; rw [hsc, he] at q; exact q) (fun V qa ql qc pa pl pc hV n1 n2 => firstOf22 k h ok n1 n2 (hs.of_below hV) (hm.of_below hV) he hsc))⟩
theorem anyB (k : KD z G S Wd M low one sq Ri Wd2 M2 low2 one2 sq2 Ri2) (h : PK S M M2) {l : List Cl} (hl : Big l) (u : ByteArray) (m : List ByteArray) : ∃ co L, Few L ∧ AB 10 z l u m co L ∧ AB 11 z l u m co L ∧ (co = 0 → OkC (isEl S M) l ∧ m.length = l.length ∧ m.all (isSc S M) = true ∧ isSc S M u = true ∧ L = bkG S M M2 ((0 + M - numS u) % M) l m) ∧ (co ≠ 0 → L = []) := by
  by_cases hw : wrC (isEl S M) l = 0
  case neg => exact ⟨wrC (isEl S M) l, [], few_nil, fun W a c b d hs hm => nilA (back4_bad (ne_k hw).1 (ne_k hw).2 (set_bad k hl hw hs)), fun W a c b d hs hm => nilA (ref11_A k (ne_k hw).1 (ne_k hw).2 (fun V qa ql qc pa pl pc hV n1 n2 => wr17 k hl hs V qa ql qc pa pl pc hV n1 n2)), fun h0 => absurd h0 hw, fun _ => rfl⟩
  have ok := okC_of hw
  have C0 : ∀ (w : World) (a : Option Addr) (c : Nat), CM w a l → ∀ V qa ql qc pa pl pc, Below w.heap.size w V → NumV V 65536 M (.slice qa ql qc) → NumV V 65536 M2 (.slice pa pl pc) → Calls Tryz.prog 17 #[.agg #[.int .i64 (S : Int), .slice qa ql qc, .slice pa pl pc], .slice a l.length c] V fun e w' => e = .returned (.int .i64 0) ∧ Below V.heap.size V w' := fun w a c hs V qa ql qc pa pl pc hV n1 n2 => by have q := wr17 k hl (c := c) hs V qa ql qc pa pl pc hV n1 n2; rw [hw] at q; exact q
  by_cases he : m.length = l.length
  case neg => exact ⟨2, [], few_nil, fun W a c b d hs hm => nilA (back4_len rfl rfl (SETG k ok hs) (fun X hX => wrong10_len (bne_iff_ne.2 (by omega)))), fun W a c b d hs hm => nilA (ref11_B k (kk := 2) rfl rfl (C0 W a c hs) (fun V qa ql qc pa pl pc hV n1 n2 => wrongScalars_len (bne_iff_ne.2 (by omega)))), fun h0 => absurd h0 (by decide), fun _ => rfl⟩
  have h64 := ok.most
  cases hsc : m.all (isSc S M) with
  | false => exact ⟨6, [], few_nil, fun W a c b d hs hm => by rw [he]; exact nilA (back16_a (SETG k ok hs) (fun X hX => WRO k he h64 hm hsc X hX)), fun W a c b d hs hm => by rw [he]; exact nilA (ref11_B k (kk := 6) rfl rfl (C0 W a c hs) (fun V qa ql qc pa pl pc hV n1 n2 => by have q := ws18 k (by omega) (d := d) hm V qa ql qc pa pl pc hV n1 n2; rw [hsc, he] at q; exact q)), fun h0 => absurd h0 (by decide), fun _ => rfl⟩
  | true =>
    have CS : ∀ (w : World) (b : Option Addr) (d : Nat), SL w b m → ∀ V qa ql qc pa pl pc, Below w.heap.size w V → NumV V 65536 M (.slice qa ql qc) → NumV V 65536 M2 (.slice pa pl pc) → Calls Tryz.prog 18 #[.agg #[.int .i64 (S : Int), .slice qa ql qc, .slice pa pl pc], .int .i64 (l.length : Int), .slice b l.length d] V fun e w' => e = .returned (.int .i64 0) ∧ Below V.heap.size V w' := fun w b d hm V qa ql qc pa pl pc hV n1 n2 => by have q := ws18 k (by omega) (d := d) hm V qa ql qc pa pl pc hV n1 n2; rw [hsc, he] at q; exact q
    have CI : ∀ (V : World) (qa : Option Addr) (ql qc : Nat) (pa : Option Addr) (pl pc : Nat), NumV V 65536 M (.slice qa ql qc) → NumV V 65536 M2 (.slice pa pl pc) → Calls Tryz.prog 26 #[.agg #[.int .i64 (S : Int), .slice qa ql qc, .slice pa pl pc], .string u] V fun e w' => e = .returned (.bool (isSc S M u)) ∧ Below V.heap.size V w' := fun V qa ql qc pa pl pc n1 n2 => isScalarV n1 n2 u k.hS k.l6
    cases hu : isSc S M u with
    | false =>
      rw [hu] at CI
      exact ⟨6, [], few_nil, fun W a c b d hs hm => by rw [he]; exact nilA (back16_c (SETG k ok hs) (fun X hX => WRO k he h64 hm hsc X hX) (fun V => by have q := noScalar k u V; rw [hu] at q; exact q)), fun W a c b d hs hm => by rw [he]; exact nilA (ref11_C k (C0 W a c hs) (CS W b d hm) (fun V qa ql qc pa pl pc hV n1 n2 => CI V qa ql qc pa pl pc n1 n2)), fun h0 => absurd h0 (by decide), fun _ => rfl⟩
    | true =>
      rw [hu] at CI
      exact ⟨0, bkG S M M2 ((0 + M - numS u) % M) l m, bk_few ok he, fun W a c b d hs hm => by
        have q := BCKG k h ok (isSc_lt hu) (c := c) (d := d) hs hm he hsc
        rw [TX_numS (isSc_size hu)] at q
        rw [he]; exact lenA (bk_len he) q, fun W a c b d hs hm => by rw [he]; exact lenA (bk_len he) (ref11_D k (C0 W a c hs) (CS W b d hm) (fun V qa ql qc pa pl pc hV n1 n2 => CI V qa ql qc pa pl pc n1 n2) (fun V qa ql qc pa pl pc hV n1 n2 => backOf27 k h ok n1 n2 (hs.of_below hV) (hm.of_below hV) he hsc hu)), fun _ => ⟨ok, he, by first | exact hsc | rfl, by first | exact hu | rfl, rfl⟩, fun h0 => absurd rfl h0⟩
end
theorem pkz1 : PK 2 641 1283 := ⟨prime_p1, prime_q1, by decide +kernel, by decide +kernel⟩
theorem pkz2 : PK 8 576465431670292481 1152930863340584963 := ⟨prime_p2, prime_q2, by decide +kernel, by decide +kernel⟩
theorem pkz3 : PK 32 7237005577332262213973186563042995786902308146886443998308627866733439352833 14474011154664524427946373126085991573804616293772887996617255733466878705667 := ⟨prime_p3, prime_q3, by decide +kernel, by decide +kernel⟩
theorem sameH (z : Int) {l : List Cl} (hl : Big l) (m : List ByteArray) : ∃ t, AH 5 z l m t ∧ AH 6 z l m t := by
  by_cases z1 : z = 1
  · subst z1; exact anyH kd1 pkz1 hl m
  by_cases z2 : z = 2
  · subst z2; exact anyH kd2 pkz2 hl m
  by_cases z3 : z = 3
  · subst z3; exact anyH kd3 pkz3 hl m
  exact ⟨false, fun W a c b d hs hm => holds5_bad (k := 1) rfl (fun V hV => setOf9_none rfl (fun X => groundOf_no z1 z2 z3 X)), fun W a c b d hs hm => ref6_none z1 z2 z3⟩
theorem sameF (z : Int) {l : List Cl} (hl : Big l) (m : List ByteArray) : ∃ co L, Few L ∧ AF 7 z l m co L ∧ AF 8 z l m co L := by
  by_cases z1 : z = 1
  · subst z1; exact anyF kd1 pkz1 hl m
  by_cases z2 : z = 2
  · subst z2; exact anyF kd2 pkz2 hl m
  by_cases z3 : z = 3
  · subst z3; exact anyF kd3 pkz3 hl m
  exact ⟨1, [], few_nil, fun W a c b d hs hm => nilA (first7_bad rfl rfl (fun V hV => setOf9_none rfl (fun X => groundOf_no z1 z2 z3 X))), fun W a c b d hs hm => nilA (ref8_none z1 z2 z3)⟩
theorem sameB (z : Int) {l : List Cl} (hl : Big l) (u : ByteArray) (m : List ByteArray) : ∃ co L, Few L ∧ AB 10 z l u m co L ∧ AB 11 z l u m co L := by
  by_cases z1 : z = 1
  · subst z1; obtain ⟨co, L, f, h1, h2, _⟩ := anyB kd1 pkz1 hl u m; exact ⟨co, L, f, h1, h2⟩
  by_cases z2 : z = 2
  · subst z2; obtain ⟨co, L, f, h1, h2, _⟩ := anyB kd2 pkz2 hl u m; exact ⟨co, L, f, h1, h2⟩
  by_cases z3 : z = 3
  · subst z3; obtain ⟨co, L, f, h1, h2, _⟩ := anyB kd3 pkz3 hl u m; exact ⟨co, L, f, h1, h2⟩
  exact ⟨1, [], few_nil, fun W a c b d hs hm => nilA (back4_bad rfl rfl (fun V hV => setOf9_none rfl (fun X => groundOf_no z1 z2 z3 X))), fun W a c b d hs hm => nilA (ref11_none z1 z2 z3)⟩
set_option maxHeartbeats 4000000 in
theorem law3 {w : World} {z : Int} {l : List Cl} {u : ByteArray} {m : List ByteArray} {a b : Option Addr} {c d : Nat} (hs : CM w a l) (hm : SL w b m) {t : Bool} {co co2 : Int} {L L2 : List (List ByteArray)} (f1 : Few L) (f2 : Few L2)
    (h5 : AH 5 z l m t) (h6 : AH 6 z l m t) (h7 : AF 7 z l m co L) (h8 : AF 8 z l m co L) (h10 : AB 10 z l u m co2 L2) (h11 : AB 11 z l u m co2 L2) :
    Calls Tryz.prog 3 #[.int .i64 z, .slice a l.length c, .string u, .slice b m.length d] w fun e w' => e = .returned (.bool true) ∧ Below w.heap.size w w' := by
  have HS : Hid (CM w a l) := hs
  have HM : Hid (SL w b m) := hm
  have H5 : Hid (AH 5 z l m t) := h5
  have H6 : Hid (AH 6 z l m t) := h6
  have H7 : Hid (AF 7 z l m co L) := h7
  have H8 : Hid (AF 8 z l m co L) := h8
  have H10 : Hid (AB 10 z l u m co2 L2) := h10
  have H11 : Hid (AB 11 z l u m co2 L2) := h11
  have SA : Hid (∀ W a c b d, SLL W a L → SLL W b L → Calls Tryz.prog 9 #[.slice a L.length c, .slice b L.length d] W fun e w' => e = .returned (.bool true) ∧ Below W.heap.size W w') := fun W a c b d g1 g2 => by
    have q := sameLists18 (c := c) (d := d) f1.1 f1.2 rfl g1 g2
    rw [decide_eq_true rfl] at q
    exact q
  have SB : Hid (∀ W a c b d, SLL W a L2 → SLL W b L2 → Calls Tryz.prog 9 #[.slice a L2.length c, .slice b L2.length d] W fun e w' => e = .returned (.bool true) ∧ Below W.heap.size W w') := fun W a c b d g1 g2 => by
    have q := sameLists18 (c := c) (d := d) f2.1 f2.2 rfl g1 g2
    rw [decide_eq_true rfl] at q
    exact q
  have t1 : (t != t) = false := by simp
  have t2 : (co != co) = false := by simp
  have t3 : (co2 == co2) = true := by simp
  clear hs hm h5 h6 h7 h8 h10 h11 f1 f2
  have KS : Hid (∀ V, Below w.heap.size w V → CM V a l ∧ SL V b m) := fun V hV => ⟨HS.out.of_below hV, HM.out.of_below hV⟩
  have sB : Hid (∀ V V', Below V.heap.size V V' → Below w.heap.size w V → Below w.heap.size w V') := fun V V' h h' => h'.trans (h.mono h'.size)
  go_enter Tryz.func3, Tryz.ntmps3
  go_wp2_with (first
    | (go_at_call 5; refine (H5.out w a c b d HS.out HM.out).mono ?_; rintro e w1 ⟨rfl, hB1⟩; have B1 : Hid (Below w.heap.size w w1) := hB1; clear hB1 H5)
    | (go_at_call 6; refine (H6.out w1 a c b d (KS.out _ B1.out).1 (KS.out _ B1.out).2).mono ?_; rintro e w2 ⟨rfl, hB2⟩; have B2 : Hid (Below w.heap.size w w2) := sB.out _ _ hB2 B1.out; clear hB2 H6)
    | (go_at_call 7; refine (H7.out w2 a c b d (KS.out _ B2.out).1 (KS.out _ B2.out).2).mono ?_; rintro e w3 ⟨⟨a3, c3, rfl, s3⟩, hB3⟩; have B3 : Hid (Below w.heap.size w w3) := sB.out _ _ hB3 B2.out; have S3 : Hid (SLL w3 a3 L) := s3; clear hB3 s3 H7)
    | (go_at_call 8; refine (H8.out w3 a c b d (KS.out _ B3.out).1 (KS.out _ B3.out).2).mono ?_; rintro e w4 ⟨⟨a4, c4, rfl, s4⟩, hB4⟩; have B4 : Hid (Below w.heap.size w w4) := sB.out _ _ hB4 B3.out; have S4 : Hid (SLL w4 a4 L) := s4; replace S3 : Hid (SLL w4 a3 L) := S3.out.of_below hB4; clear hB4 s4 H8)
    | (go_at_call 9; refine (SA.out w4 a3 c3 a4 c4 S3.out S4.out).mono ?_; rintro e w5 ⟨rfl, hB5⟩; have B5 : Hid (Below w.heap.size w w5) := sB.out _ _ hB5 B4.out; clear hB5 SA S3 S4)
    | (go_at_call 10; refine (H10.out w5 a c b d (KS.out _ B5.out).1 (KS.out _ B5.out).2).mono ?_; rintro e w6 ⟨⟨a6, c6, rfl, s6⟩, hB6⟩; have B6 : Hid (Below w.heap.size w w6) := sB.out _ _ hB6 B5.out; have S6 : Hid (SLL w6 a6 L2) := s6; clear hB6 s6 H10)
    | (go_at_call 11; refine (H11.out w6 a c b d (KS.out _ B6.out).1 (KS.out _ B6.out).2).mono ?_; rintro e w7 ⟨⟨a7, c7, rfl, s7⟩, hB7⟩; have B7 : Hid (Below w.heap.size w w7) := sB.out _ _ hB7 B6.out; have S7 : Hid (SLL w7 a7 L2) := s7; replace S6 : Hid (SLL w7 a6 L2) := S6.out.of_below hB7; clear hB7 s7 H11)
    | (go_at_call 9; refine (SB.out w7 a6 c6 a7 c7 S6.out S7.out).mono ?_; rintro e w8 ⟨rfl, hB8⟩; have B8 : Hid (Below w.heap.size w w8) := sB.out _ _ hB8 B7.out; clear hB8 SB)
    | fail)
  go_ret
  exact ⟨rfl, B8.out⟩
theorem firsts_walk (z : Int) (u : ByteArray) {w : World} {l : List Cl} {m : List ByteArray} {a b : Option Addr} {c d : Nat} (hl : Big l) (hs : CM w a l) (hm : SL w b m) :
    Calls Tryz.prog 3 #[.int .i64 z, .slice a l.length c, .string u, .slice b m.length d] w fun e w' => e = .returned (.bool true) ∧ Below w.heap.size w w' := by
  obtain ⟨t, h5, h6⟩ := sameH z hl m
  obtain ⟨co, L, f1, h7, h8⟩ := sameF z hl m
  obtain ⟨co2, L2, f2, h10, h11⟩ := sameB z hl u m
  exact law3 hs hm f1 f2 h5 h6 h7 h8 h10 h11
end Go.Proofs.YtfbceknafmkipaaGreat
namespace Go.Proofs.YtfbceknafmkipaaGreat
open Go.RowKit Go.Deep Go.PlainAid

theorem lengthIf_ok {V : World} {n : Nat} {co : Int} (h : (co != 0) = false) : Calls Tryz.prog 12 #[.int .i64 (n : Int), .int .i64 co] V fun e w' => e = .returned (.int .i64 (n : Int)) ∧ Below V.heap.size V w' := by
  go_enter Tryz.func12, Tryz.ntmps12
  go_wp2_with fail
  go_ret
  exact ⟨rfl, Below.refl _ _⟩
theorem lengthIf_no {V : World} {n : Nat} {co : Int} (h : (co != 0) = true) : Calls Tryz.prog 12 #[.int .i64 (n : Int), .int .i64 co] V fun e w' => e = .returned (.int .i64 ((0 : Nat) : Int)) ∧ Below V.heap.size V w' := by
  go_enter Tryz.func12, Tryz.ntmps12
  go_wp2_with fail
  go_ret
  exact ⟨rfl, Below.refl _ _⟩
set_option maxHeartbeats 4000000 in
theorem law4_A {w : World} {z : Int} {l : List Cl} {x y : ByteArray} {m n : List ByteArray} {a ma na : Option Addr} {c mc nc : Nat} (hs : CM w a l) (hm : SL w ma m) (hn : SL w na n) {co co2 : Int} {L L2 : List (List ByteArray)} (h10 : AB 10 z l x m co L) (h10b : AB 10 z l y n co2 L2) (k1 : (co != 0) = true) {t : Bool} (h5 : AH 5 z l m t) (h6 : AH 6 z l m t) (hli : ∀ V, Calls Tryz.prog 12 #[.int .i64 (l.length : Int), .int .i64 co] V fun e w' => e = .returned (.int .i64 (L.length : Int)) ∧ Below V.heap.size V w') :
    Calls Tryz.prog 4 #[.int .i64 z, .slice a l.length c, .agg #[.string x, .slice ma m.length mc], .agg #[.string y, .slice na n.length nc]] w fun e w' => e = .returned (.bool true) ∧ Below w.heap.size w w' := by
  generalize hW : (w.alloc (.cells #[.string x, .slice ma m.length mc] 33)).alloc (.cells #[.string y, .slice na n.length nc] 33) = W
  have J : Hid (Below w.heap.size w W) := by rw [← hW]; exact ((Below.refl _ w).alloc (Nat.le_refl _) _).alloc (by simp) _
  have I1 : Hid (IHolds W w.heap.size 33 [.string x, .slice ma m.length mc]) := by rw [← hW]; exact (IHolds.new' w 33 [.string x, .slice ma m.length mc] rfl).alloc _
  have I2 : Hid (IHolds W (w.heap.size + 1) 33 [.string y, .slice na n.length nc]) := by rw [← hW]; exact IHolds.new' (w.alloc _) 33 [.string y, .slice na n.length nc] (by simp)
  have KS : Hid (∀ V, Below W.heap.size W V → CM V a l ∧ SL V ma m ∧ SL V na n) := fun V hV => ⟨(hs.of_below J.out).of_below hV, (hm.of_below J.out).of_below hV, (hn.of_below J.out).of_below hV⟩
  have KC : Hid (∀ V, Below W.heap.size W V → V.cell? ⟨w.heap.size, 0, none⟩ = some (.string x) ∧ V.cell? ⟨w.heap.size, 1, none⟩ = some (.slice ma m.length mc) ∧ V.cell? ⟨w.heap.size + 1, 0, none⟩ = some (.string y) ∧ V.cell? ⟨w.heap.size + 1, 1, none⟩ = some (.slice na n.length nc)) := fun V hV => ⟨cell_keep I1.out.two0 hV, cell_keep I1.out.two1 hV, cell_keep I2.out.two0 hV, cell_keep I2.out.two1 hV⟩
  have sB : Hid (∀ V V', Below V.heap.size V V' → Below W.heap.size W V → Below W.heap.size W V') := fun V V' h h' => h'.trans (h.mono h'.size)
  have HA : Hid (AB 10 z l x m co L) := h10
  have HB : Hid (AB 10 z l y n co2 L2) := h10b
  clear hs hm hn h10 h10b
  have H5 : Hid (AH 5 z l m t) := h5
  have H6 : Hid (AH 6 z l m t) := h6
  have HLI : Hid (∀ V, Calls Tryz.prog 12 #[.int .i64 (l.length : Int), .int .i64 co] V fun e w' => e = .returned (.int .i64 (L.length : Int)) ∧ Below V.heap.size V w') := hli
  have t1 : (t == t) = true := by simp
  clear h5 h6 hli
  go_enter Tryz.func4, Tryz.ntmps4
  obtain ⟨y0, y1, y2, y3⟩ := KC.out W (Below.refl _ _)
  go_wp2_with (first
    | (go_at_call 10; refine (HA.out W a c ma mc (KS.out _ (Below.refl _ _)).1 (KS.out _ (Below.refl _ _)).2.1).mono ?_; rintro e w1 ⟨⟨a1, c1, rfl, s1⟩, hB1⟩; have B1 : Hid (Below W.heap.size W w1) := hB1; have S1 : Hid (SLL w1 a1 L) := s1; obtain ⟨y0, y1, y2, y3⟩ := KC.out w1 hB1; clear hB1 s1 HA)
    | (go_at_call 10; refine (HB.out w1 a c na nc (KS.out _ B1.out).1 (KS.out _ B1.out).2.2).mono ?_; rintro e w2 ⟨⟨a2, c2, rfl, s2⟩, hB2⟩; have B2 : Hid (Below W.heap.size W w2) := sB.out _ _ hB2 B1.out; have S2 : Hid (SLL w2 a2 L2) := s2; replace S1 : Hid (SLL w2 a1 L) := S1.out.of_below hB2; obtain ⟨y0, y1, y2, y3⟩ := KC.out w2 B2.out; clear hB2 s2 HB)
    | fail)
  clear y0 y1 y2 y3
  have KP : Hid (∀ V, Below W.heap.size W V → (Below W.heap.size W V ∧ V.cell? ⟨w.heap.size, 1, none⟩ = some (.slice ma m.length mc))) := fun V hV => ⟨hV, (KC.out V hV).2.1⟩
  go_region_held3 (fun V => Below W.heap.size W V ∧ V.cell? ⟨w.heap.size, 1, none⟩ = some (.slice ma m.length mc))
    (first | exact KP.out _ B2.out.drew | assumption | exact KP.out _ B8.out | exact KP.out _ B7.out | exact KP.out _ B6.out | fail)
    (first
      | (go_at_call 6; refine (H6.out _ a c ma mc (KS.out _ B2.out.drew).1 (KS.out _ B2.out.drew).2.1).mono ?_; rintro e w6 ⟨rfl, hB6⟩; have B6 : Hid (Below W.heap.size W w6) := sB.out _ _ hB6 B2.out.drew; clear H6)
      | (go_at_call 5; refine (H5.out _ a c ma mc (KS.out _ B6.out).1 (KS.out _ B6.out).2.1).mono ?_; rintro e w7 ⟨rfl, hB7⟩; have B7 : Hid (Below W.heap.size W w7) := sB.out _ _ hB7 B6.out; clear H5)
      | (go_at_call 12; refine (HLI.out _).mono ?_; rintro e w8 ⟨rfl, hB8⟩; have B8 : Hid (Below W.heap.size W w8) := sB.out _ _ hB8 B7.out; clear HLI)
      | fail)
  go_wp2_with fail
  go_ret
  exact ⟨rfl, J.out.trans (B8.out.mono J.out.size)⟩
set_option maxHeartbeats 4000000 in
theorem law4_B {w : World} {z : Int} {l : List Cl} {x y : ByteArray} {m n : List ByteArray} {a ma na : Option Addr} {c mc nc : Nat} (hs : CM w a l) (hm : SL w ma m) (hn : SL w na n) {co co2 : Int} {L L2 : List (List ByteArray)} (h10 : AB 10 z l x m co L) (h10b : AB 10 z l y n co2 L2) (k1 : (co != 0) = false) (k2 : (co2 != 0) = true) {t : Bool} (h5 : AH 5 z l m t) (h6 : AH 6 z l m t) (hli : ∀ V, Calls Tryz.prog 12 #[.int .i64 (l.length : Int), .int .i64 co] V fun e w' => e = .returned (.int .i64 (L.length : Int)) ∧ Below V.heap.size V w') :
    Calls Tryz.prog 4 #[.int .i64 z, .slice a l.length c, .agg #[.string x, .slice ma m.length mc], .agg #[.string y, .slice na n.length nc]] w fun e w' => e = .returned (.bool true) ∧ Below w.heap.size w w' := by
  generalize hW : (w.alloc (.cells #[.string x, .slice ma m.length mc] 33)).alloc (.cells #[.string y, .slice na n.length nc] 33) = W
  have J : Hid (Below w.heap.size w W) := by rw [← hW]; exact ((Below.refl _ w).alloc (Nat.le_refl _) _).alloc (by simp) _
  have I1 : Hid (IHolds W w.heap.size 33 [.string x, .slice ma m.length mc]) := by rw [← hW]; exact (IHolds.new' w 33 [.string x, .slice ma m.length mc] rfl).alloc _
  have I2 : Hid (IHolds W (w.heap.size + 1) 33 [.string y, .slice na n.length nc]) := by rw [← hW]; exact IHolds.new' (w.alloc _) 33 [.string y, .slice na n.length nc] (by simp)
  have KS : Hid (∀ V, Below W.heap.size W V → CM V a l ∧ SL V ma m ∧ SL V na n) := fun V hV => ⟨(hs.of_below J.out).of_below hV, (hm.of_below J.out).of_below hV, (hn.of_below J.out).of_below hV⟩
  have KC : Hid (∀ V, Below W.heap.size W V → V.cell? ⟨w.heap.size, 0, none⟩ = some (.string x) ∧ V.cell? ⟨w.heap.size, 1, none⟩ = some (.slice ma m.length mc) ∧ V.cell? ⟨w.heap.size + 1, 0, none⟩ = some (.string y) ∧ V.cell? ⟨w.heap.size + 1, 1, none⟩ = some (.slice na n.length nc)) := fun V hV => ⟨cell_keep I1.out.two0 hV, cell_keep I1.out.two1 hV, cell_keep I2.out.two0 hV, cell_keep I2.out.two1 hV⟩
  have sB : Hid (∀ V V', Below V.heap.size V V' → Below W.heap.size W V → Below W.heap.size W V') := fun V V' h h' => h'.trans (h.mono h'.size)
  have HA : Hid (AB 10 z l x m co L) := h10
  have HB : Hid (AB 10 z l y n co2 L2) := h10b
  clear hs hm hn h10 h10b
  have H5 : Hid (AH 5 z l m t) := h5
  have H6 : Hid (AH 6 z l m t) := h6
  have HLI : Hid (∀ V, Calls Tryz.prog 12 #[.int .i64 (l.length : Int), .int .i64 co] V fun e w' => e = .returned (.int .i64 (L.length : Int)) ∧ Below V.heap.size V w') := hli
  have t1 : (t == t) = true := by simp
  clear h5 h6 hli
  go_enter Tryz.func4, Tryz.ntmps4
  obtain ⟨y0, y1, y2, y3⟩ := KC.out W (Below.refl _ _)
  go_wp2_with (first
    | (go_at_call 10; refine (HA.out W a c ma mc (KS.out _ (Below.refl _ _)).1 (KS.out _ (Below.refl _ _)).2.1).mono ?_; rintro e w1 ⟨⟨a1, c1, rfl, s1⟩, hB1⟩; have B1 : Hid (Below W.heap.size W w1) := hB1; have S1 : Hid (SLL w1 a1 L) := s1; obtain ⟨y0, y1, y2, y3⟩ := KC.out w1 hB1; clear hB1 s1 HA)
    | (go_at_call 10; refine (HB.out w1 a c na nc (KS.out _ B1.out).1 (KS.out _ B1.out).2.2).mono ?_; rintro e w2 ⟨⟨a2, c2, rfl, s2⟩, hB2⟩; have B2 : Hid (Below W.heap.size W w2) := sB.out _ _ hB2 B1.out; have S2 : Hid (SLL w2 a2 L2) := s2; replace S1 : Hid (SLL w2 a1 L) := S1.out.of_below hB2; obtain ⟨y0, y1, y2, y3⟩ := KC.out w2 B2.out; clear hB2 s2 HB)
    | fail)
  clear y0 y1 y2 y3
  have KP : Hid (∀ V, Below W.heap.size W V → (Below W.heap.size W V ∧ V.cell? ⟨w.heap.size, 1, none⟩ = some (.slice ma m.length mc))) := fun V hV => ⟨hV, (KC.out V hV).2.1⟩
  go_region_held3 (fun V => Below W.heap.size W V ∧ V.cell? ⟨w.heap.size, 1, none⟩ = some (.slice ma m.length mc))
    (first | exact KP.out _ B2.out.drew | assumption | exact KP.out _ B8.out | exact KP.out _ B7.out | exact KP.out _ B6.out | fail)
    (first
      | (go_at_call 6; refine (H6.out _ a c ma mc (KS.out _ B2.out.drew).1 (KS.out _ B2.out.drew).2.1).mono ?_; rintro e w6 ⟨rfl, hB6⟩; have B6 : Hid (Below W.heap.size W w6) := sB.out _ _ hB6 B2.out.drew; clear H6)
      | (go_at_call 5; refine (H5.out _ a c ma mc (KS.out _ B6.out).1 (KS.out _ B6.out).2.1).mono ?_; rintro e w7 ⟨rfl, hB7⟩; have B7 : Hid (Below W.heap.size W w7) := sB.out _ _ hB7 B6.out; clear H5)
      | (go_at_call 12; refine (HLI.out _).mono ?_; rintro e w8 ⟨rfl, hB8⟩; have B8 : Hid (Below W.heap.size W w8) := sB.out _ _ hB8 B7.out; clear HLI)
      | fail)
  go_wp2_with fail
  go_ret
  exact ⟨rfl, J.out.trans (B8.out.mono J.out.size)⟩
set_option maxHeartbeats 4000000 in
theorem law4_C {w : World} {z : Int} {l : List Cl} {x y : ByteArray} {m n : List ByteArray} {a ma na : Option Addr} {c mc nc : Nat} (hs : CM w a l) (hm : SL w ma m) (hn : SL w na n) {co co2 : Int} {L L2 : List (List ByteArray)} (h10 : AB 10 z l x m co L) (h10b : AB 10 z l y n co2 L2) (k1 : (co != 0) = false) (k2 : (co2 != 0) = false) (hsa : ∀ W a c b d, SLL W a L → SLL W b L2 → Calls Tryz.prog 9 #[.slice a L.length c, .slice b L2.length d] W fun e w' => e = .returned (.bool false) ∧ Below W.heap.size W w') {t : Bool} (h5 : AH 5 z l m t) (h6 : AH 6 z l m t) (hli : ∀ V, Calls Tryz.prog 12 #[.int .i64 (l.length : Int), .int .i64 co] V fun e w' => e = .returned (.int .i64 (L.length : Int)) ∧ Below V.heap.size V w') :
    Calls Tryz.prog 4 #[.int .i64 z, .slice a l.length c, .agg #[.string x, .slice ma m.length mc], .agg #[.string y, .slice na n.length nc]] w fun e w' => e = .returned (.bool true) ∧ Below w.heap.size w w' := by
  generalize hW : (w.alloc (.cells #[.string x, .slice ma m.length mc] 33)).alloc (.cells #[.string y, .slice na n.length nc] 33) = W
  have J : Hid (Below w.heap.size w W) := by rw [← hW]; exact ((Below.refl _ w).alloc (Nat.le_refl _) _).alloc (by simp) _
  have I1 : Hid (IHolds W w.heap.size 33 [.string x, .slice ma m.length mc]) := by rw [← hW]; exact (IHolds.new' w 33 [.string x, .slice ma m.length mc] rfl).alloc _
  have I2 : Hid (IHolds W (w.heap.size + 1) 33 [.string y, .slice na n.length nc]) := by rw [← hW]; exact IHolds.new' (w.alloc _) 33 [.string y, .slice na n.length nc] (by simp)
  have KS : Hid (∀ V, Below W.heap.size W V → CM V a l ∧ SL V ma m ∧ SL V na n) := fun V hV => ⟨(hs.of_below J.out).of_below hV, (hm.of_below J.out).of_below hV, (hn.of_below J.out).of_below hV⟩
  have KC : Hid (∀ V, Below W.heap.size W V → V.cell? ⟨w.heap.size, 0, none⟩ = some (.string x) ∧ V.cell? ⟨w.heap.size, 1, none⟩ = some (.slice ma m.length mc) ∧ V.cell? ⟨w.heap.size + 1, 0, none⟩ = some (.string y) ∧ V.cell? ⟨w.heap.size + 1, 1, none⟩ = some (.slice na n.length nc)) := fun V hV => ⟨cell_keep I1.out.two0 hV, cell_keep I1.out.two1 hV, cell_keep I2.out.two0 hV, cell_keep I2.out.two1 hV⟩
  have sB : Hid (∀ V V', Below V.heap.size V V' → Below W.heap.size W V → Below W.heap.size W V') := fun V V' h h' => h'.trans (h.mono h'.size)
  have HA : Hid (AB 10 z l x m co L) := h10
  have HB : Hid (AB 10 z l y n co2 L2) := h10b
  clear hs hm hn h10 h10b
  have H5 : Hid (AH 5 z l m t) := h5
  have H6 : Hid (AH 6 z l m t) := h6
  have HLI : Hid (∀ V, Calls Tryz.prog 12 #[.int .i64 (l.length : Int), .int .i64 co] V fun e w' => e = .returned (.int .i64 (L.length : Int)) ∧ Below V.heap.size V w') := hli
  have t1 : (t == t) = true := by simp
  clear h5 h6 hli
  have SA : Hid (∀ W a c b d, SLL W a L → SLL W b L2 → Calls Tryz.prog 9 #[.slice a L.length c, .slice b L2.length d] W fun e w' => e = .returned (.bool false) ∧ Below W.heap.size W w') := hsa
  clear hsa
  go_enter Tryz.func4, Tryz.ntmps4
  obtain ⟨y0, y1, y2, y3⟩ := KC.out W (Below.refl _ _)
  go_wp2_with (first
    | (go_at_call 10; refine (HA.out W a c ma mc (KS.out _ (Below.refl _ _)).1 (KS.out _ (Below.refl _ _)).2.1).mono ?_; rintro e w1 ⟨⟨a1, c1, rfl, s1⟩, hB1⟩; have B1 : Hid (Below W.heap.size W w1) := hB1; have S1 : Hid (SLL w1 a1 L) := s1; obtain ⟨y0, y1, y2, y3⟩ := KC.out w1 hB1; clear hB1 s1 HA)
    | (go_at_call 10; refine (HB.out w1 a c na nc (KS.out _ B1.out).1 (KS.out _ B1.out).2.2).mono ?_; rintro e w2 ⟨⟨a2, c2, rfl, s2⟩, hB2⟩; have B2 : Hid (Below W.heap.size W w2) := sB.out _ _ hB2 B1.out; have S2 : Hid (SLL w2 a2 L2) := s2; replace S1 : Hid (SLL w2 a1 L) := S1.out.of_below hB2; obtain ⟨y0, y1, y2, y3⟩ := KC.out w2 B2.out; clear hB2 s2 HB)
    | (go_at_call 9; refine (SA.out w2 a1 c1 a2 c2 S1.out S2.out).mono ?_; rintro e w3 ⟨rfl, hB3⟩; have B3 : Hid (Below W.heap.size W w3) := sB.out _ _ hB3 B2.out; obtain ⟨y0, y1, y2, y3⟩ := KC.out w3 B3.out; clear hB3 SA S1 S2)
    | fail)
  clear y0 y1 y2 y3
  have KP : Hid (∀ V, Below W.heap.size W V → (Below W.heap.size W V ∧ V.cell? ⟨w.heap.size, 1, none⟩ = some (.slice ma m.length mc))) := fun V hV => ⟨hV, (KC.out V hV).2.1⟩
  go_region_held3 (fun V => Below W.heap.size W V ∧ V.cell? ⟨w.heap.size, 1, none⟩ = some (.slice ma m.length mc))
    (first | exact KP.out _ B3.out.drew | assumption | exact KP.out _ B8.out | exact KP.out _ B7.out | exact KP.out _ B6.out | fail)
    (first
      | (go_at_call 6; refine (H6.out _ a c ma mc (KS.out _ B3.out.drew).1 (KS.out _ B3.out.drew).2.1).mono ?_; rintro e w6 ⟨rfl, hB6⟩; have B6 : Hid (Below W.heap.size W w6) := sB.out _ _ hB6 B3.out.drew; clear H6)
      | (go_at_call 5; refine (H5.out _ a c ma mc (KS.out _ B6.out).1 (KS.out _ B6.out).2.1).mono ?_; rintro e w7 ⟨rfl, hB7⟩; have B7 : Hid (Below W.heap.size W w7) := sB.out _ _ hB7 B6.out; clear H5)
      | (go_at_call 12; refine (HLI.out _).mono ?_; rintro e w8 ⟨rfl, hB8⟩; have B8 : Hid (Below W.heap.size W w8) := sB.out _ _ hB8 B7.out; clear HLI)
      | fail)
  go_wp2_with fail
  go_ret
  exact ⟨rfl, J.out.trans (B8.out.mono J.out.size)⟩
set_option maxHeartbeats 4000000 in
theorem law4_D {w : World} {z : Int} {l : List Cl} {x y : ByteArray} {m n : List ByteArray} {a ma na : Option Addr} {c mc nc : Nat} (hs : CM w a l) (hm : SL w ma m) (hn : SL w na n) {co co2 : Int} {L L2 : List (List ByteArray)} (h10 : AB 10 z l x m co L) (h10b : AB 10 z l y n co2 L2) (k1 : (co != 0) = false) (k2 : (co2 != 0) = false) (k3 : (x.toList == y.toList) = true) (hsa : ∀ W a c b d, SLL W a L → SLL W b L2 → Calls Tryz.prog 9 #[.slice a L.length c, .slice b L2.length d] W fun e w' => e = .returned (.bool true) ∧ Below W.heap.size W w') {t : Bool} (h5 : AH 5 z l m t) (h6 : AH 6 z l m t) (hli : ∀ V, Calls Tryz.prog 12 #[.int .i64 (l.length : Int), .int .i64 co] V fun e w' => e = .returned (.int .i64 (L.length : Int)) ∧ Below V.heap.size V w') :
    Calls Tryz.prog 4 #[.int .i64 z, .slice a l.length c, .agg #[.string x, .slice ma m.length mc], .agg #[.string y, .slice na n.length nc]] w fun e w' => e = .returned (.bool true) ∧ Below w.heap.size w w' := by
  generalize hW : (w.alloc (.cells #[.string x, .slice ma m.length mc] 33)).alloc (.cells #[.string y, .slice na n.length nc] 33) = W
  have J : Hid (Below w.heap.size w W) := by rw [← hW]; exact ((Below.refl _ w).alloc (Nat.le_refl _) _).alloc (by simp) _
  have I1 : Hid (IHolds W w.heap.size 33 [.string x, .slice ma m.length mc]) := by rw [← hW]; exact (IHolds.new' w 33 [.string x, .slice ma m.length mc] rfl).alloc _
  have I2 : Hid (IHolds W (w.heap.size + 1) 33 [.string y, .slice na n.length nc]) := by rw [← hW]; exact IHolds.new' (w.alloc _) 33 [.string y, .slice na n.length nc] (by simp)
  have KS : Hid (∀ V, Below W.heap.size W V → CM V a l ∧ SL V ma m ∧ SL V na n) := fun V hV => ⟨(hs.of_below J.out).of_below hV, (hm.of_below J.out).of_below hV, (hn.of_below J.out).of_below hV⟩
  have KC : Hid (∀ V, Below W.heap.size W V → V.cell? ⟨w.heap.size, 0, none⟩ = some (.string x) ∧ V.cell? ⟨w.heap.size, 1, none⟩ = some (.slice ma m.length mc) ∧ V.cell? ⟨w.heap.size + 1, 0, none⟩ = some (.string y) ∧ V.cell? ⟨w.heap.size + 1, 1, none⟩ = some (.slice na n.length nc)) := fun V hV => ⟨cell_keep I1.out.two0 hV, cell_keep I1.out.two1 hV, cell_keep I2.out.two0 hV, cell_keep I2.out.two1 hV⟩
  have sB : Hid (∀ V V', Below V.heap.size V V' → Below W.heap.size W V → Below W.heap.size W V') := fun V V' h h' => h'.trans (h.mono h'.size)
  have HA : Hid (AB 10 z l x m co L) := h10
  have HB : Hid (AB 10 z l y n co2 L2) := h10b
  clear hs hm hn h10 h10b
  have H5 : Hid (AH 5 z l m t) := h5
  have H6 : Hid (AH 6 z l m t) := h6
  have HLI : Hid (∀ V, Calls Tryz.prog 12 #[.int .i64 (l.length : Int), .int .i64 co] V fun e w' => e = .returned (.int .i64 (L.length : Int)) ∧ Below V.heap.size V w') := hli
  have t1 : (t == t) = true := by simp
  clear h5 h6 hli
  have SA : Hid (∀ W a c b d, SLL W a L → SLL W b L2 → Calls Tryz.prog 9 #[.slice a L.length c, .slice b L2.length d] W fun e w' => e = .returned (.bool true) ∧ Below W.heap.size W w') := hsa
  clear hsa
  go_enter Tryz.func4, Tryz.ntmps4
  obtain ⟨y0, y1, y2, y3⟩ := KC.out W (Below.refl _ _)
  go_wp2_with (first
    | (go_at_call 10; refine (HA.out W a c ma mc (KS.out _ (Below.refl _ _)).1 (KS.out _ (Below.refl _ _)).2.1).mono ?_; rintro e w1 ⟨⟨a1, c1, rfl, s1⟩, hB1⟩; have B1 : Hid (Below W.heap.size W w1) := hB1; have S1 : Hid (SLL w1 a1 L) := s1; obtain ⟨y0, y1, y2, y3⟩ := KC.out w1 hB1; clear hB1 s1 HA)
    | (go_at_call 10; refine (HB.out w1 a c na nc (KS.out _ B1.out).1 (KS.out _ B1.out).2.2).mono ?_; rintro e w2 ⟨⟨a2, c2, rfl, s2⟩, hB2⟩; have B2 : Hid (Below W.heap.size W w2) := sB.out _ _ hB2 B1.out; have S2 : Hid (SLL w2 a2 L2) := s2; replace S1 : Hid (SLL w2 a1 L) := S1.out.of_below hB2; obtain ⟨y0, y1, y2, y3⟩ := KC.out w2 B2.out; clear hB2 s2 HB)
    | (go_at_call 9; refine (SA.out w2 a1 c1 a2 c2 S1.out S2.out).mono ?_; rintro e w3 ⟨rfl, hB3⟩; have B3 : Hid (Below W.heap.size W w3) := sB.out _ _ hB3 B2.out; obtain ⟨y0, y1, y2, y3⟩ := KC.out w3 B3.out; clear hB3 SA S1 S2)
    | fail)
  clear y0 y1 y2 y3
  have KP : Hid (∀ V, Below W.heap.size W V → (Below W.heap.size W V ∧ V.cell? ⟨w.heap.size, 1, none⟩ = some (.slice ma m.length mc))) := fun V hV => ⟨hV, (KC.out V hV).2.1⟩
  go_region_held3 (fun V => Below W.heap.size W V ∧ V.cell? ⟨w.heap.size, 1, none⟩ = some (.slice ma m.length mc))
    (first | exact KP.out _ B3.out.drew | assumption | exact KP.out _ B8.out | exact KP.out _ B7.out | exact KP.out _ B6.out | fail)
    (first
      | (go_at_call 6; refine (H6.out _ a c ma mc (KS.out _ B3.out.drew).1 (KS.out _ B3.out.drew).2.1).mono ?_; rintro e w6 ⟨rfl, hB6⟩; have B6 : Hid (Below W.heap.size W w6) := sB.out _ _ hB6 B3.out.drew; clear H6)
      | (go_at_call 5; refine (H5.out _ a c ma mc (KS.out _ B6.out).1 (KS.out _ B6.out).2.1).mono ?_; rintro e w7 ⟨rfl, hB7⟩; have B7 : Hid (Below W.heap.size W w7) := sB.out _ _ hB7 B6.out; clear H5)
      | (go_at_call 12; refine (HLI.out _).mono ?_; rintro e w8 ⟨rfl, hB8⟩; have B8 : Hid (Below W.heap.size W w8) := sB.out _ _ hB8 B7.out; clear HLI)
      | fail)
  go_wp2_with fail
  go_ret
  exact ⟨rfl, J.out.trans (B8.out.mono J.out.size)⟩
set_option maxHeartbeats 4000000 in
theorem law4_E {w : World} {z : Int} {l : List Cl} {x y : ByteArray} {m n : List ByteArray} {a ma na : Option Addr} {c mc nc : Nat} (hs : CM w a l) (hm : SL w ma m) (hn : SL w na n) {co co2 : Int} {L L2 : List (List ByteArray)} (h10 : AB 10 z l x m co L) (h10b : AB 10 z l y n co2 L2) (k1 : (co != 0) = false) (k2 : (co2 != 0) = false) (k3 : (x.toList == y.toList) = false) (hsa : ∀ W a c b d, SLL W a L → SLL W b L2 → Calls Tryz.prog 9 #[.slice a L.length c, .slice b L2.length d] W fun e w' => e = .returned (.bool true) ∧ Below W.heap.size W w') {rs : List ByteArray} (hex : ∀ V, Below w.heap.size w V → Calls Tryz.prog 13 #[.int .i64 z, .agg #[.string x, .slice ma m.length mc], .agg #[.string y, .slice na n.length nc]] V fun e w' => (∃ a' c', e = .returned (.tuple #[.slice a' rs.length c', .int .i64 0]) ∧ SL w' a' rs) ∧ Below V.heap.size V w') (h5 : AH 5 z l rs true) :
    Calls Tryz.prog 4 #[.int .i64 z, .slice a l.length c, .agg #[.string x, .slice ma m.length mc], .agg #[.string y, .slice na n.length nc]] w fun e w' => e = .returned (.bool true) ∧ Below w.heap.size w w' := by
  generalize hW : (w.alloc (.cells #[.string x, .slice ma m.length mc] 33)).alloc (.cells #[.string y, .slice na n.length nc] 33) = W
  have J : Hid (Below w.heap.size w W) := by rw [← hW]; exact ((Below.refl _ w).alloc (Nat.le_refl _) _).alloc (by simp) _
  have I1 : Hid (IHolds W w.heap.size 33 [.string x, .slice ma m.length mc]) := by rw [← hW]; exact (IHolds.new' w 33 [.string x, .slice ma m.length mc] rfl).alloc _
  have I2 : Hid (IHolds W (w.heap.size + 1) 33 [.string y, .slice na n.length nc]) := by rw [← hW]; exact IHolds.new' (w.alloc _) 33 [.string y, .slice na n.length nc] (by simp)
  have KS : Hid (∀ V, Below W.heap.size W V → CM V a l ∧ SL V ma m ∧ SL V na n) := fun V hV => ⟨(hs.of_below J.out).of_below hV, (hm.of_below J.out).of_below hV, (hn.of_below J.out).of_below hV⟩
  have KC : Hid (∀ V, Below W.heap.size W V → V.cell? ⟨w.heap.size, 0, none⟩ = some (.string x) ∧ V.cell? ⟨w.heap.size, 1, none⟩ = some (.slice ma m.length mc) ∧ V.cell? ⟨w.heap.size + 1, 0, none⟩ = some (.string y) ∧ V.cell? ⟨w.heap.size + 1, 1, none⟩ = some (.slice na n.length nc)) := fun V hV => ⟨cell_keep I1.out.two0 hV, cell_keep I1.out.two1 hV, cell_keep I2.out.two0 hV, cell_keep I2.out.two1 hV⟩
  have sB : Hid (∀ V V', Below V.heap.size V V' → Below W.heap.size W V → Below W.heap.size W V') := fun V V' h h' => h'.trans (h.mono h'.size)
  have HA : Hid (AB 10 z l x m co L) := h10
  have HB : Hid (AB 10 z l y n co2 L2) := h10b
  clear hs hm hn h10 h10b
  have H5 : Hid (AH 5 z l rs true) := h5
  have HX : Hid (∀ V, Below w.heap.size w V → Calls Tryz.prog 13 #[.int .i64 z, .agg #[.string x, .slice ma m.length mc], .agg #[.string y, .slice na n.length nc]] V fun e w' => (∃ a' c', e = .returned (.tuple #[.slice a' rs.length c', .int .i64 0]) ∧ SL w' a' rs) ∧ Below V.heap.size V w') := hex
  have SA : Hid (∀ W a c b d, SLL W a L → SLL W b L2 → Calls Tryz.prog 9 #[.slice a L.length c, .slice b L2.length d] W fun e w' => e = .returned (.bool true) ∧ Below W.heap.size W w') := hsa
  clear h5 hex hsa
  go_enter Tryz.func4, Tryz.ntmps4
  obtain ⟨y0, y1, y2, y3⟩ := KC.out W (Below.refl _ _)
  go_wp2_with (first
    | (go_at_call 10; refine (HA.out W a c ma mc (KS.out _ (Below.refl _ _)).1 (KS.out _ (Below.refl _ _)).2.1).mono ?_; rintro e w1 ⟨⟨a1, c1, rfl, s1⟩, hB1⟩; have B1 : Hid (Below W.heap.size W w1) := hB1; have S1 : Hid (SLL w1 a1 L) := s1; obtain ⟨y0, y1, y2, y3⟩ := KC.out w1 hB1; clear hB1 s1 HA)
    | (go_at_call 10; refine (HB.out w1 a c na nc (KS.out _ B1.out).1 (KS.out _ B1.out).2.2).mono ?_; rintro e w2 ⟨⟨a2, c2, rfl, s2⟩, hB2⟩; have B2 : Hid (Below W.heap.size W w2) := sB.out _ _ hB2 B1.out; have S2 : Hid (SLL w2 a2 L2) := s2; replace S1 : Hid (SLL w2 a1 L) := S1.out.of_below hB2; obtain ⟨y0, y1, y2, y3⟩ := KC.out w2 B2.out; clear hB2 s2 HB)
    | (go_at_call 9; refine (SA.out w2 a1 c1 a2 c2 S1.out S2.out).mono ?_; rintro e w3 ⟨rfl, hB3⟩; have B3 : Hid (Below W.heap.size W w3) := sB.out _ _ hB3 B2.out; obtain ⟨y0, y1, y2, y3⟩ := KC.out w3 B3.out; clear hB3 SA S1 S2)
    | (go_at_call 13; refine (HX.out w3 (J.out.trans (B3.out.mono J.out.size))).mono ?_; rintro e w6 ⟨⟨a6, c6, rfl, s6⟩, hB6⟩; have B6 : Hid (Below W.heap.size W w6) := sB.out _ _ hB6 B3.out; have S6 : Hid (SL w6 a6 rs) := s6; clear hB6 s6 HX)
    | (go_at_call 5; refine (H5.out w6 a c a6 c6 (KS.out _ B6.out).1 S6.out).mono ?_; rintro e w7 ⟨rfl, hB7⟩; have B7 : Hid (Below W.heap.size W w7) := sB.out _ _ hB7 B6.out; clear hB7 H5)
    | fail)
  go_ret
  exact ⟨rfl, J.out.trans (B7.out.mono J.out.size)⟩
end Go.Proofs.YtfbceknafmkipaaGreat
namespace Go.Proofs.YtfbceknafmkipaaGreat
open Go.RowKit Go.Deep Go.PlainAid

section
variable {z : Int} {G : Array Value} {S Wd M low one sq Ri Wd2 M2 low2 one2 sq2 Ri2 : Nat}
theorem sound_kind (k : KD z G S Wd M low one sq Ri Wd2 M2 low2 one2 sq2 Ri2) (h : PK S M M2) {l : List Cl} (hl : Big l) (x y : ByteArray) {m n : List ByteArray} (hmb : m.length ≤ 8796093022207) (hnb : n.length ≤ 8796093022207) {w : World} {a ma na : Option Addr} {c mc nc : Nat} (hs : CM w a l) (hm : SL w ma m) (hn : SL w na n) :
    Calls Tryz.prog 4 #[.int .i64 z, .slice a l.length c, .agg #[.string x, .slice ma m.length mc], .agg #[.string y, .slice na n.length nc]] w fun e w' => e = .returned (.bool true) ∧ Below w.heap.size w w' := by
  obtain ⟨co, L, fL, hA, _, c0, c1⟩ := anyB k h hl x m
  obtain ⟨co2, L2, fL2, hB, _, d0, d1⟩ := anyB k h hl y n
  obtain ⟨t, h5, h6⟩ := anyH k h hl m
  have hli : ∀ V, Calls Tryz.prog 12 #[.int .i64 (l.length : Int), .int .i64 co] V fun e w' => e = .returned (.int .i64 (L.length : Int)) ∧ Below V.heap.size V w' := fun V => by
    by_cases e : co = 0
    · obtain ⟨ok, e1, _, _, rfl⟩ := c0 e
      rw [bk_len e1]
      exact lengthIf_ok (by rw [e]; rfl)
    · rw [c1 e]; exact lengthIf_no (bne_iff_ne.2 e)
  by_cases e1 : co = 0
  case neg => exact law4_A hs hm hn hA hB (bne_iff_ne.2 e1) h5 h6 hli
  have k1 : (co != 0) = false := by rw [e1]; rfl
  by_cases e2 : co2 = 0
  case neg => exact law4_B hs hm hn hA hB k1 (bne_iff_ne.2 e2) h5 h6 hli
  have k2 : (co2 != 0) = false := by rw [e2]; rfl
  obtain ⟨ok, m1, u1, v1, rfl⟩ := c0 e1
  obtain ⟨_, m2, u2, v2, rfl⟩ := d0 e2
  clear c0 d0 c1 d1
  have hsa := fun (W : World) (a : Option Addr) (c : Nat) (b : Option Addr) (d : Nat) g1 g2 => sameLists18 (w := W) (a := a) (b := b) (c := c) (d := d) fL.1 fL.2 ((bk_len (less := (0 + M - numS y) % M) (S := S) (M := M) (M2 := M2) m2).trans (bk_len m1).symm) g1 g2
  by_cases hL : bkG S M M2 ((0 + M - numS x) % M) l m = bkG S M M2 ((0 + M - numS y) % M) l n
  case neg => exact law4_C hs hm hn hA hB k1 k2 (fun W a c b d g1 g2 => by have q := hsa W a c b d g1 g2; rw [decide_eq_false hL] at q; exact q) h5 h6 hli
  have hsb : ∀ W a c b d, SLL W a (bkG S M M2 ((0 + M - numS x) % M) l m) → SLL W b (bkG S M M2 ((0 + M - numS y) % M) l n) → Calls Tryz.prog 9 #[.slice a (bkG S M M2 ((0 + M - numS x) % M) l m).length c, .slice b (bkG S M M2 ((0 + M - numS y) % M) l n).length d] W fun e w' => e = .returned (.bool true) ∧ Below W.heap.size W w' := fun W a c b d g1 g2 => by have q := hsa W a c b d g1 g2; rw [decide_eq_true hL] at q; exact q
  by_cases hxy : x = y
  · exact law4_D hs hm hn hA hB k1 k2 (by rw [hxy]; simp) hsb h5 h6 hli
  have m9 := h.m1
  have h64 := ok.most
  have pos := ok.pos
  have nn : numS x ≠ numS y := fun he => hxy (by rw [← TX_numS (isSc_size v1), ← TX_numS (isSc_size v2), he])
  have len : (List.zipWith (ext S M x y) m n).length = l.length := by simp; omega
  have sc' : (List.zipWith (ext S M x y) m n).all (isSc S M) = true := by
    rw [List.all_eq_true]
    intro s hs
    obtain ⟨i, hi, rfl⟩ := List.mem_iff_getElem.1 hs
    rw [List.getElem_zipWith]
    exact k.sc (Nat.mod_lt _ (by omega))
  have snd := sound_set h ok (c := numS x) (d := numS y) m1 m2 len u1 u2 (isSc_lt v1) (isSc_lt v2) nn (fun i h1 h2 h3 => by rw [List.getElem_zipWith]; exact ext_mul k.sz h.hq v1 v2 hxy) hL
  have hev : evenB [m] [n] = true := evenB_of [m] [n] rfl (fun i hi hi' => by
    have : i = 0 := by simp at hi; omega
    subst this
    simp; omega)
  have hun : unl [x] [y] [m] [n] = false := by
    unfold unl
    rw [hev]
    rfl
  have al : (allP (isSc S M) [x] [m] && allP (isSc S M) [y] [n]) = true := by
    unfold allP
    simp [v1, v2]
    exact ⟨fun s hs => List.all_eq_true.1 u1 s hs, fun s hs => List.all_eq_true.1 u2 s hs⟩
  have hne : ¬ [x] = [y] := fun e => hxy (by simpa using e)
  have hcode : wpCode (isSc S M) [x] [y] [m] [n] = 0 := by unfold wpCode; rw [hun, al, decide_eq_false hne]; rfl
  obtain ⟨j, fd⟩ := FD.exists [x] [y] rfl hne
  obtain rfl : j = 0 := by have := fd.lt1; simp at this; omega
  have one : ∀ q : List ByteArray, q.length ≤ 8796093022207 → Lens [q] := fun q hq => ⟨by simp, fun i hi => by
    have : i = 0 := by simp at hi; omega
    subst this
    simp; omega⟩
  refine law4_E hs hm hn hA hB k1 k2 (toList_ne hxy) hsb (rs := List.zipWith (ext S M x y) m n) (fun V hV => extract6 (hm.of_below hV) (hn.of_below hV) (fun X a1 c1 a2 c2 b1 d1 b2 d2 hX s1 s2 t1 t2 => ?_)) (fun W a c b d hs hm => ?_)
  · have q := EXA k h.hq (w := X) (c1 := c1) (c2 := c2) (d1 := d1) (d2 := d2) (by simp) (by simp) (one m hmb) (one n hnb) (by simp) (by simp) s1 s2 t1 t2 hcode fd (by simp) (by simp) (by simpa using hmb) (by simp; omega) v1 v2 u1 u2
    exact q.mono (by rintro e w' ⟨⟨a', c', rfl, hs⟩, hB⟩; exact ⟨⟨_, a', c', rfl, hs⟩, hB⟩)
  · have q := HOLG k h ok (c := c) (d := d) hs hm len sc'
    rw [decide_eq_true snd] at q
    rw [len]
    exact q
end
theorem sound_walk (z : Int) {l : List Cl} (hl : Big l) (x y : ByteArray) {m n : List ByteArray} (hmb : m.length ≤ 8796093022207) (hnb : n.length ≤ 8796093022207) {w : World} {a ma na : Option Addr} {c mc nc : Nat} (hs : CM w a l) (hm : SL w ma m) (hn : SL w na n) :
    Calls Tryz.prog 4 #[.int .i64 z, .slice a l.length c, .agg #[.string x, .slice ma m.length mc], .agg #[.string y, .slice na n.length nc]] w fun e w' => e = .returned (.bool true) ∧ Below w.heap.size w w' := by
  by_cases z1 : z = 1
  · subst z1; exact sound_kind kd1 pkz1 hl x y hmb hnb hs hm hn
  by_cases z2 : z = 2
  · subst z2; exact sound_kind kd2 pkz2 hl x y hmb hnb hs hm hn
  by_cases z3 : z = 3
  · subst z3; exact sound_kind kd3 pkz3 hl x y hmb hnb hs hm hn
  have bad : ∀ (u : ByteArray) (q : List ByteArray), AB 10 z l u q 1 [] := fun u q W a c b d hs hm => nilA (back4_bad rfl rfl (fun V hV => setOf9_none rfl (fun X => groundOf_no z1 z2 z3 X)))
  exact law4_A hs hm hn (bad x m) (bad y n) rfl (t := false) (fun W a c b d hs hm => holds5_bad (k := 1) rfl (fun V hV => setOf9_none rfl (fun X => groundOf_no z1 z2 z3 X))) (fun W a c b d hs hm => ref6_none z1 z2 z3) (fun V => lengthIf_no rfl)
end Go.Proofs.YtfbceknafmkipaaGreat
