/- The options as they are drawn: the tags. -/
import Derived.Test.YtkcnpcjogfhkbaaGreatDoorZ13
set_option linter.unusedSimpArgs false
set_option linter.unusedVariables false
set_option maxRecDepth 100000
namespace Go.Proofs.YtkcnpcjogfhkbaaGreatDoor.K
open Go.RowKit Go.Deep Go.PlainAid Go.Sort

theorem own_far {w w' : World} {base n size : Nat} {v : Value} {xs : List Value} {e : TypeId} (h : w.ownsRow base e size v n xs) (hk : ∀ g, v.ownBlock = some g → w'.heap[g]? = w.heap[g]?) : w'.ownsRow base e size v n xs := by
  refine ⟨h.1, ?_⟩
  rcases h.2 with hn | ⟨g, cap, cur, hv, hbg, hc, rest⟩
  · exact .inl hn
  · exact .inr ⟨g, cap, cur, hv, hbg, by rw [hk g (by rw [hv]; rfl)]; exact hc, rest⟩
/-- What lies there while options are drawn. -/
structure DR (w : World) (B B0 Bt : Nat) (cv : List Value) (V : World) (tb tv : Value) (T : List Value) (v : Value) (O : List Value) : Prop where
  t : V.ownsRow B 9 1 tv T.length T
  o : V.ownsRow B 3 1 v O.length O
  h : IHolds V Bt 22 [tb]
  c : IHolds V B0 24 cv
  bl : Below w.heap.size w V
  sz : B ≤ V.heap.size
  l0 : w.heap.size ≤ B0 ∧ B0 < B
  l1 : w.heap.size ≤ Bt ∧ Bt < B
  ne : B0 ≠ Bt
section
variable {w V V' : World} {B B0 Bt : Nat} {cv T O : List Value} {tb tv v : Value}
theorem DR.of_below (h : DR w B B0 Bt cv V tb tv T v O) (hb : Below V.heap.size V V') : DR w B B0 Bt cv V' tb tv T v O :=
  ⟨own_below h.t hb, own_below h.o hb, h.h.of_below hb, h.c.of_below hb, h.bl.trans (hb.mono h.bl.size), Nat.le_trans h.sz hb.size, h.l0, h.l1, h.ne⟩
theorem DR.appT (h : DR w B B0 Bt cv V tb tv T v O) {G : Nat} {x : ByteArray} (hx : V.cell? ⟨G, 0, none⟩ = some (.string x)) (h9 : T.length ≤ 4000) (ty : TypeId) :
    ∃ tv' V', (Builtin.append_ #[22, 22] ty #[tv, .slice (some ⟨G, 0, none⟩) 1 1]).run Tryz.prog V = .ok tv' V' ∧ DR w B B0 Bt cv V' tb tv' (T ++ [.string x]) v O := by
  obtain ⟨i0, hi0, hz0, hz1, hz2⟩ := infoS
  obtain ⟨tv', V', hr, ho, hg, _⟩ := run_append_own (P := Tryz.prog) V B 22 ty 9 i0 (.string ⟨#[]⟩) 1 16 Tryz.underlying22 hi0 hz0 hz1 hz2 rfl (by decide) tv T.length T h.t ⟨G, 0, none⟩ 1 1 [.string x] rfl
    (fun j u hu => by match j, hu with | 0, hu => (simp at hu; subst hu; simpa [Addr.add] using hx)) (fun u hu => by simp at hu; subst hu; rfl) (by unfold maxLen; omega) (by omega) h.sz
  have far : ∀ k, k < V.heap.size → some k ≠ tv.ownBlock → V'.heap[k]? = V.heap[k]? := fun k hk hne => hg.block k hk hne
  have nb : ∀ k, k < B → some k ≠ tv.ownBlock := fun k hk e => by have := (h.t.lt k e.symm).1; omega
  refine ⟨tv', V', hr, ⟨by rw [List.length_append]; exact ho, own_far h.o fun g hg2 => ?_, h.h.far hg (nb _ h.l1.2), h.c.far hg (nb _ h.l0.2), h.bl.grown hg h.bl.size (fun k hk => by have := (h.t.lt k hk).1; have := h.l0; omega), Nat.le_trans h.sz hg.size, h.l0, h.l1, h.ne⟩⟩
  refine far g (h.o.lt g hg2).2 ?_
  rcases own_ne h.o h.t (by decide) with q | q
  · rw [hg2] at q; cases q
  · rw [hg2] at q; exact q
theorem DR.store (h : DR w B B0 Bt cv V tb tv T v O) : DR w B B0 Bt cv (V.setCell ⟨Bt, 0, none⟩ tv) tv tv T v O := by
  have far : ∀ k, k ≠ Bt → (V.setCell ⟨Bt, 0, none⟩ tv).heap[k]? = V.heap[k]? := fun k hk => Below.heap_setCell _ _ _ _ hk
  refine ⟨own_far h.t fun g hg => far g (by have := (h.t.lt g hg).1; have := h.l1; omega), own_far h.o fun g hg => far g (by have := (h.o.lt g hg).1; have := h.l1; omega), h.h.set 0 tv, h.c.set_far h.ne _, h.bl.setCell h.l1.1 _, by simpa [World.setCell] using h.sz, h.l0, h.l1, h.ne⟩
theorem DR.gotO (h : DR w B B0 Bt cv V tb tv T v O) {v' x : Value} (ho : V'.ownsRow B 3 1 v' (O.length + 1) (O ++ [x])) (hg : V.grownBy V' v.ownBlock) : DR w B B0 Bt cv V' tb tv T v' (O ++ [x]) := by
  have nb : ∀ k, k < B → some k ≠ v.ownBlock := fun k hk e => by have := (h.o.lt k e.symm).1; omega
  refine ⟨own_far h.t fun g hg2 => hg.block g (h.t.lt g hg2).2 ?_, by rw [List.length_append]; exact ho, h.h.far hg (nb _ h.l1.2), h.c.far hg (nb _ h.l0.2), h.bl.grown hg h.bl.size (fun k hk => by have := (h.o.lt k hk).1; have := h.l0; omega), Nat.le_trans h.sz hg.size, h.l0, h.l1, h.ne⟩
  rcases own_ne h.t h.o (by decide) with q | q
  · rw [hg2] at q; cases q
  · rw [hg2] at q; exact q
end
def tsL (lots nm : ByteArray) (os : List ByteArray) (i : Nat) : List Value := (List.range i).map fun k => Value.string (lot lots nm os k)
theorem tsL_len (lots nm : ByteArray) (os : List ByteArray) (i : Nat) : (tsL lots nm os i).length = i := by simp [tsL]
theorem tsL_succ (lots nm : ByteArray) (os : List ByteArray) (i : Nat) : tsL lots nm os (i + 1) = tsL lots nm os i ++ [.string (lot lots nm os i)] := by simp [tsL, List.range_succ]
def osL (i : Nat) : List Value := (List.range i).map fun k => Value.int .i64 ((k : Nat) : Int)
theorem osL_len (i : Nat) : (osL i).length = i := by simp [osL]
theorem osL_succ (i : Nat) : osL (i + 1) = osL i ++ [.int .i64 (i : Int)] := by simp [osL, List.range_succ]

theorem DR.shape {w V : World} {B B0 Bt : Nat} {cv T O : List Value} {x tb tv v : Value} (h : DR w B B0 Bt cv V tb tv (T ++ [x]) v O) : ∃ a c, tv = .slice a (T.length + 1) c := by
  rcases h.t.2 with ⟨rfl, hn⟩ | ⟨g, cap, cur, rfl, _⟩
  · simp at hn
  · exact ⟨some ⟨g, 0, none⟩, cap, by simp⟩
/-- What stands behind the loop. -/
structure DN (w V : World) (lots nm : ByteArray) (os : List ByteArray) (n B Bt : Nat) (tv v : Value) : Prop where
  t : V.ownsRow B 9 1 tv n (tsL lots nm os n)
  o : V.ownsRow B 3 1 v n (osL n)
  h : IHolds V Bt 22 [tv]
  bl : Below w.heap.size w V
  ge : w.heap.size ≤ B
  lt : Bt < B
set_option maxHeartbeats 8000000 in
theorem drawn10 {w : World} {lots nm : ByteArray} {a : Option Addr} {n c : Nat} {r s m : Int} {os : List ByteArray} (hf : Fit lots nm os) (ho : F.SAt w a os) (hn : os.length = n) (hw : 1 ≤ n ∧ n ≤ 12) (hT : F.Tabs w) (hS : F.Starts w) {R : Value → World → Prop}
    (HS : ∀ V B Bt tv v, DN w V lots nm os n B Bt tv v → Calls Tryz.prog 50 #[v, .func (.func 51) #[] #[.pointer (some ⟨Bt, 0, none⟩)]] V fun e w' => e = .returned (.tuple #[]) ∧ Below w.heap.size w w' ∧ R v w') :
    Calls Tryz.prog 34 #[CV nm a n c r s m, .string lots] w fun e w' => (∃ v, e = .returned v ∧ R v w') ∧ Below w.heap.size w w' := by
  obtain ⟨n1, n12⟩ := hw
  obtain ⟨b, o, rfl, hc0⟩ := ho 0 (by omega)
  obtain ⟨i0, hi0, hz0, hz1, hz2⟩ := infoI
  have HO : Hid (∀ V i (hi : i < n), Below w.heap.size w V → V.cell? ⟨b, o + i, none⟩ = some (.string (os.getD i ⟨#[]⟩))) := fun V i hi hV => by
    obtain ⟨b2, o2, e2, q2⟩ := ho i (by omega)
    cases e2
    have hi2 : i < os.length := by omega
    have e : os.getD i ⟨#[]⟩ = os[i] := by simp [hi2]
    rw [e]
    exact cell_keep q2 hV
  have TGA : Hid (∀ i (hi : i < n) bb W, Below w.heap.size w W → F.SAt W (some ⟨bb, 0, none⟩) [lots, nm, os.getD i ⟨#[]⟩] → Calls Tryz.prog 49 #[.string lab, .slice (some ⟨bb, 0, none⟩) 3 3] W fun e w' => e = .returned (.string (lot lots nm os i)) ∧ Below W.heap.size W w') := fun i hi bb W hW h => by
    have hi2 : i < os.length := by omega
    have e : os.getD i ⟨#[]⟩ = os[i] := by simp [hi2]
    have q := tagC hf.l hf.n (hf.o i hi2) hT hS bb W hW (by rw [← e]; exact h)
    rw [← e] at q
    exact q
  have HSS : Hid (∀ V B Bt tv v, DN w V lots nm os n B Bt tv v → Calls Tryz.prog 50 #[v, .func (.func 51) #[] #[.pointer (some ⟨Bt, 0, none⟩)]] V fun e w' => e = .returned (.tuple #[]) ∧ Below w.heap.size w w' ∧ R v w') := HS
  have TS1 : Hid (∀ i, tsL lots nm os (i + 1) = tsL lots nm os i ++ [.string (lot lots nm os i)]) := tsL_succ lots nm os
  have TS2 : Hid (∀ i, (tsL lots nm os i).length = i) := tsL_len lots nm os
  have HDN : Hid (∀ V B B0 Bt cv tv v, DR w B B0 Bt cv V tv tv (tsL lots nm os n) v (osL n) → DN w V lots nm os n B Bt tv v) := fun V B B0 Bt cv tv v h => ⟨by have q := h.t; rw [tsL_len] at q; exact q, by have q := h.o; rw [osL_len] at q; exact q, h.h, h.bl, by have := h.l0; omega, h.l1.2⟩
  have TZ : Hid (tsL lots nm os 0 = []) := rfl
  clear hf ho hc0 hT hS HS hn
  generalize tsL lots nm os = TL at *
  generalize lot lots nm os = LO at *
  unfold CV
  obtain ⟨B, hB⟩ : ∃ B, B = w.heap.size + 2 := ⟨_, rfl⟩
  have D0 : Hid (DR w B w.heap.size (w.heap.size + 1) [.string nm, .slice (some ⟨b, o, none⟩) n c, .int .i64 r, .int .i64 s, .int .i64 m] ((w.alloc (.cells #[.string nm, .slice (some ⟨b, o, none⟩) n c, .int .i64 r, .int .i64 s, .int .i64 m] 24)).alloc (.cells #[.slice none 0 0] 22)) (.slice none 0 0) (.slice none 0 0) (TL 0) (.slice none 0 0) (osL 0)) := by
    show DR _ _ _ _ _ _ _ _ _ _ _
    rw [TZ.out]
    refine ⟨World.ownsRow_nil _ _ _ _, World.ownsRow_nil _ _ _ _, ?_, ?_, ((Below.refl _ _).alloc (Nat.le_refl _) _).alloc (by simp) _, by simp; omega, ⟨Nat.le_refl _, by omega⟩, ⟨by omega, by omega⟩, by omega⟩
    · have q := IHolds.new (w.alloc (.cells #[.string nm, .slice (some ⟨b, o, none⟩) n c, .int .i64 r, .int .i64 s, .int .i64 m] 24)) 22 [.slice none 0 0]
      simp only [World.size_alloc] at q
      exact q
    · exact (IHolds.new w 24 [.string nm, .slice (some ⟨b, o, none⟩) n c, .int .i64 r, .int .i64 s, .int .i64 m]).of_below ((Below.refl _ _).alloc (Nat.le_refl _) _)
  go_enter Tryz.func34, Tryz.ntmps34
  go_wp2_with fail
  generalize (w.alloc (.cells #[.string nm, .slice (some ⟨b, o, none⟩) n c, .int .i64 r, .int .i64 s, .int .i64 m] 24)).alloc (.cells #[.slice none 0 0] 22) = U at *
  generalize hcv : [Value.string nm, .slice (some ⟨b, o, none⟩) n c, .int .i64 r, .int .i64 s, .int .i64 m] = cv at D0
  have HCV : Hid (cv = [Value.string nm, .slice (some ⟨b, o, none⟩) n c, .int .i64 r, .int .i64 s, .int .i64 m]) := hcv.symm
  clear hcv TZ
  obtain ⟨B0, hB0⟩ : ∃ B, B = w.heap.size := ⟨_, rfl⟩
  obtain ⟨Bt, hBt⟩ : ∃ B, B = w.heap.size + 1 := ⟨_, rfl⟩
  rw [← hBt] at D0 ⊢
  rw [← hB0]
  have D1 : Hid (DR w B B0 Bt cv U (.slice none 0 0) (.slice none 0 0) (TL 0) (.slice none 0 0) (osL 0)) := by rw [hB0]; exact D0.out
  clear D0 hB hB0 hBt
  go_loopg [6, 7, 8, 12] n (fun gk v6 v7 v8 v12 wr => ∃ (i : Nat) (tv v : Value), i + gk = n ∧ v12 = .int .i64 (i : Int) ∧ v = v6 ∧ DR w B B0 Bt cv wr tv tv (TL i) v (osL i))
  case atStart => exact ⟨0, _, _, by omega, rfl, rfl, D1.out⟩
  case round =>
    clear D1
    obtain ⟨i, tv, v, hig, rfl, rfl, hD⟩ := hrel
    have D0 : Hid (DR w B B0 Bt cv wr tv tv (TL i) v (osL i)) := hD
    clear hD
    by_cases hi : i < n
    · have il : (i : Int) < (n : Int) := by omega
      have zx := HO.out wr i hi D0.out.bl
      have TG : Hid (∀ bb W, Below w.heap.size w W → F.SAt W (some ⟨bb, 0, none⟩) [lots, nm, os.getD i ⟨#[]⟩] → Calls Tryz.prog 49 #[.string lab, .slice (some ⟨bb, 0, none⟩) 3 3] W fun e w' => e = .returned (.string (LO i)) ∧ Below W.heap.size W w') := TGA.out i hi
      generalize os.getD i ⟨#[]⟩ = x at *
      have TN : Hid (TL (i + 1) = TL i ++ [.string (LO i)]) := TS1.out i
      have TN2 : Hid ((TL i).length = i) := TS2.out i
      have h9 : (TL i).length ≤ 4000 := by rw [TN2.out]; omega
      generalize LO i = X at *
      have KS : Hid (∀ V tb tv T v O, DR w B B0 Bt cv V tb tv T v O → V.cell? ⟨B0, 0, none⟩ = some (.string nm)) := fun V tb tv T v O h => by have q := h.c; rw [HCV.out] at q; exact q.cell 0 (by simp)
      obtain ⟨T, hTT⟩ : ∃ T, T = TL i := ⟨_, rfl⟩
      rw [← hTT] at h9 D0 TN TN2
      clear hTT
      obtain ⟨O, hOO⟩ : ∃ O, O = osL i := ⟨_, rfl⟩
      have HOO : Hid (O = osL i) := hOO
      rw [← hOO] at D0
      clear hOO
      go_wp2_with fail
      clear zx
      refine wp_region_noPanic ?_
      refine wp_region_held_drew (S := (fun V => V.cell? ⟨B0, 0, none⟩ = some (.string nm))) (by kernel_rfl) (KS.out _ _ _ _ _ _ (D0.out.of_below (dB wr))) (fun hH => ?_)
      have D : Hid (DR w B B0 Bt cv wr.drew tv tv T v O) := D0.out.of_below (dB wr)
      clear D0
      generalize wr.drew = V0 at *
      refine tk (i := 1) (v := .string lots) rfl (by kernel_rfl) (fun _ _ _ h => h) (by kernel_rfl) ?_ hH ?_
      · intro V hS; go_simp
      simp only [Act.put, y1, y2, y3, y4, y5, y6, y7]
      refine tk (i := 2) (v := .pointer (some ⟨B0, 0, none⟩)) rfl (by kernel_rfl) (fun _ _ _ h => h) (by kernel_rfl) ?_ hH ?_
      · intro V hS; go_simp
      simp only [Act.put, y1, y2, y3, y4, y5, y6, y7]
      refine tk (i := 3) (v := .string nm) rfl (by kernel_rfl) (fun _ _ _ h => h) (by kernel_rfl) ?_ hH ?_
      · intro V hS; go_simp
      simp only [Act.put, y1, y2, y3, y4, y5, y6, y7]
      refine tk (i := 4) (v := .string x) rfl (by kernel_rfl) (fun _ _ _ h => h) (by kernel_rfl) ?_ hH ?_
      · intro V hS; go_simp
      simp only [Act.put, y1, y2, y3, y4, y5, y6, y7]
      refine wpAnyH_ready (rs := [0, 5]) (by kernel_rfl) (by simp) ?_
      refine AllReadyH.cons rfl (fun K hK => ?_) (AllReadyH.cons rfl (fun K hK => ?_) (AllReadyH.nil))
      · clear hH
        have zt : V0.cell? ⟨Bt, 0, none⟩ = some tv := D.out.h.cell 0 (by simp)
        go_simp
        clear zt
        refine hK.out _ _ (KS.out _ _ _ _ _ _ D.out) (fun hH => ?_)
        clear hK K
        try simp only [Act.put, y1, y2, y3, y4, y5, y6, y7]
        refine wpAnyH_ready (rs := [5]) (by kernel_rfl) (by simp) ?_
        refine AllReadyH.cons rfl (fun K hK => ?_) (AllReadyH.nil)
        clear hH
        have D2 : Hid (DR w B B0 Bt cv (V0.alloc (.cells #[.string lots, .string nm, .string x] 9)) tv tv T v O) := D.out.of_below ((Below.refl _ _).alloc (Nat.le_refl _) _)
        have P5 : Hid (F.SAt (V0.alloc (.cells #[.string lots, .string nm, .string x] 9)) (some ⟨V0.heap.size, 0, none⟩) [lots, nm, x]) := three_at _ _ _ _
        go_simp
        refine hK.out _ _ (KS.out _ _ _ _ _ _ D2.out) (fun hH => ?_)
        clear hK K D
        generalize V0.heap.size = G5 at *
        generalize V0.alloc (.cells #[.string lots, .string nm, .string x] 9) = V1 at *
        have D : Hid (DR w B B0 Bt cv V1 tv tv T v O) := D2.out
        clear D2
        try simp only [Act.put, y1, y2, y3, y4, y5, y6, y7]
        refine wpAnyH_ready (rs := [6]) (by kernel_rfl) (by simp) ?_
        refine AllReadyH.cons rfl (fun K hK => ?_) (AllReadyH.nil)
        clear hH
        go_simp
        refine (TG.out _ _ D.out.bl P5.out).mono ?_
        rintro e V2 ⟨rfl, hb⟩
        have D2 : Hid (DR w B B0 Bt cv V2 tv tv T v O) := D.out.of_below hb
        clear hb D P5
        have D : Hid (DR w B B0 Bt cv V2 tv tv T v O) := D2.out
        clear D2
        go_wp2_with fail
        refine hK.out _ _ (KS.out _ _ _ _ _ _ D.out) (fun hH => ?_)
        clear hK K
        try simp only [Act.put, y1, y2, y3, y4, y5, y6, y7]
        refine wpAnyH_ready (rs := [7]) (by kernel_rfl) (by simp) ?_
        refine AllReadyH.cons rfl (fun K hK => ?_) (AllReadyH.nil)
        clear hH
        have D2 : Hid (DR w B B0 Bt cv (V2.alloc (.cells #[.string X] 9)) tv tv T v O) := D.out.of_below ((Below.refl _ _).alloc (Nat.le_refl _) _)
        have C7 : Hid ((V2.alloc (.cells #[.string X] 9)).cell? ⟨V2.heap.size, 0, none⟩ = some (.string X)) := by show _ = _; simp
        go_simp
        refine hK.out _ _ (KS.out _ _ _ _ _ _ D2.out) (fun hH => ?_)
        clear hK K D
        generalize V2.heap.size = G7 at *
        generalize V2.alloc (.cells #[.string X] 9) = V3 at *
        have D : Hid (DR w B B0 Bt cv V3 tv tv T v O) := D2.out
        clear D2
        try simp only [Act.put, y1, y2, y3, y4, y5, y6, y7]
        refine wpAnyH_ready (rs := [8]) (by kernel_rfl) (by simp) ?_
        refine AllReadyH.cons rfl (fun K hK => ?_) (AllReadyH.nil)
        clear hH
        obtain ⟨tv2, V4, hr, ho⟩ := D.out.appT C7.out h9 22
        have D2 : Hid (DR w B B0 Bt cv V4 tv tv2 (T ++ [.string X]) v O) := ho
        refine wp_append_at (.tmp 17) (.tmp 24) 22 rfl tv tv2 _ rfl rfl hr ?_
        refine hK.out _ _ (KS.out _ _ _ _ _ _ D2.out) (fun hH => ?_)
        clear hK K hr ho D C7
        have D : Hid (DR w B B0 Bt cv V4 tv tv2 (T ++ [.string X]) v O) := D2.out
        clear D2
        try simp only [Act.put, y1, y2, y3, y4, y5, y6, y7]
        refine wpAnyH_ready (rs := [9]) (by kernel_rfl) (by simp) ?_
        refine AllReadyH.cons rfl (fun K hK => ?_) (AllReadyH.nil)
        clear hH
        have zt : V4.cell? ⟨Bt, 0, none⟩ = some tv := D.out.h.cell 0 (by simp)
        have ft := D.out.h.frozen 0
        have D2 : Hid (DR w B B0 Bt cv (V4.setCell ⟨Bt, 0, none⟩ tv2) tv2 tv2 (T ++ [.string X]) v O) := D.out.store
        obtain ⟨ga, cap2, htv2⟩ : ∃ a c, tv2 = .slice a (T.length + 1) c := D2.out.shape
        subst htv2
        go_simp
        refine hK.out _ _ (KS.out _ _ _ _ _ _ D2.out) (fun hH => ?_)
        clear hK K D zt ft
        generalize V4.setCell ⟨Bt, 0, none⟩ (.slice ga (T.length + 1) cap2) = V5 at *
        have D : Hid (DR w B B0 Bt cv V5 (.slice ga (T.length + 1) cap2) (.slice ga (T.length + 1) cap2) (T ++ [.string X]) v O) := D2.out
        clear D2
        try simp only [Act.put, y1, y2, y3, y4, y5, y6, y7]
        refine wpAnyH_done (by kernel_rfl) ?_ _
        refine NoPanic.normal ?_
        clear hH
        have hO9 : O.length ≤ 4000 := by rw [HOO.out, osL_len]; omega
        have OI : Hid (V5.alloc (.cells #[.int .i64 (i : Int)] 3) = V5.alloc (.cells #[.int .i64 (i : Int)] 3)) := rfl
        have D9 : Hid (DR w B B0 Bt cv (V5.alloc (.cells #[.int .i64 (i : Int)] 3)) (.slice ga (T.length + 1) cap2) (.slice ga (T.length + 1) cap2) (T ++ [.string X]) v O) := D.out.of_below ((Below.refl _ _).alloc (Nat.le_refl _) _)
        have HC2 : Hid (∀ jj u, [Value.int .i64 (i : Int)][jj]? = some u → (V5.alloc (.cells #[.int .i64 (i : Int)] 3)).cell? ((⟨V5.heap.size, 0, none⟩ : Addr).add jj) = some u) := (fun jj u hu => by (match jj, hu with | 0, hu => (simp at hu; subst hu; simp [Addr.add])))
        go_wp2_with (at_builtin; refine wpList_append_own _ rfl (.tmp 26) (.tmp 28) 26 rfl B 3 i0 (.int .i64 0) 1 8 Tryz.underlying26 hi0 hz0 hz1 hz2 rfl (by decide) v O.length O rfl D9.out.o ⟨V5.heap.size, 0, none⟩ 1 1 [.int .i64 (i : Int)] rfl rfl HC2.out (fun u hu => by simp at hu; subst hu; rfl) (by unfold maxLen; omega) (by omega) D9.out.sz ?_; intro v9 w9 hown1 hgrow1 hn1; have DZ : Hid (DR w B B0 Bt cv w9 (.slice ga (T.length + 1) cap2) (.slice ga (T.length + 1) cap2) (T ++ [.string X]) v9 (O ++ [.int .i64 (i : Int)])) := D9.out.gotO hown1 hgrow1; clear hown1 hgrow1 hn1 D9 D)
        go_roundg (gk - 1)
        case measure => omega
        case rel => exact ⟨i + 1, _, v9, by omega, by go_num, rfl, by rw [TN.out, osL_succ, ← HOO.out]; exact DZ.out⟩
      · clear hH
        have D2 : Hid (DR w B B0 Bt cv (V0.alloc (.cells #[.string lots, .string nm, .string x] 9)) tv tv T v O) := D.out.of_below ((Below.refl _ _).alloc (Nat.le_refl _) _)
        have P5 : Hid (F.SAt (V0.alloc (.cells #[.string lots, .string nm, .string x] 9)) (some ⟨V0.heap.size, 0, none⟩) [lots, nm, x]) := three_at _ _ _ _
        go_simp
        refine hK.out _ _ (KS.out _ _ _ _ _ _ D2.out) (fun hH => ?_)
        clear hK K D
        generalize V0.heap.size = G5 at *
        generalize V0.alloc (.cells #[.string lots, .string nm, .string x] 9) = V1 at *
        have D : Hid (DR w B B0 Bt cv V1 tv tv T v O) := D2.out
        clear D2
        try simp only [Act.put, y1, y2, y3, y4, y5, y6, y7]
        refine wpAnyH_ready (rs := [0, 6]) (by kernel_rfl) (by simp) ?_
        refine AllReadyH.cons rfl (fun K hK => ?_) (AllReadyH.cons rfl (fun K hK => ?_) (AllReadyH.nil))
        · clear hH
          have zt : V1.cell? ⟨Bt, 0, none⟩ = some tv := D.out.h.cell 0 (by simp)
          go_simp
          clear zt
          refine hK.out _ _ (KS.out _ _ _ _ _ _ D.out) (fun hH => ?_)
          clear hK K
          try simp only [Act.put, y1, y2, y3, y4, y5, y6, y7]
          refine wpAnyH_ready (rs := [6]) (by kernel_rfl) (by simp) ?_
          refine AllReadyH.cons rfl (fun K hK => ?_) (AllReadyH.nil)
          clear hH
          go_simp
          refine (TG.out _ _ D.out.bl P5.out).mono ?_
          rintro e V2 ⟨rfl, hb⟩
          have D2 : Hid (DR w B B0 Bt cv V2 tv tv T v O) := D.out.of_below hb
          clear hb D P5
          have D : Hid (DR w B B0 Bt cv V2 tv tv T v O) := D2.out
          clear D2
          go_wp2_with fail
          refine hK.out _ _ (KS.out _ _ _ _ _ _ D.out) (fun hH => ?_)
          clear hK K
          try simp only [Act.put, y1, y2, y3, y4, y5, y6, y7]
          refine wpAnyH_ready (rs := [7]) (by kernel_rfl) (by simp) ?_
          refine AllReadyH.cons rfl (fun K hK => ?_) (AllReadyH.nil)
          clear hH
          have D2 : Hid (DR w B B0 Bt cv (V2.alloc (.cells #[.string X] 9)) tv tv T v O) := D.out.of_below ((Below.refl _ _).alloc (Nat.le_refl _) _)
          have C7 : Hid ((V2.alloc (.cells #[.string X] 9)).cell? ⟨V2.heap.size, 0, none⟩ = some (.string X)) := by show _ = _; simp
          go_simp
          refine hK.out _ _ (KS.out _ _ _ _ _ _ D2.out) (fun hH => ?_)
          clear hK K D
          generalize V2.heap.size = G7 at *
          generalize V2.alloc (.cells #[.string X] 9) = V3 at *
          have D : Hid (DR w B B0 Bt cv V3 tv tv T v O) := D2.out
          clear D2
          try simp only [Act.put, y1, y2, y3, y4, y5, y6, y7]
          refine wpAnyH_ready (rs := [8]) (by kernel_rfl) (by simp) ?_
          refine AllReadyH.cons rfl (fun K hK => ?_) (AllReadyH.nil)
          clear hH
          obtain ⟨tv2, V4, hr, ho⟩ := D.out.appT C7.out h9 22
          have D2 : Hid (DR w B B0 Bt cv V4 tv tv2 (T ++ [.string X]) v O) := ho
          refine wp_append_at (.tmp 17) (.tmp 24) 22 rfl tv tv2 _ rfl rfl hr ?_
          refine hK.out _ _ (KS.out _ _ _ _ _ _ D2.out) (fun hH => ?_)
          clear hK K hr ho D C7
          have D : Hid (DR w B B0 Bt cv V4 tv tv2 (T ++ [.string X]) v O) := D2.out
          clear D2
          try simp only [Act.put, y1, y2, y3, y4, y5, y6, y7]
          refine wpAnyH_ready (rs := [9]) (by kernel_rfl) (by simp) ?_
          refine AllReadyH.cons rfl (fun K hK => ?_) (AllReadyH.nil)
          clear hH
          have zt : V4.cell? ⟨Bt, 0, none⟩ = some tv := D.out.h.cell 0 (by simp)
          have ft := D.out.h.frozen 0
          have D2 : Hid (DR w B B0 Bt cv (V4.setCell ⟨Bt, 0, none⟩ tv2) tv2 tv2 (T ++ [.string X]) v O) := D.out.store
          obtain ⟨ga, cap2, htv2⟩ : ∃ a c, tv2 = .slice a (T.length + 1) c := D2.out.shape
          subst htv2
          go_simp
          refine hK.out _ _ (KS.out _ _ _ _ _ _ D2.out) (fun hH => ?_)
          clear hK K D zt ft
          generalize V4.setCell ⟨Bt, 0, none⟩ (.slice ga (T.length + 1) cap2) = V5 at *
          have D : Hid (DR w B B0 Bt cv V5 (.slice ga (T.length + 1) cap2) (.slice ga (T.length + 1) cap2) (T ++ [.string X]) v O) := D2.out
          clear D2
          try simp only [Act.put, y1, y2, y3, y4, y5, y6, y7]
          refine wpAnyH_done (by kernel_rfl) ?_ _
          refine NoPanic.normal ?_
          clear hH
          have hO9 : O.length ≤ 4000 := by rw [HOO.out, osL_len]; omega
          have OI : Hid (V5.alloc (.cells #[.int .i64 (i : Int)] 3) = V5.alloc (.cells #[.int .i64 (i : Int)] 3)) := rfl
          have D9 : Hid (DR w B B0 Bt cv (V5.alloc (.cells #[.int .i64 (i : Int)] 3)) (.slice ga (T.length + 1) cap2) (.slice ga (T.length + 1) cap2) (T ++ [.string X]) v O) := D.out.of_below ((Below.refl _ _).alloc (Nat.le_refl _) _)
          have HC2 : Hid (∀ jj u, [Value.int .i64 (i : Int)][jj]? = some u → (V5.alloc (.cells #[.int .i64 (i : Int)] 3)).cell? ((⟨V5.heap.size, 0, none⟩ : Addr).add jj) = some u) := (fun jj u hu => by (match jj, hu with | 0, hu => (simp at hu; subst hu; simp [Addr.add])))
          go_wp2_with (at_builtin; refine wpList_append_own _ rfl (.tmp 26) (.tmp 28) 26 rfl B 3 i0 (.int .i64 0) 1 8 Tryz.underlying26 hi0 hz0 hz1 hz2 rfl (by decide) v O.length O rfl D9.out.o ⟨V5.heap.size, 0, none⟩ 1 1 [.int .i64 (i : Int)] rfl rfl HC2.out (fun u hu => by simp at hu; subst hu; rfl) (by unfold maxLen; omega) (by omega) D9.out.sz ?_; intro v9 w9 hown1 hgrow1 hn1; have DZ : Hid (DR w B B0 Bt cv w9 (.slice ga (T.length + 1) cap2) (.slice ga (T.length + 1) cap2) (T ++ [.string X]) v9 (O ++ [.int .i64 (i : Int)])) := D9.out.gotO hown1 hgrow1; clear hown1 hgrow1 hn1 D9 D)
          go_roundg (gk - 1)
          case measure => omega
          case rel => exact ⟨i + 1, _, v9, by omega, by go_num, rfl, by rw [TN.out, osL_succ, ← HOO.out]; exact DZ.out⟩
        · clear hH
          go_simp
          refine (TG.out _ _ D.out.bl P5.out).mono ?_
          rintro e V2 ⟨rfl, hb⟩
          have D2 : Hid (DR w B B0 Bt cv V2 tv tv T v O) := D.out.of_below hb
          clear hb D P5
          have D : Hid (DR w B B0 Bt cv V2 tv tv T v O) := D2.out
          clear D2
          go_wp2_with fail
          refine hK.out _ _ (KS.out _ _ _ _ _ _ D.out) (fun hH => ?_)
          clear hK K
          try simp only [Act.put, y1, y2, y3, y4, y5, y6, y7]
          refine wpAnyH_ready (rs := [0, 7]) (by kernel_rfl) (by simp) ?_
          refine AllReadyH.cons rfl (fun K hK => ?_) (AllReadyH.cons rfl (fun K hK => ?_) (AllReadyH.nil))
          · clear hH
            have zt : V2.cell? ⟨Bt, 0, none⟩ = some tv := D.out.h.cell 0 (by simp)
            go_simp
            clear zt
            refine hK.out _ _ (KS.out _ _ _ _ _ _ D.out) (fun hH => ?_)
            clear hK K
            try simp only [Act.put, y1, y2, y3, y4, y5, y6, y7]
            refine wpAnyH_ready (rs := [7]) (by kernel_rfl) (by simp) ?_
            refine AllReadyH.cons rfl (fun K hK => ?_) (AllReadyH.nil)
            clear hH
            have D2 : Hid (DR w B B0 Bt cv (V2.alloc (.cells #[.string X] 9)) tv tv T v O) := D.out.of_below ((Below.refl _ _).alloc (Nat.le_refl _) _)
            have C7 : Hid ((V2.alloc (.cells #[.string X] 9)).cell? ⟨V2.heap.size, 0, none⟩ = some (.string X)) := by show _ = _; simp
            go_simp
            refine hK.out _ _ (KS.out _ _ _ _ _ _ D2.out) (fun hH => ?_)
            clear hK K D
            generalize V2.heap.size = G7 at *
            generalize V2.alloc (.cells #[.string X] 9) = V3 at *
            have D : Hid (DR w B B0 Bt cv V3 tv tv T v O) := D2.out
            clear D2
            try simp only [Act.put, y1, y2, y3, y4, y5, y6, y7]
            refine wpAnyH_ready (rs := [8]) (by kernel_rfl) (by simp) ?_
            refine AllReadyH.cons rfl (fun K hK => ?_) (AllReadyH.nil)
            clear hH
            obtain ⟨tv2, V4, hr, ho⟩ := D.out.appT C7.out h9 22
            have D2 : Hid (DR w B B0 Bt cv V4 tv tv2 (T ++ [.string X]) v O) := ho
            refine wp_append_at (.tmp 17) (.tmp 24) 22 rfl tv tv2 _ rfl rfl hr ?_
            refine hK.out _ _ (KS.out _ _ _ _ _ _ D2.out) (fun hH => ?_)
            clear hK K hr ho D C7
            have D : Hid (DR w B B0 Bt cv V4 tv tv2 (T ++ [.string X]) v O) := D2.out
            clear D2
            try simp only [Act.put, y1, y2, y3, y4, y5, y6, y7]
            refine wpAnyH_ready (rs := [9]) (by kernel_rfl) (by simp) ?_
            refine AllReadyH.cons rfl (fun K hK => ?_) (AllReadyH.nil)
            clear hH
            have zt : V4.cell? ⟨Bt, 0, none⟩ = some tv := D.out.h.cell 0 (by simp)
            have ft := D.out.h.frozen 0
            have D2 : Hid (DR w B B0 Bt cv (V4.setCell ⟨Bt, 0, none⟩ tv2) tv2 tv2 (T ++ [.string X]) v O) := D.out.store
            obtain ⟨ga, cap2, htv2⟩ : ∃ a c, tv2 = .slice a (T.length + 1) c := D2.out.shape
            subst htv2
            go_simp
            refine hK.out _ _ (KS.out _ _ _ _ _ _ D2.out) (fun hH => ?_)
            clear hK K D zt ft
            generalize V4.setCell ⟨Bt, 0, none⟩ (.slice ga (T.length + 1) cap2) = V5 at *
            have D : Hid (DR w B B0 Bt cv V5 (.slice ga (T.length + 1) cap2) (.slice ga (T.length + 1) cap2) (T ++ [.string X]) v O) := D2.out
            clear D2
            try simp only [Act.put, y1, y2, y3, y4, y5, y6, y7]
            refine wpAnyH_done (by kernel_rfl) ?_ _
            refine NoPanic.normal ?_
            clear hH
            have hO9 : O.length ≤ 4000 := by rw [HOO.out, osL_len]; omega
            have OI : Hid (V5.alloc (.cells #[.int .i64 (i : Int)] 3) = V5.alloc (.cells #[.int .i64 (i : Int)] 3)) := rfl
            have D9 : Hid (DR w B B0 Bt cv (V5.alloc (.cells #[.int .i64 (i : Int)] 3)) (.slice ga (T.length + 1) cap2) (.slice ga (T.length + 1) cap2) (T ++ [.string X]) v O) := D.out.of_below ((Below.refl _ _).alloc (Nat.le_refl _) _)
            have HC2 : Hid (∀ jj u, [Value.int .i64 (i : Int)][jj]? = some u → (V5.alloc (.cells #[.int .i64 (i : Int)] 3)).cell? ((⟨V5.heap.size, 0, none⟩ : Addr).add jj) = some u) := (fun jj u hu => by (match jj, hu with | 0, hu => (simp at hu; subst hu; simp [Addr.add])))
            go_wp2_with (at_builtin; refine wpList_append_own _ rfl (.tmp 26) (.tmp 28) 26 rfl B 3 i0 (.int .i64 0) 1 8 Tryz.underlying26 hi0 hz0 hz1 hz2 rfl (by decide) v O.length O rfl D9.out.o ⟨V5.heap.size, 0, none⟩ 1 1 [.int .i64 (i : Int)] rfl rfl HC2.out (fun u hu => by simp at hu; subst hu; rfl) (by unfold maxLen; omega) (by omega) D9.out.sz ?_; intro v9 w9 hown1 hgrow1 hn1; have DZ : Hid (DR w B B0 Bt cv w9 (.slice ga (T.length + 1) cap2) (.slice ga (T.length + 1) cap2) (T ++ [.string X]) v9 (O ++ [.int .i64 (i : Int)])) := D9.out.gotO hown1 hgrow1; clear hown1 hgrow1 hn1 D9 D)
            go_roundg (gk - 1)
            case measure => omega
            case rel => exact ⟨i + 1, _, v9, by omega, by go_num, rfl, by rw [TN.out, osL_succ, ← HOO.out]; exact DZ.out⟩
          · clear hH
            have D2 : Hid (DR w B B0 Bt cv (V2.alloc (.cells #[.string X] 9)) tv tv T v O) := D.out.of_below ((Below.refl _ _).alloc (Nat.le_refl _) _)
            have C7 : Hid ((V2.alloc (.cells #[.string X] 9)).cell? ⟨V2.heap.size, 0, none⟩ = some (.string X)) := by show _ = _; simp
            go_simp
            refine hK.out _ _ (KS.out _ _ _ _ _ _ D2.out) (fun hH => ?_)
            clear hK K D
            generalize V2.heap.size = G7 at *
            generalize V2.alloc (.cells #[.string X] 9) = V3 at *
            have D : Hid (DR w B B0 Bt cv V3 tv tv T v O) := D2.out
            clear D2
            try simp only [Act.put, y1, y2, y3, y4, y5, y6, y7]
            refine wpAnyH_ready (rs := [0]) (by kernel_rfl) (by simp) ?_
            refine AllReadyH.cons rfl (fun K hK => ?_) (AllReadyH.nil)
            clear hH
            have zt : V3.cell? ⟨Bt, 0, none⟩ = some tv := D.out.h.cell 0 (by simp)
            go_simp
            clear zt
            refine hK.out _ _ (KS.out _ _ _ _ _ _ D.out) (fun hH => ?_)
            clear hK K
            try simp only [Act.put, y1, y2, y3, y4, y5, y6, y7]
            refine wpAnyH_ready (rs := [8]) (by kernel_rfl) (by simp) ?_
            refine AllReadyH.cons rfl (fun K hK => ?_) (AllReadyH.nil)
            clear hH
            obtain ⟨tv2, V4, hr, ho⟩ := D.out.appT C7.out h9 22
            have D2 : Hid (DR w B B0 Bt cv V4 tv tv2 (T ++ [.string X]) v O) := ho
            refine wp_append_at (.tmp 17) (.tmp 24) 22 rfl tv tv2 _ rfl rfl hr ?_
            refine hK.out _ _ (KS.out _ _ _ _ _ _ D2.out) (fun hH => ?_)
            clear hK K hr ho D C7
            have D : Hid (DR w B B0 Bt cv V4 tv tv2 (T ++ [.string X]) v O) := D2.out
            clear D2
            try simp only [Act.put, y1, y2, y3, y4, y5, y6, y7]
            refine wpAnyH_ready (rs := [9]) (by kernel_rfl) (by simp) ?_
            refine AllReadyH.cons rfl (fun K hK => ?_) (AllReadyH.nil)
            clear hH
            have zt : V4.cell? ⟨Bt, 0, none⟩ = some tv := D.out.h.cell 0 (by simp)
            have ft := D.out.h.frozen 0
            have D2 : Hid (DR w B B0 Bt cv (V4.setCell ⟨Bt, 0, none⟩ tv2) tv2 tv2 (T ++ [.string X]) v O) := D.out.store
            obtain ⟨ga, cap2, htv2⟩ : ∃ a c, tv2 = .slice a (T.length + 1) c := D2.out.shape
            subst htv2
            go_simp
            refine hK.out _ _ (KS.out _ _ _ _ _ _ D2.out) (fun hH => ?_)
            clear hK K D zt ft
            generalize V4.setCell ⟨Bt, 0, none⟩ (.slice ga (T.length + 1) cap2) = V5 at *
            have D : Hid (DR w B B0 Bt cv V5 (.slice ga (T.length + 1) cap2) (.slice ga (T.length + 1) cap2) (T ++ [.string X]) v O) := D2.out
            clear D2
            try simp only [Act.put, y1, y2, y3, y4, y5, y6, y7]
            refine wpAnyH_done (by kernel_rfl) ?_ _
            refine NoPanic.normal ?_
            clear hH
            have hO9 : O.length ≤ 4000 := by rw [HOO.out, osL_len]; omega
            have OI : Hid (V5.alloc (.cells #[.int .i64 (i : Int)] 3) = V5.alloc (.cells #[.int .i64 (i : Int)] 3)) := rfl
            have D9 : Hid (DR w B B0 Bt cv (V5.alloc (.cells #[.int .i64 (i : Int)] 3)) (.slice ga (T.length + 1) cap2) (.slice ga (T.length + 1) cap2) (T ++ [.string X]) v O) := D.out.of_below ((Below.refl _ _).alloc (Nat.le_refl _) _)
            have HC2 : Hid (∀ jj u, [Value.int .i64 (i : Int)][jj]? = some u → (V5.alloc (.cells #[.int .i64 (i : Int)] 3)).cell? ((⟨V5.heap.size, 0, none⟩ : Addr).add jj) = some u) := (fun jj u hu => by (match jj, hu with | 0, hu => (simp at hu; subst hu; simp [Addr.add])))
            go_wp2_with (at_builtin; refine wpList_append_own _ rfl (.tmp 26) (.tmp 28) 26 rfl B 3 i0 (.int .i64 0) 1 8 Tryz.underlying26 hi0 hz0 hz1 hz2 rfl (by decide) v O.length O rfl D9.out.o ⟨V5.heap.size, 0, none⟩ 1 1 [.int .i64 (i : Int)] rfl rfl HC2.out (fun u hu => by simp at hu; subst hu; rfl) (by unfold maxLen; omega) (by omega) D9.out.sz ?_; intro v9 w9 hown1 hgrow1 hn1; have DZ : Hid (DR w B B0 Bt cv w9 (.slice ga (T.length + 1) cap2) (.slice ga (T.length + 1) cap2) (T ++ [.string X]) v9 (O ++ [.int .i64 (i : Int)])) := D9.out.gotO hown1 hgrow1; clear hown1 hgrow1 hn1 D9 D)
            go_roundg (gk - 1)
            case measure => omega
            case rel => exact ⟨i + 1, _, v9, by omega, by go_num, rfl, by rw [TN.out, osL_succ, ← HOO.out]; exact DZ.out⟩
    · have il : ¬ (i : Int) < (n : Int) := by omega
      have e : i = n := by omega
      subst e
      have HQ : Hid (Calls Tryz.prog 50 #[v, .func (.func 51) #[] #[.pointer (some ⟨Bt, 0, none⟩)]] wr fun e w' => e = .returned (.tuple #[]) ∧ Below w.heap.size w w' ∧ R v w') := HSS.out _ _ _ _ _ (HDN.out _ _ _ _ _ _ _ D0.out)
      clear HSS HDN D0
      go_wp2_with (go_at_call 50; refine HQ.out.mono ?_; rintro e w9 ⟨rfl, hb, hr⟩; have Bz : Hid (Below w.heap.size w w9) := hb; have Rz : Hid (R v w9) := hr; clear hb hr HQ)
      go_ret
      exact ⟨⟨v, rfl, Rz.out⟩, Bz.out⟩
end Go.Proofs.YtkcnpcjogfhkbaaGreatDoor.K
