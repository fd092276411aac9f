/- Lots, as the document has them. -/
import Derived.Test.YtmdffdcglpbcpaaDoorKd
set_option linter.unusedSimpArgs false
set_option linter.unusedVariables false
set_option maxRecDepth 100000
namespace Go.Proofs.YtmdffdcglpbcpaaDoor
open Go.RowKit Go.Deep Go.PlainAid Go.Sort

theorem wc_two {n : Nat} {r s : Int} (h : wc n r s ≠ 0) : wc n r s = 2 := by
  unfold wc at h ⊢
  split at h
  · omega
  · rename_i q; rw [if_neg q]
theorem wc_fits {n : Nat} {r s : Int} (h : wc n r s = 0) : (1 ≤ n ∧ n ≤ 12) ∧ (1 ≤ r ∧ r ≤ 4) ∧ 1 ≤ s ∧ s ≤ n := by
  unfold wc at h
  split at h
  · assumption
  · omega
set_option maxHeartbeats 1000000 in
theorem lots5_bad {w : World} {lots nm : ByteArray} {a : Option Addr} {n c : Nat} {r s m : Int} (hw : wc n r s = 2) :
    Calls Tryd.prog 5 #[CV nm a n c r s m, .string lots] w fun e w' => e = .returned (.tuple #[.slice none 0 0, .int .i64 2]) ∧ Below w.heap.size w w' := by
  have H : Hid (∀ W, Calls Tryd.prog 11 #[.agg #[.string nm, .slice a n c, .int .i64 r, .int .i64 s, .int .i64 m]] W fun e w' => e = .returned (.int .i64 2) ∧ Below W.heap.size W w') := fun W => by have := wrong11 nm a n c r s m W; rw [hw] at this; exact this
  clear hw
  unfold CV
  have B : Hid (Below w.heap.size w (w.alloc (.cells #[.string nm, .slice a n c, .int .i64 r, .int .i64 s, .int .i64 m] 24))) := (Below.refl _ _).alloc (Nat.le_refl _) _
  go_enter Tryd.func5, Tryd.ntmps5
  go_wp2_with (go_at_call 11; refine (H.out _).mono ?_; rintro e w1 ⟨rfl, hB⟩; have B1 : Hid (Below w.heap.size w w1) := B.out.trans (hB.mono B.out.size); clear hB H)
  go_ret2
  exact ⟨rfl, B1.out⟩
theorem rl_step (lt : Nat → Nat → Bool) (i k : Nat) (hk : k ≤ i) (h1 : ∀ j (h : j < (rl lt i).length), j < k → lx lt id (rl lt i)[j] i = true) (h2 : ∀ h : k < (rl lt i).length, lx lt id ((rl lt i)[k]'h) i = false) :
    (zi (rl lt i)).take k ++ [((i : Nat) : Int)] ++ (zi (rl lt i)).drop k = zi (rl lt (i + 1)) := by
  show _ = zi (insB (fun x => lx lt id x i) i (rl lt i))
  rw [insB_at _ k (by rw [rl_length]; exact hk) h1 h2]
  simp [zi]
theorem tkU {P : Program} {md : Region.Mode} {ops : Array Oper} {Q : Exit → Act → World → Prop} {S : World → Prop} {i : Nat} {oi : Oper} {fuel : Nat} {listed : Array Bool} {a : Act} {w : World} (hi : ops[i]? = some oi)
    (hs : (Region.noSelect ops && (Region.free md ops listed i && (Region.ready md ops listed).contains i)) = true)
    (hQ : ∀ c a w, Q (.panic c) (a.put oi.dst undef) w → Q (.panic c) a w) (hw : Region.wanted oi (yielded ops a.tmps) = false) (hS : S w)
    (h : wpAnyH P md ops Q S fuel (listed.setIfInBounds i true) (a.put oi.dst undef) w) : wpAnyH P md ops Q S (fuel + 1) listed a w := by
  simp only [Bool.and_eq_true] at hs
  exact wpAnyH_take hi hs.1 hs.2.1 hs.2.2 hQ (Or.inr ⟨hw, rfl⟩) hS h
set_option maxHeartbeats 8000000 in
theorem lots5_ok {w : World} {lots nm : ByteArray} {a : Option Addr} {n c : Nat} {r s m : Int} {os : List ByteArray} (hf : Fit lots nm os) (ho : F.SAt w a os) (hn : os.length = n) (hw : wc n r s = 0) :
    Calls Tryd.prog 5 #[CV nm a n c r s m, .string lots] w fun e w' => (∃ v, e = .returned (.tuple #[v, .int .i64 0]) ∧ LS w' v (zi (rl (ltL lots nm os) n))) ∧ Below w.heap.size w w' := by
  have H : Hid (∀ W, Calls Tryd.prog 11 #[.agg #[.string nm, .slice a n c, .int .i64 r, .int .i64 s, .int .i64 m]] W fun e w' => e = .returned (.int .i64 0) ∧ Below W.heap.size W w') := fun W => by have := wrong11 nm a n c r s m W; rw [hw] at this; exact this
  obtain ⟨⟨n1, n12⟩, _⟩ := wc_fits hw
  obtain ⟨b, o, rfl, hc0⟩ := ho 0 (by omega)
  have HO : Hid (∀ V, Below w.heap.size w V → F.SAt V (some ⟨b, o, none⟩) os) := fun V hV => ho.of_below hV (fun b' o' e hp => by
    cases e
    obtain ⟨b2, o2, e2, q2⟩ := ho 0 hp
    cases e2; exact cell_lt q2)
  have AH : Hid (∀ V j i, Below w.heap.size w V → j < n → i < n → Calls Tryd.prog 12 #[.agg #[.string nm, .slice (some ⟨b, o, none⟩) n c, .int .i64 r, .int .i64 s, .int .i64 m], .string lots, .int .i64 ((j : Nat) : Int), .int .i64 ((i : Nat) : Int)] V fun e w' => e = .returned (.bool (lx (ltL lots nm os) id j i)) ∧ Below V.heap.size V w') := fun V j i hV hj hi => ahead12 hf (HO.out V hV) hn hj hi
  clear HO hf ho hc0 hn hw
  generalize ltL lots nm os = lt at *
  unfold CV
  generalize hW : w.alloc (.cells #[.string nm, .slice (some ⟨b, o, none⟩) n c, .int .i64 r, .int .i64 s, .int .i64 m] 24) = W
  have J : Hid (Below w.heap.size w W) := by rw [← hW]; exact (Below.refl _ w).alloc (Nat.le_refl _) _
  have I0 : Hid (IHolds W w.heap.size 24 [.string nm, .slice (some ⟨b, o, none⟩) n c, .int .i64 r, .int .i64 s, .int .i64 m]) := by rw [← hW]; exact IHolds.new w 24 _
  obtain ⟨k0, k1, k2, k3, k4⟩ := five I0.out
  go_enter Tryd.func5, Tryd.ntmps5
  go_upto_region 2 with (go_at_call 11; refine (H.out _).mono ?_; rintro e U ⟨rfl, hB⟩; have B1 : Hid (Below w.heap.size w U) := J.out.trans (hB.mono J.out.size); have I1 : Hid (IHolds U w.heap.size 24 [.string nm, .slice (some ⟨b, o, none⟩) n c, .int .i64 r, .int .i64 s, .int .i64 m]) := I0.out.of_below hB; clear hB H)
  clear hW I0 J k0 k1 k2 k3 k4
  obtain ⟨B0, hB0⟩ : ∃ B, B = w.heap.size := ⟨_, rfl⟩
  rw [← hB0] at I1 ⊢
  have HB0 : Hid (B0 = w.heap.size) := hB0
  clear hB0
  have z1 := I1.out.cell 1 (by simp)
  simp only [List.getElem_cons_succ, List.getElem_cons_zero] at z1
  go_wp2_with fail
  clear z1
  have KP : Hid (∀ V, Below U.heap.size U V → (V.cell? ⟨B0, 0, none⟩ = some (.string nm) ∧ V.cell? ⟨B0, 1, none⟩ = some (.slice (some ⟨b, o, none⟩) n c) ∧ V.cell? ⟨B0, 2, none⟩ = some (.int .i64 r) ∧ V.cell? ⟨B0, 3, none⟩ = some (.int .i64 s) ∧ V.cell? ⟨B0, 4, none⟩ = some (.int .i64 m))) := fun V hV => five (I1.out.of_below hV)
  have L0 : Hid (LS U (.slice none 0 0) (zi (rl lt 0))) := (OW.nil U).ls
  go_loopg [7, 8, 9, 18] n (fun gk v7 v8 v9 v18 wr => ∃ (i : Nat) (v : Value), i + gk = n ∧ v18 = .int .i64 (i : Int) ∧ v = v7 ∧ LS wr v (zi (rl lt i)) ∧ Below U.heap.size U wr)
  case atStart => exact ⟨0, _, by omega, rfl, rfl, L0.out, Below.refl _ _⟩
  case round =>
    clear L0
    obtain ⟨i, v, hig, rfl, rfl, hL, hB⟩ := hrel
    have LL : Hid (LS wr v (zi (rl lt i))) := hL
    have B2 : Hid (Below U.heap.size U wr) := hB
    clear hL hB
    by_cases hi : i < n
    · have il : (i : Int) < (n : Int) := by omega
      have BW0 : Hid (Below w.heap.size w wr) := B1.out.trans (B2.out.mono B1.out.size)
      obtain ⟨al, cl, rfl, hle, hmx, hnn, had, hil⟩ := LL.out.ex
      rw [zi_len, rl_length] at hle hnn ⊢
      have hIL0 : Hid (IL wr al (zi (rl lt i))) := hil
      clear hil LL
      obtain ⟨G1, rfl⟩ : ∃ G, G = gk := ⟨gk, rfl⟩
      cases al with
      | none =>
        obtain ⟨rfl, rfl⟩ := hnn rfl
        clear hIL0 hnn had hle hmx
        go_wp2_with fail
        obtain ⟨WO, rfl⟩ : ∃ X, X = wr := ⟨wr, rfl⟩
        go_loopg [9] 1 (fun gk9 v9 wr2 => gk9 = 1 ∧ v9 = .int .i64 (0 : Int) ∧ Below WO.heap.size WO wr2)
        case atStart => exact ⟨rfl, rfl, Below.refl _ _⟩
        case round =>
          obtain ⟨rfl, rfl, hB⟩ := hrel
          have BW : Hid (Below U.heap.size U wr.drew) := (B2.out.trans (hB.mono B2.out.size)).drew
          clear hB B2 BW0
          go_wp2_with fail
          refine wp_region_noPanic ?_
          refine wp_region_held_drew (S := fun V => True) (by kernel_rfl) trivial (fun hH => ?_)
          refine tk (i := 0) (v := .int .i64 (0 : Int)) rfl (by kernel_rfl) (fun _ _ _ h => h) (by kernel_rfl) ?_ hH ?_
          · intro V hS; go_simp
          simp only [Act.put, y1, y2, y3, y4, y5, y6, y7]
          refine tk (i := 1) (v := .slice none 0 0) rfl (by kernel_rfl) (fun _ _ _ h => h) (by kernel_rfl) ?_ hH ?_
          · intro V hS; go_simp
          simp only [Act.put, y1, y2, y3, y4, y5, y6, y7]
          refine tk (i := 2) (v := .int .i64 (0 : Int)) rfl (by kernel_rfl) (fun _ _ _ h => h) (by kernel_rfl) ?_ hH ?_
          · intro V hS; go_simp
          simp only [Act.put, y1, y2, y3, y4, y5, y6, y7]
          refine tk (i := 3) (v := .bool false) rfl (by kernel_rfl) (fun _ _ _ h => h) (by kernel_rfl) ?_ hH ?_
          · intro V hS; go_simp
          simp only [Act.put, y1, y2, y3, y4, y5, y6, y7]
          refine tk (i := 4) (v := .bool false) rfl (by kernel_rfl) (fun _ _ _ h => h) (by kernel_rfl) ?_ hH ?_
          · intro V hS; go_simp
          simp only [Act.put, y1, y2, y3, y4, y5, y6, y7]
          refine tkU (i := 5) rfl (by kernel_rfl) (fun _ _ _ h => h) (by kernel_rfl) hH ?_
          simp only [Act.put, y1, y2, y3, y4, y5, y6, y7]
          refine tkU (i := 6) rfl (by kernel_rfl) (fun _ _ _ h => h) (by kernel_rfl) hH ?_
          simp only [Act.put, y1, y2, y3, y4, y5, y6, y7]
          refine tkU (i := 7) rfl (by kernel_rfl) (fun _ _ _ h => h) (by kernel_rfl) hH ?_
          simp only [Act.put, y1, y2, y3, y4, y5, y6, y7]
          refine tkU (i := 8) rfl (by kernel_rfl) (fun _ _ _ h => h) (by kernel_rfl) hH ?_
          simp only [Act.put, y1, y2, y3, y4, y5, y6, y7]
          refine tkU (i := 9) rfl (by kernel_rfl) (fun _ _ _ h => h) (by kernel_rfl) hH ?_
          simp only [Act.put, y1, y2, y3, y4, y5, y6, y7]
          refine tkU (i := 10) rfl (by kernel_rfl) (fun _ _ _ h => h) (by kernel_rfl) hH ?_
          simp only [Act.put, y1, y2, y3, y4, y5, y6, y7]
          refine tkU (i := 11) rfl (by kernel_rfl) (fun _ _ _ h => h) (by kernel_rfl) hH ?_
          simp only [Act.put, y1, y2, y3, y4, y5, y6, y7]
          refine tkU (i := 12) rfl (by kernel_rfl) (fun _ _ _ h => h) (by kernel_rfl) hH ?_
          simp only [Act.put, y1, y2, y3, y4, y5, y6, y7]
          refine tk (i := 13) (v := .bool false) rfl (by kernel_rfl) (fun _ _ _ h => h) (by kernel_rfl) ?_ hH ?_
          · intro V hS; go_simp
          simp only [Act.put, y1, y2, y3, y4, y5, y6, y7]
          refine wpAnyH_done (by kernel_rfl) ?_ _
          refine NoPanic.normal ?_
          generalize wr.drew = X at *
          go_wp2_with fail
          refine wp_region_noPanic ?_
          refine wp_region_held_drew (S := fun V => True) (by kernel_rfl) trivial (fun hH => ?_)
          have DB : Hid (Below X.heap.size X X.drew) := dB X
          generalize hV0 : X.drew = V0 at *
          clear hV0
          refine tk (i := 1) (v := .slice none 0 0) rfl (by kernel_rfl) (fun _ _ _ h => h) (by kernel_rfl) ?_ hH ?_
          · intro V hS; go_simp
          simp only [Act.put, y1, y2, y3, y4, y5, y6, y7]
          refine tk (i := 2) (v := .int .i64 (0 : Int)) rfl (by kernel_rfl) (fun _ _ _ h => h) (by kernel_rfl) ?_ hH ?_
          · intro V hS; go_simp
          simp only [Act.put, y1, y2, y3, y4, y5, y6, y7]
          refine tk (i := 3) (v := .slice none 0 0) rfl (by kernel_rfl) (fun _ _ _ h => h) (by kernel_rfl) ?_ hH ?_
          · intro V hS; go_simp
          simp only [Act.put, y1, y2, y3, y4, y5, y6, y7]
          refine tk (i := 5) (v := .int .i64 (0 : Int)) rfl (by kernel_rfl) (fun _ _ _ h => h) (by kernel_rfl) ?_ hH ?_
          · intro V hS; go_simp
          simp only [Act.put, y1, y2, y3, y4, y5, y6, y7]
          refine tk (i := 8) (v := .slice none 0 0) rfl (by kernel_rfl) (fun _ _ _ h => h) (by kernel_rfl) ?_ hH ?_
          · intro V hS; go_simp
          simp only [Act.put, y1, y2, y3, y4, y5, y6, y7]
          refine tk (i := 9) (v := .int .i64 (0 : Int)) rfl (by kernel_rfl) (fun _ _ _ h => h) (by kernel_rfl) ?_ hH ?_
          · intro V hS; go_simp
          simp only [Act.put, y1, y2, y3, y4, y5, y6, y7]
          refine tk (i := 10) (v := .slice none 0 0) rfl (by kernel_rfl) (fun _ _ _ h => h) (by kernel_rfl) ?_ hH ?_
          · intro V hS; go_simp
          simp only [Act.put, y1, y2, y3, y4, y5, y6, y7]
          refine wpAnyH_ready (rs := [0, 6]) (by kernel_rfl) (by simp) ?_
          refine AllReadyH.cons rfl (fun K hK => ?_) (AllReadyH.cons rfl (fun K hK => ?_) AllReadyH.nil)
          · clear hH
            have O0 : Hid (OW X (V0.alloc (.cells #[] 3)) (.slice (some ⟨V0.heap.size, 0, none⟩) 0 0) []) := OW.new DB.out
            have D1 : Hid (Below X.heap.size X (V0.alloc (.cells #[] 3))) := O0.out.bl
            go_simp
            refine hK.out _ _ trivial (fun hH => ?_)
            clear hK K
            clear DB
            have DB : Hid (Below X.heap.size X (V0.alloc (.cells #[] 3))) := D1.out
            clear D1
            have LZ : Hid (V0.heap.size < (V0.alloc (.cells #[] 3)).heap.size) := by show _ < _; simp
            generalize V0.heap.size = G0 at *
            generalize V0.alloc (.cells #[] 3) = V1 at *
            try simp only [Act.put, y1, y2, y3, y4, y5, y6, y7]
            refine wpAnyH_ready (rs := [4, 6]) (by kernel_rfl) (by simp) ?_
            refine AllReadyH.cons rfl (fun K hK => ?_) (AllReadyH.cons rfl (fun K hK => ?_) AllReadyH.nil)
            · clear hH
              obtain ⟨v41, V2, hr, ho, hk6⟩ := O0.out.app (a := none) (c := 0) (k := 0) (m := []) rfl (fun _ => ⟨rfl, rfl⟩) (IL.nil _ _) (by simp) 25
              have Ov41 : Hid (OW X V2 v41 (([] : List Int) ++ [])) := ho
              refine wp_append_at (.tmp 37) (.tmp 40) 25 rfl (.slice (some ⟨G0, 0, none⟩) 0 0) v41 _ rfl rfl hr ?_
              refine hK.out _ _ trivial (fun hH => ?_)
              clear hK K hr ho hk6 O0
              try clear DB
              have DB : Hid (Below X.heap.size X V2) := Ov41.out.bl
              try simp only [Act.put, y1, y2, y3, y4, y5, y6, y7]
              clear LZ
              refine wpAnyH_ready (rs := [6]) (by kernel_rfl) (by simp) ?_
              refine AllReadyH.cons rfl (fun K hK => ?_) AllReadyH.nil
              clear hH
              have G6c : Hid (IL (V2.alloc (.cells #[.int .i64 (0 : Int)] 3)) (some ⟨V2.heap.size, 0, none⟩) [(0 : Int)]) := IL.one _ _
              have G6l : Hid (V2.heap.size < (V2.alloc (.cells #[.int .i64 (0 : Int)] 3)).heap.size) := by show _ < _; simp
              have D1 : Hid (Below X.heap.size X (V2.alloc (.cells #[.int .i64 (0 : Int)] 3))) := DB.out.alloc DB.out.size _
              have O9 : Hid (OW X (V2.alloc (.cells #[.int .i64 (0 : Int)] 3)) v41 (([] : List Int) ++ [])) := Ov41.out.alloc _
              clear Ov41
              have Ov41 : Hid (OW X (V2.alloc (.cells #[.int .i64 (0 : Int)] 3)) v41 (([] : List Int) ++ [])) := O9.out
              clear O9
              go_simp
              refine hK.out _ _ trivial (fun hH => ?_)
              clear hK K DB
              have DB : Hid (Below X.heap.size X (V2.alloc (.cells #[.int .i64 (0 : Int)] 3))) := D1.out
              clear D1
              generalize V2.heap.size = G6 at *
              generalize V2.alloc (.cells #[.int .i64 (0 : Int)] 3) = V3 at *
              try simp only [Act.put, y1, y2, y3, y4, y5, y6, y7]
              refine wpAnyH_ready (rs := [7]) (by kernel_rfl) (by simp) ?_
              refine AllReadyH.cons rfl (fun K hK => ?_) AllReadyH.nil
              clear hH
              obtain ⟨v44, V7, hr, ho, hk6⟩ := Ov41.out.app (a := some ⟨G6, 0, none⟩) (c := 1) (k := 1) (m := [(0 : Int)]) rfl (fun e => by cases e) G6c.out (by simp) 25
              have Ov44 : Hid (OW X V7 v44 ((([] : List Int) ++ []) ++ [(0 : Int)])) := ho
              refine wp_append_at (.tmp 41) (.tmp 43) 25 rfl v41 v44 _ rfl rfl hr ?_
              refine hK.out _ _ trivial (fun hH => ?_)
              clear hK K hr ho hk6 Ov41
              try clear DB
              have DB : Hid (Below X.heap.size X V7) := Ov44.out.bl
              try simp only [Act.put, y1, y2, y3, y4, y5, y6, y7]
              clear G6c
              try clear G6n
              try clear G6l
              refine wpAnyH_ready (rs := [11]) (by kernel_rfl) (by simp) ?_
              refine AllReadyH.cons rfl (fun K hK => ?_) AllReadyH.nil
              clear hH
              obtain ⟨v48, V9, hr, ho, hk6⟩ := Ov44.out.app (a := none) (c := 0) (k := 0) (m := []) rfl (fun _ => ⟨rfl, rfl⟩) (IL.nil _ _) (by simp) 25
              have Ov48 : Hid (OW X V9 v48 (((([] : List Int) ++ []) ++ [(0 : Int)]) ++ [])) := ho
              refine wp_append_at (.tmp 44) (.tmp 47) 25 rfl v44 v48 _ rfl rfl hr ?_
              refine hK.out _ _ trivial (fun hH => ?_)
              clear hK K hr ho hk6 Ov44
              try clear DB
              have DB : Hid (Below X.heap.size X V9) := Ov48.out.bl
              try simp only [Act.put, y1, y2, y3, y4, y5, y6, y7]
              refine tk (i := 12) (v := v48) rfl (by kernel_rfl) (fun _ _ _ h => h) (by kernel_rfl) ?_ hH ?_
              · intro V hS; go_simp
              simp only [Act.put, y1, y2, y3, y4, y5, y6, y7]
              refine wpAnyH_done (by kernel_rfl) ?_ _
              refine NoPanic.normal ?_
              have HL : Hid (([] : List Int) ++ [] ++ [(0 : Int)] ++ [] = zi (rl lt (0 + 1))) := by show _ = _; exact rl_step lt 0 0 (Nat.le_refl _) (fun j h hj => by omega) (fun h => by rw [rl_length] at h; omega)
              have LZ2 : Hid (LS V9 v48 (zi (rl lt (0 + 1)))) := by rw [← HL.out]; exact Ov48.out.ls
              have BZ : Hid (Below U.heap.size U V9) := BW.out.trans (Ov48.out.bl.mono BW.out.size)
              clear Ov48 HL DB hH
              go_wp2_with fail
              go_roundg (G1 - 1)
              case measure => omega
              case rel => exact ⟨0 + 1, v48, by omega, by go_num, rfl, LZ2.out, BZ.out⟩
            · clear hH
              have G6c : Hid (IL (V1.alloc (.cells #[.int .i64 (0 : Int)] 3)) (some ⟨V1.heap.size, 0, none⟩) [(0 : Int)]) := IL.one _ _
              have G6l : Hid (V1.heap.size < (V1.alloc (.cells #[.int .i64 (0 : Int)] 3)).heap.size) := by show _ < _; simp
              have O9 : Hid (OW X (V1.alloc (.cells #[.int .i64 (0 : Int)] 3)) (.slice (some ⟨G0, 0, none⟩) 0 0) []) := O0.out.alloc _
              have G6n : Hid (some V1.heap.size ≠ Value.ownBlock (.slice (some ⟨G0, 0, none⟩) 0 0)) := by have := LZ.out; simp only [Value.ownBlock, ne_eq, Option.some.injEq]; show ¬ _; omega
              have D1 : Hid (Below X.heap.size X (V1.alloc (.cells #[.int .i64 (0 : Int)] 3))) := DB.out.alloc DB.out.size _
              go_simp
              refine hK.out _ _ trivial (fun hH => ?_)
              clear hK K DB
              have DB : Hid (Below X.heap.size X (V1.alloc (.cells #[.int .i64 (0 : Int)] 3))) := D1.out
              clear D1
              clear O0
              have O0 : Hid (OW X (V1.alloc (.cells #[.int .i64 (0 : Int)] 3)) (.slice (some ⟨G0, 0, none⟩) 0 0) []) := O9.out
              clear O9
              generalize V1.heap.size = G6 at *
              generalize V1.alloc (.cells #[.int .i64 (0 : Int)] 3) = V2 at *
              try simp only [Act.put, y1, y2, y3, y4, y5, y6, y7]
              clear LZ
              refine wpAnyH_ready (rs := [4]) (by kernel_rfl) (by simp) ?_
              refine AllReadyH.cons rfl (fun K hK => ?_) AllReadyH.nil
              clear hH
              obtain ⟨v41, V3, hr, ho, hk6⟩ := O0.out.app (a := none) (c := 0) (k := 0) (m := []) rfl (fun _ => ⟨rfl, rfl⟩) (IL.nil _ _) (by simp) 25
              have Ov41 : Hid (OW X V3 v41 (([] : List Int) ++ [])) := ho
              have G8 : Hid (IL V3 (some ⟨G6, 0, none⟩) [(0 : Int)]) := G6c.out.keep (fun u hu => hk6 _ _ _ hu G6n.out)
              refine wp_append_at (.tmp 37) (.tmp 40) 25 rfl (.slice (some ⟨G0, 0, none⟩) 0 0) v41 _ rfl rfl hr ?_
              refine hK.out _ _ trivial (fun hH => ?_)
              clear hK K hr ho hk6 O0
              clear G6c G6n
              have G6c : Hid (IL V3 (some ⟨G6, 0, none⟩) [(0 : Int)]) := G8.out
              clear G8
              try clear DB
              have DB : Hid (Below X.heap.size X V3) := Ov41.out.bl
              try simp only [Act.put, y1, y2, y3, y4, y5, y6, y7]
              refine wpAnyH_ready (rs := [7]) (by kernel_rfl) (by simp) ?_
              refine AllReadyH.cons rfl (fun K hK => ?_) AllReadyH.nil
              clear hH
              obtain ⟨v44, V7, hr, ho, hk6⟩ := Ov41.out.app (a := some ⟨G6, 0, none⟩) (c := 1) (k := 1) (m := [(0 : Int)]) rfl (fun e => by cases e) G6c.out (by simp) 25
              have Ov44 : Hid (OW X V7 v44 ((([] : List Int) ++ []) ++ [(0 : Int)])) := ho
              refine wp_append_at (.tmp 41) (.tmp 43) 25 rfl v41 v44 _ rfl rfl hr ?_
              refine hK.out _ _ trivial (fun hH => ?_)
              clear hK K hr ho hk6 Ov41
              try clear DB
              have DB : Hid (Below X.heap.size X V7) := Ov44.out.bl
              try simp only [Act.put, y1, y2, y3, y4, y5, y6, y7]
              clear G6c
              try clear G6n
              try clear G6l
              refine wpAnyH_ready (rs := [11]) (by kernel_rfl) (by simp) ?_
              refine AllReadyH.cons rfl (fun K hK => ?_) AllReadyH.nil
              clear hH
              obtain ⟨v48, V9, hr, ho, hk6⟩ := Ov44.out.app (a := none) (c := 0) (k := 0) (m := []) rfl (fun _ => ⟨rfl, rfl⟩) (IL.nil _ _) (by simp) 25
              have Ov48 : Hid (OW X V9 v48 (((([] : List Int) ++ []) ++ [(0 : Int)]) ++ [])) := ho
              refine wp_append_at (.tmp 44) (.tmp 47) 25 rfl v44 v48 _ rfl rfl hr ?_
              refine hK.out _ _ trivial (fun hH => ?_)
              clear hK K hr ho hk6 Ov44
              try clear DB
              have DB : Hid (Below X.heap.size X V9) := Ov48.out.bl
              try simp only [Act.put, y1, y2, y3, y4, y5, y6, y7]
              refine tk (i := 12) (v := v48) rfl (by kernel_rfl) (fun _ _ _ h => h) (by kernel_rfl) ?_ hH ?_
              · intro V hS; go_simp
              simp only [Act.put, y1, y2, y3, y4, y5, y6, y7]
              refine wpAnyH_done (by kernel_rfl) ?_ _
              refine NoPanic.normal ?_
              have HL : Hid (([] : List Int) ++ [] ++ [(0 : Int)] ++ [] = zi (rl lt (0 + 1))) := by show _ = _; exact rl_step lt 0 0 (Nat.le_refl _) (fun j h hj => by omega) (fun h => by rw [rl_length] at h; omega)
              have LZ2 : Hid (LS V9 v48 (zi (rl lt (0 + 1)))) := by rw [← HL.out]; exact Ov48.out.ls
              have BZ : Hid (Below U.heap.size U V9) := BW.out.trans (Ov48.out.bl.mono BW.out.size)
              clear Ov48 HL DB hH
              go_wp2_with fail
              go_roundg (G1 - 1)
              case measure => omega
              case rel => exact ⟨0 + 1, v48, by omega, by go_num, rfl, LZ2.out, BZ.out⟩
          · clear hH
            have G6c : Hid (IL (V0.alloc (.cells #[.int .i64 (0 : Int)] 3)) (some ⟨V0.heap.size, 0, none⟩) [(0 : Int)]) := IL.one _ _
            have G6l : Hid (V0.heap.size < (V0.alloc (.cells #[.int .i64 (0 : Int)] 3)).heap.size) := by show _ < _; simp
            have D1 : Hid (Below X.heap.size X (V0.alloc (.cells #[.int .i64 (0 : Int)] 3))) := DB.out.alloc DB.out.size _
            go_simp
            refine hK.out _ _ trivial (fun hH => ?_)
            clear hK K DB
            have DB : Hid (Below X.heap.size X (V0.alloc (.cells #[.int .i64 (0 : Int)] 3))) := D1.out
            clear D1
            generalize V0.heap.size = G6 at *
            generalize V0.alloc (.cells #[.int .i64 (0 : Int)] 3) = V1 at *
            try simp only [Act.put, y1, y2, y3, y4, y5, y6, y7]
            refine wpAnyH_ready (rs := [0]) (by kernel_rfl) (by simp) ?_
            refine AllReadyH.cons rfl (fun K hK => ?_) AllReadyH.nil
            clear hH
            have O0 : Hid (OW X (V1.alloc (.cells #[] 3)) (.slice (some ⟨V1.heap.size, 0, none⟩) 0 0) []) := OW.new DB.out
            have G7 : Hid (IL (V1.alloc (.cells #[] 3)) (some ⟨G6, 0, none⟩) [(0 : Int)] ∧ G6 < V1.heap.size) := ⟨G6c.out.of_below ((Below.refl _ _).alloc (Nat.le_refl _) _), G6l.out⟩
            have D1 : Hid (Below X.heap.size X (V1.alloc (.cells #[] 3))) := O0.out.bl
            go_simp
            refine hK.out _ _ trivial (fun hH => ?_)
            clear hK K
            have G6n : Hid (some G6 ≠ Value.ownBlock (.slice (some ⟨V1.heap.size, 0, none⟩) 0 0)) := by have := G7.out.2; simp only [Value.ownBlock, ne_eq, Option.some.injEq]; show ¬ _; omega
            replace G6c : Hid (IL (V1.alloc (.cells #[] 3)) (some ⟨G6, 0, none⟩) [(0 : Int)]) := G7.out.1
            clear G7 G6l
            clear DB
            have DB : Hid (Below X.heap.size X (V1.alloc (.cells #[] 3))) := D1.out
            clear D1
            have LZ : Hid (V1.heap.size < (V1.alloc (.cells #[] 3)).heap.size) := by show _ < _; simp
            generalize V1.heap.size = G0 at *
            generalize V1.alloc (.cells #[] 3) = V2 at *
            try simp only [Act.put, y1, y2, y3, y4, y5, y6, y7]
            clear LZ
            refine wpAnyH_ready (rs := [4]) (by kernel_rfl) (by simp) ?_
            refine AllReadyH.cons rfl (fun K hK => ?_) AllReadyH.nil
            clear hH
            obtain ⟨v41, V3, hr, ho, hk6⟩ := O0.out.app (a := none) (c := 0) (k := 0) (m := []) rfl (fun _ => ⟨rfl, rfl⟩) (IL.nil _ _) (by simp) 25
            have Ov41 : Hid (OW X V3 v41 (([] : List Int) ++ [])) := ho
            have G8 : Hid (IL V3 (some ⟨G6, 0, none⟩) [(0 : Int)]) := G6c.out.keep (fun u hu => hk6 _ _ _ hu G6n.out)
            refine wp_append_at (.tmp 37) (.tmp 40) 25 rfl (.slice (some ⟨G0, 0, none⟩) 0 0) v41 _ rfl rfl hr ?_
            refine hK.out _ _ trivial (fun hH => ?_)
            clear hK K hr ho hk6 O0
            clear G6c G6n
            have G6c : Hid (IL V3 (some ⟨G6, 0, none⟩) [(0 : Int)]) := G8.out
            clear G8
            try clear DB
            have DB : Hid (Below X.heap.size X V3) := Ov41.out.bl
            try simp only [Act.put, y1, y2, y3, y4, y5, y6, y7]
            refine wpAnyH_ready (rs := [7]) (by kernel_rfl) (by simp) ?_
            refine AllReadyH.cons rfl (fun K hK => ?_) AllReadyH.nil
            clear hH
            obtain ⟨v44, V7, hr, ho, hk6⟩ := Ov41.out.app (a := some ⟨G6, 0, none⟩) (c := 1) (k := 1) (m := [(0 : Int)]) rfl (fun e => by cases e) G6c.out (by simp) 25
            have Ov44 : Hid (OW X V7 v44 ((([] : List Int) ++ []) ++ [(0 : Int)])) := ho
            refine wp_append_at (.tmp 41) (.tmp 43) 25 rfl v41 v44 _ rfl rfl hr ?_
            refine hK.out _ _ trivial (fun hH => ?_)
            clear hK K hr ho hk6 Ov41
            try clear DB
            have DB : Hid (Below X.heap.size X V7) := Ov44.out.bl
            try simp only [Act.put, y1, y2, y3, y4, y5, y6, y7]
            clear G6c
            try clear G6n
            try clear G6l
            refine wpAnyH_ready (rs := [11]) (by kernel_rfl) (by simp) ?_
            refine AllReadyH.cons rfl (fun K hK => ?_) AllReadyH.nil
            clear hH
            obtain ⟨v48, V9, hr, ho, hk6⟩ := Ov44.out.app (a := none) (c := 0) (k := 0) (m := []) rfl (fun _ => ⟨rfl, rfl⟩) (IL.nil _ _) (by simp) 25
            have Ov48 : Hid (OW X V9 v48 (((([] : List Int) ++ []) ++ [(0 : Int)]) ++ [])) := ho
            refine wp_append_at (.tmp 44) (.tmp 47) 25 rfl v44 v48 _ rfl rfl hr ?_
            refine hK.out _ _ trivial (fun hH => ?_)
            clear hK K hr ho hk6 Ov44
            try clear DB
            have DB : Hid (Below X.heap.size X V9) := Ov48.out.bl
            try simp only [Act.put, y1, y2, y3, y4, y5, y6, y7]
            refine tk (i := 12) (v := v48) rfl (by kernel_rfl) (fun _ _ _ h => h) (by kernel_rfl) ?_ hH ?_
            · intro V hS; go_simp
            simp only [Act.put, y1, y2, y3, y4, y5, y6, y7]
            refine wpAnyH_done (by kernel_rfl) ?_ _
            refine NoPanic.normal ?_
            have HL : Hid (([] : List Int) ++ [] ++ [(0 : Int)] ++ [] = zi (rl lt (0 + 1))) := by show _ = _; exact rl_step lt 0 0 (Nat.le_refl _) (fun j h hj => by omega) (fun h => by rw [rl_length] at h; omega)
            have LZ2 : Hid (LS V9 v48 (zi (rl lt (0 + 1)))) := by rw [← HL.out]; exact Ov48.out.ls
            have BZ : Hid (Below U.heap.size U V9) := BW.out.trans (Ov48.out.bl.mono BW.out.size)
            clear Ov48 HL DB hH
            go_wp2_with fail
            go_roundg (G1 - 1)
            case measure => omega
            case rel => exact ⟨0 + 1, v48, by omega, by go_num, rfl, LZ2.out, BZ.out⟩
      | some ad =>
        obtain ⟨g, rfl⟩ := had ad rfl
        clear hnn had
        go_wp2_with fail
        obtain ⟨WO, rfl⟩ : ∃ X, X = wr := ⟨wr, rfl⟩
        go_loopg [9] i (fun gk9 v9 wr2 => ∃ k : Nat, k + gk9 = i ∧ v9 = .int .i64 (k : Int) ∧ (∀ j (h : j < (rl lt i).length), j < k → lx lt id ((rl lt i)[j]'h) i = true) ∧ Below WO.heap.size WO wr2)
        case atStart => exact ⟨0, by omega, rfl, (fun j h hj => by omega), Below.refl _ _⟩
        case round =>
          obtain ⟨k, hkg, rfl, hf, hB⟩ := hrel
          have HF : Hid (∀ j (h : j < (rl lt i).length), j < k → lx lt id ((rl lt i)[j]'h) i = true) := hf
          have hIL : Hid (IL wr (some ⟨g, 0, none⟩) (zi (rl lt i))) := hIL0.out.of_below hB
          have BWr : Hid (Below U.heap.size U wr) := B2.out.trans (hB.mono B2.out.size)
          have B3 : Hid (Below WO.heap.size WO wr) := hB
          clear hf hB BW0
          have HLN : Hid ((rl lt i).length = i) := rl_length lt i
          by_cases hk : k < i
          · have kl : (k : Int) < (i : Int) := by omega
            have hkl : k < (rl lt i).length := by rw [HLN.out]; exact hk
            obtain ⟨b9, o9, e9, q9⟩ := hIL.out k (by rw [zi_len]; exact hkl)
            cases e9
            rw [zi_at hkl, Nat.zero_add] at q9
            have hx9 : (rl lt i)[k] < n := by have := (rl_mem lt i _).1 (List.getElem_mem hkl); omega
            have AC : Hid (∀ V, Below wr.heap.size wr V → Calls Tryd.prog 12 #[.agg #[.string nm, .slice (some ⟨b, o, none⟩) n c, .int .i64 r, .int .i64 s, .int .i64 m], .string lots, .int .i64 (((rl lt i)[k] : Nat) : Int), .int .i64 ((i : Nat) : Int)] V fun e w' => e = .returned (.bool (lx lt id ((rl lt i)[k]) i)) ∧ Below V.heap.size V w') := fun V hV => AH.out V _ _ (B1.out.trans ((BWr.out.trans (hV.mono BWr.out.size)).mono B1.out.size)) hx9 hi
            have ZT : Hid (lx lt id ((rl lt i)[k]) i = true → ∀ j (h : j < (rl lt i).length), j < k + 1 → lx lt id ((rl lt i)[j]'h) i = true) := fun e j h hj => by
              by_cases q : j = k
              · subst q; exact e
              · exact HF.out j h (by omega)
            have ZF : Hid (lx lt id ((rl lt i)[k]) i = false → ∀ h : k < (rl lt i).length, lx lt id ((rl lt i)[k]'h) i = false) := fun e h => e
            generalize lx lt id ((rl lt i)[k]) i = z at *
            have Q9 : Hid (wr.cell? ⟨g, k, none⟩ = some (.int .i64 (((rl lt i)[k] : Nat) : Int))) := q9
            clear q9 hx9
            generalize (rl lt i)[k] = x9 at *
            have KQ : Hid (∀ V, Below wr.heap.size wr V → (Below wr.heap.size wr V ∧ V.cell? ⟨B0, 0, none⟩ = some (.string nm) ∧ V.cell? ⟨B0, 1, none⟩ = some (.slice (some ⟨b, o, none⟩) n c) ∧ V.cell? ⟨B0, 2, none⟩ = some (.int .i64 r) ∧ V.cell? ⟨B0, 3, none⟩ = some (.int .i64 s) ∧ V.cell? ⟨B0, 4, none⟩ = some (.int .i64 m) ∧ V.cell? ⟨g, k, none⟩ = some (.int .i64 (x9 : Int)))) := fun V hV => by
              obtain ⟨a1, a2, a3, a4, a5⟩ := KP.out V (BWr.out.trans (hV.mono BWr.out.size))
              exact ⟨hV, a1, a2, a3, a4, a5, cell_keep Q9.out hV⟩
            have sB : Hid (∀ V V', Below V.heap.size V V' → Below wr.heap.size wr V → Below wr.heap.size wr V') := fun V V' h h' => h'.trans (h.mono h'.size)
            clear hkl
            go_wp2_with fail
            go_region_held3 (fun V => Below wr.heap.size wr V ∧ V.cell? ⟨B0, 0, none⟩ = some (.string nm) ∧ V.cell? ⟨B0, 1, none⟩ = some (.slice (some ⟨b, o, none⟩) n c) ∧ V.cell? ⟨B0, 2, none⟩ = some (.int .i64 r) ∧ V.cell? ⟨B0, 3, none⟩ = some (.int .i64 s) ∧ V.cell? ⟨B0, 4, none⟩ = some (.int .i64 m) ∧ V.cell? ⟨g, k, none⟩ = some (.int .i64 (x9 : Int)))
              (first | exact KQ.out _ (dB _) | assumption | exact KQ.out _ B7.out | fail)
              (first
                | (go_at_call 12; refine (AC.out _ (dB _)).mono ?_; rintro e w7 ⟨rfl, hB7⟩; have B7 : Hid (Below wr.heap.size wr w7) := sB.out _ _ hB7 (dB _); clear hB7)
                | fail)
            cases z with
            | true =>
              go_wp2_with fail
              go_roundg (gk - 1)
              case measure => omega
              case rel => exact ⟨k + 1, by omega, by go_num, ZT.out (by simp), B3.out.trans (B7.out.mono B3.out.size)⟩
            | false =>
              have HX : Hid (∀ h : k < (rl lt i).length, lx lt id ((rl lt i)[k]'h) i = false) := ZF.out (by simp)
              have BW : Hid (Below U.heap.size U w7) := BWr.out.trans (B7.out.mono BWr.out.size)
              have hIL2 : Hid (IL w7 (some ⟨g, 0, none⟩) (zi (rl lt i))) := hIL.out.of_below B7.out
              clear hIL
              have hIL : Hid (IL w7 (some ⟨g, 0, none⟩) (zi (rl lt i))) := hIL2.out
              clear hIL2 KQ AC ZT ZF Q9 sB B3 BWr B7 B2 hIL0
              go_wp2_with fail
              refine wp_region_noPanic ?_
              refine wp_region_held_drew (S := fun V => True) (by kernel_rfl) trivial (fun hH => ?_)
              have DB : Hid (Below w7.heap.size w7 w7.drew) := dB w7
              generalize hV0 : w7.drew = V0 at *
              clear hV0
              have q1 : ¬ cl < k := by omega
              have q2 : k ≤ i := by omega
              have q3 : ¬ cl = k := by omega
              refine tk (i := 1) (v := .slice (some ⟨g, 0, none⟩) i cl) rfl (by kernel_rfl) (fun _ _ _ h => h) (by kernel_rfl) ?_ hH ?_
              · intro V hS; go_simp
              simp only [Act.put, y1, y2, y3, y4, y5, y6, y7]
              refine tk (i := 2) (v := .int .i64 (k : Int)) rfl (by kernel_rfl) (fun _ _ _ h => h) (by kernel_rfl) ?_ hH ?_
              · intro V hS; go_simp
              simp only [Act.put, y1, y2, y3, y4, y5, y6, y7]
              refine tk (i := 3) (v := .slice (some ⟨g, 0, none⟩) k cl) rfl (by kernel_rfl) (fun _ _ _ h => h) (by kernel_rfl) ?_ hH ?_
              · intro V hS; go_simp
              simp only [Act.put, y1, y2, y3, y4, y5, y6, y7]
              refine tk (i := 5) (v := .int .i64 (i : Int)) rfl (by kernel_rfl) (fun _ _ _ h => h) (by kernel_rfl) ?_ hH ?_
              · intro V hS; go_simp
              simp only [Act.put, y1, y2, y3, y4, y5, y6, y7]
              refine tk (i := 8) (v := .slice (some ⟨g, 0, none⟩) i cl) rfl (by kernel_rfl) (fun _ _ _ h => h) (by kernel_rfl) ?_ hH ?_
              · intro V hS; go_simp
              simp only [Act.put, y1, y2, y3, y4, y5, y6, y7]
              refine tk (i := 9) (v := .int .i64 (k : Int)) rfl (by kernel_rfl) (fun _ _ _ h => h) (by kernel_rfl) ?_ hH ?_
              · intro V hS; go_simp
              simp only [Act.put, y1, y2, y3, y4, y5, y6, y7]
              refine tk (i := 10) (v := .slice (some ⟨g, k, none⟩) (i - k) (cl - k)) rfl (by kernel_rfl) (fun _ _ _ h => h) (by kernel_rfl) ?_ hH ?_
              · intro V hS; go_simp
              simp only [Act.put, y1, y2, y3, y4, y5, y6, y7]
              refine wpAnyH_ready (rs := [0, 6]) (by kernel_rfl) (by simp) ?_
              refine AllReadyH.cons rfl (fun K hK => ?_) (AllReadyH.cons rfl (fun K hK => ?_) AllReadyH.nil)
              · clear hH
                have O0 : Hid (OW w7 (V0.alloc (.cells #[] 3)) (.slice (some ⟨V0.heap.size, 0, none⟩) 0 0) []) := OW.new DB.out
                have D1 : Hid (Below w7.heap.size w7 (V0.alloc (.cells #[] 3))) := O0.out.bl
                go_simp
                refine hK.out _ _ trivial (fun hH => ?_)
                clear hK K
                clear DB
                have DB : Hid (Below w7.heap.size w7 (V0.alloc (.cells #[] 3))) := D1.out
                clear D1
                have LZ : Hid (V0.heap.size < (V0.alloc (.cells #[] 3)).heap.size) := by show _ < _; simp
                generalize V0.heap.size = G0 at *
                generalize V0.alloc (.cells #[] 3) = V1 at *
                try simp only [Act.put, y1, y2, y3, y4, y5, y6, y7]
                refine wpAnyH_ready (rs := [4, 6]) (by kernel_rfl) (by simp) ?_
                refine AllReadyH.cons rfl (fun K hK => ?_) (AllReadyH.cons rfl (fun K hK => ?_) AllReadyH.nil)
                · clear hH
                  obtain ⟨v41, V2, hr, ho, hk6⟩ := O0.out.app (a := some ⟨g, 0, none⟩) (c := cl) (k := k) (m := (zi (rl lt i)).take k) (by rw [List.length_take, zi_len, rl_length]; omega) (fun e => by cases e) ((hIL.out.of_below O0.out.bl).take k) (by simp only [List.length_nil]; omega) 25
                  have Ov41 : Hid (OW w7 V2 v41 (([] : List Int) ++ ((zi (rl lt i)).take k))) := ho
                  refine wp_append_at (.tmp 37) (.tmp 40) 25 rfl (.slice (some ⟨G0, 0, none⟩) 0 0) v41 _ rfl rfl hr ?_
                  refine hK.out _ _ trivial (fun hH => ?_)
                  clear hK K hr ho hk6 O0
                  try clear DB
                  have DB : Hid (Below w7.heap.size w7 V2) := Ov41.out.bl
                  try simp only [Act.put, y1, y2, y3, y4, y5, y6, y7]
                  clear LZ
                  refine wpAnyH_ready (rs := [6]) (by kernel_rfl) (by simp) ?_
                  refine AllReadyH.cons rfl (fun K hK => ?_) AllReadyH.nil
                  clear hH
                  have G6c : Hid (IL (V2.alloc (.cells #[.int .i64 (i : Int)] 3)) (some ⟨V2.heap.size, 0, none⟩) [(i : Int)]) := IL.one _ _
                  have G6l : Hid (V2.heap.size < (V2.alloc (.cells #[.int .i64 (i : Int)] 3)).heap.size) := by show _ < _; simp
                  have D1 : Hid (Below w7.heap.size w7 (V2.alloc (.cells #[.int .i64 (i : Int)] 3))) := DB.out.alloc DB.out.size _
                  have O9 : Hid (OW w7 (V2.alloc (.cells #[.int .i64 (i : Int)] 3)) v41 (([] : List Int) ++ ((zi (rl lt i)).take k))) := Ov41.out.alloc _
                  clear Ov41
                  have Ov41 : Hid (OW w7 (V2.alloc (.cells #[.int .i64 (i : Int)] 3)) v41 (([] : List Int) ++ ((zi (rl lt i)).take k))) := O9.out
                  clear O9
                  go_simp
                  refine hK.out _ _ trivial (fun hH => ?_)
                  clear hK K DB
                  have DB : Hid (Below w7.heap.size w7 (V2.alloc (.cells #[.int .i64 (i : Int)] 3))) := D1.out
                  clear D1
                  generalize V2.heap.size = G6 at *
                  generalize V2.alloc (.cells #[.int .i64 (i : Int)] 3) = V3 at *
                  try simp only [Act.put, y1, y2, y3, y4, y5, y6, y7]
                  refine wpAnyH_ready (rs := [7]) (by kernel_rfl) (by simp) ?_
                  refine AllReadyH.cons rfl (fun K hK => ?_) AllReadyH.nil
                  clear hH
                  obtain ⟨v44, V7, hr, ho, hk6⟩ := Ov41.out.app (a := some ⟨G6, 0, none⟩) (c := 1) (k := 1) (m := [(i : Int)]) rfl (fun e => by cases e) G6c.out (by simp only [List.length_append, List.length_nil, List.length_take]; omega) 25
                  have Ov44 : Hid (OW w7 V7 v44 ((([] : List Int) ++ ((zi (rl lt i)).take k)) ++ [(i : Int)])) := ho
                  refine wp_append_at (.tmp 41) (.tmp 43) 25 rfl v41 v44 _ rfl rfl hr ?_
                  refine hK.out _ _ trivial (fun hH => ?_)
                  clear hK K hr ho hk6 Ov41
                  try clear DB
                  have DB : Hid (Below w7.heap.size w7 V7) := Ov44.out.bl
                  try simp only [Act.put, y1, y2, y3, y4, y5, y6, y7]
                  clear G6c
                  try clear G6n
                  try clear G6l
                  refine wpAnyH_ready (rs := [11]) (by kernel_rfl) (by simp) ?_
                  refine AllReadyH.cons rfl (fun K hK => ?_) AllReadyH.nil
                  clear hH
                  obtain ⟨v48, V9, hr, ho, hk6⟩ := Ov44.out.app (a := some ⟨g, k, none⟩) (c := cl - k) (k := i - k) (m := (zi (rl lt i)).drop k) (by rw [List.length_drop, zi_len, rl_length]) (fun e => by cases e) (by have q := (hIL.out.of_below Ov44.out.bl).drop (k := k); rw [Nat.zero_add] at q; exact q) (by simp only [List.length_append, List.length_nil, List.length_take, List.length_cons]; omega) 25
                  have Ov48 : Hid (OW w7 V9 v48 (((([] : List Int) ++ ((zi (rl lt i)).take k)) ++ [(i : Int)]) ++ ((zi (rl lt i)).drop k))) := ho
                  refine wp_append_at (.tmp 44) (.tmp 47) 25 rfl v44 v48 _ rfl rfl hr ?_
                  refine hK.out _ _ trivial (fun hH => ?_)
                  clear hK K hr ho hk6 Ov44
                  try clear DB
                  have DB : Hid (Below w7.heap.size w7 V9) := Ov48.out.bl
                  try simp only [Act.put, y1, y2, y3, y4, y5, y6, y7]
                  refine tk (i := 12) (v := v48) rfl (by kernel_rfl) (fun _ _ _ h => h) (by kernel_rfl) ?_ hH ?_
                  · intro V hS; go_simp
                  simp only [Act.put, y1, y2, y3, y4, y5, y6, y7]
                  refine wpAnyH_done (by kernel_rfl) ?_ _
                  refine NoPanic.normal ?_
                  have HL : Hid (([] : List Int) ++ (zi (rl lt i)).take k ++ [(i : Int)] ++ (zi (rl lt i)).drop k = zi (rl lt (i + 1))) := by show _ = _; rw [List.nil_append]; exact rl_step lt i k (by omega) HF.out HX.out
                  have LZ2 : Hid (LS V9 v48 (zi (rl lt (i + 1)))) := by rw [← HL.out]; exact Ov48.out.ls
                  have BZ : Hid (Below U.heap.size U V9) := BW.out.trans (Ov48.out.bl.mono BW.out.size)
                  clear Ov48 HL DB hH
                  go_wp2_with fail
                  go_roundg (G1 - 1)
                  case measure => omega
                  case rel => exact ⟨i + 1, v48, by omega, by go_num, rfl, LZ2.out, BZ.out⟩
                · clear hH
                  have G6c : Hid (IL (V1.alloc (.cells #[.int .i64 (i : Int)] 3)) (some ⟨V1.heap.size, 0, none⟩) [(i : Int)]) := IL.one _ _
                  have G6l : Hid (V1.heap.size < (V1.alloc (.cells #[.int .i64 (i : Int)] 3)).heap.size) := by show _ < _; simp
                  have O9 : Hid (OW w7 (V1.alloc (.cells #[.int .i64 (i : Int)] 3)) (.slice (some ⟨G0, 0, none⟩) 0 0) []) := O0.out.alloc _
                  have G6n : Hid (some V1.heap.size ≠ Value.ownBlock (.slice (some ⟨G0, 0, none⟩) 0 0)) := by have := LZ.out; simp only [Value.ownBlock, ne_eq, Option.some.injEq]; show ¬ _; omega
                  have D1 : Hid (Below w7.heap.size w7 (V1.alloc (.cells #[.int .i64 (i : Int)] 3))) := DB.out.alloc DB.out.size _
                  go_simp
                  refine hK.out _ _ trivial (fun hH => ?_)
                  clear hK K DB
                  have DB : Hid (Below w7.heap.size w7 (V1.alloc (.cells #[.int .i64 (i : Int)] 3))) := D1.out
                  clear D1
                  clear O0
                  have O0 : Hid (OW w7 (V1.alloc (.cells #[.int .i64 (i : Int)] 3)) (.slice (some ⟨G0, 0, none⟩) 0 0) []) := O9.out
                  clear O9
                  generalize V1.heap.size = G6 at *
                  generalize V1.alloc (.cells #[.int .i64 (i : Int)] 3) = V2 at *
                  try simp only [Act.put, y1, y2, y3, y4, y5, y6, y7]
                  clear LZ
                  refine wpAnyH_ready (rs := [4]) (by kernel_rfl) (by simp) ?_
                  refine AllReadyH.cons rfl (fun K hK => ?_) AllReadyH.nil
                  clear hH
                  obtain ⟨v41, V3, hr, ho, hk6⟩ := O0.out.app (a := some ⟨g, 0, none⟩) (c := cl) (k := k) (m := (zi (rl lt i)).take k) (by rw [List.length_take, zi_len, rl_length]; omega) (fun e => by cases e) ((hIL.out.of_below O0.out.bl).take k) (by simp only [List.length_nil]; omega) 25
                  have Ov41 : Hid (OW w7 V3 v41 (([] : List Int) ++ ((zi (rl lt i)).take k))) := ho
                  have G8 : Hid (IL V3 (some ⟨G6, 0, none⟩) [(i : Int)]) := G6c.out.keep (fun u hu => hk6 _ _ _ hu G6n.out)
                  refine wp_append_at (.tmp 37) (.tmp 40) 25 rfl (.slice (some ⟨G0, 0, none⟩) 0 0) v41 _ rfl rfl hr ?_
                  refine hK.out _ _ trivial (fun hH => ?_)
                  clear hK K hr ho hk6 O0
                  clear G6c G6n
                  have G6c : Hid (IL V3 (some ⟨G6, 0, none⟩) [(i : Int)]) := G8.out
                  clear G8
                  try clear DB
                  have DB : Hid (Below w7.heap.size w7 V3) := Ov41.out.bl
                  try simp only [Act.put, y1, y2, y3, y4, y5, y6, y7]
                  refine wpAnyH_ready (rs := [7]) (by kernel_rfl) (by simp) ?_
                  refine AllReadyH.cons rfl (fun K hK => ?_) AllReadyH.nil
                  clear hH
                  obtain ⟨v44, V7, hr, ho, hk6⟩ := Ov41.out.app (a := some ⟨G6, 0, none⟩) (c := 1) (k := 1) (m := [(i : Int)]) rfl (fun e => by cases e) G6c.out (by simp only [List.length_append, List.length_nil, List.length_take]; omega) 25
                  have Ov44 : Hid (OW w7 V7 v44 ((([] : List Int) ++ ((zi (rl lt i)).take k)) ++ [(i : Int)])) := ho
                  refine wp_append_at (.tmp 41) (.tmp 43) 25 rfl v41 v44 _ rfl rfl hr ?_
                  refine hK.out _ _ trivial (fun hH => ?_)
                  clear hK K hr ho hk6 Ov41
                  try clear DB
                  have DB : Hid (Below w7.heap.size w7 V7) := Ov44.out.bl
                  try simp only [Act.put, y1, y2, y3, y4, y5, y6, y7]
                  clear G6c
                  try clear G6n
                  try clear G6l
                  refine wpAnyH_ready (rs := [11]) (by kernel_rfl) (by simp) ?_
                  refine AllReadyH.cons rfl (fun K hK => ?_) AllReadyH.nil
                  clear hH
                  obtain ⟨v48, V9, hr, ho, hk6⟩ := Ov44.out.app (a := some ⟨g, k, none⟩) (c := cl - k) (k := i - k) (m := (zi (rl lt i)).drop k) (by rw [List.length_drop, zi_len, rl_length]) (fun e => by cases e) (by have q := (hIL.out.of_below Ov44.out.bl).drop (k := k); rw [Nat.zero_add] at q; exact q) (by simp only [List.length_append, List.length_nil, List.length_take, List.length_cons]; omega) 25
                  have Ov48 : Hid (OW w7 V9 v48 (((([] : List Int) ++ ((zi (rl lt i)).take k)) ++ [(i : Int)]) ++ ((zi (rl lt i)).drop k))) := ho
                  refine wp_append_at (.tmp 44) (.tmp 47) 25 rfl v44 v48 _ rfl rfl hr ?_
                  refine hK.out _ _ trivial (fun hH => ?_)
                  clear hK K hr ho hk6 Ov44
                  try clear DB
                  have DB : Hid (Below w7.heap.size w7 V9) := Ov48.out.bl
                  try simp only [Act.put, y1, y2, y3, y4, y5, y6, y7]
                  refine tk (i := 12) (v := v48) rfl (by kernel_rfl) (fun _ _ _ h => h) (by kernel_rfl) ?_ hH ?_
                  · intro V hS; go_simp
                  simp only [Act.put, y1, y2, y3, y4, y5, y6, y7]
                  refine wpAnyH_done (by kernel_rfl) ?_ _
                  refine NoPanic.normal ?_
                  have HL : Hid (([] : List Int) ++ (zi (rl lt i)).take k ++ [(i : Int)] ++ (zi (rl lt i)).drop k = zi (rl lt (i + 1))) := by show _ = _; rw [List.nil_append]; exact rl_step lt i k (by omega) HF.out HX.out
                  have LZ2 : Hid (LS V9 v48 (zi (rl lt (i + 1)))) := by rw [← HL.out]; exact Ov48.out.ls
                  have BZ : Hid (Below U.heap.size U V9) := BW.out.trans (Ov48.out.bl.mono BW.out.size)
                  clear Ov48 HL DB hH
                  go_wp2_with fail
                  go_roundg (G1 - 1)
                  case measure => omega
                  case rel => exact ⟨i + 1, v48, by omega, by go_num, rfl, LZ2.out, BZ.out⟩
              · clear hH
                have G6c : Hid (IL (V0.alloc (.cells #[.int .i64 (i : Int)] 3)) (some ⟨V0.heap.size, 0, none⟩) [(i : Int)]) := IL.one _ _
                have G6l : Hid (V0.heap.size < (V0.alloc (.cells #[.int .i64 (i : Int)] 3)).heap.size) := by show _ < _; simp
                have D1 : Hid (Below w7.heap.size w7 (V0.alloc (.cells #[.int .i64 (i : Int)] 3))) := DB.out.alloc DB.out.size _
                go_simp
                refine hK.out _ _ trivial (fun hH => ?_)
                clear hK K DB
                have DB : Hid (Below w7.heap.size w7 (V0.alloc (.cells #[.int .i64 (i : Int)] 3))) := D1.out
                clear D1
                generalize V0.heap.size = G6 at *
                generalize V0.alloc (.cells #[.int .i64 (i : Int)] 3) = V1 at *
                try simp only [Act.put, y1, y2, y3, y4, y5, y6, y7]
                refine wpAnyH_ready (rs := [0]) (by kernel_rfl) (by simp) ?_
                refine AllReadyH.cons rfl (fun K hK => ?_) AllReadyH.nil
                clear hH
                have O0 : Hid (OW w7 (V1.alloc (.cells #[] 3)) (.slice (some ⟨V1.heap.size, 0, none⟩) 0 0) []) := OW.new DB.out
                have G7 : Hid (IL (V1.alloc (.cells #[] 3)) (some ⟨G6, 0, none⟩) [(i : Int)] ∧ G6 < V1.heap.size) := ⟨G6c.out.of_below ((Below.refl _ _).alloc (Nat.le_refl _) _), G6l.out⟩
                have D1 : Hid (Below w7.heap.size w7 (V1.alloc (.cells #[] 3))) := O0.out.bl
                go_simp
                refine hK.out _ _ trivial (fun hH => ?_)
                clear hK K
                have G6n : Hid (some G6 ≠ Value.ownBlock (.slice (some ⟨V1.heap.size, 0, none⟩) 0 0)) := by have := G7.out.2; simp only [Value.ownBlock, ne_eq, Option.some.injEq]; show ¬ _; omega
                replace G6c : Hid (IL (V1.alloc (.cells #[] 3)) (some ⟨G6, 0, none⟩) [(i : Int)]) := G7.out.1
                clear G7 G6l
                clear DB
                have DB : Hid (Below w7.heap.size w7 (V1.alloc (.cells #[] 3))) := D1.out
                clear D1
                have LZ : Hid (V1.heap.size < (V1.alloc (.cells #[] 3)).heap.size) := by show _ < _; simp
                generalize V1.heap.size = G0 at *
                generalize V1.alloc (.cells #[] 3) = V2 at *
                try simp only [Act.put, y1, y2, y3, y4, y5, y6, y7]
                clear LZ
                refine wpAnyH_ready (rs := [4]) (by kernel_rfl) (by simp) ?_
                refine AllReadyH.cons rfl (fun K hK => ?_) AllReadyH.nil
                clear hH
                obtain ⟨v41, V3, hr, ho, hk6⟩ := O0.out.app (a := some ⟨g, 0, none⟩) (c := cl) (k := k) (m := (zi (rl lt i)).take k) (by rw [List.length_take, zi_len, rl_length]; omega) (fun e => by cases e) ((hIL.out.of_below O0.out.bl).take k) (by simp only [List.length_nil]; omega) 25
                have Ov41 : Hid (OW w7 V3 v41 (([] : List Int) ++ ((zi (rl lt i)).take k))) := ho
                have G8 : Hid (IL V3 (some ⟨G6, 0, none⟩) [(i : Int)]) := G6c.out.keep (fun u hu => hk6 _ _ _ hu G6n.out)
                refine wp_append_at (.tmp 37) (.tmp 40) 25 rfl (.slice (some ⟨G0, 0, none⟩) 0 0) v41 _ rfl rfl hr ?_
                refine hK.out _ _ trivial (fun hH => ?_)
                clear hK K hr ho hk6 O0
                clear G6c G6n
                have G6c : Hid (IL V3 (some ⟨G6, 0, none⟩) [(i : Int)]) := G8.out
                clear G8
                try clear DB
                have DB : Hid (Below w7.heap.size w7 V3) := Ov41.out.bl
                try simp only [Act.put, y1, y2, y3, y4, y5, y6, y7]
                refine wpAnyH_ready (rs := [7]) (by kernel_rfl) (by simp) ?_
                refine AllReadyH.cons rfl (fun K hK => ?_) AllReadyH.nil
                clear hH
                obtain ⟨v44, V7, hr, ho, hk6⟩ := Ov41.out.app (a := some ⟨G6, 0, none⟩) (c := 1) (k := 1) (m := [(i : Int)]) rfl (fun e => by cases e) G6c.out (by simp only [List.length_append, List.length_nil, List.length_take]; omega) 25
                have Ov44 : Hid (OW w7 V7 v44 ((([] : List Int) ++ ((zi (rl lt i)).take k)) ++ [(i : Int)])) := ho
                refine wp_append_at (.tmp 41) (.tmp 43) 25 rfl v41 v44 _ rfl rfl hr ?_
                refine hK.out _ _ trivial (fun hH => ?_)
                clear hK K hr ho hk6 Ov41
                try clear DB
                have DB : Hid (Below w7.heap.size w7 V7) := Ov44.out.bl
                try simp only [Act.put, y1, y2, y3, y4, y5, y6, y7]
                clear G6c
                try clear G6n
                try clear G6l
                refine wpAnyH_ready (rs := [11]) (by kernel_rfl) (by simp) ?_
                refine AllReadyH.cons rfl (fun K hK => ?_) AllReadyH.nil
                clear hH
                obtain ⟨v48, V9, hr, ho, hk6⟩ := Ov44.out.app (a := some ⟨g, k, none⟩) (c := cl - k) (k := i - k) (m := (zi (rl lt i)).drop k) (by rw [List.length_drop, zi_len, rl_length]) (fun e => by cases e) (by have q := (hIL.out.of_below Ov44.out.bl).drop (k := k); rw [Nat.zero_add] at q; exact q) (by simp only [List.length_append, List.length_nil, List.length_take, List.length_cons]; omega) 25
                have Ov48 : Hid (OW w7 V9 v48 (((([] : List Int) ++ ((zi (rl lt i)).take k)) ++ [(i : Int)]) ++ ((zi (rl lt i)).drop k))) := ho
                refine wp_append_at (.tmp 44) (.tmp 47) 25 rfl v44 v48 _ rfl rfl hr ?_
                refine hK.out _ _ trivial (fun hH => ?_)
                clear hK K hr ho hk6 Ov44
                try clear DB
                have DB : Hid (Below w7.heap.size w7 V9) := Ov48.out.bl
                try simp only [Act.put, y1, y2, y3, y4, y5, y6, y7]
                refine tk (i := 12) (v := v48) rfl (by kernel_rfl) (fun _ _ _ h => h) (by kernel_rfl) ?_ hH ?_
                · intro V hS; go_simp
                simp only [Act.put, y1, y2, y3, y4, y5, y6, y7]
                refine wpAnyH_done (by kernel_rfl) ?_ _
                refine NoPanic.normal ?_
                have HL : Hid (([] : List Int) ++ (zi (rl lt i)).take k ++ [(i : Int)] ++ (zi (rl lt i)).drop k = zi (rl lt (i + 1))) := by show _ = _; rw [List.nil_append]; exact rl_step lt i k (by omega) HF.out HX.out
                have LZ2 : Hid (LS V9 v48 (zi (rl lt (i + 1)))) := by rw [← HL.out]; exact Ov48.out.ls
                have BZ : Hid (Below U.heap.size U V9) := BW.out.trans (Ov48.out.bl.mono BW.out.size)
                clear Ov48 HL DB hH
                go_wp2_with fail
                go_roundg (G1 - 1)
                case measure => omega
                case rel => exact ⟨i + 1, v48, by omega, by go_num, rfl, LZ2.out, BZ.out⟩
          · have kl : ¬ (k : Int) < (i : Int) := by omega
            have e : k = i := by omega
            have HX : Hid (∀ h : k < (rl lt i).length, lx lt id ((rl lt i)[k]'h) i = false) := fun h => by have := HLN.out; omega
            have BW : Hid (Below U.heap.size U wr.drew) := BWr.out.drew
            have hIL2 : Hid (IL wr.drew (some ⟨g, 0, none⟩) (zi (rl lt i))) := hIL.out.of_below (dB _)
            clear hIL
            have hIL : Hid (IL wr.drew (some ⟨g, 0, none⟩) (zi (rl lt i))) := hIL2.out
            have EK : Hid (k = i) := e
            clear e hIL2 B3 BWr B2 hIL0
            go_wp2_with fail
            refine wp_region_noPanic ?_
            refine wp_region_held_drew (S := fun V => True) (by kernel_rfl) trivial (fun hH => ?_)
            refine tk (i := 0) (v := .int .i64 (k : Int)) rfl (by kernel_rfl) (fun _ _ _ h => h) (by kernel_rfl) ?_ hH ?_
            · intro V hS; go_simp
            simp only [Act.put, y1, y2, y3, y4, y5, y6, y7]
            refine tk (i := 1) (v := .slice (some ⟨g, 0, none⟩) i cl) rfl (by kernel_rfl) (fun _ _ _ h => h) (by kernel_rfl) ?_ hH ?_
            · intro V hS; go_simp
            simp only [Act.put, y1, y2, y3, y4, y5, y6, y7]
            refine tk (i := 2) (v := .int .i64 (i : Int)) rfl (by kernel_rfl) (fun _ _ _ h => h) (by kernel_rfl) ?_ hH ?_
            · intro V hS; go_simp
            simp only [Act.put, y1, y2, y3, y4, y5, y6, y7]
            refine tk (i := 3) (v := .bool false) rfl (by kernel_rfl) (fun _ _ _ h => h) (by kernel_rfl) ?_ hH ?_
            · intro V hS; go_simp
            simp only [Act.put, y1, y2, y3, y4, y5, y6, y7]
            refine tk (i := 4) (v := .bool false) rfl (by kernel_rfl) (fun _ _ _ h => h) (by kernel_rfl) ?_ hH ?_
            · intro V hS; go_simp
            simp only [Act.put, y1, y2, y3, y4, y5, y6, y7]
            refine tkU (i := 5) rfl (by kernel_rfl) (fun _ _ _ h => h) (by kernel_rfl) hH ?_
            simp only [Act.put, y1, y2, y3, y4, y5, y6, y7]
            refine tkU (i := 6) rfl (by kernel_rfl) (fun _ _ _ h => h) (by kernel_rfl) hH ?_
            simp only [Act.put, y1, y2, y3, y4, y5, y6, y7]
            refine tkU (i := 7) rfl (by kernel_rfl) (fun _ _ _ h => h) (by kernel_rfl) hH ?_
            simp only [Act.put, y1, y2, y3, y4, y5, y6, y7]
            refine tkU (i := 8) rfl (by kernel_rfl) (fun _ _ _ h => h) (by kernel_rfl) hH ?_
            simp only [Act.put, y1, y2, y3, y4, y5, y6, y7]
            refine tkU (i := 9) rfl (by kernel_rfl) (fun _ _ _ h => h) (by kernel_rfl) hH ?_
            simp only [Act.put, y1, y2, y3, y4, y5, y6, y7]
            refine tkU (i := 10) rfl (by kernel_rfl) (fun _ _ _ h => h) (by kernel_rfl) hH ?_
            simp only [Act.put, y1, y2, y3, y4, y5, y6, y7]
            refine tkU (i := 11) rfl (by kernel_rfl) (fun _ _ _ h => h) (by kernel_rfl) hH ?_
            simp only [Act.put, y1, y2, y3, y4, y5, y6, y7]
            refine tkU (i := 12) rfl (by kernel_rfl) (fun _ _ _ h => h) (by kernel_rfl) hH ?_
            simp only [Act.put, y1, y2, y3, y4, y5, y6, y7]
            refine tk (i := 13) (v := .bool false) rfl (by kernel_rfl) (fun _ _ _ h => h) (by kernel_rfl) ?_ hH ?_
            · intro V hS; go_simp
            simp only [Act.put, y1, y2, y3, y4, y5, y6, y7]
            refine wpAnyH_done (by kernel_rfl) ?_ _
            refine NoPanic.normal ?_
            generalize wr.drew = X at *
            go_wp2_with fail
            have e := EK.out
            clear EK
            subst e
            by_cases hcl : cl = k
            · have hcl2 := hcl.symm
              clear hcl
              subst hcl2
              refine wp_region_noPanic ?_
              refine wp_region_held_drew (S := fun V => True) (by kernel_rfl) trivial (fun hH => ?_)
              have DB : Hid (Below X.heap.size X X.drew) := dB X
              generalize hV0 : X.drew = V0 at *
              clear hV0
              refine tk (i := 1) (v := .slice (some ⟨g, 0, none⟩) k k) rfl (by kernel_rfl) (fun _ _ _ h => h) (by kernel_rfl) ?_ hH ?_
              · intro V hS; go_simp
              simp only [Act.put, y1, y2, y3, y4, y5, y6, y7]
              refine tk (i := 2) (v := .int .i64 (k : Int)) rfl (by kernel_rfl) (fun _ _ _ h => h) (by kernel_rfl) ?_ hH ?_
              · intro V hS; go_simp
              simp only [Act.put, y1, y2, y3, y4, y5, y6, y7]
              refine tk (i := 3) (v := .slice (some ⟨g, 0, none⟩) k k) rfl (by kernel_rfl) (fun _ _ _ h => h) (by kernel_rfl) ?_ hH ?_
              · intro V hS; go_simp
              simp only [Act.put, y1, y2, y3, y4, y5, y6, y7]
              refine tk (i := 5) (v := .int .i64 (k : Int)) rfl (by kernel_rfl) (fun _ _ _ h => h) (by kernel_rfl) ?_ hH ?_
              · intro V hS; go_simp
              simp only [Act.put, y1, y2, y3, y4, y5, y6, y7]
              refine tk (i := 8) (v := .slice (some ⟨g, 0, none⟩) k k) rfl (by kernel_rfl) (fun _ _ _ h => h) (by kernel_rfl) ?_ hH ?_
              · intro V hS; go_simp
              simp only [Act.put, y1, y2, y3, y4, y5, y6, y7]
              refine tk (i := 9) (v := .int .i64 (k : Int)) rfl (by kernel_rfl) (fun _ _ _ h => h) (by kernel_rfl) ?_ hH ?_
              · intro V hS; go_simp
              simp only [Act.put, y1, y2, y3, y4, y5, y6, y7]
              refine tk (i := 10) (v := .slice (some ⟨g, 0, none⟩) 0 0) rfl (by kernel_rfl) (fun _ _ _ h => h) (by kernel_rfl) ?_ hH ?_
              · intro V hS; go_simp
              simp only [Act.put, y1, y2, y3, y4, y5, y6, y7]
              refine wpAnyH_ready (rs := [0, 6]) (by kernel_rfl) (by simp) ?_
              refine AllReadyH.cons rfl (fun K hK => ?_) (AllReadyH.cons rfl (fun K hK => ?_) AllReadyH.nil)
              · clear hH
                have O0 : Hid (OW X (V0.alloc (.cells #[] 3)) (.slice (some ⟨V0.heap.size, 0, none⟩) 0 0) []) := OW.new DB.out
                have D1 : Hid (Below X.heap.size X (V0.alloc (.cells #[] 3))) := O0.out.bl
                go_simp
                refine hK.out _ _ trivial (fun hH => ?_)
                clear hK K
                clear DB
                have DB : Hid (Below X.heap.size X (V0.alloc (.cells #[] 3))) := D1.out
                clear D1
                have LZ : Hid (V0.heap.size < (V0.alloc (.cells #[] 3)).heap.size) := by show _ < _; simp
                generalize V0.heap.size = G0 at *
                generalize V0.alloc (.cells #[] 3) = V1 at *
                try simp only [Act.put, y1, y2, y3, y4, y5, y6, y7]
                refine wpAnyH_ready (rs := [4, 6]) (by kernel_rfl) (by simp) ?_
                refine AllReadyH.cons rfl (fun K hK => ?_) (AllReadyH.cons rfl (fun K hK => ?_) AllReadyH.nil)
                · clear hH
                  obtain ⟨v41, V2, hr, ho, hk6⟩ := O0.out.app (a := some ⟨g, 0, none⟩) (c := k) (k := k) (m := (zi (rl lt k)).take k) (by rw [List.length_take, zi_len, rl_length]; omega) (fun e => by cases e) ((hIL.out.of_below O0.out.bl).take k) (by simp only [List.length_nil]; omega) 25
                  have Ov41 : Hid (OW X V2 v41 (([] : List Int) ++ ((zi (rl lt k)).take k))) := ho
                  refine wp_append_at (.tmp 37) (.tmp 40) 25 rfl (.slice (some ⟨G0, 0, none⟩) 0 0) v41 _ rfl rfl hr ?_
                  refine hK.out _ _ trivial (fun hH => ?_)
                  clear hK K hr ho hk6 O0
                  try clear DB
                  have DB : Hid (Below X.heap.size X V2) := Ov41.out.bl
                  try simp only [Act.put, y1, y2, y3, y4, y5, y6, y7]
                  clear LZ
                  refine wpAnyH_ready (rs := [6]) (by kernel_rfl) (by simp) ?_
                  refine AllReadyH.cons rfl (fun K hK => ?_) AllReadyH.nil
                  clear hH
                  have G6c : Hid (IL (V2.alloc (.cells #[.int .i64 (k : Int)] 3)) (some ⟨V2.heap.size, 0, none⟩) [(k : Int)]) := IL.one _ _
                  have G6l : Hid (V2.heap.size < (V2.alloc (.cells #[.int .i64 (k : Int)] 3)).heap.size) := by show _ < _; simp
                  have D1 : Hid (Below X.heap.size X (V2.alloc (.cells #[.int .i64 (k : Int)] 3))) := DB.out.alloc DB.out.size _
                  have O9 : Hid (OW X (V2.alloc (.cells #[.int .i64 (k : Int)] 3)) v41 (([] : List Int) ++ ((zi (rl lt k)).take k))) := Ov41.out.alloc _
                  clear Ov41
                  have Ov41 : Hid (OW X (V2.alloc (.cells #[.int .i64 (k : Int)] 3)) v41 (([] : List Int) ++ ((zi (rl lt k)).take k))) := O9.out
                  clear O9
                  go_simp
                  refine hK.out _ _ trivial (fun hH => ?_)
                  clear hK K DB
                  have DB : Hid (Below X.heap.size X (V2.alloc (.cells #[.int .i64 (k : Int)] 3))) := D1.out
                  clear D1
                  generalize V2.heap.size = G6 at *
                  generalize V2.alloc (.cells #[.int .i64 (k : Int)] 3) = V3 at *
                  try simp only [Act.put, y1, y2, y3, y4, y5, y6, y7]
                  refine wpAnyH_ready (rs := [7]) (by kernel_rfl) (by simp) ?_
                  refine AllReadyH.cons rfl (fun K hK => ?_) AllReadyH.nil
                  clear hH
                  obtain ⟨v44, V7, hr, ho, hk6⟩ := Ov41.out.app (a := some ⟨G6, 0, none⟩) (c := 1) (k := 1) (m := [(k : Int)]) rfl (fun e => by cases e) G6c.out (by simp only [List.length_append, List.length_nil, List.length_take]; omega) 25
                  have Ov44 : Hid (OW X V7 v44 ((([] : List Int) ++ ((zi (rl lt k)).take k)) ++ [(k : Int)])) := ho
                  refine wp_append_at (.tmp 41) (.tmp 43) 25 rfl v41 v44 _ rfl rfl hr ?_
                  refine hK.out _ _ trivial (fun hH => ?_)
                  clear hK K hr ho hk6 Ov41
                  try clear DB
                  have DB : Hid (Below X.heap.size X V7) := Ov44.out.bl
                  try simp only [Act.put, y1, y2, y3, y4, y5, y6, y7]
                  clear G6c
                  try clear G6n
                  try clear G6l
                  refine wpAnyH_ready (rs := [11]) (by kernel_rfl) (by simp) ?_
                  refine AllReadyH.cons rfl (fun K hK => ?_) AllReadyH.nil
                  clear hH
                  obtain ⟨v48, V9, hr, ho, hk6⟩ := Ov44.out.app (a := some ⟨g, 0, none⟩) (c := 0) (k := 0) (m := (zi (rl lt k)).drop k) (by rw [List.length_drop, zi_len, rl_length]; omega) (fun e => by cases e) (by rw [List.drop_eq_nil_of_le (by rw [zi_len, rl_length]; omega)]; exact IL.nil _ _) (by simp only [List.length_append, List.length_nil, List.length_take, List.length_cons]; omega) 25
                  have Ov48 : Hid (OW X V9 v48 (((([] : List Int) ++ ((zi (rl lt k)).take k)) ++ [(k : Int)]) ++ ((zi (rl lt k)).drop k))) := ho
                  refine wp_append_at (.tmp 44) (.tmp 47) 25 rfl v44 v48 _ rfl rfl hr ?_
                  refine hK.out _ _ trivial (fun hH => ?_)
                  clear hK K hr ho hk6 Ov44
                  try clear DB
                  have DB : Hid (Below X.heap.size X V9) := Ov48.out.bl
                  try simp only [Act.put, y1, y2, y3, y4, y5, y6, y7]
                  refine tk (i := 12) (v := v48) rfl (by kernel_rfl) (fun _ _ _ h => h) (by kernel_rfl) ?_ hH ?_
                  · intro V hS; go_simp
                  simp only [Act.put, y1, y2, y3, y4, y5, y6, y7]
                  refine wpAnyH_done (by kernel_rfl) ?_ _
                  refine NoPanic.normal ?_
                  have HL : Hid (([] : List Int) ++ (zi (rl lt k)).take k ++ [(k : Int)] ++ (zi (rl lt k)).drop k = zi (rl lt (k + 1))) := by show _ = _; rw [List.nil_append]; exact rl_step lt k k (by omega) HF.out HX.out
                  have LZ2 : Hid (LS V9 v48 (zi (rl lt (k + 1)))) := by rw [← HL.out]; exact Ov48.out.ls
                  have BZ : Hid (Below U.heap.size U V9) := BW.out.trans (Ov48.out.bl.mono BW.out.size)
                  clear Ov48 HL DB hH
                  go_wp2_with fail
                  go_roundg (G1 - 1)
                  case measure => omega
                  case rel => exact ⟨k + 1, v48, by omega, by go_num, rfl, LZ2.out, BZ.out⟩
                · clear hH
                  have G6c : Hid (IL (V1.alloc (.cells #[.int .i64 (k : Int)] 3)) (some ⟨V1.heap.size, 0, none⟩) [(k : Int)]) := IL.one _ _
                  have G6l : Hid (V1.heap.size < (V1.alloc (.cells #[.int .i64 (k : Int)] 3)).heap.size) := by show _ < _; simp
                  have O9 : Hid (OW X (V1.alloc (.cells #[.int .i64 (k : Int)] 3)) (.slice (some ⟨G0, 0, none⟩) 0 0) []) := O0.out.alloc _
                  have G6n : Hid (some V1.heap.size ≠ Value.ownBlock (.slice (some ⟨G0, 0, none⟩) 0 0)) := by have := LZ.out; simp only [Value.ownBlock, ne_eq, Option.some.injEq]; show ¬ _; omega
                  have D1 : Hid (Below X.heap.size X (V1.alloc (.cells #[.int .i64 (k : Int)] 3))) := DB.out.alloc DB.out.size _
                  go_simp
                  refine hK.out _ _ trivial (fun hH => ?_)
                  clear hK K DB
                  have DB : Hid (Below X.heap.size X (V1.alloc (.cells #[.int .i64 (k : Int)] 3))) := D1.out
                  clear D1
                  clear O0
                  have O0 : Hid (OW X (V1.alloc (.cells #[.int .i64 (k : Int)] 3)) (.slice (some ⟨G0, 0, none⟩) 0 0) []) := O9.out
                  clear O9
                  generalize V1.heap.size = G6 at *
                  generalize V1.alloc (.cells #[.int .i64 (k : Int)] 3) = V2 at *
                  try simp only [Act.put, y1, y2, y3, y4, y5, y6, y7]
                  clear LZ
                  refine wpAnyH_ready (rs := [4]) (by kernel_rfl) (by simp) ?_
                  refine AllReadyH.cons rfl (fun K hK => ?_) AllReadyH.nil
                  clear hH
                  obtain ⟨v41, V3, hr, ho, hk6⟩ := O0.out.app (a := some ⟨g, 0, none⟩) (c := k) (k := k) (m := (zi (rl lt k)).take k) (by rw [List.length_take, zi_len, rl_length]; omega) (fun e => by cases e) ((hIL.out.of_below O0.out.bl).take k) (by simp only [List.length_nil]; omega) 25
                  have Ov41 : Hid (OW X V3 v41 (([] : List Int) ++ ((zi (rl lt k)).take k))) := ho
                  have G8 : Hid (IL V3 (some ⟨G6, 0, none⟩) [(k : Int)]) := G6c.out.keep (fun u hu => hk6 _ _ _ hu G6n.out)
                  refine wp_append_at (.tmp 37) (.tmp 40) 25 rfl (.slice (some ⟨G0, 0, none⟩) 0 0) v41 _ rfl rfl hr ?_
                  refine hK.out _ _ trivial (fun hH => ?_)
                  clear hK K hr ho hk6 O0
                  clear G6c G6n
                  have G6c : Hid (IL V3 (some ⟨G6, 0, none⟩) [(k : Int)]) := G8.out
                  clear G8
                  try clear DB
                  have DB : Hid (Below X.heap.size X V3) := Ov41.out.bl
                  try simp only [Act.put, y1, y2, y3, y4, y5, y6, y7]
                  refine wpAnyH_ready (rs := [7]) (by kernel_rfl) (by simp) ?_
                  refine AllReadyH.cons rfl (fun K hK => ?_) AllReadyH.nil
                  clear hH
                  obtain ⟨v44, V7, hr, ho, hk6⟩ := Ov41.out.app (a := some ⟨G6, 0, none⟩) (c := 1) (k := 1) (m := [(k : Int)]) rfl (fun e => by cases e) G6c.out (by simp only [List.length_append, List.length_nil, List.length_take]; omega) 25
                  have Ov44 : Hid (OW X V7 v44 ((([] : List Int) ++ ((zi (rl lt k)).take k)) ++ [(k : Int)])) := ho
                  refine wp_append_at (.tmp 41) (.tmp 43) 25 rfl v41 v44 _ rfl rfl hr ?_
                  refine hK.out _ _ trivial (fun hH => ?_)
                  clear hK K hr ho hk6 Ov41
                  try clear DB
                  have DB : Hid (Below X.heap.size X V7) := Ov44.out.bl
                  try simp only [Act.put, y1, y2, y3, y4, y5, y6, y7]
                  clear G6c
                  try clear G6n
                  try clear G6l
                  refine wpAnyH_ready (rs := [11]) (by kernel_rfl) (by simp) ?_
                  refine AllReadyH.cons rfl (fun K hK => ?_) AllReadyH.nil
                  clear hH
                  obtain ⟨v48, V9, hr, ho, hk6⟩ := Ov44.out.app (a := some ⟨g, 0, none⟩) (c := 0) (k := 0) (m := (zi (rl lt k)).drop k) (by rw [List.length_drop, zi_len, rl_length]; omega) (fun e => by cases e) (by rw [List.drop_eq_nil_of_le (by rw [zi_len, rl_length]; omega)]; exact IL.nil _ _) (by simp only [List.length_append, List.length_nil, List.length_take, List.length_cons]; omega) 25
                  have Ov48 : Hid (OW X V9 v48 (((([] : List Int) ++ ((zi (rl lt k)).take k)) ++ [(k : Int)]) ++ ((zi (rl lt k)).drop k))) := ho
                  refine wp_append_at (.tmp 44) (.tmp 47) 25 rfl v44 v48 _ rfl rfl hr ?_
                  refine hK.out _ _ trivial (fun hH => ?_)
                  clear hK K hr ho hk6 Ov44
                  try clear DB
                  have DB : Hid (Below X.heap.size X V9) := Ov48.out.bl
                  try simp only [Act.put, y1, y2, y3, y4, y5, y6, y7]
                  refine tk (i := 12) (v := v48) rfl (by kernel_rfl) (fun _ _ _ h => h) (by kernel_rfl) ?_ hH ?_
                  · intro V hS; go_simp
                  simp only [Act.put, y1, y2, y3, y4, y5, y6, y7]
                  refine wpAnyH_done (by kernel_rfl) ?_ _
                  refine NoPanic.normal ?_
                  have HL : Hid (([] : List Int) ++ (zi (rl lt k)).take k ++ [(k : Int)] ++ (zi (rl lt k)).drop k = zi (rl lt (k + 1))) := by show _ = _; rw [List.nil_append]; exact rl_step lt k k (by omega) HF.out HX.out
                  have LZ2 : Hid (LS V9 v48 (zi (rl lt (k + 1)))) := by rw [← HL.out]; exact Ov48.out.ls
                  have BZ : Hid (Below U.heap.size U V9) := BW.out.trans (Ov48.out.bl.mono BW.out.size)
                  clear Ov48 HL DB hH
                  go_wp2_with fail
                  go_roundg (G1 - 1)
                  case measure => omega
                  case rel => exact ⟨k + 1, v48, by omega, by go_num, rfl, LZ2.out, BZ.out⟩
              · clear hH
                have G6c : Hid (IL (V0.alloc (.cells #[.int .i64 (k : Int)] 3)) (some ⟨V0.heap.size, 0, none⟩) [(k : Int)]) := IL.one _ _
                have G6l : Hid (V0.heap.size < (V0.alloc (.cells #[.int .i64 (k : Int)] 3)).heap.size) := by show _ < _; simp
                have D1 : Hid (Below X.heap.size X (V0.alloc (.cells #[.int .i64 (k : Int)] 3))) := DB.out.alloc DB.out.size _
                go_simp
                refine hK.out _ _ trivial (fun hH => ?_)
                clear hK K DB
                have DB : Hid (Below X.heap.size X (V0.alloc (.cells #[.int .i64 (k : Int)] 3))) := D1.out
                clear D1
                generalize V0.heap.size = G6 at *
                generalize V0.alloc (.cells #[.int .i64 (k : Int)] 3) = V1 at *
                try simp only [Act.put, y1, y2, y3, y4, y5, y6, y7]
                refine wpAnyH_ready (rs := [0]) (by kernel_rfl) (by simp) ?_
                refine AllReadyH.cons rfl (fun K hK => ?_) AllReadyH.nil
                clear hH
                have O0 : Hid (OW X (V1.alloc (.cells #[] 3)) (.slice (some ⟨V1.heap.size, 0, none⟩) 0 0) []) := OW.new DB.out
                have G7 : Hid (IL (V1.alloc (.cells #[] 3)) (some ⟨G6, 0, none⟩) [(k : Int)] ∧ G6 < V1.heap.size) := ⟨G6c.out.of_below ((Below.refl _ _).alloc (Nat.le_refl _) _), G6l.out⟩
                have D1 : Hid (Below X.heap.size X (V1.alloc (.cells #[] 3))) := O0.out.bl
                go_simp
                refine hK.out _ _ trivial (fun hH => ?_)
                clear hK K
                have G6n : Hid (some G6 ≠ Value.ownBlock (.slice (some ⟨V1.heap.size, 0, none⟩) 0 0)) := by have := G7.out.2; simp only [Value.ownBlock, ne_eq, Option.some.injEq]; show ¬ _; omega
                replace G6c : Hid (IL (V1.alloc (.cells #[] 3)) (some ⟨G6, 0, none⟩) [(k : Int)]) := G7.out.1
                clear G7 G6l
                clear DB
                have DB : Hid (Below X.heap.size X (V1.alloc (.cells #[] 3))) := D1.out
                clear D1
                have LZ : Hid (V1.heap.size < (V1.alloc (.cells #[] 3)).heap.size) := by show _ < _; simp
                generalize V1.heap.size = G0 at *
                generalize V1.alloc (.cells #[] 3) = V2 at *
                try simp only [Act.put, y1, y2, y3, y4, y5, y6, y7]
                clear LZ
                refine wpAnyH_ready (rs := [4]) (by kernel_rfl) (by simp) ?_
                refine AllReadyH.cons rfl (fun K hK => ?_) AllReadyH.nil
                clear hH
                obtain ⟨v41, V3, hr, ho, hk6⟩ := O0.out.app (a := some ⟨g, 0, none⟩) (c := k) (k := k) (m := (zi (rl lt k)).take k) (by rw [List.length_take, zi_len, rl_length]; omega) (fun e => by cases e) ((hIL.out.of_below O0.out.bl).take k) (by simp only [List.length_nil]; omega) 25
                have Ov41 : Hid (OW X V3 v41 (([] : List Int) ++ ((zi (rl lt k)).take k))) := ho
                have G8 : Hid (IL V3 (some ⟨G6, 0, none⟩) [(k : Int)]) := G6c.out.keep (fun u hu => hk6 _ _ _ hu G6n.out)
                refine wp_append_at (.tmp 37) (.tmp 40) 25 rfl (.slice (some ⟨G0, 0, none⟩) 0 0) v41 _ rfl rfl hr ?_
                refine hK.out _ _ trivial (fun hH => ?_)
                clear hK K hr ho hk6 O0
                clear G6c G6n
                have G6c : Hid (IL V3 (some ⟨G6, 0, none⟩) [(k : Int)]) := G8.out
                clear G8
                try clear DB
                have DB : Hid (Below X.heap.size X V3) := Ov41.out.bl
                try simp only [Act.put, y1, y2, y3, y4, y5, y6, y7]
                refine wpAnyH_ready (rs := [7]) (by kernel_rfl) (by simp) ?_
                refine AllReadyH.cons rfl (fun K hK => ?_) AllReadyH.nil
                clear hH
                obtain ⟨v44, V7, hr, ho, hk6⟩ := Ov41.out.app (a := some ⟨G6, 0, none⟩) (c := 1) (k := 1) (m := [(k : Int)]) rfl (fun e => by cases e) G6c.out (by simp only [List.length_append, List.length_nil, List.length_take]; omega) 25
                have Ov44 : Hid (OW X V7 v44 ((([] : List Int) ++ ((zi (rl lt k)).take k)) ++ [(k : Int)])) := ho
                refine wp_append_at (.tmp 41) (.tmp 43) 25 rfl v41 v44 _ rfl rfl hr ?_
                refine hK.out _ _ trivial (fun hH => ?_)
                clear hK K hr ho hk6 Ov41
                try clear DB
                have DB : Hid (Below X.heap.size X V7) := Ov44.out.bl
                try simp only [Act.put, y1, y2, y3, y4, y5, y6, y7]
                clear G6c
                try clear G6n
                try clear G6l
                refine wpAnyH_ready (rs := [11]) (by kernel_rfl) (by simp) ?_
                refine AllReadyH.cons rfl (fun K hK => ?_) AllReadyH.nil
                clear hH
                obtain ⟨v48, V9, hr, ho, hk6⟩ := Ov44.out.app (a := some ⟨g, 0, none⟩) (c := 0) (k := 0) (m := (zi (rl lt k)).drop k) (by rw [List.length_drop, zi_len, rl_length]; omega) (fun e => by cases e) (by rw [List.drop_eq_nil_of_le (by rw [zi_len, rl_length]; omega)]; exact IL.nil _ _) (by simp only [List.length_append, List.length_nil, List.length_take, List.length_cons]; omega) 25
                have Ov48 : Hid (OW X V9 v48 (((([] : List Int) ++ ((zi (rl lt k)).take k)) ++ [(k : Int)]) ++ ((zi (rl lt k)).drop k))) := ho
                refine wp_append_at (.tmp 44) (.tmp 47) 25 rfl v44 v48 _ rfl rfl hr ?_
                refine hK.out _ _ trivial (fun hH => ?_)
                clear hK K hr ho hk6 Ov44
                try clear DB
                have DB : Hid (Below X.heap.size X V9) := Ov48.out.bl
                try simp only [Act.put, y1, y2, y3, y4, y5, y6, y7]
                refine tk (i := 12) (v := v48) rfl (by kernel_rfl) (fun _ _ _ h => h) (by kernel_rfl) ?_ hH ?_
                · intro V hS; go_simp
                simp only [Act.put, y1, y2, y3, y4, y5, y6, y7]
                refine wpAnyH_done (by kernel_rfl) ?_ _
                refine NoPanic.normal ?_
                have HL : Hid (([] : List Int) ++ (zi (rl lt k)).take k ++ [(k : Int)] ++ (zi (rl lt k)).drop k = zi (rl lt (k + 1))) := by show _ = _; rw [List.nil_append]; exact rl_step lt k k (by omega) HF.out HX.out
                have LZ2 : Hid (LS V9 v48 (zi (rl lt (k + 1)))) := by rw [← HL.out]; exact Ov48.out.ls
                have BZ : Hid (Below U.heap.size U V9) := BW.out.trans (Ov48.out.bl.mono BW.out.size)
                clear Ov48 HL DB hH
                go_wp2_with fail
                go_roundg (G1 - 1)
                case measure => omega
                case rel => exact ⟨k + 1, v48, by omega, by go_num, rfl, LZ2.out, BZ.out⟩
            · refine wp_region_noPanic ?_
              refine wp_region_held_drew (S := fun V => True) (by kernel_rfl) trivial (fun hH => ?_)
              have DB : Hid (Below X.heap.size X X.drew) := dB X
              generalize hV0 : X.drew = V0 at *
              clear hV0
              have q1 : ¬ cl < k := by omega
              have q3 : ¬ cl = k := by omega
              refine tk (i := 1) (v := .slice (some ⟨g, 0, none⟩) k cl) rfl (by kernel_rfl) (fun _ _ _ h => h) (by kernel_rfl) ?_ hH ?_
              · intro V hS; go_simp
              simp only [Act.put, y1, y2, y3, y4, y5, y6, y7]
              refine tk (i := 2) (v := .int .i64 (k : Int)) rfl (by kernel_rfl) (fun _ _ _ h => h) (by kernel_rfl) ?_ hH ?_
              · intro V hS; go_simp
              simp only [Act.put, y1, y2, y3, y4, y5, y6, y7]
              refine tk (i := 3) (v := .slice (some ⟨g, 0, none⟩) k cl) rfl (by kernel_rfl) (fun _ _ _ h => h) (by kernel_rfl) ?_ hH ?_
              · intro V hS; go_simp
              simp only [Act.put, y1, y2, y3, y4, y5, y6, y7]
              refine tk (i := 5) (v := .int .i64 (k : Int)) rfl (by kernel_rfl) (fun _ _ _ h => h) (by kernel_rfl) ?_ hH ?_
              · intro V hS; go_simp
              simp only [Act.put, y1, y2, y3, y4, y5, y6, y7]
              refine tk (i := 8) (v := .slice (some ⟨g, 0, none⟩) k cl) rfl (by kernel_rfl) (fun _ _ _ h => h) (by kernel_rfl) ?_ hH ?_
              · intro V hS; go_simp
              simp only [Act.put, y1, y2, y3, y4, y5, y6, y7]
              refine tk (i := 9) (v := .int .i64 (k : Int)) rfl (by kernel_rfl) (fun _ _ _ h => h) (by kernel_rfl) ?_ hH ?_
              · intro V hS; go_simp
              simp only [Act.put, y1, y2, y3, y4, y5, y6, y7]
              refine tk (i := 10) (v := .slice (some ⟨g, k, none⟩) 0 (cl - k)) rfl (by kernel_rfl) (fun _ _ _ h => h) (by kernel_rfl) ?_ hH ?_
              · intro V hS; go_simp
              simp only [Act.put, y1, y2, y3, y4, y5, y6, y7]
              refine wpAnyH_ready (rs := [0, 6]) (by kernel_rfl) (by simp) ?_
              refine AllReadyH.cons rfl (fun K hK => ?_) (AllReadyH.cons rfl (fun K hK => ?_) AllReadyH.nil)
              · clear hH
                have O0 : Hid (OW X (V0.alloc (.cells #[] 3)) (.slice (some ⟨V0.heap.size, 0, none⟩) 0 0) []) := OW.new DB.out
                have D1 : Hid (Below X.heap.size X (V0.alloc (.cells #[] 3))) := O0.out.bl
                go_simp
                refine hK.out _ _ trivial (fun hH => ?_)
                clear hK K
                clear DB
                have DB : Hid (Below X.heap.size X (V0.alloc (.cells #[] 3))) := D1.out
                clear D1
                have LZ : Hid (V0.heap.size < (V0.alloc (.cells #[] 3)).heap.size) := by show _ < _; simp
                generalize V0.heap.size = G0 at *
                generalize V0.alloc (.cells #[] 3) = V1 at *
                try simp only [Act.put, y1, y2, y3, y4, y5, y6, y7]
                refine wpAnyH_ready (rs := [4, 6]) (by kernel_rfl) (by simp) ?_
                refine AllReadyH.cons rfl (fun K hK => ?_) (AllReadyH.cons rfl (fun K hK => ?_) AllReadyH.nil)
                · clear hH
                  obtain ⟨v41, V2, hr, ho, hk6⟩ := O0.out.app (a := some ⟨g, 0, none⟩) (c := cl) (k := k) (m := (zi (rl lt k)).take k) (by rw [List.length_take, zi_len, rl_length]; omega) (fun e => by cases e) ((hIL.out.of_below O0.out.bl).take k) (by simp only [List.length_nil]; omega) 25
                  have Ov41 : Hid (OW X V2 v41 (([] : List Int) ++ ((zi (rl lt k)).take k))) := ho
                  refine wp_append_at (.tmp 37) (.tmp 40) 25 rfl (.slice (some ⟨G0, 0, none⟩) 0 0) v41 _ rfl rfl hr ?_
                  refine hK.out _ _ trivial (fun hH => ?_)
                  clear hK K hr ho hk6 O0
                  try clear DB
                  have DB : Hid (Below X.heap.size X V2) := Ov41.out.bl
                  try simp only [Act.put, y1, y2, y3, y4, y5, y6, y7]
                  clear LZ
                  refine wpAnyH_ready (rs := [6]) (by kernel_rfl) (by simp) ?_
                  refine AllReadyH.cons rfl (fun K hK => ?_) AllReadyH.nil
                  clear hH
                  have G6c : Hid (IL (V2.alloc (.cells #[.int .i64 (k : Int)] 3)) (some ⟨V2.heap.size, 0, none⟩) [(k : Int)]) := IL.one _ _
                  have G6l : Hid (V2.heap.size < (V2.alloc (.cells #[.int .i64 (k : Int)] 3)).heap.size) := by show _ < _; simp
                  have D1 : Hid (Below X.heap.size X (V2.alloc (.cells #[.int .i64 (k : Int)] 3))) := DB.out.alloc DB.out.size _
                  have O9 : Hid (OW X (V2.alloc (.cells #[.int .i64 (k : Int)] 3)) v41 (([] : List Int) ++ ((zi (rl lt k)).take k))) := Ov41.out.alloc _
                  clear Ov41
                  have Ov41 : Hid (OW X (V2.alloc (.cells #[.int .i64 (k : Int)] 3)) v41 (([] : List Int) ++ ((zi (rl lt k)).take k))) := O9.out
                  clear O9
                  go_simp
                  refine hK.out _ _ trivial (fun hH => ?_)
                  clear hK K DB
                  have DB : Hid (Below X.heap.size X (V2.alloc (.cells #[.int .i64 (k : Int)] 3))) := D1.out
                  clear D1
                  generalize V2.heap.size = G6 at *
                  generalize V2.alloc (.cells #[.int .i64 (k : Int)] 3) = V3 at *
                  try simp only [Act.put, y1, y2, y3, y4, y5, y6, y7]
                  refine wpAnyH_ready (rs := [7]) (by kernel_rfl) (by simp) ?_
                  refine AllReadyH.cons rfl (fun K hK => ?_) AllReadyH.nil
                  clear hH
                  obtain ⟨v44, V7, hr, ho, hk6⟩ := Ov41.out.app (a := some ⟨G6, 0, none⟩) (c := 1) (k := 1) (m := [(k : Int)]) rfl (fun e => by cases e) G6c.out (by simp only [List.length_append, List.length_nil, List.length_take]; omega) 25
                  have Ov44 : Hid (OW X V7 v44 ((([] : List Int) ++ ((zi (rl lt k)).take k)) ++ [(k : Int)])) := ho
                  refine wp_append_at (.tmp 41) (.tmp 43) 25 rfl v41 v44 _ rfl rfl hr ?_
                  refine hK.out _ _ trivial (fun hH => ?_)
                  clear hK K hr ho hk6 Ov41
                  try clear DB
                  have DB : Hid (Below X.heap.size X V7) := Ov44.out.bl
                  try simp only [Act.put, y1, y2, y3, y4, y5, y6, y7]
                  clear G6c
                  try clear G6n
                  try clear G6l
                  refine wpAnyH_ready (rs := [11]) (by kernel_rfl) (by simp) ?_
                  refine AllReadyH.cons rfl (fun K hK => ?_) AllReadyH.nil
                  clear hH
                  obtain ⟨v48, V9, hr, ho, hk6⟩ := Ov44.out.app (a := some ⟨g, k, none⟩) (c := cl - k) (k := 0) (m := (zi (rl lt k)).drop k) (by rw [List.length_drop, zi_len, rl_length]; omega) (fun e => by cases e) (by have q := (hIL.out.of_below Ov44.out.bl).drop (k := k); rw [Nat.zero_add] at q; exact q) (by simp only [List.length_append, List.length_nil, List.length_take, List.length_cons]; omega) 25
                  have Ov48 : Hid (OW X V9 v48 (((([] : List Int) ++ ((zi (rl lt k)).take k)) ++ [(k : Int)]) ++ ((zi (rl lt k)).drop k))) := ho
                  refine wp_append_at (.tmp 44) (.tmp 47) 25 rfl v44 v48 _ rfl rfl hr ?_
                  refine hK.out _ _ trivial (fun hH => ?_)
                  clear hK K hr ho hk6 Ov44
                  try clear DB
                  have DB : Hid (Below X.heap.size X V9) := Ov48.out.bl
                  try simp only [Act.put, y1, y2, y3, y4, y5, y6, y7]
                  refine tk (i := 12) (v := v48) rfl (by kernel_rfl) (fun _ _ _ h => h) (by kernel_rfl) ?_ hH ?_
                  · intro V hS; go_simp
                  simp only [Act.put, y1, y2, y3, y4, y5, y6, y7]
                  refine wpAnyH_done (by kernel_rfl) ?_ _
                  refine NoPanic.normal ?_
                  have HL : Hid (([] : List Int) ++ (zi (rl lt k)).take k ++ [(k : Int)] ++ (zi (rl lt k)).drop k = zi (rl lt (k + 1))) := by show _ = _; rw [List.nil_append]; exact rl_step lt k k (by omega) HF.out HX.out
                  have LZ2 : Hid (LS V9 v48 (zi (rl lt (k + 1)))) := by rw [← HL.out]; exact Ov48.out.ls
                  have BZ : Hid (Below U.heap.size U V9) := BW.out.trans (Ov48.out.bl.mono BW.out.size)
                  clear Ov48 HL DB hH
                  go_wp2_with fail
                  go_roundg (G1 - 1)
                  case measure => omega
                  case rel => exact ⟨k + 1, v48, by omega, by go_num, rfl, LZ2.out, BZ.out⟩
                · clear hH
                  have G6c : Hid (IL (V1.alloc (.cells #[.int .i64 (k : Int)] 3)) (some ⟨V1.heap.size, 0, none⟩) [(k : Int)]) := IL.one _ _
                  have G6l : Hid (V1.heap.size < (V1.alloc (.cells #[.int .i64 (k : Int)] 3)).heap.size) := by show _ < _; simp
                  have O9 : Hid (OW X (V1.alloc (.cells #[.int .i64 (k : Int)] 3)) (.slice (some ⟨G0, 0, none⟩) 0 0) []) := O0.out.alloc _
                  have G6n : Hid (some V1.heap.size ≠ Value.ownBlock (.slice (some ⟨G0, 0, none⟩) 0 0)) := by have := LZ.out; simp only [Value.ownBlock, ne_eq, Option.some.injEq]; show ¬ _; omega
                  have D1 : Hid (Below X.heap.size X (V1.alloc (.cells #[.int .i64 (k : Int)] 3))) := DB.out.alloc DB.out.size _
                  go_simp
                  refine hK.out _ _ trivial (fun hH => ?_)
                  clear hK K DB
                  have DB : Hid (Below X.heap.size X (V1.alloc (.cells #[.int .i64 (k : Int)] 3))) := D1.out
                  clear D1
                  clear O0
                  have O0 : Hid (OW X (V1.alloc (.cells #[.int .i64 (k : Int)] 3)) (.slice (some ⟨G0, 0, none⟩) 0 0) []) := O9.out
                  clear O9
                  generalize V1.heap.size = G6 at *
                  generalize V1.alloc (.cells #[.int .i64 (k : Int)] 3) = V2 at *
                  try simp only [Act.put, y1, y2, y3, y4, y5, y6, y7]
                  clear LZ
                  refine wpAnyH_ready (rs := [4]) (by kernel_rfl) (by simp) ?_
                  refine AllReadyH.cons rfl (fun K hK => ?_) AllReadyH.nil
                  clear hH
                  obtain ⟨v41, V3, hr, ho, hk6⟩ := O0.out.app (a := some ⟨g, 0, none⟩) (c := cl) (k := k) (m := (zi (rl lt k)).take k) (by rw [List.length_take, zi_len, rl_length]; omega) (fun e => by cases e) ((hIL.out.of_below O0.out.bl).take k) (by simp only [List.length_nil]; omega) 25
                  have Ov41 : Hid (OW X V3 v41 (([] : List Int) ++ ((zi (rl lt k)).take k))) := ho
                  have G8 : Hid (IL V3 (some ⟨G6, 0, none⟩) [(k : Int)]) := G6c.out.keep (fun u hu => hk6 _ _ _ hu G6n.out)
                  refine wp_append_at (.tmp 37) (.tmp 40) 25 rfl (.slice (some ⟨G0, 0, none⟩) 0 0) v41 _ rfl rfl hr ?_
                  refine hK.out _ _ trivial (fun hH => ?_)
                  clear hK K hr ho hk6 O0
                  clear G6c G6n
                  have G6c : Hid (IL V3 (some ⟨G6, 0, none⟩) [(k : Int)]) := G8.out
                  clear G8
                  try clear DB
                  have DB : Hid (Below X.heap.size X V3) := Ov41.out.bl
                  try simp only [Act.put, y1, y2, y3, y4, y5, y6, y7]
                  refine wpAnyH_ready (rs := [7]) (by kernel_rfl) (by simp) ?_
                  refine AllReadyH.cons rfl (fun K hK => ?_) AllReadyH.nil
                  clear hH
                  obtain ⟨v44, V7, hr, ho, hk6⟩ := Ov41.out.app (a := some ⟨G6, 0, none⟩) (c := 1) (k := 1) (m := [(k : Int)]) rfl (fun e => by cases e) G6c.out (by simp only [List.length_append, List.length_nil, List.length_take]; omega) 25
                  have Ov44 : Hid (OW X V7 v44 ((([] : List Int) ++ ((zi (rl lt k)).take k)) ++ [(k : Int)])) := ho
                  refine wp_append_at (.tmp 41) (.tmp 43) 25 rfl v41 v44 _ rfl rfl hr ?_
                  refine hK.out _ _ trivial (fun hH => ?_)
                  clear hK K hr ho hk6 Ov41
                  try clear DB
                  have DB : Hid (Below X.heap.size X V7) := Ov44.out.bl
                  try simp only [Act.put, y1, y2, y3, y4, y5, y6, y7]
                  clear G6c
                  try clear G6n
                  try clear G6l
                  refine wpAnyH_ready (rs := [11]) (by kernel_rfl) (by simp) ?_
                  refine AllReadyH.cons rfl (fun K hK => ?_) AllReadyH.nil
                  clear hH
                  obtain ⟨v48, V9, hr, ho, hk6⟩ := Ov44.out.app (a := some ⟨g, k, none⟩) (c := cl - k) (k := 0) (m := (zi (rl lt k)).drop k) (by rw [List.length_drop, zi_len, rl_length]; omega) (fun e => by cases e) (by have q := (hIL.out.of_below Ov44.out.bl).drop (k := k); rw [Nat.zero_add] at q; exact q) (by simp only [List.length_append, List.length_nil, List.length_take, List.length_cons]; omega) 25
                  have Ov48 : Hid (OW X V9 v48 (((([] : List Int) ++ ((zi (rl lt k)).take k)) ++ [(k : Int)]) ++ ((zi (rl lt k)).drop k))) := ho
                  refine wp_append_at (.tmp 44) (.tmp 47) 25 rfl v44 v48 _ rfl rfl hr ?_
                  refine hK.out _ _ trivial (fun hH => ?_)
                  clear hK K hr ho hk6 Ov44
                  try clear DB
                  have DB : Hid (Below X.heap.size X V9) := Ov48.out.bl
                  try simp only [Act.put, y1, y2, y3, y4, y5, y6, y7]
                  refine tk (i := 12) (v := v48) rfl (by kernel_rfl) (fun _ _ _ h => h) (by kernel_rfl) ?_ hH ?_
                  · intro V hS; go_simp
                  simp only [Act.put, y1, y2, y3, y4, y5, y6, y7]
                  refine wpAnyH_done (by kernel_rfl) ?_ _
                  refine NoPanic.normal ?_
                  have HL : Hid (([] : List Int) ++ (zi (rl lt k)).take k ++ [(k : Int)] ++ (zi (rl lt k)).drop k = zi (rl lt (k + 1))) := by show _ = _; rw [List.nil_append]; exact rl_step lt k k (by omega) HF.out HX.out
                  have LZ2 : Hid (LS V9 v48 (zi (rl lt (k + 1)))) := by rw [← HL.out]; exact Ov48.out.ls
                  have BZ : Hid (Below U.heap.size U V9) := BW.out.trans (Ov48.out.bl.mono BW.out.size)
                  clear Ov48 HL DB hH
                  go_wp2_with fail
                  go_roundg (G1 - 1)
                  case measure => omega
                  case rel => exact ⟨k + 1, v48, by omega, by go_num, rfl, LZ2.out, BZ.out⟩
              · clear hH
                have G6c : Hid (IL (V0.alloc (.cells #[.int .i64 (k : Int)] 3)) (some ⟨V0.heap.size, 0, none⟩) [(k : Int)]) := IL.one _ _
                have G6l : Hid (V0.heap.size < (V0.alloc (.cells #[.int .i64 (k : Int)] 3)).heap.size) := by show _ < _; simp
                have D1 : Hid (Below X.heap.size X (V0.alloc (.cells #[.int .i64 (k : Int)] 3))) := DB.out.alloc DB.out.size _
                go_simp
                refine hK.out _ _ trivial (fun hH => ?_)
                clear hK K DB
                have DB : Hid (Below X.heap.size X (V0.alloc (.cells #[.int .i64 (k : Int)] 3))) := D1.out
                clear D1
                generalize V0.heap.size = G6 at *
                generalize V0.alloc (.cells #[.int .i64 (k : Int)] 3) = V1 at *
                try simp only [Act.put, y1, y2, y3, y4, y5, y6, y7]
                refine wpAnyH_ready (rs := [0]) (by kernel_rfl) (by simp) ?_
                refine AllReadyH.cons rfl (fun K hK => ?_) AllReadyH.nil
                clear hH
                have O0 : Hid (OW X (V1.alloc (.cells #[] 3)) (.slice (some ⟨V1.heap.size, 0, none⟩) 0 0) []) := OW.new DB.out
                have G7 : Hid (IL (V1.alloc (.cells #[] 3)) (some ⟨G6, 0, none⟩) [(k : Int)] ∧ G6 < V1.heap.size) := ⟨G6c.out.of_below ((Below.refl _ _).alloc (Nat.le_refl _) _), G6l.out⟩
                have D1 : Hid (Below X.heap.size X (V1.alloc (.cells #[] 3))) := O0.out.bl
                go_simp
                refine hK.out _ _ trivial (fun hH => ?_)
                clear hK K
                have G6n : Hid (some G6 ≠ Value.ownBlock (.slice (some ⟨V1.heap.size, 0, none⟩) 0 0)) := by have := G7.out.2; simp only [Value.ownBlock, ne_eq, Option.some.injEq]; show ¬ _; omega
                replace G6c : Hid (IL (V1.alloc (.cells #[] 3)) (some ⟨G6, 0, none⟩) [(k : Int)]) := G7.out.1
                clear G7 G6l
                clear DB
                have DB : Hid (Below X.heap.size X (V1.alloc (.cells #[] 3))) := D1.out
                clear D1
                have LZ : Hid (V1.heap.size < (V1.alloc (.cells #[] 3)).heap.size) := by show _ < _; simp
                generalize V1.heap.size = G0 at *
                generalize V1.alloc (.cells #[] 3) = V2 at *
                try simp only [Act.put, y1, y2, y3, y4, y5, y6, y7]
                clear LZ
                refine wpAnyH_ready (rs := [4]) (by kernel_rfl) (by simp) ?_
                refine AllReadyH.cons rfl (fun K hK => ?_) AllReadyH.nil
                clear hH
                obtain ⟨v41, V3, hr, ho, hk6⟩ := O0.out.app (a := some ⟨g, 0, none⟩) (c := cl) (k := k) (m := (zi (rl lt k)).take k) (by rw [List.length_take, zi_len, rl_length]; omega) (fun e => by cases e) ((hIL.out.of_below O0.out.bl).take k) (by simp only [List.length_nil]; omega) 25
                have Ov41 : Hid (OW X V3 v41 (([] : List Int) ++ ((zi (rl lt k)).take k))) := ho
                have G8 : Hid (IL V3 (some ⟨G6, 0, none⟩) [(k : Int)]) := G6c.out.keep (fun u hu => hk6 _ _ _ hu G6n.out)
                refine wp_append_at (.tmp 37) (.tmp 40) 25 rfl (.slice (some ⟨G0, 0, none⟩) 0 0) v41 _ rfl rfl hr ?_
                refine hK.out _ _ trivial (fun hH => ?_)
                clear hK K hr ho hk6 O0
                clear G6c G6n
                have G6c : Hid (IL V3 (some ⟨G6, 0, none⟩) [(k : Int)]) := G8.out
                clear G8
                try clear DB
                have DB : Hid (Below X.heap.size X V3) := Ov41.out.bl
                try simp only [Act.put, y1, y2, y3, y4, y5, y6, y7]
                refine wpAnyH_ready (rs := [7]) (by kernel_rfl) (by simp) ?_
                refine AllReadyH.cons rfl (fun K hK => ?_) AllReadyH.nil
                clear hH
                obtain ⟨v44, V7, hr, ho, hk6⟩ := Ov41.out.app (a := some ⟨G6, 0, none⟩) (c := 1) (k := 1) (m := [(k : Int)]) rfl (fun e => by cases e) G6c.out (by simp only [List.length_append, List.length_nil, List.length_take]; omega) 25
                have Ov44 : Hid (OW X V7 v44 ((([] : List Int) ++ ((zi (rl lt k)).take k)) ++ [(k : Int)])) := ho
                refine wp_append_at (.tmp 41) (.tmp 43) 25 rfl v41 v44 _ rfl rfl hr ?_
                refine hK.out _ _ trivial (fun hH => ?_)
                clear hK K hr ho hk6 Ov41
                try clear DB
                have DB : Hid (Below X.heap.size X V7) := Ov44.out.bl
                try simp only [Act.put, y1, y2, y3, y4, y5, y6, y7]
                clear G6c
                try clear G6n
                try clear G6l
                refine wpAnyH_ready (rs := [11]) (by kernel_rfl) (by simp) ?_
                refine AllReadyH.cons rfl (fun K hK => ?_) AllReadyH.nil
                clear hH
                obtain ⟨v48, V9, hr, ho, hk6⟩ := Ov44.out.app (a := some ⟨g, k, none⟩) (c := cl - k) (k := 0) (m := (zi (rl lt k)).drop k) (by rw [List.length_drop, zi_len, rl_length]; omega) (fun e => by cases e) (by have q := (hIL.out.of_below Ov44.out.bl).drop (k := k); rw [Nat.zero_add] at q; exact q) (by simp only [List.length_append, List.length_nil, List.length_take, List.length_cons]; omega) 25
                have Ov48 : Hid (OW X V9 v48 (((([] : List Int) ++ ((zi (rl lt k)).take k)) ++ [(k : Int)]) ++ ((zi (rl lt k)).drop k))) := ho
                refine wp_append_at (.tmp 44) (.tmp 47) 25 rfl v44 v48 _ rfl rfl hr ?_
                refine hK.out _ _ trivial (fun hH => ?_)
                clear hK K hr ho hk6 Ov44
                try clear DB
                have DB : Hid (Below X.heap.size X V9) := Ov48.out.bl
                try simp only [Act.put, y1, y2, y3, y4, y5, y6, y7]
                refine tk (i := 12) (v := v48) rfl (by kernel_rfl) (fun _ _ _ h => h) (by kernel_rfl) ?_ hH ?_
                · intro V hS; go_simp
                simp only [Act.put, y1, y2, y3, y4, y5, y6, y7]
                refine wpAnyH_done (by kernel_rfl) ?_ _
                refine NoPanic.normal ?_
                have HL : Hid (([] : List Int) ++ (zi (rl lt k)).take k ++ [(k : Int)] ++ (zi (rl lt k)).drop k = zi (rl lt (k + 1))) := by show _ = _; rw [List.nil_append]; exact rl_step lt k k (by omega) HF.out HX.out
                have LZ2 : Hid (LS V9 v48 (zi (rl lt (k + 1)))) := by rw [← HL.out]; exact Ov48.out.ls
                have BZ : Hid (Below U.heap.size U V9) := BW.out.trans (Ov48.out.bl.mono BW.out.size)
                clear Ov48 HL DB hH
                go_wp2_with fail
                go_roundg (G1 - 1)
                case measure => omega
                case rel => exact ⟨k + 1, v48, by omega, by go_num, rfl, LZ2.out, BZ.out⟩
    · have il : ¬ (i : Int) < (n : Int) := by omega
      have e : i = n := by omega
      subst e
      go_wp2_with fail
      exact bodyPost_ret (v := .tuple #[v, .int .i64 0]) (by simp [results, Tryd.results5, go_sem]) rfl ⟨⟨v, rfl, LL.out⟩, B1.out.trans (B2.out.mono B1.out.size)⟩
end Go.Proofs.YtmdffdcglpbcpaaDoor
