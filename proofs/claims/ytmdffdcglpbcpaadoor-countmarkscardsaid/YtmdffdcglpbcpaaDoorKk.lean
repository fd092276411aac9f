/- Most, the document's. -/
import Derived.Test.YtmdffdcglpbcpaaDoorKj
set_option linter.unusedSimpArgs false
set_option linter.unusedVariables false
set_option maxRecDepth 100000
namespace Go.Proofs.YtmdffdcglpbcpaaDoor
open Go.RowKit Go.Deep Go.PlainAid Go.Sort Go.Shelf Go.Lib

/-- The best one so far as a number. -/
def bv : Option Nat → Int
  | none => -1
  | some x => (x : Int)
theorem take_foldl {t : Nat → Int} {O D : List Nat} {j : Nat} (hj : j < D.length) : (D.take (j + 1)).foldl (pickS t O) none = pickS t O ((D.take j).foldl (pickS t O) none) D[j] := by
  rw [List.take_succ_eq_append_getElem hj, List.foldl_append]; rfl
theorem pick_mem {t : Nat → Int} {O : List Nat} : ∀ (D : List Nat) (b : Option Nat) (y : Nat), D.foldl (pickS t O) b = some y → y ∈ D ∨ b = some y
  | [], b, y, h => .inr h
  | a :: D, b, y, h => by
    rw [List.foldl_cons] at h
    rcases pick_mem D _ y h with h | h
    · exact .inl (List.mem_cons_of_mem _ h)
    · unfold pickS at h
      split at h
      · exact .inr h
      · cases b with
        | none => simp at h; subst h; exact .inl List.mem_cons_self
        | some z =>
          simp only at h
          split at h
          · simp at h; subst h; exact .inl List.mem_cons_self
          · exact .inr h
set_option maxHeartbeats 2000000 in
theorem most8_n {w : World} {lots nm : ByteArray} {a ta : Option Addr} {n c tc k : Nat} {r m : Int} {os : List ByteArray} {tl : List Int} (hw : wc n r (k : Int) = 0) (ho : F.SAt w a os) (hf : Fit lots nm os) (hn : os.length = n) (hl : tl.length = n) (hL : IL w ta tl) (hg : tl.any (fun x => decide (x < 0)) = true) :
    Calls Tryd.prog 8 #[CV nm a n c r (k : Int) m, .slice ta tl.length tc, .string lots] w fun e w' => e = .returned (.tuple #[.slice none 0 0, .int .i64 4]) ∧ Below w.heap.size w w' := by
  have LO : Hid (∀ W, Below w.heap.size w W → Calls Tryd.prog 5 #[.agg #[.string nm, .slice a n c, .int .i64 r, .int .i64 (k : Int), .int .i64 m], .string lots] W fun e w' => (∃ g cap, e = .returned (.tuple #[.slice (some ⟨g, 0, none⟩) n cap, .int .i64 0]) ∧ IL w' (some ⟨g, 0, none⟩) (zi (rl (ltL lots nm os) n))) ∧ Below W.heap.size W w') := fun W hW => (lots5_ok (c := c) (r := r) (s := (k : Int)) (m := m) hf (SAt.keep ho hW) hn hw).mono (by
    rintro e w' ⟨⟨v, rfl, hl⟩, hB⟩
    obtain ⟨g, cap, rfl, _, _, h5⟩ := hl.some_ (by rw [zi_len, rl_length]; have := (wc_fits hw).1; omega)
    rw [zi_len, rl_length]
    exact ⟨⟨g, cap, rfl, h5⟩, hB⟩)
  obtain ⟨⟨n1, n12⟩, _, k1, k2⟩ := wc_fits hw
  obtain ⟨bt, ot, rfl, hc9⟩ := hL 0 (by omega)
  have HLL : Hid (IL w (some ⟨bt, ot, none⟩) tl) := hL
  rw [hl]
  have HG : Hid (∃ x ∈ tl, x < 0) := by
    obtain ⟨x, hx, h⟩ := List.any_eq_true.1 hg
    exact ⟨x, hx, by simpa using h⟩
  have HTL : Hid (tl.length = n) := hl
  clear hc9 ho hf hn hw hL hg hl k1 k2
  unfold CV
  have B : Hid (Below w.heap.size w (w.alloc (.cells #[.string nm, .slice a n c, .int .i64 r, .int .i64 (k : Int), .int .i64 m] 24))) := (Below.refl _ _).alloc (Nat.le_refl _) _
  have I0 : Hid (IHolds (w.alloc (.cells #[.string nm, .slice a n c, .int .i64 r, .int .i64 (k : Int), .int .i64 m] 24)) w.heap.size 24 [.string nm, .slice a n c, .int .i64 r, .int .i64 (k : Int), .int .i64 m]) := IHolds.new w 24 _
  go_enter Tryd.func8, Tryd.ntmps8
  go_wp2_with (first
    | (go_at_call 5; refine (LO.out _ B.out).mono ?_; rintro e U ⟨⟨g, cg, rfl, hD⟩, hB⟩; have B1 : Hid (Below w.heap.size w U) := B.out.trans (hB.mono B.out.size); have I1 : Hid (IHolds U w.heap.size 24 [.string nm, .slice a n c, .int .i64 r, .int .i64 (k : Int), .int .i64 m]) := I0.out.of_below hB; obtain ⟨k0, k1, k2, k3, k4⟩ := five I1.out; clear hB hD LO I0)
    | fail)
  go_loopg [11, 33] n (fun gk v11 v33 wr => ∃ i : Nat, i + gk = n ∧ v33 = .int .i64 (i : Int) ∧ (∀ x ∈ tl.take i, ¬ x < 0) ∧ wr = U)
  case atStart => exact ⟨0, by omega, rfl, by simp, rfl⟩
  case round =>
    clear k0 k1 k2 k3 k4
    obtain ⟨i, hig, rfl, hx, rfl⟩ := hrel
    have HX : Hid (∀ x ∈ tl.take i, ¬ x < 0) := hx
    clear hx
    by_cases hi : i < n
    · have il : (i : Int) < (n : Int) := by omega
      have hi2 : i < tl.length := by rw [HTL.out]; exact hi
      obtain ⟨b9, o9, e9, q⟩ := HLL.out.of_below B1.out i hi2
      cases e9
      have HN : Hid (¬ tl[i] < 0 → ∀ x ∈ tl.take (i + 1), ¬ x < 0) := fun h x hx => by
        rw [List.take_succ_eq_append_getElem hi2] at hx
        simp only [List.mem_append, List.mem_singleton] at hx
        rcases hx with hx | rfl
        · exact HX.out x hx
        · exact h
      by_cases he : tl[i] < 0
      · clear HN HX
        generalize tl[i] = y at *
        go_wp2_with fail
        go_ret2
        exact ⟨rfl, B1.out⟩
      · have HN2 : Hid (∀ x ∈ tl.take (i + 1), ¬ x < 0) := HN.out he
        clear HN HX
        generalize tl[i] = y at *
        go_wp2_with fail
        go_roundg (gk - 1)
        case measure => omega
        case rel => exact ⟨i + 1, by omega, by go_num, HN2.out, rfl⟩
    · exfalso
      obtain ⟨x, hx, h⟩ := HG.out
      refine HX.out x ?_ h
      rw [List.take_of_length_le (by rw [HTL.out]; omega)]; exact hx
set_option maxHeartbeats 8000000 in
theorem most8_ok {w : World} {lots nm : ByteArray} {a ta : Option Addr} {n c tc k : Nat} {r m : Int} {os : List ByteArray} {tl : List Int} (hw : wc n r (k : Int) = 0) (ho : F.SAt w a os) (hf : Fit lots nm os) (hn : os.length = n) (hl : tl.length = n) (hL : IL w ta tl) (hg : tl.any (fun x => decide (x < 0)) = false) :
    Calls Tryd.prog 8 #[CV nm a n c r (k : Int) m, .slice ta tl.length tc, .string lots] w fun e w' => (∃ v R, e = .returned (.tuple #[v, .int .i64 0]) ∧ Best (fun x => tl.getD x 0) (rl (ltL lots nm os) n) R ∧ LS w' v (zi (R.take k))) ∧ Below w.heap.size w w' := by
  obtain ⟨i0, hi0, hz0, hz1, hz2⟩ := infoI
  have LO : Hid (∀ W, Below w.heap.size w W → Calls Tryd.prog 5 #[.agg #[.string nm, .slice a n c, .int .i64 r, .int .i64 (k : Int), .int .i64 m], .string lots] W fun e w' => (∃ g cap, e = .returned (.tuple #[.slice (some ⟨g, 0, none⟩) n cap, .int .i64 0]) ∧ IL w' (some ⟨g, 0, none⟩) (zi (rl (ltL lots nm os) n))) ∧ Below W.heap.size W w') := fun W hW => (lots5_ok (c := c) (r := r) (s := (k : Int)) (m := m) hf (SAt.keep ho hW) hn hw).mono (by
    rintro e w' ⟨⟨v, rfl, hl⟩, hB⟩
    obtain ⟨g, cap, rfl, _, _, h5⟩ := hl.some_ (by rw [zi_len, rl_length]; have := (wc_fits hw).1; omega)
    rw [zi_len, rl_length]
    exact ⟨⟨g, cap, rfl, h5⟩, hB⟩)
  obtain ⟨⟨n1, n12⟩, _, k1, k2⟩ := wc_fits hw
  obtain ⟨bt, ot, rfl, hc9⟩ := hL 0 (by omega)
  have HLL : Hid (IL w (some ⟨bt, ot, none⟩) tl) := hL
  rw [hl]
  have HG : Hid (∀ i (h : i < n), ¬ tl.getD i 0 < 0) := fun i h => by
    have hi2 : i < tl.length := by omega
    have q := List.any_eq_false.1 hg (tl[i]) (List.getElem_mem hi2)
    have e : tl.getD i 0 = tl[i] := by simp [hi2]
    rw [e]; simpa using q
  have TCW : Hid (∀ V x, x < n → Below w.heap.size w V → V.cell? ⟨bt, ot + x, none⟩ = some (.int .i64 (tl.getD x 0))) := fun V x hx hV => by
    have hi2 : x < tl.length := by omega
    obtain ⟨b9, o9, e9, q⟩ := hL.of_below hV x hi2
    cases e9
    have e : tl.getD x 0 = tl[x] := by simp [hi2]
    rw [e]; exact q
  have HND : Hid ((rl (ltL lots nm os) n).Nodup) := (rl_perm _ _).nodup_iff.2 List.nodup_range
  have HDL : Hid ((rl (ltL lots nm os) n).length = n) := rl_length _ _
  have HDM : Hid (∀ x ∈ rl (ltL lots nm os) n, x < n) := fun x hx => (rl_mem _ _ _).1 hx
  have k9 : k ≤ n := by omega
  clear hc9 ho hf hn hw hL hg hl k1 k2 HLL
  generalize rl (ltL lots nm os) n = D at *
  obtain ⟨tf, htf⟩ : ∃ tf : Nat → Int, tf = fun x => tl.getD x 0 := ⟨_, rfl⟩
  have e0 : ∀ x, tl.getD x 0 = tf x := fun x => by rw [htf]
  simp only [e0] at HG TCW ⊢
  clear e0 htf
  obtain ⟨R, hR⟩ := best_ex tf HND.out
  have HR : Hid (Best tf D R) := hR
  have HRL : Hid (R.length = n) := by rw [hR.1.length_eq]; exact HDL.out
  clear hR
  unfold CV
  have B : Hid (Below w.heap.size w (w.alloc (.cells #[.string nm, .slice a n c, .int .i64 r, .int .i64 (k : Int), .int .i64 m] 24))) := (Below.refl _ _).alloc (Nat.le_refl _) _
  have I0 : Hid (IHolds (w.alloc (.cells #[.string nm, .slice a n c, .int .i64 r, .int .i64 (k : Int), .int .i64 m] 24)) w.heap.size 24 [.string nm, .slice a n c, .int .i64 r, .int .i64 (k : Int), .int .i64 m]) := IHolds.new w 24 _
  go_enter Tryd.func8, Tryd.ntmps8
  go_wp2_with (first
    | (go_at_call 5; refine (LO.out _ B.out).mono ?_; rintro e U ⟨⟨g, cg, rfl, hD⟩, hB⟩; have B1 : Hid (Below w.heap.size w U) := B.out.trans (hB.mono B.out.size); have I1 : Hid (IHolds U w.heap.size 24 [.string nm, .slice a n c, .int .i64 r, .int .i64 (k : Int), .int .i64 m]) := I0.out.of_below hB; obtain ⟨k0, k1, k2, k3, k4⟩ := five I1.out; have ILD : Hid (IL U (some ⟨g, 0, none⟩) (zi D)) := hD; clear hB hD LO I0)
    | fail)
  obtain ⟨B0, hB0⟩ : ∃ B, B = w.heap.size := ⟨_, rfl⟩
  rw [← hB0] at I1 ⊢
  clear k0 k1 k2 k3 k4 hB0
  have TC : Hid (∀ V x, x < n → Below U.heap.size U V → V.cell? ⟨bt, ot + x, none⟩ = some (.int .i64 (tf x))) := fun V x hx hV => TCW.out V x hx (B1.out.trans (hV.mono B1.out.size))
  clear TCW
  go_loopg [11, 33] n (fun gk v11 v33 wr => ∃ i : Nat, i + gk = n ∧ v33 = .int .i64 (i : Int) ∧ wr = U)
  case atStart => exact ⟨0, by omega, rfl, rfl⟩
  case round =>
    obtain ⟨i, hig, rfl, rfl⟩ := hrel
    by_cases hi : i < n
    · have il : (i : Int) < (n : Int) := by omega
      have q := TC.out wr i hi (Below.refl _ _)
      have he := HG.out i hi
      generalize tf i = y at *
      go_wp2_with fail
      go_roundg (gk - 1)
      case measure => omega
      case rel => exact ⟨i + 1, by omega, by go_num, rfl⟩
    · have il : ¬ (i : Int) < (n : Int) := by omega
      obtain ⟨U, rfl⟩ : ∃ X, X = wr := ⟨wr, rfl⟩
      have OW0 : Hid (OW U U (.slice none 0 0) (zi (R.take 0))) := OW.nil U
      go_wp2_with fail
      clear hi il hig
      go_loopg [12, 13, 15, 47] k (fun gk v12 v13 v15 v47 wr => ∃ (q : Nat) (v : Value), q + gk = k ∧ v = v12 ∧ OW U wr v (zi (R.take q)))
      case atStart => exact ⟨0, _, by omega, rfl, OW0.out⟩
      case round =>
        clear OW0
        obtain ⟨q, v, hqg, rfl, hO⟩ := hrel
        obtain ⟨G1, rfl⟩ : ∃ G, G = gk := ⟨gk, rfl⟩
        have OW1 : Hid (OW U wr v (zi (R.take q))) := hO
        clear hO
        have hql : (zi (R.take q)).length = q := by rw [zi_len, List.length_take, HRL.out]; omega
        have HQL : Hid ((zi (R.take q)).length = q) := hql
        obtain ⟨ao, co, rfl, hco, hcm, _, _, hio⟩ := OW1.out.ls.ex
        rw [hql]
        have OW2 : Hid (OW U wr (.slice ao q co) (zi (R.take q))) := by have z := OW1.out; rw [hql] at z; exact z
        clear hco hcm hio OW1 hql
        obtain ⟨k0, k1, k2, k3, k4⟩ := five (I1.out.of_below OW2.out.bl)
        by_cases hq : q < k
        · have ql : (q : Int) < (k : Int) := by omega
          go_wp2_with fail
          clear k0 k1 k2 k3 k4
          have P0 : Hid ((none : Option Nat) = (D.take 0).foldl (pickS tf (R.take q)) none) := rfl
          go_loopg [13, 15, 47] n (fun gk v13 v15 v47 wr => ∃ (j : Nat) (bst : Option Nat), j + gk = n ∧ v47 = .int .i64 (j : Int) ∧ v13 = .int .i64 (bv bst) ∧ bst = (D.take j).foldl (pickS tf (R.take q)) none ∧ OW U wr (.slice ao q co) (zi (R.take q)))
          case atStart => exact ⟨0, none, by omega, rfl, rfl, P0.out, OW2.out⟩
          case round =>
            clear P0 OW2
            obtain ⟨j, bst, hjg, rfl, rfl, hp, hO⟩ := hrel
            have PB : Hid (bst = (D.take j).foldl (pickS tf (R.take q)) none) := hp
            have OW3 : Hid (OW U wr (.slice ao q co) (zi (R.take q))) := hO
            have BU : Hid (Below U.heap.size U wr) := hO.bl
            clear hp hO
            by_cases hj : j < n
            · have jl : (j : Int) < (n : Int) := by omega
              have hjd : j < D.length := by rw [HDL.out]; exact hj
              obtain ⟨b9, o9, e9, q9⟩ := (ILD.out.of_below BU.out) j (by rw [zi_len]; exact hjd)
              cases e9
              rw [zi_at hjd, Nat.zero_add] at q9
              have PS : Hid ((D.take (j + 1)).foldl (pickS tf (R.take q)) none = pickS tf (R.take q) bst D[j]) := by show _ = _; rw [take_foldl hjd, ← PB.out]
              have xlt : D[j] < n := HDM.out _ (List.getElem_mem hjd)
              have YL : Hid (∀ y, bst = some y → y < n) := fun y hy => by
                have z := PB.out; rw [hy] at z
                rcases pick_mem _ _ _ z.symm with z | z
                · exact HDM.out _ (List.mem_of_mem_take z)
                · cases z
              generalize D[j] = x at *
              clear hjd
              have ILo : Hid (IL wr ao (zi (R.take q))) := by
                obtain ⟨a2, c2, e2, _, _, _, _, h5⟩ := OW3.out.ls.ex
                simp only [Value.slice.injEq] at e2
                obtain ⟨rfl, _⟩ := e2
                exact h5
              have INC : Hid (∀ V, IL V ao (zi (R.take q)) → Calls Tryd.prog 16 #[.slice ao q co, .int .i64 (x : Int)] V fun e w' => e = .returned (.bool (decide ((x : Int) ∈ zi (R.take q)))) ∧ w' = V) := fun V h => in16 HQL.out (by omega) h x
              have ZM : Hid (((x : Int) ∈ zi (R.take q)) ↔ x ∈ R.take q) := by
                show _ ↔ _
                simp only [zi, List.mem_map]
                constructor
                · rintro ⟨y, h1, h2⟩
                  have : y = x := by omega
                  subst this; exact h1
                · intro h; exact ⟨x, h, rfl⟩
              by_cases hin : x ∈ R.take q
              · have e5 : decide ((x : Int) ∈ zi (R.take q)) = true := decide_eq_true (ZM.out.2 hin)
                rw [e5] at INC
                have PV : Hid (bst = pickS tf (R.take q) bst x) := by show _ = _; simp [pickS, hin]
                clear e5 ZM YL PB hin
                go_wp2_with fail
                clear q9
                refine wp_region_noPanic ?_
                refine wp_region_held_drew (S := fun V => V = wr.drew) (by kernel_rfl) rfl (fun hH => ?_)
                have BD : Hid (Below U.heap.size U wr.drew) := BU.out.drew
                have ILO : Hid (IL wr.drew ao (zi (R.take q))) := ILo.out.of_below (dB _)
                have OWD : Hid (OW U wr.drew (.slice ao q co) (zi (R.take q))) := ⟨own_below OW3.out.own (dB _), BD.out⟩
                clear ILo OW3 BU
                generalize wr.drew = X at *
                refine tk (i := 0) (v := .slice ao q co) rfl (by kernel_rfl) (fun _ _ _ h => h) (by kernel_rfl) ?_ hH ?_
                · intro V hS; subst hS; go_simp
                simp only [Act.put, y1, y2, y3, y4, y5, y6, y7]
                refine tk (i := 1) (v := .int .i64 (x : Int)) rfl (by kernel_rfl) (fun _ _ _ h => h) (by kernel_rfl) ?_ hH ?_
                · intro V hS; subst hS; go_simp
                simp only [Act.put, y1, y2, y3, y4, y5, y6, y7]
                refine wpAnyH_ready (rs := [2]) (by kernel_rfl) (by simp) ?_
                refine AllReadyH.cons rfl (fun K hK => ?_) AllReadyH.nil
                clear hH
                go_simp
                refine (INC.out X ILO.out).mono ?_
                rintro e w7 ⟨rfl, h7⟩
                obtain rfl := h7.symm
                go_wp2_with fail
                refine hK.out _ _ rfl (fun hH => ?_)
                clear hK K
                try simp only [Act.put, y1, y2, y3, y4, y5, y6, y7]
                refine tk (i := 3) (v := .bool false) rfl (by kernel_rfl) (fun _ _ _ h => h) (by kernel_rfl) ?_ hH ?_
                · intro V hS; subst hS; go_simp
                simp only [Act.put, y1, y2, y3, y4, y5, y6, y7]
                refine tk (i := 4) (v := .bool false) rfl (by kernel_rfl) (fun _ _ _ h => h) (by kernel_rfl) ?_ hH ?_
                · intro V hS; subst hS; go_simp
                simp only [Act.put, y1, y2, y3, y4, y5, y6, y7]
                refine tkU (i := 5) rfl (by kernel_rfl) (fun _ _ _ h => h) (by kernel_rfl) hH ?_
                simp only [Act.put, y1, y2, y3, y4, y5, y6, y7]
                refine tkU (i := 6) rfl (by kernel_rfl) (fun _ _ _ h => h) (by kernel_rfl) hH ?_
                simp only [Act.put, y1, y2, y3, y4, y5, y6, y7]
                refine tkU (i := 7) rfl (by kernel_rfl) (fun _ _ _ h => h) (by kernel_rfl) hH ?_
                simp only [Act.put, y1, y2, y3, y4, y5, y6, y7]
                refine tkU (i := 8) rfl (by kernel_rfl) (fun _ _ _ h => h) (by kernel_rfl) hH ?_
                simp only [Act.put, y1, y2, y3, y4, y5, y6, y7]
                refine tkU (i := 9) rfl (by kernel_rfl) (fun _ _ _ h => h) (by kernel_rfl) hH ?_
                simp only [Act.put, y1, y2, y3, y4, y5, y6, y7]
                refine tkU (i := 10) rfl (by kernel_rfl) (fun _ _ _ h => h) (by kernel_rfl) hH ?_
                simp only [Act.put, y1, y2, y3, y4, y5, y6, y7]
                refine tkU (i := 11) rfl (by kernel_rfl) (fun _ _ _ h => h) (by kernel_rfl) hH ?_
                simp only [Act.put, y1, y2, y3, y4, y5, y6, y7]
                refine tkU (i := 12) rfl (by kernel_rfl) (fun _ _ _ h => h) (by kernel_rfl) hH ?_
                simp only [Act.put, y1, y2, y3, y4, y5, y6, y7]
                refine tkU (i := 13) rfl (by kernel_rfl) (fun _ _ _ h => h) (by kernel_rfl) hH ?_
                simp only [Act.put, y1, y2, y3, y4, y5, y6, y7]
                refine tkU (i := 14) rfl (by kernel_rfl) (fun _ _ _ h => h) (by kernel_rfl) hH ?_
                simp only [Act.put, y1, y2, y3, y4, y5, y6, y7]
                refine tkU (i := 15) rfl (by kernel_rfl) (fun _ _ _ h => h) (by kernel_rfl) hH ?_
                simp only [Act.put, y1, y2, y3, y4, y5, y6, y7]
                refine tkU (i := 16) rfl (by kernel_rfl) (fun _ _ _ h => h) (by kernel_rfl) hH ?_
                simp only [Act.put, y1, y2, y3, y4, y5, y6, y7]
                refine tkU (i := 17) rfl (by kernel_rfl) (fun _ _ _ h => h) (by kernel_rfl) hH ?_
                simp only [Act.put, y1, y2, y3, y4, y5, y6, y7]
                refine tk (i := 18) (v := .bool false) rfl (by kernel_rfl) (fun _ _ _ h => h) (by kernel_rfl) ?_ hH ?_
                · intro V hS; subst hS; go_simp
                simp only [Act.put, y1, y2, y3, y4, y5, y6, y7]
                refine wpAnyH_done (by kernel_rfl) ?_ _
                refine NoPanic.normal ?_
                clear hH
                go_wp2_with fail
                go_roundg (gk - 1)
                case measure => omega
                case rel => exact ⟨j + 1, bst, by omega, by go_num, rfl, by rw [PS.out]; exact PV.out, OWD.out⟩
              · have e5 : decide ((x : Int) ∈ zi (R.take q)) = false := decide_eq_false (fun h => hin (ZM.out.1 h))
                rw [e5] at INC
                clear e5 ZM PB
                cases bst with
                | none =>
                  have PV : Hid (some x = pickS tf (R.take q) none x) := by show _ = _; simp [pickS, hin]
                  clear hin YL
                  unfold bv
                  go_wp2_with fail
                  clear q9
                  refine wp_region_noPanic ?_
                  refine wp_region_held_drew (S := fun V => V = wr.drew) (by kernel_rfl) rfl (fun hH => ?_)
                  have BD : Hid (Below U.heap.size U wr.drew) := BU.out.drew
                  have ILO : Hid (IL wr.drew ao (zi (R.take q))) := ILo.out.of_below (dB _)
                  have OWD : Hid (OW U wr.drew (.slice ao q co) (zi (R.take q))) := ⟨own_below OW3.out.own (dB _), BD.out⟩
                  clear ILo OW3 BU
                  generalize wr.drew = X at *
                  refine tk (i := 0) (v := .slice ao q co) rfl (by kernel_rfl) (fun _ _ _ h => h) (by kernel_rfl) ?_ hH ?_
                  · intro V hS; subst hS; go_simp
                  simp only [Act.put, y1, y2, y3, y4, y5, y6, y7]
                  refine tk (i := 1) (v := .int .i64 (x : Int)) rfl (by kernel_rfl) (fun _ _ _ h => h) (by kernel_rfl) ?_ hH ?_
                  · intro V hS; subst hS; go_simp
                  simp only [Act.put, y1, y2, y3, y4, y5, y6, y7]
                  refine wpAnyH_ready (rs := [2]) (by kernel_rfl) (by simp) ?_
                  refine AllReadyH.cons rfl (fun K hK => ?_) AllReadyH.nil
                  clear hH
                  go_simp
                  refine (INC.out X ILO.out).mono ?_
                  rintro e w7 ⟨rfl, h7⟩
                  obtain rfl := h7.symm
                  go_wp2_with fail
                  refine hK.out _ _ rfl (fun hH => ?_)
                  clear hK K
                  try simp only [Act.put, y1, y2, y3, y4, y5, y6, y7]
                  refine tk (i := 3) (v := .bool true) rfl (by kernel_rfl) (fun _ _ _ h => h) (by kernel_rfl) ?_ hH ?_
                  · intro V hS; subst hS; go_simp
                  simp only [Act.put, y1, y2, y3, y4, y5, y6, y7]
                  refine tk (i := 4) (v := .bool true) rfl (by kernel_rfl) (fun _ _ _ h => h) (by kernel_rfl) ?_ hH ?_
                  · intro V hS; subst hS; go_simp
                  simp only [Act.put, y1, y2, y3, y4, y5, y6, y7]
                  refine tk (i := 5) (v := .int .i64 (-1)) rfl (by kernel_rfl) (fun _ _ _ h => h) (by kernel_rfl) ?_ hH ?_
                  · intro V hS; subst hS; go_simp
                  simp only [Act.put, y1, y2, y3, y4, y5, y6, y7]
                  refine tk (i := 6) (v := .bool true) rfl (by kernel_rfl) (fun _ _ _ h => h) (by kernel_rfl) ?_ hH ?_
                  · intro V hS; subst hS; go_simp
                  simp only [Act.put, y1, y2, y3, y4, y5, y6, y7]
                  refine tk (i := 7) (v := .bool true) rfl (by kernel_rfl) (fun _ _ _ h => h) (by kernel_rfl) ?_ hH ?_
                  · intro V hS; subst hS; go_simp
                  simp only [Act.put, y1, y2, y3, y4, y5, y6, y7]
                  refine tkU (i := 8) rfl (by kernel_rfl) (fun _ _ _ h => h) (by kernel_rfl) hH ?_
                  simp only [Act.put, y1, y2, y3, y4, y5, y6, y7]
                  refine tkU (i := 9) rfl (by kernel_rfl) (fun _ _ _ h => h) (by kernel_rfl) hH ?_
                  simp only [Act.put, y1, y2, y3, y4, y5, y6, y7]
                  refine tkU (i := 10) rfl (by kernel_rfl) (fun _ _ _ h => h) (by kernel_rfl) hH ?_
                  simp only [Act.put, y1, y2, y3, y4, y5, y6, y7]
                  refine tkU (i := 11) rfl (by kernel_rfl) (fun _ _ _ h => h) (by kernel_rfl) hH ?_
                  simp only [Act.put, y1, y2, y3, y4, y5, y6, y7]
                  refine tkU (i := 12) rfl (by kernel_rfl) (fun _ _ _ h => h) (by kernel_rfl) hH ?_
                  simp only [Act.put, y1, y2, y3, y4, y5, y6, y7]
                  refine tkU (i := 13) rfl (by kernel_rfl) (fun _ _ _ h => h) (by kernel_rfl) hH ?_
                  simp only [Act.put, y1, y2, y3, y4, y5, y6, y7]
                  refine tkU (i := 14) rfl (by kernel_rfl) (fun _ _ _ h => h) (by kernel_rfl) hH ?_
                  simp only [Act.put, y1, y2, y3, y4, y5, y6, y7]
                  refine tkU (i := 15) rfl (by kernel_rfl) (fun _ _ _ h => h) (by kernel_rfl) hH ?_
                  simp only [Act.put, y1, y2, y3, y4, y5, y6, y7]
                  refine tkU (i := 16) rfl (by kernel_rfl) (fun _ _ _ h => h) (by kernel_rfl) hH ?_
                  simp only [Act.put, y1, y2, y3, y4, y5, y6, y7]
                  refine tk (i := 17) (v := .bool true) rfl (by kernel_rfl) (fun _ _ _ h => h) (by kernel_rfl) ?_ hH ?_
                  · intro V hS; subst hS; go_simp
                  simp only [Act.put, y1, y2, y3, y4, y5, y6, y7]
                  refine tk (i := 18) (v := .bool true) rfl (by kernel_rfl) (fun _ _ _ h => h) (by kernel_rfl) ?_ hH ?_
                  · intro V hS; subst hS; go_simp
                  simp only [Act.put, y1, y2, y3, y4, y5, y6, y7]
                  refine wpAnyH_done (by kernel_rfl) ?_ _
                  refine NoPanic.normal ?_
                  clear hH
                  go_wp2_with fail
                  go_roundg (gk - 1)
                  case measure => omega
                  case rel => exact ⟨j + 1, (some x), by omega, by go_num, rfl, by rw [PS.out]; exact PV.out, OWD.out⟩
                | some y =>
                  have ylt : y < n := YL.out y rfl
                  have xl : (x : Int) < (n : Int) := by omega
                  have yl : (y : Int) < (n : Int) := by omega
                  clear YL
                  by_cases hgt : tf y < tf x
                  · have PV : Hid (some x = pickS tf (R.take q) (some y) x) := by show _ = _; simp [pickS, hin, hgt]
                    clear hin
                    unfold bv
                    go_wp2_with fail
                    clear q9
                    refine wp_region_noPanic ?_
                    refine wp_region_held_drew (S := fun V => V = wr.drew) (by kernel_rfl) rfl (fun hH => ?_)
                    have BD : Hid (Below U.heap.size U wr.drew) := BU.out.drew
                    have ILO : Hid (IL wr.drew ao (zi (R.take q))) := ILo.out.of_below (dB _)
                    have OWD : Hid (OW U wr.drew (.slice ao q co) (zi (R.take q))) := ⟨own_below OW3.out.own (dB _), BD.out⟩
                    clear ILo OW3 BU
                    have t1 := TC.out _ x xlt BD.out
                    have t2 := TC.out _ y ylt BD.out
                    generalize wr.drew = X at *
                    refine tk (i := 0) (v := .slice ao q co) rfl (by kernel_rfl) (fun _ _ _ h => h) (by kernel_rfl) ?_ hH ?_
                    · intro V hS; subst hS; go_simp
                    simp only [Act.put, y1, y2, y3, y4, y5, y6, y7]
                    refine tk (i := 1) (v := .int .i64 (x : Int)) rfl (by kernel_rfl) (fun _ _ _ h => h) (by kernel_rfl) ?_ hH ?_
                    · intro V hS; subst hS; go_simp
                    simp only [Act.put, y1, y2, y3, y4, y5, y6, y7]
                    refine wpAnyH_ready (rs := [2]) (by kernel_rfl) (by simp) ?_
                    refine AllReadyH.cons rfl (fun K hK => ?_) AllReadyH.nil
                    clear hH
                    go_simp
                    refine (INC.out X ILO.out).mono ?_
                    rintro e w7 ⟨rfl, h7⟩
                    obtain rfl := h7.symm
                    go_wp2_with fail
                    refine hK.out _ _ rfl (fun hH => ?_)
                    clear hK K
                    try simp only [Act.put, y1, y2, y3, y4, y5, y6, y7]
                    refine tk (i := 3) (v := .bool true) rfl (by kernel_rfl) (fun _ _ _ h => h) (by kernel_rfl) ?_ hH ?_
                    · intro V hS; subst hS; go_simp
                    simp only [Act.put, y1, y2, y3, y4, y5, y6, y7]
                    refine tk (i := 4) (v := .bool true) rfl (by kernel_rfl) (fun _ _ _ h => h) (by kernel_rfl) ?_ hH ?_
                    · intro V hS; subst hS; go_simp
                    simp only [Act.put, y1, y2, y3, y4, y5, y6, y7]
                    refine tk (i := 5) (v := .int .i64 (y : Int)) rfl (by kernel_rfl) (fun _ _ _ h => h) (by kernel_rfl) ?_ hH ?_
                    · intro V hS; subst hS; go_simp
                    simp only [Act.put, y1, y2, y3, y4, y5, y6, y7]
                    refine tk (i := 6) (v := .bool false) rfl (by kernel_rfl) (fun _ _ _ h => h) (by kernel_rfl) ?_ hH ?_
                    · intro V hS; subst hS; go_simp
                    simp only [Act.put, y1, y2, y3, y4, y5, y6, y7]
                    refine tk (i := 7) (v := .bool false) rfl (by kernel_rfl) (fun _ _ _ h => h) (by kernel_rfl) ?_ hH ?_
                    · intro V hS; subst hS; go_simp
                    simp only [Act.put, y1, y2, y3, y4, y5, y6, y7]
                    refine tk (i := 8) (v := .slice (some ⟨bt, ot, none⟩) n tc) rfl (by kernel_rfl) (fun _ _ _ h => h) (by kernel_rfl) ?_ hH ?_
                    · intro V hS; subst hS; go_simp
                    simp only [Act.put, y1, y2, y3, y4, y5, y6, y7]
                    refine tk (i := 9) (v := .int .i64 (x : Int)) rfl (by kernel_rfl) (fun _ _ _ h => h) (by kernel_rfl) ?_ hH ?_
                    · intro V hS; subst hS; go_simp
                    simp only [Act.put, y1, y2, y3, y4, y5, y6, y7]
                    refine tk (i := 10) (v := .pointer (some ⟨bt, ot + x, none⟩)) rfl (by kernel_rfl) (fun _ _ _ h => h) (by kernel_rfl) ?_ hH ?_
                    · intro V hS; subst hS; go_simp
                    simp only [Act.put, y1, y2, y3, y4, y5, y6, y7]
                    refine tk (i := 11) (v := .int .i64 (tf x)) rfl (by kernel_rfl) (fun _ _ _ h => h) (by kernel_rfl) ?_ hH ?_
                    · intro V hS; subst hS; go_simp
                    simp only [Act.put, y1, y2, y3, y4, y5, y6, y7]
                    refine tk (i := 12) (v := .slice (some ⟨bt, ot, none⟩) n tc) rfl (by kernel_rfl) (fun _ _ _ h => h) (by kernel_rfl) ?_ hH ?_
                    · intro V hS; subst hS; go_simp
                    simp only [Act.put, y1, y2, y3, y4, y5, y6, y7]
                    refine tk (i := 13) (v := .int .i64 (y : Int)) rfl (by kernel_rfl) (fun _ _ _ h => h) (by kernel_rfl) ?_ hH ?_
                    · intro V hS; subst hS; go_simp
                    simp only [Act.put, y1, y2, y3, y4, y5, y6, y7]
                    refine tk (i := 14) (v := .pointer (some ⟨bt, ot + y, none⟩)) rfl (by kernel_rfl) (fun _ _ _ h => h) (by kernel_rfl) ?_ hH ?_
                    · intro V hS; subst hS; go_simp
                    simp only [Act.put, y1, y2, y3, y4, y5, y6, y7]
                    refine tk (i := 15) (v := .int .i64 (tf y)) rfl (by kernel_rfl) (fun _ _ _ h => h) (by kernel_rfl) ?_ hH ?_
                    · intro V hS; subst hS; go_simp
                    simp only [Act.put, y1, y2, y3, y4, y5, y6, y7]
                    refine tk (i := 16) (v := .bool true) rfl (by kernel_rfl) (fun _ _ _ h => h) (by kernel_rfl) ?_ hH ?_
                    · intro V hS; subst hS; go_simp
                    simp only [Act.put, y1, y2, y3, y4, y5, y6, y7]
                    refine tk (i := 17) (v := .bool true) rfl (by kernel_rfl) (fun _ _ _ h => h) (by kernel_rfl) ?_ hH ?_
                    · intro V hS; subst hS; go_simp
                    simp only [Act.put, y1, y2, y3, y4, y5, y6, y7]
                    refine tk (i := 18) (v := .bool true) rfl (by kernel_rfl) (fun _ _ _ h => h) (by kernel_rfl) ?_ hH ?_
                    · intro V hS; subst hS; go_simp
                    simp only [Act.put, y1, y2, y3, y4, y5, y6, y7]
                    refine wpAnyH_done (by kernel_rfl) ?_ _
                    refine NoPanic.normal ?_
                    clear hH
                    go_wp2_with fail
                    go_roundg (gk - 1)
                    case measure => omega
                    case rel => exact ⟨j + 1, (some x), by omega, by go_num, rfl, by rw [PS.out]; exact PV.out, OWD.out⟩
                  · have PV : Hid (some y = pickS tf (R.take q) (some y) x) := by show _ = _; simp [pickS, hin, hgt]
                    clear hin
                    unfold bv
                    go_wp2_with fail
                    clear q9
                    refine wp_region_noPanic ?_
                    refine wp_region_held_drew (S := fun V => V = wr.drew) (by kernel_rfl) rfl (fun hH => ?_)
                    have BD : Hid (Below U.heap.size U wr.drew) := BU.out.drew
                    have ILO : Hid (IL wr.drew ao (zi (R.take q))) := ILo.out.of_below (dB _)
                    have OWD : Hid (OW U wr.drew (.slice ao q co) (zi (R.take q))) := ⟨own_below OW3.out.own (dB _), BD.out⟩
                    clear ILo OW3 BU
                    have t1 := TC.out _ x xlt BD.out
                    have t2 := TC.out _ y ylt BD.out
                    generalize wr.drew = X at *
                    refine tk (i := 0) (v := .slice ao q co) rfl (by kernel_rfl) (fun _ _ _ h => h) (by kernel_rfl) ?_ hH ?_
                    · intro V hS; subst hS; go_simp
                    simp only [Act.put, y1, y2, y3, y4, y5, y6, y7]
                    refine tk (i := 1) (v := .int .i64 (x : Int)) rfl (by kernel_rfl) (fun _ _ _ h => h) (by kernel_rfl) ?_ hH ?_
                    · intro V hS; subst hS; go_simp
                    simp only [Act.put, y1, y2, y3, y4, y5, y6, y7]
                    refine wpAnyH_ready (rs := [2]) (by kernel_rfl) (by simp) ?_
                    refine AllReadyH.cons rfl (fun K hK => ?_) AllReadyH.nil
                    clear hH
                    go_simp
                    refine (INC.out X ILO.out).mono ?_
                    rintro e w7 ⟨rfl, h7⟩
                    obtain rfl := h7.symm
                    go_wp2_with fail
                    refine hK.out _ _ rfl (fun hH => ?_)
                    clear hK K
                    try simp only [Act.put, y1, y2, y3, y4, y5, y6, y7]
                    refine tk (i := 3) (v := .bool true) rfl (by kernel_rfl) (fun _ _ _ h => h) (by kernel_rfl) ?_ hH ?_
                    · intro V hS; subst hS; go_simp
                    simp only [Act.put, y1, y2, y3, y4, y5, y6, y7]
                    refine tk (i := 4) (v := .bool true) rfl (by kernel_rfl) (fun _ _ _ h => h) (by kernel_rfl) ?_ hH ?_
                    · intro V hS; subst hS; go_simp
                    simp only [Act.put, y1, y2, y3, y4, y5, y6, y7]
                    refine tk (i := 5) (v := .int .i64 (y : Int)) rfl (by kernel_rfl) (fun _ _ _ h => h) (by kernel_rfl) ?_ hH ?_
                    · intro V hS; subst hS; go_simp
                    simp only [Act.put, y1, y2, y3, y4, y5, y6, y7]
                    refine tk (i := 6) (v := .bool false) rfl (by kernel_rfl) (fun _ _ _ h => h) (by kernel_rfl) ?_ hH ?_
                    · intro V hS; subst hS; go_simp
                    simp only [Act.put, y1, y2, y3, y4, y5, y6, y7]
                    refine tk (i := 7) (v := .bool false) rfl (by kernel_rfl) (fun _ _ _ h => h) (by kernel_rfl) ?_ hH ?_
                    · intro V hS; subst hS; go_simp
                    simp only [Act.put, y1, y2, y3, y4, y5, y6, y7]
                    refine tk (i := 8) (v := .slice (some ⟨bt, ot, none⟩) n tc) rfl (by kernel_rfl) (fun _ _ _ h => h) (by kernel_rfl) ?_ hH ?_
                    · intro V hS; subst hS; go_simp
                    simp only [Act.put, y1, y2, y3, y4, y5, y6, y7]
                    refine tk (i := 9) (v := .int .i64 (x : Int)) rfl (by kernel_rfl) (fun _ _ _ h => h) (by kernel_rfl) ?_ hH ?_
                    · intro V hS; subst hS; go_simp
                    simp only [Act.put, y1, y2, y3, y4, y5, y6, y7]
                    refine tk (i := 10) (v := .pointer (some ⟨bt, ot + x, none⟩)) rfl (by kernel_rfl) (fun _ _ _ h => h) (by kernel_rfl) ?_ hH ?_
                    · intro V hS; subst hS; go_simp
                    simp only [Act.put, y1, y2, y3, y4, y5, y6, y7]
                    refine tk (i := 11) (v := .int .i64 (tf x)) rfl (by kernel_rfl) (fun _ _ _ h => h) (by kernel_rfl) ?_ hH ?_
                    · intro V hS; subst hS; go_simp
                    simp only [Act.put, y1, y2, y3, y4, y5, y6, y7]
                    refine tk (i := 12) (v := .slice (some ⟨bt, ot, none⟩) n tc) rfl (by kernel_rfl) (fun _ _ _ h => h) (by kernel_rfl) ?_ hH ?_
                    · intro V hS; subst hS; go_simp
                    simp only [Act.put, y1, y2, y3, y4, y5, y6, y7]
                    refine tk (i := 13) (v := .int .i64 (y : Int)) rfl (by kernel_rfl) (fun _ _ _ h => h) (by kernel_rfl) ?_ hH ?_
                    · intro V hS; subst hS; go_simp
                    simp only [Act.put, y1, y2, y3, y4, y5, y6, y7]
                    refine tk (i := 14) (v := .pointer (some ⟨bt, ot + y, none⟩)) rfl (by kernel_rfl) (fun _ _ _ h => h) (by kernel_rfl) ?_ hH ?_
                    · intro V hS; subst hS; go_simp
                    simp only [Act.put, y1, y2, y3, y4, y5, y6, y7]
                    refine tk (i := 15) (v := .int .i64 (tf y)) rfl (by kernel_rfl) (fun _ _ _ h => h) (by kernel_rfl) ?_ hH ?_
                    · intro V hS; subst hS; go_simp
                    simp only [Act.put, y1, y2, y3, y4, y5, y6, y7]
                    refine tk (i := 16) (v := .bool false) rfl (by kernel_rfl) (fun _ _ _ h => h) (by kernel_rfl) ?_ hH ?_
                    · intro V hS; subst hS; go_simp
                    simp only [Act.put, y1, y2, y3, y4, y5, y6, y7]
                    refine tk (i := 17) (v := .bool false) rfl (by kernel_rfl) (fun _ _ _ h => h) (by kernel_rfl) ?_ hH ?_
                    · intro V hS; subst hS; go_simp
                    simp only [Act.put, y1, y2, y3, y4, y5, y6, y7]
                    refine tk (i := 18) (v := .bool false) rfl (by kernel_rfl) (fun _ _ _ h => h) (by kernel_rfl) ?_ hH ?_
                    · intro V hS; subst hS; go_simp
                    simp only [Act.put, y1, y2, y3, y4, y5, y6, y7]
                    refine wpAnyH_done (by kernel_rfl) ?_ _
                    refine NoPanic.normal ?_
                    clear hH
                    go_wp2_with fail
                    go_roundg (gk - 1)
                    case measure => omega
                    case rel => exact ⟨j + 1, (some y), by omega, by go_num, rfl, by rw [PS.out]; exact PV.out, OWD.out⟩
            · have jl : ¬ (j : Int) < (n : Int) := by omega
              have e : j = n := by omega
              have hqr : q < R.length := by rw [HRL.out]; omega
              have e7 : bst = some R[q] := by
                have z := PB.out
                have hDj : D.take j = D := List.take_of_length_le (by rw [HDL.out]; omega)
                rw [hDj] at z
                rw [z]
                exact pick_next HND.out HR.out.1 HR.out.2 hqr
              have TQ : Hid (zi (R.take (q + 1)) = zi (R.take q) ++ [((R[q] : Nat) : Int)]) := by show zi _ = _; rw [List.take_succ_eq_append_getElem hqr]; simp only [zi, List.map_append, List.map_cons, List.map_nil]
              clear PB
              subst e7
              unfold bv
              generalize R[q] = x at *
              clear hqr e
              have O5 : Hid ((wr.alloc (.cells #[.int .i64 (x : Int)] 3)).ownsRow U.heap.size 3 1 (.slice ao q co) q (vi (zi (R.take q)))) := by have z := (OW3.out.alloc (.cells #[.int .i64 (x : Int)] 3)).own; rw [HQL.out] at z; exact z
              have B5 : Hid (Below U.heap.size U (wr.alloc (.cells #[.int .i64 (x : Int)] 3))) := (OW3.out.alloc _).bl
              have HC2 : Hid (∀ jj u, [Value.int .i64 (x : Int)][jj]? = some u → (wr.alloc (.cells #[.int .i64 (x : Int)] 3)).cell? ((⟨wr.heap.size, 0, none⟩ : Addr).add jj) = some u) := (fun jj u hu => by (match jj, hu with | 0, hu => (simp at hu; subst hu; simp [Addr.add])))
              go_wp2_with (at_builtin; refine wpList_append_own _ rfl (.tmp 72) (.tmp 74) 25 rfl U.heap.size 3 i0 (.int .i64 0) 1 8 Tryd.underlying25 hi0 hz0 hz1 hz2 rfl (by decide) (.slice ao q co) q (vi (zi (R.take q))) rfl O5.out ⟨wr.heap.size, 0, none⟩ 1 1 [.int .i64 (x : Int)] rfl rfl HC2.out (fun u hu => by simp at hu; subst hu; rfl) (by unfold maxLen; omega) (by omega) B5.out.size ?_; intro v9 w9 hown1 hgrow1 hn1; have O9 : Hid (w9.ownsRow U.heap.size 3 1 v9 (q + 1) (vi (zi (R.take q)) ++ [.int .i64 (x : Int)])) := hown1; have B9 : Hid (Below U.heap.size U w9) := B5.out.grown hgrow1 B5.out.size (fun k hk => (O5.out.lt k hk).1); clear hown1 hgrow1 hn1 O5 B5 HC2)
              have OZ : Hid (OW U w9 v9 (zi (R.take (q + 1)))) := by
                refine ⟨?_, B9.out⟩
                rw [TQ.out, List.length_append, vi_app, HQL.out]
                exact O9.out
              go_roundg (G1 - 1)
              case measure => omega
              case rel => exact ⟨q + 1, v9, by omega, rfl, OZ.out⟩
        · have ql : ¬ (q : Int) < (k : Int) := by omega
          have e : q = k := by omega
          have LZ : Hid (LS wr (.slice ao q co) (zi (R.take k))) := by have z := OW2.out.ls; rw [e] at z ⊢; exact z
          have BZ : Hid (Below w.heap.size w wr) := B1.out.trans (OW2.out.bl.mono B1.out.size)
          clear e
          go_wp2_with fail
          exact bodyPost_ret (v := .tuple #[.slice ao q co, .int .i64 0]) (by simp [results, Tryd.results8, go_sem]) rfl ⟨⟨_, rfl, R, HR.out, LZ.out⟩, BZ.out⟩
end Go.Proofs.YtmdffdcglpbcpaaDoor
