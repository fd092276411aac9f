/- Most, the program's. -/
import Derived.Test.YtmdffdcglpbcpaaDoorKh
set_option linter.unusedSimpArgs false
set_option linter.unusedVariables false
set_option maxRecDepth 100000
namespace Go.Proofs.YtmdffdcglpbcpaaDoor
open Go.RowKit Go.Deep Go.PlainAid Go.Sort Go.Shelf Go.Lib

theorem below14 (x : Int) (w : World) : Calls Tryd.prog 14 #[.int .i64 x] w fun e w' => e = .returned (.bool (decide (x < 0))) ∧ w' = w := by
  go_enter Tryd.func14, Tryd.ntmps14
  go_wp2_with fail
  go_ret
  exact ⟨rfl, rfl⟩
set_option maxHeartbeats 1000000 in
theorem index23 {w : World} {a : Option Addr} {n c : Nat} {l : List Int} (hl : l.length = n) (h9 : n ≤ 4096) (hL : IL w a l) :
    Calls Tryd.prog 23 #[.slice a n c, .func (.func 14) #[] #[]] w fun e w' => (∃ z : Int, e = .returned (.int .i64 z) ∧ decide (0 ≤ z) = l.any (fun x => decide (x < 0))) ∧ Below w.heap.size w w' := by
  have HL : Hid (IL w a l) := hL
  have H : Hid (∀ x W, Calls Tryd.prog 14 #[.int .i64 x] W fun e w' => e = .returned (.bool (decide (x < 0))) ∧ w' = W) := below14
  clear hL
  go_enter Tryd.func23, Tryd.ntmps23
  go_wp2_with fail
  go_loopg [5, 8] n (fun gk v5 v8 wr => ∃ i : Nat, i + gk = n ∧ v8 = .int .i64 (i : Int) ∧ (∀ x ∈ l.take i, ¬ x < 0) ∧ Below w.heap.size w wr)
  case atStart => exact ⟨0, by omega, rfl, by simp, Below.refl _ _⟩
  case round =>
    obtain ⟨i, hig, rfl, hx, hB⟩ := hrel
    have HX : Hid (∀ x ∈ l.take i, ¬ x < 0) := hx
    have B : Hid (Below w.heap.size w wr) := hB
    clear hx hB
    by_cases hi : i < n
    · have il : (i : Int) < (n : Int) := by omega
      have hi2 : i < l.length := by omega
      obtain ⟨b, o, rfl, q⟩ := HL.out.of_below B.out i hi2
      have HM : Hid (l[i] ∈ l) := List.getElem_mem hi2
      have HN : Hid (¬ l[i] < 0 → ∀ x ∈ l.take (i + 1), ¬ x < 0) := fun h x hx => by
        rw [List.take_succ_eq_append_getElem hi2] at hx
        simp only [List.mem_append, List.mem_singleton] at hx
        rcases hx with hx | rfl
        · exact HX.out x hx
        · exact h
      by_cases he : l[i] < 0
      · have HT : Hid (l.any (fun x => decide (x < 0)) = true) := List.any_eq_true.2 ⟨_, HM.out, by simpa using he⟩
        have e1 : decide (l[i] < 0) = true := decide_eq_true he
        have C : Hid (∀ W, Calls Tryd.prog 14 #[.int .i64 l[i]] W fun e w' => e = .returned (.bool true) ∧ w' = W) := fun W => by have := H.out l[i] W; rw [e1] at this; exact this
        clear HN HM HX he e1 H
        generalize l[i] = y at *
        go_wp2_with (go_at_call 14; refine (C.out _).mono ?_; rintro e w1 ⟨rfl, h1⟩; obtain rfl := h1.symm)
        go_ret
        exact ⟨⟨_, rfl, by rw [HT.out]; exact decide_eq_true (by omega)⟩, B.out⟩
      · have HN2 : Hid (∀ x ∈ l.take (i + 1), ¬ x < 0) := HN.out he
        have e1 : decide (l[i] < 0) = false := decide_eq_false he
        have C : Hid (∀ W, Calls Tryd.prog 14 #[.int .i64 l[i]] W fun e w' => e = .returned (.bool false) ∧ w' = W) := fun W => by have := H.out l[i] W; rw [e1] at this; exact this
        clear HN HM HX he e1 
        generalize l[i] = y at *
        go_wp2_with (go_at_call 14; refine (C.out _).mono ?_; rintro e w1 ⟨rfl, h1⟩; obtain rfl := h1.symm)
        go_roundg (gk - 1)
        case measure => omega
        case rel => exact ⟨i + 1, by omega, by go_num, HN2.out, B.out⟩
    · have il : ¬ (i : Int) < (n : Int) := by omega
      have HT : Hid (l.any (fun x => decide (x < 0)) = false) := by
        show _ = _
        rw [List.any_eq_false]
        intro x hx
        have := HX.out x (by rw [List.take_of_length_le (by omega)]; exact hx)
        simpa using this
      go_wp2_with fail
      go_ret
      exact ⟨⟨_, rfl, by rw [HT.out]; rfl⟩, B.out⟩
theorem contains13 {w : World} {a : Option Addr} {n c : Nat} {l : List Int} (hl : l.length = n) (h9 : n ≤ 4096) (hL : IL w a l) :
    Calls Tryd.prog 13 #[.slice a n c, .func (.func 14) #[] #[]] w fun e w' => e = .returned (.bool (l.any (fun x => decide (x < 0)))) ∧ Below w.heap.size w w' := by
  have H : Hid (Calls Tryd.prog 23 #[.slice a n c, .func (.func 14) #[] #[]] w fun e w' => (∃ z : Int, e = .returned (.int .i64 z) ∧ decide (0 ≤ z) = l.any (fun x => decide (x < 0))) ∧ Below w.heap.size w w') := index23 hl h9 hL
  clear hL
  generalize l.any (fun x => decide (x < 0)) = A at *
  go_enter Tryd.func13, Tryd.ntmps13
  go_wp2_with (go_at_call 23; refine H.out.mono ?_; rintro e w1 ⟨⟨z, rfl, hz⟩, hB⟩; have B1 : Hid (Below w.heap.size w w1) := hB; have HZ : Hid (decide (0 ≤ z) = A) := hz; clear hB hz H)
  go_ret
  exact ⟨by rw [← HZ.out]; rfl, B1.out⟩
theorem LS.take {W : World} {g n cap k : Nat} {l : List Int} (h : LS W (.slice (some ⟨g, 0, none⟩) n cap) l) (hk : k ≤ n) : LS W (.slice (some ⟨g, 0, none⟩) k cap) (l.take k) := by
  obtain ⟨a, c, e, h1, h2, h3, h4, h5⟩ := h.ex
  simp only [Value.slice.injEq] at e
  obtain ⟨rfl, rfl, rfl⟩ := e
  have el : (l.take k).length = k := by rw [List.length_take]; omega
  exact ⟨_, _, by rw [el], by rw [el]; omega, h2, (fun e => by cases e), h4, h5.take k⟩
theorem LS.some_ {W : World} {v : Value} {l : List Int} (h : LS W v l) (hl : 0 < l.length) : ∃ g cap, v = .slice (some ⟨g, 0, none⟩) l.length cap ∧ l.length ≤ cap ∧ cap ≤ 9223372036854775807 ∧ IL W (some ⟨g, 0, none⟩) l := by
  obtain ⟨a, c, rfl, h1, h2, h3, h4, h5⟩ := h.ex
  cases a with
  | none => have := (h3 rfl).1; omega
  | some ad =>
    obtain ⟨g, rfl⟩ := h4 ad rfl
    exact ⟨g, c, rfl, h1, h2, h5⟩
set_option maxHeartbeats 4000000 in
theorem most15 {w : World} {lots nm : ByteArray} {a : Option Addr} {n c ct k bt ot : Nat} {r m : Int} {os : List ByteArray} {tl : List Int} (hf : Fit lots nm os) (ho : F.SAt w a os) (hn : os.length = n) (n12 : 1 ≤ n ∧ n ≤ 12) (hk : k ≤ n) (hT : F.Tabs w) (hS : F.Starts w) (hL : IL w (some ⟨bt, ot, none⟩) tl) (htl : tl.length = n) :
    Calls Tryd.prog 15 #[CV nm a n c r (k : Int) m, .slice (some ⟨bt, ot, none⟩) n ct, .string lots] w fun e w' => (∃ v R, e = .returned v ∧ Best (fun x => tl.getD x 0) (rl (ltL lots nm os) n) R ∧ LS w' v (zi (R.take k))) ∧ Below w.heap.size w w' := by
  have DD : Hid (∀ W, Below w.heap.size w W → Calls Tryd.prog 10 #[.agg #[.string nm, .slice a n c, .int .i64 r, .int .i64 (k : Int), .int .i64 m], .string lots] W fun e w' => (∃ g cap, e = .returned (.slice (some ⟨g, 0, none⟩) n cap) ∧ IL w' (some ⟨g, 0, none⟩) (zi (rl (ltL lots nm os) n))) ∧ Below W.heap.size W w') := fun W hW => (drawn10_ok (c := c) (r := r) (s := (k : Int)) (m := m) hf (SAt.keep ho hW) hn n12 (hT.of_below hW hT.size) (hS.of_below hW hT.size)).mono (by
    rintro e w' ⟨⟨v, rfl, hl⟩, hB⟩
    obtain ⟨g, cap, rfl, _, _, h5⟩ := hl.some_ (by rw [zi_len, rl_length]; omega)
    rw [zi_len, rl_length]
    exact ⟨⟨g, cap, rfl, h5⟩, hB⟩)
  have GG : Hid (∀ W g gc, Below w.heap.size w W → IL W (some ⟨g, 0, none⟩) (zi (rl (ltL lots nm os) n)) → Calls Tryd.prog 24 #[.slice (some ⟨g, 0, none⟩) n gc, .slice (some ⟨bt, ot, none⟩) n ct, .func (.func 25) #[] #[]] W fun e w' => (∃ g2 cap R, e = .returned (.slice (some ⟨g2, 0, none⟩) n cap) ∧ n ≤ cap ∧ cap ≤ 9223372036854775807 ∧ Best (fun x => tl.getD x 0) (rl (ltL lots nm os) n) R ∧ LS w' (.slice (some ⟨g2, 0, none⟩) n cap) (zi R)) ∧ Below W.heap.size W w') := fun W g gc hW hg => (great24 (gc := gc) (ct := ct) hg (rl_length _ _) ((rl_perm _ _).nodup_iff.2 List.nodup_range) (fun x hx => (rl_mem _ _ _).1 hx) n12 (hL.of_below hW) htl).mono (by
    rintro e w' ⟨⟨v, R, rfl, hR, hl⟩, hB⟩
    have hRl : (zi R).length = n := by rw [zi_len, hR.1.length_eq, rl_length]
    obtain ⟨g, cap, rfl, h1, h2, h5⟩ := hl.some_ (by omega)
    rw [hRl] at hl h1 ⊢
    exact ⟨⟨g, cap, R, rfl, h1, h2, hR, hl⟩, hB⟩)
  clear hf ho hT hS hL htl
  generalize rl (ltL lots nm os) n = D at *
  unfold CV
  obtain ⟨n1, n2⟩ := n12
  generalize hW : w.alloc (.cells #[.string nm, .slice a n c, .int .i64 r, .int .i64 (k : Int), .int .i64 m] 24) = W
  have J : Hid (Below w.heap.size w W) := by rw [← hW]; exact (Below.refl _ w).alloc (Nat.le_refl _) _
  have I0 : Hid (IHolds W w.heap.size 24 [.string nm, .slice a n c, .int .i64 r, .int .i64 (k : Int), .int .i64 m]) := by rw [← hW]; exact IHolds.new w 24 _
  have KP : Hid (∀ V, Below W.heap.size W V → (Below W.heap.size W V ∧ V.cell? ⟨w.heap.size, 0, none⟩ = some (.string nm) ∧ V.cell? ⟨w.heap.size, 1, none⟩ = some (.slice a n c) ∧ V.cell? ⟨w.heap.size, 2, none⟩ = some (.int .i64 r) ∧ V.cell? ⟨w.heap.size, 3, none⟩ = some (.int .i64 (k : Int)) ∧ V.cell? ⟨w.heap.size, 4, none⟩ = some (.int .i64 m))) := fun V hV => ⟨hV, five (I0.out.of_below hV)⟩
  have sB : Hid (∀ V V', Below V.heap.size V V' → Below W.heap.size W V → Below W.heap.size W V') := fun V V' h h' => h'.trans (h.mono h'.size)
  have sW : Hid (∀ V, Below W.heap.size W V → Below w.heap.size w V) := fun V h => J.out.trans (h.mono J.out.size)
  go_enter Tryd.func15, Tryd.ntmps15
  go_wp2_with fail
  clear hW I0
  have kl : ¬ (n : Int) < (k : Int) := by omega
  have k9 : Hid (k ≤ n) := hk
  go_region_held3 (fun V => Below W.heap.size W V ∧ V.cell? ⟨w.heap.size, 0, none⟩ = some (.string nm) ∧ V.cell? ⟨w.heap.size, 1, none⟩ = some (.slice a n c) ∧ V.cell? ⟨w.heap.size, 2, none⟩ = some (.int .i64 r) ∧ V.cell? ⟨w.heap.size, 3, none⟩ = some (.int .i64 (k : Int)) ∧ V.cell? ⟨w.heap.size, 4, none⟩ = some (.int .i64 m))
    (first | exact KP.out _ B8.out | exact KP.out _ B7.out | exact KP.out _ (dB _) | assumption | fail)
    (first
      | (go_at_call 10; refine (DD.out _ (sW.out _ (dB _))).mono ?_; rintro e w7 ⟨⟨g7, c7, rfl, hl7⟩, hB7⟩; have B7 : Hid (Below W.heap.size W w7) := sB.out _ _ hB7 (dB _); have L7 : Hid (IL w7 (some ⟨g7, 0, none⟩) (zi D)) := hl7; clear hB7 hl7 DD)
      | (go_at_call 24; refine (GG.out _ _ _ (sW.out _ B7.out) L7.out).mono ?_; rintro e w8 ⟨⟨g8, c8, R, rfl, h1, h2, h3, h4⟩, hB8⟩; have B8 : Hid (Below W.heap.size W w8) := sB.out _ _ hB8 B7.out; have R8 : Hid (Best (fun x => tl.getD x 0) D R) := h3; have L8 : Hid (LS w8 (.slice (some ⟨g8, 0, none⟩) n c8) (zi R)) := h4; have c2 : k ≤ c8 := Nat.le_trans k9.out h1; have c1 : ¬ c8 < k := Nat.not_lt.2 c2; have c3 : (k : Int) ≤ (c8 : Int) := Int.ofNat_le.2 c2; have c4 : ¬ (c8 : Int) < (k : Int) := Int.not_lt.2 c3; clear hB8 h1 h2 h3 h4 GG)
      | fail)
  go_wp2_with fail
  have LT := L8.out.take k9.out
  rw [zi_take] at LT
  go_ret
  exact ⟨⟨_, R, rfl, R8.out, LT⟩, sW.out _ B8.out⟩
end Go.Proofs.YtmdffdcglpbcpaaDoor
