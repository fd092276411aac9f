/- Elect by pairs, the program's: the one drawn first of those to whom nobody has a stronger way. -/
import Derived.Test.YtkcnpcjogfhkbaaGreatDoorZ23
import Derived.Test.YtkcnpcjogfhkbaaGreatDoorZ24
import Derived.Test.YtkcnpcjogfhkbaaGreatDoorZ15
set_option linter.unusedSimpArgs false
set_option linter.unusedVariables false
set_option maxRecDepth 100000
namespace Go.Proofs.YtkcnpcjogfhkbaaGreatDoor
open Go.RowKit Go.Deep Go.PlainAid

set_option maxHeartbeats 1000000 in
theorem anyBeats35 {w : World} {a : Option Addr} {n c i : Nat} {P : Mt} (hn : n ≤ 4096) (hs : SQ w a n P) (hi : i < n) {z : Bool} (hz : z = true ↔ ∃ j, j < n ∧ P i j < P j i) :
    Calls Tryz.prog 35 #[.slice a n c, .int .i64 (i : Int)] w fun e w' => e = .returned (.bool z) ∧ Below w.heap.size w w' := by
  have HB : Hid (∀ j V, j < n → Below w.heap.size w V → Calls Tryz.prog 40 #[.slice a n c, .int .i64 ((j : Nat) : Int), .int .i64 (i : Int)] V fun e w' => e = .returned (.bool (decide (P i j < P j i))) ∧ Below V.heap.size V w') := fun j V hj hV => beats40 (hs.of_below hV) hj hi
  have HZ : Hid (z = true ↔ ∃ j, j < n ∧ P i j < P j i) := hz
  clear hs hz
  go_enter Tryz.func35, Tryz.ntmps35
  go_wp2_with fail
  go_loopg [5, 8] n (fun gk v5 v8 wr => ∃ j : Nat, j + gk = n ∧ v8 = .int .i64 (j : Int) ∧ (∀ k, k < j → ¬ P i k < P k i) ∧ Below w.heap.size w wr)
  case atStart => exact ⟨0, by omega, rfl, fun k hk => by omega, Below.refl _ _⟩
  case round =>
    obtain ⟨j, hjg, rfl, hx, hB⟩ := hrel
    have HX : Hid (∀ k, k < j → ¬ P i k < P k i) := hx
    have B : Hid (Below w.heap.size w wr) := hB
    clear hx hB
    by_cases hj : j < n
    · have jl : (j : Int) < (n : Int) := by omega
      have C0 := HB.out j wr hj B.out
      by_cases he : P i j < P j i
      · have HT : Hid (z = true) := HZ.out.2 ⟨j, hj, he⟩
        rw [decide_eq_true he] at C0
        have C : Hid (Calls Tryz.prog 40 #[.slice a n c, .int .i64 (j : Int), .int .i64 (i : Int)] wr fun e w' => e = .returned (.bool true) ∧ Below wr.heap.size wr w') := C0
        clear C0 he HX HZ HB
        go_wp2_with (go_at_call 40; refine (C.out).mono ?_; rintro e V1 ⟨rfl, hB⟩; have B1 : Hid (Below w.heap.size w V1) := B.out.trans (hB.mono B.out.size); clear hB C)
        go_ret
        exact ⟨by rw [HT.out]; rfl, B1.out⟩
      · have HN : Hid (∀ k, k < j + 1 → ¬ P i k < P k i) := fun k hk => by
          by_cases q : k = j
          · subst q; exact he
          · exact HX.out k (by omega)
        rw [decide_eq_false he] at C0
        have C : Hid (Calls Tryz.prog 40 #[.slice a n c, .int .i64 (j : Int), .int .i64 (i : Int)] wr fun e w' => e = .returned (.bool false) ∧ Below wr.heap.size wr w') := C0
        clear C0 he HX
        go_wp2_with (go_at_call 40; refine (C.out).mono ?_; rintro e V1 ⟨rfl, hB⟩; have B1 : Hid (Below w.heap.size w V1) := B.out.trans (hB.mono B.out.size); clear hB C)
        go_roundg (gk - 1)
        case measure => omega
        case rel => exact ⟨j + 1, by omega, by go_num, HN.out, B1.out⟩
    · have jl : ¬ (j : Int) < (n : Int) := by omega
      have e : j = n := by omega
      have HT : Hid (z = false) := by
        cases q : z with
        | false => rfl
        | true => obtain ⟨k, h1, h2⟩ := HZ.out.1 q; exact absurd h2 (HX.out k (by omega))
      clear e HX HZ HB
      go_wp2_with fail
      go_ret
      exact ⟨by rw [HT.out]; rfl, B.out⟩
/-- Whom nobody has a stronger way to. -/
def UB (P : Mt) (n : Nat) (w' : World) (v : Value) : Prop := ∃ g x, v = .slice (some ⟨g, 0, none⟩) 1 1 ∧ IL w' (some ⟨g, 0, none⟩) [((x : Nat) : Int)] ∧ x < n ∧ ∃ M, Str P n M ∧ ∀ j, j < n → ¬ Bt M j x
theorem UB.of_below {P : Mt} {n : Nat} {w w' : World} {v : Value} (h : UB P n w v) (hb : Below w.heap.size w w') : UB P n w' v := by
  obtain ⟨g, x, e, h1, h2, h3⟩ := h
  exact ⟨g, x, e, h1.of_below hb, h2, h3⟩
set_option maxHeartbeats 4000000 in
theorem unbeaten21 {w : World} {nm lt : ByteArray} {ca a : Option Addr} {n cc c : Nat} {r s m : Int} {L : List (List Int)} {os : List ByteArray} (h1 : 1 ≤ n) (hn : n ≤ 12) (hs : LL w a L) (hlen : ∀ i (h : i < L.length), L[i].length = n) (h9 : L.length ≤ 4096)
    (hf : K.Fit lt nm os) (ho : F.SAt w ca os) (ho2 : os.length = n) (hT : F.Tabs w) (hS : F.Starts w) :
    Calls Tryz.prog 21 #[PV nm ca n cc r s m a L.length c lt] w fun e w' => (∃ v, e = .returned v ∧ UB (pcM (fl L)) n w' v) ∧ Below w.heap.size w w' := by
  have PR : Hid (∀ W, Below w.heap.size w W → Calls Tryz.prog 13 #[.agg #[.string nm, .slice ca n cc, .int .i64 r, .int .i64 s, .int .i64 m, .slice a L.length c, .string lt]] W fun e w' => (∃ b, e = .returned (.slice (some ⟨b, 0, none⟩) n n) ∧ MX w' b n (pcM (fl L))) ∧ Below W.heap.size W w') := fun W hW => pairs13 hn (hs.of_below hW) hlen h9
  have PS : Hid (∀ W b, MX W b n (pcM (fl L)) → Calls Tryz.prog 15 #[.slice (some ⟨b, 0, none⟩) n n] W fun e w' => (∃ b M, e = .returned (.slice (some ⟨b, 0, none⟩) n n) ∧ Str (pcM (fl L)) n M ∧ MX w' b n M) ∧ Below W.heap.size W w') := fun W b hm => (paths17 hn hm.sq (fun i j _ _ => by unfold pcM; omega)).mono (by
    rintro e w' ⟨rfl, ⟨M, q1, q2⟩, hB⟩
    exact ⟨⟨_, M, rfl, q1, q2⟩, hB⟩)
  have DR : Hid (∀ W, Below w.heap.size w W → Calls Tryz.prog 34 #[.agg #[.string nm, .slice ca n cc, .int .i64 r, .int .i64 s, .int .i64 m], .string lt] W fun e w' => (∃ da dc D, e = .returned (.slice da n dc) ∧ D.length = n ∧ (∀ x ∈ D, x < n) ∧ (∀ x, x < n → x ∈ D) ∧ IL w' da (zi D)) ∧ Below W.heap.size W w') := fun W hW => (K.drawn10_ok (c := cc) (r := r) (s := s) (m := m) hf (fun i hi => by obtain ⟨b, o, e, hc⟩ := ho i hi; exact ⟨b, o, e, cell_keep hc hW⟩) ho2 ⟨h1, hn⟩ (hT.of_below hW hT.size) (hS.of_below hW hT.size)).mono (by
    rintro e w' ⟨⟨v, rfl, hl⟩, hB⟩
    obtain ⟨da, dc, rfl, _, _, _, _, hIL⟩ := hl.ex
    have e1 : (K.zi (K.rl (K.ltL lt nm os) n)).length = n := by rw [K.zi_len, K.rl_length]
    refine ⟨⟨da, dc, K.rl (K.ltL lt nm os) n, by rw [e1], K.rl_length _ _, fun x hx => (K.rl_mem _ _ _).1 hx, fun x hx => (K.rl_mem _ _ _).2 hx, hIL⟩, hB⟩)
  clear hs hlen h9 hf ho ho2 hT hS
  generalize pcM (fl L) = P at *
  obtain ⟨N, hN⟩ : ∃ N, N = L.length := ⟨_, rfl⟩
  rw [← hN] at PR ⊢
  clear hN
  unfold PV
  have B : Hid (Below w.heap.size w (w.alloc (.cells #[.string nm, .slice ca n cc, .int .i64 r, .int .i64 s, .int .i64 m, .slice a N c, .string lt] 41))) := (Below.refl _ _).alloc (Nat.le_refl _) _
  have I0 : Hid (IHolds (w.alloc (.cells #[.string nm, .slice ca n cc, .int .i64 r, .int .i64 s, .int .i64 m, .slice a N c, .string lt] 41)) w.heap.size 41 [.string nm, .slice ca n cc, .int .i64 r, .int .i64 s, .int .i64 m, .slice a N c, .string lt]) := IHolds.new w 41 _
  go_enter Tryz.func21, Tryz.ntmps21
  go_wp2_with (go_at_call 13; refine (PR.out _ B.out).mono ?_)
  rintro e w1 ⟨⟨b1, rfl, hm⟩, hB⟩
  have B1 : Hid (Below w.heap.size w w1) := B.out.trans (hB.mono B.out.size)
  have I1 : Hid (IHolds w1 w.heap.size 41 [.string nm, .slice ca n cc, .int .i64 r, .int .i64 s, .int .i64 m, .slice a N c, .string lt]) := I0.out.of_below hB
  have PS1 : Hid (Calls Tryz.prog 15 #[.slice (some ⟨b1, 0, none⟩) n n] w1 fun e w' => (∃ b M, e = .returned (.slice (some ⟨b, 0, none⟩) n n) ∧ Str P n M ∧ MX w' b n M) ∧ Below w1.heap.size w1 w') := PS.out _ _ hm
  clear hB hm PR I0 PS
  go_wp2_with (go_at_call 15; refine (PS1.out).mono ?_)
  rintro e w2 ⟨⟨b2, M, rfl, hst, hm⟩, hB⟩
  have B2 : Hid (Below w.heap.size w w2) := B1.out.trans (hB.mono B1.out.size)
  have I2 : Hid (IHolds w2 w.heap.size 41 [.string nm, .slice ca n cc, .int .i64 r, .int .i64 s, .int .i64 m, .slice a N c, .string lt]) := I1.out.of_below hB
  have ST : Hid (Str P n M) := hst
  have M2 : Hid (MX w2 b2 n M) := hm
  clear hB hm hst PS1 I1
  obtain ⟨k0, k1, k2, k3, k4, k5, k6⟩ := seven I2.out
  go_wp2_with (go_at_call 34; refine (DR.out _ B2.out).mono ?_)
  rintro e w3 ⟨⟨da, dc, DL, rfl, hdl, hlo, hal, hil⟩, hB⟩
  have B3 : Hid (Below w.heap.size w w3) := B2.out.trans (hB.mono B2.out.size)
  have M3 : Hid (MX w3 b2 n M) := M2.out.of_below hB
  have IL3 : Hid (IL w3 da (zi DL)) := hil
  have DLO : Hid (∀ x ∈ DL, x < n) := hlo
  have DAL : Hid (∀ x, x < n → x ∈ DL) := hal
  have DLN : Hid (DL.length = n) := hdl
  clear hB hil hlo hal hdl DR I2 k0 k1 k2 k3 k4 k5 k6 M2
  have AB : Hid (∀ V i z, Below w3.heap.size w3 V → i < n → (z = true ↔ ∃ j, j < n ∧ M i j < M j i) → Calls Tryz.prog 35 #[.slice (some ⟨b2, 0, none⟩) n n, .int .i64 ((i : Nat) : Int)] V fun e w' => e = .returned (.bool z) ∧ Below V.heap.size V w') := fun V i z hV hi hz => anyBeats35 (by omega) (M3.out.sq.of_below hV) hi hz
  clear M3
  go_wp2_with fail
  go_loopg [5, 15] n (fun gk v5 v15 wr => ∃ i : Nat, i + gk = n ∧ v15 = .int .i64 (i : Int) ∧ (∀ k (h : k < DL.length), k < i → ∃ j, j < n ∧ M DL[k] j < M j DL[k]) ∧ Below w3.heap.size w3 wr)
  case atStart => exact ⟨0, by omega, rfl, fun k _ hk => by omega, Below.refl _ _⟩
  case round =>
    obtain ⟨i, hig, rfl, hx, hB⟩ := hrel
    have HX : Hid (∀ k (h : k < DL.length), k < i → ∃ j, j < n ∧ M DL[k] j < M j DL[k]) := hx
    have BB : Hid (Below w3.heap.size w3 wr) := hB
    clear hx hB
    by_cases hi : i < n
    · have il : (i : Int) < (n : Int) := by omega
      have hi2 : i < DL.length := by rw [DLN.out]; exact hi
      obtain ⟨gb, go, rfl, q⟩ := IL3.out.of_below BB.out i (by rw [zi_len]; exact hi2)
      rw [zi_at hi2] at q
      have xl := DLO.out _ (List.getElem_mem hi2)
      by_cases he : ∃ j, j < n ∧ M DL[i] j < M j DL[i]
      · have C : Hid (Calls Tryz.prog 35 #[.slice (some ⟨b2, 0, none⟩) n n, .int .i64 ((DL[i] : Nat) : Int)] wr fun e w' => e = .returned (.bool true) ∧ Below wr.heap.size wr w') := AB.out wr DL[i] true BB.out xl ⟨fun _ => he, fun _ => rfl⟩
        have HN : Hid (∀ k (h : k < DL.length), k < i + 1 → ∃ j, j < n ∧ M DL[k] j < M j DL[k]) := fun k h hk => by
          by_cases e : k = i
          · subst e; exact he
          · exact HX.out k h (by omega)
        clear he HX xl
        generalize DL[i] = x at *
        go_wp2_with (go_at_call 35; refine (C.out).mono ?_; rintro e V1 ⟨rfl, hB⟩; have BB1 : Hid (Below w3.heap.size w3 V1) := BB.out.trans (hB.mono BB.out.size); clear hB C)
        go_roundg (gk - 1)
        case measure => omega
        case rel => exact ⟨i + 1, by omega, by go_num, HN.out, BB1.out⟩
      · have C : Hid (Calls Tryz.prog 35 #[.slice (some ⟨b2, 0, none⟩) n n, .int .i64 ((DL[i] : Nat) : Int)] wr fun e w' => e = .returned (.bool false) ∧ Below wr.heap.size wr w') := AB.out wr DL[i] false BB.out xl ⟨fun q => by simp at q, fun q => absurd q he⟩
        have XL : Hid (DL[i] < n) := xl
        have HU : Hid (∀ j, j < n → ¬ Bt M j DL[i]) := fun j hj hb => he ⟨j, hj, hb⟩
        clear he HX xl AB DLO DAL
        generalize DL[i] = x at *
        go_wp2_with (go_at_call 35; refine (C.out).mono ?_; rintro e V1 ⟨rfl, hB⟩; have BB1 : Hid (Below w.heap.size w V1) := B3.out.trans ((BB.out.trans (hB.mono BB.out.size)).mono B3.out.size); clear hB C)
        refine bodyPost_ret (v := .slice (some ⟨V1.heap.size, 0, none⟩) 1 1) (by simp [results, Tryz.results21, go_sem]) rfl ⟨⟨_, rfl, V1.heap.size, x, rfl, ?_, XL.out, M, ST.out, HU.out⟩, BB1.out.alloc BB1.out.size _⟩
        intro jj hjj
        match jj, hjj with
        | 0, _ => exact ⟨_, _, rfl, by simp⟩
    · exfalso
      obtain ⟨x, hx, ht⟩ := ST.out.top n h1 (Nat.le_refl _)
      obtain ⟨k, hk, e⟩ := List.getElem_of_mem (DAL.out x hx)
      obtain ⟨j, hj, hb⟩ := HX.out k hk (by rw [DLN.out] at hk; omega)
      rw [e] at hb
      exact ht j hj hb
set_option maxHeartbeats 1000000 in
theorem elected11 {w : World} {nm lt : ByteArray} {ca a : Option Addr} {n cc N c : Nat} {s m : Int} {R : World → Value → Prop}
    (H : ∀ W, Below w.heap.size w W → Calls Tryz.prog 21 #[PV nm ca n cc 4 s m a N c lt] W fun e w' => (∃ v, e = .returned v ∧ R w' v) ∧ Below W.heap.size W w') :
    Calls Tryz.prog 11 #[PV nm ca n cc 4 s m a N c lt] w fun e w' => (∃ v, e = .returned v ∧ R w' v) ∧ Below w.heap.size w w' := by
  have H1 : Hid (∀ W, Below w.heap.size w W → Calls Tryz.prog 21 #[.agg #[.string nm, .slice ca n cc, .int .i64 4, .int .i64 s, .int .i64 m, .slice a N c, .string lt]] W fun e w' => (∃ v, e = .returned v ∧ R w' v) ∧ Below W.heap.size W w') := H
  clear H
  unfold PV
  have B : Hid (Below w.heap.size w (w.alloc (.cells #[.string nm, .slice ca n cc, .int .i64 4, .int .i64 s, .int .i64 m, .slice a N c, .string lt] 41))) := (Below.refl _ _).alloc (Nat.le_refl _) _
  have I0 : Hid (IHolds (w.alloc (.cells #[.string nm, .slice ca n cc, .int .i64 4, .int .i64 s, .int .i64 m, .slice a N c, .string lt] 41)) w.heap.size 41 [.string nm, .slice ca n cc, .int .i64 4, .int .i64 s, .int .i64 m, .slice a N c, .string lt]) := IHolds.new w 41 _
  go_enter Tryz.func11, Tryz.ntmps11
  go_wp2_with (go_at_call 21; refine (H1.out _ B.out).mono ?_)
  rintro e w1 ⟨⟨v, rfl, hr⟩, hB⟩
  have B1 : Hid (Below w.heap.size w w1) := B.out.trans (hB.mono B.out.size)
  have RR : Hid (R w1 v) := hr
  clear hB hr H1
  go_wp2_with fail
  exact bodyPost_ret (v := v) (by simp [results, Tryz.results11, go_sem]) rfl ⟨⟨v, rfl, RR.out⟩, B1.out⟩
set_option maxHeartbeats 2000000 in
theorem withPoll10_w {w : World} {nm lt : ByteArray} {ca a : Option Addr} {n cc c : Nat} {r s m : Int} {L : List (List Int)} (hw : wc n r s = 2) :
    Calls Tryz.prog 10 #[CV nm ca n cc r s m, .slice a L.length c, .string lt, .func (.func 11) #[] #[]] w fun e w' => e = .returned (.tuple #[.slice none 0 0, .int .i64 2]) ∧ Below w.heap.size w w' := by
  have H : Hid (∀ W, Calls Tryz.prog 18 #[.agg #[.string nm, .slice ca n cc, .int .i64 r, .int .i64 s, .int .i64 m]] W fun e w' => e = .returned (.int .i64 2) ∧ Below W.heap.size W w') := fun W => by have := wrong22 nm ca n cc r s m W; rw [hw] at this; exact this
  clear hw
  generalize L.length = K at *
  unfold CV
  have B : Hid (Below w.heap.size w (w.alloc (.cells #[.string nm, .slice ca n cc, .int .i64 r, .int .i64 s, .int .i64 m] 24))) := (Below.refl _ _).alloc (Nat.le_refl _) _
  have I0 : Hid (IHolds (w.alloc (.cells #[.string nm, .slice ca n cc, .int .i64 r, .int .i64 s, .int .i64 m] 24)) w.heap.size 24 [.string nm, .slice ca n cc, .int .i64 r, .int .i64 s, .int .i64 m]) := IHolds.new w 24 _
  go_enter Tryz.func10, Tryz.ntmps10
  go_wp2_with (go_at_call 18; refine (H.out _).mono ?_)
  rintro e w1 ⟨rfl, hB⟩
  have B1 : Hid (Below w.heap.size w w1) := B.out.trans (hB.mono B.out.size)
  have I1 : Hid (IHolds w1 w.heap.size 24 [.string nm, .slice ca n cc, .int .i64 r, .int .i64 s, .int .i64 m]) := I0.out.of_below hB
  obtain ⟨k0, k1, k2, k3, k4⟩ := five I1.out
  clear hB H I0
  go_wp2_with fail
  go_ret2
  exact ⟨rfl, B1.out⟩
set_option maxHeartbeats 1000000 in
theorem elect4_w {w : World} {nm lt : ByteArray} {ca a : Option Addr} {n cc c : Nat} {r s m : Int} {L : List (List Int)} (hw : wc n r s = 2) :
    Calls Tryz.prog 4 #[CV nm ca n cc r s m, .slice a L.length c, .string lt] w fun e w' => e = .returned (.tuple #[.slice none 0 0, .int .i64 2]) ∧ Below w.heap.size w w' := by
  have H : Hid (∀ W, Below w.heap.size w W → Calls Tryz.prog 10 #[.agg #[.string nm, .slice ca n cc, .int .i64 r, .int .i64 s, .int .i64 m], .slice a L.length c, .string lt, .func (.func 11) #[] #[]] W fun e w' => e = .returned (.tuple #[.slice none 0 0, .int .i64 2]) ∧ Below W.heap.size W w') := fun W hW => withPoll10_w hw
  clear hw
  skip
  generalize L.length = K at *
  unfold CV
  have B : Hid (Below w.heap.size w (w.alloc (.cells #[.string nm, .slice ca n cc, .int .i64 r, .int .i64 s, .int .i64 m] 24))) := (Below.refl _ _).alloc (Nat.le_refl _) _
  go_enter Tryz.func4, Tryz.ntmps4
  go_wp2_with (go_at_call 10; refine (H.out _ B.out).mono ?_)
  rintro e w1 ⟨rfl, hB⟩
  have B1 : Hid (Below w.heap.size w w1) := B.out.trans (hB.mono B.out.size)
  clear hB H
  go_wp2_with fail
  go_ret2
  exact ⟨rfl, B1.out⟩
set_option maxHeartbeats 2000000 in
theorem withPoll10_b {w : World} {nm lt : ByteArray} {ca a : Option Addr} {n cc c : Nat} {r s m : Int} {L : List (List Int)} (hw : wc n r s = 0) {z : Int} (hz : z ≠ 0) (hb : wb n L = z) (hs : LL w a L) :
    Calls Tryz.prog 10 #[CV nm ca n cc r s m, .slice a L.length c, .string lt, .func (.func 11) #[] #[]] w fun e w' => e = .returned (.tuple #[.slice none 0 0, .int .i64 z]) ∧ Below w.heap.size w w' := by
  have H : Hid (∀ W, Calls Tryz.prog 18 #[.agg #[.string nm, .slice ca n cc, .int .i64 r, .int .i64 s, .int .i64 m]] W fun e w' => e = .returned (.int .i64 0) ∧ Below W.heap.size W w') := fun W => by have := wrong22 nm ca n cc r s m W; rw [hw] at this; exact this
  have H2 : Hid (∀ W, Below w.heap.size w W → Calls Tryz.prog 19 #[.agg #[.string nm, .slice ca n cc, .int .i64 r, .int .i64 s, .int .i64 m], .slice a L.length c] W fun e w' => e = .returned (.int .i64 z) ∧ Below W.heap.size W w') := fun W hW => by have := wrongBallots23 (nm := nm) (ca := ca) (n := n) (cc := cc) (r := r) (s := s) (m := m) (c := c) (hs.of_below hW); rw [hb] at this; exact this
  have z0 : (z != 0) = true := by simpa using hz
  clear hw hb hz hs
  obtain ⟨K, hK⟩ : ∃ K, K = L.length := ⟨_, rfl⟩
  rw [← hK] at H2 ⊢
  clear hK
  unfold CV
  have B : Hid (Below w.heap.size w (w.alloc (.cells #[.string nm, .slice ca n cc, .int .i64 r, .int .i64 s, .int .i64 m] 24))) := (Below.refl _ _).alloc (Nat.le_refl _) _
  have I0 : Hid (IHolds (w.alloc (.cells #[.string nm, .slice ca n cc, .int .i64 r, .int .i64 s, .int .i64 m] 24)) w.heap.size 24 [.string nm, .slice ca n cc, .int .i64 r, .int .i64 s, .int .i64 m]) := IHolds.new w 24 _
  go_enter Tryz.func10, Tryz.ntmps10
  go_wp2_with (go_at_call 18; refine (H.out _).mono ?_)
  rintro e w1 ⟨rfl, hB⟩
  have B1 : Hid (Below w.heap.size w w1) := B.out.trans (hB.mono B.out.size)
  have I1 : Hid (IHolds w1 w.heap.size 24 [.string nm, .slice ca n cc, .int .i64 r, .int .i64 s, .int .i64 m]) := I0.out.of_below hB
  obtain ⟨k0, k1, k2, k3, k4⟩ := five I1.out
  clear hB H I0
  go_wp2_with (go_at_call 19; refine (H2.out _ B1.out).mono ?_)
  rintro e w2 ⟨rfl, hB⟩
  have B2 : Hid (Below w.heap.size w w2) := B1.out.trans (hB.mono B1.out.size)
  have I2 : Hid (IHolds w2 w.heap.size 24 [.string nm, .slice ca n cc, .int .i64 r, .int .i64 s, .int .i64 m]) := I1.out.of_below hB
  clear k0 k1 k2 k3 k4
  obtain ⟨k0, k1, k2, k3, k4⟩ := five I2.out
  clear hB H2 I1
  go_wp2_with fail
  go_ret2
  exact ⟨rfl, B2.out⟩
set_option maxHeartbeats 1000000 in
theorem elect4_b {w : World} {nm lt : ByteArray} {ca a : Option Addr} {n cc c : Nat} {r s m : Int} {L : List (List Int)} (hw : wc n r s = 0) {z : Int} (hz : z ≠ 0) (hb : wb n L = z) (hs : LL w a L) :
    Calls Tryz.prog 4 #[CV nm ca n cc r s m, .slice a L.length c, .string lt] w fun e w' => e = .returned (.tuple #[.slice none 0 0, .int .i64 z]) ∧ Below w.heap.size w w' := by
  have H : Hid (∀ W, Below w.heap.size w W → Calls Tryz.prog 10 #[.agg #[.string nm, .slice ca n cc, .int .i64 r, .int .i64 s, .int .i64 m], .slice a L.length c, .string lt, .func (.func 11) #[] #[]] W fun e w' => e = .returned (.tuple #[.slice none 0 0, .int .i64 z]) ∧ Below W.heap.size W w') := fun W hW => withPoll10_b hw hz hb (hs.of_below hW)
  clear hw hz hb hs
  skip
  generalize L.length = K at *
  unfold CV
  have B : Hid (Below w.heap.size w (w.alloc (.cells #[.string nm, .slice ca n cc, .int .i64 r, .int .i64 s, .int .i64 m] 24))) := (Below.refl _ _).alloc (Nat.le_refl _) _
  go_enter Tryz.func4, Tryz.ntmps4
  go_wp2_with (go_at_call 10; refine (H.out _ B.out).mono ?_)
  rintro e w1 ⟨rfl, hB⟩
  have B1 : Hid (Below w.heap.size w w1) := B.out.trans (hB.mono B.out.size)
  clear hB H
  go_wp2_with fail
  go_ret2
  exact ⟨rfl, B1.out⟩
set_option maxHeartbeats 2000000 in
theorem withPoll10_ok {w : World} {nm lt : ByteArray} {ca a : Option Addr} {n cc c : Nat} {r s m : Int} {L : List (List Int)} (hw : wc n r s = 0) (hb : wb n L = 0) (hs : LL w a L) {R : World → Value → Prop} (H9 : ∀ W, Below w.heap.size w W → Calls Tryz.prog 11 #[PV nm ca n cc r s m a L.length c lt] W fun e w' => (∃ v, e = .returned v ∧ R w' v) ∧ Below W.heap.size W w') :
    Calls Tryz.prog 10 #[CV nm ca n cc r s m, .slice a L.length c, .string lt, .func (.func 11) #[] #[]] w fun e w' => (∃ v, e = .returned (.tuple #[v, .int .i64 0]) ∧ R w' v) ∧ Below w.heap.size w w' := by
  have H : Hid (∀ W, Calls Tryz.prog 18 #[.agg #[.string nm, .slice ca n cc, .int .i64 r, .int .i64 s, .int .i64 m]] W fun e w' => e = .returned (.int .i64 0) ∧ Below W.heap.size W w') := fun W => by have := wrong22 nm ca n cc r s m W; rw [hw] at this; exact this
  have H2 : Hid (∀ W, Below w.heap.size w W → Calls Tryz.prog 19 #[.agg #[.string nm, .slice ca n cc, .int .i64 r, .int .i64 s, .int .i64 m], .slice a L.length c] W fun e w' => e = .returned (.int .i64 0) ∧ Below W.heap.size W w') := fun W hW => by have := wrongBallots23 (nm := nm) (ca := ca) (n := n) (cc := cc) (r := r) (s := s) (m := m) (c := c) (hs.of_below hW); rw [hb] at this; exact this
  have H3 : Hid (∀ W, Below w.heap.size w W → Calls Tryz.prog 11 #[.agg #[.string nm, .slice ca n cc, .int .i64 r, .int .i64 s, .int .i64 m, .slice a L.length c, .string lt]] W fun e w' => (∃ v, e = .returned v ∧ R w' v) ∧ Below W.heap.size W w') := H9
  clear hw hb hs H9
  obtain ⟨K, hK⟩ : ∃ K, K = L.length := ⟨_, rfl⟩
  rw [← hK] at H2 ⊢
  rw [← hK] at H3
  clear hK
  unfold CV
  have B : Hid (Below w.heap.size w (w.alloc (.cells #[.string nm, .slice ca n cc, .int .i64 r, .int .i64 s, .int .i64 m] 24))) := (Below.refl _ _).alloc (Nat.le_refl _) _
  have I0 : Hid (IHolds (w.alloc (.cells #[.string nm, .slice ca n cc, .int .i64 r, .int .i64 s, .int .i64 m] 24)) w.heap.size 24 [.string nm, .slice ca n cc, .int .i64 r, .int .i64 s, .int .i64 m]) := IHolds.new w 24 _
  go_enter Tryz.func10, Tryz.ntmps10
  go_wp2_with (go_at_call 18; refine (H.out _).mono ?_)
  rintro e w1 ⟨rfl, hB⟩
  have B1 : Hid (Below w.heap.size w w1) := B.out.trans (hB.mono B.out.size)
  have I1 : Hid (IHolds w1 w.heap.size 24 [.string nm, .slice ca n cc, .int .i64 r, .int .i64 s, .int .i64 m]) := I0.out.of_below hB
  obtain ⟨k0, k1, k2, k3, k4⟩ := five I1.out
  clear hB H I0
  go_wp2_with (go_at_call 19; refine (H2.out _ B1.out).mono ?_)
  rintro e w2 ⟨rfl, hB⟩
  have B2 : Hid (Below w.heap.size w w2) := B1.out.trans (hB.mono B1.out.size)
  have I2 : Hid (IHolds w2 w.heap.size 24 [.string nm, .slice ca n cc, .int .i64 r, .int .i64 s, .int .i64 m]) := I1.out.of_below hB
  clear k0 k1 k2 k3 k4
  obtain ⟨k0, k1, k2, k3, k4⟩ := five I2.out
  clear hB H2 I1
  go_wp2_with (go_at_call 11; refine (H3.out _ B2.out).mono ?_)
  rintro e w3 ⟨⟨v, rfl, hm⟩, hB⟩
  have B3 : Hid (Below w.heap.size w w3) := B2.out.trans (hB.mono B2.out.size)
  have M3 : Hid (R w3 v) := hm
  clear hB hm H3 I2 k0 k1 k2 k3 k4
  go_wp2_with fail
  exact bodyPost_ret (v := .tuple #[v, .int .i64 0]) (by simp [results, Tryz.results10, go_sem]) rfl ⟨⟨v, rfl, M3.out⟩, B3.out⟩
set_option maxHeartbeats 1000000 in
theorem elect4_ok {w : World} {nm lt : ByteArray} {ca a : Option Addr} {n cc c : Nat} {r s m : Int} {L : List (List Int)} (hw : wc n r s = 0) (hb : wb n L = 0) (hs : LL w a L) {R : World → Value → Prop} (H9 : ∀ W, Below w.heap.size w W → Calls Tryz.prog 11 #[PV nm ca n cc r s m a L.length c lt] W fun e w' => (∃ v, e = .returned v ∧ R w' v) ∧ Below W.heap.size W w') :
    Calls Tryz.prog 4 #[CV nm ca n cc r s m, .slice a L.length c, .string lt] w fun e w' => (∃ v, e = .returned (.tuple #[v, .int .i64 0]) ∧ R w' v) ∧ Below w.heap.size w w' := by
  have H : Hid (∀ W, Below w.heap.size w W → Calls Tryz.prog 10 #[.agg #[.string nm, .slice ca n cc, .int .i64 r, .int .i64 s, .int .i64 m], .slice a L.length c, .string lt, .func (.func 11) #[] #[]] W fun e w' => (∃ v, e = .returned (.tuple #[v, .int .i64 0]) ∧ R w' v) ∧ Below W.heap.size W w') := fun W hW => withPoll10_ok hw hb (hs.of_below hW) (fun V hV => H9 V (hW.trans (hV.mono hW.size)))
  clear hw hb hs H9
  generalize L.length = K at *
  unfold CV
  have B : Hid (Below w.heap.size w (w.alloc (.cells #[.string nm, .slice ca n cc, .int .i64 r, .int .i64 s, .int .i64 m] 24))) := (Below.refl _ _).alloc (Nat.le_refl _) _
  go_enter Tryz.func4, Tryz.ntmps4
  go_wp2_with (go_at_call 10; refine (H.out _ B.out).mono ?_)
  rintro e w1 ⟨⟨v, rfl, hm⟩, hB⟩
  have B1 : Hid (Below w.heap.size w w1) := B.out.trans (hB.mono B.out.size)
  have M1 : Hid (R w1 v) := hm
  clear hB hm H
  go_wp2_with fail
  exact bodyPost_ret (v := .tuple #[v, .int .i64 0]) (by simp [results, Tryz.results4, go_sem]) rfl ⟨⟨v, rfl, M1.out⟩, B1.out⟩
end Go.Proofs.YtkcnpcjogfhkbaaGreatDoor
