/- Pairs, the program's. Pairs, the program's face; what is filled, the document's. -/
import Derived.Test.YtkcnpcjogfhkbaaGreatDoorZ22
set_option linter.unusedSimpArgs false
set_option linter.unusedVariables false
set_option maxRecDepth 100000
namespace Go.Proofs.YtkcnpcjogfhkbaaGreatDoor
open Go.RowKit Go.Deep Go.PlainAid

/-- On how many ballots the one stands ahead of the other. -/
def pcM (LF : List (List Int)) : Mt := fun x y => ((LF.countP (fun b => ah (b.getD x 0) (b.getD y 0)) : Nat) : Int)
/-- The same within a ballot. -/
def pm (LF : List (List Int)) (k i j : Nat) : Mt := fun x y => pcM (LF.take k) x y + (if (x < i ∨ (x = i ∧ y < j)) ∧ ah ((LF.getD k []).getD x 0) ((LF.getD k []).getD y 0) = true then 1 else 0)
theorem pm_zero (LF : List (List Int)) : pm LF 0 0 0 = fun _ _ => 0 := by
  funext x y; simp [pm, pcM]
theorem pm_end (LF : List (List Int)) : ∀ x y, pm LF LF.length 0 0 x y = pcM LF x y := fun x y => by simp [pm]
theorem pm_yes {LF : List (List Int)} {k i j : Nat} (h : ah ((LF.getD k []).getD i 0) ((LF.getD k []).getD j 0) = true) : ∀ x y, upd (pm LF k i j) i j (pm LF k i j i j + 1) x y = pm LF k i (j + 1) x y := fun x y => by
  by_cases e : x = i ∧ y = j
  · obtain ⟨rfl, rfl⟩ := e
    rw [upd_at]
    unfold pm
    rw [if_neg (by omega), if_pos ⟨by omega, h⟩]
    omega
  · rw [upd_ne _ _ _ _ e]
    unfold pm
    congr 1
    by_cases q : x < i ∨ (x = i ∧ y < j)
    · have q2 : x < i ∨ (x = i ∧ y < j + 1) := by omega
      simp [q, q2]
    · have q2 : ¬ (x < i ∨ (x = i ∧ y < j + 1)) := by omega
      simp [q, q2]
theorem pm_no {LF : List (List Int)} {k i j : Nat} (h : ah ((LF.getD k []).getD i 0) ((LF.getD k []).getD j 0) = false) : ∀ x y, pm LF k i j x y = pm LF k i (j + 1) x y := fun x y => by
  unfold pm
  congr 1
  by_cases e : x = i ∧ y = j
  · obtain ⟨rfl, rfl⟩ := e
    rw [h]; simp
  · by_cases q : x < i ∨ (x = i ∧ y < j)
    · have q2 : x < i ∨ (x = i ∧ y < j + 1) := by omega
      simp [q, q2]
    · have q2 : ¬ (x < i ∨ (x = i ∧ y < j + 1)) := by omega
      simp [q, q2]
theorem pm_row {LF : List (List Int)} {k i n : Nat} : ∀ x y, x < n → y < n → pm LF k i n x y = pm LF k (i + 1) 0 x y := fun x y hx hy => by
  have e1 : (x < i ∨ (x = i ∧ y < n)) = (x < i + 1 ∨ (x = i + 1 ∧ y < 0)) := propext ⟨fun h => by omega, fun h => by omega⟩
  unfold pm
  simp only [e1]
theorem pm_next {LF : List (List Int)} {k n : Nat} (hk : k < LF.length) : ∀ x y, x < n → y < n → pm LF k n 0 x y = pm LF (k + 1) 0 0 x y := fun x y hx hy => by
  have e : LF.getD k [] = LF[k] := by simp [hk]
  unfold pm
  rw [if_neg (show ¬ ((x < 0 ∨ (x = 0 ∧ y < 0)) ∧ _) from fun h => by omega), e]
  unfold pcM
  rw [List.take_succ_eq_append_getElem hk, List.countP_append, List.countP_singleton]
  have q : x < n ∨ (x = n ∧ y < 0) := Or.inl hx
  cases h : ah (LF[k].getD x 0) (LF[k].getD y 0) <;> simp [hx]
theorem pm_le (LF : List (List Int)) (k i j x y : Nat) : 0 ≤ pm LF k i j x y ∧ pm LF k i j x y ≤ (k : Int) + 1 := by
  unfold pm pcM
  have h1 : (LF.take k).countP (fun b => ah (b.getD x 0) (b.getD y 0)) ≤ k := Nat.le_trans List.countP_le_length (by rw [List.length_take]; omega)
  split <;> omega
theorem LH.set {V W : World} {a : Option Addr} {L : List (List Int)} {b n i j : Nat} {M : Mt} (h : LH V W a L) (hm : MX V b n M) (hi : i < n) (x : Value) : LH (V.setCell ⟨b + 1 + i, j, none⟩ x) W a L := fun k hk => by
  obtain ⟨g, o, a', c, e, h1, h2⟩ := h k hk
  refine ⟨g, o, a', c, e, ?_, h2⟩
  have hg : g ≠ b + 1 + i := fun q => by
    have z := hm.row i hi
    unfold IHolds at z
    subst q
    simp only [World.cell?, z] at h1
    rcases Nat.lt_or_ge (o + k) (rowV n (M i)).length with q | q
    · have e2 : (rowV n (M i)).toArray[o + k]? = some (rowV n (M i))[o + k] := by simp [q]
      simp only [rowV, List.getElem_map, List.getElem?_toArray] at e2 h1
      simp at h1
    · simp only [List.getElem?_toArray] at h1
      rw [List.getElem?_eq_none q] at h1
      simp at h1
  rw [World.cell?_of_block (a := ⟨g, o + k, none⟩) (Below.heap_setCell _ _ _ _ hg)]
  exact h1
set_option maxHeartbeats 8000000 in
theorem pairs13 {w : World} {nm lt : ByteArray} {ca a : Option Addr} {n cc c : Nat} {r s m : Int} {L : List (List Int)} (hn : n ≤ 12) (hs : LL w a L) (hlen : ∀ i (h : i < L.length), L[i].length = n) (h9 : L.length ≤ 4096) :
    Calls Tryz.prog 13 #[PV nm ca n cc r s m a L.length c lt] w fun e w' => (∃ b, e = .returned (.slice (some ⟨b, 0, none⟩) n n) ∧ MX w' b n (pcM (fl L))) ∧ Below w.heap.size w w' := by
  have SA : Hid (∀ (V : World) (o : Obj), (V.alloc o).heap.size = V.heap.size + 1) := fun V o => by simp
  have ZZ : Hid (∀ V, Calls Tryz.prog 23 #[.int .i64 (n : Int)] V fun e w' => e = .returned (.slice (some ⟨V.heap.size, 0, none⟩) n n) ∧ MX w' V.heap.size n (fun _ _ => 0) ∧ Below V.heap.size V w') := fun V => zeros24 hn
  have RK : Hid (∀ V, Calls Tryz.prog 24 #[.agg #[.string nm, .slice ca n cc, .int .i64 r, .int .i64 s, .int .i64 m, .slice a L.length c, .string lt]] V fun e w' => e = .returned (.agg #[.string nm, .slice ca n cc, .int .i64 3, .int .i64 s, .int .i64 m, .slice a L.length c, .string lt]) ∧ Below V.heap.size V w') := fun V => ranked25
  have CT : Hid (∀ V, Below w.heap.size w V → Calls Tryz.prog 25 #[.agg #[.string nm, .slice ca n cc, .int .i64 3, .int .i64 s, .int .i64 m, .slice a L.length c, .string lt]] V fun e w' => (∃ a' c', e = .returned (.slice a' (fl L).length c') ∧ LH w' w a' (fl L)) ∧ Below V.heap.size V w') := fun V hV => counted26 hn hV hs hlen h9
  have LN : Hid (∀ k (h : k < (fl L).length), (fl L)[k].length = n) := fun k h => by
    have q : (fl L)[k] ∈ L := (List.mem_filter.1 (List.getElem_mem h)).1
    obtain ⟨i, hi, e⟩ := List.getElem_of_mem q
    rw [← e]; exact hlen i hi
  have L9 : Hid ((fl L).length ≤ 4096) := Nat.le_trans (fl_len L) h9
  obtain ⟨N, hN⟩ : ∃ N, N = L.length := ⟨_, rfl⟩
  rw [← hN] at RK CT ⊢
  clear hs hlen h9 hN
  generalize fl L = LF at *
  unfold PV
  have B : Hid (Below w.heap.size w (w.alloc (.cells #[.string nm, .slice ca n cc, .int .i64 r, .int .i64 s, .int .i64 m, .slice a N c, .string lt] 41))) := (Below.refl _ _).alloc (Nat.le_refl _) _
  have I0 : Hid (IHolds (w.alloc (.cells #[.string nm, .slice ca n cc, .int .i64 r, .int .i64 s, .int .i64 m, .slice a N c, .string lt] 41)) w.heap.size 41 [.string nm, .slice ca n cc, .int .i64 r, .int .i64 s, .int .i64 m, .slice a N c, .string lt]) := IHolds.new w 41 _
  go_enter Tryz.func13, Tryz.ntmps13
  obtain ⟨NL, hNL⟩ : ∃ k, k = LF.length := ⟨_, rfl⟩
  have HNL : Hid (NL = LF.length) := hNL
  rw [← hNL] at CT L9
  clear hNL
  go_wp2_with (go_at_call 23; refine (ZZ.out _).mono ?_)
  rintro e w1 ⟨rfl, hm, hB⟩
  have B1 : Hid (Below w.heap.size w w1) := B.out.trans (hB.mono B.out.size)
  rw [SA.out] at hm
  have M1 : Hid (MX w1 (w.heap.size + 1) n (fun _ _ => 0)) := hm
  have I1 : Hid (IHolds w1 w.heap.size 41 [.string nm, .slice ca n cc, .int .i64 r, .int .i64 s, .int .i64 m, .slice a N c, .string lt]) := I0.out.of_below hB
  obtain ⟨k0, k1, k2, k3, k4, k5, k6⟩ := seven I1.out
  clear hm hB ZZ I0
  go_wp2_with (go_at_call 24; refine (RK.out _).mono ?_)
  rintro e w2 ⟨rfl, hB⟩
  have B2 : Hid (Below w.heap.size w w2) := B1.out.trans (hB.mono B1.out.size)
  have M2 : Hid (MX w2 (w.heap.size + 1) n (fun _ _ => 0)) := M1.out.of_below hB
  clear hB RK I1 k0 k1 k2 k3 k4 k5 k6 M1
  go_wp2_with (go_at_call 25; refine (CT.out _ B2.out).mono ?_)
  rintro e w3 ⟨⟨av, cv, rfl, hl⟩, hB⟩
  have B3 : Hid (Below w.heap.size w w3) := B2.out.trans (hB.mono B2.out.size)
  have M3 : Hid (MX w3 (w.heap.size + 1) n (fun _ _ => 0)) := M2.out.of_below hB
  have LV : Hid (LH w3 w av LF) := hl
  clear hB hl CT M2
  try simp only [World.size_alloc]
  obtain ⟨b, hb⟩ : ∃ b, b = w.heap.size + 1 := ⟨_, rfl⟩
  have HB : Hid (w.heap.size < b) := by show _ < _; omega
  have M4 : Hid (MX w3 b n (pm LF 0 0 0)) := by rw [hb, pm_zero]; exact M3.out
  rw [← hb]
  clear hb M3
  have SZ : Hid (b < w3.heap.size) := M4.out.top.lt
  go_wp2_with fail
  go_loopg [5, 6, 7, 8, 18] NL (fun gk v5 v6 v7 v8 v18 wr => ∃ k : Nat, k + gk = NL ∧ v18 = .int .i64 (k : Int) ∧ MX wr b n (pm LF k 0 0) ∧ Below w.heap.size w wr ∧ LH wr w av LF)
  case atStart => exact ⟨0, by omega, rfl, M4.out, B3.out, LV.out⟩
  case round =>
    clear M4 B3 LV SZ
    obtain ⟨k, hkg, rfl, hM, hB, hL⟩ := hrel
    have M1 : Hid (MX wr b n (pm LF k 0 0)) := hM
    have B1 : Hid (Below w.heap.size w wr) := hB
    have L1 : Hid (LH wr w av LF) := hL
    clear hM hB hL
    by_cases hk : k < NL
    · have kl : (k : Int) < (NL : Int) := by omega
      have hk2 : k < LF.length := by rw [← HNL.out]; exact hk
      obtain ⟨gb, go, ab, cb, rfl, q1, q2⟩ := L1.out k hk2
      have LK : Hid (LF[k].length = n) := LN.out k hk2
      rw [LK.out] at q1
      have QB : Hid (IL w ab LF[k]) := q2
      have GK : Hid (LF.getD k [] = LF[k]) := by show _ = _; simp [hk2]
      have NX : Hid (∀ x y, x < n → y < n → pm LF k n 0 x y = pm LF (k + 1) 0 0 x y) := pm_next hk2
      have k9 : k ≤ 4096 := by have := L9.out; omega
      obtain ⟨bk, hbk⟩ : ∃ l, l = LF[k] := ⟨_, rfl⟩
      rw [← hbk] at LK QB GK
      clear hbk hk2 q2
      obtain ⟨G1, rfl⟩ : ∃ G, G = gk := ⟨gk, rfl⟩
      go_wp2_with fail
      clear q1
      go_loopg [6, 7, 8, 24] n (fun gk v6 v7 v8 v24 wr => ∃ i : Nat, i + gk = n ∧ v24 = .int .i64 (i : Int) ∧ MX wr b n (pm LF k i 0) ∧ Below w.heap.size w wr ∧ LH wr w (some ⟨gb, go, none⟩) LF)
      case atStart => exact ⟨0, by omega, rfl, M1.out, B1.out, L1.out⟩
      case round =>
        clear M1 B1 L1
        obtain ⟨i, hig, rfl, hM, hB, hL⟩ := hrel
        have M1 : Hid (MX wr b n (pm LF k i 0)) := hM
        have B1 : Hid (Below w.heap.size w wr) := hB
        have L1 : Hid (LH wr w (some ⟨gb, go, none⟩) LF) := hL
        clear hM hB hL
        obtain ⟨G2, rfl⟩ : ∃ G, G = gk := ⟨gk, rfl⟩
        by_cases hi : i < n
        · have il : (i : Int) < (n : Int) := by omega
          have q0 := M1.out.hdr hi
          go_wp2_with fail
          clear q0
          go_loopg [8, 31] n (fun gk v8 v31 wr => ∃ j : Nat, j + gk = n ∧ v31 = .int .i64 (j : Int) ∧ MX wr b n (pm LF k i j) ∧ Below w.heap.size w wr ∧ LH wr w (some ⟨gb, go, none⟩) LF)
          case atStart => exact ⟨0, by omega, rfl, M1.out, B1.out, L1.out⟩
          case round =>
            clear M1 B1 L1
            obtain ⟨j, hjg, rfl, hM, hB, hL⟩ := hrel
            have M1 : Hid (MX wr b n (pm LF k i j)) := hM
            have B1 : Hid (Below w.heap.size w wr) := hB
            have L1 : Hid (LH wr w (some ⟨gb, go, none⟩) LF) := hL
            clear hM hB hL
            by_cases hj : j < n
            · have jl : (j : Int) < (n : Int) := by omega
              have hib : i < bk.length := by rw [LK.out]; exact hi
              have hjb : j < bk.length := by rw [LK.out]; exact hj
              obtain ⟨xb, xo, rfl, c1⟩ := QB.out.of_below B1.out i hib
              obtain ⟨xb', xo', e', c2⟩ := QB.out.of_below B1.out j hjb
              cases e'
              have AH : Hid (ah ((LF.getD k []).getD i 0) ((LF.getD k []).getD j 0) = ah bk[i] bk[j]) := by show _ = _; rw [GK.out]; simp [hib, hjb]
              have AC : Hid (∀ W, Calls Tryz.prog 26 #[.int .i64 bk[i], .int .i64 bk[j]] W fun e w' => e = .returned (.bool (ah bk[i] bk[j])) ∧ w' = W) := ahead27 _ _
              have PL := pm_le LF k i j i j
              have PY : Hid (ah ((LF.getD k []).getD i 0) ((LF.getD k []).getD j 0) = true → ∀ x y, upd (pm LF k i j) i j (pm LF k i j i j + 1) x y = pm LF k i (j + 1) x y) := pm_yes
              have PN : Hid (ah ((LF.getD k []).getD i 0) ((LF.getD k []).getD j 0) = false → ∀ x y, pm LF k i j x y = pm LF k i (j + 1) x y) := pm_no
              rw [AH.out] at PY PN
              have MS : Hid (∀ W, MX W b n (pm LF k i j) → MX (W.setCell ⟨b + 1 + i, j, none⟩ (.int .i64 (pm LF k i j i j + 1))) b n (upd (pm LF k i j) i j (pm LF k i j i j + 1))) := fun W h => h.set hi hj _
              have MA : Hid (∀ W, MX W b n (pm LF k i j) → W.cell? ⟨b + 1 + i, j, none⟩ = some (.int .i64 (pm LF k i j i j))) := fun W h => h.at hi hj
              clear AH GK
              generalize pm LF k i j i j = pv at *
              obtain ⟨z, hz⟩ : ∃ z, z = ah bk[i] bk[j] := ⟨_, rfl⟩
              rw [← hz] at AC PY PN
              clear hz
              generalize bk[i] = xi at *
              generalize bk[j] = xj at *
              go_wp2_with fail
              go_quiet (first | (go_at_call 26; exact Calls.quiet_of_same (AC.out _)) | fail)
              have MQ : Hid (MX (World.drewN wr nq) b n (pm LF k i j)) := ⟨M1.out.top, M1.out.row⟩
              have BQ : Hid (Below w.heap.size w (World.drewN wr nq)) := B1.out.trans ⟨rfl, rfl, rfl, Nat.le_refl _, fun _ _ => rfl⟩
              have LQ : Hid (LH (World.drewN wr nq) w (some ⟨gb, go, none⟩) LF) := L1.out
              clear c1 c2 M1 B1 L1 AC hib hjb
              generalize World.drewN wr nq = X at *
              cases z with
              | false =>
                have MN : Hid (MX X b n (pm LF k i (j + 1))) := MQ.out.congr (fun x y _ _ => PN.out (by simp) x y)
                go_wp2_with fail
                go_roundg (gk - 1)
                case measure => omega
                case rel => exact ⟨j + 1, by omega, by go_num, MN.out, BQ.out, LQ.out⟩
              | true =>
                have MN : Hid (MX (X.setCell ⟨b + 1 + i, j, none⟩ (.int .i64 (pv + 1))) b n (pm LF k i (j + 1))) := (MS.out X MQ.out).congr (fun x y _ _ => PY.out (by simp) x y)
                have BN : Hid (Below w.heap.size w (X.setCell ⟨b + 1 + i, j, none⟩ (.int .i64 (pv + 1)))) := BQ.out.setCell (by have := HB.out; show _ ≤ b + 1 + i; omega) _
                have LN2 : Hid (LH (X.setCell ⟨b + 1 + i, j, none⟩ (.int .i64 (pv + 1))) w (some ⟨gb, go, none⟩) LF) := LQ.out.set MQ.out hi _
                have c3 := MA.out X MQ.out
                have f3 : X.frozen? ⟨b + 1 + i, j, none⟩ = false := MQ.out.frz hi j
                have wv : wrap64 (pv + 1) = pv + 1 := by unfold wrap64; omega
                go_wp2_with fail
                go_roundg (gk - 1)
                case measure => omega
                case rel => exact ⟨j + 1, by omega, by go_num, MN.out, BN.out, LN2.out⟩
            · have jl : ¬ (j : Int) < (n : Int) := by omega
              have e : j = n := by omega
              have MN : Hid (MX wr b n (pm LF k (i + 1) 0)) := by
                have z := M1.out
                rw [e] at z
                exact z.congr (fun x y hx hy => pm_row x y hx hy)
              clear e
              go_wp2_with fail
              go_roundg (G2 - 1)
              case measure => omega
              case rel => exact ⟨i + 1, by omega, by go_num, MN.out, B1.out, L1.out⟩
        · have il : ¬ (i : Int) < (n : Int) := by omega
          have e : i = n := by omega
          have MN : Hid (MX wr b n (pm LF (k + 1) 0 0)) := by
            have z := M1.out
            rw [e] at z
            exact z.congr (fun x y hx hy => NX.out x y hx hy)
          clear e
          go_wp2_with fail
          go_roundg (G1 - 1)
          case measure => omega
          case rel => exact ⟨k + 1, by omega, by go_num, MN.out, B1.out, L1.out⟩
    · have kl : ¬ (k : Int) < (NL : Int) := by omega
      have e : k = LF.length := by rw [← HNL.out]; omega
      have MN : Hid (MX wr b n (pcM LF)) := by
        have z := M1.out
        rw [e] at z
        exact z.congr (fun x y _ _ => pm_end LF x y)
      clear e
      go_wp2_with fail
      exact bodyPost_ret (v := .slice (some ⟨b, 0, none⟩) n n) (by simp [results, Tryz.results13, go_sem]) rfl ⟨⟨b, rfl, MN.out⟩, B1.out⟩
end Go.Proofs.YtkcnpcjogfhkbaaGreatDoor
namespace Go.Proofs.YtkcnpcjogfhkbaaGreatDoor
open Go.RowKit Go.Deep Go.PlainAid

set_option maxHeartbeats 2000000 in
theorem withPoll12_w {w : World} {nm lt : ByteArray} {ca a : Option Addr} {n cc c : Nat} {r s m : Int} {L : List (List Int)} (hw : wc n r s = 2) :
    Calls Tryz.prog 12 #[CV nm ca n cc r s m, .slice a L.length c, .string lt, .func (.func 13) #[] #[]] w fun e w' => e = .returned (.tuple #[.slice none 0 0, .int .i64 2]) ∧ Below w.heap.size w w' := by
  have H : Hid (∀ W, Calls Tryz.prog 18 #[.agg #[.string nm, .slice ca n cc, .int .i64 r, .int .i64 s, .int .i64 m]] W fun e w' => e = .returned (.int .i64 2) ∧ Below W.heap.size W w') := fun W => by have := wrong22 nm ca n cc r s m W; rw [hw] at this; exact this
  clear hw
  generalize L.length = K at *
  unfold CV
  have B : Hid (Below w.heap.size w (w.alloc (.cells #[.string nm, .slice ca n cc, .int .i64 r, .int .i64 s, .int .i64 m] 24))) := (Below.refl _ _).alloc (Nat.le_refl _) _
  have I0 : Hid (IHolds (w.alloc (.cells #[.string nm, .slice ca n cc, .int .i64 r, .int .i64 s, .int .i64 m] 24)) w.heap.size 24 [.string nm, .slice ca n cc, .int .i64 r, .int .i64 s, .int .i64 m]) := IHolds.new w 24 _
  go_enter Tryz.func12, Tryz.ntmps12
  go_wp2_with (go_at_call 18; refine (H.out _).mono ?_)
  rintro e w1 ⟨rfl, hB⟩
  have B1 : Hid (Below w.heap.size w w1) := B.out.trans (hB.mono B.out.size)
  have I1 : Hid (IHolds w1 w.heap.size 24 [.string nm, .slice ca n cc, .int .i64 r, .int .i64 s, .int .i64 m]) := I0.out.of_below hB
  obtain ⟨k0, k1, k2, k3, k4⟩ := five I1.out
  clear hB H I0
  go_wp2_with fail
  go_ret2
  exact ⟨rfl, B1.out⟩
set_option maxHeartbeats 1000000 in
theorem pairs4_w {w : World} {nm : ByteArray} {ca a : Option Addr} {n cc c : Nat} {r s m : Int} {L : List (List Int)} (hw : wc n r s = 2) :
    Calls Tryz.prog 5 #[CV nm ca n cc r s m, .slice a L.length c] w fun e w' => e = .returned (.tuple #[.slice none 0 0, .int .i64 2]) ∧ Below w.heap.size w w' := by
  have H : Hid (∀ W, Below w.heap.size w W → Calls Tryz.prog 12 #[.agg #[.string nm, .slice ca n cc, .int .i64 r, .int .i64 s, .int .i64 m], .slice a L.length c, .string ⟨#[]⟩, .func (.func 13) #[] #[]] W fun e w' => e = .returned (.tuple #[.slice none 0 0, .int .i64 2]) ∧ Below W.heap.size W w') := fun W hW => withPoll12_w hw
  clear hw
  skip
  generalize L.length = K at *
  unfold CV
  have B : Hid (Below w.heap.size w (w.alloc (.cells #[.string nm, .slice ca n cc, .int .i64 r, .int .i64 s, .int .i64 m] 24))) := (Below.refl _ _).alloc (Nat.le_refl _) _
  go_enter Tryz.func5, Tryz.ntmps5
  go_wp2_with (go_at_call 12; refine (H.out _ B.out).mono ?_)
  rintro e w1 ⟨rfl, hB⟩
  have B1 : Hid (Below w.heap.size w w1) := B.out.trans (hB.mono B.out.size)
  clear hB H
  go_wp2_with fail
  go_ret2
  exact ⟨rfl, B1.out⟩
set_option maxHeartbeats 2000000 in
theorem withPoll12_b {w : World} {nm lt : ByteArray} {ca a : Option Addr} {n cc c : Nat} {r s m : Int} {L : List (List Int)} (hw : wc n r s = 0) {z : Int} (hz : z ≠ 0) (hb : wb n L = z) (hs : LL w a L) :
    Calls Tryz.prog 12 #[CV nm ca n cc r s m, .slice a L.length c, .string lt, .func (.func 13) #[] #[]] w fun e w' => e = .returned (.tuple #[.slice none 0 0, .int .i64 z]) ∧ Below w.heap.size w w' := by
  have H : Hid (∀ W, Calls Tryz.prog 18 #[.agg #[.string nm, .slice ca n cc, .int .i64 r, .int .i64 s, .int .i64 m]] W fun e w' => e = .returned (.int .i64 0) ∧ Below W.heap.size W w') := fun W => by have := wrong22 nm ca n cc r s m W; rw [hw] at this; exact this
  have H2 : Hid (∀ W, Below w.heap.size w W → Calls Tryz.prog 19 #[.agg #[.string nm, .slice ca n cc, .int .i64 r, .int .i64 s, .int .i64 m], .slice a L.length c] W fun e w' => e = .returned (.int .i64 z) ∧ Below W.heap.size W w') := fun W hW => by have := wrongBallots23 (nm := nm) (ca := ca) (n := n) (cc := cc) (r := r) (s := s) (m := m) (c := c) (hs.of_below hW); rw [hb] at this; exact this
  have z0 : (z != 0) = true := by simpa using hz
  clear hw hb hz hs
  obtain ⟨K, hK⟩ : ∃ K, K = L.length := ⟨_, rfl⟩
  rw [← hK] at H2 ⊢
  clear hK
  unfold CV
  have B : Hid (Below w.heap.size w (w.alloc (.cells #[.string nm, .slice ca n cc, .int .i64 r, .int .i64 s, .int .i64 m] 24))) := (Below.refl _ _).alloc (Nat.le_refl _) _
  have I0 : Hid (IHolds (w.alloc (.cells #[.string nm, .slice ca n cc, .int .i64 r, .int .i64 s, .int .i64 m] 24)) w.heap.size 24 [.string nm, .slice ca n cc, .int .i64 r, .int .i64 s, .int .i64 m]) := IHolds.new w 24 _
  go_enter Tryz.func12, Tryz.ntmps12
  go_wp2_with (go_at_call 18; refine (H.out _).mono ?_)
  rintro e w1 ⟨rfl, hB⟩
  have B1 : Hid (Below w.heap.size w w1) := B.out.trans (hB.mono B.out.size)
  have I1 : Hid (IHolds w1 w.heap.size 24 [.string nm, .slice ca n cc, .int .i64 r, .int .i64 s, .int .i64 m]) := I0.out.of_below hB
  obtain ⟨k0, k1, k2, k3, k4⟩ := five I1.out
  clear hB H I0
  go_wp2_with (go_at_call 19; refine (H2.out _ B1.out).mono ?_)
  rintro e w2 ⟨rfl, hB⟩
  have B2 : Hid (Below w.heap.size w w2) := B1.out.trans (hB.mono B1.out.size)
  have I2 : Hid (IHolds w2 w.heap.size 24 [.string nm, .slice ca n cc, .int .i64 r, .int .i64 s, .int .i64 m]) := I1.out.of_below hB
  clear k0 k1 k2 k3 k4
  obtain ⟨k0, k1, k2, k3, k4⟩ := five I2.out
  clear hB H2 I1
  go_wp2_with fail
  go_ret2
  exact ⟨rfl, B2.out⟩
set_option maxHeartbeats 1000000 in
theorem pairs4_b {w : World} {nm : ByteArray} {ca a : Option Addr} {n cc c : Nat} {r s m : Int} {L : List (List Int)} (hw : wc n r s = 0) {z : Int} (hz : z ≠ 0) (hb : wb n L = z) (hs : LL w a L) :
    Calls Tryz.prog 5 #[CV nm ca n cc r s m, .slice a L.length c] w fun e w' => e = .returned (.tuple #[.slice none 0 0, .int .i64 z]) ∧ Below w.heap.size w w' := by
  have H : Hid (∀ W, Below w.heap.size w W → Calls Tryz.prog 12 #[.agg #[.string nm, .slice ca n cc, .int .i64 r, .int .i64 s, .int .i64 m], .slice a L.length c, .string ⟨#[]⟩, .func (.func 13) #[] #[]] W fun e w' => e = .returned (.tuple #[.slice none 0 0, .int .i64 z]) ∧ Below W.heap.size W w') := fun W hW => withPoll12_b hw hz hb (hs.of_below hW)
  clear hw hz hb hs
  skip
  generalize L.length = K at *
  unfold CV
  have B : Hid (Below w.heap.size w (w.alloc (.cells #[.string nm, .slice ca n cc, .int .i64 r, .int .i64 s, .int .i64 m] 24))) := (Below.refl _ _).alloc (Nat.le_refl _) _
  go_enter Tryz.func5, Tryz.ntmps5
  go_wp2_with (go_at_call 12; refine (H.out _ B.out).mono ?_)
  rintro e w1 ⟨rfl, hB⟩
  have B1 : Hid (Below w.heap.size w w1) := B.out.trans (hB.mono B.out.size)
  clear hB H
  go_wp2_with fail
  go_ret2
  exact ⟨rfl, B1.out⟩
set_option maxHeartbeats 2000000 in
theorem withPoll12_ok {w : World} {nm lt : ByteArray} {ca a : Option Addr} {n cc c : Nat} {r s m : Int} {L : List (List Int)} (hw : wc n r s = 0) (hb : wb n L = 0) (hs : LL w a L) :
    Calls Tryz.prog 12 #[CV nm ca n cc r s m, .slice a L.length c, .string lt, .func (.func 13) #[] #[]] w fun e w' => (∃ b, e = .returned (.tuple #[.slice (some ⟨b, 0, none⟩) n n, .int .i64 0]) ∧ MX w' b n (pcM (fl L))) ∧ Below w.heap.size w w' := by
  have H : Hid (∀ W, Calls Tryz.prog 18 #[.agg #[.string nm, .slice ca n cc, .int .i64 r, .int .i64 s, .int .i64 m]] W fun e w' => e = .returned (.int .i64 0) ∧ Below W.heap.size W w') := fun W => by have := wrong22 nm ca n cc r s m W; rw [hw] at this; exact this
  have H2 : Hid (∀ W, Below w.heap.size w W → Calls Tryz.prog 19 #[.agg #[.string nm, .slice ca n cc, .int .i64 r, .int .i64 s, .int .i64 m], .slice a L.length c] W fun e w' => e = .returned (.int .i64 0) ∧ Below W.heap.size W w') := fun W hW => by have := wrongBallots23 (nm := nm) (ca := ca) (n := n) (cc := cc) (r := r) (s := s) (m := m) (c := c) (hs.of_below hW); rw [hb] at this; exact this
  have hn := (wc_fits hw).1
  have HQ : L.length ≤ 4096 ∧ ∀ i (h : i < L.length), L[i].length = n := by
    unfold wb at hb
    split at hb
    · omega
    · split at hb
      · rename_i h1 h2
        exact ⟨by omega, fun i h => by have := List.all_eq_true.1 h2 _ (List.getElem_mem h); simpa using this⟩
      · omega
  have H3 : Hid (∀ W, Below w.heap.size w W → Calls Tryz.prog 13 #[.agg #[.string nm, .slice ca n cc, .int .i64 r, .int .i64 s, .int .i64 m, .slice a L.length c, .string lt]] W fun e w' => (∃ b, e = .returned (.slice (some ⟨b, 0, none⟩) n n) ∧ MX w' b n (pcM (fl L))) ∧ Below W.heap.size W w') := fun W hW => pairs13 hn.2 (hs.of_below hW) HQ.2 HQ.1
  clear hw hb hs HQ hn
  generalize pcM (fl L) = M at *
  obtain ⟨K, hK⟩ : ∃ K, K = L.length := ⟨_, rfl⟩
  rw [← hK] at H2 ⊢
  rw [← hK] at H3
  clear hK
  unfold CV
  have B : Hid (Below w.heap.size w (w.alloc (.cells #[.string nm, .slice ca n cc, .int .i64 r, .int .i64 s, .int .i64 m] 24))) := (Below.refl _ _).alloc (Nat.le_refl _) _
  have I0 : Hid (IHolds (w.alloc (.cells #[.string nm, .slice ca n cc, .int .i64 r, .int .i64 s, .int .i64 m] 24)) w.heap.size 24 [.string nm, .slice ca n cc, .int .i64 r, .int .i64 s, .int .i64 m]) := IHolds.new w 24 _
  go_enter Tryz.func12, Tryz.ntmps12
  go_wp2_with (go_at_call 18; refine (H.out _).mono ?_)
  rintro e w1 ⟨rfl, hB⟩
  have B1 : Hid (Below w.heap.size w w1) := B.out.trans (hB.mono B.out.size)
  have I1 : Hid (IHolds w1 w.heap.size 24 [.string nm, .slice ca n cc, .int .i64 r, .int .i64 s, .int .i64 m]) := I0.out.of_below hB
  obtain ⟨k0, k1, k2, k3, k4⟩ := five I1.out
  clear hB H I0
  go_wp2_with (go_at_call 19; refine (H2.out _ B1.out).mono ?_)
  rintro e w2 ⟨rfl, hB⟩
  have B2 : Hid (Below w.heap.size w w2) := B1.out.trans (hB.mono B1.out.size)
  have I2 : Hid (IHolds w2 w.heap.size 24 [.string nm, .slice ca n cc, .int .i64 r, .int .i64 s, .int .i64 m]) := I1.out.of_below hB
  clear k0 k1 k2 k3 k4
  obtain ⟨k0, k1, k2, k3, k4⟩ := five I2.out
  clear hB H2 I1
  go_wp2_with (go_at_call 13; refine (H3.out _ B2.out).mono ?_)
  rintro e w3 ⟨⟨b, rfl, hm⟩, hB⟩
  have B3 : Hid (Below w.heap.size w w3) := B2.out.trans (hB.mono B2.out.size)
  have M3 : Hid (MX w3 b n M) := hm
  clear hB hm H3 I2 k0 k1 k2 k3 k4
  go_wp2_with fail
  exact bodyPost_ret (v := .tuple #[.slice (some ⟨b, 0, none⟩) n n, .int .i64 0]) (by simp [results, Tryz.results12, go_sem]) rfl ⟨⟨b, rfl, M3.out⟩, B3.out⟩
set_option maxHeartbeats 1000000 in
theorem pairs4_ok {w : World} {nm : ByteArray} {ca a : Option Addr} {n cc c : Nat} {r s m : Int} {L : List (List Int)} (hw : wc n r s = 0) (hb : wb n L = 0) (hs : LL w a L) :
    Calls Tryz.prog 5 #[CV nm ca n cc r s m, .slice a L.length c] w fun e w' => (∃ b, e = .returned (.tuple #[.slice (some ⟨b, 0, none⟩) n n, .int .i64 0]) ∧ MX w' b n (pcM (fl L))) ∧ Below w.heap.size w w' := by
  have H : Hid (∀ W, Below w.heap.size w W → Calls Tryz.prog 12 #[.agg #[.string nm, .slice ca n cc, .int .i64 r, .int .i64 s, .int .i64 m], .slice a L.length c, .string ⟨#[]⟩, .func (.func 13) #[] #[]] W fun e w' => (∃ b, e = .returned (.tuple #[.slice (some ⟨b, 0, none⟩) n n, .int .i64 0]) ∧ MX w' b n (pcM (fl L))) ∧ Below W.heap.size W w') := fun W hW => withPoll12_ok hw hb (hs.of_below hW)
  clear hw hb hs
  generalize pcM (fl L) = M at *
  generalize L.length = K at *
  unfold CV
  have B : Hid (Below w.heap.size w (w.alloc (.cells #[.string nm, .slice ca n cc, .int .i64 r, .int .i64 s, .int .i64 m] 24))) := (Below.refl _ _).alloc (Nat.le_refl _) _
  go_enter Tryz.func5, Tryz.ntmps5
  go_wp2_with (go_at_call 12; refine (H.out _ B.out).mono ?_)
  rintro e w1 ⟨⟨b, rfl, hm⟩, hB⟩
  have B1 : Hid (Below w.heap.size w w1) := B.out.trans (hB.mono B.out.size)
  have M1 : Hid (MX w1 b n M) := hm
  clear hB hm H
  go_wp2_with fail
  exact bodyPost_ret (v := .tuple #[.slice (some ⟨b, 0, none⟩) n n, .int .i64 0]) (by simp [results, Tryz.results5, go_sem]) rfl ⟨⟨b, rfl, M1.out⟩, B1.out⟩
end Go.Proofs.YtkcnpcjogfhkbaaGreatDoor
