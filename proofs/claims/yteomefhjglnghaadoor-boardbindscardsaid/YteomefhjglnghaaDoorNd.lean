/- Clash, where what is shown is of the right form. -/
import Derived.Test.YteomefhjglnghaaDoorNc
import Derived.Laws.EntriesVeiled
set_option linter.unusedSimpArgs false
set_option linter.unusedVariables false
set_option maxRecDepth 100000
namespace Go.Proofs.YteomefhjglnghaaDoor
open Go.RowKit Go.Deep Go.PlainAid

theorem sx_start (w : World) : Sx w (((((w.alloc (.cells #[.slice none 0 0] 22)).alloc (.cells #[.slice none 0 0] 22)).alloc (.cells #[.bool false] 4)).alloc (.cells #[.func (.func 16) #[] #[.pointer (some ⟨w.heap.size, 0, none⟩), .pointer (some ⟨w.heap.size + 1 + 1, 0, none⟩), .pointer (some ⟨w.heap.size + 1, 0, none⟩)]] 48)).alloc (.cells #[.func (.func 19) #[] #[.pointer (some ⟨w.heap.size + 1 + 1 + 1, 0, none⟩), .pointer (some ⟨w.heap.size + 1 + 1 + 1 + 1, 0, none⟩)]] 38)) w.heap.size w.heap.size (w.heap.size + 1 + 1) (w.heap.size + 1) (w.heap.size + 1 + 1 + 1) (w.heap.size + 1 + 1 + 1 + 1) (.slice none 0 0) (.slice none 0 0) [] false := by
  have b1 := Boxed.new w 22 (.slice none 0 0)
  have b2 := Boxed.new (w.alloc (.cells #[.slice none 0 0] 22)) 22 (.slice none 0 0)
  have b3 := Boxed.new ((w.alloc (.cells #[.slice none 0 0] 22)).alloc (.cells #[.slice none 0 0] 22)) 4 (.bool false)
  have b4 := Boxed.new (((w.alloc (.cells #[.slice none 0 0] 22)).alloc (.cells #[.slice none 0 0] 22)).alloc (.cells #[.bool false] 4)) 48 (.func (.func 16) #[] #[.pointer (some ⟨w.heap.size, 0, none⟩), .pointer (some ⟨w.heap.size + 1 + 1, 0, none⟩), .pointer (some ⟨w.heap.size + 1, 0, none⟩)])
  have b5 := Boxed.new ((((w.alloc (.cells #[.slice none 0 0] 22)).alloc (.cells #[.slice none 0 0] 22)).alloc (.cells #[.bool false] 4)).alloc (.cells #[.func (.func 16) #[] #[.pointer (some ⟨w.heap.size, 0, none⟩), .pointer (some ⟨w.heap.size + 1 + 1, 0, none⟩), .pointer (some ⟨w.heap.size + 1, 0, none⟩)]] 48)) 38 (.func (.func 19) #[] #[.pointer (some ⟨w.heap.size + 1 + 1 + 1, 0, none⟩), .pointer (some ⟨w.heap.size + 1 + 1 + 1 + 1, 0, none⟩)])
  simp only [World.size_alloc] at b2 b3 b4 b5
  refine ⟨⟨(((b1.alloc _).alloc _).alloc _).alloc _, (b3.alloc _).alloc _, ((b2.alloc _).alloc _).alloc _, World.ownsRow_nil _ _ _ _, World.ownsRow_nil _ _ _ _, fun k hk => by simp [Value.ownBlock] at hk, fun u hu => by simp at hu⟩, ?_, ?_, b4.alloc _, b5⟩
  · exact (((((Below.refl _ w).alloc (Nat.le_refl _) _).alloc (by simp) _).alloc (by simp; omega) _).alloc (by simp; omega) _).alloc (by simp; omega) _
  · simp; omega
theorem Sx.ftlt {w0 V : World} {base Bt Bs Bd Bh Bo : Nat} {vt vd : Value} {TL : List ByteArray} {sm : Bool} (h : Sx w0 V base Bt Bs Bd Bh Bo vt vd TL sm) : ∀ j, Ft Bt Bs Bd vt vd j → j < V.heap.size := fun j g => by
  rcases g with rfl | rfl | rfl | g | g
  · exact h.1.t.lt
  · exact h.1.s.lt
  · exact h.1.d.lt
  · exact (h.1.rt.lt j g).2
  · exact (h.1.rd.lt j g).2
theorem own_flat {E : List ByteArray} : ∀ (k lo hi : Nat), ((cov k lo hi).flatMap (ownS E)).length ≤ 2 * (hi - lo)
  | 0, lo, hi => by simp [cov]
  | k + 1, lo, hi => by
    rw [cov]
    split
    · rename_i hlt
      have hd := down_pos (hi - lo) lo (by omega) 20
      obtain ⟨j, h1, h2⟩ := down_log (hi - lo) lo (by omega)
      have ih := own_flat (E := E) k (lo + down 20 (hi - lo) lo) hi
      rw [List.flatMap_cons, List.length_append]
      have e : (ownS E (lo, lo + down 20 (hi - lo) lo)).length ≤ 2 * down 20 (hi - lo) lo := by
        unfold ownS
        rw [show lo + down 20 (hi - lo) lo - lo = 2 ^ j by omega, lg_pow j 20 h1, h2]
        have := ownT_len j (seg E lo (2 ^ j))
        rw [Nat.pow_succ] at this
        show (ownT j (seg E lo (2 ^ j))).length ≤ _
        omega
      omega
    · simp
theorem flat_take_le {α β : Type} (f : α → List β) : ∀ (l : List α) (i : Nat), ((l.take i).flatMap f).length ≤ (l.flatMap f).length
  | [], i => by simp
  | x :: l, 0 => by simp
  | x :: l, i + 1 => by
    have := flat_take_le f l i
    simp only [List.take_succ_cons, List.flatMap_cons, List.length_append]
    omega
theorem flat_take_succ {α β : Type} (f : α → List β) {l : List α} {i : Nat} (h : i < l.length) : (l.take (i + 1)).flatMap f = (l.take i).flatMap f ++ f l[i] := by
  rw [List.take_succ_eq_append_getElem h, List.flatMap_append]
  simp
theorem step_all {E TL : List ByteArray} {l0 l : List P3} {z i : Nat} (hB : Back E l0 l TL) (hi : i + 1 < l.length) (hh : half l[i] l[i + 1] = true) (hp : ∀ j (hj : j < i), half l[j] l[j + 1] = false) (hA : Al 0 z l) (hz : z ≤ 1048576) (h32 : ∀ p ∈ l, p.2.size = 32) :
    ∃ l3 : List P3, joinedL l3 = joinedL l ∧ Al 0 z l3 ∧ (∀ p ∈ l3, p.2.size = 32) ∧ l3.length + 1 = l.length ∧ flat3 l3 = flat3 (l.take i) ++ [.int .i64 (l[i].1.1 : Int), .int .i64 (l[i + 1].1.2 : Int), .string (tgF lBlock [l[i].2, l[i + 1].2])] ++ flat3 (l.drop (i + 2)) ∧ Back E l0 l3 (TL ++ [jnF lBlock [l[i].2, l[i + 1].2]]) :=
  let ⟨h1, h2, h3, h4⟩ := step_red hi hh hp hA h32
  ⟨_, h1, h2, h3, h4, flat3_join _ _ _ _, hB.step hi hh hA hz h32⟩
/-- What Clash answers. -/
def CP (E : List ByteArray) (z : Nat) (l : List P3) (v : Value) : Prop := ∃ sm TL, v = .bool sm ∧ Cl sm TL ∧ (∀ p ∈ cover 0 z, ∀ t ∈ ownS E p, t ∈ TL) ∧ jnF lHead (fourT z :: (cover 0 z).map (blk tgF E)) ∈ TL ∧ jnF lHead (fourT z :: (joinedL l).map Prod.snd) ∈ TL ∧ Back E l (joinedL l) TL
set_option maxHeartbeats 8000000 in
theorem clash8 {w : World} {E A B C : List ByteArray} {aE aA aB aC : Option Addr} {cE cA cB cC zn lo hi : Nat} {LA LB LC : List (Nat × Nat)} {l : List P3}
    (hz : zn ≤ 1048576) (hEl : E.length = zn) (hEc : E.length ≤ cE) (hEc2 : cE ≤ 9223372036854775807) (sE : SL w aE E) (hEs : ∀ p ∈ E, p.size ≤ 140737488355328) (HR0 : ∀ V, Calls Tryd.prog 22 #[.int .i64 (lo : Int), .int .i64 (hi : Int), .int .i64 (zn : Int)] V fun e w' => e = .returned (.bool true) ∧ w' = V)
    (r0 : RO 0 (zn : Int) (cover 0 zn)) (ra : RO 0 (lo : Int) LA) (rb : RS (lo : Int) (hi : Int) LB) (rc : RS (hi : Int) (zn : Int) LC) (lA : LA.length ≤ 1048576) (lB : LB.length ≤ 1048576) (lC : LC.length ≤ 1048576) (lT : LA.length + LB.length + LC.length ≤ 1048576)
    (eA : A.length = LA.length) (eB : B.length = LB.length) (eC : C.length = LC.length) (sA : SL w aA A) (nA : aA = none → cA = 0) (sB : SL w aB B) (nB' : aB = none → cB = 0) (sC : SL w aC C) (nC : aC = none → cC = 0)
    (hl : l = (LA ++ LB ++ LC).zip (A ++ B ++ C)) (hA : Al 0 zn l) (hl32 : ∀ p ∈ l, p.2.size = 32) :
    Calls Tryd.prog 8 #[.slice aE zn cE, .int .i64 (zn : Int), .int .i64 (lo : Int), .int .i64 (hi : Int), .slice aA A.length cA, .slice aB B.length cB, .slice aC C.length cC] w fun e w' => (∃ v, e = .returned v ∧ CP E zn l v) ∧ Below w.heap.size w w' := by
  have HR : Hid (∀ V, Calls Tryd.prog 22 #[.int .i64 (lo : Int), .int .i64 (hi : Int), .int .i64 (zn : Int)] V fun e w' => e = .returned (.bool true) ∧ w' = V) := HR0
  have H20 : Hid (∀ V, Calls Tryd.prog 20 #[.int .i64 (zn : Int)] V fun e w' => e = .returned (.string (fourT zn)) ∧ Below V.heap.size V w') := fun V => F.refFourB_any zn (by omega) V
  have HP0 : Hid (∀ V : World, Calls Tryd.prog 21 #[.int .i64 0, .int .i64 (zn : Int)] V fun e w' => (∃ v, e = .returned v ∧ w'.ownsRow V.heap.size 37 2 v (cover 0 zn).length (flat (cover 0 zn))) ∧ Below V.heap.size V w') := r0
  have HA1 : Hid (∀ V : World, Calls Tryd.prog 21 #[.int .i64 0, .int .i64 (lo : Int)] V fun e w' => (∃ v, e = .returned v ∧ w'.ownsRow V.heap.size 37 2 v LA.length (flat LA)) ∧ Below V.heap.size V w') := ra
  have HB1 : Hid (∀ V : World, Calls Tryd.prog 21 #[.int .i64 (lo : Int), .int .i64 (hi : Int)] V fun e w' => (∃ a c, e = .returned (.slice a LB.length c) ∧ SPL w' a LB ∧ (a = none → LB.length = 0 ∧ c = 0)) ∧ Below V.heap.size V w') := rb
  have HC1 : Hid (∀ V : World, Calls Tryd.prog 21 #[.int .i64 (hi : Int), .int .i64 (zn : Int)] V fun e w' => (∃ a c, e = .returned (.slice a LC.length c) ∧ SPL w' a LC ∧ (a = none → LC.length = 0 ∧ c = 0)) ∧ Below V.heap.size V w') := rc
  have H40 : Hid (∀ V a c (l2 : List P3), Al 0 zn l2 → PTL V a l2 → Calls Tryd.prog 23 #[.slice a l2.length c] V fun e w' => (∃ r : Int, e = .returned (.int .i64 r) ∧ PR l2 r) ∧ Below V.heap.size V w') := fun V a c l2 h1 h2 => pair40 (by have := al_len h1; omega) h2 (al_each h1 hz)
  have SE : Hid (SL w aE E) := sE
  have SA : Hid (SL w aA A) := sA
  have SB : Hid (SL w aB B) := sB
  have SC : Hid (SL w aC C) := sC
  have HES : Hid (∀ p ∈ E, p.size ≤ 140737488355328) := hEs
  have HEL : Hid (E.length = zn) := hEl
  have NA : Hid (aA = none → A.length = 0 ∧ cA = 0) := fun q => ⟨by rw [q] at sA; exact sA.none0, nA q⟩
  have NB : Hid (aB = none → B.length = 0 ∧ cB = 0) := fun q => ⟨by rw [q] at sB; exact sB.none0, nB' q⟩
  have NC' : Hid (aC = none → C.length = 0 ∧ cC = 0) := fun q => ⟨by rw [q] at sC; exact sC.none0, nC q⟩
  have S0 := sx_start w
  have EN : Hid (En w.heap.size w.heap.size (w.heap.size + 1 + 1) (w.heap.size + 1) (w.heap.size + 1 + 1 + 1) (w.heap.size + 1 + 1 + 1 + 1)) := ⟨by omega, by omega, by omega, by omega, by omega, by omega⟩
  have HBLK : Hid (all32 ((cover 0 zn).map (blk tgF E)) = true) := all32_blk E _
  have mA : A.length ≤ 1048576 := by omega
  have mB : B.length ≤ 1048576 := by omega
  have mC : C.length ≤ 1048576 := by omega
  obtain ⟨nS, hnS0⟩ : ∃ nS, LA.length + LB.length + LC.length = nS := ⟨_, rfl⟩
  have HNS : Hid (LA.length + LB.length + LC.length = nS) := hnS0
  obtain ⟨nD, hnD⟩ : ∃ nD, 0 + A.length + B.length + C.length = nD := ⟨_, rfl⟩
  have HND : Hid (0 + A.length + B.length + C.length = nD) := hnD
  have HLE : Hid (l = (LA ++ LB ++ LC).zip (A ++ B ++ C)) := hl
  have HSL : Hid ((LA ++ LB ++ LC).length = nS) := by show _ = _; rw [← HNS.out]; simp only [List.length_append]
  have HDL : Hid ((A ++ B ++ C).length = nS) := by show _ = _; rw [← HNS.out]; simp only [List.length_append]; omega
  have HDS : Hid (nD = nS) := by show _ = _; rw [← HNS.out, ← HND.out]; omega
  have hne : ((nS : Int) != (nD : Int)) = false := by rw [HDS.out]; simp [bne]
  have HAL : Hid (Al 0 zn l) := hA
  have H32L : Hid (∀ p ∈ l, p.2.size = 32) := hl32
  have HLL : Hid (l.length = nS) := by show _ = _; rw [HLE.out, List.length_zip, HSL.out, HDL.out]; omega
  have hnS : nS ≤ 1048576 := by rw [← HNS.out]; exact lT
  obtain ⟨nP, hnP⟩ : ∃ nP, (cover 0 zn).length = nP := ⟨_, rfl⟩
  have HNP : Hid ((cover 0 zn).length = nP) := hnP
  have hnP2 : nP ≤ 1048576 := by rw [← hnP]; exact cover_len 0 zn hz
  have HCV : Hid (∀ p ∈ cover 0 zn, ∃ j, j ≤ 20 ∧ p.2 = p.1 + 2 ^ j ∧ p.2 ≤ zn) := fun p hp => by
    obtain ⟨j, h1, h2, _, h4⟩ := cov_span 1048576 0 zn p hp
    exact ⟨j, h1, h2, h4⟩
  have HFL : Hid (∀ i, (((cover 0 zn).take i).flatMap (ownS E)).length ≤ 2097152) := fun i => by
    have h1 := flat_take_le (ownS E) (cover 0 zn) i
    have h2 := own_flat (E := E) 1048576 0 zn
    have h3 : ((cover 0 zn).flatMap (ownS E)).length = ((cov 1048576 0 zn).flatMap (ownS E)).length := rfl
    omega
  have hz1 : ¬ (1048576 : Int) < (zn : Int) := by omega
  obtain ⟨i0, hi0, hq0, hq1, hq2⟩ := info_parts info36
  obtain ⟨j0, hj0, hy0, hy1, hy2⟩ := info_parts info9
  clear HR0 r0 ra rb rc sE sA sB sC nA nB' nC hl hA hl32 hnS0 hnD hEs hnP eA eB eC hEl
  generalize hF4 : fourT zn = F4 at *
  have H20A : Hid (True) := trivial
  go_enter Tryd.func8, Tryd.ntmps8
  go_wp2_with (first
    | (go_at_call 20; refine (H20.out _).mono ?_; rintro e w2 ⟨rfl, hB⟩; have S2 : Hid (Sx w w2 w.heap.size w.heap.size (w.heap.size + 1 + 1) (w.heap.size + 1) (w.heap.size + 1 + 1 + 1) (w.heap.size + 1 + 1 + 1 + 1) (.slice none 0 0) (.slice none 0 0) [] false) := Sx.below S0 hB; have S6 : Hid (Sx w (w2.alloc (.cells #[.string F4] 9)) w.heap.size w.heap.size (w.heap.size + 1 + 1) (w.heap.size + 1) (w.heap.size + 1 + 1 + 1) (w.heap.size + 1 + 1 + 1 + 1) (.slice none 0 0) (.slice none 0 0) [] false) := Sx.below S2.out (nB w2 (.cells #[.string F4] 9)); have R6 : Hid ((w2.alloc (.cells #[.string F4] 9)).ownsRow w.heap.size 9 1 (.slice (some ⟨w2.heap.size, 0, none⟩) 1 1) 1 ([F4].map Value.string)) := one_own9 (IHolds.new w2 9 [.string F4]) S2.out.2.2.1; have N6 : Hid (∀ k, (Value.slice (some ⟨w2.heap.size, 0, none⟩) 1 1).ownBlock = some k → ¬ Ft w.heap.size (w.heap.size + 1 + 1) (w.heap.size + 1) (.slice none 0 0) (.slice none 0 0) k) := (fun k hk f => by have := S2.out.ftlt k f; simp [Value.ownBlock] at hk; omega); clear hB S0 S2 H20A; generalize w.heap.size + 1 + 1 + 1 + 1 = Bo at *; generalize w.heap.size + 1 + 1 + 1 = Bh at *; generalize w.heap.size + 1 + 1 = Bs at *; generalize w.heap.size + 1 = Bd at *)
    | (go_at_call 21; refine (HP0.out _).mono ?_; rintro e w3 ⟨⟨vP, rfl, hO⟩, hB⟩; have S7 : Hid (Sx w w3 w.heap.size w.heap.size Bs Bd Bh Bo (.slice none 0 0) (.slice none 0 0) [] false) := Sx.below S6.out hB; have R7 : Hid (w3.ownsRow w.heap.size 9 1 (.slice (some ⟨w2.heap.size, 0, none⟩) 1 1) 1 ([F4].map Value.string)) := row_keep R6.out hB; have O7 : Hid (w3.ownsRow w.heap.size 37 2 vP nP (flat (cover 0 zn))) := (by have q := row_base hO S6.out.2.2.1; rw [HNP.out] at q; exact q); obtain ⟨aP, cP, rfl, _⟩ := spl_form HNP.out O7.out; clear hO hB S6 R6 HP0))
  go_loopg [20, 22, 42] nP (fun gk v20 v22 v42 wr => ∃ (i : Nat) (vt vd : Value) (sm : Bool), i + gk = nP ∧ v42 = .int .i64 (i : Int) ∧ Sx w wr w.heap.size w.heap.size Bs Bd Bh Bo vt vd (((cover 0 zn).take i).flatMap (ownS E)) sm ∧ wr.ownsRow w.heap.size 9 1 v20 (i + 1) ((F4 :: ((cover 0 zn).take i).map (blk tgF E)).map Value.string) ∧ (∀ k, v20.ownBlock = some k → ¬ Ft w.heap.size Bs Bd vt vd k) ∧ wr.ownsRow w.heap.size 37 2 (.slice aP nP cP) nP (flat (cover 0 zn)))
  case atStart => exact ⟨0, _, _, _, by omega, rfl, S7.out, R7.out, N6.out, O7.out⟩
  case round =>
    obtain ⟨i, vt, vd, sm, hig, rfl, hS, hR, hN, hO⟩ := hrel
    have SS : Hid (Sx w wr w.heap.size w.heap.size Bs Bd Bh Bo vt vd (((cover 0 zn).take i).flatMap (ownS E)) sm) := hS
    have RR : Hid (wr.ownsRow w.heap.size 9 1 u20 (i + 1) ((F4 :: ((cover 0 zn).take i).map (blk tgF E)).map Value.string)) := hR
    have NR : Hid (∀ k, u20.ownBlock = some k → ¬ Ft w.heap.size Bs Bd vt vd k) := hN
    have OO : Hid (wr.ownsRow w.heap.size 37 2 (.slice aP nP cP) nP (flat (cover 0 zn))) := hO
    clear hS hR hN hO S7 R7 N6 O7
    by_cases hi : i < nP
    · have il : (i : Int) < (nP : Int) := by omega
      have hiL : i < (cover 0 zn).length := by rw [HNP.out]; exact hi
      obtain ⟨a', c', e', sp⟩ := spl_form HNP.out OO.out
      cases e'
      obtain ⟨b1, o1, rfl, q1, q2⟩ := sp.two i hiL
      rw [Nat.mul_comm 2 i] at q1 q2
      obtain ⟨j, hj1, hj2, hj3⟩ := HCV.out _ (List.getElem_mem hiL)
      have hjp := Nat.two_pow_pos j
      obtain ⟨bE, oE, rfl, hE0⟩ := SE.out 0 (by rw [HEL.out]; omega)
      clear hE0
      have HT1 : Hid ((((cover 0 zn).take (i + 1)).flatMap (ownS E)) = (((cover 0 zn).take i).flatMap (ownS E)) ++ ownS E (cover 0 zn)[i]) := flat_take_succ (ownS E) hiL
      have HM1 : Hid (((cover 0 zn).take (i + 1)).map (blk tgF E) = ((cover 0 zn).take i).map (blk tgF E) ++ [blk tgF E (cover 0 zn)[i]]) := by show _ = _; rw [List.take_succ_eq_append_getElem hiL, List.map_append]; rfl
      have hf := HFL.out i
      clear sp
      generalize (cover 0 zn)[i] = p at *
      obtain ⟨p1, p2⟩ := p
      dsimp only at q1 q2 hj2 hj3 HT1 HM1
      have hpm : p2 - p1 = 2 ^ j := by omega
      have h2j : 2 ^ j ≤ 1048576 := by omega
      have hEl := HEL.out
      have CC : Hid (∀ V, Sx w V w.heap.size w.heap.size Bs Bd Bh Bo vt vd (((cover 0 zn).take i).flatMap (ownS E)) sm → Calls Tryd.prog 19 #[.slice (some ⟨bE, oE + p1, none⟩) (2 ^ j) (cE - p1), .pointer (some ⟨Bh, 0, none⟩), .pointer (some ⟨Bo, 0, none⟩)] V fun e V' => e = .returned (.string (blk tgF E (p1, p2))) ∧ XP w V V' w.heap.size w.heap.size Bs Bd Bh Bo vt vd ((((cover 0 zn).take i).flatMap (ownS E)) ++ ownS E (p1, p2))) := fun V hV => by
        have q := own19 EN.out j hj1 (seg E p1 (2 ^ j)) bE (oE + p1) (cE - p1) V vt vd _ sm hV (seg_len (by omega)) (by rw [seg_len (by omega)]; omega) (by omega) (fun X hX => (SE.out.of_below hX).seg (by omega)) (fun p hp => HES.out p (List.mem_of_mem_drop (List.mem_of_mem_take hp))) (by rw [Nat.pow_succ]; omega)
        rw [seg_len (by omega)] at q
        have e1 : blk tgF E (p1, p2) = dgst tgF j (seg E p1 (2 ^ j)) := by unfold blk; dsimp only; rw [hpm, lg_pow j 20 hj1]
        have e2 : ownS E (p1, p2) = ownT j (seg E p1 (2 ^ j)) := by unfold ownS; dsimp only; rw [hpm, lg_pow j 20 hj1]
        rw [e1, e2]
        exact q
      have I4 : Hid (IHolds (wr.alloc (.cells #[.int .i64 (p1 : Int), .int .i64 (p2 : Int)] 37)) wr.heap.size 37 [.int .i64 (p1 : Int), .int .i64 (p2 : Int)]) := IHolds.new wr 37 [.int .i64 (p1 : Int), .int .i64 (p2 : Int)]
      obtain ⟨W4, hW4⟩ : ∃ W4, wr.alloc (.cells #[.int .i64 (p1 : Int), .int .i64 (p2 : Int)] 37) = W4 := ⟨_, rfl⟩
      have B4 : Hid (Below wr.heap.size wr W4) := by rw [← hW4]; exact nB wr _
      have S4 : Hid (Sx w W4 w.heap.size w.heap.size Bs Bd Bh Bo vt vd (((cover 0 zn).take i).flatMap (ownS E)) sm) := SS.out.below B4.out
      have R4 : Hid (W4.ownsRow w.heap.size 9 1 u20 (i + 1) ((F4 :: ((cover 0 zn).take i).map (blk tgF E)).map Value.string)) := row_keep RR.out B4.out
      have O4 : Hid (W4.ownsRow w.heap.size 37 2 (.slice (some ⟨b1, o1, none⟩) nP cP) nP (flat (cover 0 zn))) := row_keep OO.out B4.out
      rw [hW4] at I4
      have g1 : (p1 : Int) ≤ (p2 : Int) := by omega
      have g2 : (p2 : Int) ≤ (cE : Int) := by omega
      have g3 : ¬ cE = p1 := by omega
      clear hj2 hEl
      go_wp2_with fail
      refine Code.wp_mono (Q := fun e aa ww => match e with | .normal => (?R1 : Act → World → Prop) aa ww | _ => False) ?nx1 ?hr1
      case nx1 =>
        intro ex aa ww hh
        cases ex with
        | normal => exact hh
        | _ => exact hh.elim
      case hr1 =>
        refine r10_top (m := 2 ^ j) (n := i + 1) EN.out g1 g2 g3 hpm (by omega) S4.out R4.out NR.out I4.out CC.out ?_
        intro V v' vt' vd' sm' u46 u47 u48 u49 u50 u51 u52 u53 u54 u55 u56 hS hR hN hOR
        have S5 : Hid (Sx w V w.heap.size w.heap.size Bs Bd Bh Bo vt' vd' (((cover 0 zn).take (i + 1)).flatMap (ownS E)) sm') := by
          have := hS
          rw [← HT1.out] at this
          exact this
        have R5 : Hid (V.ownsRow w.heap.size 9 1 v' (i + 1 + 1) ((F4 :: ((cover 0 zn).take (i + 1)).map (blk tgF E)).map Value.string)) := by
          have := hR
          rw [HM1.out]
          show V.ownsRow _ _ _ _ _ _
          simpa using this
        have N5 : Hid (∀ k, v'.ownBlock = some k → ¬ Ft w.heap.size Bs Bd vt' vd' k) := hN
        have O5 : Hid (V.ownsRow w.heap.size 37 2 (.slice (some ⟨b1, o1, none⟩) nP cP) nP (flat (cover 0 zn))) := hOR 37 2 _ _ _ (by decide) (by decide) (by decide) O4.out
        clear hS hR hN hOR hW4 I4 S4 R4 O4 HT1 HM1 CC
        go_wp2_with fail
        go_roundg (gk - 1)
        case measure => omega
        case rel => exact ⟨i + 1, vt', vd', sm', by omega, by go_num, S5.out, R5.out, N5.out, O5.out⟩
    · have il : ¬ (i : Int) < (nP : Int) := by omega
      have e0 : i = nP := by omega
      subst e0
      have HTK : Hid ((cover 0 zn).take i = cover 0 zn) := List.take_of_length_le (by rw [HNP.out]; omega)
      rw [HTK.out] at SS RR
      obtain ⟨a20, c20, rfl, s20⟩ := own_sl (w := wr) (v := u20) (base := w.heap.size) (n := i + 1) (qs := F4 :: (cover 0 zn).map (blk tgF E)) (by simp [HNP.out]) RR.out
      have hf : ((cover 0 zn).flatMap (ownS E)).length ≤ 2097152 := by have := HFL.out i; rw [HTK.out] at this; exact this
      have C16 : Hid (Calls Tryd.prog 16 #[.string ⟨#[104, 101, 97, 100]⟩, .slice a20 (i + 1) c20, .pointer (some ⟨w.heap.size, 0, none⟩), .pointer (some ⟨Bs, 0, none⟩), .pointer (some ⟨Bd, 0, none⟩)] wr fun e V' => e = .returned (.string (tgF lHead (F4 :: (cover 0 zn).map (blk tgF E)))) ∧ XP w wr V' w.heap.size w.heap.size Bs Bd Bh Bo vt vd ((cover 0 zn).flatMap (ownS E) ++ [jnF lHead (F4 :: (cover 0 zn).map (blk tgF E))])) := by
        have q := hashX (label := lHead) (c := c20) EN.out SS.out (by decide) (by rw [← hF4]; exact Sz.head (by rw [List.length_map, HNP.out]; exact hnP2) HBLK.out) s20 (by omega)
        have e : (F4 :: (cover 0 zn).map (blk tgF E)).length = i + 1 := by simp [HNP.out]
        rw [e] at q
        exact q
      have cH := Boxed.cell SS.out.2.2.2.1
      have HT8 : Hid (((cover 0 zn).flatMap (ownS E) ++ [jnF lHead (F4 :: (cover 0 zn).map (blk tgF E))]).length ≤ 2097153) := by show _ ≤ _; simp only [List.length_append, List.length_cons, List.length_nil]; omega
      have HC8 : Hid (∀ p ∈ cover 0 zn, ∀ t ∈ ownS E p, t ∈ (cover 0 zn).flatMap (ownS E) ++ [jnF lHead (F4 :: (cover 0 zn).map (blk tgF E))]) := fun p hp t ht => List.mem_append.2 (Or.inl (List.mem_flatMap.2 ⟨p, hp, ht⟩))
      have HC9 : Hid (jnF lHead (F4 :: (cover 0 zn).map (blk tgF E)) ∈ (cover 0 zn).flatMap (ownS E) ++ [jnF lHead (F4 :: (cover 0 zn).map (blk tgF E))]) := by show _ ∈ _; simp
      generalize (cover 0 zn).flatMap (ownS E) ++ [jnF lHead (F4 :: (cover 0 zn).map (blk tgF E))] = T8 at *
      clear s20 HTK RR NR OO hf
      generalize tgF lHead (F4 :: (cover 0 zn).map (blk tgF E)) = DH at *
      go_wp2_with (first
        | (go_at_call 16; refine (Calls.mono C16.out) ?_; rintro e U ⟨rfl, vt8, vd8, sm8, hS, hK⟩; have S8 : Hid (Sx w U w.heap.size w.heap.size Bs Bd Bh Bo vt8 vd8 T8 sm8) := hS; have SUA : Hid (SL U aA A) := SA.out.of_below hS.2.1; have SUB : Hid (SL U aB B) := SB.out.of_below hS.2.1; have SUC : Hid (SL U aC C) := SC.out.of_below hS.2.1; clear hS hK C16)
        | (go_at_call 22; refine (HR.out _).mono ?_; rintro e wz ⟨rfl, hwz⟩; obtain rfl := hwz.symm; clear HR)
        | (go_at_call 21; refine (HA1.out _).mono ?_; rintro e w1 ⟨⟨v1, rfl, hO⟩, hB⟩; have B1 : Hid (Below U.heap.size U w1) := hB; have O1 : Hid (w1.ownsRow U.heap.size 37 2 v1 LA.length (flat LA)) := hO; clear hO hB HA1)
        | (go_at_call 21; refine (HB1.out _).mono ?_; rintro e w2 ⟨⟨a2, c2, rfl, hS, hN⟩, hB⟩; have B2 : Hid (Below U.heap.size U w2) := B1.out.trans (hB.mono B1.out.size); have O2 : Hid (w2.ownsRow U.heap.size 37 2 v1 LA.length (flat LA)) := row_keep O1.out hB; have S2 : Hid (SPL w2 a2 LB) := hS; have N2 : Hid (a2 = none → LB.length = 0 ∧ c2 = 0) := hN; clear hS hN hB HB1 O1)
        | (at_builtin; refine wpList_append_opt rfl (.tmp 72) (.tmp 75) 51 rfl U.heap.size 37 i0 (.agg #[.int .i64 0, .int .i64 0]) 2 16 Tryd.underlying51 hi0 hq0 hq1 hq2 rfl (by decide) v1 LA.length (flat LA) rfl O2.out a2 LB.length c2 (flat LB) rfl (flat_len LB) N2.out (S2.out.cellsO) (flat_one LB) (by unfold maxLen; omega) (by omega) B2.out.size ?_; intro v3 w3 hown hgrow hn; have O3 : Hid (w3.ownsRow U.heap.size 37 2 v3 (LA.length + LB.length) (flat LA ++ flat LB)) := hown; have B3 : Hid (Below U.heap.size U w3) := B2.out.grown hgrow B2.out.size (fun k hk => (O2.out.lt k hk).1); clear hown hgrow hn O2 S2 N2)
        | (go_at_call 21; refine (HC1.out _).mono ?_; rintro e w4 ⟨⟨a4, c4, rfl, hS, hN⟩, hB⟩; have B4 : Hid (Below U.heap.size U w4) := B3.out.trans (hB.mono B3.out.size); have O4 : Hid (w4.ownsRow U.heap.size 37 2 v3 (LA.length + LB.length) (flat LA ++ flat LB)) := row_keep O3.out hB; have S4 : Hid (SPL w4 a4 LC) := hS; have N4 : Hid (a4 = none → LC.length = 0 ∧ c4 = 0) := hN; clear hS hN hB HC1 O3)
        | (at_builtin; refine wpList_append_opt rfl (.tmp 76) (.tmp 79) 51 rfl U.heap.size 37 i0 (.agg #[.int .i64 0, .int .i64 0]) 2 16 Tryd.underlying51 hi0 hq0 hq1 hq2 rfl (by decide) v3 (LA.length + LB.length) (flat LA ++ flat LB) rfl O4.out a4 LC.length c4 (flat LC) rfl (flat_len LC) N4.out (S4.out.cellsO) (flat_one LC) (by unfold maxLen; omega) (by omega) B4.out.size ?_; intro v5 w5 hown hgrow hn; have O5 : Hid (w5.ownsRow U.heap.size 37 2 v5 (LA.length + LB.length + LC.length) (flat LA ++ flat LB ++ flat LC)) := hown; have B5 : Hid (Below U.heap.size U w5) := B4.out.grown hgrow B4.out.size (fun k hk => (O4.out.lt k hk).1); clear hown hgrow hn O4 S4 N4; have D0 : Hid ((w5.alloc (.cells #[] 9)).ownsRow U.heap.size 9 1 (.slice (some ⟨w5.heap.size, 0, none⟩) 0 0) 0 []) := none_own9 B5.out.size; have B9 : Hid (Below U.heap.size U (w5.alloc (.cells #[] 9))) := B5.out.trans ((nB w5 _).mono B5.out.size); have P9 : Hid ((w5.alloc (.cells #[] 9)).ownsRow U.heap.size 37 2 v5 (LA.length + LB.length + LC.length) (flat LA ++ flat LB ++ flat LC)) := row_keep O5.out (nB w5 _); obtain ⟨a5, c5, rfl, _⟩ := spl_form (v := v5) (n := nS) (l := LA ++ LB ++ LC) (by rw [← HNS.out]; simp only [List.length_append]) (by have q := O5.out; rw [HNS.out, ← flat_append, ← flat_append] at q; exact q); clear O5)
        | (at_builtin; refine wpList_append_opt rfl (.tmp 81) (.tmp 82) 22 rfl U.heap.size 9 j0 (.string ⟨#[]⟩) 1 16 Tryd.underlying22 hj0 hy0 hy1 hy2 rfl (by decide) (.slice (some ⟨w5.heap.size, 0, none⟩) 0 0) 0 [] rfl D0.out aA A.length cA (A.map Value.string) rfl (by simp) NA.out ((SUA.out.of_below B9.out).cellsO) (str_one A) (by unfold maxLen; omega) (by omega) B9.out.size ?_; intro v10 w10 hown hgrow hn; have D1 : Hid (w10.ownsRow U.heap.size 9 1 v10 (0 + A.length) ([] ++ A.map Value.string)) := hown; have B10 : Hid (Below U.heap.size U w10) := B9.out.grown hgrow B9.out.size (fun k hk => (D0.out.lt k hk).1); have P10 : Hid (w10.ownsRow U.heap.size 37 2 (.slice a5 nS c5) (LA.length + LB.length + LC.length) (flat LA ++ flat LB ++ flat LC)) := row_apart P9.out D0.out (by decide) hgrow; clear P9; clear hown hgrow hn D0)
        | (at_builtin; refine wpList_append_opt rfl (.tmp 83) (.tmp 84) 22 rfl U.heap.size 9 j0 (.string ⟨#[]⟩) 1 16 Tryd.underlying22 hj0 hy0 hy1 hy2 rfl (by decide) v10 (0 + A.length) ([] ++ A.map Value.string) rfl D1.out aB B.length cB (B.map Value.string) rfl (by simp) NB.out ((SUB.out.of_below B10.out).cellsO) (str_one B) (by unfold maxLen; omega) (by omega) B10.out.size ?_; intro v11 w11 hown hgrow hn; have D2 : Hid (w11.ownsRow U.heap.size 9 1 v11 (0 + A.length + B.length) ([] ++ A.map Value.string ++ B.map Value.string)) := hown; have B11 : Hid (Below U.heap.size U w11) := B10.out.grown hgrow B10.out.size (fun k hk => (D1.out.lt k hk).1); have P11 : Hid (w11.ownsRow U.heap.size 37 2 (.slice a5 nS c5) (LA.length + LB.length + LC.length) (flat LA ++ flat LB ++ flat LC)) := row_apart P10.out D1.out (by decide) hgrow; clear P10; clear hown hgrow hn D1)
        | (at_builtin; refine wpList_append_opt rfl (.tmp 85) (.tmp 86) 22 rfl U.heap.size 9 j0 (.string ⟨#[]⟩) 1 16 Tryd.underlying22 hj0 hy0 hy1 hy2 rfl (by decide) v11 (0 + A.length + B.length) ([] ++ A.map Value.string ++ B.map Value.string) rfl D2.out aC C.length cC (C.map Value.string) rfl (by simp) NC'.out ((SUC.out.of_below B11.out).cellsO) (str_one C) (by unfold maxLen; omega) (by omega) B11.out.size ?_; intro v12 w12 hown hgrow hn; have D3 : Hid (w12.ownsRow U.heap.size 9 1 v12 (0 + A.length + B.length + C.length) ([] ++ A.map Value.string ++ B.map Value.string ++ C.map Value.string)) := hown; have B12 : Hid (Below U.heap.size U w12) := B11.out.grown hgrow B11.out.size (fun k hk => (D2.out.lt k hk).1); have P12 : Hid (w12.ownsRow U.heap.size 37 2 (.slice a5 nS c5) (LA.length + LB.length + LC.length) (flat LA ++ flat LB ++ flat LC)) := row_apart P11.out D2.out (by decide) hgrow; clear P11; obtain ⟨a12, c12, rfl, s12⟩ := own_sl (w := w12) (v := v12) (base := U.heap.size) (n := nD) (qs := A ++ B ++ C) (by rw [← HND.out]; simp only [List.length_append]; omega) (by have q := hown; rw [HND.out, List.nil_append, ← List.map_append, ← List.map_append] at q; exact q); have S12 : Hid (SL w12 a12 (A ++ B ++ C)) := s12; clear s12; clear hown hgrow hn D2; have S5 : Hid (SPL w12 a5 (LA ++ LB ++ LC)) := by { obtain ⟨a9, c9, e9, s9⟩ := spl_form (v := .slice a5 nS c5) (n := nS) (l := LA ++ LB ++ LC) (by rw [← HNS.out]; simp only [List.length_append]) (by have q := P12.out; rw [HNS.out, ← flat_append, ← flat_append] at q; exact q); cases e9; exact s9 }; clear P12))
      clear HNS HND D3 SUA SUB SUC SA SB SC NA NB NC' mA mB mC
      generalize LA ++ LB ++ LC = S at *
      generalize A ++ B ++ C = D at *
      go_loopg [25, 26, 27, 96] nS (fun gk v25 v26 v27 v96 wr => ∃ i : Nat, i + gk = nS ∧ v96 = .int .i64 (i : Int) ∧ wr.ownsRow w12.heap.size 55 3 v25 i (flat3 (l.take i)) ∧ Below w12.heap.size w12 wr)
      case atStart => exact ⟨0, by omega, rfl, World.ownsRow_nil _ _ _ _, Below.refl _ _⟩
      case round =>
        obtain ⟨i, hig, rfl, hO, hB⟩ := hrel
        have B : Hid (Below w12.heap.size w12 wr) := hB
        have O : Hid (wr.ownsRow w12.heap.size 55 3 u25 i (flat3 (l.take i))) := hO
        clear hO hB
        by_cases hi : i < nS
        · have il : (i : Int) < (nS : Int) := by omega
          have il2 : (i : Int) < (nD : Int) := by have := HDS.out; omega
          have hiS : i < S.length := by rw [HSL.out]; exact hi
          have hiD : i < D.length := by rw [HDL.out]; exact hi
          obtain ⟨b1, o1, rfl, q1, q2⟩ := (S5.out.of_below B.out).two i hiS
          rw [Nat.mul_comm 2 i] at q1 q2
          obtain ⟨b2, o2, rfl, q3⟩ := S12.out i hiD
          have hb2 : b2 < w12.heap.size := cell_lt q3
          have q4 := cell_keep q3 B.out
          have HT : Hid (flat3 (l.take (i + 1)) = flat3 (l.take i) ++ [.int .i64 (S[i].1 : Int), .int .i64 (S[i].2 : Int), .string D[i]]) := by
            show _ = _
            rw [HLE.out]
            exact zip_take3 hiS hiD
          generalize S[i] = p at *
          generalize D[i] = s at *
          obtain ⟨p1, p2⟩ := p
          dsimp only at q1 q2 HT
          have I4 : Hid (IHolds (wr.alloc (.cells #[.int .i64 (p1 : Int), .int .i64 (p2 : Int)] 37)) wr.heap.size 37 [.int .i64 (p1 : Int), .int .i64 (p2 : Int)]) := IHolds.new wr 37 [.int .i64 (p1 : Int), .int .i64 (p2 : Int)]
          obtain ⟨W4, hW4⟩ : ∃ W4, wr.alloc (.cells #[.int .i64 (p1 : Int), .int .i64 (p2 : Int)] 37) = W4 := ⟨_, rfl⟩
          have B4 : Hid (Below wr.heap.size wr W4) := by rw [← hW4]; exact nB wr _
          have O4 : Hid (W4.ownsRow w12.heap.size 55 3 u25 i (flat3 (l.take i))) := row_keep O.out B4.out
          rw [hW4] at I4
          have Q4 : Hid (W4.cell? ⟨b2, o2 + i, none⟩ = some (.string s)) := cell_keep q4 B4.out
          have hsz : w12.heap.size ≤ W4.heap.size := Nat.le_trans B.out.size B4.out.size
          clear q3 q4
          go_wp2_with fail
          refine Code.wp_mono (Q := fun e aa ww => match e with | .normal => (?R2 : Act → World → Prop) aa ww | _ => False) ?nx2 ?hr2
          case nx2 =>
            intro ex aa ww hh
            cases ex with
            | normal => exact hh
            | _ => exact hh.elim
          case hr2 =>
            refine r23_top (n₀ := w12.heap.size) il2 (by omega) hsz hb2 O4.out I4.out Q4.out ?_
            intro V v' x101 x102 x103 x104 x105 x106 x107 x108 x109 hO' hB'
            have O5 : Hid (V.ownsRow w12.heap.size 55 3 v' (i + 1) (flat3 (l.take (i + 1)))) := by rw [HT.out]; exact hO'
            have B5' : Hid (Below w12.heap.size w12 V) := B.out.trans ((B4.out.mono B.out.size).trans hB')
            clear hO' hB' HT hW4 I4 Q4
            go_wp2_with fail
            go_roundg (gk - 1)
            case measure => omega
            case rel => exact ⟨i + 1, by omega, by go_num, O5.out, B5'.out⟩
        · have il : ¬ (i : Int) < (nS : Int) := by omega
          have e0 : i = l.length := by have := HLL.out; omega
          subst e0
          rw [List.take_length] at O
          obtain ⟨a16, c16, rfl, p16⟩ := own_ptlT rfl O.out
          have P16 : Hid (PTL wr a16 l) := p16
          have SW : Hid (Sx w wr w.heap.size w.heap.size Bs Bd Bh Bo vt8 vd8 T8 sm8) := Sx.below S8.out (B12.out.trans (B.out.mono B12.out.size))
          have OW : Hid (wr.ownsRow w.heap.size 55 3 (.slice a16 l.length c16) l.length (flat3 l)) := row_base O.out (Nat.le_trans S8.out.2.2.1 B12.out.size)
          clear p16
          go_wp2_with (go_at_call 23; refine (H40.out _ _ _ _ HAL.out P16.out).mono ?_; rintro e w14 ⟨⟨r, rfl, hr⟩, hB⟩; have S14 : Hid (Sx w w14 w.heap.size w.heap.size Bs Bd Bh Bo vt8 vd8 T8 sm8) := Sx.below SW.out hB; have O14 : Hid (w14.ownsRow w.heap.size 55 3 (.slice a16 l.length c16) l.length (flat3 l)) := row_keep OW.out hB; have R14 : Hid (PR l r) := hr; clear hr hB)
          clear B O P16 S5 S12 SW OW S8 B12
          go_loopg [25, 28, 29] l.length (fun gk v25 v28 v29 wr => ∃ (l2 : List P3) (r : Int) (vt vd : Value) (TL : List ByteArray) (sm : Bool), l2.length = gk ∧ v28 = .int .i64 r ∧ PR l2 r ∧ wr.ownsRow w.heap.size 55 3 v25 l2.length (flat3 l2) ∧ Sx w wr w.heap.size w.heap.size Bs Bd Bh Bo vt vd TL sm ∧ (∀ t ∈ T8, t ∈ TL) ∧ Back E l l2 TL ∧ joinedL l2 = joinedL l ∧ Al 0 zn l2 ∧ (∀ p ∈ l2, p.2.size = 32) ∧ TL.length + l2.length ≤ 8388608)
          case atStart => exact ⟨l, r, vt8, vd8, T8, sm8, rfl, rfl, R14.out, O14.out, S14.out, fun t h => h, fun T _ _ h => h, rfl, HAL.out, H32L.out, by have h1 := HT8.out; have h2 := HLL.out; have h3 := al_len HAL.out; omega⟩
          case round =>
            obtain ⟨l2, r, vt, vd, TL, sm, hlg, rfl, hr, hO, hS, hsub, hbk, hj, hA, h3, hbd⟩ := hrel
            have SS : Hid (Sx w wr w.heap.size w.heap.size Bs Bd Bh Bo vt vd TL sm) := hS
            have O : Hid (wr.ownsRow w.heap.size 55 3 u25 l2.length (flat3 l2)) := hO
            have J : Hid (joinedL l2 = joinedL l) := hj
            have A2 : Hid (Al 0 zn l2) := hA
            have S2 : Hid (∀ p ∈ l2, p.2.size = 32) := h3
            have SUB : Hid (∀ t ∈ T8, t ∈ TL) := hsub
            have BK : Hid (Back E l l2 TL) := hbk
            have hl2 := al_len hA
            have HLG : Hid (l2.length = gk) := hlg
            clear hO hS hj hA h3 O14 S14 R14 hlg hsub hbk
            rcases hr with ⟨rfl, hnp⟩ | ⟨i, hi, rfl, hh, hp⟩
            · obtain ⟨a16, c16, rfl, p16⟩ := own_ptlT rfl O.out
              have P16 : Hid (PTL wr a16 l2) := p16
              have HJ : Hid (l2 = joinedL l) := by show _ = _; rw [← J.out, joined_np hnp]
              clear p16 hnp
              go_wp2_with (go_at_call 20; refine (H20.out _).mono ?_; rintro e X ⟨rfl, hB⟩; have SX1 : Hid (Sx w X w.heap.size w.heap.size Bs Bd Bh Bo vt vd TL sm) := Sx.below SS.out hB; have PX1 : Hid (PTL X a16 l2) := P16.out.of_below hB; have RX1 : Hid ((X.alloc (.cells #[.string F4] 9)).ownsRow X.heap.size 9 1 (.slice (some ⟨X.heap.size, 0, none⟩) 1 1) 1 ([F4].map Value.string)) := one_own9 (IHolds.new X 9 [.string F4]) (Nat.le_refl _); have BX1 : Hid (Below X.heap.size X (X.alloc (.cells #[.string F4] 9))) := nB X _; clear hB)
              go_loopg [20, 31, 164] l2.length (fun gk v20 v31 v164 wr => ∃ i : Nat, i + gk = l2.length ∧ v164 = .int .i64 (i : Int) ∧ wr.ownsRow X.heap.size 9 1 v20 (i + 1) ((F4 :: (l2.take i).map Prod.snd).map Value.string) ∧ Below X.heap.size X wr)
              case atStart => exact ⟨0, by omega, rfl, RX1.out, BX1.out⟩
              case round =>
                obtain ⟨i, hig, rfl, hO, hB⟩ := hrel
                have BB : Hid (Below X.heap.size X wr) := hB
                have OO : Hid (wr.ownsRow X.heap.size 9 1 u20 (i + 1) ((F4 :: (l2.take i).map Prod.snd).map Value.string)) := hO
                clear hB hO
                by_cases hi : i < l2.length
                · have il : (i : Int) < (l2.length : Int) := by omega
                  obtain ⟨b, o, rfl, q1, q2, q3⟩ := (PX1.out.of_below BB.out).three i hi
                  have HST : Hid _ := snd_take hi
                  generalize l2[i] = p at *
                  obtain ⟨⟨p1, p2⟩, s⟩ := p
                  dsimp only at q1 q2 q3 HST
                  have I4 : Hid (IHolds (wr.alloc (.cells #[.int .i64 (p1 : Int), .int .i64 (p2 : Int), .string s] 55)) wr.heap.size 55 [.int .i64 (p1 : Int), .int .i64 (p2 : Int), .string s]) := IHolds.new wr 55 [.int .i64 (p1 : Int), .int .i64 (p2 : Int), .string s]
                  obtain ⟨W4, hW4⟩ : ∃ W4, wr.alloc (.cells #[.int .i64 (p1 : Int), .int .i64 (p2 : Int), .string s] 55) = W4 := ⟨_, rfl⟩
                  have B4 : Hid (Below wr.heap.size wr W4) := by rw [← hW4]; exact nB wr _
                  have O4 : Hid (W4.ownsRow X.heap.size 9 1 u20 (i + 1) ((F4 :: (l2.take i).map Prod.snd).map Value.string)) := row_keep OO.out B4.out
                  rw [hW4] at I4
                  have c4 : W4.cell? ⟨wr.heap.size, 2, none⟩ = some (.string s) := I4.out.cell 2 (by simp)
                  go_wp2_with (at_builtin; refine wpList_append_own _ rfl (.tmp 168) (.tmp 171) 22 rfl X.heap.size 9 j0 (.string ⟨#[]⟩) 1 16 Tryd.underlying22 hj0 hy0 hy1 hy2 rfl (by decide) u20 (i + 1) ((F4 :: (l2.take i).map Prod.snd).map Value.string) rfl (O4.out.alloc (.cells #[.string s] 9)) ⟨W4.heap.size, 0, none⟩ 1 1 [.string s] rfl rfl (one_news W4 s) (fun u hu => by simp at hu; subst hu; rfl) (by unfold maxLen; omega) (by omega) (Nat.le_trans BB.out.size (Nat.le_trans B4.out.size (nB W4 (.cells #[.string s] 9)).size)) ?_; intro v5 w5 hown hgrow hn; have O5 : Hid (w5.ownsRow X.heap.size 9 1 v5 (i + 1 + 1) (((F4 :: (l2.take i).map Prod.snd).map Value.string) ++ [.string s])) := hown; have B5 : Hid (Below X.heap.size X w5) := (BB.out.trans ((B4.out.trans ((nB W4 (.cells #[.string s] 9)).mono B4.out.size)).mono BB.out.size)).grown hgrow (Nat.le_trans BB.out.size (Nat.le_trans B4.out.size (nB W4 (.cells #[.string s] 9)).size)) (fun k hk => ((O4.out.alloc (.cells #[.string s] 9)).lt k hk).1); clear hown hgrow hn)
                  go_roundg (gk - 1)
                  case measure => omega
                  case rel => exact ⟨i + 1, by omega, by go_num, by rw [HST.out, ← List.cons_append, List.map_append]; exact O5.out, B5.out⟩
                · have il : ¬ (i : Int) < (l2.length : Int) := by omega
                  have e9 : i = l2.length := by omega
                  obtain ⟨a9, c9, rfl, s9⟩ := own_sl (w := wr) (v := u20) (base := X.heap.size) (qs := F4 :: l2.map Prod.snd) (n := i + 1) (by simp [e9]) (by
                    have h := OO.out
                    rw [List.take_of_length_le (by omega)] at h
                    exact h)
                  have S9 : Hid (Sx w wr w.heap.size w.heap.size Bs Bd Bh Bo vt vd TL sm) := Sx.below SX1.out BB.out
                  have h32J : all32 (l2.map Prod.snd) = true := all32_of S2.out
                  have C16 : Hid (Calls Tryd.prog 16 #[.string ⟨#[104, 101, 97, 100]⟩, .slice a9 (i + 1) c9, .pointer (some ⟨w.heap.size, 0, none⟩), .pointer (some ⟨Bs, 0, none⟩), .pointer (some ⟨Bd, 0, none⟩)] wr fun e V' => e = .returned (.string (tgF lHead (F4 :: l2.map Prod.snd))) ∧ XP w wr V' w.heap.size w.heap.size Bs Bd Bh Bo vt vd (TL ++ [jnF lHead (F4 :: l2.map Prod.snd)])) := by
                    have q := hashX (label := lHead) (c := c9) EN.out S9.out (by decide) (by rw [← hF4]; exact Sz.head (by rw [List.length_map]; omega) h32J) s9 (by omega)
                    have e : (F4 :: l2.map Prod.snd).length = i + 1 := by simp [e9]
                    rw [e] at q
                    exact q
                  have cH := Boxed.cell S9.out.2.2.2.1
                  have FIN : Hid (∀ sm', Cl sm' (TL ++ [jnF lHead (F4 :: l2.map Prod.snd)]) → CP E zn l (.bool sm')) := fun sm' hc => ⟨sm', TL ++ [jnF lHead (F4 :: l2.map Prod.snd)], rfl, hc, fun p hp t ht => List.mem_append.2 (Or.inl (SUB.out t (HC8.out p hp t ht))), by rw [hF4]; exact List.mem_append.2 (Or.inl (SUB.out _ HC9.out)), by rw [hF4, ← HJ.out]; simp, by rw [← HJ.out]; exact BK.out.more (fun t ht => List.mem_append.2 (Or.inl ht))⟩
                  generalize tgF lHead (F4 :: l2.map Prod.snd) = DH2 at *
                  generalize TL ++ [jnF lHead (F4 :: l2.map Prod.snd)] = T9 at *
                  clear s9 h32J e9
                  go_wp2_with (go_at_call 16; refine (Calls.mono C16.out) ?_; rintro e Z ⟨rfl, vt9, vd9, sm9, hS, hK⟩; have SZ : Hid (Sx w Z w.heap.size w.heap.size Bs Bd Bh Bo vt9 vd9 T9 sm9) := hS; have cS := Boxed.cell hS.1.s; clear hS hK C16)
                  go_ret
                  exact ⟨⟨_, rfl, FIN.out _ SZ.out.1.cl⟩, SZ.out.2.1⟩
            · obtain ⟨g, cap, rfl, hn1, hn2, hbg, hgW, hcells⟩ := row_formT (show 0 < l2.length by omega) O.out
              obtain ⟨cs, hcs⟩ := row_obj O.out (k := g) (by simp [Value.ownBlock])
              have PT : PTL wr (some ⟨g, 0, none⟩) l2 := fun j u hj => ⟨g, 0, rfl, by rw [Nat.zero_add]; exact hcells j u hj⟩
              obtain ⟨n1, hn1e⟩ : ∃ n1, n1 = i + 1 := ⟨_, rfl⟩
              obtain ⟨b, o, e1, q1, q2, q3⟩ := PT.three i (by omega)
              cases e1
              obtain ⟨b, o, e1, q4, q5, q6⟩ := PT.three (i + 1) hi
              cases e1
              rw [Nat.zero_add] at q1 q2 q3 q4 q5 q6
              obtain ⟨l3, RD1, RD2, RD3, RD4, hfj, RD5⟩ := step_all BK.out hi hh hp A2.out hz S2.out
              have f32 : l2[i].2.size = 32 := S2.out _ (List.getElem_mem (by omega))
              have d32 : l2[i + 1].2.size = 32 := S2.out _ (List.getElem_mem hi)
              clear hh hp
              obtain ⟨pa, hpa⟩ : ∃ pa, pa = l2[i] := ⟨_, rfl⟩
              obtain ⟨pb, hpb⟩ : ∃ pb, pb = l2[i + 1] := ⟨_, rfl⟩
              rw [← hpa] at q1 q2 q3 f32 hfj RD5
              rw [← hpb] at q4 q5 q6 d32 hfj RD5
              clear hpa hpb
              obtain ⟨⟨a1, a2⟩, f⟩ := pa
              obtain ⟨⟨b1, b2⟩, d⟩ := pb
              dsimp only at q1 q2 q3 q4 q5 q6 f32 d32 hfj RD5
              rw [← hn1e] at q4 q5 q6
              have RR : Hid (joinedL l3 = joinedL l ∧ Al 0 zn l3 ∧ (∀ p ∈ l3, p.2.size = 32) ∧ l3.length + 1 = l2.length) := ⟨RD1.trans J.out, RD2, RD3, RD4⟩
              have FJ : Hid (flat3 l3 = flat3 (l2.take i) ++ [.int .i64 (a1 : Int), .int .i64 (b2 : Int), .string (tgF lBlock [f, d])] ++ flat3 (l2.drop (i + 2))) := hfj
              have BK3 : Hid (Back E l l3 (TL ++ [jnF lBlock [f, d]])) := RD5
              have HXC : Hid (∀ V : World, V.heap[g]? = wr.heap[g]? → ∀ j u, (flat3 (l2.take i))[j]? = some u → V.cell? ⟨g, j, none⟩ = some u) := fun V hV j u hj => (World.cell?_of_block (a := ⟨g, j, none⟩) hV).trans (hcells j u (flat3_take_at j u hj))
              have HYC : Hid (∀ V : World, V.heap[g]? = wr.heap[g]? → ∀ j u, (flat3 (l2.drop (i + 2)))[j]? = some u → V.cell? ⟨g, (i + 2) * 3 + j, none⟩ = some u) := fun V hV j u hj => (World.cell?_of_block (a := ⟨g, (i + 2) * 3 + j, none⟩) hV).trans (hcells _ u (flat3_drop_at (by omega) j u hj))
              have hxl : (flat3 (l2.take i)).length = i * 3 := by rw [flat3_len, List.length_take]; congr 1; omega
              have hyl : (flat3 (l2.drop (i + 2))).length = (l2.length - (i + 2)) * 3 := by rw [flat3_len, List.length_drop]
              have hx1 := flat3_one (l2.take i)
              have hy1' := flat3_one (l2.drop (i + 2))
              have C16 : Hid (∀ V a, Sx w V w.heap.size w.heap.size Bs Bd Bh Bo vt vd TL sm → SL V a [f, d] → Calls Tryd.prog 16 #[.string lBlock, .slice a 2 2, .pointer (some ⟨w.heap.size, 0, none⟩), .pointer (some ⟨Bs, 0, none⟩), .pointer (some ⟨Bd, 0, none⟩)] V fun e V' => e = .returned (.string (tgF lBlock [f, d])) ∧ XP w V V' w.heap.size w.heap.size Bs Bd Bh Bo vt vd (TL ++ [jnF lBlock [f, d]])) := fun V a hV hs => hashX EN.out hV (by decide) ⟨by simp, fun p hp => by simp at hp; rcases hp with rfl | rfl <;> omega, fun _ p hp => by simp at hp; rcases hp with rfl | rfl <;> omega⟩ hs (by omega)
              have il : (0 : Int) ≤ (i : Int) := by omega
              have k2 : (i : Int) + 1 = (n1 : Int) := by omega
              have K1 : Hid (n1 = i + 1) := hn1e
              have HCS : Hid (wr.heap[g]? = some (.cells cs 55)) := hcs
              generalize tgF lBlock [f, d] = DD at *
              generalize jnF lBlock [f, d] = JJ at *
              generalize flat3 (l2.take i) = xs at *
              generalize flat3 (l2.drop (i + 2)) = ys at *
              clear RD1 RD2 RD3 RD4 RD5 hfj hcells f32 d32 PT hn1e S2 A2 J hcs BK
              go_wp2_with fail
              refine Code.wp_mono (Q := fun e aa ww => match e with | .normal => (?R3 : Act → World → Prop) aa ww | _ => False) ?nx3 ?hr3
              case nx3 =>
                intro ex aa ww hh
                cases ex with
                | normal => exact hh
                | _ => exact hh.elim
              case hr3 =>
                refine r28_top (n1 := n1) (by have := K1.out; omega) (by have := K1.out; omega) k2 (wrapN' (by have := K1.out; omega)) HCS.out SS.out q1 q3 q5 q6 C16.out ?_
                intro V Bk vt' vd' sm' x117 x118 x119 x120 x121 x122 x123 x124 x125 x126 x127 x128 x129 x130 x131 x132 x133 x134 x135 x136 x137 x138 x139 x140 x141 x142 x143 x144 x145 hS hIB hG hZ
                have SV : Hid (Sx w V w.heap.size w.heap.size Bs Bd Bh Bo vt' vd' (TL ++ [JJ]) sm') := hS
                have IB : Hid (IHolds V Bk 55 [.int .i64 (a1 : Int), .int .i64 (b2 : Int), .string DD]) := hIB
                have GV : Hid (V.heap[g]? = wr.heap[g]?) := hG
                have ZV : Hid (wr.heap.size ≤ V.heap.size) := hZ
                clear hS hIB hG hZ
                go_wp2_with fail
                refine Code.wp_mono (Q := fun e aa ww => match e with | .normal => (?R4 : Act → World → Prop) aa ww | _ => False) ?nx4 ?hr4
                case nx4 =>
                  intro ex aa ww hh
                  cases ex with
                  | normal => exact hh
                  | _ => exact hh.elim
                case hr4 =>
                  refine r29_top (n2 := i + 2) (r := l2.length - (i + 2)) (xs := xs) (ys := ys) (D := DD) (by omega) (by omega) (by omega) (wrapN' (by omega)) (by omega) (by omega) (by omega) (by omega) (Nat.lt_of_lt_of_le hgW ZV.out) hxl hyl hx1 hy1' (HXC.out V GV.out) (HYC.out V GV.out) IB.out ?_
                  intro V3 v' y146 y147 y148 y149 y150 y151 y152 y153 y154 y155 y156 y157 y158 hV3 hO3
                  obtain ⟨rj, rA, r3, rl⟩ := RR.out
                  have O3 : Hid (V3.ownsRow w.heap.size 55 3 v' l3.length (flat3 l3)) := by
                    rw [FJ.out, show l3.length = i + 1 + (l2.length - (i + 2)) by omega]
                    exact row_base hO3 SV.out.2.2.1
                  have S3 : Hid (Sx w V3 w.heap.size w.heap.size Bs Bd Bh Bo vt' vd' (TL ++ [JJ]) sm') := Sx.below SV.out hV3
                  obtain ⟨a17, c17, rfl, p17⟩ := own_ptlT rfl O3.out
                  have P17 : Hid (PTL V3 a17 l3) := p17
                  have RA : Hid (Al 0 zn l3) := rA
                  have RJ : Hid (joinedL l3 = joinedL l) := rj
                  have R3' : Hid (∀ p ∈ l3, p.2.size = 32) := r3
                  have hbd3 : (TL ++ [JJ]).length + l3.length ≤ 8388608 := by simp only [List.length_append, List.length_cons, List.length_nil]; omega
                  have SUB3 : Hid (∀ t ∈ T8, t ∈ TL ++ [JJ]) := fun t ht => List.mem_append.2 (Or.inl (SUB.out t ht))
                  clear hV3 hO3 p17 rA rj r3 RR FJ HXC HYC hxl hyl hx1 hy1' q1 q2 q3 q4 q5 q6 IB C16
                  go_wp2_with (go_at_call 23; refine (H40.out _ _ _ _ RA.out P17.out).mono ?_; rintro e w15 ⟨⟨r, rfl, hr⟩, hB⟩; have S15 : Hid (Sx w w15 w.heap.size w.heap.size Bs Bd Bh Bo vt' vd' (TL ++ [JJ]) sm') := Sx.below S3.out hB; have O15 : Hid (w15.ownsRow w.heap.size 55 3 (.slice a17 l3.length c17) l3.length (flat3 l3)) := row_keep O3.out hB; have R15 : Hid (PR l3 r) := hr; clear hr hB)
                  go_roundg (gk - 1)
                  case measure => have := HLG.out; omega
                  case rel => exact ⟨l3, r, _, _, _, _, by have := HLG.out; omega, rfl, R15.out, O15.out, S15.out, SUB3.out, BK3.out, RJ.out, RA.out, R3'.out, hbd3⟩
end Go.Proofs.YteomefhjglnghaaDoor

/- The law BoardBinds, walked. -/
set_option linter.unusedSimpArgs false
set_option linter.unusedVariables false
set_option maxRecDepth 100000
namespace Go.Proofs.YteomefhjglnghaaDoor
open Go.RowKit Go.Deep Go.PlainAid

set_option maxHeartbeats 2000000 in
theorem binds_out {w : World} {aE aA aB aC : Option Addr} {cE cA cB cC zn : Nat} {A B C Q0 : List ByteArray} {D : ByteArray} {lo hi : Int} (hr : ¬ (0 ≤ lo ∧ lo ≤ hi ∧ hi ≤ (zn : Int)))
    (b0 : ∀ V, Below w.heap.size w V → Calls Tryd.prog 4 #[.slice aE zn cE, .int .i64 0, .int .i64 (zn : Int)] V fun e V' => (∃ a' c', e = .returned (.tuple #[.slice a' Q0.length c', .int .i64 0]) ∧ SL V' a' Q0) ∧ Below V.heap.size V V') (g5 : ∀ V a c, Below w.heap.size w V → SL V a Q0 → Calls Tryd.prog 5 #[.int .i64 (zn : Int), .slice a Q0.length c] V fun e V' => e = .returned (.tuple #[.string D, .int .i64 0]) ∧ Below V.heap.size V V') (m6 : ∀ V, Below w.heap.size w V → Calls Tryd.prog 6 #[.string D, .int .i64 (zn : Int), .int .i64 lo, .int .i64 hi, .slice aA A.length cA, .slice aB B.length cB, .slice aC C.length cC] V fun e V' => e = .returned (.bool false) ∧ Below V.heap.size V V') :
    Calls Tryd.prog 3 #[.slice aE zn cE, .int .i64 lo, .int .i64 hi, .slice aA A.length cA, .slice aB B.length cB, .slice aC C.length cC] w fun e w' => e = .returned (.bool true) ∧ Below w.heap.size w w' := by
  have B0 : Hid (∀ V, Below w.heap.size w V → Calls Tryd.prog 4 #[.slice aE zn cE, .int .i64 0, .int .i64 (zn : Int)] V fun e V' => (∃ a' c', e = .returned (.tuple #[.slice a' Q0.length c', .int .i64 0]) ∧ SL V' a' Q0) ∧ Below V.heap.size V V') := b0
  have G5 : Hid (∀ V a c, Below w.heap.size w V → SL V a Q0 → Calls Tryd.prog 5 #[.int .i64 (zn : Int), .slice a Q0.length c] V fun e V' => e = .returned (.tuple #[.string D, .int .i64 0]) ∧ Below V.heap.size V V') := g5
  have G6 : Hid (∀ V, Below w.heap.size w V → Calls Tryd.prog 6 #[.string D, .int .i64 (zn : Int), .int .i64 lo, .int .i64 hi, .slice aA A.length cA, .slice aB B.length cB, .slice aC C.length cC] V fun e V' => e = .returned (.bool false) ∧ Below V.heap.size V V') := m6
  clear b0 g5 m6
  by_cases h1 : lo < 0
  · skip
    clear hr
    go_enter Tryd.func3, Tryd.ntmps3
    go_wp2_with (first
    | (go_at_call 4; refine (B0.out _ (Below.refl _ _)).mono ?_; rintro e w1 ⟨⟨a0, c0, rfl, hs⟩, hB⟩; have B1 : Hid (Below w.heap.size w w1) := hB; have S1 : Hid (SL w1 a0 Q0) := hs; clear hs hB B0)
    | (go_at_call 5; refine (G5.out _ _ _ B1.out S1.out).mono ?_; rintro e w2 ⟨rfl, hB⟩; have B2 : Hid (Below w.heap.size w w2) := B1.out.trans (hB.mono B1.out.size); clear hB G5)
    | (go_at_call 6; refine (G6.out _ B2.out).mono ?_; rintro e w3 ⟨rfl, hB⟩; have B3 : Hid (Below w.heap.size w w3) := B2.out.trans (hB.mono B2.out.size); clear hB G6))
    go_ret
    exact ⟨rfl, B3.out⟩
  · by_cases h2 : hi < lo
    · skip
      clear hr
      go_enter Tryd.func3, Tryd.ntmps3
      go_wp2_with (first
      | (go_at_call 4; refine (B0.out _ (Below.refl _ _)).mono ?_; rintro e w1 ⟨⟨a0, c0, rfl, hs⟩, hB⟩; have B1 : Hid (Below w.heap.size w w1) := hB; have S1 : Hid (SL w1 a0 Q0) := hs; clear hs hB B0)
      | (go_at_call 5; refine (G5.out _ _ _ B1.out S1.out).mono ?_; rintro e w2 ⟨rfl, hB⟩; have B2 : Hid (Below w.heap.size w w2) := B1.out.trans (hB.mono B1.out.size); clear hB G5)
      | (go_at_call 6; refine (G6.out _ B2.out).mono ?_; rintro e w3 ⟨rfl, hB⟩; have B3 : Hid (Below w.heap.size w w3) := B2.out.trans (hB.mono B2.out.size); clear hB G6))
      go_ret
      exact ⟨rfl, B3.out⟩
    · have h3 : (zn : Int) < hi := by omega
      clear hr
      go_enter Tryd.func3, Tryd.ntmps3
      go_wp2_with (first
      | (go_at_call 4; refine (B0.out _ (Below.refl _ _)).mono ?_; rintro e w1 ⟨⟨a0, c0, rfl, hs⟩, hB⟩; have B1 : Hid (Below w.heap.size w w1) := hB; have S1 : Hid (SL w1 a0 Q0) := hs; clear hs hB B0)
      | (go_at_call 5; refine (G5.out _ _ _ B1.out S1.out).mono ?_; rintro e w2 ⟨rfl, hB⟩; have B2 : Hid (Below w.heap.size w w2) := B1.out.trans (hB.mono B1.out.size); clear hB G5)
      | (go_at_call 6; refine (G6.out _ B2.out).mono ?_; rintro e w3 ⟨rfl, hB⟩; have B3 : Hid (Below w.heap.size w w3) := B2.out.trans (hB.mono B2.out.size); clear hB G6))
      go_ret
      exact ⟨rfl, B3.out⟩
set_option maxHeartbeats 4000000 in
theorem binds_f {w : World} {aE aA aB aC : Option Addr} {cE cA cB cC zn lo hi : Nat} {A B C Q0 QA QB QC : List ByteArray} {D : ByteArray} (h1 : lo ≤ hi) (h2 : hi ≤ zn)
    (b0 : ∀ V, Below w.heap.size w V → Calls Tryd.prog 4 #[.slice aE zn cE, .int .i64 0, .int .i64 (zn : Int)] V fun e V' => (∃ a' c', e = .returned (.tuple #[.slice a' Q0.length c', .int .i64 0]) ∧ SL V' a' Q0) ∧ Below V.heap.size V V') (g5 : ∀ V a c, Below w.heap.size w V → SL V a Q0 → Calls Tryd.prog 5 #[.int .i64 (zn : Int), .slice a Q0.length c] V fun e V' => e = .returned (.tuple #[.string D, .int .i64 0]) ∧ Below V.heap.size V V') (ba : ∀ V, Below w.heap.size w V → Calls Tryd.prog 4 #[.slice aE zn cE, .int .i64 0, .int .i64 (lo : Int)] V fun e V' => (∃ a' c', e = .returned (.tuple #[.slice a' QA.length c', .int .i64 0]) ∧ SL V' a' QA) ∧ Below V.heap.size V V') (bb : ∀ V, Below w.heap.size w V → Calls Tryd.prog 4 #[.slice aE zn cE, .int .i64 (lo : Int), .int .i64 (hi : Int)] V fun e V' => (∃ a' c', e = .returned (.tuple #[.slice a' QB.length c', .int .i64 0]) ∧ SL V' a' QB) ∧ Below V.heap.size V V') (bc : ∀ V, Below w.heap.size w V → Calls Tryd.prog 4 #[.slice aE zn cE, .int .i64 (hi : Int), .int .i64 (zn : Int)] V fun e V' => (∃ a' c', e = .returned (.tuple #[.slice a' QC.length c', .int .i64 0]) ∧ SL V' a' QC) ∧ Below V.heap.size V V')
    (m1 : ∀ V a1 c1 a2 c2 a3 c3, Below w.heap.size w V → SL V a1 QA → SL V a2 QB → SL V a3 QC → Calls Tryd.prog 6 #[.string D, .int .i64 (zn : Int), .int .i64 (lo : Int), .int .i64 (hi : Int), .slice a1 QA.length c1, .slice a2 QB.length c2, .slice a3 QC.length c3] V fun e V' => e = .returned (.bool true) ∧ Below V.heap.size V V') (m2 : ∀ V, Below w.heap.size w V → Calls Tryd.prog 6 #[.string D, .int .i64 (zn : Int), .int .i64 (lo : Int), .int .i64 (hi : Int), .slice aA A.length cA, .slice aB B.length cB, .slice aC C.length cC] V fun e V' => e = .returned (.bool false) ∧ Below V.heap.size V V') :
    Calls Tryd.prog 3 #[.slice aE zn cE, .int .i64 (lo : Int), .int .i64 (hi : Int), .slice aA A.length cA, .slice aB B.length cB, .slice aC C.length cC] w fun e w' => e = .returned (.bool true) ∧ Below w.heap.size w w' := by
  have B0 : Hid (∀ V, Below w.heap.size w V → Calls Tryd.prog 4 #[.slice aE zn cE, .int .i64 0, .int .i64 (zn : Int)] V fun e V' => (∃ a' c', e = .returned (.tuple #[.slice a' Q0.length c', .int .i64 0]) ∧ SL V' a' Q0) ∧ Below V.heap.size V V') := b0
  have G5 : Hid (∀ V a c, Below w.heap.size w V → SL V a Q0 → Calls Tryd.prog 5 #[.int .i64 (zn : Int), .slice a Q0.length c] V fun e V' => e = .returned (.tuple #[.string D, .int .i64 0]) ∧ Below V.heap.size V V') := g5
  have BA : Hid (∀ V, Below w.heap.size w V → Calls Tryd.prog 4 #[.slice aE zn cE, .int .i64 0, .int .i64 (lo : Int)] V fun e V' => (∃ a' c', e = .returned (.tuple #[.slice a' QA.length c', .int .i64 0]) ∧ SL V' a' QA) ∧ Below V.heap.size V V') := ba
  have BBB : Hid (∀ V, Below w.heap.size w V → Calls Tryd.prog 4 #[.slice aE zn cE, .int .i64 (lo : Int), .int .i64 (hi : Int)] V fun e V' => (∃ a' c', e = .returned (.tuple #[.slice a' QB.length c', .int .i64 0]) ∧ SL V' a' QB) ∧ Below V.heap.size V V') := bb
  have BC : Hid (∀ V, Below w.heap.size w V → Calls Tryd.prog 4 #[.slice aE zn cE, .int .i64 (hi : Int), .int .i64 (zn : Int)] V fun e V' => (∃ a' c', e = .returned (.tuple #[.slice a' QC.length c', .int .i64 0]) ∧ SL V' a' QC) ∧ Below V.heap.size V V') := bc
  have G1 : Hid (∀ V a1 c1 a2 c2 a3 c3, Below w.heap.size w V → SL V a1 QA → SL V a2 QB → SL V a3 QC → Calls Tryd.prog 6 #[.string D, .int .i64 (zn : Int), .int .i64 (lo : Int), .int .i64 (hi : Int), .slice a1 QA.length c1, .slice a2 QB.length c2, .slice a3 QC.length c3] V fun e V' => e = .returned (.bool true) ∧ Below V.heap.size V V') := m1
  have G2 : Hid (∀ V, Below w.heap.size w V → Calls Tryd.prog 6 #[.string D, .int .i64 (zn : Int), .int .i64 (lo : Int), .int .i64 (hi : Int), .slice aA A.length cA, .slice aB B.length cB, .slice aC C.length cC] V fun e V' => e = .returned (.bool false) ∧ Below V.heap.size V V') := m2
  have k1 : ¬ (lo : Int) < 0 := by omega
  have k2 : ¬ (hi : Int) < (lo : Int) := by omega
  have k3 : ¬ (zn : Int) < (hi : Int) := by omega
  clear b0 g5 ba bb bc m1 m2 h1 h2  
  go_enter Tryd.func3, Tryd.ntmps3
  go_wp2_with (first
    | (go_at_call 4; refine (B0.out _ (Below.refl _ _)).mono ?_; rintro e w1 ⟨⟨a0, c0, rfl, hs⟩, hB⟩; have B1 : Hid (Below w.heap.size w w1) := hB; have S1 : Hid (SL w1 a0 Q0) := hs; clear hs hB B0)
    | (go_at_call 5; refine (G5.out _ _ _ B1.out S1.out).mono ?_; rintro e w2 ⟨rfl, hB⟩; have B2 : Hid (Below w.heap.size w w2) := B1.out.trans (hB.mono B1.out.size); clear hB G5)
    | (go_at_call 4; refine (BA.out _ B2.out).mono ?_; rintro e w3 ⟨⟨a1, c1, rfl, hs⟩, hB⟩; have B3 : Hid (Below w.heap.size w w3) := B2.out.trans (hB.mono B2.out.size); have L1 : Hid (SL w3 a1 QA) := hs; clear hs hB BA)
    | (go_at_call 4; refine (BBB.out _ B3.out).mono ?_; rintro e w4 ⟨⟨a2, c2, rfl, hs⟩, hB⟩; have B4 : Hid (Below w.heap.size w w4) := B3.out.trans (hB.mono B3.out.size); replace L1 : Hid (SL w4 a1 QA) := L1.out.of_below hB; have L2 : Hid (SL w4 a2 QB) := hs; clear hs hB BBB)
    | (go_at_call 4; refine (BC.out _ B4.out).mono ?_; rintro e w5 ⟨⟨a3, c3, rfl, hs⟩, hB⟩; have B5 : Hid (Below w.heap.size w w5) := B4.out.trans (hB.mono B4.out.size); replace L1 : Hid (SL w5 a1 QA) := L1.out.of_below hB; replace L2 : Hid (SL w5 a2 QB) := L2.out.of_below hB; have L3 : Hid (SL w5 a3 QC) := hs; clear hs hB BC)
    | (go_at_call 6; refine (G1.out _ _ _ _ _ _ _ B5.out L1.out L2.out L3.out).mono ?_; rintro e w6 ⟨rfl, hB⟩; have B6 : Hid (Below w.heap.size w w6) := B5.out.trans (hB.mono B5.out.size); replace L1 : Hid (SL w6 a1 QA) := L1.out.of_below hB; replace L2 : Hid (SL w6 a2 QB) := L2.out.of_below hB; replace L3 : Hid (SL w6 a3 QC) := L3.out.of_below hB; clear hB G1)
    | (go_at_call 6; refine (G2.out _ B6.out).mono ?_; rintro e w7 ⟨rfl, hB⟩; have B7 : Hid (Below w.heap.size w w7) := B6.out.trans (hB.mono B6.out.size); replace L1 : Hid (SL w7 a1 QA) := L1.out.of_below hB; replace L2 : Hid (SL w7 a2 QB) := L2.out.of_below hB; replace L3 : Hid (SL w7 a3 QC) := L3.out.of_below hB; clear hB G2))
  go_ret
  exact ⟨rfl, B7.out⟩
set_option maxHeartbeats 4000000 in
theorem binds_ttt {w : World} {aE aA aB aC : Option Addr} {cE cA cB cC zn lo hi : Nat} {A B C Q0 QA QB QC : List ByteArray} {D : ByteArray} (h1 : lo ≤ hi) (h2 : hi ≤ zn)
    (b0 : ∀ V, Below w.heap.size w V → Calls Tryd.prog 4 #[.slice aE zn cE, .int .i64 0, .int .i64 (zn : Int)] V fun e V' => (∃ a' c', e = .returned (.tuple #[.slice a' Q0.length c', .int .i64 0]) ∧ SL V' a' Q0) ∧ Below V.heap.size V V') (g5 : ∀ V a c, Below w.heap.size w V → SL V a Q0 → Calls Tryd.prog 5 #[.int .i64 (zn : Int), .slice a Q0.length c] V fun e V' => e = .returned (.tuple #[.string D, .int .i64 0]) ∧ Below V.heap.size V V') (ba : ∀ V, Below w.heap.size w V → Calls Tryd.prog 4 #[.slice aE zn cE, .int .i64 0, .int .i64 (lo : Int)] V fun e V' => (∃ a' c', e = .returned (.tuple #[.slice a' QA.length c', .int .i64 0]) ∧ SL V' a' QA) ∧ Below V.heap.size V V') (bb : ∀ V, Below w.heap.size w V → Calls Tryd.prog 4 #[.slice aE zn cE, .int .i64 (lo : Int), .int .i64 (hi : Int)] V fun e V' => (∃ a' c', e = .returned (.tuple #[.slice a' QB.length c', .int .i64 0]) ∧ SL V' a' QB) ∧ Below V.heap.size V V') (bc : ∀ V, Below w.heap.size w V → Calls Tryd.prog 4 #[.slice aE zn cE, .int .i64 (hi : Int), .int .i64 (zn : Int)] V fun e V' => (∃ a' c', e = .returned (.tuple #[.slice a' QC.length c', .int .i64 0]) ∧ SL V' a' QC) ∧ Below V.heap.size V V')
    (m1 : ∀ V a1 c1 a2 c2 a3 c3, Below w.heap.size w V → SL V a1 QA → SL V a2 QB → SL V a3 QC → Calls Tryd.prog 6 #[.string D, .int .i64 (zn : Int), .int .i64 (lo : Int), .int .i64 (hi : Int), .slice a1 QA.length c1, .slice a2 QB.length c2, .slice a3 QC.length c3] V fun e V' => e = .returned (.bool true) ∧ Below V.heap.size V V') (m2 : ∀ V, Below w.heap.size w V → Calls Tryd.prog 6 #[.string D, .int .i64 (zn : Int), .int .i64 (lo : Int), .int .i64 (hi : Int), .slice aA A.length cA, .slice aB B.length cB, .slice aC C.length cC] V fun e V' => e = .returned (.bool true) ∧ Below V.heap.size V V') (s0 : ∀ V a1 c1, Below w.heap.size w V → SL V a1 QA → Calls Tryd.prog 7 #[.slice a1 QA.length c1, .slice aA A.length cA] V fun e V' => e = .returned (.bool true) ∧ Below V.heap.size V V') (s1 : ∀ V a1 c1, Below w.heap.size w V → SL V a1 QB → Calls Tryd.prog 7 #[.slice a1 QB.length c1, .slice aB B.length cB] V fun e V' => e = .returned (.bool true) ∧ Below V.heap.size V V') (s2 : ∀ V a1 c1, Below w.heap.size w V → SL V a1 QC → Calls Tryd.prog 7 #[.slice a1 QC.length c1, .slice aC C.length cC] V fun e V' => e = .returned (.bool true) ∧ Below V.heap.size V V') :
    Calls Tryd.prog 3 #[.slice aE zn cE, .int .i64 (lo : Int), .int .i64 (hi : Int), .slice aA A.length cA, .slice aB B.length cB, .slice aC C.length cC] w fun e w' => e = .returned (.bool true) ∧ Below w.heap.size w w' := by
  have B0 : Hid (∀ V, Below w.heap.size w V → Calls Tryd.prog 4 #[.slice aE zn cE, .int .i64 0, .int .i64 (zn : Int)] V fun e V' => (∃ a' c', e = .returned (.tuple #[.slice a' Q0.length c', .int .i64 0]) ∧ SL V' a' Q0) ∧ Below V.heap.size V V') := b0
  have G5 : Hid (∀ V a c, Below w.heap.size w V → SL V a Q0 → Calls Tryd.prog 5 #[.int .i64 (zn : Int), .slice a Q0.length c] V fun e V' => e = .returned (.tuple #[.string D, .int .i64 0]) ∧ Below V.heap.size V V') := g5
  have BA : Hid (∀ V, Below w.heap.size w V → Calls Tryd.prog 4 #[.slice aE zn cE, .int .i64 0, .int .i64 (lo : Int)] V fun e V' => (∃ a' c', e = .returned (.tuple #[.slice a' QA.length c', .int .i64 0]) ∧ SL V' a' QA) ∧ Below V.heap.size V V') := ba
  have BBB : Hid (∀ V, Below w.heap.size w V → Calls Tryd.prog 4 #[.slice aE zn cE, .int .i64 (lo : Int), .int .i64 (hi : Int)] V fun e V' => (∃ a' c', e = .returned (.tuple #[.slice a' QB.length c', .int .i64 0]) ∧ SL V' a' QB) ∧ Below V.heap.size V V') := bb
  have BC : Hid (∀ V, Below w.heap.size w V → Calls Tryd.prog 4 #[.slice aE zn cE, .int .i64 (hi : Int), .int .i64 (zn : Int)] V fun e V' => (∃ a' c', e = .returned (.tuple #[.slice a' QC.length c', .int .i64 0]) ∧ SL V' a' QC) ∧ Below V.heap.size V V') := bc
  have G1 : Hid (∀ V a1 c1 a2 c2 a3 c3, Below w.heap.size w V → SL V a1 QA → SL V a2 QB → SL V a3 QC → Calls Tryd.prog 6 #[.string D, .int .i64 (zn : Int), .int .i64 (lo : Int), .int .i64 (hi : Int), .slice a1 QA.length c1, .slice a2 QB.length c2, .slice a3 QC.length c3] V fun e V' => e = .returned (.bool true) ∧ Below V.heap.size V V') := m1
  have G2 : Hid (∀ V, Below w.heap.size w V → Calls Tryd.prog 6 #[.string D, .int .i64 (zn : Int), .int .i64 (lo : Int), .int .i64 (hi : Int), .slice aA A.length cA, .slice aB B.length cB, .slice aC C.length cC] V fun e V' => e = .returned (.bool true) ∧ Below V.heap.size V V') := m2
  have H0s : Hid (∀ V a1 c1, Below w.heap.size w V → SL V a1 QA → Calls Tryd.prog 7 #[.slice a1 QA.length c1, .slice aA A.length cA] V fun e V' => e = .returned (.bool true) ∧ Below V.heap.size V V') := s0
  have H1s : Hid (∀ V a1 c1, Below w.heap.size w V → SL V a1 QB → Calls Tryd.prog 7 #[.slice a1 QB.length c1, .slice aB B.length cB] V fun e V' => e = .returned (.bool true) ∧ Below V.heap.size V V') := s1
  have H2s : Hid (∀ V a1 c1, Below w.heap.size w V → SL V a1 QC → Calls Tryd.prog 7 #[.slice a1 QC.length c1, .slice aC C.length cC] V fun e V' => e = .returned (.bool true) ∧ Below V.heap.size V V') := s2
  have k1 : ¬ (lo : Int) < 0 := by omega
  have k2 : ¬ (hi : Int) < (lo : Int) := by omega
  have k3 : ¬ (zn : Int) < (hi : Int) := by omega
  clear b0 g5 ba bb bc m1 m2 h1 h2 s0 s1 s2 
  go_enter Tryd.func3, Tryd.ntmps3
  go_wp2_with (first
    | (go_at_call 4; refine (B0.out _ (Below.refl _ _)).mono ?_; rintro e w1 ⟨⟨a0, c0, rfl, hs⟩, hB⟩; have B1 : Hid (Below w.heap.size w w1) := hB; have S1 : Hid (SL w1 a0 Q0) := hs; clear hs hB B0)
    | (go_at_call 5; refine (G5.out _ _ _ B1.out S1.out).mono ?_; rintro e w2 ⟨rfl, hB⟩; have B2 : Hid (Below w.heap.size w w2) := B1.out.trans (hB.mono B1.out.size); clear hB G5)
    | (go_at_call 4; refine (BA.out _ B2.out).mono ?_; rintro e w3 ⟨⟨a1, c1, rfl, hs⟩, hB⟩; have B3 : Hid (Below w.heap.size w w3) := B2.out.trans (hB.mono B2.out.size); have L1 : Hid (SL w3 a1 QA) := hs; clear hs hB BA)
    | (go_at_call 4; refine (BBB.out _ B3.out).mono ?_; rintro e w4 ⟨⟨a2, c2, rfl, hs⟩, hB⟩; have B4 : Hid (Below w.heap.size w w4) := B3.out.trans (hB.mono B3.out.size); replace L1 : Hid (SL w4 a1 QA) := L1.out.of_below hB; have L2 : Hid (SL w4 a2 QB) := hs; clear hs hB BBB)
    | (go_at_call 4; refine (BC.out _ B4.out).mono ?_; rintro e w5 ⟨⟨a3, c3, rfl, hs⟩, hB⟩; have B5 : Hid (Below w.heap.size w w5) := B4.out.trans (hB.mono B4.out.size); replace L1 : Hid (SL w5 a1 QA) := L1.out.of_below hB; replace L2 : Hid (SL w5 a2 QB) := L2.out.of_below hB; have L3 : Hid (SL w5 a3 QC) := hs; clear hs hB BC)
    | (go_at_call 6; refine (G1.out _ _ _ _ _ _ _ B5.out L1.out L2.out L3.out).mono ?_; rintro e w6 ⟨rfl, hB⟩; have B6 : Hid (Below w.heap.size w w6) := B5.out.trans (hB.mono B5.out.size); replace L1 : Hid (SL w6 a1 QA) := L1.out.of_below hB; replace L2 : Hid (SL w6 a2 QB) := L2.out.of_below hB; replace L3 : Hid (SL w6 a3 QC) := L3.out.of_below hB; clear hB G1)
    | (go_at_call 6; refine (G2.out _ B6.out).mono ?_; rintro e w7 ⟨rfl, hB⟩; have B7 : Hid (Below w.heap.size w w7) := B6.out.trans (hB.mono B6.out.size); replace L1 : Hid (SL w7 a1 QA) := L1.out.of_below hB; replace L2 : Hid (SL w7 a2 QB) := L2.out.of_below hB; replace L3 : Hid (SL w7 a3 QC) := L3.out.of_below hB; clear hB G2)
    | (go_at_call 7; refine (H0s.out _ _ _ B7.out L1.out).mono ?_; rintro e w8 ⟨rfl, hB⟩; have B8 : Hid (Below w.heap.size w w8) := B7.out.trans (hB.mono B7.out.size); replace L2 : Hid (SL w8 a2 QB) := L2.out.of_below hB; replace L3 : Hid (SL w8 a3 QC) := L3.out.of_below hB; clear hB H0s)
    | (go_at_call 7; refine (H1s.out _ _ _ B8.out L2.out).mono ?_; rintro e w9 ⟨rfl, hB⟩; have B9 : Hid (Below w.heap.size w w9) := B8.out.trans (hB.mono B8.out.size); replace L3 : Hid (SL w9 a3 QC) := L3.out.of_below hB; clear hB H1s)
    | (go_at_call 7; refine (H2s.out _ _ _ B9.out L3.out).mono ?_; rintro e w10 ⟨rfl, hB⟩; have B10 : Hid (Below w.heap.size w w10) := B9.out.trans (hB.mono B9.out.size); clear hB H2s))
  go_ret
  exact ⟨rfl, B10.out⟩
set_option maxHeartbeats 4000000 in
theorem binds_fx {w : World} {aE aA aB aC : Option Addr} {cE cA cB cC zn lo hi : Nat} {A B C Q0 QA QB QC : List ByteArray} {D : ByteArray} (h1 : lo ≤ hi) (h2 : hi ≤ zn)
    (b0 : ∀ V, Below w.heap.size w V → Calls Tryd.prog 4 #[.slice aE zn cE, .int .i64 0, .int .i64 (zn : Int)] V fun e V' => (∃ a' c', e = .returned (.tuple #[.slice a' Q0.length c', .int .i64 0]) ∧ SL V' a' Q0) ∧ Below V.heap.size V V') (g5 : ∀ V a c, Below w.heap.size w V → SL V a Q0 → Calls Tryd.prog 5 #[.int .i64 (zn : Int), .slice a Q0.length c] V fun e V' => e = .returned (.tuple #[.string D, .int .i64 0]) ∧ Below V.heap.size V V') (ba : ∀ V, Below w.heap.size w V → Calls Tryd.prog 4 #[.slice aE zn cE, .int .i64 0, .int .i64 (lo : Int)] V fun e V' => (∃ a' c', e = .returned (.tuple #[.slice a' QA.length c', .int .i64 0]) ∧ SL V' a' QA) ∧ Below V.heap.size V V') (bb : ∀ V, Below w.heap.size w V → Calls Tryd.prog 4 #[.slice aE zn cE, .int .i64 (lo : Int), .int .i64 (hi : Int)] V fun e V' => (∃ a' c', e = .returned (.tuple #[.slice a' QB.length c', .int .i64 0]) ∧ SL V' a' QB) ∧ Below V.heap.size V V') (bc : ∀ V, Below w.heap.size w V → Calls Tryd.prog 4 #[.slice aE zn cE, .int .i64 (hi : Int), .int .i64 (zn : Int)] V fun e V' => (∃ a' c', e = .returned (.tuple #[.slice a' QC.length c', .int .i64 0]) ∧ SL V' a' QC) ∧ Below V.heap.size V V')
    (m1 : ∀ V a1 c1 a2 c2 a3 c3, Below w.heap.size w V → SL V a1 QA → SL V a2 QB → SL V a3 QC → Calls Tryd.prog 6 #[.string D, .int .i64 (zn : Int), .int .i64 (lo : Int), .int .i64 (hi : Int), .slice a1 QA.length c1, .slice a2 QB.length c2, .slice a3 QC.length c3] V fun e V' => e = .returned (.bool true) ∧ Below V.heap.size V V') (m2 : ∀ V, Below w.heap.size w V → Calls Tryd.prog 6 #[.string D, .int .i64 (zn : Int), .int .i64 (lo : Int), .int .i64 (hi : Int), .slice aA A.length cA, .slice aB B.length cB, .slice aC C.length cC] V fun e V' => e = .returned (.bool true) ∧ Below V.heap.size V V') (s0 : ∀ V a1 c1, Below w.heap.size w V → SL V a1 QA → Calls Tryd.prog 7 #[.slice a1 QA.length c1, .slice aA A.length cA] V fun e V' => e = .returned (.bool false) ∧ Below V.heap.size V V') (c8 : ∀ V, Below w.heap.size w V → Calls Tryd.prog 8 #[.slice aE zn cE, .int .i64 (zn : Int), .int .i64 (lo : Int), .int .i64 (hi : Int), .slice aA A.length cA, .slice aB B.length cB, .slice aC C.length cC] V fun e V' => e = .returned (.bool true) ∧ Below V.heap.size V V') :
    Calls Tryd.prog 3 #[.slice aE zn cE, .int .i64 (lo : Int), .int .i64 (hi : Int), .slice aA A.length cA, .slice aB B.length cB, .slice aC C.length cC] w fun e w' => e = .returned (.bool true) ∧ Below w.heap.size w w' := by
  have B0 : Hid (∀ V, Below w.heap.size w V → Calls Tryd.prog 4 #[.slice aE zn cE, .int .i64 0, .int .i64 (zn : Int)] V fun e V' => (∃ a' c', e = .returned (.tuple #[.slice a' Q0.length c', .int .i64 0]) ∧ SL V' a' Q0) ∧ Below V.heap.size V V') := b0
  have G5 : Hid (∀ V a c, Below w.heap.size w V → SL V a Q0 → Calls Tryd.prog 5 #[.int .i64 (zn : Int), .slice a Q0.length c] V fun e V' => e = .returned (.tuple #[.string D, .int .i64 0]) ∧ Below V.heap.size V V') := g5
  have BA : Hid (∀ V, Below w.heap.size w V → Calls Tryd.prog 4 #[.slice aE zn cE, .int .i64 0, .int .i64 (lo : Int)] V fun e V' => (∃ a' c', e = .returned (.tuple #[.slice a' QA.length c', .int .i64 0]) ∧ SL V' a' QA) ∧ Below V.heap.size V V') := ba
  have BBB : Hid (∀ V, Below w.heap.size w V → Calls Tryd.prog 4 #[.slice aE zn cE, .int .i64 (lo : Int), .int .i64 (hi : Int)] V fun e V' => (∃ a' c', e = .returned (.tuple #[.slice a' QB.length c', .int .i64 0]) ∧ SL V' a' QB) ∧ Below V.heap.size V V') := bb
  have BC : Hid (∀ V, Below w.heap.size w V → Calls Tryd.prog 4 #[.slice aE zn cE, .int .i64 (hi : Int), .int .i64 (zn : Int)] V fun e V' => (∃ a' c', e = .returned (.tuple #[.slice a' QC.length c', .int .i64 0]) ∧ SL V' a' QC) ∧ Below V.heap.size V V') := bc
  have G1 : Hid (∀ V a1 c1 a2 c2 a3 c3, Below w.heap.size w V → SL V a1 QA → SL V a2 QB → SL V a3 QC → Calls Tryd.prog 6 #[.string D, .int .i64 (zn : Int), .int .i64 (lo : Int), .int .i64 (hi : Int), .slice a1 QA.length c1, .slice a2 QB.length c2, .slice a3 QC.length c3] V fun e V' => e = .returned (.bool true) ∧ Below V.heap.size V V') := m1
  have G2 : Hid (∀ V, Below w.heap.size w V → Calls Tryd.prog 6 #[.string D, .int .i64 (zn : Int), .int .i64 (lo : Int), .int .i64 (hi : Int), .slice aA A.length cA, .slice aB B.length cB, .slice aC C.length cC] V fun e V' => e = .returned (.bool true) ∧ Below V.heap.size V V') := m2
  have H0s : Hid (∀ V a1 c1, Below w.heap.size w V → SL V a1 QA → Calls Tryd.prog 7 #[.slice a1 QA.length c1, .slice aA A.length cA] V fun e V' => e = .returned (.bool false) ∧ Below V.heap.size V V') := s0
  have H8 : Hid (∀ V, Below w.heap.size w V → Calls Tryd.prog 8 #[.slice aE zn cE, .int .i64 (zn : Int), .int .i64 (lo : Int), .int .i64 (hi : Int), .slice aA A.length cA, .slice aB B.length cB, .slice aC C.length cC] V fun e V' => e = .returned (.bool true) ∧ Below V.heap.size V V') := c8
  have k1 : ¬ (lo : Int) < 0 := by omega
  have k2 : ¬ (hi : Int) < (lo : Int) := by omega
  have k3 : ¬ (zn : Int) < (hi : Int) := by omega
  clear b0 g5 ba bb bc m1 m2 h1 h2 s0 c8
  go_enter Tryd.func3, Tryd.ntmps3
  go_wp2_with (first
    | (go_at_call 4; refine (B0.out _ (Below.refl _ _)).mono ?_; rintro e w1 ⟨⟨a0, c0, rfl, hs⟩, hB⟩; have B1 : Hid (Below w.heap.size w w1) := hB; have S1 : Hid (SL w1 a0 Q0) := hs; clear hs hB B0)
    | (go_at_call 5; refine (G5.out _ _ _ B1.out S1.out).mono ?_; rintro e w2 ⟨rfl, hB⟩; have B2 : Hid (Below w.heap.size w w2) := B1.out.trans (hB.mono B1.out.size); clear hB G5)
    | (go_at_call 4; refine (BA.out _ B2.out).mono ?_; rintro e w3 ⟨⟨a1, c1, rfl, hs⟩, hB⟩; have B3 : Hid (Below w.heap.size w w3) := B2.out.trans (hB.mono B2.out.size); have L1 : Hid (SL w3 a1 QA) := hs; clear hs hB BA)
    | (go_at_call 4; refine (BBB.out _ B3.out).mono ?_; rintro e w4 ⟨⟨a2, c2, rfl, hs⟩, hB⟩; have B4 : Hid (Below w.heap.size w w4) := B3.out.trans (hB.mono B3.out.size); replace L1 : Hid (SL w4 a1 QA) := L1.out.of_below hB; have L2 : Hid (SL w4 a2 QB) := hs; clear hs hB BBB)
    | (go_at_call 4; refine (BC.out _ B4.out).mono ?_; rintro e w5 ⟨⟨a3, c3, rfl, hs⟩, hB⟩; have B5 : Hid (Below w.heap.size w w5) := B4.out.trans (hB.mono B4.out.size); replace L1 : Hid (SL w5 a1 QA) := L1.out.of_below hB; replace L2 : Hid (SL w5 a2 QB) := L2.out.of_below hB; have L3 : Hid (SL w5 a3 QC) := hs; clear hs hB BC)
    | (go_at_call 6; refine (G1.out _ _ _ _ _ _ _ B5.out L1.out L2.out L3.out).mono ?_; rintro e w6 ⟨rfl, hB⟩; have B6 : Hid (Below w.heap.size w w6) := B5.out.trans (hB.mono B5.out.size); replace L1 : Hid (SL w6 a1 QA) := L1.out.of_below hB; replace L2 : Hid (SL w6 a2 QB) := L2.out.of_below hB; replace L3 : Hid (SL w6 a3 QC) := L3.out.of_below hB; clear hB G1)
    | (go_at_call 6; refine (G2.out _ B6.out).mono ?_; rintro e w7 ⟨rfl, hB⟩; have B7 : Hid (Below w.heap.size w w7) := B6.out.trans (hB.mono B6.out.size); replace L1 : Hid (SL w7 a1 QA) := L1.out.of_below hB; replace L2 : Hid (SL w7 a2 QB) := L2.out.of_below hB; replace L3 : Hid (SL w7 a3 QC) := L3.out.of_below hB; clear hB G2)
    | (go_at_call 7; refine (H0s.out _ _ _ B7.out L1.out).mono ?_; rintro e w8 ⟨rfl, hB⟩; have B8 : Hid (Below w.heap.size w w8) := B7.out.trans (hB.mono B7.out.size); replace L2 : Hid (SL w8 a2 QB) := L2.out.of_below hB; replace L3 : Hid (SL w8 a3 QC) := L3.out.of_below hB; clear hB H0s)
    | (go_at_call 8; refine (H8.out _ B8.out).mono ?_; rintro e w9 ⟨rfl, hB⟩; have B9 : Hid (Below w.heap.size w w9) := B8.out.trans (hB.mono B8.out.size); clear hB H8))
  go_ret
  exact ⟨rfl, B9.out⟩
set_option maxHeartbeats 4000000 in
theorem binds_tfx {w : World} {aE aA aB aC : Option Addr} {cE cA cB cC zn lo hi : Nat} {A B C Q0 QA QB QC : List ByteArray} {D : ByteArray} (h1 : lo ≤ hi) (h2 : hi ≤ zn)
    (b0 : ∀ V, Below w.heap.size w V → Calls Tryd.prog 4 #[.slice aE zn cE, .int .i64 0, .int .i64 (zn : Int)] V fun e V' => (∃ a' c', e = .returned (.tuple #[.slice a' Q0.length c', .int .i64 0]) ∧ SL V' a' Q0) ∧ Below V.heap.size V V') (g5 : ∀ V a c, Below w.heap.size w V → SL V a Q0 → Calls Tryd.prog 5 #[.int .i64 (zn : Int), .slice a Q0.length c] V fun e V' => e = .returned (.tuple #[.string D, .int .i64 0]) ∧ Below V.heap.size V V') (ba : ∀ V, Below w.heap.size w V → Calls Tryd.prog 4 #[.slice aE zn cE, .int .i64 0, .int .i64 (lo : Int)] V fun e V' => (∃ a' c', e = .returned (.tuple #[.slice a' QA.length c', .int .i64 0]) ∧ SL V' a' QA) ∧ Below V.heap.size V V') (bb : ∀ V, Below w.heap.size w V → Calls Tryd.prog 4 #[.slice aE zn cE, .int .i64 (lo : Int), .int .i64 (hi : Int)] V fun e V' => (∃ a' c', e = .returned (.tuple #[.slice a' QB.length c', .int .i64 0]) ∧ SL V' a' QB) ∧ Below V.heap.size V V') (bc : ∀ V, Below w.heap.size w V → Calls Tryd.prog 4 #[.slice aE zn cE, .int .i64 (hi : Int), .int .i64 (zn : Int)] V fun e V' => (∃ a' c', e = .returned (.tuple #[.slice a' QC.length c', .int .i64 0]) ∧ SL V' a' QC) ∧ Below V.heap.size V V')
    (m1 : ∀ V a1 c1 a2 c2 a3 c3, Below w.heap.size w V → SL V a1 QA → SL V a2 QB → SL V a3 QC → Calls Tryd.prog 6 #[.string D, .int .i64 (zn : Int), .int .i64 (lo : Int), .int .i64 (hi : Int), .slice a1 QA.length c1, .slice a2 QB.length c2, .slice a3 QC.length c3] V fun e V' => e = .returned (.bool true) ∧ Below V.heap.size V V') (m2 : ∀ V, Below w.heap.size w V → Calls Tryd.prog 6 #[.string D, .int .i64 (zn : Int), .int .i64 (lo : Int), .int .i64 (hi : Int), .slice aA A.length cA, .slice aB B.length cB, .slice aC C.length cC] V fun e V' => e = .returned (.bool true) ∧ Below V.heap.size V V') (s0 : ∀ V a1 c1, Below w.heap.size w V → SL V a1 QA → Calls Tryd.prog 7 #[.slice a1 QA.length c1, .slice aA A.length cA] V fun e V' => e = .returned (.bool true) ∧ Below V.heap.size V V') (s1 : ∀ V a1 c1, Below w.heap.size w V → SL V a1 QB → Calls Tryd.prog 7 #[.slice a1 QB.length c1, .slice aB B.length cB] V fun e V' => e = .returned (.bool false) ∧ Below V.heap.size V V') (c8 : ∀ V, Below w.heap.size w V → Calls Tryd.prog 8 #[.slice aE zn cE, .int .i64 (zn : Int), .int .i64 (lo : Int), .int .i64 (hi : Int), .slice aA A.length cA, .slice aB B.length cB, .slice aC C.length cC] V fun e V' => e = .returned (.bool true) ∧ Below V.heap.size V V') :
    Calls Tryd.prog 3 #[.slice aE zn cE, .int .i64 (lo : Int), .int .i64 (hi : Int), .slice aA A.length cA, .slice aB B.length cB, .slice aC C.length cC] w fun e w' => e = .returned (.bool true) ∧ Below w.heap.size w w' := by
  have B0 : Hid (∀ V, Below w.heap.size w V → Calls Tryd.prog 4 #[.slice aE zn cE, .int .i64 0, .int .i64 (zn : Int)] V fun e V' => (∃ a' c', e = .returned (.tuple #[.slice a' Q0.length c', .int .i64 0]) ∧ SL V' a' Q0) ∧ Below V.heap.size V V') := b0
  have G5 : Hid (∀ V a c, Below w.heap.size w V → SL V a Q0 → Calls Tryd.prog 5 #[.int .i64 (zn : Int), .slice a Q0.length c] V fun e V' => e = .returned (.tuple #[.string D, .int .i64 0]) ∧ Below V.heap.size V V') := g5
  have BA : Hid (∀ V, Below w.heap.size w V → Calls Tryd.prog 4 #[.slice aE zn cE, .int .i64 0, .int .i64 (lo : Int)] V fun e V' => (∃ a' c', e = .returned (.tuple #[.slice a' QA.length c', .int .i64 0]) ∧ SL V' a' QA) ∧ Below V.heap.size V V') := ba
  have BBB : Hid (∀ V, Below w.heap.size w V → Calls Tryd.prog 4 #[.slice aE zn cE, .int .i64 (lo : Int), .int .i64 (hi : Int)] V fun e V' => (∃ a' c', e = .returned (.tuple #[.slice a' QB.length c', .int .i64 0]) ∧ SL V' a' QB) ∧ Below V.heap.size V V') := bb
  have BC : Hid (∀ V, Below w.heap.size w V → Calls Tryd.prog 4 #[.slice aE zn cE, .int .i64 (hi : Int), .int .i64 (zn : Int)] V fun e V' => (∃ a' c', e = .returned (.tuple #[.slice a' QC.length c', .int .i64 0]) ∧ SL V' a' QC) ∧ Below V.heap.size V V') := bc
  have G1 : Hid (∀ V a1 c1 a2 c2 a3 c3, Below w.heap.size w V → SL V a1 QA → SL V a2 QB → SL V a3 QC → Calls Tryd.prog 6 #[.string D, .int .i64 (zn : Int), .int .i64 (lo : Int), .int .i64 (hi : Int), .slice a1 QA.length c1, .slice a2 QB.length c2, .slice a3 QC.length c3] V fun e V' => e = .returned (.bool true) ∧ Below V.heap.size V V') := m1
  have G2 : Hid (∀ V, Below w.heap.size w V → Calls Tryd.prog 6 #[.string D, .int .i64 (zn : Int), .int .i64 (lo : Int), .int .i64 (hi : Int), .slice aA A.length cA, .slice aB B.length cB, .slice aC C.length cC] V fun e V' => e = .returned (.bool true) ∧ Below V.heap.size V V') := m2
  have H0s : Hid (∀ V a1 c1, Below w.heap.size w V → SL V a1 QA → Calls Tryd.prog 7 #[.slice a1 QA.length c1, .slice aA A.length cA] V fun e V' => e = .returned (.bool true) ∧ Below V.heap.size V V') := s0
  have H1s : Hid (∀ V a1 c1, Below w.heap.size w V → SL V a1 QB → Calls Tryd.prog 7 #[.slice a1 QB.length c1, .slice aB B.length cB] V fun e V' => e = .returned (.bool false) ∧ Below V.heap.size V V') := s1
  have H8 : Hid (∀ V, Below w.heap.size w V → Calls Tryd.prog 8 #[.slice aE zn cE, .int .i64 (zn : Int), .int .i64 (lo : Int), .int .i64 (hi : Int), .slice aA A.length cA, .slice aB B.length cB, .slice aC C.length cC] V fun e V' => e = .returned (.bool true) ∧ Below V.heap.size V V') := c8
  have k1 : ¬ (lo : Int) < 0 := by omega
  have k2 : ¬ (hi : Int) < (lo : Int) := by omega
  have k3 : ¬ (zn : Int) < (hi : Int) := by omega
  clear b0 g5 ba bb bc m1 m2 h1 h2 s0 s1 c8
  go_enter Tryd.func3, Tryd.ntmps3
  go_wp2_with (first
    | (go_at_call 4; refine (B0.out _ (Below.refl _ _)).mono ?_; rintro e w1 ⟨⟨a0, c0, rfl, hs⟩, hB⟩; have B1 : Hid (Below w.heap.size w w1) := hB; have S1 : Hid (SL w1 a0 Q0) := hs; clear hs hB B0)
    | (go_at_call 5; refine (G5.out _ _ _ B1.out S1.out).mono ?_; rintro e w2 ⟨rfl, hB⟩; have B2 : Hid (Below w.heap.size w w2) := B1.out.trans (hB.mono B1.out.size); clear hB G5)
    | (go_at_call 4; refine (BA.out _ B2.out).mono ?_; rintro e w3 ⟨⟨a1, c1, rfl, hs⟩, hB⟩; have B3 : Hid (Below w.heap.size w w3) := B2.out.trans (hB.mono B2.out.size); have L1 : Hid (SL w3 a1 QA) := hs; clear hs hB BA)
    | (go_at_call 4; refine (BBB.out _ B3.out).mono ?_; rintro e w4 ⟨⟨a2, c2, rfl, hs⟩, hB⟩; have B4 : Hid (Below w.heap.size w w4) := B3.out.trans (hB.mono B3.out.size); replace L1 : Hid (SL w4 a1 QA) := L1.out.of_below hB; have L2 : Hid (SL w4 a2 QB) := hs; clear hs hB BBB)
    | (go_at_call 4; refine (BC.out _ B4.out).mono ?_; rintro e w5 ⟨⟨a3, c3, rfl, hs⟩, hB⟩; have B5 : Hid (Below w.heap.size w w5) := B4.out.trans (hB.mono B4.out.size); replace L1 : Hid (SL w5 a1 QA) := L1.out.of_below hB; replace L2 : Hid (SL w5 a2 QB) := L2.out.of_below hB; have L3 : Hid (SL w5 a3 QC) := hs; clear hs hB BC)
    | (go_at_call 6; refine (G1.out _ _ _ _ _ _ _ B5.out L1.out L2.out L3.out).mono ?_; rintro e w6 ⟨rfl, hB⟩; have B6 : Hid (Below w.heap.size w w6) := B5.out.trans (hB.mono B5.out.size); replace L1 : Hid (SL w6 a1 QA) := L1.out.of_below hB; replace L2 : Hid (SL w6 a2 QB) := L2.out.of_below hB; replace L3 : Hid (SL w6 a3 QC) := L3.out.of_below hB; clear hB G1)
    | (go_at_call 6; refine (G2.out _ B6.out).mono ?_; rintro e w7 ⟨rfl, hB⟩; have B7 : Hid (Below w.heap.size w w7) := B6.out.trans (hB.mono B6.out.size); replace L1 : Hid (SL w7 a1 QA) := L1.out.of_below hB; replace L2 : Hid (SL w7 a2 QB) := L2.out.of_below hB; replace L3 : Hid (SL w7 a3 QC) := L3.out.of_below hB; clear hB G2)
    | (go_at_call 7; refine (H0s.out _ _ _ B7.out L1.out).mono ?_; rintro e w8 ⟨rfl, hB⟩; have B8 : Hid (Below w.heap.size w w8) := B7.out.trans (hB.mono B7.out.size); replace L2 : Hid (SL w8 a2 QB) := L2.out.of_below hB; replace L3 : Hid (SL w8 a3 QC) := L3.out.of_below hB; clear hB H0s)
    | (go_at_call 7; refine (H1s.out _ _ _ B8.out L2.out).mono ?_; rintro e w9 ⟨rfl, hB⟩; have B9 : Hid (Below w.heap.size w w9) := B8.out.trans (hB.mono B8.out.size); replace L3 : Hid (SL w9 a3 QC) := L3.out.of_below hB; clear hB H1s)
    | (go_at_call 8; refine (H8.out _ B9.out).mono ?_; rintro e w10 ⟨rfl, hB⟩; have B10 : Hid (Below w.heap.size w w10) := B9.out.trans (hB.mono B9.out.size); clear hB H8))
  go_ret
  exact ⟨rfl, B10.out⟩
set_option maxHeartbeats 4000000 in
theorem binds_ttfx {w : World} {aE aA aB aC : Option Addr} {cE cA cB cC zn lo hi : Nat} {A B C Q0 QA QB QC : List ByteArray} {D : ByteArray} (h1 : lo ≤ hi) (h2 : hi ≤ zn)
    (b0 : ∀ V, Below w.heap.size w V → Calls Tryd.prog 4 #[.slice aE zn cE, .int .i64 0, .int .i64 (zn : Int)] V fun e V' => (∃ a' c', e = .returned (.tuple #[.slice a' Q0.length c', .int .i64 0]) ∧ SL V' a' Q0) ∧ Below V.heap.size V V') (g5 : ∀ V a c, Below w.heap.size w V → SL V a Q0 → Calls Tryd.prog 5 #[.int .i64 (zn : Int), .slice a Q0.length c] V fun e V' => e = .returned (.tuple #[.string D, .int .i64 0]) ∧ Below V.heap.size V V') (ba : ∀ V, Below w.heap.size w V → Calls Tryd.prog 4 #[.slice aE zn cE, .int .i64 0, .int .i64 (lo : Int)] V fun e V' => (∃ a' c', e = .returned (.tuple #[.slice a' QA.length c', .int .i64 0]) ∧ SL V' a' QA) ∧ Below V.heap.size V V') (bb : ∀ V, Below w.heap.size w V → Calls Tryd.prog 4 #[.slice aE zn cE, .int .i64 (lo : Int), .int .i64 (hi : Int)] V fun e V' => (∃ a' c', e = .returned (.tuple #[.slice a' QB.length c', .int .i64 0]) ∧ SL V' a' QB) ∧ Below V.heap.size V V') (bc : ∀ V, Below w.heap.size w V → Calls Tryd.prog 4 #[.slice aE zn cE, .int .i64 (hi : Int), .int .i64 (zn : Int)] V fun e V' => (∃ a' c', e = .returned (.tuple #[.slice a' QC.length c', .int .i64 0]) ∧ SL V' a' QC) ∧ Below V.heap.size V V')
    (m1 : ∀ V a1 c1 a2 c2 a3 c3, Below w.heap.size w V → SL V a1 QA → SL V a2 QB → SL V a3 QC → Calls Tryd.prog 6 #[.string D, .int .i64 (zn : Int), .int .i64 (lo : Int), .int .i64 (hi : Int), .slice a1 QA.length c1, .slice a2 QB.length c2, .slice a3 QC.length c3] V fun e V' => e = .returned (.bool true) ∧ Below V.heap.size V V') (m2 : ∀ V, Below w.heap.size w V → Calls Tryd.prog 6 #[.string D, .int .i64 (zn : Int), .int .i64 (lo : Int), .int .i64 (hi : Int), .slice aA A.length cA, .slice aB B.length cB, .slice aC C.length cC] V fun e V' => e = .returned (.bool true) ∧ Below V.heap.size V V') (s0 : ∀ V a1 c1, Below w.heap.size w V → SL V a1 QA → Calls Tryd.prog 7 #[.slice a1 QA.length c1, .slice aA A.length cA] V fun e V' => e = .returned (.bool true) ∧ Below V.heap.size V V') (s1 : ∀ V a1 c1, Below w.heap.size w V → SL V a1 QB → Calls Tryd.prog 7 #[.slice a1 QB.length c1, .slice aB B.length cB] V fun e V' => e = .returned (.bool true) ∧ Below V.heap.size V V') (s2 : ∀ V a1 c1, Below w.heap.size w V → SL V a1 QC → Calls Tryd.prog 7 #[.slice a1 QC.length c1, .slice aC C.length cC] V fun e V' => e = .returned (.bool false) ∧ Below V.heap.size V V') (c8 : ∀ V, Below w.heap.size w V → Calls Tryd.prog 8 #[.slice aE zn cE, .int .i64 (zn : Int), .int .i64 (lo : Int), .int .i64 (hi : Int), .slice aA A.length cA, .slice aB B.length cB, .slice aC C.length cC] V fun e V' => e = .returned (.bool true) ∧ Below V.heap.size V V') :
    Calls Tryd.prog 3 #[.slice aE zn cE, .int .i64 (lo : Int), .int .i64 (hi : Int), .slice aA A.length cA, .slice aB B.length cB, .slice aC C.length cC] w fun e w' => e = .returned (.bool true) ∧ Below w.heap.size w w' := by
  have B0 : Hid (∀ V, Below w.heap.size w V → Calls Tryd.prog 4 #[.slice aE zn cE, .int .i64 0, .int .i64 (zn : Int)] V fun e V' => (∃ a' c', e = .returned (.tuple #[.slice a' Q0.length c', .int .i64 0]) ∧ SL V' a' Q0) ∧ Below V.heap.size V V') := b0
  have G5 : Hid (∀ V a c, Below w.heap.size w V → SL V a Q0 → Calls Tryd.prog 5 #[.int .i64 (zn : Int), .slice a Q0.length c] V fun e V' => e = .returned (.tuple #[.string D, .int .i64 0]) ∧ Below V.heap.size V V') := g5
  have BA : Hid (∀ V, Below w.heap.size w V → Calls Tryd.prog 4 #[.slice aE zn cE, .int .i64 0, .int .i64 (lo : Int)] V fun e V' => (∃ a' c', e = .returned (.tuple #[.slice a' QA.length c', .int .i64 0]) ∧ SL V' a' QA) ∧ Below V.heap.size V V') := ba
  have BBB : Hid (∀ V, Below w.heap.size w V → Calls Tryd.prog 4 #[.slice aE zn cE, .int .i64 (lo : Int), .int .i64 (hi : Int)] V fun e V' => (∃ a' c', e = .returned (.tuple #[.slice a' QB.length c', .int .i64 0]) ∧ SL V' a' QB) ∧ Below V.heap.size V V') := bb
  have BC : Hid (∀ V, Below w.heap.size w V → Calls Tryd.prog 4 #[.slice aE zn cE, .int .i64 (hi : Int), .int .i64 (zn : Int)] V fun e V' => (∃ a' c', e = .returned (.tuple #[.slice a' QC.length c', .int .i64 0]) ∧ SL V' a' QC) ∧ Below V.heap.size V V') := bc
  have G1 : Hid (∀ V a1 c1 a2 c2 a3 c3, Below w.heap.size w V → SL V a1 QA → SL V a2 QB → SL V a3 QC → Calls Tryd.prog 6 #[.string D, .int .i64 (zn : Int), .int .i64 (lo : Int), .int .i64 (hi : Int), .slice a1 QA.length c1, .slice a2 QB.length c2, .slice a3 QC.length c3] V fun e V' => e = .returned (.bool true) ∧ Below V.heap.size V V') := m1
  have G2 : Hid (∀ V, Below w.heap.size w V → Calls Tryd.prog 6 #[.string D, .int .i64 (zn : Int), .int .i64 (lo : Int), .int .i64 (hi : Int), .slice aA A.length cA, .slice aB B.length cB, .slice aC C.length cC] V fun e V' => e = .returned (.bool true) ∧ Below V.heap.size V V') := m2
  have H0s : Hid (∀ V a1 c1, Below w.heap.size w V → SL V a1 QA → Calls Tryd.prog 7 #[.slice a1 QA.length c1, .slice aA A.length cA] V fun e V' => e = .returned (.bool true) ∧ Below V.heap.size V V') := s0
  have H1s : Hid (∀ V a1 c1, Below w.heap.size w V → SL V a1 QB → Calls Tryd.prog 7 #[.slice a1 QB.length c1, .slice aB B.length cB] V fun e V' => e = .returned (.bool true) ∧ Below V.heap.size V V') := s1
  have H2s : Hid (∀ V a1 c1, Below w.heap.size w V → SL V a1 QC → Calls Tryd.prog 7 #[.slice a1 QC.length c1, .slice aC C.length cC] V fun e V' => e = .returned (.bool false) ∧ Below V.heap.size V V') := s2
  have H8 : Hid (∀ V, Below w.heap.size w V → Calls Tryd.prog 8 #[.slice aE zn cE, .int .i64 (zn : Int), .int .i64 (lo : Int), .int .i64 (hi : Int), .slice aA A.length cA, .slice aB B.length cB, .slice aC C.length cC] V fun e V' => e = .returned (.bool true) ∧ Below V.heap.size V V') := c8
  have k1 : ¬ (lo : Int) < 0 := by omega
  have k2 : ¬ (hi : Int) < (lo : Int) := by omega
  have k3 : ¬ (zn : Int) < (hi : Int) := by omega
  clear b0 g5 ba bb bc m1 m2 h1 h2 s0 s1 s2 c8
  go_enter Tryd.func3, Tryd.ntmps3
  go_wp2_with (first
    | (go_at_call 4; refine (B0.out _ (Below.refl _ _)).mono ?_; rintro e w1 ⟨⟨a0, c0, rfl, hs⟩, hB⟩; have B1 : Hid (Below w.heap.size w w1) := hB; have S1 : Hid (SL w1 a0 Q0) := hs; clear hs hB B0)
    | (go_at_call 5; refine (G5.out _ _ _ B1.out S1.out).mono ?_; rintro e w2 ⟨rfl, hB⟩; have B2 : Hid (Below w.heap.size w w2) := B1.out.trans (hB.mono B1.out.size); clear hB G5)
    | (go_at_call 4; refine (BA.out _ B2.out).mono ?_; rintro e w3 ⟨⟨a1, c1, rfl, hs⟩, hB⟩; have B3 : Hid (Below w.heap.size w w3) := B2.out.trans (hB.mono B2.out.size); have L1 : Hid (SL w3 a1 QA) := hs; clear hs hB BA)
    | (go_at_call 4; refine (BBB.out _ B3.out).mono ?_; rintro e w4 ⟨⟨a2, c2, rfl, hs⟩, hB⟩; have B4 : Hid (Below w.heap.size w w4) := B3.out.trans (hB.mono B3.out.size); replace L1 : Hid (SL w4 a1 QA) := L1.out.of_below hB; have L2 : Hid (SL w4 a2 QB) := hs; clear hs hB BBB)
    | (go_at_call 4; refine (BC.out _ B4.out).mono ?_; rintro e w5 ⟨⟨a3, c3, rfl, hs⟩, hB⟩; have B5 : Hid (Below w.heap.size w w5) := B4.out.trans (hB.mono B4.out.size); replace L1 : Hid (SL w5 a1 QA) := L1.out.of_below hB; replace L2 : Hid (SL w5 a2 QB) := L2.out.of_below hB; have L3 : Hid (SL w5 a3 QC) := hs; clear hs hB BC)
    | (go_at_call 6; refine (G1.out _ _ _ _ _ _ _ B5.out L1.out L2.out L3.out).mono ?_; rintro e w6 ⟨rfl, hB⟩; have B6 : Hid (Below w.heap.size w w6) := B5.out.trans (hB.mono B5.out.size); replace L1 : Hid (SL w6 a1 QA) := L1.out.of_below hB; replace L2 : Hid (SL w6 a2 QB) := L2.out.of_below hB; replace L3 : Hid (SL w6 a3 QC) := L3.out.of_below hB; clear hB G1)
    | (go_at_call 6; refine (G2.out _ B6.out).mono ?_; rintro e w7 ⟨rfl, hB⟩; have B7 : Hid (Below w.heap.size w w7) := B6.out.trans (hB.mono B6.out.size); replace L1 : Hid (SL w7 a1 QA) := L1.out.of_below hB; replace L2 : Hid (SL w7 a2 QB) := L2.out.of_below hB; replace L3 : Hid (SL w7 a3 QC) := L3.out.of_below hB; clear hB G2)
    | (go_at_call 7; refine (H0s.out _ _ _ B7.out L1.out).mono ?_; rintro e w8 ⟨rfl, hB⟩; have B8 : Hid (Below w.heap.size w w8) := B7.out.trans (hB.mono B7.out.size); replace L2 : Hid (SL w8 a2 QB) := L2.out.of_below hB; replace L3 : Hid (SL w8 a3 QC) := L3.out.of_below hB; clear hB H0s)
    | (go_at_call 7; refine (H1s.out _ _ _ B8.out L2.out).mono ?_; rintro e w9 ⟨rfl, hB⟩; have B9 : Hid (Below w.heap.size w w9) := B8.out.trans (hB.mono B8.out.size); replace L3 : Hid (SL w9 a3 QC) := L3.out.of_below hB; clear hB H1s)
    | (go_at_call 7; refine (H2s.out _ _ _ B9.out L3.out).mono ?_; rintro e w10 ⟨rfl, hB⟩; have B10 : Hid (Below w.heap.size w w10) := B9.out.trans (hB.mono B9.out.size); clear hB H2s)
    | (go_at_call 8; refine (H8.out _ B10.out).mono ?_; rintro e w11 ⟨rfl, hB⟩; have B11 : Hid (Below w.heap.size w w11) := B10.out.trans (hB.mono B10.out.size); clear hB H8))
  go_ret
  exact ⟨rfl, B11.out⟩
/-- The law, whatever comes in. -/
theorem binds_walk {w : World} (hT : F.Tabs w) (hS : F.Starts w) {aE aA aB aC : Option Addr} {cE cA cB cC zn : Nat} {E A B C : List ByteArray} (lo hi : Int) (hEl : E.length = zn) (hz : zn ≤ 1048576) (hEc : E.length ≤ cE) (hEc2 : cE ≤ 9223372036854775807) (hEs : ∀ p ∈ E, p.size ≤ 140737488355328) (sE : SL w aE E)
    (mA : A.length ≤ 9223372036854775807) (mB : B.length ≤ 9223372036854775807) (mC : C.length ≤ 9223372036854775807) (sA : SL w aA A) (sB : SL w aB B) (sC : SL w aC C) (nA : aA = none → cA = 0) (nB' : aB = none → cB = 0) (nC : aC = none → cC = 0) :
    Calls Tryd.prog 3 #[.slice aE zn cE, .int .i64 lo, .int .i64 hi, .slice aA A.length cA, .slice aB B.length cB, .slice aC C.length cC] w fun e w' => e = .returned (.bool true) ∧ Below w.heap.size w w' := by
  have TP := tagP hT hS
  have hbl : ∀ (x y : Nat), x ≤ y → y ≤ zn → (∀ V, Below w.heap.size w V → Calls Tryd.prog 4 #[.slice aE zn cE, .int .i64 (x : Int), .int .i64 (y : Int)] V fun e V' => (∃ a' c', e = .returned (.tuple #[.slice a' ((cover x y).map (blk tgF E)).length c', .int .i64 0]) ∧ SL V' a' ((cover x y).map (blk tgF E))) ∧ Below V.heap.size V V') := fun x y h1 h2 V hV => by
    have q := blocks5_yes tgF_size (TP.of hV) E (by omega) hEc hEc2 hEs (sE.of_below hV) x y h1 (by omega)
    rw [hEl] at q
    exact q
  have g5 : ∀ V a c, Below w.heap.size w V → SL V a ((cover 0 zn).map (blk tgF E)) → Calls Tryd.prog 5 #[.int .i64 (zn : Int), .slice a ((cover 0 zn).map (blk tgF E)).length c] V fun e V' => e = .returned (.tuple #[.string (tgF lHead (fourT zn :: (cover 0 zn).map (blk tgF E))), .int .i64 0]) ∧ Below V.heap.size V V' := fun V a c hV hs => head8_good (TP.of hV) zn hz (by rw [List.length_map]; exact cover_len 0 zn hz) hs (by simp) (all32_blk E _)
  by_cases hr : 0 ≤ lo ∧ lo ≤ hi ∧ hi ≤ (zn : Int)
  · obtain ⟨h1, h2, h3⟩ := hr
    obtain ⟨x, rfl⟩ := Int.eq_ofNat_of_zero_le h1
    obtain ⟨y, rfl⟩ := Int.eq_ofNat_of_zero_le (Int.le_trans h1 h2)
    have g1 : x ≤ y := by omega
    have g2 : y ≤ zn := by omega
    have g2x : x ≤ zn := by omega
    have hgo := own_good E zn x y
    have m1 : ∀ V a1 c1 a2 c2 a3 c3, Below w.heap.size w V → SL V a1 ((cover 0 x).map (blk tgF E)) → SL V a2 ((cover x y).map (blk tgF E)) → SL V a3 ((cover y zn).map (blk tgF E)) → Calls Tryd.prog 6 #[.string (tgF lHead (fourT zn :: (cover 0 zn).map (blk tgF E))), .int .i64 (zn : Int), .int .i64 (x : Int), .int .i64 (y : Int), .slice a1 ((cover 0 x).map (blk tgF E)).length c1, .slice a2 ((cover x y).map (blk tgF E)).length c2, .slice a3 ((cover y zn).map (blk tgF E)).length c3] V fun e V' => e = .returned (.bool true) ∧ Below V.heap.size V V' := fun V a1 c1 a2 c2 a3 c3 hV s1 s2 s3 => by
      have q := good10 (H := (tgF lHead (fourT zn :: (cover 0 zn).map (blk tgF E)))) hz (within12 V x y zn true (decide_eq_true (by omega))) (pyes (c := c1) (lo := 0) (hi := x) (by rw [List.length_map]; have := cover_len 0 x (by omega); omega) s1 (by omega) (by omega) hgo.1) (pyes (c := c2) (by rw [List.length_map]; have := cover_len x y (by omega); omega) s2 g1 (by omega) hgo.2.1) (pyes (c := c3) (by rw [List.length_map]; have := cover_len y zn hz; omega) s3 g2 hz hgo.2.2) (lay3_al g1 g2 hz hgo) (lay3_32 hgo) (TP.of hV)
      have e : decide ((tgF lHead (fourT zn :: (cover 0 zn).map (blk tgF E))) = hdOf zn (lay3 zn x y ((cover 0 x).map (blk tgF E)) ((cover x y).map (blk tgF E)) ((cover y zn).map (blk tgF E)))) = true := decide_eq_true (own_meets g1 g2 hz).symm
      unfold lay3 at e
      rw [e] at q
      exact q
    have z0 : ¬ (1048576 : Int) < (zn : Int) := by omega
    by_cases hg : Good zn x y A B C
    · have hA := lay3_al g1 g2 hz hg
      have h32 := lay3_32 hg
      have m2 : ∀ V, Below w.heap.size w V → Calls Tryd.prog 6 #[.string (tgF lHead (fourT zn :: (cover 0 zn).map (blk tgF E))), .int .i64 (zn : Int), .int .i64 (x : Int), .int .i64 (y : Int), .slice aA A.length cA, .slice aB B.length cB, .slice aC C.length cC] V fun e V' => e = .returned (.bool (decide ((tgF lHead (fourT zn :: (cover 0 zn).map (blk tgF E))) = hdOf zn (lay3 zn x y A B C)))) ∧ Below V.heap.size V V' := fun V hV =>
        good10 hz (within12 V x y zn true (decide_eq_true (by omega))) (pyes (lo := 0) (hi := x) mA (sA.of_below hV) (by omega) (by omega) hg.1) (pyes mB (sB.of_below hV) g1 (by omega) hg.2.1) (pyes mC (sC.of_below hV) g2 hz hg.2.2) hA h32 (TP.of hV)
      by_cases hq : (tgF lHead (fourT zn :: (cover 0 zn).map (blk tgF E))) = hdOf zn (lay3 zn x y A B C)
      · rw [decide_eq_true hq] at m2
        have s7 : ∀ (L M : List ByteArray) (am : Option Addr) (cm : Nat), L.length ≤ 9223372036854775807 → SL w am M → ∀ V a1 c1, Below w.heap.size w V → SL V a1 L → Calls Tryd.prog 7 #[.slice a1 L.length c1, .slice am M.length cm] V fun e V' => e = .returned (.bool (decide (L = M))) ∧ Below V.heap.size V V' := fun L M am cm hL hM V a1 c1 hV hs => same7 hL hs (hM.of_below hV)
        have kA : ((cover 0 x).map (blk tgF E)).length ≤ 9223372036854775807 := by rw [List.length_map]; have := cover_len 0 x (by omega); omega
        have kB : ((cover x y).map (blk tgF E)).length ≤ 9223372036854775807 := by rw [List.length_map]; have := cover_len x y (by omega); omega
        have kC : ((cover y zn).map (blk tgF E)).length ≤ 9223372036854775807 := by rw [List.length_map]; have := cover_len y zn hz; omega
        have c8 : ¬ ((cover 0 x).map (blk tgF E) = A ∧ (cover x y).map (blk tgF E) = B ∧ (cover y zn).map (blk tgF E) = C) → ∀ V, Below w.heap.size w V → Calls Tryd.prog 8 #[.slice aE zn cE, .int .i64 (zn : Int), .int .i64 (x : Int), .int .i64 (y : Int), .slice aA A.length cA, .slice aB B.length cB, .slice aC C.length cC] V fun e V' => e = .returned (.bool true) ∧ Below V.heap.size V V' := fun hne V hV => by
          have hlen := al_len hA
          have hlt : (cover 0 x).length + (cover x y).length + (cover y zn).length ≤ 1048576 := by
            have := hg.1.1
            have := hg.2.1.1
            have := hg.2.2.1
            unfold lay3 at hlen
            simp only [List.length_append, List.length_zip] at hlen
            omega
          have hzip : lay3 zn x y A B C = (cover 0 x ++ cover x y ++ cover y zn).zip (A ++ B ++ C) := by
            have := hg.1.1
            have := hg.2.1.1
            have := hg.2.2.1
            unfold lay3
            rw [List.zip_append (by simp only [List.length_append]; omega), List.zip_append (by omega)]
          refine (clash8 (l := lay3 zn x y A B C) hz hEl hEc hEc2 (sE.of_below hV) hEs (fun W => right15 W x y zn true (decide_eq_true (by omega))) (ro_cover (x := 0) (y := zn) (by omega) hz) (ro_cover (x := 0) (y := x) (by omega) (by omega)) (rs_cover g1 (by omega)) (rs_cover g2 hz) (by omega) (by omega) (by omega) hlt hg.1.1 hg.2.1.1 hg.2.2.1 (sA.of_below hV) nA (sB.of_below hV) nB' (sC.of_below hV) nC hzip hA h32).mono ?_
          rintro e V' ⟨⟨v, rfl, sm, TL, rfl, hcl, h3', h4', h5', h6'⟩, hB⟩
          refine ⟨?_, hB⟩
          cases sm with
          | true => rfl
          | false => exact absurd (binds_plain g1 g2 hz hg hcl.nc h3' h4' h5' (fun T' hT' hn hok => h6' T' hT' hn hok) hq) hne
        have sa := s7 _ A aA cA kA sA
        have sb := s7 _ B aB cB kB sB
        have sc := s7 _ C aC cC kC sC
        have b0 := hbl 0 zn (by omega) (by omega)
        have ba := hbl 0 x (by omega) g2x
        have bb := hbl x y g1 g2
        have bc := hbl y zn g2 (by omega)
        by_cases qA : (cover 0 x).map (blk tgF E) = A
        · rw [decide_eq_true qA] at sa
          by_cases qB : (cover x y).map (blk tgF E) = B
          · rw [decide_eq_true qB] at sb
            by_cases qC : (cover y zn).map (blk tgF E) = C
            · rw [decide_eq_true qC] at sc
              exact binds_ttt g1 g2 b0 g5 ba bb bc m1 m2 sa sb sc
            · rw [decide_eq_false qC] at sc
              exact binds_ttfx g1 g2 b0 g5 ba bb bc m1 m2 sa sb sc (c8 (fun h => qC h.2.2))
          · rw [decide_eq_false qB] at sb
            exact binds_tfx g1 g2 b0 g5 ba bb bc m1 m2 sa sb (c8 (fun h => qB h.2.1))
        · rw [decide_eq_false qA] at sa
          exact binds_fx g1 g2 b0 g5 ba bb bc m1 m2 sa (c8 (fun h => qA h.1))
      · rw [decide_eq_false hq] at m2
        exact binds_f g1 g2 (hbl 0 zn (by omega) (by omega)) g5 (hbl 0 x (by omega) g2x) (hbl x y g1 g2) (hbl y zn g2 (by omega)) m1 m2
    · have m2 : ∀ V, Below w.heap.size w V → Calls Tryd.prog 6 #[.string (tgF lHead (fourT zn :: (cover 0 zn).map (blk tgF E))), .int .i64 (zn : Int), .int .i64 (x : Int), .int .i64 (y : Int), .slice aA A.length cA, .slice aB B.length cB, .slice aC C.length cC] V fun e V' => e = .returned (.bool false) ∧ Below V.heap.size V V' := fun V hV => by
        have W := within12 V x y zn true (decide_eq_true (by omega))
        have sA := sA.of_below hV
        have sB := sB.of_below hV
        have sC := sC.of_below hV
        by_cases gA : A.length = (cover 0 x).length ∧ all32 A = true
        · by_cases gB : B.length = (cover x y).length ∧ all32 B = true
          · by_cases gC : C.length = (cover y zn).length ∧ all32 C = true
            · exact absurd ⟨gA, gB, gC⟩ hg
            · exact bad10_C z0 W (pyes (lo := 0) (hi := x) mA sA (by omega) (by omega) gA) (pyes mB sB g1 (by omega) gB) (pno mC sC g2 hz gC)
          · by_cases gC : C.length = (cover y zn).length ∧ all32 C = true
            · exact bad10_B z0 W (pyes (lo := 0) (hi := x) mA sA (by omega) (by omega) gA) (pno mB sB g1 (by omega) gB) (pyes mC sC g2 hz gC)
            · exact bad10_BC z0 W (pyes (lo := 0) (hi := x) mA sA (by omega) (by omega) gA) (pno mB sB g1 (by omega) gB) (pno mC sC g2 hz gC)
        · by_cases gB : B.length = (cover x y).length ∧ all32 B = true
          · by_cases gC : C.length = (cover y zn).length ∧ all32 C = true
            · exact bad10_A z0 W (pno (lo := 0) (hi := x) mA sA (by omega) (by omega) gA) (pyes mB sB g1 (by omega) gB) (pyes mC sC g2 hz gC)
            · exact bad10_AC z0 W (pno (lo := 0) (hi := x) mA sA (by omega) (by omega) gA) (pyes mB sB g1 (by omega) gB) (pno mC sC g2 hz gC)
          · by_cases gC : C.length = (cover y zn).length ∧ all32 C = true
            · exact bad10_AB z0 W (pno (lo := 0) (hi := x) mA sA (by omega) (by omega) gA) (pno mB sB g1 (by omega) gB) (pyes mC sC g2 hz gC)
            · exact bad10_ABC z0 W (pno (lo := 0) (hi := x) mA sA (by omega) (by omega) gA) (pno mB sB g1 (by omega) gB) (pno mC sC g2 hz gC)
      exact binds_f g1 g2 (hbl 0 zn (by omega) (by omega)) g5 (hbl 0 x (by omega) g2x) (hbl x y g1 g2) (hbl y zn g2 (by omega)) m1 m2
  · exact binds_out hr (hbl 0 zn (by omega) (by omega)) g5 (fun V hV => meets10_range V _ _ lo hi (fun h => hr ⟨h.1, h.2.1, h.2.2.1⟩))
set_option maxHeartbeats 1000000 in
theorem binds_big {w : World} {aE : Option Addr} {n cE : Nat} {lo hi : Int} {v3 v4 v5 : Value} (hn : 1048576 < n) : Calls Tryd.prog 3 #[.slice aE n cE, .int .i64 lo, .int .i64 hi, v3, v4, v5] w fun e w' => e = .returned (.bool true) ∧ Below w.heap.size w w' := by
  have B0 : Hid (Calls Tryd.prog 4 #[.slice aE n cE, .int .i64 0, .int .i64 (n : Int)] w fun e w' => e = .returned (.tuple #[.slice none 0 0, .int .i64 4]) ∧ Below w.heap.size w w') := blocks5_no w 0 n (Or.inr hn)
  have G5 : Hid (∀ V, Calls Tryd.prog 5 #[.int .i64 (n : Int), .slice none 0 0] V fun e w' => e = .returned (.tuple #[.string ⟨#[]⟩, .int .i64 4]) ∧ Below V.heap.size V w') := fun V => head8_range V n (Or.inr (by omega))
  have k : (1048576 : Int) < (n : Int) := by omega
  go_enter Tryd.func3, Tryd.ntmps3
  go_wp2_with (first
    | (go_at_call 4; refine (Calls.mono B0.out) ?_; rintro e w1 ⟨rfl, hB⟩; have B1 : Hid (Below w.heap.size w w1) := hB; clear hB B0)
    | (go_at_call 5; refine (G5.out _).mono ?_; rintro e w2 ⟨rfl, hB⟩; have B2 : Hid (Below w.heap.size w w2) := B1.out.trans (hB.mono B1.out.size); clear hB G5))
  go_ret
  exact ⟨rfl, B2.out⟩
end Go.Proofs.YteomefhjglnghaaDoor

