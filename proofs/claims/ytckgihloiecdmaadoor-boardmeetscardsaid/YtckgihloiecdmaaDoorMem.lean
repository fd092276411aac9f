/- Left, on the document's side. -/
import Derived.Test.YtckgihloiecdmaaDoorKcm
import Derived.Test.YtckgihloiecdmaaDoorMmm
set_option linter.unusedSimpArgs false
set_option linter.unusedVariables false
set_option maxRecDepth 100000
namespace Go.Proofs.YtckgihloiecdmaaDoor
open Go.RowKit Go.Deep Go.PlainAid

theorem SPL.cellsO {w : World} {a : Option Addr} {l : List (Nat × Nat)} (h : SPL w a l) : ∀ ad, a = some ad → ∀ j u, (flat l)[j]? = some u → w.cell? (ad.add j) = some u := fun ad e j u hj => by
  obtain ⟨b, o, e2, hc⟩ := h j u hj
  rw [e2] at e
  cases e
  unfold Addr.add
  by_cases h0 : j = 0
  · subst h0; simpa using hc
  · simpa [h0] using hc
theorem SL.cellsO {w : World} {a : Option Addr} {l : List ByteArray} (h : SL w a l) : ∀ ad, a = some ad → ∀ j u, (l.map Value.string)[j]? = some u → w.cell? (ad.add j) = some u := fun ad e => by
  subst e
  exact SL.cellsA h
theorem SL.none0 {w : World} {l : List ByteArray} (h : SL w none l) : l.length = 0 := by
  cases l with
  | nil => rfl
  | cons s l => obtain ⟨b, o, e, _⟩ := h 0 (by simp); cases e
theorem own_noneT {w : World} {base n c : Nat} {t : TypeId} {s : Nat} {a : Option Addr} {xs : List Value} (h : w.ownsRow base t s (.slice a n c) n xs) : a = none → c = 0 := by
  rintro rfl
  obtain ⟨_, ⟨e, _⟩ | ⟨g, cap, cur, e, _⟩⟩ := h
  · cases e; rfl
  · cases e
theorem none_own9 {w : World} {base : Nat} (hb : base ≤ w.heap.size) : (w.alloc (.cells #[] 9)).ownsRow base 9 1 (.slice (some ⟨w.heap.size, 0, none⟩) 0 0) 0 [] :=
  ⟨rfl, Or.inr ⟨w.heap.size, 0, #[], rfl, hb, IHolds.new w 9 [], Nat.le_refl _, by unfold maxLen; omega, rfl, rfl⟩⟩
theorem str_one (l : List ByteArray) : ∀ u ∈ l.map Value.string, u.oneCell' = true := fun u hu => by
  obtain ⟨s, _, rfl⟩ := List.mem_map.1 hu
  rfl
/-- The first pair put together: what stays. -/
theorem step_red {l : List P3} {z i : Nat} (hi : i + 1 < l.length) (hh : half l[i] l[i + 1] = true) (hp : ∀ j (hj : j < i), half l[j] l[j + 1] = false) (hA : Al 0 z l) (h32 : ∀ p ∈ l, p.2.size = 32) :
    joinedL (l.take i ++ join2 l[i] l[i + 1] :: l.drop (i + 2)) = joinedL l ∧ Al 0 z (l.take i ++ join2 l[i] l[i + 1] :: l.drop (i + 2)) ∧ (∀ p ∈ l.take i ++ join2 l[i] l[i + 1] :: l.drop (i + 2), p.2.size = 32) ∧ (l.take i ++ join2 l[i] l[i + 1] :: l.drop (i + 2)).length + 1 = l.length := by
  have e : l = l.take i ++ l[i] :: l[i + 1] :: l.drop (i + 2) := by
    rw [show l[i + 1] :: l.drop (i + 2) = l.drop (i + 1) from (List.drop_eq_getElem_cons hi).symm, show l[i] :: l.drop (i + 1) = l.drop i from (List.drop_eq_getElem_cons (by omega)).symm, List.take_append_drop]
  have hn : NoPair (l.take i ++ [l[i]]) := by
    rw [show l.take i ++ [l[i]] = l.take (i + 1) from (List.take_succ_eq_append_getElem (by omega)).symm]
    intro j hj
    have hj' : j < i := by rw [List.length_take] at hj; omega
    rw [List.getElem_take, List.getElem_take]
    exact hp j hj'
  refine ⟨?_, ?_, ?_, ?_⟩
  · rw [joined_red _ _ _ _ hn hh, ← e]
  · exact Al.join (by rw [← e]; exact hA) hh
  · intro p hp
    rcases List.mem_append.1 hp with hp | hp
    · exact h32 p (List.mem_of_mem_take hp)
    · rcases List.mem_cons.1 hp with rfl | hp
      · exact tgF_size _ _
      · exact h32 p (List.mem_of_mem_drop hp)
  · simp only [List.length_append, List.length_take, List.length_cons, List.length_drop]
    omega
theorem al_each {l : List P3} {z : Nat} (hA : Al 0 z l) (hz : z ≤ 1048576) : ∀ j (h : j + 1 < l.length), l[j].1.1 < l[j].1.2 ∧ l[j].1.2 ≤ 1048576 ∧ l[j + 1].1.1 < l[j + 1].1.2 ∧ l[j + 1].1.2 ≤ 1048576 := fun j h => by
  have e : l = l.take j ++ l[j] :: l[j + 1] :: l.drop (j + 2) := by
    rw [show l[j + 1] :: l.drop (j + 2) = l.drop (j + 1) from (List.drop_eq_getElem_cons h).symm, show l[j] :: l.drop (j + 1) = l.drop j from (List.drop_eq_getElem_cons (by omega)).symm, List.take_append_drop]
  obtain ⟨⟨ka, h1, _⟩, ⟨kb, h2⟩, h3, h4⟩ := Al.two (p := l.take j) (r := l.drop (j + 2)) (a := l[j]) (b := l[j + 1]) (by rw [← e]; exact hA)
  have := Nat.two_pow_pos ka
  have := Nat.two_pow_pos kb
  omega
set_option maxHeartbeats 1000000 in
theorem left25_range (w : World) (z lo hi : Int) {aA aB aC : Option Addr} {yA yB yC cA cB cC : Nat} (h : ¬ (0 ≤ lo ∧ lo ≤ hi ∧ hi ≤ z ∧ z ≤ 1048576)) :
    Calls Tryd.prog 25 #[.int .i64 z, .int .i64 lo, .int .i64 hi, .slice aA yA cA, .slice aB yB cB, .slice aC yC cC] w fun e w' => e = .returned (.tuple #[.slice none 0 0, .bool false]) ∧ Below w.heap.size w w' := by
  by_cases h0 : 0 ≤ lo ∧ lo ≤ hi ∧ hi ≤ z
  · have HR : Hid (Calls Tryd.prog 15 #[.int .i64 lo, .int .i64 hi, .int .i64 z] w fun e w' => e = .returned (.bool true) ∧ w' = w) := right15 w lo hi z true (decide_eq_true h0)
    have h1 : (1048576 : Int) < z := by omega
    clear h h0
    go_enter Tryd.func25, Tryd.ntmps25
    go_wp2_with (go_at_call 15; refine (Calls.mono HR.out) ?_; rintro e w1 ⟨rfl, rfl⟩)
    exact bodyPost_ret (v := .tuple #[.slice none 0 0, .bool false]) (by simp [results, Tryd.results25, go_sem]) rfl ⟨rfl, Below.refl _ _⟩
  · have HR : Hid (Calls Tryd.prog 15 #[.int .i64 lo, .int .i64 hi, .int .i64 z] w fun e w' => e = .returned (.bool false) ∧ w' = w) := right15 w lo hi z false (decide_eq_false h0)
    clear h h0
    go_enter Tryd.func25, Tryd.ntmps25
    go_wp2_with (go_at_call 15; refine (Calls.mono HR.out) ?_; rintro e w1 ⟨rfl, rfl⟩)
    exact bodyPost_ret (v := .tuple #[.slice none 0 0, .bool false]) (by simp [results, Tryd.results25, go_sem]) rfl ⟨rfl, Below.refl _ _⟩
/-- What Parts answers, as a row of its own. -/
def RO (x y : Int) (L : List (Nat × Nat)) : Prop := ∀ V : World, Calls Tryd.prog 16 #[.int .i64 x, .int .i64 y] V fun e w' => (∃ v, e = .returned v ∧ w'.ownsRow V.heap.size 36 2 v L.length (flat L)) ∧ Below V.heap.size V w'
/-- What Parts answers, to be read. -/
def RS (x y : Int) (L : List (Nat × Nat)) : Prop := ∀ V : World, Calls Tryd.prog 16 #[.int .i64 x, .int .i64 y] V fun e w' => (∃ a c, e = .returned (.slice a L.length c) ∧ SPL w' a L ∧ (a = none → L.length = 0 ∧ c = 0)) ∧ Below V.heap.size V w'
theorem ro_cover {x y : Nat} (h1 : x ≤ y) (h2 : y ≤ 1048576) : RO x y (cover x y) := fun V => (parts16o 1048576 x y (by omega) h1 h2 V).mono fun e w' ⟨⟨v, he, ho, _⟩, hb⟩ => ⟨⟨v, he, ho⟩, hb⟩
theorem rs_cover {x y : Nat} (h1 : x ≤ y) (h2 : y ≤ 1048576) : RS x y (cover x y) := fun V => (parts16 1048576 x y (by omega) h1 h2 V).mono fun e w' ⟨⟨a, c, he, hs, hn⟩, hb⟩ => ⟨⟨a, c, he, hs, fun q => by
  subst q
  have e0 : cov 1048576 x y = [] := by
    cases hL : cov 1048576 x y with
    | nil => rfl
    | cons p L =>
      rw [hL] at hs
      obtain ⟨b, o, e, _⟩ := hs.two 0 (by simp)
      cases e
  exact ⟨by unfold cover; rw [e0]; rfl, (hn e0).2⟩⟩, hb⟩
set_option maxHeartbeats 2000000 in
theorem left25_A {w : World} {z lo hi : Int} {aA aB aC : Option Addr} {cA cB cC : Nat} {A B C : List ByteArray} {LA LB LC : List (Nat × Nat)} (hz : ¬ (1048576 : Int) < z) (HR0 : Calls Tryd.prog 15 #[.int .i64 lo, .int .i64 hi, .int .i64 z] w fun e w' => e = .returned (.bool true) ∧ w' = w) (ra : RO 0 lo LA) (rb : RS lo hi LB) (rc : RS hi z LC) (ra2 : RS 0 lo LA) (lA : LA.length ≤ 1048576) (lB : LB.length ≤ 1048576) (lC : LC.length ≤ 1048576) (eA : (((A.length : Nat) : Int) != ((LA.length : Nat) : Int)) = true) :
    Calls Tryd.prog 25 #[.int .i64 z, .int .i64 lo, .int .i64 hi, .slice aA A.length cA, .slice aB B.length cB, .slice aC C.length cC] w fun e w' => e = .returned (.tuple #[.slice none 0 0, .bool false]) ∧ Below w.heap.size w w' := by
  have HR : Hid _ := HR0
  have HA1 : Hid (∀ V : World, Calls Tryd.prog 16 #[.int .i64 0, .int .i64 lo] V fun e w' => (∃ v, e = .returned v ∧ w'.ownsRow V.heap.size 36 2 v LA.length (flat LA)) ∧ Below V.heap.size V w') := ra
  have HB1 : Hid (∀ V : World, Calls Tryd.prog 16 #[.int .i64 lo, .int .i64 hi] V fun e w' => (∃ a c, e = .returned (.slice a LB.length c) ∧ SPL w' a LB ∧ (a = none → LB.length = 0 ∧ c = 0)) ∧ Below V.heap.size V w') := rb
  have HC1 : Hid (∀ V : World, Calls Tryd.prog 16 #[.int .i64 hi, .int .i64 z] V fun e w' => (∃ a c, e = .returned (.slice a LC.length c) ∧ SPL w' a LC ∧ (a = none → LC.length = 0 ∧ c = 0)) ∧ Below V.heap.size V w') := rc
  have HA2 : Hid (∀ V : World, Calls Tryd.prog 16 #[.int .i64 0, .int .i64 lo] V fun e w' => (∃ a c, e = .returned (.slice a LA.length c) ∧ SPL w' a LA ∧ (a = none → LA.length = 0 ∧ c = 0)) ∧ Below V.heap.size V w') := ra2
  have HB2 : Hid (∀ V : World, Calls Tryd.prog 16 #[.int .i64 lo, .int .i64 hi] V fun e w' => (∃ a c, e = .returned (.slice a LB.length c) ∧ SPL w' a LB ∧ (a = none → LB.length = 0 ∧ c = 0)) ∧ Below V.heap.size V w') := rb
  have HC2 : Hid (∀ V : World, Calls Tryd.prog 16 #[.int .i64 hi, .int .i64 z] V fun e w' => (∃ a c, e = .returned (.slice a LC.length c) ∧ SPL w' a LC ∧ (a = none → LC.length = 0 ∧ c = 0)) ∧ Below V.heap.size V w') := rc
  obtain ⟨i0, hi0, hz0, hz1, hz2⟩ := info_parts info36
  clear HR0 ra rb rc ra2
  go_enter Tryd.func25, Tryd.ntmps25
  go_wp2_with (first
    | (go_at_call 15; refine (Calls.mono HR.out) ?_; rintro e w0 ⟨rfl, rfl⟩; clear HR)
    | (go_at_call 16; refine (HA1.out _).mono ?_; rintro e w1 ⟨⟨v1, rfl, hO⟩, hB⟩; have B1 : Hid (Below w0.heap.size w0 w1) := hB; have O1 : Hid (w1.ownsRow w0.heap.size 36 2 v1 LA.length (flat LA)) := hO; clear hO hB HA1)
    | (go_at_call 16; refine (HB1.out _).mono ?_; rintro e w2 ⟨⟨a2, c2, rfl, hS, hN⟩, hB⟩; have B2 : Hid (Below w0.heap.size w0 w2) := B1.out.trans (hB.mono B1.out.size); have O2 : Hid (w2.ownsRow w0.heap.size 36 2 v1 LA.length (flat LA)) := row_keep O1.out hB; have S2 : Hid (SPL w2 a2 LB) := hS; have N2 : Hid (a2 = none → LB.length = 0 ∧ c2 = 0) := hN; clear hS hN hB HB1 O1)
    | (at_builtin; refine wpList_append_opt rfl (.tmp 34) (.tmp 37) 38 rfl w0.heap.size 36 i0 (.agg #[.int .i64 0, .int .i64 0]) 2 16 Tryd.underlying38 hi0 hz0 hz1 hz2 rfl (by decide) v1 LA.length (flat LA) rfl O2.out a2 LB.length c2 (flat LB) rfl (flat_len LB) N2.out (S2.out.cellsO) (flat_one LB) (by unfold maxLen; omega) (by omega) B2.out.size ?_; intro v3 w3 hown hgrow hn; have O3 : Hid (w3.ownsRow w0.heap.size 36 2 v3 (LA.length + LB.length) (flat LA ++ flat LB)) := hown; have B3 : Hid (Below w0.heap.size w0 w3) := B2.out.grown hgrow B2.out.size (fun k hk => (O2.out.lt k hk).1); clear hown hgrow hn O2 S2 N2)
    | (go_at_call 16; refine (HC1.out _).mono ?_; rintro e w4 ⟨⟨a4, c4, rfl, hS, hN⟩, hB⟩; have B4 : Hid (Below w0.heap.size w0 w4) := B3.out.trans (hB.mono B3.out.size); have O4 : Hid (w4.ownsRow w0.heap.size 36 2 v3 (LA.length + LB.length) (flat LA ++ flat LB)) := row_keep O3.out hB; have S4 : Hid (SPL w4 a4 LC) := hS; have N4 : Hid (a4 = none → LC.length = 0 ∧ c4 = 0) := hN; clear hS hN hB HC1 O3)
    | (at_builtin; refine wpList_append_opt rfl (.tmp 38) (.tmp 41) 38 rfl w0.heap.size 36 i0 (.agg #[.int .i64 0, .int .i64 0]) 2 16 Tryd.underlying38 hi0 hz0 hz1 hz2 rfl (by decide) v3 (LA.length + LB.length) (flat LA ++ flat LB) rfl O4.out a4 LC.length c4 (flat LC) rfl (flat_len LC) N4.out (S4.out.cellsO) (flat_one LC) (by unfold maxLen; omega) (by omega) B4.out.size ?_; intro v5 w5 hown hgrow hn; have O5 : Hid (w5.ownsRow w0.heap.size 36 2 v5 (LA.length + LB.length + LC.length) (flat LA ++ flat LB ++ flat LC)) := hown; have B5 : Hid (Below w0.heap.size w0 w5) := B4.out.grown hgrow B4.out.size (fun k hk => (O4.out.lt k hk).1); clear hown hgrow hn O4 S4 N4)
    | (go_at_call 16; refine (HA2.out _).mono ?_; rintro e w6 ⟨⟨a6, c6, rfl, _, _⟩, hB⟩; have B6 : Hid (Below w0.heap.size w0 w6) := B5.out.trans (hB.mono B5.out.size); have O6 : Hid (w6.ownsRow w0.heap.size 36 2 v5 (LA.length + LB.length + LC.length) (flat LA ++ flat LB ++ flat LC)) := row_keep O5.out hB; clear hB HA2 O5))
  exact bodyPost_ret (v := .tuple #[.slice none 0 0, .bool false]) (by simp [results, Tryd.results25, go_sem]) rfl ⟨rfl, B6.out⟩
set_option maxHeartbeats 2000000 in
theorem left25_B {w : World} {z lo hi : Int} {aA aB aC : Option Addr} {cA cB cC : Nat} {A B C : List ByteArray} {LA LB LC : List (Nat × Nat)} (hz : ¬ (1048576 : Int) < z) (HR0 : Calls Tryd.prog 15 #[.int .i64 lo, .int .i64 hi, .int .i64 z] w fun e w' => e = .returned (.bool true) ∧ w' = w) (ra : RO 0 lo LA) (rb : RS lo hi LB) (rc : RS hi z LC) (ra2 : RS 0 lo LA) (lA : LA.length ≤ 1048576) (lB : LB.length ≤ 1048576) (lC : LC.length ≤ 1048576) (eA : (((A.length : Nat) : Int) != ((LA.length : Nat) : Int)) = false) (eB : (((B.length : Nat) : Int) != ((LB.length : Nat) : Int)) = true) :
    Calls Tryd.prog 25 #[.int .i64 z, .int .i64 lo, .int .i64 hi, .slice aA A.length cA, .slice aB B.length cB, .slice aC C.length cC] w fun e w' => e = .returned (.tuple #[.slice none 0 0, .bool false]) ∧ Below w.heap.size w w' := by
  have HR : Hid _ := HR0
  have HA1 : Hid (∀ V : World, Calls Tryd.prog 16 #[.int .i64 0, .int .i64 lo] V fun e w' => (∃ v, e = .returned v ∧ w'.ownsRow V.heap.size 36 2 v LA.length (flat LA)) ∧ Below V.heap.size V w') := ra
  have HB1 : Hid (∀ V : World, Calls Tryd.prog 16 #[.int .i64 lo, .int .i64 hi] V fun e w' => (∃ a c, e = .returned (.slice a LB.length c) ∧ SPL w' a LB ∧ (a = none → LB.length = 0 ∧ c = 0)) ∧ Below V.heap.size V w') := rb
  have HC1 : Hid (∀ V : World, Calls Tryd.prog 16 #[.int .i64 hi, .int .i64 z] V fun e w' => (∃ a c, e = .returned (.slice a LC.length c) ∧ SPL w' a LC ∧ (a = none → LC.length = 0 ∧ c = 0)) ∧ Below V.heap.size V w') := rc
  have HA2 : Hid (∀ V : World, Calls Tryd.prog 16 #[.int .i64 0, .int .i64 lo] V fun e w' => (∃ a c, e = .returned (.slice a LA.length c) ∧ SPL w' a LA ∧ (a = none → LA.length = 0 ∧ c = 0)) ∧ Below V.heap.size V w') := ra2
  have HB2 : Hid (∀ V : World, Calls Tryd.prog 16 #[.int .i64 lo, .int .i64 hi] V fun e w' => (∃ a c, e = .returned (.slice a LB.length c) ∧ SPL w' a LB ∧ (a = none → LB.length = 0 ∧ c = 0)) ∧ Below V.heap.size V w') := rb
  have HC2 : Hid (∀ V : World, Calls Tryd.prog 16 #[.int .i64 hi, .int .i64 z] V fun e w' => (∃ a c, e = .returned (.slice a LC.length c) ∧ SPL w' a LC ∧ (a = none → LC.length = 0 ∧ c = 0)) ∧ Below V.heap.size V w') := rc
  obtain ⟨i0, hi0, hz0, hz1, hz2⟩ := info_parts info36
  clear HR0 ra rb rc ra2
  go_enter Tryd.func25, Tryd.ntmps25
  go_wp2_with (first
    | (go_at_call 15; refine (Calls.mono HR.out) ?_; rintro e w0 ⟨rfl, rfl⟩; clear HR)
    | (go_at_call 16; refine (HA1.out _).mono ?_; rintro e w1 ⟨⟨v1, rfl, hO⟩, hB⟩; have B1 : Hid (Below w0.heap.size w0 w1) := hB; have O1 : Hid (w1.ownsRow w0.heap.size 36 2 v1 LA.length (flat LA)) := hO; clear hO hB HA1)
    | (go_at_call 16; refine (HB1.out _).mono ?_; rintro e w2 ⟨⟨a2, c2, rfl, hS, hN⟩, hB⟩; have B2 : Hid (Below w0.heap.size w0 w2) := B1.out.trans (hB.mono B1.out.size); have O2 : Hid (w2.ownsRow w0.heap.size 36 2 v1 LA.length (flat LA)) := row_keep O1.out hB; have S2 : Hid (SPL w2 a2 LB) := hS; have N2 : Hid (a2 = none → LB.length = 0 ∧ c2 = 0) := hN; clear hS hN hB HB1 O1)
    | (at_builtin; refine wpList_append_opt rfl (.tmp 34) (.tmp 37) 38 rfl w0.heap.size 36 i0 (.agg #[.int .i64 0, .int .i64 0]) 2 16 Tryd.underlying38 hi0 hz0 hz1 hz2 rfl (by decide) v1 LA.length (flat LA) rfl O2.out a2 LB.length c2 (flat LB) rfl (flat_len LB) N2.out (S2.out.cellsO) (flat_one LB) (by unfold maxLen; omega) (by omega) B2.out.size ?_; intro v3 w3 hown hgrow hn; have O3 : Hid (w3.ownsRow w0.heap.size 36 2 v3 (LA.length + LB.length) (flat LA ++ flat LB)) := hown; have B3 : Hid (Below w0.heap.size w0 w3) := B2.out.grown hgrow B2.out.size (fun k hk => (O2.out.lt k hk).1); clear hown hgrow hn O2 S2 N2)
    | (go_at_call 16; refine (HC1.out _).mono ?_; rintro e w4 ⟨⟨a4, c4, rfl, hS, hN⟩, hB⟩; have B4 : Hid (Below w0.heap.size w0 w4) := B3.out.trans (hB.mono B3.out.size); have O4 : Hid (w4.ownsRow w0.heap.size 36 2 v3 (LA.length + LB.length) (flat LA ++ flat LB)) := row_keep O3.out hB; have S4 : Hid (SPL w4 a4 LC) := hS; have N4 : Hid (a4 = none → LC.length = 0 ∧ c4 = 0) := hN; clear hS hN hB HC1 O3)
    | (at_builtin; refine wpList_append_opt rfl (.tmp 38) (.tmp 41) 38 rfl w0.heap.size 36 i0 (.agg #[.int .i64 0, .int .i64 0]) 2 16 Tryd.underlying38 hi0 hz0 hz1 hz2 rfl (by decide) v3 (LA.length + LB.length) (flat LA ++ flat LB) rfl O4.out a4 LC.length c4 (flat LC) rfl (flat_len LC) N4.out (S4.out.cellsO) (flat_one LC) (by unfold maxLen; omega) (by omega) B4.out.size ?_; intro v5 w5 hown hgrow hn; have O5 : Hid (w5.ownsRow w0.heap.size 36 2 v5 (LA.length + LB.length + LC.length) (flat LA ++ flat LB ++ flat LC)) := hown; have B5 : Hid (Below w0.heap.size w0 w5) := B4.out.grown hgrow B4.out.size (fun k hk => (O4.out.lt k hk).1); clear hown hgrow hn O4 S4 N4)
    | (go_at_call 16; refine (HA2.out _).mono ?_; rintro e w6 ⟨⟨a6, c6, rfl, _, _⟩, hB⟩; have B6 : Hid (Below w0.heap.size w0 w6) := B5.out.trans (hB.mono B5.out.size); have O6 : Hid (w6.ownsRow w0.heap.size 36 2 v5 (LA.length + LB.length + LC.length) (flat LA ++ flat LB ++ flat LC)) := row_keep O5.out hB; clear hB HA2 O5)
    | (go_at_call 16; refine (HB2.out _).mono ?_; rintro e w7 ⟨⟨a7, c7, rfl, _, _⟩, hB⟩; have B7 : Hid (Below w0.heap.size w0 w7) := B6.out.trans (hB.mono B6.out.size); have O7 : Hid (w7.ownsRow w0.heap.size 36 2 v5 (LA.length + LB.length + LC.length) (flat LA ++ flat LB ++ flat LC)) := row_keep O6.out hB; clear hB HB2 O6))
  exact bodyPost_ret (v := .tuple #[.slice none 0 0, .bool false]) (by simp [results, Tryd.results25, go_sem]) rfl ⟨rfl, B7.out⟩
set_option maxHeartbeats 2000000 in
theorem left25_C {w : World} {z lo hi : Int} {aA aB aC : Option Addr} {cA cB cC : Nat} {A B C : List ByteArray} {LA LB LC : List (Nat × Nat)} (hz : ¬ (1048576 : Int) < z) (HR0 : Calls Tryd.prog 15 #[.int .i64 lo, .int .i64 hi, .int .i64 z] w fun e w' => e = .returned (.bool true) ∧ w' = w) (ra : RO 0 lo LA) (rb : RS lo hi LB) (rc : RS hi z LC) (ra2 : RS 0 lo LA) (lA : LA.length ≤ 1048576) (lB : LB.length ≤ 1048576) (lC : LC.length ≤ 1048576) (eA : (((A.length : Nat) : Int) != ((LA.length : Nat) : Int)) = false) (eB : (((B.length : Nat) : Int) != ((LB.length : Nat) : Int)) = false) (eC : (((C.length : Nat) : Int) != ((LC.length : Nat) : Int)) = true) :
    Calls Tryd.prog 25 #[.int .i64 z, .int .i64 lo, .int .i64 hi, .slice aA A.length cA, .slice aB B.length cB, .slice aC C.length cC] w fun e w' => e = .returned (.tuple #[.slice none 0 0, .bool false]) ∧ Below w.heap.size w w' := by
  have HR : Hid _ := HR0
  have HA1 : Hid (∀ V : World, Calls Tryd.prog 16 #[.int .i64 0, .int .i64 lo] V fun e w' => (∃ v, e = .returned v ∧ w'.ownsRow V.heap.size 36 2 v LA.length (flat LA)) ∧ Below V.heap.size V w') := ra
  have HB1 : Hid (∀ V : World, Calls Tryd.prog 16 #[.int .i64 lo, .int .i64 hi] V fun e w' => (∃ a c, e = .returned (.slice a LB.length c) ∧ SPL w' a LB ∧ (a = none → LB.length = 0 ∧ c = 0)) ∧ Below V.heap.size V w') := rb
  have HC1 : Hid (∀ V : World, Calls Tryd.prog 16 #[.int .i64 hi, .int .i64 z] V fun e w' => (∃ a c, e = .returned (.slice a LC.length c) ∧ SPL w' a LC ∧ (a = none → LC.length = 0 ∧ c = 0)) ∧ Below V.heap.size V w') := rc
  have HA2 : Hid (∀ V : World, Calls Tryd.prog 16 #[.int .i64 0, .int .i64 lo] V fun e w' => (∃ a c, e = .returned (.slice a LA.length c) ∧ SPL w' a LA ∧ (a = none → LA.length = 0 ∧ c = 0)) ∧ Below V.heap.size V w') := ra2
  have HB2 : Hid (∀ V : World, Calls Tryd.prog 16 #[.int .i64 lo, .int .i64 hi] V fun e w' => (∃ a c, e = .returned (.slice a LB.length c) ∧ SPL w' a LB ∧ (a = none → LB.length = 0 ∧ c = 0)) ∧ Below V.heap.size V w') := rb
  have HC2 : Hid (∀ V : World, Calls Tryd.prog 16 #[.int .i64 hi, .int .i64 z] V fun e w' => (∃ a c, e = .returned (.slice a LC.length c) ∧ SPL w' a LC ∧ (a = none → LC.length = 0 ∧ c = 0)) ∧ Below V.heap.size V w') := rc
  obtain ⟨i0, hi0, hz0, hz1, hz2⟩ := info_parts info36
  clear HR0 ra rb rc ra2
  go_enter Tryd.func25, Tryd.ntmps25
  go_wp2_with (first
    | (go_at_call 15; refine (Calls.mono HR.out) ?_; rintro e w0 ⟨rfl, rfl⟩; clear HR)
    | (go_at_call 16; refine (HA1.out _).mono ?_; rintro e w1 ⟨⟨v1, rfl, hO⟩, hB⟩; have B1 : Hid (Below w0.heap.size w0 w1) := hB; have O1 : Hid (w1.ownsRow w0.heap.size 36 2 v1 LA.length (flat LA)) := hO; clear hO hB HA1)
    | (go_at_call 16; refine (HB1.out _).mono ?_; rintro e w2 ⟨⟨a2, c2, rfl, hS, hN⟩, hB⟩; have B2 : Hid (Below w0.heap.size w0 w2) := B1.out.trans (hB.mono B1.out.size); have O2 : Hid (w2.ownsRow w0.heap.size 36 2 v1 LA.length (flat LA)) := row_keep O1.out hB; have S2 : Hid (SPL w2 a2 LB) := hS; have N2 : Hid (a2 = none → LB.length = 0 ∧ c2 = 0) := hN; clear hS hN hB HB1 O1)
    | (at_builtin; refine wpList_append_opt rfl (.tmp 34) (.tmp 37) 38 rfl w0.heap.size 36 i0 (.agg #[.int .i64 0, .int .i64 0]) 2 16 Tryd.underlying38 hi0 hz0 hz1 hz2 rfl (by decide) v1 LA.length (flat LA) rfl O2.out a2 LB.length c2 (flat LB) rfl (flat_len LB) N2.out (S2.out.cellsO) (flat_one LB) (by unfold maxLen; omega) (by omega) B2.out.size ?_; intro v3 w3 hown hgrow hn; have O3 : Hid (w3.ownsRow w0.heap.size 36 2 v3 (LA.length + LB.length) (flat LA ++ flat LB)) := hown; have B3 : Hid (Below w0.heap.size w0 w3) := B2.out.grown hgrow B2.out.size (fun k hk => (O2.out.lt k hk).1); clear hown hgrow hn O2 S2 N2)
    | (go_at_call 16; refine (HC1.out _).mono ?_; rintro e w4 ⟨⟨a4, c4, rfl, hS, hN⟩, hB⟩; have B4 : Hid (Below w0.heap.size w0 w4) := B3.out.trans (hB.mono B3.out.size); have O4 : Hid (w4.ownsRow w0.heap.size 36 2 v3 (LA.length + LB.length) (flat LA ++ flat LB)) := row_keep O3.out hB; have S4 : Hid (SPL w4 a4 LC) := hS; have N4 : Hid (a4 = none → LC.length = 0 ∧ c4 = 0) := hN; clear hS hN hB HC1 O3)
    | (at_builtin; refine wpList_append_opt rfl (.tmp 38) (.tmp 41) 38 rfl w0.heap.size 36 i0 (.agg #[.int .i64 0, .int .i64 0]) 2 16 Tryd.underlying38 hi0 hz0 hz1 hz2 rfl (by decide) v3 (LA.length + LB.length) (flat LA ++ flat LB) rfl O4.out a4 LC.length c4 (flat LC) rfl (flat_len LC) N4.out (S4.out.cellsO) (flat_one LC) (by unfold maxLen; omega) (by omega) B4.out.size ?_; intro v5 w5 hown hgrow hn; have O5 : Hid (w5.ownsRow w0.heap.size 36 2 v5 (LA.length + LB.length + LC.length) (flat LA ++ flat LB ++ flat LC)) := hown; have B5 : Hid (Below w0.heap.size w0 w5) := B4.out.grown hgrow B4.out.size (fun k hk => (O4.out.lt k hk).1); clear hown hgrow hn O4 S4 N4)
    | (go_at_call 16; refine (HA2.out _).mono ?_; rintro e w6 ⟨⟨a6, c6, rfl, _, _⟩, hB⟩; have B6 : Hid (Below w0.heap.size w0 w6) := B5.out.trans (hB.mono B5.out.size); have O6 : Hid (w6.ownsRow w0.heap.size 36 2 v5 (LA.length + LB.length + LC.length) (flat LA ++ flat LB ++ flat LC)) := row_keep O5.out hB; clear hB HA2 O5)
    | (go_at_call 16; refine (HB2.out _).mono ?_; rintro e w7 ⟨⟨a7, c7, rfl, _, _⟩, hB⟩; have B7 : Hid (Below w0.heap.size w0 w7) := B6.out.trans (hB.mono B6.out.size); have O7 : Hid (w7.ownsRow w0.heap.size 36 2 v5 (LA.length + LB.length + LC.length) (flat LA ++ flat LB ++ flat LC)) := row_keep O6.out hB; clear hB HB2 O6)
    | (go_at_call 16; refine (HC2.out _).mono ?_; rintro e w8 ⟨⟨a8, c8, rfl, _, _⟩, hB⟩; have B8 : Hid (Below w0.heap.size w0 w8) := B7.out.trans (hB.mono B7.out.size); have O8 : Hid (w8.ownsRow w0.heap.size 36 2 v5 (LA.length + LB.length + LC.length) (flat LA ++ flat LB ++ flat LC)) := row_keep O7.out hB; clear hB HC2 O7))
  exact bodyPost_ret (v := .tuple #[.slice none 0 0, .bool false]) (by simp [results, Tryd.results25, go_sem]) rfl ⟨rfl, B8.out⟩
theorem row_apart {w w' : World} {base e e' s s' n n' : Nat} {v v' : Value} {xs xs' : List Value} (h : w.ownsRow base e s v n xs) (h' : w.ownsRow base e' s' v' n' xs') (hne : e ≠ e') (hg : w.grownBy w' v'.ownBlock) : w'.ownsRow base e s v n xs := by
  refine row_same h (fun k hk => ?_)
  obtain ⟨_, ⟨rfl, _⟩ | ⟨g, cap, cur, rfl, _, hb, _⟩⟩ := h
  · simp [Value.ownBlock] at hk
  · have e1 : g = k := by simpa [Value.ownBlock] using hk
    subst e1
    refine hg.block g (Array.getElem?_eq_some_iff.1 hb).1 (fun q => ?_)
    obtain ⟨_, ⟨rfl, _⟩ | ⟨g', cap', cur', rfl, _, hb', _⟩⟩ := h'
    · simp [Value.ownBlock] at q
    · have e2 : g = g' := by simpa [Value.ownBlock, eq_comm] using q
      subst e2
      rw [hb] at hb'
      cases hb'
      exact hne rfl
set_option maxHeartbeats 2000000 in
theorem left25_W {w : World} {z lo hi : Int} {aA aB aC : Option Addr} {cA cB cC : Nat} {A B C : List ByteArray} {LA LB LC : List (Nat × Nat)} (hz : ¬ (1048576 : Int) < z) (HR0 : Calls Tryd.prog 15 #[.int .i64 lo, .int .i64 hi, .int .i64 z] w fun e w' => e = .returned (.bool true) ∧ w' = w) (ra : RO 0 lo LA) (rb : RS lo hi LB) (rc : RS hi z LC) (ra2 : RS 0 lo LA) (lA : LA.length ≤ 1048576) (lB : LB.length ≤ 1048576) (lC : LC.length ≤ 1048576) (lT : LA.length + LB.length + LC.length ≤ 1048576) (eA : (((A.length : Nat) : Int) != ((LA.length : Nat) : Int)) = false) (sA : SL w aA A) (nA : aA = none → cA = 0) (eB : (((B.length : Nat) : Int) != ((LB.length : Nat) : Int)) = false) (sB : SL w aB B) (nB' : aB = none → cB = 0) (eC : (((C.length : Nat) : Int) != ((LC.length : Nat) : Int)) = false) (sC : SL w aC C) (nC : aC = none → cC = 0) (h32 : (A ++ B ++ C).all (fun p => decide (p.size = 32)) = false) :
    Calls Tryd.prog 25 #[.int .i64 z, .int .i64 lo, .int .i64 hi, .slice aA A.length cA, .slice aB B.length cB, .slice aC C.length cC] w fun e w' => e = .returned (.tuple #[.slice none 0 0, .bool false]) ∧ Below w.heap.size w w' := by
  have HR : Hid _ := HR0
  have HA1 : Hid (∀ V : World, Calls Tryd.prog 16 #[.int .i64 0, .int .i64 lo] V fun e w' => (∃ v, e = .returned v ∧ w'.ownsRow V.heap.size 36 2 v LA.length (flat LA)) ∧ Below V.heap.size V w') := ra
  have HB1 : Hid (∀ V : World, Calls Tryd.prog 16 #[.int .i64 lo, .int .i64 hi] V fun e w' => (∃ a c, e = .returned (.slice a LB.length c) ∧ SPL w' a LB ∧ (a = none → LB.length = 0 ∧ c = 0)) ∧ Below V.heap.size V w') := rb
  have HC1 : Hid (∀ V : World, Calls Tryd.prog 16 #[.int .i64 hi, .int .i64 z] V fun e w' => (∃ a c, e = .returned (.slice a LC.length c) ∧ SPL w' a LC ∧ (a = none → LC.length = 0 ∧ c = 0)) ∧ Below V.heap.size V w') := rc
  have HA2 : Hid (∀ V : World, Calls Tryd.prog 16 #[.int .i64 0, .int .i64 lo] V fun e w' => (∃ a c, e = .returned (.slice a LA.length c) ∧ SPL w' a LA ∧ (a = none → LA.length = 0 ∧ c = 0)) ∧ Below V.heap.size V w') := ra2
  have HB2 : Hid (∀ V : World, Calls Tryd.prog 16 #[.int .i64 lo, .int .i64 hi] V fun e w' => (∃ a c, e = .returned (.slice a LB.length c) ∧ SPL w' a LB ∧ (a = none → LB.length = 0 ∧ c = 0)) ∧ Below V.heap.size V w') := rb
  have HC2 : Hid (∀ V : World, Calls Tryd.prog 16 #[.int .i64 hi, .int .i64 z] V fun e w' => (∃ a c, e = .returned (.slice a LC.length c) ∧ SPL w' a LC ∧ (a = none → LC.length = 0 ∧ c = 0)) ∧ Below V.heap.size V w') := rc
  obtain ⟨i0, hi0, hz0, hz1, hz2⟩ := info_parts info36
  clear HR0 ra rb rc ra2
  obtain ⟨j0, hj0, hy0, hy1, hy2⟩ := info_parts info9
  have SA : Hid (SL w aA A) := sA
  have SB : Hid (SL w aB B) := sB
  have SC : Hid (SL w aC C) := sC
  have NA : Hid (aA = none → A.length = 0 ∧ cA = 0) := fun q => ⟨by rw [q] at sA; exact sA.none0, nA q⟩
  have NB : Hid (aB = none → B.length = 0 ∧ cB = 0) := fun q => ⟨by rw [q] at sB; exact sB.none0, nB' q⟩
  have NC : Hid (aC = none → C.length = 0 ∧ cC = 0) := fun q => ⟨by rw [q] at sC; exact sC.none0, nC q⟩
  have mA : A.length ≤ 1048576 := by simp [bne] at eA; omega
  have mB : B.length ≤ 1048576 := by simp [bne] at eB; omega
  have mC : C.length ≤ 1048576 := by simp [bne] at eC; omega
  clear sA sB sC nA nB' nC
  obtain ⟨nD, hnD⟩ : ∃ nD, 0 + A.length + B.length + C.length = nD := ⟨_, rfl⟩
  have HND : Hid (0 + A.length + B.length + C.length = nD) := hnD
  have HW : Hid (∀ V a c, SL V a (A ++ B ++ C) → Calls Tryd.prog 20 #[.slice a nD c] V fun e w' => e = .returned (.bool false) ∧ Below V.heap.size V w') := fun V a c hs => by
    have q := wide20 (c := c) (by simp only [List.length_append]; simp [bne] at eA eB eC; omega) hs
    rw [h32] at q
    rw [← hnD, show 0 + A.length + B.length + C.length = (A ++ B ++ C).length by simp only [List.length_append]; omega]
    exact q
  clear hnD
  go_enter Tryd.func25, Tryd.ntmps25
  go_wp2_with (first
    | (go_at_call 15; refine (Calls.mono HR.out) ?_; rintro e w0 ⟨rfl, rfl⟩; clear HR)
    | (go_at_call 16; refine (HA1.out _).mono ?_; rintro e w1 ⟨⟨v1, rfl, hO⟩, hB⟩; have B1 : Hid (Below w0.heap.size w0 w1) := hB; have O1 : Hid (w1.ownsRow w0.heap.size 36 2 v1 LA.length (flat LA)) := hO; clear hO hB HA1)
    | (go_at_call 16; refine (HB1.out _).mono ?_; rintro e w2 ⟨⟨a2, c2, rfl, hS, hN⟩, hB⟩; have B2 : Hid (Below w0.heap.size w0 w2) := B1.out.trans (hB.mono B1.out.size); have O2 : Hid (w2.ownsRow w0.heap.size 36 2 v1 LA.length (flat LA)) := row_keep O1.out hB; have S2 : Hid (SPL w2 a2 LB) := hS; have N2 : Hid (a2 = none → LB.length = 0 ∧ c2 = 0) := hN; clear hS hN hB HB1 O1)
    | (at_builtin; refine wpList_append_opt rfl (.tmp 34) (.tmp 37) 38 rfl w0.heap.size 36 i0 (.agg #[.int .i64 0, .int .i64 0]) 2 16 Tryd.underlying38 hi0 hz0 hz1 hz2 rfl (by decide) v1 LA.length (flat LA) rfl O2.out a2 LB.length c2 (flat LB) rfl (flat_len LB) N2.out (S2.out.cellsO) (flat_one LB) (by unfold maxLen; omega) (by omega) B2.out.size ?_; intro v3 w3 hown hgrow hn; have O3 : Hid (w3.ownsRow w0.heap.size 36 2 v3 (LA.length + LB.length) (flat LA ++ flat LB)) := hown; have B3 : Hid (Below w0.heap.size w0 w3) := B2.out.grown hgrow B2.out.size (fun k hk => (O2.out.lt k hk).1); clear hown hgrow hn O2 S2 N2)
    | (go_at_call 16; refine (HC1.out _).mono ?_; rintro e w4 ⟨⟨a4, c4, rfl, hS, hN⟩, hB⟩; have B4 : Hid (Below w0.heap.size w0 w4) := B3.out.trans (hB.mono B3.out.size); have O4 : Hid (w4.ownsRow w0.heap.size 36 2 v3 (LA.length + LB.length) (flat LA ++ flat LB)) := row_keep O3.out hB; have S4 : Hid (SPL w4 a4 LC) := hS; have N4 : Hid (a4 = none → LC.length = 0 ∧ c4 = 0) := hN; clear hS hN hB HC1 O3)
    | (at_builtin; refine wpList_append_opt rfl (.tmp 38) (.tmp 41) 38 rfl w0.heap.size 36 i0 (.agg #[.int .i64 0, .int .i64 0]) 2 16 Tryd.underlying38 hi0 hz0 hz1 hz2 rfl (by decide) v3 (LA.length + LB.length) (flat LA ++ flat LB) rfl O4.out a4 LC.length c4 (flat LC) rfl (flat_len LC) N4.out (S4.out.cellsO) (flat_one LC) (by unfold maxLen; omega) (by omega) B4.out.size ?_; intro v5 w5 hown hgrow hn; have O5 : Hid (w5.ownsRow w0.heap.size 36 2 v5 (LA.length + LB.length + LC.length) (flat LA ++ flat LB ++ flat LC)) := hown; have B5 : Hid (Below w0.heap.size w0 w5) := B4.out.grown hgrow B4.out.size (fun k hk => (O4.out.lt k hk).1); clear hown hgrow hn O4 S4 N4)
    | (go_at_call 16; refine (HA2.out _).mono ?_; rintro e w6 ⟨⟨a6, c6, rfl, _, _⟩, hB⟩; have B6 : Hid (Below w0.heap.size w0 w6) := B5.out.trans (hB.mono B5.out.size); have O6 : Hid (w6.ownsRow w0.heap.size 36 2 v5 (LA.length + LB.length + LC.length) (flat LA ++ flat LB ++ flat LC)) := row_keep O5.out hB; clear hB HA2 O5)
    | (go_at_call 16; refine (HB2.out _).mono ?_; rintro e w7 ⟨⟨a7, c7, rfl, _, _⟩, hB⟩; have B7 : Hid (Below w0.heap.size w0 w7) := B6.out.trans (hB.mono B6.out.size); have O7 : Hid (w7.ownsRow w0.heap.size 36 2 v5 (LA.length + LB.length + LC.length) (flat LA ++ flat LB ++ flat LC)) := row_keep O6.out hB; clear hB HB2 O6)
    | (go_at_call 16; refine (HC2.out _).mono ?_; rintro e w8 ⟨⟨a8, c8, rfl, _, _⟩, hB⟩; have B8 : Hid (Below w0.heap.size w0 w8) := B7.out.trans (hB.mono B7.out.size); have O8 : Hid (w8.ownsRow w0.heap.size 36 2 v5 (LA.length + LB.length + LC.length) (flat LA ++ flat LB ++ flat LC)) := row_keep O7.out hB; have D0 : Hid ((w8.alloc (.cells #[] 9)).ownsRow w0.heap.size 9 1 (.slice (some ⟨w8.heap.size, 0, none⟩) 0 0) 0 []) := none_own9 B8.out.size; have B9 : Hid (Below w0.heap.size w0 (w8.alloc (.cells #[] 9))) := B8.out.trans ((nB w8 _).mono B8.out.size); have P9 : Hid ((w8.alloc (.cells #[] 9)).ownsRow w0.heap.size 36 2 v5 (LA.length + LB.length + LC.length) (flat LA ++ flat LB ++ flat LC)) := row_keep O8.out (nB w8 _); clear hB HC2 O7 O8)
    | (at_builtin; refine wpList_append_opt rfl (.tmp 67) (.tmp 68) 22 rfl w0.heap.size 9 j0 (.string ⟨#[]⟩) 1 16 Tryd.underlying22 hj0 hy0 hy1 hy2 rfl (by decide) (.slice (some ⟨w8.heap.size, 0, none⟩) 0 0) 0 [] rfl D0.out aA A.length cA (A.map Value.string) rfl (by simp) NA.out ((SA.out.of_below B9.out).cellsO) (str_one A) (by unfold maxLen; omega) (by omega) B9.out.size ?_; intro v10 w10 hown hgrow hn; have D1 : Hid (w10.ownsRow w0.heap.size 9 1 v10 (0 + A.length) ([] ++ A.map Value.string)) := hown; have B10 : Hid (Below w0.heap.size w0 w10) := B9.out.grown hgrow B9.out.size (fun k hk => (D0.out.lt k hk).1); have P10 : Hid (w10.ownsRow w0.heap.size 36 2 v5 (LA.length + LB.length + LC.length) (flat LA ++ flat LB ++ flat LC)) := row_apart P9.out D0.out (by decide) hgrow; clear P9; clear hown hgrow hn D0)
    | (at_builtin; refine wpList_append_opt rfl (.tmp 69) (.tmp 70) 22 rfl w0.heap.size 9 j0 (.string ⟨#[]⟩) 1 16 Tryd.underlying22 hj0 hy0 hy1 hy2 rfl (by decide) v10 (0 + A.length) ([] ++ A.map Value.string) rfl D1.out aB B.length cB (B.map Value.string) rfl (by simp) NB.out ((SB.out.of_below B10.out).cellsO) (str_one B) (by unfold maxLen; omega) (by omega) B10.out.size ?_; intro v11 w11 hown hgrow hn; have D2 : Hid (w11.ownsRow w0.heap.size 9 1 v11 (0 + A.length + B.length) ([] ++ A.map Value.string ++ B.map Value.string)) := hown; have B11 : Hid (Below w0.heap.size w0 w11) := B10.out.grown hgrow B10.out.size (fun k hk => (D1.out.lt k hk).1); have P11 : Hid (w11.ownsRow w0.heap.size 36 2 v5 (LA.length + LB.length + LC.length) (flat LA ++ flat LB ++ flat LC)) := row_apart P10.out D1.out (by decide) hgrow; clear P10; clear hown hgrow hn D1)
    | (at_builtin; refine wpList_append_opt rfl (.tmp 71) (.tmp 72) 22 rfl w0.heap.size 9 j0 (.string ⟨#[]⟩) 1 16 Tryd.underlying22 hj0 hy0 hy1 hy2 rfl (by decide) v11 (0 + A.length + B.length) ([] ++ A.map Value.string ++ B.map Value.string) rfl D2.out aC C.length cC (C.map Value.string) rfl (by simp) NC.out ((SC.out.of_below B11.out).cellsO) (str_one C) (by unfold maxLen; omega) (by omega) B11.out.size ?_; intro v12 w12 hown hgrow hn; have D3 : Hid (w12.ownsRow w0.heap.size 9 1 v12 (0 + A.length + B.length + C.length) ([] ++ A.map Value.string ++ B.map Value.string ++ C.map Value.string)) := hown; have B12 : Hid (Below w0.heap.size w0 w12) := B11.out.grown hgrow B11.out.size (fun k hk => (D2.out.lt k hk).1); have P12 : Hid (w12.ownsRow w0.heap.size 36 2 v5 (LA.length + LB.length + LC.length) (flat LA ++ flat LB ++ flat LC)) := row_apart P11.out D2.out (by decide) hgrow; clear P11; obtain ⟨a12, c12, rfl, s12⟩ := own_sl (w := w12) (v := v12) (base := w0.heap.size) (n := nD) (qs := A ++ B ++ C) (by rw [← HND.out]; simp only [List.length_append]; omega) (by have q := hown; rw [HND.out, List.nil_append, ← List.map_append, ← List.map_append] at q; exact q); have S12 : Hid (SL w12 a12 (A ++ B ++ C)) := s12; clear s12; clear hown hgrow hn D2)
    | (go_at_call 20; refine (HW.out _ _ _ S12.out).mono ?_; rintro e w13 ⟨rfl, hB⟩; have B13 : Hid (Below w0.heap.size w0 w13) := B12.out.trans (hB.mono B12.out.size); have S13 : Hid (SL w13 a12 (A ++ B ++ C)) := S12.out.of_below hB; have P13 : Hid (w13.ownsRow w0.heap.size 36 2 v5 (LA.length + LB.length + LC.length) (flat LA ++ flat LB ++ flat LC)) := row_keep P12.out hB; clear hB HW S12 P12))
  exact bodyPost_ret (v := .tuple #[.slice none 0 0, .bool false]) (by simp [results, Tryd.results25, go_sem]) rfl ⟨rfl, B13.out⟩
end Go.Proofs.YtckgihloiecdmaaDoor
