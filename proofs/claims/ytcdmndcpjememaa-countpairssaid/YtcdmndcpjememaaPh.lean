/- Ways: Paths; the document's. -/
import Derived.Test.YtcdmndcpjememaaPg
set_option linter.unusedSimpArgs false
set_option linter.unusedVariables false
set_option maxRecDepth 100000
namespace Go.Proofs.Ytcdmndcpjememaa
open Go.RowKit Go.Deep Go.PlainAid

/-- A list of lists as a square. -/
def en (L : List (List Int)) : Mt := fun i j => (L.getD i []).getD j 0
/-- Pairs with which nothing is wrong. -/
structure Fine (L : List (List Int)) : Prop where
  pos : 1 ≤ L.length
  most : L.length ≤ 12
  rows : ∀ i (h : i < L.length), (L[i]'h).length = L.length
  lo : ∀ i j, i < L.length → j < L.length → 0 ≤ en L i j
  hi : ∀ i j, i < L.length → j < L.length → en L i j ≤ 1099511627776
theorem fine_of {L : List (List Int)} (h : wpC L = 0) : Fine L := by
  unfold wpC at h
  split at h
  · rename_i h1
    split at h
    · rename_i h2
      split at h
      · rename_i h3
        have rows : ∀ i (h : i < L.length), (L[i]'h).length = L.length := fun i hi => by
          have := List.all_eq_true.1 h2 _ (List.getElem_mem hi)
          simpa using this
        have ent : ∀ i j, i < L.length → j < L.length → 0 ≤ en L i j ∧ en L i j ≤ 1099511627776 := fun i j hi hj => by
          have q := List.all_eq_true.1 h3 _ (List.getElem_mem hi)
          have hj' : j < (L[i]'hi).length := by rw [rows i hi]; exact hj
          have q2 := List.all_eq_true.1 q _ (List.getElem_mem hj')
          simpa [en, hi, hj'] using q2
        exact ⟨h1.1, h1.2, rows, fun i j hi hj => (ent i j hi hj).1, fun i j hi hj => (ent i j hi hj).2⟩
      · omega
    · omega
  · omega
theorem LL.sq {w : World} {a : Option Addr} {L : List (List Int)} (h : LL w a L) (hf : ∀ i (h : i < L.length), (L[i]'h).length = L.length) : SQ w a L.length (en L) := fun i hi => by
  obtain ⟨b, o, a', c, e, h1, h2⟩ := h i hi
  refine ⟨b, o, a', c, e, by rw [hf i hi] at h1; exact h1, ?_⟩
  have q := h2.ir
  rw [hf i hi] at q
  have e2 : (fun j => (L[i]'hi).getD j 0) = en L i := by funext j; simp [en, hi]
  rw [e2] at q
  exact q
set_option maxHeartbeats 1000000 in
theorem withSquare16_bad {w : World} {a : Option Addr} {n c : Nat} {k : Int} {v : Value} (hk : k ≠ 0) (C : Calls Try.prog 29 #[.slice a n c] w fun e w' => e = .returned (.int .i64 k) ∧ Below w.heap.size w w') :
    Calls Try.prog 16 #[.slice a n c, v] w fun e w' => e = .returned (.tuple #[.slice none 0 0, .int .i64 k]) ∧ Below w.heap.size w w' := by
  have H : Hid (Calls Try.prog 29 #[.slice a n c] w fun e w' => e = .returned (.int .i64 k) ∧ Below w.heap.size w w') := C
  have k0 : (k != 0) = true := by simpa using hk
  clear C hk
  go_enter Try.func16, Try.ntmps16
  go_wp2_with (go_at_call 29; refine (H.out).mono ?_; rintro e V1 ⟨rfl, hB⟩; have B1 : Hid (Below w.heap.size w V1) := hB; clear hB H)
  exact bodyPost_ret (v := .tuple #[.slice none 0 0, .int .i64 k]) (by simp [results, Try.results16, go_sem]) rfl ⟨rfl, B1.out⟩
set_option maxHeartbeats 1000000 in
theorem withSquare16_ok {w : World} {a : Option Addr} {n c : Nat} {R : World → Value → World → Prop} (C : Calls Try.prog 29 #[.slice a n c] w fun e w' => e = .returned (.int .i64 0) ∧ Below w.heap.size w w')
    (D : ∀ W, Below w.heap.size w W → Calls Try.prog 17 #[.slice a n c] W fun e w' => (∃ v, e = .returned v ∧ R W v w') ∧ Below W.heap.size W w') :
    Calls Try.prog 16 #[.slice a n c, .func (.func 17) #[] #[]] w fun e w' => (∃ v W, e = .returned (.tuple #[v, .int .i64 0]) ∧ Below w.heap.size w W ∧ R W v w') ∧ Below w.heap.size w w' := by
  have H : Hid (Calls Try.prog 29 #[.slice a n c] w fun e w' => e = .returned (.int .i64 0) ∧ Below w.heap.size w w') := C
  have HD : Hid (∀ W, Below w.heap.size w W → Calls Try.prog 17 #[.slice a n c] W fun e w' => (∃ v, e = .returned v ∧ R W v w') ∧ Below W.heap.size W w') := D
  clear C D
  go_enter Try.func16, Try.ntmps16
  go_wp2_with (first
    | (go_at_call 29; refine (H.out).mono ?_; rintro e V1 ⟨rfl, hB⟩; have B1 : Hid (Below w.heap.size w V1) := hB; clear hB H)
    | (go_at_call 17; refine (HD.out _ B1.out).mono ?_; rintro e V2 ⟨⟨v, rfl, hR⟩, hB⟩; have B2 : Hid (Below w.heap.size w V2) := B1.out.trans (hB.mono B1.out.size); have RR : Hid (R V1 v V2) := hR; clear hB hR HD)
    | fail)
  exact bodyPost_ret (v := .tuple #[v, .int .i64 0]) (by simp [results, Try.results16, go_sem]) rfl ⟨⟨v, V1, rfl, B1.out, RR.out⟩, B2.out⟩
/-- Paths of anything. -/
theorem paths7 {w : World} {a : Option Addr} {L : List (List Int)} {c : Nat} (hs : LL w a L) :
    Calls Try.prog 7 #[.slice a L.length c] w fun e w' => ((wpC L ≠ 0 ∧ e = .returned (.tuple #[.slice none 0 0, .int .i64 (wpC L)])) ∨ (wpC L = 0 ∧ ∃ b M, e = .returned (.tuple #[.slice (some ⟨b, 0, none⟩) L.length L.length, .int .i64 0]) ∧ Str (en L) L.length M ∧ MX w' b L.length M)) ∧ Below w.heap.size w w' := by
  have C := wrongPairs29 (c := c) hs
  by_cases hk : wpC L = 0
  · have f := fine_of hk
    rw [hk] at C
    have q := withSquare16_ok (R := fun W v w' => v = .slice (some ⟨W.heap.size, 0, none⟩) L.length L.length ∧ ∃ M, Str (en L) L.length M ∧ MX w' W.heap.size L.length M) C (fun W hW => (paths17 f.most ((hs.of_below hW).sq f.rows) f.lo).mono (by
      rintro e w' ⟨rfl, hM, hB⟩
      exact ⟨⟨_, rfl, rfl, hM⟩, hB⟩))
    have H : Hid (Calls Try.prog 16 #[.slice a L.length c, .func (.func 17) #[] #[]] w fun e w' => (∃ b M, e = .returned (.tuple #[.slice (some ⟨b, 0, none⟩) L.length L.length, .int .i64 0]) ∧ Str (en L) L.length M ∧ MX w' b L.length M) ∧ Below w.heap.size w w') := q.mono (by
      rintro e w' ⟨⟨v, W, rfl, _, rfl, M, h1, h2⟩, hB⟩
      exact ⟨⟨_, M, rfl, h1, h2⟩, hB⟩)
    have H0 : Hid (wpC L = 0) := hk
    clear q C hk
    go_enter Try.func7, Try.ntmps7
    go_wp2_with (go_at_call 16; refine (H.out).mono ?_; rintro e V1 ⟨⟨b, M, rfl, h1, h2⟩, hB⟩; have B1 : Hid (Below w.heap.size w V1) := hB; have S1 : Hid (Str (en L) L.length M) := h1; have M1 : Hid (MX V1 b L.length M) := h2; clear hB h1 h2 H)
    exact bodyPost_ret (v := .tuple #[.slice (some ⟨b, 0, none⟩) L.length L.length, .int .i64 0]) (by simp [results, Try.results7, go_sem]) rfl ⟨Or.inr ⟨H0.out, b, M, rfl, S1.out, M1.out⟩, B1.out⟩
  · have H : Hid (Calls Try.prog 16 #[.slice a L.length c, .func (.func 17) #[] #[]] w fun e w' => e = .returned (.tuple #[.slice none 0 0, .int .i64 (wpC L)]) ∧ Below w.heap.size w w') := withSquare16_bad hk C
    have H0 : Hid (wpC L ≠ 0) := hk
    clear C hk
    generalize wpC L = k at *
    go_enter Try.func7, Try.ntmps7
    go_wp2_with (go_at_call 16; refine (H.out).mono ?_; rintro e V1 ⟨rfl, hB⟩; have B1 : Hid (Below w.heap.size w V1) := hB; clear hB H)
    exact bodyPost_ret (v := .tuple #[.slice none 0 0, .int .i64 k]) (by simp [results, Try.results7, go_sem]) rfl ⟨Or.inl ⟨H0.out, rfl⟩, B1.out⟩
/-- How the document's numbers stand within a pass. -/
structure RfI (P : Mt) (n T0 i j k : Nat) (M : Mt) (ag : Bool) : Prop where
  snd : Snd P n M
  hi : ∀ a b, a < n → b < n → M a b ≤ 1099511627776
  inc : T0 ≤ tot n M
  inc2 : ag = true → T0 < tot n M
  qt : ag = false → ∀ a b c, a < n → b < n → c < n → (a < i ∨ (a = i ∧ (b < j ∨ (b = j ∧ c < k)))) → Qt P M a b c
theorem RfI.stay {P : Mt} {n T0 i j k : Nat} {M : Mt} {ag : Bool} (h : RfI P n T0 i j k M ag) (q : Qt P M i j k) : RfI P n T0 i j (k + 1) M ag := ⟨h.snd, h.hi, h.inc, h.inc2, fun e a b c ha hb hc hq => by
  by_cases e1 : a = i ∧ b = j ∧ c = k
  · obtain ⟨rfl, rfl, rfl⟩ := e1; exact q
  · exact h.qt e a b c ha hb hc (by omega)⟩
theorem RfI.put {P : Mt} {n T0 i j k : Nat} {M : Mt} {ag : Bool} (h : RfI P n T0 i j k M ag) (hp : ∀ i j, i < n → j < n → P i j ≤ 1099511627776) (hi : i < n) (hj : j < n) (hk : k < n) (ht : rfT P M i j k = true) (hx : M i j < rfS P M i j k) : RfI P n T0 i j (k + 1) (upd M i j (rfS P M i j k)) true := by
  have l := tot_upd (n := n) hi hj (h.snd.pos i j hi hj) hx
  have := h.inc
  refine ⟨h.snd.rf hi hj hk ht hx, fun a b ha hb => ?_, by omega, fun _ => by omega, fun e => by cases e⟩
  by_cases q : a = i ∧ b = j
  · obtain ⟨rfl, rfl⟩ := q
    rw [upd_at]
    have := hp k b hk hb
    have := h.hi a k ha hk
    unfold rfS
    split <;> omega
  · rw [upd_ne _ _ _ _ q]; exact h.hi a b ha hb
theorem RfI.endk {P : Mt} {n T0 i j : Nat} {M : Mt} {ag : Bool} (h : RfI P n T0 i j n M ag) : RfI P n T0 i (j + 1) 0 M ag := ⟨h.snd, h.hi, h.inc, h.inc2, fun e a b c ha hb hc hq => h.qt e a b c ha hb hc (by omega)⟩
theorem RfI.endj {P : Mt} {n T0 i : Nat} {M : Mt} {ag : Bool} (h : RfI P n T0 i n 0 M ag) : RfI P n T0 (i + 1) 0 0 M ag := ⟨h.snd, h.hi, h.inc, h.inc2, fun e a b c ha hb hc hq => h.qt e a b c ha hb hc (by omega)⟩
theorem zero_snd (P : Mt) (n : Nat) : Snd P n (fun _ _ => 0) := ⟨fun _ _ => rfl, fun _ _ _ _ => Int.le_refl _, fun i j hi hj s hs hle => by omega⟩
end Go.Proofs.Ytcdmndcpjememaa
