/- Pairs, the program's face; what is filled, the document's. -/
import Derived.Test.YtcdmndcpjememaaQh
set_option linter.unusedSimpArgs false
set_option linter.unusedVariables false
set_option maxRecDepth 100000
namespace Go.Proofs.Ytcdmndcpjememaa
open Go.RowKit Go.Deep Go.PlainAid

set_option maxHeartbeats 2000000 in
theorem withPoll12_w {w : World} {nm lt : ByteArray} {ca a : Option Addr} {n cc c : Nat} {r s m : Int} {L : List (List Int)} (hw : wc n r s = 2) :
    Calls Try.prog 12 #[CV nm ca n cc r s m, .slice a L.length c, .string lt, .func (.func 13) #[] #[]] w fun e w' => e = .returned (.tuple #[.slice none 0 0, .int .i64 2]) ∧ Below w.heap.size w w' := by
  have H : Hid (∀ W, Calls Try.prog 22 #[.agg #[.string nm, .slice ca n cc, .int .i64 r, .int .i64 s, .int .i64 m]] W fun e w' => e = .returned (.int .i64 2) ∧ Below W.heap.size W w') := fun W => by have := wrong22 nm ca n cc r s m W; rw [hw] at this; exact this
  clear hw
  generalize L.length = K at *
  unfold CV
  have B : Hid (Below w.heap.size w (w.alloc (.cells #[.string nm, .slice ca n cc, .int .i64 r, .int .i64 s, .int .i64 m] 24))) := (Below.refl _ _).alloc (Nat.le_refl _) _
  have I0 : Hid (IHolds (w.alloc (.cells #[.string nm, .slice ca n cc, .int .i64 r, .int .i64 s, .int .i64 m] 24)) w.heap.size 24 [.string nm, .slice ca n cc, .int .i64 r, .int .i64 s, .int .i64 m]) := IHolds.new w 24 _
  go_enter Try.func12, Try.ntmps12
  go_wp2_with (go_at_call 22; refine (H.out _).mono ?_)
  rintro e w1 ⟨rfl, hB⟩
  have B1 : Hid (Below w.heap.size w w1) := B.out.trans (hB.mono B.out.size)
  have I1 : Hid (IHolds w1 w.heap.size 24 [.string nm, .slice ca n cc, .int .i64 r, .int .i64 s, .int .i64 m]) := I0.out.of_below hB
  obtain ⟨k0, k1, k2, k3, k4⟩ := five I1.out
  clear hB H I0
  go_wp2_with fail
  go_ret2
  exact ⟨rfl, B1.out⟩
set_option maxHeartbeats 1000000 in
theorem pairs4_w {w : World} {nm : ByteArray} {ca a : Option Addr} {n cc c : Nat} {r s m : Int} {L : List (List Int)} (hw : wc n r s = 2) :
    Calls Try.prog 4 #[CV nm ca n cc r s m, .slice a L.length c] w fun e w' => e = .returned (.tuple #[.slice none 0 0, .int .i64 2]) ∧ Below w.heap.size w w' := by
  have H : Hid (∀ W, Below w.heap.size w W → Calls Try.prog 12 #[.agg #[.string nm, .slice ca n cc, .int .i64 r, .int .i64 s, .int .i64 m], .slice a L.length c, .string ⟨#[]⟩, .func (.func 13) #[] #[]] W fun e w' => e = .returned (.tuple #[.slice none 0 0, .int .i64 2]) ∧ Below W.heap.size W w') := fun W hW => withPoll12_w hw
  clear hw
  skip
  generalize L.length = K at *
  unfold CV
  have B : Hid (Below w.heap.size w (w.alloc (.cells #[.string nm, .slice ca n cc, .int .i64 r, .int .i64 s, .int .i64 m] 24))) := (Below.refl _ _).alloc (Nat.le_refl _) _
  go_enter Try.func4, Try.ntmps4
  go_wp2_with (go_at_call 12; refine (H.out _ B.out).mono ?_)
  rintro e w1 ⟨rfl, hB⟩
  have B1 : Hid (Below w.heap.size w w1) := B.out.trans (hB.mono B.out.size)
  clear hB H
  go_wp2_with fail
  go_ret2
  exact ⟨rfl, B1.out⟩
set_option maxHeartbeats 2000000 in
theorem withPoll12_b {w : World} {nm lt : ByteArray} {ca a : Option Addr} {n cc c : Nat} {r s m : Int} {L : List (List Int)} (hw : wc n r s = 0) {z : Int} (hz : z ≠ 0) (hb : wb n L = z) (hs : LL w a L) :
    Calls Try.prog 12 #[CV nm ca n cc r s m, .slice a L.length c, .string lt, .func (.func 13) #[] #[]] w fun e w' => e = .returned (.tuple #[.slice none 0 0, .int .i64 z]) ∧ Below w.heap.size w w' := by
  have H : Hid (∀ W, Calls Try.prog 22 #[.agg #[.string nm, .slice ca n cc, .int .i64 r, .int .i64 s, .int .i64 m]] W fun e w' => e = .returned (.int .i64 0) ∧ Below W.heap.size W w') := fun W => by have := wrong22 nm ca n cc r s m W; rw [hw] at this; exact this
  have H2 : Hid (∀ W, Below w.heap.size w W → Calls Try.prog 23 #[.agg #[.string nm, .slice ca n cc, .int .i64 r, .int .i64 s, .int .i64 m], .slice a L.length c] W fun e w' => e = .returned (.int .i64 z) ∧ Below W.heap.size W w') := fun W hW => by have := wrongBallots23 (nm := nm) (ca := ca) (n := n) (cc := cc) (r := r) (s := s) (m := m) (c := c) (hs.of_below hW); rw [hb] at this; exact this
  have z0 : (z != 0) = true := by simpa using hz
  clear hw hb hz hs
  obtain ⟨K, hK⟩ : ∃ K, K = L.length := ⟨_, rfl⟩
  rw [← hK] at H2 ⊢
  clear hK
  unfold CV
  have B : Hid (Below w.heap.size w (w.alloc (.cells #[.string nm, .slice ca n cc, .int .i64 r, .int .i64 s, .int .i64 m] 24))) := (Below.refl _ _).alloc (Nat.le_refl _) _
  have I0 : Hid (IHolds (w.alloc (.cells #[.string nm, .slice ca n cc, .int .i64 r, .int .i64 s, .int .i64 m] 24)) w.heap.size 24 [.string nm, .slice ca n cc, .int .i64 r, .int .i64 s, .int .i64 m]) := IHolds.new w 24 _
  go_enter Try.func12, Try.ntmps12
  go_wp2_with (go_at_call 22; refine (H.out _).mono ?_)
  rintro e w1 ⟨rfl, hB⟩
  have B1 : Hid (Below w.heap.size w w1) := B.out.trans (hB.mono B.out.size)
  have I1 : Hid (IHolds w1 w.heap.size 24 [.string nm, .slice ca n cc, .int .i64 r, .int .i64 s, .int .i64 m]) := I0.out.of_below hB
  obtain ⟨k0, k1, k2, k3, k4⟩ := five I1.out
  clear hB H I0
  go_wp2_with (go_at_call 23; refine (H2.out _ B1.out).mono ?_)
  rintro e w2 ⟨rfl, hB⟩
  have B2 : Hid (Below w.heap.size w w2) := B1.out.trans (hB.mono B1.out.size)
  have I2 : Hid (IHolds w2 w.heap.size 24 [.string nm, .slice ca n cc, .int .i64 r, .int .i64 s, .int .i64 m]) := I1.out.of_below hB
  clear k0 k1 k2 k3 k4
  obtain ⟨k0, k1, k2, k3, k4⟩ := five I2.out
  clear hB H2 I1
  go_wp2_with fail
  go_ret2
  exact ⟨rfl, B2.out⟩
set_option maxHeartbeats 1000000 in
theorem pairs4_b {w : World} {nm : ByteArray} {ca a : Option Addr} {n cc c : Nat} {r s m : Int} {L : List (List Int)} (hw : wc n r s = 0) {z : Int} (hz : z ≠ 0) (hb : wb n L = z) (hs : LL w a L) :
    Calls Try.prog 4 #[CV nm ca n cc r s m, .slice a L.length c] w fun e w' => e = .returned (.tuple #[.slice none 0 0, .int .i64 z]) ∧ Below w.heap.size w w' := by
  have H : Hid (∀ W, Below w.heap.size w W → Calls Try.prog 12 #[.agg #[.string nm, .slice ca n cc, .int .i64 r, .int .i64 s, .int .i64 m], .slice a L.length c, .string ⟨#[]⟩, .func (.func 13) #[] #[]] W fun e w' => e = .returned (.tuple #[.slice none 0 0, .int .i64 z]) ∧ Below W.heap.size W w') := fun W hW => withPoll12_b hw hz hb (hs.of_below hW)
  clear hw hz hb hs
  skip
  generalize L.length = K at *
  unfold CV
  have B : Hid (Below w.heap.size w (w.alloc (.cells #[.string nm, .slice ca n cc, .int .i64 r, .int .i64 s, .int .i64 m] 24))) := (Below.refl _ _).alloc (Nat.le_refl _) _
  go_enter Try.func4, Try.ntmps4
  go_wp2_with (go_at_call 12; refine (H.out _ B.out).mono ?_)
  rintro e w1 ⟨rfl, hB⟩
  have B1 : Hid (Below w.heap.size w w1) := B.out.trans (hB.mono B.out.size)
  clear hB H
  go_wp2_with fail
  go_ret2
  exact ⟨rfl, B1.out⟩
set_option maxHeartbeats 2000000 in
theorem withPoll12_ok {w : World} {nm lt : ByteArray} {ca a : Option Addr} {n cc c : Nat} {r s m : Int} {L : List (List Int)} (hw : wc n r s = 0) (hb : wb n L = 0) (hs : LL w a L) :
    Calls Try.prog 12 #[CV nm ca n cc r s m, .slice a L.length c, .string lt, .func (.func 13) #[] #[]] w fun e w' => (∃ b, e = .returned (.tuple #[.slice (some ⟨b, 0, none⟩) n n, .int .i64 0]) ∧ MX w' b n (pcM (fl L))) ∧ Below w.heap.size w w' := by
  have H : Hid (∀ W, Calls Try.prog 22 #[.agg #[.string nm, .slice ca n cc, .int .i64 r, .int .i64 s, .int .i64 m]] W fun e w' => e = .returned (.int .i64 0) ∧ Below W.heap.size W w') := fun W => by have := wrong22 nm ca n cc r s m W; rw [hw] at this; exact this
  have H2 : Hid (∀ W, Below w.heap.size w W → Calls Try.prog 23 #[.agg #[.string nm, .slice ca n cc, .int .i64 r, .int .i64 s, .int .i64 m], .slice a L.length c] W fun e w' => e = .returned (.int .i64 0) ∧ Below W.heap.size W w') := fun W hW => by have := wrongBallots23 (nm := nm) (ca := ca) (n := n) (cc := cc) (r := r) (s := s) (m := m) (c := c) (hs.of_below hW); rw [hb] at this; exact this
  have hn := (wc_fits hw).1
  have HQ : L.length ≤ 4096 ∧ ∀ i (h : i < L.length), L[i].length = n := by
    unfold wb at hb
    split at hb
    · omega
    · split at hb
      · rename_i h1 h2
        exact ⟨by omega, fun i h => by have := List.all_eq_true.1 h2 _ (List.getElem_mem h); simpa using this⟩
      · omega
  have H3 : Hid (∀ W, Below w.heap.size w W → Calls Try.prog 13 #[.agg #[.string nm, .slice ca n cc, .int .i64 r, .int .i64 s, .int .i64 m, .slice a L.length c, .string lt]] W fun e w' => (∃ b, e = .returned (.slice (some ⟨b, 0, none⟩) n n) ∧ MX w' b n (pcM (fl L))) ∧ Below W.heap.size W w') := fun W hW => pairs13 hn.2 (hs.of_below hW) HQ.2 HQ.1
  clear hw hb hs HQ hn
  generalize pcM (fl L) = M at *
  obtain ⟨K, hK⟩ : ∃ K, K = L.length := ⟨_, rfl⟩
  rw [← hK] at H2 ⊢
  rw [← hK] at H3
  clear hK
  unfold CV
  have B : Hid (Below w.heap.size w (w.alloc (.cells #[.string nm, .slice ca n cc, .int .i64 r, .int .i64 s, .int .i64 m] 24))) := (Below.refl _ _).alloc (Nat.le_refl _) _
  have I0 : Hid (IHolds (w.alloc (.cells #[.string nm, .slice ca n cc, .int .i64 r, .int .i64 s, .int .i64 m] 24)) w.heap.size 24 [.string nm, .slice ca n cc, .int .i64 r, .int .i64 s, .int .i64 m]) := IHolds.new w 24 _
  go_enter Try.func12, Try.ntmps12
  go_wp2_with (go_at_call 22; refine (H.out _).mono ?_)
  rintro e w1 ⟨rfl, hB⟩
  have B1 : Hid (Below w.heap.size w w1) := B.out.trans (hB.mono B.out.size)
  have I1 : Hid (IHolds w1 w.heap.size 24 [.string nm, .slice ca n cc, .int .i64 r, .int .i64 s, .int .i64 m]) := I0.out.of_below hB
  obtain ⟨k0, k1, k2, k3, k4⟩ := five I1.out
  clear hB H I0
  go_wp2_with (go_at_call 23; refine (H2.out _ B1.out).mono ?_)
  rintro e w2 ⟨rfl, hB⟩
  have B2 : Hid (Below w.heap.size w w2) := B1.out.trans (hB.mono B1.out.size)
  have I2 : Hid (IHolds w2 w.heap.size 24 [.string nm, .slice ca n cc, .int .i64 r, .int .i64 s, .int .i64 m]) := I1.out.of_below hB
  clear k0 k1 k2 k3 k4
  obtain ⟨k0, k1, k2, k3, k4⟩ := five I2.out
  clear hB H2 I1
  go_wp2_with (go_at_call 13; refine (H3.out _ B2.out).mono ?_)
  rintro e w3 ⟨⟨b, rfl, hm⟩, hB⟩
  have B3 : Hid (Below w.heap.size w w3) := B2.out.trans (hB.mono B2.out.size)
  have M3 : Hid (MX w3 b n M) := hm
  clear hB hm H3 I2 k0 k1 k2 k3 k4
  go_wp2_with fail
  exact bodyPost_ret (v := .tuple #[.slice (some ⟨b, 0, none⟩) n n, .int .i64 0]) (by simp [results, Try.results12, go_sem]) rfl ⟨⟨b, rfl, M3.out⟩, B3.out⟩
set_option maxHeartbeats 1000000 in
theorem pairs4_ok {w : World} {nm : ByteArray} {ca a : Option Addr} {n cc c : Nat} {r s m : Int} {L : List (List Int)} (hw : wc n r s = 0) (hb : wb n L = 0) (hs : LL w a L) :
    Calls Try.prog 4 #[CV nm ca n cc r s m, .slice a L.length c] w fun e w' => (∃ b, e = .returned (.tuple #[.slice (some ⟨b, 0, none⟩) n n, .int .i64 0]) ∧ MX w' b n (pcM (fl L))) ∧ Below w.heap.size w w' := by
  have H : Hid (∀ W, Below w.heap.size w W → Calls Try.prog 12 #[.agg #[.string nm, .slice ca n cc, .int .i64 r, .int .i64 s, .int .i64 m], .slice a L.length c, .string ⟨#[]⟩, .func (.func 13) #[] #[]] W fun e w' => (∃ b, e = .returned (.tuple #[.slice (some ⟨b, 0, none⟩) n n, .int .i64 0]) ∧ MX w' b n (pcM (fl L))) ∧ Below W.heap.size W w') := fun W hW => withPoll12_ok hw hb (hs.of_below hW)
  clear hw hb hs
  generalize pcM (fl L) = M at *
  generalize L.length = K at *
  unfold CV
  have B : Hid (Below w.heap.size w (w.alloc (.cells #[.string nm, .slice ca n cc, .int .i64 r, .int .i64 s, .int .i64 m] 24))) := (Below.refl _ _).alloc (Nat.le_refl _) _
  go_enter Try.func4, Try.ntmps4
  go_wp2_with (go_at_call 12; refine (H.out _ B.out).mono ?_)
  rintro e w1 ⟨⟨b, rfl, hm⟩, hB⟩
  have B1 : Hid (Below w.heap.size w w1) := B.out.trans (hB.mono B.out.size)
  have M1 : Hid (MX w1 b n M) := hm
  clear hB hm H
  go_wp2_with fail
  exact bodyPost_ret (v := .tuple #[.slice (some ⟨b, 0, none⟩) n n, .int .i64 0]) (by simp [results, Try.results4, go_sem]) rfl ⟨⟨b, rfl, M1.out⟩, B1.out⟩
end Go.Proofs.Ytcdmndcpjememaa
