/- Meets, on the program's side. -/
import Derived.Test.YteomefhjglnghaaDoorKb
set_option linter.unusedSimpArgs false
set_option linter.unusedVariables false
set_option maxRecDepth 100000
namespace Go.Proofs.YteomefhjglnghaaDoor
open Go.RowKit Go.Deep Go.PlainAid

theorem al_len : ∀ {l : List P3} {lo hi : Nat}, Al lo hi l → l.length + lo ≤ hi
  | [], lo, hi, h => by have : lo = hi := h; simp; omega
  | p :: r, lo, hi, h => by
    obtain ⟨h1, ⟨k, h2, h3⟩, h4⟩ := h
    have := al_len h4
    have := Nat.two_pow_pos k
    simp only [List.length_cons]
    omega
theorem al_pushAll : ∀ (l s : List P3) {lo hi : Nat}, Al lo hi (s.reverse ++ l) → Al lo hi (pushAll s l).reverse
  | [], s, lo, hi, h => by simpa [pushAll] using h
  | b :: r, s, lo, hi, h => by
    rw [pushAll]
    exact al_pushAll r (push s b) (al_push s b r h)
theorem pushAll_32 : ∀ (l s : List P3), (∀ p ∈ s, p.2.size = 32) → (∀ p ∈ l, p.2.size = 32) → ∀ p ∈ pushAll s l, p.2.size = 32
  | [], s, h, _ => by simpa [pushAll] using h
  | b :: r, s, h, hl => by
    rw [pushAll]
    exact pushAll_32 r (push s b) (push_32 s b h (hl b (by simp))) (fun p hp => hl p (by simp [hp]))
theorem joined_al {l : List P3} {z : Nat} (h : Al 0 z l) : Al 0 z (joinedL l) := al_pushAll l [] h
theorem joined_32 {l : List P3} (h : ∀ p ∈ l, p.2.size = 32) : ∀ p ∈ joinedL l, p.2.size = 32 := fun p hp => by
  unfold joinedL at hp
  exact pushAll_32 l [] (fun q hq => by simp at hq) h p (by simpa using hp)
theorem all32_of {l : List P3} (h : ∀ p ∈ l, p.2.size = 32) : all32 (l.map Prod.snd) = true := by
  unfold all32
  rw [List.all_eq_true]
  intro d hd
  obtain ⟨p, hp, rfl⟩ := List.mem_map.1 hd
  simpa using h p hp
theorem zip_32 {L : List (Nat × Nat)} {ds : List ByteArray} (h : all32 ds = true) : ∀ p ∈ L.zip ds, p.2.size = 32 := fun p hp => by
  have := List.all_eq_true.1 h p.2 (List.of_mem_zip (show (p.1, p.2) ∈ L.zip ds from hp)).2
  simpa using this
/-- What is shown is as many as it must be, each of 32 bytes. -/
def Good (z lo hi : Nat) (A B C : List ByteArray) : Prop := (A.length = (cover 0 lo).length ∧ all32 A = true) ∧ (B.length = (cover lo hi).length ∧ all32 B = true) ∧ (C.length = (cover hi z).length ∧ all32 C = true)
def lay3 (z lo hi : Nat) (A B C : List ByteArray) : List P3 := (cover 0 lo).zip A ++ (cover lo hi).zip B ++ (cover hi z).zip C
theorem lay3_al {z lo hi : Nat} {A B C : List ByteArray} (h1 : lo ≤ hi) (h2 : hi ≤ z) (hz : z ≤ 1048576) (hg : Good z lo hi A B C) : Al 0 z (lay3 z lo hi A B C) := by
  obtain ⟨⟨a1, _⟩, ⟨b1, _⟩, ⟨c1, _⟩⟩ := hg
  exact Al.append (Al.append (al_cov 1048576 0 lo A (by omega) (by omega) a1) (al_cov 1048576 lo hi B (by omega) (by omega) b1)) (al_cov 1048576 hi z C (by omega) (by omega) c1)
theorem lay3_32 {z lo hi : Nat} {A B C : List ByteArray} (hg : Good z lo hi A B C) : ∀ p ∈ lay3 z lo hi A B C, p.2.size = 32 := fun p hp => by
  obtain ⟨⟨_, a2⟩, ⟨_, b2⟩, ⟨_, c2⟩⟩ := hg
  unfold lay3 at hp
  rcases List.mem_append.1 hp with hp | hp
  · rcases List.mem_append.1 hp with hp | hp
    · exact zip_32 a2 p hp
    · exact zip_32 b2 p hp
  · exact zip_32 c2 p hp
/-- The head that comes out. -/
def hdOf (z : Nat) (l : List P3) : ByteArray := tgF lHead (fourT z :: (joinedL l).map Prod.snd)
set_option maxHeartbeats 1000000 in
theorem meets10_range (w : World) (H : ByteArray) (z lo hi : Int) {aA aB aC : Option Addr} {yA yB yC cA cB cC : Nat} (h : ¬ (0 ≤ lo ∧ lo ≤ hi ∧ hi ≤ z ∧ z ≤ 1048576)) :
    Calls Tryd.prog 6 #[.string H, .int .i64 z, .int .i64 lo, .int .i64 hi, .slice aA yA cA, .slice aB yB cB, .slice aC yC cC] w fun e w' => e = .returned (.bool false) ∧ Below w.heap.size w w' := by
  by_cases h0 : 1048576 < z
  · clear h
    go_enter Tryd.func6, Tryd.ntmps6
    go_wp2_with fail
    go_ret
    exact ⟨rfl, Below.refl _ _⟩
  · have HR : Hid (Calls Tryd.prog 9 #[.int .i64 lo, .int .i64 hi, .int .i64 z] w fun e w' => e = .returned (.bool false) ∧ w' = w) := within12 w lo hi z false (decide_eq_false (by omega))
    clear h
    go_enter Tryd.func6, Tryd.ntmps6
    go_wp2_with (go_at_call 9; refine (Calls.mono HR.out) ?_; rintro e w1 ⟨rfl, rfl⟩)
    go_ret
    exact ⟨rfl, Below.refl _ _⟩
/-- What partsOf answers where something is wrong. -/
def PNo (w : World) (args : Array Value) : Prop := ∀ V, Below w.heap.size w V → Calls Tryd.prog 12 args V fun e V' => (∃ v, e = .returned (.tuple #[v, .bool false])) ∧ Below V.heap.size V V'
/-- What it answers where nothing is. -/
def PYes (w : World) (args : Array Value) (l : List P3) : Prop := ∀ V, Below w.heap.size w V → Calls Tryd.prog 12 args V fun e V' => (∃ a c, e = .returned (.tuple #[.slice a l.length c, .bool true]) ∧ PTL V' a l ∧ (a = none → c = 0)) ∧ Below V.heap.size V V'
theorem pno {w : World} {a : Option Addr} {c : Nat} {ds : List ByteArray} (hl : ds.length ≤ 9223372036854775807) (hs : SL w a ds) {lo hi : Nat} (h1 : lo ≤ hi) (h2 : hi ≤ 1048576) (h : ¬ (ds.length = (cover lo hi).length ∧ all32 ds = true)) : PNo w #[.int .i64 (lo : Int), .int .i64 (hi : Int), .slice a ds.length c] := fun V hV =>
  (partsOf18n (c := c) ds hl (hs.of_below hV) lo hi h1 h2).mono fun e w' ⟨hd, hb⟩ => ⟨by
    rcases hd with ⟨q1, q2, _⟩ | ⟨_, q⟩
    · exact absurd ⟨q1, q2⟩ h
    · exact q, hb⟩
theorem pyes {w : World} {a : Option Addr} {c : Nat} {ds : List ByteArray} (hl : ds.length ≤ 9223372036854775807) (hs : SL w a ds) {lo hi : Nat} (h1 : lo ≤ hi) (h2 : hi ≤ 1048576) (h : ds.length = (cover lo hi).length ∧ all32 ds = true) : PYes w #[.int .i64 (lo : Int), .int .i64 (hi : Int), .slice a ds.length c] ((cover lo hi).zip ds) := fun V hV =>
  (partsOf18n (c := c) ds hl (hs.of_below hV) lo hi h1 h2).mono fun e w' ⟨hd, hb⟩ => ⟨by
    have e9 : ((cover lo hi).zip ds).length = ds.length := by rw [List.length_zip]; omega
    rw [e9]
    rcases hd with ⟨_, _, q⟩ | ⟨q, _⟩
    · exact q
    · rcases q with q | q
      · exact absurd h.1 q
      · rw [h.2] at q
        exact Bool.noConfusion q, hb⟩
set_option maxHeartbeats 1000000 in
theorem bad10_A {w : World} {H : ByteArray} {z lo hi : Int} {aA aB aC : Option Addr} {yA yB yC cA cB cC : Nat} (h0 : ¬ 1048576 < z) (HR0 : Calls Tryd.prog 9 #[.int .i64 lo, .int .i64 hi, .int .i64 z] w fun e w' => e = .returned (.bool true) ∧ w' = w) (PA : PNo w #[.int .i64 0, .int .i64 lo, .slice aA yA cA]) {lB : List P3} (PB : PYes w #[.int .i64 lo, .int .i64 hi, .slice aB yB cB] lB) {lC : List P3} (PC : PYes w #[.int .i64 hi, .int .i64 z, .slice aC yC cC] lC) :
    Calls Tryd.prog 6 #[.string H, .int .i64 z, .int .i64 lo, .int .i64 hi, .slice aA yA cA, .slice aB yB cB, .slice aC yC cC] w fun e w' => e = .returned (.bool false) ∧ Below w.heap.size w w' := by
  have HR : Hid _ := HR0
  have HA : Hid (∀ V, Below w.heap.size w V → Calls Tryd.prog 12 #[.int .i64 0, .int .i64 lo, .slice aA yA cA] V fun e V' => (∃ v, e = .returned (.tuple #[v, .bool false])) ∧ Below V.heap.size V V') := PA
  have HB : Hid (∀ V, Below w.heap.size w V → Calls Tryd.prog 12 #[.int .i64 lo, .int .i64 hi, .slice aB yB cB] V fun e V' => (∃ a c, e = .returned (.tuple #[.slice a lB.length c, .bool true]) ∧ PTL V' a lB ∧ (a = none → c = 0)) ∧ Below V.heap.size V V') := PB
  have HC : Hid (∀ V, Below w.heap.size w V → Calls Tryd.prog 12 #[.int .i64 hi, .int .i64 z, .slice aC yC cC] V fun e V' => (∃ a c, e = .returned (.tuple #[.slice a lC.length c, .bool true]) ∧ PTL V' a lC ∧ (a = none → c = 0)) ∧ Below V.heap.size V V') := PC
  clear HR0 PA PB PC
  go_enter Tryd.func6, Tryd.ntmps6
  go_wp2_with (first
    | (go_at_call 9; refine (Calls.mono HR.out) ?_; rintro e w0 ⟨rfl, rfl⟩; clear HR)
    | (go_at_call 12; refine (HA.out _ (Below.refl _ _)).mono ?_; rintro e w1 ⟨⟨vA, rfl⟩, hBA⟩; have B1 : Hid (Below w0.heap.size w0 w1) := (hBA); clear hBA HA)
    | (go_at_call 12; refine (HB.out _ (B1.out)).mono ?_; rintro e w2 ⟨⟨a1, c1, rfl, _, _⟩, hBB⟩; have B2 : Hid (Below w0.heap.size w0 w2) := B1.out.trans (hBB.mono B1.out.size); clear hBB HB)
    | (go_at_call 12; refine (HC.out _ (B2.out)).mono ?_; rintro e w3 ⟨⟨a2, c2, rfl, _, _⟩, hBC⟩; have B3 : Hid (Below w0.heap.size w0 w3) := B2.out.trans (hBC.mono B2.out.size); clear hBC HC))
  go_ret
  exact ⟨rfl, B3.out⟩
set_option maxHeartbeats 1000000 in
theorem bad10_AB {w : World} {H : ByteArray} {z lo hi : Int} {aA aB aC : Option Addr} {yA yB yC cA cB cC : Nat} (h0 : ¬ 1048576 < z) (HR0 : Calls Tryd.prog 9 #[.int .i64 lo, .int .i64 hi, .int .i64 z] w fun e w' => e = .returned (.bool true) ∧ w' = w) (PA : PNo w #[.int .i64 0, .int .i64 lo, .slice aA yA cA]) (PB : PNo w #[.int .i64 lo, .int .i64 hi, .slice aB yB cB]) {lC : List P3} (PC : PYes w #[.int .i64 hi, .int .i64 z, .slice aC yC cC] lC) :
    Calls Tryd.prog 6 #[.string H, .int .i64 z, .int .i64 lo, .int .i64 hi, .slice aA yA cA, .slice aB yB cB, .slice aC yC cC] w fun e w' => e = .returned (.bool false) ∧ Below w.heap.size w w' := by
  have HR : Hid _ := HR0
  have HA : Hid (∀ V, Below w.heap.size w V → Calls Tryd.prog 12 #[.int .i64 0, .int .i64 lo, .slice aA yA cA] V fun e V' => (∃ v, e = .returned (.tuple #[v, .bool false])) ∧ Below V.heap.size V V') := PA
  have HB : Hid (∀ V, Below w.heap.size w V → Calls Tryd.prog 12 #[.int .i64 lo, .int .i64 hi, .slice aB yB cB] V fun e V' => (∃ v, e = .returned (.tuple #[v, .bool false])) ∧ Below V.heap.size V V') := PB
  have HC : Hid (∀ V, Below w.heap.size w V → Calls Tryd.prog 12 #[.int .i64 hi, .int .i64 z, .slice aC yC cC] V fun e V' => (∃ a c, e = .returned (.tuple #[.slice a lC.length c, .bool true]) ∧ PTL V' a lC ∧ (a = none → c = 0)) ∧ Below V.heap.size V V') := PC
  clear HR0 PA PB PC
  go_enter Tryd.func6, Tryd.ntmps6
  go_wp2_with (first
    | (go_at_call 9; refine (Calls.mono HR.out) ?_; rintro e w0 ⟨rfl, rfl⟩; clear HR)
    | (go_at_call 12; refine (HA.out _ (Below.refl _ _)).mono ?_; rintro e w1 ⟨⟨vA, rfl⟩, hBA⟩; have B1 : Hid (Below w0.heap.size w0 w1) := (hBA); clear hBA HA)
    | (go_at_call 12; refine (HB.out _ (B1.out)).mono ?_; rintro e w2 ⟨⟨vB, rfl⟩, hBB⟩; have B2 : Hid (Below w0.heap.size w0 w2) := B1.out.trans (hBB.mono B1.out.size); clear hBB HB)
    | (go_at_call 12; refine (HC.out _ (B2.out)).mono ?_; rintro e w3 ⟨⟨a2, c2, rfl, _, _⟩, hBC⟩; have B3 : Hid (Below w0.heap.size w0 w3) := B2.out.trans (hBC.mono B2.out.size); clear hBC HC))
  go_ret
  exact ⟨rfl, B3.out⟩
set_option maxHeartbeats 1000000 in
theorem bad10_AC {w : World} {H : ByteArray} {z lo hi : Int} {aA aB aC : Option Addr} {yA yB yC cA cB cC : Nat} (h0 : ¬ 1048576 < z) (HR0 : Calls Tryd.prog 9 #[.int .i64 lo, .int .i64 hi, .int .i64 z] w fun e w' => e = .returned (.bool true) ∧ w' = w) (PA : PNo w #[.int .i64 0, .int .i64 lo, .slice aA yA cA]) {lB : List P3} (PB : PYes w #[.int .i64 lo, .int .i64 hi, .slice aB yB cB] lB) (PC : PNo w #[.int .i64 hi, .int .i64 z, .slice aC yC cC]) :
    Calls Tryd.prog 6 #[.string H, .int .i64 z, .int .i64 lo, .int .i64 hi, .slice aA yA cA, .slice aB yB cB, .slice aC yC cC] w fun e w' => e = .returned (.bool false) ∧ Below w.heap.size w w' := by
  have HR : Hid _ := HR0
  have HA : Hid (∀ V, Below w.heap.size w V → Calls Tryd.prog 12 #[.int .i64 0, .int .i64 lo, .slice aA yA cA] V fun e V' => (∃ v, e = .returned (.tuple #[v, .bool false])) ∧ Below V.heap.size V V') := PA
  have HB : Hid (∀ V, Below w.heap.size w V → Calls Tryd.prog 12 #[.int .i64 lo, .int .i64 hi, .slice aB yB cB] V fun e V' => (∃ a c, e = .returned (.tuple #[.slice a lB.length c, .bool true]) ∧ PTL V' a lB ∧ (a = none → c = 0)) ∧ Below V.heap.size V V') := PB
  have HC : Hid (∀ V, Below w.heap.size w V → Calls Tryd.prog 12 #[.int .i64 hi, .int .i64 z, .slice aC yC cC] V fun e V' => (∃ v, e = .returned (.tuple #[v, .bool false])) ∧ Below V.heap.size V V') := PC
  clear HR0 PA PB PC
  go_enter Tryd.func6, Tryd.ntmps6
  go_wp2_with (first
    | (go_at_call 9; refine (Calls.mono HR.out) ?_; rintro e w0 ⟨rfl, rfl⟩; clear HR)
    | (go_at_call 12; refine (HA.out _ (Below.refl _ _)).mono ?_; rintro e w1 ⟨⟨vA, rfl⟩, hBA⟩; have B1 : Hid (Below w0.heap.size w0 w1) := (hBA); clear hBA HA)
    | (go_at_call 12; refine (HB.out _ (B1.out)).mono ?_; rintro e w2 ⟨⟨a1, c1, rfl, _, _⟩, hBB⟩; have B2 : Hid (Below w0.heap.size w0 w2) := B1.out.trans (hBB.mono B1.out.size); clear hBB HB)
    | (go_at_call 12; refine (HC.out _ (B2.out)).mono ?_; rintro e w3 ⟨⟨vC, rfl⟩, hBC⟩; have B3 : Hid (Below w0.heap.size w0 w3) := B2.out.trans (hBC.mono B2.out.size); clear hBC HC))
  go_ret
  exact ⟨rfl, B3.out⟩
set_option maxHeartbeats 1000000 in
theorem bad10_ABC {w : World} {H : ByteArray} {z lo hi : Int} {aA aB aC : Option Addr} {yA yB yC cA cB cC : Nat} (h0 : ¬ 1048576 < z) (HR0 : Calls Tryd.prog 9 #[.int .i64 lo, .int .i64 hi, .int .i64 z] w fun e w' => e = .returned (.bool true) ∧ w' = w) (PA : PNo w #[.int .i64 0, .int .i64 lo, .slice aA yA cA]) (PB : PNo w #[.int .i64 lo, .int .i64 hi, .slice aB yB cB]) (PC : PNo w #[.int .i64 hi, .int .i64 z, .slice aC yC cC]) :
    Calls Tryd.prog 6 #[.string H, .int .i64 z, .int .i64 lo, .int .i64 hi, .slice aA yA cA, .slice aB yB cB, .slice aC yC cC] w fun e w' => e = .returned (.bool false) ∧ Below w.heap.size w w' := by
  have HR : Hid _ := HR0
  have HA : Hid (∀ V, Below w.heap.size w V → Calls Tryd.prog 12 #[.int .i64 0, .int .i64 lo, .slice aA yA cA] V fun e V' => (∃ v, e = .returned (.tuple #[v, .bool false])) ∧ Below V.heap.size V V') := PA
  have HB : Hid (∀ V, Below w.heap.size w V → Calls Tryd.prog 12 #[.int .i64 lo, .int .i64 hi, .slice aB yB cB] V fun e V' => (∃ v, e = .returned (.tuple #[v, .bool false])) ∧ Below V.heap.size V V') := PB
  have HC : Hid (∀ V, Below w.heap.size w V → Calls Tryd.prog 12 #[.int .i64 hi, .int .i64 z, .slice aC yC cC] V fun e V' => (∃ v, e = .returned (.tuple #[v, .bool false])) ∧ Below V.heap.size V V') := PC
  clear HR0 PA PB PC
  go_enter Tryd.func6, Tryd.ntmps6
  go_wp2_with (first
    | (go_at_call 9; refine (Calls.mono HR.out) ?_; rintro e w0 ⟨rfl, rfl⟩; clear HR)
    | (go_at_call 12; refine (HA.out _ (Below.refl _ _)).mono ?_; rintro e w1 ⟨⟨vA, rfl⟩, hBA⟩; have B1 : Hid (Below w0.heap.size w0 w1) := (hBA); clear hBA HA)
    | (go_at_call 12; refine (HB.out _ (B1.out)).mono ?_; rintro e w2 ⟨⟨vB, rfl⟩, hBB⟩; have B2 : Hid (Below w0.heap.size w0 w2) := B1.out.trans (hBB.mono B1.out.size); clear hBB HB)
    | (go_at_call 12; refine (HC.out _ (B2.out)).mono ?_; rintro e w3 ⟨⟨vC, rfl⟩, hBC⟩; have B3 : Hid (Below w0.heap.size w0 w3) := B2.out.trans (hBC.mono B2.out.size); clear hBC HC))
  go_ret
  exact ⟨rfl, B3.out⟩
set_option maxHeartbeats 1000000 in
theorem bad10_B {w : World} {H : ByteArray} {z lo hi : Int} {aA aB aC : Option Addr} {yA yB yC cA cB cC : Nat} (h0 : ¬ 1048576 < z) (HR0 : Calls Tryd.prog 9 #[.int .i64 lo, .int .i64 hi, .int .i64 z] w fun e w' => e = .returned (.bool true) ∧ w' = w) {lA : List P3} (PA : PYes w #[.int .i64 0, .int .i64 lo, .slice aA yA cA] lA) (PB : PNo w #[.int .i64 lo, .int .i64 hi, .slice aB yB cB]) {lC : List P3} (PC : PYes w #[.int .i64 hi, .int .i64 z, .slice aC yC cC] lC) :
    Calls Tryd.prog 6 #[.string H, .int .i64 z, .int .i64 lo, .int .i64 hi, .slice aA yA cA, .slice aB yB cB, .slice aC yC cC] w fun e w' => e = .returned (.bool false) ∧ Below w.heap.size w w' := by
  have HR : Hid _ := HR0
  have HA : Hid (∀ V, Below w.heap.size w V → Calls Tryd.prog 12 #[.int .i64 0, .int .i64 lo, .slice aA yA cA] V fun e V' => (∃ a c, e = .returned (.tuple #[.slice a lA.length c, .bool true]) ∧ PTL V' a lA ∧ (a = none → c = 0)) ∧ Below V.heap.size V V') := PA
  have HB : Hid (∀ V, Below w.heap.size w V → Calls Tryd.prog 12 #[.int .i64 lo, .int .i64 hi, .slice aB yB cB] V fun e V' => (∃ v, e = .returned (.tuple #[v, .bool false])) ∧ Below V.heap.size V V') := PB
  have HC : Hid (∀ V, Below w.heap.size w V → Calls Tryd.prog 12 #[.int .i64 hi, .int .i64 z, .slice aC yC cC] V fun e V' => (∃ a c, e = .returned (.tuple #[.slice a lC.length c, .bool true]) ∧ PTL V' a lC ∧ (a = none → c = 0)) ∧ Below V.heap.size V V') := PC
  clear HR0 PA PB PC
  go_enter Tryd.func6, Tryd.ntmps6
  go_wp2_with (first
    | (go_at_call 9; refine (Calls.mono HR.out) ?_; rintro e w0 ⟨rfl, rfl⟩; clear HR)
    | (go_at_call 12; refine (HA.out _ (Below.refl _ _)).mono ?_; rintro e w1 ⟨⟨a0, c0, rfl, _, _⟩, hBA⟩; have B1 : Hid (Below w0.heap.size w0 w1) := (hBA); clear hBA HA)
    | (go_at_call 12; refine (HB.out _ (B1.out)).mono ?_; rintro e w2 ⟨⟨vB, rfl⟩, hBB⟩; have B2 : Hid (Below w0.heap.size w0 w2) := B1.out.trans (hBB.mono B1.out.size); clear hBB HB)
    | (go_at_call 12; refine (HC.out _ (B2.out)).mono ?_; rintro e w3 ⟨⟨a2, c2, rfl, _, _⟩, hBC⟩; have B3 : Hid (Below w0.heap.size w0 w3) := B2.out.trans (hBC.mono B2.out.size); clear hBC HC))
  go_ret
  exact ⟨rfl, B3.out⟩
set_option maxHeartbeats 1000000 in
theorem bad10_BC {w : World} {H : ByteArray} {z lo hi : Int} {aA aB aC : Option Addr} {yA yB yC cA cB cC : Nat} (h0 : ¬ 1048576 < z) (HR0 : Calls Tryd.prog 9 #[.int .i64 lo, .int .i64 hi, .int .i64 z] w fun e w' => e = .returned (.bool true) ∧ w' = w) {lA : List P3} (PA : PYes w #[.int .i64 0, .int .i64 lo, .slice aA yA cA] lA) (PB : PNo w #[.int .i64 lo, .int .i64 hi, .slice aB yB cB]) (PC : PNo w #[.int .i64 hi, .int .i64 z, .slice aC yC cC]) :
    Calls Tryd.prog 6 #[.string H, .int .i64 z, .int .i64 lo, .int .i64 hi, .slice aA yA cA, .slice aB yB cB, .slice aC yC cC] w fun e w' => e = .returned (.bool false) ∧ Below w.heap.size w w' := by
  have HR : Hid _ := HR0
  have HA : Hid (∀ V, Below w.heap.size w V → Calls Tryd.prog 12 #[.int .i64 0, .int .i64 lo, .slice aA yA cA] V fun e V' => (∃ a c, e = .returned (.tuple #[.slice a lA.length c, .bool true]) ∧ PTL V' a lA ∧ (a = none → c = 0)) ∧ Below V.heap.size V V') := PA
  have HB : Hid (∀ V, Below w.heap.size w V → Calls Tryd.prog 12 #[.int .i64 lo, .int .i64 hi, .slice aB yB cB] V fun e V' => (∃ v, e = .returned (.tuple #[v, .bool false])) ∧ Below V.heap.size V V') := PB
  have HC : Hid (∀ V, Below w.heap.size w V → Calls Tryd.prog 12 #[.int .i64 hi, .int .i64 z, .slice aC yC cC] V fun e V' => (∃ v, e = .returned (.tuple #[v, .bool false])) ∧ Below V.heap.size V V') := PC
  clear HR0 PA PB PC
  go_enter Tryd.func6, Tryd.ntmps6
  go_wp2_with (first
    | (go_at_call 9; refine (Calls.mono HR.out) ?_; rintro e w0 ⟨rfl, rfl⟩; clear HR)
    | (go_at_call 12; refine (HA.out _ (Below.refl _ _)).mono ?_; rintro e w1 ⟨⟨a0, c0, rfl, _, _⟩, hBA⟩; have B1 : Hid (Below w0.heap.size w0 w1) := (hBA); clear hBA HA)
    | (go_at_call 12; refine (HB.out _ (B1.out)).mono ?_; rintro e w2 ⟨⟨vB, rfl⟩, hBB⟩; have B2 : Hid (Below w0.heap.size w0 w2) := B1.out.trans (hBB.mono B1.out.size); clear hBB HB)
    | (go_at_call 12; refine (HC.out _ (B2.out)).mono ?_; rintro e w3 ⟨⟨vC, rfl⟩, hBC⟩; have B3 : Hid (Below w0.heap.size w0 w3) := B2.out.trans (hBC.mono B2.out.size); clear hBC HC))
  go_ret
  exact ⟨rfl, B3.out⟩
set_option maxHeartbeats 1000000 in
theorem bad10_C {w : World} {H : ByteArray} {z lo hi : Int} {aA aB aC : Option Addr} {yA yB yC cA cB cC : Nat} (h0 : ¬ 1048576 < z) (HR0 : Calls Tryd.prog 9 #[.int .i64 lo, .int .i64 hi, .int .i64 z] w fun e w' => e = .returned (.bool true) ∧ w' = w) {lA : List P3} (PA : PYes w #[.int .i64 0, .int .i64 lo, .slice aA yA cA] lA) {lB : List P3} (PB : PYes w #[.int .i64 lo, .int .i64 hi, .slice aB yB cB] lB) (PC : PNo w #[.int .i64 hi, .int .i64 z, .slice aC yC cC]) :
    Calls Tryd.prog 6 #[.string H, .int .i64 z, .int .i64 lo, .int .i64 hi, .slice aA yA cA, .slice aB yB cB, .slice aC yC cC] w fun e w' => e = .returned (.bool false) ∧ Below w.heap.size w w' := by
  have HR : Hid _ := HR0
  have HA : Hid (∀ V, Below w.heap.size w V → Calls Tryd.prog 12 #[.int .i64 0, .int .i64 lo, .slice aA yA cA] V fun e V' => (∃ a c, e = .returned (.tuple #[.slice a lA.length c, .bool true]) ∧ PTL V' a lA ∧ (a = none → c = 0)) ∧ Below V.heap.size V V') := PA
  have HB : Hid (∀ V, Below w.heap.size w V → Calls Tryd.prog 12 #[.int .i64 lo, .int .i64 hi, .slice aB yB cB] V fun e V' => (∃ a c, e = .returned (.tuple #[.slice a lB.length c, .bool true]) ∧ PTL V' a lB ∧ (a = none → c = 0)) ∧ Below V.heap.size V V') := PB
  have HC : Hid (∀ V, Below w.heap.size w V → Calls Tryd.prog 12 #[.int .i64 hi, .int .i64 z, .slice aC yC cC] V fun e V' => (∃ v, e = .returned (.tuple #[v, .bool false])) ∧ Below V.heap.size V V') := PC
  clear HR0 PA PB PC
  go_enter Tryd.func6, Tryd.ntmps6
  go_wp2_with (first
    | (go_at_call 9; refine (Calls.mono HR.out) ?_; rintro e w0 ⟨rfl, rfl⟩; clear HR)
    | (go_at_call 12; refine (HA.out _ (Below.refl _ _)).mono ?_; rintro e w1 ⟨⟨a0, c0, rfl, _, _⟩, hBA⟩; have B1 : Hid (Below w0.heap.size w0 w1) := (hBA); clear hBA HA)
    | (go_at_call 12; refine (HB.out _ (B1.out)).mono ?_; rintro e w2 ⟨⟨a1, c1, rfl, _, _⟩, hBB⟩; have B2 : Hid (Below w0.heap.size w0 w2) := B1.out.trans (hBB.mono B1.out.size); clear hBB HB)
    | (go_at_call 12; refine (HC.out _ (B2.out)).mono ?_; rintro e w3 ⟨⟨vC, rfl⟩, hBC⟩; have B3 : Hid (Below w0.heap.size w0 w3) := B2.out.trans (hBC.mono B2.out.size); clear hBC HC))
  go_ret
  exact ⟨rfl, B3.out⟩
theorem cat3 {V : World} {a0 a1 a2 : Option Addr} {c0 c1 c2 : Nat} {lA lB lC : List P3} (p0 : PTL V a0 lA) (p1 : PTL V a1 lB) (p2 : PTL V a2 lC) (n0 : a0 = none → c0 = 0) (n1 : a1 = none → c1 = 0) (n2 : a2 = none → c2 = 0) (s0 : lA.length ≤ 1048576) (s1 : lB.length ≤ 1048576) (s2 : lC.length ≤ 1048576) :
    Calls Tryd.prog 14 #[.slice (some ⟨V.heap.size, 0, none⟩) 3 3] (V.alloc (.cells #[.slice a0 lA.length c0, .slice a1 lB.length c1, .slice a2 lC.length c2] 40)) fun e w' => (∃ a c, e = .returned (.slice a (lA ++ lB ++ lC).length c) ∧ PTL w' a (lA ++ lB ++ lC)) ∧ Below (V.alloc (.cells #[.slice a0 lA.length c0, .slice a1 lB.length c1, .slice a2 lC.length c2] 40)).heap.size (V.alloc (.cells #[.slice a0 lA.length c0, .slice a1 lB.length c1, .slice a2 lC.length c2] 40)) w' := by
  have hb := nB V (.cells #[.slice a0 lA.length c0, .slice a1 lB.length c1, .slice a2 lC.length c2] 40)
  have I := IHolds.new V 40 [.slice a0 lA.length c0, .slice a1 lB.length c1, .slice a2 lC.length c2]
  have h := concat23 (w := (V.alloc (.cells #[.slice a0 lA.length c0, .slice a1 lB.length c1, .slice a2 lC.length c2] 40))) (bC := V.heap.size) (L := [(a0, c0, lA), (a1, c1, lB), (a2, c2, lC)]) (cc := 3) rfl
    (fun i hi => by
      match i, hi with
      | 0, _ => exact I.cell 0 (by simp)
      | 1, _ => exact I.cell 1 (by simp)
      | 2, _ => exact I.cell 2 (by simp)
      | i + 3, hi => exact absurd hi (by simp))
    (fun i hi => by
      match i, hi with
      | 0, _ => exact p0.of_below hb
      | 1, _ => exact p1.of_below hb
      | 2, _ => exact p2.of_below hb
      | i + 3, hi => exact absurd hi (by simp))
    (fun i hi => by
      match i, hi with
      | 0, _ => exact n0
      | 1, _ => exact n1
      | 2, _ => exact n2
      | i + 3, hi => exact absurd hi (by simp))
    (fun x hx => by
      simp only [List.mem_cons, List.not_mem_nil, or_false] at hx
      rcases hx with rfl | rfl | rfl
      · exact s0
      · exact s1
      · exact s2)
  have e : cat [(a0, c0, lA), (a1, c1, lB), (a2, c2, lC)] = lA ++ lB ++ lC := by simp [cat]
  rw [e] at h
  exact h
theorem head19j {V : World} {a : Option Addr} {c z : Nat} {l : List P3} (hz : z ≤ 1048576) (hA : Al 0 z l) (h32 : ∀ p ∈ l, p.2.size = 32) (hp : PTL V a l) (T : TagC tgF 35 V) :
    Calls Tryd.prog 13 #[.slice a l.length c] V fun e w' => e = .returned (.string (tgF lHead (fourT z :: l.map Prod.snd))) ∧ Below V.heap.size V w' := by
  have hlen := al_len hA
  refine head19 (z := z) (by omega) hz hp (all32_of h32) T (fun V hp => ?_)
  cases hl : l with
  | nil =>
    rw [hl] at hA
    have : 0 = z := hA
    subst this
    exact size33_nil V a c
  | cons p r =>
    rw [← hl]
    obtain ⟨n, hn⟩ : ∃ n, l.length = n + 1 := ⟨r.length, by rw [hl]; rfl⟩
    have q := size33_cons (c := c) hn (by omega) hp
    rw [al_last hA hn] at q
    exact q
set_option maxHeartbeats 2000000 in
theorem good10 {w : World} {H : ByteArray} {z : Nat} {lo hi : Int} {aA aB aC : Option Addr} {yA yB yC cA cB cC : Nat} {lA lB lC : List P3} (hz : z ≤ 1048576) (HR0 : Calls Tryd.prog 9 #[.int .i64 lo, .int .i64 hi, .int .i64 (z : Int)] w fun e w' => e = .returned (.bool true) ∧ w' = w)
    (PA : PYes w #[.int .i64 0, .int .i64 lo, .slice aA yA cA] lA) (PB : PYes w #[.int .i64 lo, .int .i64 hi, .slice aB yB cB] lB) (PC : PYes w #[.int .i64 hi, .int .i64 (z : Int), .slice aC yC cC] lC)
    (hA : Al 0 z (lA ++ lB ++ lC)) (h32 : ∀ p ∈ lA ++ lB ++ lC, p.2.size = 32) (T : TagC tgF 35 w) :
    Calls Tryd.prog 6 #[.string H, .int .i64 (z : Int), .int .i64 lo, .int .i64 hi, .slice aA yA cA, .slice aB yB cB, .slice aC yC cC] w fun e w' => e = .returned (.bool (decide (H = hdOf z (lA ++ lB ++ lC)))) ∧ Below w.heap.size w w' := by
  have HR : Hid _ := HR0
  have HA : Hid (∀ V, Below w.heap.size w V → Calls Tryd.prog 12 #[.int .i64 0, .int .i64 lo, .slice aA yA cA] V fun e V' => (∃ a c, e = .returned (.tuple #[.slice a lA.length c, .bool true]) ∧ PTL V' a lA ∧ (a = none → c = 0)) ∧ Below V.heap.size V V') := PA
  have HB : Hid (∀ V, Below w.heap.size w V → Calls Tryd.prog 12 #[.int .i64 lo, .int .i64 hi, .slice aB yB cB] V fun e V' => (∃ a c, e = .returned (.tuple #[.slice a lB.length c, .bool true]) ∧ PTL V' a lB ∧ (a = none → c = 0)) ∧ Below V.heap.size V V') := PB
  have HC : Hid (∀ V, Below w.heap.size w V → Calls Tryd.prog 12 #[.int .i64 hi, .int .i64 (z : Int), .slice aC yC cC] V fun e V' => (∃ a c, e = .returned (.tuple #[.slice a lC.length c, .bool true]) ∧ PTL V' a lC ∧ (a = none → c = 0)) ∧ Below V.heap.size V V') := PC
  have hlen := al_len hA
  have sA : lA.length ≤ 1048576 := by simp only [List.length_append] at hlen; omega
  have sB : lB.length ≤ 1048576 := by simp only [List.length_append] at hlen; omega
  have sC : lC.length ≤ 1048576 := by simp only [List.length_append] at hlen; omega
  have H23 : Hid (∀ V a0 c0 a1 c1 a2 c2, PTL V a0 lA → PTL V a1 lB → PTL V a2 lC → (a0 = none → c0 = 0) → (a1 = none → c1 = 0) → (a2 = none → c2 = 0) → Calls Tryd.prog 14 #[.slice (some ⟨V.heap.size, 0, none⟩) 3 3] (V.alloc (.cells #[.slice a0 lA.length c0, .slice a1 lB.length c1, .slice a2 lC.length c2] 40)) fun e w' => (∃ a c, e = .returned (.slice a (lA ++ lB ++ lC).length c) ∧ PTL w' a (lA ++ lB ++ lC)) ∧ Below (V.alloc (.cells #[.slice a0 lA.length c0, .slice a1 lB.length c1, .slice a2 lC.length c2] 40)).heap.size (V.alloc (.cells #[.slice a0 lA.length c0, .slice a1 lB.length c1, .slice a2 lC.length c2] 40)) w') := fun V a0 c0 a1 c1 a2 c2 p0 p1 p2 n0 n1 n2 => cat3 p0 p1 p2 n0 n1 n2 sA sB sC
  have H24 : Hid (∀ V a c, Below w.heap.size w V → PTL V a (lA ++ lB ++ lC) → Calls Tryd.prog 15 #[.slice a (lA ++ lB ++ lC).length c] V fun e w' => (∃ a' c', e = .returned (.slice a' (joinedL (lA ++ lB ++ lC)).length c') ∧ PTL w' a' (joinedL (lA ++ lB ++ lC))) ∧ Below V.heap.size V w') := fun V a c hV hp => joined24 (by omega) hz hA h32 hp (T.of hV)
  have H19 : Hid (∀ V a c, Below w.heap.size w V → PTL V a (joinedL (lA ++ lB ++ lC)) → Calls Tryd.prog 13 #[.slice a (joinedL (lA ++ lB ++ lC)).length c] V fun e w' => e = .returned (.string (hdOf z (lA ++ lB ++ lC))) ∧ Below V.heap.size V w') := fun V a c hV hp => head19j hz (joined_al hA) (joined_32 h32) hp (T.of hV)
  obtain ⟨tt, htt⟩ : ∃ tt, decide (H = hdOf z (lA ++ lB ++ lC)) = tt := ⟨_, rfl⟩
  have hcmp : (H.toList == (hdOf z (lA ++ lB ++ lC)).toList) = tt := by
    rw [← htt]
    by_cases hq : H = hdOf z (lA ++ lB ++ lC)
    · rw [← hq]; simp
    · rw [toList_ne hq, decide_eq_false hq]
  rw [htt]
  generalize hdOf z (lA ++ lB ++ lC) = DD at *
  generalize (lA ++ lB ++ lC) = l at *
  generalize joinedL l = J at *
  have h0 : ¬ (1048576 : Int) < (z : Int) := by omega
  clear HR0 PA PB PC hA h32 T htt hlen sA sB sC
  go_enter Tryd.func6, Tryd.ntmps6
  go_wp2_with (first
    | (go_at_call 9; refine (Calls.mono HR.out) ?_; rintro e w0 ⟨rfl, rfl⟩; clear HR)
    | (go_at_call 12; refine (HA.out _ (Below.refl _ _)).mono ?_; rintro e w1 ⟨⟨a0, c0, rfl, hp0, hn0⟩, hB⟩; have B1 : Hid (Below w0.heap.size w0 w1) := hB; have P0 : Hid (PTL w1 a0 lA) := hp0; have N0 : Hid (a0 = none → c0 = 0) := hn0; clear hB HA hp0 hn0)
    | (go_at_call 12; refine (HB.out _ B1.out).mono ?_; rintro e w2 ⟨⟨a1, c1, rfl, hp1, hn1⟩, hB⟩; have B2 : Hid (Below w0.heap.size w0 w2) := B1.out.trans (hB.mono B1.out.size); replace P0 : Hid (PTL w2 a0 lA) := P0.out.of_below hB; have P1 : Hid (PTL w2 a1 lB) := hp1; have N1 : Hid (a1 = none → c1 = 0) := hn1; clear hB HB hp1 hn1)
    | (go_at_call 12; refine (HC.out _ B2.out).mono ?_; rintro e w3 ⟨⟨a2, c2, rfl, hp2, hn2⟩, hB⟩; have B3 : Hid (Below w0.heap.size w0 w3) := B2.out.trans (hB.mono B2.out.size); replace P0 : Hid (PTL w3 a0 lA) := P0.out.of_below hB; replace P1 : Hid (PTL w3 a1 lB) := P1.out.of_below hB; have P2 : Hid (PTL w3 a2 lC) := hp2; have N2 : Hid (a2 = none → c2 = 0) := hn2; have B4 : Hid (Below w0.heap.size w0 (w3.alloc (.cells #[.slice a0 lA.length c0, .slice a1 lB.length c1, .slice a2 lC.length c2] 40))) := B3.out.trans ((nB w3 _).mono B3.out.size); clear hB HC hp2 hn2)
    | (go_at_call 14; refine (H23.out _ _ _ _ _ _ _ P0.out P1.out P2.out N0.out N1.out N2.out).mono ?_; rintro e w5 ⟨⟨a5, c5, rfl, hp5⟩, hB⟩; have B5 : Hid (Below w0.heap.size w0 w5) := B4.out.trans (hB.mono B4.out.size); have P5 : Hid (PTL w5 a5 l) := hp5; clear hB H23 hp5)
    | (go_at_call 15; refine (H24.out _ _ _ B5.out P5.out).mono ?_; rintro e w6 ⟨⟨a6, c6, rfl, hp6⟩, hB⟩; have B6 : Hid (Below w0.heap.size w0 w6) := B5.out.trans (hB.mono B5.out.size); have P6 : Hid (PTL w6 a6 J) := hp6; clear hB H24 hp6)
    | (go_at_call 13; refine (H19.out _ _ _ B6.out P6.out).mono ?_; rintro e w7 ⟨rfl, hB⟩; have B7 : Hid (Below w0.heap.size w0 w7) := B6.out.trans (hB.mono B6.out.size); clear hB H19))
  go_ret
  exact ⟨rfl, B7.out⟩
end Go.Proofs.YteomefhjglnghaaDoor
