/- allScalars, unlike. -/
import Derived.Test.YtfbceknafmkipaaGreatSl2
set_option linter.unusedSimpArgs false
set_option linter.unusedVariables false
set_option maxRecDepth 100000
namespace Go.Proofs.YtfbceknafmkipaaGreat
open Go.RowKit Go.Deep Go.PlainAid

theorem IHolds.new' (w : World) (t : TypeId) (l : List Value) {b : Nat} (h : w.heap.size = b) : IHolds (w.alloc (.cells l.toArray t)) b t l := by subst h; exact IHolds.new w t l
/-- No list is longer than an int. -/
def Lens (l : List (List ByteArray)) : Prop := l.length ≤ 9223372036854775807 ∧ ∀ i (h : i < l.length), (l[i]).length ≤ 9223372036854775807
set_option maxHeartbeats 1000000 in
theorem clos105 {w : World} {a : Option Addr} {l : List ByteArray} {c g : Nat} {z : Int} (p : ByteArray → Bool) (hl : l.length ≤ 9223372036854775807) (hs : SL w a l) (hg : IHolds w g 39 [.int .i64 z])
    (CN : ∀ s W, Calls Tryz.prog 24 #[.agg #[.int .i64 z], .string s] W fun e w' => e = .returned (.bool (!p s)) ∧ Below W.heap.size W w') :
    Calls Tryz.prog 110 #[.slice a l.length c, .pointer (some ⟨g, 0, none⟩)] w fun e w' => e = .returned (.bool (!l.all p)) ∧ Below w.heap.size w w' := by
  have h := scalars84 (c := c) p hl hs CN
  have d0 : w.cell? ⟨g, 0, none⟩ = some (.int .i64 z) := hg.cell 0 (by simp)
  clear hs CN hg
  generalize l.all p = t at *
  go_enter Tryz.func110, Tryz.ntmps110
  go_wp2_with (go_at_call 41; refine h.mono ?_; rintro e w1 ⟨rfl, hB1⟩)
  go_ret
  exact ⟨rfl, hB1⟩
set_option maxHeartbeats 1000000 in
theorem index123 {w : World} {a : Option Addr} {l : List (List ByteArray)} {c g : Nat} {z : Int} (p : ByteArray → Bool) (hl : Lens l) (hs : SLL w a l) (hg : IHolds w g 39 [.int .i64 z])
    (CN : ∀ s W, Calls Tryz.prog 24 #[.agg #[.int .i64 z], .string s] W fun e w' => e = .returned (.bool (!p s)) ∧ Below W.heap.size W w') :
    Calls Tryz.prog 124 #[.slice a l.length c, .func (.func 110) #[] #[.pointer (some ⟨g, 0, none⟩)]] w fun e w' => (∃ r : Int, e = .returned (.int .i64 r) ∧ (decide (0 ≤ r)) = l.any fun x => !x.all p) ∧ Below w.heap.size w w' := by
  have HS : Hid (SLL w a l) := hs
  have HG : Hid (IHolds w g 39 [.int .i64 z]) := hg
  have HL : Hid (Lens l) := hl
  have hl1 := hl.1
  clear hs hg hl
  go_enter Tryz.func124, Tryz.ntmps124
  go_wp2_with fail
  go_loopg [5, 8] l.length (fun gk v5 v8 wr => ∃ i : Nat, i + gk = l.length ∧ v8 = .int .i64 (i : Int) ∧ Below w.heap.size w wr ∧ ((l.take i).any fun x => !x.all p) = false)
  case atStart => exact ⟨0, by omega, rfl, Below.refl _ _, by simp⟩
  case round =>
    obtain ⟨i, hig, rfl, hB, hn⟩ := hrel
    have B : Hid (Below w.heap.size w wr) := hB
    have HN : Hid (((l.take i).any fun x => !x.all p) = false) := hn
    clear hB hn
    by_cases hi : i < l.length
    · obtain ⟨b, o, a', c', rfl, hc, hs'⟩ := HS.out.of_below B.out i hi
      have il : (i : Int) < (l.length : Int) := by omega
      have hcall := clos105 (c := c') p (HL.out.2 i hi) hs' (HG.out.of_below B.out) CN
      have HT : Hid _ := any_take (fun x => !x.all p) hi
      have HO : Hid _ := any_of (fun x => !x.all p) hi
      clear hs'
      generalize l[i] = s at *
      cases hp : s.all p with
      | false =>
        rw [hp] at hcall
        go_wp2_with (go_at_call 110; refine hcall.mono ?_; rintro e w3 ⟨rfl, hB3⟩)
        go_ret
        exact ⟨⟨_, rfl, by rw [HO.out (by rw [hp]; rfl)]; simp⟩, B.out.trans (hB3.mono B.out.size)⟩
      | true =>
        rw [hp] at hcall
        go_wp2_with (go_at_call 110; refine hcall.mono ?_; rintro e w3 ⟨rfl, hB3⟩)
        go_roundg (gk - 1)
        case measure => omega
        case rel => exact ⟨i + 1, by omega, by go_num, B.out.trans (hB3.mono B.out.size), by rw [HT.out, HN.out, hp]; rfl⟩
    · have il : ¬ (i : Int) < (l.length : Int) := by omega
      have e : i = l.length := by omega
      have hn := HN.out
      rw [e, List.take_length] at hn
      clear e
      go_wp2_with fail
      go_ret
      exact ⟨⟨_, rfl, by first | (rw [hn]; decide) | decide⟩, B.out⟩
theorem contains104 {w : World} {a : Option Addr} {l : List (List ByteArray)} {c g : Nat} {z : Int} (p : ByteArray → Bool) (hl : Lens l) (hs : SLL w a l) (hg : IHolds w g 39 [.int .i64 z])
    (CN : ∀ s W, Calls Tryz.prog 24 #[.agg #[.int .i64 z], .string s] W fun e w' => e = .returned (.bool (!p s)) ∧ Below W.heap.size W w') :
    Calls Tryz.prog 109 #[.slice a l.length c, .func (.func 110) #[] #[.pointer (some ⟨g, 0, none⟩)]] w fun e w' => e = .returned (.bool (l.any fun x => !x.all p)) ∧ Below w.heap.size w w' := by
  have h := index123 (c := c) p hl hs hg CN
  clear hs CN hg
  generalize (l.any fun x => !x.all p) = t at *
  go_enter Tryz.func109, Tryz.ntmps109
  go_wp2_with (go_at_call 124; refine h.mono ?_; rintro e w1 ⟨⟨r, rfl, hr⟩, hB1⟩)
  go_ret
  exact ⟨by rw [← hr]; rfl, hB1⟩
/-- All that a proof of one of several has are scalars. -/
def allP (p : ByteArray → Bool) (xs : List ByteArray) (ll : List (List ByteArray)) : Bool := xs.all p && ll.all fun x => x.all p
set_option maxHeartbeats 1000000 in
theorem allScalars65 {w : World} {a a2 : Option Addr} {xs : List ByteArray} {ll : List (List ByteArray)} {c c2 : Nat} {z : Int} (p : ByteArray → Bool) (hx : xs.length ≤ 9223372036854775807) (hl : Lens ll) (hs : SL w a xs) (hs2 : SLL w a2 ll)
    (CN : ∀ s W, Calls Tryz.prog 24 #[.agg #[.int .i64 z], .string s] W fun e w' => e = .returned (.bool (!p s)) ∧ Below W.heap.size W w') :
    Calls Tryz.prog 82 #[.agg #[.int .i64 z], .agg #[.slice a xs.length c, .slice a2 ll.length c2]] w fun e w' => e = .returned (.bool (allP p xs ll)) ∧ Below w.heap.size w w' := by
  have hmf : ∀ (fn : Fn) (first cap : Array Value) (w : World), (Instr.makeFunc fn first cap).run Tryz.prog w = .ok (.func fn first cap) w := fun _ _ _ _ => rfl
  generalize hW : (w.alloc (.cells #[.int .i64 z] 39)).alloc (.cells #[.slice a xs.length c, .slice a2 ll.length c2] 63) = W
  have J : Below w.heap.size w W := by rw [← hW]; exact ((Below.refl _ w).alloc (Nat.le_refl _) _).alloc (by simp) _
  have I1 : IHolds W w.heap.size 39 [.int .i64 z] := by rw [← hW]; exact (IHolds.new' w 39 [.int .i64 z] rfl).alloc _
  have I2 : IHolds W (w.heap.size + 1) 63 [.slice a xs.length c, .slice a2 ll.length c2] := by rw [← hW]; exact IHolds.new' (w.alloc _) 63 [.slice a xs.length c, .slice a2 ll.length c2] (by simp)
  have h1 := scalars84 (c := c) p hx (hs.of_below J) CN
  have h2 := fun W2 (hb : Below W.heap.size W W2) => contains104 (c := c2) p hl ((hs2.of_below J).of_below hb) (I1.of_below hb) CN
  have HB : Hid (Below w.heap.size w W) := J
  have HI : Hid (IHolds W (w.heap.size + 1) 63 [.slice a xs.length c, .slice a2 ll.length c2]) := I2
  have d0 : W.cell? ⟨w.heap.size, 0, none⟩ = some (.int .i64 z) := I1.cell 0 (by simp)
  have d1 : W.cell? ⟨w.heap.size + 1, 0, none⟩ = some (.slice a xs.length c) := I2.cell 0 (by simp)
  have d2 : W.cell? ⟨w.heap.size + 1, 1, none⟩ = some (.slice a2 ll.length c2) := I2.cell 1 (by simp)
  have e : allP p xs ll = (xs.all p && !(ll.any fun x => !x.all p)) := by
    unfold allP; rw [List.not_any_eq_all_not]; simp
  rw [e]
  clear e hs hs2 CN J I1 I2
  generalize (ll.any fun x => !x.all p) = t2 at *
  cases ht : xs.all p with
  | false =>
    rw [ht] at h1
    clear ht h2
    go_enter Tryz.func82, Tryz.ntmps82
    go_wp2_with (go_at_call 41; refine h1.mono ?_; rintro e w1 ⟨rfl, hB1⟩)
    go_ret
    exact ⟨rfl, HB.out.trans (hB1.mono HB.out.size)⟩
  | true =>
    rw [ht] at h1
    clear ht
    go_enter Tryz.func82, Tryz.ntmps82
    go_wp2_with (first | (go_at_call 41; refine h1.mono ?_; rintro e w1 ⟨rfl, hB1⟩; have B1 : Hid (Below W.heap.size W w1) := hB1; have d2' : w1.cell? ⟨w.heap.size + 1, 1, none⟩ = some (.slice a2 ll.length c2) := (HI.out.of_below hB1).cell 1 (by simp); clear hB1) | (go_at_call 109; refine (h2 _ B1.out).mono ?_; rintro e w2 ⟨rfl, hB2⟩))
    go_ret
    exact ⟨by simp, HB.out.trans ((B1.out.trans (hB2.mono B1.out.size)).mono HB.out.size)⟩
theorem clos103 {w : World} {a b : Option Addr} {n m c d : Nat} : Calls Tryz.prog 108 #[.slice a n c, .slice b m d] w fun e w' => e = .returned (.bool (decide (n = m ∧ 0 < n))) ∧ Below w.heap.size w w' := by
  by_cases h : n = m
  · subst h
    by_cases h0 : 0 < n
    · have h0' : (0 : Int) < (n : Int) := by omega
      rw [decide_eq_true (show n = n ∧ 0 < n from ⟨rfl, h0⟩)]
      go_enter Tryz.func108, Tryz.ntmps108
      go_wp2_with fail
      go_ret
      exact ⟨by simp [h0], Below.refl _ _⟩
    · have h0' : ¬ (0 : Int) < (n : Int) := by omega
      rw [decide_eq_false (show ¬ (n = n ∧ 0 < n) from fun h => h0 h.2)]
      go_enter Tryz.func108, Tryz.ntmps108
      go_wp2_with fail
      go_ret
      exact ⟨by simp [h0], Below.refl _ _⟩
  · have h' : ((n : Int) == (m : Int)) = false := by simp; omega
    rw [decide_eq_false (show ¬ (n = m ∧ 0 < n) from fun k => h k.1)]
    go_enter Tryz.func108, Tryz.ntmps108
    go_wp2_with fail
    go_ret
    exact ⟨by simp [h], Below.refl _ _⟩
end Go.Proofs.YtfbceknafmkipaaGreat
