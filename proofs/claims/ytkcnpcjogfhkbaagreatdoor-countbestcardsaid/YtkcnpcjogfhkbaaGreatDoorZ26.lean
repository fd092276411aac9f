/- Squares that the call made; is somebody in a list. The law: what is wrong is told alike. Small laws of a drawn region. -/
import Derived.Test.YtkcnpcjogfhkbaaGreatDoorZ25
import Derived.Deep.RegionHeld
import Derived.Deep.RegionHeld3
set_option linter.unusedSimpArgs false
set_option linter.unusedVariables false
set_option maxRecDepth 100000
namespace Go.Proofs.YtkcnpcjogfhkbaaGreatDoor
open Go.RowKit Go.Deep Go.PlainAid

theorem Ed.congr {P Q : Mt} {n : Nat} (h : ∀ i j, i < n → j < n → P i j = Q i j) {s : Int} {i j : Nat} (hi : i < n) (hj : j < n) (e : Ed P s i j) : Ed Q s i j := by
  unfold Ed at *
  rw [← h i j hi hj, ← h j i hj hi]; exact e
theorem Wa.congr {P Q : Mt} {n : Nat} (h : ∀ i j, i < n → j < n → P i j = Q i j) {s : Int} {i j : Nat} (w : Wa P n s i j) : Wa Q n s i j := by
  induction w with
  | one a b c => exact .one a b (c.congr h a b)
  | more _ a b c ih => exact .more ih a b (c.congr h a b)
theorem Str.congr {P Q : Mt} {n : Nat} {M : Mt} (h : ∀ i j, i < n → j < n → P i j = Q i j) (s : Str P n M) : Str Q n M :=
  ⟨s.same, s.pos, fun i j hi hj e x hx => (s.way i j hi hj e x hx).trans ⟨fun w => w.congr h, fun w => w.congr (fun a b ha hb => (h a b ha hb).symm)⟩⟩
theorem Dom.congr {P Q : Mt} {n : Nat} {f : Nat → Bool} (h : ∀ i j, i < n → j < n → P i j = Q i j) (d : Dom P n f) : Dom Q n f := fun a ha hf j hj hfj => by
  rw [← h j a hj ha, ← h a j ha hj]; exact d a ha hf j hj hfj
theorem Least.congr {P Q : Mt} {n : Nat} {f : Nat → Bool} (h : ∀ i j, i < n → j < n → P i j = Q i j) (l : Least P n f) : Least Q n f :=
  ⟨l.dom.congr h, l.some, fun g hg h0 => l.few g (hg.congr fun a b ha hb => (h a b ha hb).symm) h0⟩
/-- A square as lists. -/
def sqL (n : Nat) (P : Mt) : List (List Int) := (List.range n).map fun i => (List.range n).map (P i)
theorem sqL_len (n : Nat) (P : Mt) : (sqL n P).length = n := by simp [sqL]
theorem sqL_row {n : Nat} {P : Mt} {i : Nat} (h : i < (sqL n P).length) : (sqL n P)[i] = (List.range n).map (P i) := by simp [sqL]
theorem sqL_en {n : Nat} {P : Mt} : ∀ i j, i < n → j < n → en (sqL n P) i j = P i j := fun i j hi hj => by simp [en, sqL, hi, hj]
theorem MX.ll {w : World} {b n : Nat} {P : Mt} (h : MX w b n P) : LL w (some ⟨b, 0, none⟩) (sqL n P) := fun i hi => by
  have hi' : i < n := by rw [sqL_len] at hi; exact hi
  have e : ((sqL n P)[i]'hi).length = n := by rw [sqL_row]; simp
  refine ⟨b, 0, some ⟨b + 1 + i, 0, none⟩, n, rfl, by rw [e, Nat.zero_add]; exact h.hdr hi', fun j hj => ⟨_, _, rfl, ?_⟩⟩
  have hj' : j < n := by rw [e] at hj; exact hj
  rw [Nat.zero_add, h.at hi' hj']
  simp [sqL]
theorem sqL_ok {n : Nat} {P : Mt} (h1 : 1 ≤ n) (h2 : n ≤ 12) (h3 : ∀ i j, i < n → j < n → 0 ≤ P i j ∧ P i j ≤ 1099511627776) : wpC (sqL n P) = 0 := by
  unfold wpC
  rw [if_pos (by rw [sqL_len]; exact ⟨h1, h2⟩), if_pos, if_pos]
  · rw [List.all_eq_true]
    intro r hr
    unfold rgB
    rw [List.all_eq_true]
    intro x hx
    simp only [sqL, List.mem_map, List.mem_range] at hr
    obtain ⟨i, hi, rfl⟩ := hr
    simp only [List.mem_map, List.mem_range] at hx
    obtain ⟨j, hj, rfl⟩ := hx
    have := h3 i j hi hj
    simp
    omega
  · rw [List.all_eq_true]
    intro r hr
    simp only [sqL, List.mem_map, List.mem_range] at hr
    obtain ⟨i, hi, rfl⟩ := hr
    simp [sqL]
/-- The strongest ways of a square that the call made. -/
theorem paths_mx {W : World} {b n : Nat} {P : Mt} (h1 : 1 ≤ n) (h2 : n ≤ 12) (h3 : ∀ i j, i < n → j < n → 0 ≤ P i j ∧ P i j ≤ 1099511627776) (hm : MX W b n P) :
    Calls Tryz.prog 6 #[.slice (some ⟨b, 0, none⟩) n n] W fun e w' => (∃ b M, e = .returned (.tuple #[.slice (some ⟨b, 0, none⟩) n n, .int .i64 0]) ∧ Str P n M ∧ MX w' b n M) ∧ Below W.heap.size W w' := by
  have q := paths7 (c := n) hm.ll
  rw [sqL_len] at q
  have k := sqL_ok h1 h2 h3
  refine q.mono ?_
  rintro e w' ⟨⟨h, _⟩ | ⟨_, b', M, rfl, s, m⟩, hB⟩
  · exact absurd k h
  · exact ⟨⟨b', M, rfl, s.congr sqL_en, m⟩, hB⟩
theorem smith_mx {W : World} {b n : Nat} {P : Mt} (h1 : 1 ≤ n) (h2 : n ≤ 12) (h3 : ∀ i j, i < n → j < n → 0 ≤ P i j ∧ P i j ≤ 1099511627776) (hm : MX W b n P) :
    Calls Tryz.prog 7 #[.slice (some ⟨b, 0, none⟩) n n] W fun e w' => (∃ sa sc f, e = .returned (.tuple #[.slice sa (lst n f).length sc, .int .i64 0]) ∧ Least P n f ∧ IL w' sa (zi (lst n f))) ∧ Below W.heap.size W w' := by
  have q := smith9_ok (c := n) hm.ll (sqL_ok h1 h2 h3)
  rw [sqL_len] at q
  refine q.mono ?_
  rintro e w' ⟨⟨v, f, rfl, l, hl⟩, hB⟩
  obtain ⟨a, c, rfl, _, _, _, _, hIL⟩ := hl.ex
  exact ⟨⟨a, c, f, by rw [zi_len], l.congr sqL_en, hIL⟩, hB⟩
theorem pcM_bound {L : List (List Int)} (h : L.length ≤ 4096) : ∀ i j, 0 ≤ pcM (fl L) i j ∧ pcM (fl L) i j ≤ 1099511627776 := fun i j => by
  have h2 := fl_len L
  have h1 : (fl L).countP (fun b => ah (b.getD i 0) (b.getD j 0)) ≤ (fl L).length := List.countP_le_length
  unfold pcM
  omega

set_option maxHeartbeats 1000000 in
theorem in8 {w : World} {a : Option Addr} {n c : Nat} {l : List Int} (hl : l.length = n) (h9 : n ≤ 4096) (hL : IL w a l) (x : Int) :
    Calls Tryz.prog 8 #[.slice a n c, .int .i64 x] w fun e w' => e = .returned (.bool (decide (x ∈ l))) ∧ w' = w := by
  have HL : Hid (IL w a l) := hL
  clear hL
  obtain ⟨z, hz⟩ : ∃ z, decide (x ∈ l) = z := ⟨_, rfl⟩
  have HZ : Hid (decide (x ∈ l) = z) := hz
  rw [hz]
  clear hz
  go_enter Tryz.func8, Tryz.ntmps8
  go_wp2_with fail
  go_loopg [6, 9] n (fun gk v6 v9 wr => ∃ i : Nat, i + gk = n ∧ v9 = .int .i64 (i : Int) ∧ x ∉ l.take i ∧ wr = w)
  case atStart => exact ⟨0, by omega, rfl, by simp, rfl⟩
  case round =>
    obtain ⟨i, hig, rfl, hx, rfl⟩ := hrel
    have HX : Hid (x ∉ l.take i) := hx
    clear hx
    by_cases hi : i < n
    · have il : (i : Int) < (n : Int) := by omega
      have hi2 : i < l.length := by omega
      obtain ⟨b, o, rfl, q⟩ := HL.out i hi2
      by_cases he : l[i] = x
      · have eb : (l[i] == x) = true := by simpa using he
        have HT : Hid (z = true) := by rw [← HZ.out]; exact decide_eq_true (by rw [← he]; exact List.getElem_mem hi2)
        clear he HX HZ
        generalize l[i] = y at *
        go_wp2_with fail
        go_ret
        exact ⟨by rw [HT.out]; rfl, rfl⟩
      · have eb : (l[i] == x) = false := by simpa using he
        have HN : Hid (x ∉ l.take (i + 1)) := by
          show ¬ _
          rw [List.take_succ_eq_append_getElem hi2]
          simp only [List.mem_append, List.mem_singleton, not_or]
          exact ⟨HX.out, fun e => he e.symm⟩
        clear he HX
        generalize l[i] = y at *
        go_wp2_with fail
        go_roundg (gk - 1)
        case measure => omega
        case rel => exact ⟨i + 1, by omega, by go_num, HN.out, rfl⟩
    · have il : ¬ (i : Int) < (n : Int) := by omega
      have HT : Hid (z = false) := by
        rw [← HZ.out]
        have := HX.out
        rw [List.take_of_length_le (by omega)] at this
        exact decide_eq_false this
      go_wp2_with fail
      go_ret
      exact ⟨by rw [HT.out]; rfl, rfl⟩
theorem zi_mem {l : List Nat} {x : Nat} : ((x : Nat) : Int) ∈ zi l ↔ x ∈ l := by
  simp only [zi, List.mem_map]
  constructor
  · rintro ⟨y, h1, h2⟩
    have : y = x := by omega
    subst this; exact h1
  · intro h; exact ⟨x, h, rfl⟩
end Go.Proofs.YtkcnpcjogfhkbaaGreatDoor
namespace Go.Proofs.YtkcnpcjogfhkbaaGreatDoor
open Go.RowKit Go.Deep Go.PlainAid

set_option maxHeartbeats 4000000 in
theorem law3_bad {w : World} {nm lt : ByteArray} {ca a : Option Addr} {n cc NL c : Nat} {r s m z : Int} (hz : z ≠ 0)
    (HE : ∀ W, Below w.heap.size w W → Calls Tryz.prog 4 #[CV nm ca n cc 4 1 m, .slice a NL c, .string lt] W fun e w' => e = .returned (.tuple #[.slice none 0 0, .int .i64 z]) ∧ Below W.heap.size W w')
    (HP : ∀ W, Below w.heap.size w W → Calls Tryz.prog 5 #[CV nm ca n cc 4 1 m, .slice a NL c] W fun e w' => e = .returned (.tuple #[.slice none 0 0, .int .i64 z]) ∧ Below W.heap.size W w') :
    Calls Tryz.prog 3 #[CV nm ca n cc r s m, .slice a NL c, .string lt] w fun e w' => e = .returned (.bool true) ∧ Below w.heap.size w w' := by
  have H1 : Hid (∀ W, Below w.heap.size w W → Calls Tryz.prog 4 #[.agg #[.string nm, .slice ca n cc, .int .i64 4, .int .i64 1, .int .i64 m], .slice a NL c, .string lt] W fun e w' => e = .returned (.tuple #[.slice none 0 0, .int .i64 z]) ∧ Below W.heap.size W w') := HE
  have H2 : Hid (∀ W, Below w.heap.size w W → Calls Tryz.prog 5 #[.agg #[.string nm, .slice ca n cc, .int .i64 4, .int .i64 1, .int .i64 m], .slice a NL c] W fun e w' => e = .returned (.tuple #[.slice none 0 0, .int .i64 z]) ∧ Below W.heap.size W w') := HP
  have z0 : (z != 0) = true := by simpa using hz
  clear HE HP hz
  unfold CV
  have B : Hid (Below w.heap.size w (w.alloc (.cells #[.string nm, .slice ca n cc, .int .i64 4, .int .i64 1, .int .i64 m] 24))) := (Below.refl _ _).alloc (Nat.le_refl _) _
  have I0 : Hid (IHolds (w.alloc (.cells #[.string nm, .slice ca n cc, .int .i64 4, .int .i64 1, .int .i64 m] 24)) w.heap.size 24 [.string nm, .slice ca n cc, .int .i64 4, .int .i64 1, .int .i64 m]) := IHolds.new w 24 _
  go_enter Tryz.func3, Tryz.ntmps3
  go_wp2_with (go_at_call 4; refine (H1.out _ B.out).mono ?_)
  rintro e w1 ⟨rfl, hB⟩
  have B1 : Hid (Below w.heap.size w w1) := B.out.trans (hB.mono B.out.size)
  have I1 : Hid (IHolds w1 w.heap.size 24 [.string nm, .slice ca n cc, .int .i64 4, .int .i64 1, .int .i64 m]) := I0.out.of_below hB
  obtain ⟨k0, k1, k2, k3, k4⟩ := five I1.out
  clear hB H1 I0
  go_wp2_with (go_at_call 5; refine (H2.out _ B1.out).mono ?_)
  rintro e w2 ⟨rfl, hB⟩
  have B2 : Hid (Below w.heap.size w w2) := B1.out.trans (hB.mono B1.out.size)
  clear hB H2 I1 k0 k1 k2 k3 k4
  go_wp2_with fail
  go_ret
  exact ⟨by simp, B2.out⟩
end Go.Proofs.YtkcnpcjogfhkbaaGreatDoor
namespace Go.Proofs.YtkcnpcjogfhkbaaGreatDoor
open Go.RowKit Go.Deep Go.PlainAid

theorem y1 {α : Type} {xs : List α} {i : Nat} (h : i < xs.toArray.size) : xs.toArray[i] = xs[i]'(by simpa using h) := List.getElem_toArray h
theorem y2 {α : Type} (a : α) (l : List α) (i : Nat) (h : i + 1 < (a :: l).length) : (a :: l)[i + 1] = l[i]'(by simpa using h) := List.getElem_cons_succ a l i h
theorem y3 {α : Type} (a : α) (l : List α) (h : 0 < (a :: l).length) : (a :: l)[0] = a := List.getElem_cons_zero a l h
theorem y4 {α : Type} {l : List α} {i : Nat} {a : α} : l.toArray.setIfInBounds i a = (l.set i a).toArray := List.setIfInBounds_toArray _ _ _
theorem y5 {α : Type} {x : α} {l : List α} {a : α} : (x :: l).set 0 a = a :: l := List.set_cons_zero
theorem y6 {α : Type} {x : α} {l : List α} {n : Nat} {a : α} : (x :: l).set (n + 1) a = x :: l.set n a := List.set_cons_succ
theorem y7 {α : Type} {xs : Array α} : xs.toList.toArray = xs := Array.toArray_toList
theorem tk {P : Program} {md : Region.Mode} {ops : Array Oper} {Q : Exit → Act → World → Prop} {S : World → Prop} {i : Nat} {oi : Oper} {v : Value} {fuel : Nat} {listed : Array Bool} {a : Act} {w : World} (hi : ops[i]? = some oi)
    (hs : (Region.noSelect ops && (Region.free md ops listed i && (Region.ready md ops listed).contains i)) = true)
    (hQ : ∀ c a w, Q (.panic c) (a.put oi.dst v) w → Q (.panic c) a w) (hw : Region.wanted oi (yielded ops a.tmps) = true) (hy : ∀ w, S w → (execOp a.eval oi).run P w = .ok (.value v) w) (hS : S w)
    (h : wpAnyH P md ops Q S fuel (listed.setIfInBounds i true) (a.put oi.dst v) w) : wpAnyH P md ops Q S (fuel + 1) listed a w := by
  simp only [Bool.and_eq_true] at hs
  exact wpAnyH_take hi hs.1 hs.2.1 hs.2.2 hQ (Or.inl ⟨hw, hy⟩) hS h
theorem tkU {P : Program} {md : Region.Mode} {ops : Array Oper} {Q : Exit → Act → World → Prop} {S : World → Prop} {i : Nat} {oi : Oper} {fuel : Nat} {listed : Array Bool} {a : Act} {w : World} (hi : ops[i]? = some oi)
    (hs : (Region.noSelect ops && (Region.free md ops listed i && (Region.ready md ops listed).contains i)) = true)
    (hQ : ∀ c a w, Q (.panic c) (a.put oi.dst undef) w → Q (.panic c) a w) (hw : Region.wanted oi (yielded ops a.tmps) = false) (hS : S w)
    (h : wpAnyH P md ops Q S fuel (listed.setIfInBounds i true) (a.put oi.dst undef) w) : wpAnyH P md ops Q S (fuel + 1) listed a w := by
  simp only [Bool.and_eq_true] at hs
  exact wpAnyH_take hi hs.1 hs.2.1 hs.2.2 hQ (Or.inr ⟨hw, rfl⟩) hS h
end Go.Proofs.YtkcnpcjogfhkbaaGreatDoor
