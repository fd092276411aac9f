/- The law of one of several sets. The law of one of several sets, at every kind. Lists of lists of claims that come in. -/
import Derived.Test.YtmpiipcllgjhdaaGreatDoorY25
import Derived.Laws.AppendOwn
import Derived.Test.YtmpiipcllgjhdaaGreatDoorY18
set_option linter.unusedSimpArgs false
set_option linter.unusedVariables false
set_option maxRecDepth 100000
namespace Go.Proofs.YtmpiipcllgjhdaaGreatDoor
open Go.RowKit Go.Deep Go.PlainAid

set_option maxHeartbeats 1000000 in
theorem either_a {w : World} {z which : Int} {label ot seed : ByteArray} {sa ss : Option Addr} {n m mp ns cs : Nat} (h : n = 0)
    (C5 : ∀ W, Calls Tryz.prog 5 #[] W fun e w' => e = .returned (.bool true) ∧ Below W.heap.size W w')
    (C6 : ∀ W, Below w.heap.size w W → Calls Tryz.prog 6 #[.int .i64 z, .string ot, .slice sa m mp] W fun e w' => (∃ a c, e = .returned (.slice a n c)) ∧ Below W.heap.size W w') :
    Calls Tryz.prog 4 #[.int .i64 z, .string label, .slice ss ns cs, .int .i64 which, .string ot, .slice sa m mp, .string seed] w fun e w' => e = .returned (.bool true) ∧ Below w.heap.size w w' := by
  have H5 : Hid (∀ W, Calls Tryz.prog 5 #[] W fun e w' => e = .returned (.bool true) ∧ Below W.heap.size W w') := C5
  have H6 : Hid (∀ W, Below w.heap.size w W → Calls Tryz.prog 6 #[.int .i64 z, .string ot, .slice sa m mp] W fun e w' => (∃ a c, e = .returned (.slice a n c)) ∧ Below W.heap.size W w') := C6
  clear C5 C6
  obtain rfl := h
  go_enter Tryz.func4, Tryz.ntmps4
  go_wp2_with (first
    | (go_at_call 5; refine (H5.out _).mono ?_; rintro e V1 ⟨rfl, hB⟩; have B1 : Hid (Below w.heap.size w V1) := hB; clear hB H5)
    | (go_at_call 6; refine (H6.out _ B1.out).mono ?_; rintro e V2 ⟨⟨a2, c2, rfl⟩, hB⟩; have B2 : Hid (Below w.heap.size w V2) := B1.out.trans (hB.mono B1.out.size); clear hB H6)
    | fail)
  go_ret
  exact ⟨rfl, B2.out⟩
set_option maxHeartbeats 1000000 in
theorem either_b {w : World} {z which : Int} {label ot seed : ByteArray} {sa ss : Option Addr} {n m mp ns cs : Nat} (h : 64 < n)
    (C5 : ∀ W, Calls Tryz.prog 5 #[] W fun e w' => e = .returned (.bool true) ∧ Below W.heap.size W w')
    (C6 : ∀ W, Below w.heap.size w W → Calls Tryz.prog 6 #[.int .i64 z, .string ot, .slice sa m mp] W fun e w' => (∃ a c, e = .returned (.slice a n c)) ∧ Below W.heap.size W w') :
    Calls Tryz.prog 4 #[.int .i64 z, .string label, .slice ss ns cs, .int .i64 which, .string ot, .slice sa m mp, .string seed] w fun e w' => e = .returned (.bool true) ∧ Below w.heap.size w w' := by
  have H5 : Hid (∀ W, Calls Tryz.prog 5 #[] W fun e w' => e = .returned (.bool true) ∧ Below W.heap.size W w') := C5
  have H6 : Hid (∀ W, Below w.heap.size w W → Calls Tryz.prog 6 #[.int .i64 z, .string ot, .slice sa m mp] W fun e w' => (∃ a c, e = .returned (.slice a n c)) ∧ Below W.heap.size W w') := C6
  clear C5 C6
  have b0 : ((n : Int) == 0) = false := beq_eq_false_iff_ne.2 (by omega)
  have b1 : (64 : Int) < (n : Int) := by omega
  clear h
  go_enter Tryz.func4, Tryz.ntmps4
  go_wp2_with (first
    | (go_at_call 5; refine (H5.out _).mono ?_; rintro e V1 ⟨rfl, hB⟩; have B1 : Hid (Below w.heap.size w V1) := hB; clear hB H5)
    | (go_at_call 6; refine (H6.out _ B1.out).mono ?_; rintro e V2 ⟨⟨a2, c2, rfl⟩, hB⟩; have B2 : Hid (Below w.heap.size w V2) := B1.out.trans (hB.mono B1.out.size); clear hB H6)
    | fail)
  go_ret
  exact ⟨rfl, B2.out⟩
set_option maxHeartbeats 1000000 in
theorem either_c {w : World} {z which : Int} {label ot seed : ByteArray} {sa ss : Option Addr} {n m mp ns cs : Nat} (h0 : n ≠ 0) (h1 : n ≤ 64) (h : 16 < ns)
    (C5 : ∀ W, Calls Tryz.prog 5 #[] W fun e w' => e = .returned (.bool true) ∧ Below W.heap.size W w')
    (C6 : ∀ W, Below w.heap.size w W → Calls Tryz.prog 6 #[.int .i64 z, .string ot, .slice sa m mp] W fun e w' => (∃ a c, e = .returned (.slice a n c)) ∧ Below W.heap.size W w') :
    Calls Tryz.prog 4 #[.int .i64 z, .string label, .slice ss ns cs, .int .i64 which, .string ot, .slice sa m mp, .string seed] w fun e w' => e = .returned (.bool true) ∧ Below w.heap.size w w' := by
  have H5 : Hid (∀ W, Calls Tryz.prog 5 #[] W fun e w' => e = .returned (.bool true) ∧ Below W.heap.size W w') := C5
  have H6 : Hid (∀ W, Below w.heap.size w W → Calls Tryz.prog 6 #[.int .i64 z, .string ot, .slice sa m mp] W fun e w' => (∃ a c, e = .returned (.slice a n c)) ∧ Below W.heap.size W w') := C6
  clear C5 C6
  have b0 : ((n : Int) == 0) = false := beq_eq_false_iff_ne.2 (by omega)
  have b1 : ¬ (64 : Int) < (n : Int) := by omega
  have b2 : (16 : Int) < (ns : Int) := by omega
  clear h h0 h1
  go_enter Tryz.func4, Tryz.ntmps4
  go_wp2_with (first
    | (go_at_call 5; refine (H5.out _).mono ?_; rintro e V1 ⟨rfl, hB⟩; have B1 : Hid (Below w.heap.size w V1) := hB; clear hB H5)
    | (go_at_call 6; refine (H6.out _ B1.out).mono ?_; rintro e V2 ⟨⟨a2, c2, rfl⟩, hB⟩; have B2 : Hid (Below w.heap.size w V2) := B1.out.trans (hB.mono B1.out.size); clear hB H6)
    | fail)
  go_ret
  exact ⟨rfl, B2.out⟩
set_option maxHeartbeats 1000000 in
theorem either_d {w : World} {z which : Int} {label ot seed : ByteArray} {sa ss : Option Addr} {n m mp ns cs : Nat} (h0 : n ≠ 0) (h1 : n ≤ 64) (h2 : ns ≤ 16) (h : which < 0)
    (C5 : ∀ W, Calls Tryz.prog 5 #[] W fun e w' => e = .returned (.bool true) ∧ Below W.heap.size W w')
    (C6 : ∀ W, Below w.heap.size w W → Calls Tryz.prog 6 #[.int .i64 z, .string ot, .slice sa m mp] W fun e w' => (∃ a c, e = .returned (.slice a n c)) ∧ Below W.heap.size W w') :
    Calls Tryz.prog 4 #[.int .i64 z, .string label, .slice ss ns cs, .int .i64 which, .string ot, .slice sa m mp, .string seed] w fun e w' => e = .returned (.bool true) ∧ Below w.heap.size w w' := by
  have H5 : Hid (∀ W, Calls Tryz.prog 5 #[] W fun e w' => e = .returned (.bool true) ∧ Below W.heap.size W w') := C5
  have H6 : Hid (∀ W, Below w.heap.size w W → Calls Tryz.prog 6 #[.int .i64 z, .string ot, .slice sa m mp] W fun e w' => (∃ a c, e = .returned (.slice a n c)) ∧ Below W.heap.size W w') := C6
  clear C5 C6
  have b0 : ((n : Int) == 0) = false := beq_eq_false_iff_ne.2 (by omega)
  have b1 : ¬ (64 : Int) < (n : Int) := by omega
  have b2 : ¬ (16 : Int) < (ns : Int) := by omega
  clear h0 h1 h2
  go_enter Tryz.func4, Tryz.ntmps4
  go_wp2_with (first
    | (go_at_call 5; refine (H5.out _).mono ?_; rintro e V1 ⟨rfl, hB⟩; have B1 : Hid (Below w.heap.size w V1) := hB; clear hB H5)
    | (go_at_call 6; refine (H6.out _ B1.out).mono ?_; rintro e V2 ⟨⟨a2, c2, rfl⟩, hB⟩; have B2 : Hid (Below w.heap.size w V2) := B1.out.trans (hB.mono B1.out.size); clear hB H6)
    | fail)
  go_ret
  exact ⟨rfl, B2.out⟩
set_option maxHeartbeats 1000000 in
theorem either_e {w : World} {z which : Int} {label ot seed : ByteArray} {sa ss : Option Addr} {n m mp ns cs : Nat} (h0 : n ≠ 0) (h1 : n ≤ 64) (h2 : ns ≤ 16) (h3 : ¬ which < 0) (h : (ns : Int) ≤ which)
    (C5 : ∀ W, Calls Tryz.prog 5 #[] W fun e w' => e = .returned (.bool true) ∧ Below W.heap.size W w')
    (C6 : ∀ W, Below w.heap.size w W → Calls Tryz.prog 6 #[.int .i64 z, .string ot, .slice sa m mp] W fun e w' => (∃ a c, e = .returned (.slice a n c)) ∧ Below W.heap.size W w') :
    Calls Tryz.prog 4 #[.int .i64 z, .string label, .slice ss ns cs, .int .i64 which, .string ot, .slice sa m mp, .string seed] w fun e w' => e = .returned (.bool true) ∧ Below w.heap.size w w' := by
  have H5 : Hid (∀ W, Calls Tryz.prog 5 #[] W fun e w' => e = .returned (.bool true) ∧ Below W.heap.size W w') := C5
  have H6 : Hid (∀ W, Below w.heap.size w W → Calls Tryz.prog 6 #[.int .i64 z, .string ot, .slice sa m mp] W fun e w' => (∃ a c, e = .returned (.slice a n c)) ∧ Below W.heap.size W w') := C6
  clear C5 C6
  have b0 : ((n : Int) == 0) = false := beq_eq_false_iff_ne.2 (by omega)
  have b1 : ¬ (64 : Int) < (n : Int) := by omega
  have b2 : ¬ (16 : Int) < (ns : Int) := by omega
  clear h0 h1 h2
  go_enter Tryz.func4, Tryz.ntmps4
  go_wp2_with (first
    | (go_at_call 5; refine (H5.out _).mono ?_; rintro e V1 ⟨rfl, hB⟩; have B1 : Hid (Below w.heap.size w V1) := hB; clear hB H5)
    | (go_at_call 6; refine (H6.out _ B1.out).mono ?_; rintro e V2 ⟨⟨a2, c2, rfl⟩, hB⟩; have B2 : Hid (Below w.heap.size w V2) := B1.out.trans (hB.mono B1.out.size); clear hB H6)
    | fail)
  go_ret
  exact ⟨rfl, B2.out⟩
/-- The cells of a list of sets. -/
def cellsL (qa : Nat → Option Addr) (qc : Nat → Nat) (L : List (List Cl)) : List Value := (List.range L.length).map fun i => .slice (qa i) (L.getD i []).length (qc i)
theorem cellsL_len (qa : Nat → Option Addr) (qc : Nat → Nat) (L : List (List Cl)) : (cellsL qa qc L).length = L.length := by simp [cellsL]
theorem cellsL_news {w : World} {b o : Nat} {qa : Nat → Option Addr} {qc : Nat → Nat} {L : List (List Cl)} (h : LQ w (some ⟨b, o, none⟩) qa qc L) : ∀ j u, (cellsL qa qc L)[j]? = some u → w.cell? ((⟨b, o, none⟩ : Addr).add j) = some u := fun j u hj => by
  obtain ⟨hl, e⟩ := List.getElem?_eq_some_iff.1 hj
  have hl' : j < L.length := by simpa [cellsL] using hl
  obtain ⟨b', o', e1, h1, _⟩ := h j hl'
  cases e1
  have e2 : (cellsL qa qc L)[j] = .slice (qa j) (L[j]'hl').length (qc j) := by simp [cellsL, hl']
  rw [← e, e2, ← h1]
  unfold Addr.add
  by_cases j0 : j = 0 <;> simp [j0]
def pick1 {α : Type} (f : Nat → α) (which : Nat) (x : α) : Nat → α := fun i => if i = which then x else f i
/-- What lies in memory behind the copy of the sets, one of them another one now. -/
theorem sets_put {w w' : World} {qa : Nat → Option Addr} {qc : Nat → Nat} {L : List (List Cl)} {v : Value} {which : Nat} (hw : which < L.length) {so ca : Option Addr} {cl : List Cl} {cc : Nat} (hs : LQ w so qa qc L) (hc : CK w ca cl) (hown : w'.ownsRow w.heap.size 24 1 v (0 + L.length) ([] ++ cellsL qa qc L)) (hg : Below w.heap.size w w') :
    ∃ r cap x, v = .slice (some ⟨r, 0, none⟩) L.length cap ∧ w'.cell? ⟨r, which, none⟩ = some x ∧ (∀ i, w'.frozen? ⟨r, i, none⟩ = false) ∧ Below w.heap.size w (w'.setCell ⟨r, which, none⟩ (.slice ca cl.length cc)) ∧ LQ (w'.setCell ⟨r, which, none⟩ (.slice ca cl.length cc)) (some ⟨r, 0, none⟩) (pick1 qa which ca) (pick1 qc which cc) (L.set which cl) := by
  rw [Nat.zero_add, List.nil_append] at hown
  obtain ⟨hl, ⟨rfl, h0⟩ | ⟨r, cap, cur, rfl, q1, hgt, q2, q3, q4, q5⟩⟩ := hown
  · omega
  · have hI : IHolds w' r 24 cur.toList := by unfold IHolds; rw [hgt]
    have hcl : L.length ≤ cur.toList.length := by have e : cur.toList.length = cur.size := Array.length_toList; omega
    have B9 : Below w.heap.size w (w'.setCell ⟨r, which, none⟩ (.slice ca cl.length cc)) := hg.setCell q1 _
    refine ⟨r, cap, _, rfl, hI.cell which (by omega), hI.frozen, B9, fun i hi => ?_⟩
    have hi' : i < L.length := by simpa using hi
    have I9 := hI.set which (.slice ca cl.length cc)
    refine ⟨r, 0, rfl, ?_, ?_⟩
    · have c := I9.cell i (by rw [List.length_set]; omega)
      rw [Nat.zero_add, c]
      rw [List.getElem_set]
      by_cases e : which = i
      · subst e
        simp [pick1]
      · have e' : ¬ i = which := fun q => e q.symm
        rw [if_neg e]
        have e5 : (cur.toList.take (L.length * 1))[i]? = (cellsL qa qc L)[i]? := by rw [q5]
        rw [List.getElem?_take_of_lt (by omega), List.getElem?_eq_getElem (by omega), List.getElem?_eq_getElem (by rw [cellsL_len]; exact hi')] at e5
        have e6 := Option.some.inj e5
        rw [e6, List.getElem_set_ne e]
        simp [cellsL, pick1, e', hi']
    · by_cases e : which = i
      · subst e
        simpa [pick1] using hc.of_below B9
      · have e' : ¬ i = which := fun q => e q.symm
        obtain ⟨_, _, _, _, q⟩ := (hs.of_below B9) i hi'
        rw [List.getElem_set_ne e]
        simpa [pick1, e'] using q
theorem Tryz.info24' : (Tryz.prog.info? 24).map (fun i => (i.zero, i.size, i.bytes)) = some (some (.slice none 0 0), 1, 24) := by kernel_rfl
theorem Tryz.under38 : Tryz.prog.underlying 38 = some (.slice 24) := by kernel_rfl
set_option maxHeartbeats 4000000 in
theorem either_bad {w : World} {z : Int} {label ot seed : ByteArray} {sa : Option Addr} {n mp cs which sb so : Nat} {qa : Nat → Option Addr} {qc : Nat → Nat} {L : List (List Cl)} {cl : List Cl} (hn0 : 0 < n) (hn : n ≤ 64) (hcl : cl.length = n) (hL : L.length ≤ 16) (hw : which < L.length) (hs : LQ w (some ⟨sb, so, none⟩) qa qc L)
    (C5 : ∀ W, Calls Tryz.prog 5 #[] W fun e w' => e = .returned (.bool true) ∧ Below W.heap.size W w')
    (C6 : ∀ W, Below w.heap.size w W → Calls Tryz.prog 6 #[.int .i64 z, .string ot, .slice sa n mp] W fun e w' => (∃ a c, e = .returned (.slice a n c) ∧ CK w' a cl) ∧ Below W.heap.size W w')
    (C12 : ∀ W a c qa qc, Below w.heap.size w W → LQ W a qa qc (L.set which cl) → Calls Tryz.prog 12 #[.int .i64 z, .string label, .slice a L.length c, .int .i64 (which : Int), .slice sa n mp, .string seed] W fun e w' => (∃ k, Bad k ∧ e = .returned (.tuple #[.agg #[.slice none 0 0, .slice none 0 0], .int .i64 k])) ∧ Below W.heap.size W w') :
    Calls Tryz.prog 4 #[.int .i64 z, .string label, .slice (some ⟨sb, so, none⟩) L.length cs, .int .i64 (which : Int), .string ot, .slice sa n mp, .string seed] w fun e w' => e = .returned (.bool true) ∧ Below w.heap.size w w' := by
  obtain ⟨i0, hi0, hz0, hz1, hz2⟩ := info_parts Tryz.info24'
  have H5 : Hid (∀ W, Calls Tryz.prog 5 #[] W fun e w' => e = .returned (.bool true) ∧ Below W.heap.size W w') := C5
  have H6 : Hid (∀ W, Below w.heap.size w W → Calls Tryz.prog 6 #[.int .i64 z, .string ot, .slice sa n mp] W fun e w' => (∃ a c, e = .returned (.slice a n c) ∧ CK w' a cl) ∧ Below W.heap.size W w') := C6
  have H12 : Hid (∀ W a c qa qc, Below w.heap.size w W → LQ W a qa qc (L.set which cl) → Calls Tryz.prog 12 #[.int .i64 z, .string label, .slice a L.length c, .int .i64 (which : Int), .slice sa n mp, .string seed] W fun e w' => (∃ k, Bad k ∧ e = .returned (.tuple #[.agg #[.slice none 0 0, .slice none 0 0], .int .i64 k])) ∧ Below W.heap.size W w') := C12
  have HS : Hid (LQ w (some ⟨sb, so, none⟩) qa qc L) := hs
  have HN : Hid (cl.length = n) := hcl
  have b0 : ((n : Int) == 0) = false := beq_eq_false_iff_ne.2 (by omega)
  have b1 : ¬ (64 : Int) < (n : Int) := by omega
  have b2 : ¬ (16 : Int) < (L.length : Int) := by omega
  have b3 : ¬ ((which : Int) < 0) := by omega
  have b4 : ¬ ((L.length : Int) ≤ (which : Int)) := by omega
  have b5 : (which : Int) < (L.length : Int) := by omega
  have PUT : Hid (∀ (V V' : World) (v : Value) (ca : Option Addr) (cc : Nat), LQ V (some ⟨sb, so, none⟩) qa qc L → CK V ca cl → V'.ownsRow V.heap.size 24 1 v (0 + L.length) ([] ++ cellsL qa qc L) → Below V.heap.size V V' → ∃ r cap x, v = .slice (some ⟨r, 0, none⟩) L.length cap ∧ V'.cell? ⟨r, which, none⟩ = some x ∧ (∀ i, V'.frozen? ⟨r, i, none⟩ = false) ∧ Below V.heap.size V (V'.setCell ⟨r, which, none⟩ (.slice ca n cc)) ∧ ∃ qa' qc', LQ (V'.setCell ⟨r, which, none⟩ (.slice ca n cc)) (some ⟨r, 0, none⟩) qa' qc' (L.set which cl)) := fun V V' v ca cc h1 h2 h3 h4 => by
    obtain ⟨r, cap, x, g1, g2, g3, g4, g5⟩ := sets_put (cc := cc) hw h1 h2 h3 h4
    rw [hcl] at g4 g5
    exact ⟨r, cap, x, g1, g2, g3, g4, _, _, g5⟩
  have NWS : Hid (∀ V, LQ V (some ⟨sb, so, none⟩) qa qc L → ∀ j u, (cellsL qa qc L)[j]? = some u → V.cell? ((⟨sb, so, none⟩ : Addr).add j) = some u) := fun V h => cellsL_news h
  have NWL : Hid ((cellsL qa qc L).length = L.length * 1) := by show _ = _; rw [cellsL_len]; omega
  have NWO : Hid (∀ u ∈ cellsL qa qc L, u.oneCell' = true) := fun u hu => by
    simp only [cellsL, List.mem_map] at hu
    obtain ⟨_, _, rfl⟩ := hu
    rfl
  clear C5 C6 C12  hs hcl
  have hml : L.length ≤ maxLen := by unfold maxLen; omega
  have hLb : (0 + L.length) * 24 ≤ 140737488355328 := by omega
  generalize cellsL qa qc L = NW at *
  go_enter Tryz.func4, Tryz.ntmps4
  go_upto_region 7 with (first
    | (go_at_call 5; refine (H5.out _).mono ?_; rintro e V1 ⟨rfl, hB⟩; have B1 : Hid (Below w.heap.size w V1) := hB; clear hB H5)
    | (go_at_call 6; refine (H6.out _ B1.out).mono ?_; rintro e V2 ⟨⟨ca, cc, rfl, hC⟩, hB⟩; have B2 : Hid (Below w.heap.size w V2) := B1.out.trans (hB.mono B1.out.size); have K2 : Hid (CK V2 ca cl) := hC; have L2 : Hid (LQ V2 (some ⟨sb, so, none⟩) qa qc L) := HS.out.of_below B2.out; clear hC hB H6 B1 HS)
    | (at_builtin; refine wpList_append_own _ rfl (.const (.slice none 0 0)) (.tmp 48) 38 rfl V2.heap.size 24 i0 (.slice none 0 0) 1 24 Tryz.under38 hi0 hz0 hz1 hz2 rfl (by decide) (.slice none 0 0) 0 [] rfl ⟨rfl, Or.inl ⟨rfl, rfl⟩⟩ ⟨sb, so, none⟩ L.length cs NW rfl NWL.out (NWS.out _ L2.out) NWO.out (by rw [Nat.zero_add]; exact hml) hLb (Nat.le_refl _) ?_; intro v3 V3 hown hgrow hnn; have B3 : Hid (Below V2.heap.size V2 V3) := (Below.refl _ V2).grown hgrow (Nat.le_refl _) (fun k hk => by cases hk); obtain ⟨r, cap, x, rfl, hx, hf, hB4, qa', qc', hLQ⟩ := PUT.out _ _ _ ca cc L2.out K2.out hown B3.out; have B4 : Hid (Below w.heap.size w (V3.setCell ⟨r, which, none⟩ (.slice ca n cc))) := B2.out.trans (hB4.mono B2.out.size); have L4 : Hid (LQ (V3.setCell ⟨r, which, none⟩ (.slice ca n cc)) (some ⟨r, 0, none⟩) qa' qc' (L.set which cl)) := hLQ; clear hown hgrow hnn hB4 hLQ B3 B2 L2 K2 PUT NWS NWL NWO)
    | fail)
  go_upto_region 8 with fail
  generalize (V3.setCell ⟨r, which, none⟩ (.slice ca n cc)) = V4 at *
  clear hx hf
  have H12b : Hid (Calls Tryz.prog 12 #[.int .i64 z, .string label, .slice (some ⟨r, 0, none⟩) L.length cap, .int .i64 (which : Int), .slice sa n mp, .string seed] V4 fun e w' => (∃ k, (k == (0 : Int)) = false ∧ (k != (0 : Int)) = true ∧ Bad k ∧ e = .returned (.tuple #[.agg #[.slice none 0 0, .slice none 0 0], .int .i64 k])) ∧ Below V4.heap.size V4 w') := (H12.out _ _ _ _ _ B4.out L4.out).mono fun e w' ⟨⟨k, hk, h⟩, hB⟩ => ⟨⟨k, by rcases hk with rfl | rfl | rfl <;> rfl, by rcases hk with rfl | rfl | rfl <;> rfl, hk, h⟩, hB⟩
  clear H12
  go_upto_region 9 with (first
    | (go_at_call 12; refine (H12b.out).mono ?_; rintro e V5 ⟨⟨k, k0, k1, hk, rfl⟩, hB⟩; have KK : Hid (Bad k) := hk; have B5 : Hid (Below w.heap.size w V5) := B4.out.trans (hB.mono B4.out.size); clear hk hB H12b B4 L4)
    | fail)
  have B6 : Hid (Below w.heap.size w (V5.alloc (.cells #[.slice none 0 0, .slice none 0 0] 41))) := B5.out.alloc B5.out.size _
  generalize (V5.alloc (.cells #[.slice none 0 0, .slice none 0 0] 41)) = V6 at *
  have kk := KK.out
  rcases kk with rfl | rfl | rfl
  all_goals
    clear KK
    go_wp2_with fail
    go_ret
    exact ⟨rfl, B6.out⟩
set_option maxHeartbeats 4000000 in
theorem either_good {w : World} {z : Int} {label ot seed : ByteArray} {sa : Option Addr} {n mp cs which sb so : Nat} {qa : Nat → Option Addr} {qc : Nat → Nat} {L : List (List Cl)} {cl : List Cl} {CH : List ByteArray} {QQ : List (List ByteArray)} (hn0 : 0 < n) (hn : n ≤ 64) (hcl : cl.length = n) (hL : L.length ≤ 16) (hw : which < L.length) (hs : LQ w (some ⟨sb, so, none⟩) qa qc L)
    (C5 : ∀ W, Calls Tryz.prog 5 #[] W fun e w' => e = .returned (.bool true) ∧ Below W.heap.size W w')
    (C6 : ∀ W, Below w.heap.size w W → Calls Tryz.prog 6 #[.int .i64 z, .string ot, .slice sa n mp] W fun e w' => (∃ a c, e = .returned (.slice a n c) ∧ CK w' a cl) ∧ Below W.heap.size W w')
    (C12 : ∀ W a c qa qc, Below w.heap.size w W → LQ W a qa qc (L.set which cl) → Calls Tryz.prog 12 #[.int .i64 z, .string label, .slice a L.length c, .int .i64 (which : Int), .slice sa n mp, .string seed] W fun e w' => (∃ bc ba, e = .returned (.tuple #[.agg #[.slice (some ⟨bc, 0, none⟩) L.length L.length, .slice (some ⟨ba, 0, none⟩) L.length L.length], .int .i64 0]) ∧ SL w' (some ⟨bc, 0, none⟩) CH ∧ AN w' (some ⟨ba, 0, none⟩) QQ) ∧ Below W.heap.size W w')
    (C13 : ∀ W a c qa qc xa va, Below w.heap.size w W → LQ W a qa qc (L.set which cl) → SL W xa CH → AN W va QQ → Calls Tryz.prog 13 #[.int .i64 z, .string label, .slice a L.length c, .agg #[.slice xa L.length L.length, .slice va L.length L.length]] W fun e w' => e = .returned (.bool true) ∧ Below W.heap.size W w') :
    Calls Tryz.prog 4 #[.int .i64 z, .string label, .slice (some ⟨sb, so, none⟩) L.length cs, .int .i64 (which : Int), .string ot, .slice sa n mp, .string seed] w fun e w' => e = .returned (.bool true) ∧ Below w.heap.size w w' := by
  obtain ⟨i0, hi0, hz0, hz1, hz2⟩ := info_parts Tryz.info24'
  have H5 : Hid (∀ W, Calls Tryz.prog 5 #[] W fun e w' => e = .returned (.bool true) ∧ Below W.heap.size W w') := C5
  have H6 : Hid (∀ W, Below w.heap.size w W → Calls Tryz.prog 6 #[.int .i64 z, .string ot, .slice sa n mp] W fun e w' => (∃ a c, e = .returned (.slice a n c) ∧ CK w' a cl) ∧ Below W.heap.size W w') := C6
  have H12 : Hid (∀ W a c qa qc, Below w.heap.size w W → LQ W a qa qc (L.set which cl) → Calls Tryz.prog 12 #[.int .i64 z, .string label, .slice a L.length c, .int .i64 (which : Int), .slice sa n mp, .string seed] W fun e w' => (∃ bc ba, e = .returned (.tuple #[.agg #[.slice (some ⟨bc, 0, none⟩) L.length L.length, .slice (some ⟨ba, 0, none⟩) L.length L.length], .int .i64 0]) ∧ SL w' (some ⟨bc, 0, none⟩) CH ∧ AN w' (some ⟨ba, 0, none⟩) QQ) ∧ Below W.heap.size W w') := C12
  have H13 : Hid (∀ W a c qa qc xa va, Below w.heap.size w W → LQ W a qa qc (L.set which cl) → SL W xa CH → AN W va QQ → Calls Tryz.prog 13 #[.int .i64 z, .string label, .slice a L.length c, .agg #[.slice xa L.length L.length, .slice va L.length L.length]] W fun e w' => e = .returned (.bool true) ∧ Below W.heap.size W w') := C13
  have HS : Hid (LQ w (some ⟨sb, so, none⟩) qa qc L) := hs
  have HN : Hid (cl.length = n) := hcl
  have b0 : ((n : Int) == 0) = false := beq_eq_false_iff_ne.2 (by omega)
  have b1 : ¬ (64 : Int) < (n : Int) := by omega
  have b2 : ¬ (16 : Int) < (L.length : Int) := by omega
  have b3 : ¬ ((which : Int) < 0) := by omega
  have b4 : ¬ ((L.length : Int) ≤ (which : Int)) := by omega
  have b5 : (which : Int) < (L.length : Int) := by omega
  have PUT : Hid (∀ (V V' : World) (v : Value) (ca : Option Addr) (cc : Nat), LQ V (some ⟨sb, so, none⟩) qa qc L → CK V ca cl → V'.ownsRow V.heap.size 24 1 v (0 + L.length) ([] ++ cellsL qa qc L) → Below V.heap.size V V' → ∃ r cap x, v = .slice (some ⟨r, 0, none⟩) L.length cap ∧ V'.cell? ⟨r, which, none⟩ = some x ∧ (∀ i, V'.frozen? ⟨r, i, none⟩ = false) ∧ Below V.heap.size V (V'.setCell ⟨r, which, none⟩ (.slice ca n cc)) ∧ ∃ qa' qc', LQ (V'.setCell ⟨r, which, none⟩ (.slice ca n cc)) (some ⟨r, 0, none⟩) qa' qc' (L.set which cl)) := fun V V' v ca cc h1 h2 h3 h4 => by
    obtain ⟨r, cap, x, g1, g2, g3, g4, g5⟩ := sets_put (cc := cc) hw h1 h2 h3 h4
    rw [hcl] at g4 g5
    exact ⟨r, cap, x, g1, g2, g3, g4, _, _, g5⟩
  have NWS : Hid (∀ V, LQ V (some ⟨sb, so, none⟩) qa qc L → ∀ j u, (cellsL qa qc L)[j]? = some u → V.cell? ((⟨sb, so, none⟩ : Addr).add j) = some u) := fun V h => cellsL_news h
  have NWL : Hid ((cellsL qa qc L).length = L.length * 1) := by show _ = _; rw [cellsL_len]; omega
  have NWO : Hid (∀ u ∈ cellsL qa qc L, u.oneCell' = true) := fun u hu => by
    simp only [cellsL, List.mem_map] at hu
    obtain ⟨_, _, rfl⟩ := hu
    rfl
  clear C5 C6 C12 C13 hs hcl
  have hml : L.length ≤ maxLen := by unfold maxLen; omega
  have hLb : (0 + L.length) * 24 ≤ 140737488355328 := by omega
  generalize cellsL qa qc L = NW at *
  go_enter Tryz.func4, Tryz.ntmps4
  go_upto_region 7 with (first
    | (go_at_call 5; refine (H5.out _).mono ?_; rintro e V1 ⟨rfl, hB⟩; have B1 : Hid (Below w.heap.size w V1) := hB; clear hB H5)
    | (go_at_call 6; refine (H6.out _ B1.out).mono ?_; rintro e V2 ⟨⟨ca, cc, rfl, hC⟩, hB⟩; have B2 : Hid (Below w.heap.size w V2) := B1.out.trans (hB.mono B1.out.size); have K2 : Hid (CK V2 ca cl) := hC; have L2 : Hid (LQ V2 (some ⟨sb, so, none⟩) qa qc L) := HS.out.of_below B2.out; clear hC hB H6 B1 HS)
    | (at_builtin; refine wpList_append_own _ rfl (.const (.slice none 0 0)) (.tmp 48) 38 rfl V2.heap.size 24 i0 (.slice none 0 0) 1 24 Tryz.under38 hi0 hz0 hz1 hz2 rfl (by decide) (.slice none 0 0) 0 [] rfl ⟨rfl, Or.inl ⟨rfl, rfl⟩⟩ ⟨sb, so, none⟩ L.length cs NW rfl NWL.out (NWS.out _ L2.out) NWO.out (by rw [Nat.zero_add]; exact hml) hLb (Nat.le_refl _) ?_; intro v3 V3 hown hgrow hnn; have B3 : Hid (Below V2.heap.size V2 V3) := (Below.refl _ V2).grown hgrow (Nat.le_refl _) (fun k hk => by cases hk); obtain ⟨r, cap, x, rfl, hx, hf, hB4, qa', qc', hLQ⟩ := PUT.out _ _ _ ca cc L2.out K2.out hown B3.out; have B4 : Hid (Below w.heap.size w (V3.setCell ⟨r, which, none⟩ (.slice ca n cc))) := B2.out.trans (hB4.mono B2.out.size); have L4 : Hid (LQ (V3.setCell ⟨r, which, none⟩ (.slice ca n cc)) (some ⟨r, 0, none⟩) qa' qc' (L.set which cl)) := hLQ; clear hown hgrow hnn hB4 hLQ B3 B2 L2 K2 PUT NWS NWL NWO)
    | fail)
  go_upto_region 8 with fail
  generalize (V3.setCell ⟨r, which, none⟩ (.slice ca n cc)) = V4 at *
  clear hx hf
  go_upto_region 9 with (first
    | (go_at_call 12; refine (H12.out _ _ _ _ _ B4.out L4.out).mono ?_; rintro e V5 ⟨⟨bc, ba, rfl, hC, hQ⟩, hB⟩; have B5 : Hid (Below w.heap.size w V5) := B4.out.trans (hB.mono B4.out.size); have L5 : Hid (LQ V5 (some ⟨r, 0, none⟩) qa' qc' (L.set which cl)) := L4.out.of_below hB; have C5 : Hid (SL V5 (some ⟨bc, 0, none⟩) CH) := hC; have Q5 : Hid (AN V5 (some ⟨ba, 0, none⟩) QQ) := hQ; clear hC hQ hB H12 B4 L4)
    | fail)
  obtain ⟨X, hX⟩ : ∃ X, X = V5.alloc (.cells #[.slice (some ⟨bc, 0, none⟩) L.length L.length, .slice (some ⟨ba, 0, none⟩) L.length L.length] 41) := ⟨_, rfl⟩
  have BX : Hid (Below V5.heap.size V5 X) := by rw [hX]; exact (Below.refl _ _).alloc (Nat.le_refl _) _
  have JX : Hid (IHolds X V5.heap.size 41 [.slice (some ⟨bc, 0, none⟩) L.length L.length, .slice (some ⟨ba, 0, none⟩) L.length L.length]) := by rw [hX]; exact IHolds.new _ _ _
  have B6 : Hid (Below w.heap.size w X) := B5.out.trans (BX.out.mono B5.out.size)
  have L6 : Hid (LQ X (some ⟨r, 0, none⟩) qa' qc' (L.set which cl)) := L5.out.of_below BX.out
  have C6 : Hid (SL X (some ⟨bc, 0, none⟩) CH) := C5.out.of_below BX.out
  have Q6 : Hid (AN X (some ⟨ba, 0, none⟩) QQ) := Q5.out.of_below BX.out
  rw [← hX]
  have e0 := JX.out.cell 0 (by simp)
  have e1 := JX.out.cell 1 (by simp)
  generalize V5.heap.size = bl at *
  clear hX BX B5 L5 C5 Q5
  go_wp2_with (first
    | (go_at_call 13; refine (H13.out _ _ _ _ _ _ _ B6.out L6.out C6.out Q6.out).mono ?_; rintro e V7 ⟨rfl, hB⟩; have B7 : Hid (Below w.heap.size w V7) := B6.out.trans (hB.mono B6.out.size); clear hB H13 B6 L6 C6 Q6 e0 e1)
    | fail)
  go_ret
  exact ⟨rfl, B7.out⟩
end Go.Proofs.YtmpiipcllgjhdaaGreatDoor
namespace Go.Proofs.YtmpiipcllgjhdaaGreatDoor
open Go.RowKit Go.Deep Go.PlainAid

/-- How long lists of lists of claims are. -/
def LsB (L : List (List Cl)) : Prop := ∀ i (h : i < L.length), (L[i]'h).length ≤ 1048576 ∧ ∀ j (h2 : j < (L[i]'h).length), ((L[i]'h)[j]'h2).1.length ≤ 1048576 ∧ ((L[i]'h)[j]'h2).2.length ≤ 1048576
section
variable {z : Int} {G : Array Value} {S Wd M low one sq Ri Wd2 M2 low2 one2 sq2 Ri2 : Nat}
theorem LsB.set {L : List (List Cl)} (h : LsB L) {which A : Nat} {xs : List ByteArray} (hx : xs.length ≤ 64) : LsB (L.set which (cls S M M2 A xs)) := fun i hi => by
  have hi' : i < L.length := by simpa using hi
  by_cases e : which = i
  · subst e
    have ee : (L.set which (cls S M M2 A xs))[which]'hi = cls S M M2 A xs := List.getElem_set_self hi
    rw [ee]
    refine ⟨by rw [cls_len]; omega, fun j hj => by simp [cls]⟩
  · have ee : (L.set which (cls S M M2 A xs))[i]'hi = L[i]'hi' := List.getElem_set_ne e hi
    rw [ee]
    exact h i hi'
theorem either_kind (k : KD z G S Wd M low one sq Ri Wd2 M2 low2 one2 sq2 Ri2) (h : PK S M M2) (w : World) (hT : TT w) (label ot seed : ByteArray) (which : Int) (hlb : label.size < 1125899906842624) (hsd : seed.size < 1125899906842624) {sa ss : Option Addr} {ps cs : Nat} {xs : List ByteArray} {qa : Nat → Option Addr} {qc : Nat → Nat} {L : List (List Cl)} (hx : SL w sa xs) (hxl : xs.length ≤ 1048576) (hs : LQ w ss qa qc L) (hb : LsB L) :
    Calls Tryz.prog 4 #[.int .i64 z, .string label, .slice ss L.length cs, .int .i64 which, .string ot, .slice sa xs.length ps, .string seed] w fun e w' => e = .returned (.bool true) ∧ Below w.heap.size w w' := by
  cases hot : isEl S M ot with
  | false =>
    refine either_a (n := 0) rfl alive_any (fun W hW => (made12_no2 (fun V => BAS k h V) (fun V => MEM k hot V)).mono ?_)
    rintro e w' ⟨rfl, hB⟩
    exact ⟨⟨_, _, rfl⟩, hB⟩
  | true =>
    obtain ⟨A, hA, nA⟩ : ∃ A, EX S M M2 A = ot ∧ ¬ M2 ∣ A := ⟨numS ot, el_EX h hot, el_nd h hot⟩
    subst hA
    cases hall : xs.all (isSc S M) with
    | false =>
      refine either_a (n := 0) rfl alive_any (fun W hW => (MADE k h nA hxl (c := ps) (hx.of_below hW)).mono ?_)
      rintro e w' ⟨⟨hf, _⟩ | ⟨_, rfl⟩, hB⟩
      · rw [hall] at hf; cases hf
      · exact ⟨⟨_, _, rfl⟩, hB⟩
    | true =>
      have CC : ∀ W, Below w.heap.size w W → Calls Tryz.prog 6 #[.int .i64 z, .string (EX S M M2 A), .slice sa xs.length ps] W fun e w' => (∃ a c, e = .returned (.slice a xs.length c) ∧ CK w' a (cls S M M2 A xs)) ∧ Below W.heap.size W w' := fun W hW => by
        refine (MADE k h nA hxl (c := ps) (hx.of_below hW)).mono ?_
        rintro e w' ⟨⟨_, v, B, rfl, hm⟩ | ⟨hf, _⟩, hB⟩
        · obtain ⟨a, c, rfl, hcm⟩ := hm.ck
          exact ⟨⟨a, c, rfl, hcm⟩, hB⟩
        · rw [hall] at hf; cases hf
      have CE : ∀ W, Below w.heap.size w W → Calls Tryz.prog 6 #[.int .i64 z, .string (EX S M M2 A), .slice sa xs.length ps] W fun e w' => (∃ a c, e = .returned (.slice a xs.length c)) ∧ Below W.heap.size W w' := fun W hW => (CC W hW).mono (by
        rintro e w' ⟨⟨a, c, rfl, _⟩, hB⟩
        exact ⟨⟨_, _, rfl⟩, hB⟩)
      by_cases n0 : xs.length = 0
      · exact either_a n0 alive_any CE
      by_cases n64 : 64 < xs.length
      · exact either_b n64 alive_any CE
      have n64 : xs.length ≤ 64 := by omega
      by_cases n16 : 16 < L.length
      · exact either_c n0 n64 n16 alive_any CE
      have n16 : L.length ≤ 16 := by omega
      by_cases w0 : which < 0
      · exact either_d n0 n64 n16 w0 alive_any CE
      by_cases w1 : (L.length : Int) ≤ which
      · exact either_e n0 n64 n16 w0 w1 alive_any CE
      obtain ⟨wn, rfl⟩ : ∃ wn : Nat, which = (wn : Int) := ⟨which.toNat, by omega⟩
      have hw : wn < L.length := by omega
      obtain ⟨sb, so, rfl, _⟩ := hs 0 (by omega)
      obtain ⟨L', hL'⟩ : ∃ L', L' = L.set wn (cls S M M2 A xs) := ⟨_, rfl⟩
      have hl' : L'.length = L.length := by rw [hL', List.length_set]
      have hb' : LsB L' := by rw [hL']; exact hb.set n64
      have hw' : wn < L'.length := by omega
      have e' : L'[wn]'hw' = cls S M M2 A xs := by subst hL'; exact List.getElem_set_self _
      have hml : xs.length = (L'[wn]'hw').length := by rw [e', cls_len]
      have hold : (L'[wn]'hw').map Prod.snd = fsG S M M2 (L'[wn]'hw') xs := by rw [e']; exact cls_hold h A xs
      by_cases ok : ∀ l ∈ L', OkC (isEl S M) l
      · refine either_good (CH := chA z S M M2 L' wn label seed) (QQ := anA z S M M2 L' wn label seed xs) (cl := cls S M M2 A xs) (by omega) n64 (cls_len _ _ _ _ _) n16 hw hs alive_any CC ?_ ?_
        · intro W a c qa qc hW hq
          rw [← hL'] at hq
          have q := PANY k h (c := c) (c2 := ps) (by omega) hw' (hT.below hW) hlb hsd hq hb' ok (hx.of_below hW) hml hall hold
          rw [hl'] at q
          exact q
        · intro W a c qa qc xa va hW hq h1 h2
          rw [← hL'] at hq
          have q := VANY k h (c := c) (d := L.length) (f := L.length) (by omega) hw' (hT.below hW) hlb hq hb' ok hml hold h1 h2
          rw [hl'] at q
          exact q
      · refine either_bad (cl := cls S M M2 A xs) (by omega) n64 (cls_len _ _ _ _ _) n16 hw hs alive_any CC ?_
        intro W a c qa qc hW hq
        rw [← hL'] at hq
        refine proveAny12_bad (fun V hV => ?_)
        have q := SETS k (c := c) (by omega) (by omega) (hq.of_below hV) hb'
        rw [hl'] at q
        refine q.mono fun e w' ⟨q, hB⟩ => ?_
        rcases q with ⟨q, _⟩ | ⟨_, q⟩
        · exact absurd q ok
        · exact ⟨q, hB⟩
end
theorem either_walk (z : Int) (w : World) (hT : TT w) (label ot seed : ByteArray) (which : Int) (hlb : label.size < 1125899906842624) (hsd : seed.size < 1125899906842624) {sa ss : Option Addr} {ps cs : Nat} {xs : List ByteArray} {qa : Nat → Option Addr} {qc : Nat → Nat} {L : List (List Cl)} (hx : SL w sa xs) (hxl : xs.length ≤ 1048576) (hs : LQ w ss qa qc L) (hb : LsB L) :
    Calls Tryz.prog 4 #[.int .i64 z, .string label, .slice ss L.length cs, .int .i64 which, .string ot, .slice sa xs.length ps, .string seed] w fun e w' => e = .returned (.bool true) ∧ Below w.heap.size w w' := by
  by_cases z1 : z = 1
  · subst z1; exact either_kind kd1 pk1 w hT label ot seed which hlb hsd hx hxl hs hb
  by_cases z2 : z = 2
  · subst z2; exact either_kind kd2 pk2 w hT label ot seed which hlb hsd hx hxl hs hb
  by_cases z3 : z = 3
  · subst z3; exact either_kind kd3 pk3 w hT label ot seed which hlb hsd hx hxl hs hb
  have G := fun W => ground0 W z (beq_eq_false_iff_ne.2 z1) (beq_eq_false_iff_ne.2 z2) (beq_eq_false_iff_ne.2 z3)
  refine either_a (n := 0) rfl alive_any (fun W hW => (made12_no1 (c := 1) (by decide) (fun V => base_call (on48_no 34 rfl size70 (by kernel_rfl) G))).mono ?_)
  rintro e w' ⟨rfl, hB⟩
  exact ⟨⟨_, _, rfl⟩, hB⟩
end Go.Proofs.YtmpiipcllgjhdaaGreatDoor
namespace Go.Proofs.YtmpiipcllgjhdaaGreatDoor
open Go.ChangeShapes Go.WideShapes Go.ChangeAt Go.RowKit Go.ChangeMaps Go.Deep

theorem cells22 : Tryz.prog.cellsOf 22 = 1 := by kernel_rfl
theorem cells24 : Tryz.prog.cellsOf 24 = 1 := by kernel_rfl
theorem cells36 : Tryz.prog.cellsOf 36 = 2 := by kernel_rfl
theorem bulk_at {H : Type} : ∀ (ds : List (DataW H)) (i : Nat) (h : i < ds.length), Rows.uptoBulk ds[i] ≤ Rows.uptoBulkAll ds
  | [], i, h => by simp at h
  | d :: r, 0, h => by simp [Rows.uptoBulkAll]
  | d :: r, i + 1, h => by
    have := bulk_at r i (by simpa using h)
    simp only [Rows.uptoBulkAll, List.getElem_cons_succ]
    omega
theorem cells2 {w : World} {a : Addr} {cs : List Value} (h : w.cells? 0 a 2 = some cs) : ∃ x y, cs = [x, y] ∧ w.cell? (a.add 0) = some x ∧ w.cell? (a.add 1) = some y := by
  unfold World.cells? at h
  rw [if_pos (Nat.zero_le _), show List.range 2 = [0, 1] from rfl] at h
  simp only [List.mapM_cons, List.mapM_nil, Option.bind_eq_bind, Option.bind_eq_some_iff, Option.pure_def, Option.some.injEq] at h
  obtain ⟨x, hx, r, ⟨y, hy, r', rfl, rfl⟩, rfl⟩ := h
  exact ⟨x, y, rfl, hx, hy⟩
theorem room_in {H : Type} {enc : TypeId × Value → H} {W : World} {fuel : Nat} {a : Option Addr} {n c : Nat} {r : DataW H × List MemPlace} (h : DataW.trod enc Tryz.prog W 0 (fun _ => true) true fuel 22 [.slice a n c] = some r) : n ≤ c := by
  rcases DataW.trod_slice Tryz.underlying22 h with ⟨hcs, rfl⟩ | ⟨a, len, cap, elems, rest, n', hn', hcs, rfl, _, hlc, hcm, hel, hget, hsp, _⟩
  · simp only [List.cons.injEq, and_true, Value.slice.injEq] at hcs
    omega
  · simp only [List.cons.injEq, and_true, Value.slice.injEq] at hcs
    omega
/-- A claim that came in. -/
theorem claim_in {H : Type} {enc : TypeId × Value → H} {W : World} {fuel : Nat} {x z : Value} {r : DataW H × List MemPlace} (h : DataW.trod enc Tryz.prog W 0 (fun _ => true) true fuel 36 [x, z] = some r) :
    ∃ (t : Cl) (a1 a2 : Option Addr) (c1 c2 : Nat), x = .slice a1 t.1.length c1 ∧ z = .slice a2 t.2.length c2 ∧ SK W a1 c1 t.1 ∧ SK W a2 c2 t.2 ∧ t.1.length ≤ Rows.uptoBulk r.1 ∧ t.2.length ≤ Rows.uptoBulk r.1 := by
  obtain ⟨xs, n, hn, rfl, hl, hlen, hf⟩ := DataW.trod_struct Tryz.underlying36 h
  match xs, hlen with
  | [y0, y1], _ =>
    have h0 : DataW.trod enc Tryz.prog W 0 (fun _ => true) true n 22 [x] = some y0 := by simpa [cells22] using hf 0 _ rfl
    have h1 : DataW.trod enc Tryz.prog W 0 (fun _ => true) true n 22 [z] = some y1 := by simpa [cells22] using hf 1 _ rfl
    obtain ⟨l, a1, c1, rfl, hs1, hb1⟩ := strs_in h0
    obtain ⟨m, a2, c2, rfl, hs2, hb2⟩ := strs_in h1
    refine ⟨(l, m), a1, a2, c1, c2, rfl, rfl, ⟨hs1, room_in h0⟩, ⟨hs2, room_in h1⟩, ?_, ?_⟩
    · simp only [Rows.uptoBulk, Rows.uptoBulkAll, List.map_cons, List.map_nil]; omega
    · simp only [Rows.uptoBulk, Rows.uptoBulkAll, List.map_cons, List.map_nil]; omega
/-- A list of claims that came in. -/
theorem claims_in {H : Type} {enc : TypeId × Value → H} {W : World} {fuel : Nat} {z : Value} {r : DataW H × List MemPlace} (h : DataW.trod enc Tryz.prog W 0 (fun _ => true) true fuel 24 [z] = some r) :
    ∃ (l : List Cl) (a : Option Addr) (cap : Nat), z = .slice a l.length cap ∧ CK W a l ∧ l.length ≤ Rows.uptoBulk r.1 ∧ ∀ i (h : i < l.length), (l[i]).1.length ≤ Rows.uptoBulk r.1 ∧ (l[i]).2.length ≤ Rows.uptoBulk r.1 := by
  rcases DataW.trod_slice Tryz.underlying24 h with ⟨hcs, rfl⟩ | ⟨a, len, cap, elems, rest, n', hn', hcs, rfl, _, hlc, hcm, hel, hget, hsp, _⟩
  · simp only [List.cons.injEq, and_true] at hcs
    subst hcs
    exact ⟨[], none, 0, rfl, (fun i hi => by cases hi), by simp, (fun i hi => by cases hi)⟩
  · simp only [List.cons.injEq, and_true] at hcs
    subst hcs
    rw [cells36] at hget
    have each : ∀ i, i < len → ∃ q : Cl × (Option Addr × Nat) × (Option Addr × Nat), W.cell? ((a.add (i * 2)).add 0) = some (.slice q.2.1.1 q.1.1.length q.2.1.2) ∧ W.cell? ((a.add (i * 2)).add 1) = some (.slice q.2.2.1 q.1.2.length q.2.2.2) ∧ SK W q.2.1.1 q.2.1.2 q.1.1 ∧ SK W q.2.2.1 q.2.2.2 q.1.2 ∧ q.1.1.length ≤ Rows.uptoBulkAll (elems.map (·.1)) ∧ q.1.2.length ≤ Rows.uptoBulkAll (elems.map (·.1)) := by
      intro i hi
      have hi' : i < elems.length := by omega
      have hg := hget i hi
      rw [List.getElem?_eq_getElem hi', Option.bind_eq_some_iff] at hg
      obtain ⟨cs, hc1, hc2⟩ := hg
      obtain ⟨u0, u1, rfl, k0, k1⟩ := cells2 hc1
      obtain ⟨t, a1, a2, c1, c2, rfl, rfl, s1, s2, b1, b2⟩ := claim_in hc2
      have := bulk_at (elems.map (·.1)) i (by simpa using hi')
      rw [List.getElem_map] at this
      exact ⟨(t, (a1, c1), (a2, c2)), k0, k1, s1, s2, by simp only [] at b1 ⊢; omega, by simp only [] at b2 ⊢; omega⟩
    obtain ⟨Q, hQ⟩ := choose_lt each
    have eL : ∀ i (hi : i < ((List.range len).map fun i => (Q i).1).length), ((List.range len).map fun i => (Q i).1)[i] = (Q i).1 := fun i hi => by simp
    refine ⟨(List.range len).map fun i => (Q i).1, some a, cap, by simp, fun i hi => ?_, ?_, fun i hi => ?_⟩
    · have hi' : i < len := by simpa using hi
      obtain ⟨h0, h1, h2, h3, _⟩ := hQ i hi'
      obtain ⟨b, o, sp⟩ := a
      have hsp := World.cell?_spot (hQ 0 (by omega)).1
      simp [Addr.add] at hsp
      subst hsp
      rw [add_add] at h0 h1
      rw [eL i hi]
      exact ⟨b, o, (Q i).2.1.1, (Q i).2.1.2, (Q i).2.2.1, (Q i).2.2.2, rfl, by simpa using h0, h1, h2, h3⟩
    · have := bulk_len (elems.map (·.1))
      simp only [Rows.uptoBulk, List.length_map, List.length_range] at this ⊢
      omega
    · have hi' : i < len := by simpa using hi
      rw [eL i hi]
      have := (hQ i hi').2.2.2.2
      simp only [Rows.uptoBulk]
      omega
/-- A list of lists of claims that came in. -/
theorem sets_in {H : Type} {enc : TypeId × Value → H} {W : World} {fuel : Nat} {z : Value} {r : DataW H × List MemPlace} (h : DataW.trod enc Tryz.prog W 0 (fun _ => true) true fuel 38 [z] = some r) :
    ∃ (L : List (List Cl)) (a : Option Addr) (cap : Nat) (qa : Nat → Option Addr) (qc : Nat → Nat), z = .slice a L.length cap ∧ LQ W a qa qc L ∧ ∀ i (h : i < L.length), (L[i]'h).length ≤ Rows.uptoBulk r.1 ∧ ∀ j (h2 : j < (L[i]'h).length), ((L[i]'h)[j]'h2).1.length ≤ Rows.uptoBulk r.1 ∧ ((L[i]'h)[j]'h2).2.length ≤ Rows.uptoBulk r.1 := by
  rcases DataW.trod_slice Tryz.under38 h with ⟨hcs, rfl⟩ | ⟨a, len, cap, elems, rest, n', hn', hcs, rfl, _, hlc, hcm, hel, hget, hsp, _⟩
  · simp only [List.cons.injEq, and_true] at hcs
    subst hcs
    exact ⟨[], none, 0, fun _ => none, fun _ => 0, rfl, (fun i hi => by cases hi), (fun i hi => by cases hi)⟩
  · simp only [List.cons.injEq, and_true] at hcs
    subst hcs
    rw [cells24] at hget
    have each : ∀ i, i < len → ∃ q : List Cl × Option Addr × Nat, W.cell? ((a.add (i * 1)).add 0) = some (.slice q.2.1 q.1.length q.2.2) ∧ CK W q.2.1 q.1 ∧ q.1.length ≤ Rows.uptoBulkAll (elems.map (·.1)) ∧ ∀ j (h2 : j < q.1.length), (q.1[j]'h2).1.length ≤ Rows.uptoBulkAll (elems.map (·.1)) ∧ (q.1[j]'h2).2.length ≤ Rows.uptoBulkAll (elems.map (·.1)) := by
      intro i hi
      have hi' : i < elems.length := by omega
      have hg := hget i hi
      rw [List.getElem?_eq_getElem hi', Option.bind_eq_some_iff] at hg
      obtain ⟨cs, hc1, hc2⟩ := hg
      obtain ⟨u0, rfl, k0⟩ := cells1 hc1
      obtain ⟨l, a', c', rfl, hl, hb, hb2⟩ := claims_in hc2
      have := bulk_at (elems.map (·.1)) i (by simpa using hi')
      rw [List.getElem_map] at this
      refine ⟨(l, a', c'), k0, hl, by simp only [] at hb ⊢; omega, fun j hj => ?_⟩
      have := hb2 j hj
      simp only [] at this ⊢
      omega
    obtain ⟨Q, hQ⟩ := choose_lt each
    have eL : ∀ i (hi : i < ((List.range len).map fun i => (Q i).1).length), ((List.range len).map fun i => (Q i).1)[i] = (Q i).1 := fun i hi => by simp
    refine ⟨(List.range len).map fun i => (Q i).1, some a, cap, fun i => (Q i).2.1, fun i => (Q i).2.2, by simp, fun i hi => ?_, fun i hi => ?_⟩
    · have hi' : i < len := by simpa using hi
      obtain ⟨h0, h1, _⟩ := hQ i hi'
      obtain ⟨b, o, sp⟩ := a
      have hsp := World.cell?_spot (hQ 0 (by omega)).1
      simp [Addr.add] at hsp
      subst hsp
      rw [add_add] at h0
      rw [eL i hi]
      exact ⟨b, o, rfl, by simpa using h0, h1⟩
    · have hi' : i < len := by simpa using hi
      have q := (hQ i hi').2.2
      simp only [List.getElem_map, List.getElem_range, Rows.uptoBulk]
      exact ⟨by omega, fun j hj => by have := q.2 j hj; omega⟩
end Go.Proofs.YtmpiipcllgjhdaaGreatDoor
