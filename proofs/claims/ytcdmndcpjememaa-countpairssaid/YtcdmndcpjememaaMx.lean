/- Squares of numbers in memory. -/
import Derived.Test.YtcdmndcpjememaaRef
import Derived.Test.YtcdmndcpjememaaPm
set_option linter.unusedSimpArgs false
set_option linter.unusedVariables false
set_option maxRecDepth 100000
namespace Go.Proofs.Ytcdmndcpjememaa
open Go.RowKit Go.Deep Go.PlainAid

theorem IHolds.alloc {w : World} {b : Nat} {t : TypeId} {l : List Value} (h : IHolds w b t l) (o : Obj) : IHolds (w.alloc o) b t l := h.of_below ((Below.refl _ _).alloc (Nat.le_refl _) _)
theorem IHolds.store {w : World} {b b' : Nat} {T : TypeId} {V : List Value} (h : IHolds w b' T V) (hne : b' ≠ b) (i : Nat) (u : Value) : IHolds (w.setCell ⟨b, i, none⟩ u) b' T V := by
  unfold IHolds at *
  simp [World.setCell, Array.getElem?_modify, h, Ne.symm hne]
theorem IHolds.drewN {w : World} {b : Nat} {t : TypeId} {l : List Value} (h : IHolds w b t l) (n : Nat) : IHolds (w.drewN n) b t l := h
/-- n numbers. -/
def IR (w : World) (a : Option Addr) (n : Nat) (f : Nat → Int) : Prop := ∀ j, j < n → ∃ b o, a = some ⟨b, o, none⟩ ∧ w.cell? ⟨b, o + j, none⟩ = some (.int .i64 (f j))
theorem IR.of_below {w w' : World} {a : Option Addr} {n : Nat} {f : Nat → Int} (h : IR w a n f) (hb : Below w.heap.size w w') : IR w' a n f := fun j hj => by
  obtain ⟨b, o, e, hc⟩ := h j hj
  exact ⟨b, o, e, cell_keep hc hb⟩
theorem IL.ir {w : World} {a : Option Addr} {l : List Int} (h : IL w a l) : IR w a l.length (fun j => l.getD j 0) := fun j hj => by
  obtain ⟨b, o, e, hc⟩ := h j hj
  exact ⟨b, o, e, by simpa [hj] using hc⟩
theorem IR.il {w : World} {a : Option Addr} {n : Nat} {f : Nat → Int} (h : IR w a n f) : IL w a ((List.range n).map f) := fun i hi => by
  obtain ⟨b, o, e, hc⟩ := h i (by simpa using hi)
  exact ⟨b, o, e, by simpa using hc⟩
/-- A square of numbers. -/
def SQ (w : World) (a : Option Addr) (n : Nat) (P : Mt) : Prop := ∀ i, i < n → ∃ b o a' c, a = some ⟨b, o, none⟩ ∧ w.cell? ⟨b, o + i, none⟩ = some (.slice a' n c) ∧ IR w a' n (P i)
theorem SQ.of_below {w w' : World} {a : Option Addr} {n : Nat} {P : Mt} (h : SQ w a n P) (hb : Below w.heap.size w w') : SQ w' a n P := fun i hi => by
  obtain ⟨b, o, a', c, e, hc, hr⟩ := h i hi
  exact ⟨b, o, a', c, e, cell_keep hc hb, hr.of_below hb⟩
set_option maxHeartbeats 1000000 in
theorem beats40 {w : World} {a : Option Addr} {n c i j : Nat} {P : Mt} (hs : SQ w a n P) (hi : i < n) (hj : j < n) :
    Calls Try.prog 40 #[.slice a n c, .int .i64 (i : Int), .int .i64 (j : Int)] w fun e w' => e = .returned (.bool (decide (P j i < P i j))) ∧ Below w.heap.size w w' := by
  obtain ⟨b, o, a1, c1, rfl, h1, r1⟩ := hs i hi
  obtain ⟨b', o', a2, c2, e, h2, r2⟩ := hs j hj
  cases e
  obtain ⟨b1, o1, rfl, q1⟩ := r1 j hj
  obtain ⟨b2, o2, rfl, q2⟩ := r2 i hi
  have il : (i : Int) < (n : Int) := by omega
  have jl : (j : Int) < (n : Int) := by omega
  clear r1 r2 hs
  generalize P i j = x at *
  generalize P j i = y at *
  go_enter Try.func40, Try.ntmps40
  go_wp2_with fail
  go_quiet (fail)
  have BQ : Hid (Below w.heap.size w (World.drewN w nq)) := ⟨rfl, rfl, rfl, Nat.le_refl _, fun _ _ => rfl⟩
  clear h1 h2 q1 q2
  generalize World.drewN w nq = wq at *
  go_wp2_with fail
  go_ret
  exact ⟨rfl, BQ.out⟩
/-- Headers of rows, the first k laid. -/
def hd (b n k : Nat) : List Value := (List.range n).map fun i => if i < k then .slice (some ⟨b + 1 + i, 0, none⟩) n n else .slice none 0 0
theorem hd_len (b n k : Nat) : (hd b n k).length = n := by simp [hd]
theorem hd_set {b n k : Nat} (h : k < n) : (hd b n k).set k (.slice (some ⟨b + 1 + k, 0, none⟩) n n) = hd b n (k + 1) := by
  refine List.ext_getElem (by simp [hd]) (fun i h1 h2 => ?_)
  rw [List.getElem_set]
  by_cases e : k = i
  · subst e; simp [hd]
  · rw [if_neg e]
    simp only [hd, List.getElem_map, List.getElem_range]
    by_cases q : i < k
    · rw [if_pos q, if_pos (by omega)]
    · rw [if_neg q, if_neg (by omega)]
def rowV (n : Nat) (f : Nat → Int) : List Value := (List.range n).map fun j => Value.int .i64 (f j)
theorem rowV_len (n : Nat) (f : Nat → Int) : (rowV n f).length = n := by simp [rowV]
theorem rowV_at {n : Nat} {f : Nat → Int} {j : Nat} (h : j < n) (h' : j < (rowV n f).length) : (rowV n f)[j] = .int .i64 (f j) := by simp [rowV]
/-- A square that the call made: its rows lie one behind the other. -/
structure MX (w : World) (b n : Nat) (M : Mt) : Prop where
  top : IHolds w b 31 (hd b n n)
  row : ∀ i, i < n → IHolds w (b + 1 + i) 3 (rowV n (M i))
theorem MX.of_below {w w' : World} {b n : Nat} {M : Mt} (h : MX w b n M) (hb : Below w.heap.size w w') : MX w' b n M := ⟨h.top.of_below hb, fun i hi => (h.row i hi).of_below hb⟩
theorem MX.hdr {w : World} {b n : Nat} {M : Mt} (h : MX w b n M) {i : Nat} (hi : i < n) : w.cell? ⟨b, i, none⟩ = some (.slice (some ⟨b + 1 + i, 0, none⟩) n n) := by
  have := h.top.cell i (by rw [hd_len]; exact hi)
  rw [this]
  simp [hd, hi]
theorem MX.at {w : World} {b n : Nat} {M : Mt} (h : MX w b n M) {i j : Nat} (hi : i < n) (hj : j < n) : w.cell? ⟨b + 1 + i, j, none⟩ = some (.int .i64 (M i j)) := by
  have := (h.row i hi).cell j (by rw [rowV_len]; exact hj)
  rw [this, rowV_at hj]
theorem MX.set {w : World} {b n : Nat} {M : Mt} (h : MX w b n M) {i j : Nat} (hi : i < n) (hj : j < n) (x : Int) : MX (w.setCell ⟨b + 1 + i, j, none⟩ (.int .i64 x)) b n (upd M i j x) := by
  refine ⟨h.top.store (by omega) _ _, fun k hk => ?_⟩
  by_cases e : k = i
  · subst e
    have q := (h.row k hk).set j (.int .i64 x)
    have e2 : (rowV n (M k)).set j (.int .i64 x) = rowV n (upd M k j x k) := by
      refine List.ext_getElem (by simp [rowV]) (fun a h1 h2 => ?_)
      rw [List.getElem_set]
      by_cases e : j = a
      · subst e; simp [rowV, upd]
      · rw [if_neg e]
        have e' : ¬ a = j := fun q => e q.symm
        simp [rowV, upd, e']
    rw [e2] at q
    exact q
  · have e2 : rowV n (upd M i j x k) = rowV n (M k) := by
      unfold rowV upd
      simp [e]
    rw [e2]
    exact (h.row k hk).store (by omega) _ _
theorem MX.sq {w : World} {b n : Nat} {M : Mt} (h : MX w b n M) : SQ w (some ⟨b, 0, none⟩) n M := fun i hi => by
  refine ⟨b, 0, _, n, rfl, by rw [Nat.zero_add]; exact h.hdr hi, fun j hj => ⟨_, _, rfl, ?_⟩⟩
  rw [Nat.zero_add]
  exact h.at hi hj
theorem Try.info31 : (Try.prog.info? 31).map (fun i => (i.zero, i.size, i.bytes)) = some (some (.slice none 0 0), 1, 24) := by kernel_rfl
theorem Try.info3 : (Try.prog.info? 3).map (fun i => (i.zero, i.size, i.bytes)) = some (some (.int .i64 0), 1, 8) := by kernel_rfl
theorem Try.under25 : Try.prog.underlying 25 = some (.slice 31) := by kernel_rfl
theorem Try.under31 : Try.prog.underlying 31 = some (.slice 3) := by kernel_rfl
theorem make25 (n : Nat) (hn : n ≤ 4294967296) (w : World) : (Instr.makeSlice 25 (.int .i64 (n : Int)) (.int .i64 (n : Int))).run Try.prog w = .ok (.slice (some ⟨w.heap.size, 0, none⟩) n n) (w.alloc (.cells (hd w.heap.size n 0).toArray 31)) := by
  have := run_make_row' (P := Try.prog) 25 31 (.slice none 0 0) 24 Try.under25 Try.info31 rfl .i64 .i64 n (by omega) (by omega) w
  rw [this]
  have e : madeCells #[.slice none 0 0] n = (hd w.heap.size n 0).toArray := by
    apply Array.toList_inj.1
    rw [toList_madeCells_one]
    refine List.ext_getElem (by simp [hd]) (fun i h1 h2 => by simp [hd])
  rw [e]
theorem make31 (n : Nat) (hn : n ≤ 4294967296) (w : World) : (Instr.makeSlice 31 (.int .i64 (n : Int)) (.int .i64 (n : Int))).run Try.prog w = .ok (.slice (some ⟨w.heap.size, 0, none⟩) n n) (w.alloc (.cells (rowV n (fun _ => 0)).toArray 3)) := by
  have := run_make_row' (P := Try.prog) 31 3 (.int .i64 0) 8 Try.under31 Try.info3 rfl .i64 .i64 n (by omega) (by omega) w
  rw [this]
  have e : madeCells #[.int .i64 0] n = (rowV n (fun _ => 0)).toArray := by
    apply Array.toList_inj.1
    rw [toList_madeCells_one]
    refine List.ext_getElem (by simp [rowV]) (fun i h1 h2 => by simp [rowV])
  rw [e]
/-- What holds while rows are laid. -/
structure ZR (w : World) (n i : Nat) (wr : World) : Prop where
  size : wr.heap.size = w.heap.size + 1 + i
  top : IHolds wr w.heap.size 31 (hd w.heap.size n i)
  row : ∀ k, k < i → IHolds wr (w.heap.size + 1 + k) 3 (rowV n (fun _ => 0))
  below : Below w.heap.size w wr
theorem ZR.start (w : World) (n : Nat) : ZR w n 0 (w.alloc (.cells (hd w.heap.size n 0).toArray 31)) := ⟨by simp, IHolds.new _ _ _, fun k hk => by omega, (Below.refl _ _).alloc (Nat.le_refl _) _⟩
theorem ZR.step {w : World} {n i : Nat} {wr : World} (h : ZR w n i wr) (hi : i < n) : ZR w n (i + 1) ((wr.alloc (.cells (rowV n (fun _ => 0)).toArray 3)).setCell ⟨w.heap.size, i, none⟩ (.slice (some ⟨wr.heap.size, 0, none⟩) n n)) := by
  have hs := h.size
  refine ⟨by simp [World.setCell]; omega, ?_, fun k hk => ?_, (h.below.alloc h.below.size _).setCell (Nat.le_refl _) _⟩
  · have q := (h.top.alloc (.cells (rowV n (fun _ => 0)).toArray 3)).set i (.slice (some ⟨wr.heap.size, 0, none⟩) n n)
    rw [hs, hd_set hi, ← hs] at q
    rw [hs] at q ⊢
    exact q
  · refine IHolds.store ?_ (by omega) _ _
    by_cases e : k = i
    · subst e
      rw [← hs]
      exact IHolds.new _ _ _
    · exact (h.row k (by omega)).alloc _
theorem ZR.done {w : World} {n : Nat} {wr : World} (h : ZR w n n wr) : MX wr w.heap.size n (fun _ _ => 0) := ⟨h.top, h.row⟩
set_option maxHeartbeats 1000000 in
theorem zeros24 {w : World} {n : Nat} (hn : n ≤ 12) :
    Calls Try.prog 24 #[.int .i64 (n : Int)] w fun e w' => e = .returned (.slice (some ⟨w.heap.size, 0, none⟩) n n) ∧ MX w' w.heap.size n (fun _ _ => 0) ∧ Below w.heap.size w w' := by
  have M1 := make25 n (by omega) w
  have M2 : Hid (∀ W, (Instr.makeSlice 31 (.int .i64 (n : Int)) (.int .i64 (n : Int))).run Try.prog W = .ok (.slice (some ⟨W.heap.size, 0, none⟩) n n) (W.alloc (.cells (rowV n (fun _ => 0)).toArray 3))) := fun W => make31 n (by omega) W
  have Z0 : Hid (ZR w n 0 (w.alloc (.cells (hd w.heap.size n 0).toArray 31))) := ZR.start w n
  go_enter Try.func24, Try.ntmps24
  go_wp2_with fail
  generalize w.alloc (.cells (hd w.heap.size n 0).toArray 31) = U at *
  clear M1
  go_loopg [4, 9] n (fun gk v4 v9 wr => ∃ i : Nat, i + gk = n ∧ v9 = .int .i64 (i : Int) ∧ ZR w n i wr)
  case atStart => exact ⟨0, by omega, rfl, Z0.out⟩
  case round =>
    obtain ⟨i, hig, rfl, hZ⟩ := hrel
    have Z : Hid (ZR w n i wr) := hZ
    clear hZ Z0
    by_cases hi : i < n
    · have il : (i : Int) < (n : Int) := by omega
      have m2 := M2.out wr
      have c := (Z.out.top.alloc (.cells (rowV n (fun _ => 0)).toArray 3)).cell i (by rw [hd_len]; exact hi)
      have f := (Z.out.top.alloc (.cells (rowV n (fun _ => 0)).toArray 3)).frozen i
      have Z1 : Hid (ZR w n (i + 1) ((wr.alloc (.cells (rowV n (fun _ => 0)).toArray 3)).setCell ⟨w.heap.size, i, none⟩ (.slice (some ⟨wr.heap.size, 0, none⟩) n n))) := Z.out.step hi
      generalize (hd w.heap.size n i)[i]'(by rw [hd_len]; exact hi) = x at *
      generalize (wr.alloc (.cells (rowV n (fun _ => 0)).toArray 3)) = V at *
      go_wp2_with fail
      go_roundg (gk - 1)
      case measure => omega
      case rel => exact ⟨i + 1, by omega, by go_num, Z1.out⟩
    · have il : ¬ (i : Int) < (n : Int) := by omega
      have e : i = n := by omega
      subst e
      go_wp2_with fail
      go_ret
      exact ⟨rfl, Z.out.done, Z.out.below⟩
end Go.Proofs.Ytcdmndcpjememaa
