/- Boxes: sorted. -/
import Derived.Test.YtafekaonmpkhiaaCr
import Derived.Shelf.Small.Bits
set_option linter.unusedSimpArgs false
set_option linter.unusedVariables false
set_option maxRecDepth 100000
namespace Go.Proofs.Ytafekaonmpkhiaa
open Go.Shelf Go.Sort Go.Lib Go.RowKit Go.Deep Go.PlainAid

def lenP_ren : Go.Shelf.Ren := ⟨fun | 125 => 40 | 128 => 51 | 129 => 52 | n => n, fun | 46 => 81 | 3 => 3 | 51 => 91 | 53 => 93 | 4 => 4 | 5 => 5 | 9 => 9 | n => n, fun | n => n⟩
theorem lenP : Go.Proofs.Lays.n125 Try.prog lenP_ren := {
  mixed := by kernel_rfl
  f125 := Try.func40.trans (congrArg some (by kernel_rfl))
  f128 := Try.func51.trans (congrArg some (by kernel_rfl))
  f129 := Try.func52.trans (congrArg some (by kernel_rfl))
  t3 := Try.underlying3
  a3 := Try.isAgg3
  z3 := Try.sizeOf3
  v3 := Try.zeroValue3
  t4 := Try.underlying4
  a4 := Try.isAgg4
  z4 := Try.sizeOf4
  v4 := Try.zeroValue4
  t5 := Try.underlying5
  a5 := Try.isAgg5
  z5 := Try.sizeOf5
  v5 := Try.zeroValue5
  t9 := Try.underlying9
  a9 := Try.isAgg9
  z9 := Try.sizeOf9
  v9 := Try.zeroValue9
  t46 := Try.underlying81
  a46 := Try.isAgg81
  z46 := Try.sizeOf81
  v46 := Try.zeroValue81
  t51 := Try.underlying91
  a51 := Try.isAgg91
  z51 := Try.sizeOf91
  v51 := Try.zeroValue91
  t53 := Try.underlying93
  a53 := Try.isAgg93
  z53 := Try.sizeOf93
  v53 := Try.zeroValue93 }
theorem len40 (w : World) : Calls Try.prog 40 #[.int .u64 0] w fun e w' => e = .returned (.int .i64 0) ∧ w' = w := by
  have h := Any.bits_Len lenP 0 w (by omega) (by omega)
  exact h
set_option maxHeartbeats 2000000 in
theorem ins43_none (p : Option Addr) (cap : Nat) (fv : Value) (w : World) : Calls Try.prog 43 #[.slice p 0 cap, .int .i64 0, .int .i64 0, fv] w fun e w' => e = .returned (.tuple #[]) ∧ w' = w := by
  go_enter Try.func43, Try.ntmps43
  go_wp2
  refine wp_loop_rounds 1 ?_
  rw [rounds_succ]
  go_wp2
  go_end0
  exact ⟨rfl, rfl⟩
set_option maxHeartbeats 2000000 in
theorem pdq39_none (p : Option Addr) (cap : Nat) (lim : Int) (fv : Value) (w : World) : Calls Try.prog 39 #[.slice p 0 cap, .int .i64 0, .int .i64 0, .int .i64 lim, fv] w fun e w' => e = .returned (.tuple #[]) ∧ w' = w := by
  have hi := fun W => ins43_none p cap fv W
  go_enter Try.func39, Try.ntmps39
  go_wp2
  refine wp_loop_rounds 1 ?_
  rw [rounds_succ]
  go_wp2_with (go_at_call 43; refine (hi _).mono ?_; rintro e w' ⟨rfl, rfl⟩)
  refine bodyPost_ret (results_none rfl _ _ _) rfl ?_
  exact ⟨rfl, rfl⟩
set_option maxHeartbeats 2000000 in
theorem sort34_none (p : Option Addr) (cap : Nat) (fv : Value) (w : World) : Calls Try.prog 34 #[.slice p 0 cap, fv] w fun e w' => e = .returned (.tuple #[]) ∧ w' = w := by
  have hp := fun lim W => pdq39_none p cap lim fv W
  have hl := len40
  go_enter Try.func34, Try.ntmps34
  go_wp2_with (go_at_call 40; refine (hl _).mono ?_)
  rintro e w' ⟨rfl, rfl⟩
  go_wp2_with (go_at_call 39; refine (hp _ _).mono ?_)
  rintro e w' ⟨rfl, rfl⟩
  go_wp2_with fail
  go_end0
  exact ⟨rfl, rfl⟩
theorem rowsB_get (l : List Hd) : ∀ (ns : List ByteArray) (i j : Nat) (hi : i < ns.length) (hj : j < 4), (rowsB l ns)[i * 4 + j]? = some ((encB l ns[i])[j]'(by rw [encB_len]; exact hj))
  | [], i, j, hi, _ => by cases hi
  | a :: t, 0, j, _, hj => by
    show (encB l a ++ rowsB l t)[0 * 4 + j]? = _
    rw [List.getElem?_append_left (by rw [encB_len]; omega), Nat.zero_mul, Nat.zero_add, List.getElem?_eq_getElem]
    rfl
  | a :: t, i + 1, j, hi, hj => by
    show (encB l a ++ rowsB l t)[(i + 1) * 4 + j]? = _
    rw [List.getElem?_append_right (by rw [encB_len]; omega), encB_len, show (i + 1) * 4 + j - 4 = i * 4 + j by omega, rowsB_get l t i j (by simpa using hi) hj]
    rfl
theorem flat_get (l : List Hd) (ns : List ByteArray) (i j : Nat) (hi : i < ns.length) (hj : j < 4) : (flatK (encB l) 4 ns.toArray)[i * 4 + j]! = (encB l ns[i])[j]'(by rw [encB_len]; exact hj) := by
  rw [get_flatK _ _ _ _ (by simp; omega), show (i * 4 + j) / 4 = i by omega, show (i * 4 + j) % 4 = j by omega]
  have e1 : (ns.toArray)[i]! = ns[i] := by simp [hi]
  rw [e1, getElem!_pos _ j (by rw [encB_len]; exact hj)]
/-- Batches, as they lie. -/
def BL (V : World) (v : Value) (l : List Hd) (ns : List ByteArray) : Prop := ∃ a c, v = .slice a ns.length c ∧ ∀ i (hi : i < ns.length) j (hj : j < 4), ∃ b o, a = some ⟨b, o, none⟩ ∧ V.cell? ⟨b, o + (i * 4 + j), none⟩ = some ((encB l ns[i])[j]'(by rw [encB_len]; exact hj))
theorem BL.of_below {V V' : World} {v : Value} {l : List Hd} {ns : List ByteArray} (h : BL V v l ns) (hb : Below V.heap.size V V') : BL V' v l ns := by
  obtain ⟨a, c, e, q⟩ := h
  exact ⟨a, c, e, fun i hi j hj => by obtain ⟨b, o, e1, e2⟩ := q i hi j hj; exact ⟨b, o, e1, cell_keep e2 hb⟩⟩
theorem below_sortK {V U : World} {r : Nat} (enc : ByteArray → List Value) {g n : Nat} {d : Array ByteArray} {os : Array Obj} (h : Below r U V) (hg : r ≤ g) (hr : r ≤ V.heap.size) : Below r U (sortWorldK enc 4 V g 0 n d os) := by
  refine ⟨h.os, h.tape, h.output, ?_, fun k hk => ?_⟩
  · have := h.size
    show U.heap.size ≤ (V.heap.modify g _ ++ os).size
    simp; omega
  · have e : (sortWorldK enc 4 V g 0 n d os).heap[k]? = V.heap[k]? := by
      show (V.heap.modify g _ ++ os)[k]? = _
      rw [Array.getElem?_append_left (by simp; omega), Array.getElem?_modify, if_neg (by omega)]
    rw [e]; exact h.block k hk
theorem sort_all {l : List Hd} {ns : List ByteArray} {v : Value} {U V : World} {r : Nat} (h9 : ns.length ≤ 256) (ho : V.ownsRow (r + 1) 38 4 v ns.length (rowsB l ns)) (hb : Below r U V) (hr : r + 1 ≤ V.heap.size) :
    Calls Try.prog 34 #[v, .func (.func 35) #[] #[]] V fun e w' => e = .returned (.tuple #[]) ∧ ∃ a c, v = .slice a ns.length c ∧ Below r U w' ∧ BL w' v l (sn ns) := by
  have sl : (sn ns).length = ns.length := (sn_perm ns).length_eq
  obtain ⟨hlen, ⟨rfl, h0⟩ | ⟨g, cap, cur, rfl, hbg, hg, hc, hm, hs, ht⟩⟩ := ho
  · have e : ns = [] := List.eq_nil_of_length_eq_zero h0
    subst e
    refine (sort34_none none 0 _ V).mono ?_
    rintro e w' ⟨rfl, rfl⟩
    exact ⟨rfl, none, 0, rfl, hb, none, 0, by simp [sn], fun i hi => by simp [sn] at hi⟩
  · have gl : g < V.heap.size := (Array.getElem?_eq_some_iff.1 hg).1
    have hH : HoldsK (encB l) 4 V g 0 ns.toArray := by
      intro t ht2
      have ht3 : t < ns.length * 4 := by simpa using ht2
      have q := rowsB_get l ns (t / 4) (t % 4) (by omega) (by omega)
      have q2 := flat_get l ns (t / 4) (t % 4) (by omega) (by omega)
      rw [show t / 4 * 4 + t % 4 = t by omega] at q q2
      rw [← ht, List.getElem?_take, if_pos ht3] at q
      refine ⟨?_, ?_⟩
      · show V.cell? ⟨g, 0 + t, none⟩ = some ((flatK (encB l) 4 ns.toArray)[t]!)
        rw [q2, ← q]
        simp [World.cell?, hg]
      · simp [World.frozen?, hg]
    refine (sort34 (cap := cap) hH gl h9).mono ?_
    rintro e w' ⟨rfl, n, os, rfl⟩
    have hK := holdsK_sortWorldK_c (encB l) 4 V g 0 ns.toArray (sn ns).toArray n os hH gl (by simp [sl])
    refine ⟨rfl, some ⟨g, 0, none⟩, cap, rfl, below_sortK _ hb (by omega) (by omega), some ⟨g, 0, none⟩, cap, by rw [sl], fun i hi j hj => ⟨g, 0, rfl, ?_⟩⟩
    have z := (hK (i * 4 + j) (by simp; omega)).1
    have q2 := flat_get l (sn ns) i j hi hj
    rw [← q2]
    exact z
end Go.Proofs.Ytafekaonmpkhiaa
