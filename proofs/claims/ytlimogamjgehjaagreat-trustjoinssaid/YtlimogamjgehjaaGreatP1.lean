/- Products of powers: lists, and what is wrong with them. The product of the powers of what two lists hold. Product: the closure and the face. -/
import Derived.Test.YtlimogamjgehjaaGreatElemV
import Derived.Deep.CutBlock
import Derived.Deep.DeepCutAuto
set_option linter.unusedSimpArgs false
set_option linter.unusedVariables false
namespace Go.Proofs.YtlimogamjgehjaaGreat
open Go.RowKit Go.Deep Go.PlainAid

/-- The i-th text of a list. -/
def tx (l : List ByteArray) (i : Nat) : ByteArray := l.getD i ⟨#[]⟩
/-- Texts in memory. -/
def SAt (w : World) (a : Option Addr) (l : List ByteArray) : Prop := ∀ i, i < l.length → ∃ b o, a = some ⟨b, o, none⟩ ∧ w.cell? ⟨b, o + i, none⟩ = some (.string (tx l i))
theorem SAt.of_below {w w' : World} {a : Option Addr} {l : List ByteArray} (h : SAt w a l) (hb : Below w.heap.size w w') : SAt w' a l := by
  intro i hi
  obtain ⟨b, o, e, c⟩ := h i hi
  exact ⟨b, o, e, by rw [hb.cell (World.block_lt_of_cell? w ⟨b, o + i, none⟩ c)]; exact c⟩
/-- What is wrong with the first of two lists' items that are not right; 0: all are. -/
def code (S M : Nat) : List ByteArray → List ByteArray → Nat
  | a :: xs, n :: ns => if isEl S M a then (if isSc S M n then code S M xs ns else 6) else 7
  | _, _ => 0
theorem tx_drop (l : List ByteArray) (i : Nat) (h : i < l.length) : l.drop i = tx l i :: l.drop (i + 1) := by
  rw [List.drop_eq_getElem_cons h, tx, List.getD_eq_getElem?_getD, List.getElem?_eq_getElem h]
  rfl
theorem code_step {S M : Nat} {xs ns : List ByteArray} {i : Nat} (h1 : i < xs.length) (h2 : i < ns.length) :
    code S M (xs.drop i) (ns.drop i) = if isEl S M (tx xs i) then (if isSc S M (tx ns i) then code S M (xs.drop (i + 1)) (ns.drop (i + 1)) else 6) else 7 := by
  rw [tx_drop xs i h1, tx_drop ns i h2, code]
theorem code_end {S M : Nat} {xs ns : List ByteArray} {i : Nat} (h : xs.length ≤ i) : code S M (xs.drop i) (ns.drop i) = 0 := by
  rw [List.drop_of_length_le h, code]
  simp
/-- The numbers of texts. -/
def nums (l : List ByteArray) : List Nat := l.map numS
theorem nums_getD (l : List ByteArray) (i : Nat) (h : i < l.length) : (nums l).getD i 0 = numS (tx l i) := by
  simp [nums, tx, List.getD_eq_getElem?_getD, List.getElem?_map, List.getElem?_eq_getElem h]
/-- The cells of numbers, one behind the other. -/
def numC : List Nat → List Value
  | [] => []
  | x :: r => us (ws4 x) ++ numC r
theorem us4_length (x : Nat) : (us (ws4 x)).length = 4 := rfl
theorem numC_length (l : List Nat) : (numC l).length = l.length * 4 := by
  induction l with
  | nil => rfl
  | cons x r ih => rw [numC, List.length_append, us4_length, ih, List.length_cons]; omega
theorem numC_snoc (l : List Nat) (x : Nat) : numC (l ++ [x]) = numC l ++ us (ws4 x) := by
  induction l with
  | nil => simp [numC]
  | cons y r ih => rw [List.cons_append, numC, numC, ih, List.append_assoc]
theorem numC_at (l : List Nat) (i j : Nat) (hi : i < l.length) (hj : j < 4) : (numC l)[i * 4 + j]? = some (U (w4 (l.getD i 0) j)) := by
  induction l generalizing i with
  | nil => cases hi
  | cons x r ih =>
    rw [numC]
    cases i with
    | zero =>
      rw [List.getElem?_append_left (by rw [us4_length]; omega), Nat.zero_mul, Nat.zero_add]
      exact us4_at x j hj
    | succ i =>
      rw [List.getElem?_append_right (by rw [us4_length]; omega), us4_length, show (i + 1) * 4 + j - 4 = i * 4 + j by omega, ih i (by simpa using hi)]
      simp
def zeros (n : Nat) : List Value := List.replicate (n * 4) (Value.int .u64 0)
theorem put_at (l : List Nat) (x k : Nat) : ((((numC l ++ zeros (k + 1)).set (l.length * 4) (U (w4 x 0))).set (l.length * 4 + 1) (U (w4 x 1))).set (l.length * 4 + 2) (U (w4 x 2))).set (l.length * 4 + 3) (U (w4 x 3)) = numC (l ++ [x]) ++ zeros k := by
  have e : zeros (k + 1) = .int .u64 0 :: .int .u64 0 :: .int .u64 0 :: .int .u64 0 :: zeros k := by
    unfold zeros
    rw [show (k + 1) * 4 = k * 4 + 1 + 1 + 1 + 1 by omega]
    simp only [List.replicate_succ]
  have hl := numC_length l
  rw [e, numC_snoc]
  rw [List.set_append_right _ _ (by omega), List.set_append_right _ _ (by omega), List.set_append_right _ _ (by omega), List.set_append_right _ _ (by omega)]
  rw [show l.length * 4 - (numC l).length = 0 by omega, show l.length * 4 + 1 - (numC l).length = 1 by omega, show l.length * 4 + 2 - (numC l).length = 2 by omega, show l.length * 4 + 3 - (numC l).length = 3 by omega]
  simp [us, ws4]
theorem zero_cell {W : World} {b : Nat} {l : List Nat} {k j : Nat} (h : IHolds W b 92 (numC l ++ zeros (k + 1))) (hj : j < 4) : W.cell? ⟨b, l.length * 4 + j, none⟩ = some (.int .u64 0) := by
  have hl := numC_length l
  have hlt : l.length * 4 + j < (numC l ++ zeros (k + 1)).length := by rw [List.length_append, hl]; unfold zeros; rw [List.length_replicate]; omega
  rw [h.cell _ hlt, List.getElem_append_right (by omega)]
  unfold zeros
  rw [List.getElem_replicate]
theorem NumsV.of_holds {W : World} {b N : Nat} {l : List Nat} (h : IHolds W b 92 (numC l)) (hN : l.length = N) (h9 : N ≤ 1000) : NumsV W l (.slice (some ⟨b, 0, none⟩) N N) := by
  subst hN
  refine ⟨_, _, rfl, Nat.le_refl _, by omega, ?_⟩
  intro i hi
  refine ⟨b, 0, rfl, ?_⟩
  have hc : ∀ j, j < 4 → W.cell? ⟨b, 0 + i * 4 + j, none⟩ = some (U (w4 (l.getD i 0) j)) := by
    intro j hj
    have hlt : i * 4 + j < (numC l).length := by rw [numC_length]; omega
    have e := numC_at l i j hi hj
    rw [List.getElem?_eq_getElem hlt] at e
    rw [Nat.zero_add, h.cell _ hlt]
    exact e
  exact ⟨hc 0 (by omega), hc 1 (by omega), hc 2 (by omega), hc 3 (by omega)⟩
theorem make105n (n : Nat) (hn : n ≤ 1000) (w : World) : (Instr.makeSlice 120 (.int .i64 (n : Int)) (.int .i64 (n : Int))).run Tryz.prog w = .ok (.slice (some ⟨w.heap.size, 0, none⟩) n n) (w.alloc (.cells (zeros n).toArray 92)) := by
  obtain ⟨i0, hi0, hz0, hz1, hz2⟩ := info_parts Tryz.info66
  have := run_make (P := Tryz.prog) w 120 92 i0 _ Tryz.underlying120 hi0 hz0 .i64 .i64 (n : Int) (n : Int) (by omega) (by omega) (by rw [hz2]; omega) (by omega)
  rw [this, hz1, Int.toNat_natCast]
  have e : madeCells (Value.agg #[.int .u64 0, .int .u64 0, .int .u64 0, .int .u64 0]).cells (n * 4) = (zeros n).toArray := by
    apply Array.toList_inj.1
    unfold zeros
    rw [List.toList_toArray, List.eq_replicate_iff]
    refine ⟨by simp [madeCells], ?_⟩
    intro b hb
    simp only [madeCells, Array.toList_map, List.mem_map] at hb
    obtain ⟨i, _, rfl⟩ := hb
    have h4 : i % 4 = 0 ∨ i % 4 = 1 ∨ i % 4 = 2 ∨ i % 4 = 3 := by omega
    show (#[Value.int .u64 0, .int .u64 0, .int .u64 0, .int .u64 0] : Array Value)[i % 4]! = _
    rcases h4 with h | h | h | h <;> rw [h] <;> rfl
  rw [e]
/-! Signs. -/
theorem neg_mul {p x y : Nat} (h : x ≤ p) (hp : 0 < p) : (p - x) * y % p = (p - x * y % p) % p := by
  have e : (p - x) * y + x * y = p * y := by rw [← Nat.add_mul, Nat.sub_add_cancel h]
  obtain ⟨c, hc⟩ : ∃ c, c = x * y % p := ⟨_, rfl⟩
  have hd := Nat.div_add_mod (x * y) p
  have c9 : c < p := by rw [hc]; exact Nat.mod_lt _ hp
  rw [← hc] at hd ⊢
  obtain ⟨d, hdd⟩ : ∃ d, d = x * y / p := ⟨_, rfl⟩
  rw [← hdd] at hd
  have hy : x * y ≤ p * y := Nat.mul_le_mul_right _ h
  have e2 : (p - x) * y = p * y - x * y := by omega
  by_cases h0 : c = 0
  · rw [h0, Nat.sub_zero, Nat.mod_self, e2, ← hd, h0, Nat.add_zero, ← Nat.mul_sub, Nat.mul_mod_right]
  · have hdy : d < y := by
      refine Nat.lt_of_mul_lt_mul_left (a := p) ?_
      omega
    obtain ⟨t, ht⟩ : ∃ t, y = d + 1 + t := ⟨y - d - 1, by omega⟩
    have e3 : (p - x) * y = (p - c) + p * t := by
      rw [e2, ← hd, ht, Nat.mul_add, Nat.mul_add, Nat.mul_one]
      omega
    rw [e3, Nat.add_mul_mod_self_left]
theorem sgn_neg0 {M M2 c : Nat} (e : M2 = 2 * M + 1) (h : c < M2) : sgn M M2 ((M2 - c) % M2) = sgn M M2 c := by
  by_cases h0 : c = 0
  · rw [h0, Nat.sub_zero, Nat.mod_self]
  · rw [Nat.mod_eq_of_lt (by omega), sgn_neg e (by omega) h]
theorem sgn_mul_left {M M2 x y : Nat} (e : M2 = 2 * M + 1) (hx : x < M2) : sgn M M2 (sgn M M2 x * y % M2) = sgn M M2 (x * y % M2) := by
  by_cases h : M < x
  · have e1 : sgn M M2 x = M2 - x := by unfold sgn; rw [if_pos h]
    rw [e1, neg_mul (by omega) (by omega), sgn_neg0 e (Nat.mod_lt _ (by omega))]
  · have e1 : sgn M M2 x = x := by unfold sgn; rw [if_neg h]
    rw [e1]
theorem sgn_mul {M M2 x y : Nat} (e : M2 = 2 * M + 1) (hx : x < M2) (hy : y < M2) : sgn M M2 (sgn M M2 x * sgn M M2 y % M2) = sgn M M2 (x * y % M2) := by
  rw [sgn_mul_left e hx, Nat.mul_comm, sgn_mul_left e hy, Nat.mul_comm]
theorem sgn_prod {M M2 : Nat} (e : M2 = 2 * M + 1) (hM : 1 ≤ M) (al nl : List Nat) (i : Nat) : sgn M M2 (sgn M M2 (powP al nl i % M2) * sgn M M2 (al.getD i 0 ^ nl.getD i 0 % M2) % M2) = sgn M M2 (powP al nl (i + 1) % M2) := by
  rw [sgn_mul e (Nat.mod_lt _ (by omega)) (Nat.mod_lt _ (by omega)), ← Nat.mul_mod, powP]
theorem sgn_one {M M2 : Nat} (e : M2 = 2 * M + 1) (hM : 1 ≤ M) (al nl : List Nat) : sgn M M2 (powP al nl 0 % M2) = 1 := by
  rw [powP, Nat.mod_eq_of_lt (by omega)]
  unfold sgn
  rw [if_neg (by omega)]
end Go.Proofs.YtlimogamjgehjaaGreat
namespace Go.Proofs.YtlimogamjgehjaaGreat
open Go.RowKit Go.Deep Go.PlainAid

/-- What is told of the product. -/
def prodT (S M M2 : Nat) (xs ns : List ByteArray) : ByteArray := if code S M xs ns = 0 then ⟨(beB S (sgn M M2 (powP (nums xs) (nums ns) xs.length % M2))).toArray⟩ else ⟨#[]⟩
/-- All items so far are right. -/
def AllR (S M : Nat) (xs ns : List ByteArray) (i : Nat) : Prop := ∀ j, j < i → isEl S M (tx xs j) = true ∧ isSc S M (tx ns j) = true
theorem nums_take (l : List ByteArray) (i : Nat) (h : i < l.length) : nums (l.take (i + 1)) = nums (l.take i) ++ [numS (tx l i)] := by
  rw [List.take_add_one, List.getElem?_eq_getElem h, Option.toList_some, nums, List.map_append]
  simp [nums, tx, List.getD_eq_getElem?_getD, List.getElem?_eq_getElem h]
theorem nums_take_len (l : List ByteArray) (i : Nat) (h : i ≤ l.length) : (nums (l.take i)).length = i := by simp [nums]; omega
section
variable {z : Int} {G : Array Value} {S Wd M low one sq Ri Wd2 M2 low2 one2 sq2 Ri2 : Nat}
set_option maxRecDepth 100000 in
set_option maxHeartbeats 1000000 in
theorem product_any (k : KD z G S Wd M low one sq Ri Wd2 M2 low2 one2 sq2 Ri2) {w : World} {g : Nat} (F : Hid (GH w g S Wd M low one sq Wd2 M2 low2 one2 sq2)) (xs ns : List ByteArray) {ax an : Option Addr} {cx cn n : Nat} (hx : SAt w ax xs) (hn : SAt w an ns) (hlx : xs.length = n) (hln : ns.length = n) (h9 : n ≤ 256) :
    Calls Tryz.prog 84 #[.pointer (some ⟨g, 0, none⟩), .slice ax n cx, .slice an n cn] w fun e w' => e = .returned (.tuple #[.string (prodT S M M2 xs ns), .int .i64 (code S M xs ns : Int)]) ∧ Below w.heap.size w w' := by
  have CE : Hid (∀ W s, GH W g S Wd M low one sq Wd2 M2 low2 one2 sq2 → Calls Tryz.prog 82 #[.pointer (some ⟨g, 0, none⟩), .string s] W fun e w' => e = .returned (.tuple #[A4 (if isEl S M s then numS s else 0), .int .i64 (if isEl S M s then 0 else 7)]) ∧ Below W.heap.size W w') := fun W s hF => elemA hF s k.hS k.big
  have CS : Hid (∀ W s, GH W g S Wd M low one sq Wd2 M2 low2 one2 sq2 → Calls Tryz.prog 73 #[.pointer (some ⟨g, 0, none⟩), .string s] W fun e w' => e = .returned (.tuple #[A4 (if isSc S M s then numS s else 0), .int .i64 (if isSc S M s then 0 else 6)]) ∧ Below W.heap.size W w') := fun W s hF => scalarA hF s k.hS k.big
  have CP : Hid (∀ W va vn, AllR S M xs ns n → GH W g S Wd M low one sq Wd2 M2 low2 one2 sq2 → NumsV W (nums xs) va → NumsV W (nums ns) vn → Calls Tryz.prog 99 #[.pointer (some ⟨g, 15, none⟩), va, vn] W fun e w' => e = .returned (A4 (powP (nums xs) (nums ns) n % M2)) ∧ Below W.heap.size W w') := fun W va vn hR hF g1 g2 => by
    have e1 : (nums xs).length = n := by rw [nums, List.length_map]; exact hlx
    have q := powers_any hF.fe k.fl2 (nums xs) (nums ns) va vn g1 g2 (by simp [nums, hlx, hln]) (by omega) (fun j hj => by
      rw [e1] at hj
      rw [nums_getD xs j (by omega)]
      exact k.elw (hR j hj).1) (fun j hj => by
      rw [e1] at hj
      rw [nums_getD ns j (by omega)]
      exact Nat.lt_trans (isSc_lt (hR j hj).2) k.big)
    rw [e1] at q
    exact q
  have CT : Hid (∀ W, GH W g S Wd M low one sq Wd2 M2 low2 one2 sq2 → Calls Tryz.prog 98 #[.pointer (some ⟨g, 0, none⟩), A4 (powP (nums xs) (nums ns) n % M2)] W fun e w' => e = .returned (.tuple #[.string ⟨(beB S (sgn M M2 (powP (nums xs) (nums ns) n % M2))).toArray⟩, .int .i64 0]) ∧ Below W.heap.size W w') := fun W hF => toldElemA k hF (k.mod2 _)
  clear k
  have HX : Hid (SAt w ax xs) := hx
  have HN : Hid (SAt w an ns) := hn
  have Hlx : Hid (xs.length = n) := hlx
  have Hln : Hid (ns.length = n) := hln
  clear hx hn hlx hln
  have h9' : n ≤ 1000 := by omega
  go_enter Tryz.func84, Tryz.ntmps84
  go_upto_region 1 with fail
  go_cut [8, 9] (fun v8 v9 wx => ∃ bA bB : Nat, v8 = .slice (some ⟨bA, 0, none⟩) n n ∧ v9 = .slice (some ⟨bB, 0, none⟩) n n ∧ bA ≠ bB ∧ IHolds wx bA 92 (zeros n) ∧ IHolds wx bB 92 (zeros n) ∧ w.heap.size ≤ bA ∧ w.heap.size ≤ bB ∧ Below w.heap.size w wx)
  case first =>
    have B0 : Hid (Below w.heap.size w w.drew) := dB w
    have G0 : Hid (w.heap.size ≤ w.drew.heap.size) := B0.out.size
    refine wp_region_held_drew (S := fun W => True) (by kernel_rfl) trivial (fun h1 => ?_)
    generalize w.drew = V0 at *
    refine tk (i := 0) (v := .slice ax n cx) rfl (by kernel_rfl) (fun _ _ _ h => h) rfl ?_ h1 ?_
    · intro W hS; go_simp
    simp only [Act.put, y1, y2, y3, y4, y5, y6, y7]
    refine tk (i := 1) (v := .int .i64 (n : Int)) rfl (by kernel_rfl) (fun _ _ _ h => h) rfl ?_ h1 ?_
    · intro W hS; go_simp
    simp only [Act.put, y1, y2, y3, y4, y5, y6, y7]
    refine tk (i := 3) (v := .slice ax n cx) rfl (by kernel_rfl) (fun _ _ _ h => h) rfl ?_ h1 ?_
    · intro W hS; go_simp
    simp only [Act.put, y1, y2, y3, y4, y5, y6, y7]
    refine tk (i := 4) (v := .int .i64 (n : Int)) rfl (by kernel_rfl) (fun _ _ _ h => h) rfl ?_ h1 ?_
    · intro W hS; go_simp
    simp only [Act.put, y1, y2, y3, y4, y5, y6, y7]
    refine wpAnyH_ready (rs := [2, 5]) (by kernel_rfl) (by simp) ?_
    refine AllReadyH.cons rfl (fun K hK => ?_) (AllReadyH.cons rfl (fun K hK => ?_) AllReadyH.nil)
    all_goals clear h1
    · have hm := make105n n h9' V0
      have JA : Hid (IHolds (V0.alloc (.cells (zeros n).toArray 92)) V0.heap.size 92 (zeros n)) := IHolds.new _ _ _
      have hb := nB V0 (.cells (zeros n).toArray 92)
      replace B0 := aB B0 hb
      clear hb
      go_simp
      clear hm
      generalize V0.alloc (.cells (zeros n).toArray 92) = V1 at *
      generalize V0.heap.size = b1 at *
      have g1 : Hid (w.heap.size ≤ b1) := G0
      refine hK.out _ _ trivial (fun h1 => ?_)
      clear hK K
      try simp only [Act.put, y1, y2, y3, y4, y5, y6, y7]
      refine tk (i := 6) (v := .slice (some ⟨b1, 0, none⟩) n n) rfl (by kernel_rfl) (fun _ _ _ h => h) rfl ?_ h1 ?_
      · intro W hS; go_simp
      simp only [Act.put, y1, y2, y3, y4, y5, y6, y7]
      refine wpAnyH_ready (rs := [5]) (by kernel_rfl) (by simp) ?_
      refine AllReadyH.cons rfl (fun K hK => ?_) AllReadyH.nil
      clear h1
      have hm := make105n n h9' V1
      have JB : Hid (IHolds (V1.alloc (.cells (zeros n).toArray 92)) V1.heap.size 92 (zeros n)) := IHolds.new _ _ _
      have hb := nB V1 (.cells (zeros n).toArray 92)
      have g2 : Hid (w.heap.size ≤ V1.heap.size) := B0.out.size
      have ne1 : Hid (b1 ≠ V1.heap.size) := by have := JA.out.lt; show _ ≠ _; omega
      replace B0 := aB B0 hb
      replace JA := aJ JA hb
      clear hb
      go_simp
      clear hm
      generalize V1.alloc (.cells (zeros n).toArray 92) = V2 at *
      generalize V1.heap.size = b2 at *
      refine hK.out _ _ trivial (fun h1 => ?_)
      clear hK K
      try simp only [Act.put, y1, y2, y3, y4, y5, y6, y7]
      refine tk (i := 7) (v := .slice (some ⟨b2, 0, none⟩) n n) rfl (by kernel_rfl) (fun _ _ _ h => h) rfl ?_ h1 ?_
      · intro W hS; go_simp
      simp only [Act.put, y1, y2, y3, y4, y5, y6, y7]
      refine wpAnyH_done (by kernel_rfl) ?_ _
      clear h1
      go_wp2_with fail
      go_meet
      case rel => exact ⟨b1, b2, rfl, rfl, ne1.out, JA.out, JB.out, g1.out, g2.out, B0.out⟩
    · have hm := make105n n h9' V0
      have JB : Hid (IHolds (V0.alloc (.cells (zeros n).toArray 92)) V0.heap.size 92 (zeros n)) := IHolds.new _ _ _
      have hb := nB V0 (.cells (zeros n).toArray 92)
      replace B0 := aB B0 hb
      clear hb
      go_simp
      clear hm
      generalize V0.alloc (.cells (zeros n).toArray 92) = V1 at *
      generalize V0.heap.size = b1 at *
      have g1 : Hid (w.heap.size ≤ b1) := G0
      refine hK.out _ _ trivial (fun h1 => ?_)
      clear hK K
      try simp only [Act.put, y1, y2, y3, y4, y5, y6, y7]
      refine wpAnyH_ready (rs := [2]) (by kernel_rfl) (by simp) ?_
      refine AllReadyH.cons rfl (fun K hK => ?_) AllReadyH.nil
      clear h1
      have hm := make105n n h9' V1
      have JA : Hid (IHolds (V1.alloc (.cells (zeros n).toArray 92)) V1.heap.size 92 (zeros n)) := IHolds.new _ _ _
      have hb := nB V1 (.cells (zeros n).toArray 92)
      have g2 : Hid (w.heap.size ≤ V1.heap.size) := B0.out.size
      have ne1 : Hid (b1 ≠ V1.heap.size) := by have := JB.out.lt; show _ ≠ _; omega
      replace B0 := aB B0 hb
      replace JB := aJ JB hb
      clear hb
      go_simp
      clear hm
      generalize V1.alloc (.cells (zeros n).toArray 92) = V2 at *
      generalize V1.heap.size = b2 at *
      refine hK.out _ _ trivial (fun h1 => ?_)
      clear hK K
      try simp only [Act.put, y1, y2, y3, y4, y5, y6, y7]
      refine tk (i := 6) (v := .slice (some ⟨b2, 0, none⟩) n n) rfl (by kernel_rfl) (fun _ _ _ h => h) rfl ?_ h1 ?_
      · intro W hS; go_simp
      simp only [Act.put, y1, y2, y3, y4, y5, y6, y7]
      refine tk (i := 7) (v := .slice (some ⟨b1, 0, none⟩) n n) rfl (by kernel_rfl) (fun _ _ _ h => h) rfl ?_ h1 ?_
      · intro W hS; go_simp
      simp only [Act.put, y1, y2, y3, y4, y5, y6, y7]
      refine wpAnyH_done (by kernel_rfl) ?_ _
      clear h1
      go_wp2_with fail
      go_meet
      case rel => exact ⟨b2, b1, rfl, rfl, fun h => ne1.out h.symm, JA.out, JB.out, g2.out, g1.out, B0.out⟩
  case rest =>
    obtain ⟨bA, bB, rfl, rfl, hne, hJA, hJB, hgA, hgB, hB⟩ := hcut
    have JA : Hid (IHolds wc bA 92 (zeros n)) := hJA
    have JB : Hid (IHolds wc bB 92 (zeros n)) := hJB
    have B0 : Hid (Below w.heap.size w wc) := hB
    have Hne : Hid (bA ≠ bB) := hne
    have HgA : Hid (w.heap.size ≤ bA) := hgA
    have HgB : Hid (w.heap.size ≤ bB) := hgB
    clear hJA hJB hB hne hgA hgB
    go_wp2_with fail
    go_loopg [20] n (fun gk v20 wr => ∃ i : Nat, gk + i = n ∧ v20 = .int .i64 (i : Int) ∧ AllR S M xs ns i ∧ code S M xs ns = code S M (xs.drop i) (ns.drop i) ∧ IHolds wr bA 92 (numC (nums (xs.take i)) ++ zeros (n - i)) ∧ IHolds wr bB 92 (numC (nums (ns.take i)) ++ zeros (n - i)) ∧ Below w.heap.size w wr)
    case atStart => exact ⟨0, by omega, rfl, fun j h => by omega, rfl, JA.out, JB.out, B0.out⟩
    case round =>
      clear JA JB B0
      obtain ⟨i, hi, rfl, hR, hC, hJA, hJB, hB⟩ := hrel
      have JA : Hid (IHolds wr bA 92 (numC (nums (xs.take i)) ++ zeros (n - i))) := hJA
      have JB : Hid (IHolds wr bB 92 (numC (nums (ns.take i)) ++ zeros (n - i))) := hJB
      have B0 : Hid (Below w.heap.size w wr) := hB
      have HR : Hid (AllR S M xs ns i) := hR
      have HC : Hid (code S M xs ns = code S M (xs.drop i) (ns.drop i)) := hC
      clear hJA hJB hB hR hC
      by_cases hin : i < n
      · have k1 : (i : Int) < (n : Int) := by omega
        have F1 : Hid (GH wr g S Wd M low one sq Wd2 M2 low2 one2 sq2) := aG F B0.out
        have HC2 : Hid (code S M xs ns = if isEl S M (tx xs i) then (if isSc S M (tx ns i) then code S M (xs.drop (i + 1)) (ns.drop (i + 1)) else 6) else 7) := by
          show _ = _
          rw [HC.out]; exact code_step (by rw [Hlx.out]; exact hin) (by rw [Hln.out]; exact hin)
        obtain ⟨bx, ox, rfl, hcx⟩ := HX.out i (by rw [Hlx.out]; exact hin)
        obtain ⟨bn, on, rfl, hcn⟩ := HN.out i (by rw [Hln.out]; exact hin)
        have hbx : bx < w.heap.size := World.block_lt_of_cell? w ⟨bx, ox + i, none⟩ hcx
        have hbn : bn < w.heap.size := World.block_lt_of_cell? w ⟨bn, on + i, none⟩ hcn
        have Hcn : Hid (w.cell? ⟨bn, on + i, none⟩ = some (.string (tx ns i))) := hcn
        have Hbn : Hid (bn < w.heap.size) := hbn
        have zx : wr.cell? ⟨bx, ox + i, none⟩ = some (.string (tx xs i)) := by rw [B0.out.cell hbx]; exact hcx
        have hz : n - i = (n - i - 1) + 1 := by omega
        have HlA : Hid ((nums (xs.take i)).length = i) := nums_take_len xs i (by rw [Hlx.out]; omega)
        have HlB : Hid ((nums (ns.take i)).length = i) := nums_take_len ns i (by rw [Hln.out]; omega)
        have HtA : Hid (nums (xs.take (i + 1)) = nums (xs.take i) ++ [numS (tx xs i)]) := nums_take xs i (by rw [Hlx.out]; exact hin)
        have HtB : Hid (nums (ns.take (i + 1)) = nums (ns.take i) ++ [numS (tx ns i)]) := nums_take ns i (by rw [Hln.out]; exact hin)
        rw [hz] at JA JB
        have Hz2 : Hid (n - i - 1 = n - (i + 1)) := by show _ = _; omega
        obtain ⟨X, hX⟩ : ∃ X, X = (if isEl S M (tx xs i) then numS (tx xs i) else 0) := ⟨_, rfl⟩
        have C1 : Hid (Calls Tryz.prog 82 #[.pointer (some ⟨g, 0, none⟩), .string (tx xs i)] wr fun e w' => e = .returned (.tuple #[.agg #[U (w4 X 0), U (w4 X 1), U (w4 X 2), U (w4 X 3)], .int .i64 (if isEl S M (tx xs i) then 0 else 7)]) ∧ Below wr.heap.size wr w') := by
          have q := CE.out wr (tx xs i) F1.out
          rw [← hX] at q
          exact q
        have HXe : Hid (X = (if isEl S M (tx xs i) then numS (tx xs i) else 0)) := hX
        clear hX hcx hcn hbx hbn hz
        obtain ⟨q, hq⟩ : ∃ q, q = i * 4 := ⟨_, rfl⟩
        have kq : (i : Int) * 4 = (q : Int) := by omega
        have kq2 : ((i : Int) * 4).toNat = q := by omega
        have kq3 : (i : Int).toNat * 4 = q := by omega
        have kq4 : i * 4 = q := hq.symm
        have Hq : Hid (q = i * 4) := hq
        clear hq
        go_wp2_with fail
        clear zx
        refine C1.out.mono ?_
        rintro e V1 ⟨rfl, hb⟩
        replace B0 := aB B0 hb
        replace F1 := aG F1 hb
        replace JA := aJ JA hb
        replace JB := aJ JB hb
        clear hb C1
        have zA0 : V1.cell? ⟨bA, q, none⟩ = some (.int .u64 0) := by have h := zero_cell JA.out (j := 0) (by omega); rw [HlA.out, kq4] at h; exact h
        have zA1 : V1.cell? ⟨bA, q + 1, none⟩ = some (.int .u64 0) := by have h := zero_cell JA.out (j := 1) (by omega); rw [HlA.out, kq4] at h; exact h
        have zA2 : V1.cell? ⟨bA, q + 2, none⟩ = some (.int .u64 0) := by have h := zero_cell JA.out (j := 2) (by omega); rw [HlA.out, kq4] at h; exact h
        have zA3 : V1.cell? ⟨bA, q + 3, none⟩ = some (.int .u64 0) := by have h := zero_cell JA.out (j := 3) (by omega); rw [HlA.out, kq4] at h; exact h
        have fA := fJ JA
        have hBut : But bA V1 (((((V1.setCell ⟨bA, q, none⟩ (U (w4 X 0))).setCell ⟨bA, q + 1, none⟩ (U (w4 X 1))).setCell ⟨bA, q + 2, none⟩ (U (w4 X 2))).setCell ⟨bA, q + 3, none⟩ (U (w4 X 3)))) := ((((But.refl _ V1).setCell q _).setCell (q + 1) _).setCell (q + 2) _).setCell (q + 3) _
        have JA2 : Hid (IHolds (((((V1.setCell ⟨bA, q, none⟩ (U (w4 X 0))).setCell ⟨bA, q + 1, none⟩ (U (w4 X 1))).setCell ⟨bA, q + 2, none⟩ (U (w4 X 2))).setCell ⟨bA, q + 3, none⟩ (U (w4 X 3)))) bA 92 (numC (nums (xs.take i) ++ [X]) ++ zeros (n - i - 1))) := by
          show IHolds _ _ _ _
          rw [← put_at, HlA.out, kq4]
          exact (((JA.out.set q _).set (q + 1) _).set (q + 2) _).set (q + 3) _
        have B2 : Hid (Below w.heap.size w (((((V1.setCell ⟨bA, q, none⟩ (U (w4 X 0))).setCell ⟨bA, q + 1, none⟩ (U (w4 X 1))).setCell ⟨bA, q + 2, none⟩ (U (w4 X 2))).setCell ⟨bA, q + 3, none⟩ (U (w4 X 3))))) := (((B0.out.setCell HgA.out _).setCell HgA.out _).setCell HgA.out _).setCell HgA.out _
        replace JB := tJ JB hBut (fun h => Hne.out h.symm)
        replace F1 := tG F1 hBut (by have h1 := F.out.lt; have h2 := HgA.out; omega)
        clear hBut JA B0
        cases hel : isEl S M (tx xs i)
        · have HCf : Hid (code S M xs ns = 7) := by show _ = _; rw [HC2.out, hel]; rfl
          rw [if_neg (by simp)]
          clear hel
          go_wp2_with fail
          go_ret2
          exact ⟨by rw [HCf.out, prodT, HCf.out]; rfl, B2.out⟩
        · have HelT : Hid (isEl S M (tx xs i) = true) := hel
          rw [if_pos rfl]
          have HXv : Hid (X = numS (tx xs i)) := by show _ = _; rw [HXe.out, hel]; rfl
          have zn : (((((V1.setCell ⟨bA, q, none⟩ (U (w4 X 0))).setCell ⟨bA, q + 1, none⟩ (U (w4 X 1))).setCell ⟨bA, q + 2, none⟩ (U (w4 X 2))).setCell ⟨bA, q + 3, none⟩ (U (w4 X 3)))).cell? ⟨bn, on + i, none⟩ = some (.string (tx ns i)) := by rw [B2.out.cell Hbn.out]; exact Hcn.out
          clear hel
          go_wp2_with fail
          clear zA0 zA1 zA2 zA3 fA zn
          generalize ((((V1.setCell ⟨bA, q, none⟩ (U (w4 X 0))).setCell ⟨bA, q + 1, none⟩ (U (w4 X 1))).setCell ⟨bA, q + 2, none⟩ (U (w4 X 2))).setCell ⟨bA, q + 3, none⟩ (U (w4 X 3))) = V2 at *
          obtain ⟨Y, hY⟩ : ∃ Y, Y = (if isSc S M (tx ns i) then numS (tx ns i) else 0) := ⟨_, rfl⟩
          have C2 : Hid (Calls Tryz.prog 73 #[.pointer (some ⟨g, 0, none⟩), .string (tx ns i)] V2 fun e w' => e = .returned (.tuple #[.agg #[U (w4 Y 0), U (w4 Y 1), U (w4 Y 2), U (w4 Y 3)], .int .i64 (if isSc S M (tx ns i) then 0 else 6)]) ∧ Below V2.heap.size V2 w') := by
            have q := CS.out V2 (tx ns i) F1.out
            rw [← hY] at q
            exact q
          have HYe : Hid (Y = (if isSc S M (tx ns i) then numS (tx ns i) else 0)) := hY
          clear hY
          refine C2.out.mono ?_
          rintro e V3 ⟨rfl, hb⟩
          replace B2 := aB B2 hb
          replace F1 := aG F1 hb
          replace JA2 := aJ JA2 hb
          replace JB := aJ JB hb
          clear hb C2
          have zA0 : V3.cell? ⟨bB, q, none⟩ = some (.int .u64 0) := by have h := zero_cell JB.out (j := 0) (by omega); rw [HlB.out, kq4] at h; exact h
          have zA1 : V3.cell? ⟨bB, q + 1, none⟩ = some (.int .u64 0) := by have h := zero_cell JB.out (j := 1) (by omega); rw [HlB.out, kq4] at h; exact h
          have zA2 : V3.cell? ⟨bB, q + 2, none⟩ = some (.int .u64 0) := by have h := zero_cell JB.out (j := 2) (by omega); rw [HlB.out, kq4] at h; exact h
          have zA3 : V3.cell? ⟨bB, q + 3, none⟩ = some (.int .u64 0) := by have h := zero_cell JB.out (j := 3) (by omega); rw [HlB.out, kq4] at h; exact h
          have fA := fJ JB
          have hBut : But bB V3 (((((V3.setCell ⟨bB, q, none⟩ (U (w4 Y 0))).setCell ⟨bB, q + 1, none⟩ (U (w4 Y 1))).setCell ⟨bB, q + 2, none⟩ (U (w4 Y 2))).setCell ⟨bB, q + 3, none⟩ (U (w4 Y 3)))) := ((((But.refl _ V3).setCell q _).setCell (q + 1) _).setCell (q + 2) _).setCell (q + 3) _
          have JB2 : Hid (IHolds (((((V3.setCell ⟨bB, q, none⟩ (U (w4 Y 0))).setCell ⟨bB, q + 1, none⟩ (U (w4 Y 1))).setCell ⟨bB, q + 2, none⟩ (U (w4 Y 2))).setCell ⟨bB, q + 3, none⟩ (U (w4 Y 3)))) bB 92 (numC (nums (ns.take i) ++ [Y]) ++ zeros (n - i - 1))) := by
            show IHolds _ _ _ _
            rw [← put_at, HlB.out, kq4]
            exact (((JB.out.set q _).set (q + 1) _).set (q + 2) _).set (q + 3) _
          have B3 : Hid (Below w.heap.size w (((((V3.setCell ⟨bB, q, none⟩ (U (w4 Y 0))).setCell ⟨bB, q + 1, none⟩ (U (w4 Y 1))).setCell ⟨bB, q + 2, none⟩ (U (w4 Y 2))).setCell ⟨bB, q + 3, none⟩ (U (w4 Y 3))))) := (((B2.out.setCell HgB.out _).setCell HgB.out _).setCell HgB.out _).setCell HgB.out _
          replace JA2 := tJ JA2 hBut Hne.out
          clear hBut JB B2 F1
          cases hsc : isSc S M (tx ns i)
          · have HCf : Hid (code S M xs ns = 6) := by show _ = _; rw [HC2.out, HelT.out, hsc]; rfl
            rw [if_neg (by simp)]
            clear hsc
            go_wp2_with fail
            go_ret2
            exact ⟨by rw [HCf.out, prodT, HCf.out]; rfl, B3.out⟩
          · rw [if_pos rfl]
            have HYv : Hid (Y = numS (tx ns i)) := by show _ = _; rw [HYe.out, hsc]; rfl
            have HC3 : Hid (code S M xs ns = code S M (xs.drop (i + 1)) (ns.drop (i + 1))) := by show _ = _; rw [HC2.out, HelT.out, hsc]; rfl
            have HR3 : Hid (AllR S M xs ns (i + 1)) := fun j hj => by
              by_cases e : j = i
              · rw [e]; exact ⟨HelT.out, hsc⟩
              · exact HR.out j (by omega)
            clear hsc
            go_wp2_with fail
            clear zA0 zA1 zA2 zA3 fA
            generalize ((((V3.setCell ⟨bB, q, none⟩ (U (w4 Y 0))).setCell ⟨bB, q + 1, none⟩ (U (w4 Y 1))).setCell ⟨bB, q + 2, none⟩ (U (w4 Y 2))).setCell ⟨bB, q + 3, none⟩ (U (w4 Y 3))) = V4 at *
            go_roundg (gk - 1)
            case measure => omega
            case rel => exact ⟨i + 1, by omega, by first | rfl | go_num, HR3.out, HC3.out, by rw [HtA.out, ← HXv.out, ← Hz2.out]; exact JA2.out, by rw [HtB.out, ← HYv.out, ← Hz2.out]; exact JB2.out, B3.out⟩
      · have k1 : ¬ (i : Int) < (n : Int) := by omega
        have ein : i = n := by omega
        subst ein
        have HCz : Hid (code S M xs ns = 0) := by show _ = _; rw [HC.out]; exact code_end (by rw [Hlx.out]; exact Nat.le_refl _)
        have ex : xs.take i = xs := List.take_of_length_le (by rw [Hlx.out]; exact Nat.le_refl _)
        have en : ns.take i = ns := List.take_of_length_le (by rw [Hln.out]; exact Nat.le_refl _)
        have ez : zeros (i - i) = [] := by rw [Nat.sub_self]; rfl
        rw [ex, ez, List.append_nil] at JA
        rw [en, ez, List.append_nil] at JB
        have NVA : Hid (NumsV wr (nums xs) (.slice (some ⟨bA, 0, none⟩) i i)) := NumsV.of_holds JA.out (by simp [nums, Hlx.out]) (by omega)
        have NVB : Hid (NumsV wr (nums ns) (.slice (some ⟨bB, 0, none⟩) i i)) := NumsV.of_holds JB.out (by simp [nums, Hln.out]) (by omega)
        have F1 : Hid (GH wr g S Wd M low one sq Wd2 M2 low2 one2 sq2) := aG F B0.out
        have HPT : Hid (prodT S M M2 xs ns = ⟨(beB S (sgn M M2 (powP (nums xs) (nums ns) i % M2))).toArray⟩) := by
          show _ = _
          rw [prodT, HCz.out, if_pos rfl, Hlx.out]
        obtain ⟨P, hP⟩ : ∃ P, P = powP (nums xs) (nums ns) i % M2 := ⟨_, rfl⟩
        rw [← hP] at CP CT HPT
        have CP1 : Hid (Calls Tryz.prog 99 #[.pointer (some ⟨g, 15, none⟩), .slice (some ⟨bA, 0, none⟩) i i, .slice (some ⟨bB, 0, none⟩) i i] wr fun e w' => e = .returned (.agg #[U (w4 P 0), U (w4 P 1), U (w4 P 2), U (w4 P 3)]) ∧ Below wr.heap.size wr w') := CP.out wr _ _ HR.out F1.out NVA.out NVB.out
        have CT1 : Hid (∀ W, GH W g S Wd M low one sq Wd2 M2 low2 one2 sq2 → Calls Tryz.prog 98 #[.pointer (some ⟨g, 0, none⟩), .agg #[U (w4 P 0), U (w4 P 1), U (w4 P 2), U (w4 P 3)]] W fun e w' => e = .returned (.tuple #[.string ⟨(beB S (sgn M M2 P)).toArray⟩, .int .i64 0]) ∧ Below W.heap.size W w') := CT
        rw [← HPT.out] at CT1
        clear ex en ez hP CP CT
        go_wp2_with fail
        refine CP1.out.mono ?_
        rintro e V5 ⟨rfl, hb⟩
        replace B0 := aB B0 hb
        replace F1 := aG F1 hb
        clear hb CP1
        go_wp2_with fail
        refine (CT1.out V5 F1.out).mono ?_
        rintro e V6 ⟨rfl, hb⟩
        replace B0 := aB B0 hb
        clear hb CT1
        go_wp2_with fail
        go_ret2
        exact ⟨by rw [HCz.out]; rfl, B0.out⟩
end
end Go.Proofs.YtlimogamjgehjaaGreat
namespace Go.Proofs.YtlimogamjgehjaaGreat
open Go.RowKit Go.Deep Go.PlainAid

set_option maxRecDepth 100000 in
set_option maxHeartbeats 2000000 in
theorem on48_78 {w : World} {z : Int} {G : Array Value} {p1 p2 : Nat} {t : ByteArray} {c : Int} (hG : gz.size = G.size) (hi : (Tryz.prog.info? 102).map (·.size) = some G.size) (h1 : G.all (·.oneCell') = true)
    (CG : Hid (∀ W, Calls Tryz.prog 85 #[.int .i64 z] W fun e w' => e = .returned (.tuple #[.agg G, .bool true]) ∧ Below W.heap.size W w')) (HF : Hid (∀ W g, IHolds W g 102 G.toList → Below w.heap.size w W → Calls Tryz.prog 83 #[.pointer (some ⟨g, 0, none⟩), .pointer (some ⟨p1, 0, none⟩), .pointer (some ⟨p2, 0, none⟩)] W fun e w' => e = .returned (.tuple #[.string t, .int .i64 c]) ∧ Below W.heap.size W w')) :
    Calls Tryz.prog 74 #[.int .i64 z, .func (.func 83) #[] #[.pointer (some ⟨p1, 0, none⟩), .pointer (some ⟨p2, 0, none⟩)]] w fun e w' => e = .returned (.tuple #[.string t, .int .i64 c]) ∧ Below w.heap.size w w' := by
  go_enter Tryz.func74, Tryz.ntmps74
  go_wp2_with fail
  refine (CG.out w).mono ?_
  rintro e U1 ⟨rfl, hb⟩
  have B : Hid (Below w.heap.size w U1) := hb
  clear hb
  have hg : (U1.alloc (.cells gz 102)).heap[U1.heap.size]? = some (.cells gz 102 (0, 0)) := by
    have h := IHolds.new U1 102 gz.toList
    unfold IHolds at h
    rw [Array.toArray_toList] at h
    exact h
  have J : Hid (IHolds (U1.alloc (.cells G 102)) U1.heap.size 102 G.toList) := by
    have h := IHolds.new U1 102 G.toList
    rw [Array.toArray_toList] at h
    exact h
  replace B := aB B (nB U1 (.cells G 102))
  go_wp2_with (refine wpList_store_row rfl 102 (.tmp 6) (.tmp 12) rfl U1.heap.size G rfl rfl 102 gz hg hi hG h1 ?_; rw [World.setRow_alloc_new]; clear hg)
  generalize U1.alloc (.cells G 102) = U2 at *
  refine (HF.out U2 _ J.out B.out).mono ?_
  rintro e U3 ⟨rfl, hb⟩
  replace B := aB B hb
  clear hb
  go_wp2_with fail
  go_ret2
  exact ⟨rfl, B.out⟩
set_option maxRecDepth 100000 in
set_option maxHeartbeats 2000000 in
theorem on48_78_no {w : World} {z : Int} {G : Array Value} {p1 p2 : Nat}  (hG : gz.size = G.size) (hi : (Tryz.prog.info? 102).map (·.size) = some G.size) (h1 : G.all (·.oneCell') = true)
    (CG : Hid (∀ W, Calls Tryz.prog 85 #[.int .i64 z] W fun e w' => e = .returned (.tuple #[.agg G, .bool false]) ∧ Below W.heap.size W w'))  :
    Calls Tryz.prog 74 #[.int .i64 z, .func (.func 83) #[] #[.pointer (some ⟨p1, 0, none⟩), .pointer (some ⟨p2, 0, none⟩)]] w fun e w' => e = .returned (.tuple #[.string ⟨#[]⟩, .int .i64 1]) ∧ Below w.heap.size w w' := by
  go_enter Tryz.func74, Tryz.ntmps74
  go_wp2_with fail
  refine (CG.out w).mono ?_
  rintro e U1 ⟨rfl, hb⟩
  have B : Hid (Below w.heap.size w U1) := hb
  clear hb
  have hg : (U1.alloc (.cells gz 102)).heap[U1.heap.size]? = some (.cells gz 102 (0, 0)) := by
    have h := IHolds.new U1 102 gz.toList
    unfold IHolds at h
    rw [Array.toArray_toList] at h
    exact h
  have J : Hid (IHolds (U1.alloc (.cells G 102)) U1.heap.size 102 G.toList) := by
    have h := IHolds.new U1 102 G.toList
    rw [Array.toArray_toList] at h
    exact h
  replace B := aB B (nB U1 (.cells G 102))
  go_wp2_with (refine wpList_store_row rfl 102 (.tmp 6) (.tmp 12) rfl U1.heap.size G rfl rfl 102 gz hg hi hG h1 ?_; rw [World.setRow_alloc_new]; clear hg)
  go_ret2
  exact ⟨rfl, B.out⟩
set_option maxRecDepth 100000 in
set_option maxHeartbeats 2000000 in
theorem clos78_longA {w : World} {g p1 p2 la ln cx cn : Nat} {ax an : Option Addr}  (J1 : Hid (IHolds w p1 23 [.slice ax la cx])) (J2 : Hid (IHolds w p2 23 [.slice an ln cn])) (h : (256 : Int) < (la : Int))  :
    Calls Tryz.prog 83 #[.pointer (some ⟨g, 0, none⟩), .pointer (some ⟨p1, 0, none⟩), .pointer (some ⟨p2, 0, none⟩)] w fun e w' => e = .returned (.tuple #[.string ⟨#[]⟩, .int .i64 3]) ∧ Below w.heap.size w w' := by
  have z1 : w.cell? ⟨p1, 0, none⟩ = some (.slice ax la cx) := J1.out.cell 0 (by simp)
  have z2 : w.cell? ⟨p2, 0, none⟩ = some (.slice an ln cn) := J2.out.cell 0 (by simp)
  go_enter Tryz.func83, Tryz.ntmps83
  go_wp2_with fail
  go_ret2
  exact ⟨rfl, Below.refl _ _⟩
set_option maxRecDepth 100000 in
set_option maxHeartbeats 2000000 in
theorem clos78_longN {w : World} {g p1 p2 la ln cx cn : Nat} {ax an : Option Addr}  (J1 : Hid (IHolds w p1 23 [.slice ax la cx])) (J2 : Hid (IHolds w p2 23 [.slice an ln cn])) (h0 : ¬ (256 : Int) < (la : Int)) (h : (256 : Int) < (ln : Int))  :
    Calls Tryz.prog 83 #[.pointer (some ⟨g, 0, none⟩), .pointer (some ⟨p1, 0, none⟩), .pointer (some ⟨p2, 0, none⟩)] w fun e w' => e = .returned (.tuple #[.string ⟨#[]⟩, .int .i64 3]) ∧ Below w.heap.size w w' := by
  have z1 : w.cell? ⟨p1, 0, none⟩ = some (.slice ax la cx) := J1.out.cell 0 (by simp)
  have z2 : w.cell? ⟨p2, 0, none⟩ = some (.slice an ln cn) := J2.out.cell 0 (by simp)
  go_enter Tryz.func83, Tryz.ntmps83
  go_wp2_with fail
  go_ret2
  exact ⟨rfl, Below.refl _ _⟩
set_option maxRecDepth 100000 in
set_option maxHeartbeats 2000000 in
theorem clos78_form {w : World} {g p1 p2 la ln cx cn : Nat} {ax an : Option Addr}  (J1 : Hid (IHolds w p1 23 [.slice ax la cx])) (J2 : Hid (IHolds w p2 23 [.slice an ln cn])) (h0 : ¬ (256 : Int) < (la : Int)) (h1 : ¬ (256 : Int) < (ln : Int)) (hne : (la : Int) ≠ (ln : Int)) (hne2 : ((la : Int) != (ln : Int)) = true)  :
    Calls Tryz.prog 83 #[.pointer (some ⟨g, 0, none⟩), .pointer (some ⟨p1, 0, none⟩), .pointer (some ⟨p2, 0, none⟩)] w fun e w' => e = .returned (.tuple #[.string ⟨#[]⟩, .int .i64 2]) ∧ Below w.heap.size w w' := by
  have z1 : w.cell? ⟨p1, 0, none⟩ = some (.slice ax la cx) := J1.out.cell 0 (by simp)
  have z2 : w.cell? ⟨p2, 0, none⟩ = some (.slice an ln cn) := J2.out.cell 0 (by simp)
  go_enter Tryz.func83, Tryz.ntmps83
  go_wp2_with fail
  go_ret2
  exact ⟨rfl, Below.refl _ _⟩
set_option maxRecDepth 100000 in
set_option maxHeartbeats 2000000 in
theorem clos78_ok {w : World} {g p1 p2 la ln cx cn : Nat} {ax an : Option Addr} {t : ByteArray} {c : Int} (J1 : Hid (IHolds w p1 23 [.slice ax la cx])) (J2 : Hid (IHolds w p2 23 [.slice an ln cn])) (h0 : ¬ (256 : Int) < (la : Int)) (hne : ln = la) (C : Hid (Calls Tryz.prog 84 #[.pointer (some ⟨g, 0, none⟩), .slice ax la cx, .slice an la cn] w fun e w' => e = .returned (.tuple #[.string t, .int .i64 c]) ∧ Below w.heap.size w w')) :
    Calls Tryz.prog 83 #[.pointer (some ⟨g, 0, none⟩), .pointer (some ⟨p1, 0, none⟩), .pointer (some ⟨p2, 0, none⟩)] w fun e w' => e = .returned (.tuple #[.string t, .int .i64 c]) ∧ Below w.heap.size w w' := by
  subst hne
  have z1 : w.cell? ⟨p1, 0, none⟩ = some (.slice ax ln cx) := J1.out.cell 0 (by simp)
  have z2 : w.cell? ⟨p2, 0, none⟩ = some (.slice an ln cn) := J2.out.cell 0 (by simp)
  go_enter Tryz.func83, Tryz.ntmps83
  go_wp2_with fail
  refine C.out.mono ?_
  rintro e V1 ⟨rfl, hb⟩
  have B : Hid (Below w.heap.size w V1) := hb
  clear hb
  go_wp2_with fail
  go_ret2
  exact ⟨rfl, B.out⟩
set_option maxRecDepth 100000 in
set_option maxHeartbeats 2000000 in
theorem product_face {w : World} {z c : Int} {t : ByteArray} {ax an : Option Addr} {la ln cx cn : Nat}
    (C : Hid (∀ W p1 p2, IHolds W p1 23 [.slice ax la cx] → IHolds W p2 23 [.slice an ln cn] → Below w.heap.size w W → Calls Tryz.prog 74 #[.int .i64 z, .func (.func 83) #[] #[.pointer (some ⟨p1, 0, none⟩), .pointer (some ⟨p2, 0, none⟩)]] W fun e w' => e = .returned (.tuple #[.string t, .int .i64 c]) ∧ Below W.heap.size W w')) :
    Calls Tryz.prog 64 #[.int .i64 z, .slice ax la cx, .slice an ln cn] w fun e w' => e = .returned (.tuple #[.string t, .int .i64 c]) ∧ Below w.heap.size w w' := by
  have Jp1 : Hid (IHolds ((w.alloc (.cells #[.slice ax la cx] 23)).alloc (.cells #[.slice an ln cn] 23)) (w.heap.size) 23 [.slice ax la cx]) := by
    have q := IHolds.new w 23 [.slice ax la cx]
    exact (q.alloc _)
  have Jp2 : Hid (IHolds ((w.alloc (.cells #[.slice ax la cx] 23)).alloc (.cells #[.slice an ln cn] 23)) (w.heap.size + 1) 23 [.slice an ln cn]) := by
    have q := IHolds.new (w.alloc (.cells #[.slice ax la cx] 23)) 23 [.slice an ln cn]
    simp only [World.size_alloc, Nat.add_assoc, Nat.reduceAdd] at q
    exact q
  have B : Hid (Below w.heap.size w ((w.alloc (.cells #[.slice ax la cx] 23)).alloc (.cells #[.slice an ln cn] 23))) := (((Below.refl _ w).alloc (Nat.le_refl _) _).alloc (by simp only [World.size_alloc]; omega) _)
  go_enter Tryz.func64, Tryz.ntmps64
  go_wp2_with fail
  generalize ((w.alloc (.cells #[.slice ax la cx] 23)).alloc (.cells #[.slice an ln cn] 23)) = V0 at *
  refine (C.out V0 _ _ Jp1.out Jp2.out B.out).mono ?_
  rintro e V1 ⟨rfl, hb⟩
  replace B := aB B hb
  clear hb
  go_wp2_with fail
  go_ret2
  exact ⟨rfl, B.out⟩
section
variable {z : Int} {G : Array Value} {S Wd M low one sq Ri Wd2 M2 low2 one2 sq2 Ri2 : Nat}
theorem prod_longA (k : KD z G S Wd M low one sq Ri Wd2 M2 low2 one2 sq2 Ri2) (w : World) {ax an : Option Addr} {la ln cx cn : Nat} (h : 256 < la) :
    Calls Tryz.prog 64 #[.int .i64 z, .slice ax la cx, .slice an ln cn] w fun e w' => e = .returned (.tuple #[.string ⟨#[]⟩, .int .i64 3]) ∧ Below w.heap.size w w' :=
  product_face (fun W p1 p2 j1 j2 hb => on48_78 k.hG k.hi k.h1 k.CG (fun W2 g hI hb2 => clos78_longA (j1.of_below hb2) (j2.of_below hb2) (by omega)))
theorem prod_longN (k : KD z G S Wd M low one sq Ri Wd2 M2 low2 one2 sq2 Ri2) (w : World) {ax an : Option Addr} {la ln cx cn : Nat} (h0 : ¬ 256 < la) (h : 256 < ln) :
    Calls Tryz.prog 64 #[.int .i64 z, .slice ax la cx, .slice an ln cn] w fun e w' => e = .returned (.tuple #[.string ⟨#[]⟩, .int .i64 3]) ∧ Below w.heap.size w w' :=
  product_face (fun W p1 p2 j1 j2 hb => on48_78 k.hG k.hi k.h1 k.CG (fun W2 g hI hb2 => clos78_longN (j1.of_below hb2) (j2.of_below hb2) (by omega) (by omega)))
theorem prod_form (k : KD z G S Wd M low one sq Ri Wd2 M2 low2 one2 sq2 Ri2) (w : World) {ax an : Option Addr} {la ln cx cn : Nat} (h0 : ¬ 256 < la) (h : ¬ 256 < ln) (hne : la ≠ ln) :
    Calls Tryz.prog 64 #[.int .i64 z, .slice ax la cx, .slice an ln cn] w fun e w' => e = .returned (.tuple #[.string ⟨#[]⟩, .int .i64 2]) ∧ Below w.heap.size w w' :=
  product_face (fun W p1 p2 j1 j2 hb => on48_78 k.hG k.hi k.h1 k.CG (fun W2 g hI hb2 => clos78_form (j1.of_below hb2) (j2.of_below hb2) (by omega) (by omega) (by omega) (by simp [bne]; omega)))
theorem prod_yes (k : KD z G S Wd M low one sq Ri Wd2 M2 low2 one2 sq2 Ri2) (w : World) {xs ns : List ByteArray} {ax an : Option Addr} {n cx cn : Nat} (hx : SAt w ax xs) (hn : SAt w an ns) (hlx : xs.length = n) (hln : ns.length = n) (h9 : n ≤ 256) :
    Calls Tryz.prog 64 #[.int .i64 z, .slice ax n cx, .slice an n cn] w fun e w' => e = .returned (.tuple #[.string (prodT S M M2 xs ns), .int .i64 (code S M xs ns : Int)]) ∧ Below w.heap.size w w' :=
  product_face (fun W p1 p2 j1 j2 hb => on48_78 k.hG k.hi k.h1 k.CG (fun W2 g hI hb2 => clos78_ok (j1.of_below hb2) (j2.of_below hb2) (by omega) rfl (product_any k (k.gh W2 g hI) xs ns ((hx.of_below hb).of_below hb2) ((hn.of_below hb).of_below hb2) hlx hln h9)))
theorem prod_none {G0 : Array Value} (w : World) {ax an : Option Addr} {la ln cx cn : Nat} (hG : gz.size = G0.size) (hi : (Tryz.prog.info? 102).map (·.size) = some G0.size) (h1 : G0.all (·.oneCell') = true)
    (CG : Hid (∀ W, Calls Tryz.prog 85 #[.int .i64 z] W fun e w' => e = .returned (.tuple #[.agg G0, .bool false]) ∧ Below W.heap.size W w')) :
    Calls Tryz.prog 64 #[.int .i64 z, .slice ax la cx, .slice an ln cn] w fun e w' => e = .returned (.tuple #[.string ⟨#[]⟩, .int .i64 1]) ∧ Below w.heap.size w w' :=
  product_face (fun W p1 p2 j1 j2 hb => on48_78_no hG hi h1 CG)
end
end Go.Proofs.YtlimogamjgehjaaGreat
