/- The product of the powers of what two lists hold. -/
import Derived.Test.YtohpbclofcflaaaGreatProd0
import Derived.Deep.CutBlock
import Derived.Deep.DeepCutAuto
set_option linter.unusedSimpArgs false
set_option linter.unusedVariables false
namespace Go.Proofs.YtohpbclofcflaaaGreat
open Go.RowKit Go.Deep Go.PlainAid

/-- What is told of the product. -/
def prodT (S M M2 : Nat) (xs ns : List ByteArray) : ByteArray := if code S M xs ns = 0 then ⟨(beB S (sgn M M2 (powP (nums xs) (nums ns) xs.length % M2))).toArray⟩ else ⟨#[]⟩
/-- All items so far are right. -/
def AllR (S M : Nat) (xs ns : List ByteArray) (i : Nat) : Prop := ∀ j, j < i → isEl S M (tx xs j) = true ∧ isSc S M (tx ns j) = true
theorem nums_take (l : List ByteArray) (i : Nat) (h : i < l.length) : nums (l.take (i + 1)) = nums (l.take i) ++ [numS (tx l i)] := by
  rw [List.take_add_one, List.getElem?_eq_getElem h, Option.toList_some, nums, List.map_append]
  simp [nums, tx, List.getD_eq_getElem?_getD, List.getElem?_eq_getElem h]
theorem nums_take_len (l : List ByteArray) (i : Nat) (h : i ≤ l.length) : (nums (l.take i)).length = i := by simp [nums]; omega
section
variable {z : Int} {G : Array Value} {S Wd M low one sq Ri Wd2 M2 low2 one2 sq2 Ri2 : Nat}
set_option maxRecDepth 100000 in
set_option maxHeartbeats 1000000 in
theorem product_any (k : KD z G S Wd M low one sq Ri Wd2 M2 low2 one2 sq2 Ri2) {w : World} {g : Nat} (F : Hid (GH w g S Wd M low one sq Wd2 M2 low2 one2 sq2)) (xs ns : List ByteArray) {ax an : Option Addr} {cx cn n : Nat} (hx : SAt w ax xs) (hn : SAt w an ns) (hlx : xs.length = n) (hln : ns.length = n) (h9 : n ≤ 256) :
    Calls Tryz.prog 60 #[.pointer (some ⟨g, 0, none⟩), .slice ax n cx, .slice an n cn] w fun e w' => e = .returned (.tuple #[.string (prodT S M M2 xs ns), .int .i64 (code S M xs ns : Int)]) ∧ Below w.heap.size w w' := by
  have CE : Hid (∀ W s, GH W g S Wd M low one sq Wd2 M2 low2 one2 sq2 → Calls Tryz.prog 55 #[.pointer (some ⟨g, 0, none⟩), .string s] W fun e w' => e = .returned (.tuple #[A4 (if isEl S M s then numS s else 0), .int .i64 (if isEl S M s then 0 else 7)]) ∧ Below W.heap.size W w') := fun W s hF => elemA hF s k.hS k.big
  have CS : Hid (∀ W s, GH W g S Wd M low one sq Wd2 M2 low2 one2 sq2 → Calls Tryz.prog 57 #[.pointer (some ⟨g, 0, none⟩), .string s] W fun e w' => e = .returned (.tuple #[A4 (if isSc S M s then numS s else 0), .int .i64 (if isSc S M s then 0 else 6)]) ∧ Below W.heap.size W w') := fun W s hF => scalarA hF s k.hS k.big
  have CP : Hid (∀ W va vn, AllR S M xs ns n → GH W g S Wd M low one sq Wd2 M2 low2 one2 sq2 → NumsV W (nums xs) va → NumsV W (nums ns) vn → Calls Tryz.prog 77 #[.pointer (some ⟨g, 15, none⟩), va, vn] W fun e w' => e = .returned (A4 (powP (nums xs) (nums ns) n % M2)) ∧ Below W.heap.size W w') := fun W va vn hR hF g1 g2 => by
    have e1 : (nums xs).length = n := by rw [nums, List.length_map]; exact hlx
    have q := powers_any hF.fe k.fl2 (nums xs) (nums ns) va vn g1 g2 (by simp [nums, hlx, hln]) (by omega) (fun j hj => by
      rw [e1] at hj
      rw [nums_getD xs j (by omega)]
      exact k.elw (hR j hj).1) (fun j hj => by
      rw [e1] at hj
      rw [nums_getD ns j (by omega)]
      exact Nat.lt_trans (isSc_lt (hR j hj).2) k.big)
    rw [e1] at q
    exact q
  have CT : Hid (∀ W, GH W g S Wd M low one sq Wd2 M2 low2 one2 sq2 → Calls Tryz.prog 76 #[.pointer (some ⟨g, 0, none⟩), A4 (powP (nums xs) (nums ns) n % M2)] W fun e w' => e = .returned (.tuple #[.string ⟨(beB S (sgn M M2 (powP (nums xs) (nums ns) n % M2))).toArray⟩, .int .i64 0]) ∧ Below W.heap.size W w') := fun W hF => toldElemA k hF (k.mod2 _)
  clear k
  have HX : Hid (SAt w ax xs) := hx
  have HN : Hid (SAt w an ns) := hn
  have Hlx : Hid (xs.length = n) := hlx
  have Hln : Hid (ns.length = n) := hln
  clear hx hn hlx hln
  have h9' : n ≤ 1000 := by omega
  go_enter Tryz.func60, Tryz.ntmps60
  go_upto_region 1 with fail
  go_cut [8, 9] (fun v8 v9 wx => ∃ bA bB : Nat, v8 = .slice (some ⟨bA, 0, none⟩) n n ∧ v9 = .slice (some ⟨bB, 0, none⟩) n n ∧ bA ≠ bB ∧ IHolds wx bA 81 (zeros n) ∧ IHolds wx bB 81 (zeros n) ∧ w.heap.size ≤ bA ∧ w.heap.size ≤ bB ∧ Below w.heap.size w wx)
  case first =>
    have B0 : Hid (Below w.heap.size w w.drew) := dB w
    have G0 : Hid (w.heap.size ≤ w.drew.heap.size) := B0.out.size
    refine wp_region_held_drew (S := fun W => True) (by kernel_rfl) trivial (fun h1 => ?_)
    generalize w.drew = V0 at *
    refine tk (i := 0) (v := .slice ax n cx) rfl (by kernel_rfl) (fun _ _ _ h => h) rfl ?_ h1 ?_
    · intro W hS; go_simp
    simp only [Act.put, y1, y2, y3, y4, y5, y6, y7]
    refine tk (i := 1) (v := .int .i64 (n : Int)) rfl (by kernel_rfl) (fun _ _ _ h => h) rfl ?_ h1 ?_
    · intro W hS; go_simp
    simp only [Act.put, y1, y2, y3, y4, y5, y6, y7]
    refine tk (i := 3) (v := .slice ax n cx) rfl (by kernel_rfl) (fun _ _ _ h => h) rfl ?_ h1 ?_
    · intro W hS; go_simp
    simp only [Act.put, y1, y2, y3, y4, y5, y6, y7]
    refine tk (i := 4) (v := .int .i64 (n : Int)) rfl (by kernel_rfl) (fun _ _ _ h => h) rfl ?_ h1 ?_
    · intro W hS; go_simp
    simp only [Act.put, y1, y2, y3, y4, y5, y6, y7]
    refine wpAnyH_ready (rs := [2, 5]) (by kernel_rfl) (by simp) ?_
    refine AllReadyH.cons rfl (fun K hK => ?_) (AllReadyH.cons rfl (fun K hK => ?_) AllReadyH.nil)
    all_goals clear h1
    · have hm := make105n n h9' V0
      have JA : Hid (IHolds (V0.alloc (.cells (zeros n).toArray 81)) V0.heap.size 81 (zeros n)) := IHolds.new _ _ _
      have hb := nB V0 (.cells (zeros n).toArray 81)
      replace B0 := aB B0 hb
      clear hb
      go_simp
      clear hm
      generalize V0.alloc (.cells (zeros n).toArray 81) = V1 at *
      generalize V0.heap.size = b1 at *
      have g1 : Hid (w.heap.size ≤ b1) := G0
      refine hK.out _ _ trivial (fun h1 => ?_)
      clear hK K
      try simp only [Act.put, y1, y2, y3, y4, y5, y6, y7]
      refine tk (i := 6) (v := .slice (some ⟨b1, 0, none⟩) n n) rfl (by kernel_rfl) (fun _ _ _ h => h) rfl ?_ h1 ?_
      · intro W hS; go_simp
      simp only [Act.put, y1, y2, y3, y4, y5, y6, y7]
      refine wpAnyH_ready (rs := [5]) (by kernel_rfl) (by simp) ?_
      refine AllReadyH.cons rfl (fun K hK => ?_) AllReadyH.nil
      clear h1
      have hm := make105n n h9' V1
      have JB : Hid (IHolds (V1.alloc (.cells (zeros n).toArray 81)) V1.heap.size 81 (zeros n)) := IHolds.new _ _ _
      have hb := nB V1 (.cells (zeros n).toArray 81)
      have g2 : Hid (w.heap.size ≤ V1.heap.size) := B0.out.size
      have ne1 : Hid (b1 ≠ V1.heap.size) := by have := JA.out.lt; show _ ≠ _; omega
      replace B0 := aB B0 hb
      replace JA := aJ JA hb
      clear hb
      go_simp
      clear hm
      generalize V1.alloc (.cells (zeros n).toArray 81) = V2 at *
      generalize V1.heap.size = b2 at *
      refine hK.out _ _ trivial (fun h1 => ?_)
      clear hK K
      try simp only [Act.put, y1, y2, y3, y4, y5, y6, y7]
      refine tk (i := 7) (v := .slice (some ⟨b2, 0, none⟩) n n) rfl (by kernel_rfl) (fun _ _ _ h => h) rfl ?_ h1 ?_
      · intro W hS; go_simp
      simp only [Act.put, y1, y2, y3, y4, y5, y6, y7]
      refine wpAnyH_done (by kernel_rfl) ?_ _
      clear h1
      go_wp2_with fail
      go_meet
      case rel => exact ⟨b1, b2, rfl, rfl, ne1.out, JA.out, JB.out, g1.out, g2.out, B0.out⟩
    · have hm := make105n n h9' V0
      have JB : Hid (IHolds (V0.alloc (.cells (zeros n).toArray 81)) V0.heap.size 81 (zeros n)) := IHolds.new _ _ _
      have hb := nB V0 (.cells (zeros n).toArray 81)
      replace B0 := aB B0 hb
      clear hb
      go_simp
      clear hm
      generalize V0.alloc (.cells (zeros n).toArray 81) = V1 at *
      generalize V0.heap.size = b1 at *
      have g1 : Hid (w.heap.size ≤ b1) := G0
      refine hK.out _ _ trivial (fun h1 => ?_)
      clear hK K
      try simp only [Act.put, y1, y2, y3, y4, y5, y6, y7]
      refine wpAnyH_ready (rs := [2]) (by kernel_rfl) (by simp) ?_
      refine AllReadyH.cons rfl (fun K hK => ?_) AllReadyH.nil
      clear h1
      have hm := make105n n h9' V1
      have JA : Hid (IHolds (V1.alloc (.cells (zeros n).toArray 81)) V1.heap.size 81 (zeros n)) := IHolds.new _ _ _
      have hb := nB V1 (.cells (zeros n).toArray 81)
      have g2 : Hid (w.heap.size ≤ V1.heap.size) := B0.out.size
      have ne1 : Hid (b1 ≠ V1.heap.size) := by have := JB.out.lt; show _ ≠ _; omega
      replace B0 := aB B0 hb
      replace JB := aJ JB hb
      clear hb
      go_simp
      clear hm
      generalize V1.alloc (.cells (zeros n).toArray 81) = V2 at *
      generalize V1.heap.size = b2 at *
      refine hK.out _ _ trivial (fun h1 => ?_)
      clear hK K
      try simp only [Act.put, y1, y2, y3, y4, y5, y6, y7]
      refine tk (i := 6) (v := .slice (some ⟨b2, 0, none⟩) n n) rfl (by kernel_rfl) (fun _ _ _ h => h) rfl ?_ h1 ?_
      · intro W hS; go_simp
      simp only [Act.put, y1, y2, y3, y4, y5, y6, y7]
      refine tk (i := 7) (v := .slice (some ⟨b1, 0, none⟩) n n) rfl (by kernel_rfl) (fun _ _ _ h => h) rfl ?_ h1 ?_
      · intro W hS; go_simp
      simp only [Act.put, y1, y2, y3, y4, y5, y6, y7]
      refine wpAnyH_done (by kernel_rfl) ?_ _
      clear h1
      go_wp2_with fail
      go_meet
      case rel => exact ⟨b2, b1, rfl, rfl, fun h => ne1.out h.symm, JA.out, JB.out, g2.out, g1.out, B0.out⟩
  case rest =>
    obtain ⟨bA, bB, rfl, rfl, hne, hJA, hJB, hgA, hgB, hB⟩ := hcut
    have JA : Hid (IHolds wc bA 81 (zeros n)) := hJA
    have JB : Hid (IHolds wc bB 81 (zeros n)) := hJB
    have B0 : Hid (Below w.heap.size w wc) := hB
    have Hne : Hid (bA ≠ bB) := hne
    have HgA : Hid (w.heap.size ≤ bA) := hgA
    have HgB : Hid (w.heap.size ≤ bB) := hgB
    clear hJA hJB hB hne hgA hgB
    go_wp2_with fail
    go_loopg [20] n (fun gk v20 wr => ∃ i : Nat, gk + i = n ∧ v20 = .int .i64 (i : Int) ∧ AllR S M xs ns i ∧ code S M xs ns = code S M (xs.drop i) (ns.drop i) ∧ IHolds wr bA 81 (numC (nums (xs.take i)) ++ zeros (n - i)) ∧ IHolds wr bB 81 (numC (nums (ns.take i)) ++ zeros (n - i)) ∧ Below w.heap.size w wr)
    case atStart => exact ⟨0, by omega, rfl, fun j h => by omega, rfl, JA.out, JB.out, B0.out⟩
    case round =>
      clear JA JB B0
      obtain ⟨i, hi, rfl, hR, hC, hJA, hJB, hB⟩ := hrel
      have JA : Hid (IHolds wr bA 81 (numC (nums (xs.take i)) ++ zeros (n - i))) := hJA
      have JB : Hid (IHolds wr bB 81 (numC (nums (ns.take i)) ++ zeros (n - i))) := hJB
      have B0 : Hid (Below w.heap.size w wr) := hB
      have HR : Hid (AllR S M xs ns i) := hR
      have HC : Hid (code S M xs ns = code S M (xs.drop i) (ns.drop i)) := hC
      clear hJA hJB hB hR hC
      by_cases hin : i < n
      · have k1 : (i : Int) < (n : Int) := by omega
        have F1 : Hid (GH wr g S Wd M low one sq Wd2 M2 low2 one2 sq2) := aG F B0.out
        have HC2 : Hid (code S M xs ns = if isEl S M (tx xs i) then (if isSc S M (tx ns i) then code S M (xs.drop (i + 1)) (ns.drop (i + 1)) else 6) else 7) := by
          show _ = _
          rw [HC.out]; exact code_step (by rw [Hlx.out]; exact hin) (by rw [Hln.out]; exact hin)
        obtain ⟨bx, ox, rfl, hcx⟩ := HX.out i (by rw [Hlx.out]; exact hin)
        obtain ⟨bn, on, rfl, hcn⟩ := HN.out i (by rw [Hln.out]; exact hin)
        have hbx : bx < w.heap.size := World.block_lt_of_cell? w ⟨bx, ox + i, none⟩ hcx
        have hbn : bn < w.heap.size := World.block_lt_of_cell? w ⟨bn, on + i, none⟩ hcn
        have Hcn : Hid (w.cell? ⟨bn, on + i, none⟩ = some (.string (tx ns i))) := hcn
        have Hbn : Hid (bn < w.heap.size) := hbn
        have zx : wr.cell? ⟨bx, ox + i, none⟩ = some (.string (tx xs i)) := by rw [B0.out.cell hbx]; exact hcx
        have hz : n - i = (n - i - 1) + 1 := by omega
        have HlA : Hid ((nums (xs.take i)).length = i) := nums_take_len xs i (by rw [Hlx.out]; omega)
        have HlB : Hid ((nums (ns.take i)).length = i) := nums_take_len ns i (by rw [Hln.out]; omega)
        have HtA : Hid (nums (xs.take (i + 1)) = nums (xs.take i) ++ [numS (tx xs i)]) := nums_take xs i (by rw [Hlx.out]; exact hin)
        have HtB : Hid (nums (ns.take (i + 1)) = nums (ns.take i) ++ [numS (tx ns i)]) := nums_take ns i (by rw [Hln.out]; exact hin)
        rw [hz] at JA JB
        have Hz2 : Hid (n - i - 1 = n - (i + 1)) := by show _ = _; omega
        obtain ⟨X, hX⟩ : ∃ X, X = (if isEl S M (tx xs i) then numS (tx xs i) else 0) := ⟨_, rfl⟩
        have C1 : Hid (Calls Tryz.prog 55 #[.pointer (some ⟨g, 0, none⟩), .string (tx xs i)] wr fun e w' => e = .returned (.tuple #[.agg #[U (w4 X 0), U (w4 X 1), U (w4 X 2), U (w4 X 3)], .int .i64 (if isEl S M (tx xs i) then 0 else 7)]) ∧ Below wr.heap.size wr w') := by
          have q := CE.out wr (tx xs i) F1.out
          rw [← hX] at q
          exact q
        have HXe : Hid (X = (if isEl S M (tx xs i) then numS (tx xs i) else 0)) := hX
        clear hX hcx hcn hbx hbn hz
        obtain ⟨q, hq⟩ : ∃ q, q = i * 4 := ⟨_, rfl⟩
        have kq : (i : Int) * 4 = (q : Int) := by omega
        have kq2 : ((i : Int) * 4).toNat = q := by omega
        have kq3 : (i : Int).toNat * 4 = q := by omega
        have kq4 : i * 4 = q := hq.symm
        have Hq : Hid (q = i * 4) := hq
        clear hq
        go_wp2_with fail
        clear zx
        refine C1.out.mono ?_
        rintro e V1 ⟨rfl, hb⟩
        replace B0 := aB B0 hb
        replace F1 := aG F1 hb
        replace JA := aJ JA hb
        replace JB := aJ JB hb
        clear hb C1
        have zA0 : V1.cell? ⟨bA, q, none⟩ = some (.int .u64 0) := by have h := zero_cell JA.out (j := 0) (by omega); rw [HlA.out, kq4] at h; exact h
        have zA1 : V1.cell? ⟨bA, q + 1, none⟩ = some (.int .u64 0) := by have h := zero_cell JA.out (j := 1) (by omega); rw [HlA.out, kq4] at h; exact h
        have zA2 : V1.cell? ⟨bA, q + 2, none⟩ = some (.int .u64 0) := by have h := zero_cell JA.out (j := 2) (by omega); rw [HlA.out, kq4] at h; exact h
        have zA3 : V1.cell? ⟨bA, q + 3, none⟩ = some (.int .u64 0) := by have h := zero_cell JA.out (j := 3) (by omega); rw [HlA.out, kq4] at h; exact h
        have fA := fJ JA
        have hBut : But bA V1 (((((V1.setCell ⟨bA, q, none⟩ (U (w4 X 0))).setCell ⟨bA, q + 1, none⟩ (U (w4 X 1))).setCell ⟨bA, q + 2, none⟩ (U (w4 X 2))).setCell ⟨bA, q + 3, none⟩ (U (w4 X 3)))) := ((((But.refl _ V1).setCell q _).setCell (q + 1) _).setCell (q + 2) _).setCell (q + 3) _
        have JA2 : Hid (IHolds (((((V1.setCell ⟨bA, q, none⟩ (U (w4 X 0))).setCell ⟨bA, q + 1, none⟩ (U (w4 X 1))).setCell ⟨bA, q + 2, none⟩ (U (w4 X 2))).setCell ⟨bA, q + 3, none⟩ (U (w4 X 3)))) bA 81 (numC (nums (xs.take i) ++ [X]) ++ zeros (n - i - 1))) := by
          show IHolds _ _ _ _
          rw [← put_at, HlA.out, kq4]
          exact (((JA.out.set q _).set (q + 1) _).set (q + 2) _).set (q + 3) _
        have B2 : Hid (Below w.heap.size w (((((V1.setCell ⟨bA, q, none⟩ (U (w4 X 0))).setCell ⟨bA, q + 1, none⟩ (U (w4 X 1))).setCell ⟨bA, q + 2, none⟩ (U (w4 X 2))).setCell ⟨bA, q + 3, none⟩ (U (w4 X 3))))) := (((B0.out.setCell HgA.out _).setCell HgA.out _).setCell HgA.out _).setCell HgA.out _
        replace JB := tJ JB hBut (fun h => Hne.out h.symm)
        replace F1 := tG F1 hBut (by have h1 := F.out.lt; have h2 := HgA.out; omega)
        clear hBut JA B0
        cases hel : isEl S M (tx xs i)
        · have HCf : Hid (code S M xs ns = 7) := by show _ = _; rw [HC2.out, hel]; rfl
          rw [if_neg (by simp)]
          clear hel
          go_wp2_with fail
          go_ret2
          exact ⟨by rw [HCf.out, prodT, HCf.out]; rfl, B2.out⟩
        · have HelT : Hid (isEl S M (tx xs i) = true) := hel
          rw [if_pos rfl]
          have HXv : Hid (X = numS (tx xs i)) := by show _ = _; rw [HXe.out, hel]; rfl
          have zn : (((((V1.setCell ⟨bA, q, none⟩ (U (w4 X 0))).setCell ⟨bA, q + 1, none⟩ (U (w4 X 1))).setCell ⟨bA, q + 2, none⟩ (U (w4 X 2))).setCell ⟨bA, q + 3, none⟩ (U (w4 X 3)))).cell? ⟨bn, on + i, none⟩ = some (.string (tx ns i)) := by rw [B2.out.cell Hbn.out]; exact Hcn.out
          clear hel
          go_wp2_with fail
          clear zA0 zA1 zA2 zA3 fA zn
          generalize ((((V1.setCell ⟨bA, q, none⟩ (U (w4 X 0))).setCell ⟨bA, q + 1, none⟩ (U (w4 X 1))).setCell ⟨bA, q + 2, none⟩ (U (w4 X 2))).setCell ⟨bA, q + 3, none⟩ (U (w4 X 3))) = V2 at *
          obtain ⟨Y, hY⟩ : ∃ Y, Y = (if isSc S M (tx ns i) then numS (tx ns i) else 0) := ⟨_, rfl⟩
          have C2 : Hid (Calls Tryz.prog 57 #[.pointer (some ⟨g, 0, none⟩), .string (tx ns i)] V2 fun e w' => e = .returned (.tuple #[.agg #[U (w4 Y 0), U (w4 Y 1), U (w4 Y 2), U (w4 Y 3)], .int .i64 (if isSc S M (tx ns i) then 0 else 6)]) ∧ Below V2.heap.size V2 w') := by
            have q := CS.out V2 (tx ns i) F1.out
            rw [← hY] at q
            exact q
          have HYe : Hid (Y = (if isSc S M (tx ns i) then numS (tx ns i) else 0)) := hY
          clear hY
          refine C2.out.mono ?_
          rintro e V3 ⟨rfl, hb⟩
          replace B2 := aB B2 hb
          replace F1 := aG F1 hb
          replace JA2 := aJ JA2 hb
          replace JB := aJ JB hb
          clear hb C2
          have zA0 : V3.cell? ⟨bB, q, none⟩ = some (.int .u64 0) := by have h := zero_cell JB.out (j := 0) (by omega); rw [HlB.out, kq4] at h; exact h
          have zA1 : V3.cell? ⟨bB, q + 1, none⟩ = some (.int .u64 0) := by have h := zero_cell JB.out (j := 1) (by omega); rw [HlB.out, kq4] at h; exact h
          have zA2 : V3.cell? ⟨bB, q + 2, none⟩ = some (.int .u64 0) := by have h := zero_cell JB.out (j := 2) (by omega); rw [HlB.out, kq4] at h; exact h
          have zA3 : V3.cell? ⟨bB, q + 3, none⟩ = some (.int .u64 0) := by have h := zero_cell JB.out (j := 3) (by omega); rw [HlB.out, kq4] at h; exact h
          have fA := fJ JB
          have hBut : But bB V3 (((((V3.setCell ⟨bB, q, none⟩ (U (w4 Y 0))).setCell ⟨bB, q + 1, none⟩ (U (w4 Y 1))).setCell ⟨bB, q + 2, none⟩ (U (w4 Y 2))).setCell ⟨bB, q + 3, none⟩ (U (w4 Y 3)))) := ((((But.refl _ V3).setCell q _).setCell (q + 1) _).setCell (q + 2) _).setCell (q + 3) _
          have JB2 : Hid (IHolds (((((V3.setCell ⟨bB, q, none⟩ (U (w4 Y 0))).setCell ⟨bB, q + 1, none⟩ (U (w4 Y 1))).setCell ⟨bB, q + 2, none⟩ (U (w4 Y 2))).setCell ⟨bB, q + 3, none⟩ (U (w4 Y 3)))) bB 81 (numC (nums (ns.take i) ++ [Y]) ++ zeros (n - i - 1))) := by
            show IHolds _ _ _ _
            rw [← put_at, HlB.out, kq4]
            exact (((JB.out.set q _).set (q + 1) _).set (q + 2) _).set (q + 3) _
          have B3 : Hid (Below w.heap.size w (((((V3.setCell ⟨bB, q, none⟩ (U (w4 Y 0))).setCell ⟨bB, q + 1, none⟩ (U (w4 Y 1))).setCell ⟨bB, q + 2, none⟩ (U (w4 Y 2))).setCell ⟨bB, q + 3, none⟩ (U (w4 Y 3))))) := (((B2.out.setCell HgB.out _).setCell HgB.out _).setCell HgB.out _).setCell HgB.out _
          replace JA2 := tJ JA2 hBut Hne.out
          clear hBut JB B2 F1
          cases hsc : isSc S M (tx ns i)
          · have HCf : Hid (code S M xs ns = 6) := by show _ = _; rw [HC2.out, HelT.out, hsc]; rfl
            rw [if_neg (by simp)]
            clear hsc
            go_wp2_with fail
            go_ret2
            exact ⟨by rw [HCf.out, prodT, HCf.out]; rfl, B3.out⟩
          · rw [if_pos rfl]
            have HYv : Hid (Y = numS (tx ns i)) := by show _ = _; rw [HYe.out, hsc]; rfl
            have HC3 : Hid (code S M xs ns = code S M (xs.drop (i + 1)) (ns.drop (i + 1))) := by show _ = _; rw [HC2.out, HelT.out, hsc]; rfl
            have HR3 : Hid (AllR S M xs ns (i + 1)) := fun j hj => by
              by_cases e : j = i
              · rw [e]; exact ⟨HelT.out, hsc⟩
              · exact HR.out j (by omega)
            clear hsc
            go_wp2_with fail
            clear zA0 zA1 zA2 zA3 fA
            generalize ((((V3.setCell ⟨bB, q, none⟩ (U (w4 Y 0))).setCell ⟨bB, q + 1, none⟩ (U (w4 Y 1))).setCell ⟨bB, q + 2, none⟩ (U (w4 Y 2))).setCell ⟨bB, q + 3, none⟩ (U (w4 Y 3))) = V4 at *
            go_roundg (gk - 1)
            case measure => omega
            case rel => exact ⟨i + 1, by omega, by first | rfl | go_num, HR3.out, HC3.out, by rw [HtA.out, ← HXv.out, ← Hz2.out]; exact JA2.out, by rw [HtB.out, ← HYv.out, ← Hz2.out]; exact JB2.out, B3.out⟩
      · have k1 : ¬ (i : Int) < (n : Int) := by omega
        have ein : i = n := by omega
        subst ein
        have HCz : Hid (code S M xs ns = 0) := by show _ = _; rw [HC.out]; exact code_end (by rw [Hlx.out]; exact Nat.le_refl _)
        have ex : xs.take i = xs := List.take_of_length_le (by rw [Hlx.out]; exact Nat.le_refl _)
        have en : ns.take i = ns := List.take_of_length_le (by rw [Hln.out]; exact Nat.le_refl _)
        have ez : zeros (i - i) = [] := by rw [Nat.sub_self]; rfl
        rw [ex, ez, List.append_nil] at JA
        rw [en, ez, List.append_nil] at JB
        have NVA : Hid (NumsV wr (nums xs) (.slice (some ⟨bA, 0, none⟩) i i)) := NumsV.of_holds JA.out (by simp [nums, Hlx.out]) (by omega)
        have NVB : Hid (NumsV wr (nums ns) (.slice (some ⟨bB, 0, none⟩) i i)) := NumsV.of_holds JB.out (by simp [nums, Hln.out]) (by omega)
        have F1 : Hid (GH wr g S Wd M low one sq Wd2 M2 low2 one2 sq2) := aG F B0.out
        have HPT : Hid (prodT S M M2 xs ns = ⟨(beB S (sgn M M2 (powP (nums xs) (nums ns) i % M2))).toArray⟩) := by
          show _ = _
          rw [prodT, HCz.out, if_pos rfl, Hlx.out]
        obtain ⟨P, hP⟩ : ∃ P, P = powP (nums xs) (nums ns) i % M2 := ⟨_, rfl⟩
        rw [← hP] at CP CT HPT
        have CP1 : Hid (Calls Tryz.prog 77 #[.pointer (some ⟨g, 15, none⟩), .slice (some ⟨bA, 0, none⟩) i i, .slice (some ⟨bB, 0, none⟩) i i] wr fun e w' => e = .returned (.agg #[U (w4 P 0), U (w4 P 1), U (w4 P 2), U (w4 P 3)]) ∧ Below wr.heap.size wr w') := CP.out wr _ _ HR.out F1.out NVA.out NVB.out
        have CT1 : Hid (∀ W, GH W g S Wd M low one sq Wd2 M2 low2 one2 sq2 → Calls Tryz.prog 76 #[.pointer (some ⟨g, 0, none⟩), .agg #[U (w4 P 0), U (w4 P 1), U (w4 P 2), U (w4 P 3)]] W fun e w' => e = .returned (.tuple #[.string ⟨(beB S (sgn M M2 P)).toArray⟩, .int .i64 0]) ∧ Below W.heap.size W w') := CT
        rw [← HPT.out] at CT1
        clear ex en ez hP CP CT
        go_wp2_with fail
        refine CP1.out.mono ?_
        rintro e V5 ⟨rfl, hb⟩
        replace B0 := aB B0 hb
        replace F1 := aG F1 hb
        clear hb CP1
        go_wp2_with fail
        refine (CT1.out V5 F1.out).mono ?_
        rintro e V6 ⟨rfl, hb⟩
        replace B0 := aB B0 hb
        clear hb CT1
        go_wp2_with fail
        go_ret2
        exact ⟨by rw [HCz.out]; rfl, B0.out⟩
end
end Go.Proofs.YtohpbclofcflaaaGreat
