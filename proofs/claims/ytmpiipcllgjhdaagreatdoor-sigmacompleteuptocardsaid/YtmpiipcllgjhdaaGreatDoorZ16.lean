/- The product of the powers of what two lists hold. Product: the closure and the face. The group's faces, with texts of numbers; elements as powers. First and Back of claims of two bases, in a group that there is. Back and Holds of whatever set. Made claims, one of them: another image is put in; and the plain part of what a false claim is answered at. Two answers to one first, at two challenges: what is extracted holds. -/
import Derived.Test.YtmpiipcllgjhdaaGreatDoorZ15
import Derived.Deep.CutBlock
import Derived.Deep.DeepCutAuto
import Derived.Test.YtmpiipcllgjhdaaGreatDoorZ13
import Derived.Test.YtmpiipcllgjhdaaGreatDoorZ09
import Derived.Test.YtmpiipcllgjhdaaGreatDoorZ07
set_option linter.unusedSimpArgs false
set_option linter.unusedVariables false
set_option maxRecDepth 100000
namespace Go.Proofs.YtmpiipcllgjhdaaGreatDoor
open Go.RowKit Go.Deep Go.PlainAid

/-- What is told of the product. -/
def prodT (S M M2 : Nat) (xs ns : List ByteArray) : ByteArray := if code S M xs ns = 0 then ⟨(beB S (sgn M M2 (powP (nums xs) (nums ns) xs.length % M2))).toArray⟩ else ⟨#[]⟩
/-- All items so far are right. -/
def AllR (S M : Nat) (xs ns : List ByteArray) (i : Nat) : Prop := ∀ j, j < i → isEl S M (tx xs j) = true ∧ isSc S M (tx ns j) = true
theorem nums_take (l : List ByteArray) (i : Nat) (h : i < l.length) : nums (l.take (i + 1)) = nums (l.take i) ++ [numS (tx l i)] := by
  rw [List.take_add_one, List.getElem?_eq_getElem h, Option.toList_some, nums, List.map_append]
  simp [nums, tx, List.getD_eq_getElem?_getD, List.getElem?_eq_getElem h]
theorem nums_take_len (l : List ByteArray) (i : Nat) (h : i ≤ l.length) : (nums (l.take i)).length = i := by simp [nums]; omega
section
variable {z : Int} {G : Array Value} {S Wd M low one sq Ri Wd2 M2 low2 one2 sq2 Ri2 : Nat}
set_option maxRecDepth 100000 in
set_option maxHeartbeats 1000000 in
theorem product_any (k : KD z G S Wd M low one sq Ri Wd2 M2 low2 one2 sq2 Ri2) {w : World} {g : Nat} (F : Hid (GH w g S Wd M low one sq Wd2 M2 low2 one2 sq2)) (xs ns : List ByteArray) {ax an : Option Addr} {cx cn n : Nat} (hx : SAt w ax xs) (hn : SAt w an ns) (hlx : xs.length = n) (hln : ns.length = n) (h9 : n ≤ 256) :
    Calls Tryz.prog 144 #[.pointer (some ⟨g, 0, none⟩), .slice ax n cx, .slice an n cn] w fun e w' => e = .returned (.tuple #[.string (prodT S M M2 xs ns), .int .i64 (code S M xs ns : Int)]) ∧ Below w.heap.size w w' := by
  have CE : Hid (∀ W s, GH W g S Wd M low one sq Wd2 M2 low2 one2 sq2 → Calls Tryz.prog 36 #[.pointer (some ⟨g, 0, none⟩), .string s] W fun e w' => e = .returned (.tuple #[A4 (if isEl S M s then numS s else 0), .int .i64 (if isEl S M s then 0 else 7)]) ∧ Below W.heap.size W w') := fun W s hF => elemA hF s k.hS k.big
  have CS : Hid (∀ W s, GH W g S Wd M low one sq Wd2 M2 low2 one2 sq2 → Calls Tryz.prog 32 #[.pointer (some ⟨g, 0, none⟩), .string s] W fun e w' => e = .returned (.tuple #[A4 (if isSc S M s then numS s else 0), .int .i64 (if isSc S M s then 0 else 6)]) ∧ Below W.heap.size W w') := fun W s hF => scalarA hF s k.hS k.big
  have CP : Hid (∀ W va vn, AllR S M xs ns n → GH W g S Wd M low one sq Wd2 M2 low2 one2 sq2 → NumsV W (nums xs) va → NumsV W (nums ns) vn → Calls Tryz.prog 69 #[.pointer (some ⟨g, 15, none⟩), va, vn] W fun e w' => e = .returned (A4 (powP (nums xs) (nums ns) n % M2)) ∧ Below W.heap.size W w') := fun W va vn hR hF g1 g2 => by
    have e1 : (nums xs).length = n := by rw [nums, List.length_map]; exact hlx
    have q := powers_any hF.fe k.fl2 (nums xs) (nums ns) va vn g1 g2 (by simp [nums, hlx, hln]) (by omega) (fun j hj => by
      rw [e1] at hj
      rw [nums_getD xs j (by omega)]
      exact k.elw (hR j hj).1) (fun j hj => by
      rw [e1] at hj
      rw [nums_getD ns j (by omega)]
      exact Nat.lt_trans (isSc_lt (hR j hj).2) k.big)
    rw [e1] at q
    exact q
  have CT : Hid (∀ W, GH W g S Wd M low one sq Wd2 M2 low2 one2 sq2 → Calls Tryz.prog 68 #[.pointer (some ⟨g, 0, none⟩), A4 (powP (nums xs) (nums ns) n % M2)] W fun e w' => e = .returned (.tuple #[.string ⟨(beB S (sgn M M2 (powP (nums xs) (nums ns) n % M2))).toArray⟩, .int .i64 0]) ∧ Below W.heap.size W w') := fun W hF => toldElemA k hF (k.mod2 _)
  clear k
  have HX : Hid (SAt w ax xs) := hx
  have HN : Hid (SAt w an ns) := hn
  have Hlx : Hid (xs.length = n) := hlx
  have Hln : Hid (ns.length = n) := hln
  clear hx hn hlx hln
  have h9' : n ≤ 1000 := by omega
  go_enter Tryz.func144, Tryz.ntmps144
  go_upto_region 1 with fail
  go_cut [8, 9] (fun v8 v9 wx => ∃ bA bB : Nat, v8 = .slice (some ⟨bA, 0, none⟩) n n ∧ v9 = .slice (some ⟨bB, 0, none⟩) n n ∧ bA ≠ bB ∧ IHolds wx bA 73 (zeros n) ∧ IHolds wx bB 73 (zeros n) ∧ w.heap.size ≤ bA ∧ w.heap.size ≤ bB ∧ Below w.heap.size w wx)
  case first =>
    have B0 : Hid (Below w.heap.size w w.drew) := dB w
    have G0 : Hid (w.heap.size ≤ w.drew.heap.size) := B0.out.size
    refine wp_region_held_drew (S := fun W => True) (by kernel_rfl) trivial (fun h1 => ?_)
    generalize w.drew = V0 at *
    refine tk (i := 0) (v := .slice ax n cx) rfl (by kernel_rfl) (fun _ _ _ h => h) rfl ?_ h1 ?_
    · intro W hS; go_simp
    simp only [Act.put, y1, y2, y3, y4, y5, y6, y7]
    refine tk (i := 1) (v := .int .i64 (n : Int)) rfl (by kernel_rfl) (fun _ _ _ h => h) rfl ?_ h1 ?_
    · intro W hS; go_simp
    simp only [Act.put, y1, y2, y3, y4, y5, y6, y7]
    refine tk (i := 3) (v := .slice ax n cx) rfl (by kernel_rfl) (fun _ _ _ h => h) rfl ?_ h1 ?_
    · intro W hS; go_simp
    simp only [Act.put, y1, y2, y3, y4, y5, y6, y7]
    refine tk (i := 4) (v := .int .i64 (n : Int)) rfl (by kernel_rfl) (fun _ _ _ h => h) rfl ?_ h1 ?_
    · intro W hS; go_simp
    simp only [Act.put, y1, y2, y3, y4, y5, y6, y7]
    refine wpAnyH_ready (rs := [2, 5]) (by kernel_rfl) (by simp) ?_
    refine AllReadyH.cons rfl (fun K hK => ?_) (AllReadyH.cons rfl (fun K hK => ?_) AllReadyH.nil)
    all_goals clear h1
    · have hm := make105n n h9' V0
      have JA : Hid (IHolds (V0.alloc (.cells (zeros n).toArray 73)) V0.heap.size 73 (zeros n)) := IHolds.new _ _ _
      have hb := nB V0 (.cells (zeros n).toArray 73)
      replace B0 := aB B0 hb
      clear hb
      go_simp
      clear hm
      generalize V0.alloc (.cells (zeros n).toArray 73) = V1 at *
      generalize V0.heap.size = b1 at *
      have g1 : Hid (w.heap.size ≤ b1) := G0
      refine hK.out _ _ trivial (fun h1 => ?_)
      clear hK K
      try simp only [Act.put, y1, y2, y3, y4, y5, y6, y7]
      refine tk (i := 6) (v := .slice (some ⟨b1, 0, none⟩) n n) rfl (by kernel_rfl) (fun _ _ _ h => h) rfl ?_ h1 ?_
      · intro W hS; go_simp
      simp only [Act.put, y1, y2, y3, y4, y5, y6, y7]
      refine wpAnyH_ready (rs := [5]) (by kernel_rfl) (by simp) ?_
      refine AllReadyH.cons rfl (fun K hK => ?_) AllReadyH.nil
      clear h1
      have hm := make105n n h9' V1
      have JB : Hid (IHolds (V1.alloc (.cells (zeros n).toArray 73)) V1.heap.size 73 (zeros n)) := IHolds.new _ _ _
      have hb := nB V1 (.cells (zeros n).toArray 73)
      have g2 : Hid (w.heap.size ≤ V1.heap.size) := B0.out.size
      have ne1 : Hid (b1 ≠ V1.heap.size) := by have := JA.out.lt; show _ ≠ _; omega
      replace B0 := aB B0 hb
      replace JA := aJ JA hb
      clear hb
      go_simp
      clear hm
      generalize V1.alloc (.cells (zeros n).toArray 73) = V2 at *
      generalize V1.heap.size = b2 at *
      refine hK.out _ _ trivial (fun h1 => ?_)
      clear hK K
      try simp only [Act.put, y1, y2, y3, y4, y5, y6, y7]
      refine tk (i := 7) (v := .slice (some ⟨b2, 0, none⟩) n n) rfl (by kernel_rfl) (fun _ _ _ h => h) rfl ?_ h1 ?_
      · intro W hS; go_simp
      simp only [Act.put, y1, y2, y3, y4, y5, y6, y7]
      refine wpAnyH_done (by kernel_rfl) ?_ _
      clear h1
      go_wp2_with fail
      go_meet
      case rel => exact ⟨b1, b2, rfl, rfl, ne1.out, JA.out, JB.out, g1.out, g2.out, B0.out⟩
    · have hm := make105n n h9' V0
      have JB : Hid (IHolds (V0.alloc (.cells (zeros n).toArray 73)) V0.heap.size 73 (zeros n)) := IHolds.new _ _ _
      have hb := nB V0 (.cells (zeros n).toArray 73)
      replace B0 := aB B0 hb
      clear hb
      go_simp
      clear hm
      generalize V0.alloc (.cells (zeros n).toArray 73) = V1 at *
      generalize V0.heap.size = b1 at *
      have g1 : Hid (w.heap.size ≤ b1) := G0
      refine hK.out _ _ trivial (fun h1 => ?_)
      clear hK K
      try simp only [Act.put, y1, y2, y3, y4, y5, y6, y7]
      refine wpAnyH_ready (rs := [2]) (by kernel_rfl) (by simp) ?_
      refine AllReadyH.cons rfl (fun K hK => ?_) AllReadyH.nil
      clear h1
      have hm := make105n n h9' V1
      have JA : Hid (IHolds (V1.alloc (.cells (zeros n).toArray 73)) V1.heap.size 73 (zeros n)) := IHolds.new _ _ _
      have hb := nB V1 (.cells (zeros n).toArray 73)
      have g2 : Hid (w.heap.size ≤ V1.heap.size) := B0.out.size
      have ne1 : Hid (b1 ≠ V1.heap.size) := by have := JB.out.lt; show _ ≠ _; omega
      replace B0 := aB B0 hb
      replace JB := aJ JB hb
      clear hb
      go_simp
      clear hm
      generalize V1.alloc (.cells (zeros n).toArray 73) = V2 at *
      generalize V1.heap.size = b2 at *
      refine hK.out _ _ trivial (fun h1 => ?_)
      clear hK K
      try simp only [Act.put, y1, y2, y3, y4, y5, y6, y7]
      refine tk (i := 6) (v := .slice (some ⟨b2, 0, none⟩) n n) rfl (by kernel_rfl) (fun _ _ _ h => h) rfl ?_ h1 ?_
      · intro W hS; go_simp
      simp only [Act.put, y1, y2, y3, y4, y5, y6, y7]
      refine tk (i := 7) (v := .slice (some ⟨b1, 0, none⟩) n n) rfl (by kernel_rfl) (fun _ _ _ h => h) rfl ?_ h1 ?_
      · intro W hS; go_simp
      simp only [Act.put, y1, y2, y3, y4, y5, y6, y7]
      refine wpAnyH_done (by kernel_rfl) ?_ _
      clear h1
      go_wp2_with fail
      go_meet
      case rel => exact ⟨b2, b1, rfl, rfl, fun h => ne1.out h.symm, JA.out, JB.out, g2.out, g1.out, B0.out⟩
  case rest =>
    obtain ⟨bA, bB, rfl, rfl, hne, hJA, hJB, hgA, hgB, hB⟩ := hcut
    have JA : Hid (IHolds wc bA 73 (zeros n)) := hJA
    have JB : Hid (IHolds wc bB 73 (zeros n)) := hJB
    have B0 : Hid (Below w.heap.size w wc) := hB
    have Hne : Hid (bA ≠ bB) := hne
    have HgA : Hid (w.heap.size ≤ bA) := hgA
    have HgB : Hid (w.heap.size ≤ bB) := hgB
    clear hJA hJB hB hne hgA hgB
    go_wp2_with fail
    go_loopg [20] n (fun gk v20 wr => ∃ i : Nat, gk + i = n ∧ v20 = .int .i64 (i : Int) ∧ AllR S M xs ns i ∧ code S M xs ns = code S M (xs.drop i) (ns.drop i) ∧ IHolds wr bA 73 (numC (nums (xs.take i)) ++ zeros (n - i)) ∧ IHolds wr bB 73 (numC (nums (ns.take i)) ++ zeros (n - i)) ∧ Below w.heap.size w wr)
    case atStart => exact ⟨0, by omega, rfl, fun j h => by omega, rfl, JA.out, JB.out, B0.out⟩
    case round =>
      clear JA JB B0
      obtain ⟨i, hi, rfl, hR, hC, hJA, hJB, hB⟩ := hrel
      have JA : Hid (IHolds wr bA 73 (numC (nums (xs.take i)) ++ zeros (n - i))) := hJA
      have JB : Hid (IHolds wr bB 73 (numC (nums (ns.take i)) ++ zeros (n - i))) := hJB
      have B0 : Hid (Below w.heap.size w wr) := hB
      have HR : Hid (AllR S M xs ns i) := hR
      have HC : Hid (code S M xs ns = code S M (xs.drop i) (ns.drop i)) := hC
      clear hJA hJB hB hR hC
      by_cases hin : i < n
      · have k1 : (i : Int) < (n : Int) := by omega
        have F1 : Hid (GH wr g S Wd M low one sq Wd2 M2 low2 one2 sq2) := aG F B0.out
        have HC2 : Hid (code S M xs ns = if isEl S M (tx xs i) then (if isSc S M (tx ns i) then code S M (xs.drop (i + 1)) (ns.drop (i + 1)) else 6) else 7) := by
          show _ = _
          rw [HC.out]; exact code_step (by rw [Hlx.out]; exact hin) (by rw [Hln.out]; exact hin)
        obtain ⟨bx, ox, rfl, hcx⟩ := HX.out i (by rw [Hlx.out]; exact hin)
        obtain ⟨bn, on, rfl, hcn⟩ := HN.out i (by rw [Hln.out]; exact hin)
        have hbx : bx < w.heap.size := World.block_lt_of_cell? w ⟨bx, ox + i, none⟩ hcx
        have hbn : bn < w.heap.size := World.block_lt_of_cell? w ⟨bn, on + i, none⟩ hcn
        have Hcn : Hid (w.cell? ⟨bn, on + i, none⟩ = some (.string (tx ns i))) := hcn
        have Hbn : Hid (bn < w.heap.size) := hbn
        have zx : wr.cell? ⟨bx, ox + i, none⟩ = some (.string (tx xs i)) := by rw [B0.out.cell hbx]; exact hcx
        have hz : n - i = (n - i - 1) + 1 := by omega
        have HlA : Hid ((nums (xs.take i)).length = i) := nums_take_len xs i (by rw [Hlx.out]; omega)
        have HlB : Hid ((nums (ns.take i)).length = i) := nums_take_len ns i (by rw [Hln.out]; omega)
        have HtA : Hid (nums (xs.take (i + 1)) = nums (xs.take i) ++ [numS (tx xs i)]) := nums_take xs i (by rw [Hlx.out]; exact hin)
        have HtB : Hid (nums (ns.take (i + 1)) = nums (ns.take i) ++ [numS (tx ns i)]) := nums_take ns i (by rw [Hln.out]; exact hin)
        rw [hz] at JA JB
        have Hz2 : Hid (n - i - 1 = n - (i + 1)) := by show _ = _; omega
        obtain ⟨X, hX⟩ : ∃ X, X = (if isEl S M (tx xs i) then numS (tx xs i) else 0) := ⟨_, rfl⟩
        have C1 : Hid (Calls Tryz.prog 36 #[.pointer (some ⟨g, 0, none⟩), .string (tx xs i)] wr fun e w' => e = .returned (.tuple #[.agg #[U (w4 X 0), U (w4 X 1), U (w4 X 2), U (w4 X 3)], .int .i64 (if isEl S M (tx xs i) then 0 else 7)]) ∧ Below wr.heap.size wr w') := by
          have q := CE.out wr (tx xs i) F1.out
          rw [← hX] at q
          exact q
        have HXe : Hid (X = (if isEl S M (tx xs i) then numS (tx xs i) else 0)) := hX
        clear hX hcx hcn hbx hbn hz
        obtain ⟨q, hq⟩ : ∃ q, q = i * 4 := ⟨_, rfl⟩
        have kq : (i : Int) * 4 = (q : Int) := by omega
        have kq2 : ((i : Int) * 4).toNat = q := by omega
        have kq3 : (i : Int).toNat * 4 = q := by omega
        have kq4 : i * 4 = q := hq.symm
        have Hq : Hid (q = i * 4) := hq
        clear hq
        go_wp2_with fail
        clear zx
        refine C1.out.mono ?_
        rintro e V1 ⟨rfl, hb⟩
        replace B0 := aB B0 hb
        replace F1 := aG F1 hb
        replace JA := aJ JA hb
        replace JB := aJ JB hb
        clear hb C1
        have zA0 : V1.cell? ⟨bA, q, none⟩ = some (.int .u64 0) := by have h := zero_cell JA.out (j := 0) (by omega); rw [HlA.out, kq4] at h; exact h
        have zA1 : V1.cell? ⟨bA, q + 1, none⟩ = some (.int .u64 0) := by have h := zero_cell JA.out (j := 1) (by omega); rw [HlA.out, kq4] at h; exact h
        have zA2 : V1.cell? ⟨bA, q + 2, none⟩ = some (.int .u64 0) := by have h := zero_cell JA.out (j := 2) (by omega); rw [HlA.out, kq4] at h; exact h
        have zA3 : V1.cell? ⟨bA, q + 3, none⟩ = some (.int .u64 0) := by have h := zero_cell JA.out (j := 3) (by omega); rw [HlA.out, kq4] at h; exact h
        have fA := fJ JA
        have hBut : But bA V1 (((((V1.setCell ⟨bA, q, none⟩ (U (w4 X 0))).setCell ⟨bA, q + 1, none⟩ (U (w4 X 1))).setCell ⟨bA, q + 2, none⟩ (U (w4 X 2))).setCell ⟨bA, q + 3, none⟩ (U (w4 X 3)))) := ((((But.refl _ V1).setCell q _).setCell (q + 1) _).setCell (q + 2) _).setCell (q + 3) _
        have JA2 : Hid (IHolds (((((V1.setCell ⟨bA, q, none⟩ (U (w4 X 0))).setCell ⟨bA, q + 1, none⟩ (U (w4 X 1))).setCell ⟨bA, q + 2, none⟩ (U (w4 X 2))).setCell ⟨bA, q + 3, none⟩ (U (w4 X 3)))) bA 73 (numC (nums (xs.take i) ++ [X]) ++ zeros (n - i - 1))) := by
          show IHolds _ _ _ _
          rw [← put_at, HlA.out, kq4]
          exact (((JA.out.set q _).set (q + 1) _).set (q + 2) _).set (q + 3) _
        have B2 : Hid (Below w.heap.size w (((((V1.setCell ⟨bA, q, none⟩ (U (w4 X 0))).setCell ⟨bA, q + 1, none⟩ (U (w4 X 1))).setCell ⟨bA, q + 2, none⟩ (U (w4 X 2))).setCell ⟨bA, q + 3, none⟩ (U (w4 X 3))))) := (((B0.out.setCell HgA.out _).setCell HgA.out _).setCell HgA.out _).setCell HgA.out _
        replace JB := tJ JB hBut (fun h => Hne.out h.symm)
        replace F1 := tG F1 hBut (by have h1 := F.out.lt; have h2 := HgA.out; omega)
        clear hBut JA B0
        cases hel : isEl S M (tx xs i)
        · have HCf : Hid (code S M xs ns = 7) := by show _ = _; rw [HC2.out, hel]; rfl
          rw [if_neg (by simp)]
          clear hel
          go_wp2_with fail
          go_ret2
          exact ⟨by rw [HCf.out, prodT, HCf.out]; rfl, B2.out⟩
        · have HelT : Hid (isEl S M (tx xs i) = true) := hel
          rw [if_pos rfl]
          have HXv : Hid (X = numS (tx xs i)) := by show _ = _; rw [HXe.out, hel]; rfl
          have zn : (((((V1.setCell ⟨bA, q, none⟩ (U (w4 X 0))).setCell ⟨bA, q + 1, none⟩ (U (w4 X 1))).setCell ⟨bA, q + 2, none⟩ (U (w4 X 2))).setCell ⟨bA, q + 3, none⟩ (U (w4 X 3)))).cell? ⟨bn, on + i, none⟩ = some (.string (tx ns i)) := by rw [B2.out.cell Hbn.out]; exact Hcn.out
          clear hel
          go_wp2_with fail
          clear zA0 zA1 zA2 zA3 fA zn
          generalize ((((V1.setCell ⟨bA, q, none⟩ (U (w4 X 0))).setCell ⟨bA, q + 1, none⟩ (U (w4 X 1))).setCell ⟨bA, q + 2, none⟩ (U (w4 X 2))).setCell ⟨bA, q + 3, none⟩ (U (w4 X 3))) = V2 at *
          obtain ⟨Y, hY⟩ : ∃ Y, Y = (if isSc S M (tx ns i) then numS (tx ns i) else 0) := ⟨_, rfl⟩
          have C2 : Hid (Calls Tryz.prog 32 #[.pointer (some ⟨g, 0, none⟩), .string (tx ns i)] V2 fun e w' => e = .returned (.tuple #[.agg #[U (w4 Y 0), U (w4 Y 1), U (w4 Y 2), U (w4 Y 3)], .int .i64 (if isSc S M (tx ns i) then 0 else 6)]) ∧ Below V2.heap.size V2 w') := by
            have q := CS.out V2 (tx ns i) F1.out
            rw [← hY] at q
            exact q
          have HYe : Hid (Y = (if isSc S M (tx ns i) then numS (tx ns i) else 0)) := hY
          clear hY
          refine C2.out.mono ?_
          rintro e V3 ⟨rfl, hb⟩
          replace B2 := aB B2 hb
          replace F1 := aG F1 hb
          replace JA2 := aJ JA2 hb
          replace JB := aJ JB hb
          clear hb C2
          have zA0 : V3.cell? ⟨bB, q, none⟩ = some (.int .u64 0) := by have h := zero_cell JB.out (j := 0) (by omega); rw [HlB.out, kq4] at h; exact h
          have zA1 : V3.cell? ⟨bB, q + 1, none⟩ = some (.int .u64 0) := by have h := zero_cell JB.out (j := 1) (by omega); rw [HlB.out, kq4] at h; exact h
          have zA2 : V3.cell? ⟨bB, q + 2, none⟩ = some (.int .u64 0) := by have h := zero_cell JB.out (j := 2) (by omega); rw [HlB.out, kq4] at h; exact h
          have zA3 : V3.cell? ⟨bB, q + 3, none⟩ = some (.int .u64 0) := by have h := zero_cell JB.out (j := 3) (by omega); rw [HlB.out, kq4] at h; exact h
          have fA := fJ JB
          have hBut : But bB V3 (((((V3.setCell ⟨bB, q, none⟩ (U (w4 Y 0))).setCell ⟨bB, q + 1, none⟩ (U (w4 Y 1))).setCell ⟨bB, q + 2, none⟩ (U (w4 Y 2))).setCell ⟨bB, q + 3, none⟩ (U (w4 Y 3)))) := ((((But.refl _ V3).setCell q _).setCell (q + 1) _).setCell (q + 2) _).setCell (q + 3) _
          have JB2 : Hid (IHolds (((((V3.setCell ⟨bB, q, none⟩ (U (w4 Y 0))).setCell ⟨bB, q + 1, none⟩ (U (w4 Y 1))).setCell ⟨bB, q + 2, none⟩ (U (w4 Y 2))).setCell ⟨bB, q + 3, none⟩ (U (w4 Y 3)))) bB 73 (numC (nums (ns.take i) ++ [Y]) ++ zeros (n - i - 1))) := by
            show IHolds _ _ _ _
            rw [← put_at, HlB.out, kq4]
            exact (((JB.out.set q _).set (q + 1) _).set (q + 2) _).set (q + 3) _
          have B3 : Hid (Below w.heap.size w (((((V3.setCell ⟨bB, q, none⟩ (U (w4 Y 0))).setCell ⟨bB, q + 1, none⟩ (U (w4 Y 1))).setCell ⟨bB, q + 2, none⟩ (U (w4 Y 2))).setCell ⟨bB, q + 3, none⟩ (U (w4 Y 3))))) := (((B2.out.setCell HgB.out _).setCell HgB.out _).setCell HgB.out _).setCell HgB.out _
          replace JA2 := tJ JA2 hBut Hne.out
          clear hBut JB B2 F1
          cases hsc : isSc S M (tx ns i)
          · have HCf : Hid (code S M xs ns = 6) := by show _ = _; rw [HC2.out, HelT.out, hsc]; rfl
            rw [if_neg (by simp)]
            clear hsc
            go_wp2_with fail
            go_ret2
            exact ⟨by rw [HCf.out, prodT, HCf.out]; rfl, B3.out⟩
          · rw [if_pos rfl]
            have HYv : Hid (Y = numS (tx ns i)) := by show _ = _; rw [HYe.out, hsc]; rfl
            have HC3 : Hid (code S M xs ns = code S M (xs.drop (i + 1)) (ns.drop (i + 1))) := by show _ = _; rw [HC2.out, HelT.out, hsc]; rfl
            have HR3 : Hid (AllR S M xs ns (i + 1)) := fun j hj => by
              by_cases e : j = i
              · rw [e]; exact ⟨HelT.out, hsc⟩
              · exact HR.out j (by omega)
            clear hsc
            go_wp2_with fail
            clear zA0 zA1 zA2 zA3 fA
            generalize ((((V3.setCell ⟨bB, q, none⟩ (U (w4 Y 0))).setCell ⟨bB, q + 1, none⟩ (U (w4 Y 1))).setCell ⟨bB, q + 2, none⟩ (U (w4 Y 2))).setCell ⟨bB, q + 3, none⟩ (U (w4 Y 3))) = V4 at *
            go_roundg (gk - 1)
            case measure => omega
            case rel => exact ⟨i + 1, by omega, by first | rfl | go_num, HR3.out, HC3.out, by rw [HtA.out, ← HXv.out, ← Hz2.out]; exact JA2.out, by rw [HtB.out, ← HYv.out, ← Hz2.out]; exact JB2.out, B3.out⟩
      · have k1 : ¬ (i : Int) < (n : Int) := by omega
        have ein : i = n := by omega
        subst ein
        have HCz : Hid (code S M xs ns = 0) := by show _ = _; rw [HC.out]; exact code_end (by rw [Hlx.out]; exact Nat.le_refl _)
        have ex : xs.take i = xs := List.take_of_length_le (by rw [Hlx.out]; exact Nat.le_refl _)
        have en : ns.take i = ns := List.take_of_length_le (by rw [Hln.out]; exact Nat.le_refl _)
        have ez : zeros (i - i) = [] := by rw [Nat.sub_self]; rfl
        rw [ex, ez, List.append_nil] at JA
        rw [en, ez, List.append_nil] at JB
        have NVA : Hid (NumsV wr (nums xs) (.slice (some ⟨bA, 0, none⟩) i i)) := NumsV.of_holds JA.out (by simp [nums, Hlx.out]) (by omega)
        have NVB : Hid (NumsV wr (nums ns) (.slice (some ⟨bB, 0, none⟩) i i)) := NumsV.of_holds JB.out (by simp [nums, Hln.out]) (by omega)
        have F1 : Hid (GH wr g S Wd M low one sq Wd2 M2 low2 one2 sq2) := aG F B0.out
        have HPT : Hid (prodT S M M2 xs ns = ⟨(beB S (sgn M M2 (powP (nums xs) (nums ns) i % M2))).toArray⟩) := by
          show _ = _
          rw [prodT, HCz.out, if_pos rfl, Hlx.out]
        obtain ⟨P, hP⟩ : ∃ P, P = powP (nums xs) (nums ns) i % M2 := ⟨_, rfl⟩
        rw [← hP] at CP CT HPT
        have CP1 : Hid (Calls Tryz.prog 69 #[.pointer (some ⟨g, 15, none⟩), .slice (some ⟨bA, 0, none⟩) i i, .slice (some ⟨bB, 0, none⟩) i i] wr fun e w' => e = .returned (.agg #[U (w4 P 0), U (w4 P 1), U (w4 P 2), U (w4 P 3)]) ∧ Below wr.heap.size wr w') := CP.out wr _ _ HR.out F1.out NVA.out NVB.out
        have CT1 : Hid (∀ W, GH W g S Wd M low one sq Wd2 M2 low2 one2 sq2 → Calls Tryz.prog 68 #[.pointer (some ⟨g, 0, none⟩), .agg #[U (w4 P 0), U (w4 P 1), U (w4 P 2), U (w4 P 3)]] W fun e w' => e = .returned (.tuple #[.string ⟨(beB S (sgn M M2 P)).toArray⟩, .int .i64 0]) ∧ Below W.heap.size W w') := CT
        rw [← HPT.out] at CT1
        clear ex en ez hP CP CT
        go_wp2_with fail
        refine CP1.out.mono ?_
        rintro e V5 ⟨rfl, hb⟩
        replace B0 := aB B0 hb
        replace F1 := aG F1 hb
        clear hb CP1
        go_wp2_with fail
        refine (CT1.out V5 F1.out).mono ?_
        rintro e V6 ⟨rfl, hb⟩
        replace B0 := aB B0 hb
        clear hb CT1
        go_wp2_with fail
        go_ret2
        exact ⟨by rw [HCz.out]; rfl, B0.out⟩
end
end Go.Proofs.YtmpiipcllgjhdaaGreatDoor
namespace Go.Proofs.YtmpiipcllgjhdaaGreatDoor
open Go.RowKit Go.Deep Go.PlainAid

set_option maxRecDepth 100000 in
set_option maxHeartbeats 2000000 in
theorem on48_78 {w : World} {z : Int} {G : Array Value} {p1 p2 : Nat} {t : ByteArray} {c : Int} (hG : gz.size = G.size) (hi : (Tryz.prog.info? 111).map (·.size) = some G.size) (h1 : G.all (·.oneCell') = true)
    (CG : Hid (∀ W, Calls Tryz.prog 62 #[.int .i64 z] W fun e w' => e = .returned (.tuple #[.agg G, .bool true]) ∧ Below W.heap.size W w')) (HF : Hid (∀ W g, IHolds W g 111 G.toList → Below w.heap.size w W → Calls Tryz.prog 143 #[.pointer (some ⟨g, 0, none⟩), .pointer (some ⟨p1, 0, none⟩), .pointer (some ⟨p2, 0, none⟩)] W fun e w' => e = .returned (.tuple #[.string t, .int .i64 c]) ∧ Below W.heap.size W w')) :
    Calls Tryz.prog 33 #[.int .i64 z, .func (.func 143) #[] #[.pointer (some ⟨p1, 0, none⟩), .pointer (some ⟨p2, 0, none⟩)]] w fun e w' => e = .returned (.tuple #[.string t, .int .i64 c]) ∧ Below w.heap.size w w' := by
  go_enter Tryz.func33, Tryz.ntmps33
  go_wp2_with fail
  refine (CG.out w).mono ?_
  rintro e U1 ⟨rfl, hb⟩
  have B : Hid (Below w.heap.size w U1) := hb
  clear hb
  have hg : (U1.alloc (.cells gz 111)).heap[U1.heap.size]? = some (.cells gz 111 (0, 0)) := by
    have h := IHolds.new U1 111 gz.toList
    unfold IHolds at h
    rw [Array.toArray_toList] at h
    exact h
  have J : Hid (IHolds (U1.alloc (.cells G 111)) U1.heap.size 111 G.toList) := by
    have h := IHolds.new U1 111 G.toList
    rw [Array.toArray_toList] at h
    exact h
  replace B := aB B (nB U1 (.cells G 111))
  go_wp2_with (refine wpList_store_row rfl 111 (.tmp 6) (.tmp 12) rfl U1.heap.size G rfl rfl 111 gz hg hi hG h1 ?_; rw [World.setRow_alloc_new]; clear hg)
  generalize U1.alloc (.cells G 111) = U2 at *
  refine (HF.out U2 _ J.out B.out).mono ?_
  rintro e U3 ⟨rfl, hb⟩
  replace B := aB B hb
  clear hb
  go_wp2_with fail
  go_ret2
  exact ⟨rfl, B.out⟩
set_option maxRecDepth 100000 in
set_option maxHeartbeats 2000000 in
theorem clos78_ok {w : World} {g p1 p2 la ln cx cn : Nat} {ax an : Option Addr} {t : ByteArray} {c : Int} (J1 : Hid (IHolds w p1 22 [.slice ax la cx])) (J2 : Hid (IHolds w p2 22 [.slice an ln cn])) (h0 : ¬ (256 : Int) < (la : Int)) (hne : ln = la) (C : Hid (Calls Tryz.prog 144 #[.pointer (some ⟨g, 0, none⟩), .slice ax la cx, .slice an la cn] w fun e w' => e = .returned (.tuple #[.string t, .int .i64 c]) ∧ Below w.heap.size w w')) :
    Calls Tryz.prog 143 #[.pointer (some ⟨g, 0, none⟩), .pointer (some ⟨p1, 0, none⟩), .pointer (some ⟨p2, 0, none⟩)] w fun e w' => e = .returned (.tuple #[.string t, .int .i64 c]) ∧ Below w.heap.size w w' := by
  subst hne
  have z1 : w.cell? ⟨p1, 0, none⟩ = some (.slice ax ln cx) := J1.out.cell 0 (by simp)
  have z2 : w.cell? ⟨p2, 0, none⟩ = some (.slice an ln cn) := J2.out.cell 0 (by simp)
  go_enter Tryz.func143, Tryz.ntmps143
  go_wp2_with fail
  refine C.out.mono ?_
  rintro e V1 ⟨rfl, hb⟩
  have B : Hid (Below w.heap.size w V1) := hb
  clear hb
  go_wp2_with fail
  go_ret2
  exact ⟨rfl, B.out⟩
set_option maxRecDepth 100000 in
set_option maxHeartbeats 2000000 in
theorem product_face {w : World} {z c : Int} {t : ByteArray} {ax an : Option Addr} {la ln cx cn : Nat}
    (C : Hid (∀ W p1 p2, IHolds W p1 22 [.slice ax la cx] → IHolds W p2 22 [.slice an ln cn] → Below w.heap.size w W → Calls Tryz.prog 33 #[.int .i64 z, .func (.func 143) #[] #[.pointer (some ⟨p1, 0, none⟩), .pointer (some ⟨p2, 0, none⟩)]] W fun e w' => e = .returned (.tuple #[.string t, .int .i64 c]) ∧ Below W.heap.size W w')) :
    Calls Tryz.prog 125 #[.int .i64 z, .slice ax la cx, .slice an ln cn] w fun e w' => e = .returned (.tuple #[.string t, .int .i64 c]) ∧ Below w.heap.size w w' := by
  have Jp1 : Hid (IHolds ((w.alloc (.cells #[.slice ax la cx] 22)).alloc (.cells #[.slice an ln cn] 22)) (w.heap.size) 22 [.slice ax la cx]) := by
    have q := IHolds.new w 22 [.slice ax la cx]
    exact (q.alloc _)
  have Jp2 : Hid (IHolds ((w.alloc (.cells #[.slice ax la cx] 22)).alloc (.cells #[.slice an ln cn] 22)) (w.heap.size + 1) 22 [.slice an ln cn]) := by
    have q := IHolds.new (w.alloc (.cells #[.slice ax la cx] 22)) 22 [.slice an ln cn]
    simp only [World.size_alloc, Nat.add_assoc, Nat.reduceAdd] at q
    exact q
  have B : Hid (Below w.heap.size w ((w.alloc (.cells #[.slice ax la cx] 22)).alloc (.cells #[.slice an ln cn] 22))) := (((Below.refl _ w).alloc (Nat.le_refl _) _).alloc (by simp only [World.size_alloc]; omega) _)
  go_enter Tryz.func125, Tryz.ntmps125
  go_wp2_with fail
  generalize ((w.alloc (.cells #[.slice ax la cx] 22)).alloc (.cells #[.slice an ln cn] 22)) = V0 at *
  refine (C.out V0 _ _ Jp1.out Jp2.out B.out).mono ?_
  rintro e V1 ⟨rfl, hb⟩
  replace B := aB B hb
  clear hb
  go_wp2_with fail
  go_ret2
  exact ⟨rfl, B.out⟩
section
variable {z : Int} {G : Array Value} {S Wd M low one sq Ri Wd2 M2 low2 one2 sq2 Ri2 : Nat}
theorem prod_yes (k : KD z G S Wd M low one sq Ri Wd2 M2 low2 one2 sq2 Ri2) (w : World) {xs ns : List ByteArray} {ax an : Option Addr} {n cx cn : Nat} (hx : SAt w ax xs) (hn : SAt w an ns) (hlx : xs.length = n) (hln : ns.length = n) (h9 : n ≤ 256) :
    Calls Tryz.prog 125 #[.int .i64 z, .slice ax n cx, .slice an n cn] w fun e w' => e = .returned (.tuple #[.string (prodT S M M2 xs ns), .int .i64 (code S M xs ns : Int)]) ∧ Below w.heap.size w w' :=
  product_face (fun W p1 p2 j1 j2 hb => on48_78 k.hG k.hi k.h1 k.CG (fun W2 g hI hb2 => clos78_ok (j1.of_below hb2) (j2.of_below hb2) (by omega) rfl (product_any k (k.gh W2 g hI) xs ns ((hx.of_below hb).of_below hb2) ((hn.of_below hb).of_below hb2) hlx hln h9)))
end
end Go.Proofs.YtmpiipcllgjhdaaGreatDoor
namespace Go.Proofs.YtmpiipcllgjhdaaGreatDoor
open Go.RowKit Go.Deep Go.PlainAid

theorem sgn_mul_right {M M2 x y : Nat} (e : M2 = 2 * M + 1) (hy : y < M2) : sgn M M2 (x * sgn M M2 y % M2) = sgn M M2 (x * y % M2) := by
  rw [Nat.mul_comm, sgn_mul_left e hy, Nat.mul_comm]
theorem sgn_pow {M M2 x : Nat} (e : M2 = 2 * M + 1) (hM : 1 ≤ M) (hx : x < M2) (n : Nat) : sgn M M2 (sgn M M2 x ^ n % M2) = sgn M M2 (x ^ n % M2) := by
  induction n with
  | zero => rw [Nat.pow_zero, Nat.pow_zero]
  | succ n ih =>
    have h1 : sgn M M2 (sgn M M2 x ^ (n + 1) % M2) = sgn M M2 (sgn M M2 x ^ n % M2 * x % M2) := by
      rw [Nat.pow_succ, Nat.mul_mod, ← sgn_mul_right e (Nat.mod_lt _ (by omega)), Nat.mod_eq_of_lt (show sgn M M2 x < M2 by have := sgn_le e hx; omega)]
      have h2 : sgn M M2 (sgn M M2 x) = sgn M M2 x := by
        have h3 := sgn_le e hx
        generalize sgn M M2 x = y at *
        unfold sgn
        rw [if_neg (by omega)]
      rw [h2, sgn_mul_right e hx]
    rw [h1, ← sgn_mul_left e (Nat.mod_lt _ (by omega)), ih, sgn_mul_left e (Nat.mod_lt _ (by omega)), Nat.mod_mul_mod, ← Nat.pow_succ]
theorem sgn_low {M M2 x : Nat} (h : x ≤ M) : sgn M M2 x = x := by unfold sgn; rw [if_neg (by omega)]
theorem sgn_half {M M2 a : Nat} (hp : IsP M2) (e : M2 = 2 * M + 1) (hM : 1 ≤ M) (h0 : a ≠ 0) (h9 : a < M2) : sgn M M2 (a ^ M % M2) = 1 := by
  have hn : ¬ M2 ∣ a := hp.not_dvd_lt (by omega) h9
  rcases half_power hp e hn with g | g
  · rw [g]; exact sgn_low hM
  · rw [g, sgn_neg e (by omega) (by omega)]; exact sgn_low hM
theorem sgn_exp {M M2 a : Nat} (hp : IsP M2) (e : M2 = 2 * M + 1) (hM : 1 ≤ M) (h0 : a ≠ 0) (h9 : a < M2) (k : Nat) : sgn M M2 (a ^ k % M2) = sgn M M2 (a ^ (k % M) % M2) := by
  have h1 : a ^ k = (a ^ M) ^ (k / M) * a ^ (k % M) := by rw [← Nat.pow_mul, ← Nat.pow_add, Nat.div_add_mod]
  have hs := sgn_half hp e hM h0 h9
  have h2 : sgn M M2 ((a ^ M) ^ (k / M) % M2) = 1 := by
    rw [Nat.pow_mod, ← sgn_pow e hM (Nat.mod_lt _ (by omega)), hs, Nat.one_pow, Nat.mod_eq_of_lt (by omega)]
    exact sgn_low hM
  rw [h1, Nat.mul_mod, ← sgn_mul e (Nat.mod_lt _ (by omega)) (Nat.mod_lt _ (by omega)), h2, Nat.one_mul]
  have h3 := sgn_le (M := M) e (Nat.mod_lt (a ^ (k % M)) (show M2 > 0 by omega))
  rw [Nat.mod_eq_of_lt (by omega)]
  exact sgn_low h3
theorem sgn_pos {M M2 c : Nat} (e : M2 = 2 * M + 1) (h0 : c ≠ 0) (h : c < M2) : sgn M M2 c ≠ 0 := by unfold sgn; split <;> omega
section
variable {z : Int} {G : Array Value} {S Wd M low one sq Ri Wd2 M2 low2 one2 sq2 Ri2 : Nat}
theorem scal_call (k : KD z G S Wd M low one sq Ri Wd2 M2 low2 one2 sq2 Ri2) (w : World) (s : ByteArray) : Calls Tryz.prog 14 #[.int .i64 z, .string s] w fun e w' => e = .returned (.bool (isSc S M s)) ∧ Below w.heap.size w w' :=
  scalar_face (c := if isSc S M s then 0 else 6) (by cases isSc S M s <;> rfl) (fun W cp hc => on57_58 hc k.hG k.hi k.h1 k.CG (fun W g hI hc => clos58 hc (fun W' hb => scalarA ((k.gh W g hI).of_below hb) s k.hS k.big)))
theorem num_call (k : KD z G S Wd M low one sq Ri Wd2 M2 low2 one2 sq2 Ri2) (w : World) (n : Int) (n1 : -9223372036854775808 ≤ n) (n2 : n ≤ 9223372036854775807) : Calls Tryz.prog 99 #[.int .i64 z, .int .i64 n] w fun e w' => e = .returned (.tuple #[.string (TX S (numF M n)), .int .i64 0]) ∧ Below w.heap.size w w' :=
  number_face (fun W cp hc => on48_52 hc k.hG k.hi k.h1 k.CG (fun W g hI hc => clos52 hc (fun W' hb => fnumberA ((k.gh W g hI).of_below hb).fs k.fl n n1 n2) (fun W' hb => toldA ((k.gh W g hI).of_below hb).c k.hS (Nat.lt_trans (numF_lt k.m2) k.big))))
theorem size_call (k : KD z G S Wd M low one sq Ri Wd2 M2 low2 one2 sq2 Ri2) (w : World) : Calls Tryz.prog 70 #[.int .i64 z] w fun e w' => e = .returned (.tuple #[.int .i64 (S : Int), .int .i64 (S : Int), .int .i64 0]) ∧ Below w.heap.size w w' :=
  sizes_call (on46_ok k.hG k.hi k.h1 k.CG (fun W g h => sizes_any (k.gh W g h).c))
theorem numF_nat {M k : Nat} (h : k < M) : numF M (k : Int) = k := by
  unfold numF
  rw [if_neg (by omega), Int.toNat_natCast, Nat.mod_eq_of_lt h]
theorem zero_call (k : KD z G S Wd M low one sq Ri Wd2 M2 low2 one2 sq2 Ri2) (w : World) : Calls Tryz.prog 99 #[.int .i64 z, .int .i64 0] w fun e w' => e = .returned (.tuple #[.string (TX S 0), .int .i64 0]) ∧ Below w.heap.size w w' := by
  have q := num_call k w 0 (by omega) (by omega)
  rw [show (0 : Int) = ((0 : Nat) : Int) from rfl, numF_nat (by have := k.m2; omega)] at q
  exact q
theorem KD.sc (k : KD z G S Wd M low one sq Ri Wd2 M2 low2 one2 sq2 Ri2) {n : Nat} (h : n < M) : isSc S M (TX S n) = true := isSc_TX h k.sz
theorem KD.nu (k : KD z G S Wd M low one sq Ri Wd2 M2 low2 one2 sq2 Ri2) {n : Nat} (h : n < M) : numS (TX S n) = n := numS_TX (Nat.lt_of_lt_of_le h k.sz)
theorem memb_call (k : KD z G S Wd M low one sq Ri Wd2 M2 low2 one2 sq2 Ri2) (w : World) (s : ByteArray) : Calls Tryz.prog 16 #[.int .i64 z, .string s] w fun e w' => e = .returned (.bool (isEl S M s)) ∧ Below w.heap.size w w' :=
  member_face (c := if isEl S M s then 0 else 7) (by cases isEl S M s <;> rfl) (fun W cp hc => on57_60 hc k.hG k.hi k.h1 k.CG (fun W g hI hc => clos60 hc (fun W' hb => elemA ((k.gh W g hI).of_below hb) s k.hS k.big)))
theorem KD.e2 (k : KD z G S Wd M low one sq Ri Wd2 M2 low2 one2 sq2 Ri2) {n : Nat} (h : n ≤ M) : n < M2 := by have := k.m21; omega
theorem KD.ee (k : KD z G S Wd M low one sq Ri Wd2 M2 low2 one2 sq2 Ri2) (hs : M < 256 ^ S) {n : Nat} (h0 : n ≠ 0) (h : n ≤ M) : isEl S M (TX S n) = true := decide_eq_true ⟨size_TX S n, by rw [numS_TX (Nat.lt_of_le_of_lt h hs)]; exact h0, by rw [numS_TX (Nat.lt_of_le_of_lt h hs)]; exact h⟩
theorem KD.en (k : KD z G S Wd M low one sq Ri Wd2 M2 low2 one2 sq2 Ri2) (hs : M < 256 ^ S) {n : Nat} (h : n ≤ M) : numS (TX S n) = n := numS_TX (Nat.lt_of_le_of_lt h hs)
theorem as_EX {S M : Nat} {a : ByteArray} (h : isEl S M a = true) : ∃ A, A ≠ 0 ∧ A ≤ M ∧ a = TX S A := ⟨numS a, isEl_pos h, isEl_le h, (TX_numS (isEl_size h)).symm⟩
theorem SAt.two {W : World} {b : Nat} {x y : ByteArray} (h : IHolds W b 9 [.string x, .string y]) : SAt W (some ⟨b, 0, none⟩) [x, y] := by
  intro i hi
  refine ⟨b, 0, rfl, ?_⟩
  match i, hi with
  | 0, _ => exact h.cell 0 (by simp)
  | 1, _ => exact h.cell 1 (by simp)


/-- An element, of a number that is not 0 modulo the prime. -/
def E (M M2 x : Nat) : Nat := sgn M M2 (x % M2)
theorem E_mod {M M2 x y : Nat} (h : x % M2 = y % M2) : E M M2 x = E M M2 y := by unfold E; rw [h]
theorem n2 {M M2 : Nat} (hp : IsP M2) (hq : IsP M) (e : M2 = 2 * M + 1) : ¬ M2 ∣ 2 := hp.not_dvd_lt (by omega) (by have := hq.1; omega)
/-! What is hidden comes out, and that alone. -/
/-- An element's text. -/
def EX (S M M2 x : Nat) : ByteArray := TX S (E M M2 x)
/-- What a kind's primes are. -/
structure PK (S M M2 : Nat) : Prop where
  hp : IsP M2
  hq : IsP M
  e2 : M2 = 2 * M + 1
  hs : M < 256 ^ S
theorem PK.m1 {S M M2 : Nat} (h : PK S M M2) : 2 ≤ M := h.hq.1
theorem PK.ml {S M M2 : Nat} (h : PK S M M2) (x : Nat) : x % M2 < M2 := Nat.mod_lt _ (by have := h.e2; omega)
theorem PK.sl {S M M2 : Nat} (h : PK S M M2) (x : Nat) : E M M2 x ≤ M := sgn_le h.e2 (h.ml x)
theorem PK.sp {S M M2 : Nat} (h : PK S M M2) {x : Nat} (hx : ¬ M2 ∣ x) : E M M2 x ≠ 0 := sgn_pos h.e2 (fun q => hx (Nat.dvd_of_mod_eq_zero q)) (h.ml x)
theorem PK.n2 {S M M2 : Nat} (h : PK S M M2) : ¬ M2 ∣ 2 := Go.Proofs.YtmpiipcllgjhdaaGreatDoor.n2 h.hp h.hq h.e2
theorem PK.two {S M M2 : Nat} (h : PK S M M2) : EX S M M2 2 = TX S 2 := by
  have := h.m1
  have := h.e2
  unfold EX E
  rw [Nat.mod_eq_of_lt (by omega), sgn_low h.m1]
theorem POW (k : KD z G S Wd M low one sq Ri Wd2 M2 low2 one2 sq2 Ri2) (h : PK S M M2) {x t : Nat} (hx : ¬ M2 ∣ x) (ht : t < M) (W : World) :
    Calls Tryz.prog 17 #[.int .i64 z, .string (EX S M M2 x), .string (TX S t)] W fun e w' => e = .returned (.tuple #[.string (EX S M M2 (x ^ t)), .int .i64 0]) ∧ Below W.heap.size W w' := by
  have q := power_yes k W (k.ee h.hs (h.sp hx) (h.sl x)) (k.sc ht)
  rw [k.en h.hs (h.sl x), k.nu ht] at q
  have e : sgn M M2 (E M M2 x ^ t % M2) = E M M2 (x ^ t) := by
    unfold E
    rw [sgn_pow h.e2 (by have := h.m1; omega) (h.ml x), ← Nat.pow_mod]
  rw [e] at q
  exact q
theorem PRO (k : KD z G S Wd M low one sq Ri Wd2 M2 low2 one2 sq2 Ri2) (h : PK S M M2) {x y a b : Nat} (hx : ¬ M2 ∣ x) (hy : ¬ M2 ∣ y) (ha : a < M) (hb : b < M) (W : World) (b1 b2 : Nat)
    (h1 : IHolds W b1 9 [.string (EX S M M2 x), .string (EX S M M2 y)]) (h2 : IHolds W b2 9 [.string (TX S a), .string (TX S b)]) :
    Calls Tryz.prog 125 #[.int .i64 z, .slice (some ⟨b1, 0, none⟩) 2 2, .slice (some ⟨b2, 0, none⟩) 2 2] W fun e w' => e = .returned (.tuple #[.string (EX S M M2 (x ^ a * y ^ b)), .int .i64 0]) ∧ Below W.heap.size W w' := by
  have q := prod_yes k W (n := 2) (cx := 2) (cn := 2) (SAt.two h1) (SAt.two h2) rfl rfl (by omega)
  have ex := k.ee h.hs (h.sp hx) (h.sl x)
  have ey := k.ee h.hs (h.sp hy) (h.sl y)
  have ec : code S M [EX S M M2 x, EX S M M2 y] [TX S a, TX S b] = 0 := by simp [code, EX, ex, ey, k.sc ha, k.sc hb]
  have et : prodT S M M2 [EX S M M2 x, EX S M M2 y] [TX S a, TX S b] = EX S M M2 (x ^ a * y ^ b) := by
    rw [prodT, ec, if_pos rfl]
    have en : powP (nums [EX S M M2 x, EX S M M2 y]) (nums [TX S a, TX S b]) [EX S M M2 x, EX S M M2 y].length = E M M2 x ^ a * E M M2 y ^ b := by
      simp [nums, powP, EX, k.en h.hs (h.sl x), k.en h.hs (h.sl y), k.nu ha, k.nu hb]
    rw [en]
    have M1 : 1 ≤ M := by have := h.m1; omega
    have e : sgn M M2 (E M M2 x ^ a * E M M2 y ^ b % M2) = E M M2 (x ^ a * y ^ b) := by
      have ep : ∀ u c, sgn M M2 (E M M2 u ^ c % M2) = sgn M M2 (u ^ c % M2) := fun u c => by unfold E; rw [sgn_pow h.e2 M1 (h.ml u), ← Nat.pow_mod]
      rw [Nat.mul_mod, ← sgn_mul h.e2 (h.ml _) (h.ml _), ep x a, ep y b, sgn_mul h.e2 (h.ml _) (h.ml _), ← Nat.mul_mod]
      rfl
    rw [e]
    rfl
  rw [ec, et] at q
  exact q
theorem elE (k : KD z G S Wd M low one sq Ri Wd2 M2 low2 one2 sq2 Ri2) (h : PK S M M2) {x : Nat} (hx : ¬ M2 ∣ x) : isEl S M (EX S M M2 x) = true := k.ee h.hs (h.sp hx) (h.sl x)
theorem MUL (k : KD z G S Wd M low one sq Ri Wd2 M2 low2 one2 sq2 Ri2) {a b : Nat} (ha : a < M) (hb : b < M) (W : World) :
    Calls Tryz.prog 124 #[.int .i64 z, .string (TX S a), .string (TX S b)] W fun e w' => e = .returned (.tuple #[.string (TX S (a * b % M)), .int .i64 0]) ∧ Below W.heap.size W w' := by
  have q := mul_yes k W (k.sc ha) (k.sc hb)
  rw [k.nu ha, k.nu hb] at q
  exact q
theorem SUB (k : KD z G S Wd M low one sq Ri Wd2 M2 low2 one2 sq2 Ri2) {a b : Nat} (ha : a < M) (hb : b < M) (W : World) :
    Calls Tryz.prog 100 #[.int .i64 z, .string (TX S a), .string (TX S b)] W fun e w' => e = .returned (.tuple #[.string (TX S ((a + M - b) % M)), .int .i64 0]) ∧ Below W.heap.size W w' := by
  have q := sub_yes k W (k.sc ha) (k.sc hb)
  rw [k.nu ha, k.nu hb] at q
  exact q
theorem pk1 : PK 2 641 1283 := ⟨prime_p1, prime_q1, by decide +kernel, by decide +kernel⟩
theorem pk2 : PK 8 576465431670292481 1152930863340584963 := ⟨prime_p2, prime_q2, by decide +kernel, by decide +kernel⟩
theorem pk3 : PK 32 7237005577332262213973186563042995786902308146886443998308627866733439352833 14474011154664524427946373126085991573804616293772887996617255733466878705667 := ⟨prime_p3, prime_q3, by decide +kernel, by decide +kernel⟩
end
end Go.Proofs.YtmpiipcllgjhdaaGreatDoor
namespace Go.Proofs.YtmpiipcllgjhdaaGreatDoor
open Go.RowKit Go.Deep Go.PlainAid

section
variable {z : Int} {G : Array Value} {S Wd M low one sq Ri Wd2 M2 low2 one2 sq2 Ri2 : Nat}
/-- What is said first. -/
def fs (S M M2 A : Nat) (m : List ByteArray) : List (List ByteArray) := m.map fun s => [EX S M M2 (2 ^ numS s), EX S M M2 (A ^ numS s)]
theorem isSc_TX' {S M : Nat} {s : ByteArray} (h : isSc S M s = true) : s = TX S (numS s) := (TX_numS (isSc_size h)).symm
theorem WRO (k : KD z G S Wd M low one sq Ri Wd2 M2 low2 one2 sq2 Ri2) {w : World} {a b : Option Addr} {n c d : Nat} {m : List ByteArray} {t : Bool} (hn : m.length = n) (h64 : n ≤ 64) (hm : SL w b m) (ht : m.all (isSc S M) = t) (W : World) (hB : Below w.heap.size w W) :
    Calls Tryz.prog 41 #[.agg #[.int .i64 z, .slice a n c], .slice b n d] W fun e w' => e = .returned (.int .i64 (if t then 0 else 6)) ∧ Below W.heap.size W w' := by
  subst hn
  refine wrong43 (fun V hV => ?_)
  rw [← ht]
  exact scalars84 (isSc S M) (by omega) ((hm.of_below hB).of_below hV) (fun s X => noScalar k s X)
end
end Go.Proofs.YtmpiipcllgjhdaaGreatDoor
namespace Go.Proofs.YtmpiipcllgjhdaaGreatDoor
open Go.RowKit Go.Deep Go.PlainAid

section
variable {z : Int} {G : Array Value} {S Wd M low one sq Ri Wd2 M2 low2 one2 sq2 Ri2 : Nat}
theorem el_EX {S M M2 : Nat} (h : PK S M M2) {b : ByteArray} (hb : isEl S M b = true) : EX S M M2 (numS b) = b := by
  have := h.e2
  have := isEl_le hb
  unfold EX E
  rw [Nat.mod_eq_of_lt (by omega), sgn_low (isEl_le hb), TX_numS (isEl_size hb)]
theorem el_nd {S M M2 : Nat} (h : PK S M M2) {b : ByteArray} (hb : isEl S M b = true) : ¬ M2 ∣ numS b := fun hd => by
  have h1 := Nat.le_of_dvd (Nat.pos_of_ne_zero (isEl_pos hb)) hd
  have := isEl_le hb
  have := h.e2
  omega
/-- What Back gives: every base to the answer, times its image to the challenge's opposite. -/
def bkG (S M M2 less : Nat) (l : List Cl) (m : List ByteArray) : List (List ByteArray) := List.zipWith (fun t s => List.zipWith (fun b i => EX S M M2 (numS b ^ numS s * numS i ^ less)) t.1 t.2) l m
/-- What Firsts gives. -/
def fsG (S M M2 : Nat) (l : List Cl) (m : List ByteArray) : List (List ByteArray) := List.zipWith (fun t s => t.1.map fun b => EX S M M2 (numS b ^ numS s)) l m
theorem SETG (k : KD z G S Wd M low one sq Ri Wd2 M2 low2 one2 sq2 Ri2) {l : List Cl} (ok : OkC (isEl S M) l) {w : World} {a : Option Addr} {c : Nat} (hs : CM w a l) (W : World) (hB : Below w.heap.size w W) :
    Calls Tryz.prog 18 #[.int .i64 z, .slice a l.length c] W fun e w' => e = .returned (.tuple #[.agg #[.int .i64 z, .slice a l.length c], .int .i64 0]) ∧ Below W.heap.size W w' :=
  setOf42 (fun V => groundOf_yes k V) (fun V hV => set83 ok ((hs.of_below hB).of_below hV) (fun s X => noElem133 (fun Y => memb_call k Y s)))
theorem FIRG (k : KD z G S Wd M low one sq Ri Wd2 M2 low2 one2 sq2 Ri2) (h : PK S M M2) {l : List Cl} (ok : OkC (isEl S M) l) {w : World} {a b : Option Addr} {c d : Nat} {m : List ByteArray} (hs : CM w a l) (hm : SL w b m) (hml : m.length = l.length) (hsc : m.all (isSc S M) = true) (W : World) (hW : Below w.heap.size w W) :
    Calls Tryz.prog 47 #[.agg #[.int .i64 z, .slice a l.length c], .slice b l.length d] W fun e w' => (∃ a' c', e = .returned (.slice a' l.length c') ∧ SLL w' a' (fsG S M M2 l m)) ∧ Below W.heap.size W w' := by
  have h64 := ok.most
  refine firsts46_any (fun V hV hI => ?_)
  have q := both86_90 (w := V) (c := c) (d := d) (g := W.heap.size) (q := fsG S M M2 l m) h64 hml (by simp [fsG]; omega) ((hs.of_below hW).of_below hV) ((hm.of_below hW).of_below hV) (fun i h1 h2 h3 a1 c1 a2 c2 X hX s1 s2 => ?_)
  · rw [hml] at q
    exact q
  · have hsi : isSc S M m[i] = true := List.all_eq_true.1 hsc _ (List.getElem_mem h2)
    have e2 : (fsG S M M2 l m)[i] = (l[i]).1.map fun b => EX S M M2 (numS b ^ numS m[i]) := by simp [fsG]
    have f := ok.few i h1
    have el := ok.el i h1
    rw [e2]
    have hx := isSc_TX' hsi
    have x9 := isSc_lt hsi
    generalize m[i] = s at *
    generalize l[i] = t at *
    rw [List.length_map]
    have q := clos90 (w := X) (z := z) (g := W.heap.size) (a1 := a1) (a2 := a2) (c1 := c1) (c2 := c2) (n2 := t.2.length) (bs := t.1) (q := t.1.map fun b => EX S M M2 (numS b ^ numS s)) (t := s) f.1 (by simp) s1 (cell_keep (hI.cell 0 (by simp)) hX) (fun j j1 j3 Y => ?_)
    · exact q
    · have eb : isEl S M t.1[j] = true := List.all_eq_true.1 el.1 _ (List.getElem_mem j1)
      have pp := fun V => POW k h (x := numS t.1[j]) (t := numS s) (el_nd h eb) x9 V
      rw [← hx, el_EX h eb] at pp
      rw [List.getElem_map]
      exact power92 pp
/-- Holds of a set and as many scalars. -/
theorem HOLG (k : KD z G S Wd M low one sq Ri Wd2 M2 low2 one2 sq2 Ri2) (h : PK S M M2) {l : List Cl} (ok : OkC (isEl S M) l) {w : World} {a b : Option Addr} {c d : Nat} {m : List ByteArray} (hs : CM w a l) (hm : SL w b m) (hml : m.length = l.length) (hsc : m.all (isSc S M) = true) :
    Calls Tryz.prog 7 #[.int .i64 z, .slice a l.length c, .slice b l.length d] w fun e w' => e = .returned (.bool (decide (l.map Prod.snd = fsG S M M2 l m))) ∧ Below w.heap.size w w' := by
  refine holds8 (k := if decide (l.map Prod.snd = fsG S M M2 l m) then 0 else 8) (by cases decide (l.map Prod.snd = fsG S M M2 l m) <;> rfl) (SETG k ok hs) (fun W hW => ?_)
  refine wrongSecrets17 (fun V hV => WRO k hml ok.most (hm.of_below hW) hsc V hV) (fun V hV => ?_)
  refine holds36 (q := fsG S M M2 l m) (fun X hX => FIRG k h ok ((hs.of_below hW).of_below hV) ((hm.of_below hW).of_below hV) hml hsc X hX) (fun X a' c' hX hq => ?_)
  exact equal56 ok.most (fun i hi => by have := ok.few i hi; omega) (by simp [fsG]; omega) (((hs.of_below hW).of_below hV).of_below hX) hq
end
end Go.Proofs.YtmpiipcllgjhdaaGreatDoor
namespace Go.Proofs.YtmpiipcllgjhdaaGreatDoor
open Go.RowKit Go.Deep Go.PlainAid

theorem E_expA {M M2 a k : Nat} (hp : IsP M2) (hq : IsP M) (e : M2 = 2 * M + 1) (ha : ¬ M2 ∣ a) : E M M2 (a ^ k) = E M M2 (a ^ (k % M)) := by
  have m1 := hq.1
  have h1 : ∀ t, E M M2 (a ^ t) = E M M2 ((a % M2) ^ t) := fun t => E_mod (by rw [Nat.pow_mod])
  rw [h1, h1 (k % M)]
  exact sgn_exp hp e (by omega) (fun h => ha (Nat.dvd_of_mod_eq_zero h)) (Nat.mod_lt _ (by omega)) k
theorem E_sameA {M M2 a k l : Nat} (hp : IsP M2) (hq : IsP M) (e : M2 = 2 * M + 1) (ha : ¬ M2 ∣ a) (h : k % M = l % M) : E M M2 (a ^ k) = E M M2 (a ^ l) := by rw [E_expA hp hq e ha, h, ← E_expA hp hq e ha]
theorem E_powE {M M2 x n : Nat} (hq : IsP M) (e : M2 = 2 * M + 1) : sgn M M2 (E M M2 x ^ n % M2) = E M M2 (x ^ n) := by
  have m1 := hq.1
  unfold E
  rw [sgn_pow e (by omega) (Nat.mod_lt _ (by omega)), ← Nat.pow_mod]
end Go.Proofs.YtmpiipcllgjhdaaGreatDoor
namespace Go.Proofs.YtmpiipcllgjhdaaGreatDoor

end Go.Proofs.YtmpiipcllgjhdaaGreatDoor
