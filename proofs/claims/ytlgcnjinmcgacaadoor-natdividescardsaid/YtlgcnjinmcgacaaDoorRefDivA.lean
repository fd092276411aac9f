/- The reference's division. -/
import Derived.Test.YtlgcnjinmcgacaaDoorReckonsWalk
set_option linter.unusedSimpArgs false
set_option linter.unusedVariables false
namespace Go.Proofs.YtlgcnjinmcgacaaDoor
open Go.RowKit Go.Deep Go.PlainAid

/-- A number whose row lies in no block below lo. -/
def NumF (w : World) (lo n : Nat) (v : Value) : Prop := NumV w 10 n v ∧ ∀ k o l c, v = .slice (some ⟨k, o, none⟩) l c → lo ≤ k
theorem NumF.mono {w : World} {lo lo' n : Nat} {v : Value} (h : NumF w lo n v) (hl : lo' ≤ lo) : NumF w lo' n v := ⟨h.1, fun k o l c e => Nat.le_trans hl (h.2 k o l c e)⟩
theorem NumF.of_below {w w' : World} {lo n : Nat} {v : Value} (h : NumF w lo n v) (hb : Below w.heap.size w w') : NumF w' lo n v := ⟨h.1.of_below hb, h.2⟩
theorem NumF.set {w : World} {lo n b i : Nat} {v x : Value} (h : NumF w lo n v) (hb : b < lo) : NumF (w.setCell ⟨b, i, none⟩ x) lo n v := by
  refine ⟨?_, h.2⟩
  obtain ⟨⟨a, cap, rfl, hc, hr⟩, hf⟩ := h
  exact ⟨a, cap, rfl, hc, hr.of_but (fun _ k o e => by have := hf k o _ _ (by rw [e]); omega) ((But.refl b w).setCell i x)⟩
theorem Row.of_owned' {w : World} {base n : Nat} {v : Value} {l : List Nat} {e : TypeId} (h : w.ownsRow base e 1 v n (zs l)) : ∃ a cap, v = .slice a l.length cap ∧ l.length ≤ cap ∧ cap ≤ 9223372036854775807 ∧ Row w a l ∧ ∀ k o, a = some ⟨k, o, none⟩ → base ≤ k := by
  obtain ⟨a, cap, e1, h1, h2, h3⟩ := Row.of_owned h
  refine ⟨a, cap, e1, h1, h2, h3, ?_⟩
  intro k o ha
  obtain ⟨hlen, ⟨h4, h0⟩ | ⟨g, cap', cur, h4, hb, _⟩⟩ := h
  · rw [e1, ha] at h4; cases h4
  · rw [e1, ha] at h4; cases h4; exact hb

set_option maxHeartbeats 400000 in
theorem trim_keep (B : Nat) (hB : 2 ≤ B) (w : World) (a : Option Addr) (l : List Nat) (cap : Nat) (hr : Row w a l) (hc : l.length ≤ cap) (hl : ∀ d ∈ l, d < B) (hn : cap ≤ 9223372036854775807) :
    Calls Tryd.prog 48 #[.slice a l.length cap] w fun e w' => (∃ k, e = .returned (.slice a k cap) ∧ NumV w B (vl B l) (.slice a k cap)) ∧ w' = w := by
  have HL : Hid (∀ d ∈ l, d < B) := hl
  clear hl
  go_enter Tryd.func48, Tryd.ntmps48
  go_wp2_with fail
  go_loop [0] (fun s => ∃ k : Nat, k ≤ l.length ∧ s = .slice a k cap ∧ vl B (l.take k) = vl B l) (fun s => match s with | .slice _ k _ => k | _ => 0)
  case atStart => exact ⟨l.length, Nat.le_refl _, rfl, by rw [List.take_length]⟩
  case round =>
    obtain ⟨k, hk, rfl, hv⟩ := hrel
    by_cases hlt : 0 < k
    · obtain ⟨b, o, rfl, hcell⟩ := hr (k - 1) (by omega)
      have HV : Hid (vl B (l.take k) = vl B l) := hv
      clear hv
      by_cases hz : l[k - 1] = 0
      · have HS := trim_step hlt hk HV.out hz
        have HH : Hid (vl B (l.take (k - 1)) = vl B l) := HS
        rw [hz] at hcell
        clear HS HV
        go_wp2_with fail
        exact ⟨⟨k - 1, by omega, rfl, HH.out⟩, by show k - 1 < k; omega⟩
      · have HE : Hid (NumV w B (vl B l) (.slice (some ⟨b, o, none⟩) k cap)) := trim_end hB hr hc HL.out hk HV.out (fun _ => hz)
        have hz' : ((l[k - 1] : Int) == 0) = false := by simp; omega
        generalize l[k - 1] = x at *
        go_wp2_with fail
        go_ret
        exact ⟨⟨_, rfl, HE.out⟩, rfl⟩
    · obtain rfl : k = 0 := by omega
      have HE : Hid (NumV w B (vl B l) (.slice a 0 cap)) := trim_end hB hr hc HL.out hk hv (fun h => by omega)
      have hd : decide ((0 : Int) < 0) = false := by decide
      go_wp2_with fail
      go_ret
      exact ⟨⟨_, rfl, HE.out⟩, rfl⟩

set_option maxRecDepth 100000 in
set_option maxHeartbeats 2000000 in
theorem refSubF_any (w : World) (a1 a2 : Option Addr) (cap1 cap2 n m : Nat) (h1 : Row w a1 (dg 10 n)) (h2 : Row w a2 (dg 10 m)) (b1 : (dg 10 n).length ≤ 1000000) (hmn : m ≤ n) :
    Calls Tryd.prog 20 #[.slice a1 (dg 10 n).length cap1, .slice a2 (dg 10 m).length cap2] w fun e w' => (∃ v, e = .returned v ∧ NumF w' w.heap.size (n - m) v) ∧ Below w.heap.size w w' := by
  have KD : Hid (∀ D down, Diffs (dg 10 n) (dg 10 m) (dg 10 n).length D down → vl 10 D = n - m) := fun D down h => h.done hmn
  have HD1 : Hid (∀ d ∈ dg 10 n, d < 10) := dg_mem ten n
  have HD2 : Hid (∀ d ∈ dg 10 m, d < 10) := dg_mem ten m
  generalize dg 10 n = l1 at *
  generalize dg 10 m = l2 at *
  have H1 : Hid (Row w a1 l1) := h1
  have H2 : Hid (Row w a2 l2) := h2
  clear h1 h2
  obtain ⟨i0, hi0, hz0, hz1, hz2⟩ := info_parts Tryd.info3
  go_enter Tryd.func20, Tryd.ntmps20
  go_wp2_with fail
  go_loopg [5, 6, 7] l1.length (fun gk v5 v6 v7 wr => ∃ (i down : Nat) (D : List Nat) (v : Value), i + gk = l1.length ∧ v = v5 ∧ v6 = .int .i64 (down : Int) ∧ v7 = .int .i64 (i : Int) ∧ Diffs l1 l2 i D down ∧ wr.ownsRow w.heap.size 3 1 v i (zs D) ∧ Below w.heap.size w wr)
  case atStart => exact ⟨0, 0, [], _, by omega, rfl, rfl, rfl, Diffs.zero _ _, World.ownsRow_nil _ _ _ _, Below.refl _ _⟩
  case round =>
    obtain ⟨i, down, D, v, hi, rfl, rfl, rfl, hS, ho, hB⟩ := hrel
    by_cases c1 : i < l1.length
    · have c1' : (i : Int) < (l1.length : Int) := by omega
      obtain ⟨k1, o1, rfl, e1⟩ := H1.out.of_below hB i c1
      have hdn := hS.d1
      have A2 : Hid (∀ k, Calls Tryd.prog 54 #[.slice a2 l2.length cap2, .int .i64 (i : Int)] (wr.drewN k) fun e w' => e = .returned (I (l2.getD i 0)) ∧ w' = wr.drewN k) := fun k => at_any (wr.drewN k) a2 l2 cap2 i ((H2.out.of_below hB).drew k)
      have g1 := getD_lt HD1.out i
      have g2 := getD_lt HD2.out i
      have HST : Hid (∀ X Y, X < 10 → Y ≤ 1 → l1.getD i 0 + 10 * Y = X + l2.getD i 0 + down → Diffs l1 l2 (i + 1) (D ++ [X]) Y) := fun X Y h1 h2 h3 => hS.step X Y h1 h2 h3
      have eg : l1.getD i 0 = l1[i] := by rw [List.getD_eq_getElem?_getD, List.getElem?_eq_getElem c1]; rfl
      rw [eg] at g1 HST
      generalize l1[i] = x1 at *
      generalize l2.getD i 0 = x2 at *
      have HO0 : Hid (wr.ownsRow w.heap.size 3 1 v i (zs D)) := ho
      have HB0 : Hid (Below w.heap.size w wr) := hB
      clear ho hB hS eg
      go_wp2_with fail
      go_quiet ((go_at_call 54; exact Calls.quiet_of_same (A2.out _)))
      have HO : Hid ((wr.drewN nq).ownsRow w.heap.size 3 1 v i (zs D)) := HO0.out
      have HB : Hid (Below w.heap.size w (wr.drewN nq)) := ⟨HB0.out.os, HB0.out.tape, HB0.out.output, HB0.out.size, HB0.out.block⟩
      clear A2 e1 HO0 HB0
      generalize wr.drewN nq = wr at *
      by_cases hneg : (x1 : Int) - (x2 : Int) - (down : Int) < 0
      · obtain ⟨X, hX⟩ : ∃ X : Nat, X = x1 + 10 - x2 - down := ⟨_, rfl⟩
        have eX : (x1 : Int) - (x2 : Int) - (down : Int) + 10 = (X : Int) := by omega
        have hX9 : X ≤ 9 := by omega
        have HSX : Hid (Diffs l1 l2 (i + 1) (D ++ [X]) 1) := HST.out X 1 (by omega) (by omega) (by omega)
        clear hX HST
        have HO2 : Hid ((wr.alloc (.cells #[.int .i64 (X : Int)] 3)).ownsRow w.heap.size 3 1 v i (zs D)) := HO.out.alloc _
        have HC2 : Hid (∀ j u, [I X][j]? = some u → (wr.alloc (.cells #[.int .i64 (X : Int)] 3)).cell? ((⟨wr.heap.size, 0, none⟩ : Addr).add j) = some u) := fun j u hu => by
          match j, hu with
          | 0, hu => simp at hu; subst hu; simp [Addr.add]
        have HB2 : Hid (Below w.heap.size w (wr.alloc (.cells #[.int .i64 (X : Int)] 3))) := HB.out.alloc HB.out.size _
        go_wp2_with (at_builtin; refine wpList_append_own _ rfl (.tmp 29) (.tmp 31) 24 rfl w.heap.size 3 i0 (.int .i64 0) 1 8 Tryd.underlying24 hi0 hz0 hz1 hz2 rfl (by decide) v i (zs D) rfl HO2.out ⟨wr.heap.size, 0, none⟩ 1 1 [I X] rfl rfl HC2.out (fun u hu => by simp at hu; subst hu; rfl) (by unfold maxLen; omega) (by omega) HB2.out.size ?_; intro v1 w1 hown1 hgrow1 hn1; have HO3 : Hid (w1.ownsRow w.heap.size 3 1 v1 (i + 1) (zs D ++ [I X])) := hown1; have HG3 : Hid (Below w.heap.size w w1) := HB2.out.grown hgrow1 HB2.out.size (fun k hk => (HO2.out.lt k hk).1); clear hown1 hgrow1 hn1)
        go_roundg (gk - 1)
        case measure => omega
        case rel => exact ⟨i + 1, 1, D ++ [X], _, by omega, rfl, rfl, by go_num, HSX.out, by rw [zs_append]; exact HO3.out, HG3.out⟩
      · obtain ⟨X, hX⟩ : ∃ X : Nat, X = x1 - x2 - down := ⟨_, rfl⟩
        have eX : (x1 : Int) - (x2 : Int) - (down : Int) = (X : Int) := by omega
        have hX9 : X ≤ 9 := by omega
        have HSX : Hid (Diffs l1 l2 (i + 1) (D ++ [X]) 0) := HST.out X 0 (by omega) (by omega) (by omega)
        clear hX HST hneg
        have HO2 : Hid ((wr.alloc (.cells #[.int .i64 (X : Int)] 3)).ownsRow w.heap.size 3 1 v i (zs D)) := HO.out.alloc _
        have HC2 : Hid (∀ j u, [I X][j]? = some u → (wr.alloc (.cells #[.int .i64 (X : Int)] 3)).cell? ((⟨wr.heap.size, 0, none⟩ : Addr).add j) = some u) := fun j u hu => by
          match j, hu with
          | 0, hu => simp at hu; subst hu; simp [Addr.add]
        have HB2 : Hid (Below w.heap.size w (wr.alloc (.cells #[.int .i64 (X : Int)] 3))) := HB.out.alloc HB.out.size _
        go_wp2_with (at_builtin; refine wpList_append_own _ rfl (.tmp 29) (.tmp 31) 24 rfl w.heap.size 3 i0 (.int .i64 0) 1 8 Tryd.underlying24 hi0 hz0 hz1 hz2 rfl (by decide) v i (zs D) rfl HO2.out ⟨wr.heap.size, 0, none⟩ 1 1 [I X] rfl rfl HC2.out (fun u hu => by simp at hu; subst hu; rfl) (by unfold maxLen; omega) (by omega) HB2.out.size ?_; intro v1 w1 hown1 hgrow1 hn1; have HO3 : Hid (w1.ownsRow w.heap.size 3 1 v1 (i + 1) (zs D ++ [I X])) := hown1; have HG3 : Hid (Below w.heap.size w w1) := HB2.out.grown hgrow1 HB2.out.size (fun k hk => (HO2.out.lt k hk).1); clear hown1 hgrow1 hn1)
        go_roundg (gk - 1)
        case measure => omega
        case rel => exact ⟨i + 1, 0, D ++ [X], _, by omega, rfl, rfl, by go_num, HSX.out, by rw [zs_append]; exact HO3.out, HG3.out⟩
    · obtain rfl : i = l1.length := by omega
      have HV : Hid (vl 10 D = n - m) := KD.out D down hS
      have HL : Hid (∀ d ∈ D, d < 10) := hS.low
      have HB : Hid (Below w.heap.size w wr) := hB
      obtain ⟨a, cap, rfl, h1, h2, h3, h4⟩ := Row.of_owned' ho
      have HR : Hid (Row wr a D) := h3
      have HF : Hid (∀ k o, a = some ⟨k, o, none⟩ → w.heap.size ≤ k) := h4
      clear h3 ho hB hS h4
      go_wp2_with fail
      refine (trim_keep 10 ten wr a D cap HR.out h1 HL.out h2).mono ?_
      rintro e W3 ⟨⟨kk, rfl, hv⟩, rfl⟩
      rw [HV.out] at hv
      have HVV : Hid (NumF W3 w.heap.size (n - m) (.slice a kk cap)) := ⟨hv, fun k o l c h => HF.out k o (by cases h; rfl)⟩
      clear hv
      go_wp2_with fail
      go_ret
      exact ⟨⟨_, rfl, HVV.out⟩, HB.out⟩
end Go.Proofs.YtlgcnjinmcgacaaDoor
