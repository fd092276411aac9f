/- The reference's Of and Whole. -/
import Derived.Test.YtflabehlaiocaaaDoorBaseE
set_option linter.unusedSimpArgs false
set_option linter.unusedVariables false
namespace Go.Proofs.YtflabehlaiocaaaDoor
open Go.RowKit Go.Deep Go.PlainAid

set_option maxRecDepth 100000 in
set_option maxHeartbeats 1000000 in
theorem refOf_any (w : World) (n : Nat) (hn : n ≤ 1000000) :
    Calls Tryd.prog 35 #[.int .i64 (n : Int)] w fun e w' => (∃ v, e = .returned v ∧ NumV w' 10 n v) ∧ Below w.heap.size w w' := by
  obtain ⟨i0, hi0, hz0, hz1, hz2⟩ := info_parts Tryd.info3
  have LN : (dg 10 n).length ≤ 7 := dg_len_le ten 7 n (by omega)
  go_enter Tryd.func35, Tryd.ntmps35
  go_wp2_with fail
  go_loopg [0, 3] n (fun gk v0 v3 wr => ∃ (D : List Nat) (v : Value), v0 = .int .i64 (gk : Int) ∧ v = v3 ∧ gk ≤ 1000000 ∧ D ++ dg 10 gk = dg 10 n ∧ wr.ownsRow w.heap.size 3 1 v D.length (zs D) ∧ Below w.heap.size w wr)
  case atStart => exact ⟨[], _, rfl, rfl, hn, rfl, World.ownsRow_nil _ _ _ _, Below.refl _ _⟩
  case round =>
    obtain ⟨D, v, rfl, rfl, hk, hD, ho, hB⟩ := hrel
    have HDD : Hid (D ++ dg 10 gk = dg 10 n) := hD
    have HO : Hid (wr.ownsRow w.heap.size 3 1 v D.length (zs D)) := ho
    have HB : Hid (Below w.heap.size w wr) := hB
    have HL : D.length ≤ 7 := by
      have := congrArg List.length hD
      rw [List.length_append] at this
      omega
    clear hD ho hB
    generalize gk = x at *
    by_cases h0 : x = 0
    · subst h0
      have hDe : D = dg 10 n := by
        have := HDD.out
        rw [dg_zero, List.append_nil] at this
        exact this
      have HR : Hid (NumV wr 10 n v) := by
        obtain ⟨a, cap, e1, g1, g2, g3⟩ := Row.of_owned HO.out
        rw [hDe] at e1 g1 g3
        exact ⟨a, cap, e1, g1, g3⟩
      clear HDD HO hDe
      go_wp2_with fail
      go_ret
      exact ⟨⟨_, rfl, HR.out⟩, HB.out⟩
    · have hx0 : (0 : Int) < (x : Int) := by omega
      have HE : Hid (D ++ [x % 10] ++ dg 10 (x / 10) = dg 10 n) := by
        show _ = _
        rw [← HDD.out, dg_pos ten h0, List.append_assoc]; rfl
      have HM : Hid (x / 10 < x) := Nat.div_lt_self (by omega) (by omega)
      have HK : Hid (x / 10 ≤ 1000000) := by show _ ≤ _; omega
      have kr : (x : Int).tmod 10 = ((x % 10 : Nat) : Int) := by rw [Int.tmod_eq_emod_of_nonneg (by omega)]; omega
      have kr2 : (x : Int) % 10 = ((x % 10 : Nat) : Int) := by omega
      have kq : (x : Int) / 10 = ((x / 10 : Nat) : Int) := by omega
      have kq2 : (x : Int).tdiv 10 = ((x / 10 : Nat) : Int) := by rw [Int.tdiv_eq_ediv_of_nonneg (by omega)]; omega
      have y10 : x % 10 < 10 := by omega
      have q10 : x / 10 ≤ 1000000 := by omega
      generalize x % 10 = y at *
      generalize x / 10 = q at *
      have HO2 : Hid ((wr.alloc (.cells #[.int .i64 (y : Int)] 3)).ownsRow w.heap.size 3 1 v D.length (zs D)) := HO.out.alloc _
      have HC2 : Hid (∀ jj u, [I y][jj]? = some u → (wr.alloc (.cells #[.int .i64 (y : Int)] 3)).cell? ((⟨wr.heap.size, 0, none⟩ : Addr).add jj) = some u) := fun jj u hu => by
        match jj, hu with
        | 0, hu => simp at hu; subst hu; simp [Addr.add]
      have HB2 : Hid (Below w.heap.size w (wr.alloc (.cells #[.int .i64 (y : Int)] 3))) := HB.out.alloc HB.out.size _
      clear HDD
      go_wp2_with (at_builtin; refine wpList_append_own _ rfl (.tmp 6) (.tmp 9) 44 rfl w.heap.size 3 i0 (.int .i64 0) 1 8 Tryd.underlying44 hi0 hz0 hz1 hz2 rfl (by decide) v D.length (zs D) rfl HO2.out ⟨wr.heap.size, 0, none⟩ 1 1 [I y] rfl rfl HC2.out (fun u hu => by simp at hu; subst hu; rfl) (by unfold maxLen; omega) (by omega) HB2.out.size ?_; intro v1 w1 hown1 hgrow1 hn1; have HO3 : Hid (w1.ownsRow w.heap.size 3 1 v1 (D.length + 1) (zs D ++ [I y])) := hown1; have HG3 : Hid (Below w.heap.size w w1) := HB2.out.grown hgrow1 HB2.out.size (fun k hk => (HO2.out.lt k hk).1); clear hown1 hgrow1 hn1)
      go_roundg q
      case measure => exact HM.out
      case rel => exact ⟨D ++ [y], _, by go_num, rfl, HK.out, HE.out, by rw [zs_append, List.length_append]; exact HO3.out, HG3.out⟩
end Go.Proofs.YtflabehlaiocaaaDoor
