/- Does each of a set beat all that are not in it. -/
import Derived.Test.YtcdmndcpjememaaQc
set_option linter.unusedSimpArgs false
set_option linter.unusedVariables false
set_option maxRecDepth 100000
namespace Go.Proofs.Ytcdmndcpjememaa
open Go.RowKit Go.Deep Go.PlainAid

set_option maxHeartbeats 1000000 in
theorem in32 {w : World} {a : Option Addr} {n c : Nat} {l : List Int} (hl : l.length = n) (h9 : n ≤ 4096) (hL : IL w a l) (x : Int) :
    Calls Try.prog 32 #[.slice a n c, .int .i64 x] w fun e w' => e = .returned (.bool (decide (x ∈ l))) ∧ w' = w := by
  have HL : Hid (IL w a l) := hL
  clear hL
  obtain ⟨z, hz⟩ : ∃ z, decide (x ∈ l) = z := ⟨_, rfl⟩
  have HZ : Hid (decide (x ∈ l) = z) := hz
  rw [hz]
  clear hz
  go_enter Try.func32, Try.ntmps32
  go_wp2_with fail
  go_loopg [6, 9] n (fun gk v6 v9 wr => ∃ i : Nat, i + gk = n ∧ v9 = .int .i64 (i : Int) ∧ x ∉ l.take i ∧ wr = w)
  case atStart => exact ⟨0, by omega, rfl, by simp, rfl⟩
  case round =>
    obtain ⟨i, hig, rfl, hx, rfl⟩ := hrel
    have HX : Hid (x ∉ l.take i) := hx
    clear hx
    by_cases hi : i < n
    · have il : (i : Int) < (n : Int) := by omega
      have hi2 : i < l.length := by omega
      obtain ⟨b, o, rfl, q⟩ := HL.out i hi2
      by_cases he : l[i] = x
      · have eb : (l[i] == x) = true := by simpa using he
        have HT : Hid (z = true) := by rw [← HZ.out]; exact decide_eq_true (by rw [← he]; exact List.getElem_mem hi2)
        clear he HX HZ
        generalize l[i] = y at *
        go_wp2_with fail
        go_ret
        exact ⟨by rw [HT.out]; rfl, rfl⟩
      · have eb : (l[i] == x) = false := by simpa using he
        have HN : Hid (x ∉ l.take (i + 1)) := by
          show ¬ _
          rw [List.take_succ_eq_append_getElem hi2]
          simp only [List.mem_append, List.mem_singleton, not_or]
          exact ⟨HX.out, fun e => he e.symm⟩
        clear he HX
        generalize l[i] = y at *
        go_wp2_with fail
        go_roundg (gk - 1)
        case measure => omega
        case rel => exact ⟨i + 1, by omega, by go_num, HN.out, rfl⟩
    · have il : ¬ (i : Int) < (n : Int) := by omega
      have HT : Hid (z = false) := by
        rw [← HZ.out]
        have := HX.out
        rw [List.take_of_length_le (by omega)] at this
        exact decide_eq_false this
      go_wp2_with fail
      go_ret
      exact ⟨by rw [HT.out]; rfl, rfl⟩
theorem zi_mem {l : List Nat} {x : Nat} : ((x : Nat) : Int) ∈ zi l ↔ x ∈ l := by
  simp only [zi, List.mem_map]
  constructor
  · rintro ⟨y, h1, h2⟩
    have : y = x := by omega
    subst this; exact h1
  · intro h; exact ⟨x, h, rfl⟩
/-- One of them beats all that are not in it. -/
def gd (P : Mt) (n : Nat) (l : List Nat) (x : Nat) : Prop := ∀ j, j < n → j ∉ l → P j x < P x j
theorem gd_dom {P : Mt} {n : Nat} {f : Nat → Bool} : (∀ x ∈ lst n f, gd P n (lst n f) x) ↔ Dom P n f := by
  constructor
  · intro h a ha hf j hj hfj
    exact h a (lst_mem.2 ⟨ha, hf⟩) j hj (fun q => by rw [(lst_mem.1 q).2] at hfj; cases hfj)
  · intro h x hx j hj hn
    obtain ⟨h1, h2⟩ := lst_mem.1 hx
    refine h x h1 h2 j hj ?_
    cases e : f j with
    | false => rfl
    | true => exact absurd (lst_mem.2 ⟨hj, e⟩) hn
set_option maxHeartbeats 8000000 in
theorem beatsAll21 {w : World} {a : Option Addr} {n c m lc b8 o8 : Nat} {P : Mt} {l : List Nat} (hn : n ≤ 12) (hs : SQ w a n P) (hm : l.length = m) (h9 : m ≤ 4096) (hl : IL w (some ⟨b8, o8, none⟩) (zi l)) (hlt : ∀ x ∈ l, x < n) (z : Bool) (hz : z = true ↔ ∀ x ∈ l, gd P n l x) :
    Calls Try.prog 21 #[.slice a n c, .slice (some ⟨b8, o8, none⟩) m lc] w fun e w' => e = .returned (.bool z) ∧ Below w.heap.size w w' := by
  have ZT : Hid ((∀ x ∈ l, gd P n l x) → z = true) := hz.2
  have ZF : Hid ((¬ ∀ x ∈ l, gd P n l x) → z = false) := fun h => by
    cases z with
    | false => rfl
    | true => exact absurd (hz.1 rfl) h
  clear hz
  have HS : Hid (SQ w a n P) := hs
  have HL : Hid (IL w (some ⟨b8, o8, none⟩) (zi l)) := hl
  have HLT : Hid (∀ x ∈ l, x < n) := hlt
  have HM : Hid (l.length = m) := hm
  clear hs hl hlt hm
  go_enter Try.func21, Try.ntmps21
  go_wp2_with fail
  go_loopg [6, 7, 10] m (fun gk v6 v7 v10 wr => ∃ i : Nat, i + gk = m ∧ v10 = .int .i64 (i : Int) ∧ (∀ x ∈ l.take i, gd P n l x) ∧ Below w.heap.size w wr)
  case atStart => exact ⟨0, by omega, rfl, by simp, Below.refl _ _⟩
  case round =>
    obtain ⟨i, hig, rfl, hx, hB⟩ := hrel
    have HX : Hid (∀ x ∈ l.take i, gd P n l x) := hx
    have B1 : Hid (Below w.heap.size w wr) := hB
    clear hx hB
    by_cases hi : i < m
    · have il : (i : Int) < (m : Int) := by omega
      have hi2 : i < l.length := by rw [HM.out]; exact hi
      obtain ⟨b9, o9, e9, q9⟩ := HL.out.of_below B1.out i (by rw [zi_len]; exact hi2)
      rw [show (zi l)[i]'(by rw [zi_len]; exact hi2) = ((l[i] : Nat) : Int) by simp [zi]] at q9
      have xlt : l[i] < n := HLT.out _ (List.getElem_mem hi2)
      have TX : Hid (∀ y ∈ l.take (i + 1), y ∈ l.take i ∨ y = l[i]) := fun y hy => by
        rw [List.take_succ_eq_append_getElem hi2] at hy
        simp only [List.mem_append, List.mem_singleton] at hy
        exact hy
      have XM : Hid (l[i] ∈ l) := List.getElem_mem hi2
      obtain ⟨x, hx⟩ : ∃ x, x = l[i] := ⟨_, rfl⟩
      rw [← hx] at q9 xlt TX XM
      clear hx hi2
      cases e9
      obtain ⟨G1, rfl⟩ : ∃ G, G = gk := ⟨gk, rfl⟩
      go_wp2_with fail
      clear q9
      go_loopg [7, 16] n (fun gk v7 v16 wr => ∃ j : Nat, j + gk = n ∧ v16 = .int .i64 (j : Int) ∧ (∀ k, k < j → k ∉ l → P k x < P x k) ∧ Below w.heap.size w wr)
      case atStart => exact ⟨0, by omega, rfl, fun k hk => by omega, B1.out⟩
      case round =>
        clear B1
        obtain ⟨j, hjg, rfl, hh, hB⟩ := hrel
        have HH : Hid (∀ k, k < j → k ∉ l → P k x < P x k) := hh
        have B2 : Hid (Below w.heap.size w wr) := hB
        clear hh hB
        by_cases hj : j < n
        · have jl : (j : Int) < (n : Int) := by omega
          have xl : (x : Int) < (n : Int) := by omega
          have INC : Hid (∀ V, IL V (some ⟨b8, o8, none⟩) (zi l) → Calls Try.prog 32 #[.slice (some ⟨b8, o8, none⟩) m lc, .int .i64 (j : Int)] V fun e w' => e = .returned (.bool (decide ((j : Int) ∈ zi l))) ∧ w' = V) := fun V h => in32 (by rw [zi_len]; exact HM.out) h9 h j
          by_cases hin : j ∈ l
          · have e5 : decide ((j : Int) ∈ zi l) = true := decide_eq_true (zi_mem.2 hin)
            rw [e5] at INC
            have HN : Hid (∀ k, k < j + 1 → k ∉ l → P k x < P x k) := fun k hk hkl => by
              by_cases e : k = j
              · subst e; exact absurd hin hkl
              · exact HH.out k (by omega) hkl
            clear e5 hin HH
            go_wp2_with fail
            refine wp_region_noPanic ?_
            refine wp_region_held_drew (S := fun V => V = wr.drew) (by kernel_rfl) rfl (fun hH => ?_)
            have BD : Hid (Below w.heap.size w wr.drew) := B2.out.drew
            have ILO : Hid (IL wr.drew (some ⟨b8, o8, none⟩) (zi l)) := HL.out.of_below BD.out
            generalize wr.drew = X at *
            refine tk (i := 0) (v := .slice (some ⟨b8, o8, none⟩) m lc) rfl (by kernel_rfl) (fun _ _ _ h => h) (by kernel_rfl) ?_ hH ?_
            · intro V hS; subst hS; go_simp
            simp only [Act.put, y1, y2, y3, y4, y5, y6, y7]
            refine tk (i := 1) (v := .int .i64 (j : Int)) rfl (by kernel_rfl) (fun _ _ _ h => h) (by kernel_rfl) ?_ hH ?_
            · intro V hS; subst hS; go_simp
            simp only [Act.put, y1, y2, y3, y4, y5, y6, y7]
            refine wpAnyH_ready (rs := [2]) (by kernel_rfl) (by simp) ?_
            refine AllReadyH.cons rfl (fun K hK => ?_) AllReadyH.nil
            clear hH
            go_simp
            refine (INC.out X ILO.out).mono ?_
            rintro e w7 ⟨rfl, h7⟩
            obtain rfl := h7.symm
            go_wp2_with fail
            refine hK.out _ _ rfl (fun hH => ?_)
            clear hK K
            try simp only [Act.put, y1, y2, y3, y4, y5, y6, y7]
            refine tk (i := 3) (v := .bool false) rfl (by kernel_rfl) (fun _ _ _ h => h) (by kernel_rfl) ?_ hH ?_
            · intro V hS; subst hS; go_simp
            simp only [Act.put, y1, y2, y3, y4, y5, y6, y7]
            refine tk (i := 4) (v := .bool false) rfl (by kernel_rfl) (fun _ _ _ h => h) (by kernel_rfl) ?_ hH ?_
            · intro V hS; subst hS; go_simp
            simp only [Act.put, y1, y2, y3, y4, y5, y6, y7]
            refine tkU (i := 5) rfl (by kernel_rfl) (fun _ _ _ h => h) (by kernel_rfl) hH ?_
            simp only [Act.put, y1, y2, y3, y4, y5, y6, y7]
            refine tkU (i := 6) rfl (by kernel_rfl) (fun _ _ _ h => h) (by kernel_rfl) hH ?_
            simp only [Act.put, y1, y2, y3, y4, y5, y6, y7]
            refine tkU (i := 7) rfl (by kernel_rfl) (fun _ _ _ h => h) (by kernel_rfl) hH ?_
            simp only [Act.put, y1, y2, y3, y4, y5, y6, y7]
            refine tkU (i := 8) rfl (by kernel_rfl) (fun _ _ _ h => h) (by kernel_rfl) hH ?_
            simp only [Act.put, y1, y2, y3, y4, y5, y6, y7]
            refine tkU (i := 9) rfl (by kernel_rfl) (fun _ _ _ h => h) (by kernel_rfl) hH ?_
            simp only [Act.put, y1, y2, y3, y4, y5, y6, y7]
            refine tkU (i := 10) rfl (by kernel_rfl) (fun _ _ _ h => h) (by kernel_rfl) hH ?_
            simp only [Act.put, y1, y2, y3, y4, y5, y6, y7]
            refine tkU (i := 11) rfl (by kernel_rfl) (fun _ _ _ h => h) (by kernel_rfl) hH ?_
            simp only [Act.put, y1, y2, y3, y4, y5, y6, y7]
            refine tkU (i := 12) rfl (by kernel_rfl) (fun _ _ _ h => h) (by kernel_rfl) hH ?_
            simp only [Act.put, y1, y2, y3, y4, y5, y6, y7]
            refine tkU (i := 13) rfl (by kernel_rfl) (fun _ _ _ h => h) (by kernel_rfl) hH ?_
            simp only [Act.put, y1, y2, y3, y4, y5, y6, y7]
            refine tkU (i := 14) rfl (by kernel_rfl) (fun _ _ _ h => h) (by kernel_rfl) hH ?_
            simp only [Act.put, y1, y2, y3, y4, y5, y6, y7]
            refine tkU (i := 15) rfl (by kernel_rfl) (fun _ _ _ h => h) (by kernel_rfl) hH ?_
            simp only [Act.put, y1, y2, y3, y4, y5, y6, y7]
            refine tkU (i := 16) rfl (by kernel_rfl) (fun _ _ _ h => h) (by kernel_rfl) hH ?_
            simp only [Act.put, y1, y2, y3, y4, y5, y6, y7]
            refine tkU (i := 17) rfl (by kernel_rfl) (fun _ _ _ h => h) (by kernel_rfl) hH ?_
            simp only [Act.put, y1, y2, y3, y4, y5, y6, y7]
            refine tkU (i := 18) rfl (by kernel_rfl) (fun _ _ _ h => h) (by kernel_rfl) hH ?_
            simp only [Act.put, y1, y2, y3, y4, y5, y6, y7]
            refine tkU (i := 19) rfl (by kernel_rfl) (fun _ _ _ h => h) (by kernel_rfl) hH ?_
            simp only [Act.put, y1, y2, y3, y4, y5, y6, y7]
            refine tk (i := 20) (v := .bool false) rfl (by kernel_rfl) (fun _ _ _ h => h) (by kernel_rfl) ?_ hH ?_
            · intro V hS; subst hS; go_simp
            simp only [Act.put, y1, y2, y3, y4, y5, y6, y7]
            refine wpAnyH_done (by kernel_rfl) ?_ _
            refine NoPanic.normal ?_
            clear hH
            go_wp2_with fail
            go_roundg (gk - 1)
            case measure => omega
            case rel => exact ⟨j + 1, by omega, by go_num, HN.out, BD.out⟩
          · have e5 : decide ((j : Int) ∈ zi l) = false := decide_eq_false (fun h => hin (zi_mem.1 h))
            rw [e5] at INC
            by_cases hle : P x j ≤ P j x
            · have NO : Hid (¬ ∀ x ∈ l, gd P n l x) := fun h => by have z := h x XM.out j hj hin; omega
              clear e5 HH hin
              go_wp2_with fail
              refine wp_region_noPanic ?_
              refine wp_region_held_drew (S := fun V => V = wr.drew) (by kernel_rfl) rfl (fun hH => ?_)
              have BD : Hid (Below w.heap.size w wr.drew) := B2.out.drew
              have ILO : Hid (IL wr.drew (some ⟨b8, o8, none⟩) (zi l)) := HL.out.of_below BD.out
              obtain ⟨sb, so, x1, x2, yc1, rfl, kc1⟩ := HS.out.two xlt hj
              obtain ⟨sb', so', x3, x4, yc2, e', kc2⟩ := HS.out.two hj xlt
              cases e'
              obtain ⟨p1, p2⟩ := kc1 _ BD.out
              obtain ⟨p3, p4⟩ := kc2 _ BD.out
              clear kc1 kc2
              generalize P x j = pxj at *
              generalize P j x = pjx at *
              generalize wr.drew = X at *
              refine tk (i := 0) (v := .slice (some ⟨b8, o8, none⟩) m lc) rfl (by kernel_rfl) (fun _ _ _ h => h) (by kernel_rfl) ?_ hH ?_
              · intro V hS; subst hS; go_simp
              simp only [Act.put, y1, y2, y3, y4, y5, y6, y7]
              refine tk (i := 1) (v := .int .i64 (j : Int)) rfl (by kernel_rfl) (fun _ _ _ h => h) (by kernel_rfl) ?_ hH ?_
              · intro V hS; subst hS; go_simp
              simp only [Act.put, y1, y2, y3, y4, y5, y6, y7]
              refine wpAnyH_ready (rs := [2]) (by kernel_rfl) (by simp) ?_
              refine AllReadyH.cons rfl (fun K hK => ?_) AllReadyH.nil
              clear hH
              go_simp
              refine (INC.out X ILO.out).mono ?_
              rintro e w7 ⟨rfl, h7⟩
              obtain rfl := h7.symm
              go_wp2_with fail
              refine hK.out _ _ rfl (fun hH => ?_)
              clear hK K
              try simp only [Act.put, y1, y2, y3, y4, y5, y6, y7]
              refine tk (i := 3) (v := .bool true) rfl (by kernel_rfl) (fun _ _ _ h => h) (by kernel_rfl) ?_ hH ?_
              · intro V hS; subst hS; go_simp
              simp only [Act.put, y1, y2, y3, y4, y5, y6, y7]
              refine tk (i := 4) (v := .bool true) rfl (by kernel_rfl) (fun _ _ _ h => h) (by kernel_rfl) ?_ hH ?_
              · intro V hS; subst hS; go_simp
              simp only [Act.put, y1, y2, y3, y4, y5, y6, y7]
              refine tk (i := 5) (v := .slice (some ⟨sb, so, none⟩) n c) rfl (by kernel_rfl) (fun _ _ _ h => h) (by kernel_rfl) ?_ hH ?_
              · intro V hS; subst hS; go_simp
              simp only [Act.put, y1, y2, y3, y4, y5, y6, y7]
              refine tk (i := 6) (v := .int .i64 (x : Int)) rfl (by kernel_rfl) (fun _ _ _ h => h) (by kernel_rfl) ?_ hH ?_
              · intro V hS; subst hS; go_simp
              simp only [Act.put, y1, y2, y3, y4, y5, y6, y7]
              refine tk (i := 7) (v := .pointer (some ⟨sb, so + x, none⟩)) rfl (by kernel_rfl) (fun _ _ _ h => h) (by kernel_rfl) ?_ hH ?_
              · intro V hS; subst hS; go_simp
              simp only [Act.put, y1, y2, y3, y4, y5, y6, y7]
              refine tk (i := 8) (v := .slice (some ⟨x1, x2, none⟩) n yc1) rfl (by kernel_rfl) (fun _ _ _ h => h) (by kernel_rfl) ?_ hH ?_
              · intro V hS; subst hS; go_simp
              simp only [Act.put, y1, y2, y3, y4, y5, y6, y7]
              refine tk (i := 9) (v := .int .i64 (j : Int)) rfl (by kernel_rfl) (fun _ _ _ h => h) (by kernel_rfl) ?_ hH ?_
              · intro V hS; subst hS; go_simp
              simp only [Act.put, y1, y2, y3, y4, y5, y6, y7]
              refine tk (i := 10) (v := .pointer (some ⟨x1, x2 + j, none⟩)) rfl (by kernel_rfl) (fun _ _ _ h => h) (by kernel_rfl) ?_ hH ?_
              · intro V hS; subst hS; go_simp
              simp only [Act.put, y1, y2, y3, y4, y5, y6, y7]
              refine tk (i := 11) (v := .int .i64 pxj) rfl (by kernel_rfl) (fun _ _ _ h => h) (by kernel_rfl) ?_ hH ?_
              · intro V hS; subst hS; go_simp
              simp only [Act.put, y1, y2, y3, y4, y5, y6, y7]
              refine tk (i := 12) (v := .slice (some ⟨sb, so, none⟩) n c) rfl (by kernel_rfl) (fun _ _ _ h => h) (by kernel_rfl) ?_ hH ?_
              · intro V hS; subst hS; go_simp
              simp only [Act.put, y1, y2, y3, y4, y5, y6, y7]
              refine tk (i := 13) (v := .int .i64 (j : Int)) rfl (by kernel_rfl) (fun _ _ _ h => h) (by kernel_rfl) ?_ hH ?_
              · intro V hS; subst hS; go_simp
              simp only [Act.put, y1, y2, y3, y4, y5, y6, y7]
              refine tk (i := 14) (v := .pointer (some ⟨sb, so + j, none⟩)) rfl (by kernel_rfl) (fun _ _ _ h => h) (by kernel_rfl) ?_ hH ?_
              · intro V hS; subst hS; go_simp
              simp only [Act.put, y1, y2, y3, y4, y5, y6, y7]
              refine tk (i := 15) (v := .slice (some ⟨x3, x4, none⟩) n yc2) rfl (by kernel_rfl) (fun _ _ _ h => h) (by kernel_rfl) ?_ hH ?_
              · intro V hS; subst hS; go_simp
              simp only [Act.put, y1, y2, y3, y4, y5, y6, y7]
              refine tk (i := 16) (v := .int .i64 (x : Int)) rfl (by kernel_rfl) (fun _ _ _ h => h) (by kernel_rfl) ?_ hH ?_
              · intro V hS; subst hS; go_simp
              simp only [Act.put, y1, y2, y3, y4, y5, y6, y7]
              refine tk (i := 17) (v := .pointer (some ⟨x3, x4 + x, none⟩)) rfl (by kernel_rfl) (fun _ _ _ h => h) (by kernel_rfl) ?_ hH ?_
              · intro V hS; subst hS; go_simp
              simp only [Act.put, y1, y2, y3, y4, y5, y6, y7]
              refine tk (i := 18) (v := .int .i64 pjx) rfl (by kernel_rfl) (fun _ _ _ h => h) (by kernel_rfl) ?_ hH ?_
              · intro V hS; subst hS; go_simp
              simp only [Act.put, y1, y2, y3, y4, y5, y6, y7]
              refine tk (i := 19) (v := .bool true) rfl (by kernel_rfl) (fun _ _ _ h => h) (by kernel_rfl) ?_ hH ?_
              · intro V hS; subst hS; go_simp
              simp only [Act.put, y1, y2, y3, y4, y5, y6, y7]
              refine tk (i := 20) (v := .bool true) rfl (by kernel_rfl) (fun _ _ _ h => h) (by kernel_rfl) ?_ hH ?_
              · intro V hS; subst hS; go_simp
              simp only [Act.put, y1, y2, y3, y4, y5, y6, y7]
              refine wpAnyH_done (by kernel_rfl) ?_ _
              refine NoPanic.normal ?_
              clear hH
              go_wp2_with fail
              go_ret
              exact ⟨by rw [ZF.out NO.out]; rfl, BD.out⟩
            · have HN : Hid (∀ k, k < j + 1 → k ∉ l → P k x < P x k) := fun k hk hkl => by
                by_cases e : k = j
                · subst e; omega
                · exact HH.out k (by omega) hkl
              clear e5 HH hin
              go_wp2_with fail
              refine wp_region_noPanic ?_
              refine wp_region_held_drew (S := fun V => V = wr.drew) (by kernel_rfl) rfl (fun hH => ?_)
              have BD : Hid (Below w.heap.size w wr.drew) := B2.out.drew
              have ILO : Hid (IL wr.drew (some ⟨b8, o8, none⟩) (zi l)) := HL.out.of_below BD.out
              obtain ⟨sb, so, x1, x2, yc1, rfl, kc1⟩ := HS.out.two xlt hj
              obtain ⟨sb', so', x3, x4, yc2, e', kc2⟩ := HS.out.two hj xlt
              cases e'
              obtain ⟨p1, p2⟩ := kc1 _ BD.out
              obtain ⟨p3, p4⟩ := kc2 _ BD.out
              clear kc1 kc2
              generalize P x j = pxj at *
              generalize P j x = pjx at *
              generalize wr.drew = X at *
              refine tk (i := 0) (v := .slice (some ⟨b8, o8, none⟩) m lc) rfl (by kernel_rfl) (fun _ _ _ h => h) (by kernel_rfl) ?_ hH ?_
              · intro V hS; subst hS; go_simp
              simp only [Act.put, y1, y2, y3, y4, y5, y6, y7]
              refine tk (i := 1) (v := .int .i64 (j : Int)) rfl (by kernel_rfl) (fun _ _ _ h => h) (by kernel_rfl) ?_ hH ?_
              · intro V hS; subst hS; go_simp
              simp only [Act.put, y1, y2, y3, y4, y5, y6, y7]
              refine wpAnyH_ready (rs := [2]) (by kernel_rfl) (by simp) ?_
              refine AllReadyH.cons rfl (fun K hK => ?_) AllReadyH.nil
              clear hH
              go_simp
              refine (INC.out X ILO.out).mono ?_
              rintro e w7 ⟨rfl, h7⟩
              obtain rfl := h7.symm
              go_wp2_with fail
              refine hK.out _ _ rfl (fun hH => ?_)
              clear hK K
              try simp only [Act.put, y1, y2, y3, y4, y5, y6, y7]
              refine tk (i := 3) (v := .bool true) rfl (by kernel_rfl) (fun _ _ _ h => h) (by kernel_rfl) ?_ hH ?_
              · intro V hS; subst hS; go_simp
              simp only [Act.put, y1, y2, y3, y4, y5, y6, y7]
              refine tk (i := 4) (v := .bool true) rfl (by kernel_rfl) (fun _ _ _ h => h) (by kernel_rfl) ?_ hH ?_
              · intro V hS; subst hS; go_simp
              simp only [Act.put, y1, y2, y3, y4, y5, y6, y7]
              refine tk (i := 5) (v := .slice (some ⟨sb, so, none⟩) n c) rfl (by kernel_rfl) (fun _ _ _ h => h) (by kernel_rfl) ?_ hH ?_
              · intro V hS; subst hS; go_simp
              simp only [Act.put, y1, y2, y3, y4, y5, y6, y7]
              refine tk (i := 6) (v := .int .i64 (x : Int)) rfl (by kernel_rfl) (fun _ _ _ h => h) (by kernel_rfl) ?_ hH ?_
              · intro V hS; subst hS; go_simp
              simp only [Act.put, y1, y2, y3, y4, y5, y6, y7]
              refine tk (i := 7) (v := .pointer (some ⟨sb, so + x, none⟩)) rfl (by kernel_rfl) (fun _ _ _ h => h) (by kernel_rfl) ?_ hH ?_
              · intro V hS; subst hS; go_simp
              simp only [Act.put, y1, y2, y3, y4, y5, y6, y7]
              refine tk (i := 8) (v := .slice (some ⟨x1, x2, none⟩) n yc1) rfl (by kernel_rfl) (fun _ _ _ h => h) (by kernel_rfl) ?_ hH ?_
              · intro V hS; subst hS; go_simp
              simp only [Act.put, y1, y2, y3, y4, y5, y6, y7]
              refine tk (i := 9) (v := .int .i64 (j : Int)) rfl (by kernel_rfl) (fun _ _ _ h => h) (by kernel_rfl) ?_ hH ?_
              · intro V hS; subst hS; go_simp
              simp only [Act.put, y1, y2, y3, y4, y5, y6, y7]
              refine tk (i := 10) (v := .pointer (some ⟨x1, x2 + j, none⟩)) rfl (by kernel_rfl) (fun _ _ _ h => h) (by kernel_rfl) ?_ hH ?_
              · intro V hS; subst hS; go_simp
              simp only [Act.put, y1, y2, y3, y4, y5, y6, y7]
              refine tk (i := 11) (v := .int .i64 pxj) rfl (by kernel_rfl) (fun _ _ _ h => h) (by kernel_rfl) ?_ hH ?_
              · intro V hS; subst hS; go_simp
              simp only [Act.put, y1, y2, y3, y4, y5, y6, y7]
              refine tk (i := 12) (v := .slice (some ⟨sb, so, none⟩) n c) rfl (by kernel_rfl) (fun _ _ _ h => h) (by kernel_rfl) ?_ hH ?_
              · intro V hS; subst hS; go_simp
              simp only [Act.put, y1, y2, y3, y4, y5, y6, y7]
              refine tk (i := 13) (v := .int .i64 (j : Int)) rfl (by kernel_rfl) (fun _ _ _ h => h) (by kernel_rfl) ?_ hH ?_
              · intro V hS; subst hS; go_simp
              simp only [Act.put, y1, y2, y3, y4, y5, y6, y7]
              refine tk (i := 14) (v := .pointer (some ⟨sb, so + j, none⟩)) rfl (by kernel_rfl) (fun _ _ _ h => h) (by kernel_rfl) ?_ hH ?_
              · intro V hS; subst hS; go_simp
              simp only [Act.put, y1, y2, y3, y4, y5, y6, y7]
              refine tk (i := 15) (v := .slice (some ⟨x3, x4, none⟩) n yc2) rfl (by kernel_rfl) (fun _ _ _ h => h) (by kernel_rfl) ?_ hH ?_
              · intro V hS; subst hS; go_simp
              simp only [Act.put, y1, y2, y3, y4, y5, y6, y7]
              refine tk (i := 16) (v := .int .i64 (x : Int)) rfl (by kernel_rfl) (fun _ _ _ h => h) (by kernel_rfl) ?_ hH ?_
              · intro V hS; subst hS; go_simp
              simp only [Act.put, y1, y2, y3, y4, y5, y6, y7]
              refine tk (i := 17) (v := .pointer (some ⟨x3, x4 + x, none⟩)) rfl (by kernel_rfl) (fun _ _ _ h => h) (by kernel_rfl) ?_ hH ?_
              · intro V hS; subst hS; go_simp
              simp only [Act.put, y1, y2, y3, y4, y5, y6, y7]
              refine tk (i := 18) (v := .int .i64 pjx) rfl (by kernel_rfl) (fun _ _ _ h => h) (by kernel_rfl) ?_ hH ?_
              · intro V hS; subst hS; go_simp
              simp only [Act.put, y1, y2, y3, y4, y5, y6, y7]
              refine tk (i := 19) (v := .bool false) rfl (by kernel_rfl) (fun _ _ _ h => h) (by kernel_rfl) ?_ hH ?_
              · intro V hS; subst hS; go_simp
              simp only [Act.put, y1, y2, y3, y4, y5, y6, y7]
              refine tk (i := 20) (v := .bool false) rfl (by kernel_rfl) (fun _ _ _ h => h) (by kernel_rfl) ?_ hH ?_
              · intro V hS; subst hS; go_simp
              simp only [Act.put, y1, y2, y3, y4, y5, y6, y7]
              refine wpAnyH_done (by kernel_rfl) ?_ _
              refine NoPanic.normal ?_
              clear hH
              go_wp2_with fail
              go_roundg (gk - 1)
              case measure => omega
              case rel => exact ⟨j + 1, by omega, by go_num, HN.out, BD.out⟩
        · have jl : ¬ (j : Int) < (n : Int) := by omega
          have GX : Hid (gd P n l x) := fun k hk hkl => HH.out k (by omega) hkl
          have HX2 : Hid (∀ y ∈ l.take (i + 1), gd P n l y) := fun y hy => by
            rcases TX.out y hy with h | h
            · exact HX.out y h
            · rw [h]; exact GX.out
          go_wp2_with fail
          go_roundg (G1 - 1)
          case measure => omega
          case rel => exact ⟨i + 1, by omega, by go_num, HX2.out, B2.out⟩
    · have il : ¬ (i : Int) < (m : Int) := by omega
      have YES : Hid (∀ x ∈ l, gd P n l x) := fun x hx => HX.out x (by rw [List.take_of_length_le (by rw [HM.out]; omega)]; exact hx)
      go_wp2_with fail
      go_ret
      exact ⟨by rw [ZT.out YES.out]; rfl, B1.out⟩
end Go.Proofs.Ytcdmndcpjememaa
