/- The law, where nothing is wrong. -/
import Derived.Test.YtkcnpcjogfhkbaaGreatDoorZ26
import Derived.Test.YtkcnpcjogfhkbaaGreatDoorZ27
import Derived.Test.YtkcnpcjogfhkbaaGreatDoorZ28
set_option linter.unusedSimpArgs false
set_option linter.unusedVariables false
set_option maxRecDepth 100000
namespace Go.Proofs.YtkcnpcjogfhkbaaGreatDoor
open Go.RowKit Go.Deep Go.PlainAid

/-- A square's cells, rows at a header of its own. -/
def MC (w : World) (b n : Nat) (M : Mt) : Prop := (∀ i, i < n → w.cell? ⟨b, 0 + i, none⟩ = some (.slice (some ⟨b + 1 + i, 0, none⟩) n n)) ∧ ∀ i j, i < n → j < n → w.cell? ⟨b + 1 + i, 0 + j, none⟩ = some (.int .i64 (M i j))
theorem MX.mc {w : World} {b n : Nat} {M : Mt} (h : MX w b n M) : MC w b n M := ⟨fun i hi => by rw [Nat.zero_add]; exact h.hdr hi, fun i j hi hj => by rw [Nat.zero_add]; exact h.at hi hj⟩
theorem MC.of_below {w w' : World} {b n : Nat} {M : Mt} (h : MC w b n M) (hb : Below w.heap.size w w') : MC w' b n M := ⟨fun i hi => cell_keep (h.1 i hi) hb, fun i j hi hj => cell_keep (h.2 i j hi hj) hb⟩
/-- Whom the first i do not keep from beating all. -/
def AllB (P : Mt) (i j : Nat) : Prop := ∀ y, y < j → i = y ∨ P y i < P i y
def TB (z : Bool) (P : Mt) (i j : Nat) : Prop := z = true → AllB P i j
theorem AllB.zero (P : Mt) (i : Nat) : AllB P i 0 := fun y h => by omega
theorem AllB.step {P : Mt} {i j : Nat} (h : AllB P i j) (q : i = j ∨ P j i < P i j) : AllB P i (j + 1) := fun y hy => by
  by_cases e : y = j
  · subst e; exact q
  · exact h y (by omega)
set_option maxHeartbeats 32000000 in
theorem law3_ok {w : World} {nm lt : ByteArray} {ca a : Option Addr} {n cc NL c : Nat} {r s m : Int} {P : Mt} (h1 : 1 ≤ n) (h2 : n ≤ 12) (h3 : ∀ i j, i < n → j < n → 0 ≤ P i j ∧ P i j ≤ 1099511627776)
    (HE : ∀ W, Below w.heap.size w W → Calls Tryz.prog 4 #[CV nm ca n cc 4 1 m, .slice a NL c, .string lt] W fun e w' => (∃ v, e = .returned (.tuple #[v, .int .i64 0]) ∧ UB P n w' v) ∧ Below W.heap.size W w')
    (HP : ∀ W, Below w.heap.size w W → Calls Tryz.prog 5 #[CV nm ca n cc 4 1 m, .slice a NL c] W fun e w' => (∃ b, e = .returned (.tuple #[.slice (some ⟨b, 0, none⟩) n n, .int .i64 0]) ∧ MX w' b n P) ∧ Below W.heap.size W w') :
    Calls Tryz.prog 3 #[CV nm ca n cc r s m, .slice a NL c, .string lt] w fun e w' => e = .returned (.bool true) ∧ Below w.heap.size w w' := by
  have H1 : Hid (∀ W, Below w.heap.size w W → Calls Tryz.prog 4 #[.agg #[.string nm, .slice ca n cc, .int .i64 4, .int .i64 1, .int .i64 m], .slice a NL c, .string lt] W fun e w' => (∃ g x, e = .returned (.tuple #[.slice (some ⟨g, 0, none⟩) 1 1, .int .i64 0]) ∧ IL w' (some ⟨g, 0, none⟩) [((x : Nat) : Int)] ∧ x < n ∧ ∃ M, Str P n M ∧ ∀ j, j < n → ¬ Bt M j x) ∧ Below W.heap.size W w') := fun W hW => (HE W hW).mono (by
    rintro e w' ⟨⟨v, rfl, g, x, rfl, q⟩, hB⟩
    exact ⟨⟨g, x, rfl, q⟩, hB⟩)
  have H2 : Hid (∀ W, Below w.heap.size w W → Calls Tryz.prog 5 #[.agg #[.string nm, .slice ca n cc, .int .i64 4, .int .i64 1, .int .i64 m], .slice a NL c] W fun e w' => (∃ b, e = .returned (.tuple #[.slice (some ⟨b, 0, none⟩) n n, .int .i64 0]) ∧ MX w' b n P) ∧ Below W.heap.size W w') := HP
  have H6 : Hid (∀ W b, MX W b n P → Calls Tryz.prog 6 #[.slice (some ⟨b, 0, none⟩) n n] W fun e w' => (∃ b M, e = .returned (.tuple #[.slice (some ⟨b, 0, none⟩) n n, .int .i64 0]) ∧ Str P n M ∧ MX w' b n M) ∧ Below W.heap.size W w') := fun W b hm => paths_mx h1 h2 h3 hm
  have H7 : Hid (∀ W b, MX W b n P → Calls Tryz.prog 7 #[.slice (some ⟨b, 0, none⟩) n n] W fun e w' => (∃ sa sc f, e = .returned (.tuple #[.slice sa (lst n f).length sc, .int .i64 0]) ∧ Least P n f ∧ IL w' sa (zi (lst n f))) ∧ Below W.heap.size W w') := fun W b hm => smith_mx h1 h2 h3 hm
  have P0 : Hid (∀ i j, i < n → j < n → 0 ≤ P i j) := fun i j hi hj => (h3 i j hi hj).1
  clear HE HP h3
  unfold CV
  have B : Hid (Below w.heap.size w (w.alloc (.cells #[.string nm, .slice ca n cc, .int .i64 4, .int .i64 1, .int .i64 m] 24))) := (Below.refl _ _).alloc (Nat.le_refl _) _
  have I0 : Hid (IHolds (w.alloc (.cells #[.string nm, .slice ca n cc, .int .i64 4, .int .i64 1, .int .i64 m] 24)) w.heap.size 24 [.string nm, .slice ca n cc, .int .i64 4, .int .i64 1, .int .i64 m]) := IHolds.new w 24 _
  go_enter Tryz.func3, Tryz.ntmps3
  go_wp2_with (go_at_call 4; refine (H1.out _ B.out).mono ?_)
  rintro e w1 ⟨⟨g, x, rfl, hx, xn, M0, hst0, hub⟩, hB⟩
  have B1 : Hid (Below w.heap.size w w1) := B.out.trans (hB.mono B.out.size)
  have I1 : Hid (IHolds w1 w.heap.size 24 [.string nm, .slice ca n cc, .int .i64 4, .int .i64 1, .int .i64 m]) := I0.out.of_below hB
  have X1 : Hid (IL w1 (some ⟨g, 0, none⟩) [((x : Nat) : Int)]) := hx
  have XN : Hid (x < n) := xn
  have S0 : Hid (Str P n M0) := hst0
  have U0 : Hid (∀ j, j < n → ¬ Bt M0 j x) := hub
  obtain ⟨k0, k1, k2, k3, k4⟩ := five I1.out
  clear hB H1 I0 hx xn hst0 hub
  go_wp2_with (go_at_call 5; refine (H2.out _ B1.out).mono ?_)
  rintro e w2 ⟨⟨pb, rfl, hm⟩, hB⟩
  have B2 : Hid (Below w.heap.size w w2) := B1.out.trans (hB.mono B1.out.size)
  have X2 : Hid (IL w2 (some ⟨g, 0, none⟩) [((x : Nat) : Int)]) := X1.out.of_below hB
  have MP : Hid (MX w2 pb n P) := hm
  have C6 : Hid (Calls Tryz.prog 6 #[.slice (some ⟨pb, 0, none⟩) n n] w2 fun e w' => (∃ b M, e = .returned (.tuple #[.slice (some ⟨b, 0, none⟩) n n, .int .i64 0]) ∧ Str P n M ∧ MX w' b n M) ∧ Below w2.heap.size w2 w') := H6.out _ _ hm
  clear hB hm H2 I1 X1 k0 k1 k2 k3 k4 H6
  go_wp2_with (go_at_call 6; refine (C6.out).mono ?_)
  rintro e w3 ⟨⟨wb, M, rfl, hst, hm⟩, hB⟩
  have B3 : Hid (Below w.heap.size w w3) := B2.out.trans (hB.mono B2.out.size)
  have X3 : Hid (IL w3 (some ⟨g, 0, none⟩) [((x : Nat) : Int)]) := X2.out.of_below hB
  have MP3 : Hid (MX w3 pb n P) := MP.out.of_below hB
  have MW3 : Hid (MX w3 wb n M) := hm
  have SM : Hid (Str P n M) := hst
  have C7 : Hid (Calls Tryz.prog 7 #[.slice (some ⟨pb, 0, none⟩) n n] w3 fun e w' => (∃ sa sc f, e = .returned (.tuple #[.slice sa (lst n f).length sc, .int .i64 0]) ∧ Least P n f ∧ IL w' sa (zi (lst n f))) ∧ Below w3.heap.size w3 w') := H7.out _ _ MP3.out
  clear hB hm hst C6 H7 MP X2
  go_wp2_with (go_at_call 7; refine (C7.out).mono ?_)
  rintro e w4 ⟨⟨sa, sc, f, rfl, hl, hil⟩, hB⟩
  have B4 : Hid (Below w.heap.size w w4) := B3.out.trans (hB.mono B3.out.size)
  have X4 : Hid (IL w4 (some ⟨g, 0, none⟩) [((x : Nat) : Int)]) := X3.out.of_below hB
  have MP : Hid (MC w4 pb n P) := (MP3.out.of_below hB).mc
  have MW : Hid (MC w4 wb n M) := (MW3.out.of_below hB).mc
  have TR : Hid (∀ i j k, i < n → j < n → k < n → M j i < M i j → M k j < M j k → M k i < M i k) := fun i j k hi hj hk q1 q2 => SM.out.bt hi hj hk q1 q2
  have XF : Hid (x ∈ lst n f) := by
    obtain ⟨y, hy⟩ := List.exists_mem_of_length_pos hl.some
    obtain ⟨y1, y2⟩ := lst_mem.1 hy
    exact lst_mem.2 ⟨XN.out, S0.out.in_dom hl.dom P0.out y1 y2 XN.out U0.out⟩
  have AL : Hid (∀ i, i < n → AllB P i n → x = i ∧ lst n f = [i]) := fun i hi h => by
    have q := hl.alone hi (fun j hj hne => (h j hj).resolve_left (fun e => hne e.symm))
    have z := XF.out
    rw [q] at z
    exact ⟨by simpa using z, q⟩
  have SI : Hid (∀ i V g', lst n f = [i] → Below w4.heap.size w4 V → IL V (some ⟨g', 0, none⟩) [((i : Nat) : Int)] → Calls Tryz.prog 9 #[.slice sa (lst n f).length sc, .slice (some ⟨g', 0, none⟩) 1 1] V fun e w' => e = .returned (.bool true) ∧ Below V.heap.size V w') := fun i V g' e hV hI => by
    have z := hil.of_below hV
    rw [e] at z ⊢
    exact sameInts11 (f := fun _ => ((i : Nat) : Int)) (by simp) (fun j hj => by
      obtain ⟨b, o, e1, e2⟩ := z j (by simpa [zi] using hj)
      have : j = 0 := by simp at hj; omega
      subst this
      exact ⟨b, o, e1, by simpa [zi] using e2⟩) (fun j hj => by
      obtain ⟨b, o, e1, e2⟩ := hI j hj
      have : j = 0 := by simp at hj; omega
      subst this
      exact ⟨b, o, e1, by simpa using e2⟩)
  have IN : Hid (Calls Tryz.prog 8 #[.slice sa (lst n f).length sc, .int .i64 (x : Int)] w4 fun e w' => e = .returned (.bool true) ∧ w' = w4) := by
    have q := in8 (c := sc) (l := zi (lst n f)) (n := (lst n f).length) (zi_len _) (by have : (lst n f).length ≤ n := (by unfold lst; exact Nat.le_trans (List.length_filter_le _ _) (by simp)); omega) hil (x : Int)
    rw [decide_eq_true (zi_mem.2 XF.out)] at q
    exact q
  clear hB hl hil C7 S0 U0 X3 MP3 MW3 SM XF P0
  generalize (lst n f).length = SL at *
  have q0 : w4.cell? ⟨g, 0, none⟩ = some (.int .i64 (x : Int)) := by
    obtain ⟨b, o, e1, e2⟩ := X4.out 0 (by simp)
    cases e1
    simpa using e2
  go_wp2_with (go_at_call 8; refine (IN.out).mono ?_; rintro e w5 ⟨rfl, rfl⟩; clear IN)
  clear q0
  obtain ⟨w4, rfl⟩ : ∃ X, X = w5 := ⟨w5, rfl⟩
  have BY : Hid (Below w4.heap.size w4 w4) := Below.refl _ _
  go_loopg [13, 14, 15, 16, 78] n (fun gk v13 v14 v15 v16 v78 wr => ∃ i : Nat, i + gk = n ∧ v78 = .int .i64 (i : Int) ∧ Below w4.heap.size w4 wr)
  case atStart => exact ⟨0, by omega, rfl, BY.out⟩
  case round =>
    clear BY
    obtain ⟨i, hig, rfl, hB⟩ := hrel
    have BI : Hid (Below w4.heap.size w4 wr) := hB
    clear hB
    obtain ⟨G1, rfl⟩ : ∃ G, G = gk := ⟨gk, rfl⟩
    by_cases hi : i < n
    · have il : (i : Int) < (n : Int) := by omega
      go_wp2_with fail
      obtain ⟨WI, rfl⟩ : ∃ X, X = wr := ⟨wr, rfl⟩
      have A0 : Hid (TB true P i 0) := fun _ => AllB.zero P i
      go_loopg [14, 15, 16, 83] n (fun gk v14 v15 v16 v83 wr => ∃ (j : Nat) (z : Bool), j + gk = n ∧ v83 = .int .i64 (j : Int) ∧ v14 = .bool z ∧ TB z P i j ∧ Below w4.heap.size w4 wr)
      case atStart => exact ⟨0, true, by omega, rfl, rfl, A0.out, BI.out⟩
      case round =>
        clear A0 BI
        obtain ⟨j, z, hjg, rfl, rfl, hz, hB⟩ := hrel
        have BJ0 : Hid (Below w4.heap.size w4 wr) := hB
        have BJ : Hid (Below w4.heap.size w4 wr.drew) := hB.trans ⟨rfl, rfl, rfl, Nat.le_refl _, fun _ _ => rfl⟩
        have AZ : Hid (TB z P i j) := hz
        clear hB hz
        by_cases hj : j < n
        · have jl : (j : Int) < (n : Int) := by omega
          cases z with
          | false =>
            have AN : Hid (TB false P i (j + 1)) := fun h => by cases h
            clear AZ
            go_wp2_with fail
            refine wp_region_noPanic ?_
            refine rg17_1 il jl (fun _ _ _ _ h => h) ?_
            intro u86 u87 u88 u89 u90 u91 u92 u93 u94 u95 u96 u97 u98 u99 u100 u101 u102 u103 u104 u105 u106 u107 u108
            refine NoPanic.normal ?_
            try dsimp only
            generalize wr.drew = wr at *
            obtain ⟨G2, rfl⟩ : ∃ G, G = gk := ⟨gk, rfl⟩
            obtain ⟨WK, rfl⟩ : ∃ X, X = wr := ⟨wr, rfl⟩
            have BZ : Hid (Below w4.heap.size w4 WK) := BJ.out
            go_wp2_with fail
            go_loopg [16, 111] n (fun gk v16 v111 wr => ∃ k : Nat, k + gk = n ∧ v111 = .int .i64 (k : Int) ∧ Below w4.heap.size w4 wr)
            case atStart => exact ⟨0, by omega, rfl, BZ.out⟩
            case round =>
              obtain ⟨k, hkg, rfl, hB⟩ := hrel
              have BK : Hid (Below w4.heap.size w4 wr) := hB
              clear hB
              have BD : Hid (Below w4.heap.size w4 wr.drew) := BK.out.trans ⟨rfl, rfl, rfl, Nat.le_refl _, fun _ _ => rfl⟩
              by_cases hk : k < n
              · have kl : (k : Int) < (n : Int) := by omega
                have p1 := (MW.out.of_below BD.out).1 i hi
                have p2 := (MW.out.of_below BD.out).2 i j hi hj
                have p3 := (MW.out.of_below BD.out).1 j hj
                have p4 := (MW.out.of_below BD.out).2 j i hj hi
                have p5 := (MW.out.of_below BD.out).2 j k hj hk
                have p6 := (MW.out.of_below BD.out).1 k hk
                have p7 := (MW.out.of_below BD.out).2 k j hk hj
                have p8 := (MW.out.of_below BD.out).2 i k hi hk
                have p9 := (MW.out.of_below BD.out).2 k i hk hi
                have TT : Hid (M j i < M i j → M k j < M j k → M k i < M i k) := TR.out i j k hi hj hk
                generalize M i j = x1 at *
                generalize M j i = x2 at *
                generalize M j k = x3 at *
                generalize M k j = x4 at *
                generalize M i k = x5 at *
                generalize M k i = x6 at *
                by_cases e1 : x2 < x1
                · by_cases e2 : x4 < x3
                  · have e3 : x6 < x5 := TT.out e1 e2
                    clear TT
                    go_wp2_with fail
                    refine wp_region_noPanic ?_
                    refine rg21_3 il jl kl p1 p2 p3 p4 p5 p6 p7 p8 p9 e1 e2 (Int.not_le.2 e3) (fun _ _ _ _ h => h) ?_
                    intro u114 u115 u116 u117 u118 u119 u120 u121 u122 u123 u124 u125 u126 u127 u128 u129 u130 u131 u132 u133 u134 u135 u136 u137 u138 u139 u140 u141 u142 u143 u144 u145 u146 u147 u148 u149 u150 u151 u152 u153 u154 u155 u156 u157 u158 u159 u160 u161
                    refine NoPanic.normal ?_
                    try dsimp only
                    go_wp2_with fail
                    go_roundg (gk - 1)
                    case measure => omega
                    case rel => exact ⟨k + 1, by omega, by go_num, BD.out⟩
                  · clear TT p8 p9
                    go_wp2_with fail
                    refine wp_region_noPanic ?_
                    refine rg21_2 il jl kl p1 p2 p3 p4 p5 p6 p7 e1 (Int.not_lt.2 e2) (fun _ _ _ _ h => h) ?_
                    intro u114 u115 u116 u117 u118 u119 u120 u121 u122 u123 u124 u125 u126 u127 u128 u129 u130 u131 u132 u133 u134 u135 u136 u137 u138 u139 u140 u141 u142 u143 u144 u145 u146 u147 u148 u149 u150 u151 u152 u153 u154 u155 u156 u157 u158 u159 u160 u161
                    refine NoPanic.normal ?_
                    try dsimp only
                    go_wp2_with fail
                    go_roundg (gk - 1)
                    case measure => omega
                    case rel => exact ⟨k + 1, by omega, by go_num, BD.out⟩
                · clear TT p5 p6 p7 p8 p9
                  go_wp2_with fail
                  refine wp_region_noPanic ?_
                  refine rg21_1 il jl kl p1 p2 p3 p4 (Int.not_lt.2 e1) (fun _ _ _ _ h => h) ?_
                  intro u114 u115 u116 u117 u118 u119 u120 u121 u122 u123 u124 u125 u126 u127 u128 u129 u130 u131 u132 u133 u134 u135 u136 u137 u138 u139 u140 u141 u142 u143 u144 u145 u146 u147 u148 u149 u150 u151 u152 u153 u154 u155 u156 u157 u158 u159 u160 u161
                  refine NoPanic.normal ?_
                  try dsimp only
                  go_wp2_with fail
                  go_roundg (gk - 1)
                  case measure => omega
                  case rel => exact ⟨k + 1, by omega, by go_num, BD.out⟩
              · have kl : ¬ (k : Int) < (n : Int) := by omega
                go_wp2_with fail
                go_roundg (G2 - 1)
                case measure => omega
                case rel => exact ⟨j + 1, false, by omega, by go_num, rfl, AN.out, BK.out⟩
          | true =>
            by_cases e0 : i = j
            · have e1 : ((i : Int) == (j : Int)) = true := by simp [e0]
              have AN : Hid (TB true P i (j + 1)) := fun _ => (AZ.out rfl).step (Or.inl e0)
              clear AZ e0
              go_wp2_with fail
              refine wp_region_noPanic ?_
              refine rg17_2 il jl e1 (fun _ _ _ _ h => h) ?_
              intro u86 u87 u88 u89 u90 u91 u92 u93 u94 u95 u96 u97 u98 u99 u100 u101 u102 u103 u104 u105 u106 u107 u108
              refine NoPanic.normal ?_
              try dsimp only
              clear e1
              generalize wr.drew = wr at *
              obtain ⟨G2, rfl⟩ : ∃ G, G = gk := ⟨gk, rfl⟩
              obtain ⟨WK, rfl⟩ : ∃ X, X = wr := ⟨wr, rfl⟩
              have BZ : Hid (Below w4.heap.size w4 WK) := BJ.out
              go_wp2_with fail
              go_loopg [16, 111] n (fun gk v16 v111 wr => ∃ k : Nat, k + gk = n ∧ v111 = .int .i64 (k : Int) ∧ Below w4.heap.size w4 wr)
              case atStart => exact ⟨0, by omega, rfl, BZ.out⟩
              case round =>
                obtain ⟨k, hkg, rfl, hB⟩ := hrel
                have BK : Hid (Below w4.heap.size w4 wr) := hB
                clear hB
                have BD : Hid (Below w4.heap.size w4 wr.drew) := BK.out.trans ⟨rfl, rfl, rfl, Nat.le_refl _, fun _ _ => rfl⟩
                by_cases hk : k < n
                · have kl : (k : Int) < (n : Int) := by omega
                  have p1 := (MW.out.of_below BD.out).1 i hi
                  have p2 := (MW.out.of_below BD.out).2 i j hi hj
                  have p3 := (MW.out.of_below BD.out).1 j hj
                  have p4 := (MW.out.of_below BD.out).2 j i hj hi
                  have p5 := (MW.out.of_below BD.out).2 j k hj hk
                  have p6 := (MW.out.of_below BD.out).1 k hk
                  have p7 := (MW.out.of_below BD.out).2 k j hk hj
                  have p8 := (MW.out.of_below BD.out).2 i k hi hk
                  have p9 := (MW.out.of_below BD.out).2 k i hk hi
                  have TT : Hid (M j i < M i j → M k j < M j k → M k i < M i k) := TR.out i j k hi hj hk
                  generalize M i j = x1 at *
                  generalize M j i = x2 at *
                  generalize M j k = x3 at *
                  generalize M k j = x4 at *
                  generalize M i k = x5 at *
                  generalize M k i = x6 at *
                  by_cases e1 : x2 < x1
                  · by_cases e2 : x4 < x3
                    · have e3 : x6 < x5 := TT.out e1 e2
                      clear TT
                      go_wp2_with fail
                      refine wp_region_noPanic ?_
                      refine rg21_3 il jl kl p1 p2 p3 p4 p5 p6 p7 p8 p9 e1 e2 (Int.not_le.2 e3) (fun _ _ _ _ h => h) ?_
                      intro u114 u115 u116 u117 u118 u119 u120 u121 u122 u123 u124 u125 u126 u127 u128 u129 u130 u131 u132 u133 u134 u135 u136 u137 u138 u139 u140 u141 u142 u143 u144 u145 u146 u147 u148 u149 u150 u151 u152 u153 u154 u155 u156 u157 u158 u159 u160 u161
                      refine NoPanic.normal ?_
                      try dsimp only
                      go_wp2_with fail
                      go_roundg (gk - 1)
                      case measure => omega
                      case rel => exact ⟨k + 1, by omega, by go_num, BD.out⟩
                    · clear TT p8 p9
                      go_wp2_with fail
                      refine wp_region_noPanic ?_
                      refine rg21_2 il jl kl p1 p2 p3 p4 p5 p6 p7 e1 (Int.not_lt.2 e2) (fun _ _ _ _ h => h) ?_
                      intro u114 u115 u116 u117 u118 u119 u120 u121 u122 u123 u124 u125 u126 u127 u128 u129 u130 u131 u132 u133 u134 u135 u136 u137 u138 u139 u140 u141 u142 u143 u144 u145 u146 u147 u148 u149 u150 u151 u152 u153 u154 u155 u156 u157 u158 u159 u160 u161
                      refine NoPanic.normal ?_
                      try dsimp only
                      go_wp2_with fail
                      go_roundg (gk - 1)
                      case measure => omega
                      case rel => exact ⟨k + 1, by omega, by go_num, BD.out⟩
                  · clear TT p5 p6 p7 p8 p9
                    go_wp2_with fail
                    refine wp_region_noPanic ?_
                    refine rg21_1 il jl kl p1 p2 p3 p4 (Int.not_lt.2 e1) (fun _ _ _ _ h => h) ?_
                    intro u114 u115 u116 u117 u118 u119 u120 u121 u122 u123 u124 u125 u126 u127 u128 u129 u130 u131 u132 u133 u134 u135 u136 u137 u138 u139 u140 u141 u142 u143 u144 u145 u146 u147 u148 u149 u150 u151 u152 u153 u154 u155 u156 u157 u158 u159 u160 u161
                    refine NoPanic.normal ?_
                    try dsimp only
                    go_wp2_with fail
                    go_roundg (gk - 1)
                    case measure => omega
                    case rel => exact ⟨k + 1, by omega, by go_num, BD.out⟩
                · have kl : ¬ (k : Int) < (n : Int) := by omega
                  go_wp2_with fail
                  go_roundg (G2 - 1)
                  case measure => omega
                  case rel => exact ⟨j + 1, true, by omega, by go_num, rfl, AN.out, BK.out⟩
            · have e1 : ((i : Int) == (j : Int)) = false := by simp; omega
              have p1 := (MP.out.of_below BJ.out).1 i hi
              have p2 := (MP.out.of_below BJ.out).2 i j hi hj
              have p3 := (MP.out.of_below BJ.out).1 j hj
              have p4 := (MP.out.of_below BJ.out).2 j i hj hi
              have AA : Hid (P j i < P i j → AllB P i (j + 1)) := fun q => (AZ.out rfl).step (Or.inr q)
              clear AZ e0
              generalize P i j = x1 at *
              generalize P j i = x2 at *
              by_cases e2 : x2 < x1
              · have AN : Hid (TB true P i (j + 1)) := fun _ => AA.out e2
                clear AA
                go_wp2_with fail
                refine wp_region_noPanic ?_
                refine rg17_3 il jl e1 p1 p2 p3 p4 e2 (fun _ _ _ _ h => h) ?_
                intro u86 u87 u88 u89 u90 u91 u92 u93 u94 u95 u96 u97 u98 u99 u100 u101 u102 u103 u104 u105 u106 u107 u108
                refine NoPanic.normal ?_
                try dsimp only
                clear e1 e2 p1 p2 p3 p4
                generalize wr.drew = wr at *
                obtain ⟨G2, rfl⟩ : ∃ G, G = gk := ⟨gk, rfl⟩
                obtain ⟨WK, rfl⟩ : ∃ X, X = wr := ⟨wr, rfl⟩
                have BZ : Hid (Below w4.heap.size w4 WK) := BJ.out
                go_wp2_with fail
                go_loopg [16, 111] n (fun gk v16 v111 wr => ∃ k : Nat, k + gk = n ∧ v111 = .int .i64 (k : Int) ∧ Below w4.heap.size w4 wr)
                case atStart => exact ⟨0, by omega, rfl, BZ.out⟩
                case round =>
                  obtain ⟨k, hkg, rfl, hB⟩ := hrel
                  have BK : Hid (Below w4.heap.size w4 wr) := hB
                  clear hB
                  have BD : Hid (Below w4.heap.size w4 wr.drew) := BK.out.trans ⟨rfl, rfl, rfl, Nat.le_refl _, fun _ _ => rfl⟩
                  by_cases hk : k < n
                  · have kl : (k : Int) < (n : Int) := by omega
                    have p1 := (MW.out.of_below BD.out).1 i hi
                    have p2 := (MW.out.of_below BD.out).2 i j hi hj
                    have p3 := (MW.out.of_below BD.out).1 j hj
                    have p4 := (MW.out.of_below BD.out).2 j i hj hi
                    have p5 := (MW.out.of_below BD.out).2 j k hj hk
                    have p6 := (MW.out.of_below BD.out).1 k hk
                    have p7 := (MW.out.of_below BD.out).2 k j hk hj
                    have p8 := (MW.out.of_below BD.out).2 i k hi hk
                    have p9 := (MW.out.of_below BD.out).2 k i hk hi
                    have TT : Hid (M j i < M i j → M k j < M j k → M k i < M i k) := TR.out i j k hi hj hk
                    generalize M i j = x1 at *
                    generalize M j i = x2 at *
                    generalize M j k = x3 at *
                    generalize M k j = x4 at *
                    generalize M i k = x5 at *
                    generalize M k i = x6 at *
                    by_cases e1 : x2 < x1
                    · by_cases e2 : x4 < x3
                      · have e3 : x6 < x5 := TT.out e1 e2
                        clear TT
                        go_wp2_with fail
                        refine wp_region_noPanic ?_
                        refine rg21_3 il jl kl p1 p2 p3 p4 p5 p6 p7 p8 p9 e1 e2 (Int.not_le.2 e3) (fun _ _ _ _ h => h) ?_
                        intro u114 u115 u116 u117 u118 u119 u120 u121 u122 u123 u124 u125 u126 u127 u128 u129 u130 u131 u132 u133 u134 u135 u136 u137 u138 u139 u140 u141 u142 u143 u144 u145 u146 u147 u148 u149 u150 u151 u152 u153 u154 u155 u156 u157 u158 u159 u160 u161
                        refine NoPanic.normal ?_
                        try dsimp only
                        go_wp2_with fail
                        go_roundg (gk - 1)
                        case measure => omega
                        case rel => exact ⟨k + 1, by omega, by go_num, BD.out⟩
                      · clear TT p8 p9
                        go_wp2_with fail
                        refine wp_region_noPanic ?_
                        refine rg21_2 il jl kl p1 p2 p3 p4 p5 p6 p7 e1 (Int.not_lt.2 e2) (fun _ _ _ _ h => h) ?_
                        intro u114 u115 u116 u117 u118 u119 u120 u121 u122 u123 u124 u125 u126 u127 u128 u129 u130 u131 u132 u133 u134 u135 u136 u137 u138 u139 u140 u141 u142 u143 u144 u145 u146 u147 u148 u149 u150 u151 u152 u153 u154 u155 u156 u157 u158 u159 u160 u161
                        refine NoPanic.normal ?_
                        try dsimp only
                        go_wp2_with fail
                        go_roundg (gk - 1)
                        case measure => omega
                        case rel => exact ⟨k + 1, by omega, by go_num, BD.out⟩
                    · clear TT p5 p6 p7 p8 p9
                      go_wp2_with fail
                      refine wp_region_noPanic ?_
                      refine rg21_1 il jl kl p1 p2 p3 p4 (Int.not_lt.2 e1) (fun _ _ _ _ h => h) ?_
                      intro u114 u115 u116 u117 u118 u119 u120 u121 u122 u123 u124 u125 u126 u127 u128 u129 u130 u131 u132 u133 u134 u135 u136 u137 u138 u139 u140 u141 u142 u143 u144 u145 u146 u147 u148 u149 u150 u151 u152 u153 u154 u155 u156 u157 u158 u159 u160 u161
                      refine NoPanic.normal ?_
                      try dsimp only
                      go_wp2_with fail
                      go_roundg (gk - 1)
                      case measure => omega
                      case rel => exact ⟨k + 1, by omega, by go_num, BD.out⟩
                  · have kl : ¬ (k : Int) < (n : Int) := by omega
                    go_wp2_with fail
                    go_roundg (G2 - 1)
                    case measure => omega
                    case rel => exact ⟨j + 1, true, by omega, by go_num, rfl, AN.out, BK.out⟩
              · have AN : Hid (TB false P i (j + 1)) := fun h => by cases h
                clear AA
                go_wp2_with fail
                refine wp_region_noPanic ?_
                refine rg17_4 il jl e1 p1 p2 p3 p4 (Int.not_lt.2 e2) (fun _ _ _ _ h => h) ?_
                intro u86 u87 u88 u89 u90 u91 u92 u93 u94 u95 u96 u97 u98 u99 u100 u101 u102 u103 u104 u105 u106 u107 u108
                refine NoPanic.normal ?_
                try dsimp only
                clear e1 e2 p1 p2 p3 p4
                generalize wr.drew = wr at *
                obtain ⟨G2, rfl⟩ : ∃ G, G = gk := ⟨gk, rfl⟩
                obtain ⟨WK, rfl⟩ : ∃ X, X = wr := ⟨wr, rfl⟩
                have BZ : Hid (Below w4.heap.size w4 WK) := BJ.out
                go_wp2_with fail
                go_loopg [16, 111] n (fun gk v16 v111 wr => ∃ k : Nat, k + gk = n ∧ v111 = .int .i64 (k : Int) ∧ Below w4.heap.size w4 wr)
                case atStart => exact ⟨0, by omega, rfl, BZ.out⟩
                case round =>
                  obtain ⟨k, hkg, rfl, hB⟩ := hrel
                  have BK : Hid (Below w4.heap.size w4 wr) := hB
                  clear hB
                  have BD : Hid (Below w4.heap.size w4 wr.drew) := BK.out.trans ⟨rfl, rfl, rfl, Nat.le_refl _, fun _ _ => rfl⟩
                  by_cases hk : k < n
                  · have kl : (k : Int) < (n : Int) := by omega
                    have p1 := (MW.out.of_below BD.out).1 i hi
                    have p2 := (MW.out.of_below BD.out).2 i j hi hj
                    have p3 := (MW.out.of_below BD.out).1 j hj
                    have p4 := (MW.out.of_below BD.out).2 j i hj hi
                    have p5 := (MW.out.of_below BD.out).2 j k hj hk
                    have p6 := (MW.out.of_below BD.out).1 k hk
                    have p7 := (MW.out.of_below BD.out).2 k j hk hj
                    have p8 := (MW.out.of_below BD.out).2 i k hi hk
                    have p9 := (MW.out.of_below BD.out).2 k i hk hi
                    have TT : Hid (M j i < M i j → M k j < M j k → M k i < M i k) := TR.out i j k hi hj hk
                    generalize M i j = x1 at *
                    generalize M j i = x2 at *
                    generalize M j k = x3 at *
                    generalize M k j = x4 at *
                    generalize M i k = x5 at *
                    generalize M k i = x6 at *
                    by_cases e1 : x2 < x1
                    · by_cases e2 : x4 < x3
                      · have e3 : x6 < x5 := TT.out e1 e2
                        clear TT
                        go_wp2_with fail
                        refine wp_region_noPanic ?_
                        refine rg21_3 il jl kl p1 p2 p3 p4 p5 p6 p7 p8 p9 e1 e2 (Int.not_le.2 e3) (fun _ _ _ _ h => h) ?_
                        intro u114 u115 u116 u117 u118 u119 u120 u121 u122 u123 u124 u125 u126 u127 u128 u129 u130 u131 u132 u133 u134 u135 u136 u137 u138 u139 u140 u141 u142 u143 u144 u145 u146 u147 u148 u149 u150 u151 u152 u153 u154 u155 u156 u157 u158 u159 u160 u161
                        refine NoPanic.normal ?_
                        try dsimp only
                        go_wp2_with fail
                        go_roundg (gk - 1)
                        case measure => omega
                        case rel => exact ⟨k + 1, by omega, by go_num, BD.out⟩
                      · clear TT p8 p9
                        go_wp2_with fail
                        refine wp_region_noPanic ?_
                        refine rg21_2 il jl kl p1 p2 p3 p4 p5 p6 p7 e1 (Int.not_lt.2 e2) (fun _ _ _ _ h => h) ?_
                        intro u114 u115 u116 u117 u118 u119 u120 u121 u122 u123 u124 u125 u126 u127 u128 u129 u130 u131 u132 u133 u134 u135 u136 u137 u138 u139 u140 u141 u142 u143 u144 u145 u146 u147 u148 u149 u150 u151 u152 u153 u154 u155 u156 u157 u158 u159 u160 u161
                        refine NoPanic.normal ?_
                        try dsimp only
                        go_wp2_with fail
                        go_roundg (gk - 1)
                        case measure => omega
                        case rel => exact ⟨k + 1, by omega, by go_num, BD.out⟩
                    · clear TT p5 p6 p7 p8 p9
                      go_wp2_with fail
                      refine wp_region_noPanic ?_
                      refine rg21_1 il jl kl p1 p2 p3 p4 (Int.not_lt.2 e1) (fun _ _ _ _ h => h) ?_
                      intro u114 u115 u116 u117 u118 u119 u120 u121 u122 u123 u124 u125 u126 u127 u128 u129 u130 u131 u132 u133 u134 u135 u136 u137 u138 u139 u140 u141 u142 u143 u144 u145 u146 u147 u148 u149 u150 u151 u152 u153 u154 u155 u156 u157 u158 u159 u160 u161
                      refine NoPanic.normal ?_
                      try dsimp only
                      go_wp2_with fail
                      go_roundg (gk - 1)
                      case measure => omega
                      case rel => exact ⟨k + 1, by omega, by go_num, BD.out⟩
                  · have kl : ¬ (k : Int) < (n : Int) := by omega
                    go_wp2_with fail
                    go_roundg (G2 - 1)
                    case measure => omega
                    case rel => exact ⟨j + 1, false, by omega, by go_num, rfl, AN.out, BK.out⟩
        · have jl : ¬ (j : Int) < (n : Int) := by omega
          have ej : j = n := by omega
          cases z with
          | false =>
            clear AZ ej
            go_wp2_with fail
            go_roundg (G1 - 1)
            case measure => omega
            case rel => exact ⟨i + 1, by omega, by go_num, BJ0.out⟩
          | true =>
            obtain ⟨xe, le⟩ := AL.out i hi (by have := AZ.out rfl; rw [ej] at this; exact this)
            clear AZ ej
            have q0 : wr.cell? ⟨g, 0, none⟩ = some (.int .i64 (i : Int)) := by
              obtain ⟨b, o, e1, e2⟩ := X4.out.of_below BJ0.out 0 (by simp)
              cases e1
              rw [← xe]
              simpa using e2
            have ee : ((i : Int) != (i : Int)) = false := by simp
            have BA : Hid (Below w4.heap.size w4 (wr.alloc (.cells #[.int .i64 (i : Int)] 3))) := BJ0.out.alloc BJ0.out.size _
            have C9 : Hid (Calls Tryz.prog 9 #[.slice sa SL sc, .slice (some ⟨wr.heap.size, 0, none⟩) 1 1] (wr.alloc (.cells #[.int .i64 (i : Int)] 3)) fun e w' => e = .returned (.bool true) ∧ Below (wr.alloc (.cells #[.int .i64 (i : Int)] 3)).heap.size (wr.alloc (.cells #[.int .i64 (i : Int)] 3)) w') := SI.out i _ _ le BA.out (IL.one wr _)
            clear xe le
            go_wp2_with (go_at_call 9; refine (C9.out).mono ?_; rintro e w6 ⟨rfl, hB⟩; have B6 : Hid (Below w4.heap.size w4 w6) := BA.out.trans (hB.mono BA.out.size); clear hB C9 q0)
            go_roundg (G1 - 1)
            case measure => omega
            case rel => exact ⟨i + 1, by omega, by go_num, B6.out⟩
    · have il : ¬ (i : Int) < (n : Int) := by omega
      go_wp2_with fail
      go_ret
      exact ⟨rfl, B4.out.trans (BI.out.mono B4.out.size)⟩
end Go.Proofs.YtkcnpcjogfhkbaaGreatDoor
