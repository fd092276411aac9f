/- The walks of wire's Letters, and of the document's Letters. -/
import Derived.Test.YtlogilmeefcipaaFours
import Derived.Lib.Hide
set_option linter.unusedSimpArgs false
set_option linter.unusedVariables false
set_option maxRecDepth 100000
namespace Go.Proofs.Ytlogilmeefcipaa
open Go.RowKit Go.Deep Go.PlainAid

/-- The values with the check behind them. -/
def valsC (s : ByteArray) : List Nat := vals s ++ [chk (vals s)]
theorem valsC_length (s : ByteArray) : (valsC s).length = sgn s.size + 1 := by simp [valsC, vals_length]
theorem valsC_lt (s : ByteArray) : ∀ d ∈ valsC s, d < 37 := by
  intro d hd
  rcases List.mem_append.1 hd with h | h
  · have := vals_lt s d h; omega
  · rw [List.mem_singleton.1 h]; exact chk_lt _
/-- The text in signs. -/
def FB (l : List Nat) : ByteArray := ⟨(fours l).toArray⟩
theorem FB_size (l : List Nat) : (FB l).size ≤ 2 * l.length := by
  show (fours l).toArray.size ≤ _
  rw [List.size_toArray]; exact fours_le l
theorem app_list (l r : List UInt8) : (⟨l.toArray⟩ : ByteArray) ++ (⟨r.toArray⟩ : ByteArray) = ⟨(l ++ r).toArray⟩ := by
  apply ByteArray.ext
  simp
theorem sg_extract : ∀ v : Fin 37, sgB.extract v.val (v.val + 1) = ⟨[sg v.val].toArray⟩ := by decide +kernel
theorem FB_dash {l : List Nat} {r : Nat} (h : r < l.length) (hc : l[r] < 37) (h0 : 0 < r) (h4 : r % 4 = 0) : FB (l.take (r + 1)) = FB (l.take r) ++ ⟨#[45]⟩ ++ sgB.extract l[r] (l[r] + 1) := by
  rw [sg_extract ⟨l[r], hc⟩]
  unfold FB
  rw [fours_dash h h0 h4]
  show _ = (⟨(fours (l.take r)).toArray⟩ : ByteArray) ++ (⟨[45].toArray⟩ : ByteArray) ++ _
  rw [app_list, app_list]
theorem FB_plain {l : List Nat} {r : Nat} (h : r < l.length) (hc : l[r] < 37) (h4 : ¬ (0 < r ∧ r % 4 = 0)) : FB (l.take (r + 1)) = FB (l.take r) ++ sgB.extract l[r] (l[r] + 1) := by
  rw [sg_extract ⟨l[r], hc⟩]
  unfold FB
  rw [fours_plain h h4, app_list]
set_option maxHeartbeats 1000000 in
theorem letters_ok (w : World) (s : ByteArray) (hs : s.size ≤ 64) :
    Calls Try.prog 10 #[.string s] w fun e w' => e = .returned (.tuple #[.string (FB (valsC s)), .int .i64 0]) ∧ Below w.heap.size w w' := by
  obtain ⟨i0, hi0, hz0, hz1, hz2⟩ := info_parts info5
  have hsl : sgn s.size ≤ 103 := by unfold sgn; omega
  have hk : ¬ (64 : Int) < (s.size : Int) := by omega
  go_enter Try.func10, Try.ntmps10
  go_wp2_with fail
  refine (valuesOf_any w s hs).mono ?_
  rintro e W1 ⟨⟨v, rfl, ho⟩, hb⟩
  rw [vals_length] at ho
  have O : Hid (W1.ownsRow w.heap.size 5 1 v (sgn s.size) ((vals s).map Y)) := ho
  have B : Hid (Below w.heap.size w W1) := hb
  clear ho hb
  obtain ⟨va, vc, rfl, hvc, _, hV⟩ := VRow.of_owned O.out
  rw [List.length_map, vals_length] at O hvc ⊢
  have CK : Hid (Calls Try.prog 23 #[.slice va (sgn s.size) vc] W1 fun e w' => e = .returned (.int .u8 (chk (vals s) : Int)) ∧ Below W1.heap.size W1 w') := by
    have := checkOf_any W1 va vc (vals s) (by rw [vals_length]; omega) (fun d hd => by have := vals_lt s d hd; omega) hV
    rw [vals_length] at this
    exact this
  have CF : Hid (∀ W a cap, VRow W a ((valsC s).map Y) → Calls Try.prog 22 #[.slice a (sgn s.size + 1) cap] W fun e w' => e = .returned (.string (FB (valsC s))) ∧ Below W.heap.size W w') := fun W a cap h => by
    have := inFours_any W a cap (valsC s) (by rw [valsC_length]; omega) (valsC_lt s) h
    rw [valsC_length] at this
    exact this
  have XS : Hid ((vals s).map Y ++ [Y (chk (vals s))] = (valsC s).map Y) := by show _ = _; simp [valsC]
  clear hV hvc
  generalize (valsC s).map Y = xs2 at *
  generalize (vals s).map Y = xs at *
  generalize chk (vals s) = ck at *
  generalize hT : FB (valsC s) = T at *
  have HT : Hid (FB (valsC s) = T) := hT
  clear hT
  generalize sgn s.size = n at *
  go_wp2_with fail
  refine CK.out.mono ?_
  rintro e W2 ⟨rfl, hb⟩
  replace O : Hid (W2.ownsRow w.heap.size 5 1 (.slice va n vc) n xs) := ownsRow_below O.out hb
  replace B : Hid (Below w.heap.size w W2) := B.out.trans (hb.mono B.out.size)
  clear hb CK
  have O2 : Hid ((W2.alloc (.cells #[.int .u8 (ck : Int)] 5)).ownsRow w.heap.size 5 1 (.slice va n vc) n xs) := O.out.alloc _
  have C2 : Hid (∀ jj u, [Y ck][jj]? = some u → (W2.alloc (.cells #[.int .u8 (ck : Int)] 5)).cell? ((⟨W2.heap.size, 0, none⟩ : Addr).add jj) = some u) := fun jj u hu => by
    match jj, hu with
    | 0, hu => simp at hu; subst hu; simp [Addr.add]
  have B2 : Hid (Below w.heap.size w (W2.alloc (.cells #[.int .u8 (ck : Int)] 5))) := B.out.alloc B.out.size _
  go_wp2_with (at_builtin; refine wpList_append_own _ rfl (.tmp 10) (.tmp 13) 35 rfl w.heap.size 5 i0 (.int .u8 0) 1 1 Try.underlying35 hi0 hz0 hz1 hz2 rfl (by decide) (.slice va n vc) n xs rfl O2.out ⟨W2.heap.size, 0, none⟩ 1 1 [Y ck] rfl rfl C2.out (fun u hu => by simp at hu; subst hu; rfl) (by unfold maxLen; omega) (by omega) B2.out.size ?_; intro v1 w1 hown1 hgrow1 hn1; have O3 : Hid (w1.ownsRow w.heap.size 5 1 v1 (n + 1) (xs ++ [Y ck])) := hown1; have B3 : Hid (Below w.heap.size w w1) := B2.out.grown hgrow1 B2.out.size (fun k hk => (O2.out.lt k hk).1); clear hown1 hgrow1 hn1; refine Hid.out ?_)
  refine Lib.hid ?_
  obtain ⟨ga, gc, rfl, _, _, hV⟩ := VRow.of_owned O3.out
  have HL : (xs ++ [Y ck]).length = n + 1 := by have := O3.out.1; omega
  rw [HL]
  rw [XS.out] at hV
  have CF2 := CF.out w1 ga gc hV
  clear hV HL O3 O2 C2 B2 O
  go_wp2_with fail
  refine CF2.mono ?_
  rintro e W3 ⟨rfl, hb⟩
  have B4 : Hid (Below w.heap.size w W3) := B3.out.trans (hb.mono B3.out.size)
  clear hb CF2
  go_wp2_with fail
  go_ret2
  exact ⟨by rw [HT.out]; rfl, B4.out⟩
set_option maxHeartbeats 1000000 in
theorem letters_long (w : World) (s : ByteArray) (hs : 64 < s.size) :
    Calls Try.prog 10 #[.string s] w fun e w' => e = .returned (.tuple #[.string ⟨#[]⟩, .int .i64 3]) ∧ Below w.heap.size w w' := by
  have hk : (64 : Int) < (s.size : Int) := by omega
  go_enter Try.func10, Try.ntmps10
  go_wp2_with fail
  go_ret2
  exact ⟨rfl, Below.refl _ _⟩
set_option maxHeartbeats 1000000 in
theorem refLetters_long (w : World) (s : ByteArray) (hs : 64 < s.size) :
    Calls Try.prog 9 #[.string s] w fun e w' => e = .returned (.tuple #[.string ⟨#[]⟩, .int .i64 3]) ∧ Below w.heap.size w w' := by
  have hk : (64 : Int) < (s.size : Int) := by omega
  go_enter Try.func9, Try.ntmps9
  go_wp2_with fail
  go_ret2
  exact ⟨rfl, Below.refl _ _⟩
set_option maxHeartbeats 1000000 in
theorem refLetters_ok (w : World) (s : ByteArray) (hs : s.size ≤ 64) :
    Calls Try.prog 9 #[.string s] w fun e w' => e = .returned (.tuple #[.string (FB (valsC s)), .int .i64 0]) ∧ Below w.heap.size w w' := by
  obtain ⟨i0, hi0, hz0, hz1, hz2⟩ := info_parts info3
  have hsl : sgn s.size ≤ 103 := by unfold sgn; omega
  have hk : ¬ (64 : Int) < (s.size : Int) := by omega
  go_enter Try.func9, Try.ntmps9
  go_wp2_with fail
  refine (refValues_any w s hs).mono ?_
  rintro e W1 ⟨⟨v, rfl, ho⟩, hb⟩
  rw [vals_length] at ho
  have O : Hid (W1.ownsRow w.heap.size 3 1 v (sgn s.size) ((vals s).map Z)) := ho
  have B : Hid (Below w.heap.size w W1) := hb
  clear ho hb
  obtain ⟨va, vc, rfl, hvc, _, hV⟩ := VRow.of_owned O.out
  rw [List.length_map, vals_length] at O hvc ⊢
  have CK : Hid (Calls Try.prog 20 #[.slice va (sgn s.size) vc] W1 fun e w' => e = .returned (.int .i64 (chk (vals s) : Int)) ∧ Below W1.heap.size W1 w') := by
    have := refCheck_any W1 va vc (vals s) (by rw [vals_length]; omega) (fun d hd => by have := vals_lt s d hd; omega) hV
    rw [vals_length] at this
    exact this
  have XS : Hid ((vals s).map Z ++ [Z (chk (vals s))] = (valsC s).map Z) := by show _ = _; simp [valsC]
  have VL : Hid ((valsC s).length = sgn s.size + 1) := valsC_length s
  have VG : Hid (∀ d ∈ valsC s, d < 37) := valsC_lt s
  clear hV hvc
  generalize hT : valsC s = l at *
  have HT : Hid (valsC s = l) := hT
  clear hT
  generalize (vals s).map Z = xs at *
  generalize chk (vals s) = ck at *
  generalize sgn s.size = n at *
  go_wp2_with fail
  refine CK.out.mono ?_
  rintro e W2 ⟨rfl, hb⟩
  replace O : Hid (W2.ownsRow w.heap.size 3 1 (.slice va n vc) n xs) := ownsRow_below O.out hb
  replace B : Hid (Below w.heap.size w W2) := B.out.trans (hb.mono B.out.size)
  clear hb CK
  have O2 : Hid ((W2.alloc (.cells #[.int .i64 (ck : Int)] 3)).ownsRow w.heap.size 3 1 (.slice va n vc) n xs) := O.out.alloc _
  have C2 : Hid (∀ jj u, [Z ck][jj]? = some u → (W2.alloc (.cells #[.int .i64 (ck : Int)] 3)).cell? ((⟨W2.heap.size, 0, none⟩ : Addr).add jj) = some u) := fun jj u hu => by
    match jj, hu with
    | 0, hu => simp at hu; subst hu; simp [Addr.add]
  have B2 : Hid (Below w.heap.size w (W2.alloc (.cells #[.int .i64 (ck : Int)] 3))) := B.out.alloc B.out.size _
  go_wp2_with (at_builtin; refine wpList_append_own _ rfl (.tmp 13) (.tmp 16) 43 rfl w.heap.size 3 i0 (.int .i64 0) 1 8 Try.underlying43 hi0 hz0 hz1 hz2 rfl (by decide) (.slice va n vc) n xs rfl O2.out ⟨W2.heap.size, 0, none⟩ 1 1 [Z ck] rfl rfl C2.out (fun u hu => by simp at hu; subst hu; rfl) (by unfold maxLen; omega) (by omega) B2.out.size ?_; intro v1 w1 hown1 hgrow1 hn1; have O3 : Hid (w1.ownsRow w.heap.size 3 1 v1 (n + 1) (xs ++ [Z ck])) := hown1; have B3 : Hid (Below w.heap.size w w1) := B2.out.grown hgrow1 B2.out.size (fun k hk => (O2.out.lt k hk).1); clear hown1 hgrow1 hn1; refine Hid.out ?_)
  refine Lib.hid ?_
  obtain ⟨ga, gc, rfl, _, _, hV⟩ := VRow.of_owned O3.out
  have HL : (xs ++ [Z ck]).length = l.length := by have := O3.out.1; have := VL.out; omega
  rw [HL]
  rw [XS.out] at hV
  have HR : Hid (VRow w1 ga (l.map Z)) := hV
  have ll : l.length ≤ 104 := by have := VL.out; omega
  clear hV HL O3 O2 C2 B2 O XS VL
  go_wp2_with fail
  go_loopg [5, 6, 7, 20] l.length (fun gk v5 v6 v7 v20 wr => ∃ r : Nat, r + gk = l.length ∧ v20 = .int .i64 (r : Int) ∧ v5 = .string (FB (l.take r)) ∧ Below w1.heap.size w1 wr)
  case atStart => exact ⟨0, by omega, rfl, rfl, Below.refl _ _⟩
  case round =>
    obtain ⟨r, hrg, rfl, rfl, hB⟩ := hrel
    have BB : Hid (Below w1.heap.size w1 wr) := hB
    have L9 : (FB (l.take r)).size ≤ 208 := by have := FB_size (l.take r); rw [List.length_take] at this; omega
    clear hB
    by_cases hr2 : r < l.length
    · obtain ⟨gb, go, rfl, hc⟩ := HR.out r (by simpa using hr2)
      rw [← BB.out.cell (p := ⟨gb, go + r, none⟩) (World.block_lt_of_cell? w1 ⟨gb, go + r, none⟩ hc)] at hc
      rw [List.getElem_map] at hc
      have hg1 := VG.out l[r] (List.getElem_mem _)
      have K1 : Hid (0 < r → r % 4 = 0 → FB (l.take (r + 1)) = FB (l.take r) ++ ⟨#[45]⟩ ++ sgB.extract l[r] (l[r] + 1)) := fun h0 h4 => FB_dash hr2 hg1 h0 h4
      have K2 : Hid (¬ (0 < r ∧ r % 4 = 0) → FB (l.take (r + 1)) = FB (l.take r) ++ sgB.extract l[r] (l[r] + 1)) := fun h4 => FB_plain hr2 hg1 h4
      generalize l[r] = c at *
      generalize FB (l.take r) = S at *
      have rlt : (r : Int) < (l.length : Int) := by omega
      have c37 : (c : Int) + 1 ≤ 37 := by omega
      have c37' : (c : Int) < 37 := by omega
      obtain ⟨r4, hr4⟩ : ∃ r4, r4 = r % 4 := ⟨_, rfl⟩
      have k4 : (r : Int).tmod 4 = (r4 : Int) := by rw [Int.tmod_eq_emod_of_nonneg (by omega)]; omega
      have k4' : (r : Int) % 4 = (r4 : Int) := by omega
      rw [← hr4] at K1 K2
      clear hr4
      by_cases hdash : 0 < r ∧ r4 = 0
      · have HE : Hid (FB (l.take (r + 1)) = S ++ ⟨#[45]⟩ ++ sgB.extract c (c + 1)) := K1.out hdash.1 hdash.2
        have d1 : (0 : Int) < (r : Int) := by omega
        have d2 : (r4 : Int) = 0 := by omega
        clear K1 K2 hdash
        go_wp2_with fail
        go_roundg (gk - 1)
        case measure => omega
        case rel => exact ⟨r + 1, by omega, by go_num, by rw [HE.out]; try rfl, BB.out⟩
      · have HE : Hid (FB (l.take (r + 1)) = S ++ sgB.extract c (c + 1)) := K2.out hdash
        clear K1 K2
        by_cases d1 : 0 < r
        · have d1' : (0 : Int) < (r : Int) := by omega
          have d2 : ¬ (r4 : Int) = 0 := by omega
          have d3 : ((r4 : Int) == 0) = false := by simpa using d2
          go_wp2_with fail
          go_roundg (gk - 1)
          case measure => omega
          case rel => exact ⟨r + 1, by omega, by go_num, by rw [HE.out]; try rfl, BB.out⟩
        · have d1' : ¬ (0 : Int) < (r : Int) := by omega
          go_wp2_with fail
          go_roundg (gk - 1)
          case measure => omega
          case rel => exact ⟨r + 1, by omega, by go_num, by rw [HE.out]; try rfl, BB.out⟩
    · obtain rfl : r = l.length := by omega
      have hnl : ¬ ((l.length : Nat) : Int) < (l.length : Int) := by omega
      rw [List.take_length]
      have B5 : Hid (Below w.heap.size w wr) := B3.out.trans (BB.out.mono B3.out.size)
      go_wp2_with fail
      go_ret2
      exact ⟨by rw [HT.out]; rfl, B5.out⟩
end Go.Proofs.Ytlogilmeefcipaa
