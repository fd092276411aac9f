/- strconv.Itoa at this program; wire's Number; the walk of the law WireNumbers. -/
import Derived.Test.YtlogilmeefcipaaDoorRef
set_option linter.unusedSimpArgs false
set_option linter.unusedVariables false
set_option maxRecDepth 100000
namespace Go.Proofs.YtlogilmeefcipaaDoor
open Go.RowKit Go.Deep Go.PlainAid Go.Shelf

def Tryd.laysM171_ren : Go.Shelf.Ren := ⟨fun | 171 => 25 | 243 => 36 | 246 => 42 | 283 => 47 | 284 => 48 | 285 => 49 | 286 => 50 | 129 => 56 | 317 => 55 | 318 => 57 | 319 => 58 | 320 => 59 | 337 => 62 | 338 => 63 | n => n, fun | 3 => 3 | 9 => 9 | 2 => 2 | 4 => 4 | 171 => 80 | 0 => 0 | 53 => 81 | 37 => 41 | 5 => 5 | 173 => 84 | 212 => 90 | 51 => 91 | 20 => 20 | 213 => 92 | 46 => 94 | 232 => 100 | 233 => 101 | n => n, fun | 17 => 0 | 18 => 2 | 19 => 3 | n => n⟩
theorem Tryd.laysM171 : Go.Proofs.LaysM.n171 Tryd.prog Tryd.laysM171_ren := {
  mixed := by kernel_rfl
  f129 := Tryd.func56.trans (congrArg some (by kernel_rfl))
  f171 := Tryd.func25.trans (congrArg some (by kernel_rfl))
  f243 := Tryd.func36.trans (congrArg some (by kernel_rfl))
  f246 := Tryd.func42.trans (congrArg some (by kernel_rfl))
  f283 := Tryd.func47.trans (congrArg some (by kernel_rfl))
  f284 := Tryd.func48.trans (congrArg some (by kernel_rfl))
  f285 := Tryd.func49.trans (congrArg some (by kernel_rfl))
  f286 := Tryd.func50.trans (congrArg some (by kernel_rfl))
  f317 := Tryd.func55.trans (congrArg some (by kernel_rfl))
  f318 := Tryd.func57.trans (congrArg some (by kernel_rfl))
  f319 := Tryd.func58.trans (congrArg some (by kernel_rfl))
  f320 := Tryd.func59.trans (congrArg some (by kernel_rfl))
  f337 := Tryd.func62.trans (congrArg some (by kernel_rfl))
  f338 := Tryd.func63.trans (congrArg some (by kernel_rfl))
  t0 := Tryd.underlying0
  a0 := Tryd.isAgg0
  z0 := Tryd.sizeOf0
  v0 := Tryd.zeroValue0
  t2 := Tryd.underlying2
  a2 := Tryd.isAgg2
  z2 := Tryd.sizeOf2
  v2 := Tryd.zeroValue2
  t3 := Tryd.underlying3
  a3 := Tryd.isAgg3
  z3 := Tryd.sizeOf3
  v3 := Tryd.zeroValue3
  t4 := Tryd.underlying4
  a4 := Tryd.isAgg4
  z4 := Tryd.sizeOf4
  v4 := Tryd.zeroValue4
  t5 := Tryd.underlying5
  a5 := Tryd.isAgg5
  z5 := Tryd.sizeOf5
  v5 := Tryd.zeroValue5
  t9 := Tryd.underlying9
  a9 := Tryd.isAgg9
  z9 := Tryd.sizeOf9
  v9 := Tryd.zeroValue9
  t20 := Tryd.underlying20
  a20 := Tryd.isAgg20
  z20 := Tryd.sizeOf20
  v20 := Tryd.zeroValue20
  t37 := Tryd.underlying41
  a37 := Tryd.isAgg41
  z37 := Tryd.sizeOf41
  v37 := Tryd.zeroValue41
  t46 := Tryd.underlying94
  a46 := Tryd.isAgg94
  z46 := Tryd.sizeOf94
  v46 := Tryd.zeroValue94
  t51 := Tryd.underlying91
  a51 := Tryd.isAgg91
  z51 := Tryd.sizeOf91
  v51 := Tryd.zeroValue91
  t53 := Tryd.underlying81
  a53 := Tryd.isAgg81
  z53 := Tryd.sizeOf81
  v53 := Tryd.zeroValue81
  t171 := Tryd.underlying80
  a171 := Tryd.isAgg80
  z171 := Tryd.sizeOf80
  v171 := Tryd.zeroValue80
  t173 := Tryd.underlying84
  a173 := Tryd.isAgg84
  z173 := Tryd.sizeOf84
  v173 := Tryd.zeroValue84
  t212 := Tryd.underlying90
  a212 := Tryd.isAgg90
  z212 := Tryd.sizeOf90
  v212 := Tryd.zeroValue90
  t213 := Tryd.underlying92
  a213 := Tryd.isAgg92
  z213 := Tryd.sizeOf92
  t232 := Tryd.underlying100
  a232 := Tryd.isAgg100
  z232 := Tryd.sizeOf100
  v232 := Tryd.zeroValue100
  t233 := Tryd.underlying101
  a233 := Tryd.isAgg101
  z233 := Tryd.sizeOf101
  v233 := Tryd.zeroValue101
  g17 := by kernel_rfl
  g18 := by kernel_rfl
  g19 := by kernel_rfl
  i0 := by kernel_rfl
  i2 := by kernel_rfl
  i3 := by kernel_rfl
  i4 := by kernel_rfl
  i5 := by kernel_rfl
  i9 := by kernel_rfl
  i20 := by kernel_rfl
  i37 := by kernel_rfl
  i46 := by kernel_rfl
  i51 := by kernel_rfl
  i53 := by kernel_rfl
  i171 := by kernel_rfl
  i173 := by kernel_rfl
  i212 := by kernel_rfl
  i232 := by kernel_rfl
  i233 := by kernel_rfl
  m17 := by kernel_rfl
  m18 := by kernel_rfl
  m19 := by kernel_rfl }
open Go.Sort in
theorem Tryd.strconv_Itoa (n : Int) (h0 : -9223372036854775808 ≤ n) (h1 : n ≤ 9223372036854775807) (w : World) (htab : Lib.TabIs Tryd.prog w "internal/strconv.uint64pow10" .u64 Lib.pow10Tab) :
    Calls Tryd.prog 25 #[.int .i64 n] w fun e w' => e = .returned (.string ⟨(Lib.itoa n).toArray⟩) ∧ ∃ k os, w' = grow (w.drewN k) os := Any.strconv_Itoa Tryd.laysM171 n h0 h1 w htab

theorem below_grow {w : World} (k : Nat) (os : Array Obj) : Below w.heap.size w (Sort.grow (w.drewN k) os) := by
  refine ⟨rfl, rfl, rfl, ?_, fun i hi => ?_⟩
  · show w.heap.size ≤ (w.heap ++ os).size
    simp
  · show (w.heap ++ os)[i]? = w.heap[i]?
    rw [Array.getElem?_append_left hi]
set_option maxHeartbeats 1000000 in
theorem number_ok (n : Nat) (hn : n ≤ 1099511627776) (w : World) (htab : Lib.TabIs Tryd.prog w "internal/strconv.uint64pow10" .u64 Lib.pow10Tab) :
    Calls Tryd.prog 13 #[.int .i64 (n : Int)] w fun e w' => e = .returned (.tuple #[.string (T n), .int .i64 0]) ∧ Below w.heap.size w w' := by
  have C : Hid (Calls Tryd.prog 25 #[.int .i64 (n : Int)] w fun e w' => e = .returned (.string (T n)) ∧ Below w.heap.size w w') := by
    have := Tryd.strconv_Itoa (n : Int) (by omega) (by omega) w htab
    rw [itoa_T] at this
    exact this.mono fun e w' ⟨h1, k, os, h2⟩ => ⟨h1, h2 ▸ below_grow k os⟩
  clear htab
  generalize T n = t at *
  have h1 : ¬ (n : Int) < 0 := by omega
  have h2 : ¬ (1099511627776 : Int) < (n : Int) := by omega
  go_enter Tryd.func13, Tryd.ntmps13
  go_wp2_with fail
  refine C.out.mono ?_
  rintro e W1 ⟨rfl, hb⟩
  have B : Hid (Below w.heap.size w W1) := hb
  clear hb
  go_wp2_with fail
  go_ret2
  exact ⟨rfl, B.out⟩
set_option maxHeartbeats 1000000 in
theorem number_no (z : Int) (hz : z < 0 ∨ 1099511627776 < z) (w : World) :
    Calls Tryd.prog 13 #[.int .i64 z] w fun e w' => e = .returned (.tuple #[.string ⟨#[]⟩, .int .i64 4]) ∧ Below w.heap.size w w' := by
  go_enter Tryd.func13, Tryd.ntmps13
  by_cases h1 : z < 0
  · go_wp2_with fail
    go_ret2
    exact ⟨rfl, Below.refl _ _⟩
  · have h2 : (1099511627776 : Int) < z := by omega
    go_wp2_with fail
    go_ret2
    exact ⟨rfl, Below.refl _ _⟩
set_option maxHeartbeats 1000000 in
theorem wireNumbers_walk (z : Int) (s : ByteArray) (hs : s.size ≤ 1100000) (w : World) (htab : Lib.TabIs Tryd.prog w "internal/strconv.uint64pow10" .u64 Lib.pow10Tab) :
    Calls Tryd.prog 5 #[.int .i64 z, .string s] w fun e w' => e = .returned (.bool true) ∧ Below w.heap.size w w' := by
  have CR : Hid (∀ W, Calls Tryd.prog 14 #[.string s] W fun e w' => e = .returned (.tuple #[.int .i64 ((upV s.data.toList 1099511627776).1 : Int), .int .i64 ((upV s.data.toList 1099511627776).2 : Int)]) ∧ Below W.heap.size W w') := fun W => readNumber_any s (by omega) W
  have CF : Hid (∀ W, Calls Tryd.prog 16 #[.string s] W fun e w' => e = .returned (.tuple #[.int .i64 ((upV s.data.toList 1099511627776).1 : Int), .int .i64 ((upV s.data.toList 1099511627776).2 : Int)]) ∧ Below W.heap.size W w') := fun W => refReadNumber_any s hs W
  generalize ((upV s.data.toList 1099511627776).1 : Int) = x at *
  generalize ((upV s.data.toList 1099511627776).2 : Int) = y at *
  by_cases hz : z < 0 ∨ 1099511627776 < z
  · have CN := number_no z hz w
    have hz' : z < 0 ∨ (1099511627776 : Int) < z := hz
    clear htab
    go_enter Tryd.func5, Tryd.ntmps5
    go_wp2_with fail
    refine CN.mono ?_
    rintro e W1 ⟨rfl, hb⟩
    have B : Hid (Below w.heap.size w W1) := hb
    clear hb CN
    rcases hz' with h1 | h1
    · go_wp2_with fail
      refine (CF.out W1).mono ?_
      rintro e W3 ⟨rfl, hb⟩
      replace B : Hid (Below w.heap.size w W3) := B.out.trans (hb.mono B.out.size)
      clear hb
      go_wp2_with fail
      refine (CR.out W3).mono ?_
      rintro e W4 ⟨rfl, hb⟩
      replace B : Hid (Below w.heap.size w W4) := B.out.trans (hb.mono B.out.size)
      clear hb
      go_wp2_with fail
      go_ret
      exact ⟨by simp, B.out⟩
    · have h0 : ¬ z < 0 := by omega
      go_wp2_with fail
      refine (CF.out W1).mono ?_
      rintro e W3 ⟨rfl, hb⟩
      replace B : Hid (Below w.heap.size w W3) := B.out.trans (hb.mono B.out.size)
      clear hb
      go_wp2_with fail
      refine (CR.out W3).mono ?_
      rintro e W4 ⟨rfl, hb⟩
      replace B : Hid (Below w.heap.size w W4) := B.out.trans (hb.mono B.out.size)
      clear hb
      go_wp2_with fail
      go_ret
      exact ⟨by simp, B.out⟩
  · obtain ⟨n, rfl⟩ : ∃ n : Nat, z = (n : Int) := ⟨z.toNat, by omega⟩
    have hn : n ≤ 1099511627776 := by omega
    have CN := number_ok n hn w htab
    have CT : Hid (∀ W, Calls Tryd.prog 14 #[.string (T n)] W fun e w' => e = .returned (.tuple #[.int .i64 (n : Int), .int .i64 0]) ∧ Below W.heap.size W w') := fun W => by
      have := readNumber_any (T n) (by
        have h := dg_len_le ten 13 n (by omega)
        rw [T_size, txt]
        split
        · simp
        · simp only [chars, List.length_map, List.length_reverse]; omega) W
      rw [T_list, upV_ok (isNum_txt n) (by rw [bv_txt]; exact hn), bv_txt] at this
      exact this
    have CD : Hid (∀ W, Calls Tryd.prog 15 #[.int .i64 (n : Int)] W fun e w' => e = .returned (.string (T n)) ∧ Below W.heap.size W w') := fun W => digits_any n (by omega) W
    generalize T n = t at *
    clear htab
    have h0 : ¬ (n : Int) < 0 := by omega
    have h1 : ¬ (1099511627776 : Int) < (n : Int) := by omega
    clear hz
    go_enter Tryd.func5, Tryd.ntmps5
    go_wp2_with fail
    refine CN.mono ?_
    rintro e W1 ⟨rfl, hb⟩
    have B : Hid (Below w.heap.size w W1) := hb
    clear hb CN
    go_wp2_with fail
    refine (CT.out W1).mono ?_
    rintro e W2 ⟨rfl, hb⟩
    replace B : Hid (Below w.heap.size w W2) := B.out.trans (hb.mono B.out.size)
    clear hb
    go_wp2_with fail
    refine (CD.out W2).mono ?_
    rintro e W2b ⟨rfl, hb⟩
    replace B : Hid (Below w.heap.size w W2b) := B.out.trans (hb.mono B.out.size)
    clear hb
    go_wp2_with fail
    refine (CF.out W2b).mono ?_
    rintro e W3 ⟨rfl, hb⟩
    replace B : Hid (Below w.heap.size w W3) := B.out.trans (hb.mono B.out.size)
    clear hb
    go_wp2_with fail
    refine (CR.out W3).mono ?_
    rintro e W4 ⟨rfl, hb⟩
    replace B : Hid (Below w.heap.size w W4) := B.out.trans (hb.mono B.out.size)
    clear hb
    go_wp2_with fail
    go_ret
    exact ⟨by simp, B.out⟩
end Go.Proofs.YtlogilmeefcipaaDoor
