/- place, wrongPair, and sigma's faces of the scalars' arithmetic. -/
import Derived.Test.YtfbceknafmkipaaGreatSl4
set_option linter.unusedSimpArgs false
set_option linter.unusedVariables false
set_option maxRecDepth 100000
namespace Go.Proofs.YtfbceknafmkipaaGreat
open Go.RowKit Go.Deep Go.PlainAid

/-- The first place at which two lists differ. -/
structure FD (l m : List ByteArray) (k : Nat) : Prop where
  lt1 : k < l.length
  lt2 : k < m.length
  same : l.take k = m.take k
  ne : l[k] ≠ m[k]
theorem FD.at {l m : List ByteArray} {k : Nat} (h : FD l m k) {i : Nat} (hi : i < k) (h1 : i < l.length) (h2 : i < m.length) : l[i] = m[i] := by
  have e : (l.take k)[i]? = (m.take k)[i]? := by rw [h.same]
  rw [List.getElem?_take_of_lt hi, List.getElem?_take_of_lt hi, List.getElem?_eq_getElem h1, List.getElem?_eq_getElem h2] at e
  exact Option.some.inj e
theorem FD.exists : ∀ (l m : List ByteArray), l.length = m.length → l ≠ m → ∃ k, FD l m k
  | [], [], _, h => absurd rfl h
  | x :: l, y :: m, h, hn => by
    by_cases e : x = y
    · subst e
      obtain ⟨k, hk⟩ := FD.exists l m (by simpa using h) (fun q => hn (by rw [q]))
      exact ⟨k + 1, by simpa using hk.lt1, by simpa using hk.lt2, by simp [hk.same], by simpa using hk.ne⟩
    · exact ⟨0, by simp, by simp, by simp, by simpa using e⟩
  | [], y :: m, h, _ => by simp at h
  | x :: l, [], h, _ => by simp at h
set_option maxHeartbeats 1000000 in
theorem place32 {w : World} {a b : Option Addr} {l m : List ByteArray} {c d k : Nat} (hl : l.length ≤ 8796093022207) (hml : m.length ≤ 8796093022207) (hs : SL w a l) (hm : SL w b m) (hk : FD l m k) :
    Calls Tryz.prog 58 #[.slice a l.length c, .slice b m.length d] w fun e w' => e = .returned (.int .i64 (k : Int)) ∧ Below w.heap.size w w' := by
  have HS : Hid (SL w a l) := hs
  have HM : Hid (SL w b m) := hm
  have HK : Hid (FD l m k) := hk
  have hk1 := hk.lt1
  have hk2 := hk.lt2
  clear hs hm hk
  go_enter Tryz.func58, Tryz.ntmps58
  go_wp2_with fail
  go_loopg [5] k (fun gk v5 wr => ∃ i : Nat, i + gk = k ∧ v5 = .int .i64 (i : Int) ∧ Below w.heap.size w wr)
  case atStart => exact ⟨0, by omega, rfl, Below.refl _ _⟩
  case round =>
    obtain ⟨i, hig, rfl, hB⟩ := hrel
    have B : Hid (Below w.heap.size w wr) := hB
    clear hB
    have hi : i < l.length := by omega
    have hi2 : i < m.length := by omega
    have il : (i : Int) < (l.length : Int) := by omega
    have il2 : (i : Int) < (m.length : Int) := by omega
    obtain ⟨b1, o1, rfl, hc1⟩ := HS.out.of_below B.out i hi
    obtain ⟨b2, o2, rfl, hc2⟩ := HM.out.of_below B.out i hi2
    by_cases hik : i < k
    · have h2 : (l[i].toList == m[i].toList) = true := by rw [HK.out.at hik hi hi2]; simp
      generalize l[i] = s at *
      generalize m[i] = t at *
      go_wp2_with fail
      go_quiet (fail)
      have BQ : Hid (Below w.heap.size w (World.drewN wr nq)) := B.out.trans ⟨rfl, rfl, rfl, Nat.le_refl _, fun _ _ => rfl⟩
      generalize World.drewN wr nq = wq at *
      go_wp2_with fail
      go_roundg (gk - 1)
      case measure => omega
      case rel => exact ⟨i + 1, by omega, by go_num, BQ.out⟩
    · obtain rfl : i = k := by omega
      have h2 : (l[i].toList == m[i].toList) = false := toList_ne HK.out.ne
      generalize l[i] = s at *
      generalize m[i] = t at *
      go_wp2_with fail
      go_quiet (fail)
      have BQ : Hid (Below w.heap.size w (World.drewN wr nq)) := B.out.trans ⟨rfl, rfl, rfl, Nat.le_refl _, fun _ _ => rfl⟩
      generalize World.drewN wr nq = wq at *
      go_wp2_with fail
      go_ret
      exact ⟨rfl, BQ.out⟩
theorem noScalar44 {w : World} {z : Int} {s : ByteArray} {t : Bool} (h : ∀ W, Calls Tryz.prog 47 #[.int .i64 z, .string s] W fun e w' => e = .returned (.bool t) ∧ Below W.heap.size W w') :
    Calls Tryz.prog 24 #[.agg #[.int .i64 z], .string s] w fun e w' => e = .returned (.bool (!t)) ∧ Below w.heap.size w w' := by
  have J : Hid (Below w.heap.size w (w.alloc (.cells #[.int .i64 z] 39))) := (Below.refl _ w).alloc (Nat.le_refl _) _
  go_enter Tryz.func24, Tryz.ntmps24
  go_wp2_with (go_at_call 47; refine (h _).mono ?_; rintro e w1 ⟨rfl, hB1⟩)
  go_ret
  exact ⟨rfl, J.out.trans (hB1.mono J.out.size)⟩
theorem minus68 {w : World} {z y : Int} {s t r : ByteArray} (h : ∀ W, Calls Tryz.prog 75 #[.int .i64 z, .string s, .string t] W fun e w' => e = .returned (.tuple #[.string r, .int .i64 y]) ∧ Below W.heap.size W w') :
    Calls Tryz.prog 48 #[.agg #[.int .i64 z], .string s, .string t] w fun e w' => e = .returned (.string r) ∧ Below w.heap.size w w' := by
  have J : Hid (Below w.heap.size w (w.alloc (.cells #[.int .i64 z] 39))) := (Below.refl _ w).alloc (Nat.le_refl _) _
  go_enter Tryz.func48, Tryz.ntmps48
  go_wp2_with (go_at_call 75; refine (h _).mono ?_; rintro e w1 ⟨rfl, hB1⟩)
  go_ret
  exact ⟨rfl, J.out.trans (hB1.mono J.out.size)⟩
theorem times72 {w : World} {z y : Int} {s t r : ByteArray} (h : ∀ W, Calls Tryz.prog 112 #[.int .i64 z, .string s, .string t] W fun e w' => e = .returned (.tuple #[.string r, .int .i64 y]) ∧ Below W.heap.size W w') :
    Calls Tryz.prog 85 #[.agg #[.int .i64 z], .string s, .string t] w fun e w' => e = .returned (.string r) ∧ Below w.heap.size w w' := by
  have J : Hid (Below w.heap.size w (w.alloc (.cells #[.int .i64 z] 39))) := (Below.refl _ w).alloc (Nat.le_refl _) _
  go_enter Tryz.func85, Tryz.ntmps85
  go_wp2_with (go_at_call 112; refine (h _).mono ?_; rintro e w1 ⟨rfl, hB1⟩)
  go_ret
  exact ⟨rfl, J.out.trans (hB1.mono J.out.size)⟩
theorem inverse67 {w : World} {z y : Int} {s r : ByteArray} (h : ∀ W, Calls Tryz.prog 111 #[.int .i64 z, .string s] W fun e w' => e = .returned (.tuple #[.string r, .int .i64 y]) ∧ Below W.heap.size W w') :
    Calls Tryz.prog 83 #[.agg #[.int .i64 z], .string s] w fun e w' => e = .returned (.string r) ∧ Below w.heap.size w w' := by
  have J : Hid (Below w.heap.size w (w.alloc (.cells #[.int .i64 z] 39))) := (Below.refl _ w).alloc (Nat.le_refl _) _
  go_enter Tryz.func83, Tryz.ntmps83
  go_wp2_with (go_at_call 111; refine (h _).mono ?_; rintro e w1 ⟨rfl, hB1⟩)
  go_ret
  exact ⟨rfl, J.out.trans (hB1.mono J.out.size)⟩
theorem clos71 {w : World} {z : Int} {g p : Nat} {s t r : ByteArray} (hg : w.cell? ⟨g, 0, none⟩ = some (.int .i64 z)) (hp : w.cell? ⟨p, 0, none⟩ = some (.string t)) (h : ∀ W, Calls Tryz.prog 85 #[.agg #[.int .i64 z], .string s, .string t] W fun e w' => e = .returned (.string r) ∧ Below W.heap.size W w') :
    Calls Tryz.prog 84 #[.string s, .pointer (some ⟨g, 0, none⟩), .pointer (some ⟨p, 0, none⟩)] w fun e w' => e = .returned (.string r) ∧ Below w.heap.size w w' := by
  go_enter Tryz.func84, Tryz.ntmps84
  go_wp2_with (go_at_call 85; refine (h _).mono ?_; rintro e w1 ⟨rfl, hB1⟩)
  go_ret
  exact ⟨rfl, hB1⟩
end Go.Proofs.YtfbceknafmkipaaGreat
