/- Smith, the document's. -/
import Derived.Test.YtcdmndcpjememaaQd
import Derived.WalkArith
set_option linter.unusedSimpArgs false
set_option linter.unusedVariables false
set_option maxRecDepth 100000
namespace Go.Proofs.Ytcdmndcpjememaa
open Go.RowKit Go.Deep Go.PlainAid

/-- The set that a number stands for. -/
def bf (s i : Nat) : Bool := decide (s / 2 ^ i % 2 = 1)
def cd : Nat → (Nat → Bool) → Nat
  | 0, _ => 0
  | n + 1, g => cd n g + (if g n = true then 2 ^ n else 0)
theorem cd_lt : ∀ (n : Nat) (g : Nat → Bool), cd n g < 2 ^ n
  | 0, g => by simp [cd]
  | n + 1, g => by
    have := cd_lt n g
    simp only [cd, Nat.pow_succ]
    split <;> omega
theorem bf_cd : ∀ (n : Nat) (g : Nat → Bool) (i : Nat), i < n → bf (cd n g) i = g i
  | 0, g, i, h => by omega
  | n + 1, g, i, h => by
    by_cases e : i = n
    · subst e
      have h1 := cd_lt i g
      unfold bf cd
      cases hg : g i with
      | true =>
        rw [if_pos rfl, Nat.add_div_right _ (Nat.two_pow_pos i), Nat.div_eq_of_lt h1]
        simp
      | false =>
        rw [if_neg (by simp), Nat.add_zero, Nat.div_eq_of_lt h1]
        simp
    · have ih := bf_cd n g i (by omega)
      rw [← ih]
      unfold bf
      rw [cd]
      cases hg : g n with
      | true =>
        rw [if_pos rfl]
        have e2 : 2 ^ n = 2 ^ i * (2 * 2 ^ (n - i - 1)) := by
          rw [← Nat.pow_succ', ← Nat.pow_add]; congr 1; omega
        rw [e2, Nat.add_mul_div_left _ _ (Nat.two_pow_pos i)]
        congr 1
        rw [Nat.add_mul_mod_self_left]
      | false => rw [if_neg (by simp), Nat.add_zero]
theorem lst_cd (n : Nat) (g : Nat → Bool) : lst n (bf (cd n g)) = lst n g := lst_congr (bf_cd n g)
theorem dom_cd {P : Mt} {n : Nat} {g : Nat → Bool} (h : Dom P n g) : Dom P n (bf (cd n g)) := fun a ha hf j hj hfj => by
  rw [bf_cd n g a ha] at hf
  rw [bf_cd n g j hj] at hfj
  exact h a ha hf j hj hfj
theorem cd_pos {n : Nat} {g : Nat → Bool} (h : 0 < (lst n g).length) : 1 ≤ cd n g := by
  by_cases e : cd n g = 0
  · obtain ⟨x, hx⟩ := List.exists_mem_of_length_pos h
    obtain ⟨h1, h2⟩ := lst_mem.1 hx
    have := bf_cd n g x h1
    rw [e, h2] at this
    simp [bf] at this
  · omega
theorem lst_le (n : Nat) (f : Nat → Bool) : (lst n f).length ≤ n := by
  have := List.length_filter_le f (List.range n)
  rw [List.length_range] at this
  exact this
theorem lst_full (n : Nat) : (lst n fun _ => true).length = n := by
  have e : lst n (fun _ => true) = List.range n := List.filter_eq_self.2 (fun _ _ => rfl)
  rw [e, List.length_range]
theorem dom_full (P : Mt) (n : Nat) : Dom P n fun _ => true := fun a ha hf j hj hfj => by cases hfj
/-- Nothing is found among sets with fewer than size, nor of those with size ahead of set. -/
structure NF (P : Mt) (n size set : Nat) : Prop where
  few : ∀ s, 1 ≤ s → s < 2 ^ n → 0 < (lst n (bf s)).length → (lst n (bf s)).length < size → ¬ Dom P n (bf s)
  now : ∀ s, 1 ≤ s → s < set → (lst n (bf s)).length = size → ¬ Dom P n (bf s)
theorem NF.start (P : Mt) (n : Nat) : NF P n 1 1 := ⟨fun s _ _ h1 h2 => by omega, fun s h1 h2 => by omega⟩
theorem NF.step {P : Mt} {n size set : Nat} (h : NF P n size set) (hs : (lst n (bf set)).length = size → ¬ Dom P n (bf set)) : NF P n size (set + 1) := ⟨h.few, fun s h1 h2 h3 => by
  by_cases e : s = set
  · subst e; exact hs h3
  · exact h.now s h1 (by omega) h3⟩
theorem NF.next {P : Mt} {n size : Nat} (h : NF P n size (2 ^ n)) : NF P n (size + 1) 1 := ⟨fun s h1 h2 h3 h4 => by
  by_cases e : (lst n (bf s)).length = size
  · exact h.now s h1 h2 e
  · exact h.few s h1 h2 h3 (by omega), fun s h1 h2 => by omega⟩
theorem NF.found {P : Mt} {n size set : Nat} (h : NF P n size set) (h1 : 1 ≤ size) (hl : (lst n (bf set)).length = size) (hd : Dom P n (bf set)) : Least P n (bf set) := ⟨hd, by omega, fun g hg hp => by
  by_cases e : (lst n (bf set)).length ≤ (lst n g).length
  · exact e
  · refine absurd (dom_cd hg) (h.few (cd n g) (cd_pos hp) (cd_lt n g) ?_ ?_)
    · rw [lst_cd]; exact hp
    · rw [lst_cd]; omega⟩
theorem NF.none {P : Mt} {n size : Nat} (h : NF P n size 1) (hn : 1 ≤ n) (hs : n < size) : False := by
  refine h.few (cd n fun _ => true) (cd_pos (by rw [lst_full]; omega)) (cd_lt _ _) ?_ ?_ (dom_cd (dom_full P n))
  · rw [lst_cd, lst_full]; omega
  · rw [lst_cd, lst_full]; exact hs
theorem pow_le12 {n : Nat} (h : n ≤ 12) : 2 ^ n ≤ 4096 := Nat.pow_le_pow_right (by omega) h
set_option maxHeartbeats 1000000 in
theorem refSmith10_bad {w : World} {a : Option Addr} {n c : Nat} {k : Int} (hk : k ≠ 0) (C : Calls Try.prog 18 #[.slice a n c] w fun e w' => e = .returned (.int .i64 k) ∧ Below w.heap.size w w') :
    Calls Try.prog 10 #[.slice a n c] w fun e w' => e = .returned (.tuple #[.slice none 0 0, .int .i64 k]) ∧ Below w.heap.size w w' := by
  have H : Hid (Calls Try.prog 18 #[.slice a n c] w fun e w' => e = .returned (.int .i64 k) ∧ Below w.heap.size w w') := C
  have k0 : (k != 0) = true := by simpa using hk
  clear C hk
  go_enter Try.func10, Try.ntmps10
  go_wp2_with (go_at_call 18; refine (H.out).mono ?_; rintro e V1 ⟨rfl, hB⟩; have B1 : Hid (Below w.heap.size w V1) := hB; clear hB H)
  exact bodyPost_ret (v := .tuple #[.slice none 0 0, .int .i64 k]) (by simp [results, Try.results10, go_sem]) rfl ⟨rfl, B1.out⟩
set_option maxHeartbeats 8000000 in
theorem refSmith10_ok {w : World} {a : Option Addr} {n c : Nat} {P : Mt} (n1 : 1 ≤ n) (hn : n ≤ 12) (hs : SQ w a n P) (C : Calls Try.prog 18 #[.slice a n c] w fun e w' => e = .returned (.int .i64 0) ∧ Below w.heap.size w w') :
    Calls Try.prog 10 #[.slice a n c] w fun e w' => (∃ v f, e = .returned (.tuple #[v, .int .i64 0]) ∧ Least P n f ∧ LS w' v (zi (lst n f))) ∧ Below w.heap.size w w' := by
  have HC : Hid (Calls Try.prog 18 #[.slice a n c] w fun e w' => e = .returned (.int .i64 0) ∧ Below w.heap.size w w') := C
  have HS : Hid (∀ V, Below w.heap.size w V → SQ V a n P) := fun V hV => hs.of_below hV
  obtain ⟨N, hN⟩ : ∃ N, N = 2 ^ n := ⟨_, rfl⟩
  have HN : Hid (N = 2 ^ n) := hN
  have N4 : N ≤ 4096 := by rw [hN]; exact pow_le12 hn
  have hsh : wrap64 ((2 : Int) ^ n) = (N : Int) := by
    have e : (2 : Int) ^ n = (N : Int) := by rw [hN]; push_cast; rfl
    rw [e]; unfold wrap64; omega
  have F0 : Hid (NF P n 1 1) := NF.start P n
  clear hs C hN
  go_enter Try.func10, Try.ntmps10
  go_wp2_with (first
    | (go_at_call 18; refine (HC.out).mono ?_; rintro e U ⟨rfl, hB⟩; have B0 : Hid (Below w.heap.size w U) := hB; clear hB HC)
    | fail)
  go_loopg [6, 7, 8, 9] n (fun gk v6 v7 v8 v9 wr => ∃ size : Nat, 1 ≤ size ∧ size + gk = n + 1 ∧ v6 = .int .i64 (size : Int) ∧ NF P n size 1 ∧ Below w.heap.size w wr)
  case atStart => exact ⟨1, by omega, by omega, rfl, F0.out, B0.out⟩
  case round =>
    obtain ⟨size, s1, hsg, rfl, hF, hB⟩ := hrel
    have F1 : Hid (NF P n size 1) := hF
    have B1 : Hid (Below w.heap.size w wr) := hB
    clear hF hB F0 B0
    obtain ⟨G1, rfl⟩ : ∃ G, G = gk := ⟨gk, rfl⟩
    by_cases hsz : size ≤ n
    · have sl : (size : Int) ≤ (n : Int) := by omega
      go_wp2_with fail
      go_loopg [7, 8, 9] N (fun gk v7 v8 v9 wr => ∃ s : Nat, 1 ≤ s ∧ s + gk = N + 1 ∧ s ≤ N ∧ v7 = .int .i64 (s : Int) ∧ NF P n size s ∧ Below w.heap.size w wr)
      case atStart => exact ⟨1, by omega, by omega, by rw [HN.out]; exact Nat.one_le_two_pow, rfl, F1.out, B1.out⟩
      case round =>
        clear F1 B1
        obtain ⟨s, hs1, hsg2, hsN, rfl, hF, hB⟩ := hrel
        have F2 : Hid (NF P n size s) := hF
        have B2 : Hid (Below w.heap.size w wr) := hB
        clear hF hB
        obtain ⟨G2, rfl⟩ : ∃ G, G = gk := ⟨gk, rfl⟩
        by_cases hs : s < N
        · have ss : (s : Int) < (N : Int) := by omega
          obtain ⟨W1, rfl⟩ : ∃ X, X = wr := ⟨wr, rfl⟩
          have O0 : Hid (OW W1 W1 (.slice none 0 0) (zi (lst 0 (bf s)))) := OW.nil W1
          go_wp2_with fail
          try simp only [hsh]
          go_loopg [8, 9] n (fun gk v8 v9 wr => ∃ (i : Nat) (v : Value), i + gk = n ∧ v9 = .int .i64 (i : Int) ∧ v = v8 ∧ OW W1 wr v (zi (lst i (bf s))))
          case atStart => exact ⟨0, _, by omega, rfl, rfl, O0.out⟩
          case round =>
            clear O0
            obtain ⟨i, v, hig, rfl, rfl, hO⟩ := hrel
            have O3 : Hid (OW W1 wr v (zi (lst i (bf s)))) := hO
            clear hO
            by_cases hi : i < n
            · have il : (i : Int) < (n : Int) := by omega
              have LE : Hid ((lst i (bf s)).length ≤ 12) := by have := lst_le i (bf s); show _ ≤ _; omega
              have BF : Hid (bf s i = decide (s / 2 ^ i % 2 = 1)) := rfl
              have e1 : (s : Int) / 2 ^ i = ((s / 2 ^ i : Nat) : Int) := by push_cast; rfl
              have dl : s / 2 ^ i ≤ s := Nat.div_le_self _ _
              obtain ⟨d, hd⟩ : ∃ d, d = s / 2 ^ i := ⟨_, rfl⟩
              rw [← hd] at e1 dl BF
              clear hd
              have e2 : (d : Int).tmod 2 = ((d % 2 : Nat) : Int) := by rw [Int.tmod_eq_emod_of_nonneg (by omega)]; push_cast; rfl
              obtain ⟨m, hm⟩ : ∃ m, m = d % 2 := ⟨_, rfl⟩
              rw [← hm] at e2 BF
              have ml : m < 2 := by rw [hm]; exact Nat.mod_lt _ (by omega)
              clear hm
              by_cases hb : m = 1
              · have e3 : ((m : Int) == 1) = true := by rw [hb]; rfl
                have EL : Hid (zi (lst (i + 1) (bf s)) = zi (lst i (bf s)) ++ [(i : Int)]) := by show _ = _; rw [lst_succ, if_pos (by rw [BF.out, hb]; rfl), zi_snoc]
                have O4 : Hid (OW W1 (wr.alloc (.cells #[.int .i64 (i : Int)] 3)) v (zi (lst i (bf s)))) := O3.out.alloc _
                have HC2 : Hid (IL (wr.alloc (.cells #[.int .i64 (i : Int)] 3)) (some ⟨wr.heap.size, 0, none⟩) [(i : Int)]) := IL.one _ _
                obtain ⟨v9, w9, hr, ho, _⟩ := O4.out.app (a := some ⟨wr.heap.size, 0, none⟩) (c := 1) (k := 1) (m := [(i : Int)]) rfl (fun e => by cases e) HC2.out (by rw [zi_len]; have := LE.out; omega) 31
                have HR : Hid ((Builtin.append_ #[31, 31] 31 #[v, .slice (some ⟨wr.heap.size, 0, none⟩) 1 1]).run Try.prog (wr.alloc (.cells #[.int .i64 (i : Int)] 3)) = .ok v9 w9) := hr
                have O5 : Hid (OW W1 w9 v9 (zi (lst (i + 1) (bf s)))) := by show OW _ _ _ _; rw [EL.out]; exact ho
                clear hb EL hr ho O4 HC2 BF
                go_wp2_with (at_builtin; refine wpList_append_at rfl (.tmp 38) (.tmp 40) 31 rfl _ _ _ rfl rfl HR.out ?_)
                go_roundg (gk - 1)
                case measure => omega
                case rel => exact ⟨i + 1, v9, by omega, by go_num, rfl, O5.out⟩
              · have e3 : ((m : Int) == 1) = false := by simp; omega
                have EL : Hid (zi (lst (i + 1) (bf s)) = zi (lst i (bf s))) := by show _ = _; rw [lst_succ, if_neg (by rw [BF.out]; simp [hb])]
                clear hb BF
                go_wp2_with fail
                go_roundg (gk - 1)
                case measure => omega
                case rel => exact ⟨i + 1, v, by omega, by go_num, rfl, by rw [EL.out]; exact O3.out⟩
            · have il : ¬ (i : Int) < (n : Int) := by omega
              have e : i = n := by omega
              have O4 : Hid (OW W1 wr v (zi (lst n (bf s)))) := by have z := O3.out; rw [e] at z; exact z
              have BL : Hid (Below w.heap.size w wr) := B2.out.trans (O4.out.bl.mono B2.out.size)
              clear e O3
              obtain ⟨m, hm⟩ : ∃ m, m = (lst n (bf s)).length := ⟨_, rfl⟩
              have HM : Hid (m = (lst n (bf s)).length) := hm
              have LV : Hid (∃ a c, v = .slice a m c) := by
                obtain ⟨a, c, e, _⟩ := O4.out.ls.ex
                rw [zi_len, ← hm] at e
                exact ⟨a, c, e⟩
              clear hm
              by_cases hms : m = size
              · have em : ((m : Int) == (size : Int)) = true := by simp [hms]
                have HMS : Hid (m = size) := hms
                obtain ⟨g, cap, hv, _, hIL⟩ := O4.out.ls.some_ (by rw [zi_len, ← HM.out]; omega)
                rw [zi_len, ← HM.out] at hv
                subst hv
                have DC : ∃ z : Bool, (z = true ↔ ∀ x ∈ lst n (bf s), gd P n (lst n (bf s)) x) := by
                  by_cases q : ∀ x ∈ lst n (bf s), gd P n (lst n (bf s)) x
                  · exact ⟨true, ⟨fun _ => q, fun _ => rfl⟩⟩
                  · exact ⟨false, by simp only [Bool.false_eq_true, false_iff]; exact q⟩
                obtain ⟨z, hz⟩ := DC
                have HZ : Hid (z = true ↔ Dom P n (bf s)) := hz.trans gd_dom
                have BA : Hid (Calls Try.prog 21 #[.slice a n c, .slice (some ⟨g, 0, none⟩) m cap] wr fun e w' => e = .returned (.bool z) ∧ Below wr.heap.size wr w') := beatsAll21 hn (HS.out _ BL.out) HM.out.symm (by omega) hIL (fun x hx => (lst_mem.1 hx).1) z hz
                clear hz hIL hms LV
                cases z with
                | true =>
                  have LZ : Hid (Least P n (bf s)) := F2.out.found s1 (by rw [← HM.out]; exact HMS.out) (HZ.out.1 rfl)
                  go_wp2_with (first
                    | (go_at_call 21; refine BA.out.mono ?_; rintro e w7 ⟨rfl, hb⟩; have B7 : Hid (Below w.heap.size w w7) := BL.out.trans (hb.mono BL.out.size); have L7 : Hid (LS w7 (.slice (some ⟨g, 0, none⟩) m cap) (zi (lst n (bf s)))) := O4.out.ls.of_below hb; clear hb BA)
                    | fail)
                  exact bodyPost_ret (v := .tuple #[.slice (some ⟨g, 0, none⟩) m cap, .int .i64 0]) (by simp [results, Try.results10, go_sem]) rfl ⟨⟨_, bf s, rfl, LZ.out, L7.out⟩, B7.out⟩
                | false =>
                  have F3 : Hid (NF P n size (s + 1)) := F2.out.step (fun _ h => by have := HZ.out.2 h; cases this)
                  go_wp2_with (first
                    | (go_at_call 21; refine BA.out.mono ?_; rintro e w7 ⟨rfl, hb⟩; have B7 : Hid (Below w.heap.size w w7) := BL.out.trans (hb.mono BL.out.size); clear hb BA)
                    | fail)
                  go_roundg (G2 - 1)
                  case measure => omega
                  case rel => exact ⟨s + 1, by omega, by omega, by omega, by go_num, F3.out, B7.out⟩
              · have em : ((m : Int) == (size : Int)) = false := by simp; omega
                have F3 : Hid (NF P n size (s + 1)) := F2.out.step (fun h => absurd (HM.out.trans h) hms)
                obtain ⟨av, cv, hv⟩ := LV.out
                subst hv
                clear hms LV
                go_wp2_with fail
                go_roundg (G2 - 1)
                case measure => omega
                case rel => exact ⟨s + 1, by omega, by omega, by omega, by go_num, F3.out, BL.out⟩
        · have ss : ¬ (s : Int) < (N : Int) := by omega
          have F3 : Hid (NF P n (size + 1) 1) := by
            have z := F2.out
            rw [show s = 2 ^ n by rw [← HN.out]; omega] at z
            exact z.next
          go_wp2_with fail
          go_roundg (G1 - 1)
          case measure => omega
          case rel => exact ⟨size + 1, by omega, by omega, by go_num, F3.out, B2.out⟩
    · exfalso
      exact F1.out.none n1 (by omega)
end Go.Proofs.Ytcdmndcpjememaa
