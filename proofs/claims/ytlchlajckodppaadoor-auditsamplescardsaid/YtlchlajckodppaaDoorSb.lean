/- Sample on the program's side, whole. -/
import Derived.Test.YtlchlajckodppaaDoorSa
set_option linter.unusedSimpArgs false
set_option linter.unusedVariables false
set_option maxRecDepth 100000
namespace Go.Proofs.YtlchlajckodppaaDoor
open Go.RowKit Go.Deep Go.PlainAid

theorem ownsRow_below {w w' : World} {base n : Nat} {v : Value} {xs : List Value} {e : TypeId} {size : Nat} (h : w.ownsRow base e size v n xs) (hb : Below w.heap.size w w') : w'.ownsRow base e size v n xs := by
  refine ⟨h.1, ?_⟩
  rcases h.2 with hn | ⟨g, cap, cur, hv, hbg, hc, rest⟩
  · exact .inl hn
  · exact .inr ⟨g, cap, cur, hv, hbg, by rw [hb.block g (Array.getElem?_eq_some_iff.1 hc).1]; exact hc, rest⟩

theorem two_at (w : World) (s1 s2 : ByteArray) : F.SAt (w.alloc (.cells #[.string s1, .string s2] 9)) (some ⟨w.heap.size, 0, none⟩) [s1, s2] := fun i hi => by
  match i, hi with
  | 0, _ => exact ⟨_, _, rfl, by simp⟩
  | 1, _ => exact ⟨_, _, rfl, by simp⟩
theorem parts2 (seed : ByteArray) (k : Nat) (hs : seed.size ≤ 140737488355328) : (F.partsL (lab :: [seed, fourT k])).length < 4611686018427387904 := by
  have h3 : seed.data.toList.length ≤ 140737488355328 := hs
  have h4 : (fourT k).data.toList.length = 4 := rfl
  have h5 : (lab.data.toList).length = 6 := rfl
  rw [F.partsL_cons, F.partsL_cons, F.partsL_cons, F.partsL_nil]
  simp only [List.length_append, F.fourL_length, List.length_nil, List.length_cons]
  omega
theorem sz2 (seed : ByteArray) (k : Nat) (hs : seed.size ≤ 140737488355328) : ∀ i (h : i < [seed, fourT k].length), [seed, fourT k][i].size < 4611686018427387904 := fun i hi => by
  match i, hi with
  | 0, _ => show seed.size < _; omega
  | 1, _ => show (fourT k).size < _; rw [fourT_size]; omega
theorem tagC {w : World} (hT : F.Tabs w) (hS : F.Starts w) (seed : ByteArray) (hs : seed.size ≤ 140737488355328) (k b : Nat) (W : World) (hW : Below w.heap.size w W) (h : F.SAt W (some ⟨b, 0, none⟩) [seed, fourT k]) :
    Calls Tryd.prog 9 #[.string lab, .slice (some ⟨b, 0, none⟩) 2 2] W fun e w' => e = .returned (.string (smp seed k)) ∧ Below W.heap.size W w' :=
  F.tagFace_any lab (some ⟨b, 0, none⟩) 2 [seed, fourT k] W h (show 2 < _ by decide) (by decide) (sz2 seed k hs) (Nat.lt_trans (parts2 seed k hs) (by decide)) (hT.of_below hW hT.size) (hS.of_below hW hT.size)
theorem tagD (seed : ByteArray) (hs : seed.size ≤ 140737488355328) (k b : Nat) (W : World) (h : F.SAt W (some ⟨b, 0, none⟩) [seed, fourT k]) :
    Calls Tryd.prog 11 #[.string lab, .slice (some ⟨b, 0, none⟩) 2 2] W fun e w' => e = .returned (.string (smp seed k)) ∧ Below W.heap.size W w' :=
  F.refTag_any lab (some ⟨b, 0, none⟩) 2 [seed, fourT k] W h (show 2 < _ by decide) (by decide) (sz2 seed k hs) (parts2 seed k hs)

set_option maxHeartbeats 400000 in
theorem sample4_bad (seed : ByteArray) (t n : Int) (h : ¬ ((1 ≤ t ∧ t ≤ 1048576) ∧ (0 ≤ n ∧ n ≤ 1024))) (w : World) :
    Calls Tryd.prog 4 #[.string seed, .int .i64 t, .int .i64 n] w fun e w' => e = .returned (.tuple #[.slice none 0 0, .int .i64 4]) ∧ w' = w := by
  have A : Hid (∀ W, Calls Tryd.prog 7 #[.int .i64 t, .int .i64 1, .int .i64 1048576] W fun e w' => e = .returned (.bool (decide (1 ≤ t ∧ t ≤ 1048576))) ∧ w' = W) := fun W => within7 t 1 1048576 W
  have B : Hid (∀ W, Calls Tryd.prog 7 #[.int .i64 n, .int .i64 0, .int .i64 1024] W fun e w' => e = .returned (.bool (decide (0 ≤ n ∧ n ≤ 1024))) ∧ w' = W) := fun W => within7 n 0 1024 W
  by_cases h1 : 1 ≤ t ∧ t ≤ 1048576
  · have h2 : ¬ (0 ≤ n ∧ n ≤ 1024) := fun h2 => h ⟨h1, h2⟩
    rw [decide_eq_true h1] at A
    rw [decide_eq_false h2] at B
    clear h h1 h2
    go_enter Tryd.func4, Tryd.ntmps4
    go_wp2_with (first | (go_at_call_of 7 t; refine (A.out _).mono ?_; rintro e w1 ⟨rfl, h1⟩; obtain rfl := h1.symm) | (go_at_call_of 7 n; refine (B.out _).mono ?_; rintro e w1 ⟨rfl, h1⟩; obtain rfl := h1.symm))
    go_ret2
    exact ⟨rfl, rfl⟩
  · rw [decide_eq_false h1] at A
    clear h h1 B
    go_enter Tryd.func4, Tryd.ntmps4
    go_wp2_with (go_at_call_of 7 t; refine (A.out _).mono ?_; rintro e w1 ⟨rfl, h1⟩; obtain rfl := h1.symm)
    go_ret2
    exact ⟨rfl, rfl⟩

/-- A list of numbers in memory. -/
def LN (w : World) (l : List Nat) (v : Value) : Prop := ∃ a cap, v = .slice a l.length cap ∧ Row w a l

set_option maxHeartbeats 2000000 in
theorem sample4_ok (seed : ByteArray) (hs : seed.size ≤ 140737488355328) (t n : Nat) (t1 : 1 ≤ t) (t2 : t ≤ 1048576) (n2 : n ≤ 1024) (w : World) (hT : F.Tabs w) (hS : F.Starts w) :
    Calls Tryd.prog 4 #[.string seed, .int .i64 (t : Int), .int .i64 (n : Int)] w fun e w' => (∃ v, e = .returned (.tuple #[v, .int .i64 0]) ∧ LN w' (sL seed t n) v) ∧ Below w.heap.size w w' := by
  obtain ⟨i0, hi0, hz0, hz1, hz2⟩ := info_parts Tryd.info3
  have A : Hid (∀ W, Calls Tryd.prog 7 #[.int .i64 (t : Int), .int .i64 1, .int .i64 1048576] W fun e w' => e = .returned (.bool true) ∧ w' = W) := fun W => by have := within7 t 1 1048576 W; rwa [decide_eq_true (by omega)] at this
  have B : Hid (∀ W, Calls Tryd.prog 7 #[.int .i64 (n : Int), .int .i64 0, .int .i64 1024] W fun e w' => e = .returned (.bool true) ∧ w' = W) := fun W => by have := within7 n 0 1024 W; rwa [decide_eq_true (by omega)] at this
  have TG : Hid (∀ k b W, Below w.heap.size w W → F.SAt W (some ⟨b, 0, none⟩) [seed, fourT k] → Calls Tryd.prog 9 #[.string lab, .slice (some ⟨b, 0, none⟩) 2 2] W fun e w' => e = .returned (.string (smp seed k)) ∧ Below W.heap.size W w') := fun k b W hW h => tagC hT hS seed hs k b W hW h
  have FO : Hid (∀ k W, k ≤ 1024 → Calls Tryd.prog 10 #[.int .i64 ((k : Nat) : Int)] W fun e w' => e = .returned (.string (fourT k)) ∧ Below W.heap.size W w') := fun k W hk => F.four10 k (by omega) W
  have MO : Hid (∀ k W, Calls Tryd.prog 8 #[.string (smp seed k), .int .i64 (t : Int)] W fun e w' => e = .returned (.int .i64 ((sv seed t k : Nat) : Int)) ∧ w' = W) := fun k W => modulo8 _ t t1 t2 (by rw [smp_size]; omega) _ rfl W
  clear hT hS hs
  go_enter Tryd.func4, Tryd.ntmps4
  go_wp2_with (first | (go_at_call_of 7 t; refine (A.out _).mono ?_; rintro e w1 ⟨rfl, h1⟩; obtain rfl := h1.symm) | (go_at_call_of 7 n; refine (B.out _).mono ?_; rintro e w1 ⟨rfl, h1⟩; obtain rfl := h1.symm))
  go_loopg [8, 19] n (fun gk v8 v19 wr => ∃ (k : Nat) (v : Value), k + gk = n ∧ v19 = .int .i64 (k : Int) ∧ v = v8 ∧ wr.ownsRow w.heap.size 3 1 v k (zs (sL seed t k)) ∧ Below w.heap.size w wr)
  case atStart => exact ⟨0, _, by omega, rfl, rfl, World.ownsRow_nil _ _ _ _, Below.refl _ _⟩
  case round =>
    obtain ⟨k, v, hk, rfl, rfl, ho, hB⟩ := hrel
    have HO : Hid (wr.ownsRow w.heap.size 3 1 v k (zs (sL seed t k))) := ho
    have HB : Hid (Below w.heap.size w wr) := hB
    clear ho hB A B
    by_cases hp : k < n
    · have hp' : (k : Int) < (n : Int) := by omega
      have F1 := FO.out k wr (by omega)
      have FO1 : Hid (Calls Tryd.prog 10 #[.int .i64 (k : Int)] wr fun e w' => e = .returned (.string (fourT k)) ∧ Below wr.heap.size wr w') := F1
      clear F1 FO
      have TG1 : Hid (∀ b W, Below w.heap.size w W → F.SAt W (some ⟨b, 0, none⟩) [seed, fourT k] → Calls Tryd.prog 9 #[.string lab, .slice (some ⟨b, 0, none⟩) 2 2] W fun e w' => e = .returned (.string (smp seed k)) ∧ Below W.heap.size W w') := TG.out k
      have MO1 : Hid (∀ W, Calls Tryd.prog 8 #[.string (smp seed k), .int .i64 (t : Int)] W fun e w' => e = .returned (.int .i64 ((sv seed t k : Nat) : Int)) ∧ w' = W) := MO.out k
      have HE : Hid (zs (sL seed t (k + 1)) = zs (sL seed t k) ++ [I (sv seed t k)]) := by show _ = _; rw [sL_succ, zs_append]; rfl
      clear TG MO
      have T2 : ∀ W : World, F.SAt (W.alloc (.cells #[.string seed, .string (fourT k)] 9)) (some ⟨W.heap.size, 0, none⟩) [seed, fourT k] := fun W => two_at W seed (fourT k)
      have TT : Hid (∀ W : World, F.SAt (W.alloc (.cells #[.string seed, .string (fourT k)] 9)) (some ⟨W.heap.size, 0, none⟩) [seed, fourT k]) := T2
      clear T2
      generalize sv seed t k = y at *
      generalize smp seed k = SM at *
      generalize fourT k = F4 at *
      go_wp2_with (first | (go_at_call 10; refine FO1.out.mono ?_; rintro e w1 ⟨rfl, b1⟩; have B1 : Hid (Below w.heap.size w w1) := HB.out.trans (b1.mono HB.out.size); have O1 : Hid ((w1.alloc (.cells #[.string seed, .string F4] 9)).ownsRow w.heap.size 3 1 v k (zs (sL seed t k))) := (ownsRow_below HO.out b1).alloc _; have B2 : Hid (Below w.heap.size w (w1.alloc (.cells #[.string seed, .string F4] 9))) := B1.out.alloc B1.out.size _; clear b1) | (go_at_call 9; refine (TG1.out _ _ B2.out (TT.out _)).mono ?_; rintro e w2 ⟨rfl, b2⟩; have B3 : Hid (Below w.heap.size w w2) := B2.out.trans (b2.mono B2.out.size); have O3 : Hid (w2.ownsRow w.heap.size 3 1 v k (zs (sL seed t k))) := ownsRow_below O1.out b2; have O4 : Hid ((w2.alloc (.cells #[.int .i64 (y : Int)] 3)).ownsRow w.heap.size 3 1 v k (zs (sL seed t k))) := O3.out.alloc _; have B4 : Hid (Below w.heap.size w (w2.alloc (.cells #[.int .i64 (y : Int)] 3))) := B3.out.alloc B3.out.size _; have HC2 : Hid (∀ jj u, [I y][jj]? = some u → (w2.alloc (.cells #[.int .i64 (y : Int)] 3)).cell? ((⟨w2.heap.size, 0, none⟩ : Addr).add jj) = some u) := (fun jj u hu => by (match jj, hu with | 0, hu => (simp at hu; subst hu; simp [Addr.add]))); clear b2) | (go_at_call 8; refine (MO1.out _).mono ?_; rintro e w3 ⟨rfl, h3⟩; obtain rfl := h3.symm) | (at_builtin; refine wpList_append_own _ rfl (.tmp 22) (.tmp 30) 22 rfl w.heap.size 3 i0 (.int .i64 0) 1 8 Tryd.underlying22 hi0 hz0 hz1 hz2 rfl (by decide) v k (zs (sL seed t k)) rfl O4.out ⟨w2.heap.size, 0, none⟩ 1 1 [I y] rfl rfl HC2.out (fun u hu => by simp at hu; subst hu; rfl) (by unfold maxLen; omega) (by omega) B4.out.size ?_; intro v1 w4 hown1 hgrow1 hn1; have O5 : Hid (w4.ownsRow w.heap.size 3 1 v1 (k + 1) (zs (sL seed t k) ++ [I y])) := hown1; have B5 : Hid (Below w.heap.size w w4) := B4.out.grown hgrow1 B4.out.size (fun k hk => (O4.out.lt k hk).1); clear hown1 hgrow1 hn1))
      go_roundg (gk - 1)
      case measure => omega
      case rel => exact ⟨k + 1, _, by omega, by go_num, rfl, by rw [HE.out]; exact O5.out, B5.out⟩
    · have hp' : ¬ (k : Int) < (n : Int) := by omega
      obtain rfl : k = n := by omega
      have HR : Hid (LN wr (sL seed t k) v) := by
        obtain ⟨a, cap, e1, g1, g2, g3⟩ := Row.of_owned HO.out
        exact ⟨a, cap, e1, g3⟩
      clear HO FO TG MO
      go_wp2_with fail
      go_ret2
      exact ⟨⟨_, rfl, HR.out⟩, HB.out⟩
end Go.Proofs.YtlchlajckodppaaDoor
