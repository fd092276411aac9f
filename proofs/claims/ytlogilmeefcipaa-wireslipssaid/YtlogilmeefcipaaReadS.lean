/- What signs a text is made of: the walk of wire's readSigns. -/
import Derived.Test.YtlogilmeefcipaaRune
import Derived.WalkSmall
set_option linter.unusedSimpArgs false
set_option linter.unusedVariables false
set_option maxRecDepth 100000
namespace Go.Proofs.Ytlogilmeefcipaa
open Go.RowKit Go.Deep Go.PlainAid

/-- The values of the signs of a text, hyphens left out. -/
def sls (l : List Nat) : List Int := (l.filter (fun c => c != 45)).map sv
theorem sls_append (l r : List Nat) : sls (l ++ r) = sls l ++ sls r := by simp [sls]
theorem sls_hy : sls [45] = [] := rfl
theorem sls_one {c : Nat} (h : c ≠ 45) : sls [c] = [sv c] := by simp [sls, h]
theorem sls_length (l : List Nat) : (sls l).length ≤ l.length := by
  simp only [sls, List.length_map]
  exact List.length_filter_le _ _
/-- As they may stand: signs all, and those for a check alone only last. -/
def okB (m : List Int) : Bool := m.all (fun x => decide (0 ≤ x)) && m.dropLast.all (fun x => decide (x < 32))
/-- One that stands for a check alone is among them. -/
def hiB (m : List Int) : Bool := m.any (fun x => decide (32 ≤ x))
theorem okB_nil : okB [] = true := rfl
theorem okB_snoc {m : List Int} {x : Int} (h : okB m = true) (hh : hiB m = false) (hx : 0 ≤ x) : okB (m ++ [x]) = true ∧ hiB (m ++ [x]) = decide (32 ≤ x) := by
  simp only [okB, Bool.and_eq_true, List.all_eq_true, decide_eq_true_eq] at h
  simp only [hiB, List.any_eq_false, decide_eq_true_eq] at hh
  constructor
  · simp only [okB, List.dropLast_concat, Bool.and_eq_true, List.all_eq_true, decide_eq_true_eq, List.mem_append, List.mem_singleton]
    refine ⟨?_, fun y hy => by have := hh y hy; omega⟩
    rintro y (hy | rfl)
    · exact h.1 y hy
    · exact hx
  · simp only [hiB, List.any_append, List.any_cons, List.any_nil, Bool.or_false]
    have : m.any (fun x => decide (32 ≤ x)) = false := by simpa [List.any_eq_false] using hh
    rw [this, Bool.false_or]
theorem okB_neg {m r : List Int} {x : Int} (hx : x < 0) : okB (m ++ x :: r) = false := by
  cases h : okB (m ++ x :: r) with
  | false => rfl
  | true =>
    simp only [okB, Bool.and_eq_true, List.all_eq_true, decide_eq_true_eq] at h
    have := h.1 x (by simp)
    omega
theorem okB_hi {m r : List Int} {x : Int} (hh : hiB m = true) : okB (m ++ x :: r) = false := by
  cases h : okB (m ++ x :: r) with
  | false => rfl
  | true =>
    simp only [okB, Bool.and_eq_true, List.all_eq_true, decide_eq_true_eq] at h
    simp only [hiB, List.any_eq_true, decide_eq_true_eq] at hh
    obtain ⟨y, hy, h32⟩ := hh
    have hmem : y ∈ (m ++ x :: r).dropLast := by
      rw [List.dropLast_append_of_ne_nil (by simp)]
      exact List.mem_append_left _ hy
    have := h.2 y hmem
    omega
/-- As bytes. -/
abbrev mY (m : List Int) : List Value := m.map fun x => Y x.toNat
theorem bt_get (s : ByteArray) (k : Nat) (h : k < (bs s).length) : bt s k = (bs s)[k] := by
  unfold bt
  rw [List.getD_eq_getElem?_getD, List.getElem?_eq_getElem h]; rfl
theorem sls_split (s : ByteArray) (k : Nat) (h : k < (bs s).length) (h45 : bt s k ≠ 45) : sls (bs s) = sls ((bs s).take k) ++ sv (bt s k) :: sls ((bs s).drop (k + 1)) := by
  have e : bs s = (bs s).take k ++ [bt s k] ++ (bs s).drop (k + 1) := by
    rw [bt_get s k h, ← List.take_succ_eq_append_getElem h, List.take_append_drop]
  have e2 := congrArg sls e
  rw [sls_append, sls_append, sls_one h45] at e2
  rw [e2]; simp
theorem sls_next (s : ByteArray) (k : Nat) (h : k < (bs s).length) : sls ((bs s).take (k + 1)) = if bt s k = 45 then sls ((bs s).take k) else sls ((bs s).take k) ++ [sv (bt s k)] := by
  rw [List.take_succ_eq_append_getElem h, sls_append, ← bt_get s k h]
  split
  · rename_i h2; rw [h2, sls_hy, List.append_nil]
  · rename_i h2; rw [sls_one h2]
theorem grown_block {w w' : World} {row : Option Nat} {k : Nat} {o : Obj} (hg : w.grownBy w' row) (hk : w.heap[k]? = some o) (hne : row ≠ some k) : w'.heap[k]? = some o := by
  rw [hg.block k (Array.getElem?_eq_some_iff.1 hk).1 (fun e => hne e.symm)]; exact hk
set_option maxHeartbeats 2000000 in
theorem readSigns_any (w : World) (s : ByteArray) (hs : s.size ≤ 1100000) :
    Calls Try.prog 24 #[.string s] w fun e w' => ((okB (sls (bs s)) = false ∧ e = .returned (.tuple #[.slice none 0 0, .bool false])) ∨ (okB (sls (bs s)) = true ∧ ∃ v, e = .returned (.tuple #[v, .bool (decide (0 < (sls (bs s)).length))]) ∧ w'.ownsRow w.heap.size 5 1 v (sls (bs s)).length (mY (sls (bs s))))) ∧ Below w.heap.size w w' := by
  obtain ⟨i0, hi0, hz0, hz1, hz2⟩ := info_parts info5
  have iA : Hid ((w.iter s 0).heap[w.heap.size]? = some (.stringIter s 0)) := World.iter_heap w s 0
  have iB : Hid (Below w.heap.size w (w.iter s 0)) := (Below.refl _ w).alloc (Nat.le_refl _) _
  have BL : Hid ((bs s).length = s.size) := bs_length s
  go_enter Try.func24, Try.ntmps24
  go_wp2_with fail
  go_loopg [2, 4, 6, 7] s.size (fun gk v2 v4 v6 v7 wr => ∃ (pos : Nat) (v : Value), v = v2 ∧ pos + gk = s.size ∧ v4 = .bool (hiB (sls ((bs s).take pos))) ∧ okB (sls ((bs s).take pos)) = true ∧ wr.ownsRow (w.heap.size + 1) 5 1 v (sls ((bs s).take pos)).length (mY (sls ((bs s).take pos))) ∧ wr.heap[w.heap.size]? = some (.stringIter s pos) ∧ Below w.heap.size w wr)
  case atStart => exact ⟨0, _, rfl, by omega, rfl, rfl, World.ownsRow_nil _ _ _ _, iA.out, iB.out⟩
  case round =>
    obtain ⟨pos, v, rfl, hpg, rfl, hok, ho, hit, hB⟩ := hrel
    have O : Hid (wr.ownsRow (w.heap.size + 1) 5 1 v (sls ((bs s).take pos)).length (mY (sls ((bs s).take pos)))) := ho
    have B : Hid (Below w.heap.size w wr) := hB
    have OK : Hid (okB (sls ((bs s).take pos)) = true) := hok
    have IT : Hid (wr.heap[w.heap.size]? = some (.stringIter s pos)) := hit
    clear ho hB hok
    by_cases hp : pos < s.size
    · have hnx : ∀ ty, (Instr.next (.pointer (some ⟨w.heap.size, 0, none⟩)) true ty).run Try.prog wr = _ := fun ty => Lib.run_next_any_at wr (w.heap.size) s pos ty hit hp
      have hpl : pos < (bs s).length := by rw [bs_length]; exact hp
      have eb := get_bs s pos hp
      have NX := sls_next s pos hpl
      have HX : Hid (sls ((bs s).take (pos + 1)) = if bt s pos = 45 then sls ((bs s).take pos) else sls ((bs s).take pos) ++ [sv (bt s pos)]) := NX
      have HS : Hid (bt s pos ≠ 45 → sls (bs s) = sls ((bs s).take pos) ++ sv (bt s pos) :: sls ((bs s).drop (pos + 1))) := fun h => sls_split s pos hpl h
      have LM : (sls ((bs s).take pos)).length ≤ 1100000 := by
        have := sls_length ((bs s).take pos)
        rw [List.length_take] at this
        omega
      clear NX
      by_cases ha : (s[pos]'hp).toNat < 128
      · rw [decode_ascii s pos hp ha] at hnx
        have B2 : Hid (Below w.heap.size w (wr.iterAt w.heap.size s (pos + 1))) := Lib.below_iterAt B.out (Nat.le_refl _) s (pos + 1)
        have IT2 : Hid ((wr.iterAt w.heap.size s (pos + 1)).heap[w.heap.size]? = some (.stringIter s (pos + 1))) := Lib.iterAt_heap wr w.heap.size s pos (pos + 1) hit
        have O2 : Hid ((wr.iterAt w.heap.size s (pos + 1)).ownsRow (w.heap.size + 1) 5 1 v (sls ((bs s).take pos)).length (mY (sls ((bs s).take pos)))) := ownsRow_iterAt O.out (by omega) s (pos + 1)
        have ebc : (s[pos]'hp).toNat = bt s pos := by omega
        rw [ebc] at hnx ha
        clear hit O B IT eb ebc
        generalize bt s pos = c at *
        generalize hmm : sls ((bs s).take pos) = m at *
        clear hmm
        by_cases h45 : c = 45
        · have E : Hid (sls ((bs s).take (pos + 1)) = m) := by show _ = _; rw [HX.out, if_pos h45]
          have k45 : (c : Int) = 45 := by omega
          clear h45 HX HS
          go_wp2_with fail
          generalize wr.iterAt w.heap.size s (pos + 1) = wi at *
          go_roundg (gk - 1)
          case measure => omega
          case rel => exact ⟨pos + 1, v, rfl, by omega, by rw [E.out], by rw [E.out]; exact OK.out, by rw [E.out]; exact O2.out, IT2.out, B2.out⟩
        · have E : Hid (sls ((bs s).take (pos + 1)) = m ++ [sv c]) := by show _ = _; rw [HX.out, if_neg h45]
          have E2 := HS.out h45
          have HE2 : Hid (sls (bs s) = m ++ sv c :: sls ((bs s).drop (pos + 1))) := E2
          have k45 : ((c : Int) == 45) = false := by simp; omega
          have CV : Hid (∀ W, Calls Try.prog 35 #[.int .i32 (c : Int)] W fun e w' => e = .returned (.int .i64 (sv c)) ∧ Below W.heap.size W w') := fun W => by
            have := valueOf_any W c (by omega)
            rw [rv, if_pos ha] at this
            exact this
          have R9 := sv_range (c := c) (by omega)
          clear h45 HX HS E2
          generalize sv c = x at *
          go_upto_region 6 with fail
          generalize wr.iterAt w.heap.size s (pos + 1) = wi at *
          clear hnx k45
          go_wp2_with fail
          refine (CV.out wi).mono ?_
          rintro e W1 ⟨rfl, hb⟩
          have B3 : Hid (Below w.heap.size w W1) := B2.out.trans (hb.mono B2.out.size)
          have O3 : Hid (W1.ownsRow (w.heap.size + 1) 5 1 v m.length (mY m)) := ownsRow_below O2.out hb
          have IT3 : Hid (W1.heap[w.heap.size]? = some (.stringIter s (pos + 1))) := by
            show _ = _
            rw [hb.block _ (Array.getElem?_eq_some_iff.1 IT2.out).1]
            exact IT2.out
          clear hb CV O2 B2 IT2
          by_cases hneg : x < 0
          · have HF : Hid (okB (sls (bs s)) = false) := by show _ = _; rw [HE2.out]; exact okB_neg hneg
            go_wp2_with fail
            go_ret2
            exact ⟨Or.inl ⟨HF.out, rfl⟩, B3.out⟩
          · cases hhi : hiB m with
            | true =>
              have HF : Hid (okB (sls (bs s)) = false) := by show _ = _; rw [HE2.out]; exact okB_hi hhi
              go_wp2_with fail
              go_ret2
              exact ⟨Or.inl ⟨HF.out, rfl⟩, B3.out⟩
            | false =>
              obtain ⟨s1, s2⟩ := okB_snoc OK.out hhi (by omega : 0 ≤ x)
              have S1 : Hid (okB (m ++ [x]) = true) := s1
              have S2 : Hid (hiB (m ++ [x]) = decide (32 ≤ x)) := s2
              obtain ⟨n, hn⟩ : ∃ n : Nat, x = (n : Int) := ⟨x.toNat, by omega⟩
              have MY : Hid (mY m ++ [Y n] = mY (m ++ [x])) := by show _ = _; simp [mY, hn]
              have kw : IntKind.u8.wrap x = (n : Int) := by rw [IntKind.wrap_u8]; omega
              have kw2 : x % 256 = (n : Int) := by omega
              clear s1 s2 hhi HE2 hn
              have P2 : Hid ((W1.alloc (.cells #[.int .u8 (n : Int)] 5)).ownsRow (w.heap.size + 1) 5 1 v m.length (mY m)) := O3.out.alloc _
              have C2 : Hid (∀ jj u, [Y n][jj]? = some u → (W1.alloc (.cells #[.int .u8 (n : Int)] 5)).cell? ((⟨W1.heap.size, 0, none⟩ : Addr).add jj) = some u) := fun jj u hu => by
                match jj, hu with
                | 0, hu => simp at hu; subst hu; simp [Addr.add]
              have B4 : Hid (Below w.heap.size w (W1.alloc (.cells #[.int .u8 (n : Int)] 5))) := B3.out.alloc B3.out.size _
              have IT4 : Hid ((W1.alloc (.cells #[.int .u8 (n : Int)] 5)).heap[w.heap.size]? = some (.stringIter s (pos + 1))) := by
                show _ = _
                rw [Below.heap_alloc _ _ _ (Array.getElem?_eq_some_iff.1 IT3.out).1]
                exact IT3.out
              have S9 : Hid (w.heap.size + 1 ≤ (W1.alloc (.cells #[.int .u8 (n : Int)] 5)).heap.size) := by
                have := (Array.getElem?_eq_some_iff.1 IT4.out).1
                show _ ≤ _
                omega
              go_wp2_with (at_builtin; refine wpList_append_own _ rfl (.tmp 24) (.tmp 27) 35 rfl (w.heap.size + 1) 5 i0 (.int .u8 0) 1 1 Try.underlying35 hi0 hz0 hz1 hz2 rfl (by decide) v m.length (mY m) rfl P2.out ⟨W1.heap.size, 0, none⟩ 1 1 [Y n] rfl rfl C2.out (fun u hu => by simp at hu; subst hu; rfl) (by unfold maxLen; omega) (by omega) S9.out ?_; intro v1 w1 hown1 hgrow1 hn1; have O5 : Hid (w1.ownsRow (w.heap.size + 1) 5 1 v1 (m.length + 1) (mY m ++ [Y n])) := hown1; have B5 : Hid (Below w.heap.size w w1) := B4.out.grown hgrow1 B4.out.size (fun k hk => Nat.le_of_succ_le (P2.out.lt k hk).1); have IT5 : Hid (w1.heap[w.heap.size]? = some (.stringIter s (pos + 1))) := grown_block hgrow1 IT4.out (fun e => by have := (P2.out.lt _ e).1; omega); clear hown1 hgrow1 hn1)
              go_roundg (gk - 1)
              case measure => omega
              case rel => exact ⟨pos + 1, v1, rfl, by omega, by rw [E.out, S2.out], by rw [E.out]; exact S1.out, by rw [E.out, List.length_append, ← MY.out]; exact O5.out, IT5.out, B5.out⟩
      · have hd := decode_high s pos hp (by omega)
        have hle := decode_le s pos
        have b9 := bt_lt s pos
        have ebc : (s[pos]'hp).toNat = bt s pos := by omega
        rw [ebc] at ha
        have HF : Hid (okB (sls (bs s)) = false) := by
          show _ = _
          rw [HS.out (by omega), sv_high b9 (by omega)]
          exact okB_neg (by omega)
        have hd1 := hd.1
        have B2 : Hid (Below w.heap.size w (wr.iterAt w.heap.size s (pos + (Utf8.decode s pos).2))) := Lib.below_iterAt B.out (Nat.le_refl _) s _
        clear hit O B IT eb ebc hd HX HS
        generalize (Utf8.decode s pos).2 = wd at *
        generalize (Utf8.decode s pos).1 = c at *
        have k45 : ((c : Int) == 45) = false := by simp; omega
        have CV : Hid (∀ W, Calls Try.prog 35 #[.int .i32 (c : Int)] W fun e w' => e = .returned (.int .i64 (-1)) ∧ Below W.heap.size W w') := fun W => valueOf_high W c (by omega) hle
        go_wp2_with fail
        refine (CV.out _).mono ?_
        rintro e W1 ⟨rfl, hb⟩
        have B3 : Hid (Below w.heap.size w W1) := B2.out.trans (hb.mono B2.out.size)
        clear hb CV
        go_wp2_with fail
        go_ret2
        exact ⟨Or.inl ⟨HF.out, rfl⟩, B3.out⟩
    · have hnx : ∀ ty, (Instr.next (.pointer (some ⟨w.heap.size, 0, none⟩)) true ty).run Try.prog wr = _ := fun ty => Lib.run_next_end_at wr (w.heap.size) s pos ty hit hp
      obtain rfl : pos = s.size := by omega
      have E : Hid ((bs s).take s.size = bs s) := by show _ = _; rw [← bs_length s, List.take_length]
      have O2 : Hid (wr.ownsRow w.heap.size 5 1 v (sls (bs s)).length (mY (sls (bs s)))) := by
        have := O.out
        rw [E.out] at this
        exact this.mono (by omega)
      have OK2 : Hid (okB (sls (bs s)) = true) := by have := OK.out; rw [E.out] at this; exact this
      rw [E.out]
      obtain ⟨va, vc, hv, _, _, _⟩ := VRow.of_owned O2.out
      rw [List.length_map] at hv
      have HL9 : (sls (bs s)).length ≤ 1100000 := by have := sls_length (bs s); rw [bs_length] at this; omega
      clear hit O E OK
      subst hv
      generalize hq : (sls (bs s)).length = q at *
      have HQ : Hid ((sls (bs s)).length = q) := hq
      clear hq
      generalize hiB (sls (bs s)) = hb9 at *
      go_wp2_with fail
      go_ret2
      exact ⟨Or.inr ⟨OK2.out, _, by rw [HQ.out]; try rfl, by rw [HQ.out]; exact O2.out⟩, B.out⟩
end Go.Proofs.Ytlogilmeefcipaa
