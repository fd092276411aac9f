/- Rows of bytes and of ints in memory; the walk of wire's regroup. -/
import Derived.Test.YtlogilmeefcipaaBits
import Derived.Test.YtlogilmeefcipaaRows
import Derived.WalkSpells
import Derived.WalkLawsBesides
import Derived.Handy
import Derived.Deep.Draws
import Derived.Deep.MidRow
import Derived.Deep.QuietTactic
import Derived.BigQuiet
import Derived.Deep.LoopGhost
import Derived.Laws.IdiomCopy
import Derived.Deep.OwnRows
import Derived.PlainAid
import Derived.Laws.BytesArg
import Derived.Laws.BitsLemmas
import Derived.Lib.LazyBuf
import Derived.Deep.AppendLies
import Derived.OwnWalk
import Derived.Laws.OwnMore
import Derived.Deep.CutBlock
import Derived.Deep.DeepCutAuto
set_option linter.unusedSimpArgs false
set_option linter.unusedVariables false
set_option maxRecDepth 100000
namespace Go.Proofs.Ytlogilmeefcipaa
open Go.RowKit Go.Deep Go.PlainAid

/-- A byte, an int, as values. -/
abbrev Y (n : Nat) : Value := .int .u8 (n : Int)
abbrev J (z : Int) : Value := .int .i64 z
abbrev Z (n : Nat) : Value := .int .i64 (n : Int)
/-- Values lie in a row from a place on. -/
def VRow (w : World) (a : Option Addr) (xs : List Value) : Prop := ∀ i (h : i < xs.length), ∃ b o, a = some ⟨b, o, none⟩ ∧ w.cell? ⟨b, o + i, none⟩ = some xs[i]
theorem VRow.of_below {w w' : World} {a : Option Addr} {xs : List Value} (h : VRow w a xs) (hb : Below w.heap.size w w') : VRow w' a xs := by
  intro i hi
  obtain ⟨b, o, e, c⟩ := h i hi
  exact ⟨b, o, e, by rw [hb.cell (World.block_lt_of_cell? w ⟨b, o + i, none⟩ c)]; exact c⟩
theorem VRow.of_owned {w : World} {base n : Nat} {v : Value} {xs : List Value} {e : TypeId} (h : w.ownsRow base e 1 v n xs) : ∃ a cap, v = .slice a xs.length cap ∧ xs.length ≤ cap ∧ cap ≤ 9223372036854775807 ∧ VRow w a xs := by
  obtain ⟨hlen, ⟨rfl, h0⟩ | ⟨g, cap, cur, rfl, hb, hg, hc, hm, hs, ht⟩⟩ := h
  · have : xs = [] := List.length_eq_zero_iff.1 (by omega)
    subst this
    exact ⟨none, 0, rfl, by simp, by omega, fun i hi => by cases hi⟩
  · refine ⟨some ⟨g, 0, none⟩, cap, by rw [hlen, Nat.mul_one], by omega, hm, ?_⟩
    intro i hi
    refine ⟨g, 0, rfl, ?_⟩
    rw [Nat.mul_one] at ht
    have h1 : xs[i]? = some xs[i] := List.getElem?_eq_getElem hi
    have h2 : (cur.toList.take n)[i]? = some xs[i] := by rw [ht]; exact h1
    rw [List.getElem?_take, if_pos (by omega)] at h2
    simp only [World.cell?, hg]
    simpa using h2
theorem info5 : (Try.prog.info? 5).map (fun i => (i.zero, i.size, i.bytes)) = some (some (.int .u8 0), 1, 1) := by kernel_rfl
theorem info3 : (Try.prog.info? 3).map (fun i => (i.zero, i.size, i.bytes)) = some (some (.int .i64 0), 1, 8) := by kernel_rfl
theorem info_parts {t : TypeId} {z : Value} {s b : Nat} (h : (Try.prog.info? t).map (fun i => (i.zero, i.size, i.bytes)) = some (some z, s, b)) : ∃ i, Try.prog.info? t = some i ∧ i.zero = some z ∧ i.size = s ∧ i.bytes = b := by
  cases hq : Try.prog.info? t with
  | none => rw [hq] at h; cases h
  | some i =>
    rw [hq] at h
    simp only [Option.map_some, Option.some.injEq, Prod.mk.injEq] at h
    exact ⟨i, rfl, h.1, h.2.1, h.2.2⟩
theorem ownsRow_below {w w' : World} {base n : Nat} {v : Value} {xs : List Value} {e : TypeId} {size : Nat} (h : w.ownsRow base e size v n xs) (hb : Below w.heap.size w w') : w'.ownsRow base e size v n xs := by
  refine ⟨h.1, ?_⟩
  rcases h.2 with hn | ⟨g, cap, cur, hv, hbg, hc, rest⟩
  · exact .inl hn
  · exact .inr ⟨g, cap, cur, hv, hbg, by rw [hb.block g (Array.getElem?_eq_some_iff.1 hc).1]; exact hc, rest⟩

theorem wrap_u64 (n : Int) : IntKind.u64.wrap n = n % 18446744073709551616 := by simp [IntKind.wrap, IntKind.bits, IntKind.signed]
theorem wraps_u64 (n : Int) (h₀ : 0 ≤ n) (h₁ : n < 2 ^ 17) : IntKind.u64.wrap n = n := by rw [wrap_u64]; omega
set_option maxHeartbeats 1000000 in
theorem regroup_any (w : World) (f t : Nat) (hf1 : 1 ≤ f) (hf : f ≤ 8) (ht1 : 1 ≤ t) (ht : t ≤ 8) (a : Option Addr) (cap : Nat) (l : List Nat) (hl : l.length ≤ 1000000) (hg : ∀ d ∈ l, d < 2 ^ f) (hr : VRow w a (l.map Y)) :
    Calls Try.prog 32 #[.slice a l.length cap, .int .i64 (f : Int), .int .i64 (t : Int)] w fun e w' => (∃ (v : Value) (out : List Nat) (held left : Nat), e = .returned (.tuple #[v, .int .u8 (held : Int), .int .i64 (left : Int)]) ∧ RG f t l l.length out held left ∧ left < t ∧ w'.ownsRow w.heap.size 5 1 v out.length (out.map Y)) ∧ Below w.heap.size w w' := by
  obtain ⟨i0, hi0, hz0, hz1, hz2⟩ := info_parts info5
  have HR : Hid (VRow w a (l.map Y)) := hr
  have HG : Hid (∀ d ∈ l, d < 2 ^ f) := hg
  have p1 : 2 ^ f ≤ 256 := Nat.pow_le_pow_right (n := 2) (by omega) hf
  have p2 : 2 ^ t ≤ 256 := Nat.pow_le_pow_right (n := 2) (by omega) ht
  clear hr hg
  go_enter Try.func32, Try.ntmps32
  go_wp2_with fail
  go_loopg [6, 8, 9, 11, 14] l.length (fun gk v6 v8 v9 v11 v14 wr => ∃ (r : Nat) (out : List Nat) (held left : Nat) (v : Value), v = v6 ∧ r + gk = l.length ∧ v14 = .int .i64 (r : Int) ∧ v8 = .int .i64 (left : Int) ∧ v9 = .int .u64 (held : Int) ∧ RG f t l r out held left ∧ left < t ∧ wr.ownsRow w.heap.size 5 1 v out.length (out.map Y) ∧ Below w.heap.size w wr)
  case atStart => exact ⟨0, [], 0, 0, _, rfl, by omega, rfl, rfl, rfl, RG.start f t l, by omega, World.ownsRow_nil _ _ _ _, Below.refl _ _⟩
  case round =>
    obtain ⟨r, out, held, left, v, rfl, hrg, rfl, rfl, rfl, hR, hlt, ho, hB⟩ := hrel
    have R : Hid (RG f t l r out held left) := hR
    have O : Hid (wr.ownsRow w.heap.size 5 1 v out.length (out.map Y)) := ho
    have B : Hid (Below w.heap.size w wr) := hB
    have hh := hR.hlt
    have pl : 2 ^ left ≤ 256 := (show 2 ^ left ≤ 2 ^ 8 from Nat.pow_le_pow_right (by omega) (by omega))
    have LO : out.length ≤ 8000000 := by
      have h1 := hR.bits
      have h2 : f * r ≤ 8 * r := Nat.mul_le_mul_right _ hf
      have h3 : 1 * out.length ≤ t * out.length := Nat.mul_le_mul_right _ ht1
      omega
    clear hR ho hB
    by_cases hr2 : r < l.length
    · obtain ⟨gb, go, rfl, hc⟩ := HR.out r (by simpa using hr2)
      rw [← B.out.cell (p := ⟨gb, go + r, none⟩) (World.block_lt_of_cell? w ⟨gb, go + r, none⟩ hc)] at hc
      rw [List.getElem_map] at hc
      have hg1 := HG.out l[r] (List.getElem_mem _)
      have R2 : Hid (RG f t l (r + 1) out (held * 2 ^ f + l[r]) (left + f)) := R.out.group hr2 hg1
      clear R
      generalize l[r] = c at *
      have rlt : (r : Int) < (l.length : Int) := by omega
      have hmul : held * 2 ^ f < 65536 := by
        have h1 : held * 2 ^ f ≤ held * 256 := Nat.mul_le_mul_left _ p1
        omega
      have kor : bits .or .u64 (((held * 2 ^ f : Nat) : Int)) (c : Int) = ((held * 2 ^ f + c : Nat) : Int) := by
        rw [(bits_nat .u64 17 (by decide) wraps_u64 (held * 2 ^ f) c (by omega) (by omega)).2]
        rw [Nat.mul_comm held, ← Nat.two_pow_add_eq_or_of_lt hg1 held]
      have kmul : (held : Int) * 2 ^ f = ((held * 2 ^ f : Nat) : Int) := by push_cast; rfl
      generalize held * 2 ^ f = H at *
      have kwr : IntKind.u64.wrap (H : Int) = (H : Int) := by rw [wrap_u64]; omega
      have hl8 : left + f ≤ 15 := by omega
      have H9 : H + c < 131072 := by omega
      obtain ⟨L, hL⟩ : ∃ L, L = left + f := ⟨_, rfl⟩
      rw [← hL] at R2 hl8
      have kL : (left : Int) + (f : Int) = (L : Int) := by omega
      clear hL hh hmul
      go_upto_region 6 with fail
      clear kor kmul kwr hc
      generalize gk = G0 at *
      obtain ⟨h2, hh2⟩ : ∃ h2, h2 = H + c := ⟨_, rfl⟩
      rw [← hh2] at R2
      go_wp2_with fail
      go_loopg [6, 8, 9] L (fun gk2 v6 v8 v9 wq => ∃ (out : List Nat) (held : Nat) (v : Value), v = v6 ∧ v8 = .int .i64 (gk2 : Int) ∧ v9 = .int .u64 (held : Int) ∧ RG f t l (r + 1) out held gk2 ∧ gk2 ≤ L ∧ wq.ownsRow w.heap.size 5 1 v out.length (out.map Y) ∧ Below w.heap.size w wq)
      case atStart => exact ⟨out, h2, v, rfl, rfl, by rw [hh2]; rfl, R2.out, by omega, O.out, B.out⟩
      case round =>
        clear R2 O B LO H9 hlt pl hh2
        obtain ⟨out, held, v, rfl, rfl, rfl, hR, hgl, ho, hB⟩ := hrel
        have R : Hid (RG f t l (r + 1) out held gk) := hR
        have O : Hid (wr.ownsRow w.heap.size 5 1 v out.length (out.map Y)) := ho
        have B : Hid (Below w.heap.size w wr) := hB
        have hh := hR.hlt
        have LO : out.length ≤ 8000010 := by
          have h1 := hR.bits
          have h2 : f * (r + 1) ≤ 8 * (r + 1) := Nat.mul_le_mul_right _ hf
          have h3 : 1 * out.length ≤ t * out.length := Nat.mul_le_mul_right _ ht1
          omega
        clear hR ho hB
        by_cases htl : t ≤ gk
        · obtain ⟨d, hd⟩ : ∃ d, d = gk - t := ⟨_, rfl⟩
          have kd : (gk : Int) - (t : Int) = (d : Int) := by omega
          have kge : (t : Int) ≤ (gk : Int) := by omega
          have R3 : Hid (RG f t l (r + 1) (out ++ [held / 2 ^ d]) (held % 2 ^ d) d) := by rw [hd]; exact R.out.out htl
          have d15 : d ≤ 15 := by omega
          have dg : d < gk := by omega
          have D9 : 2 ^ d ≤ 32768 := (show 2 ^ d ≤ 2 ^ 15 from Nat.pow_le_pow_right (by omega) d15)
          have D0 : 0 < 2 ^ d := Nat.pow_pos (by omega)
          have q9 : held / 2 ^ d < 256 := Nat.lt_of_lt_of_le (R3.out.each _ (by simp)) p2
          have h9 : held < 131072 := Nat.lt_of_lt_of_le hh (show 2 ^ gk ≤ 2 ^ 17 from Nat.pow_le_pow_right (by omega) (by omega))
          have kand : bits .and .u64 (held : Int) (((2 ^ d : Nat) : Int) - 1) = ((held % 2 ^ d : Nat) : Int) := by
            have := bits_mask .u64 17 (by decide) wraps_u64 d (by omega) (held : Int) (by omega) (by omega)
            rw [show (((2 ^ d : Nat) : Int) - 1) = 2 ^ d - 1 by push_cast; rfl, this]
            push_cast
            rfl
          have kp : (2 : Int) ^ d = ((2 ^ d : Nat) : Int) := by push_cast; rfl
          have kq : (held : Int) / ((2 ^ d : Nat) : Int) = ((held / 2 ^ d : Nat) : Int) := by push_cast; rfl
          clear hd R hh
          generalize held / 2 ^ d = q at *
          generalize held % 2 ^ d = hm at *
          generalize 2 ^ d = D at *
          have kq2 : (q : Int) % 256 = (q : Int) := by omega
          have kw1 : IntKind.u64.wrap (D : Int) = (D : Int) := by rw [wrap_u64]; omega
          have kw2 : IntKind.u64.wrap ((D : Int) - 1) = (D : Int) - 1 := by rw [wrap_u64]; omega
          have kw3 : IntKind.u8.wrap (q : Int) = (q : Int) := by rw [IntKind.wrap_u8]; omega
          go_upto_region 9 with fail
          have O2 : Hid ((wr.alloc (.cells #[.int .u8 (q : Int)] 5)).ownsRow w.heap.size 5 1 v out.length (out.map Y)) := O.out.alloc _
          have C2 : Hid (∀ jj u, [Y q][jj]? = some u → (wr.alloc (.cells #[.int .u8 (q : Int)] 5)).cell? ((⟨wr.heap.size, 0, none⟩ : Addr).add jj) = some u) := fun jj u hu => by
            match jj, hu with
            | 0, hu => simp at hu; subst hu; simp [Addr.add]
          have B2 : Hid (Below w.heap.size w (wr.alloc (.cells #[.int .u8 (q : Int)] 5))) := B.out.alloc B.out.size _
          go_wp2_with (at_builtin; refine wpList_append_own _ rfl (.tmp 33) (.tmp 38) 35 rfl w.heap.size 5 i0 (.int .u8 0) 1 1 Try.underlying35 hi0 hz0 hz1 hz2 rfl (by decide) v out.length (out.map Y) rfl O2.out ⟨wr.heap.size, 0, none⟩ 1 1 [Y q] rfl rfl C2.out (fun u hu => by simp at hu; subst hu; rfl) (by unfold maxLen; omega) (by omega) B2.out.size ?_; intro v1 w1 hown1 hgrow1 hn1; have O3 : Hid (w1.ownsRow w.heap.size 5 1 v1 (out.length + 1) (out.map Y ++ [Y q])) := hown1; have B3 : Hid (Below w.heap.size w w1) := B2.out.grown hgrow1 B2.out.size (fun k hk => (O2.out.lt k hk).1); clear hown1 hgrow1 hn1)
          go_roundg d
          case measure => exact dg
          case rel => exact ⟨out ++ [q], hm, v1, rfl, rfl, rfl, R3.out, by omega, by rw [List.map_append, List.length_append]; exact O3.out, B3.out⟩
        · have hlt2 : gk < t := by omega
          have klt : ¬ (t : Int) ≤ (gk : Int) := by omega
          go_wp2_with fail
          go_roundg (G0 - 1)
          case measure => omega
          case rel => exact ⟨r + 1, out, held, gk, v, rfl, by omega, by go_num, rfl, rfl, R.out, hlt2, O.out, B.out⟩
    · obtain rfl : r = l.length := by omega
      have wr8 : IntKind.u8.wrap (held : Int) = (held : Int) := by rw [IntKind.wrap_u8]; omega
      go_wp2_with fail
      go_ret3
      exact ⟨⟨v, out, held, left, rfl, R.out, hlt, O.out⟩, B.out⟩
end Go.Proofs.Ytlogilmeefcipaa
