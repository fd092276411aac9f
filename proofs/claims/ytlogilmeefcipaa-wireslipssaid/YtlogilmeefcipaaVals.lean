/- The walks of checkOf and the document's check; of valuesOf. -/
import Derived.Test.YtlogilmeefcipaaRegroup
import Derived.Lib.ConvBytes
import Derived.Lib.AtoiErrMem
import Derived.Deep.Onto
set_option linter.unusedSimpArgs false
set_option linter.unusedVariables false
set_option maxRecDepth 100000
namespace Go.Proofs.Ytlogilmeefcipaa
open Go.RowKit Go.Deep Go.PlainAid

/-- The check of values. -/
def chk (l : List Nat) : Nat := l.foldl (fun a v => (a * 32 + v) % 37) 0
theorem chk_snoc (l : List Nat) (v : Nat) : chk (l ++ [v]) = (chk l * 32 + v) % 37 := by simp [chk]
theorem chk_succ (l : List Nat) (r : Nat) (h : r < l.length) : chk (l.take (r + 1)) = (chk (l.take r) * 32 + l[r]) % 37 := by
  rw [List.take_succ_eq_append_getElem h, chk_snoc]
theorem chk_lt (l : List Nat) : chk l < 37 := by
  rcases List.eq_nil_or_concat l with rfl | ⟨i, d, rfl⟩
  · decide
  · rw [List.concat_eq_append, chk_snoc]; exact Nat.mod_lt _ (by omega)
set_option maxHeartbeats 1000000 in
theorem checkOf_any (w : World) (a : Option Addr) (cap : Nat) (l : List Nat) (hl : l.length ≤ 1000000) (hg : ∀ d ∈ l, d < 256) (hr : VRow w a (l.map Y)) :
    Calls Try.prog 23 #[.slice a l.length cap] w fun e w' => e = .returned (.int .u8 (chk l : Int)) ∧ Below w.heap.size w w' := by
  have HR : Hid (VRow w a (l.map Y)) := hr
  have HG : Hid (∀ d ∈ l, d < 256) := hg
  clear hr hg
  go_enter Try.func23, Try.ntmps23
  go_wp2_with fail
  go_loopg [3, 5, 8] l.length (fun gk v3 v5 v8 wr => ∃ r : Nat, r + gk = l.length ∧ v8 = .int .i64 (r : Int) ∧ v3 = .int .i64 (chk (l.take r) : Int) ∧ Below w.heap.size w wr)
  case atStart => exact ⟨0, by omega, rfl, rfl, Below.refl _ _⟩
  case round =>
    obtain ⟨r, hrg, rfl, rfl, hB⟩ := hrel
    have B : Hid (Below w.heap.size w wr) := hB
    clear hB
    by_cases hr2 : r < l.length
    · obtain ⟨gb, go, rfl, hc⟩ := HR.out r (by simpa using hr2)
      rw [← B.out.cell (p := ⟨gb, go + r, none⟩) (World.block_lt_of_cell? w ⟨gb, go + r, none⟩ hc)] at hc
      rw [List.getElem_map] at hc
      have hg1 := HG.out l[r] (List.getElem_mem _)
      have K : Hid (chk (l.take (r + 1)) = (chk (l.take r) * 32 + l[r]) % 37) := chk_succ l r hr2
      have n9 := chk_lt (l.take r)
      generalize l[r] = c at *
      generalize chk (l.take r) = n at *
      have rlt : (r : Int) < (l.length : Int) := by omega
      have k1 : ((n : Int) * 32 + (c : Int)).tmod 37 = (((n * 32 + c) % 37 : Nat) : Int) := by rw [Int.tmod_eq_emod_of_nonneg (by omega)]; omega
      have k2 : (n : Int) * 2 ^ 5 = (n : Int) * 32 := by omega
      have k3 : (n : Int) <<< 5 = (n : Int) * 32 := by rw [Int.shiftLeft_eq]; rfl
      go_wp2_with fail
      go_roundg (gk - 1)
      case measure => omega
      case rel => exact ⟨r + 1, by omega, by go_num, by rw [K.out]; try rfl; try go_num, B.out⟩
    · obtain rfl : r = l.length := by omega
      have hnl : ¬ ((l.length : Nat) : Int) < (l.length : Int) := by omega
      rw [List.take_length]
      have n9 := chk_lt l
      generalize hN : chk l = n at *
      have HN : Hid (chk l = n) := hN
      clear hN
      have k8 : IntKind.u8.wrap (n : Int) = (n : Int) := by rw [IntKind.wrap_u8]; omega
      have k9 : (n : Int) % 256 = (n : Int) := by omega
      go_wp2_with fail
      go_ret
      exact ⟨by rw [HN.out]; rfl, B.out⟩
set_option maxHeartbeats 1000000 in
theorem refCheck_any (w : World) (a : Option Addr) (cap : Nat) (l : List Nat) (hl : l.length ≤ 1000000) (hg : ∀ d ∈ l, d < 256) (hr : VRow w a (l.map Z)) :
    Calls Try.prog 20 #[.slice a l.length cap] w fun e w' => e = .returned (.int .i64 (chk l : Int)) ∧ Below w.heap.size w w' := by
  have HR : Hid (VRow w a (l.map Z)) := hr
  have HG : Hid (∀ d ∈ l, d < 256) := hg
  clear hr hg
  go_enter Try.func20, Try.ntmps20
  go_wp2_with fail
  go_loopg [3, 5, 8] l.length (fun gk v3 v5 v8 wr => ∃ r : Nat, r + gk = l.length ∧ v8 = .int .i64 (r : Int) ∧ v3 = .int .i64 (chk (l.take r) : Int) ∧ Below w.heap.size w wr)
  case atStart => exact ⟨0, by omega, rfl, rfl, Below.refl _ _⟩
  case round =>
    obtain ⟨r, hrg, rfl, rfl, hB⟩ := hrel
    have B : Hid (Below w.heap.size w wr) := hB
    clear hB
    by_cases hr2 : r < l.length
    · obtain ⟨gb, go, rfl, hc⟩ := HR.out r (by simpa using hr2)
      rw [← B.out.cell (p := ⟨gb, go + r, none⟩) (World.block_lt_of_cell? w ⟨gb, go + r, none⟩ hc)] at hc
      rw [List.getElem_map] at hc
      have hg1 := HG.out l[r] (List.getElem_mem _)
      have K : Hid (chk (l.take (r + 1)) = (chk (l.take r) * 32 + l[r]) % 37) := chk_succ l r hr2
      have n9 := chk_lt (l.take r)
      generalize l[r] = c at *
      generalize chk (l.take r) = n at *
      have rlt : (r : Int) < (l.length : Int) := by omega
      have k1 : ((n : Int) * 32 + (c : Int)).tmod 37 = (((n * 32 + c) % 37 : Nat) : Int) := by rw [Int.tmod_eq_emod_of_nonneg (by omega)]; omega
      have k2 : (n : Int) * 2 ^ 5 = (n : Int) * 32 := by omega
      have k3 : (n : Int) <<< 5 = (n : Int) * 32 := by rw [Int.shiftLeft_eq]; rfl
      go_wp2_with fail
      go_roundg (gk - 1)
      case measure => omega
      case rel => exact ⟨r + 1, by omega, by go_num, by rw [K.out]; try rfl; try go_num, B.out⟩
    · obtain rfl : r = l.length := by omega
      have hnl : ¬ ((l.length : Nat) : Int) < (l.length : Int) := by omega
      rw [List.take_length]
      have n9 := chk_lt l
      generalize hN : chk l = n at *
      have HN : Hid (chk l = n) := hN
      clear hN
      have k8 : IntKind.u8.wrap (n : Int) = (n : Int) := by rw [IntKind.wrap_u8]; omega
      have k9 : (n : Int) % 256 = (n : Int) := by omega
      go_wp2_with fail
      go_ret
      exact ⟨by rw [HN.out]; rfl, B.out⟩

/-- The bytes of a text, as numbers. -/
def bs (s : ByteArray) : List Nat := s.data.toList.map fun c => c.toNat
theorem bs_length (s : ByteArray) : (bs s).length = s.size := by simp [bs]
theorem bs_lt (s : ByteArray) : ∀ d ∈ bs s, d < 256 := by
  intro d hd
  obtain ⟨c, _, rfl⟩ := List.mem_map.1 hd
  exact c.toNat_lt
/-- How many signs, and the number that they make. -/
def sgn (n : Nat) : Nat := (8 * n + 4) / 5
/-- The values that a text is written in. -/
def vals (s : ByteArray) : List Nat := dgs 32 (sgn s.size) (V 256 (bs s) * 2 ^ (5 * sgn s.size - 8 * s.size))
theorem vals_length (s : ByteArray) : (vals s).length = sgn s.size := dgs_length _ _ _
theorem vals_lt (s : ByteArray) : ∀ d ∈ vals s, d < 32 := dgs_lt (by omega) _ _
theorem vals_of {s : ByteArray} {l : List Nat} (h1 : l.length = sgn s.size) (h2 : ∀ d ∈ l, d < 32) (h3 : V 32 l = V 256 (bs s) * 2 ^ (5 * sgn s.size - 8 * s.size)) : l = vals s := by
  rw [V_inj (by omega) _ l h1 h2, h3]; rfl
theorem vals_left {s : ByteArray} {out : List Nat} {held left : Nat} (h : RG 8 5 (bs s) (bs s).length out held left) (hl : left < 5) (h0 : 0 < left) : out ++ [held * 2 ^ (5 - left)] = vals s ∧ held * 2 ^ (5 - left) < 32 := by
  have hh := h.hlt
  have v := h.val
  have b := h.bits
  rw [List.take_length] at v
  rw [bs_length] at b
  have e : 2 ^ 5 = 2 ^ left * 2 ^ (5 - left) := by rw [← Nat.pow_add]; congr 1; omega
  have hd : held * 2 ^ (5 - left) < 32 := by
    show _ < 2 ^ 5
    rw [e]
    exact Nat.mul_lt_mul_of_pos_right hh (Nat.pow_pos (by omega))
  have hs : sgn s.size = out.length + 1 := by unfold sgn; omega
  refine ⟨vals_of (by rw [hs]; simp) ?_ ?_, hd⟩
  · intro d hd'
    rcases List.mem_append.1 hd' with h1 | h1
    · exact h.each d h1
    · rw [List.mem_singleton.1 h1]; exact hd
  · rw [V_snoc, show 5 * sgn s.size - 8 * s.size = 5 - left by omega]
    have v' : V 256 (bs s) = V 32 out * 2 ^ left + held := v
    rw [v', Nat.add_mul, Nat.mul_assoc, ← e]
theorem vals_none {s : ByteArray} {out : List Nat} {held : Nat} (h : RG 8 5 (bs s) (bs s).length out held 0) : out = vals s := by
  have hh := h.hlt
  have v := h.val
  have b := h.bits
  rw [List.take_length] at v
  rw [bs_length] at b
  have hs : sgn s.size = out.length := by unfold sgn; omega
  refine vals_of hs.symm h.each ?_
  have v' : V 256 (bs s) = V 32 out * 2 ^ 0 + held := v
  rw [v', show 5 * sgn s.size - 8 * s.size = 0 by omega]
  omega
theorem bytes_row (w : World) (s : ByteArray) : VRow (Lib.bytesWorld w 5 s) (some ⟨w.heap.size, 0, none⟩) ((bs s).map Y) := by
  intro i hi
  refine ⟨w.heap.size, 0, rfl, ?_⟩
  have hi' : i < s.size := by simpa [bs_length] using hi
  rw [Nat.zero_add, Lib.bytesWorld_cell w 5 s i hi']
  have hi2 : i < s.data.toList.length := hi'
  simp [bs, Y, List.getD_eq_getElem?_getD, List.getElem?_eq_getElem hi2]
set_option maxHeartbeats 1000000 in
theorem valuesOf_any (w : World) (s : ByteArray) (hs : s.size ≤ 64) :
    Calls Try.prog 21 #[.string s] w fun e w' => (∃ v, e = .returned v ∧ w'.ownsRow w.heap.size 5 1 v (vals s).length ((vals s).map Y)) ∧ Below w.heap.size w w' := by
  obtain ⟨i0, hi0, hz0, hz1, hz2⟩ := info_parts info5
  have hcv := Lib.run_convert_string_bytes (P := Try.prog) w 9 35 5 s Try.underlying9 Try.underlying35 Try.underlying5
  have C : Hid (∀ cap, Calls Try.prog 32 #[.slice (some ⟨w.heap.size, 0, none⟩) (bs s).length cap, .int .i64 ((8 : Nat) : Int), .int .i64 ((5 : Nat) : Int)] (Lib.bytesWorld w 5 s) fun e w' => (∃ (v : Value) (out : List Nat) (held left : Nat), e = .returned (.tuple #[v, .int .u8 (held : Int), .int .i64 (left : Int)]) ∧ RG 8 5 (bs s) (bs s).length out held left ∧ left < 5 ∧ w'.ownsRow (Lib.bytesWorld w 5 s).heap.size 5 1 v out.length (out.map Y)) ∧ Below (Lib.bytesWorld w 5 s).heap.size (Lib.bytesWorld w 5 s) w') :=
    fun cap => regroup_any (Lib.bytesWorld w 5 s) 8 5 (by omega) (by omega) (by omega) (by omega) _ cap (bs s) (by rw [bs_length]; omega) (bs_lt s) (bytes_row w s)
  have B0 : Hid (Below w.heap.size w (Lib.bytesWorld w 5 s)) := Lib.bytesWorld_below w 5 s
  rw [bs_length] at C
  generalize Lib.bytesWorld w 5 s = W0 at *
  generalize grownCap w s.size 0 5 = gc at *
  go_enter Try.func21, Try.ntmps21
  go_wp2_with fail
  clear hcv
  refine (C.out gc).mono ?_
  rintro e W1 ⟨⟨v, out, held, left, rfl, hR, hlt, ho⟩, hb⟩
  have B : Hid (Below w.heap.size w W1) := B0.out.trans (hb.mono B0.out.size)
  have O : Hid (W1.ownsRow w.heap.size 5 1 v out.length (out.map Y)) := ho.mono B0.out.size
  have R : Hid (RG 8 5 (bs s) s.size out held left) := hR
  have LO : out.length ≤ 200 := by have := hR.bits; omega
  have hh := hR.hlt
  clear hR ho hb C B0
  by_cases h0 : 0 < left
  · obtain ⟨e1, e2⟩ := vals_left (s := s) (by rw [bs_length]; exact R.out) hlt h0
    have E : Hid (out ++ [held * 2 ^ (5 - left)] = vals s) := e1
    clear e1 R
    obtain ⟨d, hd⟩ : ∃ d, d = 5 - left := ⟨_, rfl⟩
    rw [← hd] at E e2
    have k0 : (0 : Int) < (left : Int) := by omega
    have kd : (5 : Int) - (left : Int) = (d : Int) := by omega
    have kq : (held : Int) * 2 ^ d = ((held * 2 ^ d : Nat) : Int) := by push_cast; rfl
    clear hd hh
    generalize held * 2 ^ d = q at *
    have kw : IntKind.u8.wrap (q : Int) = (q : Int) := by rw [IntKind.wrap_u8]; omega
    have kw2 : (q : Int) % 256 = (q : Int) := by omega
    have O2 : Hid ((W1.alloc (.cells #[.int .u8 (q : Int)] 5)).ownsRow w.heap.size 5 1 v out.length (out.map Y)) := O.out.alloc _
    have C2 : Hid (∀ jj u, [Y q][jj]? = some u → (W1.alloc (.cells #[.int .u8 (q : Int)] 5)).cell? ((⟨W1.heap.size, 0, none⟩ : Addr).add jj) = some u) := fun jj u hu => by
      match jj, hu with
      | 0, hu => simp at hu; subst hu; simp [Addr.add]
    have B2 : Hid (Below w.heap.size w (W1.alloc (.cells #[.int .u8 (q : Int)] 5))) := B.out.alloc B.out.size _
    go_wp2_with (at_builtin; refine wpList_append_own _ rfl (.tmp 15) (.tmp 20) 35 rfl w.heap.size 5 i0 (.int .u8 0) 1 1 Try.underlying35 hi0 hz0 hz1 hz2 rfl (by decide) v out.length (out.map Y) rfl O2.out ⟨W1.heap.size, 0, none⟩ 1 1 [Y q] rfl rfl C2.out (fun u hu => by simp at hu; subst hu; rfl) (by unfold maxLen; omega) (by omega) B2.out.size ?_; intro v1 w1 hown1 hgrow1 hn1; have O3 : Hid (w1.ownsRow w.heap.size 5 1 v1 (out.length + 1) (out.map Y ++ [Y q])) := hown1; have B3 : Hid (Below w.heap.size w w1) := B2.out.grown hgrow1 B2.out.size (fun k hk => (O2.out.lt k hk).1); clear hown1 hgrow1 hn1)
    go_ret
    exact ⟨⟨v1, rfl, by rw [← E.out, List.map_append, List.length_append]; exact O3.out⟩, B3.out⟩
  · obtain rfl : left = 0 := by omega
    have E : Hid (out = vals s) := vals_none (s := s) (by rw [bs_length]; exact R.out)
    have k0 : ¬ (0 : Int) < ((0 : Nat) : Int) := by omega
    clear hh R
    go_wp2_with fail
    go_ret
    exact ⟨⟨v, rfl, by rw [← E.out]; exact O.out⟩, B.out⟩
end Go.Proofs.Ytlogilmeefcipaa
