/- The first powers of the base, laid down in a map. -/
import Derived.Test.YtckfdpiohkggaabMapKX
import Derived.Maps.OwnOps
import Derived.Deep.CutBlock
import Derived.Deep.DeepCutAuto
set_option linter.unusedSimpArgs false
set_option linter.unusedVariables false
namespace Go.Proofs.Ytckfdpiohkggaab
open Go.RowKit Go.Deep Go.PlainAid Go.Maps

theorem makeMapN (c : Nat) (w : World) : (Instr.makeMap 84 (some (.int .i64 (c : Int)))).run Try.prog w = .ok (.map (some w.heap.size)) (w.alloc (.map #[] 0)) := by
  simp [Instr.makeMap, asInt, asIntOf, IntKind.wrap_i64]
theorem zero3 (w : World) : (zeroValue 3).run Try.prog w = .ok (.int .i64 0) w := by kernel_rfl
theorem ownsMap_same {H : Type} {w w' : World} {P : Program} {k : TypeId} {R : Value → Option (DataW H × List MemPlace)} {b n : Nat} {D : DataW H} (h : w.ownsMap P k R b n D) (e : w'.heap[b]? = w.heap[b]?) : w'.ownsMap P k R b n D := by
  obtain ⟨es, clock, hb, r⟩ := h
  exact ⟨es, clock, by rw [e]; exact hb, r⟩
theorem ownsMap_lt {H : Type} {w : World} {P : Program} {k : TypeId} {R : Value → Option (DataW H × List MemPlace)} {b n : Nat} {D : DataW H} (h : w.ownsMap P k R b n D) : b < w.heap.size := by
  obtain ⟨es, clock, hb, r⟩ := h
  exact (Array.getElem?_eq_some_iff.1 hb).1
theorem ownsMap_below {H : Type} {w w' : World} {P : Program} {k : TypeId} {R : Value → Option (DataW H × List MemPlace)} {b n : Nat} {D : DataW H} (h : w.ownsMap P k R b n D) (hb : Below w.heap.size w w') : w'.ownsMap P k R b n D := ownsMap_same h (hb.block _ (ownsMap_lt h))
theorem ownsMap_but {H : Type} {w w' : World} {P : Program} {k : TypeId} {R : Value → Option (DataW H × List MemPlace)} {b b2 n : Nat} {D : DataW H} (h : w.ownsMap P k R b n D) (hb : But b2 w w') (hne : b ≠ b2) : w'.ownsMap P k R b n D := ownsMap_same h (hb.block _ (ownsMap_lt h) hne)
theorem But.of_grown {w w' : World} {b : Nat} (h : w.grownBy w' (some b)) : But b w w' := ⟨h.os, h.tape, h.output, h.size, fun k hk hne => h.block k hk (fun e => hne (Option.some.inj e))⟩
/-- The base's powers, within and signed. -/
def fpw (M M2 R n : Nat) : Nat := sgn M M2 (2 ^ n * R % M2)
section
variable {z : Int} {G : Array Value} {S Wd M low one sq Ri Wd2 M2 low2 one2 sq2 Ri2 : Nat}
set_option maxRecDepth 100000 in
set_option maxHeartbeats 1500000 in
theorem first_any (k : KD z G S Wd M low one sq Ri Wd2 M2 low2 one2 sq2 Ri2) {w : World} {g : Nat} (F : Hid (GH w g S Wd M low one sq Wd2 M2 low2 one2 sq2)) {count : Nat} (c9 : count ≤ 100000) :
    Calls Try.prog 67 #[.pointer (some ⟨g, 0, none⟩), .int .i64 (count : Int)] w fun e w' => (∃ (bm : Nat) (D : DataW Unit), e = .returned (.tuple #[.map (some bm), A4 (2 ^ count * BB ^ Wd2 % M2)]) ∧ w'.ownsMap Try.prog 41 (plainElem Try.prog 3) bm count D ∧ MapR D (fpw M M2 (BB ^ Wd2)) count) ∧ Below w.heap.size w w' := by
  obtain ⟨R, hR⟩ : ∃ R, R = BB ^ Wd2 := ⟨_, rfl⟩
  rw [← hR]
  have HO : Hid (one2 = 2 ^ 0 * R % M2) := by show _ = _; rw [k.fl2.o, Nat.pow_zero, Nat.one_mul, hR]
  have CS : Hid (∀ W n, GH W g S Wd M low one sq Wd2 M2 low2 one2 sq2 → Calls Try.prog 69 #[.pointer (some ⟨g, 0, none⟩), A4 (2 ^ n * R % M2)] W fun e w' => e = .returned (A4 (fpw M M2 R n)) ∧ Below W.heap.size W w') := fun W n hF => signedA k hF (k.mod2 _)
  have CP : Hid (∀ W n, GH W g S Wd M low one sq Wd2 M2 low2 one2 sq2 → Calls Try.prog 41 #[.pointer (some ⟨g, 15, none⟩), A4 (2 ^ n * R % M2), A4 (2 ^ n * R % M2)] W fun e w' => e = .returned (A4 (2 ^ (n + 1) * R % M2)) ∧ Below W.heap.size W w') := fun W n hF => by
    have q := fplusA hF.fe (k.mod2 (2 ^ n * R)) (k.mod2 (2 ^ n * R)) k.fl2.big
    rw [belowN_mod (k.mod2 _) (k.mod2 _), ← Nat.add_mod, show 2 ^ n * R + 2 ^ n * R = 2 ^ (n + 1) * R by rw [Nat.pow_succ, Nat.mul_comm (2 ^ n) 2, Nat.mul_assoc]; omega] at q
    exact q
  have HF : Hid (∀ n, fpw M M2 R n < BB ^ 4) := fun n => Nat.lt_of_le_of_lt (sgn_le k.m21 (k.mod2 _)) k.big
  clear k hR
  have HM0 : Hid (MapR (.map []) (fpw M M2 R) 0) := MapR.zero _
  have hmk := makeMapN count
  have zr := zero3
  have Jr : Hid (IHolds (w.alloc (.cells #[.int .u64 0, .int .u64 0, .int .u64 0, .int .u64 0] 41)) w.heap.size 41 [.int .u64 0, .int .u64 0, .int .u64 0, .int .u64 0]) := IHolds.new w 41 [.int .u64 0, .int .u64 0, .int .u64 0, .int .u64 0]
  have B : Hid (Below w.heap.size w (w.alloc (.cells #[.int .u64 0, .int .u64 0, .int .u64 0, .int .u64 0] 41))) := nB _ _
  have hgl : g < w.heap.size := F.out.lt
  have HSz : (w.alloc (.cells #[.int .u64 0, .int .u64 0, .int .u64 0, .int .u64 0] 41)).heap.size = w.heap.size + 1 := World.size_alloc _ _
  replace F := aG F B.out
  go_enter Try.func67, Try.ntmps67
  obtain ⟨b0, hb0⟩ : ∃ b, b = w.heap.size := ⟨_, rfl⟩
  have hmk1 := hmk (w.alloc (.cells #[.int .u64 0, .int .u64 0, .int .u64 0, .int .u64 0] 41))
  clear hmk
  rw [HSz] at hmk1
  have OM0 : Hid (((w.alloc (.cells #[.int .u64 0, .int .u64 0, .int .u64 0, .int .u64 0] 41)).alloc (.map #[] 0)).ownsMap Try.prog 41 (plainElem (H := Unit) Try.prog 3) (w.heap.size + 1) 0 (.map [])) := by
    have q := World.ownsMap_made (H := Unit) (w.alloc (.cells #[.int .u64 0, .int .u64 0, .int .u64 0, .int .u64 0] 41)) Try.prog 41 (plainElem Try.prog 3)
    rw [HSz] at q
    exact q
  have hbm := nB (w.alloc (.cells #[.int .u64 0, .int .u64 0, .int .u64 0, .int .u64 0] 41)) (.map #[] 0)
  have HS2 : ((w.alloc (.cells #[.int .u64 0, .int .u64 0, .int .u64 0, .int .u64 0] 41)).alloc (.map #[] 0)).heap.size = w.heap.size + 2 := by rw [World.size_alloc, HSz]
  replace B := aB B hbm
  replace F := aG F hbm
  replace Jr := aJ Jr hbm
  generalize (w.alloc (.cells #[.int .u64 0, .int .u64 0, .int .u64 0, .int .u64 0] 41)).alloc (.map #[] 0) = U1 at *
  have fo0 := F.out.fe.o0
  have fo1 := F.out.fe.o1
  have fo2 := F.out.fe.o2
  have fo3 := F.out.fe.o3
  simp only [Nat.reduceAdd] at fo0 fo1 fo2 fo3
  have hb := nB U1 (.cells #[U (w4 one2 0), U (w4 one2 1), U (w4 one2 2), U (w4 one2 3)] 41)
  have JP : Hid (IHolds (U1.alloc (.cells #[U (w4 one2 0), U (w4 one2 1), U (w4 one2 2), U (w4 one2 3)] 41)) U1.heap.size 41 [U (w4 one2 0), U (w4 one2 1), U (w4 one2 2), U (w4 one2 3)]) := IHolds.new _ _ _
  rw [HS2] at JP
  go_wp2_with fail
  clear fo0 fo1 fo2 fo3 hmk1 hbm
  replace B := aB B hb
  replace F := aG F hb
  replace Jr := aJ Jr hb
  replace OM0 : Hid (World.ownsMap (U1.alloc (.cells #[U (w4 one2 0), U (w4 one2 1), U (w4 one2 2), U (w4 one2 3)] 41)) Try.prog 41 (plainElem (H := Unit) Try.prog 3) (w.heap.size + 1) 0 (.map [])) := ownsMap_below OM0.out hb
  clear hb
  generalize U1.alloc (.cells #[U (w4 one2 0), U (w4 one2 1), U (w4 one2 2), U (w4 one2 3)] 41) = U2 at *
  have hgb : g < b0 := by omega
  rw [← hb0] at JP OM0 Jr ⊢
  have Hb0 : Hid (b0 = w.heap.size) := hb0
  clear hb0 HSz HS2 hgl U1
  go_loopg [20] count (fun gk v20 wr => ∃ (n : Nat) (D : DataW Unit), gk + n = count ∧ v20 = .int .i64 (n : Int) ∧ wr.ownsMap Try.prog 41 (plainElem (H := Unit) Try.prog 3) (b0 + 1) n D ∧ MapR D (fpw M M2 R) n ∧ IHolds wr (b0 + 2) 41 (us (ws4 (2 ^ n * R % M2))) ∧ IHolds wr b0 41 [.int .u64 0, .int .u64 0, .int .u64 0, .int .u64 0] ∧ GH wr g S Wd M low one sq Wd2 M2 low2 one2 sq2 ∧ Below w.heap.size w wr)
  case atStart => exact ⟨0, .map [], by omega, rfl, OM0.out, HM0.out, by rw [← HO.out]; exact JP.out, Jr.out, F.out, B.out⟩
  case round =>
    clear OM0 HM0 JP Jr F B
    obtain ⟨n, D, hi, rfl, hO, hM, hP, hr, hF, hB⟩ := hrel
    obtain ⟨P, hPe⟩ : ∃ P, P = 2 ^ n * R % M2 := ⟨_, rfl⟩
    rw [← hPe] at hP
    have HPe : Hid (P = 2 ^ n * R % M2) := hPe
    have OM1 : Hid (wr.ownsMap Try.prog 41 (plainElem (H := Unit) Try.prog 3) (b0 + 1) n D) := hO
    have HMR : Hid (MapR D (fpw M M2 R) n) := hM
    have JP : Hid (IHolds wr (b0 + 2) 41 (us (ws4 P))) := hP
    have Jr : Hid (IHolds wr b0 41 [.int .u64 0, .int .u64 0, .int .u64 0, .int .u64 0]) := hr
    have F : Hid (GH wr g S Wd M low one sq Wd2 M2 low2 one2 sq2) := hF
    have B : Hid (Below w.heap.size w wr) := hB
    clear hO hM hP hr hF hB
    by_cases hin : n < count
    · have k1 : (n : Int) < (count : Int) := by omega
      obtain ⟨X, hX⟩ : ∃ X, X = fpw M M2 R n := ⟨_, rfl⟩
      have C1 : Hid (∀ W, GH W g S Wd M low one sq Wd2 M2 low2 one2 sq2 → Calls Try.prog 69 #[.pointer (some ⟨g, 0, none⟩), .agg #[U (w4 P 0), U (w4 P 1), U (w4 P 2), U (w4 P 3)]] W fun e w' => e = .returned (.agg #[U (w4 X 0), U (w4 X 1), U (w4 X 2), U (w4 X 3)]) ∧ Below W.heap.size W w') := fun W hF => by
        have q := CS.out W n hF
        rw [← hPe, ← hX] at q
        exact q
      obtain ⟨P2, hP2⟩ : ∃ P, P = 2 ^ (n + 1) * R % M2 := ⟨_, rfl⟩
      have C2 : Hid (∀ W, GH W g S Wd M low one sq Wd2 M2 low2 one2 sq2 → Calls Try.prog 41 #[.pointer (some ⟨g, 15, none⟩), .agg #[U (w4 P 0), U (w4 P 1), U (w4 P 2), U (w4 P 3)], .agg #[U (w4 P 0), U (w4 P 1), U (w4 P 2), U (w4 P 3)]] W fun e w' => e = .returned (.agg #[U (w4 P2 0), U (w4 P2 1), U (w4 P2 2), U (w4 P2 3)]) ∧ Below W.heap.size W w') := fun W hF => by
        have q := CP.out W n hF
        rw [← hPe, ← hP2] at q
        exact q
      have HX : Hid (X = fpw M M2 R n) := hX
      have HP2 : Hid (P2 = 2 ^ (n + 1) * R % M2) := hP2
      have hkey : Hid (keyOf Try.prog 41 (.agg #[U (w4 X 0), U (w4 X 1), U (w4 X 2), U (w4 X 3)]) = some (keyL X)) := keyOf_A4 X
      clear hX hP2 hPe
      obtain ⟨zo0, zo1, zo2, zo3⟩ := holds4 JP.out
      go_wp2_with fail
      clear zo0 zo1 zo2 zo3
      refine (C1.out wr F.out).mono ?_
      rintro e V1 ⟨rfl, hb⟩
      replace B := aB B hb
      replace F := aG F hb
      replace Jr := aJ Jr hb
      replace JP := aJ JP hb
      replace OM1 : Hid (V1.ownsMap Try.prog 41 (plainElem (H := Unit) Try.prog 3) (b0 + 1) n D) := ownsMap_below OM1.out hb
      clear hb C1
      have hb := nB V1 (.cells #[U (w4 X 0), U (w4 X 1), U (w4 X 2), U (w4 X 3)] 41)
      replace B := aB B hb
      replace F := aG F hb
      replace Jr := aJ Jr hb
      replace JP := aJ JP hb
      replace OM1 : Hid (World.ownsMap (V1.alloc (.cells #[U (w4 X 0), U (w4 X 1), U (w4 X 2), U (w4 X 3)] 41)) Try.prog 41 (plainElem (H := Unit) Try.prog 3) (b0 + 1) n D) := ownsMap_below OM1.out hb
      have JK : Hid (IHolds (V1.alloc (.cells #[U (w4 X 0), U (w4 X 1), U (w4 X 2), U (w4 X 3)] 41)) V1.heap.size 41 (us (ws4 X))) := IHolds.new V1 41 _
      clear hb
      obtain ⟨zk0, zk1, zk2, zk3⟩ := holds4 JK.out
      go_upto_if 33 with (at_lookup; refine wpList_lookup_own_ok_int _ rfl _ _ 84 rfl 41 3 .i64 Try.keyed66 Try.underlying84 Try.underlying3 (zr _) (b0 + 1) n D rfl OM1.out _ (keyL X) rfl hkey.out ?_; intro c hat hwc)
      have HGE : Hid (w.heap.size ≤ b0 + 1) := by have := Hb0.out; show _ ≤ _; omega
      go_cut [11, 20] (fun v11 v20 wx => v20 = .int .i64 (n : Int) ∧ ∃ D' : DataW Unit, wx.ownsMap Try.prog 41 (plainElem (H := Unit) Try.prog 3) (b0 + 1) (n + 1) D' ∧ MapR D' (fpw M M2 R) (n + 1) ∧ IHolds wx (b0 + 2) 41 (us (ws4 P)) ∧ IHolds wx b0 41 [.int .u64 0, .int .u64 0, .int .u64 0, .int .u64 0] ∧ GH wx g S Wd M low one sq Wd2 M2 low2 one2 sq2 ∧ Below w.heap.size w wx)
      case first =>
        cases hh : Maps.has D (keyL X)
        · have HMN : Hid (MapR (D.put (keyL X) (.lit (.int .i64 (n : Int)))) (fpw M M2 R) (n + 1)) := by
            have q := HMR.out.new HF.out (by rw [← HX.out]; exact hh)
            rw [← HX.out] at q
            exact q
          clear hat hwc hh
          go_wp2_with (at_mapUpdate; refine wpList_mapUpdate_own _ rfl _ _ _ 84 rfl 41 3 Try.keyed66 Try.underlying84 _ (b0 + 1) n D rfl OM1.out (by unfold maxLen; omega) _ _ (keyL X) rfl rfl hkey.out _ [] (plainElem_int Try.underlying3 (WalkArith.wf_i64 ⟨by omega, by omega⟩)) ?_; intro w1 hown1 hgrow1)
          have hBut := But.of_grown hgrow1
          have B2 : Hid (Below w.heap.size w w1) := B.out.grown hgrow1 B.out.size (fun k hk => by cases hk; exact HGE.out)
          have JP2 := tJ JP hBut (by omega)
          have Jr2 := tJ Jr hBut (by omega)
          have F2 := tG F hBut (by omega)
          have OM2 : Hid (w1.ownsMap Try.prog 41 (plainElem (H := Unit) Try.prog 3) (b0 + 1) (n + 1) (D.put (keyL X) (.lit (.int .i64 (n : Int))))) := hown1
          clear hBut hgrow1 hown1
          try go_wp2_with fail
          go_meet
          case rel => exact ⟨rfl, _, OM2.out, HMN.out, JP2.out, Jr2.out, F2.out, B2.out⟩
        · have HMN : Hid (MapR D (fpw M M2 R) (n + 1)) := HMR.out.there HF.out (by rw [← HX.out]; exact hh)
          clear hat hwc hh
          go_wp2_with fail
          go_meet
          case rel => exact ⟨rfl, D, OM1.out.mono (Nat.le_succ n), HMN.out, JP.out, Jr.out, F.out, B.out⟩
      case rest =>
        obtain ⟨rfl, D', hO, hM, hP, hr, hF, hB⟩ := hcut
        clear OM1 HMR JP Jr F B JK zk0 zk1 zk2 zk3
        have OM1 : Hid (wc.ownsMap Try.prog 41 (plainElem (H := Unit) Try.prog 3) (b0 + 1) (n + 1) D') := hO
        have HMR : Hid (MapR D' (fpw M M2 R) (n + 1)) := hM
        have JP : Hid (IHolds wc (b0 + 2) 41 (us (ws4 P))) := hP
        have Jr : Hid (IHolds wc b0 41 [.int .u64 0, .int .u64 0, .int .u64 0, .int .u64 0]) := hr
        have F : Hid (GH wc g S Wd M low one sq Wd2 M2 low2 one2 sq2) := hF
        have B : Hid (Below w.heap.size w wc) := hB
        clear hO hM hP hr hF hB
        go_wp2_with fail
        have hb := dB wc
        replace B := aB B hb
        replace F := aG F hb
        replace Jr := aJ Jr hb
        replace JP := aJ JP hb
        replace OM1 : Hid (wc.drew.ownsMap Try.prog 41 (plainElem (H := Unit) Try.prog 3) (b0 + 1) (n + 1) D') := ownsMap_below OM1.out hb
        clear hb
        refine wp_region_held_drew (S := fun W => True) (by kernel_rfl) trivial (fun h1 => ?_)
        generalize wc.drew = V2 at *
        refine tk (i := 0) (v := .pointer (some ⟨g, 0, none⟩)) rfl (by kernel_rfl) (fun _ _ _ h => h) rfl ?_ h1 ?_
        · intro W hS; go_simp
        simp only [Act.put, y1, y2, y3, y4, y5, y6, y7]
        refine tk (i := 1) (v := .pointer (some ⟨g, 0, none⟩)) rfl (by kernel_rfl) (fun _ _ _ h => h) rfl ?_ h1 ?_
        · intro W hS; go_simp
        simp only [Act.put, y1, y2, y3, y4, y5, y6, y7]
        refine tk (i := 2) (v := .pointer (some ⟨g, 15, none⟩)) rfl (by kernel_rfl) (fun _ _ _ h => h) rfl ?_ h1 ?_
        · intro W hS; go_simp
        simp only [Act.put, y1, y2, y3, y4, y5, y6, y7]
        refine wpAnyH_ready (rs := [3, 4]) (by kernel_rfl) (by simp) ?_
        refine AllReadyH.cons rfl (fun K hK => ?_) (AllReadyH.cons rfl (fun K hK => ?_) AllReadyH.nil)
        · clear h1
          obtain ⟨zo0, zo1, zo2, zo3⟩ := holds4 JP.out
          go_simp
          refine hK.out _ _ trivial (fun h1 => ?_)
          clear hK K
          try simp only [Act.put, y1, y2, y3, y4, y5, y6, y7]
          refine wpAnyH_ready (rs := [4]) (by kernel_rfl) (by simp) ?_
          refine AllReadyH.cons rfl (fun K hK => ?_) AllReadyH.nil
          clear h1
          go_simp
          clear zo0 zo1 zo2 zo3
          refine hK.out _ _ trivial (fun h1 => ?_)
          clear hK K
          try simp only [Act.put, y1, y2, y3, y4, y5, y6, y7]
          refine wpAnyH_ready (rs := [5]) (by kernel_rfl) (by simp) ?_
          refine AllReadyH.cons rfl (fun K hK => ?_) AllReadyH.nil
          clear h1
          go_simp
          refine (C2.out V2 F.out).mono ?_
          rintro e V3 ⟨rfl, hb⟩
          replace B := aB B hb
          replace F := aG F hb
          replace Jr := aJ Jr hb
          replace JP := aJ JP hb
          replace OM1 : Hid (V3.ownsMap Try.prog 41 (plainElem (H := Unit) Try.prog 3) (b0 + 1) (n + 1) D') := ownsMap_below OM1.out hb
          clear hb
          go_wp2_with fail
          refine hK.out _ _ trivial (fun h1 => ?_)
          clear hK K
          try simp only [Act.put, y1, y2, y3, y4, y5, y6, y7]
          refine wpAnyH_ready (rs := [6]) (by kernel_rfl) (by simp) ?_
          refine AllReadyH.cons rfl (fun K hK => ?_) AllReadyH.nil
          clear h1
          obtain ⟨zo0, zo1, zo2, zo3⟩ := holds4 JP.out
          have f0 := fJ JP
          have hge : w.heap.size ≤ b0 + 2 := by have := Hb0.out; omega
          have hBut : But (b0 + 2) V3 ((((V3.setCell ⟨b0 + 2, 0, none⟩ (U (w4 P2 0))).setCell ⟨b0 + 2, 1, none⟩ (U (w4 P2 1))).setCell ⟨b0 + 2, 2, none⟩ (U (w4 P2 2))).setCell ⟨b0 + 2, 3, none⟩ (U (w4 P2 3))) := ((((But.refl _ V3).setCell 0 _).setCell 1 _).setCell 2 _).setCell 3 _
          have BF : Hid (Below w.heap.size w ((((V3.setCell ⟨b0 + 2, 0, none⟩ (U (w4 P2 0))).setCell ⟨b0 + 2, 1, none⟩ (U (w4 P2 1))).setCell ⟨b0 + 2, 2, none⟩ (U (w4 P2 2))).setCell ⟨b0 + 2, 3, none⟩ (U (w4 P2 3)))) := (((B.out.setCell hge _).setCell hge _).setCell hge _).setCell hge _
          have JF : Hid (IHolds ((((V3.setCell ⟨b0 + 2, 0, none⟩ (U (w4 P2 0))).setCell ⟨b0 + 2, 1, none⟩ (U (w4 P2 1))).setCell ⟨b0 + 2, 2, none⟩ (U (w4 P2 2))).setCell ⟨b0 + 2, 3, none⟩ (U (w4 P2 3))) (b0 + 2) 41 (us (ws4 P2))) := (((JP.out.set 0 _).set 1 _).set 2 _).set 3 _
          replace Jr := tJ Jr hBut (by omega)
          replace F := tG F hBut (by omega)
          replace OM1 : Hid (World.ownsMap ((((V3.setCell ⟨b0 + 2, 0, none⟩ (U (w4 P2 0))).setCell ⟨b0 + 2, 1, none⟩ (U (w4 P2 1))).setCell ⟨b0 + 2, 2, none⟩ (U (w4 P2 2))).setCell ⟨b0 + 2, 3, none⟩ (U (w4 P2 3))) Try.prog 41 (plainElem (H := Unit) Try.prog 3) (b0 + 1) (n + 1) D') := ownsMap_but OM1.out hBut (by omega)
          clear hBut B JP hge
          go_simp
          clear zo0 zo1 zo2 zo3 f0
          generalize ((((V3.setCell ⟨b0 + 2, 0, none⟩ (U (w4 P2 0))).setCell ⟨b0 + 2, 1, none⟩ (U (w4 P2 1))).setCell ⟨b0 + 2, 2, none⟩ (U (w4 P2 2))).setCell ⟨b0 + 2, 3, none⟩ (U (w4 P2 3))) = V4 at *
          refine hK.out _ _ trivial (fun h1 => ?_)
          clear hK K
          try simp only [Act.put, y1, y2, y3, y4, y5, y6, y7]
          refine wpAnyH_done (by kernel_rfl) ?_ _
          clear h1
          go_wp2_with fail
          go_roundg (gk - 1)
          case measure => omega
          case rel => exact ⟨n + 1, D', by omega, by first | rfl | go_num, OM1.out, HMR.out, by rw [← HP2.out]; exact JF.out, Jr.out, F.out, BF.out⟩
        · clear h1
          obtain ⟨zo0, zo1, zo2, zo3⟩ := holds4 JP.out
          go_simp
          refine hK.out _ _ trivial (fun h1 => ?_)
          clear hK K
          try simp only [Act.put, y1, y2, y3, y4, y5, y6, y7]
          refine wpAnyH_ready (rs := [3]) (by kernel_rfl) (by simp) ?_
          refine AllReadyH.cons rfl (fun K hK => ?_) AllReadyH.nil
          clear h1
          go_simp
          clear zo0 zo1 zo2 zo3
          refine hK.out _ _ trivial (fun h1 => ?_)
          clear hK K
          try simp only [Act.put, y1, y2, y3, y4, y5, y6, y7]
          refine wpAnyH_ready (rs := [5]) (by kernel_rfl) (by simp) ?_
          refine AllReadyH.cons rfl (fun K hK => ?_) AllReadyH.nil
          clear h1
          go_simp
          refine (C2.out V2 F.out).mono ?_
          rintro e V3 ⟨rfl, hb⟩
          replace B := aB B hb
          replace F := aG F hb
          replace Jr := aJ Jr hb
          replace JP := aJ JP hb
          replace OM1 : Hid (V3.ownsMap Try.prog 41 (plainElem (H := Unit) Try.prog 3) (b0 + 1) (n + 1) D') := ownsMap_below OM1.out hb
          clear hb
          go_wp2_with fail
          refine hK.out _ _ trivial (fun h1 => ?_)
          clear hK K
          try simp only [Act.put, y1, y2, y3, y4, y5, y6, y7]
          refine wpAnyH_ready (rs := [6]) (by kernel_rfl) (by simp) ?_
          refine AllReadyH.cons rfl (fun K hK => ?_) AllReadyH.nil
          clear h1
          obtain ⟨zo0, zo1, zo2, zo3⟩ := holds4 JP.out
          have f0 := fJ JP
          have hge : w.heap.size ≤ b0 + 2 := by have := Hb0.out; omega
          have hBut : But (b0 + 2) V3 ((((V3.setCell ⟨b0 + 2, 0, none⟩ (U (w4 P2 0))).setCell ⟨b0 + 2, 1, none⟩ (U (w4 P2 1))).setCell ⟨b0 + 2, 2, none⟩ (U (w4 P2 2))).setCell ⟨b0 + 2, 3, none⟩ (U (w4 P2 3))) := ((((But.refl _ V3).setCell 0 _).setCell 1 _).setCell 2 _).setCell 3 _
          have BF : Hid (Below w.heap.size w ((((V3.setCell ⟨b0 + 2, 0, none⟩ (U (w4 P2 0))).setCell ⟨b0 + 2, 1, none⟩ (U (w4 P2 1))).setCell ⟨b0 + 2, 2, none⟩ (U (w4 P2 2))).setCell ⟨b0 + 2, 3, none⟩ (U (w4 P2 3)))) := (((B.out.setCell hge _).setCell hge _).setCell hge _).setCell hge _
          have JF : Hid (IHolds ((((V3.setCell ⟨b0 + 2, 0, none⟩ (U (w4 P2 0))).setCell ⟨b0 + 2, 1, none⟩ (U (w4 P2 1))).setCell ⟨b0 + 2, 2, none⟩ (U (w4 P2 2))).setCell ⟨b0 + 2, 3, none⟩ (U (w4 P2 3))) (b0 + 2) 41 (us (ws4 P2))) := (((JP.out.set 0 _).set 1 _).set 2 _).set 3 _
          replace Jr := tJ Jr hBut (by omega)
          replace F := tG F hBut (by omega)
          replace OM1 : Hid (World.ownsMap ((((V3.setCell ⟨b0 + 2, 0, none⟩ (U (w4 P2 0))).setCell ⟨b0 + 2, 1, none⟩ (U (w4 P2 1))).setCell ⟨b0 + 2, 2, none⟩ (U (w4 P2 2))).setCell ⟨b0 + 2, 3, none⟩ (U (w4 P2 3))) Try.prog 41 (plainElem (H := Unit) Try.prog 3) (b0 + 1) (n + 1) D') := ownsMap_but OM1.out hBut (by omega)
          clear hBut B JP hge
          go_simp
          clear zo0 zo1 zo2 zo3 f0
          generalize ((((V3.setCell ⟨b0 + 2, 0, none⟩ (U (w4 P2 0))).setCell ⟨b0 + 2, 1, none⟩ (U (w4 P2 1))).setCell ⟨b0 + 2, 2, none⟩ (U (w4 P2 2))).setCell ⟨b0 + 2, 3, none⟩ (U (w4 P2 3))) = V4 at *
          refine hK.out _ _ trivial (fun h1 => ?_)
          clear hK K
          try simp only [Act.put, y1, y2, y3, y4, y5, y6, y7]
          refine wpAnyH_done (by kernel_rfl) ?_ _
          clear h1
          go_wp2_with fail
          go_roundg (gk - 1)
          case measure => omega
          case rel => exact ⟨n + 1, D', by omega, by first | rfl | go_num, OM1.out, HMR.out, by rw [← HP2.out]; exact JF.out, Jr.out, F.out, BF.out⟩
    · have k1 : ¬ (n : Int) < (count : Int) := by omega
      have en : n = count := by omega
      subst en
      clear hPe
      go_wp2_with fail
      have hb := dB wr
      replace B := aB B hb
      replace Jr := aJ Jr hb
      replace JP := aJ JP hb
      replace OM1 : Hid (wr.drew.ownsMap Try.prog 41 (plainElem (H := Unit) Try.prog 3) (b0 + 1) n D) := ownsMap_below OM1.out hb
      clear hb
      refine wp_region_held_drew (S := fun W => IHolds W (b0 + 2) 41 (us (ws4 P))) (by kernel_rfl) JP.out (fun h1 => ?_)
      generalize wr.drew = V2 at *
      refine tk (i := 0) (v := .map (some (b0 + 1))) rfl (by kernel_rfl) (fun _ _ _ h => h) rfl ?_ h1 ?_
      · intro W hS; go_simp
      simp only [Act.put, y1, y2, y3, y4, y5, y6, y7]
      refine tk (i := 1) (v := .agg #[U (w4 P 0), U (w4 P 1), U (w4 P 2), U (w4 P 3)]) rfl (by kernel_rfl) (fun _ _ _ h => h) rfl ?_ h1 ?_
      · intro W hS; obtain ⟨zo0, zo1, zo2, zo3⟩ := holds4 hS; go_simp
      simp only [Act.put, y1, y2, y3, y4, y5, y6, y7]
      refine tk (i := 2) (v := .map (some (b0 + 1))) rfl (by kernel_rfl) (fun _ _ _ h => h) rfl ?_ h1 ?_
      · intro W hS; go_simp
      simp only [Act.put, y1, y2, y3, y4, y5, y6, y7]
      refine wpAnyH_ready (rs := [3]) (by kernel_rfl) (by simp) ?_
      refine AllReadyH.cons rfl (fun K hK => ?_) AllReadyH.nil
      clear h1
      have zr0 := IHolds.cell Jr.out 0 (by simp)
      have zr1 := IHolds.cell Jr.out 1 (by simp)
      have zr2 := IHolds.cell Jr.out 2 (by simp)
      have zr3 := IHolds.cell Jr.out 3 (by simp)
      simp only [List.getElem_cons_zero, List.getElem_cons_succ] at zr0 zr1 zr2 zr3
      have f0 := fJ Jr
      have hge : w.heap.size ≤ b0 := by have := Hb0.out; omega
      have hBut : But b0 V2 ((((V2.setCell ⟨b0, 0, none⟩ (U (w4 P 0))).setCell ⟨b0, 1, none⟩ (U (w4 P 1))).setCell ⟨b0, 2, none⟩ (U (w4 P 2))).setCell ⟨b0, 3, none⟩ (U (w4 P 3))) := ((((But.refl _ V2).setCell 0 _).setCell 1 _).setCell 2 _).setCell 3 _
      have BF : Hid (Below w.heap.size w ((((V2.setCell ⟨b0, 0, none⟩ (U (w4 P 0))).setCell ⟨b0, 1, none⟩ (U (w4 P 1))).setCell ⟨b0, 2, none⟩ (U (w4 P 2))).setCell ⟨b0, 3, none⟩ (U (w4 P 3)))) := (((B.out.setCell hge _).setCell hge _).setCell hge _).setCell hge _
      have JF : Hid (IHolds ((((V2.setCell ⟨b0, 0, none⟩ (U (w4 P 0))).setCell ⟨b0, 1, none⟩ (U (w4 P 1))).setCell ⟨b0, 2, none⟩ (U (w4 P 2))).setCell ⟨b0, 3, none⟩ (U (w4 P 3))) b0 41 (us (ws4 P))) := (((Jr.out.set 0 _).set 1 _).set 2 _).set 3 _
      replace JP := tJ JP hBut (by omega)
      replace OM1 : Hid (World.ownsMap ((((V2.setCell ⟨b0, 0, none⟩ (U (w4 P 0))).setCell ⟨b0, 1, none⟩ (U (w4 P 1))).setCell ⟨b0, 2, none⟩ (U (w4 P 2))).setCell ⟨b0, 3, none⟩ (U (w4 P 3))) Try.prog 41 (plainElem (H := Unit) Try.prog 3) (b0 + 1) n D) := ownsMap_but OM1.out hBut (by omega)
      clear hBut B Jr hge
      go_simp
      clear zr0 zr1 zr2 zr3 f0
      generalize ((((V2.setCell ⟨b0, 0, none⟩ (U (w4 P 0))).setCell ⟨b0, 1, none⟩ (U (w4 P 1))).setCell ⟨b0, 2, none⟩ (U (w4 P 2))).setCell ⟨b0, 3, none⟩ (U (w4 P 3))) = V4 at *
      refine hK.out _ _ JP.out (fun h1 => ?_)
      clear hK K
      try simp only [Act.put, y1, y2, y3, y4, y5, y6, y7]
      refine wpAnyH_done (by kernel_rfl) ?_ _
      clear h1
      go_wp2_with fail
      obtain ⟨E0, E1, E2, E3⟩ := holds4 JF.out
      exact bodyPost_ret (v := .tuple #[.map (some (b0 + 1)), .agg #[U (w4 P 0), U (w4 P 1), U (w4 P 2), U (w4 P 3)]]) (by simp [results, Try.results67, go_sem, E0, E1, E2, E3]) rfl ⟨⟨b0 + 1, D, by rw [← HPe.out]; rfl, OM1.out, HMR.out⟩, BF.out⟩
end
end Go.Proofs.Ytckfdpiohkggaab
