/- Lists of lists are read. The talk of sets; the sum of scalars. A proof of sets fits. Verify of sets. -/
import Derived.Test.YtmpiipcllgjhdaaGreatDoorY21
set_option linter.unusedSimpArgs false
set_option linter.unusedVariables false
set_option maxRecDepth 100000
namespace Go.Proofs.YtmpiipcllgjhdaaGreatDoor
open Go.RowKit Go.Deep Go.PlainAid

def ReadR (p : ByteArray → Bool) (z : Int) (qa : Nat → Option Addr) (qc : Nat → Nat) (L : List (List Cl)) (e : Ending) (w' : World) : Prop :=
  ((∀ l ∈ L, OkC p l) ∧ ∃ b, e = .returned (.tuple #[.slice (some ⟨b, 0, none⟩) L.length L.length, .int .i64 0]) ∧ IHolds w' b 53 (rowS z qa qc L L.length)) ∨ ((¬ ∀ l ∈ L, OkC p l) ∧ ∃ k, Bad k ∧ e = .returned (.tuple #[.slice none 0 0, .int .i64 k]))
set_option maxHeartbeats 4000000 in
theorem read54 {w : World} {a : Option Addr} {qa : Nat → Option Addr} {qc : Nat → Nat} {L : List (List Cl)} {c : Nat} {z : Int} {p : ByteArray → Bool} (hl : L.length ≤ 16) (hs : LQ w a qa qc L)
    (C40 : ∀ i (h : i < L.length) W, Below w.heap.size w W → Calls Tryz.prog 40 #[.agg #[.int .i64 z], .slice (qa i) (L[i]).length (qc i)] W fun e w' => SetR p z (qa i) L[i] (qc i) e ∧ Below W.heap.size W w') :
    Calls Tryz.prog 54 #[.slice a L.length c, .func (.func 40) #[.agg #[.int .i64 z]] #[]] w fun e w' => ReadR p z qa qc L e w' ∧ Below w.heap.size w w' := by
  have HS : Hid (LQ w a qa qc L) := hs
  have HF : Hid (∀ i (h : i < L.length) W, Below w.heap.size w W → Calls Tryz.prog 40 #[.agg #[.int .i64 z], .slice (qa i) (L[i]).length (qc i)] W fun e w' => SetR p z (qa i) L[i] (qc i) e ∧ Below W.heap.size W w') := C40
  have hmk := make63 L.length (by omega) z qa qc L rfl w
  have JI : Hid (IHolds (w.alloc (.cells (rowS z qa qc L 0).toArray 53)) w.heap.size 53 (rowS z qa qc L 0)) := IHolds.new _ _ _
  have JB : Hid (Below w.heap.size w (w.alloc (.cells (rowS z qa qc L 0).toArray 53))) := (Below.refl _ w).alloc (Nat.le_refl _) _
  clear hs C40
  go_enter Tryz.func54, Tryz.ntmps54
  generalize w.alloc (.cells (rowS z qa qc L 0).toArray 53) = U at *
  go_wp2_with fail
  go_loopg [7, 8, 9, 15] L.length (fun gk v7 v8 v9 v15 wr => ∃ i : Nat, i + gk = L.length ∧ v15 = .int .i64 (i : Int) ∧ (∀ j (h : j < L.length), j < i → OkC p L[j]) ∧ Below w.heap.size w wr ∧ IHolds wr w.heap.size 53 (rowS z qa qc L i))
  case atStart => exact ⟨0, by omega, rfl, fun j h h0 => by omega, JB.out, JI.out⟩
  case round =>
    obtain ⟨i, hig, rfl, hO, hB, hI⟩ := hrel
    have B : Hid (Below w.heap.size w wr) := hB
    have O : Hid (∀ j (h : j < L.length), j < i → OkC p L[j]) := hO
    have I : Hid (IHolds wr w.heap.size 53 (rowS z qa qc L i)) := hI
    clear hB hI hO JI JB hmk
    by_cases hi : i < L.length
    · have il : (i : Int) < (L.length : Int) := by omega
      obtain ⟨b1, o1, rfl, h1, _⟩ := HS.out.of_below B.out i hi
      have hcall : Hid (Calls Tryz.prog 40 #[.agg #[.int .i64 z], .slice (qa i) (L[i]).length (qc i)] wr fun e w' => SetR p z (qa i) L[i] (qc i) e ∧ Below wr.heap.size wr w') := HF.out i hi wr B.out
      have HR : Hid (((rowS z qa qc L i).set (i * 2) (.int .i64 z)).set (i * 2 + 1) (.slice (qa i) (L[i]).length (qc i)) = rowS z qa qc L (i + 1)) := rowS_set hi
      have HN : Hid (∀ l, l = L[i] → l ∈ L) := fun l e => by rw [e]; exact List.getElem_mem hi
      have HO : Hid (OkC p L[i] → ∀ j (h : j < L.length), j < i + 1 → OkC p L[j]) := fun o j h hj => by
        by_cases e : j = i
        · subst e; exact o
        · exact O.out j h (by omega)
      clear O HF HS
      have HL : Hid ((rowS z qa qc L i).length = L.length * 2) := rowS_len _ _ _ _ _
      generalize rowS z qa qc L i = R at *
      generalize hR' : rowS z qa qc L (i + 1) = R' at *
      generalize L[i] = l at *
      have hlen : l.length = l.length := rfl
      generalize hm : l.length = m at *
      generalize qa i = ai at *
      generalize qc i = ci at *
      have PX : Hid (∀ w3, Below wr.heap.size wr w3 → IHolds w3 w.heap.size 53 R ∧ (∃ x, w3.cell? ⟨w.heap.size, i * 2, none⟩ = some x) ∧ (∃ x, w3.cell? ⟨w.heap.size, i * 2 + 1, none⟩ = some x)) := fun w3 hB => by
        have h := I.out.of_below hB
        have hh := HL.out
        exact ⟨h, ⟨_, h.cell (i * 2) (by omega)⟩, ⟨_, h.cell (i * 2 + 1) (by omega)⟩⟩
      by_cases ok : OkC p l
      · have hc2 : Hid (Calls Tryz.prog 40 #[.agg #[.int .i64 z], .slice ai m ci] wr fun e w' => e = .returned (.tuple #[.agg #[.int .i64 z, .slice ai m ci], .int .i64 0]) ∧ Below wr.heap.size wr w') := (hcall.out).mono fun e w' ⟨h, hB⟩ => by
          rcases h with ⟨_, h⟩ | ⟨h, _⟩
          · rw [hm] at h; exact ⟨h, hB⟩
          · exact absurd ok h
        clear hcall hm hlen
        go_wp2_with (go_at_call 40; refine (hc2.out).mono ?_; rintro e w3 ⟨rfl, hB3⟩; obtain ⟨hI3, ⟨x0, q0⟩, ⟨x1, q1⟩⟩ := PX.out _ hB3; have I3 : Hid (IHolds w3 w.heap.size 53 R) := hI3; have B3 : Hid (Below w.heap.size w w3) := B.out.trans (hB3.mono B.out.size); have f3 := hI3.frozen; clear hB3 hI3 PX hc2 I B h1)
        have I9 : Hid (IHolds ((w3.setCell ⟨w.heap.size, i * 2, none⟩ (.int .i64 z)).setCell ⟨w.heap.size, i * 2 + 1, none⟩ (.slice ai m ci)) w.heap.size 53 R') := by rw [← HR.out]; exact (I3.out.set _ _).set _ _
        have B9 : Hid (Below w.heap.size w ((w3.setCell ⟨w.heap.size, i * 2, none⟩ (.int .i64 z)).setCell ⟨w.heap.size, i * 2 + 1, none⟩ (.slice ai m ci))) := (B3.out.setCell (Nat.le_refl _) _).setCell (Nat.le_refl _) _
        generalize (w3.setCell ⟨w.heap.size, i * 2, none⟩ (.int .i64 z)).setCell ⟨w.heap.size, i * 2 + 1, none⟩ (.slice ai m ci) = w9 at *
        clear q0 q1 f3 I3 B3
        go_roundg (gk - 1)
        case measure => omega
        case rel => exact ⟨i + 1, by omega, by go_num, HO.out ok, B9.out, by rw [hR']; exact I9.out⟩
      · have hc2 : Hid (Calls Tryz.prog 40 #[.agg #[.int .i64 z], .slice ai m ci] wr fun e w' => (∃ k, (k != (0 : Int)) = true ∧ Bad k ∧ e = .returned (.tuple #[.agg #[.int .i64 0, .slice none 0 0], .int .i64 k])) ∧ Below wr.heap.size wr w') := (hcall.out).mono fun e w' ⟨h, hB⟩ => by
          rcases h with ⟨h, _⟩ | ⟨_, k, hk, h⟩
          · exact absurd h ok
          · exact ⟨⟨k, by rcases hk with rfl | rfl | rfl <;> rfl, hk, h⟩, hB⟩
        clear hcall hm hlen
        go_wp2_with (go_at_call 40; refine (hc2.out).mono ?_; rintro e w3 ⟨⟨k, hk0, hk, rfl⟩, hB3⟩; obtain ⟨hI3, ⟨x0, q0⟩, ⟨x1, q1⟩⟩ := PX.out _ hB3; have KK : Hid (Bad k) := hk; have B3 : Hid (Below w.heap.size w w3) := B.out.trans (hB3.mono B.out.size); have f3 := hI3.frozen; clear hk hB3 hI3 PX hc2 I B h1)
        have B9 : Hid (Below w.heap.size w ((w3.setCell ⟨w.heap.size, i * 2, none⟩ (.int .i64 0)).setCell ⟨w.heap.size, i * 2 + 1, none⟩ (.slice none 0 0))) := (B3.out.setCell (Nat.le_refl _) _).setCell (Nat.le_refl _) _
        generalize (w3.setCell ⟨w.heap.size, i * 2, none⟩ (.int .i64 0)).setCell ⟨w.heap.size, i * 2 + 1, none⟩ (.slice none 0 0) = w9 at *
        exact bodyPost_ret (v := .tuple #[.slice none 0 0, .int .i64 k]) (by simp [results, Tryz.results54, go_sem]) rfl ⟨Or.inr ⟨fun h => ok (h l (HN.out l rfl)), k, KK.out, rfl⟩, B9.out⟩
    · have il : ¬ (i : Int) < (L.length : Int) := by omega
      have e : i = L.length := by omega
      subst e
      go_wp2_with fail
      refine bodyPost_ret (v := .tuple #[.slice (some ⟨w.heap.size, 0, none⟩) L.length L.length, .int .i64 0]) (by simp [results, Tryz.results54, go_sem]) rfl ?_
      refine ⟨Or.inl ⟨fun l hl => ?_, _, rfl, I.out⟩, B.out⟩
      obtain ⟨j, hj, rfl⟩ := List.getElem_of_mem hl
      exact O.out j hj hj
def SetsR (p : ByteArray → Bool) (z : Int) (qa : Nat → Option Addr) (qc : Nat → Nat) (L : List (List Cl)) (e : Ending) (w' : World) : Prop :=
  ((∀ l ∈ L, OkC p l) ∧ ∃ b, e = .returned (.tuple #[.agg #[.int .i64 z, .slice (some ⟨b, 0, none⟩) L.length L.length], .int .i64 0]) ∧ IHolds w' b 53 (rowS z qa qc L L.length)) ∨ ((¬ ∀ l ∈ L, OkC p l) ∧ ∃ k, Bad k ∧ e = .returned (.tuple #[.agg #[.int .i64 z, .slice none 0 0], .int .i64 k]))
set_option maxHeartbeats 2000000 in
theorem setsOf26 {w : World} {a : Option Addr} {qa : Nat → Option Addr} {qc : Nat → Nat} {L : List (List Cl)} {c : Nat} {z : Int} {p : ByteArray → Bool} (h0 : 0 < L.length) (hl : L.length ≤ 16)
    (C39 : ∀ W, Calls Tryz.prog 39 #[.int .i64 z] W fun e w' => e = .returned (.tuple #[.agg #[.int .i64 z], .int .i64 0]) ∧ Below W.heap.size W w')
    (C54 : ∀ W, Below w.heap.size w W → Calls Tryz.prog 54 #[.slice a L.length c, .func (.func 40) #[.agg #[.int .i64 z]] #[]] W fun e w' => ReadR p z qa qc L e w' ∧ Below W.heap.size W w') :
    Calls Tryz.prog 26 #[.int .i64 z, .slice a L.length c] w fun e w' => SetsR p z qa qc L e w' ∧ Below w.heap.size w w' := by
  obtain ⟨U, hU⟩ : ∃ U, U = w.alloc (.cells #[.int .i64 0, .slice none 0 0] 65) := ⟨_, rfl⟩
  have BU : Hid (Below w.heap.size w U) := by rw [hU]; exact (Below.refl _ _).alloc (Nat.le_refl _) _
  have IU : Hid (IHolds U w.heap.size 65 [.int .i64 0, .slice none 0 0]) := by rw [hU]; exact IHolds.new _ _ _
  have HG : Hid (∀ W, Calls Tryz.prog 39 #[.int .i64 z] W fun e w' => e = .returned (.tuple #[.agg #[.int .i64 z], .int .i64 0]) ∧ Below W.heap.size W w') := C39
  have HR : Hid (∀ W, Below w.heap.size w W → Calls Tryz.prog 54 #[.slice a L.length c, .func (.func 40) #[.agg #[.int .i64 z]] #[]] W fun e w' => ReadR p z qa qc L e w' ∧ Below W.heap.size W w') := C54
  have g1 : ¬ (16 : Int) < (L.length : Int) := by omega
  have g2 : ((L.length : Int) == 0) = false := beq_eq_false_iff_ne.2 (by omega)
  clear C39 C54
  go_enter Tryz.func26, Tryz.ntmps26
  go_upto_region 8 with (go_at_call 39; rw [← hU]; refine (HG.out _).mono ?_; rintro e V1 ⟨rfl, hB⟩; have B1 : Hid (Below w.heap.size w V1) := BU.out.trans (hB.mono BU.out.size); have I1 : Hid (IHolds V1 w.heap.size 65 [.int .i64 0, .slice none 0 0]) := IU.out.of_below hB; clear hB HG BU IU hU)
  obtain ⟨X, hX⟩ : ∃ X, X = V1.alloc (.cells #[.int .i64 z] 51) := ⟨_, rfl⟩
  have BX0 : Hid (Below V1.heap.size V1 X) := by rw [hX]; exact (Below.refl _ _).alloc (Nat.le_refl _) _
  have IX : Hid (IHolds X V1.heap.size 51 [.int .i64 z]) := by rw [hX]; exact IHolds.new _ _ _
  have BX : Hid (Below w.heap.size w X) := B1.out.trans (BX0.out.mono B1.out.size)
  have I2 : Hid (IHolds X w.heap.size 65 [.int .i64 0, .slice none 0 0]) := I1.out.of_below BX0.out
  rw [← hX]
  have c0 := IX.out.cell 0 (by simp)
  generalize V1.heap.size = b1 at *
  clear hX BX0 I1 B1
  by_cases ok : ∀ l ∈ L, OkC p l
  · have hc : Hid (Calls Tryz.prog 54 #[.slice a L.length c, .func (.func 40) #[.agg #[.int .i64 z]] #[]] X fun e w' => (∃ b, e = .returned (.tuple #[.slice (some ⟨b, 0, none⟩) L.length L.length, .int .i64 0]) ∧ IHolds w' b 53 (rowS z qa qc L L.length)) ∧ Below X.heap.size X w') := (HR.out X BX.out).mono fun e w' ⟨h, hB⟩ => by
      rcases h with ⟨_, h⟩ | ⟨h, _⟩
      · exact ⟨h, hB⟩
      · exact absurd ok h
    clear HR
    go_wp2_with (go_at_call 54; refine (hc.out).mono ?_; rintro e V3 ⟨⟨b, rfl, hI⟩, hB⟩; have J3 : Hid (IHolds V3 b 53 (rowS z qa qc L L.length)) := hI; clear hI; have B3 : Hid (Below w.heap.size w V3) := BX.out.trans (hB.mono BX.out.size); have I3 : Hid (IHolds V3 w.heap.size 65 [.int .i64 0, .slice none 0 0]) := I2.out.of_below hB; have q1 := (IX.out.of_below hB).cell 0 (by simp); have r0 := I3.out.cell 0 (by simp); have r1 := I3.out.cell 1 (by simp); have f3 := I3.out.frozen; clear hB hc BX I2 c0)
    have NE : Hid (b ≠ w.heap.size) := by have h1 := I3.out; have h2 := J3.out; unfold IHolds at h1 h2; show _ ≠ _; rintro rfl; rw [h1] at h2; simp at h2
    have I9 : Hid (IHolds ((V3.setCell ⟨w.heap.size, 0, none⟩ (.int .i64 z)).setCell ⟨w.heap.size, 1, none⟩ (.slice (some ⟨b, 0, none⟩) L.length L.length)) w.heap.size 65 [.int .i64 z, (.slice (some ⟨b, 0, none⟩) L.length L.length)]) := (I3.out.set 0 (.int .i64 z)).set 1 (.slice (some ⟨b, 0, none⟩) L.length L.length)
    have B9 : Hid (Below w.heap.size w ((V3.setCell ⟨w.heap.size, 0, none⟩ (.int .i64 z)).setCell ⟨w.heap.size, 1, none⟩ (.slice (some ⟨b, 0, none⟩) L.length L.length))) := (B3.out.setCell (Nat.le_refl _) _).setCell (Nat.le_refl _) _
    have J9 : Hid (IHolds ((V3.setCell ⟨w.heap.size, 0, none⟩ (.int .i64 z)).setCell ⟨w.heap.size, 1, none⟩ (.slice (some ⟨b, 0, none⟩) L.length L.length)) b 53 (rowS z qa qc L L.length)) := (J3.out.store NE.out 0 _).store NE.out 1 _
    generalize (V3.setCell ⟨w.heap.size, 0, none⟩ (.int .i64 z)).setCell ⟨w.heap.size, 1, none⟩ (.slice (some ⟨b, 0, none⟩) L.length L.length) = w9 at *
    have E0 : w9.cell? ⟨w.heap.size, 0, none⟩ = some (.int .i64 z) := I9.out.cell 0 (by simp)
    have E1 : w9.cell? ⟨w.heap.size, 1, none⟩ = some (.slice (some ⟨b, 0, none⟩) L.length L.length) := I9.out.cell 1 (by simp)
    exact bodyPost_ret (v := .tuple #[.agg #[.int .i64 z, (.slice (some ⟨b, 0, none⟩) L.length L.length)], .int .i64 0]) (by simp [results, Tryz.results26, go_sem, E0, E1]) rfl ⟨Or.inl ⟨ok, b, rfl, J9.out⟩, B9.out⟩
  · have hc : Hid (Calls Tryz.prog 54 #[.slice a L.length c, .func (.func 40) #[.agg #[.int .i64 z]] #[]] X fun e w' => (∃ k, Bad k ∧ e = .returned (.tuple #[.slice none 0 0, .int .i64 k])) ∧ Below X.heap.size X w') := (HR.out X BX.out).mono fun e w' ⟨h, hB⟩ => by
      rcases h with ⟨h, _⟩ | ⟨_, h⟩
      · exact absurd h ok
      · exact ⟨h, hB⟩
    clear HR
    go_wp2_with (go_at_call 54; refine (hc.out).mono ?_; rintro e V3 ⟨⟨k, hk, rfl⟩, hB⟩; have KK : Hid (Bad k) := hk; clear hk; have B3 : Hid (Below w.heap.size w V3) := BX.out.trans (hB.mono BX.out.size); have I3 : Hid (IHolds V3 w.heap.size 65 [.int .i64 0, .slice none 0 0]) := I2.out.of_below hB; have q1 := (IX.out.of_below hB).cell 0 (by simp); have r0 := I3.out.cell 0 (by simp); have r1 := I3.out.cell 1 (by simp); have f3 := I3.out.frozen; clear hB hc BX I2 c0)
    skip
    have I9 : Hid (IHolds ((V3.setCell ⟨w.heap.size, 0, none⟩ (.int .i64 z)).setCell ⟨w.heap.size, 1, none⟩ (.slice none 0 0)) w.heap.size 65 [.int .i64 z, (.slice none 0 0)]) := (I3.out.set 0 (.int .i64 z)).set 1 (.slice none 0 0)
    have B9 : Hid (Below w.heap.size w ((V3.setCell ⟨w.heap.size, 0, none⟩ (.int .i64 z)).setCell ⟨w.heap.size, 1, none⟩ (.slice none 0 0))) := (B3.out.setCell (Nat.le_refl _) _).setCell (Nat.le_refl _) _
    generalize (V3.setCell ⟨w.heap.size, 0, none⟩ (.int .i64 z)).setCell ⟨w.heap.size, 1, none⟩ (.slice none 0 0) = w9 at *
    have E0 : w9.cell? ⟨w.heap.size, 0, none⟩ = some (.int .i64 z) := I9.out.cell 0 (by simp)
    have E1 : w9.cell? ⟨w.heap.size, 1, none⟩ = some (.slice none 0 0) := I9.out.cell 1 (by simp)
    exact bodyPost_ret (v := .tuple #[.agg #[.int .i64 z, (.slice none 0 0)], .int .i64 k]) (by simp [results, Tryz.results26, go_sem, E0, E1]) rfl ⟨Or.inr ⟨ok, k, KK.out, rfl⟩, B9.out⟩
end Go.Proofs.YtmpiipcllgjhdaaGreatDoor
namespace Go.Proofs.YtmpiipcllgjhdaaGreatDoor
open Go.RowKit Go.Deep Go.PlainAid

theorem rowS_cells {w : World} {b : Nat} {z : Int} {qa : Nat → Option Addr} {qc : Nat → Nat} {L : List (List Cl)} (h : IHolds w b 53 (rowS z qa qc L L.length)) {i : Nat} (hi : i < L.length) : w.cell? ⟨b, i * 2, none⟩ = some (.int .i64 z) ∧ w.cell? ⟨b, i * 2 + 1, none⟩ = some (.slice (qa i) (L[i]).length (qc i)) := by
  have h1 := h.cell (i * 2) (by rw [rowS_len]; omega)
  have h2 := h.cell (i * 2 + 1) (by rw [rowS_len]; omega)
  have d : (i * 2 + 1) / 2 = i := by omega
  have m : ¬ (i * 2 + 1) % 2 = 0 := by omega
  refine ⟨?_, ?_⟩
  · rw [h1]; simp [rowS, valS, show i * 2 < L.length * 2 by omega]
  · rw [h2]; simp [rowS, valS, d, m, hi, show i * 2 + 1 < L.length * 2 by omega]
def setB : ByteArray := ⟨#[115, 101, 116]⟩
def eitB : ByteArray := ⟨#[101, 105, 116, 104, 101, 114]⟩
def eit1 (s : ByteArray) (l : List Cl) : ByteArray := telS l (sy s setB ⟨#[kb (l.length : Int)]⟩)
def eitS (L : List (List Cl)) (s : ByteArray) : ByteArray := L.foldl eit1 s
theorem eitS_take {L : List (List Cl)} {i : Nat} (h : i < L.length) (s : ByteArray) : eitS (L.take (i + 1)) s = eit1 (eitS (L.take i) s) L[i] := by
  unfold eitS
  rw [List.take_succ_eq_append_getElem h, List.foldl_append]
  rfl
theorem eitS_size {L : List (List Cl)} {s : ByteArray} (h : s.size = 32) : (eitS L s).size = 32 := by
  unfold eitS
  induction L generalizing s with
  | nil => exact h
  | cons l L ih => exact ih (telS_size (sy_size _ _ _))
set_option maxHeartbeats 2000000 in
theorem talk55 {w : World} {z : Int} {b c : Nat} {qa : Nat → Option Addr} {qc : Nat → Nat} {L : List (List Cl)} {label : ByteArray} (hL : L.length ≤ 16) (hT : TT w) (hlb : label.size < 1125899906842624) (hI : IHolds w b 53 (rowS z qa qc L L.length)) (hC : ∀ i (h : i < L.length), CK w (qa i) L[i]) (hm : ∀ i (h : i < L.length), (L[i]).length ≤ 64)
    (hz : ∀ i (h : i < L.length) j (h' : j < (L[i]).length), Zl ((L[i])[j]).1 ∧ Zl ((L[i])[j]).2) :
    Calls Tryz.prog 55 #[.agg #[.int .i64 z, .slice (some ⟨b, 0, none⟩) L.length c], .string label] w fun e w' => ∃ tb, e = .returned (.pointer (some ⟨tb, 0, none⟩)) ∧ TW w.heap.size w w' tb (eitS L (st0 z eitB label)) := by
  obtain ⟨U, hU⟩ : ∃ U, U = w.alloc (.cells #[.int .i64 z, .slice (some ⟨b, 0, none⟩) L.length c] 65) := ⟨_, rfl⟩
  have BU : Hid (Below w.heap.size w U) := by rw [hU]; exact (Below.refl _ _).alloc (Nat.le_refl _) _
  have IU : Hid (IHolds U w.heap.size 65 [.int .i64 z, .slice (some ⟨b, 0, none⟩) L.length c]) := by rw [hU]; exact IHolds.new _ _ _
  have h3 : 3 < w.heap.size := hT.T.size
  have HI : Hid (IHolds w b 53 (rowS z qa qc L L.length)) := hI
  have HC : Hid (∀ i (h : i < L.length), CK w (qa i) L[i]) := hC
  have HM : Hid (∀ i (h : i < L.length), (L[i]).length ≤ 64) := hm
  have HZ : Hid (∀ i (h : i < L.length) j (h' : j < (L[i]).length), Zl ((L[i])[j]).1 ∧ Zl ((L[i])[j]).2) := hz
  have H78 : Hid (Calls Tryz.prog 78 #[.agg #[.int .i64 z], .string eitB, .string label] U fun e w' => (∃ b, e = .returned (.pointer (some ⟨b, 0, none⟩)) ∧ TW U.heap.size U w' b (st0 z eitB label))) := talk78 (hT.below BU.out) (by decide) hlb
  have c0 := IU.out.cell 0 (by simp)
  have c1 := IU.out.cell 1 (by simp)
  clear hT hI hC hm hz
  generalize st0 z eitB label = st at *
  go_enter Tryz.func55, Tryz.ntmps55
  go_upto_region 1 with fail
  rw [← hU]
  clear hU
  go_upto_region 3 with (go_at_call 78; refine (H78.out).mono ?_; rintro e V1 ⟨tb, rfl, hA⟩; have A1 : Hid (TW w.heap.size w V1 tb st) := ⟨hA.at_, BU.out.trans (hA.bl.mono BU.out.size), Nat.le_trans BU.out.size hA.le, hA.sz⟩; have d1 := (IU.out.of_below hA.bl).cell 1 (by simp); clear hA H78 c0 c1)
  clear d1
  go_loopg [7, 15] L.length (fun gk v7 v15 wr => ∃ i : Nat, i + gk = L.length ∧ v15 = .int .i64 (i : Int) ∧ TW w.heap.size w wr tb (eitS (L.take i) st))
  case atStart => exact ⟨0, by omega, rfl, by simpa [eitS] using A1.out⟩
  case round =>
    obtain ⟨i, hig, rfl, hA⟩ := hrel
    have A : Hid (TW w.heap.size w wr tb (eitS (L.take i) st)) := hA
    clear hA A1
    by_cases hi : i < L.length
    · have il : (i : Int) < (L.length : Int) := by omega
      obtain ⟨p1, p2⟩ := rowS_cells (HI.out.of_below A.out.bl) hi
      have ET : Hid (eitS (L.take (i + 1)) st = eit1 (eitS (L.take i) st) L[i]) := eitS_take hi st
      have CC : Hid (CK w (qa i) L[i]) := HC.out i hi
      have MM : Hid ((L[i]).length ≤ 64) := HM.out i hi
      have ZZ : Hid (∀ j (h' : j < (L[i]).length), Zl ((L[i])[j]).1 ∧ Zl ((L[i])[j]).2) := HZ.out i hi
      clear HC HM HZ HI
      generalize eitS (L.take i) st = s at *
      generalize L[i] = l at *
      generalize qa i = ai at *
      generalize qc i = ci at *
      obtain ⟨W1, hW1⟩ : ∃ W1, W1 = wr.alloc (.cells #[.int .i64 z, .slice ai l.length ci] 53) := ⟨_, rfl⟩
      have BW : Hid (Below wr.heap.size wr W1) := by rw [hW1]; exact (Below.refl _ _).alloc (Nat.le_refl _) _
      have IW : Hid (IHolds W1 wr.heap.size 53 [.int .i64 z, .slice ai l.length ci]) := by rw [hW1]; exact IHolds.new _ _ _
      have NE : Hid (wr.heap.size ≠ tb) := by have := A.out.at_.t.lt; show _ ≠ _; omega
      have hcv := kb_convert (l.length : Int) W1
      have HK : Hid (ByteArray.size ⟨#[kb (l.length : Int)]⟩ = 1) := by show _ = _; rfl
      obtain ⟨W2, hW2⟩ : ∃ W2, W2 = W1.alloc (.cells #[Value.int .u8 ((l.length : Int) % 256)] 5) := ⟨_, rfl⟩
      have BW2 : Hid (Below W1.heap.size W1 W2) := by rw [hW2]; exact (Below.refl _ _).alloc (Nat.le_refl _) _
      have A2 : Hid (TW w.heap.size w W2 tb s) := (A.out.below BW.out).below BW2.out
      have I2 : Hid (IHolds W2 wr.heap.size 53 [.int .i64 z, .slice ai l.length ci]) := IW.out.of_below BW2.out
      clear A
      go_upto_region 5 with fail
      rw [← hW1]
      have k1 := IW.out.cell 1 (by simp)
      clear hW1 p1 p2
      go_wp2_with (first
        | (go_at_call 83; rw [← hW2]; refine (say_TW A2.out h3 (by decide) (by rw [HK.out]; decide)).mono ?_; rintro e V3 ⟨rfl, hA, hB⟩; have A3 : Hid (TW w.heap.size w V3 tb (sy s setB ⟨#[kb (l.length : Int)]⟩)) := hA; have I3 : Hid (IHolds V3 wr.heap.size 53 [.int .i64 z, .slice ai l.length ci]) := I2.out.offB hB NE.out; have m0 := I3.out.cell 0 (by simp); have m1 := I3.out.cell 1 (by simp); clear hA hB A2 I2 k1 hcv IW BW BW2)
        | (go_at_call 79; refine (tell79 A3.out h3 MM.out CC.out ZZ.out).mono ?_; rintro e V4 ⟨rfl, hA, hB⟩; have A4 : Hid (TW w.heap.size w V4 tb (eit1 s l)) := hA; clear hA hB A3)
        | fail)
      go_roundg (gk - 1)
      case measure => omega
      case rel => exact ⟨i + 1, by omega, by go_num, by rw [ET.out]; exact A4.out⟩
    · have il : ¬ (i : Int) < (L.length : Int) := by omega
      have e : L.take i = L := List.take_of_length_le (by omega)
      rw [e] at A
      clear e
      go_wp2_with fail
      go_ret
      exact ⟨tb, rfl, A.out⟩

/-- The sum of scalars. -/
def totN (M : Nat) (ns : List ByteArray) : Nat := ns.foldl (fun a n => (a + numS n) % M) 0
theorem totN_take {M : Nat} {ns : List ByteArray} {i : Nat} (h : i < ns.length) : totN M (ns.take (i + 1)) = (totN M (ns.take i) + numS ns[i]) % M := by
  unfold totN
  rw [List.take_succ_eq_append_getElem h, List.foldl_append]
  rfl
set_option maxHeartbeats 2000000 in
theorem total58 {w : World} {z : Int} {a x : Option Addr} {n m c S M : Nat} {ns : List ByteArray} (hn : ns.length ≤ 16) (hs : SL w a ns)
    (C56 : ∀ W, Calls Tryz.prog 56 #[.agg #[.int .i64 z]] W fun e w' => e = .returned (.string (TX S 0)) ∧ Below W.heap.size W w')
    (C93 : ∀ i (h : i < ns.length) W, Calls Tryz.prog 93 #[.agg #[.int .i64 z], .string (TX S (totN M (ns.take i))), .string ns[i]] W fun e w' => e = .returned (.string (TX S ((totN M (ns.take i) + numS ns[i]) % M))) ∧ Below W.heap.size W w') :
    Calls Tryz.prog 58 #[.agg #[.int .i64 z, .slice x n m], .slice a ns.length c] w fun e w' => e = .returned (.string (TX S (totN M ns))) ∧ Below w.heap.size w w' := by
  obtain ⟨U, hU⟩ : ∃ U, U = w.alloc (.cells #[.int .i64 z, .slice x n m] 65) := ⟨_, rfl⟩
  have BU : Hid (Below w.heap.size w U) := by rw [hU]; exact (Below.refl _ _).alloc (Nat.le_refl _) _
  have IU : Hid (IHolds U w.heap.size 65 [.int .i64 z, .slice x n m]) := by rw [hU]; exact IHolds.new _ _ _
  have HS : Hid (SL w a ns) := hs
  have H56 : Hid (∀ W, Calls Tryz.prog 56 #[.agg #[.int .i64 z]] W fun e w' => e = .returned (.string (TX S 0)) ∧ Below W.heap.size W w') := C56
  have H93 : Hid (∀ i (h : i < ns.length) W, Calls Tryz.prog 93 #[.agg #[.int .i64 z], .string (TX S (totN M (ns.take i))), .string ns[i]] W fun e w' => e = .returned (.string (TX S ((totN M (ns.take i) + numS ns[i]) % M))) ∧ Below W.heap.size W w') := C93
  have c0 := IU.out.cell 0 (by simp)
  clear hs C56 C93
  go_enter Tryz.func58, Tryz.ntmps58
  go_upto_region 1 with fail
  rw [← hU]
  clear hU
  go_upto_region 3 with (go_at_call 56; refine (H56.out _).mono ?_; rintro e V1 ⟨rfl, hB⟩; have B1 : Hid (Below w.heap.size w V1) := BU.out.trans (hB.mono BU.out.size); have I1 : Hid (IHolds V1 w.heap.size 65 [.int .i64 z, .slice x n m]) := IU.out.of_below hB; clear hB H56 BU IU c0)
  go_loopg [5, 7, 13] ns.length (fun gk v5 v7 v13 wr => ∃ i : Nat, i + gk = ns.length ∧ v13 = .int .i64 (i : Int) ∧ v5 = .string (TX S (totN M (ns.take i))) ∧ Below w.heap.size w wr ∧ IHolds wr w.heap.size 65 [.int .i64 z, .slice x n m])
  case atStart => exact ⟨0, by omega, rfl, rfl, B1.out, I1.out⟩
  case round =>
    obtain ⟨i, hig, rfl, rfl, hB, hI⟩ := hrel
    have B : Hid (Below w.heap.size w wr) := hB
    have I : Hid (IHolds wr w.heap.size 65 [.int .i64 z, .slice x n m]) := hI
    clear hB hI B1 I1
    by_cases hi : i < ns.length
    · have il : (i : Int) < (ns.length : Int) := by omega
      obtain ⟨b1, o1, rfl, h1⟩ := HS.out.of_below B.out i hi
      have hcall : Hid (Calls Tryz.prog 93 #[.agg #[.int .i64 z], .string (TX S (totN M (ns.take i))), .string ns[i]] wr fun e w' => e = .returned (.string (TX S ((totN M (ns.take i) + numS ns[i]) % M))) ∧ Below wr.heap.size wr w') := H93.out i hi wr
      have ET : Hid (totN M (ns.take (i + 1)) = (totN M (ns.take i) + numS ns[i]) % M) := totN_take hi
      have k0 := I.out.cell 0 (by simp)
      generalize totN M (ns.take i) = s at *
      generalize (s + numS ns[i]) % M = s' at *
      generalize ns[i] = y at *
      clear H93 HS
      go_wp2_with (go_at_call 93; refine (hcall.out).mono ?_; rintro e w3 ⟨rfl, hB3⟩; have B3 : Hid (Below w.heap.size w w3) := B.out.trans (hB3.mono B.out.size); have I3 : Hid (IHolds w3 w.heap.size 65 [.int .i64 z, .slice x n m]) := I.out.of_below hB3; clear hB3 hcall B I k0 h1)
      go_roundg (gk - 1)
      case measure => omega
      case rel => exact ⟨i + 1, by omega, by go_num, by rw [ET.out], B3.out, I3.out⟩
    · have il : ¬ (i : Int) < (ns.length : Int) := by omega
      have e : ns.take i = ns := List.take_of_length_le (by omega)
      rw [e]
      clear e
      go_wp2_with fail
      go_ret
      exact ⟨rfl, B.out⟩
end Go.Proofs.YtmpiipcllgjhdaaGreatDoor
namespace Go.Proofs.YtmpiipcllgjhdaaGreatDoor
open Go.RowKit Go.Deep Go.PlainAid

theorem clos61 {w : World} {z : Int} {a b : Option Addr} {n c m d : Nat} (C : ∀ W, Below w.heap.size w W → Calls Tryz.prog 41 #[.agg #[.int .i64 z, .slice a n c], .slice b m d] W fun e w' => e = .returned (.int .i64 0) ∧ Below W.heap.size W w') :
    Calls Tryz.prog 61 #[.agg #[.int .i64 z, .slice a n c], .slice b m d] w fun e w' => e = .returned (.bool true) ∧ Below w.heap.size w w' := by
  have B : Hid (Below w.heap.size w (w.alloc (.cells #[.int .i64 z, .slice a n c] 53))) := (Below.refl _ _).alloc (Nat.le_refl _) _
  have H : Hid (∀ W, Below w.heap.size w W → Calls Tryz.prog 41 #[.agg #[.int .i64 z, .slice a n c], .slice b m d] W fun e w' => e = .returned (.int .i64 0) ∧ Below W.heap.size W w') := C
  clear C
  go_enter Tryz.func61, Tryz.ntmps61
  go_wp2_with (go_at_call 41; refine (H.out _ B.out).mono ?_; rintro e w1 ⟨rfl, hB1⟩; have B1 : Hid (Below w.heap.size w w1) := B.out.trans (hB1.mono B.out.size); clear hB1)
  go_ret
  exact ⟨rfl, B1.out⟩
/-- Lists of answers, one a set. -/
def AN (w : World) (a : Option Addr) (Q : List (List ByteArray)) : Prop := ∀ i (h : i < Q.length), ∃ b o x c, a = some ⟨b, o, none⟩ ∧ w.cell? ⟨b, o + i, none⟩ = some (.slice x (Q[i]).length c) ∧ SL w x Q[i]
theorem AN.of_below {w w' : World} {a : Option Addr} {Q : List (List ByteArray)} (h : AN w a Q) (hb : Below w.heap.size w w') : AN w' a Q := fun i hi => by
  obtain ⟨b, o, x, c, e, h1, h2⟩ := h i hi
  exact ⟨b, o, x, c, e, cell_keep h1 hb, h2.of_below hb⟩
set_option maxHeartbeats 2000000 in
theorem equal60 {w : World} {z : Int} {b c d : Nat} {a : Option Addr} {qa : Nat → Option Addr} {qc : Nat → Nat} {L : List (List Cl)} {Q : List (List ByteArray)} (hL : L.length ≤ 16) (hQL : Q.length = L.length) (hI : IHolds w b 53 (rowS z qa qc L L.length)) (hA : AN w a Q)
    (C : ∀ i (h1 : i < L.length) (h2 : i < Q.length) W x y, Below w.heap.size w W → SL W x Q[i] → Calls Tryz.prog 61 #[.agg #[.int .i64 z, .slice (qa i) (L[i]).length (qc i)], .slice x (Q[i]).length y] W fun e w' => e = .returned (.bool true) ∧ Below W.heap.size W w') :
    Calls Tryz.prog 60 #[.slice (some ⟨b, 0, none⟩) L.length c, .slice a L.length d, .func (.func 61) #[] #[]] w fun e w' => e = .returned (.bool true) ∧ Below w.heap.size w w' := by
  have HI : Hid (IHolds w b 53 (rowS z qa qc L L.length)) := hI
  have HA : Hid (AN w a Q) := hA
  have HC : Hid (∀ i (h1 : i < L.length) (h2 : i < Q.length) W x y, Below w.heap.size w W → SL W x Q[i] → Calls Tryz.prog 61 #[.agg #[.int .i64 z, .slice (qa i) (L[i]).length (qc i)], .slice x (Q[i]).length y] W fun e w' => e = .returned (.bool true) ∧ Below W.heap.size W w') := C
  clear hI hA C
  go_enter Tryz.func60, Tryz.ntmps60
  go_wp2_with fail
  go_loopg [7, 8, 9, 17] L.length (fun gk v7 v8 v9 v17 wr => ∃ i : Nat, i + gk = L.length ∧ v17 = .int .i64 (i : Int) ∧ Below w.heap.size w wr)
  case atStart => exact ⟨0, by omega, rfl, Below.refl _ _⟩
  case round =>
    obtain ⟨i, hig, rfl, hB⟩ := hrel
    have B : Hid (Below w.heap.size w wr) := hB
    clear hB
    by_cases hi : i < L.length
    · have il : (i : Int) < (L.length : Int) := by omega
      have hi2 : i < Q.length := by omega
      obtain ⟨p1, p2⟩ := rowS_cells (HI.out.of_below B.out) hi
      obtain ⟨b1, o1, x, y, rfl, h1, h2⟩ := HA.out.of_below B.out i hi2
      obtain ⟨W1, hW1⟩ : ∃ W1, W1 = wr.alloc (.cells #[.int .i64 z, .slice (qa i) (L[i]).length (qc i)] 53) := ⟨_, rfl⟩
      have BW : Hid (Below wr.heap.size wr W1) := by rw [hW1]; exact (Below.refl _ _).alloc (Nat.le_refl _) _
      have IW : Hid (IHolds W1 wr.heap.size 53 [.int .i64 z, .slice (qa i) (L[i]).length (qc i)]) := by rw [hW1]; exact IHolds.new _ _ _
      have B1 : Hid (Below w.heap.size w W1) := B.out.trans (BW.out.mono B.out.size)
      have hcall : Hid (Calls Tryz.prog 61 #[.agg #[.int .i64 z, .slice (qa i) (L[i]).length (qc i)], .slice x (Q[i]).length y] W1 fun e w' => e = .returned (.bool true) ∧ Below W1.heap.size W1 w') := HC.out i hi hi2 W1 x y B1.out (h2.of_below BW.out)
      have r1 := cell_keep h1 BW.out
      have m0 := IW.out.cell 0 (by simp)
      have m1 := IW.out.cell 1 (by simp)
      clear HC HI HA h2 h1
      generalize (L[i]).length = l at *
      generalize (Q[i]).length = m at *
      generalize qa i = ai at *
      generalize qc i = ci at *
      go_upto_region 6 with fail
      rw [← hW1]
      clear hW1 p1 p2
      go_wp2_with (go_at_call 61; refine (hcall.out).mono ?_; rintro e w3 ⟨rfl, hB3⟩; have B3 : Hid (Below w.heap.size w w3) := B1.out.trans (hB3.mono B1.out.size); clear hB3 hcall B B1 BW IW r1 m0 m1)
      go_roundg (gk - 1)
      case measure => omega
      case rel => exact ⟨i + 1, by omega, by go_num, B3.out⟩
    · have il : ¬ (i : Int) < (L.length : Int) := by omega
      go_wp2_with fail
      go_ret
      exact ⟨rfl, B.out⟩
set_option maxHeartbeats 2000000 in
theorem fits28 {w : World} {z : Int} {x y v : Option Addr} {n c d f : Nat}
    (C59 : ∀ W, Below w.heap.size w W → Calls Tryz.prog 59 #[.agg #[.int .i64 z], .slice y n d] W fun e w' => e = .returned (.bool true) ∧ Below W.heap.size W w')
    (C60 : ∀ W, Below w.heap.size w W → Calls Tryz.prog 60 #[.slice x n c, .slice v n f, .func (.func 61) #[] #[]] W fun e w' => e = .returned (.bool true) ∧ Below W.heap.size W w') :
    Calls Tryz.prog 28 #[.agg #[.int .i64 z, .slice x n c], .agg #[.slice y n d, .slice v n f]] w fun e w' => e = .returned (.bool true) ∧ Below w.heap.size w w' := by
  obtain ⟨U, hU⟩ : ∃ U, U = (w.alloc (.cells #[.int .i64 z, .slice x n c] 65)).alloc (.cells #[.slice y n d, .slice v n f] 41) := ⟨_, rfl⟩
  have BU : Hid (Below w.heap.size w U) := by rw [hU]; exact ((Below.refl _ _).alloc (Nat.le_refl _) _).alloc (by simp) _
  have I1 : Hid (IHolds U w.heap.size 65 [.int .i64 z, .slice x n c]) := by rw [hU]; exact (IHolds.new w 65 [_, _]).alloc _
  have I2 : Hid (IHolds U (w.heap.size + 1) 41 [.slice y n d, .slice v n f]) := by rw [hU]; exact IHolds.new' _ 41 [_, _] (by simp)
  have H59 : Hid (∀ W, Below w.heap.size w W → Calls Tryz.prog 59 #[.agg #[.int .i64 z], .slice y n d] W fun e w' => e = .returned (.bool true) ∧ Below W.heap.size W w') := C59
  have H60 : Hid (∀ W, Below w.heap.size w W → Calls Tryz.prog 60 #[.slice x n c, .slice v n f, .func (.func 61) #[] #[]] W fun e w' => e = .returned (.bool true) ∧ Below W.heap.size W w') := C60
  have c0 := I1.out.cell 0 (by simp)
  have c1 := I1.out.cell 1 (by simp)
  have d0 := I2.out.cell 0 (by simp)
  clear C59 C60
  go_enter Tryz.func28, Tryz.ntmps28
  go_upto_region 1 with fail
  rw [← hU]
  clear hU
  go_wp2_with (first
    | (go_at_call 59; refine (H59.out _ BU.out).mono ?_; rintro e V1 ⟨rfl, hB⟩; have B1 : Hid (Below w.heap.size w V1) := BU.out.trans (hB.mono BU.out.size); have e0 := (I1.out.of_below hB).cell 1 (by simp); have e1 := (I2.out.of_below hB).cell 1 (by simp); clear hB H59 BU I1 I2 c0 c1 d0)
    | (go_at_call 60; refine (H60.out _ B1.out).mono ?_; rintro e V2 ⟨rfl, hB⟩; have B2 : Hid (Below w.heap.size w V2) := B1.out.trans (hB.mono B1.out.size); clear hB H60 B1 e0 e1)
    | fail)
  go_ret
  exact ⟨rfl, B2.out⟩
end Go.Proofs.YtmpiipcllgjhdaaGreatDoor
namespace Go.Proofs.YtmpiipcllgjhdaaGreatDoor
open Go.RowKit Go.Deep Go.PlainAid

def verS (Bk : List (List (List ByteArray))) (s : ByteArray) : ByteArray := Bk.foldl (fun s q => firS q s) s
theorem verS_take {Bk : List (List (List ByteArray))} {i : Nat} (h : i < Bk.length) (s : ByteArray) : verS (Bk.take (i + 1)) s = firS Bk[i] (verS (Bk.take i) s) := by
  unfold verS
  rw [List.take_succ_eq_append_getElem h, List.foldl_append]
  rfl
theorem verS_size {Bk : List (List (List ByteArray))} {s : ByteArray} (h : s.size = 32) : (verS Bk s).size = 32 := by
  unfold verS
  induction Bk generalizing s with
  | nil => exact h
  | cons l L ih => exact ih (firS_size h)
set_option maxHeartbeats 4000000 in
theorem verify29 {w : World} {z : Int} {b c d f : Nat} {xa va : Option Addr} {qa : Nat → Option Addr} {qc : Nat → Nat} {L : List (List Cl)} {label r : ByteArray} {chs : List ByteArray} {Q : List (List ByteArray)} {Bk : List (List (List ByteArray))} (hL : L.length ≤ 16) (hT : TT w) (hlb : label.size < 1125899906842624) (hI : IHolds w b 53 (rowS z qa qc L L.length)) (hC : ∀ i (h : i < L.length), CK w (qa i) L[i]) (hm : ∀ i (h : i < L.length), (L[i]).length ≤ 64)
    (hz : ∀ i (h : i < L.length) j (h' : j < (L[i]).length), Zl ((L[i])[j]).1 ∧ Zl ((L[i])[j]).2)
    (hx : SL w xa chs) (hxl : chs.length = L.length) (hv : AN w va Q) (hvl : Q.length = L.length) (hbl : Bk.length = L.length) (hb64 : ∀ i (h : i < Bk.length), (Bk[i]).length ≤ 64) (hbz : ∀ i (h : i < Bk.length) j (h' : j < (Bk[i]).length), Zl (Bk[i])[j])
    (C51 : ∀ i (h1 : i < L.length) (h2 : i < chs.length) (h3 : i < Q.length) (h4 : i < Bk.length) W x y, Below w.heap.size w W → SL W x Q[i] → Calls Tryz.prog 51 #[.agg #[.int .i64 z, .slice (qa i) (L[i]).length (qc i)], .string chs[i], .slice x (Q[i]).length y] W fun e w' => (∃ a' c', e = .returned (.slice a' (Bk[i]).length c') ∧ SLL w' a' Bk[i]) ∧ Below W.heap.size W w')
    (C48 : ∀ n w0 W tb, TW n w0 W tb (verS Bk (eitS L (st0 z eitB label))) → 3 < n → Calls Tryz.prog 48 #[.agg #[.int .i64 z], .pointer (some ⟨tb, 0, none⟩), .string chaB] W fun e w' => e = .returned (.string r) ∧ TW n w0 w' tb (ak chaB (verS Bk (eitS L (st0 z eitB label)))) ∧ F.But tb W w')
    (C58 : ∀ W, SL W xa chs → Calls Tryz.prog 58 #[.agg #[.int .i64 z, .slice (some ⟨b, 0, none⟩) L.length c], .slice xa L.length d] W fun e w' => e = .returned (.string r) ∧ Below W.heap.size W w') :
    Calls Tryz.prog 29 #[.agg #[.int .i64 z, .slice (some ⟨b, 0, none⟩) L.length c], .string label, .agg #[.slice xa L.length d, .slice va L.length f]] w fun e w' => e = .returned (.bool true) ∧ Below w.heap.size w w' := by
  obtain ⟨U, hU⟩ : ∃ U, U = (w.alloc (.cells #[.int .i64 z, .slice (some ⟨b, 0, none⟩) L.length c] 65)).alloc (.cells #[.slice xa L.length d, .slice va L.length f] 41) := ⟨_, rfl⟩
  have BU : Hid (Below w.heap.size w U) := by rw [hU]; exact ((Below.refl _ _).alloc (Nat.le_refl _) _).alloc (by simp) _
  have I1 : Hid (IHolds U w.heap.size 65 [.int .i64 z, .slice (some ⟨b, 0, none⟩) L.length c]) := by rw [hU]; exact (IHolds.new w 65 [_, _]).alloc _
  have I2 : Hid (IHolds U (w.heap.size + 1) 41 [.slice xa L.length d, .slice va L.length f]) := by rw [hU]; exact IHolds.new' _ 41 [_, _] (by simp)
  have U3 : 3 < U.heap.size := (hT.below BU.out).T.size
  have H55 : Hid (Calls Tryz.prog 55 #[.agg #[.int .i64 z, .slice (some ⟨b, 0, none⟩) L.length c], .string label] U fun e w' => ∃ tb, e = .returned (.pointer (some ⟨tb, 0, none⟩)) ∧ TW U.heap.size U w' tb (eitS L (st0 z eitB label))) := talk55 hL (hT.below BU.out) hlb (hI.of_below BU.out) (fun i hi => (hC i hi).of_below BU.out) hm hz
  have HI : Hid (IHolds U b 53 (rowS z qa qc L L.length)) := hI.of_below BU.out
  have HX : Hid (SL U xa chs) := hx.of_below BU.out
  have HV : Hid (AN U va Q) := hv.of_below BU.out
  have H51 : Hid (∀ i (h1 : i < L.length) (h2 : i < chs.length) (h3 : i < Q.length) (h4 : i < Bk.length) W x y, Below w.heap.size w W → SL W x Q[i] → Calls Tryz.prog 51 #[.agg #[.int .i64 z, .slice (qa i) (L[i]).length (qc i)], .string chs[i], .slice x (Q[i]).length y] W fun e w' => (∃ a' c', e = .returned (.slice a' (Bk[i]).length c') ∧ SLL w' a' Bk[i]) ∧ Below W.heap.size W w') := C51
  have H46 : Hid (∀ i (h : i < Bk.length) s W tb x y, TW U.heap.size U W tb s → SLL W x Bk[i] → Calls Tryz.prog 46 #[.pointer (some ⟨tb, 0, none⟩), .slice x (Bk[i]).length y] W fun e w' => e = .returned (.tuple #[]) ∧ TW U.heap.size U w' tb (firS Bk[i] s) ∧ F.But tb W w') := fun i h s W tb x y hA hq => tellFirsts46 hA U3 (hb64 i h) hq (hbz i h)
  have H48 : Hid (∀ W tb, TW U.heap.size U W tb (verS Bk (eitS L (st0 z eitB label))) → Calls Tryz.prog 48 #[.agg #[.int .i64 z], .pointer (some ⟨tb, 0, none⟩), .string chaB] W fun e w' => e = .returned (.string r) ∧ TW U.heap.size U w' tb (ak chaB (verS Bk (eitS L (st0 z eitB label)))) ∧ F.But tb W w') := fun W tb hA => C48 _ _ _ _ hA U3
  have H58 : Hid (∀ W, SL W xa chs → Calls Tryz.prog 58 #[.agg #[.int .i64 z, .slice (some ⟨b, 0, none⟩) L.length c], .slice xa L.length d] W fun e w' => e = .returned (.string r) ∧ Below W.heap.size W w') := C58
  have c0 := I1.out.cell 0 (by simp)
  have c1 := I1.out.cell 1 (by simp)
  have ltU : w.heap.size + 1 < U.heap.size := I2.out.lt
  clear hT hI hC hm hz hx hv hb64 hbz C51 C48 C58
  generalize eitS L (st0 z eitB label) = st at *
  go_enter Tryz.func29, Tryz.ntmps29
  go_upto_region 1 with fail
  rw [← hU]
  clear hU
  go_upto_region 3 with (go_at_call 55; refine (H55.out).mono ?_; rintro e V1 ⟨tb, rfl, hA⟩; have A1 : Hid (TW U.heap.size U V1 tb st) := hA; have d1 := (I1.out.of_below hA.bl).cell 1 (by simp); have le1 : U.heap.size ≤ tb := hA.le; clear hA H55 c0 c1)
  clear d1
  go_loopg [8, 9, 16] L.length (fun gk v8 v9 v16 wr => ∃ i : Nat, i + gk = L.length ∧ v16 = .int .i64 (i : Int) ∧ TW U.heap.size U wr tb (verS (Bk.take i) st))
  case atStart => exact ⟨0, by omega, rfl, by simpa [verS] using A1.out⟩
  case round =>
    obtain ⟨i, hig, rfl, hA⟩ := hrel
    have A : Hid (TW U.heap.size U wr tb (verS (Bk.take i) st)) := hA
    clear hA A1
    by_cases hi : i < L.length
    · have il : (i : Int) < (L.length : Int) := by omega
      have i2 : i < chs.length := by omega
      have i3 : i < Q.length := by omega
      have i4 : i < Bk.length := by omega
      obtain ⟨p1, p2⟩ := rowS_cells (HI.out.of_below A.out.bl) hi
      obtain ⟨b1, o1, rfl, h1⟩ := HX.out i i2
      obtain ⟨b2, o2, x, y, rfl, h2, h3⟩ := HV.out i i3
      have ET : Hid (verS (Bk.take (i + 1)) st = firS Bk[i] (verS (Bk.take i) st)) := verS_take i4 st
      have G46 := H46.out i i4
      have G51 := fun W y hW => H51.out i hi i2 i3 i4 W x y hW
      have S3 : Hid (SL U x Q[i]) := h3
      clear h3 H46 H51 HI HX HV H48 H58
      generalize verS (Bk.take i) st = s at *
      generalize Bk[i] = q at *
      generalize Q[i] = an at *
      generalize chs[i] = u at *
      generalize (L[i]).length = l at *
      generalize qa i = ai at *
      generalize qc i = ci at *
      obtain ⟨W1, hW1⟩ : ∃ W1, W1 = wr.alloc (.cells #[.int .i64 z, .slice ai l ci] 53) := ⟨_, rfl⟩
      have BW : Hid (Below wr.heap.size wr W1) := by rw [hW1]; exact (Below.refl _ _).alloc (Nat.le_refl _) _
      have IW : Hid (IHolds W1 wr.heap.size 53 [.int .i64 z, .slice ai l ci]) := by rw [hW1]; exact IHolds.new _ _ _
      have ltw : tb < wr.heap.size := A.out.at_.t.lt
      have NE : wr.heap.size ≠ tb := by omega
      have A1 : Hid (TW U.heap.size U W1 tb s) := A.out.below BW.out
      have A2 : Hid (TW U.heap.size U W1.drew tb s) := A1.out.below ((Below.refl _ W1).drew)
      have KL : Hid (∀ V, F.But tb W1 V → Below U.heap.size U V) := fun V hV => A1.out.bl.trans (But.low hV le1 (by have := A1.out.bl.size; omega))
      have KS : Hid (∀ V, F.But tb W1 V → (V.cell? ⟨wr.heap.size, 0, none⟩ = some (.int .i64 z) ∧ V.cell? ⟨wr.heap.size, 1, none⟩ = some (.slice ai l ci)) ∧ (V.cell? ⟨w.heap.size + 1, 0, none⟩ = some (.slice (some ⟨b1, o1, none⟩) L.length d) ∧ V.cell? ⟨w.heap.size + 1, 1, none⟩ = some (.slice (some ⟨b2, o2, none⟩) L.length f)) ∧ V.cell? ⟨b1, o1 + i, none⟩ = some (.string u) ∧ V.cell? ⟨b2, o2 + i, none⟩ = some (.slice x an.length y)) := fun V hV => by
        have hl := KL.out V hV
        have k := IW.out.offB hV NE
        exact ⟨⟨k.cell 0 (by simp), k.cell 1 (by simp)⟩, ⟨cell_keep (I2.out.cell 0 (by simp)) hl, cell_keep (I2.out.cell 1 (by simp)) hl⟩, cell_keep h1 hl, cell_keep h2 hl⟩
      have D1 : Hid (F.But tb W1 W1.drew) := (F.But.refl tb W1).drew
      have BW1 : Hid (Below w.heap.size w W1.drew) := BU.out.trans ((KL.out _ D1.out).mono BU.out.size)
      have J51 : Hid (Calls Tryz.prog 51 #[.agg #[.int .i64 z, .slice ai l ci], .string u, .slice x an.length y] W1.drew fun e w' => (∃ a' c', e = .returned (.slice a' q.length c') ∧ SLL w' a' q) ∧ Below W1.drew.heap.size W1.drew w') := G51 W1.drew y BW1.out (S3.out.of_below (KL.out _ D1.out))
      have J46 : Hid (∀ W x y, TW U.heap.size U W tb s → SLL W x q → Calls Tryz.prog 46 #[.pointer (some ⟨tb, 0, none⟩), .slice x q.length y] W fun e w' => e = .returned (.tuple #[]) ∧ TW U.heap.size U w' tb (firS q s) ∧ F.But tb W w') := fun W x y h1 h2 => G46 s W tb x y h1 h2
      clear G46 G51 h1 h2 A BW1
      go_upto_region 5 with fail
      rw [← hW1]
      clear hW1 p1 p2
      generalize hbs : wr.heap.size = bs at *
      go_region_held3 (fun V => (V.cell? ⟨bs, 0, none⟩ = some (.int .i64 z) ∧ V.cell? ⟨bs, 1, none⟩ = some (.slice ai l ci)) ∧ (V.cell? ⟨w.heap.size + 1, 0, none⟩ = some (.slice (some ⟨b1, o1, none⟩) L.length d) ∧ V.cell? ⟨w.heap.size + 1, 1, none⟩ = some (.slice (some ⟨b2, o2, none⟩) L.length f)) ∧ V.cell? ⟨b1, o1 + i, none⟩ = some (.string u) ∧ V.cell? ⟨b2, o2 + i, none⟩ = some (.slice x an.length y))
        (first | exact KS.out _ D1.out | exact KS.out _ D2.out | exact KS.out _ D3.out | assumption | fail)
        (first
          | (go_at_call 51; refine (J51.out).mono ?_; rintro e V2 ⟨⟨x2, y2, rfl, hQ⟩, hB⟩; have Q2 : Hid (SLL V2 x2 q) := hQ; have A3 : Hid (TW U.heap.size U V2 tb s) := A2.out.below hB; have D2 : Hid (F.But tb W1 V2) := D1.out.of_below hB; clear hQ hB J51)
          | (go_at_call 46; refine (J46.out _ _ _ A3.out Q2.out).mono ?_; rintro e V3 ⟨rfl, hA, hB⟩; have A4 : Hid (TW U.heap.size U V3 tb (firS q s)) := hA; have D3 : Hid (F.But tb W1 V3) := D2.out.trans hB; clear hA hB J46 A3 Q2)
          | fail)
      go_wp2_with fail
      go_roundg (gk - 1)
      case measure => omega
      case rel => exact ⟨i + 1, by omega, by go_num, by rw [ET.out]; exact A4.out⟩
    · have il : ¬ (i : Int) < (L.length : Int) := by omega
      have e : Bk.take i = Bk := List.take_of_length_le (by omega)
      rw [e] at A
      clear e H46 H51 HI HV
      have A4 : Hid (TW U.heap.size U wr.drew tb (verS Bk st)) := A.out.below ((Below.refl _ wr).drew)
      have KL : Hid (∀ V, F.But tb wr V → Below U.heap.size U V) := fun V hV => A.out.bl.trans (But.low hV le1 (by have := A.out.bl.size; omega))
      have KS : Hid (∀ V, F.But tb wr V → (V.cell? ⟨w.heap.size, 0, none⟩ = some (.int .i64 z) ∧ V.cell? ⟨w.heap.size, 1, none⟩ = some (.slice (some ⟨b, 0, none⟩) L.length c)) ∧ V.cell? ⟨w.heap.size + 1, 0, none⟩ = some (.slice xa L.length d)) := fun V hV => by
        have hl := KL.out V hV
        exact ⟨⟨cell_keep (I1.out.cell 0 (by simp)) hl, cell_keep (I1.out.cell 1 (by simp)) hl⟩, cell_keep (I2.out.cell 0 (by simp)) hl⟩
      have D3 : Hid (F.But tb wr wr.drew) := (F.But.refl tb wr).drew
      go_upto_region 7 with fail
      go_region_held3 (fun V => (V.cell? ⟨w.heap.size, 0, none⟩ = some (.int .i64 z) ∧ V.cell? ⟨w.heap.size, 1, none⟩ = some (.slice (some ⟨b, 0, none⟩) L.length c)) ∧ V.cell? ⟨w.heap.size + 1, 0, none⟩ = some (.slice xa L.length d))
        (first | exact KS.out _ D3.out | exact KS.out _ D4.out | exact KS.out _ D5.out | assumption | fail)
        (first
          | (go_at_call 48; refine (H48.out _ _ A4.out).mono ?_; rintro e V4 ⟨rfl, hA, hB⟩; have D4 : Hid (F.But tb wr V4) := D3.out.trans hB; clear hA hB H48 A4)
          | (go_at_call 58; refine (H58.out _ (HX.out.of_below (KL.out _ D4.out))).mono ?_; rintro e V5 ⟨rfl, hB⟩; have D5 : Hid (F.But tb wr V5) := D4.out.of_below hB; clear hB H58)
          | fail)
      go_wp2_with fail
      go_ret
      exact ⟨by simp, BU.out.trans ((KL.out _ D5.out).mono BU.out.size)⟩
end Go.Proofs.YtmpiipcllgjhdaaGreatDoor
