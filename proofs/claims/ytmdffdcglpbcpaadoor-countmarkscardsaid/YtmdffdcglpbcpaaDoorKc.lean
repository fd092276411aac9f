/- What stands ahead; is a number in a list; are two lists the same. -/
import Derived.Test.YtmdffdcglpbcpaaDoorKb
set_option linter.unusedSimpArgs false
set_option linter.unusedVariables false
set_option maxRecDepth 100000
namespace Go.Proofs.YtmdffdcglpbcpaaDoor
open Go.RowKit Go.Deep Go.PlainAid Go.Sort

/-- Is the lot of the one less? -/
def ltL (lots nm : ByteArray) (os : List ByteArray) (i k : Nat) : Bool := ltStr (lot lots nm os i).toList (lot lots nm os k).toList
theorem ltL_swo (lots nm : ByteArray) (os : List ByteArray) : SWO (ltL lots nm os) where
  irrefl x := swo_ltStr.irrefl _
  trans x y z h1 h2 := swo_ltStr.trans _ _ _ h1 h2
  ntrans x y z h1 h2 := swo_ltStr.ntrans _ _ _ h1 h2
theorem ah_1 {A B : ByteArray} {i k : Nat} (h : Op.bytesLess A.toList B.toList = true) {lt : Nat → Nat → Bool} (e : lt i k = ltStr A.toList B.toList) : lx lt id i k = true := by
  rw [bl_eq] at h; simp [lx, e, h]
theorem ah_2 {A B : ByteArray} {i k : Nat} (h : Op.bytesLess A.toList B.toList = false) (h2 : (A.toList == B.toList) = false) {lt : Nat → Nat → Bool} (e : lt i k = ltStr A.toList B.toList) (e2 : lt k i = ltStr B.toList A.toList) : lx lt id i k = false := by
  rw [bl_eq] at h
  rw [ltStr_eq h] at h2
  simp only [Bool.not_eq_false'] at h2
  simp [lx, e, e2, h, h2]
theorem ah_3 {A B : ByteArray} {i k : Nat} (h : Op.bytesLess A.toList B.toList = false) (h2 : (A.toList == B.toList) = true) {lt : Nat → Nat → Bool} (e : lt i k = ltStr A.toList B.toList) (e2 : lt k i = ltStr B.toList A.toList) : lx lt id i k = decide (i < k) := by
  rw [bl_eq] at h
  rw [ltStr_eq h] at h2
  simp only [Bool.not_eq_true'] at h2
  simp [lx, e, e2, h, h2]
set_option maxHeartbeats 2000000 in
theorem ahead12 {w : World} {lots nm : ByteArray} {a : Option Addr} {n c : Nat} {r s m : Int} {os : List ByteArray} (hf : Fit lots nm os) (ho : F.SAt w a os) (hn : os.length = n) {i k : Nat} (hi : i < n) (hk : k < n) :
    Calls Tryd.prog 12 #[CV nm a n c r s m, .string lots, .int .i64 (i : Int), .int .i64 (k : Int)] w fun e w' => e = .returned (.bool (lx (ltL lots nm os) id i k)) ∧ Below w.heap.size w w' := by
  obtain ⟨b, o, rfl, hc⟩ := ho i (by omega)
  have HO : Hid (∀ V, Below w.heap.size w V → F.SAt V (some ⟨b, o, none⟩) os) := fun V hV => ho.of_below hV (fun b' o' e hp => by cases e; exact cell_lt (ho 0 hp |>.choose_spec.choose_spec.2 |> fun q => by
    obtain ⟨b2, o2, e2, q2⟩ := ho 0 hp
    cases e2; exact q2))
  have E1 : Hid (ltL lots nm os i k = ltStr (lot lots nm os i).toList (lot lots nm os k).toList) := rfl
  have E2 : Hid (ltL lots nm os k i = ltStr (lot lots nm os k).toList (lot lots nm os i).toList) := rfl
  have L1 : Hid (∀ V, Below w.heap.size w V → Calls Tryd.prog 22 #[.agg #[.string nm, .slice (some ⟨b, o, none⟩) n c, .int .i64 r, .int .i64 s, .int .i64 m], .string lots, .int .i64 (i : Int)] V fun e w' => e = .returned (.string (lot lots nm os i)) ∧ Below V.heap.size V w') := fun V hV => lot22 hf (HO.out V hV) hn hi
  have L2 : Hid (∀ V, Below w.heap.size w V → Calls Tryd.prog 22 #[.agg #[.string nm, .slice (some ⟨b, o, none⟩) n c, .int .i64 r, .int .i64 s, .int .i64 m], .string lots, .int .i64 (k : Int)] V fun e w' => e = .returned (.string (lot lots nm os k)) ∧ Below V.heap.size V w') := fun V hV => lot22 hf (HO.out V hV) hn hk
  clear HO hf ho hc hn
  have HR : Hid (∀ z, z = lx (ltL lots nm os) id i k → z = lx (ltL lots nm os) id i k) := fun _ h => h
  generalize ltL lots nm os = lt at *
  generalize lot lots nm os i = A at *
  generalize lot lots nm os k = B at *
  unfold CV
  generalize hW : w.alloc (.cells #[.string nm, .slice (some ⟨b, o, none⟩) n c, .int .i64 r, .int .i64 s, .int .i64 m] 24) = W
  have J : Hid (Below w.heap.size w W) := by rw [← hW]; exact (Below.refl _ w).alloc (Nat.le_refl _) _
  have I0 : Hid (IHolds W w.heap.size 24 [.string nm, .slice (some ⟨b, o, none⟩) n c, .int .i64 r, .int .i64 s, .int .i64 m]) := by rw [← hW]; exact IHolds.new w 24 _
  have KP : Hid (∀ V, Below W.heap.size W V → (Below W.heap.size W V ∧ V.cell? ⟨w.heap.size, 0, none⟩ = some (.string nm) ∧ V.cell? ⟨w.heap.size, 1, none⟩ = some (.slice (some ⟨b, o, none⟩) n c) ∧ V.cell? ⟨w.heap.size, 2, none⟩ = some (.int .i64 r) ∧ V.cell? ⟨w.heap.size, 3, none⟩ = some (.int .i64 s) ∧ V.cell? ⟨w.heap.size, 4, none⟩ = some (.int .i64 m))) := fun V hV => ⟨hV, five (I0.out.of_below hV)⟩
  have sB : Hid (∀ V V', Below V.heap.size V V' → Below W.heap.size W V → Below W.heap.size W V') := fun V V' h h' => h'.trans (h.mono h'.size)
  have sW : Hid (∀ V, Below W.heap.size W V → Below w.heap.size w V) := fun V h => J.out.trans (h.mono J.out.size)
  have HV : lx lt id i k = lx lt id i k := rfl
  generalize hz : lx lt id i k = z
  have HZ : Hid (lx lt id i k = z) := hz
  clear hz HR HV
  go_enter Tryd.func12, Tryd.ntmps12
  go_wp2_with fail
  clear hW
  go_region_held3 (fun V => Below W.heap.size W V ∧ V.cell? ⟨w.heap.size, 0, none⟩ = some (.string nm) ∧ V.cell? ⟨w.heap.size, 1, none⟩ = some (.slice (some ⟨b, o, none⟩) n c) ∧ V.cell? ⟨w.heap.size, 2, none⟩ = some (.int .i64 r) ∧ V.cell? ⟨w.heap.size, 3, none⟩ = some (.int .i64 s) ∧ V.cell? ⟨w.heap.size, 4, none⟩ = some (.int .i64 m))
    (first | exact KP.out _ B8.out | exact KP.out _ B7.out | exact KP.out _ (dB _) | assumption | fail)
    (first
      | (go_at_call_of 22 (i : Int); refine (L1.out _ (sW.out _ (by first | exact B7.out | exact dB _))).mono ?_; rintro e w7 ⟨rfl, hB7⟩; have B8 : Hid (Below W.heap.size W w7) := sB.out _ _ hB7 (by first | exact B7.out | exact dB _); have B7 : Hid (Below W.heap.size W w7) := B8.out; clear hB7)
      | (go_at_call_of 22 (k : Int); refine (L2.out _ (sW.out _ (by first | exact B7.out | exact dB _))).mono ?_; rintro e w7 ⟨rfl, hB7⟩; have B8 : Hid (Below W.heap.size W w7) := sB.out _ _ hB7 (by first | exact B7.out | exact dB _); have B7 : Hid (Below W.heap.size W w7) := B8.out; clear hB7)
      | fail)
  all_goals
    cases h1 : Op.bytesLess A.toList B.toList with
    | true =>
      have HT : Hid (true = z) := by rw [← HZ.out]; exact (ah_1 h1 E1.out).symm
      go_wp2_with fail
      go_ret
      exact ⟨by rw [← HT.out]; rfl, sW.out _ B7.out⟩
    | false =>
      cases h2 : (A.toList == B.toList) with
      | false =>
        have HT : Hid (false = z) := by rw [← HZ.out]; exact (ah_2 h1 h2 E1.out E2.out).symm
        go_wp2_with fail
        go_ret
        exact ⟨by rw [← HT.out]; rfl, sW.out _ B7.out⟩
      | true =>
        have HT : Hid (decide (i < k) = z) := by rw [← HZ.out]; exact (ah_3 h1 h2 E1.out E2.out).symm
        go_wp2_with fail
        go_ret
        exact ⟨by rw [← HT.out]; simp, sW.out _ B7.out⟩

set_option maxHeartbeats 1000000 in
theorem in16 {w : World} {a : Option Addr} {n c : Nat} {l : List Int} (hl : l.length = n) (h9 : n ≤ 4096) (hL : IL w a l) (x : Int) :
    Calls Tryd.prog 16 #[.slice a n c, .int .i64 x] w fun e w' => e = .returned (.bool (decide (x ∈ l))) ∧ w' = w := by
  have HL : Hid (IL w a l) := hL
  clear hL
  obtain ⟨z, hz⟩ : ∃ z, decide (x ∈ l) = z := ⟨_, rfl⟩
  have HZ : Hid (decide (x ∈ l) = z) := hz
  rw [hz]
  clear hz
  go_enter Tryd.func16, Tryd.ntmps16
  go_wp2_with fail
  go_loopg [6, 9] n (fun gk v6 v9 wr => ∃ i : Nat, i + gk = n ∧ v9 = .int .i64 (i : Int) ∧ x ∉ l.take i ∧ wr = w)
  case atStart => exact ⟨0, by omega, rfl, by simp, rfl⟩
  case round =>
    obtain ⟨i, hig, rfl, hx, rfl⟩ := hrel
    have HX : Hid (x ∉ l.take i) := hx
    clear hx
    by_cases hi : i < n
    · have il : (i : Int) < (n : Int) := by omega
      have hi2 : i < l.length := by omega
      obtain ⟨b, o, rfl, q⟩ := HL.out i hi2
      by_cases he : l[i] = x
      · have eb : (l[i] == x) = true := by simpa using he
        have HT : Hid (z = true) := by rw [← HZ.out]; exact decide_eq_true (by rw [← he]; exact List.getElem_mem hi2)
        clear he HX HZ
        generalize l[i] = y at *
        go_wp2_with fail
        go_ret
        exact ⟨by rw [HT.out]; rfl, rfl⟩
      · have eb : (l[i] == x) = false := by simpa using he
        have HN : Hid (x ∉ l.take (i + 1)) := by
          show ¬ _
          rw [List.take_succ_eq_append_getElem hi2]
          simp only [List.mem_append, List.mem_singleton, not_or]
          exact ⟨HX.out, fun e => he e.symm⟩
        clear he HX
        generalize l[i] = y at *
        go_wp2_with fail
        go_roundg (gk - 1)
        case measure => omega
        case rel => exact ⟨i + 1, by omega, by go_num, HN.out, rfl⟩
    · have il : ¬ (i : Int) < (n : Int) := by omega
      have HT : Hid (z = false) := by
        rw [← HZ.out]
        have := HX.out
        rw [List.take_of_length_le (by omega)] at this
        exact decide_eq_false this
      go_wp2_with fail
      go_ret
      exact ⟨by rw [HT.out]; rfl, rfl⟩

set_option maxHeartbeats 1000000 in
theorem sameInts6 {w : World} {a b : Option Addr} {c d : Nat} (n : Nat) (l : List Int) (hl : l.length = n) (h9 : n ≤ 4096) (h1 : IL w a l) (h2 : IL w b l) :
    Calls Tryd.prog 6 #[.slice a n c, .slice b n d] w fun e w' => e = .returned (.bool true) ∧ Below w.heap.size w w' := by
  have H1 : Hid (IL w a l) := h1
  have H2 : Hid (IL w b l) := h2
  clear h1 h2
  go_enter Tryd.func6, Tryd.ntmps6
  go_wp2_with fail
  go_loopg [5, 13] n (fun gk v5 v13 wr => ∃ i : Nat, i + gk = n ∧ v13 = .int .i64 (i : Int) ∧ Below w.heap.size w wr)
  case atStart => exact ⟨0, by omega, rfl, Below.refl _ _⟩
  case round =>
    obtain ⟨i, hig, rfl, hB⟩ := hrel
    have B : Hid (Below w.heap.size w wr) := hB
    clear hB
    by_cases hi : i < n
    · have il : (i : Int) < (n : Int) := by omega
      have hi2 : i < l.length := by omega
      obtain ⟨b1, o1, rfl, q1⟩ := H1.out.of_below B.out i hi2
      obtain ⟨b2, o2, rfl, q2⟩ := H2.out.of_below B.out i hi2
      generalize l[i] = x at *
      go_wp2_with fail
      go_quiet (fail)
      have BQ : Hid (Below w.heap.size w (World.drewN wr nq)) := B.out.trans ⟨rfl, rfl, rfl, Nat.le_refl _, fun _ _ => rfl⟩
      clear q1 q2
      generalize World.drewN wr nq = wq at *
      go_wp2_with fail
      go_roundg (gk - 1)
      case measure => omega
      case rel => exact ⟨i + 1, by omega, by go_num, BQ.out⟩
    · have il : ¬ (i : Int) < (n : Int) := by omega
      go_wp2_with fail
      go_ret
      exact ⟨rfl, B.out⟩
end Go.Proofs.YtmdffdcglpbcpaaDoor
