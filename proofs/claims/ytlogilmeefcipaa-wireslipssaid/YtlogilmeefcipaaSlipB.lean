/- A text with a sign changed; the walks of the law's bare, and of the document's Value once more. -/
import Derived.Test.YtlogilmeefcipaaSlip
set_option linter.unusedSimpArgs false
set_option linter.unusedVariables false
set_option maxRecDepth 100000
namespace Go.Proofs.Ytlogilmeefcipaa
open Go.RowKit Go.Deep Go.PlainAid

theorem slip1_core {v i0 p r i : List Nat} {x y c : Nat} (h0 : v = i0 ++ [chk i0]) (hv : v = p ++ x :: r) (hx : x < 37) (hy : y < 37) (hi : i ++ [c] = p ++ y :: r) (hc : chk i = c) : x = y := by
  rcases List.eq_nil_or_concat r with rfl | ⟨r', d, rfl⟩
  · have e1 := (List.append_inj' (h0.symm.trans hv) rfl)
    have e2 := (List.append_inj' hi rfl)
    obtain ⟨a1, a2⟩ := e1
    obtain ⟨b1, b2⟩ := e2
    simp only [List.cons.injEq, and_true] at a2 b2
    rw [← a2, ← b2, ← hc, b1, a1]
  · rw [List.concat_eq_append] at hv hi
    have e1 : i0 ++ [chk i0] = (p ++ x :: r') ++ [d] := by rw [← h0, hv]; simp
    have e2 : i ++ [c] = (p ++ y :: r') ++ [d] := by rw [hi]; simp
    obtain ⟨a1, a2⟩ := List.append_inj' e1 rfl
    obtain ⟨b1, b2⟩ := List.append_inj' e2 rfl
    simp only [List.cons.injEq, and_true] at a2 b2
    apply slip_one (p := p) (r := r') hx hy
    rw [← a1, ← b1, a2, hc, b2]
theorem slip2_core {v i0 p r i : List Nat} {x y c : Nat} (h0 : v = i0 ++ [chk i0]) (hv : v = p ++ x :: y :: r) (hx : x < 37) (hy : y < 37) (hi : i ++ [c] = p ++ y :: x :: r) (hc : chk i = c) : x = y := by
  rcases List.eq_nil_or_concat r with rfl | ⟨r', d, rfl⟩
  · have e1 : i0 ++ [chk i0] = (p ++ [x]) ++ [y] := by rw [← h0, hv]; simp
    have e2 : i ++ [c] = (p ++ [y]) ++ [x] := by rw [hi]; simp
    obtain ⟨a1, a2⟩ := List.append_inj' e1 rfl
    obtain ⟨b1, b2⟩ := List.append_inj' e2 rfl
    simp only [List.cons.injEq, and_true] at a2 b2
    apply slip_last (p := p) hx
    · rw [← a1, a2]
    · rw [← b1, hc, b2]
  · rw [List.concat_eq_append] at hv hi
    have e1 : i0 ++ [chk i0] = (p ++ x :: y :: r') ++ [d] := by rw [← h0, hv]; simp
    have e2 : i ++ [c] = (p ++ y :: x :: r') ++ [d] := by rw [hi]; simp
    obtain ⟨a1, a2⟩ := List.append_inj' e1 rfl
    obtain ⟨b1, b2⟩ := List.append_inj' e2 rfl
    simp only [List.cons.injEq, and_true] at a2 b2
    apply slip_two (p := p) (r := r') hx hy
    rw [← a1, ← b1, a2, hc, b2]
theorem bs_append (a b : ByteArray) : bs (a ++ b) = bs a ++ bs b := by simp [bs]
theorem bs_extract (s : ByteArray) (a b : Nat) : bs (s.extract a b) = ((bs s).drop a).take (b - a) := by
  unfold bs
  rw [ByteArray.data_extract, Array.toList_extract, List.extract_eq_take_drop, List.map_take, List.map_drop]
theorem bs_strN {l : List Nat} (h : ∀ d ∈ l, d < 256) : bs (strN l) = l := by
  unfold strN
  rw [bs_list, List.map_map]
  conv => rhs; rw [← List.map_id l]
  apply List.map_congr_left
  intro x hx
  have := h x hx
  simp only [Function.comp_apply, id_eq, UInt8.toNat_ofNat']
  omega
theorem sls_plain {l : List Nat} (h : ∀ d ∈ l, d ≠ 45) : sls l = l.map sv := by
  unfold sls
  rw [List.filter_eq_self.2 (fun x hx => by simpa using h x hx)]
/-- The bare text of a text's signs. -/
def bareB (b : ByteArray) : ByteArray := strN (sgs (valsC b))
theorem sgs_lt (l : List Nat) : ∀ d ∈ sgs l, d < 256 := by
  intro d hd
  obtain ⟨c, _, rfl⟩ := List.mem_map.1 hd
  exact bt_lt _ _
theorem bs_bare (b : ByteArray) : bs (bareB b) = sgs (valsC b) := bs_strN (sgs_lt _)
theorem bare_size (b : ByteArray) : (bareB b).size = (valsC b).length := by rw [← bs_length, bs_bare]; simp [sgs]
theorem bt_bare (b : ByteArray) (k : Nat) (h : k < (valsC b).length) : bt (bareB b) k = bt sgB (valsC b)[k] := by
  rw [bt_get _ _ (by rw [bs_bare]; simpa [sgs] using h)]
  simp only [bs_bare, sgs, List.getElem_map]
theorem cast_inj {a b : List Nat} (h : a.map (fun x : Nat => (x : Int)) = b.map (fun x : Nat => (x : Int))) : a = b := by
  have := congrArg (List.map Int.toNat) h
  rw [toNat_map, toNat_map] at this
  exact this
theorem split_at {v : List Nat} {k : Nat} (h : k < v.length) : v = v.take k ++ v[k] :: v.drop (k + 1) := by
  rw [List.getElem_cons_drop, List.take_append_drop]
/-- One sign read for another is told. -/
theorem slip1 {b : ByteArray} {k o : Nat} (ho : o < 256) (h45 : o ≠ 45) (hk : k < (valsC b).length) (hne : sv o ≠ sv (bt (bareB b) k)) :
    (fromS ((bareB b).extract 0 k ++ ⟨#[UInt8.ofNat o]⟩ ++ (bareB b).extract (k + 1) (bareB b).size)).2 ≠ 0 := by
  intro h
  obtain ⟨i, c, e1, e2, e3, e4⟩ := from_zero h
  have hlt := valsC_lt b
  have es : bs ((bareB b).extract 0 k ++ ⟨#[UInt8.ofNat o]⟩ ++ (bareB b).extract (k + 1) (bareB b).size) = (sgs (valsC b)).take k ++ o :: (sgs (valsC b)).drop (k + 1) := by
    have e5 : bs (⟨#[UInt8.ofNat o]⟩ : ByteArray) = [o] := by simp [bs]; omega
    rw [bs_append, bs_append, bs_extract, bs_extract, bs_bare, e5]
    have e6 : (sgs (valsC b)).length = (bareB b).size := by rw [bare_size]; simp [sgs]
    rw [List.take_of_length_le (l := (sgs (valsC b)).drop (k + 1)) (by simp; omega)]
    simp
  have hp : ∀ d ∈ sgs (valsC b), d ≠ 45 := by
    intro d hd
    obtain ⟨c, hc, rfl⟩ := List.mem_map.1 hd
    exact sg_ne (hlt c hc)
  rw [es, sls_plain (by
    intro d hd
    rcases List.mem_append.1 hd with h1 | h1
    · exact hp d (List.mem_of_mem_take h1)
    · rcases List.mem_cons.1 h1 with h2 | h2
      · rw [h2]; exact h45
      · exact hp d (List.mem_of_mem_drop h2)), List.map_append, List.map_cons, List.map_take, List.map_drop, sgs_sv hlt] at e1
  have hy : 0 ≤ sv o ∧ sv o < 37 := by
    have hm : sv o ∈ (i ++ [c]).map (fun x : Nat => (x : Int)) := by rw [← e1]; simp
    obtain ⟨y, hy, e⟩ := List.mem_map.1 hm
    rcases List.mem_append.1 hy with h1 | h1
    · have := e2 y h1; omega
    · rw [List.mem_singleton.1 h1] at e; omega
  obtain ⟨y, hy2⟩ : ∃ y : Nat, sv o = (y : Int) := ⟨(sv o).toNat, by omega⟩
  rw [hy2] at e1
  have e7 : i ++ [c] = (valsC b).take k ++ y :: (valsC b).drop (k + 1) := by
    apply cast_inj
    rw [← e1]
    simp
  have := slip1_core (v := valsC b) (i0 := vals b) rfl (split_at hk) (hlt _ (List.getElem_mem _)) (by omega) e7 e4
  apply hne
  rw [bt_bare b k hk, sv_sg (hlt _ (List.getElem_mem _)), hy2, this]
/-- Two side by side the other way round are told. -/
theorem slip2 {b : ByteArray} {k : Nat} (hk : k + 1 < (valsC b).length) (hne : bt (bareB b) k ≠ bt (bareB b) (k + 1)) :
    (fromS ((bareB b).extract 0 k ++ (bareB b).extract (k + 1) (k + 2) ++ (bareB b).extract k (k + 1) ++ (bareB b).extract (k + 2) (bareB b).size)).2 ≠ 0 := by
  intro h
  obtain ⟨i, c, e1, e2, e3, e4⟩ := from_zero h
  have hlt := valsC_lt b
  have sl : (sgs (valsC b)).length = (valsC b).length := by simp [sgs]
  have g1 : (sgs (valsC b)).drop k = (sgs (valsC b))[k]'(by omega) :: (sgs (valsC b)).drop (k + 1) := (List.getElem_cons_drop (by omega)).symm
  have g2 : (sgs (valsC b)).drop (k + 1) = (sgs (valsC b))[k + 1]'(by omega) :: (sgs (valsC b)).drop (k + 2) := (List.getElem_cons_drop (by omega)).symm
  have es : bs ((bareB b).extract 0 k ++ (bareB b).extract (k + 1) (k + 2) ++ (bareB b).extract k (k + 1) ++ (bareB b).extract (k + 2) (bareB b).size) = (sgs (valsC b)).take k ++ (sgs (valsC b))[k + 1]'(by omega) :: (sgs (valsC b))[k]'(by omega) :: (sgs (valsC b)).drop (k + 2) := by
    rw [bs_append, bs_append, bs_append, bs_extract, bs_extract, bs_extract, bs_extract, bs_bare]
    have e6 : (sgs (valsC b)).length = (bareB b).size := by rw [bare_size]; simp [sgs]
    rw [List.take_of_length_le (l := (sgs (valsC b)).drop (k + 2)) (by simp; omega)]
    have t1 : ((sgs (valsC b)).drop (k + 1)).take 1 = [(sgs (valsC b))[k + 1]'(by omega)] := by rw [g2]; rfl
    have t2 : ((sgs (valsC b)).drop k).take 1 = [(sgs (valsC b))[k]'(by omega)] := by rw [g1]; rfl
    rw [show k + 2 - (k + 1) = 1 by omega, show k + 1 - k = 1 by omega, t1, t2]
    simp
  have hp : ∀ d ∈ sgs (valsC b), d ≠ 45 := by
    intro d hd
    obtain ⟨c, hc, rfl⟩ := List.mem_map.1 hd
    exact sg_ne (hlt c hc)
  have eg : ∀ q (hq : q < (valsC b).length), sv ((sgs (valsC b))[q]'(by omega)) = ((valsC b)[q] : Int) := by
    intro q hq
    simp only [sgs, List.getElem_map]
    exact sv_sg (hlt _ (List.getElem_mem _))
  rw [es, sls_plain (by
    intro d hd
    rcases List.mem_append.1 hd with h1 | h1
    · exact hp d (List.mem_of_mem_take h1)
    · rcases List.mem_cons.1 h1 with h2 | h2
      · rw [h2]; exact hp _ (List.getElem_mem _)
      · rcases List.mem_cons.1 h2 with h3 | h3
        · rw [h3]; exact hp _ (List.getElem_mem _)
        · exact hp d (List.mem_of_mem_drop h3)), List.map_append, List.map_cons, List.map_cons, List.map_take, List.map_drop, sgs_sv hlt, eg k (by omega), eg (k + 1) hk] at e1
  have e7 : i ++ [c] = (valsC b).take k ++ (valsC b)[k + 1] :: (valsC b)[k]'(by omega) :: (valsC b).drop (k + 2) := by
    apply cast_inj
    rw [← e1]
    simp
  have sp : valsC b = (valsC b).take k ++ (valsC b)[k]'(by omega) :: (valsC b)[k + 1] :: (valsC b).drop (k + 2) := by
    conv => lhs; rw [split_at (v := valsC b) (k := k) (by omega)]
    congr 2
    exact (List.getElem_cons_drop (by omega)).symm
  have := slip2_core (v := valsC b) (i0 := vals b) rfl sp (hlt _ (List.getElem_mem _)) (hlt _ (List.getElem_mem _)) e7 e4
  apply hne
  rw [bt_bare b k (by omega), bt_bare b (k + 1) hk, this]
set_option maxHeartbeats 1000000 in
theorem refValue_same (w : World) (c : Nat) (hc : c < 256) :
    Calls Try.prog 14 #[.int .u8 (c : Int)] w fun e w' => e = .returned (.int .i64 (sv c)) ∧ w' = w := by
  have hsb := get_bs (⟨#[48, 49, 50, 51, 52, 53, 54, 55, 56, 57, 65, 66, 67, 68, 69, 70, 71, 72, 74, 75, 77, 78, 80, 81, 82, 83, 84, 86, 87, 88, 89, 90, 42, 126, 36, 61, 85]⟩ : ByteArray)
  have HV : Hid (sv c = if up c = 79 then 0 else if up c = 73 ∨ up c = 76 then 1 else Lib.indexByte sgB.data.toList (UInt8.ofNat (up c))) := rfl
  have u9 : up c < 256 := by unfold up; split <;> omega
  by_cases hsm : 97 ≤ c ∧ c ≤ 122
  · have hu : up c = c - 32 := if_pos hsm
    obtain ⟨d, hd⟩ : ∃ d, d = c - 32 := ⟨_, rfl⟩
    have k1 : (97 : Int) ≤ (c : Int) := by omega
    have k2 : (c : Int) ≤ 122 := by omega
    have k3 : (c : Int) - 32 = (d : Int) := by omega
    have k4 : IntKind.u8.wrap ((c : Int) - 32) = (d : Int) := by rw [IntKind.wrap_u8]; omega
    have k5 : ((c : Int) - 32) % 256 = (d : Int) := by omega
    rw [hu, ← hd] at HV u9
    clear hd hu hsm
    go_enter Try.func14, Try.ntmps14
    go_upto_region 3 with fail
    clear k1 k2 k3 k4 k5
    have HV2 : Hid (d = 79 → sv c = 0) := fun h => by rw [HV.out, if_pos h]
    have HV3 : Hid (d ≠ 79 → d = 73 ∨ d = 76 → sv c = 1) := fun h h2 => by rw [HV.out, if_neg h, if_pos h2]
    have HV4 : Hid (d ≠ 79 → ¬ (d = 73 ∨ d = 76) → sv c = Lib.indexByte sgB.data.toList (UInt8.ofNat d)) := fun h h2 => by rw [HV.out, if_neg h, if_neg h2]
    clear HV
    by_cases h79 : d = 79
    · have HR : Hid (sv c = 0) := HV2.out h79
      have e1 : (d : Int) = 79 := by omega
      clear h79
      go_wp2_with fail
      go_ret
      exact ⟨by rw [HR.out]; rfl, rfl⟩
    have e79 : ¬ (d : Int) = 79 := by omega
    have f79 : ((d : Int) == 79) = false := by simpa using e79
    by_cases h73 : d = 73
    · have HR : Hid (sv c = 1) := HV3.out h79 (Or.inl h73)
      have e1 : (d : Int) = 73 := by omega
      clear h73
      go_wp2_with fail
      go_ret
      exact ⟨by rw [HR.out]; rfl, rfl⟩
    have e73 : ¬ (d : Int) = 73 := by omega
    have f73 : ((d : Int) == 73) = false := by simpa using e73
    by_cases h76 : d = 76
    · have HR : Hid (sv c = 1) := HV3.out h79 (Or.inr h76)
      have e1 : (d : Int) = 76 := by omega
      clear h76
      go_wp2_with fail
      go_ret
      exact ⟨by rw [HR.out]; rfl, rfl⟩
    have e76 : ¬ (d : Int) = 76 := by omega
    have f76 : ((d : Int) == 76) = false := by simpa using e76
    have HR : Hid (sv c = Lib.indexByte sgB.data.toList (UInt8.ofNat d)) := HV4.out h79 (by omega)
    clear HV2 HV3 HV4 h79 h73 h76
    go_upto_region 8 with fail
    clear e79 f79 e73 f73 e76 f76
    go_loopg [3] 37 (fun gk v3 wr => ∃ k : Nat, k + gk = 37 ∧ v3 = .int .i64 (k : Int) ∧ (∀ i, i < k → bt sgB i ≠ d) ∧ wr = w)
    case atStart => exact ⟨0, by omega, rfl, fun i hi => by omega, rfl⟩
    case round =>
      obtain ⟨k, hk, rfl, hN, hB⟩ := hrel
      have NN : Hid (∀ i, i < k → bt sgB i ≠ d) := hN
      have B : Hid (wr = w) := hB
      clear hN hB
      by_cases hk2 : k < 37
      · have kk : (k : Int) < 37 := by omega
        by_cases hf : bt sgB k = d
        · have HR2 : Hid (sv c = (k : Int)) := by
            show _ = _
            rw [HR.out, ← hf]
            exact ix_at ⟨k, hk2⟩
          have b1 : (bt sgB k : Int) = (d : Int) := by omega
          clear hf
          go_wp2_with fail
          go_ret
          exact ⟨by rw [HR2.out]; rfl, B.out⟩
        · have NN2 : Hid (∀ i, i < k + 1 → bt sgB i ≠ d) := fun i hi => by
            by_cases e : i = k
            · rw [e]; exact hf
            · exact NN.out i (by omega)
          have b1 : ¬ (bt sgB k : Int) = (d : Int) := by omega
          have b2 : ((bt sgB k : Int) == (d : Int)) = false := by simpa using b1
          clear hf
          go_wp2_with fail
          go_roundg (gk - 1)
          case measure => omega
          case rel => exact ⟨k + 1, by omega, by go_num, NN2.out, B.out⟩
      · obtain rfl : k = 37 := by omega
        have HR2 : Hid (sv c = -1) := by
          show _ = _
          rw [HR.out]
          exact ix_none u9 NN.out
        have kk : ¬ ((37 : Nat) : Int) < 37 := by omega
        go_wp2_with fail
        go_ret
        exact ⟨by rw [HR2.out]; rfl, B.out⟩
  · have hu : up c = c := if_neg hsm
    rw [hu] at HV u9
    clear hu
    by_cases k1 : 97 ≤ c
    · have k2 : ¬ (c : Int) ≤ 122 := by omega
      have k3 : (97 : Int) ≤ (c : Int) := by omega
      go_enter Try.func14, Try.ntmps14
      go_upto_region 3 with fail
      clear k1 k2 k3 hsm
      have HV2 : Hid (c = 79 → sv c = 0) := fun h => by rw [HV.out, if_pos h]
      have HV3 : Hid (c ≠ 79 → c = 73 ∨ c = 76 → sv c = 1) := fun h h2 => by rw [HV.out, if_neg h, if_pos h2]
      have HV4 : Hid (c ≠ 79 → ¬ (c = 73 ∨ c = 76) → sv c = Lib.indexByte sgB.data.toList (UInt8.ofNat c)) := fun h h2 => by rw [HV.out, if_neg h, if_neg h2]
      clear HV
      by_cases h79 : c = 79
      · have HR : Hid (sv c = 0) := HV2.out h79
        have e1 : (c : Int) = 79 := by omega
        clear h79
        go_wp2_with fail
        go_ret
        exact ⟨by rw [HR.out]; rfl, rfl⟩
      have e79 : ¬ (c : Int) = 79 := by omega
      have f79 : ((c : Int) == 79) = false := by simpa using e79
      by_cases h73 : c = 73
      · have HR : Hid (sv c = 1) := HV3.out h79 (Or.inl h73)
        have e1 : (c : Int) = 73 := by omega
        clear h73
        go_wp2_with fail
        go_ret
        exact ⟨by rw [HR.out]; rfl, rfl⟩
      have e73 : ¬ (c : Int) = 73 := by omega
      have f73 : ((c : Int) == 73) = false := by simpa using e73
      by_cases h76 : c = 76
      · have HR : Hid (sv c = 1) := HV3.out h79 (Or.inr h76)
        have e1 : (c : Int) = 76 := by omega
        clear h76
        go_wp2_with fail
        go_ret
        exact ⟨by rw [HR.out]; rfl, rfl⟩
      have e76 : ¬ (c : Int) = 76 := by omega
      have f76 : ((c : Int) == 76) = false := by simpa using e76
      have HR : Hid (sv c = Lib.indexByte sgB.data.toList (UInt8.ofNat c)) := HV4.out h79 (by omega)
      clear HV2 HV3 HV4 h79 h73 h76
      go_upto_region 8 with fail
      clear e79 f79 e73 f73 e76 f76
      go_loopg [3] 37 (fun gk v3 wr => ∃ k : Nat, k + gk = 37 ∧ v3 = .int .i64 (k : Int) ∧ (∀ i, i < k → bt sgB i ≠ c) ∧ wr = w)
      case atStart => exact ⟨0, by omega, rfl, fun i hi => by omega, rfl⟩
      case round =>
        obtain ⟨k, hk, rfl, hN, hB⟩ := hrel
        have NN : Hid (∀ i, i < k → bt sgB i ≠ c) := hN
        have B : Hid (wr = w) := hB
        clear hN hB
        by_cases hk2 : k < 37
        · have kk : (k : Int) < 37 := by omega
          by_cases hf : bt sgB k = c
          · have HR2 : Hid (sv c = (k : Int)) := by
              show _ = _
              rw [HR.out, ← hf]
              exact ix_at ⟨k, hk2⟩
            have b1 : (bt sgB k : Int) = (c : Int) := by omega
            clear hf
            go_wp2_with fail
            go_ret
            exact ⟨by rw [HR2.out]; rfl, B.out⟩
          · have NN2 : Hid (∀ i, i < k + 1 → bt sgB i ≠ c) := fun i hi => by
              by_cases e : i = k
              · rw [e]; exact hf
              · exact NN.out i (by omega)
            have b1 : ¬ (bt sgB k : Int) = (c : Int) := by omega
            have b2 : ((bt sgB k : Int) == (c : Int)) = false := by simpa using b1
            clear hf
            go_wp2_with fail
            go_roundg (gk - 1)
            case measure => omega
            case rel => exact ⟨k + 1, by omega, by go_num, NN2.out, B.out⟩
        · obtain rfl : k = 37 := by omega
          have HR2 : Hid (sv c = -1) := by
            show _ = _
            rw [HR.out]
            exact ix_none u9 NN.out
          have kk : ¬ ((37 : Nat) : Int) < 37 := by omega
          go_wp2_with fail
          go_ret
          exact ⟨by rw [HR2.out]; rfl, B.out⟩
    · have k2 : ¬ (97 : Int) ≤ (c : Int) := by omega
      go_enter Try.func14, Try.ntmps14
      go_upto_region 3 with fail
      clear k1 k2 hsm
      have HV2 : Hid (c = 79 → sv c = 0) := fun h => by rw [HV.out, if_pos h]
      have HV3 : Hid (c ≠ 79 → c = 73 ∨ c = 76 → sv c = 1) := fun h h2 => by rw [HV.out, if_neg h, if_pos h2]
      have HV4 : Hid (c ≠ 79 → ¬ (c = 73 ∨ c = 76) → sv c = Lib.indexByte sgB.data.toList (UInt8.ofNat c)) := fun h h2 => by rw [HV.out, if_neg h, if_neg h2]
      clear HV
      by_cases h79 : c = 79
      · have HR : Hid (sv c = 0) := HV2.out h79
        have e1 : (c : Int) = 79 := by omega
        clear h79
        go_wp2_with fail
        go_ret
        exact ⟨by rw [HR.out]; rfl, rfl⟩
      have e79 : ¬ (c : Int) = 79 := by omega
      have f79 : ((c : Int) == 79) = false := by simpa using e79
      by_cases h73 : c = 73
      · have HR : Hid (sv c = 1) := HV3.out h79 (Or.inl h73)
        have e1 : (c : Int) = 73 := by omega
        clear h73
        go_wp2_with fail
        go_ret
        exact ⟨by rw [HR.out]; rfl, rfl⟩
      have e73 : ¬ (c : Int) = 73 := by omega
      have f73 : ((c : Int) == 73) = false := by simpa using e73
      by_cases h76 : c = 76
      · have HR : Hid (sv c = 1) := HV3.out h79 (Or.inr h76)
        have e1 : (c : Int) = 76 := by omega
        clear h76
        go_wp2_with fail
        go_ret
        exact ⟨by rw [HR.out]; rfl, rfl⟩
      have e76 : ¬ (c : Int) = 76 := by omega
      have f76 : ((c : Int) == 76) = false := by simpa using e76
      have HR : Hid (sv c = Lib.indexByte sgB.data.toList (UInt8.ofNat c)) := HV4.out h79 (by omega)
      clear HV2 HV3 HV4 h79 h73 h76
      go_upto_region 8 with fail
      clear e79 f79 e73 f73 e76 f76
      go_loopg [3] 37 (fun gk v3 wr => ∃ k : Nat, k + gk = 37 ∧ v3 = .int .i64 (k : Int) ∧ (∀ i, i < k → bt sgB i ≠ c) ∧ wr = w)
      case atStart => exact ⟨0, by omega, rfl, fun i hi => by omega, rfl⟩
      case round =>
        obtain ⟨k, hk, rfl, hN, hB⟩ := hrel
        have NN : Hid (∀ i, i < k → bt sgB i ≠ c) := hN
        have B : Hid (wr = w) := hB
        clear hN hB
        by_cases hk2 : k < 37
        · have kk : (k : Int) < 37 := by omega
          by_cases hf : bt sgB k = c
          · have HR2 : Hid (sv c = (k : Int)) := by
              show _ = _
              rw [HR.out, ← hf]
              exact ix_at ⟨k, hk2⟩
            have b1 : (bt sgB k : Int) = (c : Int) := by omega
            clear hf
            go_wp2_with fail
            go_ret
            exact ⟨by rw [HR2.out]; rfl, B.out⟩
          · have NN2 : Hid (∀ i, i < k + 1 → bt sgB i ≠ c) := fun i hi => by
              by_cases e : i = k
              · rw [e]; exact hf
              · exact NN.out i (by omega)
            have b1 : ¬ (bt sgB k : Int) = (c : Int) := by omega
            have b2 : ((bt sgB k : Int) == (c : Int)) = false := by simpa using b1
            clear hf
            go_wp2_with fail
            go_roundg (gk - 1)
            case measure => omega
            case rel => exact ⟨k + 1, by omega, by go_num, NN2.out, B.out⟩
        · obtain rfl : k = 37 := by omega
          have HR2 : Hid (sv c = -1) := by
            show _ = _
            rw [HR.out]
            exact ix_none u9 NN.out
          have kk : ¬ ((37 : Nat) : Int) < 37 := by omega
          go_wp2_with fail
          go_ret
          exact ⟨by rw [HR2.out]; rfl, B.out⟩

set_option maxHeartbeats 2000000 in
theorem bare_any (w : World) (s : ByteArray) (hs : s.size ≤ 1000000) :
    Calls Try.prog 13 #[.string s] w fun e w' => e = .returned (.string (strN ((bs s).filter (fun c => c != 45)))) ∧ Below w.heap.size w w' := by
  obtain ⟨i0, hi0, hz0, hz1, hz2⟩ := info_parts info5
  have hsb := get_bs s
  go_enter Try.func13, Try.ntmps13
  go_wp2_with fail
  go_loopg [3, 4] s.size (fun gk v3 v4 wr => ∃ (r : Nat) (v : Value), v = v3 ∧ r + gk = s.size ∧ v4 = .int .i64 (r : Int) ∧ wr.ownsRow w.heap.size 5 1 v (((bs s).take r).filter (fun c => c != 45)).length ((((bs s).take r).filter (fun c => c != 45)).map Y) ∧ Below w.heap.size w wr)
  case atStart => exact ⟨0, _, rfl, by omega, rfl, World.ownsRow_nil _ _ _ _, Below.refl _ _⟩
  case round =>
    obtain ⟨r, v, rfl, hrg, rfl, ho, hB⟩ := hrel
    have O : Hid (wr.ownsRow w.heap.size 5 1 v (((bs s).take r).filter (fun c => c != 45)).length ((((bs s).take r).filter (fun c => c != 45)).map Y)) := ho
    have B : Hid (Below w.heap.size w wr) := hB
    clear ho hB
    by_cases hp : r < s.size
    · have hpl : r < (bs s).length := by rw [bs_length]; exact hp
      have HX : Hid (((bs s).take (r + 1)).filter (fun c => c != 45) = if bt s r = 45 then ((bs s).take r).filter (fun c => c != 45) else ((bs s).take r).filter (fun c => c != 45) ++ [bt s r]) := by
        show _ = _
        rw [List.take_succ_eq_append_getElem hpl, List.filter_append, ← bt_get s r hpl]
        split
        · rename_i h2; simp [h2]
        · rename_i h2; simp [h2]
      have LM : (((bs s).take r).filter (fun c => c != 45)).length ≤ 1000000 := by
        have := List.length_filter_le (fun c => c != 45) ((bs s).take r)
        rw [List.length_take] at this
        omega
      have rlt : (r : Int) < (s.size : Int) := by omega
      have c9 := bt_lt s r
      generalize hmm : ((bs s).take r).filter (fun c => c != 45) = m at *
      clear hmm
      by_cases h45 : bt s r = 45
      · have E : Hid (((bs s).take (r + 1)).filter (fun c => c != 45) = m) := by show _ = _; rw [HX.out, if_pos h45]
        have k45 : ((bt s r : Int) != 45) = false := by simp; omega
        clear h45 HX
        go_wp2_with fail
        go_roundg (gk - 1)
        case measure => omega
        case rel => exact ⟨r + 1, v, rfl, by omega, by go_num, by rw [E.out]; exact O.out, B.out⟩
      · have E : Hid (((bs s).take (r + 1)).filter (fun c => c != 45) = m ++ [bt s r]) := by show _ = _; rw [HX.out, if_neg h45]
        have k45 : ((bt s r : Int) != 45) = true := by simp; omega
        clear h45 HX
        have O2 : Hid ((wr.alloc (.cells #[.int .u8 (bt s r : Int)] 5)).ownsRow w.heap.size 5 1 v m.length (m.map Y)) := O.out.alloc _
        have C2 : Hid (∀ jj u, [Y (bt s r)][jj]? = some u → (wr.alloc (.cells #[.int .u8 (bt s r : Int)] 5)).cell? ((⟨wr.heap.size, 0, none⟩ : Addr).add jj) = some u) := fun jj u hu => by
          match jj, hu with
          | 0, hu => simp at hu; subst hu; simp [Addr.add]
        have B2 : Hid (Below w.heap.size w (wr.alloc (.cells #[.int .u8 (bt s r : Int)] 5))) := B.out.alloc B.out.size _
        go_wp2_with (at_builtin; refine wpList_append_own _ rfl (.tmp 15) (.tmp 19) 35 rfl w.heap.size 5 i0 (.int .u8 0) 1 1 Try.underlying35 hi0 hz0 hz1 hz2 rfl (by decide) v m.length (m.map Y) rfl O2.out ⟨wr.heap.size, 0, none⟩ 1 1 [Y (bt s r)] rfl rfl C2.out (fun u hu => by simp at hu; subst hu; rfl) (by unfold maxLen; omega) (by omega) B2.out.size ?_; intro v1 w1 hown1 hgrow1 hn1; have O3 : Hid (w1.ownsRow w.heap.size 5 1 v1 (m.length + 1) (m.map Y ++ [Y (bt s r)])) := hown1; have B3 : Hid (Below w.heap.size w w1) := B2.out.grown hgrow1 B2.out.size (fun k hk => (O2.out.lt k hk).1); clear hown1 hgrow1 hn1)
        go_roundg (gk - 1)
        case measure => omega
        case rel => exact ⟨r + 1, v1, rfl, by omega, by go_num, by rw [E.out, List.length_append, List.map_append]; exact O3.out, B3.out⟩
    · obtain rfl : r = s.size := by omega
      have E : Hid ((bs s).take s.size = bs s) := by show _ = _; rw [← bs_length s, List.take_length]
      rw [E.out] at O
      have knl : ¬ ((s.size : Nat) : Int) < (s.size : Int) := by omega
      have hcv := convert_owned O.out
      obtain ⟨va, vc, hv, _, _, _⟩ := VRow.of_owned O.out
      clear E O
      subst hv
      generalize hT : strN ((bs s).filter (fun c => c != 45)) = T at *
      have HT : Hid (strN ((bs s).filter (fun c => c != 45)) = T) := hT
      clear hT
      generalize (((bs s).filter (fun c => c != 45)).map Y).length = q at *
      go_wp2_with fail
      go_ret
      exact ⟨by rw [HT.out]; rfl, B.out⟩
end Go.Proofs.Ytlogilmeefcipaa
