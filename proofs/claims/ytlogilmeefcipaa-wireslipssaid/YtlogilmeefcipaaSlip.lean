/- Plain: what was written is read again; one sign for another, or two the other way round, changes the check. -/
import Derived.Test.YtlogilmeefcipaaLettersW
set_option linter.unusedSimpArgs false
set_option linter.unusedVariables false
set_option maxRecDepth 100000
namespace Go.Proofs.Ytlogilmeefcipaa
open Go.RowKit Go.Deep Go.PlainAid

theorem sv_sg_fin : ∀ v : Fin 37, sv (bt sgB v.val) = (v.val : Int) ∧ bt sgB v.val ≠ 45 := by decide +kernel
theorem sv_sg {v : Nat} (h : v < 37) : sv (bt sgB v) = (v : Int) := (sv_sg_fin ⟨v, h⟩).1
theorem sg_ne {v : Nat} (h : v < 37) : bt sgB v ≠ 45 := (sv_sg_fin ⟨v, h⟩).2
/-- The signs of values. -/
def sgs (l : List Nat) : List Nat := l.map (bt sgB)
theorem bs_list (l : List UInt8) : bs ⟨l.toArray⟩ = l.map fun c => c.toNat := by simp [bs]
theorem fours_filter_len : ∀ (n : Nat) (l : List Nat), l.length = n → (∀ d ∈ l, d < 37) → ((fours l).map fun c => c.toNat).filter (fun c => c != 45) = sgs l
  | 0, l, h, _ => by rw [List.length_eq_zero_iff.1 h]; rfl
  | n + 1, l, h, hl => by
    obtain ⟨i, d, rfl, hi⟩ := snoc_of_length h
    have ih := fours_filter_len n i hi (fun x hx => hl x (by simp [hx]))
    have hd : d < 37 := hl d (by simp)
    have e45 : (45 : UInt8).toNat = 45 := rfl
    rw [fours_snoc, List.map_append, List.map_append, List.filter_append, List.filter_append, ih]
    have h1 : (List.map (fun c => c.toNat) (if 0 < i.length ∧ i.length % 4 = 0 then [(45 : UInt8)] else [])).filter (fun c => c != 45) = [] := by
      split <;> simp
    rw [h1, List.append_nil]
    simp [sgs, sg_toNat, sg_ne hd]
theorem FB_filter {l : List Nat} (hl : ∀ d ∈ l, d < 37) : (bs (FB l)).filter (fun c => c != 45) = sgs l := by
  unfold FB
  rw [bs_list]
  exact fours_filter_len _ l rfl hl
theorem sgs_sv {l : List Nat} (hl : ∀ d ∈ l, d < 37) : (sgs l).map sv = l.map fun x : Nat => (x : Int) := by
  unfold sgs
  rw [List.map_map]
  apply List.map_congr_left
  intro x hx
  exact sv_sg (hl x hx)
theorem sls_FB {l : List Nat} (hl : ∀ d ∈ l, d < 37) : sls (bs (FB l)) = l.map fun x : Nat => (x : Int) := by
  unfold sls
  rw [FB_filter hl, sgs_sv hl]
theorem okB_of {i : List Nat} {c : Nat} (hi : ∀ d ∈ i, d < 32) : okB ((i ++ [c]).map fun x : Nat => (x : Int)) = true := by
  simp only [okB, List.map_append, List.map_cons, List.map_nil, List.dropLast_concat, Bool.and_eq_true, List.all_eq_true, decide_eq_true_eq, List.mem_append, List.mem_map, List.mem_singleton]
  refine ⟨?_, ?_⟩
  · rintro x (⟨y, hy, rfl⟩ | rfl) <;> omega
  · rintro x ⟨y, hy, rfl⟩
    have := hi y hy
    omega
theorem toNat_map (l : List Nat) : (l.map fun x : Nat => (x : Int)).map Int.toNat = l := by
  rw [List.map_map]
  conv => rhs; rw [← List.map_id l]
  apply List.map_congr_left
  intro x _
  simp
theorem sgn_back {n : Nat} : 5 * sgn n / 8 = n := by unfold sgn; omega
theorem V_vals (b : ByteArray) : V 32 (vals b) = V 256 (bs b) * 2 ^ (5 * sgn b.size - 8 * b.size) := by
  have hm : 8 * b.size ≤ 5 * sgn b.size := by unfold sgn; omega
  have hN := V_lt b.size (bs b) (bs_length b) (bs_lt b)
  unfold vals
  have key : ∀ m X, X < 32 ^ m → V 32 (dgs 32 m X) = X := by
    intro m
    induction m with
    | zero => intro X h; simp [dgs, V] at *; omega
    | succ m ih =>
      intro X h
      simp only [dgs]
      rw [V_snoc, ih (X / 32) (by rw [Nat.pow_succ] at h; exact (Nat.div_lt_iff_lt_mul (by omega)).2 h)]
      omega
  apply key
  have e : 32 ^ sgn b.size = 256 ^ b.size * 2 ^ (5 * sgn b.size - 8 * b.size) := by
    rw [show (32 : Nat) = 2 ^ 5 by rfl, show (256 : Nat) = 2 ^ 8 by rfl, ← Nat.pow_mul, ← Nat.pow_mul, ← Nat.pow_add]
    congr 1
    omega
  rw [e]
  exact Nat.mul_lt_mul_of_pos_right hN (Nat.pow_pos (by omega))
theorem strN_bs (b : ByteArray) : strN (bs b) = b := by
  apply ByteArray.ext
  apply Array.toList_inj.1
  simp [strN, bs, Function.comp_def]
/-- WHAT WAS WRITTEN IS READ AGAIN. -/
theorem round_trip {b : ByteArray} (hb : b.size ≤ 64) : fromS (FB (valsC b)) = (b, 0) := by
  have e1 := sls_FB (valsC_lt b)
  have e2 : okB (sls (bs (FB (valsC b)))) = true := by rw [e1]; exact okB_of (vals_lt b)
  have e3 : (sls (bs (FB (valsC b)))).map Int.toNat = vals b ++ [chk (vals b)] := by rw [e1, toNat_map]; rfl
  rw [fromS_good e2 e3]
  have hk : ¬ 103 < (vals b).length := by rw [vals_length]; unfold sgn; omega
  have hs : ¬ sgn (5 * (vals b).length / 8) ≠ (vals b).length := by rw [vals_length, sgn_back]; simp
  unfold fromV
  rw [if_neg hk, if_neg hs, if_neg (by simp)]
  unfold txtV
  have hm : 8 * b.size ≤ 5 * sgn b.size := by unfold sgn; omega
  have hl : 5 * sgn b.size % 8 = 5 * sgn b.size - 8 * b.size := by unfold sgn at *; omega
  rw [vals_length, V_vals, sgn_back, hl, if_pos (Nat.mul_mod_left _ _), Nat.mul_div_cancel _ (Nat.pow_pos (by omega))]
  rw [← V_inj (by omega) b.size (bs b) (bs_length b) (bs_lt b), strN_bs]
/-- What is read must have the right check. -/
theorem from_zero {s : ByteArray} (h : (fromS s).2 = 0) : ∃ i c, sls (bs s) = (i ++ [c]).map (fun x : Nat => (x : Int)) ∧ (∀ d ∈ i, d < 32) ∧ c < 37 ∧ chk i = c := by
  by_cases hb : okB (sls (bs s)) = false ∨ sls (bs s) = []
  · rw [fromS_bad hb] at h; cases h
  · have h1 : okB (sls (bs s)) = true := by
      cases hq : okB (sls (bs s)) with
      | true => rfl
      | false => exact absurd (Or.inl hq) hb
    obtain ⟨i, c, e1, e2, e3, _⟩ := good_parts h1 (fun e => hb (Or.inr e))
    have e0 : sls (bs s) = (i ++ [c]).map (fun x : Nat => (x : Int)) := by
      rw [← e1, List.map_map]
      conv => lhs; rw [← List.map_id (sls (bs s))]
      apply List.map_congr_left
      intro x hx
      have := ((okB_iff _).1 h1)
      obtain ⟨j, hj, rfl⟩ := List.getElem_of_mem hx
      have := (this j hj).1
      simp only [id_eq, Function.comp_apply]
      omega
    refine ⟨i, c, e0, e2, e3, ?_⟩
    rw [fromS_good h1 e1] at h
    unfold fromV at h
    split at h
    · cases h
    · split at h
      · cases h
      · split at h
        · cases h
        · rename_i h9; simpa using h9
/-- The check goes on from what it was. -/
def chkF (n : Nat) (l : List Nat) : Nat := l.foldl (fun a v => (a * 32 + v) % 37) n
theorem chk_app (p r : List Nat) : chk (p ++ r) = chkF (chk p) r := by simp [chk, chkF]
theorem chkF_cons (n v : Nat) (r : List Nat) : chkF n (v :: r) = chkF ((n * 32 + v) % 37) r := rfl
theorem chkF_inj : ∀ (r : List Nat) (n n' : Nat), n < 37 → n' < 37 → chkF n r = chkF n' r → n = n'
  | [], n, n', _, _, h => h
  | v :: r, n, n', h1, h2, h => by
    have := chkF_inj r _ _ (Nat.mod_lt _ (by omega)) (Nat.mod_lt _ (by omega)) h
    omega
/-- One sign for another. -/
theorem slip_one {p r : List Nat} {x y : Nat} (hx : x < 37) (hy : y < 37) (h : chk (p ++ x :: r) = chk (p ++ y :: r)) : x = y := by
  rw [chk_app, chk_app, chkF_cons, chkF_cons] at h
  have := chkF_inj r _ _ (Nat.mod_lt _ (by omega)) (Nat.mod_lt _ (by omega)) h
  omega
/-- Two the other way round. -/
theorem slip_two {p r : List Nat} {x y : Nat} (hx : x < 37) (hy : y < 37) (h : chk (p ++ x :: y :: r) = chk (p ++ y :: x :: r)) : x = y := by
  rw [chk_app, chk_app, chkF_cons, chkF_cons, chkF_cons, chkF_cons] at h
  have := chkF_inj r _ _ (Nat.mod_lt _ (by omega)) (Nat.mod_lt _ (by omega)) h
  omega
theorem slip_last {p : List Nat} {x c : Nat} (hx : x < 37) (hc : c = chk (p ++ [x])) (h : chk (p ++ [c]) = x) : x = c := by
  rw [chk_snoc] at h hc
  have := chk_lt p
  omega
end Go.Proofs.Ytlogilmeefcipaa
