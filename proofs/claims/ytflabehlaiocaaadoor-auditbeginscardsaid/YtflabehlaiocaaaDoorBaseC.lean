/- Plain: Euclid's way, many steps at once, as far as the first digits tell it for certain. -/
import Derived.Test.YtflabehlaiocaaaDoorBaseA
import Derived.Test.YtflabehlaiocaaaDoorBaseB
set_option linter.unusedSimpArgs false
set_option linter.unusedVariables false
namespace Go.Proofs.YtflabehlaiocaaaDoor

/-- A number with a sign. -/
def sI (sg : Bool) (z : Nat) : Int := if sg then (z : Int) else -(z : Int)
theorem sI_add (sg : Bool) (x y : Nat) : sI sg (x + y) = sI sg x + sI sg y := by cases sg <;> simp [sI] <;> omega
theorem sI_mul (sg : Bool) (q x : Nat) : sI sg (q * x) = (q : Int) * sI sg x := by
  cases sg
  · simp [sI]; grind
  · simp [sI]
theorem sI_not (sg : Bool) (x : Nat) : sI (!sg) x = -(sI sg x) := by cases sg <;> simp [sI]
/-- Two rows on Euclid's way: heads h and l, true numbers rh and rl. -/
structure Leh (n o a b : Nat) (sg : Bool) (hx hy lx ly h l rh rl : Nat) : Prop where
  eh : (h : Int) = sI sg hx * (a : Int) - sI sg hy * (b : Int)
  el : (l : Int) = -(sI sg lx) * (a : Int) + sI sg ly * (b : Int)
  erh : (rh : Int) = sI sg hx * (n : Int) - sI sg hy * (o : Int)
  erl : (rl : Int) = -(sI sg lx) * (n : Int) + sI sg ly * (o : Int)
  xy : lx ≤ ly
  tot : hy * l + ly * h = a
  ord : l ≤ h
  ge : rl ≤ rh
  gcd : Nat.gcd rh rl = Nat.gcd n o
  bx : hx ≤ 1000000000 ∧ hy ≤ 1000000000 ∧ lx ≤ 1000000000 ∧ ly ≤ 1000000000
  hb : h < 1000000000000000000
  st : (hx = 1 ∧ hy = 0 ∧ lx = 0 ∧ ly = 1 ∧ rh = n ∧ rl = o) ∨ (0 < hy ∧ hx ≤ hy ∧ rh + rl ≤ n)
theorem Leh.start {n o a b : Nat} (hba : b ≤ a) (hon : o ≤ n) (ha : a < 1000000000000000000) : Leh n o a b true 1 0 0 1 a b n o :=
  ⟨by simp [sI], by simp [sI], by simp [sI], by simp [sI], by omega, by omega, hba, hon, rfl, by omega, ha, Or.inl ⟨rfl, rfl, rfl, rfl, rfl, rfl⟩⟩
/-- The next row's factors. -/
theorem Leh.nx_le {n o a b : Nat} {sg : Bool} {hx hy lx ly h l rh rl : Nat} (H : Leh n o a b sg hx hy lx ly h l rh rl) (q : Nat) (hq : 1 ≤ q) : hx + q * lx ≤ hy + q * ly := by
  have h1 : q * lx ≤ q * ly := Nat.mul_le_mul_left _ H.xy
  rcases H.st with ⟨rfl, rfl, rfl, rfl, _, _⟩ | ⟨_, h2, _⟩
  · omega
  · omega
theorem Leh.tot_next {n o a b : Nat} {sg : Bool} {hx hy lx ly h l rh rl : Nat} (H : Leh n o a b sg hx hy lx ly h l rh rl) (q r : Nat) (hq : h = l * q + r) : (hy + q * ly) * l + ly * r = a := by
  rw [← H.tot, hq]; grind
theorem Leh.ny_lt {n o a b : Nat} {sg : Bool} {hx hy lx ly h l rh rl : Nat} (H : Leh n o a b sg hx hy lx ly h l rh rl) (q r : Nat) (hq : h = l * q + r) (hl : 0 < l) : hy + q * ly ≤ a := by
  have h1 := H.tot_next q r hq
  have h2 : (hy + q * ly) * 1 ≤ (hy + q * ly) * l := Nat.mul_le_mul_left _ hl
  omega
/-- A row that is sure is right: it is not below 0, and not above the row ahead of it. -/
theorem Leh.step {n o a b : Nat} {sg : Bool} {hx hy lx ly h l rh rl : Nat} (H : Leh n o a b sg hx hy lx ly h l rh rl) (S n' o' : Nat) (hn : n = a * S + n') (ho : o = b * S + o') (hn' : n' < S) (ho' : o' < S) (ha : a < 1000000000000000000)
    (q r : Nat) (hq : h = l * q + r) (hr : r < l) (c1 : hy + q * ly ≤ r) (c2 : ly + (hy + q * ly) + r ≤ l) (hpos : 0 < o) :
    ∃ rn, Leh n o a b (!sg) lx ly (hx + q * lx) (hy + q * ly) l r rl rn := by
  have hq1 : 1 ≤ q := by
    rcases Nat.eq_zero_or_pos q with h0 | h0
    · subst h0
      have := H.ord
      omega
    · exact h0
  have hnx := H.nx_le q hq1
  have htot := H.tot_next q r hq
  have hxyl := H.xy
  obtain ⟨nx, hnxe⟩ : ∃ nx, nx = hx + q * lx := ⟨_, rfl⟩
  obtain ⟨ny, hnye⟩ : ∃ ny, ny = hy + q * ly := ⟨_, rfl⟩
  have eX : sI sg nx = sI sg hx + (q : Int) * sI sg lx := by rw [hnxe, sI_add, sI_mul]
  have eY : sI sg ny = sI sg hy + (q : Int) * sI sg ly := by rw [hnye, sI_add, sI_mul]
  rw [← hnxe, ← hnye] at hnx
  rw [← hnye] at htot c1 c2
  rw [← hnxe, ← hnye]
  -- the next head and the next number
  have hr2 : (r : Int) = (h : Int) - (q : Int) * (l : Int) := by rw [hq]; push_cast; grind
  have er : (r : Int) = sI sg nx * (a : Int) - sI sg ny * (b : Int) := by
    rw [hr2, H.eh, H.el, eX, eY]; grind
  obtain ⟨R, hR⟩ : ∃ R : Int, R = (rh : Int) - (q : Int) * (rl : Int) := ⟨_, rfl⟩
  have eR : R = sI sg nx * (n : Int) - sI sg ny * (o : Int) := by
    rw [hR, H.erh, H.erl, eX, eY]; grind
  have hnI : (n : Int) = (a : Int) * (S : Int) + (n' : Int) := by rw [hn]; push_cast; rfl
  have hoI : (o : Int) = (b : Int) * (S : Int) + (o' : Int) := by rw [ho]; push_cast; rfl
  have eR2 : R = (r : Int) * (S : Int) + (sI sg nx * (n' : Int) - sI sg ny * (o' : Int)) := by
    rw [eR, er, hnI, hoI]; grind
  have kS : ∀ z m : Nat, m < S → (z : Int) * (m : Int) ≤ (z : Int) * (S : Int) := fun z m hm => Int.mul_le_mul_of_nonneg_left (by omega) (by omega)
  have kN : ∀ z m : Nat, 0 ≤ (z : Int) * (m : Int) := fun z m => Int.mul_nonneg (by omega) (by omega)
  have kM : ∀ x y : Nat, x ≤ y → (x : Int) * (S : Int) ≤ (y : Int) * (S : Int) := fun x y hxy => Int.mul_le_mul_of_nonneg_right (by omega) (by omega)
  have hR0 : 0 ≤ R := by
    rw [eR2]
    have h1 := kM ny r c1
    cases sg
    · simp only [sI, Bool.false_eq_true, if_false]
      have h2 := kS nx n' hn'
      have h3 := kM nx ny hnx
      have h4 := kN ny o'
      grind
    · simp only [sI, if_true]
      have h2 := kS ny o' ho'
      have h4 := kN nx n'
      grind
  have eRL : (rl : Int) = (l : Int) * (S : Int) + (-(sI sg lx) * (n' : Int) + sI sg ly * (o' : Int)) := by
    rw [H.erl, H.el, hnI, hoI]; grind
  have hRl : R ≤ (rl : Int) := by
    rw [eR2, eRL]
    have h1 : ((ly + ny : Nat) : Int) * (S : Int) + (r : Int) * (S : Int) ≤ (l : Int) * (S : Int) := by
      have := kM (ly + ny + r) l c2
      push_cast at this ⊢
      grind
    cases sg
    · simp only [sI, Bool.false_eq_true, if_false]
      have h2 := kS ly o' ho'
      have h3 := kS ny o' ho'
      have h4 := kN lx n'
      have h5 := kN nx n'
      push_cast at h1
      grind
    · simp only [sI, if_true]
      have h2 := kS lx n' hn'
      have h3 := kS nx n' hn'
      have h4 := kN ly o'
      have h5 := kN ny o'
      have h6 := kM lx ly hxyl
      have h7 := kM nx ny hnx
      push_cast at h1
      grind
  obtain ⟨rn, hrn⟩ := Int.eq_ofNat_of_zero_le hR0
  have hrhN : rh = rl * q + rn := by
    have : (rh : Int) = (q : Int) * (rl : Int) + (rn : Int) := by omega
    have h2 : ((rh : Nat) : Int) = ((rl * q + rn : Nat) : Int) := by rw [this]; push_cast; grind
    exact Int.ofNat_inj.1 h2
  have hrl : rn ≤ rl := by omega
  have hg : Nat.gcd rl rn = Nat.gcd n o := by
    rw [← H.gcd, hrhN, Nat.gcd_comm (rl * q + rn) rl, Nat.add_comm, Nat.gcd_add_mul_left_right]
  have hny9 : ny < 1000000000 := by
    by_cases hc : ny < 1000000000
    · exact hc
    · exfalso
      have h1 : 1000000000 * 1000000000 ≤ ny * ny := Nat.mul_le_mul (by omega) (by omega)
      have h2 : ny * ny ≤ ny * l := Nat.mul_le_mul_left _ (by omega)
      have h3 : ny * l ≤ a := by omega
      omega
  have hbx := H.bx
  have hhb := H.hb
  have hord := H.ord
  refine ⟨rn, ⟨?_, ?_, ?_, ?_, hnx, ?_, by omega, hrl, hg, by omega, by omega, Or.inr ?_⟩⟩
  · rw [H.el, sI_not, sI_not]; grind
  · rw [er, sI_not, sI_not]; grind
  · rw [H.erl, sI_not, sI_not]; grind
  · rw [← hrn, eR, sI_not, sI_not]; grind
  · rw [← htot]; grind
  · rcases H.st with ⟨e1, e2, e3, e4, e5, e6⟩ | ⟨g1, g2, g3⟩
    · refine ⟨by omega, by omega, ?_⟩
      rw [e5] at hrhN
      have h1 : rl * 1 ≤ rl * q := Nat.mul_le_mul_left _ hq1
      omega
    · refine ⟨?_, H.xy, ?_⟩
      · rcases Nat.eq_zero_or_pos ly with h0 | h0
        · exfalso
          have h1 := H.el
          have h2 : lx = 0 := by have := H.xy; omega
          rw [h0, h2] at h1
          have h3 : sI sg 0 = 0 := by cases sg <;> simp [sI]
          rw [h3] at h1
          simp at h1
          omega
        · exact h0
      · have h1 : rl * 1 ≤ rl * q := Nat.mul_le_mul_left _ hq1
        omega
end Go.Proofs.YtflabehlaiocaaaDoor

/- The walks of abs, less, surelyBelow, of, short, gcdOfShort. -/
set_option linter.unusedSimpArgs false
set_option linter.unusedVariables false
namespace Go.Proofs.YtflabehlaiocaaaDoor
open Go.RowKit Go.Deep

/-- The value without its sign. -/
def absI (v : Int) : Int := if v < 0 then -v else v
set_option maxHeartbeats 400000 in
theorem abs_any (v : Int) (w : World) (h : -4000000000000000000 ≤ v ∧ v ≤ 4000000000000000000) :
    Calls Tryd.prog 81 #[.int .i64 v] w fun e w' => e = .returned (.int .i64 (absI v)) ∧ w' = w := by
  go_enter Tryd.func81, Tryd.ntmps81
  by_cases h0 : v < -v
  · have e : absI v = -v := by unfold absI; rw [if_pos (by omega)]
    have HE : Hid (absI v = -v) := e
    clear e
    go_wp2_with fail
    all_goals go_ret
    all_goals exact ⟨ret_i (by rw [HE.out]), rfl⟩
  · have e : absI v = v := by unfold absI; split <;> omega
    have HE : Hid (absI v = v) := e
    clear e
    go_wp2_with fail
    all_goals go_ret
    all_goals exact ⟨ret_i (by rw [HE.out]), rfl⟩
/-- A row as the program holds it. -/
abbrev rowV (h x y : Int) : Value := .agg #[.int .i64 h, .int .i64 x, .int .i64 y]

set_option maxHeartbeats 1000000 in
theorem less_any (h x y l u v q : Int) (w : World) (b1 : -4000000000000000000 ≤ q * l ∧ q * l ≤ 4000000000000000000) (b2 : -4000000000000000000 ≤ q * u ∧ q * u ≤ 4000000000000000000) (b3 : -4000000000000000000 ≤ q * v ∧ q * v ≤ 4000000000000000000)
    (c1 : -4000000000000000000 ≤ h ∧ h ≤ 4000000000000000000) (c2 : -4000000000000000000 ≤ x ∧ x ≤ 4000000000000000000) (c3 : -4000000000000000000 ≤ y ∧ y ≤ 4000000000000000000) :
    Calls Tryd.prog 68 #[rowV h x y, rowV l u v, .int .i64 q] w fun e w' => e = .returned (rowV (h - q * l) (x - q * u) (y - q * v)) ∧ Below w.heap.size w w' := by
  have k1 : IntKind.i64.wrap (q * l) = q * l := IntWalk.i64_in _ ⟨by omega, by omega⟩
  have k2 : IntKind.i64.wrap (q * u) = q * u := IntWalk.i64_in _ ⟨by omega, by omega⟩
  have k3 : IntKind.i64.wrap (q * v) = q * v := IntWalk.i64_in _ ⟨by omega, by omega⟩
  go_enter Tryd.func68, Tryd.ntmps68
  go_wp2_with fail
  refine bodyPost_ret (v := rowV (h - q * l) (x - q * u) (y - q * v)) (by simp [results, Tryd.results68, go_sem]) rfl ⟨rfl, ?_⟩
  exact (((Below.refl _ w).alloc (Nat.le_refl _) _).alloc (by simp) _).alloc (by simp; omega) _

/-- Is a row surely below the one ahead of it? -/
def sureB (h y l v : Int) : Bool := decide (absI y ≤ h) && decide (absI (v - y) ≤ l - h)
set_option maxRecDepth 100000 in
set_option maxHeartbeats 2000000 in
theorem surely_any (h x y l u v : Int) (w : World) (c1 : -2000000000000000000 ≤ h ∧ h ≤ 2000000000000000000) (c3 : -2000000000000000000 ≤ y ∧ y ≤ 2000000000000000000) (c4 : -2000000000000000000 ≤ l ∧ l ≤ 2000000000000000000) (c6 : -2000000000000000000 ≤ v ∧ v ≤ 2000000000000000000) :
    Calls Tryd.prog 69 #[rowV h x y, rowV l u v] w fun e w' => e = .returned (.bool (sureB h y l v)) ∧ Below w.heap.size w w' := by
  have A1 : Hid (∀ W : World, Calls Tryd.prog 81 #[.int .i64 y] W fun e w' => e = .returned (.int .i64 (absI y)) ∧ w' = W) := fun W => abs_any y W (by omega)
  have A2 : Hid (∀ W : World, Calls Tryd.prog 81 #[.int .i64 (v - y)] W fun e w' => e = .returned (.int .i64 (absI (v - y))) ∧ w' = W) := fun W => abs_any (v - y) W (by omega)
  have HS : Hid (sureB h y l v = (decide (absI y ≤ h) && decide (absI (v - y) ≤ l - h))) := rfl
  generalize sureB h y l v = β at *
  have ab : absI y ≤ 4000000000000000000 ∧ 0 ≤ absI y := by unfold absI; split <;> omega
  have ab2 : absI (v - y) ≤ 4000000000000000000 ∧ 0 ≤ absI (v - y) := by unfold absI; split <;> omega
  generalize absI y = p at *
  generalize absI (v - y) = r at *
  go_enter Tryd.func69, Tryd.ntmps69
  go_wp2_with fail
  obtain ⟨W, hW⟩ : ∃ W, W = (w.alloc (.cells #[.int .i64 h, .int .i64 x, .int .i64 y] 86)).alloc (.cells #[.int .i64 l, .int .i64 u, .int .i64 v] 86) := ⟨_, rfl⟩
  have d1 : W.cell? ⟨w.heap.size, 0, none⟩ = some (.int .i64 h) := by rw [hW]; simp
  have d3 : W.cell? ⟨w.heap.size, 2, none⟩ = some (.int .i64 y) := by rw [hW]; simp
  have d4 : W.cell? ⟨w.heap.size + 1, 0, none⟩ = some (.int .i64 l) := by rw [hW]; simp
  have d6 : W.cell? ⟨w.heap.size + 1, 2, none⟩ = some (.int .i64 v) := by rw [hW]; simp
  have HB : Hid (Below w.heap.size w W) := by rw [hW]; exact ((Below.refl _ w).alloc (Nat.le_refl _) _).alloc (by simp) _
  rw [← hW]
  clear hW
  by_cases hp : p ≤ h
  · go_quiet (first | (go_at_call_of 81 y; first | exact Calls.quiet_of_same (A1.out _) | exact Calls.quiet_of_same (A2.out _)))
    go_wp2_with fail
    go_ret
    exact ⟨ret_b (by rw [HS.out]; simp [hp]), HB.out.trans ⟨rfl, rfl, rfl, Nat.le_refl _, fun _ _ => rfl⟩⟩
  · have hpd : decide (p ≤ h) = false := decide_eq_false hp
    go_quiet (first | (go_at_call_of 81 y; first | exact Calls.quiet_of_same (A1.out _) | exact Calls.quiet_of_same (A2.out _)))
    go_wp2_with fail
    go_ret
    exact ⟨ret_b (by rw [HS.out]; simp [hpd]), HB.out.trans ⟨rfl, rfl, rfl, Nat.le_refl _, fun _ _ => rfl⟩⟩
end Go.Proofs.YtflabehlaiocaaaDoor

/- The walks of a row's number, of short, and of the greatest divisor of short numbers. -/
set_option linter.unusedSimpArgs false
set_option linter.unusedVariables false
namespace Go.Proofs.YtflabehlaiocaaaDoor
open Go.RowKit Go.Deep

/-- Two puts one behind the other, whatever turns round on the way. -/
theorem puts_two {B k : Nat} {z l m p1 p2 : List Nat} {x y c1 c2 : Int} (h1 : Puts B z l x k p1 c1) (h2 : Puts B p1 m y k p2 c2) (hz : vl B z = 0) (hzl : z.length ≤ k) (hl : l.length ≤ k) (hm : m.length ≤ k) (R : Nat) (hR : (R : Int) = x * (vl B l : Int) + y * (vl B m : Int)) (hk : R < B ^ k) : vl B p2 = R := by
  have e1 := h1.eq
  have e2 := h2.eq
  rw [List.take_of_length_le hzl, List.take_of_length_le hl, hz] at e1
  rw [List.take_of_length_le (by rw [h1.len]; exact Nat.le_refl _), List.take_of_length_le hm] at e2
  have hp := vl_lt B p2 h2.low
  rw [h2.len] at hp
  have hB : (B : Int) ^ k = ((B ^ k : Nat) : Int) := by push_cast; rfl
  rw [hB] at e1 e2
  generalize B ^ k = M at *
  have e3 : (R : Int) = (vl B p2 : Int) + (c1 + c2) * (M : Int) := by
    rw [hR]
    simp only [Int.natCast_zero, Int.zero_add] at e1
    grind
  have hc : c1 + c2 = 0 := by
    rcases Int.lt_trichotomy (c1 + c2) 0 with hc | hc | hc
    · exfalso
      have : (c1 + c2) * (M : Int) ≤ (-1) * (M : Int) := Int.mul_le_mul_of_nonneg_right (by omega) (by omega)
      omega
    · exact hc
    · exfalso
      have : 1 * (M : Int) ≤ (c1 + c2) * (M : Int) := Int.mul_le_mul_of_nonneg_right (by omega) (by omega)
      omega
  rw [hc] at e3
  omega

set_option maxRecDepth 100000 in
set_option maxHeartbeats 2000000 in
theorem of_any (w : World) (a1 a2 : Option Addr) (cap1 cap2 n o R : Nat) (h x y : Int) (h1 : Row w a1 (dg 1000000000 n)) (h2 : Row w a2 (dg 1000000000 o)) (b1 : (dg 1000000000 n).length ≤ 1000000) (hon : o ≤ n) (hRn : R ≤ n)
    (hx : -1000000000 ≤ x ∧ x ≤ 1000000000) (hy : -1000000000 ≤ y ∧ y ≤ 1000000000) (hR : (R : Int) = x * (n : Int) + y * (o : Int)) :
    Calls Tryd.prog 57 #[.agg #[.int .i64 h, .int .i64 x, .int .i64 y], .slice a1 (dg 1000000000 n).length cap1, .slice a2 (dg 1000000000 o).length cap2] w fun e w' => (∃ v, e = .returned v ∧ NumV w' 1000000000 R v) ∧ Below w.heap.size w w' := by
  have hkl := dg_len_mono bigBase hon
  have HV1 : Hid (vl 1000000000 (dg 1000000000 n) = n) := vl_dg bigBase n
  have HV2 : Hid (vl 1000000000 (dg 1000000000 o) = o) := vl_dg bigBase o
  have HD1 : Hid (∀ d ∈ dg 1000000000 n, d < 1000000000) := dg_mem bigBase n
  have HD2 : Hid (∀ d ∈ dg 1000000000 o, d < 1000000000) := dg_mem bigBase o
  have HN1 : Hid (R < 1000000000 ^ (dg 1000000000 n).length) := Nat.lt_of_le_of_lt hRn (lt_pow_dg bigBase n)
  have HRe : Hid ((R : Int) = x * (n : Int) + y * (o : Int)) := hR
  clear hR
  generalize dg 1000000000 n = l1 at *
  generalize dg 1000000000 o = l2 at *
  have H1 : Hid (Row w a1 l1) := h1
  have H2 : Hid (Row w a2 l2) := h2
  have G1 : Hid (∀ g, w.heap.size ≤ g → l1 ≠ [] → Apart a1 g) := fun g hg hne k' o' he => by
    obtain ⟨b, o'', he', hc⟩ := h1 0 (List.length_pos_iff.2 hne)
    rw [he] at he'
    simp only [Option.some.injEq, Addr.mk.injEq] at he'
    have := World.block_lt_of_cell? _ _ hc
    simp at this; omega
  have G2 : Hid (∀ g, w.heap.size ≤ g → l2 ≠ [] → Apart a2 g) := fun g hg hne k' o' he => by
    obtain ⟨b, o'', he', hc⟩ := h2 0 (List.length_pos_iff.2 hne)
    rw [he] at he'
    simp only [Option.some.injEq, Addr.mk.injEq] at he'
    have := World.block_lt_of_cell? _ _ hc
    simp at this; omega
  clear h1 h2
  obtain ⟨K, hK, hmk⟩ : ∃ K : Nat, K = l1.length ∧ ∀ w, (Instr.makeSlice 37 (.int .i64 (l1.length : Int)) (.int .i64 (l1.length : Int))).run Tryd.prog w = .ok (.slice (some ⟨w.heap.size, 0, none⟩) K K) (w.alloc (.cells (zs (List.replicate K 0)).toArray 2)) :=
    ⟨l1.length, rfl, fun w => makeNum' _ _ rfl (by omega) w⟩
  have HK : Hid (K = l1.length) := hK
  clear hK
  go_enter Tryd.func57, Tryd.ntmps57
  go_wp2_with fail
  obtain ⟨W0, hW0⟩ : ∃ W0, W0 = w.alloc (.cells #[.int .i64 h, .int .i64 x, .int .i64 y] 86) := ⟨_, rfl⟩
  have x0 : W0.cell? ⟨w.heap.size, 1, none⟩ = some (.int .i64 x) := by rw [hW0]; simp
  have y0 : W0.cell? ⟨w.heap.size, 2, none⟩ = some (.int .i64 y) := by rw [hW0]; simp
  have B0 : Hid (Below w.heap.size w W0) := by rw [hW0]; exact (Below.refl _ w).alloc (Nat.le_refl _) _
  have s0 : W0.heap.size = w.heap.size + 1 := by rw [hW0]; simp
  rw [← hW0]
  have q1 : IHolds (W0.alloc (.cells (zs (List.replicate K 0)).toArray 2)) (w.heap.size + 1) 2 (zs (List.replicate K 0)) := by have := IHolds.new W0 2 (zs (List.replicate K 0)); rw [s0] at this; exact this
  have q2 : Below W0.heap.size W0 (W0.alloc (.cells (zs (List.replicate K 0)).toArray 2)) := (Below.refl _ W0).alloc (Nat.le_refl _) _
  have y1 : Hid ((W0.alloc (.cells (zs (List.replicate K 0)).toArray 2)).cell? ⟨w.heap.size, 2, none⟩ = some (.int .i64 y)) := by show _ = _; rw [q2.cell (show w.heap.size < W0.heap.size by omega)]; exact y0
  have B1 : Hid (Below w.heap.size w (W0.alloc (.cells (zs (List.replicate K 0)).toArray 2))) := B0.out.trans (q2.mono B0.out.size)
  have Q1 : Hid (IHolds (W0.alloc (.cells (zs (List.replicate K 0)).toArray 2)) (w.heap.size + 1) 2 (zs (List.replicate K 0))) := q1
  clear hW0 x0 y0 q1 q2 s0 hmk
  generalize W0.alloc (.cells (zs (List.replicate K 0)).toArray 2) = W1 at *
  have HL : Hid ((List.replicate K 0).length = K) := by show _ = _; simp
  have HLv : Hid (vl 1000000000 (List.replicate K 0) = 0) := vl_zeros _ _
  have HLd : Hid (∀ d ∈ List.replicate K 0, d < 1000000000) := fun d hd => by have := List.eq_of_mem_replicate hd; omega
  generalize List.replicate K 0 = L at *
  obtain rfl : K = L.length := HL.out.symm
  have hLl := HK.out
  refine (put_whole W1 (w.heap.size + 1) L.length 2 L a1 cap1 l1 x Q1.out (H1.out.of_below B1.out) (G1.out _ (by omega)) HLd.out HD1.out hx (by omega)).mono ?_
  rintro e W2 ⟨p1, c1, rfl, hp1, hI1, hB1⟩
  have y2 : W2.cell? ⟨w.heap.size, 2, none⟩ = some (.int .i64 y) := by rw [hB1.cell (World.block_lt_of_cell? _ _ y1.out) (by show w.heap.size ≠ _; omega)]; exact y1.out
  have B2 : Hid (Below w.heap.size w W2) := B1.out.trans (hB1.below B1.out.size (by omega))
  have HP1 : Hid (Puts 1000000000 L l1 x L.length p1 c1) := hp1
  have hpl := hp1.len
  have HI1 : Hid (IHolds W2 (w.heap.size + 1) 2 (zs p1)) := hI1
  have HPU : Hid (Calls Tryd.prog 52 #[.slice (some ⟨w.heap.size + 1, 0, none⟩) L.length L.length, .slice a2 l2.length cap2, .int .i64 y] W2 fun e w' => ∃ (p : List Nat) (c : Int), e = .returned (.int .i64 c) ∧ Puts 1000000000 p1 l2 y L.length p c ∧ IHolds w' (w.heap.size + 1) 2 (zs p) ∧ But (w.heap.size + 1) W2 w') := by
    have := put_whole W2 (w.heap.size + 1) L.length 2 p1 a2 cap2 l2 y hI1 (H2.out.of_below B2.out) (G2.out _ (by omega)) hp1.low HD2.out hy (by omega)
    rw [hpl] at this
    exact this
  clear hp1 hI1 hB1 y1 hLl
  go_wp2_with fail
  refine HPU.out.mono ?_
  rintro e W3 ⟨p2, c2, rfl, hp2, hI2, hB2⟩
  have hN : Hid (vl 1000000000 p2 = R) := puts_two HP1.out hp2 HLv.out (Nat.le_refl _) (by have := HK.out; omega) (by have := HK.out; omega) R (by rw [HV1.out, HV2.out]; exact HRe.out) (by rw [HK.out]; exact HN1.out)
  have hpl2 : Hid (p2.length = L.length) := hp2.len
  have HPd : Hid (∀ d ∈ p2, d < 1000000000) := hp2.low
  have HI2 : Hid (IHolds W3 (w.heap.size + 1) 2 (zs p2)) := hI2
  have B3 : Hid (Below w.heap.size w W3) := B2.out.trans (hB2.below B2.out.size (by omega))
  have hLb : L.length ≤ 1000000 := by have := HK.out; omega
  clear hp2 hI2 hB2 y2
  go_wp2_with fail
  refine (trimmed_at W3 (w.heap.size + 1) L.length L.length 2 p2 HI2.out hpl2.out (Nat.le_refl _) HPd.out (by omega)).mono ?_
  rintro e W4 ⟨⟨v, rfl, hv⟩, rfl⟩
  rw [hN.out] at hv
  have HVV : Hid (NumV W4 1000000000 R v) := hv
  clear hv
  go_wp2_with fail
  go_ret
  exact ⟨⟨_, rfl, HVV.out⟩, B3.out⟩

/-! ### Numbers of at most two limbs -/
theorem short_val (n : Nat) (h : (dg 1000000000 n).length ≤ 2) : (dg 1000000000 n).getD 1 0 * 1000000000 + (dg 1000000000 n).getD 0 0 = n := by
  have e := vl_dg bigBase n
  match hx : dg 1000000000 n, h with
  | [], _ => rw [hx] at e; simpa [vl] using e
  | [a], _ => rw [hx] at e; simpa [vl] using e
  | [a, b], _ => rw [hx] at e; simp [vl] at e ⊢; omega
set_option maxHeartbeats 400000 in
theorem short_any (w : World) (a : Option Addr) (cap n : Nat) (h : Row w a (dg 1000000000 n)) (hl : (dg 1000000000 n).length ≤ 2) :
    Calls Tryd.prog 74 #[.slice a (dg 1000000000 n).length cap] w fun e w' => e = .returned (.int .i64 (n : Int)) ∧ w' = w := by
  have A0 : Hid (Calls Tryd.prog 64 #[.slice a (dg 1000000000 n).length cap, .int .i64 0] w fun e w' => e = .returned (I ((dg 1000000000 n).getD 0 0)) ∧ w' = w) := limb_any w a _ cap 0 h
  have A1 : Hid (Calls Tryd.prog 64 #[.slice a (dg 1000000000 n).length cap, .int .i64 1] w fun e w' => e = .returned (I ((dg 1000000000 n).getD 1 0)) ∧ w' = w) := limb_any w a _ cap 1 h
  have e := short_val n hl
  have b0 := getD_low (show 0 < 1000000000 by omega) (dg_mem bigBase n) 0
  have b1 := getD_low (show 0 < 1000000000 by omega) (dg_mem bigBase n) 1
  have HE : Hid ((((dg 1000000000 n).getD 1 0 : Nat) : Int) * 1000000000 + (((dg 1000000000 n).getD 0 0 : Nat) : Int) = (n : Int)) := by show _ = _; omega
  clear h e
  generalize (dg 1000000000 n).getD 0 0 = x0 at *
  generalize (dg 1000000000 n).getD 1 0 = x1 at *
  generalize (dg 1000000000 n).length = k at *
  go_enter Tryd.func74, Tryd.ntmps74
  go_wp2_with fail
  refine A1.out.mono ?_
  rintro e w ⟨rfl, rfl⟩
  go_wp2_with fail
  refine A0.out.mono ?_
  rintro e w ⟨rfl, rfl⟩
  go_wp2_with fail
  go_ret
  exact ⟨ret_i HE.out, rfl⟩

set_option maxRecDepth 100000 in
set_option maxHeartbeats 1000000 in
theorem gcdOfShort_any (w : World) (a1 a2 : Option Addr) (cap1 cap2 n o : Nat) (h1 : Row w a1 (dg 1000000000 n)) (h2 : Row w a2 (dg 1000000000 o)) (b1 : (dg 1000000000 n).length ≤ 2) (b2 : (dg 1000000000 o).length ≤ 2) :
    Calls Tryd.prog 58 #[.slice a1 (dg 1000000000 n).length cap1, .slice a2 (dg 1000000000 o).length cap2] w fun e w' => (∃ v, e = .returned v ∧ NumV w' 1000000000 (Nat.gcd n o) v) ∧ Below w.heap.size w w' := by
  have A1 : Hid (Calls Tryd.prog 74 #[.slice a1 (dg 1000000000 n).length cap1] w fun e w' => e = .returned (.int .i64 (n : Int)) ∧ w' = w) := short_any w a1 cap1 n h1 b1
  have A2 : Hid (Calls Tryd.prog 74 #[.slice a2 (dg 1000000000 o).length cap2] w fun e w' => e = .returned (.int .i64 (o : Int)) ∧ w' = w) := short_any w a2 cap2 o h2 b2
  have n18 : n < 1000000000000000000 := by
    have := lt_pow_dg bigBase n
    have h3 : 1000000000 ^ (dg 1000000000 n).length ≤ 1000000000 ^ 2 := Nat.pow_le_pow_right (by omega) b1
    omega
  have o18 : o < 1000000000000000000 := by
    have := lt_pow_dg bigBase o
    have h3 : 1000000000 ^ (dg 1000000000 o).length ≤ 1000000000 ^ 2 := Nat.pow_le_pow_right (by omega) b2
    omega
  clear h1 h2 b1 b2
  generalize (dg 1000000000 n).length = k1 at *
  generalize (dg 1000000000 o).length = k2 at *
  generalize hg : Nat.gcd n o = g
  have HG : Hid (Nat.gcd n o = g) := hg
  clear hg
  go_enter Tryd.func58, Tryd.ntmps58
  go_wp2_with fail
  refine A1.out.mono ?_
  rintro e w ⟨rfl, rfl⟩
  go_wp2_with fail
  refine A2.out.mono ?_
  rintro e w ⟨rfl, rfl⟩
  clear A1 A2
  go_wp2_with fail
  go_loopg [5, 6] o (fun gk v5 v6 wr => ∃ a b : Nat, v5 = .int .i64 (a : Int) ∧ v6 = .int .i64 (b : Int) ∧ b = gk ∧ a < 1000000000000000000 ∧ b < 1000000000000000000 ∧ Nat.gcd a b = g ∧ ∃ j, wr = w.drewN j)
  case atStart => exact ⟨n, o, rfl, rfl, rfl, n18, o18, HG.out, 0, rfl⟩
  case round =>
    obtain ⟨a, b, rfl, rfl, hbg, ha, hb, hgc, j, hwr⟩ := hrel
    have HW : Hid (∃ j, wr = w.drewN j) := ⟨j, hwr⟩
    have HGC : Hid (Nat.gcd a b = g) := hgc
    have HBG : Hid (b = gk) := hbg
    clear hwr hgc hbg
    by_cases hb0 : b = 0
    · subst hb0
      have hag : a = g := by have := HGC.out; simpa using this
      have HB0 : Hid (Below w.heap.size w wr) := by obtain ⟨j, rfl⟩ := HW.out; exact below_drawn w j
      obtain ⟨r, hr⟩ : ∃ r, r = a % 1000000000 := ⟨_, rfl⟩
      obtain ⟨q, hq⟩ : ∃ q, q = a / 1000000000 := ⟨_, rfl⟩
      have er : (a : Int) % 1000000000 = (r : Int) := by omega
      have eq : (a : Int) / 1000000000 = (q : Int) := by omega
      have HVL : Hid (vl 1000000000 [r, q] = g) := by show _ = _; rw [← hag]; simp [vl]; omega
      have hr9 : r < 1000000000 := by omega
      have hq9 : q < 1000000000 := by omega
      clear hr hq hag
      go_wp2_with fail
      have q1 : Hid (IHolds (wr.alloc (.cells #[.int .i64 (r : Int), .int .i64 (q : Int)] 2)) wr.heap.size 2 (zs [r, q])) := IHolds.new wr 2 (zs [r, q])
      have q2 : Hid (Below wr.heap.size wr (wr.alloc (.cells #[.int .i64 (r : Int), .int .i64 (q : Int)] 2))) := (Below.refl _ wr).alloc (Nat.le_refl _) _
      generalize wr.alloc (.cells #[.int .i64 (r : Int), .int .i64 (q : Int)] 2) = W3 at *
      refine (trimmed_at W3 wr.heap.size 2 2 2 [r, q] q1.out rfl (Nat.le_refl _) (fun x hx => by simp at hx; omega) (by omega)).mono ?_
      rintro e W4 ⟨⟨v2, rfl, hv⟩, rfl⟩
      rw [HVL.out] at hv
      have HR : Hid (NumV W4 1000000000 g v2) := hv
      have HB2 : Hid (Below w.heap.size w W4) := HB0.out.trans (q2.out.mono HB0.out.size)
      clear hv
      go_wp2_with fail
      go_ret
      exact ⟨⟨v2, rfl, HR.out⟩, HB2.out⟩
    · have hb1 : ((b : Int) != 0) = true := bne_iff_ne.2 (by omega)
      have hbp : (0 : Int) < (b : Int) := by omega
      obtain ⟨m, hm⟩ : ∃ m, m = a % b := ⟨_, rfl⟩
      have em : (a : Int) % (b : Int) = (m : Int) := by rw [hm]; exact (Int.natCast_emod _ _).symm
      have hmb : m < b := by rw [hm]; exact Nat.mod_lt _ (by omega)
      have HG2 : Hid (Nat.gcd b m = g) := by show _ = _; rw [hm, ← HGC.out, Nat.gcd_comm a b, Nat.gcd_rec b a, Nat.gcd_comm]
      clear hm
      go_wp2_with fail
      go_quiet (fail)
      go_wp2_with fail
      go_roundg m
      case measure => have := HBG.out; omega
      case rel => exact ⟨b, m, rfl, by first | rfl | rw [em], rfl, by omega, by omega, HG2.out, drewN_ex HW.out nq⟩
end Go.Proofs.YtflabehlaiocaaaDoor

/- The walk of heads: the first digits of two numbers. -/
set_option linter.unusedSimpArgs false
set_option linter.unusedVariables false
namespace Go.Proofs.YtflabehlaiocaaaDoor
open Go.RowKit Go.Deep

/-- The first digits of a number. -/
def headN (l : List Nat) (t sc dv : Nat) : Nat := (l.getD (t + 2) 0 * 1000000000 + l.getD (t + 1) 0) * sc + l.getD t 0 / dv
theorem head_alg {x0 x1 x2 y z sc dv E L : Nat} (hsd : sc * dv = 1000000000) :
    L + E * (dv * y + z) + E * 1000000000 * x1 + E * 1000000000 * 1000000000 * x2 = ((x2 * 1000000000 + x1) * sc + y) * (dv * E) + (E * z + L) := by
  have k : (x2 * 1000000000 + x1) * sc * (dv * E) = (x2 * 1000000000 + x1) * (sc * dv) * E := by grind
  rw [Nat.add_mul, k, hsd]
  grind
theorem head_split (l : List Nat) (t sc dv : Nat) (hl : ∀ x ∈ l, x < 1000000000) (hlen : l.length ≤ t + 3) (hsd : sc * dv = 1000000000) (hdv : 0 < dv) :
    ∃ r, vl 1000000000 l = headN l t sc dv * (dv * 1000000000 ^ t) + r ∧ r < dv * 1000000000 ^ t := by
  have e0 := vl_take_succ 1000000000 l (t + 2)
  have e1 := vl_take_succ 1000000000 l (t + 1)
  have e2 := vl_take_succ 1000000000 l t
  rw [List.take_of_length_le hlen] at e0
  have h3 := vl_lt 1000000000 (l.take t) (fun d hd => hl d (List.mem_of_mem_take hd))
  have h4 : 1000000000 ^ (l.take t).length ≤ 1000000000 ^ t := Nat.pow_le_pow_right (by omega) (by rw [List.length_take]; omega)
  have hd := Nat.div_add_mod (l.getD t 0) dv
  have hm := Nat.mod_lt (l.getD t 0) hdv
  refine ⟨1000000000 ^ t * (l.getD t 0 % dv) + vl 1000000000 (l.take t), ?_, ?_⟩
  · have p1 : 1000000000 ^ (t + 1) = 1000000000 ^ t * 1000000000 := Nat.pow_succ _ _
    have p2 : 1000000000 ^ (t + 2) = 1000000000 ^ t * 1000000000 * 1000000000 := by rw [Nat.pow_succ, p1]
    rw [e0, e1, e2, p1, p2, headN]
    clear e0 e1 e2 p1 p2 h3 h4 hm hlen hl
    generalize l.getD (t + 2) 0 = x2 at *
    generalize l.getD (t + 1) 0 = x1 at *
    generalize l.getD t 0 / dv = y at *
    generalize l.getD t 0 % dv = z at *
    generalize l.getD t 0 = x0 at *
    rw [← hd]
    generalize 1000000000 ^ t = E at *
    generalize vl 1000000000 (l.take t) = L at *
    exact head_alg (x0 := 0) hsd
  · generalize l.getD t 0 % dv = z at *
    generalize 1000000000 ^ t = E at *
    have : E * (z + 1) ≤ E * dv := Nat.mul_le_mul_left _ hm
    have e : E * (z + 1) = E * z + E := by grind
    have e' : dv * E = E * dv := Nat.mul_comm _ _
    omega
theorem head_lt (l : List Nat) (t sc dv : Nat) (hl : ∀ x ∈ l, x < 1000000000) (hsd : sc * dv = 1000000000) (hdv : 0 < dv) (hx : l.getD (t + 2) 0 * sc < 1000000000) : headN l t sc dv < 1000000000000000000 := by
  unfold headN
  have b1 := getD_low (show 0 < 1000000000 by omega) hl (t + 1)
  have b0 := getD_low (show 0 < 1000000000 by omega) hl t
  generalize l.getD (t + 2) 0 = x2 at *
  generalize l.getD (t + 1) 0 = x1 at *
  generalize l.getD t 0 = x0 at *
  have h1 : x2 < dv := by
    have : x2 * sc < dv * sc := by rw [Nat.mul_comm dv sc, hsd]; exact hx
    exact Nat.lt_of_mul_lt_mul_right this
  have h2 : (x2 + 1) * sc ≤ 1000000000 := by rw [← hsd, Nat.mul_comm sc dv]; exact Nat.mul_le_mul_right _ h1
  have h3 : x0 / dv < sc := by rw [Nat.div_lt_iff_lt_mul hdv, hsd]; exact b0
  have h4 : (x2 * 1000000000 + x1 + 1) * sc ≤ ((x2 + 1) * 1000000000) * sc := Nat.mul_le_mul_right _ (by omega)
  have h5 : ((x2 + 1) * 1000000000) * sc = ((x2 + 1) * sc) * 1000000000 := by grind
  have h6 : (x2 * 1000000000 + x1 + 1) * sc = (x2 * 1000000000 + x1) * sc + sc := by grind
  omega

set_option maxRecDepth 100000 in
set_option maxHeartbeats 2000000 in
theorem heads1_any (w : World) (a : Option Addr) (cap : Nat) (l : List Nat) (bt bs t sc dv : Nat) (hr : Row w a l) (hl : ∀ x ∈ l, x < 1000000000) (ht : t ≤ 1000000) (hct : w.cell? ⟨bt, 0, none⟩ = some (.int .i64 ((t + 2 : Nat) : Int))) (hcs : w.cell? ⟨bs, 0, none⟩ = some (.int .i64 (sc : Int)))
    (hsd : sc * dv = 1000000000) (hdv : 0 < dv) (hb : headN l t sc dv < 1000000000000000000) :
    Calls Tryd.prog 80 #[.slice a l.length cap, .pointer (some ⟨bt, 0, none⟩), .pointer (some ⟨bs, 0, none⟩)] w fun e w' => e = .returned (.int .i64 (headN l t sc dv : Int)) ∧ ∃ j, w' = w.drewN j := by
  obtain ⟨T, hT⟩ : ∃ T, T = t + 2 := ⟨_, rfl⟩
  obtain ⟨T1, hT1⟩ : ∃ T1, T1 = t + 1 := ⟨_, rfl⟩
  have A2 : Hid (∀ j, Calls Tryd.prog 64 #[.slice a l.length cap, .int .i64 (T : Int)] (w.drewN j) fun e w' => e = .returned (I (l.getD (t + 2) 0)) ∧ w' = w.drewN j) := fun j => by rw [hT]; exact limb_any (w.drewN j) a l cap (t + 2) (hr.drew j)
  have A1 : Hid (∀ j, Calls Tryd.prog 64 #[.slice a l.length cap, .int .i64 (T1 : Int)] (w.drewN j) fun e w' => e = .returned (I (l.getD (t + 1) 0)) ∧ w' = w.drewN j) := fun j => by rw [hT1]; exact limb_any (w.drewN j) a l cap (t + 1) (hr.drew j)
  have A0 : Hid (∀ j, Calls Tryd.prog 64 #[.slice a l.length cap, .int .i64 (t : Int)] (w.drewN j) fun e w' => e = .returned (I (l.getD t 0)) ∧ w' = w.drewN j) := fun j => limb_any (w.drewN j) a l cap t (hr.drew j)
  have b2 := getD_low (show 0 < 1000000000 by omega) hl (t + 2)
  have b1 := getD_low (show 0 < 1000000000 by omega) hl (t + 1)
  have b0 := getD_low (show 0 < 1000000000 by omega) hl t
  rw [← hT] at hct
  unfold headN at *
  have t1 : (T : Int) - 1 = (T1 : Int) := by omega
  have t2 : (T : Int) - 2 = (t : Int) := by omega
  have hTb : T ≤ 1000002 := by omega
  have hsc : 0 < sc := by
    rcases Nat.eq_zero_or_pos sc with h0 | h0
    · rw [h0] at hsd; simp at hsd
    · exact h0
  have esc : (1000000000 : Int) / (sc : Int) = (dv : Int) := by
    have : 1000000000 / sc = dv := by rw [← hsd, Nat.mul_div_cancel_left _ hsc]
    rw [← this]; exact (Int.natCast_ediv 1000000000 sc).symm
  clear hT hT1 hr hl hsd
  generalize l.getD (t + 2) 0 = x2 at *
  generalize l.getD (t + 1) 0 = x1 at *
  generalize l.getD t 0 = x0 at *
  obtain ⟨p, hp⟩ : ∃ p, p = x2 * 1000000000 + x1 := ⟨_, rfl⟩
  have ep : (x2 : Int) * 1000000000 + (x1 : Int) = (p : Int) := by omega
  have pb : p < 1000000000000000000 := by omega
  rw [← hp] at hb ⊢
  obtain ⟨z, hz⟩ : ∃ z, z = p * sc := ⟨_, rfl⟩
  have ez : (p : Int) * (sc : Int) = (z : Int) := by rw [hz]; push_cast; rfl
  rw [← hz] at hb ⊢
  obtain ⟨y, hy⟩ : ∃ y, y = x0 / dv := ⟨_, rfl⟩
  have ey : (x0 : Int) / (dv : Int) = (y : Int) := by rw [hy]; exact (Int.natCast_ediv _ _).symm
  rw [← hy] at hb ⊢
  have hsc' : (0 : Int) < (sc : Int) := by omega
  have hdv' : (0 : Int) < (dv : Int) := by omega
  clear hp hz hy
  go_enter Tryd.func80, Tryd.ntmps80
  go_wp2_with fail
  go_quiet (first | (go_at_call_of 64 T1; exact Calls.quiet_of_same (A1.out _)) | (go_at_call_of 64 T; exact Calls.quiet_of_same (A2.out _)) | (go_at_call_of 64 t; exact Calls.quiet_of_same (A0.out _)))
  go_wp2_with fail
  go_ret
  exact ⟨ret_i (by push_cast; first | rfl | omega), _, rfl⟩

/-- Two numbers cut behind their first digits. -/
structure Cut (n o a b S n' o' : Nat) : Prop where
  en : n = a * S + n'
  eo : o = b * S + o'
  ln : n' < S
  lo : o' < S
  ha : a < 1000000000000000000
theorem Cut.le {n o a b S n' o' : Nat} (h : Cut n o a b S n' o') (hon : o ≤ n) : b ≤ a := by
  by_cases hc : b ≤ a
  · exact hc
  · exfalso
    have : (a + 1) * S ≤ b * S := Nat.mul_le_mul_right _ (by omega)
    have e : (a + 1) * S = a * S + S := by grind
    have h1 := h.en
    have h2 := h.eo
    have h3 := h.ln
    omega
theorem cut_of {n o t sc dv : Nat} (hon : o ≤ n) (hlen : (dg 1000000000 n).length = t + 3) (hsd : sc * dv = 1000000000) (hx : (dg 1000000000 n).getD (t + 2) 0 * sc < 1000000000) :
    ∃ S n' o', Cut n o (headN (dg 1000000000 n) t sc dv) (headN (dg 1000000000 o) t sc dv) S n' o' := by
  have hdv : 0 < dv := by
    rcases Nat.eq_zero_or_pos dv with h0 | h0
    · rw [h0] at hsd; simp at hsd
    · exact h0
  obtain ⟨r1, e1, l1⟩ := head_split (dg 1000000000 n) t sc dv (dg_mem bigBase n) (by omega) hsd hdv
  obtain ⟨r2, e2, l2⟩ := head_split (dg 1000000000 o) t sc dv (dg_mem bigBase o) (by have := dg_len_mono bigBase hon; omega) hsd hdv
  rw [vl_dg bigBase] at e1 e2
  exact ⟨_, r1, r2, e1, e2, l1, l2, head_lt _ t sc dv (dg_mem bigBase n) hsd hdv hx⟩
theorem ten_dvd (k : Nat) (hk : k ≤ 9) : 10 ^ k * 10 ^ (9 - k) = 1000000000 := by
  rw [← Nat.pow_add, show k + (9 - k) = 9 by omega]

set_option maxRecDepth 100000 in
set_option maxHeartbeats 4000000 in
theorem heads_any (w : World) (a1 a2 : Option Addr) (cap1 cap2 n o t : Nat) (h1 : Row w a1 (dg 1000000000 n)) (h2 : Row w a2 (dg 1000000000 o)) (ht : t ≤ 1000000) (hlen : (dg 1000000000 n).length = t + 3) (hon : o ≤ n) :
    Calls Tryd.prog 67 #[.slice a1 (dg 1000000000 n).length cap1, .slice a2 (dg 1000000000 o).length cap2] w fun e w' => (∃ a b S n' o' : Nat, e = .returned (.tuple #[.int .i64 (a : Int), .int .i64 (b : Int)]) ∧ Cut n o a b S n' o') ∧ Below w.heap.size w w' := by
  have HCUT : Hid (∀ sc dv, sc * dv = 1000000000 → (dg 1000000000 n).getD (t + 2) 0 * sc < 1000000000 → ∃ S n' o', Cut n o (headN (dg 1000000000 n) t sc dv) (headN (dg 1000000000 o) t sc dv) S n' o') := fun sc dv g1 g2 => cut_of hon hlen g1 g2
  have HD1 : Hid (∀ d ∈ dg 1000000000 n, d < 1000000000) := dg_mem bigBase n
  have HD2 : Hid (∀ d ∈ dg 1000000000 o, d < 1000000000) := dg_mem bigBase o
  have htop : (dg 1000000000 n).getD (t + 2) 0 ≠ 0 := by
    rcases dg_topped bigBase n with h | h
    · rw [h] at hlen; simp at hlen
    · rw [hlen] at h; exact h
  generalize dg 1000000000 n = l1 at *
  generalize dg 1000000000 o = l2 at *
  have H1 : Hid (Row w a1 l1) := h1
  have H2 : Hid (Row w a2 l2) := h2
  have hx9 := getD_low (show 0 < 1000000000 by omega) HD1.out (t + 2)
  obtain ⟨bb, oo, rfl, ccx⟩ := h1 0 (by omega)
  clear ccx
  have HX : Hid (∀ W, Below w.heap.size w W → W.cell? ⟨bb, oo + (t + 2), none⟩ = some (I (l1.getD (t + 2) 0))) := fun W hW => (h1.of_below hW).cellAt (t + 2) (by omega)
  clear h1 h2
  generalize hxx : l1.getD (t + 2) 0 = x at *
  clear hxx
  have hl1 : (l1.length : Int) - 1 = ((t + 2 : Nat) : Int) := by omega
  have HLl : Hid (l1.length = t + 3) := hlen
  obtain ⟨T, hT⟩ : ∃ T, T = t + 2 := ⟨_, rfl⟩
  rw [← hT] at hl1 HX
  have HT : Hid (T = t + 2) := hT
  have hTl : T < l1.length := by omega
  have hTl' : (T : Int) < (l1.length : Int) := by omega
  have hlb : l1.length ≤ 1000003 := by omega
  clear hlen hT
  go_enter Tryd.func67, Tryd.ntmps67
  go_wp2_with fail
  obtain ⟨W0, hW0⟩ : ∃ W0, W0 = (w.alloc (.cells #[.int .i64 (T : Int)] 3)).alloc (.cells #[.int .i64 1] 2) := ⟨_, rfl⟩
  have q1 : Hid (IHolds W0 w.heap.size 3 [.int .i64 (T : Int)]) := by rw [hW0]; exact (IHolds.new w 3 [.int .i64 (T : Int)]).alloc _
  have q2 : Hid (IHolds W0 (w.heap.size + 1) 2 [.int .i64 1]) := by
    rw [hW0]
    have := IHolds.new (w.alloc (.cells #[.int .i64 (T : Int)] 3)) 2 [.int .i64 1]
    rw [World.size_alloc] at this
    exact this
  have q3 : Hid (Below w.heap.size w W0) := by rw [hW0]; exact ((Below.refl _ w).alloc (Nat.le_refl _) _).alloc (by simp) _
  rw [← hW0]
  clear hW0
  have bne : Hid (w.heap.size ≠ w.heap.size + 1) := by show ¬ _; omega
  go_loopg [] 9 (fun gk wr => ∃ (k sc : Nat), k + gk = 9 ∧ sc = 10 ^ k ∧ x * sc < 1000000000 ∧ IHolds wr (w.heap.size + 1) 2 [.int .i64 (sc : Int)] ∧ IHolds wr w.heap.size 3 [.int .i64 (T : Int)] ∧ Below w.heap.size w wr)
  case atStart => exact ⟨0, 1, rfl, rfl, by omega, q2.out, q1.out, q3.out⟩
  case round =>
    obtain ⟨k, sc, hk, hsc, hxs, hIs, hIt, hB⟩ := hrel
    clear q1 q2 q3
    have HSC : Hid (sc = 10 ^ k) := hsc
    have hscp : 0 < sc := by rw [hsc]; exact Nat.pow_pos (by omega)
    have hsc9 : sc ≤ 1000000000 := by
      have : 1 * sc ≤ x * sc := Nat.mul_le_mul_right _ (by omega)
      omega
    clear hsc
    have ct : wr.cell? ⟨w.heap.size, 0, none⟩ = some (.int .i64 (T : Int)) := hIt.cell 0 (by simp)
    have cs : wr.cell? ⟨w.heap.size + 1, 0, none⟩ = some (.int .i64 (sc : Int)) := hIs.cell 0 (by simp)
    have fs : wr.frozen? ⟨w.heap.size + 1, 0, none⟩ = false := hIs.frozen 0
    have cx := HX.out wr hB
    have HIs : Hid (IHolds wr (w.heap.size + 1) 2 [.int .i64 (sc : Int)]) := hIs
    have HIt : Hid (IHolds wr w.heap.size 3 [.int .i64 (T : Int)]) := hIt
    have HB : Hid (Below w.heap.size w wr) := hB
    clear hIs hIt hB
    obtain ⟨z, hz⟩ : ∃ z, z = x * sc := ⟨_, rfl⟩
    have ez : (x : Int) * (sc : Int) = (z : Int) := by rw [hz]; push_cast; rfl
    have HZ : Hid (z = x * sc) := hz
    rw [← hz] at hxs
    clear hz
    by_cases hc : z < 100000000
    · have hc' : (z : Int) < 100000000 := by omega
      have hk9 : k < 9 := by
        by_cases h9 : k < 9
        · exact h9
        · exfalso
          have e9 : k = 9 := by omega
          have h1 := HSC.out
          rw [e9] at h1
          have h2 := HZ.out
          have h3 : 1 * sc ≤ x * sc := Nat.mul_le_mul_right _ (by omega)
          omega
      go_wp2_with fail
      go_quiet (fail)
      have ct1 : (wr.drewN nq).cell? ⟨w.heap.size, 0, none⟩ = some (.int .i64 (T : Int)) := ct
      have cs1 : (wr.drewN nq).cell? ⟨w.heap.size + 1, 0, none⟩ = some (.int .i64 (sc : Int)) := cs
      have fs1 : (wr.drewN nq).frozen? ⟨w.heap.size + 1, 0, none⟩ = false := fs
      have HIs1 : IHolds (wr.drewN nq) (w.heap.size + 1) 2 [.int .i64 (sc : Int)] := HIs.out
      have HIt1 : IHolds (wr.drewN nq) w.heap.size 3 [.int .i64 (T : Int)] := HIt.out
      have HB1 : Below w.heap.size w (wr.drewN nq) := ⟨HB.out.os, HB.out.tape, HB.out.output, HB.out.size, HB.out.block⟩
      have S1 : Hid (IHolds ((wr.drewN nq).setCell ⟨w.heap.size + 1, 0, none⟩ (.int .i64 ((sc : Int) * 10))) (w.heap.size + 1) 2 [.int .i64 ((sc : Int) * 10)]) := HIs1.set 0 _
      have S2 : Hid (IHolds ((wr.drewN nq).setCell ⟨w.heap.size + 1, 0, none⟩ (.int .i64 ((sc : Int) * 10))) w.heap.size 3 [.int .i64 (T : Int)]) := HIt1.of_but ((But.refl _ _).setCell _ _) bne.out
      have S3 : Hid (Below w.heap.size w ((wr.drewN nq).setCell ⟨w.heap.size + 1, 0, none⟩ (.int .i64 ((sc : Int) * 10)))) := HB1.setCell (by show w.heap.size ≤ w.heap.size + 1; omega) _
      clear ct cs fs HIs HIt HB HIs1 HIt1 HB1 cx
      go_wp2_with fail
      go_roundg (gk - 1)
      case measure => omega
      case rel => exact ⟨k + 1, sc * 10, by omega, by rw [HSC.out, Nat.pow_succ], by have := HZ.out; rw [← Nat.mul_assoc, ← this]; omega, S1.out, S2.out, S3.out⟩
    · have hc' : ¬ (z : Int) < 100000000 := by omega
      have hk9 : k ≤ 9 := by omega
      have hsd : sc * 10 ^ (9 - k) = 1000000000 := by rw [HSC.out]; exact ten_dvd k hk9
      obtain ⟨S, n', o', hcut⟩ := HCUT.out sc (10 ^ (9 - k)) hsd (by rw [← HZ.out]; exact hxs)
      have HCU : Hid (Cut n o (headN l1 t sc (10 ^ (9 - k))) (headN l2 t sc (10 ^ (9 - k))) S n' o') := hcut
      have ha := hcut.ha
      have hb2 := hcut.le hon
      have HA : Hid (∀ W, IHolds W (w.heap.size + 1) 2 [.int .i64 (sc : Int)] → IHolds W w.heap.size 3 [.int .i64 (T : Int)] → Below w.heap.size w W → Calls Tryd.prog 80 #[.slice (some ⟨bb, oo, none⟩) l1.length cap1, .pointer (some ⟨w.heap.size, 0, none⟩), .pointer (some ⟨w.heap.size + 1, 0, none⟩)] W fun e w' => e = .returned (.int .i64 (headN l1 t sc (10 ^ (9 - k)) : Int)) ∧ ∃ j, w' = W.drewN j) := fun W g1 g2 g3 =>
        heads1_any W _ cap1 l1 w.heap.size (w.heap.size + 1) t sc (10 ^ (9 - k)) (H1.out.of_below g3) HD1.out ht (by rw [← HT.out]; exact g2.cell 0 (by simp)) (g1.cell 0 (by simp)) hsd (Nat.pow_pos (by omega)) ha
      have HB2 : Hid (∀ W, IHolds W (w.heap.size + 1) 2 [.int .i64 (sc : Int)] → IHolds W w.heap.size 3 [.int .i64 (T : Int)] → Below w.heap.size w W → Calls Tryd.prog 80 #[.slice a2 l2.length cap2, .pointer (some ⟨w.heap.size, 0, none⟩), .pointer (some ⟨w.heap.size + 1, 0, none⟩)] W fun e w' => e = .returned (.int .i64 (headN l2 t sc (10 ^ (9 - k)) : Int)) ∧ ∃ j, w' = W.drewN j) := fun W g1 g2 g3 =>
        heads1_any W _ cap2 l2 w.heap.size (w.heap.size + 1) t sc (10 ^ (9 - k)) (H2.out.of_below g3) HD2.out ht (by rw [← HT.out]; exact g2.cell 0 (by simp)) (g1.cell 0 (by simp)) hsd (Nat.pow_pos (by omega)) (by omega)
      clear hcut ha hb2 hsd
      generalize headN l1 t sc (10 ^ (9 - k)) = ga at *
      generalize headN l2 t sc (10 ^ (9 - k)) = gb at *
      go_wp2_with fail
      go_quiet (fail)
      have I1 : Hid (IHolds (wr.drewN nq) (w.heap.size + 1) 2 [.int .i64 (sc : Int)]) := HIs.out
      have I2 : Hid (IHolds (wr.drewN nq) w.heap.size 3 [.int .i64 (T : Int)]) := HIt.out
      have I3 : Hid (Below w.heap.size w (wr.drewN nq)) := ⟨HB.out.os, HB.out.tape, HB.out.output, HB.out.size, HB.out.block⟩
      clear ct cs fs HIs HIt HB cx
      generalize wr.drewN nq = w1 at *
      have hcd : decide ((z : Int) < 100000000) = false := decide_eq_false (by omega)
      rw [hcd]
      clear hc hc' hcd
      have hmf : ∀ (fn : Fn) (first cap : Array Value) (w : World), (Instr.makeFunc fn first cap).run Tryd.prog w = .ok (.func fn first cap) w := fun _ _ _ _ => rfl
      go_wp2_with fail
      refine (HA.out w1 I1.out I2.out I3.out).mono ?_
      rintro e w2 ⟨rfl, j, rfl⟩
      have I4 : Hid (Below w.heap.size w (w1.drewN j)) := ⟨I3.out.os, I3.out.tape, I3.out.output, I3.out.size, I3.out.block⟩
      go_wp2_with fail
      refine (HB2.out (w1.drewN j) I1.out I2.out I4.out).mono ?_
      rintro e w3 ⟨rfl, j2, rfl⟩
      have I5 : Hid (Below w.heap.size w ((w1.drewN j).drewN j2)) := ⟨I3.out.os, I3.out.tape, I3.out.output, I3.out.size, I3.out.block⟩
      generalize (w1.drewN j).drewN j2 = w4 at *
      go_wp2_with fail
      go_ret2
      exact ⟨⟨ga, gb, S, n', o', rfl, HCU.out⟩, I5.out⟩
end Go.Proofs.YtflabehlaiocaaaDoor

