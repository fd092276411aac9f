/- Product: the closure and the face. The group's faces, with texts of numbers; elements as powers. First and Back of claims of two bases, in a group that there is. Back and Holds of whatever set. Made claims, one of them: another image is put in; and the plain part of what a false claim is answered at. Two answers to one first, at two challenges: what is extracted holds. The walk of words: a piece of 64 bytes as sixteen words, the lowest byte of each first. Plain: sixteen words folded into eight. No Go text is walked here. Plain: a stir as a list of steps, each with its way back: the same words come out. No Go text is named here. -/
import Derived.Test.YtmpiipcllgjhdaaGreatDoorY13
import Derived.Test.YtmpiipcllgjhdaaGreatDoorY12
import Derived.Test.YtmpiipcllgjhdaaGreatDoorY07
import Derived.Test.YtmpiipcllgjhdaaGreatDoorY06
import Derived.Test.YtmpiipcllgjhdaaGreatDoorY01
import Derived.StillTailTactics
set_option linter.unusedSimpArgs false
set_option linter.unusedVariables false
set_option maxRecDepth 100000
namespace Go.Proofs.YtmpiipcllgjhdaaGreatDoor
open Go.RowKit Go.Deep Go.PlainAid

set_option maxRecDepth 100000 in
set_option maxHeartbeats 2000000 in
theorem on48_78 {w : World} {z : Int} {G : Array Value} {p1 p2 : Nat} {t : ByteArray} {c : Int} (hG : gz.size = G.size) (hi : (Tryz.prog.info? 111).map (·.size) = some G.size) (h1 : G.all (·.oneCell') = true)
    (CG : Hid (∀ W, Calls Tryz.prog 62 #[.int .i64 z] W fun e w' => e = .returned (.tuple #[.agg G, .bool true]) ∧ Below W.heap.size W w')) (HF : Hid (∀ W g, IHolds W g 111 G.toList → Below w.heap.size w W → Calls Tryz.prog 143 #[.pointer (some ⟨g, 0, none⟩), .pointer (some ⟨p1, 0, none⟩), .pointer (some ⟨p2, 0, none⟩)] W fun e w' => e = .returned (.tuple #[.string t, .int .i64 c]) ∧ Below W.heap.size W w')) :
    Calls Tryz.prog 33 #[.int .i64 z, .func (.func 143) #[] #[.pointer (some ⟨p1, 0, none⟩), .pointer (some ⟨p2, 0, none⟩)]] w fun e w' => e = .returned (.tuple #[.string t, .int .i64 c]) ∧ Below w.heap.size w w' := by
  go_enter Tryz.func33, Tryz.ntmps33
  go_wp2_with fail
  refine (CG.out w).mono ?_
  rintro e U1 ⟨rfl, hb⟩
  have B : Hid (Below w.heap.size w U1) := hb
  clear hb
  have hg : (U1.alloc (.cells gz 111)).heap[U1.heap.size]? = some (.cells gz 111 (0, 0)) := by
    have h := IHolds.new U1 111 gz.toList
    unfold IHolds at h
    rw [Array.toArray_toList] at h
    exact h
  have J : Hid (IHolds (U1.alloc (.cells G 111)) U1.heap.size 111 G.toList) := by
    have h := IHolds.new U1 111 G.toList
    rw [Array.toArray_toList] at h
    exact h
  replace B := aB B (nB U1 (.cells G 111))
  go_wp2_with (refine wpList_store_row rfl 111 (.tmp 6) (.tmp 12) rfl U1.heap.size G rfl rfl 111 gz hg hi hG h1 ?_; rw [World.setRow_alloc_new]; clear hg)
  generalize U1.alloc (.cells G 111) = U2 at *
  refine (HF.out U2 _ J.out B.out).mono ?_
  rintro e U3 ⟨rfl, hb⟩
  replace B := aB B hb
  clear hb
  go_wp2_with fail
  go_ret2
  exact ⟨rfl, B.out⟩
set_option maxRecDepth 100000 in
set_option maxHeartbeats 2000000 in
theorem clos78_ok {w : World} {g p1 p2 la ln cx cn : Nat} {ax an : Option Addr} {t : ByteArray} {c : Int} (J1 : Hid (IHolds w p1 22 [.slice ax la cx])) (J2 : Hid (IHolds w p2 22 [.slice an ln cn])) (h0 : ¬ (256 : Int) < (la : Int)) (hne : ln = la) (C : Hid (Calls Tryz.prog 144 #[.pointer (some ⟨g, 0, none⟩), .slice ax la cx, .slice an la cn] w fun e w' => e = .returned (.tuple #[.string t, .int .i64 c]) ∧ Below w.heap.size w w')) :
    Calls Tryz.prog 143 #[.pointer (some ⟨g, 0, none⟩), .pointer (some ⟨p1, 0, none⟩), .pointer (some ⟨p2, 0, none⟩)] w fun e w' => e = .returned (.tuple #[.string t, .int .i64 c]) ∧ Below w.heap.size w w' := by
  subst hne
  have z1 : w.cell? ⟨p1, 0, none⟩ = some (.slice ax ln cx) := J1.out.cell 0 (by simp)
  have z2 : w.cell? ⟨p2, 0, none⟩ = some (.slice an ln cn) := J2.out.cell 0 (by simp)
  go_enter Tryz.func143, Tryz.ntmps143
  go_wp2_with fail
  refine C.out.mono ?_
  rintro e V1 ⟨rfl, hb⟩
  have B : Hid (Below w.heap.size w V1) := hb
  clear hb
  go_wp2_with fail
  go_ret2
  exact ⟨rfl, B.out⟩
set_option maxRecDepth 100000 in
set_option maxHeartbeats 2000000 in
theorem product_face {w : World} {z c : Int} {t : ByteArray} {ax an : Option Addr} {la ln cx cn : Nat}
    (C : Hid (∀ W p1 p2, IHolds W p1 22 [.slice ax la cx] → IHolds W p2 22 [.slice an ln cn] → Below w.heap.size w W → Calls Tryz.prog 33 #[.int .i64 z, .func (.func 143) #[] #[.pointer (some ⟨p1, 0, none⟩), .pointer (some ⟨p2, 0, none⟩)]] W fun e w' => e = .returned (.tuple #[.string t, .int .i64 c]) ∧ Below W.heap.size W w')) :
    Calls Tryz.prog 125 #[.int .i64 z, .slice ax la cx, .slice an ln cn] w fun e w' => e = .returned (.tuple #[.string t, .int .i64 c]) ∧ Below w.heap.size w w' := by
  have Jp1 : Hid (IHolds ((w.alloc (.cells #[.slice ax la cx] 22)).alloc (.cells #[.slice an ln cn] 22)) (w.heap.size) 22 [.slice ax la cx]) := by
    have q := IHolds.new w 22 [.slice ax la cx]
    exact (q.alloc _)
  have Jp2 : Hid (IHolds ((w.alloc (.cells #[.slice ax la cx] 22)).alloc (.cells #[.slice an ln cn] 22)) (w.heap.size + 1) 22 [.slice an ln cn]) := by
    have q := IHolds.new (w.alloc (.cells #[.slice ax la cx] 22)) 22 [.slice an ln cn]
    simp only [World.size_alloc, Nat.add_assoc, Nat.reduceAdd] at q
    exact q
  have B : Hid (Below w.heap.size w ((w.alloc (.cells #[.slice ax la cx] 22)).alloc (.cells #[.slice an ln cn] 22))) := (((Below.refl _ w).alloc (Nat.le_refl _) _).alloc (by simp only [World.size_alloc]; omega) _)
  go_enter Tryz.func125, Tryz.ntmps125
  go_wp2_with fail
  generalize ((w.alloc (.cells #[.slice ax la cx] 22)).alloc (.cells #[.slice an ln cn] 22)) = V0 at *
  refine (C.out V0 _ _ Jp1.out Jp2.out B.out).mono ?_
  rintro e V1 ⟨rfl, hb⟩
  replace B := aB B hb
  clear hb
  go_wp2_with fail
  go_ret2
  exact ⟨rfl, B.out⟩
section
variable {z : Int} {G : Array Value} {S Wd M low one sq Ri Wd2 M2 low2 one2 sq2 Ri2 : Nat}
theorem prod_yes (k : KD z G S Wd M low one sq Ri Wd2 M2 low2 one2 sq2 Ri2) (w : World) {xs ns : List ByteArray} {ax an : Option Addr} {n cx cn : Nat} (hx : SAt w ax xs) (hn : SAt w an ns) (hlx : xs.length = n) (hln : ns.length = n) (h9 : n ≤ 256) :
    Calls Tryz.prog 125 #[.int .i64 z, .slice ax n cx, .slice an n cn] w fun e w' => e = .returned (.tuple #[.string (prodT S M M2 xs ns), .int .i64 (code S M xs ns : Int)]) ∧ Below w.heap.size w w' :=
  product_face (fun W p1 p2 j1 j2 hb => on48_78 k.hG k.hi k.h1 k.CG (fun W2 g hI hb2 => clos78_ok (j1.of_below hb2) (j2.of_below hb2) (by omega) rfl (product_any k (k.gh W2 g hI) xs ns ((hx.of_below hb).of_below hb2) ((hn.of_below hb).of_below hb2) hlx hln h9)))
end
end Go.Proofs.YtmpiipcllgjhdaaGreatDoor
namespace Go.Proofs.YtmpiipcllgjhdaaGreatDoor
open Go.RowKit Go.Deep Go.PlainAid

theorem sgn_mul_right {M M2 x y : Nat} (e : M2 = 2 * M + 1) (hy : y < M2) : sgn M M2 (x * sgn M M2 y % M2) = sgn M M2 (x * y % M2) := by
  rw [Nat.mul_comm, sgn_mul_left e hy, Nat.mul_comm]
theorem sgn_pow {M M2 x : Nat} (e : M2 = 2 * M + 1) (hM : 1 ≤ M) (hx : x < M2) (n : Nat) : sgn M M2 (sgn M M2 x ^ n % M2) = sgn M M2 (x ^ n % M2) := by
  induction n with
  | zero => rw [Nat.pow_zero, Nat.pow_zero]
  | succ n ih =>
    have h1 : sgn M M2 (sgn M M2 x ^ (n + 1) % M2) = sgn M M2 (sgn M M2 x ^ n % M2 * x % M2) := by
      rw [Nat.pow_succ, Nat.mul_mod, ← sgn_mul_right e (Nat.mod_lt _ (by omega)), Nat.mod_eq_of_lt (show sgn M M2 x < M2 by have := sgn_le e hx; omega)]
      have h2 : sgn M M2 (sgn M M2 x) = sgn M M2 x := by
        have h3 := sgn_le e hx
        generalize sgn M M2 x = y at *
        unfold sgn
        rw [if_neg (by omega)]
      rw [h2, sgn_mul_right e hx]
    rw [h1, ← sgn_mul_left e (Nat.mod_lt _ (by omega)), ih, sgn_mul_left e (Nat.mod_lt _ (by omega)), Nat.mod_mul_mod, ← Nat.pow_succ]
theorem sgn_low {M M2 x : Nat} (h : x ≤ M) : sgn M M2 x = x := by unfold sgn; rw [if_neg (by omega)]
theorem sgn_half {M M2 a : Nat} (hp : IsP M2) (e : M2 = 2 * M + 1) (hM : 1 ≤ M) (h0 : a ≠ 0) (h9 : a < M2) : sgn M M2 (a ^ M % M2) = 1 := by
  have hn : ¬ M2 ∣ a := hp.not_dvd_lt (by omega) h9
  rcases half_power hp e hn with g | g
  · rw [g]; exact sgn_low hM
  · rw [g, sgn_neg e (by omega) (by omega)]; exact sgn_low hM
theorem sgn_exp {M M2 a : Nat} (hp : IsP M2) (e : M2 = 2 * M + 1) (hM : 1 ≤ M) (h0 : a ≠ 0) (h9 : a < M2) (k : Nat) : sgn M M2 (a ^ k % M2) = sgn M M2 (a ^ (k % M) % M2) := by
  have h1 : a ^ k = (a ^ M) ^ (k / M) * a ^ (k % M) := by rw [← Nat.pow_mul, ← Nat.pow_add, Nat.div_add_mod]
  have hs := sgn_half hp e hM h0 h9
  have h2 : sgn M M2 ((a ^ M) ^ (k / M) % M2) = 1 := by
    rw [Nat.pow_mod, ← sgn_pow e hM (Nat.mod_lt _ (by omega)), hs, Nat.one_pow, Nat.mod_eq_of_lt (by omega)]
    exact sgn_low hM
  rw [h1, Nat.mul_mod, ← sgn_mul e (Nat.mod_lt _ (by omega)) (Nat.mod_lt _ (by omega)), h2, Nat.one_mul]
  have h3 := sgn_le (M := M) e (Nat.mod_lt (a ^ (k % M)) (show M2 > 0 by omega))
  rw [Nat.mod_eq_of_lt (by omega)]
  exact sgn_low h3
theorem sgn_pos {M M2 c : Nat} (e : M2 = 2 * M + 1) (h0 : c ≠ 0) (h : c < M2) : sgn M M2 c ≠ 0 := by unfold sgn; split <;> omega
section
variable {z : Int} {G : Array Value} {S Wd M low one sq Ri Wd2 M2 low2 one2 sq2 Ri2 : Nat}
theorem scal_call (k : KD z G S Wd M low one sq Ri Wd2 M2 low2 one2 sq2 Ri2) (w : World) (s : ByteArray) : Calls Tryz.prog 14 #[.int .i64 z, .string s] w fun e w' => e = .returned (.bool (isSc S M s)) ∧ Below w.heap.size w w' :=
  scalar_face (c := if isSc S M s then 0 else 6) (by cases isSc S M s <;> rfl) (fun W cp hc => on57_58 hc k.hG k.hi k.h1 k.CG (fun W g hI hc => clos58 hc (fun W' hb => scalarA ((k.gh W g hI).of_below hb) s k.hS k.big)))
theorem num_call (k : KD z G S Wd M low one sq Ri Wd2 M2 low2 one2 sq2 Ri2) (w : World) (n : Int) (n1 : -9223372036854775808 ≤ n) (n2 : n ≤ 9223372036854775807) : Calls Tryz.prog 99 #[.int .i64 z, .int .i64 n] w fun e w' => e = .returned (.tuple #[.string (TX S (numF M n)), .int .i64 0]) ∧ Below w.heap.size w w' :=
  number_face (fun W cp hc => on48_52 hc k.hG k.hi k.h1 k.CG (fun W g hI hc => clos52 hc (fun W' hb => fnumberA ((k.gh W g hI).of_below hb).fs k.fl n n1 n2) (fun W' hb => toldA ((k.gh W g hI).of_below hb).c k.hS (Nat.lt_trans (numF_lt k.m2) k.big))))
theorem size_call (k : KD z G S Wd M low one sq Ri Wd2 M2 low2 one2 sq2 Ri2) (w : World) : Calls Tryz.prog 70 #[.int .i64 z] w fun e w' => e = .returned (.tuple #[.int .i64 (S : Int), .int .i64 (S : Int), .int .i64 0]) ∧ Below w.heap.size w w' :=
  sizes_call (on46_ok k.hG k.hi k.h1 k.CG (fun W g h => sizes_any (k.gh W g h).c))
theorem numF_nat {M k : Nat} (h : k < M) : numF M (k : Int) = k := by
  unfold numF
  rw [if_neg (by omega), Int.toNat_natCast, Nat.mod_eq_of_lt h]
theorem zero_call (k : KD z G S Wd M low one sq Ri Wd2 M2 low2 one2 sq2 Ri2) (w : World) : Calls Tryz.prog 99 #[.int .i64 z, .int .i64 0] w fun e w' => e = .returned (.tuple #[.string (TX S 0), .int .i64 0]) ∧ Below w.heap.size w w' := by
  have q := num_call k w 0 (by omega) (by omega)
  rw [show (0 : Int) = ((0 : Nat) : Int) from rfl, numF_nat (by have := k.m2; omega)] at q
  exact q
theorem KD.sc (k : KD z G S Wd M low one sq Ri Wd2 M2 low2 one2 sq2 Ri2) {n : Nat} (h : n < M) : isSc S M (TX S n) = true := isSc_TX h k.sz
theorem KD.nu (k : KD z G S Wd M low one sq Ri Wd2 M2 low2 one2 sq2 Ri2) {n : Nat} (h : n < M) : numS (TX S n) = n := numS_TX (Nat.lt_of_lt_of_le h k.sz)
theorem memb_call (k : KD z G S Wd M low one sq Ri Wd2 M2 low2 one2 sq2 Ri2) (w : World) (s : ByteArray) : Calls Tryz.prog 16 #[.int .i64 z, .string s] w fun e w' => e = .returned (.bool (isEl S M s)) ∧ Below w.heap.size w w' :=
  member_face (c := if isEl S M s then 0 else 7) (by cases isEl S M s <;> rfl) (fun W cp hc => on57_60 hc k.hG k.hi k.h1 k.CG (fun W g hI hc => clos60 hc (fun W' hb => elemA ((k.gh W g hI).of_below hb) s k.hS k.big)))
theorem KD.e2 (k : KD z G S Wd M low one sq Ri Wd2 M2 low2 one2 sq2 Ri2) {n : Nat} (h : n ≤ M) : n < M2 := by have := k.m21; omega
theorem KD.ee (k : KD z G S Wd M low one sq Ri Wd2 M2 low2 one2 sq2 Ri2) (hs : M < 256 ^ S) {n : Nat} (h0 : n ≠ 0) (h : n ≤ M) : isEl S M (TX S n) = true := decide_eq_true ⟨size_TX S n, by rw [numS_TX (Nat.lt_of_le_of_lt h hs)]; exact h0, by rw [numS_TX (Nat.lt_of_le_of_lt h hs)]; exact h⟩
theorem KD.en (k : KD z G S Wd M low one sq Ri Wd2 M2 low2 one2 sq2 Ri2) (hs : M < 256 ^ S) {n : Nat} (h : n ≤ M) : numS (TX S n) = n := numS_TX (Nat.lt_of_le_of_lt h hs)
theorem as_EX {S M : Nat} {a : ByteArray} (h : isEl S M a = true) : ∃ A, A ≠ 0 ∧ A ≤ M ∧ a = TX S A := ⟨numS a, isEl_pos h, isEl_le h, (TX_numS (isEl_size h)).symm⟩
theorem SAt.two {W : World} {b : Nat} {x y : ByteArray} (h : IHolds W b 9 [.string x, .string y]) : SAt W (some ⟨b, 0, none⟩) [x, y] := by
  intro i hi
  refine ⟨b, 0, rfl, ?_⟩
  match i, hi with
  | 0, _ => exact h.cell 0 (by simp)
  | 1, _ => exact h.cell 1 (by simp)


/-- An element, of a number that is not 0 modulo the prime. -/
def E (M M2 x : Nat) : Nat := sgn M M2 (x % M2)
theorem E_mod {M M2 x y : Nat} (h : x % M2 = y % M2) : E M M2 x = E M M2 y := by unfold E; rw [h]
theorem n2 {M M2 : Nat} (hp : IsP M2) (hq : IsP M) (e : M2 = 2 * M + 1) : ¬ M2 ∣ 2 := hp.not_dvd_lt (by omega) (by have := hq.1; omega)
/-! What is hidden comes out, and that alone. -/
/-- An element's text. -/
def EX (S M M2 x : Nat) : ByteArray := TX S (E M M2 x)
/-- What a kind's primes are. -/
structure PK (S M M2 : Nat) : Prop where
  hp : IsP M2
  hq : IsP M
  e2 : M2 = 2 * M + 1
  hs : M < 256 ^ S
theorem PK.m1 {S M M2 : Nat} (h : PK S M M2) : 2 ≤ M := h.hq.1
theorem PK.ml {S M M2 : Nat} (h : PK S M M2) (x : Nat) : x % M2 < M2 := Nat.mod_lt _ (by have := h.e2; omega)
theorem PK.sl {S M M2 : Nat} (h : PK S M M2) (x : Nat) : E M M2 x ≤ M := sgn_le h.e2 (h.ml x)
theorem PK.sp {S M M2 : Nat} (h : PK S M M2) {x : Nat} (hx : ¬ M2 ∣ x) : E M M2 x ≠ 0 := sgn_pos h.e2 (fun q => hx (Nat.dvd_of_mod_eq_zero q)) (h.ml x)
theorem PK.n2 {S M M2 : Nat} (h : PK S M M2) : ¬ M2 ∣ 2 := Go.Proofs.YtmpiipcllgjhdaaGreatDoor.n2 h.hp h.hq h.e2
theorem PK.two {S M M2 : Nat} (h : PK S M M2) : EX S M M2 2 = TX S 2 := by
  have := h.m1
  have := h.e2
  unfold EX E
  rw [Nat.mod_eq_of_lt (by omega), sgn_low h.m1]
theorem POW (k : KD z G S Wd M low one sq Ri Wd2 M2 low2 one2 sq2 Ri2) (h : PK S M M2) {x t : Nat} (hx : ¬ M2 ∣ x) (ht : t < M) (W : World) :
    Calls Tryz.prog 17 #[.int .i64 z, .string (EX S M M2 x), .string (TX S t)] W fun e w' => e = .returned (.tuple #[.string (EX S M M2 (x ^ t)), .int .i64 0]) ∧ Below W.heap.size W w' := by
  have q := power_yes k W (k.ee h.hs (h.sp hx) (h.sl x)) (k.sc ht)
  rw [k.en h.hs (h.sl x), k.nu ht] at q
  have e : sgn M M2 (E M M2 x ^ t % M2) = E M M2 (x ^ t) := by
    unfold E
    rw [sgn_pow h.e2 (by have := h.m1; omega) (h.ml x), ← Nat.pow_mod]
  rw [e] at q
  exact q
theorem PRO (k : KD z G S Wd M low one sq Ri Wd2 M2 low2 one2 sq2 Ri2) (h : PK S M M2) {x y a b : Nat} (hx : ¬ M2 ∣ x) (hy : ¬ M2 ∣ y) (ha : a < M) (hb : b < M) (W : World) (b1 b2 : Nat)
    (h1 : IHolds W b1 9 [.string (EX S M M2 x), .string (EX S M M2 y)]) (h2 : IHolds W b2 9 [.string (TX S a), .string (TX S b)]) :
    Calls Tryz.prog 125 #[.int .i64 z, .slice (some ⟨b1, 0, none⟩) 2 2, .slice (some ⟨b2, 0, none⟩) 2 2] W fun e w' => e = .returned (.tuple #[.string (EX S M M2 (x ^ a * y ^ b)), .int .i64 0]) ∧ Below W.heap.size W w' := by
  have q := prod_yes k W (n := 2) (cx := 2) (cn := 2) (SAt.two h1) (SAt.two h2) rfl rfl (by omega)
  have ex := k.ee h.hs (h.sp hx) (h.sl x)
  have ey := k.ee h.hs (h.sp hy) (h.sl y)
  have ec : code S M [EX S M M2 x, EX S M M2 y] [TX S a, TX S b] = 0 := by simp [code, EX, ex, ey, k.sc ha, k.sc hb]
  have et : prodT S M M2 [EX S M M2 x, EX S M M2 y] [TX S a, TX S b] = EX S M M2 (x ^ a * y ^ b) := by
    rw [prodT, ec, if_pos rfl]
    have en : powP (nums [EX S M M2 x, EX S M M2 y]) (nums [TX S a, TX S b]) [EX S M M2 x, EX S M M2 y].length = E M M2 x ^ a * E M M2 y ^ b := by
      simp [nums, powP, EX, k.en h.hs (h.sl x), k.en h.hs (h.sl y), k.nu ha, k.nu hb]
    rw [en]
    have M1 : 1 ≤ M := by have := h.m1; omega
    have e : sgn M M2 (E M M2 x ^ a * E M M2 y ^ b % M2) = E M M2 (x ^ a * y ^ b) := by
      have ep : ∀ u c, sgn M M2 (E M M2 u ^ c % M2) = sgn M M2 (u ^ c % M2) := fun u c => by unfold E; rw [sgn_pow h.e2 M1 (h.ml u), ← Nat.pow_mod]
      rw [Nat.mul_mod, ← sgn_mul h.e2 (h.ml _) (h.ml _), ep x a, ep y b, sgn_mul h.e2 (h.ml _) (h.ml _), ← Nat.mul_mod]
      rfl
    rw [e]
    rfl
  rw [ec, et] at q
  exact q
theorem elE (k : KD z G S Wd M low one sq Ri Wd2 M2 low2 one2 sq2 Ri2) (h : PK S M M2) {x : Nat} (hx : ¬ M2 ∣ x) : isEl S M (EX S M M2 x) = true := k.ee h.hs (h.sp hx) (h.sl x)
theorem MUL (k : KD z G S Wd M low one sq Ri Wd2 M2 low2 one2 sq2 Ri2) {a b : Nat} (ha : a < M) (hb : b < M) (W : World) :
    Calls Tryz.prog 124 #[.int .i64 z, .string (TX S a), .string (TX S b)] W fun e w' => e = .returned (.tuple #[.string (TX S (a * b % M)), .int .i64 0]) ∧ Below W.heap.size W w' := by
  have q := mul_yes k W (k.sc ha) (k.sc hb)
  rw [k.nu ha, k.nu hb] at q
  exact q
theorem SUB (k : KD z G S Wd M low one sq Ri Wd2 M2 low2 one2 sq2 Ri2) {a b : Nat} (ha : a < M) (hb : b < M) (W : World) :
    Calls Tryz.prog 100 #[.int .i64 z, .string (TX S a), .string (TX S b)] W fun e w' => e = .returned (.tuple #[.string (TX S ((a + M - b) % M)), .int .i64 0]) ∧ Below W.heap.size W w' := by
  have q := sub_yes k W (k.sc ha) (k.sc hb)
  rw [k.nu ha, k.nu hb] at q
  exact q
theorem pk1 : PK 2 641 1283 := ⟨prime_p1, prime_q1, by decide +kernel, by decide +kernel⟩
theorem pk2 : PK 8 576465431670292481 1152930863340584963 := ⟨prime_p2, prime_q2, by decide +kernel, by decide +kernel⟩
theorem pk3 : PK 32 7237005577332262213973186563042995786902308146886443998308627866733439352833 14474011154664524427946373126085991573804616293772887996617255733466878705667 := ⟨prime_p3, prime_q3, by decide +kernel, by decide +kernel⟩
end
end Go.Proofs.YtmpiipcllgjhdaaGreatDoor
namespace Go.Proofs.YtmpiipcllgjhdaaGreatDoor
open Go.RowKit Go.Deep Go.PlainAid

section
variable {z : Int} {G : Array Value} {S Wd M low one sq Ri Wd2 M2 low2 one2 sq2 Ri2 : Nat}
/-- What is said first. -/
def fs (S M M2 A : Nat) (m : List ByteArray) : List (List ByteArray) := m.map fun s => [EX S M M2 (2 ^ numS s), EX S M M2 (A ^ numS s)]
theorem isSc_TX' {S M : Nat} {s : ByteArray} (h : isSc S M s = true) : s = TX S (numS s) := (TX_numS (isSc_size h)).symm
theorem WRO (k : KD z G S Wd M low one sq Ri Wd2 M2 low2 one2 sq2 Ri2) {w : World} {a b : Option Addr} {n c d : Nat} {m : List ByteArray} {t : Bool} (hn : m.length = n) (h64 : n ≤ 64) (hm : SL w b m) (ht : m.all (isSc S M) = t) (W : World) (hB : Below w.heap.size w W) :
    Calls Tryz.prog 41 #[.agg #[.int .i64 z, .slice a n c], .slice b n d] W fun e w' => e = .returned (.int .i64 (if t then 0 else 6)) ∧ Below W.heap.size W w' := by
  subst hn
  refine wrong43 (fun V hV => ?_)
  rw [← ht]
  exact scalars84 (isSc S M) (by omega) ((hm.of_below hB).of_below hV) (fun s X => noScalar k s X)
end
end Go.Proofs.YtmpiipcllgjhdaaGreatDoor
namespace Go.Proofs.YtmpiipcllgjhdaaGreatDoor
open Go.RowKit Go.Deep Go.PlainAid

section
variable {z : Int} {G : Array Value} {S Wd M low one sq Ri Wd2 M2 low2 one2 sq2 Ri2 : Nat}
theorem el_EX {S M M2 : Nat} (h : PK S M M2) {b : ByteArray} (hb : isEl S M b = true) : EX S M M2 (numS b) = b := by
  have := h.e2
  have := isEl_le hb
  unfold EX E
  rw [Nat.mod_eq_of_lt (by omega), sgn_low (isEl_le hb), TX_numS (isEl_size hb)]
theorem el_nd {S M M2 : Nat} (h : PK S M M2) {b : ByteArray} (hb : isEl S M b = true) : ¬ M2 ∣ numS b := fun hd => by
  have h1 := Nat.le_of_dvd (Nat.pos_of_ne_zero (isEl_pos hb)) hd
  have := isEl_le hb
  have := h.e2
  omega
/-- What Back gives: every base to the answer, times its image to the challenge's opposite. -/
def bkG (S M M2 less : Nat) (l : List Cl) (m : List ByteArray) : List (List ByteArray) := List.zipWith (fun t s => List.zipWith (fun b i => EX S M M2 (numS b ^ numS s * numS i ^ less)) t.1 t.2) l m
/-- What Firsts gives. -/
def fsG (S M M2 : Nat) (l : List Cl) (m : List ByteArray) : List (List ByteArray) := List.zipWith (fun t s => t.1.map fun b => EX S M M2 (numS b ^ numS s)) l m
theorem SETG (k : KD z G S Wd M low one sq Ri Wd2 M2 low2 one2 sq2 Ri2) {l : List Cl} (ok : OkC (isEl S M) l) {w : World} {a : Option Addr} {c : Nat} (hs : CM w a l) (W : World) (hB : Below w.heap.size w W) :
    Calls Tryz.prog 18 #[.int .i64 z, .slice a l.length c] W fun e w' => e = .returned (.tuple #[.agg #[.int .i64 z, .slice a l.length c], .int .i64 0]) ∧ Below W.heap.size W w' :=
  setOf42 (fun V => groundOf_yes k V) (fun V hV => set83 ok ((hs.of_below hB).of_below hV) (fun s X => noElem133 (fun Y => memb_call k Y s)))
theorem FIRG (k : KD z G S Wd M low one sq Ri Wd2 M2 low2 one2 sq2 Ri2) (h : PK S M M2) {l : List Cl} (ok : OkC (isEl S M) l) {w : World} {a b : Option Addr} {c d : Nat} {m : List ByteArray} (hs : CM w a l) (hm : SL w b m) (hml : m.length = l.length) (hsc : m.all (isSc S M) = true) (W : World) (hW : Below w.heap.size w W) :
    Calls Tryz.prog 47 #[.agg #[.int .i64 z, .slice a l.length c], .slice b l.length d] W fun e w' => (∃ a' c', e = .returned (.slice a' l.length c') ∧ SLL w' a' (fsG S M M2 l m)) ∧ Below W.heap.size W w' := by
  have h64 := ok.most
  refine firsts46_any (fun V hV hI => ?_)
  have q := both86_90 (w := V) (c := c) (d := d) (g := W.heap.size) (q := fsG S M M2 l m) h64 hml (by simp [fsG]; omega) ((hs.of_below hW).of_below hV) ((hm.of_below hW).of_below hV) (fun i h1 h2 h3 a1 c1 a2 c2 X hX s1 s2 => ?_)
  · rw [hml] at q
    exact q
  · have hsi : isSc S M m[i] = true := List.all_eq_true.1 hsc _ (List.getElem_mem h2)
    have e2 : (fsG S M M2 l m)[i] = (l[i]).1.map fun b => EX S M M2 (numS b ^ numS m[i]) := by simp [fsG]
    have f := ok.few i h1
    have el := ok.el i h1
    rw [e2]
    have hx := isSc_TX' hsi
    have x9 := isSc_lt hsi
    generalize m[i] = s at *
    generalize l[i] = t at *
    rw [List.length_map]
    have q := clos90 (w := X) (z := z) (g := W.heap.size) (a1 := a1) (a2 := a2) (c1 := c1) (c2 := c2) (n2 := t.2.length) (bs := t.1) (q := t.1.map fun b => EX S M M2 (numS b ^ numS s)) (t := s) f.1 (by simp) s1 (cell_keep (hI.cell 0 (by simp)) hX) (fun j j1 j3 Y => ?_)
    · exact q
    · have eb : isEl S M t.1[j] = true := List.all_eq_true.1 el.1 _ (List.getElem_mem j1)
      have pp := fun V => POW k h (x := numS t.1[j]) (t := numS s) (el_nd h eb) x9 V
      rw [← hx, el_EX h eb] at pp
      rw [List.getElem_map]
      exact power92 pp
/-- Holds of a set and as many scalars. -/
theorem HOLG (k : KD z G S Wd M low one sq Ri Wd2 M2 low2 one2 sq2 Ri2) (h : PK S M M2) {l : List Cl} (ok : OkC (isEl S M) l) {w : World} {a b : Option Addr} {c d : Nat} {m : List ByteArray} (hs : CM w a l) (hm : SL w b m) (hml : m.length = l.length) (hsc : m.all (isSc S M) = true) :
    Calls Tryz.prog 7 #[.int .i64 z, .slice a l.length c, .slice b l.length d] w fun e w' => e = .returned (.bool (decide (l.map Prod.snd = fsG S M M2 l m))) ∧ Below w.heap.size w w' := by
  refine holds8 (k := if decide (l.map Prod.snd = fsG S M M2 l m) then 0 else 8) (by cases decide (l.map Prod.snd = fsG S M M2 l m) <;> rfl) (SETG k ok hs) (fun W hW => ?_)
  refine wrongSecrets17 (fun V hV => WRO k hml ok.most (hm.of_below hW) hsc V hV) (fun V hV => ?_)
  refine holds36 (q := fsG S M M2 l m) (fun X hX => FIRG k h ok ((hs.of_below hW).of_below hV) ((hm.of_below hW).of_below hV) hml hsc X hX) (fun X a' c' hX hq => ?_)
  exact equal56 ok.most (fun i hi => by have := ok.few i hi; omega) (by simp [fsG]; omega) (((hs.of_below hW).of_below hV).of_below hX) hq
end
end Go.Proofs.YtmpiipcllgjhdaaGreatDoor
namespace Go.Proofs.YtmpiipcllgjhdaaGreatDoor
open Go.RowKit Go.Deep Go.PlainAid

theorem E_expA {M M2 a k : Nat} (hp : IsP M2) (hq : IsP M) (e : M2 = 2 * M + 1) (ha : ¬ M2 ∣ a) : E M M2 (a ^ k) = E M M2 (a ^ (k % M)) := by
  have m1 := hq.1
  have h1 : ∀ t, E M M2 (a ^ t) = E M M2 ((a % M2) ^ t) := fun t => E_mod (by rw [Nat.pow_mod])
  rw [h1, h1 (k % M)]
  exact sgn_exp hp e (by omega) (fun h => ha (Nat.dvd_of_mod_eq_zero h)) (Nat.mod_lt _ (by omega)) k
theorem E_sameA {M M2 a k l : Nat} (hp : IsP M2) (hq : IsP M) (e : M2 = 2 * M + 1) (ha : ¬ M2 ∣ a) (h : k % M = l % M) : E M M2 (a ^ k) = E M M2 (a ^ l) := by rw [E_expA hp hq e ha, h, ← E_expA hp hq e ha]
theorem E_powE {M M2 x n : Nat} (hq : IsP M) (e : M2 = 2 * M + 1) : sgn M M2 (E M M2 x ^ n % M2) = E M M2 (x ^ n) := by
  have m1 := hq.1
  unfold E
  rw [sgn_pow e (by omega) (Nat.mod_lt _ (by omega)), ← Nat.pow_mod]
end Go.Proofs.YtmpiipcllgjhdaaGreatDoor
namespace Go.Proofs.YtmpiipcllgjhdaaGreatDoor

end Go.Proofs.YtmpiipcllgjhdaaGreatDoor
namespace Go.Proofs.YtmpiipcllgjhdaaGreatDoor.F
open Go.RowKit

/-- A byte as the program holds it; bytes as cells. -/
abbrev Y (x : UInt8) : Value := .int .u8 (x.toNat : Int)
def barr (l : List UInt8) : Array Value := (l.map Y).toArray
theorem barr_size (l : List UInt8) : (barr l).size = l.length := by simp [barr]
theorem barr_get (l : List UInt8) (i : Nat) : (barr l)[i]? = (l[i]?).map Y := by simp [barr]
theorem ylt (x : UInt8) : x.toNat < 256 := x.toNat_lt
/-- A word of four bytes, the lowest first. -/
def w4 (a b c d : UInt8) : UInt32 := UInt32.ofNat (a.toNat + 256 * b.toNat + 65536 * c.toNat + 16777216 * d.toNat)
theorem w4_toNat (a b c d : UInt8) : (w4 a b c d).toNat = a.toNat + 256 * b.toNat + 65536 * c.toNat + 16777216 * d.toNat := by
  have := ylt a
  have := ylt b
  have := ylt c
  have := ylt d
  unfold w4; rw [UInt32.toNat_ofNat']; omega
def wordsL (p : List UInt8) : List UInt32 := (List.range 16).map fun j => w4 (p.getD (4 * j) 0) (p.getD (4 * j + 1) 0) (p.getD (4 * j + 2) 0) (p.getD (4 * j + 3) 0)
theorem wordsL_length (p : List UInt8) : (wordsL p).length = 16 := by simp [wordsL]
/-- So many words of it, the rest zeros. -/
def wordsTo (p : List UInt8) : Nat → List UInt32
  | 0 => List.replicate 16 0
  | i + 1 => (wordsTo p i).set i (w4 (p.getD (4 * i) 0) (p.getD (4 * i + 1) 0) (p.getD (4 * i + 2) 0) (p.getD (4 * i + 3) 0))
theorem wordsTo_length (p : List UInt8) (i : Nat) : (wordsTo p i).length = 16 := by
  induction i with
  | zero => rfl
  | succ i ih => simp [wordsTo, ih]
theorem wordsTo_get (p : List UInt8) : ∀ (i : Nat), i ≤ 16 → ∀ j, j < 16 → (wordsTo p i)[j]? = some (if j < i then w4 (p.getD (4 * j) 0) (p.getD (4 * j + 1) 0) (p.getD (4 * j + 2) 0) (p.getD (4 * j + 3) 0) else 0)
  | 0, _, j, hj => by rw [wordsTo, List.getElem?_replicate, if_pos hj, if_neg (by omega)]
  | i + 1, hi, j, hj => by
    rw [wordsTo, List.getElem?_set]
    by_cases h : i = j
    · subst h
      simp [wordsTo_length, hj]
    · rw [if_neg h, wordsTo_get p i (by omega) j hj]
      by_cases h2 : j < i
      · rw [if_pos h2, if_pos (by omega)]
      · rw [if_neg h2, if_neg (by omega)]
theorem wordsTo_all (p : List UInt8) : wordsTo p 16 = wordsL p := by
  apply List.ext_getElem?
  intro j
  by_cases hj : j < 16
  · rw [wordsTo_get p 16 (by omega) j hj, if_pos hj]
    simp [wordsL, hj]
  · rw [List.getElem?_eq_none (by rw [wordsTo_length]; omega), List.getElem?_eq_none (by rw [wordsL_length]; omega)]

theorem or2 (x y : Nat) (k : Nat) (hx : x < 2 ^ k) (hy : x + 2 ^ k * y < 4294967296) (hk : 2 ^ k ≤ 4294967296) : bits .or .u32 (x : Int) ((2 ^ k * y : Nat) : Int) = ((x + 2 ^ k * y : Nat) : Int) := by
  have h0 : 0 < 2 ^ k := Nat.two_pow_pos k
  rw [u32_or_nat _ _ (by omega) (by omega), Nat.or_comm, or_add _ _ k y rfl hx, Nat.add_comm]
theorem or_w4 (a b c d : UInt8) (B C D : Int) (hB : B = 256 * (b.toNat : Int)) (hC : C = 65536 * (c.toNat : Int)) (hD : D = 16777216 * (d.toNat : Int)) :
    bits .or .u32 (bits .or .u32 (bits .or .u32 (a.toNat : Int) B) C) D = ((w4 a b c d).toNat : Int) := by
  have ha := ylt a
  have hb := ylt b
  have hc := ylt c
  have hd := ylt d
  subst hB hC hD
  have e1 := or2 a.toNat b.toNat 8 (by omega) (by omega) (by omega)
  have e2 := or2 (a.toNat + 2 ^ 8 * b.toNat) c.toNat 16 (by omega) (by omega) (by omega)
  have e3 := or2 (a.toNat + 2 ^ 8 * b.toNat + 2 ^ 16 * c.toNat) d.toNat 24 (by omega) (by omega) (by omega)
  rw [show (256 : Int) * (b.toNat : Int) = ((2 ^ 8 * b.toNat : Nat) : Int) by omega, e1, show (65536 : Int) * (c.toNat : Int) = ((2 ^ 16 * c.toNat : Nat) : Int) by omega, e2, show (16777216 : Int) * (d.toNat : Int) = ((2 ^ 24 * d.toNat : Nat) : Int) by omega, e3, w4_toNat]

/-- Block b is an array of these bytes. -/
def BHolds (w : World) (b : Nat) (t : TypeId) (l : List UInt8) : Prop := w.heap[b]? = some (.cells (barr l) t)
theorem BHolds.lt {w : World} {b : Nat} {t : TypeId} {l : List UInt8} (h : BHolds w b t l) : b < w.heap.size := (Array.getElem?_eq_some_iff.1 h).1
theorem BHolds.cell {w : World} {b : Nat} {t : TypeId} {l : List UInt8} (h : BHolds w b t l) (i : Nat) (hi : i < l.length) : w.cell? ⟨b, i, none⟩ = some (Y (l.getD i 0)) := by
  unfold BHolds at h
  simp [World.cell?, h, barr_get, hi]

theorem mixedW : Tryz.prog.follows .mixedOrders = true := by kernel_rfl
theorem sizeOf5 (w : World) : (sizeOf 5).run Tryz.prog w = .ok 1 w := by
  have h : (Tryz.prog.info? 5).map (·.size) = some 1 := by kernel_rfl
  cases hq : Tryz.prog.info? 5 with
  | none => simp [hq] at h
  | some i =>
    have : i.size = 1 := by simpa [hq] using h
    simp [sizeOf, typeInfo, hq, this]
theorem alen57 : Tryz.prog.arrayLen 174 = 64 := by kernel_rfl
theorem elem57 : Tryz.prog.elem 174 = 5 := by kernel_rfl
/-- A part of an array of 64 bytes. -/
theorem slice57 (b o : Nat) (l h : Int) (lo hi : Nat) (el : l = (lo : Int)) (eh : h = (hi : Int)) (h1 : lo ≤ hi) (h2 : hi ≤ 64) (h3 : lo < 64) (w : World) :
    (Instr.sliceAt 174 (.pointer (some ⟨b, o, none⟩)) (some (.int .i64 l)) (some (.int .i64 h)) none).run Tryz.prog w = .ok (.slice (some ⟨b, o + lo, none⟩) (hi - lo) (64 - lo)) w := by
  subst el eh
  rw [run_sliceAt_array_lh w 174 ⟨b, o, none⟩ (by rw [alen57, elem57]; exact Tryz.underlying174) .i64 .i64 (lo : Int) (hi : Int) (by omega) (by omega) (by rw [alen57]; omega)]
  rw [elem57, sizeOf5, alen57]
  simp only [Result.andThen_ok, slicedAt, Int.toNat_natCast, Nat.mul_one]
  rw [if_neg (by omega), Addr.add_mid]
theorem slice57_from (b o : Nat) (l : Int) (lo : Nat) (el : l = (lo : Int)) (h3 : lo < 64) (w : World) :
    (Instr.sliceAt 174 (.pointer (some ⟨b, o, none⟩)) (some (.int .i64 l)) none none).run Tryz.prog w = .ok (.slice (some ⟨b, o + lo, none⟩) (64 - lo) (64 - lo)) w := by
  subst el
  rw [run_sliceAt_array_l w 174 ⟨b, o, none⟩ (by rw [alen57, elem57]; exact Tryz.underlying174) .i64 (lo : Int) (by omega) (by rw [alen57]; omega)]
  rw [elem57, sizeOf5, alen57]
  simp only [Result.andThen_ok, slicedAt, Int.toNat_natCast, Nat.mul_one]
  rw [if_neg (by omega), Addr.add_mid]
theorem slice57_all (b o : Nat) (w : World) :
    (Instr.sliceAt 174 (.pointer (some ⟨b, o, none⟩)) none none none).run Tryz.prog w = .ok (.slice (some ⟨b, o, none⟩) 64 64) w := by
  rw [run_sliceAt_array_all w 174 ⟨b, o, none⟩ (by rw [alen57, elem57]; exact Tryz.underlying174)]
  rw [elem57, sizeOf5, alen57]
  simp only [Result.andThen_ok, slicedAt, Nat.zero_mul, Nat.sub_zero]
  rw [if_neg (by omega), Addr.add_mid]; rfl

set_option maxRecDepth 100000 in
set_option maxHeartbeats 1000000 in
theorem words_any (p : List UInt8) (hp : p.length = 64) (w : World) :
    Calls Tryz.prog 155 #[.agg (barr p)] w fun e w' => e = .returned (.agg (arr (wordsL p))) ∧ Below w.heap.size w w' := by
  have s1 := arr_size
  have s2 := barr_size
  go_enter Tryz.func155, Tryz.ntmps155
  go_wp2_with fail
  obtain ⟨w2, hw2⟩ : ∃ w2, w2 = ((w.alloc (Obj.cells (barr p) 174)).alloc (Obj.cells (arr (List.replicate 16 0)) 199)).alloc (Obj.cells (arr (List.replicate 16 0)) 199) := ⟨_, rfl⟩
  have a1 : w2.heap[w.heap.size]? = some (.cells (barr p) 174) := by
    rw [hw2, Below.heap_alloc _ _ _ (by simp; omega), Below.heap_alloc _ _ _ (by simp)]
    show (w.heap.push _)[w.heap.size]? = _
    simp
  have a2 : Holds w2 (w.heap.size + 1) 199 (List.replicate 16 0) := by rw [hw2]; have := Holds.new (w.alloc (Obj.cells (barr p) 174)) 199 (List.replicate 16 0); rw [World.size_alloc] at this; exact this.alloc _
  have a3 : Holds w2 (w.heap.size + 1 + 1) 199 (List.replicate 16 0) := by rw [hw2]; have := Holds.new ((w.alloc (Obj.cells (barr p) 174)).alloc (Obj.cells (arr (List.replicate 16 0)) 199)) 199 (List.replicate 16 0); rw [World.size_alloc, World.size_alloc] at this; exact this
  have a4 : Hid (Below w.heap.size w w2) := by rw [hw2]; exact (((Below.refl _ w).alloc (Nat.le_refl _) _).alloc (by simp) _).alloc (by simp; omega) _
  have a5 : Hid (BHolds w2 w.heap.size 174 p) := a1
  clear a1
  change Code.wp _ _ _ _ (((w.alloc (Obj.cells (barr p) 174)).alloc (Obj.cells (arr (List.replicate 16 0)) 199)).alloc (Obj.cells (arr (List.replicate 16 0)) 199))
  rw [← hw2]
  clear hw2
  go_loopg [6] 16 (fun k v wr => ∃ i : Nat, i + k = 16 ∧ v = .int .i64 i ∧ Holds wr (w.heap.size + 1 + 1) 199 (wordsTo p i) ∧ But (w.heap.size + 1 + 1) w2 wr)
  case atStart => exact ⟨0, rfl, rfl, a3, But.refl _ _⟩
  case round =>
    obtain ⟨i, hi, rfl, hv, hb⟩ := hrel
    have hl := wordsTo_length p i
    have hB : Hid (BHolds wr w.heap.size 174 p) := by show _ = _; rw [hb.block _ a5.out.lt (by omega)]; exact a5.out
    by_cases hlt : i < 16
    · have i16 : (i : Int) < 16 := by omega
      have hnx : Hid (wordsTo p (i + 1) = (wordsTo p i).set i (w4 (p.getD (4 * i) 0) (p.getD (4 * i + 1) 0) (p.getD (4 * i + 2) 0) (p.getD (4 * i + 3) 0))) := rfl
      have c0 := hB.out.cell (4 * i) (by omega)
      have c1 := hB.out.cell (4 * i + 1) (by omega)
      have c2 := hB.out.cell (4 * i + 2) (by omega)
      have c3 := hB.out.cell (4 * i + 3) (by omega)
      have d0 := hv.cell i (by omega)
      have f0 := hv.frozen i
      generalize p.getD (4 * i) 0 = x0 at *
      generalize p.getD (4 * i + 1) 0 = x1 at *
      generalize p.getD (4 * i + 2) 0 = x2 at *
      generalize p.getD (4 * i + 3) 0 = x3 at *
      have b0 := ylt x0
      have b1 := ylt x1
      have b2 := ylt x2
      have b3 := ylt x3
      generalize (wordsTo p i).getD i 0 = old at *
      have k0 : IntKind.i64.wrap (4 * (i : Int)) = 4 * (i : Int) := IntWalk.i64_in _ ⟨by omega, by omega⟩
      have k1 : IntKind.i64.wrap (4 * (i : Int) + 4) = 4 * (i : Int) + 4 := IntWalk.i64_in _ ⟨by omega, by omega⟩
      have k2 : (4 * (i : Int)).toNat = 4 * i := by omega
      have k3 : (4 * (i : Int) + 4).toNat = 4 * i + 4 := by omega
      have k4 : (0 : Int) ≤ 4 * (i : Int) := by omega
      have k5 : 4 * (i : Int) + 4 ≤ 64 := by omega
      have k6 : 4 * i + 4 - 4 * i = 4 := by omega
      have hsl := fun w' => slice57 w.heap.size 0 (4 * (i : Int)) (4 * (i : Int) + 4) (4 * i) (4 * i + 4) (by omega) (by omega) (by omega) (by omega) (by omega) w'
      simp only [Nat.zero_add, k6] at hsl
      go_wp2_with fail
      refine wp_region_still_tail 23 mixedW (by kernel_rfl) ?_
      simp only [List.take_succ_cons, List.take_zero, List.drop_succ_cons, List.drop_zero]
      show wpStill _ _ wr.drew _ _ _
      repeat still_step
      refine wpStill_nil ?_
      go_wp2_with fail
      go_roundg (gk - 1)
      case measure => omega
      case rel =>
        refine ⟨i + 1, by omega, by go_num, ?_, (hb.setCell _ _).drew⟩
        rw [hnx.out]
        rw [or_w4 x0 x1 x2 x3 ((x1.toNat : Int) * 256) ((x2.toNat : Int) * 65536) ((x3.toNat : Int) * 16777216) (by omega) (by omega) (by omega)]
        exact hv.set _ _
    · have hid : Hid (i = 16) := by show i = 16; omega
      have hfin : Hid (wordsTo p i = wordsL p) := by show _ = _; rw [hid.out]; exact wordsTo_all p
      generalize wordsTo p i = L at *
      have h1' := hb.holds a2 (by omega)
      have r1 := range_arr hv
      have i23 := hi_arr L hl
      have i23' : (Tryz.prog.info? 199).map (·.size) = some (arr L).size := by rw [size23, arr_size, hl]
      have t23 : wr.there (w.heap.size + 1) 0 (arr L).size := by
        intro j hj
        rw [arr_size, hl] at hj
        rw [Nat.zero_add, h1'.cell j (by simpa using hj), h1'.frozen]
        exact ⟨rfl, rfl⟩
      have o23 := arr_one L
      go_wp2_with (first
        | (refine wpList_load_mid rfl 199 (.tmp 3) rfl (w.heap.size + 1 + 1) 0 rfl (arr L).toList _ r1 Tryz.underlying199 rfl i23 ?_)
        | (refine wpList_store_mid rfl 199 (.tmp 2) (.tmp 40) rfl (w.heap.size + 1) 0 (arr L) rfl rfl t23 i23' o23 ?_))
      refine bodyPost_ret (v := .agg (arr L).toList.toArray) (results_cell Tryz.results155 _ _ (w.heap.size + 1) 0 (arr L).toList _ rfl (World.rangeAt_setCells_same _ _ _ _ (by simpa using t23)) Tryz.underlying199 rfl i23) rfl ⟨?_, ?_⟩
      · rw [← hfin.out]
      · exact Below.setNews (by omega) _ _ _ (a4.out.trans (hb.below a4.out.size (by omega)))
end Go.Proofs.YtmpiipcllgjhdaaGreatDoor.F
namespace Go.Proofs.YtmpiipcllgjhdaaGreatDoor.F
open Go.RowKit

/-- The start. -/
def staL : List UInt32 := [1779033703, 3144134277, 1013904242, 2773480762, 1359893119, 2600822924, 528734635, 1541459225]
/-- All bits turned over. -/
def unot (x : UInt32) : UInt32 := UInt32.ofNat (4294967295 - x.toNat)
/-- The lower and the upper half of a number of 64 bits. -/
def loU (n : Nat) : UInt32 := UInt32.ofNat (n % 4294967296)
def hiU (n : Nat) : UInt32 := UInt32.ofNat (n / 4294967296 % 4294967296)

theorem unot_toNat (x : UInt32) : (unot x).toNat = 4294967295 - x.toNat := by
  have := ult x
  unfold unot; rw [UInt32.toNat_ofNat']; omega
theorem loU_toNat (n : Nat) : (loU n).toNat = n % 4294967296 := by
  unfold loU; rw [UInt32.toNat_ofNat']; omega
theorem hiU_toNat (n : Nat) (h : n < 18446744073709551616) : (hiU n).toNat = n / 4294967296 := by
  unfold hiU; rw [UInt32.toNat_ofNat']; omega
/-- h, then the start: so many words of each. -/
def fillV (h : List UInt32) : Nat → List UInt32
  | 0 => List.replicate 16 0
  | i + 1 => ((fillV h i).set i (h.getD i 0)).set (i + 8) (staL.getD i 0)
theorem fillV_length (h : List UInt32) (i : Nat) : (fillV h i).length = 16 := by
  induction i with
  | zero => rfl
  | succ i ih => simp [fillV, ih]
def mix12 (v : List UInt32) (n : Nat) : List UInt32 := v.set 12 (uxor (v.getD 12 0) (loU n))
def mix13 (v : List UInt32) (n : Nat) : List UInt32 := v.set 13 (uxor (v.getD 13 0) (hiU n))
def mix14 (v : List UInt32) (last : Bool) : List UInt32 := if last = true then v.set 14 (unot (v.getD 14 0)) else v
def mixV (h : List UInt32) (n : Nat) (last : Bool) : List UInt32 := mix14 (mix13 (mix12 (fillV h 8) n) n) last
def outV (h w : List UInt32) : Nat → List UInt32
  | 0 => h
  | i + 1 => (outV h w i).set i (uxor ((outV h w i).getD i 0) (uxor (w.getD i 0) (w.getD (i + 8) 0)))
theorem outV_length (h w : List UInt32) (i : Nat) : (outV h w i).length = h.length := by
  induction i with
  | zero => rfl
  | succ i ih => simp [outV, ih]
/-- Press. -/
def pressL (h m : List UInt32) (n : Nat) (last : Bool) : List UInt32 := outV h (stirs m 10 (mixV h n last)) 8
theorem pressL_length (h m : List UInt32) (n : Nat) (last : Bool) : (pressL h m n last).length = h.length := outV_length ..

/-- The start lies in the program's own variable. -/
structure Starts (w : World) : Prop where
  sta : ∀ i, i < 8 → w.cell? ⟨0, i, none⟩ = some (U (staL.getD i 0))
theorem Starts.of_below {w w' : World} {B : Nat} (h : Starts w) (hb : Below B w w') (h2 : 3 < B) : Starts w' :=
  ⟨fun i hi => by rw [hb.cell (by show 0 < B; omega)]; exact h.sta i hi⟩
theorem Holds.other {w : World} {b : Nat} {t : TypeId} {l : List UInt32} (h : Holds w b t l) {p : Addr} (hp : b ≠ p.block) (x : Value) : Holds (w.setCell p x) b t l := by
  unfold Holds; rw [Below.heap_setCell _ _ _ _ hp]; exact h
theorem Holds.oth {w : World} {b : Nat} {t : TypeId} {l : List UInt32} (h : Holds w b t l) {g : Nat} (hp : b ≠ g) (i : Nat) (x : Value) : Holds (w.setCell ⟨g, i, none⟩ x) b t l := h.other (p := ⟨g, i, none⟩) hp x
theorem Below.own {B : Nat} {u w : World} (h : Below B u w) {g : Nat} (hp : B ≤ g) (i : Nat) (x : Value) : Below B u (w.setCell ⟨g, i, none⟩ x) := h.setCell (p := ⟨g, i, none⟩) hp x
theorem Holds.others {b g : Nat} {t : TypeId} {l : List UInt32} (hp : b ≠ g) : ∀ (vs : List Value) (o : Nat) (w : World), Holds w b t l → Holds (w.setCells g o vs) b t l
  | [], _, _, h => h
  | v :: r, o, _, h => Holds.others hp r (o + 1) _ (h.other (p := ⟨g, o, none⟩) hp v)
theorem Holds.drew {w : World} {b : Nat} {t : TypeId} {l : List UInt32} (h : Holds w b t l) : Holds w.drew b t l := h
end Go.Proofs.YtmpiipcllgjhdaaGreatDoor.F
namespace Go.Proofs.YtmpiipcllgjhdaaGreatDoor.F
open Go.RowKit

/-- A step. -/
structure Stp where
  at_ : Nat
  other : Nat
  more : Int
  turn : Nat
def Stp.ok (s : Stp) : Prop := s.at_ < 16 ∧ s.other < 16 ∧ s.more < 16 ∧ -1 ≤ s.more ∧ s.turn < 32

theorem getD_set_ne (l : List UInt32) (i j : Nat) (x : UInt32) (h : i ≠ j) : (l.set i x).getD j 0 = l.getD j 0 := by simp [List.getD_eq_getElem?_getD, List.getElem?_set, h]
end Go.Proofs.YtmpiipcllgjhdaaGreatDoor.F
